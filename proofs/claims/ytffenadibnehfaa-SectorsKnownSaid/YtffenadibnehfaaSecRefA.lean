/- The document's sector: bytes, and noughts. -/
import Derived.Test.YtffenadibnehfaaBaseBytes
import Derived.Lib.AppendStr
namespace Go.Proofs.Ytffenadibnehfaa
open Go.RowKit

/-- a sector's bytes -/
def secL (b : List UInt8) : List UInt8 := b ++ List.replicate (128 - b.length) 0
theorem secL_len {b : List UInt8} (h : b.length ≤ 128) : (secL b).length = 128 := by
  unfold secL
  rw [List.length_append, List.length_replicate]
  omega
def lenOf : Value → Nat
  | .slice _ n _ => n
  | _ => 0
theorem own_str {base : Nat} {w : World} {v : Value} {b : List UInt8} (h : w.ownsRow base 5 1 v (0 + (⟨b.toArray⟩ : ByteArray).size) ([] ++ Lib.strCells ⟨b.toArray⟩)) : OwnB base w v b := by
  have e : Lib.strCells (⟨b.toArray⟩ : ByteArray) = b.map byteV := by simp [Lib.strCells, byteV]
  unfold OwnB
  rw [Nat.zero_add, List.nil_append, e] at h
  exact h

set_option maxRecDepth 20000 in
set_option maxHeartbeats 600000 in
theorem sector_any (b : List UInt8) (w : World) (hb : b.length ≤ 128) :
    Calls Try.prog 25 #[.string ⟨b.toArray⟩] w fun e w' => e = .returned (.string ⟨(secL b).toArray⟩) ∧ Below w.heap.size w w' := by
  obtain ⟨i0, hi, hz0, hz1, hz2⟩ := info_parts Try.info5
  have hi' := Lib.hid hi
  have hz0' := Lib.hid hz0
  have hz1' := Lib.hid hz1
  have hz2' := Lib.hid hz2
  have hsz : (⟨b.toArray⟩ : ByteArray).size ≤ 128 := hb
  clear hi hz0 hz1 hz2
  go_enter Try.func25, Try.ntmps25
  go_wp2_with (at_builtin; refine Lib.wpList_append_own_string _ rfl (.tmp 4) (.tmp 5) 29 9 rfl w.heap.size 5 i0 Try.underlying29 Try.underlying9 hi'.out hz0'.out hz1'.out hz2'.out _ 0 [] rfl (World.ownsRow_nil _ _ _ _) ⟨b.toArray⟩ rfl (by unfold maxLen; omega) (by omega) (Nat.le_refl _) ?_; intro v1 w1 ho1 hg1 _)
  have ho := Lib.hid (own_str ho1)
  have hb1 : Below w.heap.size w w1 := Below.grown (Below.refl _ _) hg1 (Nat.le_refl _) (fun k hk => by cases hk)
  clear ho1 hg1
  go_loopw [3] (fun v wr => ∃ k : Nat, k ≤ 128 - b.length ∧ OwnB w.heap.size wr v (b ++ List.replicate k 0) ∧ Below w.heap.size w wr) (fun v _ => 128 - lenOf v)
  case atStart => exact ⟨0, Nat.zero_le _, by rw [List.replicate_zero, List.append_nil]; exact ho.out, hb1⟩
  case round =>
    clear hb1 ho hsz
    obtain ⟨k, hk, hown, hbel⟩ := hrel
    have hlen : (b ++ List.replicate k (0 : UInt8)).length = b.length + k := by rw [List.length_append, List.length_replicate]
    obtain ⟨A, n, c, rfl, hn, hnc, hcm, hB, _⟩ := hown.shape_n (by rw [hlen]; unfold maxLen; omega)
    rw [hlen] at hn
    have hz := hbel.size
    have hown' := Lib.hid hown
    have hlen' := Lib.hid hlen
    have hB' := Lib.hid hB
    clear hown hlen hB hcm hnc
    by_cases hlt : n < 128
    · have hn' := Lib.hid hn
      clear hn
      go_wp2_with (at_builtin; refine wpList_append_bytes rfl (.tmp 10) (.tmp 11) rfl w.heap.size _ (b ++ List.replicate k 0) [0] rfl (hown'.out.alloc _) _ 1 1 rfl (Bts.of_block (heap_alloc_new wr _) rfl rfl) (by intro e; cases e) (by rw [hlen'.out]; simp only [List.length_cons, List.length_nil]; omega) (by simp; omega) ?_; intro v2 w2 ho2 hg2 hat2)
      have hb2 : Below w.heap.size w w2 := Below.grown (hbel.alloc hz _) hg2 (by simp; omega) (fun j hj => (World.ownsRow.lt hown'.out j hj).1)
      have hx : OwnB w.heap.size w2 v2 (b ++ List.replicate (k + 1) 0) := by
        rw [List.replicate_succ', ← List.append_assoc]
        exact ho2
      obtain ⟨A2, n2, c2, hv2, hn2, _⟩ := hx.shape_n (by rw [List.length_append, List.length_replicate]; unfold maxLen; omega)
      go_roundw
      case rel => exact ⟨k + 1, by have := hn'.out; omega, hx, hb2⟩
      case measure =>
        rw [hv2]
        rw [List.length_append, List.length_replicate] at hn2
        have := hn'.out
        simp only [lenOf]
        omega
    · have e : b ++ List.replicate k (0 : UInt8) = secL b := by
        unfold secL
        rw [show k = 128 - b.length by omega]
      have hr := run_str wr A n c _ hB'.out
      rw [e] at hr
      clear hn e
      go_wp2_with fail
      go_ret
      exact ⟨rfl, hbel⟩
end Go.Proofs.Ytffenadibnehfaa
