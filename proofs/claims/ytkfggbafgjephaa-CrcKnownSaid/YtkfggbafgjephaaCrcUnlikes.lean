/- CrcUnlikes: on any four numbers and any row of bytes the law returns true, and turns nothing that was there. -/
import Derived.Test.YtkfggbafgjephaaCrcOwn
namespace Go.Proofs.Ytkfggbafgjephaa
open Go.RowKit

theorem four_take (x k : Nat) (hk : k < 4) : (four x).take (k + 1) = (four x).take k ++ [UInt8.ofNat (x / 2 ^ (8 * k))] := by
  have h : k = 0 ∨ k = 1 ∨ k = 2 ∨ k = 3 := by omega
  rcases h with rfl | rfl | rfl | rfl <;> simp [four]
theorem byte_of (x : Nat) : ((UInt8.ofNat x).toNat : Int) = (x : Int) % 256 := by
  rw [UInt8.toNat_ofNat']
  omega
theorem eq_of_iff {a b c d : Nat} (h : a = b ↔ c = d) : (((a : Int) == (b : Int)) == ((c : Int) == (d : Int))) = true := by
  rw [beq_iff_eq, Bool.eq_iff_iff, beq_iff_eq, beq_iff_eq]
  omega

theorem byte_cell (x k : Nat) : #[Value.int .u8 ((x : Int) / 2 ^ (8 * k) % 256)] = (([UInt8.ofNat (x / 2 ^ (8 * k))] : List UInt8).map fun c => Value.int .u8 (c.toNat : Int)).toArray := by
  have e : (x : Int) / 2 ^ (8 * k) = ((x / 2 ^ (8 * k) : Nat) : Int) := by rw [Int.natCast_ediv, Int.natCast_pow]; rfl
  simp only [List.map_cons, List.map_nil, byte_of, e]
theorem four_len (x k : Nat) : ((four x).take k).length ≤ 4 := by rw [List.length_take]; exact Nat.min_le_right k 4
/-- two rows of the call's own that share no block -/
def Two (base : Nat) (w : World) (p q : Value) (xs ys : List UInt8) : Prop :=
  OwnB base w p xs ∧ OwnB base w q ys ∧ (p.ownBlock = none ∨ p.ownBlock ≠ q.ownBlock)
theorem Two.first {base : Nat} {w w' : World} {p q p' : Value} {xs ys xs' : List UInt8} (h : Two base w p q xs ys) (ho : OwnB base w' p' xs') (hg : w.grownBy w' p.ownBlock) (hat : p'.ownBlock = p.ownBlock ∨ p'.ownBlock = some w.heap.size) :
    Two base w' p' q xs' ys := by
  refine ⟨ho, h.2.1.kept hg ?_, ?_⟩
  · rcases h.2.2 with h0 | h0
    · rw [h0]
      cases q.ownBlock <;> simp
    · exact .inr fun e => h0 e.symm
  · rcases hat with e | e
    · rw [e]; exact h.2.2
    · rw [e]
      refine .inr fun e2 => ?_
      have := (World.ownsRow.lt h.2.1 _ e2.symm).2
      omega
theorem Two.swap {base : Nat} {w : World} {p q : Value} {xs ys : List UInt8} (h : Two base w p q xs ys) : Two base w q p ys xs := by
  refine ⟨h.2.1, h.1, ?_⟩
  rcases h.2.2 with h0 | h0
  · rw [h0]
    cases q.ownBlock <;> simp
  · exact .inr fun e => h0 e.symm
theorem Two.alloc {base : Nat} {w : World} {p q : Value} {xs ys : List UInt8} (h : Two base w p q xs ys) (o : Obj) : Two base (w.alloc o) p q xs ys := ⟨h.1.alloc o, h.2.1.alloc o, h.2.2⟩

set_option maxHeartbeats 1000000 in
theorem unlikes_any (m n : Nat) (A : Option Addr) (l c : Nat) (bs : List UInt8) (x y : Nat) (w : World) (hm : m < 4294967296) (hn : n < 4294967296) (hx : x < 4294967296) (hy : y < 4294967296) (hB : Bts w A l bs) (hl : l ≤ maxLen) :
    Calls Try.prog 7 #[.int .u32 (m : Int), .int .u32 (n : Int), .slice A l c, .int .u32 (x : Int), .int .u32 (y : Int)] w fun e w' => e = .returned (.bool true) ∧ Below w.heap.size w w' := by
  by_cases hbig : (1500 : Int) < (l : Int)
  · clear hB
    go_enter Try.func7, Try.ntmps7
    go_wp2_with (go_at_call 10; refine (works_any _).mono ?_; rintro e w' ⟨rfl, hb⟩)
    go_ret
    exact ⟨rfl, hb⟩
  have hB' := Lib.hid hB
  clear hB
  go_enter Try.func7, Try.ntmps7
  go_wp2_with fail
  go_loopw [11, 12, 13] (fun p q i wr => ∃ k : Nat, k ≤ 4 ∧ i = .int .i64 (k : Int) ∧ Two w.heap.size wr p q ((four x).take k) ((four y).take k) ∧ Below w.heap.size w wr) (fun _ _ i _ => 4 - (intOf i).toNat)
  case atStart => exact ⟨0, by omega, rfl, ⟨OwnB.nil_ _ _, OwnB.nil_ _ _, .inl rfl⟩, Below.refl _ _⟩
  case round =>
    obtain ⟨k, hk, rfl, htwo, hbel⟩ := hrel
    by_cases hlt : k < 4
    · have hTx := Lib.hid (four_take x k hlt)
      have hTy := Lib.hid (four_take y k hlt)
      have ht := Lib.hid htwo
      clear htwo
      have hcx := Lib.hid (byte_cell x k)
      have hcy := Lib.hid (byte_cell y k)
      have hsz := hbel.size
      have hlx := Lib.hid (four_len x k)
      have hly := Lib.hid (four_len y k)
      go_wp2_with (first
        | (at_builtin; refine wpList_append_bytes rfl (.tmp 22) (.tmp 28) rfl w.heap.size _ ((four x).take k) [UInt8.ofNat (x / 2 ^ (8 * k))] rfl (ht.out.1.alloc _) _ 1 1 rfl (Bts.of_block (heap_alloc_new wr _) rfl hcx.out) (by intro e; cases e) (by have := hlx.out; simp only [List.length_cons, List.length_nil]; omega) (by simp; omega) ?_; intro p1 w1 ho1 hg1 hat1; have hT1 := Lib.hid ((ht.out.alloc _).first ho1 hg1 hat1); have hz1 : w.heap.size ≤ w1.heap.size := by (have := hg1.size; simp at this; omega))
        | (at_builtin; refine wpList_append_bytes rfl (.tmp 30) (.tmp 36) rfl w.heap.size _ ((four y).take k) [UInt8.ofNat (y / 2 ^ (8 * k))] rfl (hT1.out.2.1.alloc _) _ 1 1 rfl (Bts.of_block (heap_alloc_new w1 _) rfl hcy.out) (by intro e; cases e) (by have := hly.out; simp only [List.length_cons, List.length_nil]; omega) (by simp; omega) ?_; intro q1 w2 ho2 hg2 hat2))
      have hT2 := ((hT1.out.alloc _).swap.first ho2 hg2 hat2).swap
      have hb1 : Below w.heap.size w w1 := Below.grown (hbel.alloc hsz _) hg1 (by simp; omega) (fun j hj => (World.ownsRow.lt ht.out.1 j hj).1)
      have hb2 : Below w.heap.size w w2 := Below.grown (hb1.alloc hz1 _) hg2 (by simp; omega) (fun j hj => (World.ownsRow.lt hT1.out.2.1 j hj).1)
      go_roundw
      case rel => exact ⟨k + 1, by omega, by go_num, by rw [hTx.out, hTy.out]; exact hT2, hb2⟩
      case measure => simp [intOf]; omega
    · obtain rfl : k = 4 := by omega
      have h1 : OwnB w.heap.size wr _ (four x) := htwo.1
      have h2 : OwnB w.heap.size wr _ (four y) := htwo.2.1
      obtain ⟨A3, c3, rfl, _, _, hC, _⟩ := h1.shape (by unfold maxLen; exact (by decide : 4 ≤ 2 ^ 63 - 1))
      obtain ⟨A4, c4, rfl, _, _, hD, _⟩ := h2.shape (by unfold maxLen; exact (by decide : 4 ≤ 2 ^ 63 - 1))
      have hC' : Hid (Bts wr A3 4 (four x)) := Lib.hid hC
      have hD' : Hid (Bts wr A4 4 (four y)) := Lib.hid hD
      have hBr := Lib.hid (hB'.out.below hbel)
      have q1 := eq_of_iff (more_inj bs hm hn)
      have q2 := eq_of_iff (less_inj (x := m) (y := n) bs)
      have q3 := eq_of_iff (more_four hm hx hy)
      have h4 : 4 ≤ maxLen := by unfold maxLen; omega
      clear htwo h1 h2 hC hD
      go_wp2_with fail
      refine (more_any _ _ _ _ bs _ hm hBr.out hl).mono ?_
      rintro e w' ⟨rfl, rfl⟩
      go_wp2_with fail
      refine (more_any _ _ _ _ bs _ hn hBr.out hl).mono ?_
      rintro e w' ⟨rfl, rfl⟩
      go_wp2_with fail
      refine (less_any _ _ _ _ bs _ hm hBr.out hl).mono ?_
      rintro e w' ⟨rfl, rfl⟩
      go_wp2_with fail
      refine (less_any _ _ _ _ bs _ hn hBr.out hl).mono ?_
      rintro e w' ⟨rfl, rfl⟩
      go_wp2_with fail
      refine (more_any _ _ _ _ (four x) _ hm hC'.out h4).mono ?_
      rintro e w' ⟨rfl, rfl⟩
      go_wp2_with fail
      refine (more_any _ _ _ _ (four y) _ hm hD'.out h4).mono ?_
      rintro e w' ⟨rfl, rfl⟩
      go_wp2_with fail
      refine (works_any _).mono ?_
      rintro e w3 ⟨rfl, hb3⟩
      go_wp2_with fail
      go_ret
      exact ⟨rfl, hbel.trans (hb3.mono hbel.size)⟩
end Go.Proofs.Ytkfggbafgjephaa
