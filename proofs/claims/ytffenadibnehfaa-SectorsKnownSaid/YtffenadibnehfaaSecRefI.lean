/- A new disk of the document's. -/
import Derived.Test.YtffenadibnehfaaSecRefH
namespace Go.Proofs.Ytffenadibnehfaa
open Go.RowKit

def newN (s : Int) : Nat := (max 0 (min s 16384)).toNat
def newV (s : Int) : RD := { base := List.replicate (newN s) (secL []), wr := [], armed := false, left := 0, gone := false }
theorem repl_succ (q : Nat) (x : List UInt8) : (List.replicate (q + 1) x).map strV = (List.replicate q x).map strV ++ [strV x] := by
  rw [List.replicate_succ', List.map_append]
  rfl

set_option maxHeartbeats 1600000 in
theorem new_any (w : World) (s : Int) :
    Calls Try.prog 9 #[.int .i64 s] w fun e w' => ∃ X, e = .returned (.pointer (some ⟨X, 0, none⟩)) ∧ RefAt w' w.heap.size X (newV s) ∧ Below w.heap.size w w' := by
  obtain ⟨i0, hi, hz0, hz1, hz2⟩ := info_parts Try.info9
  have hi' := Lib.hid hi
  have hz0' := Lib.hid hz0
  have hz1' := Lib.hid hz1
  have hz2' := Lib.hid hz2
  clear hi hz0 hz1 hz2
  obtain ⟨n, hn⟩ : ∃ n, n = newN s := ⟨_, rfl⟩
  have hn' := Lib.hid hn
  have hn1 : n ≤ 16384 := by rw [hn]; unfold newN; omega
  have hns : ∀ q : Nat, q < n ↔ ((q : Int) < s ∧ (q : Int) < 16384) := by intro q; rw [hn]; unfold newN; omega
  have hns' := Lib.hid hns
  clear hn hns
  obtain ⟨z, hz⟩ : ∃ z, z = secL [] := ⟨_, rfl⟩
  have hsec : ∀ W : World, Calls Try.prog 25 #[.string ⟨#[]⟩] W fun e w' => e = .returned (.string ⟨z.toArray⟩) ∧ Below W.heap.size W w' := by
    rw [hz]
    exact fun W => sector_any [] W (by decide)
  have hz' := Lib.hid hz
  clear hz
  have hb0 : Below w.heap.size w (w.alloc (.cells #[.slice none 0 0, .slice none 0 0, .bool false, .int .i64 0, .bool false] 52 (0, 0))) := (Below.refl _ _).alloc (Nat.le_refl _) _
  have hx0 := heap_alloc_new w (.cells #[.slice none 0 0, .slice none 0 0, .bool false, .int .i64 0, .bool false] 52 (0, 0))
  have hl0 : w.heap.size < (w.alloc (.cells #[.slice none 0 0, .slice none 0 0, .bool false, .int .i64 0, .bool false] 52 (0, 0))).heap.size := by simp
  have hx0' := Lib.hid hx0
  clear hx0
  go_enter Try.func9, Try.ntmps9
  go_wp2_with fail
  refine (hsec _).mono ?_
  rintro e w2 ⟨rfl, hb2⟩
  have hX2 := Lib.hid ((hb2.block w.heap.size hl0).trans hx0'.out)
  have hF2 := Lib.hid (show Fr newTs w.heap.size w w2 from (Fr.of_below hb0).trans (Fr.of_below hb2))
  clear hb0 hl0 hb2 hx0'
  go_wp2_with fail
  go_loopw [5] (fun v wr => ∃ q : Nat, q ≤ n ∧ v = .int .i64 (q : Int) ∧ ∃ bv, wr.heap[w.heap.size]? = some (.cells #[bv, .slice none 0 0, .bool false, .int .i64 0, .bool false] 52 (0, 0)) ∧
      wr.ownsRow w.heap.size 9 1 bv q ((List.replicate q z).map strV) ∧ Fr newTs w.heap.size w wr) (fun v _ => n - (intOf v).toNat)
  case atStart => exact ⟨0, Nat.zero_le _, rfl, .slice none 0 0, hX2.out, World.ownsRow_nil _ _ _ _, hF2.out⟩
  case round =>
    obtain ⟨q, hq, rfl, bv, hX, hown, hF⟩ := hrel
    clear hX2 hF2
    have x0 := cell_of_row wr w.heap.size 0 _ _ _ hX
    have g0 := frozen_of_row wr w.heap.size 0 _ _ hX
    have hXl : w.heap.size < wr.heap.size := (Array.getElem?_eq_some_iff.1 hX).1
    have hX' := Lib.hid hX
    have hown' := Lib.hid hown
    have hF' := Lib.hid hF
    simp at x0
    clear hX hown hF
    by_cases h1 : q < n
    · obtain ⟨h2, h3⟩ := (hns'.out q).1 h1
      go_wp2_with (at_builtin; refine wpList_append_lies _ rfl (.tmp 22) (.tmp 24) 37 rfl w.heap.size 9 i0 _ 1 16 Try.underlying37 hi'.out hz0'.out hz1'.out hz2'.out rfl (by decide) bv q ((List.replicate q z).map strV) rfl ((Fr.of_below (ts := []) (B := 0) (alloc_below (Below.refl _ wr) _)).owns hown'.out (by decide)) ⟨wr.heap.size, 0, none⟩ 1 1 [strV z] rfl rfl (World.news_of_block (cs := #[strV z]) (t := 9) (fr := (0, 0)) (heap_alloc_new wr _)) (by simp [Value.oneCell', strV]) (by decide) (by unfold maxLen; omega) (by omega) (Nat.le_trans (Nat.le_of_lt hXl) (alloc_below (Below.refl _ wr) _).size) _ rfl ?_; intro g cap w3 ho3 hg3 hat hlt3; have hr3 := more_base (Nat.le_refl _) hX'.out ((Fr.of_below (ts := []) (B := 0) (alloc_below (Below.refl _ wr) _)).owns hown'.out (by decide)) hF'.out (alloc_below (Below.refl _ wr) _) hg3 ho3; have x3 := cell_of_row w3 w.heap.size 0 _ _ _ hr3.1; have g3 := frozen_of_row w3 w.heap.size 0 _ _ hr3.1; clear ho3 hg3 hat; have hr4 := Lib.hid hr3.2; clear hr3)
      go_roundw
      case rel => exact ⟨q + 1, by omega, by go_num, _, hr4.out.1, by rw [repl_succ]; exact hr4.out.2.1, hr4.out.2.2⟩
      case measure => simp [intOf]; omega
    · have hqn : q = n := by omega
      have hfin : RefAt wr w.heap.size w.heap.size (newV s) := by
        have hb := hown'.out
        rw [hqn, hn'.out] at hb
        refine ⟨Nat.le_refl _, fun e => (by cases e), bv, .slice none 0 0, hX'.out, ?_, World.ownsRow_nil _ _ _ _⟩
        unfold newV
        show wr.ownsRow w.heap.size 9 1 bv (List.replicate (newN s) (secL [])).length ((List.replicate (newN s) (secL [])).map strV)
        rw [List.length_replicate, ← hz'.out]
        exact hb
      have hfb : Below w.heap.size w wr := by have := hF'.out.below; rwa [Nat.min_self] at this
      have hfin' := Lib.hid hfin
      have hfb' := Lib.hid hfb
      have h2 : ¬ ((q : Int) < s ∧ (q : Int) < 16384) := fun e => h1 ((hns'.out q).2 e)
      clear hfin hfb hqn h1
      by_cases h3 : (q : Int) < s
      · have h4 : ¬ (q : Int) < 16384 := fun e => h2 ⟨h3, e⟩
        clear h2
        go_wp2_with fail
        go_ret
        exact ⟨_, rfl, hfin'.out, hfb'.out⟩
      · clear h2
        go_wp2_with fail
        go_ret
        exact ⟨_, rfl, hfin'.out, hfb'.out⟩
end Go.Proofs.Ytffenadibnehfaa
