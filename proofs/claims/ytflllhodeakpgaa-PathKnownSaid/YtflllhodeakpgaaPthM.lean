/- The laws PathMay, PathTwo, PathBetween. -/
import Derived.Test.YtflllhodeakpgaaPthL
namespace Go.Proofs.Ytflllhodeakpgaa
open Go.RowKit
set_option maxRecDepth 20000

/-- what a law asks at the return -/
def Held (w : World) (e : Ending) (w' : World) : Prop := e = .returned (.bool true) ∧ Below w.heap.size w w'

set_option maxHeartbeats 800000 in
theorem mayLaw_any (w : World) (A : Option Addr) (n c : Nat) (xs : List Int) (hA : Its w A n xs) (hn : n ≤ maxLen) :
    Calls Try.prog 3 #[.slice A n c] w (Held w) := by
  have hA' := Lib.hid hA
  have hn' := Lib.hid hn
  clear hA hn
  by_cases h5 : (500 : Int) < (n : Int)
  · go_enter Try.func3, Try.ntmps3
    go_wp2_with (go_at_call 11; refine (works_any _).mono ?_; rintro e w1 ⟨rfl, hb⟩)
    go_ret
    exact ⟨rfl, hb⟩
  · cases hm : mayV xs
    all_goals
      have hm' := Lib.hid hm
      clear hm
      go_enter Try.func3, Try.ntmps3
      go_wp2_with (first
        | (go_at_call 9; refine (may_any _ _ _ _ _ hA'.out hn'.out).mono ?_; rw [hm'.out]; rintro e w1 ⟨rfl, rfl⟩)
        | (go_at_call 10; refine (refMay_any _ _ _ _ _ hA'.out hn'.out).mono ?_; rw [hm'.out]; rintro e w1 ⟨rfl, rfl⟩)
        | (go_at_call 11; refine (works_any _).mono ?_; rintro e w1 ⟨rfl, hb⟩))
      go_ret
      exact ⟨rfl, hb⟩

set_option maxHeartbeats 1600000 in
theorem twoLaw_any (w : World) (A B : Option Addr) (n c m d : Nat) (xs ys : List Int) (hA : Its w A n xs) (hB : Its w B m ys) (hn : n ≤ maxLen) (hm : m ≤ maxLen) :
    Calls Try.prog 4 #[.slice A n c, .slice B m d] w (Held w) := by
  have hW := Below.refl w.heap.size w
  have hn' := Lib.hid hn
  have hm' := Lib.hid hm
  clear hn hm
  by_cases h5 : (500 : Int) < (n : Int)
  · go_enter Try.func4, Try.ntmps4
    go_wp2_with (go_at_call 11; refine (works_any _).mono ?_; rintro e w1 ⟨rfl, hb⟩)
    go_ret
    exact ⟨rfl, hb⟩
  · by_cases h6 : (500 : Int) < (m : Int)
    · go_enter Try.func4, Try.ntmps4
      go_wp2_with (go_at_call 11; refine (works_any _).mono ?_; rintro e w1 ⟨rfl, hb⟩)
      go_ret
      exact ⟨rfl, hb⟩
    · obtain ⟨k, hk⟩ : ∃ k : Nat, commonV xs ys = k := ⟨_, rfl⟩
      obtain ⟨z, hz⟩ : ∃ z, cmpV xs ys = z := ⟨_, rfl⟩
      have hk' := Lib.hid hk
      have hz' := Lib.hid hz
      clear hk hz
      cases he : eqV xs ys <;> cases hw : withinV xs ys
      all_goals
        have he' := Lib.hid he
        have hw' := Lib.hid hw
        clear he hw
        go_enter Try.func4, Try.ntmps4
        go_wp2_with (first
          | (go_at_call 12; refine (below_draws (same_any _ _ _ _ _ _ _ _ _ hA hB hn'.out)).mono ?_; rw [he'.out]; rintro e w1 ⟨rfl, hb⟩; have hA := hA.below hb; have hB := hB.below hb; have hW := hW.trans (hb.mono hW.size))
          | (go_at_call 13; refine (below_draws (refSame_any _ _ _ _ _ _ _ _ _ hA hB hn'.out hm'.out)).mono ?_; rw [he'.out]; rintro e w1 ⟨rfl, hb⟩; have hA := hA.below hb; have hB := hB.below hb; have hW := hW.trans (hb.mono hW.size))
          | (go_at_call 14; refine (below_draws (within_any _ _ _ _ _ _ _ _ _ hA hB hn'.out hm'.out)).mono ?_; rw [hw'.out]; rintro e w1 ⟨rfl, hb⟩; have hA := hA.below hb; have hB := hB.below hb; have hW := hW.trans (hb.mono hW.size))
          | (go_at_call 15; refine (below_draws (refWithin_any _ _ _ _ _ _ _ _ _ hA hB hn'.out hm'.out)).mono ?_; rw [hw'.out]; rintro e w1 ⟨rfl, hb⟩; have hA := hA.below hb; have hB := hB.below hb; have hW := hW.trans (hb.mono hW.size))
          | (go_at_call 16; refine (below_draws (common_any _ _ _ _ _ _ _ _ _ hA hB hn'.out hm'.out)).mono ?_; rw [hk'.out]; rintro e w1 ⟨rfl, hb⟩; have hA := hA.below hb; have hB := hB.below hb; have hW := hW.trans (hb.mono hW.size))
          | (go_at_call 17; refine (below_draws (refCommon_any _ _ _ _ _ _ _ _ _ hA hB hn'.out hm'.out)).mono ?_; rw [hk'.out]; rintro e w1 ⟨rfl, hb⟩; have hA := hA.below hb; have hB := hB.below hb; have hW := hW.trans (hb.mono hW.size))
          | (go_at_call 18; refine (compare_any _ _ _ _ _ _ _ _ _ hA hB hn'.out).mono ?_; rw [hz'.out]; rintro e w1 ⟨rfl, hb⟩; have hA : Its w1 _ _ _ := hb ▸ hA; have hB : Its w1 _ _ _ := hb ▸ hB; have hW : Below _ _ w1 := hb ▸ hW; clear hb)
          | (go_at_call 19; refine (below_draws (refCompare_any _ _ _ _ _ _ _ _ _ hA hB hn'.out hm'.out)).mono ?_; rw [hz'.out]; rintro e w1 ⟨rfl, hb⟩; have hA := hA.below hb; have hB := hB.below hb; have hW := hW.trans (hb.mono hW.size))
          | (go_at_call 11; refine (works_any _).mono ?_; rintro e w1 ⟨rfl, hb⟩; have hW := hW.trans (hb.mono hW.size)))
        go_ret
        exact ⟨rfl, hW⟩
end Go.Proofs.Ytflllhodeakpgaa
