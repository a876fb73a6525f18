/- A number that was made of an integer is the same as itself; the law PathBetween. -/
import Derived.Test.YtflllhodeakpgaaPthM
namespace Go.Proofs.Ytflllhodeakpgaa
open Go.RowKit
set_option maxRecDepth 20000

theorem read_num {f : Ieee.Format} {b : Nat} (h : b % f.signWeight ≤ f.infRung) : ∀ s t, f.read b ≠ .nan s t := by
  intro s t
  unfold Ieee.Format.read
  dsimp only
  split
  · exact fun e => by cases e
  · split
    · exact fun e => by cases e
    · split
      · exact fun e => by cases e
      · omega
theorem order_self {f : Ieee.Format} {b : Nat} (h : b % f.signWeight ≤ f.infRung) : f.order b b = some .eq := by
  unfold Ieee.Format.order
  cases hd : f.read b with
  | number s m e => simp [Ieee.Datum.order]
  | infinity s => simp [Ieee.Datum.order]
  | nan s t => exact absurd hd (read_num h s t)
theorem nearest_mod (f : Ieee.Format) (neg : Bool) (mag : Nat) (place : Int) : f.nearest neg mag place % f.signWeight ≤ f.infRung := by
  have hw : ∀ r, r ≤ f.infRung → f.word neg r % f.signWeight ≤ f.infRung := by
    intro r hr
    have hl := f.infRung_lt
    unfold Ieee.Format.word
    split
    · rw [Nat.add_mod_left, Nat.mod_eq_of_lt (by omega)]; exact hr
    · rw [Nat.mod_eq_of_lt (by omega)]; exact hr
  unfold Ieee.Format.nearest
  dsimp only
  split
  · exact hw 0 (Nat.zero_le _)
  · exact hw _ (Nat.min_le_right _ _)
theorem fOf_self (x : Int) : (FloatKind.f64.format.order (fOf x) (fOf x) == some .eq) = true := by
  rw [show FloatKind.f64.format.order (fOf x) (fOf x) = some .eq from order_self (nearest_mod _ _ _ _)]
  rfl

/-- the two numbers that Between tells -/
theorem bet_cases (xs ys : List Int) : ∃ re im : Nat, ∃ b : Bool, betR xs ys = .tuple #[.complex .f64 re im, .bool b] ∧ (FloatKind.f64.format.order re re == some .eq) = true ∧ (FloatKind.f64.format.order im im == some .eq) = true := by
  unfold betR
  split
  · exact ⟨_, _, _, rfl, fOf_self _, fOf_self _⟩
  · exact ⟨0, 0, _, rfl, by kernel_rfl, by kernel_rfl⟩

set_option maxHeartbeats 1600000 in
theorem betweenLaw_any (w : World) (A B : Option Addr) (n c m d : Nat) (xs ys : List Int) (hA : Its w A n xs) (hB : Its w B m ys) (hn : n ≤ maxLen) (hm : m ≤ maxLen) (hnc : n ≤ c) (hcm : c ≤ maxLen) (hmd : m ≤ d) (hdm : d ≤ maxLen) :
    Calls Try.prog 7 #[.slice A n c, .slice B m d] w (Held w) := by
  have hW := Below.refl w.heap.size w
  have hn' := Lib.hid hn
  have hm' := Lib.hid hm
  have hnc' := Lib.hid hnc
  have hcm' := Lib.hid hcm
  have hmd' := Lib.hid hmd
  have hdm' := Lib.hid hdm
  clear hn hm hnc hcm hmd hdm
  by_cases h5 : (200 : Int) < (n : Int)
  · go_enter Try.func7, Try.ntmps7
    go_wp2_with (go_at_call 11; refine (works_any _).mono ?_; rintro e w1 ⟨rfl, hb⟩)
    go_ret
    exact ⟨rfl, hb⟩
  · by_cases h6 : (200 : Int) < (m : Int)
    · go_enter Try.func7, Try.ntmps7
      go_wp2_with (go_at_call 11; refine (works_any _).mono ?_; rintro e w1 ⟨rfl, hb⟩)
      go_ret
      exact ⟨rfl, hb⟩
    · obtain ⟨re, im, b, hv, o1, o2⟩ := bet_cases xs ys
      have hv' := Lib.hid hv
      clear hv
      cases b
      all_goals
        go_enter Try.func7, Try.ntmps7
        go_wp2_with (first
          | (go_at_call 25; refine (below_draws (between_any _ _ _ _ _ _ _ _ _ hA hB hn'.out hm'.out hnc'.out hcm'.out hmd'.out hdm'.out)).mono ?_; rw [hv'.out]; rintro e w1 ⟨rfl, hb⟩; have hA := hA.below hb; have hB := hB.below hb; have hW := hW.trans (hb.mono hW.size))
          | (go_at_call 26; refine (below_draws (refBetween_any _ _ _ _ _ _ _ _ _ hA hB hn'.out hm'.out hnc'.out hcm'.out hmd'.out hdm'.out)).mono ?_; rw [hv'.out]; rintro e w1 ⟨rfl, hb⟩; have hA := hA.below hb; have hB := hB.below hb; have hW := hW.trans (hb.mono hW.size))
          | (go_at_call 11; refine (works_any _).mono ?_; rintro e w1 ⟨rfl, hb⟩; have hW := hW.trans (hb.mono hW.size)))
        go_ret
        exact ⟨rfl, hW⟩
end Go.Proofs.Ytflllhodeakpgaa
