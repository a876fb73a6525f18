/- The law PathOrder. -/
import Derived.Test.YtflllhodeakpgaaPthN
namespace Go.Proofs.Ytflllhodeakpgaa
open Go.RowKit
set_option maxRecDepth 20000

theorem below_same {P : Program} {f : FuncId} {args : Array Value} {w : World} {v : Value} (h : Calls P f args w fun e w' => e = .returned v ∧ w' = w) :
    Calls P f args w fun e w' => e = .returned v ∧ Below w.heap.size w w' := h.mono fun _ _ ⟨h1, h2⟩ => ⟨h1, by rw [h2]; exact Below.refl _ _⟩
/-- what three rows' orders can be, and what is within what -/
theorem order_cases (p q r : List Int) : ∃ a b c : Int, ∃ u v : Bool, cmpV p q = a ∧ cmpV q r = b ∧ cmpV p r = c ∧ cmpV q p = -a ∧ cmpV r q = -b ∧ cmpV r p = -c ∧ withinV p q = u ∧ withinV p r = v ∧ eqV p q = decide (a = 0) ∧
    (a = -1 ∨ a = 0 ∨ a = 1) ∧ (b = -1 ∨ b = 0 ∨ b = 1) ∧ (c = -1 ∨ c = 0 ∨ c = 1) ∧ (a ≤ 0 → b ≤ 0 → c ≤ 0 ∧ (a < 0 ∨ b < 0 → c < 0)) ∧ (u = true → a ≤ 0) := by
  refine ⟨cmpV p q, cmpV q r, cmpV p r, withinV p q, withinV p r, rfl, rfl, rfl, cmp_turn p q, cmp_turn q r, cmp_turn p r, rfl, rfl, ?_, cmp_range p q, cmp_range q r, cmp_range p r, cmp_on p q r, fun h => cmp_within (of_decide_eq_true h)⟩
  unfold eqV
  rw [decide_eq_decide]
  exact (cmp_same p q).symm

set_option maxHeartbeats 6400000 in
theorem orderLaw_neg (b c : Int) (u v : Bool) (hb3 : b = -1 ∨ b = 0 ∨ b = 1) (hc3 : c = -1 ∨ c = 0 ∨ c = 1) (hon : (-1 : Int) ≤ 0 → b ≤ 0 → c ≤ 0 ∧ ((-1 : Int) < 0 ∨ b < 0 → c < 0)) (hu : u = true → (-1 : Int) ≤ 0)
    (w : World) (A B C : Option Addr) (n c1 m c2 l c3 : Nat) (xs ys zs : List Int) (hA : Its w A n xs) (hB : Its w B m ys) (hC : Its w C l zs) (hn' : Hid (n ≤ maxLen)) (hm' : Hid (m ≤ maxLen)) (hl' : Hid (l ≤ maxLen))
    (h5 : ¬ (300 : Int) < (n : Int)) (h6 : ¬ (300 : Int) < (m : Int)) (h7 : ¬ (300 : Int) < (l : Int))
    (e1 : Hid (cmpV xs ys = -1)) (e2 : Hid (cmpV ys zs = b)) (e3 : Hid (cmpV xs zs = c)) (e4 : Hid (cmpV ys xs = 1)) (e5 : Hid (cmpV zs ys = -b)) (e6 : Hid (cmpV zs xs = -c)) (e7 : Hid (withinV xs ys = u)) (e8 : Hid (withinV xs zs = v)) (e9 : Hid (eqV xs ys = false)) :
    Calls Try.prog 5 #[.slice A n c1, .slice B m c2, .slice C l c3] w (Held w) := by
  have hW := Below.refl w.heap.size w
  obtain ⟨k, ek⟩ : ∃ k : Nat, Hid (commonV xs ys = k) := ⟨_, rfl⟩
  have hw := within_beq (ys := ys) hA.1
  rw [ek.out, e7.out] at hw
  rcases hb3 with rfl | rfl | rfl <;> rcases hc3 with rfl | rfl | rfl <;> cases u <;> cases v
  all_goals first
    | (exfalso; omega)
    | (exfalso; have := hu rfl; omega)
    | (clear hon hu
       go_enter Try.func5, Try.ntmps5
       go_wp2_with (first
         | (go_at_call 18; refine Calls.mono (below_same (compare_any _ _ _ _ _ _ _ _ _ (by first | exact hA | exact hB | exact hC) (by first | exact hA | exact hB | exact hC) (by first | exact hn'.out | exact hm'.out | exact hl'.out))) ?_; (first | rw [e1.out] | rw [e2.out] | rw [e3.out] | rw [e4.out] | rw [e5.out] | rw [e6.out]); rintro e w1 ⟨rfl, hb⟩; have hA := hA.below hb; have hB := hB.below hb; have hC := hC.below hb; have hW := hW.trans (hb.mono hW.size))
         | (go_at_call 12; refine (below_draws (same_any _ A B n c1 m c2 xs ys hA hB hn'.out)).mono ?_; rw [e9.out]; rintro e w1 ⟨rfl, hb⟩; have hA := hA.below hb; have hB := hB.below hb; have hC := hC.below hb; have hW := hW.trans (hb.mono hW.size))
         | (go_at_call 14; refine Calls.mono (below_draws (within_any _ _ _ _ _ _ _ _ _ (by first | exact hA | exact hB | exact hC) (by first | exact hA | exact hB | exact hC) (by first | exact hn'.out | exact hm'.out | exact hl'.out) (by first | exact hn'.out | exact hm'.out | exact hl'.out))) ?_; (first | rw [e7.out] | rw [e8.out]); rintro e w1 ⟨rfl, hb⟩; have hA := hA.below hb; have hB := hB.below hb; have hC := hC.below hb; have hW := hW.trans (hb.mono hW.size))
         | (go_at_call 16; refine (below_draws (common_any _ A B n c1 m c2 xs ys hA hB hn'.out hm'.out)).mono ?_; rw [ek.out]; rintro e w1 ⟨rfl, hb⟩; have hA := hA.below hb; have hB := hB.below hb; have hC := hC.below hb; have hW := hW.trans (hb.mono hW.size))
         | (go_at_call 11; refine (works_any _).mono ?_; rintro e w1 ⟨rfl, hb⟩; have hW := hW.trans (hb.mono hW.size)))
       go_ret
       exact ⟨rfl, hW⟩)
set_option maxHeartbeats 6400000 in
theorem orderLaw_zero (b c : Int) (u v : Bool) (hb3 : b = -1 ∨ b = 0 ∨ b = 1) (hc3 : c = -1 ∨ c = 0 ∨ c = 1) (hon : (0 : Int) ≤ 0 → b ≤ 0 → c ≤ 0 ∧ ((0 : Int) < 0 ∨ b < 0 → c < 0)) (hu : u = true → (0 : Int) ≤ 0)
    (w : World) (A B C : Option Addr) (n c1 m c2 l c3 : Nat) (xs ys zs : List Int) (hA : Its w A n xs) (hB : Its w B m ys) (hC : Its w C l zs) (hn' : Hid (n ≤ maxLen)) (hm' : Hid (m ≤ maxLen)) (hl' : Hid (l ≤ maxLen))
    (h5 : ¬ (300 : Int) < (n : Int)) (h6 : ¬ (300 : Int) < (m : Int)) (h7 : ¬ (300 : Int) < (l : Int))
    (e1 : Hid (cmpV xs ys = 0)) (e2 : Hid (cmpV ys zs = b)) (e3 : Hid (cmpV xs zs = c)) (e4 : Hid (cmpV ys xs = 0)) (e5 : Hid (cmpV zs ys = -b)) (e6 : Hid (cmpV zs xs = -c)) (e7 : Hid (withinV xs ys = u)) (e8 : Hid (withinV xs zs = v)) (e9 : Hid (eqV xs ys = true)) :
    Calls Try.prog 5 #[.slice A n c1, .slice B m c2, .slice C l c3] w (Held w) := by
  have hW := Below.refl w.heap.size w
  obtain ⟨k, ek⟩ : ∃ k : Nat, Hid (commonV xs ys = k) := ⟨_, rfl⟩
  have hw := within_beq (ys := ys) hA.1
  rw [ek.out, e7.out] at hw
  rcases hb3 with rfl | rfl | rfl <;> rcases hc3 with rfl | rfl | rfl <;> cases u <;> cases v
  all_goals first
    | (exfalso; omega)
    | (exfalso; have := hu rfl; omega)
    | (clear hon hu
       go_enter Try.func5, Try.ntmps5
       go_wp2_with (first
         | (go_at_call 18; refine Calls.mono (below_same (compare_any _ _ _ _ _ _ _ _ _ (by first | exact hA | exact hB | exact hC) (by first | exact hA | exact hB | exact hC) (by first | exact hn'.out | exact hm'.out | exact hl'.out))) ?_; (first | rw [e1.out] | rw [e2.out] | rw [e3.out] | rw [e4.out] | rw [e5.out] | rw [e6.out]); rintro e w1 ⟨rfl, hb⟩; have hA := hA.below hb; have hB := hB.below hb; have hC := hC.below hb; have hW := hW.trans (hb.mono hW.size))
         | (go_at_call 12; refine (below_draws (same_any _ A B n c1 m c2 xs ys hA hB hn'.out)).mono ?_; rw [e9.out]; rintro e w1 ⟨rfl, hb⟩; have hA := hA.below hb; have hB := hB.below hb; have hC := hC.below hb; have hW := hW.trans (hb.mono hW.size))
         | (go_at_call 14; refine Calls.mono (below_draws (within_any _ _ _ _ _ _ _ _ _ (by first | exact hA | exact hB | exact hC) (by first | exact hA | exact hB | exact hC) (by first | exact hn'.out | exact hm'.out | exact hl'.out) (by first | exact hn'.out | exact hm'.out | exact hl'.out))) ?_; (first | rw [e7.out] | rw [e8.out]); rintro e w1 ⟨rfl, hb⟩; have hA := hA.below hb; have hB := hB.below hb; have hC := hC.below hb; have hW := hW.trans (hb.mono hW.size))
         | (go_at_call 16; refine (below_draws (common_any _ A B n c1 m c2 xs ys hA hB hn'.out hm'.out)).mono ?_; rw [ek.out]; rintro e w1 ⟨rfl, hb⟩; have hA := hA.below hb; have hB := hB.below hb; have hC := hC.below hb; have hW := hW.trans (hb.mono hW.size))
         | (go_at_call 11; refine (works_any _).mono ?_; rintro e w1 ⟨rfl, hb⟩; have hW := hW.trans (hb.mono hW.size)))
       go_ret
       exact ⟨rfl, hW⟩)
set_option maxHeartbeats 6400000 in
theorem orderLaw_pos (b c : Int) (u v : Bool) (hb3 : b = -1 ∨ b = 0 ∨ b = 1) (hc3 : c = -1 ∨ c = 0 ∨ c = 1) (hon : (1 : Int) ≤ 0 → b ≤ 0 → c ≤ 0 ∧ ((1 : Int) < 0 ∨ b < 0 → c < 0)) (hu : u = true → (1 : Int) ≤ 0)
    (w : World) (A B C : Option Addr) (n c1 m c2 l c3 : Nat) (xs ys zs : List Int) (hA : Its w A n xs) (hB : Its w B m ys) (hC : Its w C l zs) (hn' : Hid (n ≤ maxLen)) (hm' : Hid (m ≤ maxLen)) (hl' : Hid (l ≤ maxLen))
    (h5 : ¬ (300 : Int) < (n : Int)) (h6 : ¬ (300 : Int) < (m : Int)) (h7 : ¬ (300 : Int) < (l : Int))
    (e1 : Hid (cmpV xs ys = 1)) (e2 : Hid (cmpV ys zs = b)) (e3 : Hid (cmpV xs zs = c)) (e4 : Hid (cmpV ys xs = -1)) (e5 : Hid (cmpV zs ys = -b)) (e6 : Hid (cmpV zs xs = -c)) (e7 : Hid (withinV xs ys = u)) (e8 : Hid (withinV xs zs = v)) (e9 : Hid (eqV xs ys = false)) :
    Calls Try.prog 5 #[.slice A n c1, .slice B m c2, .slice C l c3] w (Held w) := by
  have hW := Below.refl w.heap.size w
  obtain ⟨k, ek⟩ : ∃ k : Nat, Hid (commonV xs ys = k) := ⟨_, rfl⟩
  have hw := within_beq (ys := ys) hA.1
  rw [ek.out, e7.out] at hw
  rcases hb3 with rfl | rfl | rfl <;> rcases hc3 with rfl | rfl | rfl <;> cases u <;> cases v
  all_goals first
    | (exfalso; omega)
    | (exfalso; have := hu rfl; omega)
    | (clear hon hu
       go_enter Try.func5, Try.ntmps5
       go_wp2_with (first
         | (go_at_call 18; refine Calls.mono (below_same (compare_any _ _ _ _ _ _ _ _ _ (by first | exact hA | exact hB | exact hC) (by first | exact hA | exact hB | exact hC) (by first | exact hn'.out | exact hm'.out | exact hl'.out))) ?_; (first | rw [e1.out] | rw [e2.out] | rw [e3.out] | rw [e4.out] | rw [e5.out] | rw [e6.out]); rintro e w1 ⟨rfl, hb⟩; have hA := hA.below hb; have hB := hB.below hb; have hC := hC.below hb; have hW := hW.trans (hb.mono hW.size))
         | (go_at_call 12; refine (below_draws (same_any _ A B n c1 m c2 xs ys hA hB hn'.out)).mono ?_; rw [e9.out]; rintro e w1 ⟨rfl, hb⟩; have hA := hA.below hb; have hB := hB.below hb; have hC := hC.below hb; have hW := hW.trans (hb.mono hW.size))
         | (go_at_call 14; refine Calls.mono (below_draws (within_any _ _ _ _ _ _ _ _ _ (by first | exact hA | exact hB | exact hC) (by first | exact hA | exact hB | exact hC) (by first | exact hn'.out | exact hm'.out | exact hl'.out) (by first | exact hn'.out | exact hm'.out | exact hl'.out))) ?_; (first | rw [e7.out] | rw [e8.out]); rintro e w1 ⟨rfl, hb⟩; have hA := hA.below hb; have hB := hB.below hb; have hC := hC.below hb; have hW := hW.trans (hb.mono hW.size))
         | (go_at_call 16; refine (below_draws (common_any _ A B n c1 m c2 xs ys hA hB hn'.out hm'.out)).mono ?_; rw [ek.out]; rintro e w1 ⟨rfl, hb⟩; have hA := hA.below hb; have hB := hB.below hb; have hC := hC.below hb; have hW := hW.trans (hb.mono hW.size))
         | (go_at_call 11; refine (works_any _).mono ?_; rintro e w1 ⟨rfl, hb⟩; have hW := hW.trans (hb.mono hW.size)))
       go_ret
       exact ⟨rfl, hW⟩)

theorem orderLaw_any (w : World) (A B C : Option Addr) (n c1 m c2 l c3 : Nat) (xs ys zs : List Int) (hA : Its w A n xs) (hB : Its w B m ys) (hC : Its w C l zs) (hn : n ≤ maxLen) (hm : m ≤ maxLen) (hl : l ≤ maxLen) :
    Calls Try.prog 5 #[.slice A n c1, .slice B m c2, .slice C l c3] w (Held w) := by
  by_cases h5 : (300 : Int) < (n : Int)
  · go_enter Try.func5, Try.ntmps5
    go_wp2_with (go_at_call 11; refine (works_any _).mono ?_; rintro e w1 ⟨rfl, hb⟩)
    go_ret
    exact ⟨rfl, hb⟩
  · by_cases h6 : (300 : Int) < (m : Int)
    · go_enter Try.func5, Try.ntmps5
      go_wp2_with (go_at_call 11; refine (works_any _).mono ?_; rintro e w1 ⟨rfl, hb⟩)
      go_ret
      exact ⟨rfl, hb⟩
    · by_cases h7 : (300 : Int) < (l : Int)
      · go_enter Try.func5, Try.ntmps5
        go_wp2_with (go_at_call 11; refine (works_any _).mono ?_; rintro e w1 ⟨rfl, hb⟩)
        go_ret
        exact ⟨rfl, hb⟩
      · obtain ⟨a, b, c, u, v, e1, e2, e3, e4, e5, e6, e7, e8, e9, ha, hb, hc, hon, hu⟩ := order_cases xs ys zs
        rcases ha with rfl | rfl | rfl
        · exact orderLaw_neg b c u v hb hc hon hu w A B C n c1 m c2 l c3 xs ys zs hA hB hC hn hm hl h5 h6 h7 e1 e2 e3 e4 e5 e6 e7 e8 e9
        · exact orderLaw_zero b c u v hb hc hon hu w A B C n c1 m c2 l c3 xs ys zs hA hB hC hn hm hl h5 h6 h7 e1 e2 e3 e4 e5 e6 e7 e8 e9
        · exact orderLaw_pos b c u v hb hc hon hu w A B C n c1 m c2 l c3 xs ys zs hA hB hC hn hm hl h5 h6 h7 e1 e2 e3 e4 e5 e6 e7 e8 e9
end Go.Proofs.Ytflllhodeakpgaa
