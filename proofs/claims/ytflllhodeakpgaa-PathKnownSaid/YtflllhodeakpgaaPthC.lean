/- Compare, the program's and the document's. -/
import Derived.Test.YtflllhodeakpgaaPthB
namespace Go.Proofs.Ytflllhodeakpgaa
open Go.RowKit
set_option maxRecDepth 20000

theorem isNaN_any (x : Int) (w : World) : Calls Try.prog 44 #[.int .i64 x] w fun e w' => e = .returned (.bool false) ∧ w = w' := by
  have hne : ((x : Int) != x) = false := by rw [bne_self_eq_false]
  go_enter Try.func44, Try.ntmps44
  go_wp2_with fail
  go_ret
  exact ⟨rfl, rfl⟩
def cmp1 (x y : Int) : Int := if x < y then -1 else if y < x then 1 else 0
theorem cmp1_any (x y : Int) (w : World) : Calls Try.prog 41 #[.int .i64 x, .int .i64 y] w fun e w' => e = .returned (.int .i64 (cmp1 x y)) ∧ w = w' := by
  rcases Int.lt_trichotomy x y with h | h | h
  · have hv := Lib.hid (show cmp1 x y = -1 from if_pos h)
    go_enter Try.func41, Try.ntmps41
    go_wp2_with (go_at_call 44; refine (isNaN_any _ _).mono ?_; rintro e w' ⟨rfl, rfl⟩)
    go_ret
    exact ⟨by rw [hv.out]; rfl, rfl⟩
  · subst h
    have hv := Lib.hid (show cmp1 x x = 0 by unfold cmp1; rw [if_neg (by omega), if_neg (by omega)])
    have hn : (x < x) = False := eq_false (by omega)
    go_enter Try.func41, Try.ntmps41
    go_wp2_with (go_at_call 44; refine (isNaN_any _ _).mono ?_; rintro e w' ⟨rfl, rfl⟩)
    go_ret
    exact ⟨by rw [hv.out]; rfl, rfl⟩
  · have hv := Lib.hid (show cmp1 x y = 1 by unfold cmp1; rw [if_neg (by omega), if_pos h])
    have hn : ¬ x < y := by omega
    go_enter Try.func41, Try.ntmps41
    go_wp2_with (go_at_call 44; refine (isNaN_any _ _).mono ?_; rintro e w' ⟨rfl, rfl⟩)
    go_ret
    exact ⟨by rw [hv.out]; rfl, rfl⟩

set_option maxHeartbeats 400000 in
theorem slCompare_any (w : World) (A B : Option Addr) (n c m d : Nat) (xs ys : List Int) (hA : Its w A n xs) (hB : Its w B m ys) (hn : n ≤ maxLen) :
    Calls Try.prog 34 #[.slice A n c, .slice B m d] w fun e w' => e = .returned (.int .i64 (cmpV xs ys)) ∧ w' = w := by
  unfold maxLen at hn
  have l1 := Lib.hid hA.1
  have l2 := Lib.hid hB.1
  have hA' := Lib.hid hA
  have hB' := Lib.hid hB
  clear hA hB
  go_enter Try.func34, Try.ntmps34
  go_wp2_with fail
  go_loop [11] (fun i => ∃ k : Nat, k ≤ n ∧ k ≤ m ∧ i = .int .i64 (k : Int) ∧ cmpV xs ys = cmpV (xs.drop k) (ys.drop k)) (fun i => n - (intOf i).toNat)
  case atStart => exact ⟨0, Nat.zero_le _, Nat.zero_le _, rfl, by simp⟩
  case round =>
    obtain ⟨k, hk, hkm, rfl, he⟩ := hrel
    have he' := Lib.hid he
    clear he
    by_cases hlt : k < n
    · obtain ⟨ad, x, rfl, hx, hcx⟩ := hA'.out.at_ hlt
      by_cases hm : k < m
      · obtain ⟨bd, y, rfl, hy, hcy⟩ := hB'.out.at_ hm
        have j0 : (0 : Int) ≤ (k : Int) := by omega
        have j1 : (k : Int) < (n : Int) := by omega
        have j2 : ¬ (m : Int) ≤ (k : Int) := by omega
        rcases Int.lt_trichotomy x y with h | h | h
        · have hv := Lib.hid (show cmpV xs ys = -1 by rw [he'.out, cmp_stop hx hy (by omega), if_pos h])
          have hc := Lib.hid (show cmp1 x y = -1 from if_pos h)
          clear hx hy
          go_wp2_with (go_at_call 41; refine (cmp1_any _ _ _).mono ?_; rw [hc.out]; rintro e w' ⟨rfl, rfl⟩)
          go_ret
          exact ⟨by rw [hv.out]; rfl, rfl⟩
        · subst h
          have hnx := Lib.hid (he'.out.trans (cmp_step hx hy))
          have hc := Lib.hid (show cmp1 x x = 0 by unfold cmp1; rw [if_neg (by omega), if_neg (by omega)])
          clear hx hy
          go_wp2_with (go_at_call 41; refine (cmp1_any _ _ _).mono ?_; rw [hc.out]; rintro e w' ⟨rfl, rfl⟩)
          go_round
          case rel => exact ⟨k + 1, by omega, by omega, by go_num, hnx.out⟩
          case measure => simp [intOf]; omega
        · have hv := Lib.hid (show cmpV xs ys = 1 by rw [he'.out, cmp_stop hx hy (by omega), if_neg (by omega)])
          have hc := Lib.hid (show cmp1 x y = 1 by unfold cmp1; rw [if_neg (by omega), if_pos h])
          clear hx hy
          go_wp2_with (go_at_call 41; refine (cmp1_any _ _ _).mono ?_; rw [hc.out]; rintro e w' ⟨rfl, rfl⟩)
          go_ret
          exact ⟨by rw [hv.out]; rfl, rfl⟩
      · have hv := Lib.hid (show cmpV xs ys = 1 by rw [he'.out]; exact cmp_over hx (by have := l2.out; omega))
        have j2 : (m : Int) ≤ (k : Int) := by omega
        clear hx
        go_wp2_with fail
        go_ret
        exact ⟨by rw [hv.out]; rfl, rfl⟩
    · have hv := Lib.hid (show cmpV xs ys = if n < m then -1 else 0 by
        have h1 := l1.out
        have h2 := l2.out
        rw [he'.out, cmp_end (by omega) (by omega), h1, h2])
      obtain rfl : k = n := by omega
      by_cases hnm : (k : Int) < (m : Int)
      · rw [if_pos (by omega)] at hv
        clear hlt
        go_wp2_with fail
        go_ret
        exact ⟨by rw [hv.out]; rfl, rfl⟩
      · rw [if_neg (by omega)] at hv
        have hnm2 : (k < m) = False := eq_false (by omega)
        clear hlt
        go_wp2_with fail
        go_ret
        exact ⟨by rw [hv.out]; rfl, rfl⟩
theorem compare_any (w : World) (A B : Option Addr) (n c m d : Nat) (xs ys : List Int) (hA : Its w A n xs) (hB : Its w B m ys) (hn : n ≤ maxLen) :
    Calls Try.prog 18 #[.slice A n c, .slice B m d] w fun e w' => e = .returned (.int .i64 (cmpV xs ys)) ∧ w' = w := by
  have hA' := Lib.hid hA
  have hB' := Lib.hid hB
  clear hA hB
  go_enter Try.func18, Try.ntmps18
  go_wp2_with (go_at_call 34; refine (slCompare_any w A B n c m d xs ys hA'.out hB'.out hn).mono ?_; rintro e w' ⟨rfl, rfl⟩)
  go_ret
  exact ⟨rfl, rfl⟩

theorem cmp_case {xs ys : List Int} {n m k : Nat} (h1 : xs.length = n) (h2 : ys.length = m) (hk : commonV xs ys = k) :
    (k = n ∧ k = m ∧ cmpV xs ys = 0) ∨ (k = n ∧ k < m ∧ cmpV xs ys = -1) ∨ (k < n ∧ k = m ∧ cmpV xs ys = 1) ∨
    (∃ x y, k < n ∧ k < m ∧ xs[k]? = some x ∧ ys[k]? = some y ∧ x < y ∧ cmpV xs ys = -1) ∨ (∃ x y, k < n ∧ k < m ∧ xs[k]? = some x ∧ ys[k]? = some y ∧ ¬ x < y ∧ cmpV xs ys = 1) := by
  have hl := common_le xs ys
  have hr := cmp_ref xs ys
  rw [hk] at hl hr
  rw [h1, h2] at hl hr
  by_cases c1 : k = n
  · by_cases c2 : k = m
    · rw [if_pos ⟨c1, c2⟩] at hr
      exact .inl ⟨c1, c2, hr⟩
    · rw [if_neg (fun h => c2 h.2), if_pos c1] at hr
      exact .inr (.inl ⟨c1, by omega, hr⟩)
  · rw [if_neg (fun h => c1 h.1), if_neg c1] at hr
    by_cases c2 : k = m
    · rw [if_pos c2] at hr
      exact .inr (.inr (.inl ⟨by omega, c2, hr⟩))
    · rw [if_neg c2] at hr
      have g1 : xs[k]? = some (xs.getD k 0) := by
        rw [List.getD_eq_getElem?_getD, List.getElem?_eq_getElem (by omega)]; rfl
      have g2 : ys[k]? = some (ys.getD k 0) := by
        rw [List.getD_eq_getElem?_getD, List.getElem?_eq_getElem (by omega)]; rfl
      by_cases c3 : xs.getD k 0 < ys.getD k 0
      · rw [if_pos c3] at hr
        exact .inr (.inr (.inr (.inl ⟨_, _, by omega, by omega, g1, g2, c3, hr⟩)))
      · rw [if_neg c3] at hr
        exact .inr (.inr (.inr (.inr ⟨_, _, by omega, by omega, g1, g2, c3, hr⟩)))

set_option maxHeartbeats 800000 in
theorem refCompare_any (w : World) (A B : Option Addr) (n c m d : Nat) (xs ys : List Int) (hA : Its w A n xs) (hB : Its w B m ys) (hn : n ≤ maxLen) (hm : m ≤ maxLen) :
    Calls Try.prog 19 #[.slice A n c, .slice B m d] w fun e w' => e = .returned (.int .i64 (cmpV xs ys)) ∧ ∃ k, w' = w.drewN k := by
  have hA' := Lib.hid hA
  have hB' := Lib.hid hB
  have hcs := cmp_case hA.1 hB.1 rfl
  have hk := common_le xs ys
  rw [hA.1, hB.1] at hk
  obtain ⟨k, hkk⟩ : ∃ k, k = commonV xs ys := ⟨_, rfl⟩
  rw [← hkk] at hcs hk
  have hkk' := Lib.hid hkk
  clear hA hB hkk
  rcases hcs with ⟨c1, c2, hv⟩ | ⟨c1, c2, hv⟩ | ⟨c1, c2, hv⟩ | ⟨x, y, c1, c2, hx, hy, hxy, hv⟩ | ⟨x, y, c1, c2, hx, hy, hxy, hv⟩
  · have hv' := Lib.hid hv
    have e1 : ((k : Int) == (n : Int)) = true := by rw [beq_iff_eq]; omega
    have e2 : ((k : Int) == (m : Int)) = true := by rw [beq_iff_eq]; omega
    clear c1 c2 hv hk
    go_enter Try.func19, Try.ntmps19
    go_wp2_with (go_at_call 17; refine (refCommon_any w A B n c m d xs ys hA'.out hB'.out hn hm).mono ?_; rw [← hkk'.out]; rintro e w' ⟨rfl, nd, rfl⟩)
    go_ret
    exact ⟨by rw [hv'.out]; rfl, _, rfl⟩
  · have hv' := Lib.hid hv
    have e1 : ((k : Int) == (n : Int)) = true := by rw [beq_iff_eq]; omega
    have e2 : ((k : Int) == (m : Int)) = false := by rw [beq_eq_false_iff_ne]; omega
    clear c1 c2 hv hk
    go_enter Try.func19, Try.ntmps19
    go_wp2_with (go_at_call 17; refine (refCommon_any w A B n c m d xs ys hA'.out hB'.out hn hm).mono ?_; rw [← hkk'.out]; rintro e w' ⟨rfl, nd, rfl⟩)
    go_ret
    exact ⟨by rw [hv'.out]; rfl, _, rfl⟩
  · have hv' := Lib.hid hv
    have e1 : ((k : Int) == (n : Int)) = false := by rw [beq_eq_false_iff_ne]; omega
    have e2 : ((k : Int) == (m : Int)) = true := by rw [beq_iff_eq]; omega
    clear c1 c2 hv hk
    go_enter Try.func19, Try.ntmps19
    go_wp2_with (go_at_call 17; refine (refCommon_any w A B n c m d xs ys hA'.out hB'.out hn hm).mono ?_; rw [← hkk'.out]; rintro e w' ⟨rfl, nd, rfl⟩)
    go_ret
    exact ⟨by rw [hv'.out]; rfl, _, rfl⟩
  · have hv' := Lib.hid hv
    have e1 : ((k : Int) == (n : Int)) = false := by rw [beq_eq_false_iff_ne]; omega
    have e2 : ((k : Int) == (m : Int)) = false := by rw [beq_eq_false_iff_ne]; omega
    obtain ⟨ad, rfl, _, hcx⟩ := hA'.out.2 _ _ hx
    obtain ⟨bd, rfl, _, hcy⟩ := hB'.out.2 _ _ hy
    have j0 : (0 : Int) ≤ (k : Int) := by omega
    have j1 : (k : Int) < (n : Int) := by omega
    have j2 : (k : Int) < (m : Int) := by omega
    clear hv hk hx hy c1 c2
    go_enter Try.func19, Try.ntmps19
    go_wp2_with (go_at_call 17; refine (refCommon_any w _ _ n c m d xs ys hA'.out hB'.out hn hm).mono ?_; rw [← hkk'.out]; rintro e w' ⟨rfl, nd, rfl⟩)
    go_quiet (fail)
    go_wp2_with fail
    go_ret
    exact ⟨by rw [hv'.out]; rfl, nd + nq, by rw [World.drewN_drewN]⟩
  · have hv' := Lib.hid hv
    have e1 : ((k : Int) == (n : Int)) = false := by rw [beq_eq_false_iff_ne]; omega
    have e2 : ((k : Int) == (m : Int)) = false := by rw [beq_eq_false_iff_ne]; omega
    obtain ⟨ad, rfl, _, hcx⟩ := hA'.out.2 _ _ hx
    obtain ⟨bd, rfl, _, hcy⟩ := hB'.out.2 _ _ hy
    have j0 : (0 : Int) ≤ (k : Int) := by omega
    have j1 : (k : Int) < (n : Int) := by omega
    have j2 : (k : Int) < (m : Int) := by omega
    clear hv hk hx hy c1 c2
    go_enter Try.func19, Try.ntmps19
    go_wp2_with (go_at_call 17; refine (refCommon_any w _ _ n c m d xs ys hA'.out hB'.out hn hm).mono ?_; rw [← hkk'.out]; rintro e w' ⟨rfl, nd, rfl⟩)
    go_quiet (fail)
    go_wp2_with fail
    go_ret
    exact ⟨by rw [hv'.out]; rfl, nd + nq, by rw [World.drewN_drewN]⟩
end Go.Proofs.Ytflllhodeakpgaa
