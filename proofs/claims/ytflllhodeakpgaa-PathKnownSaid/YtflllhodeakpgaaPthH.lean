/- Between, the document's. -/
import Derived.Test.YtflllhodeakpgaaPthG
namespace Go.Proofs.Ytflllhodeakpgaa
open Go.RowKit
set_option maxRecDepth 20000

theorem refCommon_q (w : World) (A B : Option Addr) (n c m d : Nat) (xs ys : List Int) (b : Nat) (hA : Its w A n xs) (hB : Its w B m ys) (hn : n ≤ maxLen) (hm : m ≤ maxLen) (hb : commonV xs ys = b) (j : Nat) :
    Calls Try.prog 17 #[.slice A n c, .slice B m d] (w.drewN j) fun e w'' => e = .returned (.int .i64 (b : Int)) ∧ ∃ k, w'' = w.drewN k := by
  subst hb
  exact Calls.quiet_of (refCommon_any _ _ _ _ _ _ _ _ _ (hA.drewN _) (hB.drewN _) hn hm)
theorem tail_bne {A B : List Int} {n k : Nat} {b : Bool} (h1 : A.length = n - (k + 1)) (h2 : B.length = n - (k + 1)) (hk : k + 1 ≤ n) (h : eqV A B = b) : ((commonV A B : Int) != (n : Int) - (k : Int) - 1) = !b := by
  have h3 := common_full (h1.trans h2.symm)
  subst h
  unfold eqV
  by_cases e : A = B
  · rw [decide_eq_true e, h3.2 e, h1]
    have : (((n - (k + 1) : Nat)) : Int) = (n : Int) - (k : Int) - 1 := by omega
    rw [this, bne_self_eq_false]
    rfl
  · rw [decide_eq_false e]
    have h4 : commonV A B ≠ n - (k + 1) := fun h => e (h3.1 (h.trans h1.symm))
    rw [bne_iff_ne.2 (by omega)]
    rfl

set_option maxHeartbeats 1600000 in
theorem refBetween_any (w : World) (A B : Option Addr) (n c m d : Nat) (xs ys : List Int) (hA : Its w A n xs) (hB : Its w B m ys) (hn : n ≤ maxLen) (hm : m ≤ maxLen) (hnc : n ≤ c) (hcm : c ≤ maxLen) (hmd : m ≤ d) (hdm : d ≤ maxLen) :
    Calls Try.prog 26 #[.slice A n c, .slice B m d] w fun e w' => e = .returned (betR xs ys) ∧ ∃ k, w' = w.drewN k := by
  have hA' := Lib.hid hA
  have hB' := Lib.hid hB
  have hn' := Lib.hid hn
  have hm' := Lib.hid hm
  cases h1 : mayV xs with
  | false =>
    have hv := Lib.hid (bet_no1 (ys := ys) h1)
    have h1' := Lib.hid h1
    clear hA hB hn hm h1 hnc hcm hmd hdm
    go_enter Try.func26, Try.ntmps26
    go_wp2_with (go_at_call 10; refine (refMay_any w A n c xs hA'.out hn'.out).mono ?_; rw [h1'.out]; rintro e w' ⟨rfl, rfl⟩)
    go_ret2
    exact ⟨by rw [hv.out]; rfl, 0, rfl⟩
  | true =>
    have h1' := Lib.hid h1
    cases h2 : mayV ys with
    | false =>
      have hv := Lib.hid (bet_no2 (xs := xs) h2)
      have h2' := Lib.hid h2
      clear hA hB hn hm h1 h2 hnc hcm hmd hdm
      go_enter Try.func26, Try.ntmps26
      go_wp2_with (first
        | (go_at_call_of 10 (Value.slice A n c); refine (refMay_any _ A n c xs hA'.out hn'.out).mono ?_; rw [h1'.out]; rintro e w' ⟨rfl, rfl⟩)
        | (go_at_call_of 10 (Value.slice B m d); refine (refMay_any _ B m d ys hB'.out hm'.out).mono ?_; rw [h2'.out]; rintro e w' ⟨rfl, rfl⟩))
      go_ret2
      exact ⟨by rw [hv.out]; rfl, 0, rfl⟩
    | true =>
      have h2' := Lib.hid h2
      by_cases hnm : n = m
      · subst hnm
        have hne : ((n : Int) != (n : Int)) = false := by rw [bne_self_eq_false]
        have hcm0 := common_le xs ys
        obtain ⟨k, hk⟩ : ∃ k, commonV xs ys = k := ⟨_, rfl⟩
        rw [hk, hA.1] at hcm0
        have hk' := Lib.hid hk
        have hxl := Lib.hid hA.1
        have hyl := Lib.hid hB.1
        by_cases hkn : k = n
        · have hv := Lib.hid (bet_no4 (xs := xs) (ys := ys) (by rw [hk, hA.1]; exact hkn))
          have he : ((k : Int) == (n : Int)) = true := by rw [hkn]; exact beq_self_eq_true _
          clear hA hB hn hm h1 h2 hnc hcm hmd hdm hk hcm0 hkn
          go_enter Try.func26, Try.ntmps26
          go_wp2_with (first
            | (go_at_call_of 10 (Value.slice A n c); refine (refMay_any _ A n c xs hA'.out hn'.out).mono ?_; rw [h1'.out]; rintro e w' ⟨rfl, rfl⟩)
            | (go_at_call_of 10 (Value.slice B n d); refine (refMay_any _ B n d ys hB'.out hm'.out).mono ?_; rw [h2'.out]; rintro e w' ⟨rfl, rfl⟩)
            | (go_at_call 17; refine (refCommon_any _ A B n c n d xs ys hA'.out hB'.out hn'.out hm'.out).mono ?_; rw [hk'.out]; rintro e w' ⟨rfl, nd, rfl⟩))
          go_quiet (fail)
          go_wp2_with fail
          go_ret2
          exact ⟨by rw [hv.out]; rfl, nd + nq, by rw [World.drewN_drewN]⟩
        · have hlt : k < n := by omega
          have he : ((k : Int) == (n : Int)) = false := by rw [beq_eq_false_iff_ne]; omega
          obtain ⟨ad, x, rfl, hx, hcx⟩ := hA.at_ hlt
          obtain ⟨bd, y, rfl, hy, hcy⟩ := hB.at_ hlt
          have hmx := (of_decide_eq_true h1).2 x (List.mem_of_getElem? hx)
          have hmy := (of_decide_eq_true h2).2 y (List.mem_of_getElem? hy)
          have j0 : (0 : Int) ≤ (k : Int) := by omega
          have j1 : (k : Int) < (n : Int) := by omega
          have j2 : IntKind.i64.wrap ((k : Int) + 1) = (k : Int) + 1 := IntWalk.i64_in _ (by unfold maxLen at hn; omega)
          have j3 : (0 : Int) ≤ (k : Int) + 1 := by omega
          have j4 : (k : Int) + 1 ≤ (n : Int) := by omega
          have j5 : ((k : Int) + 1).toNat = k + 1 := by omega
          have hAq := Lib.hid (hA.sliced (lo := k + 1) (by omega) hnc)
          have hBq := Lib.hid (hB.sliced (lo := k + 1) (by omega) hmd)
          have hl2 := Lib.hid (show n - (k + 1) ≤ maxLen by omega)
          cases h5 : eqV (xs.drop (k + 1)) (ys.drop (k + 1)) with
          | false =>
            have hv := Lib.hid (bet_no5 hk h5)
            have h5' := Lib.hid h5
            have h6 := tail_bne (A := xs.drop (k + 1)) (B := ys.drop (k + 1)) (n := n) (k := k) (by rw [List.length_drop, hA.1]) (by rw [List.length_drop, hB.1]) (by omega) h5
            obtain ⟨q, hq⟩ : ∃ q, commonV (xs.drop (k + 1)) (ys.drop (k + 1)) = q := ⟨_, rfl⟩
            rw [hq] at h6
            have hq' := Lib.hid hq
            clear hq
            have j8 : IntKind.i64.wrap ((n : Int) - (k : Int)) = (n : Int) - (k : Int) := IntWalk.i64_in _ (by unfold maxLen at hn; omega)
            have j9 : IntKind.i64.wrap ((n : Int) - (k : Int) - 1) = (n : Int) - (k : Int) - 1 := IntWalk.i64_in _ (by unfold maxLen at hn; omega)
            clear hA hB hn hm h1 h2 hnc hcm hmd hdm hk hcm0 hkn hx hy hmx hmy h5 hlt
            rcases Decidable.em (c = k + 1) with hc1 | hc1 <;> rcases Decidable.em (d = k + 1) with hd1 | hd1
            all_goals
              first | (rw [if_pos hc1] at hAq; have hce := eq_true hc1; clear hc1) | (rw [if_neg hc1] at hAq; have hce := eq_false hc1; clear hc1)
              first | (rw [if_pos hd1] at hBq; have hde := eq_true hd1; clear hd1) | (rw [if_neg hd1] at hBq; have hde := eq_false hd1; clear hd1)
              go_enter Try.func26, Try.ntmps26
              go_wp2_with (first
                | (go_at_call_of 10 (Value.slice (some ad) n c); refine (refMay_any _ _ n c xs hA'.out hn'.out).mono ?_; rw [h1'.out]; rintro e w' ⟨rfl, rfl⟩)
                | (go_at_call_of 10 (Value.slice (some bd) n d); refine (refMay_any _ _ n d ys hB'.out hm'.out).mono ?_; rw [h2'.out]; rintro e w' ⟨rfl, rfl⟩)
                | (go_at_call 17; refine (refCommon_any _ _ _ n c n d xs ys hA'.out hB'.out hn'.out hm'.out).mono ?_; rw [hk'.out]; rintro e w2 ⟨rfl, nd, hw2⟩; have hAr := Lib.hid (hAq.out.drewn hw2); have hBr := Lib.hid (hBq.out.drewn hw2); have hc1 := cell_drewn hcx hw2; have hc2 := cell_drewn hcy hw2; have hw2' := Lib.hid hw2; clear hw2 hcx hcy))
              go_quiet ((go_at_call 17; (exact refCommon_q _ _ _ (n - (k + 1)) (c - (k + 1)) (n - (k + 1)) (d - (k + 1)) (xs.drop (k + 1)) (ys.drop (k + 1)) _ hAr.out hBr.out hl2.out hl2.out hq'.out _)))
              go_wp2_with fail
              go_ret2
              exact ⟨by rw [hv.out]; rfl, nd + nq, by rw [hw2'.out, World.drewN_drewN]⟩
          | true =>
            have hv := Lib.hid (bet_yes h1 h2 (hA.1.trans hB.1.symm) hk (by rw [hA.1]; exact hlt) hx hy h5)
            have j6 : IntKind.i64.wrap (y - x) = y - x := IntWalk.i64_in _ (by omega)
            have hcx' := Lib.hid hcx
            have hcy' := Lib.hid hcy
            have h5' := Lib.hid h5
            have h6 := tail_bne (A := xs.drop (k + 1)) (B := ys.drop (k + 1)) (n := n) (k := k) (by rw [List.length_drop, hA.1]) (by rw [List.length_drop, hB.1]) (by omega) h5
            obtain ⟨q, hq⟩ : ∃ q, commonV (xs.drop (k + 1)) (ys.drop (k + 1)) = q := ⟨_, rfl⟩
            rw [hq] at h6
            have hq' := Lib.hid hq
            clear hq
            have j8 : IntKind.i64.wrap ((n : Int) - (k : Int)) = (n : Int) - (k : Int) := IntWalk.i64_in _ (by unfold maxLen at hn; omega)
            have j9 : IntKind.i64.wrap ((n : Int) - (k : Int) - 1) = (n : Int) - (k : Int) - 1 := IntWalk.i64_in _ (by unfold maxLen at hn; omega)
            clear hA hB hn hm h1 h2 hnc hcm hmd hdm hk hcm0 hkn hx hy hmx hmy h5 hlt
            rcases Decidable.em (c = k + 1) with hc1 | hc1 <;> rcases Decidable.em (d = k + 1) with hd1 | hd1
            all_goals
              first | (rw [if_pos hc1] at hAq; have hce := eq_true hc1; clear hc1) | (rw [if_neg hc1] at hAq; have hce := eq_false hc1; clear hc1)
              first | (rw [if_pos hd1] at hBq; have hde := eq_true hd1; clear hd1) | (rw [if_neg hd1] at hBq; have hde := eq_false hd1; clear hd1)
              go_enter Try.func26, Try.ntmps26
              go_wp2_with (first
                | (go_at_call_of 10 (Value.slice (some ad) n c); refine (refMay_any _ _ n c xs hA'.out hn'.out).mono ?_; rw [h1'.out]; rintro e w' ⟨rfl, rfl⟩)
                | (go_at_call_of 10 (Value.slice (some bd) n d); refine (refMay_any _ _ n d ys hB'.out hm'.out).mono ?_; rw [h2'.out]; rintro e w' ⟨rfl, rfl⟩)
                | (go_at_call 17; refine (refCommon_any _ _ _ n c n d xs ys hA'.out hB'.out hn'.out hm'.out).mono ?_; rw [hk'.out]; rintro e w2 ⟨rfl, nd, hw2⟩; have hAr := Lib.hid (hAq.out.drewn hw2); have hBr := Lib.hid (hBq.out.drewn hw2); have hc1 := cell_drewn hcx hw2; have hc2 := cell_drewn hcy hw2; have hw2' := Lib.hid hw2; clear hw2 hcx hcy))
              go_quiet ((go_at_call 17; exact refCommon_q _ _ _ (n - (k + 1)) (c - (k + 1)) (n - (k + 1)) (d - (k + 1)) (xs.drop (k + 1)) (ys.drop (k + 1)) _ hAr.out hBr.out hl2.out hl2.out hq'.out _))
              go_wp2_with fail
              obtain ⟨w3, hw3⟩ : ∃ w3, w3 = w2.drewN nq := ⟨_, rfl⟩
              have hc3 : w3.cell? (ad.add k) = some (.int .i64 x) := by rw [hw3]; exact hc1
              have hc4 : w3.cell? (bd.add k) = some (.int .i64 y) := by rw [hw3]; exact hc2
              rw [← hw3]
              have hw3' := Lib.hid hw3
              clear hw3
              go_quiet (fail)
              go_wp2_with fail
              go_ret2
              exact ⟨by rw [hv.out]; rfl, _, by rw [hw3'.out, hw2'.out, World.drewN_drewN, World.drewN_drewN]⟩
      · have hv := Lib.hid (bet_no3 (xs := xs) (ys := ys) (by rw [hA.1, hB.1]; exact hnm))
        have hne : ((n : Int) != (m : Int)) = true := by rw [bne_iff_ne]; omega
        clear hA hB hn hm h1 h2 hnc hcm hmd hdm hnm
        go_enter Try.func26, Try.ntmps26
        go_wp2_with (first
          | (go_at_call_of 10 (Value.slice A n c); refine (refMay_any _ A n c xs hA'.out hn'.out).mono ?_; rw [h1'.out]; rintro e w' ⟨rfl, rfl⟩)
          | (go_at_call_of 10 (Value.slice B m d); refine (refMay_any _ B m d ys hB'.out hm'.out).mono ?_; rw [h2'.out]; rintro e w' ⟨rfl, rfl⟩))
        go_ret2
        exact ⟨by rw [hv.out]; rfl, 0, rfl⟩
end Go.Proofs.Ytflllhodeakpgaa
