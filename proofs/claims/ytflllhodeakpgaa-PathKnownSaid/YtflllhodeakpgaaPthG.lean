/- Between, the program's and the document's. -/
import Derived.Test.YtflllhodeakpgaaPthF
namespace Go.Proofs.Ytflllhodeakpgaa
open Go.RowKit
set_option maxRecDepth 20000

/-- the place at which two paths are unlike, and by how much, if it is the only one -/
def betV (xs ys : List Int) : Option (Nat × Int) :=
  if mayV xs && mayV ys && decide (xs.length = ys.length) then
    if decide (commonV xs ys = xs.length) || !eqV (xs.drop (commonV xs ys + 1)) (ys.drop (commonV xs ys + 1)) then none
    else some (commonV xs ys, ys.getD (commonV xs ys) 0 - xs.getD (commonV xs ys) 0)
  else none
def betR (xs ys : List Int) : Value :=
  match betV xs ys with
  | some (k, b) => .tuple #[.complex .f64 (fOf b) (fOf (k : Int)), .bool true]
  | none => .tuple #[.complex .f64 0 0, .bool false]
theorem together_any (w : World) (k b : Int) : Calls Try.prog 36 #[.int .i64 k, .int .i64 b] w fun e w' => e = .returned (.complex .f64 (fOf b) (fOf k)) ∧ w = w' := by
  go_enter Try.func36, Try.ntmps36
  go_wp2_with fail
  go_ret
  exact ⟨rfl, rfl⟩
theorem bet_no1 {xs ys : List Int} (h : mayV xs = false) : betR xs ys = .tuple #[.complex .f64 0 0, .bool false] := by unfold betR betV; rw [h]; rfl
theorem bet_no2 {xs ys : List Int} (h : mayV ys = false) : betR xs ys = .tuple #[.complex .f64 0 0, .bool false] := by unfold betR betV; rw [h, Bool.and_false]; rfl
theorem bet_no3 {xs ys : List Int} (h : xs.length ≠ ys.length) : betR xs ys = .tuple #[.complex .f64 0 0, .bool false] := by unfold betR betV; rw [decide_eq_false h, Bool.and_false]; rfl
theorem bet_none {xs ys : List Int} (h : betV xs ys = none) : betR xs ys = .tuple #[.complex .f64 0 0, .bool false] := by unfold betR; rw [h]
theorem bet_no4 {xs ys : List Int} (h : commonV xs ys = xs.length) : betR xs ys = .tuple #[.complex .f64 0 0, .bool false] := by
  refine bet_none ?_
  unfold betV
  rw [decide_eq_true h, Bool.true_or, if_pos rfl]
  split <;> rfl
theorem bet_no5 {xs ys : List Int} {k : Nat} (hk : commonV xs ys = k) (h : eqV (xs.drop (k + 1)) (ys.drop (k + 1)) = false) : betR xs ys = .tuple #[.complex .f64 0 0, .bool false] := by
  refine bet_none ?_
  unfold betV
  rw [hk, h, Bool.not_false, Bool.or_true, if_pos rfl]
  split <;> rfl
theorem Its.drewn {w w2 : World} {A : Option Addr} {n nd : Nat} {xs : List Int} (h : Its w A n xs) (e : w2 = w.drewN nd) : Its w2 A n xs := by rw [e]; exact h.drewN nd
theorem cell_drewn {w w2 : World} {a : Addr} {v : Value} {nd : Nat} (h : w.cell? a = some v) (e : w2 = w.drewN nd) : w2.cell? a = some v := by rw [e]; exact h
theorem same_q (w : World) (A B : Option Addr) (n c m d : Nat) (xs ys : List Int) (b : Bool) (hA : Its w A n xs) (hB : Its w B m ys) (hn : n ≤ maxLen) (hb : eqV xs ys = b) (j : Nat) :
    Calls Try.prog 12 #[.slice A n c, .slice B m d] (w.drewN j) fun e w'' => e = .returned (.bool b) ∧ ∃ k, w'' = w.drewN k := by
  subst hb
  exact Calls.quiet_of (same_any _ _ _ _ _ _ _ _ _ (hA.drewN _) (hB.drewN _) hn)
theorem together_q (w : World) (k b : Int) (j : Nat) : Calls Try.prog 36 #[.int .i64 k, .int .i64 b] (w.drewN j) fun e w'' => e = .returned (.complex .f64 (fOf b) (fOf k)) ∧ ∃ k, w'' = w.drewN k :=
  Calls.quiet_of_same ((together_any _ _ _).mono (by rintro e w9 ⟨rfl, rfl⟩; exact ⟨rfl, rfl⟩))
/-- a slice from lo on -/
theorem Its.sliced {w : World} {A : Option Addr} {n lo c : Nat} {xs : List Int} (h : Its w A n xs) (hlo : lo ≤ n) (hnc : n ≤ c) : Its w (if c = lo then A else A.map fun x => x.add lo) (n - lo) (xs.drop lo) := by
  by_cases hc : c = lo
  · rw [if_pos hc]
    have h0 : n - lo = 0 := by omega
    rw [h0, List.drop_of_length_le (by rw [h.1]; omega)]
    exact ⟨rfl, fun k x hk => by simp at hk⟩
  · rw [if_neg hc]
    exact h.from_ (by omega)
theorem bet_yes {xs ys : List Int} {k : Nat} {x y : Int} (h1 : mayV xs = true) (h2 : mayV ys = true) (h3 : xs.length = ys.length) (hk : commonV xs ys = k) (hlt : k < xs.length) (hx : xs[k]? = some x) (hy : ys[k]? = some y)
    (h : eqV (xs.drop (k + 1)) (ys.drop (k + 1)) = true) : betR xs ys = .tuple #[.complex .f64 (fOf (y - x)) (fOf (k : Int)), .bool true] := by
  have e : betV xs ys = some (k, y - x) := by
    unfold betV
    rw [h1, h2, decide_eq_true h3, hk, h, decide_eq_false (by omega : ¬ k = xs.length), List.getD_eq_getElem?_getD, List.getD_eq_getElem?_getD, hx, hy]
    rfl
  unfold betR
  rw [e]

set_option maxHeartbeats 1600000 in
theorem between_any (w : World) (A B : Option Addr) (n c m d : Nat) (xs ys : List Int) (hA : Its w A n xs) (hB : Its w B m ys) (hn : n ≤ maxLen) (hm : m ≤ maxLen) (hnc : n ≤ c) (hcm : c ≤ maxLen) (hmd : m ≤ d) (hdm : d ≤ maxLen) :
    Calls Try.prog 25 #[.slice A n c, .slice B m d] w fun e w' => e = .returned (betR xs ys) ∧ ∃ k, w' = w.drewN k := by
  have hA' := Lib.hid hA
  have hB' := Lib.hid hB
  have hn' := Lib.hid hn
  have hm' := Lib.hid hm
  cases h1 : mayV xs with
  | false =>
    have hv := Lib.hid (bet_no1 (ys := ys) h1)
    have h1' := Lib.hid h1
    clear hA hB hn hm h1 hnc hcm hmd hdm
    go_enter Try.func25, Try.ntmps25
    go_wp2_with (go_at_call 9; refine (may_any w A n c xs hA'.out hn'.out).mono ?_; rw [h1'.out]; rintro e w' ⟨rfl, rfl⟩)
    go_ret2
    exact ⟨by rw [hv.out]; rfl, 0, rfl⟩
  | true =>
    have h1' := Lib.hid h1
    cases h2 : mayV ys with
    | false =>
      have hv := Lib.hid (bet_no2 (xs := xs) h2)
      have h2' := Lib.hid h2
      clear hA hB hn hm h1 h2 hnc hcm hmd hdm
      go_enter Try.func25, Try.ntmps25
      go_wp2_with (first
        | (go_at_call_of 9 (Value.slice A n c); refine (may_any _ A n c xs hA'.out hn'.out).mono ?_; rw [h1'.out]; rintro e w' ⟨rfl, rfl⟩)
        | (go_at_call_of 9 (Value.slice B m d); refine (may_any _ B m d ys hB'.out hm'.out).mono ?_; rw [h2'.out]; rintro e w' ⟨rfl, rfl⟩))
      go_ret2
      exact ⟨by rw [hv.out]; rfl, 0, rfl⟩
    | true =>
      have h2' := Lib.hid h2
      by_cases hnm : n = m
      · subst hnm
        have hne : ((n : Int) != (n : Int)) = false := by rw [bne_self_eq_false]
        have hcm0 := common_le xs ys
        obtain ⟨k, hk⟩ : ∃ k, commonV xs ys = k := ⟨_, rfl⟩
        rw [hk, hA.1] at hcm0
        have hk' := Lib.hid hk
        have hxl := Lib.hid hA.1
        have hyl := Lib.hid hB.1
        by_cases hkn : k = n
        · have hv := Lib.hid (bet_no4 (xs := xs) (ys := ys) (by rw [hk, hA.1]; exact hkn))
          have he : ((k : Int) == (n : Int)) = true := by rw [hkn]; exact beq_self_eq_true _
          clear hA hB hn hm h1 h2 hnc hcm hmd hdm hk hcm0 hkn
          go_enter Try.func25, Try.ntmps25
          go_wp2_with (first
            | (go_at_call_of 9 (Value.slice A n c); refine (may_any _ A n c xs hA'.out hn'.out).mono ?_; rw [h1'.out]; rintro e w' ⟨rfl, rfl⟩)
            | (go_at_call_of 9 (Value.slice B n d); refine (may_any _ B n d ys hB'.out hm'.out).mono ?_; rw [h2'.out]; rintro e w' ⟨rfl, rfl⟩)
            | (go_at_call 16; refine (common_any _ A B n c n d xs ys hA'.out hB'.out hn'.out hm'.out).mono ?_; rw [hk'.out]; rintro e w' ⟨rfl, nd, rfl⟩))
          go_quiet (fail)
          go_wp2_with fail
          go_ret2
          exact ⟨by rw [hv.out]; rfl, nd + nq, by rw [World.drewN_drewN]⟩
        · have hlt : k < n := by omega
          have he : ((k : Int) == (n : Int)) = false := by rw [beq_eq_false_iff_ne]; omega
          obtain ⟨ad, x, rfl, hx, hcx⟩ := hA.at_ hlt
          obtain ⟨bd, y, rfl, hy, hcy⟩ := hB.at_ hlt
          have hmx := (of_decide_eq_true h1).2 x (List.mem_of_getElem? hx)
          have hmy := (of_decide_eq_true h2).2 y (List.mem_of_getElem? hy)
          have j0 : (0 : Int) ≤ (k : Int) := by omega
          have j1 : (k : Int) < (n : Int) := by omega
          have j2 : IntKind.i64.wrap ((k : Int) + 1) = (k : Int) + 1 := IntWalk.i64_in _ (by unfold maxLen at hn; omega)
          have j3 : (0 : Int) ≤ (k : Int) + 1 := by omega
          have j4 : (k : Int) + 1 ≤ (n : Int) := by omega
          have j5 : ((k : Int) + 1).toNat = k + 1 := by omega
          have hAq := Lib.hid (hA.sliced (lo := k + 1) (by omega) hnc)
          have hBq := Lib.hid (hB.sliced (lo := k + 1) (by omega) hmd)
          have hl2 := Lib.hid (show n - (k + 1) ≤ maxLen by omega)
          cases h5 : eqV (xs.drop (k + 1)) (ys.drop (k + 1)) with
          | false =>
            have hv := Lib.hid (bet_no5 hk h5)
            have h5' := Lib.hid h5
            clear hA hB hn hm h1 h2 hnc hcm hmd hdm hk hcm0 hkn hx hy hmx hmy h5 hlt
            rcases Decidable.em (c = k + 1) with hc1 | hc1 <;> rcases Decidable.em (d = k + 1) with hd1 | hd1
            all_goals
              first | (rw [if_pos hc1] at hAq; have hce := eq_true hc1; clear hc1) | (rw [if_neg hc1] at hAq; have hce := eq_false hc1; clear hc1)
              first | (rw [if_pos hd1] at hBq; have hde := eq_true hd1; clear hd1) | (rw [if_neg hd1] at hBq; have hde := eq_false hd1; clear hd1)
              go_enter Try.func25, Try.ntmps25
              go_wp2_with (first
                | (go_at_call_of 9 (Value.slice (some ad) n c); refine (may_any _ _ n c xs hA'.out hn'.out).mono ?_; rw [h1'.out]; rintro e w' ⟨rfl, rfl⟩)
                | (go_at_call_of 9 (Value.slice (some bd) n d); refine (may_any _ _ n d ys hB'.out hm'.out).mono ?_; rw [h2'.out]; rintro e w' ⟨rfl, rfl⟩)
                | (go_at_call 16; refine (common_any _ _ _ n c n d xs ys hA'.out hB'.out hn'.out hm'.out).mono ?_; rw [hk'.out]; rintro e w2 ⟨rfl, nd, hw2⟩; have hAr := Lib.hid (hAq.out.drewn hw2); have hBr := Lib.hid (hBq.out.drewn hw2); have hc1 := cell_drewn hcx hw2; have hc2 := cell_drewn hcy hw2; have hw2' := Lib.hid hw2; clear hw2 hcx hcy))
              go_quiet ((go_at_call 12; (exact same_q _ _ _ (n - (k + 1)) (c - (k + 1)) (n - (k + 1)) (d - (k + 1)) (xs.drop (k + 1)) (ys.drop (k + 1)) false hAr.out hBr.out hl2.out h5'.out _)))
              go_wp2_with fail
              go_ret2
              exact ⟨by rw [hv.out]; rfl, nd + nq, by rw [hw2'.out, World.drewN_drewN]⟩
          | true =>
            have hv := Lib.hid (bet_yes h1 h2 (hA.1.trans hB.1.symm) hk (by rw [hA.1]; exact hlt) hx hy h5)
            have j6 : IntKind.i64.wrap (y - x) = y - x := IntWalk.i64_in _ (by omega)
            have hcx' := Lib.hid hcx
            have hcy' := Lib.hid hcy
            have h5' := Lib.hid h5
            clear hA hB hn hm h1 h2 hnc hcm hmd hdm hk hcm0 hkn hx hy hmx hmy h5 hlt
            rcases Decidable.em (c = k + 1) with hc1 | hc1 <;> rcases Decidable.em (d = k + 1) with hd1 | hd1
            all_goals
              first | (rw [if_pos hc1] at hAq; have hce := eq_true hc1; clear hc1) | (rw [if_neg hc1] at hAq; have hce := eq_false hc1; clear hc1)
              first | (rw [if_pos hd1] at hBq; have hde := eq_true hd1; clear hd1) | (rw [if_neg hd1] at hBq; have hde := eq_false hd1; clear hd1)
              go_enter Try.func25, Try.ntmps25
              go_wp2_with (first
                | (go_at_call_of 9 (Value.slice (some ad) n c); refine (may_any _ _ n c xs hA'.out hn'.out).mono ?_; rw [h1'.out]; rintro e w' ⟨rfl, rfl⟩)
                | (go_at_call_of 9 (Value.slice (some bd) n d); refine (may_any _ _ n d ys hB'.out hm'.out).mono ?_; rw [h2'.out]; rintro e w' ⟨rfl, rfl⟩)
                | (go_at_call 16; refine (common_any _ _ _ n c n d xs ys hA'.out hB'.out hn'.out hm'.out).mono ?_; rw [hk'.out]; rintro e w2 ⟨rfl, nd, hw2⟩; have hAr := Lib.hid (hAq.out.drewn hw2); have hBr := Lib.hid (hBq.out.drewn hw2); have hc1 := cell_drewn hcx hw2; have hc2 := cell_drewn hcy hw2; have hw2' := Lib.hid hw2; clear hw2 hcx hcy))
              go_quiet ((go_at_call 12; exact same_q _ _ _ (n - (k + 1)) (c - (k + 1)) (n - (k + 1)) (d - (k + 1)) (xs.drop (k + 1)) (ys.drop (k + 1)) true hAr.out hBr.out hl2.out h5'.out _))
              go_wp2_with fail
              obtain ⟨w3, hw3⟩ : ∃ w3, w3 = w2.drewN nq := ⟨_, rfl⟩
              have hc3 : w3.cell? (ad.add k) = some (.int .i64 x) := by rw [hw3]; exact hc1
              have hc4 : w3.cell? (bd.add k) = some (.int .i64 y) := by rw [hw3]; exact hc2
              rw [← hw3]
              have hw3' := Lib.hid hw3
              clear hw3
              go_quiet ((go_at_call 36; exact together_q _ _ _ _))
              go_wp2_with fail
              go_ret2
              exact ⟨by rw [hv.out]; rfl, _, by rw [hw3'.out, hw2'.out, World.drewN_drewN, World.drewN_drewN]⟩
      · have hv := Lib.hid (bet_no3 (xs := xs) (ys := ys) (by rw [hA.1, hB.1]; exact hnm))
        have hne : ((n : Int) != (m : Int)) = true := by rw [bne_iff_ne]; omega
        clear hA hB hn hm h1 h2 hnc hcm hmd hdm hnm
        go_enter Try.func25, Try.ntmps25
        go_wp2_with (first
          | (go_at_call_of 9 (Value.slice A n c); refine (may_any _ A n c xs hA'.out hn'.out).mono ?_; rw [h1'.out]; rintro e w' ⟨rfl, rfl⟩)
          | (go_at_call_of 9 (Value.slice B m d); refine (may_any _ B m d ys hB'.out hm'.out).mono ?_; rw [h2'.out]; rintro e w' ⟨rfl, rfl⟩))
        go_ret2
        exact ⟨by rw [hv.out]; rfl, 0, rfl⟩
end Go.Proofs.Ytflllhodeakpgaa
