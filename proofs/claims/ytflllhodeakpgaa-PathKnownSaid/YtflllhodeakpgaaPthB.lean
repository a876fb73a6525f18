/- Common, Same, Within, Compare, the program's and the document's; the kit's SameInts. -/
import Derived.Test.YtflllhodeakpgaaPthA
import Derived.Deep.CutRange
namespace Go.Proofs.Ytflllhodeakpgaa
open Go.RowKit
set_option maxRecDepth 20000


theorem common_take_k {xs ys : List Int} {k : Nat} {x y : Int} (h : commonV xs ys = k + commonV (xs.drop k) (ys.drop k)) (h1 : xs[k]? = some x) (h2 : ys[k]? = some y) (e : (x == y) = true) :
    commonV xs ys = (k + 1) + commonV (xs.drop (k + 1)) (ys.drop (k + 1)) := by
  obtain rfl : x = y := beq_iff_eq.1 e
  have := common_step h1 h2
  omega
theorem common_at_k {xs ys : List Int} {k : Nat} {x y : Int} (h : commonV xs ys = k + commonV (xs.drop k) (ys.drop k)) (h1 : xs[k]? = some x) (h2 : ys[k]? = some y) (e : (x == y) = false) : commonV xs ys = k := by
  have := common_stop h1 h2 (beq_eq_false_iff_ne.1 e)
  omega
theorem bne_of {x y : Int} {b : Bool} (h : (x == y) = b) : (x != y) = !b := by rw [bne, h]

set_option maxHeartbeats 400000 in
theorem common_any (w : World) (A B : Option Addr) (n c m d : Nat) (xs ys : List Int) (hA : Its w A n xs) (hB : Its w B m ys) (hn : n ≤ maxLen) (hm : m ≤ maxLen) :
    Calls Try.prog 16 #[.slice A n c, .slice B m d] w fun e w' => e = .returned (.int .i64 (commonV xs ys : Int)) ∧ ∃ k, w' = w.drewN k := by
  unfold maxLen at hn hm
  have l1 := Lib.hid hA.1
  have l2 := Lib.hid hB.1
  have hA' := Lib.hid hA
  have hB' := Lib.hid hB
  clear hA hB
  go_enter Try.func16, Try.ntmps16
  obtain ⟨s, hsm⟩ : ∃ s : Nat, s = min n m := ⟨_, rfl⟩
  have hsm' := Lib.hid hsm
  go_upto_region 2 with fail
  have hs : (if m < n then (m : Int) else (n : Int)) = (s : Int) := by
    by_cases h : m < n
    · rw [if_pos h]; omega
    · rw [if_neg h]; omega
  rw [hs]
  clear hs hsm
  go_wp2_with fail
  go_loopw [13] (fun i wr => ∃ k : Nat, k ≤ s ∧ i = .int .i64 (k : Int) ∧ commonV xs ys = k + commonV (xs.drop k) (ys.drop k) ∧ ∃ nd, wr = w.drewN nd) (fun i _ => s - (intOf i).toNat)
  case atStart => exact ⟨0, Nat.zero_le _, rfl, by simp, 0, rfl⟩
  case round =>
    obtain ⟨k, hk, rfl, he, nd, rfl⟩ := hrel
    have he' := Lib.hid he
    clear he
    by_cases hlt : k < s
    · obtain ⟨ad, x, rfl, hx, hcx⟩ := hA'.out.at_ (show k < n by have := hsm'.out; omega)
      obtain ⟨bd, y, rfl, hy, hcy⟩ := hB'.out.at_ (show k < m by have := hsm'.out; omega)
      have j0 : (0 : Int) ≤ (k : Int) := by omega
      have j1 : (k : Int) < (n : Int) := by have := hsm'.out; omega
      have j2 : (k : Int) < (m : Int) := by have := hsm'.out; omega
      have hx' := Lib.hid hx
      have hy' := Lib.hid hy
      clear hx hy
      generalize hbb : (x == y) = bb at *
      cases bb with
      | true =>
        have hne := bne_of hbb
        have hnx := Lib.hid (common_take_k he'.out hx'.out hy'.out hbb)
        clear hbb
        go_wp2_with fail
        go_quiet (fail)
        go_wp2_with fail
        go_roundw
        case rel => exact ⟨k + 1, by omega, by go_num, hnx.out, _, rfl⟩
        case measure => simp [intOf]; omega
      | false =>
        have hne := bne_of hbb
        have hv := Lib.hid (common_at_k he'.out hx'.out hy'.out hbb)
        clear hbb
        go_wp2_with fail
        go_quiet (fail)
        go_wp2_with fail
        go_ret
        exact ⟨by rw [hv.out]; rfl, nd + nq, by rw [World.drewN_drewN]⟩
    · have hv := Lib.hid (show commonV xs ys = s by
        have h1 := he'.out
        have h2 := hsm'.out
        have := l1.out
        have := l2.out
        obtain rfl : k = s := by omega
        rw [common_end (by omega)] at h1
        omega)
      go_wp2_with fail
      go_ret
      exact ⟨by rw [hv.out]; rfl, nd, rfl⟩

set_option maxHeartbeats 400000 in
theorem refCommon_any (w : World) (A B : Option Addr) (n c m d : Nat) (xs ys : List Int) (hA : Its w A n xs) (hB : Its w B m ys) (hn : n ≤ maxLen) (hm : m ≤ maxLen) :
    Calls Try.prog 17 #[.slice A n c, .slice B m d] w fun e w' => e = .returned (.int .i64 (commonV xs ys : Int)) ∧ ∃ k, w' = w.drewN k := by
  unfold maxLen at hn hm
  have l1 := Lib.hid hA.1
  have l2 := Lib.hid hB.1
  have hA' := Lib.hid hA
  have hB' := Lib.hid hB
  clear hA hB
  go_enter Try.func17, Try.ntmps17
  go_wp2_with fail
  go_loopw [5] (fun i wr => ∃ k : Nat, k ≤ n ∧ k ≤ m ∧ i = .int .i64 (k : Int) ∧ commonV xs ys = k + commonV (xs.drop k) (ys.drop k) ∧ ∃ nd, wr = w.drewN nd) (fun i _ => n - (intOf i).toNat)
  case atStart => exact ⟨0, Nat.zero_le _, Nat.zero_le _, rfl, by simp, 0, rfl⟩
  case round =>
    obtain ⟨k, hk, hkm, rfl, he, nd, rfl⟩ := hrel
    have he' := Lib.hid he
    clear he
    by_cases hlt : k < n ∧ k < m
    · obtain ⟨ad, x, rfl, hx, hcx⟩ := hA'.out.at_ hlt.1
      obtain ⟨bd, y, rfl, hy, hcy⟩ := hB'.out.at_ hlt.2
      have j0 : (0 : Int) ≤ (k : Int) := by omega
      have j1 : (k : Int) < (n : Int) := by omega
      have j2 : (k : Int) < (m : Int) := by omega
      have hx' := Lib.hid hx
      have hy' := Lib.hid hy
      clear hx hy hlt
      generalize hbb : (x == y) = bb at *
      cases bb with
      | true =>
        have hnx := Lib.hid (common_take_k he'.out hx'.out hy'.out hbb)
        go_wp2_with fail
        go_quiet (fail)
        go_wp2_with fail
        go_roundw
        case rel => exact ⟨k + 1, by omega, by omega, by go_num, hnx.out, _, rfl⟩
        case measure => simp [intOf]; omega
      | false =>
        have hv := Lib.hid (common_at_k he'.out hx'.out hy'.out hbb)
        go_wp2_with fail
        go_quiet (fail)
        go_wp2_with fail
        go_ret
        exact ⟨by rw [hv.out]; rfl, nd + nq, by rw [World.drewN_drewN]⟩
    · have hv := Lib.hid (show commonV xs ys = k by
        have h1 := he'.out
        have := l1.out
        have := l2.out
        rw [common_end (by omega)] at h1
        omega)
      by_cases hkn : (k : Int) < (n : Int)
      · have hkm2 : ((k : Int) < (m : Int)) = False := eq_false (by omega)
        have hkm3 : (k < m) = False := eq_false (by omega)
        clear hlt
        go_wp2_with fail
        go_quiet (fail)
        go_wp2_with fail
        go_ret
        exact ⟨by rw [hv.out]; rfl, nd + nq, by rw [World.drewN_drewN]⟩
      · have hkm2 : ((k : Int) < (n : Int)) = False := eq_false (by omega)
        have hkm3 : (k < n) = False := eq_false (by omega)
        clear hlt
        go_wp2_with fail
        go_quiet (fail)
        go_wp2_with fail
        go_ret
        exact ⟨by rw [hv.out]; rfl, nd + nq, by rw [World.drewN_drewN]⟩

def eqV (xs ys : List Int) : Bool := decide (xs = ys)
theorem eq_step {xs ys : List Int} {k : Nat} {x y : Int} (h : xs = ys ↔ xs.drop k = ys.drop k) (h1 : xs[k]? = some x) (h2 : ys[k]? = some y) (e : (x == y) = true) : xs = ys ↔ xs.drop (k + 1) = ys.drop (k + 1) := by
  obtain rfl : x = y := beq_iff_eq.1 e
  rw [h, drop_at h1, drop_at h2]
  simp
theorem eq_stop {xs ys : List Int} {k : Nat} {x y : Int} (h1 : xs[k]? = some x) (h2 : ys[k]? = some y) (e : (x == y) = false) : eqV xs ys = false :=
  decide_eq_false fun h => by
    subst h
    rw [h1] at h2
    injection h2 with h2
    exact beq_eq_false_iff_ne.1 e h2
theorem eq_end {xs ys : List Int} {k : Nat} (h : xs = ys ↔ xs.drop k = ys.drop k) (h1 : xs.length ≤ k) (h2 : ys.length ≤ k) : eqV xs ys = true :=
  decide_eq_true (h.2 (by rw [List.drop_of_length_le h1, List.drop_of_length_le h2]))
theorem eq_len {xs ys : List Int} (h : xs.length ≠ ys.length) : eqV xs ys = false := decide_eq_false fun e => h (by rw [e])

set_option maxHeartbeats 400000 in
theorem equal_any (w : World) (A B : Option Addr) (n c m d : Nat) (xs ys : List Int) (hA : Its w A n xs) (hB : Its w B m ys) (hn : n ≤ maxLen) :
    Calls Try.prog 33 #[.slice A n c, .slice B m d] w fun e w' => e = .returned (.bool (eqV xs ys)) ∧ ∃ k, w' = w.drewN k := by
  unfold maxLen at hn
  have l1 := Lib.hid hA.1
  have l2 := Lib.hid hB.1
  have hA' := Lib.hid hA
  have hB' := Lib.hid hB
  clear hA hB
  by_cases hnm : n = m
  · subst hnm
    have hne : ((n : Int) != (n : Int)) = false := by rw [bne_self_eq_false]
    go_enter Try.func33, Try.ntmps33
    go_wp2_with fail
    clear hne
    go_loopw [13] (fun i wr => ∃ k : Nat, k ≤ n ∧ i = .int .i64 (k : Int) ∧ (xs = ys ↔ xs.drop k = ys.drop k) ∧ ∃ nd, wr = w.drewN nd) (fun i _ => n - (intOf i).toNat)
    case atStart => exact ⟨0, Nat.zero_le _, rfl, by simp, 0, rfl⟩
    case round =>
      obtain ⟨k, hk, rfl, he, nd, rfl⟩ := hrel
      have he' := Lib.hid he
      clear he
      by_cases hlt : k < n
      · obtain ⟨ad, x, rfl, hx, hcx⟩ := hA'.out.at_ hlt
        obtain ⟨bd, y, rfl, hy, hcy⟩ := hB'.out.at_ hlt
        have j0 : (0 : Int) ≤ (k : Int) := by omega
        have j1 : (k : Int) < (n : Int) := by omega
        have hx' := Lib.hid hx
        have hy' := Lib.hid hy
        clear hx hy
        generalize hbb : (x == y) = bb at *
        cases bb with
        | true =>
          have hne := bne_of hbb
          have hnx := Lib.hid (eq_step he'.out hx'.out hy'.out hbb)
          clear hbb
          go_wp2_with fail
          go_quiet (fail)
          go_wp2_with fail
          go_roundw
          case rel => exact ⟨k + 1, by omega, by go_num, hnx.out, _, rfl⟩
          case measure => simp [intOf]; omega
        | false =>
          have hne := bne_of hbb
          have hv := Lib.hid (eq_stop hx'.out hy'.out hbb)
          clear hbb
          go_wp2_with fail
          go_quiet (fail)
          go_wp2_with fail
          go_ret
          exact ⟨by rw [hv.out]; rfl, nd + nq, by rw [World.drewN_drewN]⟩
      · have hv := Lib.hid (eq_end he'.out (by have := l1.out; omega) (by have := l2.out; omega))
        go_wp2_with fail
        go_ret
        exact ⟨by rw [hv.out]; rfl, nd, rfl⟩
  · have hne : ((n : Int) != (m : Int)) = true := by rw [bne_iff_ne]; omega
    have hv := Lib.hid (show eqV xs ys = false from eq_len (by rw [l1.out, l2.out]; exact hnm))
    clear hnm
    go_enter Try.func33, Try.ntmps33
    go_wp2_with fail
    go_ret
    exact ⟨by rw [hv.out]; rfl, 0, rfl⟩

set_option maxHeartbeats 400000 in
theorem sameInts_any (w : World) (A B : Option Addr) (n c m d : Nat) (xs ys : List Int) (hA : Its w A n xs) (hB : Its w B m ys) (hn : n ≤ maxLen) :
    Calls Try.prog 23 #[.slice A n c, .slice B m d] w fun e w' => e = .returned (.bool (eqV xs ys)) ∧ ∃ k, w' = w.drewN k := by
  unfold maxLen at hn
  have l1 := Lib.hid hA.1
  have l2 := Lib.hid hB.1
  have hA' := Lib.hid hA
  have hB' := Lib.hid hB
  clear hA hB
  by_cases hnm : n = m
  · subst hnm
    have hne : ((n : Int) != (n : Int)) = false := by rw [bne_self_eq_false]
    go_enter Try.func23, Try.ntmps23
    go_wp2_with fail
    clear hne
    go_loopw [5] (fun i wr => ∃ k : Nat, k ≤ n ∧ i = .int .i64 (k : Int) ∧ (xs = ys ↔ xs.drop k = ys.drop k) ∧ ∃ nd, wr = w.drewN nd) (fun i _ => n - (intOf i).toNat)
    case atStart => exact ⟨0, Nat.zero_le _, rfl, by simp, 0, rfl⟩
    case round =>
      obtain ⟨k, hk, rfl, he, nd, rfl⟩ := hrel
      have he' := Lib.hid he
      clear he
      by_cases hlt : k < n
      · obtain ⟨ad, x, rfl, hx, hcx⟩ := hA'.out.at_ hlt
        obtain ⟨bd, y, rfl, hy, hcy⟩ := hB'.out.at_ hlt
        have j0 : (0 : Int) ≤ (k : Int) := by omega
        have j1 : (k : Int) < (n : Int) := by omega
        have hx' := Lib.hid hx
        have hy' := Lib.hid hy
        clear hx hy
        generalize hbb : (x == y) = bb at *
        cases bb with
        | true =>
          have hne := bne_of hbb
          have hnx := Lib.hid (eq_step he'.out hx'.out hy'.out hbb)
          clear hbb
          go_wp2_with fail
          go_quiet (fail)
          go_wp2_with fail
          go_roundw
          case rel => exact ⟨k + 1, by omega, by go_num, hnx.out, _, rfl⟩
          case measure => simp [intOf]; omega
        | false =>
          have hne := bne_of hbb
          have hv := Lib.hid (eq_stop hx'.out hy'.out hbb)
          clear hbb
          go_wp2_with fail
          go_quiet (fail)
          go_wp2_with fail
          go_ret
          exact ⟨by rw [hv.out]; rfl, nd + nq, by rw [World.drewN_drewN]⟩
      · have hv := Lib.hid (eq_end he'.out (by have := l1.out; omega) (by have := l2.out; omega))
        go_wp2_with fail
        go_ret
        exact ⟨by rw [hv.out]; rfl, nd, rfl⟩
  · have hne : ((n : Int) != (m : Int)) = true := by rw [bne_iff_ne]; omega
    have hv := Lib.hid (show eqV xs ys = false from eq_len (by rw [l1.out, l2.out]; exact hnm))
    clear hnm
    go_enter Try.func23, Try.ntmps23
    go_wp2_with fail
    go_ret
    exact ⟨by rw [hv.out]; rfl, 0, rfl⟩

theorem same_any (w : World) (A B : Option Addr) (n c m d : Nat) (xs ys : List Int) (hA : Its w A n xs) (hB : Its w B m ys) (hn : n ≤ maxLen) :
    Calls Try.prog 12 #[.slice A n c, .slice B m d] w fun e w' => e = .returned (.bool (eqV xs ys)) ∧ ∃ k, w' = w.drewN k := by
  have hA' := Lib.hid hA
  have hB' := Lib.hid hB
  clear hA hB
  go_enter Try.func12, Try.ntmps12
  go_wp2_with (go_at_call 33; refine (equal_any w A B n c m d xs ys hA'.out hB'.out hn).mono ?_; rintro e w' ⟨rfl, k, rfl⟩)
  go_ret
  exact ⟨rfl, _, rfl⟩
def withinV (xs ys : List Int) : Bool := decide (commonV xs ys = xs.length)
theorem within_beq {xs ys : List Int} {n : Nat} (h : xs.length = n) : ((commonV xs ys : Int) == (n : Int)) = withinV xs ys := by
  unfold withinV
  rw [h]
  by_cases e : commonV xs ys = n
  · rw [decide_eq_true e, e, beq_self_eq_true]
  · rw [decide_eq_false e, beq_eq_false_iff_ne]
    omega
theorem within_any (w : World) (A B : Option Addr) (n c m d : Nat) (xs ys : List Int) (hA : Its w A n xs) (hB : Its w B m ys) (hn : n ≤ maxLen) (hm : m ≤ maxLen) :
    Calls Try.prog 14 #[.slice A n c, .slice B m d] w fun e w' => e = .returned (.bool (withinV xs ys)) ∧ ∃ k, w' = w.drewN k := by
  have hA' := Lib.hid hA
  have hB' := Lib.hid hB
  have hw := within_beq (ys := ys) hA.1
  clear hA hB
  go_enter Try.func14, Try.ntmps14
  go_wp2_with (go_at_call 16; refine (common_any w A B n c m d xs ys hA'.out hB'.out hn hm).mono ?_; rintro e w' ⟨rfl, k, rfl⟩)
  go_ret
  exact ⟨rfl, _, rfl⟩
theorem refWithin_any (w : World) (A B : Option Addr) (n c m d : Nat) (xs ys : List Int) (hA : Its w A n xs) (hB : Its w B m ys) (hn : n ≤ maxLen) (hm : m ≤ maxLen) :
    Calls Try.prog 15 #[.slice A n c, .slice B m d] w fun e w' => e = .returned (.bool (withinV xs ys)) ∧ ∃ k, w' = w.drewN k := by
  have hA' := Lib.hid hA
  have hB' := Lib.hid hB
  have hw := within_beq (ys := ys) hA.1
  clear hA hB
  go_enter Try.func15, Try.ntmps15
  go_wp2_with (go_at_call 17; refine (refCommon_any w A B n c m d xs ys hA'.out hB'.out hn hm).mono ?_; rintro e w' ⟨rfl, k, rfl⟩)
  go_ret
  exact ⟨rfl, _, rfl⟩
theorem eq_within {xs ys : List Int} (h : xs.length = ys.length) : withinV xs ys = eqV xs ys := by
  unfold withinV eqV
  rw [decide_eq_decide]
  exact common_full h
theorem refSame_any (w : World) (A B : Option Addr) (n c m d : Nat) (xs ys : List Int) (hA : Its w A n xs) (hB : Its w B m ys) (hn : n ≤ maxLen) (hm : m ≤ maxLen) :
    Calls Try.prog 13 #[.slice A n c, .slice B m d] w fun e w' => e = .returned (.bool (eqV xs ys)) ∧ ∃ k, w' = w.drewN k := by
  have hA' := Lib.hid hA
  have hB' := Lib.hid hB
  by_cases hnm : n = m
  · subst hnm
    have hw := within_beq (ys := ys) hA.1
    rw [eq_within (hA.1.trans hB.1.symm)] at hw
    have hne : ((n : Int) == (n : Int)) = true := by rw [beq_self_eq_true]
    clear hA hB
    go_enter Try.func13, Try.ntmps13
    go_wp2_with (go_at_call 17; refine (refCommon_any w A B n c n d xs ys hA'.out hB'.out hn hm).mono ?_; rintro e w' ⟨rfl, k, rfl⟩)
    go_ret
    exact ⟨rfl, _, rfl⟩
  · have hne : ((n : Int) == (m : Int)) = false := by rw [beq_eq_false_iff_ne]; omega
    have hv := Lib.hid (show eqV xs ys = false from eq_len (by rw [hA.1, hB.1]; exact hnm))
    clear hA hB hnm
    go_enter Try.func13, Try.ntmps13
    go_wp2_with fail
    go_ret
    exact ⟨by rw [hv.out]; rfl, 0, rfl⟩
end Go.Proofs.Ytflllhodeakpgaa
