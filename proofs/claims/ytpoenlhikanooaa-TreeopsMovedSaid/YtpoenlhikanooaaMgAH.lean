/- MgAH: PthB PthC PthD PthE PthF -/
import Derived.Test.YtpoenlhikanooaaMgAG
import Derived.Deep.CutRange
import Derived.Deep.RegionWith
import Derived.OwnWalk
import Derived.Laws.FloatArith
import Derived.Laws.Cover2
import Derived.Laws.Cover3
import Derived.Laws.OwnMore
set_option linter.all false
/- Common, Same, Within, Compare, the program's and the document's; the kit's SameInts. -/
namespace Go.Proofs.Ytpoenlhikanooaa.P4
set_option linter.unusedVariables false
open Go.RowKit
set_option maxRecDepth 20000


theorem common_take_k {xs ys : List Int} {k : Nat} {x y : Int} (h : commonV xs ys = k + commonV (xs.drop k) (ys.drop k)) (h1 : xs[k]? = some x) (h2 : ys[k]? = some y) (e : (x == y) = true) :
    commonV xs ys = (k + 1) + commonV (xs.drop (k + 1)) (ys.drop (k + 1)) := by
  obtain rfl : x = y := beq_iff_eq.1 e
  have := common_step h1 h2
  omega
theorem common_at_k {xs ys : List Int} {k : Nat} {x y : Int} (h : commonV xs ys = k + commonV (xs.drop k) (ys.drop k)) (h1 : xs[k]? = some x) (h2 : ys[k]? = some y) (e : (x == y) = false) : commonV xs ys = k := by
  have := common_stop h1 h2 (beq_eq_false_iff_ne.1 e)
  omega
theorem bne_of {x y : Int} {b : Bool} (h : (x == y) = b) : (x != y) = !b := by rw [bne, h]

set_option maxHeartbeats 400000 in
theorem common_any (w : World) (A B : Option Addr) (n c m d : Nat) (xs ys : List Int) (hA : Its w A n xs) (hB : Its w B m ys) (hn : n ≤ maxLen) (hm : m ≤ maxLen) :
    Calls Try.prog 140 #[.slice A n c, .slice B m d] w fun e w' => e = .returned (.int .i64 (commonV xs ys : Int)) ∧ ∃ k, w' = w.drewN k := by
  unfold maxLen at hn hm
  have l1 := Lib.hid hA.1
  have l2 := Lib.hid hB.1
  have hA' := Lib.hid hA
  have hB' := Lib.hid hB
  clear hA hB
  go_enter Try.func140, Try.ntmps140
  obtain ⟨s, hsm⟩ : ∃ s : Nat, s = min n m := ⟨_, rfl⟩
  have hsm' := Lib.hid hsm
  go_upto_region 2 with fail
  have hs : (if m < n then (m : Int) else (n : Int)) = (s : Int) := by
    by_cases h : m < n
    · rw [if_pos h]; omega
    · rw [if_neg h]; omega
  rw [hs]
  clear hs hsm
  go_wp2_with fail
  go_loopw [13] (fun i wr => ∃ k : Nat, k ≤ s ∧ i = .int .i64 (k : Int) ∧ commonV xs ys = k + commonV (xs.drop k) (ys.drop k) ∧ ∃ nd, wr = w.drewN nd) (fun i _ => s - (intOf i).toNat)
  case atStart => exact ⟨0, Nat.zero_le _, rfl, by simp, 0, rfl⟩
  case round =>
    obtain ⟨k, hk, rfl, he, nd, rfl⟩ := hrel
    have he' := Lib.hid he
    clear he
    by_cases hlt : k < s
    · obtain ⟨ad, x, rfl, hx, hcx⟩ := hA'.out.at_ (show k < n by have := hsm'.out; omega)
      obtain ⟨bd, y, rfl, hy, hcy⟩ := hB'.out.at_ (show k < m by have := hsm'.out; omega)
      have j0 : (0 : Int) ≤ (k : Int) := by omega
      have j1 : (k : Int) < (n : Int) := by have := hsm'.out; omega
      have j2 : (k : Int) < (m : Int) := by have := hsm'.out; omega
      have hx' := Lib.hid hx
      have hy' := Lib.hid hy
      clear hx hy
      generalize hbb : (x == y) = bb at *
      cases bb with
      | true =>
        have hne := bne_of hbb
        have hnx := Lib.hid (common_take_k he'.out hx'.out hy'.out hbb)
        clear hbb
        go_wp2_with fail
        go_quiet (fail)
        go_wp2_with fail
        go_roundw
        case rel => exact ⟨k + 1, by omega, by go_num, hnx.out, _, rfl⟩
        case measure => simp [intOf]; omega
      | false =>
        have hne := bne_of hbb
        have hv := Lib.hid (common_at_k he'.out hx'.out hy'.out hbb)
        clear hbb
        go_wp2_with fail
        go_quiet (fail)
        go_wp2_with fail
        go_ret
        exact ⟨by rw [hv.out]; rfl, nd + nq, by rw [World.drewN_drewN]⟩
    · have hv := Lib.hid (show commonV xs ys = s by
        have h1 := he'.out
        have h2 := hsm'.out
        have := l1.out
        have := l2.out
        obtain rfl : k = s := by omega
        rw [common_end (by omega)] at h1
        omega)
      go_wp2_with fail
      go_ret
      exact ⟨by rw [hv.out]; rfl, nd, rfl⟩

set_option maxHeartbeats 400000 in
theorem refCommon_any (w : World) (A B : Option Addr) (n c m d : Nat) (xs ys : List Int) (hA : Its w A n xs) (hB : Its w B m ys) (hn : n ≤ maxLen) (hm : m ≤ maxLen) :
    Calls Try.prog 79 #[.slice A n c, .slice B m d] w fun e w' => e = .returned (.int .i64 (commonV xs ys : Int)) ∧ ∃ k, w' = w.drewN k := by
  unfold maxLen at hn hm
  have l1 := Lib.hid hA.1
  have l2 := Lib.hid hB.1
  have hA' := Lib.hid hA
  have hB' := Lib.hid hB
  clear hA hB
  go_enter Try.func79, Try.ntmps79
  go_wp2_with fail
  go_loopw [5] (fun i wr => ∃ k : Nat, k ≤ n ∧ k ≤ m ∧ i = .int .i64 (k : Int) ∧ commonV xs ys = k + commonV (xs.drop k) (ys.drop k) ∧ ∃ nd, wr = w.drewN nd) (fun i _ => n - (intOf i).toNat)
  case atStart => exact ⟨0, Nat.zero_le _, Nat.zero_le _, rfl, by simp, 0, rfl⟩
  case round =>
    obtain ⟨k, hk, hkm, rfl, he, nd, rfl⟩ := hrel
    have he' := Lib.hid he
    clear he
    by_cases hlt : k < n ∧ k < m
    · obtain ⟨ad, x, rfl, hx, hcx⟩ := hA'.out.at_ hlt.1
      obtain ⟨bd, y, rfl, hy, hcy⟩ := hB'.out.at_ hlt.2
      have j0 : (0 : Int) ≤ (k : Int) := by omega
      have j1 : (k : Int) < (n : Int) := by omega
      have j2 : (k : Int) < (m : Int) := by omega
      have hx' := Lib.hid hx
      have hy' := Lib.hid hy
      clear hx hy hlt
      generalize hbb : (x == y) = bb at *
      cases bb with
      | true =>
        have hnx := Lib.hid (common_take_k he'.out hx'.out hy'.out hbb)
        go_wp2_with fail
        go_quiet (fail)
        go_wp2_with fail
        go_roundw
        case rel => exact ⟨k + 1, by omega, by omega, by go_num, hnx.out, _, rfl⟩
        case measure => simp [intOf]; omega
      | false =>
        have hv := Lib.hid (common_at_k he'.out hx'.out hy'.out hbb)
        go_wp2_with fail
        go_quiet (fail)
        go_wp2_with fail
        go_ret
        exact ⟨by rw [hv.out]; rfl, nd + nq, by rw [World.drewN_drewN]⟩
    · have hv := Lib.hid (show commonV xs ys = k by
        have h1 := he'.out
        have := l1.out
        have := l2.out
        rw [common_end (by omega)] at h1
        omega)
      by_cases hkn : (k : Int) < (n : Int)
      · have hkm2 : ((k : Int) < (m : Int)) = False := eq_false (by omega)
        have hkm3 : (k < m) = False := eq_false (by omega)
        clear hlt
        go_wp2_with fail
        go_quiet (fail)
        go_wp2_with fail
        go_ret
        exact ⟨by rw [hv.out]; rfl, nd + nq, by rw [World.drewN_drewN]⟩
      · have hkm2 : ((k : Int) < (n : Int)) = False := eq_false (by omega)
        have hkm3 : (k < n) = False := eq_false (by omega)
        clear hlt
        go_wp2_with fail
        go_quiet (fail)
        go_wp2_with fail
        go_ret
        exact ⟨by rw [hv.out]; rfl, nd + nq, by rw [World.drewN_drewN]⟩

def eqV (xs ys : List Int) : Bool := decide (xs = ys)
theorem eq_step {xs ys : List Int} {k : Nat} {x y : Int} (h : xs = ys ↔ xs.drop k = ys.drop k) (h1 : xs[k]? = some x) (h2 : ys[k]? = some y) (e : (x == y) = true) : xs = ys ↔ xs.drop (k + 1) = ys.drop (k + 1) := by
  obtain rfl : x = y := beq_iff_eq.1 e
  rw [h, drop_at h1, drop_at h2]
  simp
theorem eq_stop {xs ys : List Int} {k : Nat} {x y : Int} (h1 : xs[k]? = some x) (h2 : ys[k]? = some y) (e : (x == y) = false) : eqV xs ys = false :=
  decide_eq_false fun h => by
    subst h
    rw [h1] at h2
    injection h2 with h2
    exact beq_eq_false_iff_ne.1 e h2
theorem eq_end {xs ys : List Int} {k : Nat} (h : xs = ys ↔ xs.drop k = ys.drop k) (h1 : xs.length ≤ k) (h2 : ys.length ≤ k) : eqV xs ys = true :=
  decide_eq_true (h.2 (by rw [List.drop_of_length_le h1, List.drop_of_length_le h2]))
theorem eq_len {xs ys : List Int} (h : xs.length ≠ ys.length) : eqV xs ys = false := decide_eq_false fun e => h (by rw [e])

set_option maxHeartbeats 400000 in
theorem equal_any (w : World) (A B : Option Addr) (n c m d : Nat) (xs ys : List Int) (hA : Its w A n xs) (hB : Its w B m ys) (hn : n ≤ maxLen) :
    Calls Try.prog 101 #[.slice A n c, .slice B m d] w fun e w' => e = .returned (.bool (eqV xs ys)) ∧ ∃ k, w' = w.drewN k := by
  unfold maxLen at hn
  have l1 := Lib.hid hA.1
  have l2 := Lib.hid hB.1
  have hA' := Lib.hid hA
  have hB' := Lib.hid hB
  clear hA hB
  by_cases hnm : n = m
  · subst hnm
    have hne : ((n : Int) != (n : Int)) = false := by rw [bne_self_eq_false]
    go_enter Try.func101, Try.ntmps101
    go_wp2_with fail
    clear hne
    go_loopw [13] (fun i wr => ∃ k : Nat, k ≤ n ∧ i = .int .i64 (k : Int) ∧ (xs = ys ↔ xs.drop k = ys.drop k) ∧ ∃ nd, wr = w.drewN nd) (fun i _ => n - (intOf i).toNat)
    case atStart => exact ⟨0, Nat.zero_le _, rfl, by simp, 0, rfl⟩
    case round =>
      obtain ⟨k, hk, rfl, he, nd, rfl⟩ := hrel
      have he' := Lib.hid he
      clear he
      by_cases hlt : k < n
      · obtain ⟨ad, x, rfl, hx, hcx⟩ := hA'.out.at_ hlt
        obtain ⟨bd, y, rfl, hy, hcy⟩ := hB'.out.at_ hlt
        have j0 : (0 : Int) ≤ (k : Int) := by omega
        have j1 : (k : Int) < (n : Int) := by omega
        have hx' := Lib.hid hx
        have hy' := Lib.hid hy
        clear hx hy
        generalize hbb : (x == y) = bb at *
        cases bb with
        | true =>
          have hne := bne_of hbb
          have hnx := Lib.hid (eq_step he'.out hx'.out hy'.out hbb)
          clear hbb
          go_wp2_with fail
          go_quiet (fail)
          go_wp2_with fail
          go_roundw
          case rel => exact ⟨k + 1, by omega, by go_num, hnx.out, _, rfl⟩
          case measure => simp [intOf]; omega
        | false =>
          have hne := bne_of hbb
          have hv := Lib.hid (eq_stop hx'.out hy'.out hbb)
          clear hbb
          go_wp2_with fail
          go_quiet (fail)
          go_wp2_with fail
          go_ret
          exact ⟨by rw [hv.out]; rfl, nd + nq, by rw [World.drewN_drewN]⟩
      · have hv := Lib.hid (eq_end he'.out (by have := l1.out; omega) (by have := l2.out; omega))
        go_wp2_with fail
        go_ret
        exact ⟨by rw [hv.out]; rfl, nd, rfl⟩
  · have hne : ((n : Int) != (m : Int)) = true := by rw [bne_iff_ne]; omega
    have hv := Lib.hid (show eqV xs ys = false from eq_len (by rw [l1.out, l2.out]; exact hnm))
    clear hnm
    go_enter Try.func101, Try.ntmps101
    go_wp2_with fail
    go_ret
    exact ⟨by rw [hv.out]; rfl, 0, rfl⟩

theorem same_any (w : World) (A B : Option Addr) (n c m d : Nat) (xs ys : List Int) (hA : Its w A n xs) (hB : Its w B m ys) (hn : n ≤ maxLen) :
    Calls Try.prog 62 #[.slice A n c, .slice B m d] w fun e w' => e = .returned (.bool (eqV xs ys)) ∧ ∃ k, w' = w.drewN k := by
  have hA' := Lib.hid hA
  have hB' := Lib.hid hB
  clear hA hB
  go_enter Try.func62, Try.ntmps62
  go_wp2_with (go_at_call 101; refine (equal_any w A B n c m d xs ys hA'.out hB'.out hn).mono ?_; rintro e w' ⟨rfl, k, rfl⟩)
  go_ret
  exact ⟨rfl, _, rfl⟩
def withinV (xs ys : List Int) : Bool := decide (commonV xs ys = xs.length)
theorem within_beq {xs ys : List Int} {n : Nat} (h : xs.length = n) : ((commonV xs ys : Int) == (n : Int)) = withinV xs ys := by
  unfold withinV
  rw [h]
  by_cases e : commonV xs ys = n
  · rw [decide_eq_true e, e, beq_self_eq_true]
  · rw [decide_eq_false e, beq_eq_false_iff_ne]
    omega
theorem within_any (w : World) (A B : Option Addr) (n c m d : Nat) (xs ys : List Int) (hA : Its w A n xs) (hB : Its w B m ys) (hn : n ≤ maxLen) (hm : m ≤ maxLen) :
    Calls Try.prog 98 #[.slice A n c, .slice B m d] w fun e w' => e = .returned (.bool (withinV xs ys)) ∧ ∃ k, w' = w.drewN k := by
  have hA' := Lib.hid hA
  have hB' := Lib.hid hB
  have hw := within_beq (ys := ys) hA.1
  clear hA hB
  go_enter Try.func98, Try.ntmps98
  go_wp2_with (go_at_call 140; refine (common_any w A B n c m d xs ys hA'.out hB'.out hn hm).mono ?_; rintro e w' ⟨rfl, k, rfl⟩)
  go_ret
  exact ⟨rfl, _, rfl⟩
theorem eq_within {xs ys : List Int} (h : xs.length = ys.length) : withinV xs ys = eqV xs ys := by
  unfold withinV eqV
  rw [decide_eq_decide]
  exact common_full h
theorem refSame_any (w : World) (A B : Option Addr) (n c m d : Nat) (xs ys : List Int) (hA : Its w A n xs) (hB : Its w B m ys) (hn : n ≤ maxLen) (hm : m ≤ maxLen) :
    Calls Try.prog 37 #[.slice A n c, .slice B m d] w fun e w' => e = .returned (.bool (eqV xs ys)) ∧ ∃ k, w' = w.drewN k := by
  have hA' := Lib.hid hA
  have hB' := Lib.hid hB
  by_cases hnm : n = m
  · subst hnm
    have hw := within_beq (ys := ys) hA.1
    rw [eq_within (hA.1.trans hB.1.symm)] at hw
    have hne : ((n : Int) == (n : Int)) = true := by rw [beq_self_eq_true]
    clear hA hB
    go_enter Try.func37, Try.ntmps37
    go_wp2_with (go_at_call 79; refine (refCommon_any w A B n c n d xs ys hA'.out hB'.out hn hm).mono ?_; rintro e w' ⟨rfl, k, rfl⟩)
    go_ret
    exact ⟨rfl, _, rfl⟩
  · have hne : ((n : Int) == (m : Int)) = false := by rw [beq_eq_false_iff_ne]; omega
    have hv := Lib.hid (show eqV xs ys = false from eq_len (by rw [hA.1, hB.1]; exact hnm))
    clear hA hB hnm
    go_enter Try.func37, Try.ntmps37
    go_wp2_with fail
    go_ret
    exact ⟨by rw [hv.out]; rfl, 0, rfl⟩
end Go.Proofs.Ytpoenlhikanooaa.P4
/- Compare, the program's and the document's. -/
namespace Go.Proofs.Ytpoenlhikanooaa.P4
set_option linter.unusedVariables false
open Go.RowKit
set_option maxRecDepth 20000

end Go.Proofs.Ytpoenlhikanooaa.P4
/- Copies; parents and children. -/
namespace Go.Proofs.Ytpoenlhikanooaa.P4
set_option linter.unusedVariables false
open Go.RowKit
set_option maxRecDepth 20000

/-- a new row of the call's own with these numbers -/
def NewRow (w : World) (xs : List Int) (e : Ending) (w' : World) : Prop := ∃ v, e = .returned v ∧ OwnI w.heap.size w' v xs ∧ Below w.heap.size w w'
theorem grown_nil {w w' : World} (hg : w.grownBy w' (Value.slice none 0 0).ownBlock) : Below w.heap.size w w' :=
  Below.grown (Below.refl _ _) hg (Nat.le_refl _) (by intro k hk; cases hk)

theorem copied_any (w : World) (A : Option Addr) (n c : Nat) (xs : List Int) (hA : Its w A n xs) (hnil : A = none → c = 0) (hn : n ≤ 500000) :
    Calls Try.prog 139 #[.slice A n c] w (NewRow w xs) := by
  have hA' := Lib.hid hA
  have hl := Lib.hid hA.1
  have hn' := Lib.hid hnil
  clear hA hnil
  go_enter Try.func139, Try.ntmps139
  go_wp2_with (at_builtin; refine wpList_append_its rfl _ (.tmp 3) rfl w.heap.size (.slice none 0 0) [] xs rfl (OwnI.nil_ _ _) A n c rfl hA'.out hn'.out (by have := hl.out; simp; omega) (Nat.le_refl _) ?_; intro v1 w1 ho1 hg1 hat1)
  go_ret
  exact ⟨_, rfl, ho1, grown_nil hg1⟩
/-- what Parent tells -/
def Parented (w : World) (xs : List Int) (e : Ending) (w' : World) : Prop :=
  (xs = [] ∧ e = .returned (.tuple #[.slice none 0 0, .int .i64 0, .bool false]) ∧ w' = w) ∨
  (∃ (v : Value) (ys : List Int) (z : Int), xs = ys ++ [z] ∧ e = .returned (.tuple #[v, .int .i64 z, .bool true]) ∧ OwnI w.heap.size w' v ys ∧ Below w.heap.size w w')
theorem parent_any (w : World) (A : Option Addr) (n c : Nat) (xs : List Int) (hA : Its w A n xs) (hnil : A = none → c = 0) (hn : n ≤ 500000) (hnc : n ≤ c) (hcm : c ≤ maxLen) :
    Calls Try.prog 97 #[.slice A n c] w (Parented w xs) := by
  have hA' := Lib.hid hA
  have hl := Lib.hid hA.1
  have hn' := Lib.hid hnil
  rcases Nat.eq_zero_or_pos n with h0 | h0
  · subst h0
    obtain rfl := List.eq_nil_of_length_eq_zero hA.1
    clear hA hnil
    go_enter Try.func97, Try.ntmps97
    go_wp2_with fail
    go_ret3
    exact .inl ⟨rfl, rfl, rfl⟩
  · obtain ⟨m, rfl⟩ : ∃ m, n = m + 1 := ⟨n - 1, by omega⟩
    obtain ⟨ad, z, rfl, hz, hcz⟩ := hA.at_ (show m < m + 1 by omega)
    have hlt : (ad.add m).block < w.heap.size := World.block_lt_of_cell? w _ hcz
    have hup := Lib.hid (hA.upto (q := m) (by omega))
    have hx := Lib.hid (show xs = xs.take m ++ [z] by
      have h1 := hA.1
      have h2 : xs.take (m + 1) = xs := List.take_of_length_le (by omega)
      rw [List.take_add_one, hz] at h2
      exact h2.symm)
    have e1 : (((m + 1 : Nat) : Int) == 0) = false := by rw [beq_eq_false_iff_ne]; omega
    have e2 : ((m + 1 : Nat) : Int) - 1 = (m : Int) := by omega
    have e3 : (0 : Int) ≤ (m : Int) := by omega
    have e4 : (m : Int) ≤ (c : Int) := by omega
    have e5 : (m : Int) < ((m + 1 : Nat) : Int) := by omega
    have e6 : (m : Int) < (m : Int) + 1 := by omega
    have hm5 : m ≤ 500000 := by omega
    clear hA hnil hz
    go_enter Try.func97, Try.ntmps97
    go_wp2_with fail
    go_region_law (first
      | (go_simp; go_at_call 139; refine (copied_any w.drew _ m c (xs.take m) (hup.out.drewN 1) (fun e => by cases e) hm5).mono ?_; rintro e w2 ⟨v2, rfl, ho2, hb2'⟩; have hb2 : Below w.heap.size w w2 := ⟨hb2'.os, hb2'.tape, hb2'.output, hb2'.size, hb2'.block⟩; clear hb2'; have hc2 := (hb2.cell (p := ad.add m) hlt).trans hcz))
    all_goals
      go_wp2_with fail
      go_ret3
      exact .inr ⟨v2, _, z, hx.out, rfl, ho2, hb2⟩
end Go.Proofs.Ytpoenlhikanooaa.P4
/- A shift's parts, as the program takes them out of a complex number; a shift made of its parts; Between. -/
namespace Go.Proofs.Ytpoenlhikanooaa.P4
set_option linter.unusedVariables false
open Go.RowKit
set_option maxRecDepth 20000

def ordF (a b : Nat) : Option Ordering := FloatKind.f64.format.order a b
def fOf (n : Int) : Nat := floatOfInt .f64 n
/-- b is from lo to hi -/
def inF (b : Nat) (lo hi : Int) : Bool := (ordF b (fOf lo) == some .gt || ordF b (fOf lo) == some .eq) && (ordF b (fOf hi) == some .lt || ordF b (fOf hi) == some .eq)
/-- the whole number that b is, if it is one from lo to hi -/
def wholeV (b : Nat) (lo hi : Int) : Option Int :=
  if inF b lo hi then match floatToIntVal .f64 b .i64 with
    | some n => if ordF b (fOf n) == some .eq then some n else none
    | none => none
  else none
/-- where b is in its bounds, it can be made an integer -/
def fineF (b : Nat) (lo hi : Int) : Bool := !inF b lo hi || (floatToIntVal .f64 b .i64).isSome

def wholeR (b : Nat) (lo hi : Int) : Ending :=
  match wholeV b lo hi with
  | some n => .returned (.tuple #[.int .i64 n, .bool true])
  | none => .returned (.tuple #[.int .i64 0, .bool false])
set_option maxHeartbeats 800000 in
theorem whole_any (w : World) (b : Nat) (lo hi : Int) (hf : fineF b lo hi = true) :
    Calls Try.prog 169 #[.float .f64 b, .int .i64 lo, .int .i64 hi] w fun e w' => e = wholeR b lo hi ∧ w = w' := by
  generalize h1 : (ordF b (fOf lo) == some .gt || ordF b (fOf lo) == some .eq) = g1
  have k1 : (FloatKind.f64.format.order b (floatOfInt .f64 lo) == some .gt || FloatKind.f64.format.order b (floatOfInt .f64 lo) == some .eq) = g1 := h1
  have h1' := Lib.hid h1
  cases g1 with
  | false =>
    have hv := Lib.hid (show wholeR b lo hi = .returned (.tuple #[.int .i64 0, .bool false]) by unfold wholeR wholeV inF; rw [h1'.out]; rfl)
    clear hf h1
    go_enter Try.func169, Try.ntmps169
    go_wp2_with fail
    go_ret2
    exact ⟨by rw [hv.out]; rfl, rfl⟩
  | true =>
    generalize h2 : (ordF b (fOf hi) == some .lt || ordF b (fOf hi) == some .eq) = g2
    have k2 : (FloatKind.f64.format.order b (floatOfInt .f64 hi) == some .lt || FloatKind.f64.format.order b (floatOfInt .f64 hi) == some .eq) = g2 := h2
    have h2' := Lib.hid h2
    cases g2 with
    | false =>
      have hv := Lib.hid (show wholeR b lo hi = .returned (.tuple #[.int .i64 0, .bool false]) by unfold wholeR wholeV inF; rw [h1'.out, h2'.out]; rfl)
      clear hf h1 h2
      go_enter Try.func169, Try.ntmps169
      go_wp2_with fail
      go_ret2
      exact ⟨by rw [hv.out]; rfl, rfl⟩
    | true =>
      have hin : inF b lo hi = true := by unfold inF; rw [h1, h2]; rfl
      obtain ⟨n, hn⟩ : ∃ n, floatToIntVal .f64 b .i64 = some n := by
        unfold fineF at hf
        rw [hin] at hf
        exact Option.isSome_iff_exists.1 (by simpa using hf)
      have hcv := run_convert_float_int (P := Try.prog) w 160 3 .f64 .i64 b n (by rw [Try.underlying160]; rfl) Try.underlying3 hn
      generalize h3 : (ordF b (fOf n) == some .eq) = g3
      have k3 : (FloatKind.f64.format.order b (floatOfInt .f64 n) == some .eq) = g3 := h3
      have h3' := Lib.hid h3
      have hin' := Lib.hid hin
      have hn' := Lib.hid hn
      cases g3 with
      | false =>
        have hv := Lib.hid (show wholeR b lo hi = .returned (.tuple #[.int .i64 0, .bool false]) by unfold wholeR wholeV; rw [hin'.out, hn'.out]; simp [h3'.out])
        clear hf h1 h2 h3 hin hn
        go_enter Try.func169, Try.ntmps169
        go_wp2_with fail
        go_ret2
        exact ⟨by rw [hv.out]; rfl, rfl⟩
      | true =>
        have hv := Lib.hid (show wholeR b lo hi = .returned (.tuple #[.int .i64 n, .bool true]) by unfold wholeR wholeV; rw [hin'.out, hn'.out]; simp [h3'.out])
        clear hf h1 h2 h3 hin hn
        go_enter Try.func169, Try.ntmps169
        go_wp2_with fail
        go_ret2
        exact ⟨by rw [hv.out]; rfl, rfl⟩

def partsV (re im : Nat) : Option (Int × Int) :=
  match wholeV im 0 63, wholeV re (-1048575) 1048575 with
  | some a, some b => some (a, b)
  | _, _ => none
def fineP (re im : Nat) : Bool := fineF im 0 63 && fineF re (-1048575) 1048575
def partsR (re im : Nat) : Ending :=
  match partsV re im with
  | some x => .returned (.tuple #[.int .i64 x.1, .int .i64 x.2, .bool true])
  | none => .returned (.tuple #[.int .i64 0, .int .i64 0, .bool false])
set_option maxHeartbeats 800000 in
theorem parts_any (w : World) (re im : Nat) (hf : fineP re im = true) :
    Calls Try.prog 162 #[.complex .f64 re im] w fun e w' => e = partsR re im ∧ w = w' := by
  have hf' : fineF im 0 63 = true ∧ fineF re (-1048575) 1048575 = true := by simpa [fineP] using hf
  obtain ⟨f1, f2⟩ := hf'
  have f1' := Lib.hid f1
  have f2' := Lib.hid f2
  cases h1 : wholeV im 0 63 with
  | none =>
    have r1 := Lib.hid (show wholeR im 0 63 = .returned (.tuple #[.int .i64 0, .bool false]) by unfold wholeR; rw [h1])
    cases h2 : wholeV re (-1048575) 1048575 with
    | none =>
      have r2 := Lib.hid (show wholeR re (-1048575) 1048575 = .returned (.tuple #[.int .i64 0, .bool false]) by unfold wholeR; rw [h2])
      have hv := Lib.hid (show partsR re im = .returned (.tuple #[.int .i64 0, .int .i64 0, .bool false]) by unfold partsR partsV; rw [h1, h2])
      clear hf f1 f2 h1 h2
      go_enter Try.func162, Try.ntmps162
      go_wp2_with (first
        | (go_at_call_of 169 (Value.float .f64 im); refine (whole_any w im 0 63 f1'.out).mono ?_; rw [r1.out]; rintro e w' ⟨rfl, rfl⟩)
        | (go_at_call_of 169 (Value.float .f64 re); refine (whole_any w re (-1048575) 1048575 f2'.out).mono ?_; rw [r2.out]; rintro e w' ⟨rfl, rfl⟩))
      go_ret3
      exact ⟨by rw [hv.out]; rfl, rfl⟩
    | some y =>
      have r2 := Lib.hid (show wholeR re (-1048575) 1048575 = .returned (.tuple #[.int .i64 y, .bool true]) by unfold wholeR; rw [h2])
      have hv := Lib.hid (show partsR re im = .returned (.tuple #[.int .i64 0, .int .i64 0, .bool false]) by unfold partsR partsV; rw [h1, h2])
      clear hf f1 f2 h1 h2
      go_enter Try.func162, Try.ntmps162
      go_wp2_with (first
        | (go_at_call_of 169 (Value.float .f64 im); refine (whole_any w im 0 63 f1'.out).mono ?_; rw [r1.out]; rintro e w' ⟨rfl, rfl⟩)
        | (go_at_call_of 169 (Value.float .f64 re); refine (whole_any w re (-1048575) 1048575 f2'.out).mono ?_; rw [r2.out]; rintro e w' ⟨rfl, rfl⟩))
      go_ret3
      exact ⟨by rw [hv.out]; rfl, rfl⟩
  | some x =>
    have r1 := Lib.hid (show wholeR im 0 63 = .returned (.tuple #[.int .i64 x, .bool true]) by unfold wholeR; rw [h1])
    cases h2 : wholeV re (-1048575) 1048575 with
    | none =>
      have r2 := Lib.hid (show wholeR re (-1048575) 1048575 = .returned (.tuple #[.int .i64 0, .bool false]) by unfold wholeR; rw [h2])
      have hv := Lib.hid (show partsR re im = .returned (.tuple #[.int .i64 0, .int .i64 0, .bool false]) by unfold partsR partsV; rw [h1, h2])
      clear hf f1 f2 h1 h2
      go_enter Try.func162, Try.ntmps162
      go_wp2_with (first
        | (go_at_call_of 169 (Value.float .f64 im); refine (whole_any w im 0 63 f1'.out).mono ?_; rw [r1.out]; rintro e w' ⟨rfl, rfl⟩)
        | (go_at_call_of 169 (Value.float .f64 re); refine (whole_any w re (-1048575) 1048575 f2'.out).mono ?_; rw [r2.out]; rintro e w' ⟨rfl, rfl⟩))
      go_ret3
      exact ⟨by rw [hv.out]; rfl, rfl⟩
    | some y =>
      have r2 := Lib.hid (show wholeR re (-1048575) 1048575 = .returned (.tuple #[.int .i64 y, .bool true]) by unfold wholeR; rw [h2])
      have hv := Lib.hid (show partsR re im = .returned (.tuple #[.int .i64 x, .int .i64 y, .bool true]) by unfold partsR partsV; rw [h1, h2])
      clear hf f1 f2 h1 h2
      go_enter Try.func162, Try.ntmps162
      go_wp2_with (first
        | (go_at_call_of 169 (Value.float .f64 im); refine (whole_any w im 0 63 f1'.out).mono ?_; rw [r1.out]; rintro e w' ⟨rfl, rfl⟩)
        | (go_at_call_of 169 (Value.float .f64 re); refine (whole_any w re (-1048575) 1048575 f2'.out).mono ?_; rw [r2.out]; rintro e w' ⟨rfl, rfl⟩))
      go_ret3
      exact ⟨by rw [hv.out]; rfl, rfl⟩
end Go.Proofs.Ytpoenlhikanooaa.P4
/- Shift, the program's and the document's. -/
namespace Go.Proofs.Ytpoenlhikanooaa.P4
set_option linter.unusedVariables false
open Go.RowKit
set_option maxRecDepth 20000

/-- what Shift tells: an error, and a path -/
def shiftV (xs : List Int) (re im : Nat) : Int × List Int :=
  match partsV re im with
  | none => (2, [])
  | some (a, b) => if mayV xs && decide (a.toNat < xs.length) then if stands (xs.getD a.toNat 0 + b) then (0, xs.set a.toNat (xs.getD a.toNat 0 + b)) else (3, []) else (2, [])
def fineS (re im : Nat) : Bool := fineP re im && match partsV re im with
  | some (a, b) => decide (0 ≤ a ∧ a ≤ 63 ∧ -1048575 ≤ b ∧ b ≤ 1048575)
  | none => true
def ShiftR (w : World) (x : Int × List Int) (e : Ending) (w' : World) : Prop := ∃ v, e = .returned (.tuple #[v, .int .i64 x.1]) ∧ OwnI w.heap.size w' v x.2 ∧ Below w.heap.size w w'
theorem ShiftR.none_ {w : World} {x : Int × List Int} {k : Int} (h : x = (k, [])) : ShiftR w x (.returned (.tuple #[.slice none 0 0, .int .i64 k])) w := by
  subst h
  exact ⟨_, rfl, OwnI.nil_ _ _, Below.refl _ _⟩
theorem fineS_parts {re im : Nat} (h : fineS re im = true) {a b : Int} (hp : partsV re im = some (a, b)) : fineP re im = true ∧ 0 ≤ a ∧ a ≤ 63 ∧ -1048575 ≤ b ∧ b ≤ 1048575 := by
  unfold fineS at h
  rw [hp] at h
  simpa using h
/-- a store into a row of the call's own -/
theorem OwnI.stored {base g n c : Nat} {w : World} {xs : List Int} (h : OwnI base w (.slice (some ⟨g, 0, none⟩) n c) xs) (k : Nat) (y : Int) :
    OwnI base (w.setCell ⟨g, k, none⟩ (.int .i64 y)) (.slice (some ⟨g, 0, none⟩) n c) (xs.set k y) := by
  have hn : n = xs.length := by
    rcases h.2 with ⟨e, _⟩ | ⟨g', cap, cur, e, _⟩
    · cases e
    · injection e
  have h' := (World.ownsRow.stored (show w.ownsRow base 3 1 (.slice (some ⟨g, 0, none⟩) n c) n (xs.map intV) by rw [hn] at h ⊢; exact h) k (.int .i64 y)).1
  unfold OwnI
  rw [List.length_set, ← hn, List.map_set]
  exact h'
/-- its block -/
theorem OwnI.block {base : Nat} {w : World} {v : Value} {xs : List Int} (h : OwnI base w v xs) (h0 : 0 < xs.length) :
    ∃ g c, v = .slice (some ⟨g, 0, none⟩) xs.length c ∧ base ≤ g ∧ g < w.heap.size ∧ xs.length ≤ c ∧ c ≤ maxLen ∧ (∀ k x, xs[k]? = some x → w.cell? ⟨g, k, none⟩ = some (.int .i64 x)) ∧ ∀ k, w.frozen? ⟨g, k, none⟩ = false := by
  rcases h.2 with ⟨_, e⟩ | ⟨g, cap, cur, rfl, hb, hg, hnc, hcm, _⟩
  · omega
  · have hlt : g < w.heap.size := (Array.getElem?_eq_some_iff.1 hg).1
    refine ⟨g, cap, rfl, hb, hlt, hnc, hcm, fun k x hk => ?_, fun k => World.ownsRow.frozenAt h k⟩
    have := h.cells (g := g) rfl k (.int .i64 x) (by rw [List.getElem?_map, hk]; rfl)
    have hadd : (⟨g, 0, none⟩ : Addr).add k = ⟨g, k, none⟩ := by unfold Addr.add; split <;> simp_all
    rwa [hadd] at this

set_option maxHeartbeats 1600000 in
theorem shift_any (w : World) (A : Option Addr) (n c : Nat) (xs : List Int) (hA : Its w A n xs) (hnil : A = none → c = 0) (hn : n ≤ 500000) (re im : Nat) (hf : fineS re im = true) :
    Calls Try.prog 147 #[.slice A n c, .complex .f64 re im] w (ShiftR w (shiftV xs re im)) := by
  have hA' := Lib.hid hA
  have hl := Lib.hid hA.1
  have hn' := Lib.hid hnil
  have hm : n ≤ maxLen := by unfold maxLen; omega
  have hm' := Lib.hid hm
  have hn5 := Lib.hid hn
  have hp0 : fineP re im = true := by
    unfold fineS at hf
    simp at hf
    exact hf.1
  have hp0' := Lib.hid hp0
  clear hA hnil hp0
  cases hp : partsV re im with
  | none =>
    have r1 := Lib.hid (show partsR re im = .returned (.tuple #[.int .i64 0, .int .i64 0, .bool false]) by unfold partsR; rw [hp])
    have hv := Lib.hid (show shiftV xs re im = (2, []) by unfold shiftV; rw [hp])
    clear hf hp hm hn
    go_enter Try.func147, Try.ntmps147
    go_wp2_with (go_at_call 162; refine (parts_any w re im hp0'.out).mono ?_; rw [r1.out]; rintro e w' ⟨rfl, rfl⟩)
    go_ret2
    exact ShiftR.none_ hv.out
  | some ab =>
    obtain ⟨a, b⟩ := ab
    obtain ⟨_, b1, b2, b3, b4⟩ := fineS_parts hf hp
    have r1 := Lib.hid (show partsR re im = .returned (.tuple #[.int .i64 a, .int .i64 b, .bool true]) by unfold partsR; rw [hp])
    obtain ⟨k, rfl⟩ : ∃ k : Nat, a = (k : Int) := ⟨a.toNat, by omega⟩
    cases hmay : mayV xs with
    | false =>
      have hv := Lib.hid (show shiftV xs re im = (2, []) by unfold shiftV; rw [hp]; simp [hmay])
      have hmay' := Lib.hid hmay
      clear hf hp hm hn b1 b2 b3 b4 hmay
      go_enter Try.func147, Try.ntmps147
      go_wp2_with (first
        | (go_at_call 162; refine (parts_any w re im hp0'.out).mono ?_; rw [r1.out]; rintro e w' ⟨rfl, rfl⟩)
        | (go_at_call 133; refine (may_any w A n c xs hA'.out hm'.out).mono ?_; rw [hmay'.out]; rintro e w' ⟨rfl, rfl⟩))
      go_ret2
      exact ShiftR.none_ hv.out
    | true =>
      have hmay' := Lib.hid hmay
      by_cases hk : k < n
      · obtain ⟨ad, x, rfl, hkx, hcell⟩ := hA'.out.at_ hk
        have hx := of_decide_eq_true hmay
        have hx1 := hx.2 x (List.mem_of_getElem? hkx)
        have hgd : xs.getD k 0 = x := by rw [List.getD_eq_getElem?_getD, hkx]; rfl
        have k1 : (k : Int) < (n : Int) := by omega
        have k2 : ¬ (n : Int) ≤ (k : Int) := by omega
        have k0 : (0 : Int) ≤ (k : Int) := by omega
        have f1 : -9223372036854775808 ≤ x + b := by omega
        have f2 : x + b ≤ 9223372036854775807 := by omega
        have hsv := show shiftV xs re im = if stands (x + b) then (0, xs.set k (x + b)) else (3, []) by
          unfold shiftV
          rw [hp]
          simp only [hmay, Bool.true_and, Int.toNat_natCast, hgd]
          rw [if_pos (decide_eq_true (by have := hl.out; omega))]
        cases hst : stands (x + b) with
        | false =>
          have hv := Lib.hid (show shiftV xs re im = (3, []) by rw [hsv, hst]; rfl)
          have hst' := Lib.hid hst
          clear hf hp hm hn b1 b2 b3 b4 hmay hx hx1 hgd hkx hsv hst hk
          go_enter Try.func147, Try.ntmps147
          go_wp2_with (first
            | (go_at_call 162; refine (parts_any w re im hp0'.out).mono ?_; rw [r1.out]; rintro e w' ⟨rfl, rfl⟩)
            | (go_at_call 133; refine (may_any w (some ad) n c xs hA'.out hm'.out).mono ?_; rw [hmay'.out]; rintro e w' ⟨rfl, rfl⟩)
            | (go_at_call 159; refine (stands_any _ _).mono ?_; rw [hst'.out]; rintro e w' ⟨rfl, rfl⟩))
          go_ret2
          exact ShiftR.none_ hv.out
        | true =>
          have hv := Lib.hid (show shiftV xs re im = (0, xs.set k (x + b)) by rw [hsv, hst]; rfl)
          have hst' := Lib.hid hst
          have hk' := Lib.hid hk
          have hkx' := Lib.hid hkx
          clear hf hp hm hn b1 b2 b3 b4 hmay hx hx1 hgd hkx hsv hst hk
          go_enter Try.func147, Try.ntmps147
          go_wp2_with (first
            | (go_at_call 162; refine (parts_any w re im hp0'.out).mono ?_; rw [r1.out]; rintro e w' ⟨rfl, rfl⟩)
            | (go_at_call 133; refine (may_any w (some ad) n c xs hA'.out hm'.out).mono ?_; rw [hmay'.out]; rintro e w' ⟨rfl, rfl⟩)
            | (go_at_call 159; refine (stands_any _ _).mono ?_; rw [hst'.out]; rintro e w' ⟨rfl, rfl⟩)
            | (go_at_call 139; refine (copied_any _ (some ad) n c xs hA'.out hn'.out hn5.out).mono ?_; rintro e w1 ⟨v1, rfl, ho1, hb1⟩; obtain ⟨g, c1, rfl, hg1, hg2, hc1, hc2, hcs, hfr⟩ := ho1.block (by have := hk'.out; have := hl.out; omega); have hlen := hl.out; rw [hlen] at hc1; rw [hlen]; have hcell1 := hcs k x hkx'.out; have hfr1 := hfr k; have hb1' := Lib.hid hb1; have ho1' := Lib.hid ho1; have hcs' := Lib.hid hcs; have hfr' := Lib.hid hfr; clear hb1 ho1 hcs hfr hlen))
          go_ret2
          have hst1 := ho1'.out.stored k (x + b)
          rw [hl.out] at hst1
          exact ⟨.slice (some ⟨g, 0, none⟩) n c1, by rw [hv.out]; rfl, by rw [hv.out]; exact hst1, hb1'.out.setCell (by exact hg1) _⟩
      · have k2 : (n : Int) ≤ (k : Int) := by omega
        have hv := Lib.hid (show shiftV xs re im = (2, []) by
          unfold shiftV
          rw [hp]
          simp only [hmay, Bool.true_and, Int.toNat_natCast]
          rw [if_neg (by rw [decide_eq_true_iff]; have := hl.out; omega)])
        clear hf hp hm hn b1 b2 b3 b4 hmay hk
        go_enter Try.func147, Try.ntmps147
        go_wp2_with (first
          | (go_at_call 162; refine (parts_any w re im hp0'.out).mono ?_; rw [r1.out]; rintro e w' ⟨rfl, rfl⟩)
          | (go_at_call 133; refine (may_any w A n c xs hA'.out hm'.out).mono ?_; rw [hmay'.out]; rintro e w' ⟨rfl, rfl⟩))
        go_ret2
        exact ShiftR.none_ hv.out

end Go.Proofs.Ytpoenlhikanooaa.P4
