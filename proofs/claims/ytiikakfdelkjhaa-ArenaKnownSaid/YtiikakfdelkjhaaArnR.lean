/- The calls keep the arena a tree; two rows are compared. -/
import Derived.Test.YtiikakfdelkjhaaArnQ
import Derived.RegionTactic
namespace Go.Proofs.Ytiikakfdelkjhaa.Arn
open Go.RowKit
set_option maxRecDepth 20000

section
variable {a : Av}
theorem addR_wf (h : WF a) (p i : Int) (d : Dt) : WF (addR a p i d).2 ∧ (addR a p i d).2.cnt ≤ a.cnt + 1 ∧ a.cnt ≤ (addR a p i d).2.cnt := by
  unfold addR
  split
  · rename_i he
    obtain ⟨x, j, rfl, rfl, hx, hj⟩ := addE_ok he
    refine ⟨h.add hx d, ?_, ?_⟩
    · show (takeV a).cnt ≤ _
      unfold takeV; split <;> simp
    · show _ ≤ (takeV a).cnt
      unfold takeV; split <;> simp
  · exact ⟨h, Nat.le_succ _, Nat.le_refl _⟩
theorem moveR_wf (h : WF a) (s p i : Int) : WF (moveR a s p i) ∧ (moveR a s p i).cnt = a.cnt := by
  by_cases he : moveE a s p i = 0
  · obtain ⟨x, q, k, y, j, rfl, rfl, rfl, hok, hR⟩ := moveE_ok h he
    rw [hR]
    exact ⟨h.move hok.lx hok.idx hok.ly hok.nd, rfl⟩
  · unfold moveR
    rw [if_neg he]
    exact ⟨h, rfl⟩
theorem removeR_wf (h : WF a) (s : Int) : WF (removeR a s) ∧ (removeR a s).cnt = a.cnt := by
  by_cases he : removeE a s = 0
  · obtain ⟨x, q, k, rfl, hx, hx0, hq, hlq, hidx, hR⟩ := removeE_ok h he
    rw [hR]
    exact ⟨h.remove hx hx0 hidx (preV_spec h hx), (deads_at _ (cutV a q k) 0).2.2.1⟩
  · unfold removeR
    rw [if_neg he]
    exact ⟨h, rfl⟩
theorem setR_wf (h : WF a) (s : Int) (d : Dt) : WF (setR a s d) ∧ (setR a s d).cnt = a.cnt := by
  unfold setR
  split
  · exact ⟨h.set _ _, rfl⟩
  · exact ⟨h, rfl⟩
end
/-! ### two rows of numbers -/
theorem bne_of {x y : Int} {b : Bool} (h : (x == y) = b) : (x != y) = !b := by rw [bne, h]
theorem drop_at {xs : List Int} {k : Nat} {x : Int} (h : xs[k]? = some x) : xs.drop k = x :: xs.drop (k + 1) := by
  obtain ⟨h1, rfl⟩ := List.getElem?_eq_some_iff.1 h
  exact List.drop_eq_getElem_cons h1
def eqV (xs ys : List Int) : Bool := decide (xs = ys)
theorem eq_step {xs ys : List Int} {k : Nat} {x y : Int} (h : xs = ys ↔ xs.drop k = ys.drop k) (h1 : xs[k]? = some x) (h2 : ys[k]? = some y) (e : (x == y) = true) : xs = ys ↔ xs.drop (k + 1) = ys.drop (k + 1) := by
  obtain rfl : x = y := beq_iff_eq.1 e
  rw [h, drop_at h1, drop_at h2]
  simp
theorem eq_stop {xs ys : List Int} {k : Nat} {x y : Int} (h1 : xs[k]? = some x) (h2 : ys[k]? = some y) (e : (x == y) = false) : eqV xs ys = false :=
  decide_eq_false fun h => by
    subst h
    rw [h1] at h2
    injection h2 with h2
    exact beq_eq_false_iff_ne.1 e h2
theorem eq_end {xs ys : List Int} {k : Nat} (h : xs = ys ↔ xs.drop k = ys.drop k) (h1 : xs.length ≤ k) (h2 : ys.length ≤ k) : eqV xs ys = true :=
  decide_eq_true (h.2 (by rw [List.drop_of_length_le h1, List.drop_of_length_le h2]))
theorem eq_len {xs ys : List Int} (h : xs.length ≠ ys.length) : eqV xs ys = false := decide_eq_false fun e => h (by rw [e])
set_option maxHeartbeats 400000 in
theorem sameInts_any (w : World) (A B : Option Addr) (n c m d : Nat) (xs ys : List Int) (hA : Its w A n xs) (hB : Its w B m ys) (hn : n ≤ maxLen) :
    Calls Try.prog 27 #[.slice A n c, .slice B m d] w fun e w' => e = .returned (.bool (eqV xs ys)) ∧ ∃ k, w' = w.drewN k := by
  unfold maxLen at hn
  have l1 := Lib.hid hA.1
  have l2 := Lib.hid hB.1
  have hA' := Lib.hid hA
  have hB' := Lib.hid hB
  clear hA hB
  by_cases hnm : n = m
  · subst hnm
    have hne : ((n : Int) != (n : Int)) = false := by rw [bne_self_eq_false]
    go_enter Try.func27, Try.ntmps27
    go_wp2_with fail
    clear hne
    go_loopw [5] (fun i wr => ∃ k : Nat, k ≤ n ∧ i = .int .i64 (k : Int) ∧ (xs = ys ↔ xs.drop k = ys.drop k) ∧ ∃ nd, wr = w.drewN nd) (fun i _ => n - (intOf i).toNat)
    case atStart => exact ⟨0, Nat.zero_le _, rfl, by simp, 0, rfl⟩
    case round =>
      obtain ⟨k, hk, rfl, he, nd, rfl⟩ := hrel
      have he' := Lib.hid he
      clear he
      by_cases hlt : k < n
      · obtain ⟨ad, x, rfl, hx, hcx⟩ := hA'.out.at_ hlt
        obtain ⟨bd, y, rfl, hy, hcy⟩ := hB'.out.at_ hlt
        have j0 : (0 : Int) ≤ (k : Int) := by omega
        have j1 : (k : Int) < (n : Int) := by omega
        have hx' := Lib.hid hx
        have hy' := Lib.hid hy
        clear hx hy
        generalize hbb : (x == y) = bb at *
        cases bb with
        | true =>
          have hne := bne_of hbb
          have hnx := Lib.hid (eq_step he'.out hx'.out hy'.out hbb)
          clear hbb
          go_wp2_with fail
          go_quiet (fail)
          go_wp2_with fail
          go_roundw
          case rel => exact ⟨k + 1, by omega, by go_num, hnx.out, _, rfl⟩
          case measure => simp [intOf]; omega
        | false =>
          have hne := bne_of hbb
          have hv := Lib.hid (eq_stop hx'.out hy'.out hbb)
          clear hbb
          go_wp2_with fail
          go_quiet (fail)
          go_wp2_with fail
          go_ret
          exact ⟨by rw [hv.out]; rfl, nd + nq, by rw [World.drewN_drewN]⟩
      · have hv := Lib.hid (eq_end he'.out (by have := l1.out; omega) (by have := l2.out; omega))
        go_wp2_with fail
        go_ret
        exact ⟨by rw [hv.out]; rfl, nd, rfl⟩
  · have hne : ((n : Int) != (m : Int)) = true := by rw [bne_iff_ne]; omega
    have hv := Lib.hid (show eqV xs ys = false from eq_len (by rw [l1.out, l2.out]; exact hnm))
    clear hnm
    go_enter Try.func27, Try.ntmps27
    go_wp2_with fail
    go_ret
    exact ⟨by rw [hv.out]; rfl, 0, rfl⟩
/-- numbers as integers -/
theorem Ns.its {w : World} {A : Option Addr} {n : Nat} {l : List Nat} (h : Ns w A n l) : Its w A n (l.map Int.ofNat) := by
  refine ⟨by rw [List.length_map]; exact h.1, fun k x hx => ?_⟩
  rw [List.getElem?_map] at hx
  cases hk : l[k]? with
  | none => rw [hk] at hx; cases hx
  | some y =>
    rw [hk] at hx
    injection hx with hx
    obtain ⟨ad, e, hlt, hc⟩ := h.2 k y hk
    exact ⟨ad, e, hlt, by rw [hc, ← hx]; rfl⟩
theorem eqV_nat (l m : List Nat) : eqV (l.map Int.ofNat) (m.map Int.ofNat) = decide (l = m) := by
  unfold eqV
  rw [decide_eq_decide]
  refine ⟨fun h => ?_, fun h => by rw [h]⟩
  refine List.ext_getElem? fun k => ?_
  have h2 := congrArg (fun z : List Int => z[k]?) h
  simp only [List.getElem?_map] at h2
  cases e1 : l[k]? with
  | none =>
    rw [e1] at h2
    cases e2 : m[k]? with
    | none => rfl
    | some y => rw [e2] at h2; cases h2
  | some x =>
    rw [e1] at h2
    cases e2 : m[k]? with
    | none => rw [e2] at h2; cases h2
    | some y =>
      rw [e2] at h2
      injection h2 with h2
      have : x = y := Int.ofNat.inj h2
      rw [this]
theorem sameNums_any (w : World) (A B : Option Addr) (n c m d : Nat) (l k : List Nat) (hA : Ns w A n l) (hB : Ns w B m k) (hn : n ≤ maxLen) :
    Calls Try.prog 27 #[.slice A n c, .slice B m d] w fun e w' => e = .returned (.bool (decide (l = k))) ∧ ∃ q, w' = w.drewN q := by
  rw [← eqV_nat]
  exact sameInts_any w A B n c m d _ _ hA.its hB.its hn
end Go.Proofs.Ytiikakfdelkjhaa.Arn
