/- Shifts there and back, as values. -/
import Derived.Test.YtflllhodeakpgaaPthS
namespace Go.Proofs.Ytflllhodeakpgaa
open Go.RowKit
set_option maxRecDepth 20000

theorem shift_yes {xs : List Int} {re im k : Nat} {b x : Int} (hm : mayV xs = true) (hp : partsV re im = some ((k : Int), b)) (hx : xs[k]? = some x) (hs : stands (x + b) = true) : shiftV xs re im = (0, xs.set k (x + b)) := by
  have hl := (List.getElem?_eq_some_iff.1 hx).1
  unfold shiftV
  rw [hp]
  simp only [hm, Bool.true_and, Int.toNat_natCast]
  rw [if_pos (decide_eq_true hl), List.getD_eq_getElem?_getD, hx]
  simp only [Option.getD_some, hs, if_true]
theorem shift_inv {xs L : List Int} {re im : Nat} (hf : fineS re im = true) (h : shiftV xs re im = (0, L)) : ∃ (k : Nat) (b x : Int), partsV re im = some ((k : Int), b) ∧ mayV xs = true ∧ xs[k]? = some x ∧ stands (x + b) = true ∧ L = xs.set k (x + b) := by
  cases hp : partsV re im with
  | none => unfold shiftV at h; rw [hp] at h; cases h
  | some ab =>
    obtain ⟨a, b⟩ := ab
    obtain ⟨_, b1, b2, b3, b4⟩ := fineS_parts hf hp
    obtain ⟨k, rfl⟩ : ∃ k : Nat, a = (k : Int) := ⟨a.toNat, by omega⟩
    unfold shiftV at h
    rw [hp] at h
    simp only [Int.toNat_natCast] at h
    split at h
    · rename_i hc
      simp only [Bool.and_eq_true, decide_eq_true_eq] at hc
      have hx : xs[k]? = some (xs.getD k 0) := by rw [List.getD_eq_getElem?_getD, List.getElem?_eq_getElem hc.2]; rfl
      split at h
      · rename_i hs
        injection h with _ h
        exact ⟨k, b, xs.getD k 0, rfl, hc.1, hx, hs, h.symm⟩
      · cases h
    · cases h
theorem shift_err {xs L : List Int} {re im : Nat} {t : Int} (h : shiftV xs re im = (t, L)) (ht : ¬ t = 0) : L = [] := by
  unfold shiftV at h
  split at h
  · injection h with _ h; exact h.symm
  · split at h
    · split at h
      · injection h with h1 _; exact absurd h1.symm ht
      · injection h with _ h; exact h.symm
    · injection h with _ h; exact h.symm
theorem may_set {xs : List Int} {k : Nat} {y : Int} (hm : mayV xs = true) (hs : stands y = true) : mayV (xs.set k y) = true := by
  have h := of_decide_eq_true hm
  refine decide_eq_true ⟨by rw [List.length_set]; exact h.1, fun z hz => ?_⟩
  rcases List.mem_or_eq_of_mem_set hz with h1 | h1
  · exact h.2 z h1
  · rw [h1]; exact of_decide_eq_true hs
theorem may_stands {xs : List Int} {k : Nat} {x : Int} (hm : mayV xs = true) (hx : xs[k]? = some x) : stands x = true := decide_eq_true ((of_decide_eq_true hm).2 x (List.mem_of_getElem? hx))
theorem common_set : ∀ (xs : List Int) (k : Nat) (x y : Int), xs[k]? = some x → ¬ x = y → commonV xs (xs.set k y) = k
  | [], k, x, y, h, _ => by simp at h
  | a :: xs, 0, x, y, h, hne => by
    simp at h
    subst h
    simp [commonV, hne]
  | a :: xs, k + 1, x, y, h, hne => by
    simp at h
    simp [commonV, common_set xs k x y h hne]
def negF (re : Nat) : Nat := Op.negFloat .f64 re
/-- what is asked of a shift that is taken back -/
def goodZ (re im : Nat) : Bool := fineS re im && fineS (negF re) im && match partsV re im with
  | some (a, b) => decide (partsV (negF re) im = some (a, -b)) && ((ordF re 0 == some .eq) == decide (b = 0)) && (decide (b = 0) || ((ordF (fOf b) re == some .eq) && (ordF (fOf a) im == some .eq)))
  | none => true
def pairZ (im re2 im2 re : Nat) : Bool := (ordF im im2 == some .eq) || match partsV re im, partsV re2 im2 with
  | some a, some b => !decide (a.1 = b.1)
  | _, _ => true
theorem good_fine {re im : Nat} (h : goodZ re im = true) : fineS re im = true ∧ fineS (negF re) im = true := by
  unfold goodZ at h
  simp only [Bool.and_eq_true] at h
  exact h.1
/-- there and back -/
theorem back_values {xs L : List Int} {re im : Nat} (hg : goodZ re im = true) (h : shiftV xs re im = (0, L)) :
    L.length = xs.length ∧ shiftV L (negF re) im = (0, xs) ∧
    ((betR xs L = .tuple #[.complex .f64 0 0, .bool false] ∧ (ordF re 0 == some .eq) = true) ∨
     (∃ p q : Nat, betR xs L = .tuple #[.complex .f64 p q, .bool true] ∧ (ordF re 0 == some .eq) = false ∧ (ordF p re == some .eq) = true ∧ (ordF q im == some .eq) = true)) := by
  obtain ⟨k, b, x, hp, hm, hx, hs, rfl⟩ := shift_inv (good_fine hg).1 h
  have hl := (List.getElem?_eq_some_iff.1 hx).1
  unfold goodZ at hg
  rw [hp] at hg
  simp only [Bool.and_eq_true, decide_eq_true_eq, Bool.or_eq_true, beq_iff_eq] at hg
  obtain ⟨_, ⟨hn, h0⟩, hor⟩ := hg
  have hback : shiftV (xs.set k (x + b)) (negF re) im = (0, xs) := by
    have hx2 : (xs.set k (x + b))[k]? = some (x + b) := by rw [List.getElem?_set_self hl]
    have := shift_yes (b := -b) (may_set hm hs) hn hx2 (by rw [show x + b + -b = x by omega]; exact may_stands hm hx)
    rw [this, List.set_set, show x + b + -b = x by omega]
    congr 1
    apply List.ext_getElem?
    intro j
    rw [List.getElem?_set]
    split
    · rename_i e; subst e; exact hx.symm
    · rfl
  refine ⟨List.length_set, hback, ?_⟩
  by_cases hb : b = 0
  · left
    subst hb
    have e : xs.set k (x + 0) = xs := by
      rw [Int.add_zero]
      apply List.ext_getElem?
      intro j
      rw [List.getElem?_set]
      split
      · rename_i e; subst e; exact hx.symm
      · rfl
    rw [e]
    exact ⟨bet_no4 (common_self xs), by rw [h0]; simp⟩
  · right
    have hor' : ordF (fOf b) re = some .eq ∧ ordF (fOf (k : Int)) im = some .eq := by
      rcases hor with h | h
      · exact absurd h hb
      · exact h
    refine ⟨fOf b, fOf (k : Int), ?_, by rw [h0]; simp [hb], by rw [hor'.1]; rfl, by rw [hor'.2]; rfl⟩
    have hc := common_set xs k x (x + b) hx (by omega)
    have := bet_yes (y := x + b) hm (may_set hm hs) List.length_set.symm hc hl hx (List.getElem?_set_self hl) (by
      have : xs.drop (k + 1) = (xs.set k (x + b)).drop (k + 1) := by rw [List.drop_set_of_lt (by omega)]
      rw [← this]; exact eqV_self _)
    rw [this, show x + b - x = b by omega]
/-- two shifts, at unlike places, in any order -/
theorem both_values {xs L c d : List Int} {re im re2 im2 : Nat} (hf : fineS re im = true) (hf2 : fineS re2 im2 = true) (hp : pairZ im re2 im2 re = true) (hne : (ordF im im2 == some .eq) = false) (h : shiftV xs re im = (0, L)) (h1 : shiftV L re2 im2 = (0, c)) (h2 : shiftV xs re2 im2 = (0, d)) :
    shiftV d re im = (0, c) := by
  obtain ⟨k, b, x, hpa, hm, hx, hs, rfl⟩ := shift_inv hf h
  obtain ⟨k2, b2, x2, hpb, _, hx2, hs2, rfl⟩ := shift_inv hf2 h2
  obtain ⟨k3, b3, x3, hpc, _, hx3, hs3, rfl⟩ := shift_inv hf2 h1
  rw [hpb] at hpc
  obtain ⟨e1, e2⟩ := Prod.mk.inj (Option.some.inj hpc)
  obtain rfl : k2 = k3 := by omega
  subst e2
  have hkk : k ≠ k2 := by
    unfold pairZ at hp
    rw [hne, hpa, hpb] at hp
    simp at hp
    omega
  rw [List.getElem?_set_ne hkk, hx2] at hx3
  obtain rfl : x2 = x3 := Option.some.inj hx3
  have := shift_yes (xs := xs.set k2 (x2 + b2)) (may_set hm hs2) hpa (by rw [List.getElem?_set_ne hkk.symm]; exact hx) hs
  rw [this, List.set_comm _ _ hkk]
end Go.Proofs.Ytflllhodeakpgaa
