/- What becomes of one edit behind the other: step by step it is the document's, place by place. -/
import Derived.Test.YtoeplaofgmdlbaaLtxQ
namespace Go.Proofs.Ytoeplaofgmdlbaa
open Ltx (Pc)

section
variable {pa pb pa' pb' : Nat → List UInt8} {da db da' db' : Nat → Bool} {first : Bool}
theorem behind_congr : ∀ (k i i' : Nat), (∀ j, pa (i + j) = pa' (i' + j)) → (∀ j, pb (i + j) = pb' (i' + j)) → (∀ j, da (i + j) = da' (i' + j)) → (∀ j, db (i + j) = db' (i' + j)) →
    Ltx.behind pa pb da db first k i = Ltx.behind pa' pb' da' db' first k i'
  | 0, i, i', h1, h2, _, _ => by
    have a := h1 0
    have b := h2 0
    rw [Nat.add_zero, Nat.add_zero] at a b
    unfold Ltx.behind Ltx.ends
    rw [a, b]
  | k + 1, i, i', h1, h2, h3, h4 => by
    have a := h1 0
    have b := h2 0
    have c := h3 0
    have d := h4 0
    rw [Nat.add_zero, Nat.add_zero] at a b c d
    have ih := behind_congr k (i + 1) (i' + 1) (fun j => by have := h1 (1 + j); rwa [← Nat.add_assoc, ← Nat.add_assoc] at this) (fun j => by have := h2 (1 + j); rwa [← Nat.add_assoc, ← Nat.add_assoc] at this)
      (fun j => by have := h3 (1 + j); rwa [← Nat.add_assoc, ← Nat.add_assoc] at this) (fun j => by have := h4 (1 + j); rwa [← Nat.add_assoc, ← Nat.add_assoc] at this)
    rw [Ltx.behind, Ltx.behind, ih]
    unfold Ltx.ends Ltx.mid
    rw [a, b, c, d]
/-- m bytes that one edit, and the other one, keep or drop -/
def run (A B : Bool) (m : Nat) : List Pc := if B then [] else if A then [⟨0, m, []⟩] else [⟨m, 0, []⟩]
theorem run_zero (A B : Bool) : Eqv (run A B 0) [] := by
  unfold run
  cases A <;> cases B <;> first | exact Eqv.refl _ | exact eqv_nil
theorem run_succ (A B : Bool) (m : Nat) : Eqv (run A B 1 ++ run A B m) (run A B (m + 1)) := by
  unfold run
  cases B with
  | true => exact Eqv.refl _
  | false =>
    cases A with
    | true =>
      have := eqv_one (k := 0) (d := 1) (t := []) (k' := 0) (d' := m) (t' := []) rfl
      rw [Nat.add_comm 1 m] at this
      exact this
    | false =>
      have := eqv_keep (k := 1) (k' := m) (d := 0) (t := [])
      rw [Nat.add_comm 1 m] at this
      exact this
theorem ends_idle {i : Nat} (h1 : pa i = []) (h2 : pb i = []) : Eqv (Ltx.ends pa pb first i) [] := by
  unfold Ltx.ends
  rw [h1, h2]
  have e : Eqv [(⟨0, 0, []⟩ : Pc), ⟨0, 0, []⟩] [] := by
    have := eqv_nil.app eqv_nil
    exact this
  cases first <;> exact e
theorem behind_run {A B : Bool} : ∀ (m k i : Nat), (∀ j, j < m → pa (i + j) = [] ∧ pb (i + j) = [] ∧ da (i + j) = A ∧ db (i + j) = B) →
    Eqv (Ltx.behind pa pb da db first (m + k) i) (run A B m ++ Ltx.behind pa pb da db first k (i + m))
  | 0, k, i, _ => by
    rw [Nat.zero_add, Nat.add_zero]
    have := (run_zero A B).symm.app (Eqv.refl (Ltx.behind pa pb da db first k i))
    exact this
  | m + 1, k, i, h => by
    have h0 := h 0 (by omega)
    rw [Nat.add_zero] at h0
    have ih := behind_run m k (i + 1) fun j hj => by
      have := h (j + 1) (by omega)
      rw [show i + 1 + j = i + (j + 1) by omega]
      exact this
    rw [show m + 1 + k = (m + k) + 1 by omega, Ltx.behind]
    have hm : Ltx.mid da db i = run A B 1 := by unfold Ltx.mid run; rw [h0.2.2.1, h0.2.2.2]
    rw [hm, show i + (m + 1) = i + 1 + m by omega]
    have e1 : Eqv (Ltx.ends pa pb first i ++ run A B 1 ++ Ltx.behind pa pb da db first (m + k) (i + 1)) ([] ++ run A B 1 ++ (run A B m ++ Ltx.behind pa pb da db first k (i + 1 + m))) := ((ends_idle h0.1 h0.2.1).app (Eqv.refl _)).app ih
    refine e1.trans ?_
    rw [List.nil_append, ← List.append_assoc]
    exact (run_succ A B m).app (Eqv.refl _)
/-- but for what is put at the first place -/
theorem behind_first {X : List Pc} (k : Nat) (h0 : Eqv (Ltx.ends pa pb first 0) (X ++ Ltx.ends pa' pb' first 0)) (h1 : ∀ j, pa (j + 1) = pa' (j + 1)) (h2 : ∀ j, pb (j + 1) = pb' (j + 1)) (h3 : ∀ j, da j = da' j) (h4 : ∀ j, db j = db' j) :
    Eqv (Ltx.behind pa pb da db first k 0) (X ++ Ltx.behind pa' pb' da' db' first k 0) := by
  cases k with
  | zero => exact h0
  | succ k =>
    have e : Ltx.behind pa pb da db first k (0 + 1) = Ltx.behind pa' pb' da' db' first k (0 + 1) := behind_congr k (0 + 1) (0 + 1) (fun j => by rw [show 0 + 1 + j = j + 1 by omega]; exact h1 j) (fun j => by rw [show 0 + 1 + j = j + 1 by omega]; exact h2 j) (fun j => h3 _) (fun j => h4 _)
    rw [Ltx.behind, Ltx.behind, e, ← List.append_assoc, ← List.append_assoc]
    have hm : Ltx.mid da db 0 = Ltx.mid da' db' 0 := by unfold Ltx.mid; rw [h3, h4]
    rw [hm]
    exact (h0.app (Eqv.refl _)).app (Eqv.refl _)
end
/-- the document's: a behind b -/
def docB (first : Bool) (a b : List Pc) : List Pc := Ltx.behind (Ltx.putAt a) (Ltx.putAt b) (Ltx.dropAt a) (Ltx.dropAt b) first (max (Ltx.extent a) (Ltx.extent b)) 0
theorem docB_look {first : Bool} {a b a' b' : List Pc} (h1 : Look a a') (h2 : Look b b') : docB first a b = docB first a' b' := by
  unfold docB
  rw [h1.ex, h2.ex]
  exact behind_congr _ 0 0 (fun j => h1.pu _) (fun j => h2.pu _) (fun j => h1.dr _) (fun j => h2.dr _)
theorem docB_nil (first : Bool) : Eqv (docB first [] []) [] := by
  unfold docB
  exact ends_idle rfl rfl
theorem trans_doc (a b : List Pc) (first : Bool) : Ltx.trans a b first = Ltx.norm (docB first a b) := rfl
/-- x puts -/
theorem meet_put {first : Bool} {t : List UInt8} {r b : List Pc} (h : first = true ∨ Ltx.putAt b 0 = []) :
    Eqv (docB first (⟨0, 0, t⟩ :: r) b) ([⟨0, 0, t⟩] ++ docB first r b) ∧ Eqv (docB (!first) b (⟨0, 0, t⟩ :: r)) ([⟨t.length, 0, []⟩] ++ docB (!first) b r) := by
  have hex : Ltx.extent (⟨0, 0, t⟩ :: r) = Ltx.extent r := by simp [Ltx.extent]
  have hp0 : Ltx.putAt (⟨0, 0, t⟩ :: r) 0 = t ++ Ltx.putAt r 0 := by rw [pa_put, if_pos rfl]
  have hp1 : ∀ j, Ltx.putAt (⟨0, 0, t⟩ :: r) (j + 1) = Ltx.putAt r (j + 1) := fun j => by rw [pa_put, if_neg (by omega)]
  have hd : ∀ j, Ltx.dropAt (⟨0, 0, t⟩ :: r) j = Ltx.dropAt r j := fun j => da_put t r j
  have e1 : ∀ u : List UInt8, Eqv [(⟨0, 0, t ++ u⟩ : Pc)] [⟨0, 0, t⟩, ⟨0, 0, u⟩] := fun u => by
    have := (eqv_one (k := 0) (d := 0) (t := t) (k' := 0) (d' := 0) (t' := u) rfl).symm
    exact this
  have e2 : ∀ u : List UInt8, Eqv [(⟨(t ++ u).length, 0, []⟩ : Pc)] [⟨t.length, 0, []⟩, ⟨u.length, 0, []⟩] := fun u => by
    rw [List.length_append]
    exact eqv_keep.symm
  have e3 : Eqv [(⟨0, 0, []⟩ : Pc)] [] := eqv_nil
  unfold docB
  rw [hex, Nat.max_comm (Ltx.extent b)]
  constructor
  · refine behind_first _ ?_ hp1 (fun j => rfl) hd (fun j => rfl)
    unfold Ltx.ends
    rw [hp0]
    cases first with
    | true =>
      have := (e1 (Ltx.putAt r 0)).app (Eqv.refl [(⟨(Ltx.putAt b 0).length, 0, []⟩ : Pc)])
      exact this
    | false =>
      have hb : Ltx.putAt b 0 = [] := by simpa using h
      rw [hb]
      have a1 := e3.app (e1 (Ltx.putAt r 0))
      have a2 := (Eqv.refl [(⟨0, 0, t⟩ : Pc)]).app (e3.symm.app (Eqv.refl [(⟨0, 0, Ltx.putAt r 0⟩ : Pc)]))
      exact a1.trans a2
  · refine behind_first _ ?_ (fun j => rfl) hp1 (fun j => rfl) hd
    unfold Ltx.ends
    rw [hp0]
    cases first with
    | true =>
      have := (e2 (Ltx.putAt r 0)).app (Eqv.refl [(⟨0, 0, Ltx.putAt b 0⟩ : Pc)])
      exact this
    | false =>
      have hb : Ltx.putAt b 0 = [] := by simpa using h
      rw [hb]
      have a1 := e3.app (e2 (Ltx.putAt r 0))
      have a2 := (Eqv.refl [(⟨t.length, 0, []⟩ : Pc)]).app (e3.symm.app (Eqv.refl [(⟨(Ltx.putAt r 0).length, 0, []⟩ : Pc)]))
      exact a1.trans a2
/-- m bytes in front that are kept, or dropped -/
structure Front (l : List Pc) (m : Nat) (X : Bool) (l' : List Pc) : Prop where
  pu : ∀ j, j < m → Ltx.putAt l j = []
  dr : ∀ j, j < m → Ltx.dropAt l j = X
  pu' : ∀ j, Ltx.putAt l (m + j) = Ltx.putAt l' j
  dr' : ∀ j, Ltx.dropAt l (m + j) = Ltx.dropAt l' j
  ex : Ltx.extent l = m + Ltx.extent l' ∨ (Ltx.extent l = 0 ∧ Ltx.extent l' = 0)
theorem front_nil (m : Nat) : Front [] m false [] := ⟨fun _ _ => rfl, fun _ _ => rfl, fun _ => rfl, fun _ => rfl, .inr ⟨rfl, rfl⟩⟩
theorem front_keep {m n : Nat} (r : List Pc) (h : m ≤ n) : Front (⟨n, 0, []⟩ :: r) m false (⟨n - m, 0, []⟩ :: r) := by
  refine ⟨fun j hj => by rw [pa_keep, if_pos (by omega)], fun j hj => by rw [da_keep, if_pos (by omega)], fun j => ?_, fun j => ?_, .inl ?_⟩
  · rw [pa_keep, pa_keep]
    by_cases a : j < n - m
    · rw [if_pos a, if_pos (by omega)]
    · rw [if_neg a, if_neg (by omega)]; congr 1; omega
  · rw [da_keep, da_keep]
    by_cases a : j < n - m
    · rw [if_pos a, if_pos (by omega)]
    · rw [if_neg a, if_neg (by omega)]; congr 1; omega
  · simp only [Ltx.extent]; omega
theorem front_drop {m n : Nat} (r : List Pc) (h : m ≤ n) : Front (⟨0, n, []⟩ :: r) m true (⟨0, n - m, []⟩ :: r) := by
  refine ⟨fun j hj => by rw [pa_drop, if_pos (by omega)], fun j hj => by rw [da_drop, if_pos (by omega)], fun j => ?_, fun j => ?_, .inl ?_⟩
  · rw [pa_drop, pa_drop]
    by_cases a : j < n - m
    · rw [if_pos a, if_pos (by omega)]
    · rw [if_neg a, if_neg (by omega)]; congr 1; omega
  · rw [da_drop, da_drop]
    by_cases a : j < n - m
    · rw [if_pos a, if_pos (by omega)]
    · rw [if_neg a, if_neg (by omega)]; congr 1; omega
  · simp only [Ltx.extent]; omega
theorem Front.look {l m' : List Pc} {m : Nat} {X : Bool} {l' : List Pc} (h : Front l m X l') (h2 : Look l' m') : Front l m X m' :=
  ⟨h.pu, h.dr, fun j => (h.pu' j).trans (h2.pu j), fun j => (h.dr' j).trans (h2.dr j), by rw [← h2.ex]; exact h.ex⟩
theorem meet_run {first X Y : Bool} {a b a' b' : List Pc} {m : Nat} (hm : 0 < m) (hx : Front a m X a') (hy : Front b m Y b') (hne : Ltx.extent a ≠ 0 ∨ Ltx.extent b ≠ 0) : Eqv (docB first a b) (run X Y m ++ docB first a' b') := by
  have hmax : max (Ltx.extent a) (Ltx.extent b) = m + max (Ltx.extent a') (Ltx.extent b') := by
    rcases hx.ex with e | ⟨e1, e2⟩ <;> rcases hy.ex with f | ⟨f1, f2⟩ <;> omega
  unfold docB
  rw [hmax]
  refine (behind_run (A := X) (B := Y) m _ 0 fun j hj => ?_).trans ?_
  · rw [Nat.zero_add]
    exact ⟨hx.pu j hj, hy.pu j hj, hx.dr j hj, hy.dr j hj⟩
  · rw [Nat.zero_add]
    refine (Eqv.refl _).app ?_
    rw [behind_congr (pa' := Ltx.putAt a') (pb' := Ltx.putAt b') (da' := Ltx.dropAt a') (db' := Ltx.dropAt b') _ m 0 (fun j => by rw [Nat.zero_add]; exact hx.pu' j) (fun j => by rw [Nat.zero_add]; exact hy.pu' j) (fun j => by rw [Nat.zero_add]; exact hx.dr' j) (fun j => by rw [Nat.zero_add]; exact hy.dr' j)]
    exact Eqv.refl _
end Go.Proofs.Ytoeplaofgmdlbaa
