/- What undoes an edit: as a value; the program's. -/
import Derived.Test.YtoeplaofgmdlbaaLtxM
namespace Go.Proofs.Ytoeplaofgmdlbaa
open Go.RowKit
set_option maxRecDepth 20000
open Ltx (Pc)

theorem inv_append : ∀ (l m : List Pc) (t : List UInt8), Ltx.inv t (l ++ m) = Ltx.inv t l ++ Ltx.inv (t.drop (Ltx.extent l)) m
  | [], m, t => by simp [Ltx.inv, Ltx.extent]
  | p :: r, m, t => by
    simp only [List.cons_append, Ltx.inv, Ltx.extent]
    rw [inv_append r m, List.drop_drop]
theorem inv_len : ∀ (l : List Pc) (t : List UInt8), (Ltx.inv t l).length = l.length
  | [], _ => rfl
  | p :: r, t => by simp only [Ltx.inv, List.length_cons]; rw [inv_len r]
theorem inv_at (l : List Pc) (t : List UInt8) (q : Nat) (p : Pc) (h : l[q]? = some p) : (Ltx.inv t l)[q]? = some ⟨p.keep, p.put.length, ((t.drop (Ltx.extent (l.take q))).drop p.keep).take p.drop⟩ := by
  have hq := (List.getElem?_eq_some_iff.1 h).1
  have hs : l = l.take q ++ (p :: l.drop (q + 1)) := by
    conv => lhs; rw [← List.take_append_drop q l]
    congr 1
    rw [List.drop_eq_getElem_cons hq, (List.getElem?_eq_some_iff.1 h).2]
  conv => lhs; rw [hs, inv_append]
  rw [List.getElem?_append_right (by rw [inv_len, List.length_take]; omega), inv_len, List.length_take, show q - min q l.length = 0 by omega]
  rfl
/-- what the state stands for, undone -/
theorem inv_step (s : List Pc × Nat) (l : List Pc) (p : Pc) (hD : Ltx.Does s l) (h : ∀ t, Eqv (Ltx.inv t s.1 ++ [⟨s.2, 0, []⟩]) (Ltx.inv t l)) :
    ∀ t, Eqv (Ltx.inv t (Ltx.normStep s p).1 ++ [⟨(Ltx.normStep s p).2, 0, []⟩]) (Ltx.inv t (l ++ [p])) := by
  intro t
  obtain ⟨out, k⟩ := s
  have hx : Ltx.extent out + k = Ltx.extent l := hD.2
  have h0 : Eqv (Ltx.inv t out ++ [⟨k, 0, []⟩]) (Ltx.inv t l) := h t
  have h1 : Eqv (Ltx.inv t (l ++ [p])) (Ltx.inv t out ++ ([⟨k, 0, []⟩] ++ [⟨p.keep, p.put.length, ((t.drop (Ltx.extent l)).drop p.keep).take p.drop⟩])) := by
    rw [inv_append, ← List.append_assoc]
    exact h0.symm.app (Eqv.refl _)
  refine Eqv.trans ?_ h1.symm
  unfold Ltx.normStep
  dsimp only
  by_cases hi : Ltx.idle p = true
  · rw [if_pos hi]
    have hp : p.put = [] ∧ p.drop = 0 := by unfold Ltx.idle at hi; simpa using hi
    dsimp only
    refine (Eqv.refl _).app ?_
    rw [hp.1, hp.2]
    simp only [List.length_nil, List.take_zero]
    exact eqv_keep.symm
  · rw [if_neg hi]
    by_cases hz : k + p.keep = 0 ∧ out ≠ []
    · rw [if_pos hz]
      obtain ⟨hz1, hz2⟩ := hz
      obtain ⟨init, q, rfl⟩ : ∃ init q, out = init ++ [q] := ⟨out.dropLast, out.getLast hz2, (List.dropLast_concat_getLast hz2).symm⟩
      have hj : Ltx.joinLast (init ++ [q]) p = init ++ [⟨q.keep, q.drop + p.drop, q.put ++ p.put⟩] := by
        unfold Ltx.joinLast
        simp
      rw [hj]
      have hpk : p.keep = 0 := by omega
      have hk0 : k = 0 := by omega
      subst hk0
      dsimp only
      rw [inv_append, inv_append, List.append_assoc, List.append_assoc]
      refine (Eqv.refl _).app ?_
      rw [← hx, Ltx.extent_append]
      simp only [Ltx.inv, Ltx.extent, Nat.add_zero]
      rw [hpk, List.drop_zero, List.length_append]
      have e : ((t.drop (Ltx.extent init)).drop q.keep).take (q.drop + p.drop) = ((t.drop (Ltx.extent init)).drop q.keep).take q.drop ++ (t.drop (Ltx.extent init + (q.keep + q.drop))).take p.drop := by
        rw [List.take_add, List.drop_drop, List.drop_drop, Nat.add_assoc]
      rw [e]
      have e1 := (eqv_one (k := q.keep) (d := q.put.length) (t := ((t.drop (Ltx.extent init)).drop q.keep).take q.drop) (k' := 0) (d' := p.put.length) (t' := (t.drop (Ltx.extent init + (q.keep + q.drop))).take p.drop) rfl).symm
      have a1 := e1.app (Eqv.refl [⟨0, 0, []⟩])
      have a2 := (Eqv.refl [(⟨q.keep, q.put.length, ((t.drop (Ltx.extent init)).drop q.keep).take q.drop⟩ : Pc), ⟨0, p.put.length, (t.drop (Ltx.extent init + (q.keep + q.drop))).take p.drop⟩]).app eqv_nil
      rw [List.append_nil] at a2
      have a3 := (Eqv.refl [(⟨q.keep, q.put.length, ((t.drop (Ltx.extent init)).drop q.keep).take q.drop⟩ : Pc)]).app ((eqv_nil.symm).app (Eqv.refl [(⟨0, p.put.length, (t.drop (Ltx.extent init + (q.keep + q.drop))).take p.drop⟩ : Pc)]))
      exact (a1.trans a2).trans a3
    · rw [if_neg hz]
      dsimp only
      rw [inv_append, List.append_assoc]
      refine (Eqv.refl _).app ?_
      rw [← hx]
      simp only [Ltx.inv, List.drop_drop]
      refine ((Eqv.refl _).app eqv_nil).trans ?_
      rw [List.append_nil]
      have e := (eqv_keep (k := k) (k' := p.keep) (d := p.put.length) (t := (t.drop (Ltx.extent out + (k + p.keep))).take p.drop)).symm
      rw [show Ltx.extent out + k + p.keep = Ltx.extent out + (k + p.keep) by omega]
      exact e
theorem inv_fold (l : List Pc) : ∀ (m : List Pc) (s : List Pc × Nat), Ltx.Does s m → (∀ t, Eqv (Ltx.inv t s.1 ++ [⟨s.2, 0, []⟩]) (Ltx.inv t m)) →
    ∀ t, Eqv (Ltx.inv t (l.foldl Ltx.normStep s).1 ++ [⟨(l.foldl Ltx.normStep s).2, 0, []⟩]) (Ltx.inv t (m ++ l)) := by
  induction l with
  | nil => intro m s _ h; rw [List.append_nil]; exact h
  | cons p r ih =>
    intro m s hD h
    have := ih (m ++ [p]) (Ltx.normStep s p) (hD.step p) (inv_step s m p hD h)
    rw [List.append_assoc] at this
    exact this
/-- undone piece by piece, or made normal ahead of that: the same -/
theorem inv_same (l : List Pc) (t : List UInt8) : Ltx.norm (Ltx.inv t (Ltx.norm l)) = Ltx.norm (Ltx.inv t l) := by
  have h := inv_fold l [] ([], 0) ⟨fun t => by simp [Ltx.emit], rfl⟩ (fun t => eqv_nil) t
  rw [List.nil_append] at h
  rw [← norm_eqv h]
  refine (Ltx.norm_idle ?_).symm
  intro p hp
  obtain rfl := List.mem_singleton.1 hp
  rfl
theorem inv_sizes : ∀ (l : List Pc) (t : List UInt8), Ltx.extent (Ltx.inv t l) = Ltx.keeps l + Ltx.puts l ∧ Ltx.puts (Ltx.inv t l) ≤ Ltx.drops l
  | [], _ => ⟨rfl, Nat.le_refl _⟩
  | p :: r, t => by
    obtain ⟨h1, h2⟩ := inv_sizes r (t.drop (p.keep + p.drop))
    simp only [Ltx.inv, Ltx.extent, Ltx.keeps, Ltx.puts, Ltx.drops, h1, List.length_take]
    omega
theorem inv_tot (l : List Pc) (t : List UInt8) : totP (Ltx.inv t l) ≤ totP l := by
  have h := inv_sizes l t
  have h2 := Ltx.extent_two l
  unfold totP
  omega
theorem fine_tot {l : List Pc} (h : totP l ≤ 4000) : Ltx.Fine (Ltx.norm l) := by
  have h1 := totP_norm l
  have h2 := normal_tot (Ltx.norm_normal l)
  have h3 : totP (Ltx.norm l) = Ltx.extent (Ltx.norm l) + Ltx.puts (Ltx.norm l) := rfl
  exact Ltx.fine_of (by omega) (by omega) (by omega)
theorem ext_mid (bs : List UInt8) (i j : Nat) (h : i + j ≤ bs.length) : (⟨bs.toArray⟩ : ByteArray).extract i (i + j) = ⟨((bs.drop i).take j).toArray⟩ := by
  apply ByteArray.ext
  simp
end Go.Proofs.Ytoeplaofgmdlbaa
