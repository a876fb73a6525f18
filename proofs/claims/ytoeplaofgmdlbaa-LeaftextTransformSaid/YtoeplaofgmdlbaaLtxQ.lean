/- Two edits read as rows of steps, step by step: what becomes of one behind the other. -/
import Derived.Test.YtoeplaofgmdlbaaLtxG
namespace Go.Proofs.Ytoeplaofgmdlbaa
open Ltx (Pc)

inductive St where
  | keep (n : Nat)
  | put (t : List UInt8)
  | drop (n : Nat)
def St.size : St → Nat
  | .keep n => n
  | .put t => t.length
  | .drop n => n
def St.pc : St → Pc
  | .keep n => ⟨n, 0, []⟩
  | .put t => ⟨0, 0, t⟩
  | .drop n => ⟨0, n, []⟩
def St.cut : St → Nat → St
  | .keep n, m => .keep (n - m)
  | .put t, m => .put (t.drop m)
  | .drop n, m => .drop (n - m)
theorem St.cut_size (s : St) (m : Nat) : (s.cut m).size = s.size - m := by cases s <;> simp [St.cut, St.size]
def trim : List St → List St
  | [] => []
  | s :: r => if s.size = 0 then trim r else s :: r
def cutS : List St → Nat → List St
  | [], _ => []
  | s :: r, m => trim (s.cut m :: r)
def rowS (l : List Pc) : List St := l.flatMap fun p => [.keep p.keep, .put p.put, .drop p.drop]
def pcs (l : List St) : List Pc := l.map St.pc
theorem pcs_row (l : List Pc) : pcs (rowS l) = prim l := by
  unfold pcs rowS prim
  induction l with
  | nil => rfl
  | cons p r ih => rw [List.flatMap_cons, List.flatMap_cons, List.map_append, ih]; rfl

/-! ### places of single steps -/
theorem pa_keep (n : Nat) (r : List Pc) (j : Nat) : Ltx.putAt (⟨n, 0, []⟩ :: r) j = if j < n then [] else Ltx.putAt r (j - n) := by
  rw [Ltx.putAt]
  dsimp only
  by_cases h : j < n
  · rw [if_pos h, if_pos h]
  · rw [if_neg h, if_neg h]
    by_cases h2 : j = n
    · rw [if_pos h2, h2]; simp
    · rw [if_neg h2, if_neg (by omega)]; simp
theorem pa_drop (n : Nat) (r : List Pc) (j : Nat) : Ltx.putAt (⟨0, n, []⟩ :: r) j = if j < n then [] else Ltx.putAt r (j - n) := by
  rw [Ltx.putAt]
  dsimp only
  rw [if_neg (by omega)]
  by_cases h2 : j = 0
  · rw [if_pos h2, h2]
    by_cases h3 : n = 0
    · rw [if_pos h3, if_neg (by omega), h3]; rfl
    · rw [if_neg h3, if_pos (by omega)]; rfl
  · rw [if_neg h2]
    by_cases h : j < n
    · rw [if_pos (by omega), if_pos h]
    · rw [if_neg (by omega), if_neg h, Nat.zero_add]
theorem pa_put (t : List UInt8) (r : List Pc) (j : Nat) : Ltx.putAt (⟨0, 0, t⟩ :: r) j = if j = 0 then t ++ Ltx.putAt r 0 else Ltx.putAt r j := by
  rw [Ltx.putAt]
  dsimp only
  rw [if_neg (by omega)]
  by_cases h2 : j = 0
  · rw [if_pos h2, if_pos h2, if_pos rfl]
  · rw [if_neg h2, if_neg h2, if_neg (by omega)]; simp
theorem da_keep (n : Nat) (r : List Pc) (j : Nat) : Ltx.dropAt (⟨n, 0, []⟩ :: r) j = if j < n then false else Ltx.dropAt r (j - n) := by
  rw [Ltx.dropAt]
  dsimp only
  by_cases h : j < n
  · rw [if_pos h, if_pos h]
  · rw [if_neg h, if_neg h, if_neg (by omega)]; simp
theorem da_drop (n : Nat) (r : List Pc) (j : Nat) : Ltx.dropAt (⟨0, n, []⟩ :: r) j = if j < n then true else Ltx.dropAt r (j - n) := by
  rw [Ltx.dropAt]
  dsimp only
  rw [if_neg (by omega), Nat.zero_add]
theorem da_put (t : List UInt8) (r : List Pc) (j : Nat) : Ltx.dropAt (⟨0, 0, t⟩ :: r) j = Ltx.dropAt r j := by
  rw [Ltx.dropAt]
  dsimp only
  rw [if_neg (by omega), if_neg (by omega)]
  simp
/-- the same at each place, and as far -/
structure Look (l m : List Pc) : Prop where
  pu : ∀ j, Ltx.putAt l j = Ltx.putAt m j
  dr : ∀ j, Ltx.dropAt l j = Ltx.dropAt m j
  ex : Ltx.extent l = Ltx.extent m
theorem Look.refl (l : List Pc) : Look l l := ⟨fun _ => rfl, fun _ => rfl, rfl⟩
theorem Look.trans {l m k : List Pc} (h : Look l m) (h2 : Look m k) : Look l k := ⟨fun j => (h.pu j).trans (h2.pu j), fun j => (h.dr j).trans (h2.dr j), h.ex.trans h2.ex⟩
theorem Look.symm {l m : List Pc} (h : Look l m) : Look m l := ⟨fun j => (h.pu j).symm, fun j => (h.dr j).symm, h.ex.symm⟩
theorem look_zero (s : St) (r : List Pc) (h : s.size = 0) : Look (s.pc :: r) r := by
  cases s with
  | keep n =>
    have hn : n = 0 := h
    subst hn
    exact ⟨fun j => by rw [St.pc, pa_keep, if_neg (by omega)]; rfl, fun j => by rw [St.pc, da_keep, if_neg (by omega)]; rfl, by simp [St.pc, Ltx.extent]⟩
  | put t =>
    have ht : t = [] := List.eq_nil_of_length_eq_zero h
    subst ht
    refine ⟨fun j => ?_, fun j => by rw [St.pc, da_put], by simp [St.pc, Ltx.extent]⟩
    rw [St.pc, pa_put]
    split
    · rename_i e; subst e; rfl
    · rfl
  | drop n =>
    have hn : n = 0 := h
    subst hn
    exact ⟨fun j => by rw [St.pc, pa_drop, if_neg (by omega)]; rfl, fun j => by rw [St.pc, da_drop, if_neg (by omega)]; rfl, by simp [St.pc, Ltx.extent]⟩
theorem look_trim : ∀ l : List St, Look (pcs (trim l)) (pcs l)
  | [] => Look.refl _
  | s :: r => by
    unfold trim
    split
    · rename_i h
      exact (look_trim r).trans (look_zero s (pcs r) h).symm
    · exact Look.refl _
theorem look_prim (l : List Pc) : Look (prim l) l := by
  have key : ∀ l : List Pc, (∀ j, Ltx.putAt (prim l) j = Ltx.putAt l j) ∧ (∀ j, Ltx.dropAt (prim l) j = Ltx.dropAt l j) ∧ Ltx.extent (prim l) = Ltx.extent l := by
    intro l
    induction l with
    | nil => exact ⟨fun _ => rfl, fun _ => rfl, rfl⟩
    | cons p r ih =>
      obtain ⟨h1, h2, h3⟩ := ih
      have e : prim (p :: r) = ⟨p.keep, 0, []⟩ :: ⟨0, 0, p.put⟩ :: ⟨0, p.drop, []⟩ :: prim r := rfl
      rw [e]
      refine ⟨fun j => ?_, fun j => ?_, ?_⟩
      · rw [pa_keep, pa_put, pa_drop, pa_drop, Ltx.putAt, h1, h1]
        by_cases a : j < p.keep
        · rw [if_pos a, if_pos a]
        · rw [if_neg a, if_neg a]
          by_cases b : j = p.keep
          · rw [if_pos b, if_pos (by omega)]
            by_cases c : p.drop = 0
            · rw [if_pos c, if_neg (by omega), c]
            · rw [if_neg c, if_pos (by omega)]
          · rw [if_neg b, if_neg (by omega)]
            by_cases c : j < p.keep + p.drop
            · rw [if_pos c, if_pos (by omega)]
            · rw [if_neg c, if_neg (by omega)]
              congr 1
              omega
      · rw [da_keep, da_put, da_drop, Ltx.dropAt, h2]
        by_cases a : j < p.keep
        · rw [if_pos a, if_pos a]
        · rw [if_neg a, if_neg a]
          by_cases c : j < p.keep + p.drop
          · rw [if_pos c, if_pos (by omega)]
          · rw [if_neg c, if_neg (by omega)]
            congr 1
            omega
      · simp [Ltx.extent, h3]
        omega
  exact ⟨(key l).1, (key l).2.1, (key l).2.2⟩
end Go.Proofs.Ytoeplaofgmdlbaa
