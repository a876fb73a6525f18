/- The document's two views of a normal edit, as far as it has been read. -/
import Derived.Test.YtoeplaofgmdlbaaLtxG
namespace Go.Proofs.Ytoeplaofgmdlbaa
open Ltx (Pc)

theorem putAt_app : ∀ (l m : List Pc) (j : Nat), Ltx.putAt (l ++ m) j = if j < Ltx.extent l then Ltx.putAt l j else if j = Ltx.extent l then Ltx.putAt l j ++ Ltx.putAt m 0 else Ltx.putAt m (j - Ltx.extent l)
  | [], m, j => by
    have e : Ltx.extent [] = 0 := rfl
    rw [e, List.nil_append, if_neg (Nat.not_lt_zero j)]
    by_cases h : j = 0
    · rw [if_pos h, h]; rfl
    · rw [if_neg h, Nat.sub_zero]
  | p :: r, m, j => by
    have ih := putAt_app r m
    rw [List.cons_append, Ltx.putAt, Ltx.putAt, Ltx.extent]
    by_cases h1 : j < p.keep
    · rw [if_pos h1, if_pos h1, if_pos (show j < p.keep + p.drop + Ltx.extent r by omega)]
    · rw [if_neg h1, if_neg h1]
      by_cases h2 : j = p.keep
      · rw [if_pos h2, if_pos h2]
        by_cases h3 : p.drop = 0
        · rw [if_pos h3, if_pos h3, ih 0]
          by_cases h4 : 0 < Ltx.extent r
          · rw [if_pos h4, if_pos (show j < p.keep + p.drop + Ltx.extent r by omega)]
          · rw [if_neg h4, if_pos (show 0 = Ltx.extent r by omega), if_neg (show ¬ j < p.keep + p.drop + Ltx.extent r by omega), if_pos (show j = p.keep + p.drop + Ltx.extent r by omega), List.append_assoc]
        · rw [if_neg h3, if_neg h3, if_pos (show j < p.keep + p.drop + Ltx.extent r by omega)]
      · rw [if_neg h2, if_neg h2]
        by_cases h5 : j < p.keep + p.drop
        · rw [if_pos h5, if_pos h5, if_pos (show j < p.keep + p.drop + Ltx.extent r by omega)]
        · rw [if_neg h5, if_neg h5, ih (j - (p.keep + p.drop))]
          by_cases h6 : j < p.keep + p.drop + Ltx.extent r
          · rw [if_pos (show j - (p.keep + p.drop) < Ltx.extent r by omega), if_pos h6]
          · rw [if_neg (show ¬ j - (p.keep + p.drop) < Ltx.extent r by omega), if_neg h6]
            by_cases h7 : j = p.keep + p.drop + Ltx.extent r
            · rw [if_pos (show j - (p.keep + p.drop) = Ltx.extent r by omega), if_pos h7]
            · rw [if_neg (show ¬ j - (p.keep + p.drop) = Ltx.extent r by omega), if_neg h7, Nat.sub_sub]
theorem dropAt_app : ∀ (l m : List Pc) (j : Nat), Ltx.dropAt (l ++ m) j = if j < Ltx.extent l then Ltx.dropAt l j else Ltx.dropAt m (j - Ltx.extent l)
  | [], m, j => by
    have e : Ltx.extent [] = 0 := rfl
    rw [e, List.nil_append, if_neg (Nat.not_lt_zero j), Nat.sub_zero]
  | p :: r, m, j => by
    have ih := dropAt_app r m
    rw [List.cons_append, Ltx.dropAt, Ltx.dropAt, Ltx.extent]
    by_cases h1 : j < p.keep
    · rw [if_pos h1, if_pos h1, if_pos (show j < p.keep + p.drop + Ltx.extent r by omega)]
    · rw [if_neg h1, if_neg h1]
      by_cases h5 : j < p.keep + p.drop
      · rw [if_pos h5, if_pos h5, if_pos (show j < p.keep + p.drop + Ltx.extent r by omega)]
      · rw [if_neg h5, if_neg h5, ih (j - (p.keep + p.drop))]
        by_cases h6 : j < p.keep + p.drop + Ltx.extent r
        · rw [if_pos (show j - (p.keep + p.drop) < Ltx.extent r by omega), if_pos h6]
        · rw [if_neg (show ¬ j - (p.keep + p.drop) < Ltx.extent r by omega), if_neg h6, Nat.sub_sub]
/-- one more piece of a normal edit: its text stands where nothing stood -/
theorem putAt_next {l : List Pc} {p : Pc} (h : p.keep ≠ 0 ∨ l = []) (j : Nat) : Ltx.putAt (l ++ [p]) j = if j = Ltx.extent l + p.keep then p.put else Ltx.putAt l j := by
  have hone : ∀ i, Ltx.putAt [p] i = if i = p.keep then p.put else [] := fun i => by
    rw [Ltx.putAt]
    by_cases h1 : i < p.keep
    · rw [if_pos h1, if_neg (by omega)]
    · rw [if_neg h1]
      by_cases h2 : i = p.keep
      · rw [if_pos h2, if_pos h2]
        have : (if p.drop = 0 then Ltx.putAt [] 0 else []) = ([] : List UInt8) := by split <;> rfl
        rw [this, List.append_nil]
      · rw [if_neg h2, if_neg h2]
        split <;> rfl
  rw [putAt_app, hone, hone]
  by_cases h1 : j < Ltx.extent l
  · rw [if_pos h1, if_neg (by omega)]
  · rw [if_neg h1]
    by_cases h2 : j = Ltx.extent l
    · rw [if_pos h2]
      rcases h with h | h
      · rw [if_neg (by omega), if_neg (by omega), List.append_nil]
      · subst h
        have h0 : j = 0 := h2
        subst h0
        have e : Ltx.extent [] = 0 := rfl
        rw [e, Nat.zero_add]
        rfl
    · rw [if_neg h2]
      by_cases h3 : j = Ltx.extent l + p.keep
      · rw [if_pos (by omega), if_pos h3]
      · rw [if_neg (by omega), if_neg h3, Ltx.putAt_far l j (by omega)]
theorem dropAt_next (l : List Pc) (p : Pc) (j : Nat) : Ltx.dropAt (l ++ [p]) j = if Ltx.extent l + p.keep ≤ j ∧ j < Ltx.extent l + p.keep + p.drop then true else Ltx.dropAt l j := by
  have hone : ∀ i, Ltx.dropAt [p] i = decide (p.keep ≤ i ∧ i < p.keep + p.drop) := fun i => by
    rw [Ltx.dropAt]
    by_cases h1 : i < p.keep
    · rw [if_pos h1, decide_eq_false (by omega)]
    · rw [if_neg h1]
      by_cases h2 : i < p.keep + p.drop
      · rw [if_pos h2, decide_eq_true (by omega)]
      · rw [if_neg h2, decide_eq_false (by omega)]; rfl
  rw [dropAt_app, hone]
  by_cases h1 : j < Ltx.extent l
  · rw [if_pos h1, if_neg (by omega)]
  · rw [if_neg h1]
    by_cases h2 : Ltx.extent l + p.keep ≤ j ∧ j < Ltx.extent l + p.keep + p.drop
    · rw [if_pos h2, decide_eq_true (by omega)]
    · rw [if_neg h2, decide_eq_false (by omega), Ltx.dropAt_far l j (by omega)]
theorem normal_keep {l : List Pc} (h : Ltx.Normal l) (q : Nat) (p : Pc) (hp : l[q]? = some p) : p.keep ≠ 0 ∨ l.take q = [] := by
  cases l with
  | nil => simp at hp
  | cons a r =>
    cases q with
    | zero => exact .inr rfl
    | succ q => exact .inl (h.2 p (List.mem_of_getElem? (by simpa using hp))).2
end Go.Proofs.Ytoeplaofgmdlbaa
