/- How two rows of numbers lie to one another, as values. -/
import Derived.Test.YtflllhodeakpgaaPthBase
namespace Go.Proofs.Ytflllhodeakpgaa

def commonV : List Int → List Int → Nat
  | x :: p, y :: q => if x = y then commonV p q + 1 else 0
  | _, _ => 0
def cmpV : List Int → List Int → Int
  | [], [] => 0
  | [], _ :: _ => -1
  | _ :: _, [] => 1
  | x :: p, y :: q => if x = y then cmpV p q else if x < y then -1 else 1
def mayV (p : List Int) : Bool := decide (p.length ≤ 64 ∧ ∀ x ∈ p, 0 ≤ x ∧ x < 1048576)

theorem common_le : ∀ p q, commonV p q ≤ p.length ∧ commonV p q ≤ q.length
  | [], q => by simp [commonV]
  | x :: p, [] => by simp [commonV]
  | x :: p, y :: q => by
    have := common_le p q
    unfold commonV
    split
    · simp; omega
    · simp
theorem common_take : ∀ p q : List Int, p.take (commonV p q) = q.take (commonV p q)
  | [], q => by simp [commonV]
  | x :: p, [] => by simp [commonV]
  | x :: p, y :: q => by
    have := common_take p q
    unfold commonV
    split
    · rename_i h; subst h; simp [this]
    · simp
theorem common_unlike : ∀ (p q : List Int) (x y : Int), p[commonV p q]? = some x → q[commonV p q]? = some y → x ≠ y
  | [], q, x, y, h, _ => by simp at h
  | a :: p, [], x, y, _, h => by simp at h
  | a :: p, b :: q, x, y, h1, h2 => by
    have ih := common_unlike p q x y
    unfold commonV at h1 h2
    split at h1
    · rename_i h
      rw [if_pos h] at h2
      simp at h1 h2
      exact ih h1 h2
    · rename_i h
      rw [if_neg h] at h2
      simp at h1 h2
      subst h1 h2
      exact h
theorem drop_at {p : List Int} {k : Nat} {x : Int} (h : p[k]? = some x) : p.drop k = x :: p.drop (k + 1) := by
  obtain ⟨hl, rfl⟩ := List.getElem?_eq_some_iff.1 h
  exact List.drop_eq_getElem_cons hl
theorem common_step {p q : List Int} {k : Nat} {x : Int} (hp : p[k]? = some x) (hq : q[k]? = some x) : commonV (p.drop k) (q.drop k) = commonV (p.drop (k + 1)) (q.drop (k + 1)) + 1 := by
  rw [drop_at hp, drop_at hq]
  simp [commonV]
theorem common_stop {p q : List Int} {k : Nat} {x y : Int} (hp : p[k]? = some x) (hq : q[k]? = some y) (h : x ≠ y) : commonV (p.drop k) (q.drop k) = 0 := by
  rw [drop_at hp, drop_at hq]
  simp [commonV, h]
theorem common_end {p q : List Int} {k : Nat} (h : p.length ≤ k ∨ q.length ≤ k) : commonV (p.drop k) (q.drop k) = 0 := by
  rcases h with h | h
  · rw [List.drop_of_length_le h]; rfl
  · rw [List.drop_of_length_le h]
    cases p.drop k <;> rfl
theorem cmp_step {p q : List Int} {k : Nat} {x : Int} (hp : p[k]? = some x) (hq : q[k]? = some x) : cmpV (p.drop k) (q.drop k) = cmpV (p.drop (k + 1)) (q.drop (k + 1)) := by
  rw [drop_at hp, drop_at hq]
  simp [cmpV]
theorem cmp_stop {p q : List Int} {k : Nat} {x y : Int} (hp : p[k]? = some x) (hq : q[k]? = some y) (h : x ≠ y) : cmpV (p.drop k) (q.drop k) = if x < y then -1 else 1 := by
  rw [drop_at hp, drop_at hq]
  simp [cmpV, h]
theorem cmp_over {p q : List Int} {k : Nat} {x : Int} (hp : p[k]? = some x) (hq : q.length ≤ k) : cmpV (p.drop k) (q.drop k) = 1 := by
  rw [drop_at hp, List.drop_of_length_le hq]
  rfl
theorem cmp_end {p q : List Int} {k : Nat} (hp : p.length ≤ k) (hk : k ≤ p.length) : cmpV (p.drop k) (q.drop k) = if p.length < q.length then -1 else 0 := by
  rw [List.drop_of_length_le hp]
  by_cases h : k < q.length
  · rw [if_pos (by omega), drop_at (List.getElem?_eq_getElem h)]
    rfl
  · rw [if_neg (by omega), List.drop_of_length_le (by omega)]
    rfl
theorem common_self : ∀ p, commonV p p = p.length
  | [] => rfl
  | x :: p => by simp [commonV, common_self p]
theorem common_full {p q : List Int} (h : p.length = q.length) : commonV p q = p.length ↔ p = q := by
  constructor
  · intro e
    have := common_take p q
    rw [e, List.take_length, h, List.take_length] at this
    exact this
  · rintro rfl
    exact common_self p
theorem cmp_range : ∀ p q, cmpV p q = -1 ∨ cmpV p q = 0 ∨ cmpV p q = 1
  | [], [] => by simp [cmpV]
  | [], y :: q => by simp [cmpV]
  | x :: p, [] => by simp [cmpV]
  | x :: p, y :: q => by
    have := cmp_range p q
    unfold cmpV
    split
    · exact this
    · split <;> simp
theorem cmp_turn : ∀ p q, cmpV q p = -cmpV p q
  | [], [] => by simp [cmpV]
  | [], y :: q => by simp [cmpV]
  | x :: p, [] => by simp [cmpV]
  | x :: p, y :: q => by
    have := cmp_turn p q
    unfold cmpV
    by_cases h : x = y
    · subst h; simp [this]
    · rw [if_neg h, if_neg (fun e => h e.symm)]
      by_cases g : x < y
      · rw [if_pos g, if_neg (by omega)]; rfl
      · rw [if_neg g, if_pos (by omega)]
theorem cmp_same : ∀ p q, cmpV p q = 0 ↔ p = q
  | [], [] => by simp [cmpV]
  | [], y :: q => by simp [cmpV]
  | x :: p, [] => by simp [cmpV]
  | x :: p, y :: q => by
    have := cmp_same p q
    unfold cmpV
    by_cases h : x = y
    · subst h; simp [this]
    · rw [if_neg h]
      constructor
      · split <;> intro e <;> omega
      · intro e; injection e with e; exact absurd e h
theorem cmp_on : ∀ p q r, cmpV p q ≤ 0 → cmpV q r ≤ 0 → cmpV p r ≤ 0 ∧ (cmpV p q < 0 ∨ cmpV q r < 0 → cmpV p r < 0)
  | [], q, [] => by
    cases q <;> simp [cmpV]
  | [], q, z :: r => by simp [cmpV]
  | x :: p, [], r => by simp [cmpV]
  | x :: p, y :: q, [] => by simp [cmpV]
  | x :: p, y :: q, z :: r => by
    have ih := cmp_on p q r
    unfold cmpV
    rcases Int.lt_trichotomy x y with h1 | h1 | h1
    · rw [if_neg (by omega : ¬ x = y), if_pos h1]
      rcases Int.lt_trichotomy y z with h2 | h2 | h2
      · rw [if_neg (by omega : ¬ y = z), if_pos h2, if_neg (by omega : ¬ x = z), if_pos (by omega : x < z)]; omega
      · rw [if_pos h2, if_neg (by omega : ¬ x = z), if_pos (by omega : x < z)]; omega
      · rw [if_neg (by omega : ¬ y = z), if_neg (by omega : ¬ y < z)]; intros; omega
    · rw [if_pos h1]
      rcases Int.lt_trichotomy y z with h2 | h2 | h2
      · rw [if_neg (by omega : ¬ y = z), if_pos h2, if_neg (by omega : ¬ x = z), if_pos (by omega : x < z)]; omega
      · rw [if_pos h2, if_pos (by omega : x = z)]; exact ih
      · rw [if_neg (by omega : ¬ y = z), if_neg (by omega : ¬ y < z)]; intros; omega
    · rw [if_neg (by omega : ¬ x = y), if_neg (by omega : ¬ x < y)]; intros; omega
theorem cmp_within {p q : List Int} (h : commonV p q = p.length) : cmpV p q ≤ 0 := by
  induction p generalizing q with
  | nil => cases q <;> simp [cmpV]
  | cons x p ih =>
    cases q with
    | nil => simp [commonV] at h
    | cons y q =>
      unfold commonV at h
      unfold cmpV
      by_cases e : x = y
      · rw [if_pos e] at h ⊢
        exact ih (by simpa using h)
      · rw [if_neg e] at h
        simp at h
/-- the document's Compare -/
theorem cmp_ref (p q : List Int) : cmpV p q = if commonV p q = p.length ∧ commonV p q = q.length then 0 else if commonV p q = p.length then -1 else if commonV p q = q.length then 1 else
    if (p.getD (commonV p q) 0) < (q.getD (commonV p q) 0) then -1 else 1 := by
  induction p generalizing q with
  | nil => cases q <;> simp [cmpV, commonV]
  | cons x p ih =>
    cases q with
    | nil => simp [cmpV, commonV]
    | cons y q =>
      unfold cmpV commonV
      by_cases e : x = y
      · rw [if_pos e, if_pos e, ih q]
        simp
      · rw [if_neg e, if_neg e]
        simp
end Go.Proofs.Ytflllhodeakpgaa
