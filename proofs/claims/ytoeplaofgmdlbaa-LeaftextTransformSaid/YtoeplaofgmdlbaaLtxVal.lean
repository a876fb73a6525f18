/- Edits of a text, as values: what stands between the bytes that are kept (gaps); normal edits; a text, edited. -/
import Derived.Test.YtoeplaofgmdlbaaProg
namespace Go.Proofs.Ytoeplaofgmdlbaa.Ltx

structure Pc where
  keep : Nat
  drop : Nat
  put : List UInt8
deriving DecidableEq
/-- what is put, and how many are dropped, behind j bytes that are kept -/
def gap : List Pc → Nat → List UInt8 × Nat
  | [], _ => ([], 0)
  | p :: r, j => if j < p.keep then ([], 0) else if j = p.keep then (p.put ++ (gap r 0).1, p.drop + (gap r 0).2) else gap r (j - p.keep)
def extent : List Pc → Nat
  | [] => 0
  | p :: r => p.keep + p.drop + extent r
def keeps : List Pc → Nat
  | [] => 0
  | p :: r => p.keep + keeps r
def apply : List UInt8 → List Pc → List UInt8
  | t, [] => t
  | t, p :: r => t.take p.keep ++ p.put ++ apply (t.drop (p.keep + p.drop)) r
/-- a piece that neither puts nor drops -/
def idle (p : Pc) : Bool := p.put.isEmpty && p.drop == 0
/-- the last one of a row, with more behind it -/
def joinLast (out : List Pc) (p : Pc) : List Pc :=
  match out.getLast? with
  | none => out
  | some q => out.dropLast ++ [⟨q.keep, q.drop + p.drop, q.put ++ p.put⟩]
def normStep (s : List Pc × Nat) (p : Pc) : List Pc × Nat :=
  if idle p then (s.1, s.2 + p.keep)
  else if s.2 + p.keep = 0 ∧ s.1 ≠ [] then (joinLast s.1 p, 0)
  else (s.1 ++ [⟨s.2 + p.keep, p.drop, p.put⟩], 0)
def norm (l : List Pc) : List Pc := (l.foldl normStep ([], 0)).1

/-! ### gaps -/
theorem gap_append : ∀ (l m : List Pc) (j : Nat), gap (l ++ m) j =
    if j < keeps l then gap l j else if j = keeps l then ((gap l j).1 ++ (gap m 0).1, (gap l j).2 + (gap m 0).2) else gap m (j - keeps l)
  | [], m, j => by
    simp only [List.nil_append, keeps, Nat.not_lt_zero, if_false, gap, Nat.sub_zero, Nat.zero_add]
    split
    · rename_i h; subst h; simp
    · rfl
  | p :: r, m, j => by
    have ih := gap_append r m
    have hk : keeps (p :: r) = p.keep + keeps r := rfl
    simp only [List.cons_append, gap]
    by_cases h1 : j < p.keep
    · rw [if_pos h1, if_pos h1, if_pos (by omega)]
    · rw [if_neg h1, if_neg h1]
      by_cases h2 : j = p.keep
      · rw [if_pos h2, if_pos h2]
        have i0 := ih 0
        by_cases h3 : 0 < keeps r
        · rw [if_pos (by omega), i0, if_pos h3]
        · rw [if_neg (by omega), if_pos (by omega), i0, if_neg h3, if_pos (by omega)]
          simp [Nat.add_assoc]
      · rw [if_neg h2, if_neg h2, ih (j - p.keep)]
        by_cases h3 : j - p.keep < keeps r
        · rw [if_pos h3, if_pos (by omega)]
        · rw [if_neg h3, if_neg (show ¬ j < keeps (p :: r) by omega)]
          by_cases h4 : j - p.keep = keeps r
          · rw [if_pos h4, if_pos (show j = keeps (p :: r) by omega)]
          · rw [if_neg h4, if_neg (show ¬ j = keeps (p :: r) by omega)]
            congr 1
            omega
theorem gap_far : ∀ (l : List Pc) (j : Nat), keeps l < j → gap l j = ([], 0)
  | [], _, _ => rfl
  | p :: r, j, h => by
    unfold keeps at h
    unfold gap
    rw [if_neg (by omega), if_neg (by omega)]
    exact gap_far r _ (by omega)
/-- pieces all of which do something, and keep something -/
def NormalT (l : List Pc) : Prop := ∀ p ∈ l, idle p = false ∧ p.keep ≠ 0
def Normal : List Pc → Prop
  | [] => True
  | p :: r => idle p = false ∧ NormalT r
theorem NormalT.zero : ∀ {l : List Pc}, NormalT l → gap l 0 = ([], 0)
  | [], _ => rfl
  | p :: r, h => by
    have := (h p List.mem_cons_self).2
    unfold gap
    rw [if_pos (by omega)]
theorem NormalT.normal : ∀ {l : List Pc}, NormalT l → Normal l
  | [], _ => trivial
  | p :: r, h => ⟨(h p List.mem_cons_self).1, fun q hq => h q (List.mem_cons_of_mem _ hq)⟩
theorem idle_gap {p : Pc} (h : idle p = false) : (p.put, p.drop) ≠ ([], 0) := by
  intro e
  obtain ⟨h1, h2⟩ := Prod.mk.inj e
  unfold idle at h
  rw [h1, h2] at h
  cases h
theorem gap_head {p : Pc} {r : List Pc} (h : NormalT r) : gap (p :: r) p.keep = (p.put, p.drop) := by
  unfold gap
  rw [if_neg (by omega), if_pos rfl, h.zero]
  simp
theorem gap_tail {p : Pc} {r : List Pc} (h : NormalT r) (j : Nat) : gap r j = if j = 0 then ([], 0) else gap (p :: r) (j + p.keep) := by
  split
  · rename_i e; subst e; exact h.zero
  · rename_i e
    conv => rhs; unfold gap
    rw [if_neg (by omega), if_neg (by omega), Nat.add_sub_cancel]
/-- a normal edit is told by its gaps -/
theorem normal_ext : ∀ {l m : List Pc}, Normal l → Normal m → (∀ j, gap l j = gap m j) → l = m
  | [], [], _, _, _ => rfl
  | [], q :: s, _, hm, h => by
    have := h q.keep
    rw [gap_head hm.2] at this
    exact absurd this.symm (idle_gap hm.1)
  | p :: r, [], hl, _, h => by
    have := h p.keep
    rw [gap_head hl.2] at this
    exact absurd this (idle_gap hl.1)
  | p :: r, q :: s, hl, hm, h => by
    have hk : p.keep = q.keep := by
      rcases Nat.lt_trichotomy p.keep q.keep with h1 | h1 | h1
      · have := h p.keep
        rw [gap_head hl.2] at this
        rw [show gap (q :: s) p.keep = ([], 0) by unfold gap; rw [if_pos h1]] at this
        exact absurd this (idle_gap hl.1)
      · exact h1
      · have := h q.keep
        rw [gap_head hm.2] at this
        rw [show gap (p :: r) q.keep = ([], 0) by unfold gap; rw [if_pos h1]] at this
        exact absurd this.symm (idle_gap hm.1)
    have h1 := h p.keep
    rw [gap_head hl.2, hk, gap_head hm.2] at h1
    obtain ⟨e1, e2⟩ := Prod.mk.inj h1
    have hrs : r = s := normal_ext hl.2.normal hm.2.normal fun j => by
      rw [gap_tail hl.2 (p := p), gap_tail hm.2 (p := q)]
      split
      · rfl
      · rw [hk]; exact h _
    subst hrs
    cases p; cases q
    simp_all

/-! ### what norm does -/
theorem keeps_append (l m : List Pc) : keeps (l ++ m) = keeps l + keeps m := by
  induction l with
  | nil => simp [keeps]
  | cons p r ih => simp [keeps, ih, Nat.add_assoc]
/-- the state stands for what has been read -/
structure Stands (s : List Pc × Nat) (l : List Pc) : Prop where
  nm : Normal s.1
  ks : keeps s.1 + s.2 = keeps l
  gs : ∀ j, gap s.1 j = gap l j
theorem normal_snoc {l : List Pc} {p : Pc} (h : Normal l) (hp : idle p = false) (hk : l = [] ∨ p.keep ≠ 0) : Normal (l ++ [p]) := by
  cases l with
  | nil => exact ⟨hp, fun q hq => by cases hq⟩
  | cons q r =>
    refine ⟨h.1, fun x hx => ?_⟩
    rcases List.mem_append.1 hx with hx | hx
    · exact h.2 x hx
    · obtain rfl := List.mem_singleton.1 hx
      exact ⟨hp, hk.resolve_left (by simp)⟩
theorem Stands.step {s : List Pc × Nat} {l : List Pc} (h : Stands s l) (p : Pc) : Stands (normStep s p) (l ++ [p]) := by
  obtain ⟨out, k⟩ := s
  obtain ⟨hn, hk, hg⟩ := h
  dsimp only at hn hk hg
  have hone : ∀ j, gap [p] j = if j = p.keep then (p.put, p.drop) else ([], 0) := fun j => by
    unfold gap
    split
    · rw [if_neg (by omega)]
    · split
      · simp [gap]
      · rfl
  unfold normStep
  dsimp only
  by_cases hi : idle p = true
  · rw [if_pos hi]
    refine ⟨hn, by rw [keeps_append]; simp [keeps]; omega, fun j => ?_⟩
    have hp : p.put = [] ∧ p.drop = 0 := by unfold idle at hi; simpa using hi
    dsimp only
    rw [hg j, gap_append]
    split
    · rfl
    · split
      · rename_i h1 h2
        have : gap [p] 0 = ([], 0) := by rw [hone, hp.1, hp.2]; split <;> rfl
        rw [this]
        simp
      · rename_i h1 h2
        rw [gap_far l j (by omega), hone, hp.1, hp.2]
        split <;> rfl
  · have hi' : idle p = false := by simpa using hi
    rw [if_neg hi]
    by_cases hz : k + p.keep = 0 ∧ out ≠ []
    · rw [if_pos hz]
      obtain ⟨hz1, hz2⟩ := hz
      obtain ⟨init, q, rfl⟩ : ∃ init q, out = init ++ [q] := ⟨out.dropLast, out.getLast hz2, (List.dropLast_concat_getLast hz2).symm⟩
      have hj : joinLast (init ++ [q]) p = init ++ [⟨q.keep, q.drop + p.drop, q.put ++ p.put⟩] := by
        unfold joinLast
        simp
      rw [hj]
      have hk2 : keeps (init ++ [(⟨q.keep, q.drop + p.drop, q.put ++ p.put⟩ : Pc)]) = keeps (init ++ [q]) := by rw [keeps_append, keeps_append]; rfl
      have hpk : p.keep = 0 := by omega
      have hk0 : k = 0 := by omega
      have hidle : idle (⟨q.keep, q.drop + p.drop, q.put ++ p.put⟩ : Pc) = false := by
        unfold idle at hi' ⊢
        simp only [Bool.and_eq_false_iff] at hi' ⊢
        rcases hi' with h | h
        · left
          cases hpp : p.put with
          | nil => rw [hpp] at h; cases h
          | cons a b => simp
        · right
          simp at h ⊢
          omega
      refine ⟨?_, ?_, fun j => ?_⟩
      · cases init with
        | nil => exact ⟨hidle, fun x hx => by cases hx⟩
        | cons a r =>
          refine ⟨hn.1, fun x hx => ?_⟩
          rcases List.mem_append.1 hx with hx | hx
          · exact hn.2 x (List.mem_append_left _ hx)
          · obtain rfl := List.mem_singleton.1 hx
            exact ⟨hidle, (hn.2 q (List.mem_append_right _ List.mem_cons_self)).2⟩
      · dsimp only
        rw [hk2, keeps_append l]
        simp [keeps]
        omega
      · dsimp only
        have hkl : keeps (init ++ [q]) = keeps l := by omega
        have e1 : gap (init ++ [(⟨q.keep, q.drop + p.drop, q.put ++ p.put⟩ : Pc)]) j = gap ((init ++ [q]) ++ [p]) j := by
          rw [gap_append, gap_append (init ++ [q]), gap_append init [q], keeps_append]
          have hq : ∀ i, gap [q] i = if i = q.keep then (q.put, q.drop) else ([], 0) := fun i => by
            unfold gap
            split
            · rw [if_neg (by omega)]
            · split
              · simp [gap]
              · rfl
          have hq2 : ∀ i, gap [(⟨q.keep, q.drop + p.drop, q.put ++ p.put⟩ : Pc)] i = if i = q.keep then (q.put ++ p.put, q.drop + p.drop) else ([], 0) := fun i => by
            unfold gap
            dsimp only
            split
            · rw [if_neg (by omega)]
            · split
              · simp [gap]
              · rfl
          simp only [hq, hq2, hone, keeps, hpk, Nat.add_zero]
          by_cases h1 : j < keeps init
          · rw [if_pos h1, if_pos (by omega), if_pos h1]
          · rw [if_neg h1]
            by_cases h2 : j = keeps init
            · subst h2
              by_cases h3 : q.keep = 0
              · simp [h3, Nat.add_assoc]
              · have h4 : ¬ 0 = q.keep := fun e => h3 e.symm
                have h5 : 0 < q.keep := by omega
                simp [h4, h5]
            · rw [if_neg h2]
              by_cases h3 : j - keeps init = q.keep
              · have h4 : j = keeps init + q.keep := by omega
                rw [if_pos h3, if_neg (by omega), if_pos h4, if_neg (by omega), if_neg h2, if_pos h3]
                simp
              · rw [if_neg h3]
                by_cases h4 : j < keeps init + q.keep
                · rw [if_pos h4, if_neg (by omega), if_neg h2, if_neg h3]
                · rw [if_neg h4, if_neg (by omega), if_neg (by omega)]
        rw [e1, gap_append, gap_append l]
        rw [hkl, hg j]
    · rw [if_neg hz]
      refine ⟨normal_snoc hn hi' ?_, ?_, fun j => ?_⟩
      · by_cases ho : out = []
        · exact .inl ho
        · exact .inr fun e => hz ⟨e, ho⟩
      · dsimp only
        rw [keeps_append, keeps_append]
        simp [keeps]
        omega
      · dsimp only
        have hx : ∀ i, gap [(⟨k + p.keep, p.drop, p.put⟩ : Pc)] i = if i = k + p.keep then (p.put, p.drop) else ([], 0) := fun i => by
          unfold gap
          dsimp only
          split
          · rw [if_neg (by omega)]
          · split
            · simp [gap]
            · rfl
        rw [gap_append, gap_append l, hx, hx, hone, hone, hg]
        by_cases h1 : j < keeps out
        · rw [if_pos h1, if_pos (by omega)]
        · rw [if_neg h1]
          by_cases h2 : j = keeps out
          · rw [if_pos h2]
            by_cases h3 : k = 0
            · have h4 : j = keeps l := by omega
              rw [if_neg (show ¬ j < keeps l by omega), if_pos h4, h3, Nat.zero_add]
            · have h5 : ¬ (0 = k + p.keep) := by omega
              rw [if_pos (show j < keeps l by omega), if_neg h5]
              simp
          · rw [if_neg h2]
            by_cases h3 : j < keeps l
            · rw [if_pos h3, if_neg (by omega)]
              have := hg j
              rw [gap_far out j (by omega)] at this
              exact this
            · rw [if_neg h3]
              by_cases h4 : j = keeps l
              · rw [if_pos h4]
                have := hg j
                rw [gap_far out j (by omega)] at this
                rw [← this]
                by_cases h5 : p.keep = 0
                · rw [if_pos (by omega), if_pos h5.symm]
                  simp
                · rw [if_neg (by omega), if_neg (fun e => h5 e.symm)]
                  rfl
              · rw [if_neg h4]
                by_cases h5 : j - keeps l = p.keep
                · rw [if_pos (by omega), if_pos h5]
                · rw [if_neg (by omega), if_neg h5]
theorem stands_all (l : List Pc) : ∀ (m : List Pc) (s : List Pc × Nat), Stands s m → Stands (l.foldl normStep s) (m ++ l) := by
  induction l with
  | nil => intro m s h; rw [List.append_nil]; exact h
  | cons p r ih =>
    intro m s h
    have := ih (m ++ [p]) (normStep s p) (h.step p)
    rw [List.append_assoc] at this
    exact this
theorem norm_stands (l : List Pc) : Stands (l.foldl normStep ([], 0)) l := by
  have := stands_all l [] ([], 0) ⟨trivial, rfl, fun _ => rfl⟩
  exact this
theorem norm_normal (l : List Pc) : Normal (norm l) := (norm_stands l).nm
theorem norm_gap (l : List Pc) (j : Nat) : gap (norm l) j = gap l j := (norm_stands l).gs j
theorem norm_ext {l m : List Pc} (h : ∀ j, gap l j = gap m j) : norm l = norm m :=
  normal_ext (norm_normal l) (norm_normal m) fun j => by rw [norm_gap, norm_gap, h]
theorem norm_self {l : List Pc} (h : Normal l) : norm l = l := normal_ext (norm_normal l) h (norm_gap l)
theorem norm_norm (l : List Pc) : norm (norm l) = norm l := norm_self (norm_normal l)
end Go.Proofs.Ytoeplaofgmdlbaa.Ltx
