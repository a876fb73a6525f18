/- MgB: LtxVal LtxSq LtxInv LtxSize LtxComp LtxBase LtxFr LtxA LtxC LtxD LtxE LtxF LtxB LtxG LtxH LtxI LtxJ LtxK LtxShelf LtxL LtxM PthBase PthVal PthA PthB PthC PthD PthE PthF -/
import Derived.Test.YtoeblaecldhcaaaProg
import Derived.Test.YtoeblaecldhcaaaMgA
import Derived.Test.YtoeblaecldhcaaaRows
import Derived.Deep.Slices
import Derived.Deep.Fields
import Derived.ChangeSame
import Derived.ShutString
import Derived.Lib.AppendStr
import Derived.Deep.RegionHeld3
import Derived.Deep.AppendLies
import Derived.Deep.CutRange
import Derived.Laws.StructEq
import Derived.RegionTactic
import Derived.BigRegion
import Derived.Lib.Builder
import Derived.Shelf.Strings.Builder1
import Derived.WalkKit
import Derived.WalkMore
import Derived.WalkLawsBesides
import Derived.WalkSpells
import Derived.Outline
import Derived.Lib.Hide
import Derived.Laws.CopyOwn
import Derived.Maps.AppendAt
import Derived.Laws.AppendOwnNone
import Derived.Deep.QuietTactic
import Derived.BigQuiet
import Derived.ScopeJumps
import Derived.Deep.RegionWith
import Derived.OwnWalk
import Derived.Laws.FloatArith
import Derived.Laws.Cover2
import Derived.Laws.Cover3
import Derived.Laws.OwnMore
/- Edits of a text, as values: what stands between the bytes that are kept (gaps); normal edits; a text, edited. -/
namespace Go.Proofs.Ytoeblaecldhcaaa.Ltx
set_option linter.unusedVariables false
structure Pc where
  keep : Nat
  drop : Nat
  put : List UInt8
deriving DecidableEq
/-- what is put, and how many are dropped, behind j bytes that are kept -/
def gap : List Pc → Nat → List UInt8 × Nat
  | [], _ => ([], 0)
  | p :: r, j => if j < p.keep then ([], 0) else if j = p.keep then (p.put ++ (gap r 0).1, p.drop + (gap r 0).2) else gap r (j - p.keep)
def extent : List Pc → Nat
  | [] => 0
  | p :: r => p.keep + p.drop + extent r
def keeps : List Pc → Nat
  | [] => 0
  | p :: r => p.keep + keeps r
def apply : List UInt8 → List Pc → List UInt8
  | t, [] => t
  | t, p :: r => t.take p.keep ++ p.put ++ apply (t.drop (p.keep + p.drop)) r
/-- a piece that neither puts nor drops -/
def idle (p : Pc) : Bool := p.put.isEmpty && p.drop == 0
/-- the last one of a row, with more behind it -/
def joinLast (out : List Pc) (p : Pc) : List Pc :=
  match out.getLast? with
  | none => out
  | some q => out.dropLast ++ [⟨q.keep, q.drop + p.drop, q.put ++ p.put⟩]
def normStep (s : List Pc × Nat) (p : Pc) : List Pc × Nat :=
  if idle p then (s.1, s.2 + p.keep)
  else if s.2 + p.keep = 0 ∧ s.1 ≠ [] then (joinLast s.1 p, 0)
  else (s.1 ++ [⟨s.2 + p.keep, p.drop, p.put⟩], 0)
def norm (l : List Pc) : List Pc := (l.foldl normStep ([], 0)).1

/-! ### gaps -/
theorem gap_append : ∀ (l m : List Pc) (j : Nat), gap (l ++ m) j =
    if j < keeps l then gap l j else if j = keeps l then ((gap l j).1 ++ (gap m 0).1, (gap l j).2 + (gap m 0).2) else gap m (j - keeps l)
  | [], m, j => by
    simp only [List.nil_append, keeps, Nat.not_lt_zero, if_false, gap, Nat.sub_zero, Nat.zero_add]
    split
    · rename_i h; subst h; simp
    · rfl
  | p :: r, m, j => by
    have ih := gap_append r m
    have hk : keeps (p :: r) = p.keep + keeps r := rfl
    simp only [List.cons_append, gap]
    by_cases h1 : j < p.keep
    · rw [if_pos h1, if_pos h1, if_pos (by omega)]
    · rw [if_neg h1, if_neg h1]
      by_cases h2 : j = p.keep
      · rw [if_pos h2, if_pos h2]
        have i0 := ih 0
        by_cases h3 : 0 < keeps r
        · rw [if_pos (by omega), i0, if_pos h3]
        · rw [if_neg (by omega), if_pos (by omega), i0, if_neg h3, if_pos (by omega)]
          simp [Nat.add_assoc]
      · rw [if_neg h2, if_neg h2, ih (j - p.keep)]
        by_cases h3 : j - p.keep < keeps r
        · rw [if_pos h3, if_pos (by omega)]
        · rw [if_neg h3, if_neg (show ¬ j < keeps (p :: r) by omega)]
          by_cases h4 : j - p.keep = keeps r
          · rw [if_pos h4, if_pos (show j = keeps (p :: r) by omega)]
          · rw [if_neg h4, if_neg (show ¬ j = keeps (p :: r) by omega)]
            congr 1
            omega
theorem gap_far : ∀ (l : List Pc) (j : Nat), keeps l < j → gap l j = ([], 0)
  | [], _, _ => rfl
  | p :: r, j, h => by
    unfold keeps at h
    unfold gap
    rw [if_neg (by omega), if_neg (by omega)]
    exact gap_far r _ (by omega)
/-- pieces all of which do something, and keep something -/
def NormalT (l : List Pc) : Prop := ∀ p ∈ l, idle p = false ∧ p.keep ≠ 0
def Normal : List Pc → Prop
  | [] => True
  | p :: r => idle p = false ∧ NormalT r
theorem NormalT.zero : ∀ {l : List Pc}, NormalT l → gap l 0 = ([], 0)
  | [], _ => rfl
  | p :: r, h => by
    have := (h p List.mem_cons_self).2
    unfold gap
    rw [if_pos (by omega)]
theorem NormalT.normal : ∀ {l : List Pc}, NormalT l → Normal l
  | [], _ => trivial
  | p :: r, h => ⟨(h p List.mem_cons_self).1, fun q hq => h q (List.mem_cons_of_mem _ hq)⟩
theorem idle_gap {p : Pc} (h : idle p = false) : (p.put, p.drop) ≠ ([], 0) := by
  intro e
  obtain ⟨h1, h2⟩ := Prod.mk.inj e
  unfold idle at h
  rw [h1, h2] at h
  cases h
theorem gap_head {p : Pc} {r : List Pc} (h : NormalT r) : gap (p :: r) p.keep = (p.put, p.drop) := by
  unfold gap
  rw [if_neg (by omega), if_pos rfl, h.zero]
  simp
theorem gap_tail {p : Pc} {r : List Pc} (h : NormalT r) (j : Nat) : gap r j = if j = 0 then ([], 0) else gap (p :: r) (j + p.keep) := by
  split
  · rename_i e; subst e; exact h.zero
  · rename_i e
    conv => rhs; unfold gap
    rw [if_neg (by omega), if_neg (by omega), Nat.add_sub_cancel]
/-- a normal edit is told by its gaps -/
theorem normal_ext : ∀ {l m : List Pc}, Normal l → Normal m → (∀ j, gap l j = gap m j) → l = m
  | [], [], _, _, _ => rfl
  | [], q :: s, _, hm, h => by
    have := h q.keep
    rw [gap_head hm.2] at this
    exact absurd this.symm (idle_gap hm.1)
  | p :: r, [], hl, _, h => by
    have := h p.keep
    rw [gap_head hl.2] at this
    exact absurd this (idle_gap hl.1)
  | p :: r, q :: s, hl, hm, h => by
    have hk : p.keep = q.keep := by
      rcases Nat.lt_trichotomy p.keep q.keep with h1 | h1 | h1
      · have := h p.keep
        rw [gap_head hl.2] at this
        rw [show gap (q :: s) p.keep = ([], 0) by unfold gap; rw [if_pos h1]] at this
        exact absurd this (idle_gap hl.1)
      · exact h1
      · have := h q.keep
        rw [gap_head hm.2] at this
        rw [show gap (p :: r) q.keep = ([], 0) by unfold gap; rw [if_pos h1]] at this
        exact absurd this.symm (idle_gap hm.1)
    have h1 := h p.keep
    rw [gap_head hl.2, hk, gap_head hm.2] at h1
    obtain ⟨e1, e2⟩ := Prod.mk.inj h1
    have hrs : r = s := normal_ext hl.2.normal hm.2.normal fun j => by
      rw [gap_tail hl.2 (p := p), gap_tail hm.2 (p := q)]
      split
      · rfl
      · rw [hk]; exact h _
    subst hrs
    cases p; cases q
    simp_all

/-! ### what norm does -/
theorem keeps_append (l m : List Pc) : keeps (l ++ m) = keeps l + keeps m := by
  induction l with
  | nil => simp [keeps]
  | cons p r ih => simp [keeps, ih, Nat.add_assoc]
/-- the state stands for what has been read -/
structure Stands (s : List Pc × Nat) (l : List Pc) : Prop where
  nm : Normal s.1
  ks : keeps s.1 + s.2 = keeps l
  gs : ∀ j, gap s.1 j = gap l j
theorem normal_snoc {l : List Pc} {p : Pc} (h : Normal l) (hp : idle p = false) (hk : l = [] ∨ p.keep ≠ 0) : Normal (l ++ [p]) := by
  cases l with
  | nil => exact ⟨hp, fun q hq => by cases hq⟩
  | cons q r =>
    refine ⟨h.1, fun x hx => ?_⟩
    rcases List.mem_append.1 hx with hx | hx
    · exact h.2 x hx
    · obtain rfl := List.mem_singleton.1 hx
      exact ⟨hp, hk.resolve_left (by simp)⟩
theorem Stands.step {s : List Pc × Nat} {l : List Pc} (h : Stands s l) (p : Pc) : Stands (normStep s p) (l ++ [p]) := by
  obtain ⟨out, k⟩ := s
  obtain ⟨hn, hk, hg⟩ := h
  dsimp only at hn hk hg
  have hone : ∀ j, gap [p] j = if j = p.keep then (p.put, p.drop) else ([], 0) := fun j => by
    unfold gap
    split
    · rw [if_neg (by omega)]
    · split
      · simp [gap]
      · rfl
  unfold normStep
  dsimp only
  by_cases hi : idle p = true
  · rw [if_pos hi]
    refine ⟨hn, by rw [keeps_append]; simp [keeps]; omega, fun j => ?_⟩
    have hp : p.put = [] ∧ p.drop = 0 := by unfold idle at hi; simpa using hi
    dsimp only
    rw [hg j, gap_append]
    split
    · rfl
    · split
      · rename_i h1 h2
        have : gap [p] 0 = ([], 0) := by rw [hone, hp.1, hp.2]; split <;> rfl
        rw [this]
        simp
      · rename_i h1 h2
        rw [gap_far l j (by omega), hone, hp.1, hp.2]
        split <;> rfl
  · have hi' : idle p = false := by simpa using hi
    rw [if_neg hi]
    by_cases hz : k + p.keep = 0 ∧ out ≠ []
    · rw [if_pos hz]
      obtain ⟨hz1, hz2⟩ := hz
      obtain ⟨init, q, rfl⟩ : ∃ init q, out = init ++ [q] := ⟨out.dropLast, out.getLast hz2, (List.dropLast_concat_getLast hz2).symm⟩
      have hj : joinLast (init ++ [q]) p = init ++ [⟨q.keep, q.drop + p.drop, q.put ++ p.put⟩] := by
        unfold joinLast
        simp
      rw [hj]
      have hk2 : keeps (init ++ [(⟨q.keep, q.drop + p.drop, q.put ++ p.put⟩ : Pc)]) = keeps (init ++ [q]) := by rw [keeps_append, keeps_append]; rfl
      have hpk : p.keep = 0 := by omega
      have hk0 : k = 0 := by omega
      have hidle : idle (⟨q.keep, q.drop + p.drop, q.put ++ p.put⟩ : Pc) = false := by
        unfold idle at hi' ⊢
        simp only [Bool.and_eq_false_iff] at hi' ⊢
        rcases hi' with h | h
        · left
          cases hpp : p.put with
          | nil => rw [hpp] at h; cases h
          | cons a b => simp
        · right
          simp at h ⊢
          omega
      refine ⟨?_, ?_, fun j => ?_⟩
      · cases init with
        | nil => exact ⟨hidle, fun x hx => by cases hx⟩
        | cons a r =>
          refine ⟨hn.1, fun x hx => ?_⟩
          rcases List.mem_append.1 hx with hx | hx
          · exact hn.2 x (List.mem_append_left _ hx)
          · obtain rfl := List.mem_singleton.1 hx
            exact ⟨hidle, (hn.2 q (List.mem_append_right _ List.mem_cons_self)).2⟩
      · dsimp only
        rw [hk2, keeps_append l]
        simp [keeps]
        omega
      · dsimp only
        have hkl : keeps (init ++ [q]) = keeps l := by omega
        have e1 : gap (init ++ [(⟨q.keep, q.drop + p.drop, q.put ++ p.put⟩ : Pc)]) j = gap ((init ++ [q]) ++ [p]) j := by
          rw [gap_append, gap_append (init ++ [q]), gap_append init [q], keeps_append]
          have hq : ∀ i, gap [q] i = if i = q.keep then (q.put, q.drop) else ([], 0) := fun i => by
            unfold gap
            split
            · rw [if_neg (by omega)]
            · split
              · simp [gap]
              · rfl
          have hq2 : ∀ i, gap [(⟨q.keep, q.drop + p.drop, q.put ++ p.put⟩ : Pc)] i = if i = q.keep then (q.put ++ p.put, q.drop + p.drop) else ([], 0) := fun i => by
            unfold gap
            dsimp only
            split
            · rw [if_neg (by omega)]
            · split
              · simp [gap]
              · rfl
          simp only [hq, hq2, hone, keeps, hpk, Nat.add_zero]
          by_cases h1 : j < keeps init
          · rw [if_pos h1, if_pos (by omega), if_pos h1]
          · rw [if_neg h1]
            by_cases h2 : j = keeps init
            · subst h2
              by_cases h3 : q.keep = 0
              · simp [h3, Nat.add_assoc]
              · have h4 : ¬ 0 = q.keep := fun e => h3 e.symm
                have h5 : 0 < q.keep := by omega
                simp [h4, h5]
            · rw [if_neg h2]
              by_cases h3 : j - keeps init = q.keep
              · have h4 : j = keeps init + q.keep := by omega
                rw [if_pos h3, if_neg (by omega), if_pos h4, if_neg (by omega), if_neg h2, if_pos h3]
                simp
              · rw [if_neg h3]
                by_cases h4 : j < keeps init + q.keep
                · rw [if_pos h4, if_neg (by omega), if_neg h2, if_neg h3]
                · rw [if_neg h4, if_neg (by omega), if_neg (by omega)]
        rw [e1, gap_append, gap_append l]
        rw [hkl, hg j]
    · rw [if_neg hz]
      refine ⟨normal_snoc hn hi' ?_, ?_, fun j => ?_⟩
      · by_cases ho : out = []
        · exact .inl ho
        · exact .inr fun e => hz ⟨e, ho⟩
      · dsimp only
        rw [keeps_append, keeps_append]
        simp [keeps]
        omega
      · dsimp only
        have hx : ∀ i, gap [(⟨k + p.keep, p.drop, p.put⟩ : Pc)] i = if i = k + p.keep then (p.put, p.drop) else ([], 0) := fun i => by
          unfold gap
          dsimp only
          split
          · rw [if_neg (by omega)]
          · split
            · simp [gap]
            · rfl
        rw [gap_append, gap_append l, hx, hx, hone, hone, hg]
        by_cases h1 : j < keeps out
        · rw [if_pos h1, if_pos (by omega)]
        · rw [if_neg h1]
          by_cases h2 : j = keeps out
          · rw [if_pos h2]
            by_cases h3 : k = 0
            · have h4 : j = keeps l := by omega
              rw [if_neg (show ¬ j < keeps l by omega), if_pos h4, h3, Nat.zero_add]
            · have h5 : ¬ (0 = k + p.keep) := by omega
              rw [if_pos (show j < keeps l by omega), if_neg h5]
              simp
          · rw [if_neg h2]
            by_cases h3 : j < keeps l
            · rw [if_pos h3, if_neg (by omega)]
              have := hg j
              rw [gap_far out j (by omega)] at this
              exact this
            · rw [if_neg h3]
              by_cases h4 : j = keeps l
              · rw [if_pos h4]
                have := hg j
                rw [gap_far out j (by omega)] at this
                rw [← this]
                by_cases h5 : p.keep = 0
                · rw [if_pos (by omega), if_pos h5.symm]
                  simp
                · rw [if_neg (by omega), if_neg (fun e => h5 e.symm)]
                  rfl
              · rw [if_neg h4]
                by_cases h5 : j - keeps l = p.keep
                · rw [if_pos (by omega), if_pos h5]
                · rw [if_neg (by omega), if_neg h5]
theorem stands_all (l : List Pc) : ∀ (m : List Pc) (s : List Pc × Nat), Stands s m → Stands (l.foldl normStep s) (m ++ l) := by
  induction l with
  | nil => intro m s h; rw [List.append_nil]; exact h
  | cons p r ih =>
    intro m s h
    have := ih (m ++ [p]) (normStep s p) (h.step p)
    rw [List.append_assoc] at this
    exact this
theorem norm_stands (l : List Pc) : Stands (l.foldl normStep ([], 0)) l := by
  have := stands_all l [] ([], 0) ⟨trivial, rfl, fun _ => rfl⟩
  exact this
theorem norm_normal (l : List Pc) : Normal (norm l) := (norm_stands l).nm
theorem norm_gap (l : List Pc) (j : Nat) : gap (norm l) j = gap l j := (norm_stands l).gs j
theorem norm_ext {l m : List Pc} (h : ∀ j, gap l j = gap m j) : norm l = norm m :=
  normal_ext (norm_normal l) (norm_normal m) fun j => by rw [norm_gap, norm_gap, h]
theorem norm_self {l : List Pc} (h : Normal l) : norm l = l := normal_ext (norm_normal l) h (norm_gap l)
theorem norm_norm (l : List Pc) : norm (norm l) = norm l := norm_self (norm_normal l)
end Go.Proofs.Ytoeblaecldhcaaa.Ltx
/- A text, edited; edits place by place; what becomes of an edit behind another one; both ways round. -/
namespace Go.Proofs.Ytoeblaecldhcaaa.Ltx
set_option linter.unusedVariables false
def emit : List UInt8 → List Pc → List UInt8
  | _, [] => []
  | t, p :: r => t.take p.keep ++ p.put ++ emit (t.drop (p.keep + p.drop)) r
theorem apply_emit : ∀ (l : List Pc) (t : List UInt8), apply t l = emit t l ++ t.drop (extent l)
  | [], t => by simp [apply, emit, extent]
  | p :: r, t => by
    simp only [apply, emit, extent]
    rw [apply_emit r, List.drop_drop]
    simp [List.append_assoc]
theorem extent_append (l m : List Pc) : extent (l ++ m) = extent l + extent m := by
  induction l with
  | nil => simp [extent]
  | cons p r ih => simp [extent, ih, Nat.add_assoc]
theorem apply_append : ∀ (l m : List Pc) (t : List UInt8), apply t (l ++ m) = emit t l ++ apply (t.drop (extent l)) m
  | [], m, t => by simp [emit, extent]
  | p :: r, m, t => by
    simp only [List.cons_append, apply, emit, extent]
    rw [apply_append r m, List.drop_drop]
    simp [List.append_assoc]
theorem emit_append : ∀ (l m : List Pc) (t : List UInt8), emit t (l ++ m) = emit t l ++ emit (t.drop (extent l)) m
  | [], m, t => by simp [emit, extent]
  | p :: r, m, t => by
    simp only [List.cons_append, emit, extent]
    rw [emit_append r m, List.drop_drop]
    simp [List.append_assoc]
/-- what is read so far, and the bytes kept since: they do the same -/
def Does (s : List Pc × Nat) (l : List Pc) : Prop := (∀ t, emit t s.1 ++ (t.drop (extent s.1)).take s.2 = emit t l) ∧ extent s.1 + s.2 = extent l
theorem Does.step {s : List Pc × Nat} {l : List Pc} (h : Does s l) (p : Pc) : Does (normStep s p) (l ++ [p]) := by
  obtain ⟨out, k⟩ := s
  obtain ⟨he, hx⟩ := h
  dsimp only at he hx
  have hone : ∀ t, emit t (l ++ [p]) = emit t l ++ (t.drop (extent l)).take p.keep ++ p.put := fun t => by
    rw [emit_append]
    simp [emit, List.append_assoc]
  have htake : ∀ t : List UInt8, (t.drop (extent out)).take k ++ (t.drop (extent l)).take p.keep = (t.drop (extent out)).take (k + p.keep) := fun t => by
    rw [List.take_add, List.drop_drop, hx]
  unfold normStep
  dsimp only
  by_cases hi : idle p = true
  · rw [if_pos hi]
    have hp : p.put = [] ∧ p.drop = 0 := by unfold idle at hi; simpa using hi
    refine ⟨fun t => ?_, by rw [extent_append]; simp [extent, hp.2]; omega⟩
    dsimp only
    rw [hone, ← he t, hp.1, List.append_nil, List.append_assoc, htake]
  · rw [if_neg hi]
    by_cases hz : k + p.keep = 0 ∧ out ≠ []
    · rw [if_pos hz]
      obtain ⟨hz1, hz2⟩ := hz
      obtain ⟨init, q, rfl⟩ : ∃ init q, out = init ++ [q] := ⟨out.dropLast, out.getLast hz2, (List.dropLast_concat_getLast hz2).symm⟩
      have hj : joinLast (init ++ [q]) p = init ++ [⟨q.keep, q.drop + p.drop, q.put ++ p.put⟩] := by
        unfold joinLast
        simp
      rw [hj]
      have hpk : p.keep = 0 := by omega
      have hk0 : k = 0 := by omega
      subst hk0
      refine ⟨fun t => ?_, ?_⟩
      · dsimp only
        rw [hone, ← he t, hpk, emit_append, emit_append]
        simp [emit, List.append_assoc]
      · dsimp only
        rw [extent_append] at hx ⊢
        rw [extent_append l]
        simp [extent] at hx ⊢
        omega
    · rw [if_neg hz]
      refine ⟨fun t => ?_, ?_⟩
      · dsimp only
        rw [hone, ← he t, emit_append]
        simp only [emit, List.append_nil, List.take_zero, List.append_assoc]
        rw [← List.append_assoc (List.take k _), htake]
      · dsimp only
        rw [extent_append, extent_append]
        simp [extent]
        omega
theorem does_all (l : List Pc) : ∀ (m : List Pc) (s : List Pc × Nat), Does s m → Does (l.foldl normStep s) (m ++ l) := by
  induction l with
  | nil => intro m s h; rw [List.append_nil]; exact h
  | cons p r ih =>
    intro m s h
    have := ih (m ++ [p]) (normStep s p) (h.step p)
    rw [List.append_assoc] at this
    exact this
theorem norm_does (l : List Pc) : Does (l.foldl normStep ([], 0)) l := does_all l [] ([], 0) ⟨fun t => by simp [emit], rfl⟩
/-- an edit and its normal one do the same -/
theorem apply_norm (l : List Pc) (t : List UInt8) : apply t (norm l) = apply t l := by
  obtain ⟨h1, h2⟩ := norm_does l
  rw [apply_emit, apply_emit, ← h1 t, ← h2, List.append_assoc]
  congr 1
  unfold norm
  rw [← List.drop_drop, List.take_append_drop]
theorem extent_norm (l : List Pc) : extent (norm l) ≤ extent l := by
  have h2 := (norm_does l).2
  unfold norm
  omega
theorem apply_same {l m : List Pc} (h : norm l = norm m) (t : List UInt8) : apply t l = apply t m := by rw [← apply_norm, h, apply_norm]

/-! ### place by place -/
def putAt : List Pc → Nat → List UInt8
  | [], _ => []
  | p :: r, i => if i < p.keep then [] else if i = p.keep then p.put ++ (if p.drop = 0 then putAt r 0 else []) else if i < p.keep + p.drop then [] else putAt r (i - (p.keep + p.drop))
def dropAt : List Pc → Nat → Bool
  | [], _ => false
  | p :: r, i => if i < p.keep then false else if i < p.keep + p.drop then true else dropAt r (i - (p.keep + p.drop))
/-- a text, place by place -/
def flat (pu : Nat → List UInt8) (dr : Nat → Bool) : List UInt8 → Nat → List UInt8
  | [], i => pu i
  | c :: t, i => pu i ++ (if dr i then [] else [c]) ++ flat pu dr t (i + 1)
theorem flat_congr {pu pu' : Nat → List UInt8} {dr dr' : Nat → Bool} : ∀ (t : List UInt8) (i j : Nat), (∀ k, pu (i + k) = pu' (j + k)) → (∀ k, dr (i + k) = dr' (j + k)) → flat pu dr t i = flat pu' dr' t j
  | [], i, j, h1, _ => h1 0
  | c :: t, i, j, h1, h2 => by
    unfold flat
    rw [show pu i = pu' j from h1 0, show dr i = dr' j from h2 0, flat_congr t (i + 1) (j + 1) (fun k => by have := h1 (k + 1); rw [show i + 1 + k = i + (k + 1) by omega, show j + 1 + k = j + (k + 1) by omega]; exact this)
      (fun k => by have := h2 (k + 1); rw [show i + 1 + k = i + (k + 1) by omega, show j + 1 + k = j + (k + 1) by omega]; exact this)]
theorem flat_keep {pu : Nat → List UInt8} {dr : Nat → Bool} : ∀ (s t : List UInt8) (i : Nat), (∀ k, k < s.length → pu (i + k) = [] ∧ dr (i + k) = false) → flat pu dr (s ++ t) i = s ++ flat pu dr t (i + s.length)
  | [], t, i, _ => by simp
  | c :: s, t, i, h => by
    have h0 := h 0 (by simp)
    have ih := flat_keep s t (i + 1) fun k hk => by
      have := h (k + 1) (by simp; omega)
      rw [show i + 1 + k = i + (k + 1) by omega]
      exact this
    simp only [Nat.add_zero] at h0
    rw [List.cons_append, flat, h0.1, h0.2, ih]
    simp only [List.length_cons, List.nil_append]
    rw [show i + 1 + s.length = i + (s.length + 1) by omega]
    simp
theorem flat_drop {pu : Nat → List UInt8} {dr : Nat → Bool} : ∀ (s t : List UInt8) (i : Nat), (∀ k, k < s.length → pu (i + k) = [] ∧ dr (i + k) = true) → flat pu dr (s ++ t) i = flat pu dr t (i + s.length)
  | [], t, i, _ => by simp
  | c :: s, t, i, h => by
    have h0 := h 0 (by simp)
    have ih := flat_drop s t (i + 1) fun k hk => by
      have := h (k + 1) (by simp; omega)
      rw [show i + 1 + k = i + (k + 1) by omega]
      exact this
    simp only [Nat.add_zero] at h0
    rw [List.cons_append, flat, h0.1, h0.2, ih]
    simp only [List.length_cons]
    rw [show i + 1 + s.length = i + (s.length + 1) by omega]
    simp
theorem flat_idle (t : List UInt8) (i : Nat) : flat (fun _ => []) (fun _ => false) t i = t := by
  induction t generalizing i with
  | nil => rfl
  | cons c t ih => rw [flat, ih]; simp
/-- a text, edited, place by place -/
theorem apply_flat : ∀ (l : List Pc) (t : List UInt8), extent l ≤ t.length → apply t l = flat (putAt l) (dropAt l) t 0
  | [], t, _ => by
    rw [show putAt [] = fun _ => [] from rfl, show dropAt [] = fun _ => false from rfl, flat_idle]
    rfl
  | p :: r, t, h => by
    unfold extent at h
    have hsplit : t = t.take p.keep ++ (t.drop p.keep) := (List.take_append_drop _ _).symm
    have hl : (t.take p.keep).length = p.keep := by rw [List.length_take]; omega
    have hk := flat_keep (pu := putAt (p :: r)) (dr := dropAt (p :: r)) (t.take p.keep) (t.drop p.keep) 0 fun k hk => by
      rw [hl] at hk
      rw [Nat.zero_add]
      exact ⟨by rw [putAt, if_pos hk], by rw [dropAt, if_pos hk]⟩
    rw [List.take_append_drop, hl, Nat.zero_add] at hk
    rw [hk, apply, apply_flat r _ (by rw [List.length_drop]; omega), List.append_assoc]
    congr 1
    by_cases hd : p.drop = 0
    · rw [hd, Nat.add_zero]
      cases ht : t.drop p.keep with
      | nil =>
        rw [flat, flat, putAt, if_neg (by omega), if_pos rfl, if_pos hd]
      | cons c s =>
        rw [flat, flat]
        have e1 : putAt (p :: r) p.keep = p.put ++ putAt r 0 := by rw [putAt, if_neg (by omega), if_pos rfl, if_pos hd]
        have e2 : dropAt (p :: r) p.keep = dropAt r 0 := by rw [dropAt, if_neg (by omega), if_neg (by omega), show p.keep - (p.keep + p.drop) = 0 by omega]
        have e3 : flat (putAt (p :: r)) (dropAt (p :: r)) s (p.keep + 1) = flat (putAt r) (dropAt r) s (0 + 1) := flat_congr s _ _
          (fun k => by rw [putAt, if_neg (by omega), if_neg (by omega), if_neg (by omega)]; congr 1; omega)
          (fun k => by rw [dropAt, if_neg (by omega), if_neg (by omega)]; congr 1; omega)
        rw [e1, e2, e3]
        simp [List.append_assoc]
    · obtain ⟨d, hd'⟩ : ∃ d, p.drop = d + 1 := ⟨p.drop - 1, by omega⟩
      cases ht : t.drop p.keep with
      | nil =>
        exfalso
        have : (t.drop p.keep).length = 0 := by rw [ht]; rfl
        rw [List.length_drop] at this
        omega
      | cons c s =>
        have hsl : d ≤ s.length := by
          have : (t.drop p.keep).length = s.length + 1 := by rw [ht]; rfl
          rw [List.length_drop] at this
          omega
        have hrest : t.drop (p.keep + p.drop) = s.drop d := by
          rw [← List.drop_drop, ht, hd']
          rfl
        have e1 : putAt (p :: r) p.keep = p.put := by rw [putAt, if_neg (by omega), if_pos rfl, if_neg hd, List.append_nil]
        have e2 : dropAt (p :: r) p.keep = true := by rw [dropAt, if_neg (by omega), if_pos (by omega)]
        have hdl : (s.take d).length = d := by rw [List.length_take]; omega
        have e3 := flat_drop (pu := putAt (p :: r)) (dr := dropAt (p :: r)) (s.take d) (s.drop d) (p.keep + 1) fun k hk => by
          rw [hdl] at hk
          exact ⟨by rw [putAt, if_neg (by omega), if_neg (by omega), if_pos (by omega)], by rw [dropAt, if_neg (by omega), if_pos (by omega)]⟩
        rw [List.take_append_drop, hdl] at e3
        have e4 : flat (putAt (p :: r)) (dropAt (p :: r)) (s.drop d) (p.keep + 1 + d) = flat (putAt r) (dropAt r) (s.drop d) 0 := flat_congr _ _ _
          (fun k => by
            rw [Nat.zero_add]
            rw [putAt, if_neg (by omega), if_neg (by omega), if_neg (by omega)]
            congr 1
            omega)
          (fun k => by
            rw [Nat.zero_add]
            rw [dropAt, if_neg (by omega), if_neg (by omega)]
            congr 1
            omega)
        rw [hrest, flat, e1, e2, e3, e4]
        simp

/-! ### behind each other -/
section
variable (pa pb : Nat → List UInt8) (da db : Nat → Bool) (first : Bool)
def ends (i : Nat) : List Pc := if first then [⟨0, 0, pa i⟩, ⟨(pb i).length, 0, []⟩] else [⟨(pb i).length, 0, []⟩, ⟨0, 0, pa i⟩]
def mid (i : Nat) : List Pc := if db i then [] else if da i then [⟨0, 1, []⟩] else [⟨1, 0, []⟩]
/-- a behind b, at k more places from i on -/
def behind : Nat → Nat → List Pc
  | 0, i => ends pa pb first i
  | k + 1, i => ends pa pb first i ++ mid da db i ++ behind k (i + 1)
def both (i : Nat) : List UInt8 := if first then pa i ++ pb i else pb i ++ pa i
theorem ends_emit (i : Nat) (x : List UInt8) : emit (pb i ++ x) (ends pa pb first i) = both pa pb first i ∧ (pb i ++ x).drop (extent (ends pa pb first i)) = x := by
  unfold ends both
  cases first <;> simp [emit, extent]
theorem behind_apply : ∀ (t : List UInt8) (i : Nat), apply (flat pb db t i) (behind pa pb da db first t.length i) = flat (both pa pb first) (fun j => da j || db j) t i
  | [], i => by
    obtain ⟨h1, h2⟩ := ends_emit pa pb first i []
    rw [List.append_nil] at h1 h2
    rw [flat, flat, List.length_nil, behind, apply_emit, h1, h2, List.append_nil]
  | c :: t, i => by
    obtain ⟨h1, h2⟩ := ends_emit pa pb first i ((if db i then [] else [c]) ++ flat pb db t (i + 1))
    have ih := behind_apply t (i + 1)
    rw [flat, flat, List.length_cons, behind, List.append_assoc (ends pa pb first i), apply_append, List.append_assoc (pb i), h1, h2, List.append_assoc (both pa pb first i)]
    congr 1
    rw [apply_append]
    unfold mid
    cases hb : db i with
    | true => simp [emit, extent, ih]
    | false =>
      cases ha : da i with
      | true => simp [emit, extent, ih]
      | false => simp [emit, extent, ih]
end
/-- both ways round -/
theorem square_flat (pa pb : Nat → List UInt8) (da db : Nat → Bool) (first : Bool) (t : List UInt8) :
    apply (flat pb db t 0) (behind pa pb da db first t.length 0) = apply (flat pa da t 0) (behind pb pa db da (!first) t.length 0) := by
  rw [behind_apply, behind_apply]
  refine flat_congr t 0 0 (fun k => ?_) (fun k => ?_)
  · unfold both; cases first <;> rfl
  · exact Bool.or_comm _ _
end Go.Proofs.Ytoeblaecldhcaaa.Ltx
/- What undoes an edit; how many bytes an edit behind another one tells of. -/
namespace Go.Proofs.Ytoeblaecldhcaaa.Ltx
set_option linter.unusedVariables false
/-- what undoes an edit of a text, piece by piece -/
def inv : List UInt8 → List Pc → List Pc
  | _, [] => []
  | t, p :: r => ⟨p.keep, p.put.length, (t.drop p.keep).take p.drop⟩ :: inv (t.drop (p.keep + p.drop)) r
theorem inv_back : ∀ (l : List Pc) (t : List UInt8), extent l ≤ t.length → apply (apply t l) (inv t l) = t
  | [], t, _ => rfl
  | p :: r, t, h => by
    unfold extent at h
    have ih := inv_back r (t.drop (p.keep + p.drop)) (by rw [List.length_drop]; omega)
    have hl : (t.take p.keep).length = p.keep := by rw [List.length_take]; omega
    rw [apply, inv, apply]
    dsimp only
    have e1 : (t.take p.keep ++ p.put ++ apply (t.drop (p.keep + p.drop)) r).take p.keep = t.take p.keep := by
      rw [List.append_assoc, List.take_left' hl]
    have e2 : (t.take p.keep ++ p.put ++ apply (t.drop (p.keep + p.drop)) r).drop (p.keep + p.put.length) = apply (t.drop (p.keep + p.drop)) r := by
      rw [List.drop_left' (by rw [List.length_append, hl])]
    rw [e1, e2, ih, List.append_assoc, ← List.drop_drop, List.take_append_drop, List.take_append_drop]
theorem inv_extent : ∀ (l : List Pc) (t : List UInt8), extent l ≤ t.length → extent (inv t l) ≤ (apply t l).length
  | [], t, _ => Nat.zero_le _
  | p :: r, t, h => by
    unfold extent at h
    have ih := inv_extent r (t.drop (p.keep + p.drop)) (by rw [List.length_drop]; omega)
    rw [inv, extent, apply]
    simp only [List.length_append, List.length_take]
    omega
/-- undone, and made normal -/
theorem inv_norm (l : List Pc) (t : List UInt8) (h : extent l ≤ t.length) : apply (apply t l) (norm (inv t (norm l))) = t := by
  have hn : extent (norm l) ≤ t.length := Nat.le_trans (extent_norm l) h
  rw [apply_norm, ← apply_norm l t]
  exact inv_back (norm l) t hn

/-! ### an edit behind another one fits what that one leaves -/
theorem behind_extent (pa pb : Nat → List UInt8) (da db : Nat → Bool) (first : Bool) : ∀ (t : List UInt8) (i : Nat), extent (behind pa pb da db first t.length i) = (flat pb db t i).length
  | [], i => by
    rw [flat, List.length_nil, behind]
    unfold ends
    cases first <;> simp [extent]
  | c :: t, i => by
    have ih := behind_extent pa pb da db first t (i + 1)
    rw [flat, List.length_cons, behind, extent_append, extent_append, ih]
    simp only [List.length_append]
    have h1 : extent (ends pa pb first i) = (pb i).length := by unfold ends; cases first <;> simp [extent]
    have h2 : extent (mid da db i) = (if db i then ([] : List UInt8) else [c]).length := by
      unfold mid
      cases db i <;> cases da i <;> simp [extent]
    rw [h1, h2]
/-- behind what a text's places tell, the rest of a longer one: nothing more happens -/
theorem behind_longer (pa pb : Nat → List UInt8) (da db : Nat → Bool) (first : Bool) (n : Nat) (hpa : ∀ i, n < i → pa i = []) (hpb : ∀ i, n < i → pb i = []) (hda : ∀ i, n ≤ i → da i = false) (hdb : ∀ i, n ≤ i → db i = false) :
    ∀ (k i : Nat), n ≤ i + k → ∀ m, norm (behind pa pb da db first (k + m) i) = norm (behind pa pb da db first k i) := by
  intro k i hn m
  refine norm_ext ?_
  have hidle : ∀ (l e : List Pc), (∀ p ∈ e, idle p = true) → ∀ j, gap (l ++ e) j = gap l j := by
    intro l e he j
    have hz : ∀ (e : List Pc), (∀ p ∈ e, idle p = true) → ∀ j, gap e j = ([], 0) := by
      intro e
      induction e with
      | nil => intro _ j; rfl
      | cons p r ih =>
        intro h j
        have hp : p.put = [] ∧ p.drop = 0 := by
          have := h p List.mem_cons_self
          unfold idle at this
          simpa using this
        have hr := ih fun q hq => h q (List.mem_cons_of_mem _ hq)
        unfold gap
        rw [hr, hr, hp.1, hp.2]
        split
        · rfl
        · split <;> rfl
    rw [gap_append, hz e he, hz e he]
    split
    · rfl
    · split
      · simp
      · exact (gap_far l j (by omega)).symm
  have hmore : ∀ (m i : Nat), n < i → ∀ p ∈ behind pa pb da db first m i, idle p = true := by
    intro m
    induction m with
    | zero =>
      intro i hi p hp
      rw [behind] at hp
      unfold ends at hp
      rw [hpa i hi, hpb i hi] at hp
      cases first <;> simp at hp <;> rcases hp with rfl | rfl <;> rfl
    | succ m ih =>
      intro i hi p hp
      rw [behind, List.mem_append, List.mem_append] at hp
      rcases hp with (hp | hp) | hp
      · unfold ends at hp
        rw [hpa i hi, hpb i hi] at hp
        cases first <;> simp at hp <;> rcases hp with rfl | rfl <;> rfl
      · unfold mid at hp
        rw [hdb i (by omega), hda i (by omega)] at hp
        simp at hp
        subst hp
        rfl
      · exact ih (i + 1) (by omega) p hp
  have hex : ∀ (k i : Nat), n ≤ i + k → ∃ e, behind pa pb da db first (k + m) i = behind pa pb da db first k i ++ e ∧ ∀ p ∈ e, idle p = true := by
    intro k
    induction k with
    | zero =>
      intro i hi
      cases m with
      | zero => exact ⟨[], by simp, fun p hp => by cases hp⟩
      | succ m =>
        refine ⟨mid da db i ++ behind pa pb da db first m (i + 1), ?_, fun p hp => ?_⟩
        · rw [Nat.zero_add, behind, behind, List.append_assoc]
        · rcases List.mem_append.1 hp with hp | hp
          · unfold mid at hp
            rw [hdb i (by omega), hda i (by omega)] at hp
            simp at hp
            subst hp
            rfl
          · exact hmore m (i + 1) (by omega) p hp
    | succ k ih =>
      intro i hi
      obtain ⟨e, he, hid⟩ := ih (i + 1) (by omega)
      refine ⟨e, ?_, hid⟩
      rw [show k + 1 + m = (k + m) + 1 by omega, behind, behind, he]
      simp [List.append_assoc]
  obtain ⟨e, he, hid⟩ := hex k i hn
  intro j
  rw [he]
  exact hidle _ _ hid j
theorem putAt_far : ∀ (l : List Pc) (i : Nat), extent l < i → putAt l i = []
  | [], _, _ => rfl
  | p :: r, i, h => by
    unfold extent at h
    rw [putAt, if_neg (by omega), if_neg (by omega), if_neg (by omega)]
    exact putAt_far r _ (by omega)
theorem dropAt_far : ∀ (l : List Pc) (i : Nat), extent l ≤ i → dropAt l i = false
  | [], _, _ => rfl
  | p :: r, i, h => by
    unfold extent at h
    rw [dropAt, if_neg (by omega), if_neg (by omega)]
    exact dropAt_far r _ (by omega)
/-- what becomes of a behind b, both normal: by n places, n as far as both tell -/
def trans (a b : List Pc) (first : Bool) : List Pc := norm (behind (putAt a) (putAt b) (dropAt a) (dropAt b) first (max (extent a) (extent b)) 0)
/-- at any text that both fit -/
theorem trans_at (a b : List Pc) (first : Bool) (t : List UInt8) (ha : extent a ≤ t.length) (hb : extent b ≤ t.length) : trans a b first = norm (behind (putAt a) (putAt b) (dropAt a) (dropAt b) first t.length 0) := by
  unfold trans
  have h := behind_longer (putAt a) (putAt b) (dropAt a) (dropAt b) first (max (extent a) (extent b)) (fun i hi => putAt_far a i (by omega)) (fun i hi => putAt_far b i (by omega)) (fun i hi => dropAt_far a i (by omega)) (fun i hi => dropAt_far b i (by omega))
    (max (extent a) (extent b)) 0 (by omega) (t.length - max (extent a) (extent b))
  rw [show max (extent a) (extent b) + (t.length - max (extent a) (extent b)) = t.length by omega] at h
  exact h.symm
/-- THE SQUARE: both ways round make the same text -/
theorem square (a b : List Pc) (first : Bool) (t : List UInt8) (ha : extent a ≤ t.length) (hb : extent b ≤ t.length) : apply (apply t b) (trans a b first) = apply (apply t a) (trans b a (!first)) := by
  rw [trans_at a b first t ha hb, trans_at b a (!first) t hb ha, apply_norm, apply_norm, apply_flat b t hb, apply_flat a t ha]
  exact square_flat _ _ _ _ first t
/-- and they fit -/
theorem trans_fits (a b : List Pc) (first : Bool) (t : List UInt8) (ha : extent a ≤ t.length) (hb : extent b ≤ t.length) : extent (trans a b first) ≤ (apply t b).length := by
  rw [trans_at a b first t ha hb, apply_flat b t hb, ← behind_extent (putAt a) (putAt b) (dropAt a) (dropAt b) first t 0]
  exact extent_norm _
end Go.Proofs.Ytoeblaecldhcaaa.Ltx
/- How much an edit puts, drops, and how many pieces it has: behind another one, made normal, undone. -/
namespace Go.Proofs.Ytoeblaecldhcaaa.Ltx
set_option linter.unusedVariables false
def puts : List Pc → Nat
  | [] => 0
  | p :: r => p.put.length + puts r
def drops : List Pc → Nat
  | [] => 0
  | p :: r => p.drop + drops r
theorem puts_append (l m : List Pc) : puts (l ++ m) = puts l + puts m := by
  induction l with
  | nil => simp [puts]
  | cons p r ih => simp [puts, ih, Nat.add_assoc]
theorem drops_append (l m : List Pc) : drops (l ++ m) = drops l + drops m := by
  induction l with
  | nil => simp [drops]
  | cons p r ih => simp [drops, ih, Nat.add_assoc]
theorem extent_two (l : List Pc) : extent l = keeps l + drops l := by
  induction l with
  | nil => rfl
  | cons p r ih => simp [extent, keeps, drops, ih]; omega
theorem step_sums (s : List Pc × Nat) (p : Pc) : puts (normStep s p).1 = puts s.1 + p.put.length ∧ drops (normStep s p).1 = drops s.1 + p.drop := by
  obtain ⟨out, k⟩ := s
  unfold normStep
  dsimp only
  by_cases hi : idle p = true
  · rw [if_pos hi]
    have hp : p.put = [] ∧ p.drop = 0 := by unfold idle at hi; simpa using hi
    simp [hp.1, hp.2]
  · rw [if_neg hi]
    by_cases hz : k + p.keep = 0 ∧ out ≠ []
    · rw [if_pos hz]
      obtain ⟨init, q, rfl⟩ : ∃ init q, out = init ++ [q] := ⟨out.dropLast, out.getLast hz.2, (List.dropLast_concat_getLast hz.2).symm⟩
      have hj : joinLast (init ++ [q]) p = init ++ [⟨q.keep, q.drop + p.drop, q.put ++ p.put⟩] := by
        unfold joinLast
        simp
      rw [hj, puts_append, puts_append, drops_append, drops_append]
      simp [puts, drops]
      omega
    · rw [if_neg hz]
      dsimp only
      rw [puts_append, drops_append]
      simp [puts, drops]
theorem fold_sums (l : List Pc) : ∀ s : List Pc × Nat, puts (l.foldl normStep s).1 = puts s.1 + puts l ∧ drops (l.foldl normStep s).1 = drops s.1 + drops l := by
  induction l with
  | nil => intro s; simp [puts, drops]
  | cons p r ih =>
    intro s
    have h1 := ih (normStep s p)
    have h2 := step_sums s p
    simp only [List.foldl_cons, puts, drops]
    omega
theorem norm_puts (l : List Pc) : puts (norm l) = puts l := by
  have := (fold_sums l ([], 0)).1
  simpa [puts, norm] using this
theorem norm_drops (l : List Pc) : drops (norm l) = drops l := by
  have := (fold_sums l ([], 0)).2
  simpa [drops, norm] using this
/-- each piece of a normal edit puts or drops -/
theorem normal_len : ∀ {l : List Pc}, Normal l → l.length ≤ puts l + drops l := by
  have hone : ∀ p : Pc, idle p = false → 1 ≤ p.put.length + p.drop := by
    intro p h
    unfold idle at h
    cases hp : p.put with
    | nil => rw [hp] at h; simp at h; omega
    | cons a b => simp; omega
  have hT : ∀ l : List Pc, NormalT l → l.length ≤ puts l + drops l := by
    intro l
    induction l with
    | nil => intro _; exact Nat.zero_le _
    | cons p r ih =>
      intro h
      have h1 := hone p (h p List.mem_cons_self).1
      have h2 := ih fun q hq => h q (List.mem_cons_of_mem _ hq)
      simp only [List.length_cons, puts, drops]
      omega
  intro l h
  cases l with
  | nil => exact Nat.zero_le _
  | cons p r =>
    have h1 := hone p h.1
    have h2 := hT r h.2
    simp only [List.length_cons, puts, drops]
    omega
theorem norm_len (l : List Pc) : (norm l).length ≤ puts l + drops l := by
  have := normal_len (norm_normal l)
  rwa [norm_puts, norm_drops] at this
theorem apply_len : ∀ (l : List Pc) (t : List UInt8), (apply t l).length ≤ t.length + puts l
  | [], t => by simp [apply, puts]
  | p :: r, t => by
    have := apply_len r (t.drop (p.keep + p.drop))
    rw [apply]
    simp only [List.length_append, List.length_take, puts]
    rw [List.length_drop] at this
    omega
theorem mem_sizes : ∀ {l : List Pc} {p : Pc}, p ∈ l → p.keep + p.drop ≤ extent l ∧ p.put.length ≤ puts l
  | q :: r, p, h => by
    rcases List.mem_cons.1 h with rfl | h
    · simp only [extent, puts]; omega
    · have := mem_sizes h
      simp only [extent, puts]
      omega
/-- right, of pieces none of whose numbers is below 0 -/
def Fine (l : List Pc) : Prop := l.length ≤ 4096 ∧ (∀ p ∈ l, p.keep ≤ 1048576 ∧ p.drop ≤ 1048576) ∧ puts l ≤ 1048576
theorem fine_of {l : List Pc} (h1 : l.length ≤ 4096) (h2 : extent l ≤ 1048576) (h3 : puts l ≤ 1048576) : Fine l :=
  ⟨h1, fun p hp => by have := (mem_sizes hp).1; omega, h3⟩

/-! ### sums over places -/
def sumTo (f : Nat → Nat) : Nat → Nat
  | 0 => 0
  | k + 1 => sumTo f k + f k
theorem sumTo_le {f g : Nat → Nat} (h : ∀ i, f i ≤ g i) : ∀ k, sumTo f k ≤ sumTo g k
  | 0 => Nat.le_refl _
  | k + 1 => Nat.add_le_add (sumTo_le h k) (h k)
theorem sumTo_add (f g : Nat → Nat) : ∀ k, sumTo (fun i => f i + g i) k = sumTo f k + sumTo g k
  | 0 => rfl
  | k + 1 => by simp only [sumTo, sumTo_add f g k]; omega
theorem sumTo_one (n c : Nat) : ∀ k, sumTo (fun i => if i = n then c else 0) k ≤ c ∧ (k ≤ n → sumTo (fun i => if i = n then c else 0) k = 0)
  | 0 => ⟨Nat.zero_le _, fun _ => rfl⟩
  | k + 1 => by
    obtain ⟨h1, h2⟩ := sumTo_one n c k
    simp only [sumTo]
    by_cases h : k = n
    · rw [if_pos h, h2 (by omega)]
      exact ⟨by omega, fun h3 => by omega⟩
    · rw [if_neg h]
      exact ⟨by omega, fun h3 => by rw [h2 (by omega)]⟩
theorem sumTo_shift (f : Nat → Nat) (n : Nat) : ∀ k, sumTo (fun i => if i < n then 0 else f (i - n)) k = sumTo f (k - n)
  | 0 => by simp [sumTo]
  | k + 1 => by
    simp only [sumTo, sumTo_shift f n k]
    by_cases h : k < n
    · rw [if_pos h, show k + 1 - n = 0 by omega, show k - n = 0 by omega]; rfl
    · rw [if_neg h, show k + 1 - n = (k - n) + 1 by omega]
      rfl
theorem sumTo_range (n c : Nat) : ∀ k, sumTo (fun i => if n ≤ i ∧ i < n + c then 1 else 0) k ≤ c ∧ sumTo (fun i => if n ≤ i ∧ i < n + c then 1 else 0) k ≤ k - n
  | 0 => ⟨Nat.zero_le _, Nat.zero_le _⟩
  | k + 1 => by
    obtain ⟨h1, h2⟩ := sumTo_range n c k
    simp only [sumTo]
    split
    · rename_i h; omega
    · omega
theorem sum_puts : ∀ (l : List Pc) (k : Nat), sumTo (fun i => (putAt l i).length) k ≤ puts l
  | [], k => by
    have : ∀ k, sumTo (fun i => (putAt [] i).length) k = 0 := fun k => by
      induction k with
      | zero => rfl
      | succ k ih => simp only [sumTo, ih]; rfl
    rw [this]
    exact Nat.zero_le _
  | p :: r, k => by
    have h1 := sumTo_le (f := fun i => (putAt (p :: r) i).length) (g := fun i => (if i = p.keep then p.put.length else 0) + (if i < p.keep + p.drop then 0 else (putAt r (i - (p.keep + p.drop))).length)) (fun i => by
      rw [putAt]
      by_cases h1 : i < p.keep
      · rw [if_pos h1]; simp
      · rw [if_neg h1]
        by_cases h2 : i = p.keep
        · rw [if_pos h2, if_pos h2]
          by_cases h3 : p.drop = 0
          · rw [if_pos h3, if_neg (by omega), show i - (p.keep + p.drop) = 0 by omega]; simp
          · rw [if_neg h3]; simp
        · rw [if_neg h2]
          by_cases h3 : i < p.keep + p.drop
          · rw [if_pos h3]; simp
          · rw [if_neg h3, if_neg h3]; omega) k
    rw [sumTo_add, sumTo_shift (fun i => (putAt r i).length)] at h1
    have h2 := (sumTo_one p.keep p.put.length k).1
    have h3 := sum_puts r (k - (p.keep + p.drop))
    simp only [puts]
    omega
theorem sum_drops : ∀ (l : List Pc) (k : Nat), sumTo (fun i => if dropAt l i then 1 else 0) k ≤ drops l
  | [], k => by
    have : ∀ k, sumTo (fun i => if dropAt [] i then 1 else 0) k = 0 := fun k => by
      induction k with
      | zero => rfl
      | succ k ih => simp only [sumTo, ih]; rfl
    rw [this]
    exact Nat.zero_le _
  | p :: r, k => by
    have h1 := sumTo_le (f := fun i => if dropAt (p :: r) i then 1 else 0) (g := fun i => (if p.keep ≤ i ∧ i < p.keep + p.drop then 1 else 0) + (if i < p.keep + p.drop then 0 else if dropAt r (i - (p.keep + p.drop)) then 1 else 0)) (fun i => by
      rw [dropAt]
      by_cases h1 : i < p.keep
      · rw [if_pos h1]; simp
      · rw [if_neg h1]
        by_cases h2 : i < p.keep + p.drop
        · have h3 : p.keep ≤ i ∧ i < p.keep + p.drop := ⟨by omega, h2⟩
          rw [if_pos h3, if_pos h2, if_pos h2]; simp
        · rw [if_neg h2, if_neg h2]; omega) k
    rw [sumTo_add, sumTo_shift (fun i => if dropAt r i then 1 else 0)] at h1
    have h2 := (sumTo_range p.keep p.drop k).1
    have h3 := sum_drops r (k - (p.keep + p.drop))
    simp only [drops]
    omega
theorem behind_sums (pa pb : Nat → List UInt8) (da db : Nat → Bool) (first : Bool) : ∀ (k i : Nat),
    puts (behind pa pb da db first k i) + sumTo (fun j => (pa j).length) i = sumTo (fun j => (pa j).length) (i + k + 1) ∧ drops (behind pa pb da db first k i) + sumTo (fun j => if da j then 1 else 0) i ≤ sumTo (fun j => if da j then 1 else 0) (i + k)
  | 0, i => by
    rw [behind]
    unfold ends
    cases first <;> simp [puts, drops, sumTo, Nat.add_comm]
  | k + 1, i => by
    obtain ⟨h1, h2⟩ := behind_sums pa pb da db first k (i + 1)
    rw [behind, puts_append, puts_append, drops_append, drops_append]
    have e1 : puts (ends pa pb first i) = (pa i).length ∧ drops (ends pa pb first i) = 0 := by unfold ends; cases first <;> simp [puts, drops]
    have e2 : puts (mid da db i) = 0 ∧ drops (mid da db i) ≤ if da i then 1 else 0 := by unfold mid; cases db i <;> cases da i <;> simp [puts, drops]
    rw [show i + (k + 1) + 1 = i + 1 + k + 1 by omega, show i + (k + 1) = i + 1 + k by omega]
    simp only [sumTo] at h1 h2 ⊢
    omega
theorem trans_sums (a b : List Pc) (first : Bool) : puts (trans a b first) ≤ puts a ∧ drops (trans a b first) ≤ drops a := by
  unfold trans
  rw [norm_puts, norm_drops]
  obtain ⟨h1, h2⟩ := behind_sums (putAt a) (putAt b) (dropAt a) (dropAt b) first (max (extent a) (extent b)) 0
  have h3 := sum_puts a (0 + max (extent a) (extent b) + 1)
  have h4 := sum_drops a (0 + max (extent a) (extent b))
  simp only [sumTo] at h1 h2 h3
  omega
theorem trans_extent (a b : List Pc) (first : Bool) : extent (trans a b first) ≤ max (extent a) (extent b) + puts b := by
  have h := trans_fits a b first (List.replicate (max (extent a) (extent b)) 0) (by simp; omega) (by simp; omega)
  have h2 := apply_len b (List.replicate (max (extent a) (extent b)) 0)
  rw [List.length_replicate] at h2
  omega
/-- small edits stay right behind each other -/
theorem trans_fine {a b : List Pc} {n : Nat} (hn : n ≤ 2000) (first : Bool) (ha : extent a + puts a ≤ n) (hb : extent b + puts b ≤ n) : Fine (trans a b first) := by
  have h1 := trans_sums a b first
  have h2 := trans_extent a b first
  have h3 : (trans a b first).length ≤ puts (trans a b first) + drops (trans a b first) := normal_len (by unfold trans; exact norm_normal _)
  have h4 := extent_two a
  exact fine_of (by omega) (by omega) (by omega)
end Go.Proofs.Ytoeblaecldhcaaa.Ltx
/- Two edits, composed: the document's way, by the bytes that stay and those that are new. -/
namespace Go.Proofs.Ytoeblaecldhcaaa.Ltx
set_option linter.unusedVariables false
theorem idle_gaps : ∀ (e : List Pc), (∀ p ∈ e, idle p = true) → ∀ j, gap e j = ([], 0)
  | [], _, _ => rfl
  | p :: r, h, j => by
    have hp : p.put = [] ∧ p.drop = 0 := by
      have := h p List.mem_cons_self
      unfold idle at this
      simpa using this
    have hr := idle_gaps r fun q hq => h q (List.mem_cons_of_mem _ hq)
    unfold gap
    rw [hr, hr, hp.1, hp.2]
    split
    · rfl
    · split <;> rfl
theorem norm_idle {l e : List Pc} (h : ∀ p ∈ e, idle p = true) : norm (l ++ e) = norm l := by
  refine norm_ext fun j => ?_
  rw [gap_append, idle_gaps e h, idle_gaps e h]
  split
  · rfl
  · split
    · simp
    · exact (gap_far l j (by omega)).symm

/-- a byte: one of the text, by its place, or a new one -/
inductive It where
  | old (w : Nat)
  | new (c : UInt8)
section
variable {α : Type} (f : UInt8 → α)
def applyP : List α → List Pc → List α
  | t, [] => t
  | t, p :: r => t.take p.keep ++ p.put.map f ++ applyP (t.drop (p.keep + p.drop)) r
end
theorem applyP_map {α β : Type} (f : UInt8 → α) (g : α → β) : ∀ (l : List Pc) (t : List α), (applyP f t l).map g = applyP (fun c => g (f c)) (t.map g) l
  | [], t => rfl
  | p :: r, t => by
    rw [applyP, applyP, List.map_append, List.map_append, applyP_map f g r, List.map_take, List.map_drop, List.map_map]
    rfl
theorem applyP_id : ∀ (l : List Pc) (t : List UInt8), applyP (fun c => c) t l = apply t l
  | [], t => rfl
  | p :: r, t => by rw [applyP, apply, applyP_id r]; simp
theorem applyP_snoc {α : Type} (f : UInt8 → α) : ∀ (l : List Pc) (t s : List α), extent l ≤ t.length → applyP f (t ++ s) l = applyP f t l ++ s
  | [], t, s, _ => rfl
  | p :: r, t, s, h => by
    unfold extent at h
    rw [applyP, applyP, List.take_append_of_le_length (by omega), List.drop_append_of_le_length (by omega), applyP_snoc f r _ _ (by rw [List.length_drop]; omega)]
    simp [List.append_assoc]
theorem applyP_len {α : Type} (f : UInt8 → α) : ∀ (l : List Pc) (t : List α), extent l ≤ t.length → (applyP f t l).length + drops l = t.length + puts l
  | [], t, _ => by simp [applyP, drops, puts]
  | p :: r, t, h => by
    unfold extent at h
    have := applyP_len f r (t.drop (p.keep + p.drop)) (by rw [List.length_drop]; omega)
    rw [List.length_drop] at this
    rw [applyP]
    simp only [List.length_append, List.length_take, List.length_map, drops, puts]
    omega

/-- the text's bytes from place s on, k of them -/
def places (s k : Nat) : List It := (List.range' s k).map It.old
/-- the text's bytes rise, from last on, below m -/
def Rise (m : Nat) : Nat → List It → Prop
  | _, [] => True
  | last, .old w :: r => last ≤ w ∧ w < m ∧ Rise m (w + 1) r
  | last, .new _ :: r => Rise m last r
theorem Rise.less {m : Nat} : ∀ {l : List It} {a b : Nat}, Rise m b l → a ≤ b → Rise m a l
  | [], _, _, _, _ => trivial
  | .old w :: r, a, b, h, hab => ⟨Nat.le_trans hab h.1, h.2.1, h.2.2⟩
  | .new _ :: r, a, b, h, hab => Rise.less (l := r) h hab
theorem rise_places {m : Nat} : ∀ (k s : Nat) (r : List It), s + k ≤ m → Rise m (s + k) r → Rise m s (places s k ++ r)
  | 0, s, r, _, h => h
  | k + 1, s, r, hm, h => by
    refine ⟨Nat.le_refl _, by omega, ?_⟩
    exact rise_places k (s + 1) r (by omega) (by rw [show s + 1 + k = s + (k + 1) by omega]; exact h)
theorem rise_new {m last : Nat} (b : List UInt8) (r : List It) (h : Rise m last r) : Rise m last (b.map It.new ++ r) := by
  induction b with
  | nil => exact h
  | cons c b ih => exact ih
theorem places_take (s k j : Nat) (h : j ≤ k) : (places s k).take j = places s j := by
  unfold places
  obtain ⟨d, rfl⟩ : ∃ d, k = j + d := ⟨k - j, by omega⟩
  rw [← List.map_take, ← List.range'_append_1, List.take_left' (by simp)]
theorem places_drop (s k j : Nat) : (places s k).drop j = places (s + j) (k - j) := by
  unfold places
  rw [← List.map_drop, List.drop_range', Nat.mul_one]
theorem rise_apply (m : Nat) : ∀ (l : List Pc) (s k : Nat), extent l ≤ k → s + k ≤ m → Rise m s (applyP It.new (places s k) l)
  | [], s, k, _, hm => by
    have := rise_places (m := m) k s [] hm trivial
    rw [List.append_nil] at this
    exact this
  | p :: r, s, k, h, hm => by
    unfold extent at h
    rw [applyP, places_take _ _ _ (by omega), places_drop, List.append_assoc]
    refine rise_places _ _ _ (by omega) (rise_new _ _ ?_)
    have := rise_apply m r (s + (p.keep + p.drop)) (k - (p.keep + p.drop)) (by omega) (by omega)
    exact this.less (by omega)
theorem places_snoc (s k : Nat) : places s (k + 1) = places s k ++ [.old (s + k)] := by
  unfold places
  rw [List.range'_concat, List.map_append]
  simp

section
variable (pu : Nat → List UInt8) (dr : Nat → Bool)
/-- the pieces, byte by byte -/
def compGo : List It → Nat → Nat → List UInt8 → List Pc
  | [], _, _, _ => []
  | .old w :: r, i, last, put => if dr i then compGo r (i + 1) last (put ++ pu i) else ⟨0, w - last, put ++ pu i⟩ :: ⟨1, 0, []⟩ :: compGo r (i + 1) (w + 1) []
  | .new c :: r, i, last, put => compGo r (i + 1) last (put ++ pu i ++ (if dr i then [] else [c]))
/-- .. and at a text's end -/
def compEnd (m : Nat) : List It → Nat → Nat → List UInt8 → List Pc
  | [], i, last, put => [⟨0, m - last, put ++ pu i⟩]
  | .old w :: r, i, last, put => if dr i then compEnd m r (i + 1) last (put ++ pu i) else ⟨0, w - last, put ++ pu i⟩ :: ⟨1, 0, []⟩ :: compEnd m r (i + 1) (w + 1) []
  | .new c :: r, i, last, put => compEnd m r (i + 1) last (put ++ pu i ++ (if dr i then [] else [c]))
theorem comp_end (m : Nat) : ∀ (l : List It) (i last : Nat) (put : List UInt8), dr (i + l.length) = false → compGo pu dr (l ++ [.old m]) i last put = compEnd pu dr m l i last put ++ [⟨1, 0, []⟩]
  | [], i, last, put, h => by
    rw [List.nil_append, compGo, if_neg (by rw [show dr i = false from h]; decide)]
    rfl
  | .old w :: r, i, last, put, h => by
    have h' : dr (i + 1 + r.length) = false := by rw [show i + 1 + r.length = i + (It.old w :: r).length by simp; omega]; exact h
    rw [List.cons_append, compGo, compEnd]
    split
    · exact comp_end m r _ _ _ h'
    · rw [comp_end m r _ _ _ h']
      rfl
  | .new c :: r, i, last, put, h => by
    have h' : dr (i + 1 + r.length) = false := by rw [show i + 1 + r.length = i + (It.new c :: r).length by simp; omega]; exact h
    rw [List.cons_append, compGo, compEnd]
    exact comp_end m r _ _ _ h'
/-- one more byte behind one that stays: nothing more -/
theorem comp_more (m : Nat) : ∀ (l : List It) (i last : Nat) (put : List UInt8), dr (i + l.length) = false → dr (i + l.length + 1) = false → pu (i + l.length + 1) = [] →
    compGo pu dr (l ++ [.old m] ++ [.old (m + 1)]) i last put = compGo pu dr (l ++ [.old m]) i last put ++ [⟨0, 0, []⟩, ⟨1, 0, []⟩]
  | [], i, last, put, h, h1, h2 => by
    simp only [List.nil_append, List.length_nil, Nat.add_zero] at h h1 h2 ⊢
    simp only [List.cons_append, List.nil_append, compGo, h, h1, h2]
    simp
  | .old w :: r, i, last, put, h, h1, h2 => by
    have e : i + 1 + r.length = i + (It.old w :: r).length := by simp; omega
    have ih := fun last put => comp_more m r (i + 1) last put (by rw [e]; exact h) (by rw [e]; exact h1) (by rw [e]; exact h2)
    rw [List.cons_append, List.cons_append, compGo, compGo]
    split
    · exact ih _ _
    · rw [ih]
      rfl
  | .new c :: r, i, last, put, h, h1, h2 => by
    have e : i + 1 + r.length = i + (It.new c :: r).length := by simp; omega
    have ih := fun last put => comp_more m r (i + 1) last put (by rw [e]; exact h) (by rw [e]; exact h1) (by rw [e]; exact h2)
    rw [List.cons_append, List.cons_append, compGo, compGo]
    exact ih _ _
/-- what a byte is, in a text -/
def val (t : List UInt8) : It → UInt8
  | .old w => t.getD w 0
  | .new c => c
theorem comp_apply (t : List UInt8) : ∀ (l : List It) (i last : Nat) (put : List UInt8), Rise t.length last l → last ≤ t.length → apply (t.drop last) (compEnd pu dr t.length l i last put) = put ++ flat pu dr (l.map (val t)) i
  | [], i, last, put, _, hl => by
    rw [compEnd, apply, apply, flat.eq_def]
    simp only [List.take_zero, List.nil_append, Nat.zero_add, List.map_nil, List.drop_drop]
    rw [show last + (t.length - last) = t.length by omega, List.drop_length]
    simp
  | .old w :: r, i, last, put, h, hl => by
    obtain ⟨h1, h2, h3⟩ := h
    rw [compEnd, List.map_cons, flat]
    split
    · rename_i hd
      rw [comp_apply t r _ _ _ (h3.less (by omega)) hl]
      simp [List.append_assoc]
    · rename_i hd
      have ih := comp_apply t r (i + 1) (w + 1) [] h3 (by omega)
      rw [apply, apply]
      simp only [List.take_zero, List.nil_append, Nat.zero_add, List.drop_drop, Nat.add_zero, List.append_nil]
      rw [show last + (w - last) = w by omega, show w + 1 = w + 1 from rfl, ih]
      have e : (t.drop w).take 1 = [val t (.old w)] := by
        rw [List.drop_eq_getElem_cons h2, List.take_succ_cons, List.take_zero]
        simp [val, h2]
      rw [e]
      simp [List.append_assoc]
  | .new c :: r, i, last, put, h, hl => by
    rw [compEnd, List.map_cons, flat, comp_apply t r _ _ _ h hl]
    simp [List.append_assoc, val]
end
/-- over m bytes of a text -/
def compAt (a b : List Pc) (m : Nat) : List Pc := compGo (putAt b) (dropAt b) (applyP It.new (places 0 m) a) 0 0 []
/-- the document's, of normal edits -/
def comp (a b : List Pc) : List Pc := norm (compAt a b (extent a + extent b + 1))
theorem comp_grow (a b : List Pc) (m : Nat) (ha : extent a ≤ m) (hb : extent b ≤ (applyP It.new (places 0 m) a).length) : ∀ j, norm (compAt a b (m + 1 + j)) = norm (compAt a b (m + 1))
  | 0 => rfl
  | j + 1 => by
    rw [← comp_grow a b m ha hb j]
    have hlen : (places 0 (m + j)).length = m + j := by simp [places]
    have hm0 : (places 0 m).length = m := by simp [places]
    have l0 := applyP_len It.new a (places 0 m) (by omega)
    have l1 := applyP_len It.new a (places 0 (m + j)) (by omega)
    rw [hm0] at l0
    rw [hlen] at l1
    have e1 : applyP It.new (places 0 (m + 1 + j)) a = applyP It.new (places 0 (m + j)) a ++ [.old (m + j)] := by
      rw [show m + 1 + j = (m + j) + 1 by omega, places_snoc, applyP_snoc _ _ _ _ (by omega), Nat.zero_add]
    have e2 : applyP It.new (places 0 (m + 1 + (j + 1))) a = applyP It.new (places 0 (m + j)) a ++ [.old (m + j)] ++ [.old (m + j + 1)] := by
      have h1 : (places 0 (m + 1 + j)).length = m + 1 + j := by simp [places]
      rw [show m + 1 + (j + 1) = (m + 1 + j) + 1 by omega, places_snoc, applyP_snoc _ _ _ _ (by omega), Nat.zero_add, e1, show m + 1 + j = m + j + 1 by omega]
    unfold compAt
    rw [e1, e2, comp_more _ _ _ _ _ _ _ (dropAt_far b _ (by omega)) (dropAt_far b _ (by omega)) (putAt_far b _ (by omega))]
    exact norm_idle (by intro p hp; simp at hp; rcases hp with rfl | rfl <;> rfl)
/-- two edits, composed, do what they do one behind the other -/
theorem comp_does (a b : List Pc) (t : List UInt8) (ha : extent a ≤ t.length) (hb : extent b ≤ (apply t a).length) : apply t (comp a b) = apply (apply t a) b := by
  have hpl : ∀ m, (places 0 m).length = m := fun m => by simp [places]
  have hval : (places 0 t.length).map (val t) = t := by
    unfold places
    rw [List.map_map]
    apply List.ext_getElem?
    intro i
    rw [List.getElem?_map]
    by_cases h : i < t.length
    · rw [List.getElem?_range' h, List.getElem?_eq_getElem h]
      simp [val, h]
    · rw [List.getElem?_eq_none (by simp; omega), List.getElem?_eq_none (by omega)]
      rfl
  have hmid : (applyP It.new (places 0 t.length) a).map (val t) = apply t a := by
    rw [applyP_map, hval]
    exact applyP_id a t
  have hbm : extent b ≤ (applyP It.new (places 0 t.length) a).length := by
    rw [← hmid, List.length_map] at hb
    exact hb
  have key : norm (compAt a b (t.length + 1)) = comp a b := by
    unfold comp
    rcases Nat.le_total t.length (extent a + extent b) with h | h
    · have := comp_grow a b t.length ha hbm (extent a + extent b - t.length)
      rw [show t.length + 1 + (extent a + extent b - t.length) = extent a + extent b + 1 by omega] at this
      exact this.symm
    · have hl := applyP_len It.new a (places 0 (extent a + extent b)) (by rw [hpl]; omega)
      rw [hpl] at hl
      have h2 := extent_two a
      have := comp_grow a b (extent a + extent b) (by omega) (by omega) (t.length - (extent a + extent b))
      rw [show extent a + extent b + 1 + (t.length - (extent a + extent b)) = t.length + 1 by omega] at this
      exact this
  rw [← key, apply_norm]
  unfold compAt
  rw [places_snoc, applyP_snoc _ _ _ _ (by rw [hpl]; omega), Nat.zero_add, comp_end _ _ _ _ _ _ _ (dropAt_far b _ (by omega))]
  have hr := rise_apply t.length a 0 t.length ha (by omega)
  have hc := comp_apply (putAt b) (dropAt b) t _ 0 0 [] hr (Nat.zero_le _)
  rw [List.drop_zero, List.nil_append, hmid] at hc
  have hidle := apply_same (norm_idle (l := compEnd (putAt b) (dropAt b) t.length (applyP It.new (places 0 t.length) a) 0 0 []) (e := [⟨1, 0, []⟩]) (by intro p hp; obtain rfl := List.mem_singleton.1 hp; rfl)) t
  rw [hidle, hc, apply_flat b _ hb]
end Go.Proofs.Ytoeblaecldhcaaa.Ltx
/- Words for memory that holds edits: a slice reads as pieces, a row of pieces of the call's own. -/
namespace Go.Proofs.Ytoeblaecldhcaaa.P5
set_option linter.unusedVariables false
open Go.RowKit
set_option maxRecDepth 20000

/-- a piece as it came in -/
structure IP where
  keep : Int
  drop : Int
  put : List UInt8
def tx (l : List UInt8) : Value := .string ⟨l.toArray⟩
/-- what stands at E is the piece x -/
def PieceAt (w : World) (E : Addr) (x : IP) : Prop :=
  -9223372036854775808 ≤ x.keep ∧ x.keep ≤ 9223372036854775807 ∧ -9223372036854775808 ≤ x.drop ∧ x.drop ≤ 9223372036854775807 ∧ x.put.length ≤ maxLen ∧
    w.cell? E = some (.int .i64 x.keep) ∧ w.cell? ⟨E.block, E.off + 1, none⟩ = some (.int .i64 x.drop) ∧ w.cell? ⟨E.block, E.off + 2, none⟩ = some (.string ⟨x.put.toArray⟩)
/-- a slice of n pieces reads as xs -/
def PcsIn (w : World) (A : Option Addr) (n : Nat) (xs : List IP) : Prop := xs.length = n ∧ ∀ q x, xs[q]? = some x → ∃ ad, A = some ad ∧ ad.block < w.heap.size ∧ PieceAt w (ad.add (q * 3)) x
theorem PieceAt.where_ {w w' : World} {E : Addr} {x : IP} (h : PieceAt w E x) (hb : w'.heap[E.block]? = w.heap[E.block]?) : PieceAt w' E x := by
  obtain ⟨h1, h2, h3, h4, h5, h6, h7, h8⟩ := h
  exact ⟨h1, h2, h3, h4, h5, (World.cell?_of_block (w := w) (w' := w') (a := E) hb).trans h6, (World.cell?_of_block (w := w) (w' := w') (a := ⟨E.block, E.off + 1, none⟩) hb).trans h7, (World.cell?_of_block (w := w) (w' := w') (a := ⟨E.block, E.off + 2, none⟩) hb).trans h8⟩
theorem PcsIn.where_ {w w' : World} {A : Option Addr} {n : Nat} {xs : List IP} (h : PcsIn w A n xs) (hs : w.heap.size ≤ w'.heap.size) (hk : ∀ ad, A = some ad → 0 < n → w'.heap[ad.block]? = w.heap[ad.block]?) : PcsIn w' A n xs := by
  refine ⟨h.1, fun q x hx => ?_⟩
  obtain ⟨ad, e, hl, hc⟩ := h.2 q x hx
  refine ⟨ad, e, Nat.lt_of_lt_of_le hl hs, hc.where_ ?_⟩
  rw [block_add]
  have h0 := (List.getElem?_eq_some_iff.1 hx).1
  have := h.1
  exact hk ad e (by omega)
theorem PcsIn.below {w w' : World} {A : Option Addr} {n : Nat} {xs : List IP} (h : PcsIn w A n xs) (hb : Below w.heap.size w w') : PcsIn w' A n xs := by
  refine ⟨h.1, fun q x hx => ?_⟩
  obtain ⟨ad, e, hl, hc⟩ := h.2 q x hx
  exact ⟨ad, e, Nat.lt_of_lt_of_le hl hb.size, hc.where_ (hb.block _ (by rw [block_add]; exact hl))⟩
theorem PcsIn.nil (w : World) : PcsIn w none 0 [] := ⟨rfl, fun q x h => by simp at h⟩
theorem PcsIn.none_nil {w : World} {n : Nat} {xs : List IP} (h : PcsIn w none n xs) : xs = [] := by
  cases xs with
  | nil => rfl
  | cons c r =>
    obtain ⟨ad, e, _⟩ := h.2 0 c rfl
    cases e
theorem PcsIn.at_ {w : World} {A : Option Addr} {n q : Nat} {xs : List IP} (h : PcsIn w A n xs) (hq : q < n) : ∃ ad x, A = some ad ∧ xs[q]? = some x ∧ ad.block < w.heap.size ∧ PieceAt w (ad.add (q * 3)) x := by
  have hl : q < xs.length := by rw [h.1]; exact hq
  have hg : xs[q]? = some xs[q] := List.getElem?_eq_getElem hl
  obtain ⟨ad, e, hb, hc⟩ := h.2 q _ hg
  exact ⟨ad, _, e, hg, hb, hc⟩

/-! ### pieces as values -/
def ipc (p : Ltx.Pc) : IP := ⟨(p.keep : Int), (p.drop : Int), p.put⟩
def cellsOf (p : Ltx.Pc) : List Value := [.int .i64 (p.keep : Int), .int .i64 (p.drop : Int), .string ⟨p.put.toArray⟩]
theorem cells_len (l : List Ltx.Pc) : (l.flatMap cellsOf).length = l.length * 3 := by
  induction l with
  | nil => rfl
  | cons p r ih => rw [List.flatMap_cons, List.length_append, ih]; simp [cellsOf]; omega
theorem cells_at : ∀ (l : List Ltx.Pc) (q : Nat) (p : Ltx.Pc), l[q]? = some p → ∀ j v, (cellsOf p)[j]? = some v → (l.flatMap cellsOf)[q * 3 + j]? = some v
  | a :: r, 0, p, h, j, v, hj => by
    simp at h
    subst h
    have hjl := (List.getElem?_eq_some_iff.1 hj).1
    rw [List.flatMap_cons, Nat.zero_mul, Nat.zero_add, List.getElem?_append_left hjl, hj]
  | a :: r, q + 1, p, h, j, v, hj => by
    have ih := cells_at r q p (by simpa using h) j v hj
    rw [List.flatMap_cons, List.getElem?_append_right (by simp [cellsOf]; omega)]
    rw [show (q + 1) * 3 + j - (cellsOf a).length = q * 3 + j by simp [cellsOf]; omega]
    exact ih
/-- pieces whose numbers int holds -/
def Low (l : List Ltx.Pc) : Prop := ∀ p ∈ l, p.keep ≤ 4000000000 ∧ p.drop ≤ 4000000000 ∧ p.put.length ≤ 4000000000
/-- the slice value v owns the pieces l -/
def OwnP (base : Nat) (w : World) (v : Value) (l : List Ltx.Pc) : Prop := w.ownsRow base 53 3 v l.length (l.flatMap cellsOf)
theorem OwnP.nil_ (base : Nat) (w : World) : OwnP base w (.slice none 0 0) [] := World.ownsRow_nil w base _ _
theorem Try.infoP : (Try.prog.info? 53).map (fun i => (i.zero, i.size, i.bytes)) = some (some (.agg #[.int .i64 0, .int .i64 0, .string ⟨#[]⟩]), 3, 32) := by kernel_rfl
/-- its shape, and that it reads as those pieces -/
theorem OwnP.shape {base : Nat} {w : World} {v : Value} {l : List Ltx.Pc} (h : OwnP base w v l) (hl : Low l) : ∃ (A : Option Addr) (n c : Nat), v = .slice A n c ∧ n = l.length ∧ n ≤ c ∧ c ≤ maxLen ∧ PcsIn w A n (l.map ipc) ∧ (A = none → c = 0) := by
  obtain ⟨A, c, rfl, h1, h2, h3, h4⟩ := own_form h
  refine ⟨A, _, c, rfl, rfl, h1, h2, ⟨by simp, fun q x hx => ?_⟩, h3⟩
  rw [List.getElem?_map] at hx
  cases hp : l[q]? with
  | none => rw [hp] at hx; cases hx
  | some p =>
    rw [hp] at hx
    simp only [Option.map_some, Option.some.injEq] at hx
    subst hx
    have hq := (List.getElem?_eq_some_iff.1 hp).1
    obtain ⟨g, rfl, hb, hlt, hc⟩ := h4 (by omega)
    have hm := hl p (List.mem_of_getElem? hp)
    have c0 := hc _ _ (cells_at l q p hp 0 _ rfl)
    have c1 := hc _ _ (cells_at l q p hp 1 _ rfl)
    have c2 := hc _ _ (cells_at l q p hp 2 _ rfl)
    have hadd : (⟨g, 0, none⟩ : Addr).add (q * 3) = ⟨g, q * 3, none⟩ := by unfold Addr.add; split <;> simp_all
    refine ⟨_, rfl, hlt, ?_⟩
    rw [hadd]
    refine ⟨?_, ?_, ?_, ?_, ?_, c0, c1, c2⟩
    · show -9223372036854775808 ≤ (p.keep : Int); omega
    · show (p.keep : Int) ≤ 9223372036854775807; omega
    · show -9223372036854775808 ≤ (p.drop : Int); omega
    · show (p.drop : Int) ≤ 9223372036854775807; omega
    · show p.put.length ≤ maxLen; unfold maxLen; omega
end Go.Proofs.Ytoeblaecldhcaaa.P5
/- What the frame tells of a row of pieces that came in. -/
namespace Go.Proofs.Ytoeblaecldhcaaa.P5
set_option linter.unusedVariables false
open Go.RowKit Go.ChangeShapes Go.WideShapes Go.Deep
set_option maxRecDepth 20000

theorem piece_cells : Try.prog.cellsOf 53 = 3 := by kernel_rfl
theorem piece_fields : ∃ f0 f1 f2 : Field, Try.prog.underlying 53 = some (.struct #[f0, f1, f2]) ∧ (f0.type = 3 ∧ f0.offset = 0) ∧ (f1.type = 3 ∧ f1.offset = 1) ∧ f2.type = 9 ∧ f2.offset = 2 :=
  ⟨_, _, _, Try.underlying53, ⟨rfl, rfl⟩, ⟨rfl, rfl⟩, rfl, rfl⟩
theorem int_cells1 : Try.prog.cellsOf 3 = 1 := by kernel_rfl
theorem str_cells1 : Try.prog.cellsOf 9 = 1 := by kernel_rfl

section
variable {H : Type} {enc : TypeId × Value → H} {W : World} {b0 : Nat}
/-- one piece -/
theorem piece_in {fuel : Nat} {E : Addr} {cs : List Value} {x : DataW H × List MemPlace} (hc : W.cells? b0 E 3 = some cs) (h : DataW.trod enc Try.prog W b0 (fun _ => true) true fuel 53 cs = some x) : ∃ y, PieceAt W E y := by
  obtain ⟨f0, f1, f2, hu, ⟨t0, o0⟩, ⟨t1, o1⟩, t2, o2⟩ := piece_fields
  obtain ⟨ys, n, _, _, hlen, _, hf⟩ := DataW.trod_struct hu h
  obtain ⟨_, hcl, hat⟩ := World.cells?_some hc
  obtain ⟨v0, v1, v2, rfl⟩ : ∃ v0 v1 v2, cs = [v0, v1, v2] := by
    match cs, hcl with
    | [a, b, c], _ => exact ⟨a, b, c, rfl⟩
  have g0 := hf 0 f0 rfl
  have g1 := hf 1 f1 rfl
  have g2 := hf 2 f2 rfl
  rw [t0, o0, int_cells1] at g0
  rw [t1, o1, int_cells1] at g1
  rw [t2, o2, str_cells1] at g2
  have hys : ∀ i (f : Field), #[f0, f1, f2][i]? = some f → ∃ y, ys[i]? = some y := fun i f hi => by
    have hi3 : i < 3 := (Array.getElem?_eq_some_iff.1 hi).1
    have hyl : ys.length = 3 := by assumption
    exact ⟨_, List.getElem?_eq_getElem (by omega)⟩
  obtain ⟨y0, e0⟩ := hys 0 f0 rfl
  obtain ⟨y1, e1⟩ := hys 1 f1 rfl
  obtain ⟨y2, e2⟩ := hys 2 f2 rfl
  obtain ⟨i, hi, _, wi⟩ := DataW.trod_int Try.underlying3 (g0.trans e0)
  obtain ⟨j, hj, _, wj⟩ := DataW.trod_int Try.underlying3 (g1.trans e1)
  obtain ⟨s, hs, _, ws⟩ := DataW.trod_string Try.underlying9 (g2.trans e2)
  have hib : -9223372036854775808 ≤ i ∧ i ≤ 9223372036854775807 := by simpa [Lit.wf, IntKind.min, IntKind.max, IntKind.signed, IntKind.bits] using wi
  have hjb : -9223372036854775808 ≤ j ∧ j ≤ 9223372036854775807 := by simpa [Lit.wf, IntKind.min, IntKind.max, IntKind.signed, IntKind.bits] using wj
  have a0 := hat 0 (by omega)
  have a1 := hat 1 (by omega)
  have a2 := hat 2 (by omega)
  simp at hi hj hs a0 a1 a2
  subst hi hj hs
  refine ⟨⟨i, j, s.data.toList⟩, hib.1, hib.2, hjb.1, hjb.2, ?_, a0, a1, ?_⟩
  · show s.data.toList.length ≤ maxLen
    rw [Array.length_toList]
    exact ws
  · exact a2
/-- a row of them -/
theorem pieces_in {fuel : Nat} {v : Value} {x : DataW H × List MemPlace} (h : DataW.trod enc Try.prog W b0 (fun _ => true) true fuel 24 [v] = some x) :
    ∃ (A : Option Addr) (n c : Nat) (xs : List IP), v = .slice A n c ∧ PcsIn W A n xs ∧ n ≤ c ∧ c ≤ maxLen ∧ (A = none → c = 0) := by
  rcases open_slice Try.underlying24 h with ⟨hcs, _⟩ | ⟨a, len, cap, m, n, D, Pl, hcs, _, hl, hm, hmm, _, hi⟩
  · simp at hcs
    exact ⟨none, 0, 0, [], hcs, PcsIn.nil W, Nat.le_refl _, Nat.zero_le _, fun _ => rfl⟩
  · simp at hcs
    rw [piece_cells] at hi
    have hex : ∀ i, i < len → ∃ y, PieceAt W (a.add (i * 3)) y := fun i hil => by
      obtain ⟨cs', hc, ht⟩ := hi i (by rw [hmm]; simp; omega)
      exact piece_in hc ht
    have hrow : ∀ k, k ≤ len → ∃ xs : List IP, xs.length = k ∧ ∀ q y, xs[q]? = some y → PieceAt W (a.add (q * 3)) y := by
      intro k
      induction k with
      | zero => exact fun _ => ⟨[], rfl, fun q y h => by simp at h⟩
      | succ k ih =>
        intro hk
        obtain ⟨xs, hxl, hx⟩ := ih (by omega)
        obtain ⟨y, hy⟩ := hex k (by omega)
        refine ⟨xs ++ [y], by simp [hxl], fun q z hz => ?_⟩
        rw [List.getElem?_append] at hz
        split at hz
        · exact hx q z hz
        · rename_i hge
          have hq : q = k := by
            rcases Nat.lt_or_ge k q with hlt | hle
            · rw [List.getElem?_eq_none (by simp; omega)] at hz
              cases hz
            · omega
          subst hq
          rw [hxl, Nat.sub_self] at hz
          simp at hz
          subst hz
          exact hy
    obtain ⟨xs, hxl, hx⟩ := hrow len (Nat.le_refl _)
    refine ⟨some a, len, cap, xs, hcs, ⟨hxl, fun q y hq => ⟨a, rfl, ?_, hx q y hq⟩⟩, hl, hm, fun e => by cases e⟩
    have hb := World.block_lt_of_cell? W _ (hx q y hq).2.2.2.2.2.1
    rwa [block_add] at hb
end
end Go.Proofs.Ytoeblaecldhcaaa.P5
/- Is an edit right, is it small, are two the same: the program's, the document's, the law's. -/
namespace Go.Proofs.Ytoeblaecldhcaaa.P5
set_option linter.unusedVariables false
open Go.RowKit
set_option maxRecDepth 20000

def mayB (z : Int) : Bool := decide (0 ≤ z ∧ z ≤ 1048576)
def okB (x : IP) : Bool := mayB x.keep && mayB x.drop
def putsI : List IP → Nat
  | [] => 0
  | x :: r => x.put.length + putsI r
def rightV (xs : List IP) : Bool := decide (xs.length ≤ 4096) && xs.all okB && decide (putsI xs ≤ 1048576)
theorem putsI_take : ∀ (xs : List IP) (q : Nat) (x : IP), xs[q]? = some x → putsI (xs.take (q + 1)) = putsI (xs.take q) + x.put.length
  | [], q, x, h => by simp at h
  | y :: r, 0, x, h => by
    simp at h
    subst h
    simp [putsI]
  | y :: r, q + 1, x, h => by
    have ih := putsI_take r q x (by simpa using h)
    rw [List.take_succ_cons, List.take_succ_cons, putsI, putsI, ih]
    omega
theorem putsI_le : ∀ (xs : List IP) (q : Nat), putsI (xs.take q) ≤ putsI xs
  | [], q => by simp
  | y :: r, 0 => by simp [putsI]
  | y :: r, q + 1 => by
    have ih := putsI_le r q
    rw [List.take_succ_cons, putsI, putsI]
    omega
theorem all_take_succ {f : IP → Bool} {xs : List IP} {q : Nat} {x : IP} (h : xs[q]? = some x) (h1 : (xs.take q).all f = true) (h2 : f x = true) : (xs.take (q + 1)).all f = true := by
  rw [List.take_add_one, List.all_append, h1, h]
  simp [h2]
theorem not_right_of {xs : List IP} {x : IP} (h : x ∈ xs) (hx : okB x = false) : rightV xs = false := by
  unfold rightV
  have : xs.all okB = false := by
    rw [List.all_eq_false]
    exact ⟨x, h, by simp [hx]⟩
  rw [this]
  simp
theorem not_right_puts {xs : List IP} (h : 1048576 < putsI xs) : rightV xs = false := by
  unfold rightV
  have : decide (putsI xs ≤ 1048576) = false := decide_eq_false (by omega)
  rw [this, Bool.and_false]
theorem not_right_len {xs : List IP} (h : 4096 < xs.length) : rightV xs = false := by
  unfold rightV
  have : decide (xs.length ≤ 4096) = false := decide_eq_false (by omega)
  rw [this]
  simp
theorem right_of {xs : List IP} (h1 : xs.length ≤ 4096) (h2 : xs.all okB = true) (h3 : putsI xs ≤ 1048576) : rightV xs = true := by
  unfold rightV
  rw [decide_eq_true h1, h2, decide_eq_true h3]
  rfl

theorem may_yes (z : Int) (w : World) (h : mayB z = true) : Calls Try.prog 72 #[.int .i64 z] w fun e w' => e = .returned (.bool true) ∧ w = w' := by
  have hz : 0 ≤ z ∧ z ≤ 1048576 := by simpa [mayB] using h
  obtain ⟨h1, h2⟩ := hz
  clear h
  go_enter Try.func72, Try.ntmps72
  go_wp2
  go_ret
  exact ⟨rfl, rfl⟩
theorem may_no (z : Int) (w : World) (h : mayB z = false) : Calls Try.prog 72 #[.int .i64 z] w fun e w' => e = .returned (.bool false) ∧ w = w' := by
  have hz : ¬ (0 ≤ z ∧ z ≤ 1048576) := by simpa [mayB] using h
  clear h
  by_cases h1 : 0 ≤ z
  · have h2 : 1048576 < z := by omega
    have h2' : ¬ z ≤ 1048576 := by omega
    clear hz
    go_enter Try.func72, Try.ntmps72
    go_wp2
    go_ret
    exact ⟨rfl, rfl⟩
  · clear hz
    go_enter Try.func72, Try.ntmps72
    go_wp2
    go_ret
    exact ⟨rfl, rfl⟩
set_option maxHeartbeats 2000000 in
theorem right_any (w : World) (A : Option Addr) (n c : Nat) (xs : List IP) (hx : PcsIn w A n xs) (hn : n ≤ maxLen) :
    Calls Try.prog 43 #[.slice A n c] w fun e w' => e = .returned (.bool (rightV xs)) ∧ Below w.heap.size w w' := by
  have hx' := Lib.hid hx
  have hlen := hx.1
  clear hx
  have hn' : (n : Int) ≤ 9223372036854775807 := by unfold maxLen at hn; omega
  by_cases h60 : 4096 < n
  · have hv := Lib.hid (not_right_len (xs := xs) (by omega))
    have hI : (4096 : Int) < (n : Int) := by omega
    clear h60 hlen
    go_enter Try.func43, Try.ntmps43
    go_wp2_with fail
    go_ret
    exact ⟨by rw [hv.out]; rfl, Below.refl _ _⟩
  · have hI : ¬ (4096 : Int) < (n : Int) := by omega
    go_enter Try.func43, Try.ntmps43
    go_wp2_with fail
    go_loopw [3, 11] (fun s k wr => ∃ q : Nat, q ≤ n ∧ k = .int .i64 (q : Int) ∧ s = .int .i64 (1048576 - (putsI (xs.take q) : Int)) ∧ putsI (xs.take q) ≤ 1048576 ∧ (xs.take q).all okB = true ∧ Below w.heap.size w wr) (fun s k _ => n - (intOf k).toNat)
    case atStart => exact ⟨0, Nat.zero_le _, rfl, by simp [putsI], by simp [putsI], rfl, Below.refl _ _⟩
    case round =>
      obtain ⟨q, hq, rfl, rfl, hs, hall, hbel⟩ := hrel
      by_cases h1 : q < n
      · have h1I : (q : Int) < (n : Int) := by omega
        obtain ⟨ad, x, rfl, hxq, hlt, hp⟩ := (hx'.out.below hbel).at_ h1
        obtain ⟨x1, x2, x3, x4, x5, x6, x7, x8⟩ := hp
        have hst := putsI_take xs q x hxq
        have hle := putsI_le xs (q + 1)
        obtain ⟨kp, dr, pu⟩ := x
        simp only at *
        unfold maxLen at x5
        generalize hS : putsI (xs.take q) = s at *
        have hmem : (⟨kp, dr, pu⟩ : IP) ∈ xs := List.mem_of_getElem? hxq
        by_cases hok : mayB kp = true ∧ mayB dr = true
        · obtain ⟨hk, hd⟩ := hok
          have hokx : okB ⟨kp, dr, pu⟩ = true := by unfold okB; rw [hk, hd]; rfl
          have hall' := Lib.hid (all_take_succ hxq hall hokx)
          have hbel' := Lib.hid hbel
          by_cases hroom : s + pu.length ≤ 1048576
          · have hI : ¬ (1048576 : Int) - (s : Int) - (pu.length : Int) < 0 := by omega
            have hst' := Lib.hid hst
            clear hS hst hle hall hokx hbel hxq hmem hlen
            go_wp2_with (go_at_call 72; first | (refine (may_yes _ _ hk).mono ?_; rintro e w' ⟨rfl, rfl⟩) | (refine (may_yes _ _ hd).mono ?_; rintro e w' ⟨rfl, rfl⟩))
            go_roundw
            case rel => exact ⟨q + 1, by omega, by go_num, by rw [hst'.out]; go_num, by rw [hst'.out]; exact hroom, hall'.out, hbel'.out.alloc hbel'.out.size _⟩
            case measure => simp [intOf]; omega
          · have hI : (1048576 : Int) - (s : Int) - (pu.length : Int) < 0 := by omega
            have hv := Lib.hid (not_right_puts (xs := xs) (by omega))
            clear hS hst hle hall hokx hbel hxq hmem hlen hall'
            go_wp2_with (go_at_call 72; first | (refine (may_yes _ _ hk).mono ?_; rintro e w' ⟨rfl, rfl⟩) | (refine (may_yes _ _ hd).mono ?_; rintro e w' ⟨rfl, rfl⟩))
            go_ret
            exact ⟨by rw [hv.out]; rfl, hbel'.out.alloc hbel'.out.size _⟩
        · have hokx : okB ⟨kp, dr, pu⟩ = false := by
            unfold okB
            cases hk : mayB kp <;> cases hd : mayB dr <;> simp_all
          have hv := Lib.hid (not_right_of hmem hokx)
          have hbel' := Lib.hid hbel
          clear hS hst hle hall hokx hbel hxq hmem hlen
          cases hk : mayB kp with
          | false =>
            clear hok
            go_wp2_with (go_at_call 72; refine (may_no _ _ hk).mono ?_; rintro e w' ⟨rfl, rfl⟩)
            go_ret
            exact ⟨by rw [hv.out]; rfl, hbel'.out.alloc hbel'.out.size _⟩
          | true =>
            have hd : mayB dr = false := by
              cases hd : mayB dr with
              | false => rfl
              | true => exact absurd ⟨hk, hd⟩ hok
            clear hok
            go_wp2_with (go_at_call 72; first | (refine (may_yes _ _ hk).mono ?_; rintro e w' ⟨rfl, rfl⟩) | (refine (may_no _ _ hd).mono ?_; rintro e w' ⟨rfl, rfl⟩))
            go_ret
            exact ⟨by rw [hv.out]; rfl, hbel'.out.alloc hbel'.out.size _⟩
      · have hqn : q = n := by omega
        have h1I : ¬ (q : Int) < (n : Int) := by omega
        have hv := Lib.hid (right_of (xs := xs) (by omega) (by rw [hqn, ← hlen, List.take_length] at hall; exact hall) (by rw [hqn, ← hlen, List.take_length] at hs; exact hs))
        have hbel' := Lib.hid hbel
        clear hlen hs hall hbel hqn h1
        go_wp2_with fail
        go_ret
        exact ⟨by rw [hv.out]; rfl, hbel'.out⟩
end Go.Proofs.Ytoeblaecldhcaaa.P5
/- The program's draft: words. -/
namespace Go.Proofs.Ytoeblaecldhcaaa.P5
set_option linter.unusedVariables false
open Go.RowKit
set_option maxRecDepth 20000
open Ltx (Pc)

/-- the two lists have the same gaps, and keep as much -/
def Eqv (l m : List Pc) : Prop := Ltx.keeps l = Ltx.keeps m ∧ ∀ j, Ltx.gap l j = Ltx.gap m j
theorem Eqv.refl (l : List Pc) : Eqv l l := ⟨rfl, fun _ => rfl⟩
theorem Eqv.symm {l m : List Pc} (h : Eqv l m) : Eqv m l := ⟨h.1.symm, fun j => (h.2 j).symm⟩
theorem Eqv.trans {l m k : List Pc} (h : Eqv l m) (h2 : Eqv m k) : Eqv l k := ⟨h.1.trans h2.1, fun j => (h.2 j).trans (h2.2 j)⟩
theorem Eqv.app {l m l' m' : List Pc} (h : Eqv l m) (h2 : Eqv l' m') : Eqv (l ++ l') (m ++ m') := by
  refine ⟨by rw [Ltx.keeps_append, Ltx.keeps_append, h.1, h2.1], fun j => ?_⟩
  rw [Ltx.gap_append, Ltx.gap_append, h.1, h.2 j, h2.2 0, h2.2 (j - Ltx.keeps m)]
theorem gap_one (k d : Nat) (t : List UInt8) (j : Nat) : Ltx.gap [⟨k, d, t⟩] j = if j = k then (t, d) else ([], 0) := by
  unfold Ltx.gap
  dsimp only
  split
  · rw [if_neg (by omega)]
  · split
    · simp [Ltx.gap]
    · rfl
/-- put, then drop: one piece -/
theorem eqv_one {k d k' d' : Nat} {t t' : List UInt8} (h : k' = 0) : Eqv [⟨k, d, t⟩, ⟨k', d', t'⟩] [⟨k, d + d', t ++ t'⟩] := by
  subst h
  refine ⟨by simp [Ltx.keeps], fun j => ?_⟩
  have hk : Ltx.keeps [(⟨k, d, t⟩ : Pc)] = k := by simp [Ltx.keeps]
  rw [show ([⟨k, d, t⟩, ⟨0, d', t'⟩] : List Pc) = [⟨k, d, t⟩] ++ [⟨0, d', t'⟩] from rfl, Ltx.gap_append, hk, gap_one, gap_one, gap_one, gap_one]
  by_cases h1 : j < k
  · have h2 : ¬ j = k := by omega
    simp [h1, h2]
  · by_cases h2 : j = k
    · simp [h2]
    · have h3 : ¬ j - k = 0 := by omega
      simp [h1, h2, h3]
/-- a piece that neither puts nor drops, kept with the next one -/
theorem eqv_keep {k k' d : Nat} {t : List UInt8} : Eqv [⟨k, 0, []⟩, ⟨k', d, t⟩] [⟨k + k', d, t⟩] := by
  refine ⟨by simp [Ltx.keeps], fun j => ?_⟩
  have hk : Ltx.keeps [(⟨k, 0, []⟩ : Pc)] = k := by simp [Ltx.keeps]
  rw [show ([⟨k, 0, []⟩, ⟨k', d, t⟩] : List Pc) = [⟨k, 0, []⟩] ++ [⟨k', d, t⟩] from rfl, Ltx.gap_append, hk, gap_one, gap_one, gap_one, gap_one]
  by_cases h1 : j < k
  · have h2 : ¬ j = k := by omega
    have h3 : ¬ j = k + k' := by omega
    simp [h1, h2, h3]
  · by_cases h2 : j = k
    · subst h2
      by_cases h3 : k' = 0
      · subst h3; simp
      · have h4 : ¬ 0 = k' := fun e => h3 e.symm
        simp [h3, h4]
    · by_cases h3 : j - k = k'
      · have h4 : j = k + k' := by omega
        rw [if_neg h1, if_neg h2, if_pos h3, if_pos h4]
      · have h4 : ¬ j = k + k' := by omega
        rw [if_neg h1, if_neg h2, if_neg h3, if_neg h4]
theorem eqv_nil : Eqv [⟨0, 0, []⟩] [] := ⟨rfl, fun j => by rw [gap_one]; split <;> rfl⟩
theorem norm_eqv {l m : List Pc} (h : Eqv l m) : Ltx.norm l = Ltx.norm m := Ltx.norm_ext h.2

/-- a draft, as a value: what is done, and the piece that it is at -/
structure DV where
  done : List Pc
  kept : Nat
  text : List UInt8
  gone : Nat
def DV.last (d : DV) : Pc := ⟨d.kept, d.gone, d.text⟩
/-- it stands for what was put, dropped and kept up to now -/
structure DV.For (d : DV) (raw : List Pc) : Prop where
  eqv : Eqv (d.done ++ [d.last]) raw
  nm : Ltx.Normal d.done
  at_ : d.done = [] ∨ d.kept ≠ 0
def DV.fresh : DV := ⟨[], 0, [], 0⟩
theorem DV.For.fresh : DV.For DV.fresh [] := ⟨eqv_nil, trivial, .inl rfl⟩
theorem DV.For.put {d : DV} {raw : List Pc} (h : d.For raw) (t : List UInt8) : DV.For { d with text := d.text ++ t } (raw ++ [⟨0, 0, t⟩]) := by
  refine ⟨Eqv.trans ?_ (h.eqv.app (Eqv.refl _)), h.nm, h.at_⟩
  rw [List.append_assoc]
  exact (Eqv.refl _).app (eqv_one rfl).symm
theorem DV.For.drop {d : DV} {raw : List Pc} (h : d.For raw) (n : Nat) : DV.For { d with gone := d.gone + n } (raw ++ [⟨0, n, []⟩]) := by
  refine ⟨Eqv.trans ?_ (h.eqv.app (Eqv.refl _)), h.nm, h.at_⟩
  rw [List.append_assoc]
  have := (eqv_one (k := d.kept) (d := d.gone) (t := d.text) (k' := 0) (d' := n) (t' := []) rfl).symm
  rw [List.append_nil] at this
  exact (Eqv.refl _).app this
def DV.fin (d : DV) : DV := if d.text = [] ∧ d.gone = 0 then d else ⟨d.done ++ [d.last], 0, [], 0⟩
theorem DV.For.keep {d : DV} {raw : List Pc} (h : d.For raw) (n : Nat) (hn : 0 < n) : DV.For { d.fin with kept := d.fin.kept + n } (raw ++ [⟨n, 0, []⟩]) := by
  unfold DV.fin
  by_cases hi : d.text = [] ∧ d.gone = 0
  · rw [if_pos hi]
    refine ⟨Eqv.trans ?_ (h.eqv.app (Eqv.refl _)), h.nm, .inr (by show d.kept + n ≠ 0; omega)⟩
    rw [List.append_assoc]
    refine (Eqv.refl _).app ?_
    unfold DV.last
    dsimp only
    rw [hi.1, hi.2]
    exact eqv_keep.symm
  · rw [if_neg hi]
    refine ⟨?_, ?_, .inr (by show 0 + n ≠ 0; omega)⟩
    · show Eqv ((d.done ++ [d.last]) ++ [⟨0 + n, 0, []⟩]) _
      rw [Nat.zero_add]
      exact h.eqv.app (Eqv.refl _)
    · show Ltx.Normal (d.done ++ [d.last])
      refine Ltx.normal_snoc h.nm ?_ h.at_
      unfold Ltx.idle DV.last
      cases ht : d.text with
      | nil =>
        have : d.gone ≠ 0 := fun e => hi ⟨ht, e⟩
        simp [this]
      | cons a b => simp
theorem DV.For.fin_done {d : DV} {raw : List Pc} (h : d.For raw) : d.fin.done = Ltx.norm raw := by
  rw [← norm_eqv h.eqv]
  unfold DV.fin
  by_cases hi : d.text = [] ∧ d.gone = 0
  · rw [if_pos hi, Ltx.norm_idle (by intro p hp; obtain rfl := List.mem_singleton.1 hp; unfold Ltx.idle DV.last; rw [hi.1, hi.2]; rfl), Ltx.norm_self h.nm]
  · rw [if_neg hi]
    refine (Ltx.norm_self (Ltx.normal_snoc h.nm ?_ h.at_)).symm
    unfold Ltx.idle DV.last
    cases ht : d.text with
    | nil =>
      have : d.gone ≠ 0 := fun e => hi ⟨ht, e⟩
      simp [this]
    | cons a b => simp
end Go.Proofs.Ytoeblaecldhcaaa.P5
/- The program's draft: put, drop. -/
namespace Go.Proofs.Ytoeblaecldhcaaa.P5
set_option linter.unusedVariables false
open Go.RowKit
set_option maxRecDepth 20000
open Ltx (Pc)

/-- what a call may turn: of the blocks that are there those of S alone -/
structure FrX (S : Nat → Prop) (w w' : World) : Prop where
  os : w'.os = w.os
  tape : w'.tape = w.tape
  output : w'.output = w.output
  size : w.heap.size ≤ w'.heap.size
  block : ∀ k, k < w.heap.size → ¬ S k → w'.heap[k]? = w.heap[k]?
section
variable {S S' : Nat → Prop} {w w' w'' : World}
theorem FrX.refl (S : Nat → Prop) (w : World) : FrX S w w := ⟨rfl, rfl, rfl, Nat.le_refl _, fun _ _ _ => rfl⟩
theorem FrX.of_below (h : Below w.heap.size w w') : FrX S w w' := ⟨h.os, h.tape, h.output, h.size, fun k hk _ => h.block k hk⟩
theorem FrX.trans (h : FrX S w w') (h2 : FrX S' w' w'') (hs : ∀ k, S' k → S k ∨ w.heap.size ≤ k) : FrX S w w'' :=
  ⟨h2.os.trans h.os, h2.tape.trans h.tape, h2.output.trans h.output, Nat.le_trans h.size h2.size, fun k hk hn => (h2.block k (Nat.lt_of_lt_of_le hk h.size) (fun e => by rcases hs k e with e | e; exact hn e; omega)).trans (h.block k hk hn)⟩
theorem FrX.mono (h : FrX S w w') (hs : ∀ k, k < w.heap.size → S k → S' k) : FrX S' w w' := ⟨h.os, h.tape, h.output, h.size, fun k hk hn => h.block k hk (fun e => hn (hs k hk e))⟩
theorem FrX.below {B : Nat} (h : FrX S w w') (hB : ∀ k, S k → B ≤ k) (hb : B ≤ w.heap.size) : Below B w w' := ⟨h.os, h.tape, h.output, h.size, fun k hk => h.block k (by omega) (fun e => by have := hB k e; omega)⟩
theorem FrX.setCell {g i : Nat} {v : Value} (h : FrX S w w') (hg : S g) : FrX S w (w'.setCell ⟨g, i, none⟩ v) :=
  ⟨h.os, h.tape, h.output, by have := h.size; simpa using this, fun k hk hn => (heap_setCell_other w' ⟨g, i, none⟩ k v (fun e => hn (e ▸ hg))).trans (h.block k hk hn)⟩
theorem FrX.alloc (h : FrX S w w') (o : Obj) : FrX S w (w'.alloc o) :=
  ⟨h.os, h.tape, h.output, by have := h.size; simp; omega, fun k hk hn => (Go.heap_alloc_old w' _ (Nat.lt_of_lt_of_le hk h.size)).trans (h.block k hk hn)⟩
theorem FrX.of_grown {row : Option Nat} (h : w.grownBy w' row) (hs : ∀ k, row = some k → S k) : FrX S w w' :=
  ⟨h.os, h.tape, h.output, h.size, fun k hk hn => h.block k hk (fun e => hn (hs k e.symm))⟩
theorem FrX.drew (h : FrX S w w') (n : Nat) : FrX S w (w'.drewN n) := ⟨h.os, h.tape, h.output, h.size, h.block⟩
end
theorem own_kept {w w' : World} {base : Nat} {e : TypeId} {size : Nat} {v : Value} {n : Nat} {xs : List Value} (h : w.ownsRow base e size v n xs) (hk : ∀ k, v.ownBlock = some k → w'.heap[k]? = w.heap[k]?) : w'.ownsRow base e size v n xs := by
  refine ⟨h.1, ?_⟩
  rcases h.2 with h0 | ⟨g, cap, cur, rfl, hb, hg, rest⟩
  · exact .inl h0
  · exact .inr ⟨g, cap, cur, rfl, hb, (hk g rfl).trans hg, rest⟩
theorem own_typed {w : World} {base : Nat} {e : TypeId} {size : Nat} {v : Value} {n : Nat} {xs : List Value} (h : w.ownsRow base e size v n xs) : ∀ k, v.ownBlock = some k → ∃ cs fr, w.heap[k]? = some (.cells cs e fr) := by
  intro k hk
  rcases h.2 with ⟨rfl, _⟩ | ⟨g, cap, cur, rfl, _, hg, _⟩
  · cases hk
  · have : g = k := by simpa [Value.ownBlock] using hk
    subst this
    exact ⟨cur, (0, 0), hg⟩
/-- a row's block is none of another element type -/
theorem own_ne {w : World} {base p : Nat} {e t : TypeId} {size n : Nat} {v : Value} {xs : List Value} {cs : Array Value} {fr : Nat × Nat} (h : w.ownsRow base e size v n xs) (hp : w.heap[p]? = some (.cells cs t fr)) (hne : e ≠ t) : v.ownBlock ≠ some p := by
  intro hk
  obtain ⟨cs', fr', hh⟩ := own_typed h p hk
  rw [hp] at hh
  injection hh with hh
  injection hh with _ h2 _
  exact hne h2.symm
theorem own_apart {w : World} {b1 b2 s1 s2 : Nat} {e t : TypeId} {v x : Value} {n m : Nat} {xs ys : List Value} (h1 : w.ownsRow b1 e s1 v n xs) (h2 : w.ownsRow b2 t s2 x m ys) (hne : e ≠ t) {k : Nat} (hv : v.ownBlock = some k) : x.ownBlock ≠ some k := by
  obtain ⟨cs, fr, hh⟩ := own_typed h1 k hv
  exact own_ne h2 hh (fun e2 => hne e2.symm)

/-- append(v, s..), v a row of bytes of the call's own, s a text: and where what is answered lies -/
theorem run_append_str {P : Program} (w : World) (base : Nat) (t u ty e : TypeId) (i : TypeInfo) (ht : P.underlying t = some (.slice e)) (hu : P.underlying u = some .string) (hi : P.info? e = some i) (hz : i.zero = some (.int .u8 0))
    (hsize : i.size = 1) (hby : i.bytes = 1)
    (v : Value) (n : Nat) (xs : List Value) (hown : w.ownsRow base e 1 v n xs) (s : ByteArray)
    (h63 : n + s.size ≤ maxLen) (hbytes : n + s.size ≤ 140737488355328) (hbase : base ≤ w.heap.size) :
    ∃ v' w', (Builtin.append_ #[t, u] ty #[v, .string s]).run P w = .ok v' w' ∧ w'.ownsRow base e 1 v' (n + s.size) (xs ++ Lib.strCells s) ∧ w.grownBy w' v.ownBlock ∧ (v'.ownBlock = v.ownBlock ∨ v'.ownBlock = some w.heap.size) := by
  obtain ⟨v', w', hr, h2, h3, h4⟩ := Lib.run_append_own_string (P := P) w base t u ty e i ht hu hi hz hsize hby v n xs hown s h63 hbytes hbase
  refine ⟨v', w', hr, h2, h3, ?_⟩
  unfold maxLen at h63
  rcases hown.2 with ⟨rfl, rfl⟩ | ⟨g, cap, cur, rfl, hbg, hg, hnc, hcm, hcs, htake⟩
  · by_cases hm : s.size = 0
    · rw [h4.2 ⟨rfl, hm⟩]
      exact .inl rfl
    · have hr2 := run_append_nil_string (P := P) w t u ty e i (.int .u8 0) ht hu hi hz s (by omega) (by omega) (by rw [hby]; omega)
      rw [hr] at hr2
      injection hr2 with e1 _
      rw [e1]
      exact .inr rfl
  · have hcs' : cur.size = cap := by simpa using hcs
    by_cases hroom : n + s.size ≤ cap
    · have hr2 := Lib.run_append_room_string (P := P) w t u ty e i ht hu hi hsize g n cap cur hg s hroom (by omega)
      rw [hr] at hr2
      injection hr2 with e1 _
      rw [e1]
      exact .inl rfl
    · have holds : ∀ j u, xs[j]? = some u → w.cell? ((⟨g, 0, none⟩ : Addr).add j) = some u := hown.cells (g := g) rfl
      have hr2 := Lib.run_append_grow_string (P := P) w t u ty e i (.int .u8 0) ht hu hi hz ⟨g, 0, none⟩ n cap xs (by rw [hsize]; exact hown.1) holds s (by omega) (by omega) (by rw [hby]; exact growslice_fits (by omega) (by omega))
      rw [hr] at hr2
      injection hr2 with e1 _
      rw [e1]
      exact .inr rfl
theorem strCells_mk (l : List UInt8) : Lib.strCells ⟨l.toArray⟩ = l.map byteV := rfl
/-- .. for the walk -/
theorem wpList_append_text {w : World} {ops : Array Oper} {rest : List Oper} {o : Oper} {a : Act} {Q : Exit → Act → World → Prop} (hgd : o.guard = none) (sl x : Operand)
    (ho : o.op = .call { callee := .builtin .append, args := #[sl, x], argTypes := #[112, 9] })
    (base : Nat) (v : Value) (bs t : List UInt8) (hs : a.eval sl = v) (hown : OwnB base w v bs) (hx : a.eval x = .string ⟨t.toArray⟩)
    (hlen : bs.length + t.length ≤ 100000000) (hbase : base ≤ w.heap.size)
    (h : ∀ v' w', OwnB base w' v' (bs ++ t) → w.grownBy w' v.ownBlock → (v'.ownBlock = v.ownBlock ∨ v'.ownBlock = some w.heap.size) → wpList Try.prog ops Q rest (a.put o.dst v') w') : wpList Try.prog ops Q (o :: rest) a w := by
  obtain ⟨i0, hi, hz0, hz1, hz2⟩ := info_parts Try.info5
  have hsz : (⟨t.toArray⟩ : ByteArray).size = t.length := rfl
  refine wpList_plain hgd fun K hK => ?_
  obtain ⟨v', w', hr, h2, h3, h4⟩ := run_append_str (P := Try.prog) w base 112 9 o.type 5 i0 Try.underlying112 Try.underlying9 hi hz0 hz1 hz2 v bs.length (bs.map byteV) hown ⟨t.toArray⟩ (by rw [hsz]; unfold maxLen; omega) (by rw [hsz]; omega) hbase
  unfold Oper.wp execOp
  simp only [ho, resolve, invoke, builtin, Sem.run_bind, Sem.run_pure, Result.andThen_ok, List.map_toArray, List.map_cons, List.map_nil, hs, hx, hr]
  refine hK _ _ (h v' w' ?_ h3 h4)
  unfold OwnB
  rw [List.length_append, List.map_append]
  exact h2

def Also (S : Nat → Prop) (w w' : World) (k : Nat) : Prop := S k ∨ (w.heap.size ≤ k ∧ k < w'.heap.size)
end Go.Proofs.Ytoeblaecldhcaaa.P5
/- The program's draft: finish. -/
namespace Go.Proofs.Ytoeblaecldhcaaa.P5
set_option linter.unusedVariables false
open Go.RowKit
set_option maxRecDepth 20000
open Ltx (Pc)

/-- append whose run is known ahead: at a step of a region that draws its order -/
theorem step_append_known {P : Program} {ops : Array Oper} {o : Oper} {a : Act} {w : World} {K : Act → World → Prop} {Q : Exit → Act → World → Prop} {E : Prop} (hgd : o.guard = none) (s x : Operand) (t u : TypeId)
    (ho : o.op = .call { callee := .builtin .append, args := #[s, x], argTypes := #[t, u] }) (v y v' : Value) (w' : World) (hs : a.eval s = v) (hx : a.eval x = y)
    (hr : (Builtin.append_ #[t, u] o.type #[v, y]).run P w = .ok v' w') (h : K (a.put o.dst v') w') :
    if Region.wanted o (yielded ops a.tmps) = true then Oper.wp P o a w K Q else E := by
  have hw : Region.wanted o (yielded ops a.tmps) = true := by simp [Region.wanted, hgd]
  rw [if_pos hw]
  unfold Oper.wp execOp
  simp only [ho, resolve, invoke, builtin, Sem.run_bind, Sem.run_pure, Result.andThen_ok, List.map_toArray, List.map_cons, List.map_nil, hs, hx, hr]
  exact h
theorem OwnB.cut0 {base : Nat} {w : World} {A : Option Addr} {n c : Nat} {bs : List UInt8} (h : OwnB base w (.slice A n c) bs) : OwnB base w (.slice A 0 c) [] := by
  refine ⟨rfl, ?_⟩
  rcases h.2 with ⟨e, _⟩ | ⟨g, cap, cur, e, hb, hg, hnc, hcm, hcs, _⟩
  · injection e with e1 e2 e3
    subst e1 e3
    exact .inl ⟨rfl, rfl⟩
  · injection e with e1 e2 e3
    subst e1 e3
    exact .inr ⟨g, c, cur, rfl, hb, hg, Nat.zero_le _, hcm, hcs, by simp⟩
/-- what the statement that ends a piece reads, but for the row of pieces itself -/
def FinS (p n c : Nat) (A : Option Addr) (kept gone : Int) (txt : List UInt8) (w' : World) : Prop :=
  w'.cell? ⟨p, 1, none⟩ = some (.int .i64 kept) ∧ w'.cell? ⟨p, 2, none⟩ = some (.slice A n c) ∧ w'.cell? ⟨p, 3, none⟩ = some (.int .i64 gone) ∧ (convert 112 9 (.slice A n c)).run Try.prog w' = .ok (.string ⟨txt.toArray⟩) w'
end Go.Proofs.Ytoeblaecldhcaaa.P5
/- The program's draft, by what was put, dropped, kept: put, drop, keep, pieces, whole. -/
namespace Go.Proofs.Ytoeblaecldhcaaa.P5
set_option linter.unusedVariables false
open Go.RowKit
set_option maxRecDepth 20000
open Ltx (Pc)

def totP (l : List Pc) : Nat := Ltx.extent l + Ltx.puts l
theorem totP_append (l m : List Pc) : totP (l ++ m) = totP l + totP m := by unfold totP; rw [Ltx.extent_append, Ltx.puts_append]; omega
theorem totP_one (k d : Nat) (t : List UInt8) : totP [⟨k, d, t⟩] = k + d + t.length := by simp [totP, Ltx.extent, Ltx.puts]
def DV.tot (d : DV) : Nat := totP (d.done ++ [d.last])
theorem DV.tot_eq (d : DV) : d.tot = totP d.done + (d.kept + d.gone + d.text.length) := by unfold DV.tot DV.last; rw [totP_append, totP_one]
theorem DV.tot_fin (d : DV) (n : Nat) : DV.tot { d.fin with kept := d.fin.kept + n } = d.tot + n := by
  rw [DV.tot_eq, DV.tot_eq]
  unfold DV.fin
  by_cases h : d.text = [] ∧ d.gone = 0
  · rw [if_pos h]; dsimp only; omega
  · rw [if_neg h]
    dsimp only [List.length_nil]
    rw [totP_append]
    unfold DV.last
    rw [totP_one]
    omega
theorem totP_norm (l : List Pc) : totP (Ltx.norm l) ≤ totP l := by
  have h1 := Ltx.extent_norm l
  have h2 := Ltx.norm_puts l
  unfold totP
  omega
theorem low_of {l : List Pc} (h : totP l ≤ 4000000000) : Low l := fun p hp => by
  have h1 := Ltx.mem_sizes hp
  unfold totP at h
  exact ⟨by omega, by omega, by omega⟩
theorem normal_tot {l : List Pc} (h : Ltx.Normal l) : l.length ≤ totP l := by
  have h1 := Ltx.normal_len h
  have h2 := Ltx.extent_two l
  unfold totP
  omega
section
variable {w : World} {S : Nat → Prop} {base p : Nat} {raw : List Pc}
theorem also_trans {w1 w2 : World} {k : Nat} (h1 : w.heap.size ≤ w1.heap.size) (h2 : w1.heap.size ≤ w2.heap.size) (h : Also (Also S w w1) w1 w2 k) : Also S w w2 k := by
  rcases h with (h | h) | h
  · exact .inl h
  · exact .inr ⟨h.1, by omega⟩
  · exact .inr ⟨by omega, h.2⟩
theorem right_fine {l : List Pc} (h : Ltx.Fine l) : rightV (l.map ipc) = true := by
  obtain ⟨h1, h2, h3⟩ := h
  refine right_of (by simpa using h1) ?_ ?_
  · rw [List.all_eq_true]
    intro x hx
    obtain ⟨p, hp, rfl⟩ := List.mem_map.1 hx
    have := h2 p hp
    unfold okB mayB ipc
    simp
    omega
  · have e : ∀ l : List Pc, putsI (l.map ipc) = Ltx.puts l := fun l => by
      induction l with
      | nil => rfl
      | cons p r ih => rw [List.map_cons, putsI, ih]; rfl
    rw [e]
    exact h3
end
end Go.Proofs.Ytoeblaecldhcaaa.P5
/- The law's: are two edits the same, is one small. -/
namespace Go.Proofs.Ytoeblaecldhcaaa.P5
set_option linter.unusedVariables false
open Go.RowKit
set_option maxRecDepth 20000

def ipE (x y : IP) : Bool := decide (x.keep = y.keep ∧ x.drop = y.drop ∧ x.put = y.put)
theorem ipE_iff {x y : IP} : ipE x y = true ↔ x = y := by
  obtain ⟨a, b, c⟩ := x
  obtain ⟨a', b', c'⟩ := y
  simp [ipE]
def sameP (xs ys : List IP) : Bool := xs.length == ys.length && (xs.zip ys).all fun p => ipE p.1 p.2
theorem sameP_iff : ∀ {xs ys : List IP}, sameP xs ys = true ↔ xs = ys
  | [], [] => by simp [sameP]
  | [], y :: ys => by simp [sameP]
  | x :: xs, [] => by simp [sameP]
  | x :: xs, y :: ys => by
    have ih := @sameP_iff xs ys
    have e : sameP (x :: xs) (y :: ys) = (ipE x y && sameP xs ys) := by
      simp only [sameP, List.length_cons, List.zip_cons_cons, List.all_cons]
      rw [show (xs.length + 1 == ys.length + 1) = (xs.length == ys.length) by simp]
      cases xs.length == ys.length <;> cases ipE x y <;> simp
    rw [e, Bool.and_eq_true, ih, ipE_iff]
    simp
theorem sameP_not {xs ys : List IP} (h : xs ≠ ys) : sameP xs ys = false := by
  cases hs : sameP xs ys with
  | false => rfl
  | true => exact absurd (sameP_iff.1 hs) h
theorem part_int (w : World) (cs : Array Value) (o : Nat) (v : Value) (h : cs[o]? = some v) : (part 3 cs o).run Try.prog w = .ok v w := by
  simp [part, isAgg, run_underlying Try.underlying3, h]
theorem part_str (w : World) (cs : Array Value) (o : Nat) (v : Value) (h : cs[o]? = some v) : (part 9 cs o).run Try.prog w = .ok v w := by
  simp [part, isAgg, run_underlying Try.underlying9, h]
theorem run_neq_piece (w : World) (a b : Int) (s : List UInt8) (a' b' : Int) (s' : List UInt8) :
    (binOp .neq 53 (.agg #[.int .i64 a, .int .i64 b, .string ⟨s.toArray⟩]) (.agg #[.int .i64 a', .int .i64 b', .string ⟨s'.toArray⟩])).run Try.prog w = .ok (.bool (!(ipE ⟨a, b, s⟩ ⟨a', b', s'⟩))) w := by
  rw [run_neq_struct, run_equalIn_agg w 9999 53 _ _ (by kernel_rfl) (by kernel_rfl)]
  simp only [Program.fieldsOf, Try.underlying53, Op.eqFields]
  have e0 : "Keep" ≠ "_" := by decide
  have e1 : "Drop" ≠ "_" := by decide
  have e2 : "Put" ≠ "_" := by decide
  rw [if_pos e0]
  simp only [Sem.run_bind]
  rw [part_int w #[Value.int IntKind.i64 a, Value.int IntKind.i64 b, Value.string { data := s.toArray }] 0 (.int .i64 a) rfl]
  simp only [Result.andThen_ok]
  rw [part_int w #[Value.int IntKind.i64 a', Value.int IntKind.i64 b', Value.string { data := s'.toArray }] 0 (.int .i64 a') rfl]
  simp only [Result.andThen_ok]
  rw [show (Op.equalIn 9999 3 (.int .i64 a) (.int .i64 a')).run Try.prog w = _ from run_equalIn_int w 9998 3 .i64 .i64 a a' Try.underlying3]
  simp only [Result.andThen_ok]
  by_cases ha : a = a'
  · subst ha
    simp only [BEq.rfl, Bool.not_true, Bool.false_eq_true, if_false]
    rw [if_pos e1]
    simp only [Sem.run_bind]
    rw [part_int w #[Value.int IntKind.i64 a, Value.int IntKind.i64 b, Value.string { data := s.toArray }] 1 (.int .i64 b) rfl]
    simp only [Result.andThen_ok]
    rw [part_int w #[Value.int IntKind.i64 a, Value.int IntKind.i64 b', Value.string { data := s'.toArray }] 1 (.int .i64 b') rfl]
    simp only [Result.andThen_ok]
    rw [show (Op.equalIn 9999 3 (.int .i64 b) (.int .i64 b')).run Try.prog w = _ from run_equalIn_int w 9998 3 .i64 .i64 b b' Try.underlying3]
    simp only [Result.andThen_ok]
    by_cases hb : b = b'
    · subst hb
      simp only [BEq.rfl, Bool.not_true, Bool.false_eq_true, if_false]
      rw [if_pos e2]
      simp only [Sem.run_bind]
      rw [part_str w #[Value.int IntKind.i64 a, Value.int IntKind.i64 b, Value.string { data := s.toArray }] 2 (.string ⟨s.toArray⟩) rfl]
      simp only [Result.andThen_ok]
      rw [part_str w #[Value.int IntKind.i64 a, Value.int IntKind.i64 b, Value.string { data := s'.toArray }] 2 (.string ⟨s'.toArray⟩) rfl]
      simp only [Result.andThen_ok]
      rw [show (Op.equalIn 9999 9 (.string ⟨s.toArray⟩) (.string ⟨s'.toArray⟩)).run Try.prog w = _ from run_equalIn_string w 9998 9 _ _ Try.underlying9]
      simp only [Result.andThen_ok, ByteArray.toList_eq]
      by_cases hc : s = s'
      · subst hc; simp [ipE]
      · simp [ipE, hc]
    · simp [ipE, hb]
  · simp [ipE, ha]
set_option maxHeartbeats 2000000 in
theorem same_any (w : World) (A A2 : Option Addr) (n c n2 c2 : Nat) (xs ys : List IP) (hx : PcsIn w A n xs) (hy : PcsIn w A2 n2 ys) (hn : n ≤ maxLen) (hn2 : n2 ≤ maxLen) :
    Calls Try.prog 28 #[.slice A n c, .slice A2 n2 c2] w fun e w' => e = .returned (.bool (sameP xs ys)) ∧ Below w.heap.size w w' := by
  have hx' := Lib.hid hx
  have hy' := Lib.hid hy
  have hlx := Lib.hid hx.1
  have hly := Lib.hid hy.1
  clear hx hy
  have hn' : (n : Int) ≤ 9223372036854775807 := by unfold maxLen at hn; omega
  have hn2' : (n2 : Int) ≤ 9223372036854775807 := by unfold maxLen at hn2; omega
  have hneq := run_neq_piece
  by_cases hl : n = n2
  · subst hl
    go_enter Try.func28, Try.ntmps28
    go_wp2_with fail
    go_loopw [5] (fun k wr => ∃ q : Nat, q ≤ n ∧ k = .int .i64 (q : Int) ∧ xs.take q = ys.take q ∧ Below w.heap.size w wr) (fun k _ => n - (intOf k).toNat)
    case atStart => exact ⟨0, Nat.zero_le _, rfl, rfl, Below.refl _ _⟩
    case round =>
      obtain ⟨q, hq, rfl, hs, hbel⟩ := hrel
      by_cases h1 : q < n
      · have h1I : (q : Int) < (n : Int) := by omega
        obtain ⟨ad, x, rfl, hxq, hlt, hp⟩ := (hx'.out.below hbel).at_ h1
        obtain ⟨x1, x2, x3, x4, x5, x6, x7, x8⟩ := hp
        obtain ⟨ad2, y, rfl, hyq, hlt2, hp2⟩ := (hy'.out.below hbel).at_ h1
        obtain ⟨y1, y2, y3, y4, y5, y6, y7, y8⟩ := hp2
        obtain ⟨kp, dr, pu⟩ := x
        obtain ⟨kp2, dr2, pu2⟩ := y
        simp only at *
        have hbel' := Lib.hid hbel
        have hs' := Lib.hid hs
        clear hbel hs
        cases he : ipE ⟨kp, dr, pu⟩ ⟨kp2, dr2, pu2⟩ with
        | true =>
          have e := ipE_iff.1 he
          have hs2 := Lib.hid (show xs.take (q + 1) = ys.take (q + 1) by rw [List.take_add_one, List.take_add_one, hs'.out, hxq, hyq, e])
          clear hxq hyq e
          go_wp2_with fail
          go_quiet (fail)
          go_wp2_with fail
          go_roundw
          case rel => exact ⟨q + 1, by omega, by go_num, hs2.out, draws hbel'.out _⟩
          case measure => simp [intOf]; omega
        | false =>
          have hv := Lib.hid (sameP_not (xs := xs) (ys := ys) (fun e => by rw [e, hyq] at hxq; injection hxq with hxq; rw [hxq] at he; rw [ipE_iff.2 rfl] at he; cases he))
          clear hxq hyq
          go_wp2_with fail
          go_quiet (fail)
          go_wp2_with fail
          go_ret
          exact ⟨by rw [hv.out]; rfl, draws hbel'.out _⟩
      · have hqn : q = n := by omega
        have h1I : ¬ (q : Int) < (n : Int) := by omega
        have hv := Lib.hid (sameP_iff.2 (show xs = ys by rw [hqn] at hs; rw [← List.take_length (l := xs), ← List.take_length (l := ys), hlx.out, hly.out]; exact hs))
        have hbel' := Lib.hid hbel
        clear hs hbel hqn h1
        go_wp2_with fail
        go_ret
        exact ⟨by rw [hv.out]; rfl, hbel'.out⟩
  · have hv := Lib.hid (sameP_not (xs := xs) (ys := ys) (fun e => hl (by rw [← hlx.out, ← hly.out, e])))
    have hlI : ((n : Int) == (n2 : Int)) = false := by simp; omega
    have hlJ : ((n : Int) != (n2 : Int)) = true := by simp; omega
    clear hl
    go_enter Try.func28, Try.ntmps28
    go_wp2_with fail
    go_ret
    exact ⟨by rw [hv.out]; rfl, Below.refl _ _⟩
def costI (x : IP) : Nat := (max 0 x.keep).toNat + (max 0 x.drop).toNat + x.put.length
def costs : List IP → Nat
  | [] => 0
  | x :: r => costI x + costs r
def smallV (xs : List IP) (top : Nat) : Bool := decide (xs.length ≤ top) && decide (costs xs ≤ top)
theorem costs_take : ∀ (xs : List IP) (q : Nat) (x : IP), xs[q]? = some x → costs (xs.take (q + 1)) = costs (xs.take q) + costI x
  | [], q, x, h => by simp at h
  | y :: r, 0, x, h => by
    simp at h
    subst h
    simp [costs]
  | y :: r, q + 1, x, h => by
    have ih := costs_take r q x (by simpa using h)
    rw [List.take_succ_cons, List.take_succ_cons, costs, costs, ih]
    omega
theorem costs_le : ∀ (xs : List IP) (q : Nat), costs (xs.take q) ≤ costs xs
  | [], q => by simp
  | y :: r, 0 => by simp [costs]
  | y :: r, q + 1 => by
    have ih := costs_le r q
    rw [List.take_succ_cons, costs, costs]
    omega
theorem cost_cases (kp dr : Int) (pu : List UInt8) : ∃ k d : Nat, costI ⟨kp, dr, pu⟩ = k + d + pu.length ∧ ((kp < 0 ∧ k = 0) ∨ (¬ kp < 0 ∧ kp = (k : Int))) ∧ ((dr < 0 ∧ d = 0) ∨ (¬ dr < 0 ∧ dr = (d : Int))) := by
  refine ⟨(max 0 kp).toNat, (max 0 dr).toNat, rfl, ?_, ?_⟩ <;> omega
end Go.Proofs.Ytoeblaecldhcaaa.P5
/- An edit, made normal: the program's. -/
namespace Go.Proofs.Ytoeblaecldhcaaa.P5
set_option linter.unusedVariables false
open Go.RowKit
set_option maxRecDepth 20000
open Ltx (Pc)

/-- each piece as three that each do one thing -/
def prim (l : List Pc) : List Pc := l.flatMap fun p => [⟨p.keep, 0, []⟩, ⟨0, 0, p.put⟩, ⟨0, p.drop, []⟩]
theorem prim_one (p : Pc) : Eqv [⟨p.keep, 0, []⟩, ⟨0, 0, p.put⟩, ⟨0, p.drop, []⟩] [p] := by
  have h1 : Eqv [⟨p.keep, 0, []⟩, ⟨0, 0, p.put⟩] [⟨p.keep, 0, p.put⟩] := by
    have := eqv_one (k := p.keep) (d := 0) (t := []) (k' := 0) (d' := 0) (t' := p.put) rfl
    simpa using this
  have h2 : Eqv [⟨p.keep, 0, p.put⟩, ⟨0, p.drop, []⟩] [p] := by
    have := eqv_one (k := p.keep) (d := 0) (t := p.put) (k' := 0) (d' := p.drop) (t' := []) rfl
    simpa using this
  exact (h1.app (Eqv.refl [⟨0, p.drop, []⟩])).trans h2
theorem prim_eqv : ∀ l : List Pc, Eqv (prim l) l
  | [] => Eqv.refl []
  | p :: r => (prim_one p).app (prim_eqv r)
theorem prim_norm (l : List Pc) : Ltx.norm (prim l) = Ltx.norm l := norm_eqv (prim_eqv l)
theorem prim_append (l m : List Pc) : prim (l ++ m) = prim l ++ prim m := by unfold prim; rw [List.flatMap_append]
theorem totP_prim : ∀ l : List Pc, totP (prim l) = totP l
  | [] => rfl
  | p :: r => by
    have ih := totP_prim r
    have e : prim (p :: r) = [⟨p.keep, 0, []⟩, ⟨0, 0, p.put⟩, ⟨0, p.drop, []⟩] ++ prim r := rfl
    rw [e, totP_append, ih, show totP (p :: r) = totP ([p] ++ r) from rfl, totP_append]
    simp [totP, Ltx.extent, Ltx.puts]
theorem prim_take (l : List Pc) (q : Nat) (p : Pc) (h : l[q]? = some p) : prim (l.take (q + 1)) = prim (l.take q) ++ [⟨p.keep, 0, []⟩] ++ [⟨0, 0, p.put⟩] ++ [⟨0, p.drop, []⟩] := by
  rw [List.take_add_one, h, prim_append]
  simp [prim]
theorem tot_take (l : List Pc) (q : Nat) : totP (l.take q) ≤ totP l := by
  conv => rhs; rw [← List.take_append_drop q l, totP_append]
  omega
/-- right pieces have no number below 0 -/
theorem right_pcs {xs : List IP} (h : rightV xs = true) : ∃ l : List Pc, xs = l.map ipc := by
  have hall : xs.all okB = true := by
    unfold rightV at h
    simp only [Bool.and_eq_true] at h
    exact h.1.2
  clear h
  induction xs with
  | nil => exact ⟨[], rfl⟩
  | cons x r ih =>
    rw [List.all_cons, Bool.and_eq_true] at hall
    obtain ⟨l, rfl⟩ := ih hall.2
    obtain ⟨kp, dr, pu⟩ := x
    have hx : 0 ≤ kp ∧ 0 ≤ dr := by
      have := hall.1
      unfold okB mayB at this
      simp at this
      omega
    refine ⟨⟨kp.toNat, dr.toNat, pu⟩ :: l, ?_⟩
    rw [List.map_cons]
    congr 1
    simp [ipc]
    omega
theorem costs_pcs : ∀ l : List Pc, costs (l.map ipc) = totP l
  | [] => rfl
  | p :: r => by
    rw [List.map_cons, costs, costs_pcs r, show totP (p :: r) = totP ([p] ++ r) from rfl, totP_append]
    simp [costI, ipc, totP, Ltx.extent, Ltx.puts]
theorem small_pcs {l : List Pc} {top : Nat} (h : smallV (l.map ipc) top = true) : totP l ≤ top ∧ l.length ≤ top := by
  unfold smallV at h
  simp only [Bool.and_eq_true, decide_eq_true_eq, costs_pcs, List.length_map] at h
  exact ⟨h.2, h.1⟩
/-- a block that lies outside the draft's is as it was -/
theorem FrX.cells {S : Nat → Prop} {w w' : World} {b : Nat} {cs : Array Value} {t : TypeId} {fr : Nat × Nat} (h : FrX S w w') (hb : w.heap[b]? = some (.cells cs t fr)) (hn : ¬ S b) : w'.heap[b]? = some (.cells cs t fr) :=
  (h.block b (Array.getElem?_eq_some_iff.1 hb).1 hn).trans hb
theorem own_base {w : World} {base b : Nat} {e : TypeId} {size : Nat} {v : Value} {n : Nat} {xs : List Value} (h : w.ownsRow base e size v n xs) (hb : b ≤ base) : w.ownsRow b e size v n xs := by
  refine ⟨h.1, ?_⟩
  rcases h.2 with h0 | ⟨g, cap, cur, rfl, hg, rest⟩
  · exact .inl h0
  · exact .inr ⟨g, cap, cur, rfl, Nat.le_trans hb hg, rest⟩
end Go.Proofs.Ytoeblaecldhcaaa.P5
/- The document's: is an edit right, how far does it reach. -/
namespace Go.Proofs.Ytoeblaecldhcaaa.P5
set_option linter.unusedVariables false
open Go.RowKit
set_option maxRecDepth 20000
open Ltx (Pc)

set_option maxHeartbeats 2000000 in
theorem rright_any (w : World) (A : Option Addr) (n c : Nat) (xs : List IP) (hx : PcsIn w A n xs) (hn : n ≤ maxLen) :
    Calls Try.prog 46 #[.slice A n c] w fun e w' => e = .returned (.bool (rightV xs)) ∧ Below w.heap.size w w' := by
  have hx' := Lib.hid hx
  have hlen := hx.1
  clear hx
  have hn' : (n : Int) ≤ 9223372036854775807 := by unfold maxLen at hn; omega
  by_cases h60 : 4096 < n
  · have hv := Lib.hid (not_right_len (xs := xs) (by omega))
    have hI : (4096 : Int) < (n : Int) := by omega
    clear h60 hlen
    go_enter Try.func46, Try.ntmps46
    go_wp2_with fail
    go_ret
    exact ⟨by rw [hv.out]; rfl, Below.refl _ _⟩
  · have hI : ¬ (4096 : Int) < (n : Int) := by omega
    go_enter Try.func46, Try.ntmps46
    go_wp2_with fail
    go_loopw [3, 4] (fun s k wr => ∃ q : Nat, q ≤ n ∧ k = .int .i64 (q : Int) ∧ s = .int .i64 (putsI (xs.take q) : Int) ∧ putsI (xs.take q) ≤ 1048576 ∧ (xs.take q).all okB = true ∧ Below w.heap.size w wr) (fun _ k _ => n - (intOf k).toNat)
    case atStart => exact ⟨0, Nat.zero_le _, rfl, by simp [putsI], by simp [putsI], rfl, Below.refl _ _⟩
    case round =>
      obtain ⟨q, hq, rfl, rfl, hs, hall, hbel⟩ := hrel
      by_cases h1 : q < n
      · have h1I : (q : Int) < (n : Int) := by omega
        obtain ⟨ad, x, rfl, hxq, hlt, hp⟩ := (hx'.out.below hbel).at_ h1
        obtain ⟨x1, x2, x3, x4, x5, x6, x7, x8⟩ := hp
        have hst := putsI_take xs q x hxq
        have hle := putsI_le xs (q + 1)
        obtain ⟨kp, dr, pu⟩ := x
        simp only at *
        unfold maxLen at x5
        generalize hS : putsI (xs.take q) = s at *
        have hmem : (⟨kp, dr, pu⟩ : IP) ∈ xs := List.mem_of_getElem? hxq
        have hbel' := Lib.hid hbel
        by_cases hok : (0 ≤ kp ∧ kp ≤ 1048576 ∧ 0 ≤ dr ∧ dr ≤ 1048576) ∧ s + pu.length ≤ 1048576
        · obtain ⟨⟨a1, a2, a3, a4⟩, a5⟩ := hok
          have hokx : okB ⟨kp, dr, pu⟩ = true := by unfold okB mayB; simp; omega
          have hall' := Lib.hid (all_take_succ hxq hall hokx)
          have b1 : ¬ kp < 0 := by omega
          have b2 : ¬ (1048576 : Int) < kp := by omega
          have b3 : ¬ dr < 0 := by omega
          have b4 : ¬ (1048576 : Int) < dr := by omega
          have b5 : ¬ (1048576 : Int) - (s : Int) < (pu.length : Int) := by omega
          have hst' := Lib.hid hst
          clear hS hst hle hall hokx hbel hxq hmem hlen
          go_wp2_with fail
          go_roundw
          case rel => exact ⟨q + 1, by omega, by go_num, by rw [hst'.out]; go_num, by rw [hst'.out]; exact a5, hall'.out, hbel'.out⟩
          case measure => simp [intOf]; omega
        · have hv : rightV xs = false := by
            by_cases hp : 1048576 < s + pu.length
            · exact not_right_puts (by omega)
            · refine not_right_of hmem ?_
              unfold okB mayB
              simp
              omega
          have hv' := Lib.hid hv
          have hcs : kp < 0 ∨ (¬ kp < 0 ∧ (1048576 : Int) < kp) ∨ (¬ kp < 0 ∧ ¬ (1048576 : Int) < kp ∧ dr < 0) ∨ (¬ kp < 0 ∧ ¬ (1048576 : Int) < kp ∧ ¬ dr < 0 ∧ (1048576 : Int) < dr) ∨ (¬ kp < 0 ∧ ¬ (1048576 : Int) < kp ∧ ¬ dr < 0 ∧ ¬ (1048576 : Int) < dr ∧ (1048576 : Int) - (s : Int) < (pu.length : Int)) := by omega
          clear hS hst hle hall hbel hxq hmem hlen hok hv
          rcases hcs with b1 | ⟨b1, b2⟩ | ⟨b1, b2, b3⟩ | ⟨b1, b2, b3, b4⟩ | ⟨b1, b2, b3, b4, b5⟩
          all_goals
            go_wp2_with fail
            go_ret
            exact ⟨by rw [hv'.out]; rfl, hbel'.out⟩
      · have hqn : q = n := by omega
        have h1I : ¬ (q : Int) < (n : Int) := by omega
        have hv := Lib.hid (right_of (xs := xs) (by omega) (by rw [hqn, ← hlen, List.take_length] at hall; exact hall) (by rw [hqn, ← hlen, List.take_length] at hs; exact hs))
        have hbel' := Lib.hid hbel
        clear hlen hs hall hbel hqn h1
        go_wp2_with fail
        go_ret
        exact ⟨by rw [hv.out]; rfl, hbel'.out⟩
theorem extent_take (l : List Pc) (q : Nat) (p : Pc) (h : l[q]? = some p) : Ltx.extent (l.take (q + 1)) = Ltx.extent (l.take q) + p.keep + p.drop := by
  rw [List.take_add_one, h, Ltx.extent_append]
  simp [Ltx.extent]
  omega
theorem extent_le (l : List Pc) (q : Nat) : Ltx.extent (l.take q) ≤ Ltx.extent l := by
  conv => rhs; rw [← List.take_append_drop q l, Ltx.extent_append]
  omega
/-- what stands at q, of pieces whose numbers are none below 0 -/
theorem PcsIn.pc {w : World} {A : Option Addr} {n q : Nat} {l : List Pc} (h : PcsIn w A n (l.map ipc)) (hq : q < n) : ∃ ad p, A = some ad ∧ l[q]? = some p ∧ ad.block < w.heap.size ∧ PieceAt w (ad.add (q * 3)) (ipc p) := by
  obtain ⟨ad, x, e, hx, hl, hp⟩ := h.at_ hq
  rw [List.getElem?_map] at hx
  cases hpq : l[q]? with
  | none => rw [hpq] at hx; cases hx
  | some p =>
    rw [hpq] at hx
    injection hx with hx
    subst hx
    exact ⟨ad, p, e, rfl, hl, hp⟩
set_option maxHeartbeats 2000000 in
theorem extent_any (w : World) (A : Option Addr) (n c : Nat) (l : List Pc) (hx : PcsIn w A n (l.map ipc)) (hn : n ≤ maxLen) (hb : Ltx.extent l ≤ 100000000000) :
    Calls Try.prog 79 #[.slice A n c] w fun e w' => e = .returned (.int .i64 (Ltx.extent l : Int)) ∧ Below w.heap.size w w' := by
  have hx' := Lib.hid hx
  have hlen := Lib.hid (show l.length = n by have := hx.1; simpa using this)
  clear hx
  have hn' : (n : Int) ≤ 9223372036854775807 := by unfold maxLen at hn; omega
  go_enter Try.func79, Try.ntmps79
  go_wp2_with fail
  go_loopw [3, 4] (fun s k wr => ∃ q : Nat, q ≤ n ∧ k = .int .i64 (q : Int) ∧ s = .int .i64 (Ltx.extent (l.take q) : Int) ∧ Below w.heap.size w wr) (fun _ k _ => n - (intOf k).toNat)
  case atStart => exact ⟨0, Nat.zero_le _, rfl, by simp [Ltx.extent], Below.refl _ _⟩
  case round =>
    obtain ⟨q, hq, rfl, rfl, hbel⟩ := hrel
    by_cases h1 : q < n
    · have h1I : (q : Int) < (n : Int) := by omega
      obtain ⟨ad, p, rfl, hpq, hlt, hp⟩ := (hx'.out.below hbel).pc h1
      obtain ⟨x1, x2, x3, x4, x5, x6, x7, x8⟩ := hp
      have hst := extent_take l q p hpq
      have hle := extent_le l (q + 1)
      obtain ⟨kp, dr, pu⟩ := p
      simp only [ipc] at *
      generalize Ltx.extent (l.take q) = s at *
      have hst' := Lib.hid hst
      have hbel' := Lib.hid hbel
      have hb1 : s + kp + dr ≤ 100000000000 := by omega
      clear hst hle hbel hpq
      go_wp2_with fail
      go_quiet (fail)
      go_wp2_with fail
      go_roundw
      case rel => exact ⟨q + 1, by omega, by go_num, by rw [hst'.out]; go_num, draws hbel'.out _⟩
      case measure => simp [intOf]; omega
    · have hqn : q = n := by omega
      have h1I : ¬ (q : Int) < (n : Int) := by omega
      have hbel' := Lib.hid hbel
      have he := Lib.hid (show Ltx.extent (l.take q) = Ltx.extent l by rw [hqn, ← hlen.out, List.take_length])
      clear hbel hqn h1
      generalize Ltx.extent (l.take q) = s at *
      go_wp2_with fail
      go_ret
      exact ⟨by rw [← he.out]; rfl, hbel'.out⟩
end Go.Proofs.Ytoeblaecldhcaaa.P5
/- The document's: an edit, made normal. -/
namespace Go.Proofs.Ytoeblaecldhcaaa.P5
set_option linter.unusedVariables false
open Go.RowKit
set_option maxRecDepth 20000
open Ltx (Pc)

theorem fold_tot (l : List Pc) (out : List Pc) (k : Nat) (h : l.foldl Ltx.normStep ([], 0) = (out, k)) : totP out + k = totP l := by
  have h1 := (Ltx.norm_does l).2
  have h2 := (Ltx.fold_sums l ([], 0)).1
  rw [h] at h1 h2
  simp only [Ltx.puts] at h1 h2
  unfold totP
  omega
theorem fold_take (l : List Pc) (q : Nat) (p : Pc) (h : l[q]? = some p) (s : List Pc × Nat) (hs : (l.take q).foldl Ltx.normStep ([], 0) = s) : (l.take (q + 1)).foldl Ltx.normStep ([], 0) = Ltx.normStep s p := by
  rw [List.take_add_one, h, List.foldl_append, hs]
  rfl
theorem run_cat (w : World) (a b : List UInt8) (h : a.length + b.length ≤ 4000000000) : (binOp .add 9 (.string ⟨a.toArray⟩) (.string ⟨b.toArray⟩)).run Try.prog w = .ok (.string ⟨(a ++ b).toArray⟩) w := by
  have h1 := run_string_add_sum (P := Try.prog) w ⟨a.toArray⟩ ⟨b.toArray⟩ (by show a.length + b.length ≤ _; omega)
  have h2 : (⟨a.toArray⟩ : ByteArray) ++ ⟨b.toArray⟩ = ⟨(a ++ b).toArray⟩ := by
    apply ByteArray.ext
    simp
  rw [h2] at h1
  simp only [binOp]
  simp [h1]
/-- an empty text, or not -/
theorem run_eq_empty (w : World) (a : List UInt8) : (binOp .eql 9 (.string ⟨a.toArray⟩) (.string ⟨#[]⟩)).run Try.prog w = .ok (.bool a.isEmpty) w := by
  cases a with
  | nil => simp only [binOp]; simp [Op.stringOp]
  | cons x r => simp only [binOp]; simp [Op.stringOp]
theorem bcat (a b : List UInt8) : (⟨a.toArray⟩ : ByteArray) ++ ⟨b.toArray⟩ = ⟨(a ++ b).toArray⟩ := by
  apply ByteArray.ext
  simp
/-- the last piece of a row of the call's own, written anew -/
theorem own_set_last {w : World} {base n c j g : Nat} {init : List Pc} {z : Pc} (h : OwnP base w (.slice (some ⟨g, 0, none⟩) n c) (init ++ [z])) (hj : j = init.length) (y : Pc) :
    OwnP base (((w.setCell ⟨g, j * 3, none⟩ (.int .i64 (y.keep : Int))).setCell ⟨g, j * 3 + 1, none⟩ (.int .i64 (y.drop : Int))).setCell ⟨g, j * 3 + 2, none⟩ (.string ⟨y.put.toArray⟩)) (.slice (some ⟨g, 0, none⟩) n c) (init ++ [y]) := by
  unfold OwnP at h ⊢
  have hn : n = (init ++ [z]).length := by
    rcases h.2 with ⟨e, _⟩ | ⟨g', cap, cur, e, _⟩
    · cases e
    · injection e
  rw [← hn] at h
  have hl : (init.flatMap cellsOf).length = j * 3 := by rw [cells_len, hj]
  have h3 := ((World.ownsRow.stored (World.ownsRow.stored (World.ownsRow.stored h (j * 3) (.int .i64 (y.keep : Int))).1 (j * 3 + 1) (.int .i64 (y.drop : Int))).1 (j * 3 + 2) (.string ⟨y.put.toArray⟩)).1)
  have e : ((((init ++ [z]).flatMap cellsOf).set (j * 3) (.int .i64 (y.keep : Int))).set (j * 3 + 1) (.int .i64 (y.drop : Int))).set (j * 3 + 2) (.string ⟨y.put.toArray⟩) = (init ++ [y]).flatMap cellsOf := by
    rw [List.flatMap_append, List.flatMap_append, List.set_append_right _ _ (by omega), List.set_append_right _ _ (by omega), List.set_append_right _ _ (by omega), hl]
    congr 1
    rw [show j * 3 - j * 3 = 0 by omega, show j * 3 + 1 - j * 3 = 1 by omega, show j * 3 + 2 - j * 3 = 2 by omega]
    rfl
  rw [e] at h3
  rw [show (init ++ [y]).length = n by rw [hn]; simp]
  exact h3
/-- the last piece of a row of the call's own -/
theorem own_last {w : World} {base n c j : Nat} {A : Option Addr} {init : List Pc} {z : Pc} (h : OwnP base w (.slice A n c) (init ++ [z])) (hj : j = init.length) :
    ∃ g, A = some ⟨g, 0, none⟩ ∧ base ≤ g ∧ g < w.heap.size ∧ (w.cell? ⟨g, j * 3, none⟩ = some (.int .i64 (z.keep : Int)) ∧ w.cell? ⟨g, j * 3 + 1, none⟩ = some (.int .i64 (z.drop : Int)) ∧ w.cell? ⟨g, j * 3 + 2, none⟩ = some (.string ⟨z.put.toArray⟩)) ∧
      (w.frozen? ⟨g, j * 3, none⟩ = false ∧ w.frozen? ⟨g, j * 3 + 1, none⟩ = false ∧ w.frozen? ⟨g, j * 3 + 2, none⟩ = false) := by
  have h' := h
  have hz : (init ++ [z])[j]? = some z := by rw [hj]; simp
  rcases h.2 with ⟨e, h0⟩ | ⟨g, cap, cur, e, hb, hg, hnc, hcm, hcs, _⟩
  · simp at h0
  · injection e with e1 e2 e3
    subst e1 e2 e3
    have hcell : ∀ i v, (cellsOf z)[i]? = some v → w.cell? ⟨g, j * 3 + i, none⟩ = some v := fun i v hi => by
      have := h'.cells (g := g) rfl _ _ (cells_at _ j z hz i v hi)
      have hadd : (⟨g, 0, none⟩ : Addr).add (j * 3 + i) = ⟨g, j * 3 + i, none⟩ := by unfold Addr.add; split <;> simp_all
      rwa [hadd] at this
    exact ⟨g, rfl, hb, (Array.getElem?_eq_some_iff.1 hg).1, ⟨hcell 0 _ rfl, hcell 1 _ rfl, hcell 2 _ rfl⟩, World.ownsRow.frozenAt h' _, World.ownsRow.frozenAt h' _, World.ownsRow.frozenAt h' _⟩
end Go.Proofs.Ytoeblaecldhcaaa.P5
/- The document's Norm; the program's fault; shells of the calls that draw nothing else. -/
namespace Go.Proofs.Ytoeblaecldhcaaa.P5
set_option linter.unusedVariables false
open Go.RowKit
set_option maxRecDepth 20000
open Ltx (Pc)

/-- what is wrong with an edit of a text of m bytes -/
def faultV (m : Nat) (xs : List IP) (l : List Pc) : Nat := if rightV xs = false then 2 else if m < Ltx.extent l then 50 else 0
theorem right_extent {l : List Pc} (h : rightV (l.map ipc) = true) : Ltx.extent l ≤ 10000000000 ∧ l.length ≤ 4096 := by
  unfold rightV at h
  simp only [Bool.and_eq_true, decide_eq_true_eq, List.length_map] at h
  obtain ⟨⟨h1, h2⟩, _⟩ := h
  have hall : ∀ p ∈ l, p.keep ≤ 1048576 ∧ p.drop ≤ 1048576 := fun p hp => by
    rw [List.all_eq_true] at h2
    have := h2 (ipc p) (List.mem_map_of_mem hp)
    unfold okB mayB ipc at this
    simp at this
    omega
  have hsum : ∀ l : List Pc, (∀ p ∈ l, p.keep ≤ 1048576 ∧ p.drop ≤ 1048576) → Ltx.extent l ≤ 2097152 * l.length := by
    intro l
    induction l with
    | nil => intro _; simp [Ltx.extent]
    | cons p r ih =>
      intro h
      have h1 := h p List.mem_cons_self
      have h2 := ih fun q hq => h q (List.mem_cons_of_mem _ hq)
      simp only [Ltx.extent, List.length_cons]
      omega
  have := hsum l hall
  exact ⟨by omega, h1⟩
set_option maxHeartbeats 2000000 in
theorem fault_any (w : World) (t : List UInt8) (A : Option Addr) (n c : Nat) (l : List Pc) (hx : PcsIn w A n (l.map ipc)) (hn : n ≤ maxLen) (ht : t.length ≤ 1000000000000) (hr : rightV (l.map ipc) = true) :
    Calls Try.prog 100 #[.string ⟨t.toArray⟩, .slice A n c] w fun e w' => e = .returned (.int .i64 (if t.length < Ltx.extent l then 50 else 0)) ∧ Below w.heap.size w w' := by
  have hx' := Lib.hid hx
  have hr' := Lib.hid hr
  have hlen := Lib.hid (show l.length = n by have := hx.1; simpa using this)
  have hex := (right_extent hr).1
  clear hx hr
  have hn' : (n : Int) ≤ 9223372036854775807 := by unfold maxLen at hn; omega
  go_enter Try.func100, Try.ntmps100
  go_wp2_with (go_at_call 43; have hh := right_any w A n c _ hx'.out hn; rw [hr'.out] at hh; refine hh.mono ?_; clear hh; rintro e w2 ⟨rfl, hb2⟩; have hb2' := Lib.hid hb2; clear hb2)
  go_loopw [5, 15] (fun s k wr => ∃ q : Nat, q ≤ n ∧ k = .int .i64 (q : Int) ∧ s = .int .i64 ((t.length : Int) - (Ltx.extent (l.take q) : Int)) ∧ Ltx.extent (l.take q) ≤ t.length ∧ Below w.heap.size w wr) (fun _ k _ => n - (intOf k).toNat)
  case atStart => exact ⟨0, Nat.zero_le _, rfl, by simp [Ltx.extent], by simp [Ltx.extent], hb2'.out⟩
  case round =>
    obtain ⟨q, hq, rfl, rfl, hs, hbel⟩ := hrel
    by_cases h1 : q < n
    · have h1I : (q : Int) < (n : Int) := by omega
      obtain ⟨ad, p, rfl, hpq, hlt, hp⟩ := (hx'.out.below hbel).pc h1
      obtain ⟨x1, x2, x3, x4, x5, x6, x7, x8⟩ := hp
      have hst := extent_take l q p hpq
      have hle := extent_le l (q + 1)
      obtain ⟨kp, dr, pu⟩ := p
      simp only [ipc] at *
      unfold maxLen at x5
      generalize Ltx.extent (l.take q) = s at *
      have hst' := Lib.hid hst
      have hle' := Lib.hid hle
      have hbel' := Lib.hid hbel
      have hb1 : s + kp + dr ≤ 10000000000 := by omega
      by_cases hf : s + kp + dr ≤ t.length
      · have hI : ¬ (t.length : Int) - (s : Int) - ((kp : Int) + (dr : Int)) < 0 := by omega
        clear hst hle hbel hpq
        go_wp2_with fail
        go_roundw
        case rel => exact ⟨q + 1, by omega, by go_num, congrArg (Value.int .i64) (by rw [hst'.out]; omega), by rw [hst'.out]; exact hf, hbel'.out.alloc hbel'.out.size _⟩
        case measure => simp [intOf]; omega
      · have hI : (t.length : Int) - (s : Int) - ((kp : Int) + (dr : Int)) < 0 := by omega
        have hv := Lib.hid (show t.length < Ltx.extent l by omega)
        clear hst hle hbel hpq
        go_wp2_with fail
        go_ret
        exact ⟨by first | rfl | (rw [if_pos hv.out]; rfl), hbel'.out.alloc hbel'.out.size _⟩
    · have hqn : q = n := by omega
      have h1I : ¬ (q : Int) < (n : Int) := by omega
      have hv := Lib.hid (show ¬ t.length < Ltx.extent l by rw [hqn, ← hlen.out, List.take_length] at hs; omega)
      have hbel' := Lib.hid hbel
      clear hs hbel hqn h1
      go_wp2_with fail
      go_ret
      exact ⟨by first | rfl | (rw [if_neg hv.out]; rfl), hbel'.out⟩
theorem fault_not (w : World) (t : List UInt8) (A : Option Addr) (n c : Nat) (xs : List IP) (hx : PcsIn w A n xs) (hn : n ≤ maxLen) (hr : rightV xs = false) :
    Calls Try.prog 100 #[.string ⟨t.toArray⟩, .slice A n c] w fun e w' => e = .returned (.int .i64 2) ∧ Below w.heap.size w w' := by
  have hx' := Lib.hid hx
  have hr' := Lib.hid hr
  clear hx hr
  go_enter Try.func100, Try.ntmps100
  go_wp2_with (go_at_call 43; have hh := right_any w A n c _ hx'.out hn; rw [hr'.out] at hh; refine hh.mono ?_; clear hh; rintro e w2 ⟨rfl, hb2⟩; have hb2' := Lib.hid hb2; clear hb2)
  go_ret
  exact ⟨rfl, hb2'.out⟩
end Go.Proofs.Ytoeblaecldhcaaa.P5
/- strings.Builder: WriteString, at a builder of the call's own. -/
namespace Go.Proofs.Ytoeblaecldhcaaa.P5
set_option linter.unusedVariables false
open Go.RowKit
set_option maxRecDepth 20000

/-- a builder at block b that holds bs; it stands on blocks of S -/
structure Bld (w : World) (S : Nat → Prop) (base b : Nat) (bs : List UInt8) : Prop where
  own : ∀ k, S k → base ≤ k ∧ k < w.heap.size
  here : S b
  dat : ∃ (p v : Value), (p = .pointer none ∨ p = .pointer (some ⟨b, 0, none⟩)) ∧ w.heap[b]? = some (.cells #[p, v] 114 (0, 0)) ∧ OwnB base w v bs ∧ ∀ k, v.ownBlock = some k → S k
theorem check_used (w : World) (b : Nat) (hc : w.cell? ⟨b, 0, none⟩ = some (.pointer (some ⟨b, 0, none⟩))) :
    Calls Try.prog 111 #[.pointer (some ⟨b, 0, none⟩)] w fun e w' => e = .returned (.tuple #[]) ∧ w = w' := by
  have hne := Lib.run_neq_ptr_same (P := Try.prog) w (tp := 111) (te := 114) (j := (Try.prog.info? 114).get!) ⟨b, 0, none⟩ Try.underlying111 (by kernel_rfl)
  go_enter Try.func111, Try.ntmps111
  go_wp2
  go_end0
  exact ⟨rfl, rfl⟩
theorem check_fresh (w : World) (b : Nat) (v : Value) (hb : w.heap[b]? = some (.cells #[.pointer none, v] 114 (0, 0))) :
    Calls Try.prog 111 #[.pointer (some ⟨b, 0, none⟩)] w fun e w' => e = .returned (.tuple #[]) ∧ w' = w.setCell ⟨b, 0, none⟩ (.pointer (some ⟨b, 0, none⟩)) := by
  have c0 := cell_of_row w b 0 _ _ _ hb
  have f0 := frozen_of_row w b 0 _ _ hb
  simp at c0
  have hsh : w.shape? b = some (114, 2) := by simp [World.shape?, hb]
  have hb' := Lib.hid hb
  clear hb
  go_enter Try.func111, Try.ntmps111
  go_wp2
  rw [Lib.run_to_unsafe w ⟨b, 0, none⟩ Try.underlying111 Try.underlying130 (j := (Try.prog.info? 114).get!) (t := 114) (by kernel_rfl) (by decide +kernel) hsh (Nat.zero_lt_succ 1)]
  simp only [Result.andThen]
  rw [Oper.upon_value]
  go_wp2
  rw [run_callFunc_extern Try.func113 (by kernel_rfl) (by kernel_rfl) (by kernel_rfl) (e := Extern.AbiNoEscape.same) (by kernel_rfl)]
  rw [Lib.run_noEscape]
  simp only [Result.andThen]
  rw [Oper.upon_value]
  go_wp2
  rw [Lib.run_from_unsafe w ⟨b, 0, none⟩ Try.underlying130 Try.underlying111 (j := (Try.prog.info? 114).get!) (u := 114) (by kernel_rfl) hsh (by kernel_rfl)]
  simp only [Result.andThen]
  rw [Oper.upon_value]
  go_wp2
  go_end0
  exact ⟨rfl, rfl⟩
/-- a builder whose address it knows -/
def BldU (w : World) (S : Nat → Prop) (base b : Nat) (v : Value) (bs : List UInt8) : Prop := w.heap[b]? = some (.cells #[.pointer (some ⟨b, 0, none⟩), v] 114 (0, 0)) ∧ OwnB base w v bs ∧ ∀ k, v.ownBlock = some k → S k
theorem check_any {w : World} {S : Nat → Prop} {base b : Nat} {bs : List UInt8} (h : Bld w S base b bs) :
    Calls Try.prog 111 #[.pointer (some ⟨b, 0, none⟩)] w fun e w' => e = .returned (.tuple #[]) ∧ (∃ v, BldU w' S base b v bs) ∧ FrX S w w' ∧ w'.heap.size = w.heap.size := by
  obtain ⟨h1, h2, p, v, hp, hh, hown, hs⟩ := h
  rcases hp with rfl | rfl
  · refine (check_fresh w b v hh).mono ?_
    rintro e w' ⟨rfl, rfl⟩
    have hset := heap_setCell_same w b 0 _ _ (.pointer (some ⟨b, 0, none⟩)) hh
    refine ⟨rfl, ⟨v, hset, own_kept hown fun k hk => heap_setCell_other w ⟨b, 0, none⟩ k _ (fun e => by have e2 : k = b := e; subst e2; exact own_ne hown hh (by decide) hk), hs⟩, (FrX.refl S w).setCell h2, by simp⟩
  · refine (check_used w b (cell_of_row w b 0 _ _ _ hh)).mono ?_
    rintro e w' ⟨rfl, rfl⟩
    exact ⟨rfl, ⟨v, hh, hown, hs⟩, FrX.refl S w, rfl⟩
set_option maxHeartbeats 1000000 in
theorem write_any {w : World} {S : Nat → Prop} {base b : Nat} {bs : List UInt8} (h : Bld w S base b bs) (t : List UInt8) (hlen : bs.length + t.length ≤ 100000000) (hbase : base ≤ w.heap.size) :
    Calls Try.prog 101 #[.pointer (some ⟨b, 0, none⟩), .string ⟨t.toArray⟩] w fun e w' => e = .returned (.tuple #[.int .i64 (t.length : Int), .nilIface]) ∧ Bld w' (Also S w w') base b (bs ++ t) ∧ FrX S w w' := by
  have h' := Lib.hid h
  have hown := Lib.hid h.own
  have hhere := h.here
  have hlt := (h.own b h.here).2
  have htl : (⟨t.toArray⟩ : ByteArray).size = t.length := rfl
  have htl' := Lib.hid htl
  clear h htl
  go_enter Try.func101, Try.ntmps101
  go_wp2_with (first
    | (go_at_call 111; refine (check_any h'.out).mono ?_; rintro e w2 ⟨rfl, ⟨v, hu⟩, hF, hsz⟩; obtain ⟨hh, ho, hs⟩ := hu; obtain ⟨A, n, c, rfl, -, -, -, -, -⟩ := ho.shape_n (by unfold maxLen; omega); have c1 := cell_of_row w2 b 1 _ _ _ hh; simp at c1; have hh' := Lib.hid hh; have ho' := Lib.hid ho; have hs' := Lib.hid hs; have hF' := Lib.hid hF; have hsz' := Lib.hid hsz; clear hh ho hs hF hsz)
    | (at_builtin; refine wpList_append_text rfl (.tmp 12) (.tmp 13) rfl base _ bs t rfl ho'.out rfl hlen (by rw [hsz'.out]; exact hbase) ?_; intro v' w3 ho3 hg3 hat3; obtain ⟨A', n', c', rfl, -, -, -, -, -⟩ := ho3.shape_n (by rw [List.length_append]; unfold maxLen; omega); have hq := (hg3.block b (by rw [hsz'.out]; exact hlt) (fun e => own_ne ho'.out hh'.out (by decide) e.symm)).trans hh'.out; have c13 := cell_of_row w3 b 1 _ _ _ hq; have f13 := frozen_of_row w3 b 1 _ _ hq; simp at c13; have hq' := Lib.hid hq; have ho3' := Lib.hid ho3; have hg3' := Lib.hid hg3; have hat3' := Lib.hid hat3; clear hq ho3 hg3 hat3))
  go_ret2
  have hset := heap_setCell_same w3 b 1 _ _ (.slice A' n' c') hq'.out
  have hot : ∀ k, k ≠ b → (w3.setCell ⟨b, 1, none⟩ (.slice A' n' c')).heap[k]? = w3.heap[k]? := fun k hk => heap_setCell_other w3 ⟨b, 1, none⟩ k _ hk
  have hsz4 : (w3.setCell ⟨b, 1, none⟩ (.slice A' n' c')).heap.size = w3.heap.size := by simp
  have hF3 : FrX S w2 w3 := FrX.of_grown hg3'.out hs'.out
  have hF4 : FrX S w w3 := hF'.out.trans hF3 (fun k hk => .inl hk)
  have hs3 := hF4.size
  have hlo := World.ownsRow.lt ho3'.out
  have hin : ∀ k, Value.ownBlock (.slice A' n' c') = some k → Also S w (w3.setCell ⟨b, 1, none⟩ (.slice A' n' c')) k := fun k hk => by
    rcases hat3'.out with e | e
    · exact .inl (hs'.out k (e ▸ hk))
    · rw [hk] at e
      injection e with e
      have := (hlo k hk).2
      have := hsz'.out
      exact .inr ⟨by omega, by omega⟩
  refine ⟨by first | rfl | rw [← htl'.out]; rfl, ⟨fun k hk => ?_, .inl hhere, _, _, .inr rfl, hset, own_kept ho3'.out fun k hk => hot k (fun e => own_ne ho3'.out hq'.out (by decide) (e ▸ hk)), hin⟩, hF4.setCell hhere⟩
  rcases hk with hk | hk
  · have := hown.out k hk
    omega
  · omega
/-- as the shelf has it -/
theorem Bld.shelf {w : World} {S : Nat → Prop} {base b : Nat} {bs : List UInt8} (h : Bld w S base b bs) : Lib.IsBuilder 114 5 base b (Lib.byteCells bs) w := by
  obtain ⟨h1, h2, p, v, hp, hh, hown, hs⟩ := h
  have hl : (Lib.byteCells bs).length = bs.length := Lib.byteCells_length bs
  have ho : w.ownsRow base 5 1 v (Lib.byteCells bs).length (Lib.byteCells bs) := by rw [hl]; exact hown
  have hne := own_ne hown hh (show 5 ≠ 114 by decide)
  rcases hp with rfl | rfl
  · exact .inl ⟨(h1 b h2).1, v, hh, ho, hne⟩
  · exact .inr ⟨(h1 b h2).1, v, hh, ho, hne⟩
end Go.Proofs.Ytoeblaecldhcaaa.P5
/- strings.Builder's String, as the library's shelf has it, laid over this program. -/
namespace Go.Proofs
open Go.Shelf
def Try.lays169_ren : Go.Shelf.Ren := ⟨fun | 169 => 102 | n => n, fun | 70 => 111 | 9 => 9 | 0 => 0 | 72 => 114 | 37 => 112 | 127 => 127 | 3 => 3 | 5 => 5 | n => n, fun | n => n⟩
theorem Try.lays169 : Go.Proofs.Lays.n169 Try.prog Try.lays169_ren := {
  mixed := by kernel_rfl
  f169 := Try.func102.trans (congrArg some (by kernel_rfl))
  t0 := Try.underlying0
  a0 := Try.isAgg0
  z0 := Try.sizeOf0
  v0 := Try.zeroValue0
  t3 := Try.underlying3
  a3 := Try.isAgg3
  z3 := Try.sizeOf3
  v3 := Try.zeroValue3
  t9 := Try.underlying9
  a9 := Try.isAgg9
  z9 := Try.sizeOf9
  v9 := Try.zeroValue9
  t37 := Try.underlying112
  a37 := Try.isAgg112
  z37 := Try.sizeOf112
  v37 := Try.zeroValue112
  t70 := Try.underlying111
  a70 := Try.isAgg111
  z70 := Try.sizeOf111
  v70 := Try.zeroValue111
  t72 := Try.underlying114
  a72 := Try.isAgg114
  z72 := Try.sizeOf114
  v72 := Try.zeroValue114
  t127 := Try.underlying127
  a127 := Try.isAgg127
  z127 := Try.sizeOf127
  v127 := Try.zeroValue127 }
theorem Try.Builder_Extra_169 : Builder.Extra Try.prog Try.lays169_ren := {
  sizeBuilder := by kernel_rfl
  liesBuilder := by kernel_rfl
  t5 := Try.underlying5
  a5 := Try.isAgg5
  z5 := Try.sizeOf5
  v5 := Try.zeroValue5
  infoByte := by kernel_rfl
  cellsByte := by kernel_rfl
  sizeByte := by kernel_rfl
  neB5 := by decide }
end Go.Proofs
namespace Go.Proofs.Ytoeblaecldhcaaa.P5
set_option linter.unusedVariables false
open Go.RowKit
theorem bstring_any {w : World} {S : Nat → Prop} {base b : Nat} {bs : List UInt8} (h : Bld w S base b bs) (hb : base ≤ w.heap.size) :
    Calls Try.prog 102 #[.pointer (some ⟨b, 0, none⟩)] w fun e w' => e = .returned (.string ⟨bs.toArray⟩) ∧ Below base w w' :=
  Any.Builder_String_any Try.lays169 Try.Builder_Extra_169 base b bs w h.shelf hb
end Go.Proofs.Ytoeblaecldhcaaa.P5
/- A text, edited: the program's. -/
namespace Go.Proofs.Ytoeblaecldhcaaa.P5
set_option linter.unusedVariables false
open Go.RowKit
set_option maxRecDepth 20000
open Ltx (Pc)

theorem emit_take (t : List UInt8) (l : List Pc) (q : Nat) (p : Pc) (h : l[q]? = some p) : Ltx.emit t (l.take (q + 1)) = Ltx.emit t (l.take q) ++ (t.drop (Ltx.extent (l.take q))).take p.keep ++ p.put := by
  rw [List.take_add_one, h, Ltx.emit_append]
  simp [Ltx.emit, List.append_assoc]
theorem emit_len (t : List UInt8) (l : List Pc) : (Ltx.emit t l).length ≤ t.length + Ltx.puts l := by
  have h1 := Ltx.apply_emit l t
  have h2 := Ltx.apply_len l t
  rw [h1, List.length_append] at h2
  omega
theorem puts_le (l : List Pc) (q : Nat) : Ltx.puts (l.take q) ≤ Ltx.puts l := by
  conv => rhs; rw [← List.take_append_drop q l, Ltx.puts_append]
  omega
theorem right_puts {l : List Pc} (h : rightV (l.map ipc) = true) : Ltx.puts l ≤ 1048576 := by
  have e : ∀ l : List Pc, putsI (l.map ipc) = Ltx.puts l := fun l => by
    induction l with
    | nil => rfl
    | cons p r ih => rw [List.map_cons, putsI, ih]; rfl
  unfold rightV at h
  simp only [Bool.and_eq_true, decide_eq_true_eq] at h
  rw [e] at h
  exact h.2
/-- s[:k], s[k:] of a text -/
theorem Bld.below {w w' : World} {S : Nat → Prop} {base b : Nat} {bs : List UInt8} (h : Bld w S base b bs) (hb : Below w.heap.size w w') : Bld w' S base b bs := by
  obtain ⟨h1, h2, p, v, hp, hh, hown, hs⟩ := h
  exact ⟨fun k hk => ⟨(h1 k hk).1, Nat.lt_of_lt_of_le (h1 k hk).2 hb.size⟩, h2, p, v, hp, (hb.block b (h1 b h2).2).trans hh, own_kept hown fun k hk => hb.block k (h1 k (hs k hk)).2, hs⟩
theorem Bld.new {w : World} {base : Nat} (hb : base ≤ w.heap.size) : Bld (w.alloc (.cells #[.pointer none, .slice none 0 0] 114)) (fun k => k = w.heap.size) base w.heap.size [] :=
  ⟨fun k hk => by subst hk; exact ⟨hb, by simp⟩, rfl, .pointer none, .slice none 0 0, .inl rfl, heap_alloc_new w _, OwnB.nil_ _ _, fun k hk => by cases hk⟩
theorem ext_take (bs : List UInt8) (k : Nat) : (⟨bs.toArray⟩ : ByteArray).extract 0 k = ⟨(bs.take k).toArray⟩ := by
  apply ByteArray.ext
  simp
theorem ext_drop (bs : List UInt8) (k : Nat) : (⟨bs.toArray⟩ : ByteArray).extract k bs.length = ⟨(bs.drop k).toArray⟩ := by
  apply ByteArray.ext
  simp
  exact List.take_of_length_le (by simp)
set_option maxHeartbeats 2000000 in
theorem apply_ok (w : World) (t : List UInt8) (A : Option Addr) (n c : Nat) (l : List Pc) (hx : PcsIn w A n (l.map ipc)) (hn : n ≤ maxLen) (ht : t.length ≤ 10000000) (hr : rightV (l.map ipc) = true) (hf : Ltx.extent l ≤ t.length) :
    Calls Try.prog 84 #[.string ⟨t.toArray⟩, .slice A n c] w fun e w' => e = .returned (.tuple #[.string ⟨(Ltx.apply t l).toArray⟩, .int .i64 0]) ∧ Below w.heap.size w w' := by
  have hx' := Lib.hid hx
  have hr' := Lib.hid hr
  have hlen := Lib.hid (show l.length = n by have := hx.1; simpa using this)
  have hpu := right_puts hr
  have hf' := Lib.hid hf
  clear hx hr
  have hn' : (n : Int) ≤ 9223372036854775807 := by unfold maxLen at hn; omega
  go_enter Try.func84, Try.ntmps84
  go_wp2_with (go_at_call 100; have hh := fault_any w t A n c l hx'.out hn (by omega) hr'.out; rw [if_neg (show ¬ t.length < Ltx.extent l by omega)] at hh; refine hh.mono ?_; clear hh; rintro e w2 ⟨rfl, hb2⟩; have hb2' := Lib.hid hb2; have hs2 := hb2.size; clear hb2)
  go_loopw [0, 18] (fun s k wr => ∃ (q : Nat) (S : Nat → Prop), q ≤ n ∧ k = .int .i64 (q : Int) ∧ s = .string ⟨(t.drop (Ltx.extent (l.take q))).toArray⟩ ∧ Bld wr S w.heap.size w2.heap.size (Ltx.emit t (l.take q)) ∧ Below w.heap.size w wr) (fun _ k _ => n - (intOf k).toNat)
  case atStart => exact ⟨0, _, Nat.zero_le _, rfl, by simp [Ltx.extent], Bld.new hs2, hb2'.out.alloc hs2 _⟩
  case round =>
    obtain ⟨q, S, hq, rfl, rfl, hd, hbel⟩ := hrel
    by_cases h1 : q < n
    · have h1I : (q : Int) < (n : Int) := by omega
      obtain ⟨ad, p, rfl, hpq, hlt, hp⟩ := (hx'.out.below hbel).pc h1
      obtain ⟨x1, x2, x3, x4, x5, x6, x7, x8⟩ := hp
      have hex := extent_take l q p hpq
      have hele := extent_le l (q + 1)
      have hem := Lib.hid (emit_take t l q p hpq)
      have hpl := puts_le l (q + 1)
      have hel := emit_len t (l.take (q + 1))
      rw [hem.out, List.length_append, List.length_append] at hel
      have hbs := hbel.size
      obtain ⟨kp, dr, pu⟩ := p
      simp only [ipc] at *
      have hdl : (t.drop (Ltx.extent (l.take q))).length = t.length - Ltx.extent (l.take q) := by rw [List.length_drop]
      have hkl : kp + dr ≤ (t.drop (Ltx.extent (l.take q))).length := by omega
      have hdd := Lib.hid (show (t.drop (Ltx.extent (l.take q))).drop (kp + dr) = t.drop (Ltx.extent (l.take (q + 1))) by rw [List.drop_drop, hex, Nat.add_assoc])
      obtain ⟨bs, hbs0⟩ : ∃ bs, bs = t.drop (Ltx.extent (l.take q)) := ⟨_, rfl⟩
      rw [← hbs0] at hem hkl hdd hdl hel ⊢
      have hbl : bs.length ≤ 10000000 := by omega
      have hb1 : (Ltx.emit t (l.take q)).length + (bs.take kp).length ≤ 100000000 := by omega
      have hb2 := Lib.hid (show (Ltx.emit t (l.take q) ++ bs.take kp).length + pu.length ≤ 100000000 by rw [List.length_append]; omega)
      have hSlt := Lib.hid hd.own
      have hd1 := Lib.hid (fun o => hd.below ((Below.refl wr.heap.size wr).alloc (Nat.le_refl _) o))
      have hbel' := Lib.hid hbel
      have hsz0' := Lib.hid (show ∀ o, (wr.alloc o).heap.size = wr.heap.size + 1 from fun o => by simp)
      have hI1 : (kp : Int) ≤ (bs.length : Int) := by omega
      have hI2 : (kp : Int) + (dr : Int) ≤ (bs.length : Int) := by omega
      clear hd hbel hpq hbs0 hex hele hpl hel hdl x1 x2 x3 x4
      unfold maxLen at x5
      go_wp2_with (first
        | (go_at_call 101; rw [ext_take]; refine (write_any (hd1.out _) (bs.take kp) hb1 (by rw [hsz0'.out]; omega)).mono ?_; rintro e w3 ⟨rfl, hd3, hF3⟩; have hx3 := hF3.cells (heap_alloc_new wr _) (fun e => by have := (hSlt.out _ e).2; omega); have q0 := cell_of_row w3 wr.heap.size 0 _ _ _ hx3; have q1 := cell_of_row w3 wr.heap.size 1 _ _ _ hx3; have q2 := cell_of_row w3 wr.heap.size 2 _ _ _ hx3; simp at q0 q1 q2; have hx3' := Lib.hid hx3; have hd3' := Lib.hid hd3; have hF3' := Lib.hid hF3; have hs3 := hF3.size; rw [hsz0'.out] at hs3; clear hx3 hd3 hF3)
        | (go_at_call 101; refine (write_any hd3'.out pu hb2.out (by omega)).mono ?_; rintro e w4 ⟨rfl, hd4, hF4⟩; have hx4 := hF4.cells hx3'.out (fun e => by rcases e with e | e; (have := (hSlt.out _ e).2; omega); (have := e.1; rw [hsz0'.out] at this; omega)); have r0 := cell_of_row w4 wr.heap.size 0 _ _ _ hx4; have r1 := cell_of_row w4 wr.heap.size 1 _ _ _ hx4; simp at r0 r1; have hd4' := Lib.hid hd4; have hF4' := Lib.hid hF4; have hs4 := hF4.size; clear hx4 hd4 hF4))
      go_roundw
      case rel =>
        have hd5 := hd4'.out
        rw [← hem.out] at hd5
        refine ⟨q + 1, _, by omega, by go_num, ?_, hd5, ?_⟩
        · rw [← hdd.out]
          first | rfl | exact congrArg Value.string (ext_drop _ _)
        · have e1 : Below w.heap.size w (wr.alloc (.cells #[.int .i64 (kp : Int), .int .i64 (dr : Int), .string ⟨pu.toArray⟩] 53)) := hbel'.out.alloc hbs _
          have e2 := e1.trans (hF3'.out.below (B := w.heap.size) (fun k hk => (hSlt.out k hk).1) (by rw [hsz0'.out]; omega))
          exact e2.trans (hF4'.out.below (B := w.heap.size) (fun k hk => (hd3'.out.own k hk).1) (by omega))
      case measure => simp [intOf]; omega
    · have hqn : q = n := by omega
      have h1I : ¬ (q : Int) < (n : Int) := by omega
      have hlt : l.take q = l := by rw [hqn, ← hlen.out, List.take_length]
      rw [hlt] at hd ⊢
      have hel := emit_len t l
      have hd' := Lib.hid hd
      have hbel' := Lib.hid hbel
      have hbs := hbel.size
      have hap := Lib.hid (Ltx.apply_emit l t)
      have hb2 := Lib.hid (show (Ltx.emit t l).length + (t.drop (Ltx.extent l)).length ≤ 100000000 by rw [List.length_drop]; omega)
      clear hd hbel hqn h1 hlt hel
      generalize t.drop (Ltx.extent l) = bs at *
      go_wp2_with (first
        | (go_at_call 101; refine (write_any hd'.out bs hb2.out hbs).mono ?_; rintro e w3 ⟨rfl, hd3, hF3⟩; have hd3' := Lib.hid hd3; have hF3' := Lib.hid hF3; have hs3 := hF3.size; clear hd3 hF3)
        | (go_at_call 102; refine (bstring_any hd3'.out (by omega)).mono ?_; rintro e w4 ⟨rfl, hb4⟩; have hb4' := Lib.hid hb4; clear hb4))
      go_ret2
      exact ⟨by rw [hap.out]; rfl, (hbel'.out.trans (hF3'.out.below (B := w.heap.size) (fun k hk => (hd'.out.own k hk).1) hbs)).trans hb4'.out⟩
set_option maxHeartbeats 1000000 in
theorem apply_far (w : World) (t : List UInt8) (A : Option Addr) (n c : Nat) (l : List Pc) (hx : PcsIn w A n (l.map ipc)) (hn : n ≤ maxLen) (ht : t.length ≤ 10000000) (hr : rightV (l.map ipc) = true) (hf : t.length < Ltx.extent l) :
    Calls Try.prog 84 #[.string ⟨t.toArray⟩, .slice A n c] w fun e w' => e = .returned (.tuple #[.string ⟨#[]⟩, .int .i64 50]) ∧ Below w.heap.size w w' := by
  have hx' := Lib.hid hx
  have hr' := Lib.hid hr
  have hf' := Lib.hid hf
  clear hx hr hf
  go_enter Try.func84, Try.ntmps84
  go_wp2_with (go_at_call 100; have hh := fault_any w t A n c l hx'.out hn (by omega) hr'.out; rw [if_pos hf'.out] at hh; refine hh.mono ?_; clear hh; rintro e w2 ⟨rfl, hb2⟩; have hb2' := Lib.hid hb2; clear hb2)
  go_ret2
  exact ⟨rfl, hb2'.out⟩
set_option maxHeartbeats 1000000 in
theorem apply_not (w : World) (t : List UInt8) (A : Option Addr) (n c : Nat) (xs : List IP) (hx : PcsIn w A n xs) (hn : n ≤ maxLen) (hr : rightV xs = false) :
    Calls Try.prog 84 #[.string ⟨t.toArray⟩, .slice A n c] w fun e w' => e = .returned (.tuple #[.string ⟨#[]⟩, .int .i64 2]) ∧ Below w.heap.size w w' := by
  have hx' := Lib.hid hx
  have hr' := Lib.hid hr
  clear hx hr
  go_enter Try.func84, Try.ntmps84
  go_wp2_with (go_at_call 100; refine (fault_not w t A n c xs hx'.out hn hr'.out).mono ?_; rintro e w2 ⟨rfl, hb2⟩; have hb2' := Lib.hid hb2; clear hb2)
  go_ret2
  exact ⟨rfl, hb2'.out⟩
end Go.Proofs.Ytoeblaecldhcaaa.P5
/- A text, edited: the document's. -/
namespace Go.Proofs.Ytoeblaecldhcaaa.P5
set_option linter.unusedVariables false
open Go.RowKit
set_option maxRecDepth 20000
open Ltx (Pc)

set_option maxHeartbeats 2000000 in
theorem rapply_ok (w : World) (t : List UInt8) (A : Option Addr) (n c : Nat) (l : List Pc) (hx : PcsIn w A n (l.map ipc)) (hn : n ≤ maxLen) (ht : t.length ≤ 10000000) (hr : rightV (l.map ipc) = true) (hf : Ltx.extent l ≤ t.length) :
    Calls Try.prog 52 #[.string ⟨t.toArray⟩, .slice A n c] w fun e w' => e = .returned (.tuple #[.string ⟨(Ltx.apply t l).toArray⟩, .int .i64 0]) ∧ Below w.heap.size w w' := by
  have hx' := Lib.hid hx
  have hr' := Lib.hid hr
  have hlen := Lib.hid (show l.length = n by have := hx.1; simpa using this)
  have hpu := right_puts hr
  have hex0 := (right_extent hr).1
  have hfI : ¬ (t.length : Int) < (Ltx.extent l : Int) := by omega
  clear hx hr
  have hn' : (n : Int) ≤ 9223372036854775807 := by unfold maxLen at hn; omega
  obtain ⟨E, hE⟩ : ∃ E, E = Ltx.extent l := ⟨_, rfl⟩
  have hE' := Lib.hid hE
  rw [← hE] at hfI hf hex0
  clear hE
  go_enter Try.func52, Try.ntmps52
  go_wp2_with (first
    | (go_at_call 46; have hh := rright_any w A n c _ hx'.out hn; rw [hr'.out] at hh; refine hh.mono ?_; clear hh; rintro e w2 ⟨rfl, hb2⟩; have hb2' := Lib.hid hb2; have hs2 := hb2.size; clear hb2)
    | (go_at_call 79; have hh := extent_any w2 A n c l (hx'.out.below hb2'.out) hn (by rw [← hE'.out]; omega); rw [← hE'.out] at hh; refine hh.mono ?_; clear hh; rintro e w3 ⟨rfl, hb3⟩; have hb3' := Lib.hid (hb2'.out.trans (hb3.mono hs2)); clear hb3))
  go_loopw [0, 6, 7] (fun s o k wr => ∃ (q : Nat), q ≤ n ∧ k = .int .i64 (q : Int) ∧ s = .string ⟨(t.drop (Ltx.extent (l.take q))).toArray⟩ ∧ o = .string ⟨(Ltx.emit t (l.take q)).toArray⟩ ∧ Below w.heap.size w wr) (fun _ _ k _ => n - (intOf k).toNat)
  case atStart => exact ⟨0, Nat.zero_le _, rfl, by simp [Ltx.extent], rfl, hb3'.out⟩
  case round =>
    obtain ⟨q, hq, rfl, rfl, rfl, hbel⟩ := hrel
    by_cases h1 : q < n
    · have h1I : (q : Int) < (n : Int) := by omega
      obtain ⟨ad, p, rfl, hpq, hlt, hp⟩ := (hx'.out.below hbel).pc h1
      obtain ⟨x1, x2, x3, x4, x5, x6, x7, x8⟩ := hp
      have hex := extent_take l q p hpq
      have hele := extent_le l (q + 1)
      rw [← hE'.out] at hele
      have hem := Lib.hid (emit_take t l q p hpq)
      have hpl := puts_le l (q + 1)
      have hel := emit_len t (l.take (q + 1))
      rw [hem.out, List.length_append, List.length_append] at hel
      have hbs := hbel.size
      obtain ⟨kp, dr, pu⟩ := p
      simp only [ipc] at *
      have hdl : (t.drop (Ltx.extent (l.take q))).length = t.length - Ltx.extent (l.take q) := by rw [List.length_drop]
      have hkl : kp + dr ≤ (t.drop (Ltx.extent (l.take q))).length := by omega
      have hdd := Lib.hid (show (t.drop (Ltx.extent (l.take q))).drop (kp + dr) = t.drop (Ltx.extent (l.take (q + 1))) by rw [List.drop_drop, hex, Nat.add_assoc])
      obtain ⟨bs, hbs0⟩ : ∃ bs, bs = t.drop (Ltx.extent (l.take q)) := ⟨_, rfl⟩
      rw [← hbs0] at hem hkl hdd hdl hel ⊢
      have hbl : bs.length ≤ 10000000 := by omega
      have hlt2 : (bs.take kp).length = kp := by rw [List.length_take]; omega
      rw [hlt2] at hel
      obtain ⟨em, hem0⟩ : ∃ em, em = Ltx.emit t (l.take q) := ⟨_, rfl⟩
      rw [← hem0] at hem hel ⊢
      have hbel' := Lib.hid hbel
      have hI1 : (kp : Int) ≤ (bs.length : Int) := by omega
      have hI2 : (kp : Int) + (dr : Int) ≤ (bs.length : Int) := by omega
      have hIe : em.length + kp + pu.length ≤ 20000000 := by omega
      clear hbel hpq hbs0 hex hele hpl hel hdl x1 x2 x3 x4 hem0 hlt2
      unfold maxLen at x5
      go_wp2_with (fail)
      go_quiet (fail)
      go_wp2_with fail
      go_quiet (fail)
      go_wp2_with fail
      go_roundw
      case rel =>
        refine ⟨q + 1, by omega, by go_num, ?_, ?_, draws hbel'.out _⟩
        · rw [← hdd.out]
          first | rfl | exact congrArg Value.string (ext_drop _ _)
        · rw [hem.out]
          first | rfl | (simp only [ext_take, bcat])
      case measure => simp [intOf]; omega
    · have hqn : q = n := by omega
      have h1I : ¬ (q : Int) < (n : Int) := by omega
      have hlt : l.take q = l := by rw [hqn, ← hlen.out, List.take_length]
      rw [hlt] at ⊢
      have hel := emit_len t l
      have hbel' := Lib.hid hbel
      have hap := Lib.hid (Ltx.apply_emit l t)
      have hbl : (t.drop (Ltx.extent l)).length ≤ 10000000 := by rw [List.length_drop]; omega
      clear hbel hqn h1 hlt
      generalize t.drop (Ltx.extent l) = bs at *
      generalize Ltx.emit t l = em at *
      have hIe : em.length ≤ 20000000 := by omega
      clear hel
      go_wp2_with fail
      go_ret2
      exact ⟨by rw [hap.out]; first | rfl | (simp only [bcat]; rfl), hbel'.out⟩
set_option maxHeartbeats 1000000 in
theorem rapply_far (w : World) (t : List UInt8) (A : Option Addr) (n c : Nat) (l : List Pc) (hx : PcsIn w A n (l.map ipc)) (hn : n ≤ maxLen) (ht : t.length ≤ 10000000) (hr : rightV (l.map ipc) = true) (hf : t.length < Ltx.extent l) :
    Calls Try.prog 52 #[.string ⟨t.toArray⟩, .slice A n c] w fun e w' => e = .returned (.tuple #[.string ⟨#[]⟩, .int .i64 50]) ∧ Below w.heap.size w w' := by
  have hx' := Lib.hid hx
  have hr' := Lib.hid hr
  have hex0 := (right_extent hr).1
  have hfI : (t.length : Int) < (Ltx.extent l : Int) := by omega
  clear hx hr
  obtain ⟨E, hE⟩ : ∃ E, E = Ltx.extent l := ⟨_, rfl⟩
  have hE' := Lib.hid hE
  rw [← hE] at hfI hf hex0
  clear hE
  go_enter Try.func52, Try.ntmps52
  go_wp2_with (first
    | (go_at_call 46; have hh := rright_any w A n c _ hx'.out hn; rw [hr'.out] at hh; refine hh.mono ?_; clear hh; rintro e w2 ⟨rfl, hb2⟩; have hb2' := Lib.hid hb2; have hs2 := hb2.size; clear hb2)
    | (go_at_call 79; have hh := extent_any w2 A n c l (hx'.out.below hb2'.out) hn (by rw [← hE'.out]; omega); rw [← hE'.out] at hh; refine hh.mono ?_; clear hh; rintro e w3 ⟨rfl, hb3⟩; have hb3' := Lib.hid (hb2'.out.trans (hb3.mono hs2)); clear hb3))
  go_ret2
  exact ⟨rfl, hb3'.out⟩
set_option maxHeartbeats 1000000 in
theorem rapply_not (w : World) (t : List UInt8) (A : Option Addr) (n c : Nat) (xs : List IP) (hx : PcsIn w A n xs) (hn : n ≤ maxLen) (hr : rightV xs = false) :
    Calls Try.prog 52 #[.string ⟨t.toArray⟩, .slice A n c] w fun e w' => e = .returned (.tuple #[.string ⟨#[]⟩, .int .i64 2]) ∧ Below w.heap.size w w' := by
  have hx' := Lib.hid hx
  have hr' := Lib.hid hr
  clear hx hr
  go_enter Try.func52, Try.ntmps52
  go_wp2_with (go_at_call 46; have hh := rright_any w A n c _ hx'.out hn; rw [hr'.out] at hh; refine hh.mono ?_; clear hh; rintro e w2 ⟨rfl, hb2⟩; have hb2' := Lib.hid hb2; clear hb2)
  go_ret2
  exact ⟨rfl, hb2'.out⟩
end Go.Proofs.Ytoeblaecldhcaaa.P5
/- Words for memory that holds numbers: a slice reads as numbers, a row of the call's own. -/
namespace Go.Proofs.Ytoeblaecldhcaaa.P4
set_option linter.unusedVariables false
open Go.RowKit
set_option maxRecDepth 20000

/-- a slice of n numbers at A reads as xs -/
def Its (w : World) (A : Option Addr) (n : Nat) (xs : List Int) : Prop :=
  xs.length = n ∧ ∀ k x, xs[k]? = some x → ∃ ad : Addr, A = some ad ∧ ad.block < w.heap.size ∧ w.cell? (ad.add k) = some (.int .i64 x)
/-- numbers of 64 bits -/
def Fit (xs : List Int) : Prop := ∀ x ∈ xs, -9223372036854775808 ≤ x ∧ x ≤ 9223372036854775807
theorem block_add (a : Addr) (k : Nat) : (a.add k).block = a.block := by unfold Addr.add; split <;> rfl
theorem Its.below {w w' : World} {A : Option Addr} {n : Nat} {xs : List Int} (h : Its w A n xs) (hb : Below w.heap.size w w') : Its w' A n xs := by
  refine ⟨h.1, fun k c hk => ?_⟩
  obtain ⟨ad, e, hlt, hc⟩ := h.2 k c hk
  exact ⟨ad, e, Nat.lt_of_lt_of_le hlt hb.size, (hb.cell (p := ad.add k) (by rw [block_add]; exact hlt)).trans hc⟩
theorem Its.at_ {w : World} {A : Option Addr} {n k : Nat} {xs : List Int} (h : Its w A n xs) (hk : k < n) :
    ∃ (ad : Addr) (x : Int), A = some ad ∧ xs[k]? = some x ∧ w.cell? (ad.add k) = some (.int .i64 x) := by
  have hl : k < xs.length := by rw [h.1]; exact hk
  have hg : xs[k]? = some xs[k] := List.getElem?_eq_getElem hl
  obtain ⟨ad, e, _, hc⟩ := h.2 k _ hg
  exact ⟨ad, _, e, hg, hc⟩
theorem draws {B : Nat} {a w : World} (h : Below B a w) (n : Nat) : Below B a (w.drewN n) := ⟨h.os, h.tape, h.output, h.size, h.block⟩
theorem Its.drewN {w : World} {A : Option Addr} {n : Nat} {xs : List Int} (h : Its w A n xs) (k : Nat) : Its (w.drewN k) A n xs := h.below (draws (Below.refl _ _) k)
theorem Its.none_ (w : World) : Its w none 0 [] := ⟨rfl, fun k c h => by simp at h⟩
theorem Its.none_nil {w : World} {n : Nat} {xs : List Int} (h : Its w none n xs) : xs = [] := by
  cases xs with
  | nil => rfl
  | cons c r =>
    obtain ⟨ad, e, _⟩ := h.2 0 c rfl
    cases e
theorem Its.upto {w : World} {A : Option Addr} {n q : Nat} {xs : List Int} (h : Its w A n xs) (hq : q ≤ n) : Its w A q (xs.take q) := by
  refine ⟨by rw [List.length_take, h.1]; omega, fun k c hk => ?_⟩
  rw [List.getElem?_take] at hk
  split at hk
  · exact h.2 k c hk
  · cases hk
theorem add_add (a : Addr) (i j : Nat) : (a.add i).add j = a.add (i + j) := by
  unfold Addr.add
  by_cases hi : i = 0
  · simp [hi]
  · by_cases hj : j = 0
    · simp [hi, hj]
    · simp [hi, hj, Nat.add_assoc]
theorem Its.from_ {w : World} {A : Option Addr} {n lo m : Nat} {xs : List Int} (h : Its w A n xs) (hlm : lo + m = n) : Its w (A.map fun x => x.add lo) m (xs.drop lo) := by
  refine ⟨by rw [List.length_drop, h.1]; omega, fun k c hk => ?_⟩
  rw [List.getElem?_drop] at hk
  obtain ⟨ad, rfl, hb, hc⟩ := h.2 _ _ hk
  exact ⟨ad.add lo, rfl, by rw [block_add]; exact hb, by rw [add_add]; exact hc⟩
/-- a block of numbers reads as them -/
theorem Its.of_block {w : World} {g n : Nat} {cs : Array Value} {t : TypeId} {fr : Nat × Nat} {xs : List Int} (h : w.heap[g]? = some (.cells cs t fr)) (hn : xs.length = n)
    (hc : cs = (xs.map fun x => Value.int .i64 x).toArray) : Its w (some ⟨g, 0, none⟩) n xs := by
  refine ⟨hn, fun k c hk => ?_⟩
  have hlt : g < w.heap.size := (Array.getElem?_eq_some_iff.1 h).1
  have hadd : (⟨g, 0, none⟩ : Addr).add k = ⟨g, k, none⟩ := by unfold Addr.add; split <;> simp_all
  exact ⟨⟨g, 0, none⟩, rfl, hlt, by rw [hadd, cell_of_row w g k cs t fr h, hc]; simp [hk]⟩
theorem Fit.at_ {xs : List Int} (h : Fit xs) {k : Nat} {x : Int} (hk : xs[k]? = some x) : -9223372036854775808 ≤ x ∧ x ≤ 9223372036854775807 := h x (List.mem_of_getElem? hk)
/-- what the frame tells of a slice of numbers that came in -/
theorem its_row {w : World} {a : Option Addr} {len cap : Nat} {zs : List Int}
    (h : (a = none ∧ len = 0 ∧ cap = 0 ∧ zs = []) ∨ ∃ x, a = some x ∧ len ≤ cap ∧ cap ≤ maxLen ∧ zs.length = cap ∧ (∀ i, i < zs.length → w.cell? (x.add i) = some (.int .i64 (zs.getD i 0))) ∧ ∀ n ∈ zs, (Lit.int .i64 n).wf = true) :
    ∃ xs, Its w a len xs ∧ Fit xs ∧ len ≤ cap ∧ cap ≤ maxLen ∧ (a = none → cap = 0) := by
  rcases h with ⟨rfl, rfl, rfl, _⟩ | ⟨x, rfl, hl, hm, hz, hc, hwf⟩
  · exact ⟨[], Its.none_ w, (by intro x hx; cases hx), Nat.le_refl _, Nat.zero_le _, fun _ => rfl⟩
  · refine ⟨zs.take len, ⟨by rw [List.length_take]; omega, fun k c hk => ?_⟩, fun y hy => ?_, hl, hm, fun e => by cases e⟩
    · rw [List.getElem?_take] at hk
      split at hk
      · rename_i hkl
        have hkz : k < zs.length := by omega
        have hcell := hc k hkz
        rw [List.getD_eq_getElem?_getD, hk, Option.getD_some] at hcell
        refine ⟨x, rfl, ?_, hcell⟩
        have := World.block_lt_of_cell? w _ hcell
        rwa [block_add] at this
      · simp at hk
    · simpa [Lit.wf, IntKind.min, IntKind.max, IntKind.signed, IntKind.bits] using hwf y (List.mem_of_mem_take hy)
theorem Try.info3 : (Try.prog.info? 3).map (fun i => (i.zero, i.size, i.bytes)) = some (some (.int .i64 0), 1, 8) := by kernel_rfl
def intV (x : Int) : Value := .int .i64 x
/-- the slice value v owns the numbers xs -/
def OwnI (base : Nat) (w : World) (v : Value) (xs : List Int) : Prop := w.ownsRow base 3 1 v xs.length (xs.map intV)
theorem OwnI.nil_ (base : Nat) (w : World) : OwnI base w (.slice none 0 0) [] := World.ownsRow_nil w base _ _
/-- its shape, and that it reads as those numbers -/
theorem OwnI.shape {base : Nat} {w : World} {v : Value} {xs : List Int} (h : OwnI base w v xs) : ∃ (A : Option Addr) (n c : Nat), v = .slice A n c ∧ n = xs.length ∧ n ≤ c ∧ c ≤ maxLen ∧ Its w A n xs ∧ (A = none → c = 0) := by
  have h' := h
  rcases h.2 with ⟨rfl, h0⟩ | ⟨g, cap, cur, rfl, _, hg, hnc, hcm, _⟩
  · have hb : xs = [] := List.eq_nil_of_length_eq_zero h0
    subst hb
    exact ⟨none, 0, 0, rfl, rfl, Nat.le_refl _, Nat.zero_le _, Its.none_ w, fun _ => rfl⟩
  · refine ⟨_, _, _, rfl, rfl, hnc, hcm, ⟨rfl, fun k c hk => ?_⟩, fun e => by cases e⟩
    have hlt : g < w.heap.size := (Array.getElem?_eq_some_iff.1 hg).1
    exact ⟨⟨g, 0, none⟩, rfl, hlt, h'.cells (g := g) rfl k _ (by rw [List.getElem?_map, hk]; rfl)⟩
/-- append(v, x..), v the call's own, x whatever reads as numbers -/
theorem wpList_append_its {w : World} {ops : Array Oper} {rest : List Oper} {o : Oper} {a : Act} {Q : Exit → Act → World → Prop} (hgd : o.guard = none) (s x : Operand)
    (ho : o.op = .call { callee := .builtin .append, args := #[s, x], argTypes := #[22, 22] })
    (base : Nat) (v : Value) (xs ys : List Int) (hs : a.eval s = v) (hown : OwnI base w v xs)
    (A : Option Addr) (m c : Nat) (hx : a.eval x = .slice A m c) (hB : Its w A m ys) (hnil : A = none → c = 0)
    (hlen : xs.length + ys.length ≤ 1000000) (hbase : base ≤ w.heap.size)
    (h : ∀ v' w', OwnI base w' v' (xs ++ ys) → w.grownBy w' v.ownBlock → (v'.ownBlock = v.ownBlock ∨ v'.ownBlock = some w.heap.size) → wpList Try.prog ops Q rest (a.put o.dst v') w') :
    wpList Try.prog ops Q (o :: rest) a w := by
  obtain ⟨i0, hi, hz0, hz1, hz2⟩ := info_parts Try.info3
  obtain rfl := hB.1
  cases A with
  | none =>
    obtain rfl := hB.none_nil
    obtain rfl := hnil rfl
    refine wpList_append_own_none hgd s x _ ho base 3 i0 1 Try.underlying22 hi v _ _ hs hown hx ?_
    exact h v w (by rw [List.append_nil]; exact hown) (World.grownBy.refl w _) (.inl rfl)
  | some ad =>
    refine wpList_append_own_at w hgd s x _ ho base 3 i0 (.int .i64 0) 1 8 Try.underlying22 hi hz0 hz1 hz2 rfl (by omega) v xs.length (xs.map intV) hs hown ad ys.length c (ys.map intV) hx (by simp)
      (fun j u hj => ?_) (fun u hu => ?_) (by unfold maxLen; omega) (by omega) hbase ?_
    · rw [List.getElem?_map] at hj
      cases hk : ys[j]? with
      | none => rw [hk] at hj; cases hj
      | some d =>
        rw [hk] at hj
        simp only [Option.map_some, Option.some.injEq] at hj
        obtain ⟨ad', e, _, hc⟩ := hB.2 j d hk
        cases Option.some.inj e
        rw [← hj]
        exact hc
    · obtain ⟨d, _, rfl⟩ := List.mem_map.1 hu
      rfl
    · intro v' w' hown' hgrow _ hat
      refine h v' w' ?_ hgrow hat
      unfold OwnI
      rw [List.length_append, List.map_append]
      exact hown'
end Go.Proofs.Ytoeblaecldhcaaa.P4
/- How two rows of numbers lie to one another, as values. -/
namespace Go.Proofs.Ytoeblaecldhcaaa.P4
set_option linter.unusedVariables false
def commonV : List Int → List Int → Nat
  | x :: p, y :: q => if x = y then commonV p q + 1 else 0
  | _, _ => 0
def cmpV : List Int → List Int → Int
  | [], [] => 0
  | [], _ :: _ => -1
  | _ :: _, [] => 1
  | x :: p, y :: q => if x = y then cmpV p q else if x < y then -1 else 1
def mayV (p : List Int) : Bool := decide (p.length ≤ 64 ∧ ∀ x ∈ p, 0 ≤ x ∧ x < 1048576)

theorem common_le : ∀ p q, commonV p q ≤ p.length ∧ commonV p q ≤ q.length
  | [], q => by simp [commonV]
  | x :: p, [] => by simp [commonV]
  | x :: p, y :: q => by
    have := common_le p q
    unfold commonV
    split
    · simp; omega
    · simp
theorem common_take : ∀ p q : List Int, p.take (commonV p q) = q.take (commonV p q)
  | [], q => by simp [commonV]
  | x :: p, [] => by simp [commonV]
  | x :: p, y :: q => by
    have := common_take p q
    unfold commonV
    split
    · rename_i h; subst h; simp [this]
    · simp
theorem common_unlike : ∀ (p q : List Int) (x y : Int), p[commonV p q]? = some x → q[commonV p q]? = some y → x ≠ y
  | [], q, x, y, h, _ => by simp at h
  | a :: p, [], x, y, _, h => by simp at h
  | a :: p, b :: q, x, y, h1, h2 => by
    have ih := common_unlike p q x y
    unfold commonV at h1 h2
    split at h1
    · rename_i h
      rw [if_pos h] at h2
      simp at h1 h2
      exact ih h1 h2
    · rename_i h
      rw [if_neg h] at h2
      simp at h1 h2
      subst h1 h2
      exact h
theorem drop_at {p : List Int} {k : Nat} {x : Int} (h : p[k]? = some x) : p.drop k = x :: p.drop (k + 1) := by
  obtain ⟨hl, rfl⟩ := List.getElem?_eq_some_iff.1 h
  exact List.drop_eq_getElem_cons hl
theorem common_step {p q : List Int} {k : Nat} {x : Int} (hp : p[k]? = some x) (hq : q[k]? = some x) : commonV (p.drop k) (q.drop k) = commonV (p.drop (k + 1)) (q.drop (k + 1)) + 1 := by
  rw [drop_at hp, drop_at hq]
  simp [commonV]
theorem common_stop {p q : List Int} {k : Nat} {x y : Int} (hp : p[k]? = some x) (hq : q[k]? = some y) (h : x ≠ y) : commonV (p.drop k) (q.drop k) = 0 := by
  rw [drop_at hp, drop_at hq]
  simp [commonV, h]
theorem common_end {p q : List Int} {k : Nat} (h : p.length ≤ k ∨ q.length ≤ k) : commonV (p.drop k) (q.drop k) = 0 := by
  rcases h with h | h
  · rw [List.drop_of_length_le h]; rfl
  · rw [List.drop_of_length_le h]
    cases p.drop k <;> rfl
theorem cmp_step {p q : List Int} {k : Nat} {x : Int} (hp : p[k]? = some x) (hq : q[k]? = some x) : cmpV (p.drop k) (q.drop k) = cmpV (p.drop (k + 1)) (q.drop (k + 1)) := by
  rw [drop_at hp, drop_at hq]
  simp [cmpV]
theorem cmp_stop {p q : List Int} {k : Nat} {x y : Int} (hp : p[k]? = some x) (hq : q[k]? = some y) (h : x ≠ y) : cmpV (p.drop k) (q.drop k) = if x < y then -1 else 1 := by
  rw [drop_at hp, drop_at hq]
  simp [cmpV, h]
theorem cmp_over {p q : List Int} {k : Nat} {x : Int} (hp : p[k]? = some x) (hq : q.length ≤ k) : cmpV (p.drop k) (q.drop k) = 1 := by
  rw [drop_at hp, List.drop_of_length_le hq]
  rfl
theorem cmp_end {p q : List Int} {k : Nat} (hp : p.length ≤ k) (hk : k ≤ p.length) : cmpV (p.drop k) (q.drop k) = if p.length < q.length then -1 else 0 := by
  rw [List.drop_of_length_le hp]
  by_cases h : k < q.length
  · rw [if_pos (by omega), drop_at (List.getElem?_eq_getElem h)]
    rfl
  · rw [if_neg (by omega), List.drop_of_length_le (by omega)]
    rfl
theorem common_self : ∀ p, commonV p p = p.length
  | [] => rfl
  | x :: p => by simp [commonV, common_self p]
theorem common_full {p q : List Int} (h : p.length = q.length) : commonV p q = p.length ↔ p = q := by
  constructor
  · intro e
    have := common_take p q
    rw [e, List.take_length, h, List.take_length] at this
    exact this
  · rintro rfl
    exact common_self p
theorem cmp_range : ∀ p q, cmpV p q = -1 ∨ cmpV p q = 0 ∨ cmpV p q = 1
  | [], [] => by simp [cmpV]
  | [], y :: q => by simp [cmpV]
  | x :: p, [] => by simp [cmpV]
  | x :: p, y :: q => by
    have := cmp_range p q
    unfold cmpV
    split
    · exact this
    · split <;> simp
theorem cmp_turn : ∀ p q, cmpV q p = -cmpV p q
  | [], [] => by simp [cmpV]
  | [], y :: q => by simp [cmpV]
  | x :: p, [] => by simp [cmpV]
  | x :: p, y :: q => by
    have := cmp_turn p q
    unfold cmpV
    by_cases h : x = y
    · subst h; simp [this]
    · rw [if_neg h, if_neg (fun e => h e.symm)]
      by_cases g : x < y
      · rw [if_pos g, if_neg (by omega)]; rfl
      · rw [if_neg g, if_pos (by omega)]
theorem cmp_same : ∀ p q, cmpV p q = 0 ↔ p = q
  | [], [] => by simp [cmpV]
  | [], y :: q => by simp [cmpV]
  | x :: p, [] => by simp [cmpV]
  | x :: p, y :: q => by
    have := cmp_same p q
    unfold cmpV
    by_cases h : x = y
    · subst h; simp [this]
    · rw [if_neg h]
      constructor
      · split <;> intro e <;> omega
      · intro e; injection e with e; exact absurd e h
theorem cmp_on : ∀ p q r, cmpV p q ≤ 0 → cmpV q r ≤ 0 → cmpV p r ≤ 0 ∧ (cmpV p q < 0 ∨ cmpV q r < 0 → cmpV p r < 0)
  | [], q, [] => by
    cases q <;> simp [cmpV]
  | [], q, z :: r => by simp [cmpV]
  | x :: p, [], r => by simp [cmpV]
  | x :: p, y :: q, [] => by simp [cmpV]
  | x :: p, y :: q, z :: r => by
    have ih := cmp_on p q r
    unfold cmpV
    rcases Int.lt_trichotomy x y with h1 | h1 | h1
    · rw [if_neg (by omega : ¬ x = y), if_pos h1]
      rcases Int.lt_trichotomy y z with h2 | h2 | h2
      · rw [if_neg (by omega : ¬ y = z), if_pos h2, if_neg (by omega : ¬ x = z), if_pos (by omega : x < z)]; omega
      · rw [if_pos h2, if_neg (by omega : ¬ x = z), if_pos (by omega : x < z)]; omega
      · rw [if_neg (by omega : ¬ y = z), if_neg (by omega : ¬ y < z)]; intros; omega
    · rw [if_pos h1]
      rcases Int.lt_trichotomy y z with h2 | h2 | h2
      · rw [if_neg (by omega : ¬ y = z), if_pos h2, if_neg (by omega : ¬ x = z), if_pos (by omega : x < z)]; omega
      · rw [if_pos h2, if_pos (by omega : x = z)]; exact ih
      · rw [if_neg (by omega : ¬ y = z), if_neg (by omega : ¬ y < z)]; intros; omega
    · rw [if_neg (by omega : ¬ x = y), if_neg (by omega : ¬ x < y)]; intros; omega
theorem cmp_within {p q : List Int} (h : commonV p q = p.length) : cmpV p q ≤ 0 := by
  induction p generalizing q with
  | nil => cases q <;> simp [cmpV]
  | cons x p ih =>
    cases q with
    | nil => simp [commonV] at h
    | cons y q =>
      unfold commonV at h
      unfold cmpV
      by_cases e : x = y
      · rw [if_pos e] at h ⊢
        exact ih (by simpa using h)
      · rw [if_neg e] at h
        simp at h
/-- the document's Compare -/
theorem cmp_ref (p q : List Int) : cmpV p q = if commonV p q = p.length ∧ commonV p q = q.length then 0 else if commonV p q = p.length then -1 else if commonV p q = q.length then 1 else
    if (p.getD (commonV p q) 0) < (q.getD (commonV p q) 0) then -1 else 1 := by
  induction p generalizing q with
  | nil => cases q <;> simp [cmpV, commonV]
  | cons x p ih =>
    cases q with
    | nil => simp [cmpV, commonV]
    | cons y q =>
      unfold cmpV commonV
      by_cases e : x = y
      · rw [if_pos e, if_pos e, ih q]
        simp
      · rw [if_neg e, if_neg e]
        simp
end Go.Proofs.Ytoeblaecldhcaaa.P4
/- The program's and the document's May; Common, Same, Within, Compare. -/
namespace Go.Proofs.Ytoeblaecldhcaaa.P4
set_option linter.unusedVariables false
open Go.RowKit
set_option maxRecDepth 20000

def stands (x : Int) : Bool := decide (0 ≤ x ∧ x < 1048576)
theorem stands_any (x : Int) (w : World) : Calls Try.prog 71 #[.int .i64 x] w fun e w' => e = .returned (.bool (stands x)) ∧ w = w' := by
  by_cases h0 : (0 : Int) ≤ x
  · by_cases h1 : x < (1048576 : Int)
    · have hv := Lib.hid (show stands x = true from decide_eq_true ⟨h0, h1⟩)
      go_enter Try.func71, Try.ntmps71
      go_wp2_with fail
      go_ret
      exact ⟨by rw [hv.out]; rfl, rfl⟩
    · have hv := Lib.hid (show stands x = false from decide_eq_false fun h => h1 h.2)
      go_enter Try.func71, Try.ntmps71
      go_wp2_with fail
      go_ret
      exact ⟨by rw [hv.out]; rfl, rfl⟩
  · have hv := Lib.hid (show stands x = false from decide_eq_false fun h => h0 h.1)
    go_enter Try.func71, Try.ntmps71
    go_wp2_with fail
    go_ret
    exact ⟨by rw [hv.out]; rfl, rfl⟩

theorem may_yes {xs : List Int} (hl : xs.length ≤ 64) (h : ∀ (j : Nat) (x : Int), xs[j]? = some x → stands x = true) : mayV xs = true :=
  decide_eq_true ⟨hl, fun x hx => by
    obtain ⟨j, hj⟩ := List.getElem?_of_mem hx
    exact of_decide_eq_true (h j x hj)⟩
theorem may_no {xs : List Int} {j : Nat} {x : Int} (hj : xs[j]? = some x) (h : stands x = false) : mayV xs = false :=
  decide_eq_false fun e => of_decide_eq_false h (e.2 x (List.mem_of_getElem? hj))
theorem may_long {xs : List Int} (h : 64 < xs.length) : mayV xs = false := decide_eq_false fun e => by have := e.1; omega

set_option maxHeartbeats 400000 in
theorem may_any (w : World) (A : Option Addr) (n c : Nat) (xs : List Int) (hB : Its w A n xs) (hn : n ≤ maxLen) :
    Calls Try.prog 38 #[.slice A n c] w fun e w' => e = .returned (.bool (mayV xs)) ∧ w' = w := by
  unfold maxLen at hn
  have hl := hB.1
  have hB' := Lib.hid hB
  clear hB
  go_enter Try.func38, Try.ntmps38
  go_wp2_with fail
  refine wp_scope_jumps 0 (fun a' w' => w' = w ∧ mayV xs = false ∧ ∃ (u1 u2 u3 u4 u5 u6 u7 u8 u9 u10 u11 u12 u13 u14 u15 u16 u17 : Value), a' = { tmps := #[.slice A n c, u1, u2, u3, u4, u5, u6, u7, u8, u9, u10, u11, u12, u13, u14, u15, u16, u17], defers := [] }) (fun _ _ => 0) rfl ?_ ?_
  · by_cases hbig : (64 : Int) < (n : Int)
    · have hv := Lib.hid (show mayV xs = false from may_long (by omega))
      clear hl
      go_wp2_with fail
      simp only [Exit.jump]
      go_ret
      exact ⟨by rw [hv.out]; rfl, rfl⟩
    · have hl' := Lib.hid hl
      clear hl
      go_wp2_with fail
      go_loop [10] (fun i => ∃ k : Nat, k ≤ n ∧ i = .int .i64 (k : Int) ∧ ∀ (j : Nat) (x : Int), j < k → xs[j]? = some x → stands x = true) (fun i => n - (intOf i).toNat)
      case atStart => exact ⟨0, Nat.zero_le _, rfl, fun j x h => by omega⟩
      case round =>
        obtain ⟨k, hk, rfl, hall⟩ := hrel
        have hall' := Lib.hid hall
        clear hall
        by_cases hlt : k < n
        · obtain ⟨ad, x, rfl, hkx, hcell⟩ := hB'.out.at_ hlt
          have hkx' := Lib.hid hkx
          clear hkx
          rcases Bool.eq_false_or_eq_true (stands x) with hb | hb
          · have hb' := Lib.hid hb
            clear hb
            go_wp2_with (go_at_call 71; refine (stands_any _ _).mono ?_; rw [hb'.out]; rintro e w' ⟨rfl, rfl⟩)
            go_round
            case rel => exact ⟨k + 1, by omega, by go_num, fun j y hj hy => by
              rcases Nat.lt_or_ge j k with h | h
              · exact hall'.out j y h hy
              · obtain rfl : j = k := by omega
                rw [hkx'.out] at hy
                injection hy with hy
                subst hy
                exact hb'.out⟩
            case measure => simp [intOf]; omega
          · have hb' := Lib.hid hb
            clear hb
            have hv := Lib.hid (show mayV xs = false from may_no hkx'.out hb'.out)
            go_wp2_with (go_at_call 71; refine (stands_any _ _).mono ?_; rw [hb'.out]; rintro e w' ⟨rfl, rfl⟩)
            go_step3
            exact ⟨rfl, rfl, hv.out, _, _, _, _, _, _, _, _, _, _, _, _, _, _, _, _, _, rfl⟩
        · have hv := Lib.hid (show mayV xs = true from may_yes (by have := hl'.out; omega) fun j x hj => hall'.out j x (by have := (List.getElem?_eq_some_iff.1 hj).1; have := hl'.out; omega) hj)
          go_wp2_with fail
          simp only [Exit.jump]
          go_ret
          exact ⟨by rw [hv.out]; rfl, rfl⟩
  · rintro a' w' ⟨rfl, hv, u1, u2, u3, u4, u5, u6, u7, u8, u9, u10, u11, u12, u13, u14, u15, u16, u17, rfl⟩
    have hv' := Lib.hid hv
    clear hv
    go_wp2_with fail
    simp only [Exit.jump]
    go_ret
    exact ⟨by rw [hv'.out]; rfl, rfl⟩

set_option maxHeartbeats 400000 in
theorem refMay_any (w : World) (A : Option Addr) (n c : Nat) (xs : List Int) (hB : Its w A n xs) (hn : n ≤ maxLen) :
    Calls Try.prog 44 #[.slice A n c] w fun e w' => e = .returned (.bool (mayV xs)) ∧ w' = w := by
  unfold maxLen at hn
  have hl := Lib.hid hB.1
  have hB' := Lib.hid hB
  clear hB
  go_enter Try.func44, Try.ntmps44
  go_wp2_with fail
  go_loop [3] (fun i => ∃ k : Nat, k ≤ n ∧ k ≤ 64 ∧ i = .int .i64 (k : Int) ∧ (∀ (j : Nat) (x : Int), j < k → xs[j]? = some x → stands x = true)) (fun i => n - (intOf i).toNat)
  case atStart => exact ⟨0, Nat.zero_le _, by omega, rfl, (fun j x h => by omega)⟩
  case round =>
    obtain ⟨k, hk, hk64, rfl, hall⟩ := hrel
    have hall' := Lib.hid hall
    clear hall
    by_cases hlt : k < n
    · by_cases h64 : (64 : Int) ≤ (k : Int)
      · have hv := Lib.hid (show mayV xs = false from may_long (by have := hl.out; omega))
        go_wp2_with fail
        go_ret
        exact ⟨by rw [hv.out]; rfl, rfl⟩
      · obtain ⟨ad, x, rfl, hkx, hcell⟩ := hB'.out.at_ hlt
        have hkx' := Lib.hid hkx
        clear hkx
        by_cases hx0 : x < 0
        · have hv := Lib.hid (show mayV xs = false from may_no hkx'.out (decide_eq_false fun h => by omega))
          go_wp2_with fail
          go_ret
          exact ⟨by rw [hv.out]; rfl, rfl⟩
        · by_cases hx1 : (1048576 : Int) ≤ x
          · have hv := Lib.hid (show mayV xs = false from may_no hkx'.out (decide_eq_false fun h => by omega))
            go_wp2_with fail
            go_ret
            exact ⟨by rw [hv.out]; rfl, rfl⟩
          · have hs := Lib.hid (show stands x = true from decide_eq_true ⟨by omega, by omega⟩)
            go_wp2_with fail
            go_round
            case rel => exact ⟨k + 1, by omega, by omega, by go_num, fun j y hj hy => by
              rcases Nat.lt_or_ge j k with h | h
              · exact hall'.out j y h hy
              · obtain rfl : j = k := by omega
                rw [hkx'.out] at hy
                injection hy with hy
                subst hy
                exact hs.out⟩
            case measure => simp [intOf]; omega
    · have hv := Lib.hid (show mayV xs = true from may_yes (by have := hl.out; omega) fun j x hj => hall'.out j x (by have := (List.getElem?_eq_some_iff.1 hj).1; have := hl.out; omega) hj)
      go_wp2_with fail
      go_ret
      exact ⟨by rw [hv.out]; rfl, rfl⟩
end Go.Proofs.Ytoeblaecldhcaaa.P4
/- Common, Same, Within, Compare, the program's and the document's; the kit's SameInts. -/
namespace Go.Proofs.Ytoeblaecldhcaaa.P4
set_option linter.unusedVariables false
open Go.RowKit
set_option maxRecDepth 20000


theorem common_take_k {xs ys : List Int} {k : Nat} {x y : Int} (h : commonV xs ys = k + commonV (xs.drop k) (ys.drop k)) (h1 : xs[k]? = some x) (h2 : ys[k]? = some y) (e : (x == y) = true) :
    commonV xs ys = (k + 1) + commonV (xs.drop (k + 1)) (ys.drop (k + 1)) := by
  obtain rfl : x = y := beq_iff_eq.1 e
  have := common_step h1 h2
  omega
theorem common_at_k {xs ys : List Int} {k : Nat} {x y : Int} (h : commonV xs ys = k + commonV (xs.drop k) (ys.drop k)) (h1 : xs[k]? = some x) (h2 : ys[k]? = some y) (e : (x == y) = false) : commonV xs ys = k := by
  have := common_stop h1 h2 (beq_eq_false_iff_ne.1 e)
  omega
theorem bne_of {x y : Int} {b : Bool} (h : (x == y) = b) : (x != y) = !b := by rw [bne, h]

set_option maxHeartbeats 400000 in
theorem common_any (w : World) (A B : Option Addr) (n c m d : Nat) (xs ys : List Int) (hA : Its w A n xs) (hB : Its w B m ys) (hn : n ≤ maxLen) (hm : m ≤ maxLen) :
    Calls Try.prog 94 #[.slice A n c, .slice B m d] w fun e w' => e = .returned (.int .i64 (commonV xs ys : Int)) ∧ ∃ k, w' = w.drewN k := by
  unfold maxLen at hn hm
  have l1 := Lib.hid hA.1
  have l2 := Lib.hid hB.1
  have hA' := Lib.hid hA
  have hB' := Lib.hid hB
  clear hA hB
  go_enter Try.func94, Try.ntmps94
  obtain ⟨s, hsm⟩ : ∃ s : Nat, s = min n m := ⟨_, rfl⟩
  have hsm' := Lib.hid hsm
  go_upto_region 2 with fail
  have hs : (if m < n then (m : Int) else (n : Int)) = (s : Int) := by
    by_cases h : m < n
    · rw [if_pos h]; omega
    · rw [if_neg h]; omega
  rw [hs]
  clear hs hsm
  go_wp2_with fail
  go_loopw [13] (fun i wr => ∃ k : Nat, k ≤ s ∧ i = .int .i64 (k : Int) ∧ commonV xs ys = k + commonV (xs.drop k) (ys.drop k) ∧ ∃ nd, wr = w.drewN nd) (fun i _ => s - (intOf i).toNat)
  case atStart => exact ⟨0, Nat.zero_le _, rfl, by simp, 0, rfl⟩
  case round =>
    obtain ⟨k, hk, rfl, he, nd, rfl⟩ := hrel
    have he' := Lib.hid he
    clear he
    by_cases hlt : k < s
    · obtain ⟨ad, x, rfl, hx, hcx⟩ := hA'.out.at_ (show k < n by have := hsm'.out; omega)
      obtain ⟨bd, y, rfl, hy, hcy⟩ := hB'.out.at_ (show k < m by have := hsm'.out; omega)
      have j0 : (0 : Int) ≤ (k : Int) := by omega
      have j1 : (k : Int) < (n : Int) := by have := hsm'.out; omega
      have j2 : (k : Int) < (m : Int) := by have := hsm'.out; omega
      have hx' := Lib.hid hx
      have hy' := Lib.hid hy
      clear hx hy
      generalize hbb : (x == y) = bb at *
      cases bb with
      | true =>
        have hne := bne_of hbb
        have hnx := Lib.hid (common_take_k he'.out hx'.out hy'.out hbb)
        clear hbb
        go_wp2_with fail
        go_quiet (fail)
        go_wp2_with fail
        go_roundw
        case rel => exact ⟨k + 1, by omega, by go_num, hnx.out, _, rfl⟩
        case measure => simp [intOf]; omega
      | false =>
        have hne := bne_of hbb
        have hv := Lib.hid (common_at_k he'.out hx'.out hy'.out hbb)
        clear hbb
        go_wp2_with fail
        go_quiet (fail)
        go_wp2_with fail
        go_ret
        exact ⟨by rw [hv.out]; rfl, nd + nq, by rw [World.drewN_drewN]⟩
    · have hv := Lib.hid (show commonV xs ys = s by
        have h1 := he'.out
        have h2 := hsm'.out
        have := l1.out
        have := l2.out
        obtain rfl : k = s := by omega
        rw [common_end (by omega)] at h1
        omega)
      go_wp2_with fail
      go_ret
      exact ⟨by rw [hv.out]; rfl, nd, rfl⟩

set_option maxHeartbeats 400000 in
theorem refCommon_any (w : World) (A B : Option Addr) (n c m d : Nat) (xs ys : List Int) (hA : Its w A n xs) (hB : Its w B m ys) (hn : n ≤ maxLen) (hm : m ≤ maxLen) :
    Calls Try.prog 61 #[.slice A n c, .slice B m d] w fun e w' => e = .returned (.int .i64 (commonV xs ys : Int)) ∧ ∃ k, w' = w.drewN k := by
  unfold maxLen at hn hm
  have l1 := Lib.hid hA.1
  have l2 := Lib.hid hB.1
  have hA' := Lib.hid hA
  have hB' := Lib.hid hB
  clear hA hB
  go_enter Try.func61, Try.ntmps61
  go_wp2_with fail
  go_loopw [5] (fun i wr => ∃ k : Nat, k ≤ n ∧ k ≤ m ∧ i = .int .i64 (k : Int) ∧ commonV xs ys = k + commonV (xs.drop k) (ys.drop k) ∧ ∃ nd, wr = w.drewN nd) (fun i _ => n - (intOf i).toNat)
  case atStart => exact ⟨0, Nat.zero_le _, Nat.zero_le _, rfl, by simp, 0, rfl⟩
  case round =>
    obtain ⟨k, hk, hkm, rfl, he, nd, rfl⟩ := hrel
    have he' := Lib.hid he
    clear he
    by_cases hlt : k < n ∧ k < m
    · obtain ⟨ad, x, rfl, hx, hcx⟩ := hA'.out.at_ hlt.1
      obtain ⟨bd, y, rfl, hy, hcy⟩ := hB'.out.at_ hlt.2
      have j0 : (0 : Int) ≤ (k : Int) := by omega
      have j1 : (k : Int) < (n : Int) := by omega
      have j2 : (k : Int) < (m : Int) := by omega
      have hx' := Lib.hid hx
      have hy' := Lib.hid hy
      clear hx hy hlt
      generalize hbb : (x == y) = bb at *
      cases bb with
      | true =>
        have hnx := Lib.hid (common_take_k he'.out hx'.out hy'.out hbb)
        go_wp2_with fail
        go_quiet (fail)
        go_wp2_with fail
        go_roundw
        case rel => exact ⟨k + 1, by omega, by omega, by go_num, hnx.out, _, rfl⟩
        case measure => simp [intOf]; omega
      | false =>
        have hv := Lib.hid (common_at_k he'.out hx'.out hy'.out hbb)
        go_wp2_with fail
        go_quiet (fail)
        go_wp2_with fail
        go_ret
        exact ⟨by rw [hv.out]; rfl, nd + nq, by rw [World.drewN_drewN]⟩
    · have hv := Lib.hid (show commonV xs ys = k by
        have h1 := he'.out
        have := l1.out
        have := l2.out
        rw [common_end (by omega)] at h1
        omega)
      by_cases hkn : (k : Int) < (n : Int)
      · have hkm2 : ((k : Int) < (m : Int)) = False := eq_false (by omega)
        have hkm3 : (k < m) = False := eq_false (by omega)
        clear hlt
        go_wp2_with fail
        go_quiet (fail)
        go_wp2_with fail
        go_ret
        exact ⟨by rw [hv.out]; rfl, nd + nq, by rw [World.drewN_drewN]⟩
      · have hkm2 : ((k : Int) < (n : Int)) = False := eq_false (by omega)
        have hkm3 : (k < n) = False := eq_false (by omega)
        clear hlt
        go_wp2_with fail
        go_quiet (fail)
        go_wp2_with fail
        go_ret
        exact ⟨by rw [hv.out]; rfl, nd + nq, by rw [World.drewN_drewN]⟩

def eqV (xs ys : List Int) : Bool := decide (xs = ys)
theorem eq_step {xs ys : List Int} {k : Nat} {x y : Int} (h : xs = ys ↔ xs.drop k = ys.drop k) (h1 : xs[k]? = some x) (h2 : ys[k]? = some y) (e : (x == y) = true) : xs = ys ↔ xs.drop (k + 1) = ys.drop (k + 1) := by
  obtain rfl : x = y := beq_iff_eq.1 e
  rw [h, drop_at h1, drop_at h2]
  simp
theorem eq_stop {xs ys : List Int} {k : Nat} {x y : Int} (h1 : xs[k]? = some x) (h2 : ys[k]? = some y) (e : (x == y) = false) : eqV xs ys = false :=
  decide_eq_false fun h => by
    subst h
    rw [h1] at h2
    injection h2 with h2
    exact beq_eq_false_iff_ne.1 e h2
theorem eq_end {xs ys : List Int} {k : Nat} (h : xs = ys ↔ xs.drop k = ys.drop k) (h1 : xs.length ≤ k) (h2 : ys.length ≤ k) : eqV xs ys = true :=
  decide_eq_true (h.2 (by rw [List.drop_of_length_le h1, List.drop_of_length_le h2]))
theorem eq_len {xs ys : List Int} (h : xs.length ≠ ys.length) : eqV xs ys = false := decide_eq_false fun e => h (by rw [e])

set_option maxHeartbeats 400000 in
theorem equal_any (w : World) (A B : Option Addr) (n c m d : Nat) (xs ys : List Int) (hA : Its w A n xs) (hB : Its w B m ys) (hn : n ≤ maxLen) :
    Calls Try.prog 89 #[.slice A n c, .slice B m d] w fun e w' => e = .returned (.bool (eqV xs ys)) ∧ ∃ k, w' = w.drewN k := by
  unfold maxLen at hn
  have l1 := Lib.hid hA.1
  have l2 := Lib.hid hB.1
  have hA' := Lib.hid hA
  have hB' := Lib.hid hB
  clear hA hB
  by_cases hnm : n = m
  · subst hnm
    have hne : ((n : Int) != (n : Int)) = false := by rw [bne_self_eq_false]
    go_enter Try.func89, Try.ntmps89
    go_wp2_with fail
    clear hne
    go_loopw [13] (fun i wr => ∃ k : Nat, k ≤ n ∧ i = .int .i64 (k : Int) ∧ (xs = ys ↔ xs.drop k = ys.drop k) ∧ ∃ nd, wr = w.drewN nd) (fun i _ => n - (intOf i).toNat)
    case atStart => exact ⟨0, Nat.zero_le _, rfl, by simp, 0, rfl⟩
    case round =>
      obtain ⟨k, hk, rfl, he, nd, rfl⟩ := hrel
      have he' := Lib.hid he
      clear he
      by_cases hlt : k < n
      · obtain ⟨ad, x, rfl, hx, hcx⟩ := hA'.out.at_ hlt
        obtain ⟨bd, y, rfl, hy, hcy⟩ := hB'.out.at_ hlt
        have j0 : (0 : Int) ≤ (k : Int) := by omega
        have j1 : (k : Int) < (n : Int) := by omega
        have hx' := Lib.hid hx
        have hy' := Lib.hid hy
        clear hx hy
        generalize hbb : (x == y) = bb at *
        cases bb with
        | true =>
          have hne := bne_of hbb
          have hnx := Lib.hid (eq_step he'.out hx'.out hy'.out hbb)
          clear hbb
          go_wp2_with fail
          go_quiet (fail)
          go_wp2_with fail
          go_roundw
          case rel => exact ⟨k + 1, by omega, by go_num, hnx.out, _, rfl⟩
          case measure => simp [intOf]; omega
        | false =>
          have hne := bne_of hbb
          have hv := Lib.hid (eq_stop hx'.out hy'.out hbb)
          clear hbb
          go_wp2_with fail
          go_quiet (fail)
          go_wp2_with fail
          go_ret
          exact ⟨by rw [hv.out]; rfl, nd + nq, by rw [World.drewN_drewN]⟩
      · have hv := Lib.hid (eq_end he'.out (by have := l1.out; omega) (by have := l2.out; omega))
        go_wp2_with fail
        go_ret
        exact ⟨by rw [hv.out]; rfl, nd, rfl⟩
  · have hne : ((n : Int) != (m : Int)) = true := by rw [bne_iff_ne]; omega
    have hv := Lib.hid (show eqV xs ys = false from eq_len (by rw [l1.out, l2.out]; exact hnm))
    clear hnm
    go_enter Try.func89, Try.ntmps89
    go_wp2_with fail
    go_ret
    exact ⟨by rw [hv.out]; rfl, 0, rfl⟩

theorem same_any (w : World) (A B : Option Addr) (n c m d : Nat) (xs ys : List Int) (hA : Its w A n xs) (hB : Its w B m ys) (hn : n ≤ maxLen) :
    Calls Try.prog 62 #[.slice A n c, .slice B m d] w fun e w' => e = .returned (.bool (eqV xs ys)) ∧ ∃ k, w' = w.drewN k := by
  have hA' := Lib.hid hA
  have hB' := Lib.hid hB
  clear hA hB
  go_enter Try.func62, Try.ntmps62
  go_wp2_with (go_at_call 89; refine (equal_any w A B n c m d xs ys hA'.out hB'.out hn).mono ?_; rintro e w' ⟨rfl, k, rfl⟩)
  go_ret
  exact ⟨rfl, _, rfl⟩
def withinV (xs ys : List Int) : Bool := decide (commonV xs ys = xs.length)
theorem within_beq {xs ys : List Int} {n : Nat} (h : xs.length = n) : ((commonV xs ys : Int) == (n : Int)) = withinV xs ys := by
  unfold withinV
  rw [h]
  by_cases e : commonV xs ys = n
  · rw [decide_eq_true e, e, beq_self_eq_true]
  · rw [decide_eq_false e, beq_eq_false_iff_ne]
    omega
theorem within_any (w : World) (A B : Option Addr) (n c m d : Nat) (xs ys : List Int) (hA : Its w A n xs) (hB : Its w B m ys) (hn : n ≤ maxLen) (hm : m ≤ maxLen) :
    Calls Try.prog 74 #[.slice A n c, .slice B m d] w fun e w' => e = .returned (.bool (withinV xs ys)) ∧ ∃ k, w' = w.drewN k := by
  have hA' := Lib.hid hA
  have hB' := Lib.hid hB
  have hw := within_beq (ys := ys) hA.1
  clear hA hB
  go_enter Try.func74, Try.ntmps74
  go_wp2_with (go_at_call 94; refine (common_any w A B n c m d xs ys hA'.out hB'.out hn hm).mono ?_; rintro e w' ⟨rfl, k, rfl⟩)
  go_ret
  exact ⟨rfl, _, rfl⟩
theorem refWithin_any (w : World) (A B : Option Addr) (n c m d : Nat) (xs ys : List Int) (hA : Its w A n xs) (hB : Its w B m ys) (hn : n ≤ maxLen) (hm : m ≤ maxLen) :
    Calls Try.prog 51 #[.slice A n c, .slice B m d] w fun e w' => e = .returned (.bool (withinV xs ys)) ∧ ∃ k, w' = w.drewN k := by
  have hA' := Lib.hid hA
  have hB' := Lib.hid hB
  have hw := within_beq (ys := ys) hA.1
  clear hA hB
  go_enter Try.func51, Try.ntmps51
  go_wp2_with (go_at_call 61; refine (refCommon_any w A B n c m d xs ys hA'.out hB'.out hn hm).mono ?_; rintro e w' ⟨rfl, k, rfl⟩)
  go_ret
  exact ⟨rfl, _, rfl⟩
theorem eq_within {xs ys : List Int} (h : xs.length = ys.length) : withinV xs ys = eqV xs ys := by
  unfold withinV eqV
  rw [decide_eq_decide]
  exact common_full h
theorem refSame_any (w : World) (A B : Option Addr) (n c m d : Nat) (xs ys : List Int) (hA : Its w A n xs) (hB : Its w B m ys) (hn : n ≤ maxLen) (hm : m ≤ maxLen) :
    Calls Try.prog 27 #[.slice A n c, .slice B m d] w fun e w' => e = .returned (.bool (eqV xs ys)) ∧ ∃ k, w' = w.drewN k := by
  have hA' := Lib.hid hA
  have hB' := Lib.hid hB
  by_cases hnm : n = m
  · subst hnm
    have hw := within_beq (ys := ys) hA.1
    rw [eq_within (hA.1.trans hB.1.symm)] at hw
    have hne : ((n : Int) == (n : Int)) = true := by rw [beq_self_eq_true]
    clear hA hB
    go_enter Try.func27, Try.ntmps27
    go_wp2_with (go_at_call 61; refine (refCommon_any w A B n c n d xs ys hA'.out hB'.out hn hm).mono ?_; rintro e w' ⟨rfl, k, rfl⟩)
    go_ret
    exact ⟨rfl, _, rfl⟩
  · have hne : ((n : Int) == (m : Int)) = false := by rw [beq_eq_false_iff_ne]; omega
    have hv := Lib.hid (show eqV xs ys = false from eq_len (by rw [hA.1, hB.1]; exact hnm))
    clear hA hB hnm
    go_enter Try.func27, Try.ntmps27
    go_wp2_with fail
    go_ret
    exact ⟨by rw [hv.out]; rfl, 0, rfl⟩
end Go.Proofs.Ytoeblaecldhcaaa.P4
/- Compare, the program's and the document's. -/
namespace Go.Proofs.Ytoeblaecldhcaaa.P4
set_option linter.unusedVariables false
open Go.RowKit
set_option maxRecDepth 20000

def cmp1 (x y : Int) : Int := if x < y then -1 else if y < x then 1 else 0
theorem cmp_case {xs ys : List Int} {n m k : Nat} (h1 : xs.length = n) (h2 : ys.length = m) (hk : commonV xs ys = k) :
    (k = n ∧ k = m ∧ cmpV xs ys = 0) ∨ (k = n ∧ k < m ∧ cmpV xs ys = -1) ∨ (k < n ∧ k = m ∧ cmpV xs ys = 1) ∨
    (∃ x y, k < n ∧ k < m ∧ xs[k]? = some x ∧ ys[k]? = some y ∧ x < y ∧ cmpV xs ys = -1) ∨ (∃ x y, k < n ∧ k < m ∧ xs[k]? = some x ∧ ys[k]? = some y ∧ ¬ x < y ∧ cmpV xs ys = 1) := by
  have hl := common_le xs ys
  have hr := cmp_ref xs ys
  rw [hk] at hl hr
  rw [h1, h2] at hl hr
  by_cases c1 : k = n
  · by_cases c2 : k = m
    · rw [if_pos ⟨c1, c2⟩] at hr
      exact .inl ⟨c1, c2, hr⟩
    · rw [if_neg (fun h => c2 h.2), if_pos c1] at hr
      exact .inr (.inl ⟨c1, by omega, hr⟩)
  · rw [if_neg (fun h => c1 h.1), if_neg c1] at hr
    by_cases c2 : k = m
    · rw [if_pos c2] at hr
      exact .inr (.inr (.inl ⟨by omega, c2, hr⟩))
    · rw [if_neg c2] at hr
      have g1 : xs[k]? = some (xs.getD k 0) := by
        rw [List.getD_eq_getElem?_getD, List.getElem?_eq_getElem (by omega)]; rfl
      have g2 : ys[k]? = some (ys.getD k 0) := by
        rw [List.getD_eq_getElem?_getD, List.getElem?_eq_getElem (by omega)]; rfl
      by_cases c3 : xs.getD k 0 < ys.getD k 0
      · rw [if_pos c3] at hr
        exact .inr (.inr (.inr (.inl ⟨_, _, by omega, by omega, g1, g2, c3, hr⟩)))
      · rw [if_neg c3] at hr
        exact .inr (.inr (.inr (.inr ⟨_, _, by omega, by omega, g1, g2, c3, hr⟩)))

end Go.Proofs.Ytoeblaecldhcaaa.P4
/- Copies; parents and children. -/
namespace Go.Proofs.Ytoeblaecldhcaaa.P4
set_option linter.unusedVariables false
open Go.RowKit
set_option maxRecDepth 20000

/-- a new row of the call's own with these numbers -/
def NewRow (w : World) (xs : List Int) (e : Ending) (w' : World) : Prop := ∃ v, e = .returned v ∧ OwnI w.heap.size w' v xs ∧ Below w.heap.size w w'
theorem grown_nil {w w' : World} (hg : w.grownBy w' (Value.slice none 0 0).ownBlock) : Below w.heap.size w w' :=
  Below.grown (Below.refl _ _) hg (Nat.le_refl _) (by intro k hk; cases hk)

theorem copied_any (w : World) (A : Option Addr) (n c : Nat) (xs : List Int) (hA : Its w A n xs) (hnil : A = none → c = 0) (hn : n ≤ 500000) :
    Calls Try.prog 106 #[.slice A n c] w (NewRow w xs) := by
  have hA' := Lib.hid hA
  have hl := Lib.hid hA.1
  have hn' := Lib.hid hnil
  clear hA hnil
  go_enter Try.func106, Try.ntmps106
  go_wp2_with (at_builtin; refine wpList_append_its rfl _ (.tmp 3) rfl w.heap.size (.slice none 0 0) [] xs rfl (OwnI.nil_ _ _) A n c rfl hA'.out hn'.out (by have := hl.out; simp; omega) (Nat.le_refl _) ?_; intro v1 w1 ho1 hg1 hat1)
  go_ret
  exact ⟨_, rfl, ho1, grown_nil hg1⟩
theorem refCopied_any (w : World) (A : Option Addr) (n c : Nat) (xs : List Int) (hA : Its w A n xs) (hnil : A = none → c = 0) (hn : n ≤ 500000) :
    Calls Try.prog 88 #[.slice A n c] w (NewRow w xs) := by
  have hA' := Lib.hid hA
  have hl := Lib.hid hA.1
  have hn' := Lib.hid hnil
  clear hA hnil
  go_enter Try.func88, Try.ntmps88
  go_wp2_with (at_builtin; refine wpList_append_its rfl (.tmp 4) (.tmp 5) rfl w.heap.size (.slice none 0 0) [] xs rfl (OwnI.nil_ _ _) A n c rfl hA'.out hn'.out (by have := hl.out; simp; omega) (Nat.le_refl _) ?_; intro v1 w1 ho1 hg1 hat1)
  go_ret
  exact ⟨_, rfl, ho1, grown_nil hg1⟩
/-- what Parent tells -/
def Parented (w : World) (xs : List Int) (e : Ending) (w' : World) : Prop :=
  (xs = [] ∧ e = .returned (.tuple #[.slice none 0 0, .int .i64 0, .bool false]) ∧ w' = w) ∨
  (∃ (v : Value) (ys : List Int) (z : Int), xs = ys ++ [z] ∧ e = .returned (.tuple #[v, .int .i64 z, .bool true]) ∧ OwnI w.heap.size w' v ys ∧ Below w.heap.size w w')
theorem parent_any (w : World) (A : Option Addr) (n c : Nat) (xs : List Int) (hA : Its w A n xs) (hnil : A = none → c = 0) (hn : n ≤ 500000) (hnc : n ≤ c) (hcm : c ≤ maxLen) :
    Calls Try.prog 96 #[.slice A n c] w (Parented w xs) := by
  have hA' := Lib.hid hA
  have hl := Lib.hid hA.1
  have hn' := Lib.hid hnil
  rcases Nat.eq_zero_or_pos n with h0 | h0
  · subst h0
    obtain rfl := List.eq_nil_of_length_eq_zero hA.1
    clear hA hnil
    go_enter Try.func96, Try.ntmps96
    go_wp2_with fail
    go_ret3
    exact .inl ⟨rfl, rfl, rfl⟩
  · obtain ⟨m, rfl⟩ : ∃ m, n = m + 1 := ⟨n - 1, by omega⟩
    obtain ⟨ad, z, rfl, hz, hcz⟩ := hA.at_ (show m < m + 1 by omega)
    have hlt : (ad.add m).block < w.heap.size := World.block_lt_of_cell? w _ hcz
    have hup := Lib.hid (hA.upto (q := m) (by omega))
    have hx := Lib.hid (show xs = xs.take m ++ [z] by
      have h1 := hA.1
      have h2 : xs.take (m + 1) = xs := List.take_of_length_le (by omega)
      rw [List.take_add_one, hz] at h2
      exact h2.symm)
    have e1 : (((m + 1 : Nat) : Int) == 0) = false := by rw [beq_eq_false_iff_ne]; omega
    have e2 : ((m + 1 : Nat) : Int) - 1 = (m : Int) := by omega
    have e3 : (0 : Int) ≤ (m : Int) := by omega
    have e4 : (m : Int) ≤ (c : Int) := by omega
    have e5 : (m : Int) < ((m + 1 : Nat) : Int) := by omega
    have e6 : (m : Int) < (m : Int) + 1 := by omega
    have hm5 : m ≤ 500000 := by omega
    clear hA hnil hz
    go_enter Try.func96, Try.ntmps96
    go_wp2_with fail
    go_region_law (first
      | (go_simp; go_at_call 106; refine (copied_any w.drew _ m c (xs.take m) (hup.out.drewN 1) (fun e => by cases e) hm5).mono ?_; rintro e w2 ⟨v2, rfl, ho2, hb2'⟩; have hb2 : Below w.heap.size w w2 := ⟨hb2'.os, hb2'.tape, hb2'.output, hb2'.size, hb2'.block⟩; clear hb2'; have hc2 := (hb2.cell (p := ad.add m) hlt).trans hcz))
    all_goals
      go_wp2_with fail
      go_ret3
      exact .inr ⟨v2, _, z, hx.out, rfl, ho2, hb2⟩
end Go.Proofs.Ytoeblaecldhcaaa.P4
/- A shift's parts, as the program takes them out of a complex number; a shift made of its parts; Between. -/
namespace Go.Proofs.Ytoeblaecldhcaaa.P4
set_option linter.unusedVariables false
open Go.RowKit
set_option maxRecDepth 20000

def ordF (a b : Nat) : Option Ordering := FloatKind.f64.format.order a b
def fOf (n : Int) : Nat := floatOfInt .f64 n
/-- b is from lo to hi -/
def inF (b : Nat) (lo hi : Int) : Bool := (ordF b (fOf lo) == some .gt || ordF b (fOf lo) == some .eq) && (ordF b (fOf hi) == some .lt || ordF b (fOf hi) == some .eq)
/-- the whole number that b is, if it is one from lo to hi -/
def wholeV (b : Nat) (lo hi : Int) : Option Int :=
  if inF b lo hi then match floatToIntVal .f64 b .i64 with
    | some n => if ordF b (fOf n) == some .eq then some n else none
    | none => none
  else none
/-- where b is in its bounds, it can be made an integer -/
def fineF (b : Nat) (lo hi : Int) : Bool := !inF b lo hi || (floatToIntVal .f64 b .i64).isSome

def wholeR (b : Nat) (lo hi : Int) : Ending :=
  match wholeV b lo hi with
  | some n => .returned (.tuple #[.int .i64 n, .bool true])
  | none => .returned (.tuple #[.int .i64 0, .bool false])
set_option maxHeartbeats 800000 in
theorem whole_any (w : World) (b : Nat) (lo hi : Int) (hf : fineF b lo hi = true) :
    Calls Try.prog 112 #[.float .f64 b, .int .i64 lo, .int .i64 hi] w fun e w' => e = wholeR b lo hi ∧ w = w' := by
  generalize h1 : (ordF b (fOf lo) == some .gt || ordF b (fOf lo) == some .eq) = g1
  have k1 : (FloatKind.f64.format.order b (floatOfInt .f64 lo) == some .gt || FloatKind.f64.format.order b (floatOfInt .f64 lo) == some .eq) = g1 := h1
  have h1' := Lib.hid h1
  cases g1 with
  | false =>
    have hv := Lib.hid (show wholeR b lo hi = .returned (.tuple #[.int .i64 0, .bool false]) by unfold wholeR wholeV inF; rw [h1'.out]; rfl)
    clear hf h1
    go_enter Try.func112, Try.ntmps112
    go_wp2_with fail
    go_ret2
    exact ⟨by rw [hv.out]; rfl, rfl⟩
  | true =>
    generalize h2 : (ordF b (fOf hi) == some .lt || ordF b (fOf hi) == some .eq) = g2
    have k2 : (FloatKind.f64.format.order b (floatOfInt .f64 hi) == some .lt || FloatKind.f64.format.order b (floatOfInt .f64 hi) == some .eq) = g2 := h2
    have h2' := Lib.hid h2
    cases g2 with
    | false =>
      have hv := Lib.hid (show wholeR b lo hi = .returned (.tuple #[.int .i64 0, .bool false]) by unfold wholeR wholeV inF; rw [h1'.out, h2'.out]; rfl)
      clear hf h1 h2
      go_enter Try.func112, Try.ntmps112
      go_wp2_with fail
      go_ret2
      exact ⟨by rw [hv.out]; rfl, rfl⟩
    | true =>
      have hin : inF b lo hi = true := by unfold inF; rw [h1, h2]; rfl
      obtain ⟨n, hn⟩ : ∃ n, floatToIntVal .f64 b .i64 = some n := by
        unfold fineF at hf
        rw [hin] at hf
        exact Option.isSome_iff_exists.1 (by simpa using hf)
      have hcv := run_convert_float_int (P := Try.prog) w 106 3 .f64 .i64 b n (by rw [Try.underlying106]; rfl) Try.underlying3 hn
      generalize h3 : (ordF b (fOf n) == some .eq) = g3
      have k3 : (FloatKind.f64.format.order b (floatOfInt .f64 n) == some .eq) = g3 := h3
      have h3' := Lib.hid h3
      have hin' := Lib.hid hin
      have hn' := Lib.hid hn
      cases g3 with
      | false =>
        have hv := Lib.hid (show wholeR b lo hi = .returned (.tuple #[.int .i64 0, .bool false]) by unfold wholeR wholeV; rw [hin'.out, hn'.out]; simp [h3'.out])
        clear hf h1 h2 h3 hin hn
        go_enter Try.func112, Try.ntmps112
        go_wp2_with fail
        go_ret2
        exact ⟨by rw [hv.out]; rfl, rfl⟩
      | true =>
        have hv := Lib.hid (show wholeR b lo hi = .returned (.tuple #[.int .i64 n, .bool true]) by unfold wholeR wholeV; rw [hin'.out, hn'.out]; simp [h3'.out])
        clear hf h1 h2 h3 hin hn
        go_enter Try.func112, Try.ntmps112
        go_wp2_with fail
        go_ret2
        exact ⟨by rw [hv.out]; rfl, rfl⟩

def partsV (re im : Nat) : Option (Int × Int) :=
  match wholeV im 0 63, wholeV re (-1048575) 1048575 with
  | some a, some b => some (a, b)
  | _, _ => none
def fineP (re im : Nat) : Bool := fineF im 0 63 && fineF re (-1048575) 1048575
def partsR (re im : Nat) : Ending :=
  match partsV re im with
  | some x => .returned (.tuple #[.int .i64 x.1, .int .i64 x.2, .bool true])
  | none => .returned (.tuple #[.int .i64 0, .int .i64 0, .bool false])
set_option maxHeartbeats 800000 in
theorem parts_any (w : World) (re im : Nat) (hf : fineP re im = true) :
    Calls Try.prog 107 #[.complex .f64 re im] w fun e w' => e = partsR re im ∧ w = w' := by
  have hf' : fineF im 0 63 = true ∧ fineF re (-1048575) 1048575 = true := by simpa [fineP] using hf
  obtain ⟨f1, f2⟩ := hf'
  have f1' := Lib.hid f1
  have f2' := Lib.hid f2
  cases h1 : wholeV im 0 63 with
  | none =>
    have r1 := Lib.hid (show wholeR im 0 63 = .returned (.tuple #[.int .i64 0, .bool false]) by unfold wholeR; rw [h1])
    cases h2 : wholeV re (-1048575) 1048575 with
    | none =>
      have r2 := Lib.hid (show wholeR re (-1048575) 1048575 = .returned (.tuple #[.int .i64 0, .bool false]) by unfold wholeR; rw [h2])
      have hv := Lib.hid (show partsR re im = .returned (.tuple #[.int .i64 0, .int .i64 0, .bool false]) by unfold partsR partsV; rw [h1, h2])
      clear hf f1 f2 h1 h2
      go_enter Try.func107, Try.ntmps107
      go_wp2_with (first
        | (go_at_call_of 112 (Value.float .f64 im); refine (whole_any w im 0 63 f1'.out).mono ?_; rw [r1.out]; rintro e w' ⟨rfl, rfl⟩)
        | (go_at_call_of 112 (Value.float .f64 re); refine (whole_any w re (-1048575) 1048575 f2'.out).mono ?_; rw [r2.out]; rintro e w' ⟨rfl, rfl⟩))
      go_ret3
      exact ⟨by rw [hv.out]; rfl, rfl⟩
    | some y =>
      have r2 := Lib.hid (show wholeR re (-1048575) 1048575 = .returned (.tuple #[.int .i64 y, .bool true]) by unfold wholeR; rw [h2])
      have hv := Lib.hid (show partsR re im = .returned (.tuple #[.int .i64 0, .int .i64 0, .bool false]) by unfold partsR partsV; rw [h1, h2])
      clear hf f1 f2 h1 h2
      go_enter Try.func107, Try.ntmps107
      go_wp2_with (first
        | (go_at_call_of 112 (Value.float .f64 im); refine (whole_any w im 0 63 f1'.out).mono ?_; rw [r1.out]; rintro e w' ⟨rfl, rfl⟩)
        | (go_at_call_of 112 (Value.float .f64 re); refine (whole_any w re (-1048575) 1048575 f2'.out).mono ?_; rw [r2.out]; rintro e w' ⟨rfl, rfl⟩))
      go_ret3
      exact ⟨by rw [hv.out]; rfl, rfl⟩
  | some x =>
    have r1 := Lib.hid (show wholeR im 0 63 = .returned (.tuple #[.int .i64 x, .bool true]) by unfold wholeR; rw [h1])
    cases h2 : wholeV re (-1048575) 1048575 with
    | none =>
      have r2 := Lib.hid (show wholeR re (-1048575) 1048575 = .returned (.tuple #[.int .i64 0, .bool false]) by unfold wholeR; rw [h2])
      have hv := Lib.hid (show partsR re im = .returned (.tuple #[.int .i64 0, .int .i64 0, .bool false]) by unfold partsR partsV; rw [h1, h2])
      clear hf f1 f2 h1 h2
      go_enter Try.func107, Try.ntmps107
      go_wp2_with (first
        | (go_at_call_of 112 (Value.float .f64 im); refine (whole_any w im 0 63 f1'.out).mono ?_; rw [r1.out]; rintro e w' ⟨rfl, rfl⟩)
        | (go_at_call_of 112 (Value.float .f64 re); refine (whole_any w re (-1048575) 1048575 f2'.out).mono ?_; rw [r2.out]; rintro e w' ⟨rfl, rfl⟩))
      go_ret3
      exact ⟨by rw [hv.out]; rfl, rfl⟩
    | some y =>
      have r2 := Lib.hid (show wholeR re (-1048575) 1048575 = .returned (.tuple #[.int .i64 y, .bool true]) by unfold wholeR; rw [h2])
      have hv := Lib.hid (show partsR re im = .returned (.tuple #[.int .i64 x, .int .i64 y, .bool true]) by unfold partsR partsV; rw [h1, h2])
      clear hf f1 f2 h1 h2
      go_enter Try.func107, Try.ntmps107
      go_wp2_with (first
        | (go_at_call_of 112 (Value.float .f64 im); refine (whole_any w im 0 63 f1'.out).mono ?_; rw [r1.out]; rintro e w' ⟨rfl, rfl⟩)
        | (go_at_call_of 112 (Value.float .f64 re); refine (whole_any w re (-1048575) 1048575 f2'.out).mono ?_; rw [r2.out]; rintro e w' ⟨rfl, rfl⟩))
      go_ret3
      exact ⟨by rw [hv.out]; rfl, rfl⟩
end Go.Proofs.Ytoeblaecldhcaaa.P4
/- Shift, the program's and the document's. -/
namespace Go.Proofs.Ytoeblaecldhcaaa.P4
set_option linter.unusedVariables false
open Go.RowKit
set_option maxRecDepth 20000

/-- what Shift tells: an error, and a path -/
def shiftV (xs : List Int) (re im : Nat) : Int × List Int :=
  match partsV re im with
  | none => (2, [])
  | some (a, b) => if mayV xs && decide (a.toNat < xs.length) then if stands (xs.getD a.toNat 0 + b) then (0, xs.set a.toNat (xs.getD a.toNat 0 + b)) else (3, []) else (2, [])
def fineS (re im : Nat) : Bool := fineP re im && match partsV re im with
  | some (a, b) => decide (0 ≤ a ∧ a ≤ 63 ∧ -1048575 ≤ b ∧ b ≤ 1048575)
  | none => true
def ShiftR (w : World) (x : Int × List Int) (e : Ending) (w' : World) : Prop := ∃ v, e = .returned (.tuple #[v, .int .i64 x.1]) ∧ OwnI w.heap.size w' v x.2 ∧ Below w.heap.size w w'
theorem ShiftR.none_ {w : World} {x : Int × List Int} {k : Int} (h : x = (k, [])) : ShiftR w x (.returned (.tuple #[.slice none 0 0, .int .i64 k])) w := by
  subst h
  exact ⟨_, rfl, OwnI.nil_ _ _, Below.refl _ _⟩
theorem fineS_parts {re im : Nat} (h : fineS re im = true) {a b : Int} (hp : partsV re im = some (a, b)) : fineP re im = true ∧ 0 ≤ a ∧ a ≤ 63 ∧ -1048575 ≤ b ∧ b ≤ 1048575 := by
  unfold fineS at h
  rw [hp] at h
  simpa using h
/-- a store into a row of the call's own -/
theorem OwnI.stored {base g n c : Nat} {w : World} {xs : List Int} (h : OwnI base w (.slice (some ⟨g, 0, none⟩) n c) xs) (k : Nat) (y : Int) :
    OwnI base (w.setCell ⟨g, k, none⟩ (.int .i64 y)) (.slice (some ⟨g, 0, none⟩) n c) (xs.set k y) := by
  have hn : n = xs.length := by
    rcases h.2 with ⟨e, _⟩ | ⟨g', cap, cur, e, _⟩
    · cases e
    · injection e
  have h' := (World.ownsRow.stored (show w.ownsRow base 3 1 (.slice (some ⟨g, 0, none⟩) n c) n (xs.map intV) by rw [hn] at h ⊢; exact h) k (.int .i64 y)).1
  unfold OwnI
  rw [List.length_set, ← hn, List.map_set]
  exact h'
/-- its block -/
theorem OwnI.block {base : Nat} {w : World} {v : Value} {xs : List Int} (h : OwnI base w v xs) (h0 : 0 < xs.length) :
    ∃ g c, v = .slice (some ⟨g, 0, none⟩) xs.length c ∧ base ≤ g ∧ g < w.heap.size ∧ xs.length ≤ c ∧ c ≤ maxLen ∧ (∀ k x, xs[k]? = some x → w.cell? ⟨g, k, none⟩ = some (.int .i64 x)) ∧ ∀ k, w.frozen? ⟨g, k, none⟩ = false := by
  rcases h.2 with ⟨_, e⟩ | ⟨g, cap, cur, rfl, hb, hg, hnc, hcm, _⟩
  · omega
  · have hlt : g < w.heap.size := (Array.getElem?_eq_some_iff.1 hg).1
    refine ⟨g, cap, rfl, hb, hlt, hnc, hcm, fun k x hk => ?_, fun k => World.ownsRow.frozenAt h k⟩
    have := h.cells (g := g) rfl k (.int .i64 x) (by rw [List.getElem?_map, hk]; rfl)
    have hadd : (⟨g, 0, none⟩ : Addr).add k = ⟨g, k, none⟩ := by unfold Addr.add; split <;> simp_all
    rwa [hadd] at this

set_option maxHeartbeats 1600000 in
theorem shift_any (w : World) (A : Option Addr) (n c : Nat) (xs : List Int) (hA : Its w A n xs) (hnil : A = none → c = 0) (hn : n ≤ 500000) (re im : Nat) (hf : fineS re im = true) :
    Calls Try.prog 97 #[.slice A n c, .complex .f64 re im] w (ShiftR w (shiftV xs re im)) := by
  have hA' := Lib.hid hA
  have hl := Lib.hid hA.1
  have hn' := Lib.hid hnil
  have hm : n ≤ maxLen := by unfold maxLen; omega
  have hm' := Lib.hid hm
  have hn5 := Lib.hid hn
  have hp0 : fineP re im = true := by
    unfold fineS at hf
    simp at hf
    exact hf.1
  have hp0' := Lib.hid hp0
  clear hA hnil hp0
  cases hp : partsV re im with
  | none =>
    have r1 := Lib.hid (show partsR re im = .returned (.tuple #[.int .i64 0, .int .i64 0, .bool false]) by unfold partsR; rw [hp])
    have hv := Lib.hid (show shiftV xs re im = (2, []) by unfold shiftV; rw [hp])
    clear hf hp hm hn
    go_enter Try.func97, Try.ntmps97
    go_wp2_with (go_at_call 107; refine (parts_any w re im hp0'.out).mono ?_; rw [r1.out]; rintro e w' ⟨rfl, rfl⟩)
    go_ret2
    exact ShiftR.none_ hv.out
  | some ab =>
    obtain ⟨a, b⟩ := ab
    obtain ⟨_, b1, b2, b3, b4⟩ := fineS_parts hf hp
    have r1 := Lib.hid (show partsR re im = .returned (.tuple #[.int .i64 a, .int .i64 b, .bool true]) by unfold partsR; rw [hp])
    obtain ⟨k, rfl⟩ : ∃ k : Nat, a = (k : Int) := ⟨a.toNat, by omega⟩
    cases hmay : mayV xs with
    | false =>
      have hv := Lib.hid (show shiftV xs re im = (2, []) by unfold shiftV; rw [hp]; simp [hmay])
      have hmay' := Lib.hid hmay
      clear hf hp hm hn b1 b2 b3 b4 hmay
      go_enter Try.func97, Try.ntmps97
      go_wp2_with (first
        | (go_at_call 107; refine (parts_any w re im hp0'.out).mono ?_; rw [r1.out]; rintro e w' ⟨rfl, rfl⟩)
        | (go_at_call 38; refine (may_any w A n c xs hA'.out hm'.out).mono ?_; rw [hmay'.out]; rintro e w' ⟨rfl, rfl⟩))
      go_ret2
      exact ShiftR.none_ hv.out
    | true =>
      have hmay' := Lib.hid hmay
      by_cases hk : k < n
      · obtain ⟨ad, x, rfl, hkx, hcell⟩ := hA'.out.at_ hk
        have hx := of_decide_eq_true hmay
        have hx1 := hx.2 x (List.mem_of_getElem? hkx)
        have hgd : xs.getD k 0 = x := by rw [List.getD_eq_getElem?_getD, hkx]; rfl
        have k1 : (k : Int) < (n : Int) := by omega
        have k2 : ¬ (n : Int) ≤ (k : Int) := by omega
        have k0 : (0 : Int) ≤ (k : Int) := by omega
        have f1 : -9223372036854775808 ≤ x + b := by omega
        have f2 : x + b ≤ 9223372036854775807 := by omega
        have hsv := show shiftV xs re im = if stands (x + b) then (0, xs.set k (x + b)) else (3, []) by
          unfold shiftV
          rw [hp]
          simp only [hmay, Bool.true_and, Int.toNat_natCast, hgd]
          rw [if_pos (decide_eq_true (by have := hl.out; omega))]
        cases hst : stands (x + b) with
        | false =>
          have hv := Lib.hid (show shiftV xs re im = (3, []) by rw [hsv, hst]; rfl)
          have hst' := Lib.hid hst
          clear hf hp hm hn b1 b2 b3 b4 hmay hx hx1 hgd hkx hsv hst hk
          go_enter Try.func97, Try.ntmps97
          go_wp2_with (first
            | (go_at_call 107; refine (parts_any w re im hp0'.out).mono ?_; rw [r1.out]; rintro e w' ⟨rfl, rfl⟩)
            | (go_at_call 38; refine (may_any w (some ad) n c xs hA'.out hm'.out).mono ?_; rw [hmay'.out]; rintro e w' ⟨rfl, rfl⟩)
            | (go_at_call 71; refine (stands_any _ _).mono ?_; rw [hst'.out]; rintro e w' ⟨rfl, rfl⟩))
          go_ret2
          exact ShiftR.none_ hv.out
        | true =>
          have hv := Lib.hid (show shiftV xs re im = (0, xs.set k (x + b)) by rw [hsv, hst]; rfl)
          have hst' := Lib.hid hst
          have hk' := Lib.hid hk
          have hkx' := Lib.hid hkx
          clear hf hp hm hn b1 b2 b3 b4 hmay hx hx1 hgd hkx hsv hst hk
          go_enter Try.func97, Try.ntmps97
          go_wp2_with (first
            | (go_at_call 107; refine (parts_any w re im hp0'.out).mono ?_; rw [r1.out]; rintro e w' ⟨rfl, rfl⟩)
            | (go_at_call 38; refine (may_any w (some ad) n c xs hA'.out hm'.out).mono ?_; rw [hmay'.out]; rintro e w' ⟨rfl, rfl⟩)
            | (go_at_call 71; refine (stands_any _ _).mono ?_; rw [hst'.out]; rintro e w' ⟨rfl, rfl⟩)
            | (go_at_call 106; refine (copied_any _ (some ad) n c xs hA'.out hn'.out hn5.out).mono ?_; rintro e w1 ⟨v1, rfl, ho1, hb1⟩; obtain ⟨g, c1, rfl, hg1, hg2, hc1, hc2, hcs, hfr⟩ := ho1.block (by have := hk'.out; have := hl.out; omega); have hlen := hl.out; rw [hlen] at hc1; rw [hlen]; have hcell1 := hcs k x hkx'.out; have hfr1 := hfr k; have hb1' := Lib.hid hb1; have ho1' := Lib.hid ho1; have hcs' := Lib.hid hcs; have hfr' := Lib.hid hfr; clear hb1 ho1 hcs hfr hlen))
          go_ret2
          have hst1 := ho1'.out.stored k (x + b)
          rw [hl.out] at hst1
          exact ⟨.slice (some ⟨g, 0, none⟩) n c1, by rw [hv.out]; rfl, by rw [hv.out]; exact hst1, hb1'.out.setCell (by exact hg1) _⟩
      · have k2 : (n : Int) ≤ (k : Int) := by omega
        have hv := Lib.hid (show shiftV xs re im = (2, []) by
          unfold shiftV
          rw [hp]
          simp only [hmay, Bool.true_and, Int.toNat_natCast]
          rw [if_neg (by rw [decide_eq_true_iff]; have := hl.out; omega)])
        clear hf hp hm hn b1 b2 b3 b4 hmay hk
        go_enter Try.func97, Try.ntmps97
        go_wp2_with (first
          | (go_at_call 107; refine (parts_any w re im hp0'.out).mono ?_; rw [r1.out]; rintro e w' ⟨rfl, rfl⟩)
          | (go_at_call 38; refine (may_any w A n c xs hA'.out hm'.out).mono ?_; rw [hmay'.out]; rintro e w' ⟨rfl, rfl⟩))
        go_ret2
        exact ShiftR.none_ hv.out

/-- the document's parts -/
def refIn (re im : Nat) : Bool := inF im 0 63 && inF re (-1048575) 1048575
/-- what it says is what the program says; where the bounds hold, both can be made integers -/
def refFine (re im : Nat) : Bool :=
  match floatToIntVal .f64 im .i64, floatToIntVal .f64 re .i64 with
  | some _, some _ => true
  | _, _ => !refIn re im
end Go.Proofs.Ytoeblaecldhcaaa.P4
