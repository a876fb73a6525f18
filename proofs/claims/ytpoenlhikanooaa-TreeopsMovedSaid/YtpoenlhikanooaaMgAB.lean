/- MgAB: TreVal LtxVal LtxSq LtxInv LtxSize LtxComp -/
import Derived.Test.YtpoenlhikanooaaProg
set_option linter.all false
/- Trees by value: what the document says of them; the nodes in the order of the document. -/
namespace Go.Proofs.Ytpoenlhikanooaa
set_option linter.unusedVariables false
abbrev Txt := List UInt8
inductive Nd where
  | mk (id : Nat) (leaf : Bool) (label : Txt) (attrs : List (Txt × Txt)) (text : Txt) (kids : List Nd)
namespace Nd
def id : Nd → Nat | .mk i _ _ _ _ _ => i
def leaf : Nd → Bool | .mk _ l _ _ _ _ => l
def label : Nd → Txt | .mk _ _ l _ _ _ => l
def attrs : Nd → List (Txt × Txt) | .mk _ _ _ a _ _ => a
def text : Nd → Txt | .mk _ _ _ _ t _ => t
def kids : Nd → List Nd | .mk _ _ _ _ _ k => k
def zero : Nd := .mk 0 false [] [] [] []
/-- a tree with other children -/
def withKids : Nd → List Nd → Nd | .mk i l b a t _, k => .mk i l b a t k
theorem kid_lt {t k : Nd} (h : k ∈ t.kids) : SizeOf.sizeOf k < SizeOf.sizeOf t := by
  cases t with
  | mk i l b a x ks =>
    have := List.sizeOf_lt_of_mem (show k ∈ ks from h)
    simp only [mk.sizeOf_spec]
    omega
/-- what holds of a tree wherever it holds of its children holds of all -/
theorem ind {p : Nd → Prop} (h : ∀ t : Nd, (∀ k ∈ t.kids, p k) → p t) (t : Nd) : p t := by
  generalize hn : SizeOf.sizeOf t = n
  induction n using Nat.strongRecOn generalizing t with
  | _ n ih => exact h t fun k hk => ih _ (by have := kid_lt hk; omega) k rfl
end Nd

/-! ### what the document says -/
mutual
def countV : Nd → Nat
  | .mk _ _ _ _ _ ks => 1 + countsV ks
def countsV : List Nd → Nat
  | [] => 0
  | k :: r => countV k + countsV r
end
def attrsLen : List (Txt × Txt) → Nat
  | [] => 0
  | a :: r => a.1.length + a.2.length + attrsLen r
def keyB (s : Txt) : Bool := decide (1 ≤ s.length ∧ s.length ≤ 64)
/-- do the keys rise, and are all parts of a right length? last: the key ahead -/
def attrsOk (lt : Txt → Txt → Bool) : Txt → List (Txt × Txt) → Bool
  | _, [] => true
  | last, a :: r => keyB a.1 && lt last a.1 && decide (a.2.length ≤ 256) && attrsOk lt a.1 r
/-- is a node right by itself? -/
def aloneOk (lt : Txt → Txt → Bool) (t : Nd) : Bool :=
  decide (t.label.length ≤ 64) && attrsOk lt [] t.attrs && (if t.leaf then t.kids.isEmpty else t.text.isEmpty)
mutual
def rightsV (lt : Txt → Txt → Bool) : Nd → Bool
  | .mk i l b ps x ks => aloneOk lt (.mk i l b ps x ks) && rightssV lt ks
def rightssV (lt : Txt → Txt → Bool) : List Nd → Bool
  | [] => true
  | k :: r => rightsV lt k && rightssV lt r
end
def rightV (lt : Txt → Txt → Bool) (t : Nd) : Bool := !t.leaf && rightsV lt t
/-- are two nodes alike by themselves? -/
def alikeA (a b : Nd) : Bool := a.leaf == b.leaf && a.label == b.label && a.text == b.text && a.attrs == b.attrs
def sameA (a b : Nd) : Bool := a.id == b.id && alikeA a b
mutual
def eqV (f : Nd → Nd → Bool) : Nd → Nd → Bool
  | .mk i l b ps x ks, t => f (.mk i l b ps x ks) t && eqsV f ks t.kids
def eqsV (f : Nd → Nd → Bool) : List Nd → List Nd → Bool
  | [], [] => true
  | k :: r, m :: s => eqV f k m && eqsV f r s
  | _, _ => false
end
def atV : Nd → List Int → Option Nd
  | t, [] => some t
  | t, i :: p => if 0 ≤ i then match t.kids[i.toNat]? with
    | some k => atV k p
    | none => none else none
def putV : Nd → List Int → Nd → Option Nd
  | _, [], x => some x
  | t, i :: p, x => if 0 ≤ i then match t.kids[i.toNat]? with
    | some k => match putV k p x with
      | some k' => some (t.withKids (t.kids.set i.toNat k'))
      | none => none
    | none => none else none
/-- how much a tree has -/
def attrsW : List (Txt × Txt) → Nat
  | [] => 0
  | a :: r => 1 + a.1.length + a.2.length + attrsW r
mutual
def weighV : Nd → Nat
  | .mk _ _ b ps x ks => 1 + b.length + x.length + attrsW ps + weighsV ks
def weighsV : List Nd → Nat
  | [] => 0
  | k :: r => weighV k + weighsV r
end

theorem countV_eq (t : Nd) : countV t = 1 + countsV t.kids := by cases t; simp [countV, Nd.kids]
theorem rightsV_eq (lt : Txt → Txt → Bool) (t : Nd) : rightsV lt t = (aloneOk lt t && rightssV lt t.kids) := by cases t; simp [rightsV, Nd.kids]
theorem eqV_eq (f : Nd → Nd → Bool) (s t : Nd) : eqV f s t = (f s t && eqsV f s.kids t.kids) := by cases s; simp [eqV, Nd.kids]
theorem weighV_eq (t : Nd) : weighV t = 1 + t.label.length + t.text.length + attrsW t.attrs + weighsV t.kids := by cases t; simp [weighV, Nd.kids, Nd.label, Nd.text, Nd.attrs]
theorem weighsV_append (l m : List Nd) : weighsV (l ++ m) = weighsV l + weighsV m := by
  induction l with
  | nil => simp [weighsV]
  | cons k r ih => simp [weighsV, ih]; omega
theorem countsV_append (l m : List Nd) : countsV (l ++ m) = countsV l + countsV m := by
  induction l with
  | nil => simp [countsV]
  | cons k r ih => simp [countsV, ih]; omega
theorem attrsW_append (l m : List (Txt × Txt)) : attrsW (l ++ m) = attrsW l + attrsW m := by
  induction l with
  | nil => simp [attrsW]
  | cons k r ih => simp [attrsW, ih]; omega

/-! ### a tree weighs as much as what is counted of it -/
theorem attrsLen_le (l : List (Txt × Txt)) : attrsLen l + l.length ≤ attrsW l := by
  induction l with
  | nil => simp [attrsLen, attrsW]
  | cons k r ih => simp [attrsLen, attrsW]; omega
theorem count_pos (t : Nd) : 1 ≤ countV t := by rw [countV_eq]; omega
mutual
theorem count_le : ∀ t : Nd, countV t ≤ weighV t
  | .mk i l b ps x ks => by
    have := counts_le ks
    simp only [countV, weighV]
    omega
theorem counts_le : ∀ l : List Nd, countsV l ≤ weighsV l
  | [] => by simp [countsV, weighsV]
  | k :: r => by
    have h1 := count_le k
    have h2 := counts_le r
    simp only [countsV, weighsV]
    omega
end
theorem kids_le (t : Nd) : t.kids.length + 1 ≤ countV t := by
  rw [countV_eq]
  have : ∀ l : List Nd, l.length ≤ countsV l := by
    intro l
    induction l with
    | nil => simp
    | cons k r ih =>
      have := count_pos k
      simp only [List.length_cons, countsV]
      omega
  have := this t.kids
  omega

/-! ### the nodes in the order of the document, each with how deep it is -/
mutual
def preV (d : Nat) : Nd → List (Nat × Nd)
  | .mk i l b ps x ks => (d, .mk i l b ps x ks) :: presV (d + 1) ks
def presV (d : Nat) : List Nd → List (Nat × Nd)
  | [] => []
  | k :: r => preV d k ++ presV d r
end
theorem preV_eq (d : Nat) (t : Nd) : preV d t = (d, t) :: presV (d + 1) t.kids := by cases t; simp [preV, Nd.kids]
mutual
theorem pre_len : ∀ (t : Nd) (d : Nat), (preV d t).length = countV t
  | .mk i l b ps x ks, d => by simp only [preV, countV, List.length_cons]; rw [pres_len ks (d + 1)]; omega
theorem pres_len : ∀ (l : List Nd) (d : Nat), (presV d l).length = countsV l
  | [], d => by simp [presV, countsV]
  | k :: r, d => by simp only [presV, countsV, List.length_append]; rw [pre_len k d, pres_len r d]
end
mutual
theorem pre_right (lt : Txt → Txt → Bool) : ∀ (t : Nd) (d : Nat), (preV d t).all (fun e => aloneOk lt e.2) = rightsV lt t
  | .mk i l b ps x ks, d => by
    simp only [preV, rightsV, List.all_cons]
    rw [pres_right lt ks (d + 1)]
theorem pres_right (lt : Txt → Txt → Bool) : ∀ (l : List Nd) (d : Nat), (presV d l).all (fun e => aloneOk lt e.2) = rightssV lt l
  | [], d => by simp [presV, rightssV]
  | k :: r, d => by simp only [presV, rightssV, List.all_append]; rw [pre_right lt k d, pres_right lt r d]
end

/-! ### where one stands who goes through a tree: rows of nodes to come, the deepest first -/
abbrev Stk := List (List Nd)
def todo : Stk → List (Nat × Nd)
  | [] => []
  | row :: rest => presV rest.length row ++ todo rest
/-- the next node -/
def nextV : Stk → Option (Nat × Nd × Stk)
  | [] => none
  | [] :: rest => nextV rest
  | (x :: r) :: rest => some (rest.length, x, x.kids :: r :: rest)
theorem todo_next : ∀ s : Stk, match nextV s with
    | none => todo s = []
    | some (d, x, s') => todo s = (d, x) :: todo s'
  | [] => rfl
  | [] :: rest => by
    have h := todo_next rest
    have e : todo ([] :: rest) = todo rest := by simp [todo, presV]
    rw [nextV, e]
    exact h
  | (x :: r) :: rest => by
    simp only [nextV, todo, presV, preV_eq, List.cons_append, List.append_assoc, List.length_cons]
theorem todo_root (t : Nd) : todo [[t]] = preV 0 t := by simp [todo, presV]

/-- the sizes of two stacks -/
def shape (s : Stk) : List Nat := s.map List.length
theorem nextV_shape : ∀ s u : Stk, shape s = shape u → (nextV s).isSome = (nextV u).isSome
  | [], [], _ => rfl
  | [], _ :: _, h => by simp [shape] at h
  | _ :: _, [], h => by simp [shape] at h
  | [] :: rest, row :: rest', h => by
    simp only [shape, List.map_cons, List.cons.injEq, List.length_nil] at h
    obtain rfl : row = [] := List.length_eq_zero_iff.1 h.1.symm
    simp only [nextV]
    exact nextV_shape rest rest' h.2
  | (x :: r) :: rest, row :: rest', h => by
    simp only [shape, List.map_cons, List.cons.injEq, List.length_cons] at h
    cases row with
    | nil => simp at h
    | cons y q => simp [nextV]
/-- what two stacks of one shape come to -/
def lock (f : Nd → Nd → Bool) : Stk → Stk → Bool
  | [], [] => true
  | a :: s, b :: u => eqsV f a b && lock f s u
  | _, _ => false
theorem eqsV_len (f : Nd → Nd → Bool) : ∀ a b : List Nd, a.length ≠ b.length → eqsV f a b = false
  | [], [], h => absurd rfl h
  | [], _ :: _, _ => by simp [eqsV]
  | _ :: _, [], _ => by simp [eqsV]
  | k :: r, m :: s, h => by
    simp only [eqsV]
    rw [eqsV_len f r s (by simpa using h), Bool.and_false]
theorem lock_next (f : Nd → Nd → Bool) : ∀ s u : Stk, shape s = shape u → match nextV s, nextV u with
    | some (_, x, s'), some (_, y, u') => lock f s u = (f x y && lock f s' u') ∧ (x.kids.length = y.kids.length → shape s' = shape u') ∧ (x.kids.length ≠ y.kids.length → lock f s u = false)
    | none, none => lock f s u = true
    | _, _ => False
  | [], [], _ => by simp [nextV, lock]
  | [], _ :: _, h => by simp [shape] at h
  | _ :: _, [], h => by simp [shape] at h
  | [] :: rest, row :: rest', h => by
    simp only [shape, List.map_cons, List.cons.injEq, List.length_nil] at h
    obtain rfl : row = [] := List.length_eq_zero_iff.1 h.1.symm
    have ih := lock_next f rest rest' h.2
    simp only [nextV, lock, eqsV, Bool.true_and]
    exact ih
  | (x :: r) :: rest, row :: rest', h => by
    simp only [shape, List.map_cons, List.cons.injEq, List.length_cons] at h
    cases row with
    | nil => simp at h
    | cons y q =>
      simp only [nextV, lock, eqsV, eqV_eq, Bool.and_assoc]
      refine ⟨trivial, fun hk => ?_, fun hk => ?_⟩
      · have h1 : r.length = q.length := by have := h.1; simp at this; exact this
        simp only [shape, List.map_cons, hk, h1]
        rw [show rest.map List.length = rest'.map List.length from h.2]
      · rw [eqsV_len f _ _ hk]
        simp
end Go.Proofs.Ytpoenlhikanooaa
/- Edits of a text, as values: what stands between the bytes that are kept (gaps); normal edits; a text, edited. -/
namespace Go.Proofs.Ytpoenlhikanooaa.Ltx
set_option linter.unusedVariables false
structure Pc where
  keep : Nat
  drop : Nat
  put : List UInt8
deriving DecidableEq
/-- what is put, and how many are dropped, behind j bytes that are kept -/
def gap : List Pc → Nat → List UInt8 × Nat
  | [], _ => ([], 0)
  | p :: r, j => if j < p.keep then ([], 0) else if j = p.keep then (p.put ++ (gap r 0).1, p.drop + (gap r 0).2) else gap r (j - p.keep)
def extent : List Pc → Nat
  | [] => 0
  | p :: r => p.keep + p.drop + extent r
def keeps : List Pc → Nat
  | [] => 0
  | p :: r => p.keep + keeps r
def apply : List UInt8 → List Pc → List UInt8
  | t, [] => t
  | t, p :: r => t.take p.keep ++ p.put ++ apply (t.drop (p.keep + p.drop)) r
/-- a piece that neither puts nor drops -/
def idle (p : Pc) : Bool := p.put.isEmpty && p.drop == 0
/-- the last one of a row, with more behind it -/
def joinLast (out : List Pc) (p : Pc) : List Pc :=
  match out.getLast? with
  | none => out
  | some q => out.dropLast ++ [⟨q.keep, q.drop + p.drop, q.put ++ p.put⟩]
def normStep (s : List Pc × Nat) (p : Pc) : List Pc × Nat :=
  if idle p then (s.1, s.2 + p.keep)
  else if s.2 + p.keep = 0 ∧ s.1 ≠ [] then (joinLast s.1 p, 0)
  else (s.1 ++ [⟨s.2 + p.keep, p.drop, p.put⟩], 0)
def norm (l : List Pc) : List Pc := (l.foldl normStep ([], 0)).1

/-! ### gaps -/
theorem gap_append : ∀ (l m : List Pc) (j : Nat), gap (l ++ m) j =
    if j < keeps l then gap l j else if j = keeps l then ((gap l j).1 ++ (gap m 0).1, (gap l j).2 + (gap m 0).2) else gap m (j - keeps l)
  | [], m, j => by
    simp only [List.nil_append, keeps, Nat.not_lt_zero, if_false, gap, Nat.sub_zero, Nat.zero_add]
    split
    · rename_i h; subst h; simp
    · rfl
  | p :: r, m, j => by
    have ih := gap_append r m
    have hk : keeps (p :: r) = p.keep + keeps r := rfl
    simp only [List.cons_append, gap]
    by_cases h1 : j < p.keep
    · rw [if_pos h1, if_pos h1, if_pos (by omega)]
    · rw [if_neg h1, if_neg h1]
      by_cases h2 : j = p.keep
      · rw [if_pos h2, if_pos h2]
        have i0 := ih 0
        by_cases h3 : 0 < keeps r
        · rw [if_pos (by omega), i0, if_pos h3]
        · rw [if_neg (by omega), if_pos (by omega), i0, if_neg h3, if_pos (by omega)]
          simp [Nat.add_assoc]
      · rw [if_neg h2, if_neg h2, ih (j - p.keep)]
        by_cases h3 : j - p.keep < keeps r
        · rw [if_pos h3, if_pos (by omega)]
        · rw [if_neg h3, if_neg (show ¬ j < keeps (p :: r) by omega)]
          by_cases h4 : j - p.keep = keeps r
          · rw [if_pos h4, if_pos (show j = keeps (p :: r) by omega)]
          · rw [if_neg h4, if_neg (show ¬ j = keeps (p :: r) by omega)]
            congr 1
            omega
theorem gap_far : ∀ (l : List Pc) (j : Nat), keeps l < j → gap l j = ([], 0)
  | [], _, _ => rfl
  | p :: r, j, h => by
    unfold keeps at h
    unfold gap
    rw [if_neg (by omega), if_neg (by omega)]
    exact gap_far r _ (by omega)
/-- pieces all of which do something, and keep something -/
def NormalT (l : List Pc) : Prop := ∀ p ∈ l, idle p = false ∧ p.keep ≠ 0
def Normal : List Pc → Prop
  | [] => True
  | p :: r => idle p = false ∧ NormalT r
theorem NormalT.zero : ∀ {l : List Pc}, NormalT l → gap l 0 = ([], 0)
  | [], _ => rfl
  | p :: r, h => by
    have := (h p List.mem_cons_self).2
    unfold gap
    rw [if_pos (by omega)]
theorem NormalT.normal : ∀ {l : List Pc}, NormalT l → Normal l
  | [], _ => trivial
  | p :: r, h => ⟨(h p List.mem_cons_self).1, fun q hq => h q (List.mem_cons_of_mem _ hq)⟩
/-! ### what norm does -/
theorem keeps_append (l m : List Pc) : keeps (l ++ m) = keeps l + keeps m := by
  induction l with
  | nil => simp [keeps]
  | cons p r ih => simp [keeps, ih, Nat.add_assoc]
/-- the state stands for what has been read -/
structure Stands (s : List Pc × Nat) (l : List Pc) : Prop where
  nm : Normal s.1
  ks : keeps s.1 + s.2 = keeps l
  gs : ∀ j, gap s.1 j = gap l j
theorem normal_snoc {l : List Pc} {p : Pc} (h : Normal l) (hp : idle p = false) (hk : l = [] ∨ p.keep ≠ 0) : Normal (l ++ [p]) := by
  cases l with
  | nil => exact ⟨hp, fun q hq => by cases hq⟩
  | cons q r =>
    refine ⟨h.1, fun x hx => ?_⟩
    rcases List.mem_append.1 hx with hx | hx
    · exact h.2 x hx
    · obtain rfl := List.mem_singleton.1 hx
      exact ⟨hp, hk.resolve_left (by simp)⟩
theorem Stands.step {s : List Pc × Nat} {l : List Pc} (h : Stands s l) (p : Pc) : Stands (normStep s p) (l ++ [p]) := by
  obtain ⟨out, k⟩ := s
  obtain ⟨hn, hk, hg⟩ := h
  dsimp only at hn hk hg
  have hone : ∀ j, gap [p] j = if j = p.keep then (p.put, p.drop) else ([], 0) := fun j => by
    unfold gap
    split
    · rw [if_neg (by omega)]
    · split
      · simp [gap]
      · rfl
  unfold normStep
  dsimp only
  by_cases hi : idle p = true
  · rw [if_pos hi]
    refine ⟨hn, by rw [keeps_append]; simp [keeps]; omega, fun j => ?_⟩
    have hp : p.put = [] ∧ p.drop = 0 := by unfold idle at hi; simpa using hi
    dsimp only
    rw [hg j, gap_append]
    split
    · rfl
    · split
      · rename_i h1 h2
        have : gap [p] 0 = ([], 0) := by rw [hone, hp.1, hp.2]; split <;> rfl
        rw [this]
        simp
      · rename_i h1 h2
        rw [gap_far l j (by omega), hone, hp.1, hp.2]
        split <;> rfl
  · have hi' : idle p = false := by simpa using hi
    rw [if_neg hi]
    by_cases hz : k + p.keep = 0 ∧ out ≠ []
    · rw [if_pos hz]
      obtain ⟨hz1, hz2⟩ := hz
      obtain ⟨init, q, rfl⟩ : ∃ init q, out = init ++ [q] := ⟨out.dropLast, out.getLast hz2, (List.dropLast_concat_getLast hz2).symm⟩
      have hj : joinLast (init ++ [q]) p = init ++ [⟨q.keep, q.drop + p.drop, q.put ++ p.put⟩] := by
        unfold joinLast
        simp
      rw [hj]
      have hk2 : keeps (init ++ [(⟨q.keep, q.drop + p.drop, q.put ++ p.put⟩ : Pc)]) = keeps (init ++ [q]) := by rw [keeps_append, keeps_append]; rfl
      have hpk : p.keep = 0 := by omega
      have hk0 : k = 0 := by omega
      have hidle : idle (⟨q.keep, q.drop + p.drop, q.put ++ p.put⟩ : Pc) = false := by
        unfold idle at hi' ⊢
        simp only [Bool.and_eq_false_iff] at hi' ⊢
        rcases hi' with h | h
        · left
          cases hpp : p.put with
          | nil => rw [hpp] at h; cases h
          | cons a b => simp
        · right
          simp at h ⊢
          omega
      refine ⟨?_, ?_, fun j => ?_⟩
      · cases init with
        | nil => exact ⟨hidle, fun x hx => by cases hx⟩
        | cons a r =>
          refine ⟨hn.1, fun x hx => ?_⟩
          rcases List.mem_append.1 hx with hx | hx
          · exact hn.2 x (List.mem_append_left _ hx)
          · obtain rfl := List.mem_singleton.1 hx
            exact ⟨hidle, (hn.2 q (List.mem_append_right _ List.mem_cons_self)).2⟩
      · dsimp only
        rw [hk2, keeps_append l]
        simp [keeps]
        omega
      · dsimp only
        have hkl : keeps (init ++ [q]) = keeps l := by omega
        have e1 : gap (init ++ [(⟨q.keep, q.drop + p.drop, q.put ++ p.put⟩ : Pc)]) j = gap ((init ++ [q]) ++ [p]) j := by
          rw [gap_append, gap_append (init ++ [q]), gap_append init [q], keeps_append]
          have hq : ∀ i, gap [q] i = if i = q.keep then (q.put, q.drop) else ([], 0) := fun i => by
            unfold gap
            split
            · rw [if_neg (by omega)]
            · split
              · simp [gap]
              · rfl
          have hq2 : ∀ i, gap [(⟨q.keep, q.drop + p.drop, q.put ++ p.put⟩ : Pc)] i = if i = q.keep then (q.put ++ p.put, q.drop + p.drop) else ([], 0) := fun i => by
            unfold gap
            dsimp only
            split
            · rw [if_neg (by omega)]
            · split
              · simp [gap]
              · rfl
          simp only [hq, hq2, hone, keeps, hpk, Nat.add_zero]
          by_cases h1 : j < keeps init
          · rw [if_pos h1, if_pos (by omega), if_pos h1]
          · rw [if_neg h1]
            by_cases h2 : j = keeps init
            · subst h2
              by_cases h3 : q.keep = 0
              · simp [h3, Nat.add_assoc]
              · have h4 : ¬ 0 = q.keep := fun e => h3 e.symm
                have h5 : 0 < q.keep := by omega
                simp [h4, h5]
            · rw [if_neg h2]
              by_cases h3 : j - keeps init = q.keep
              · have h4 : j = keeps init + q.keep := by omega
                rw [if_pos h3, if_neg (by omega), if_pos h4, if_neg (by omega), if_neg h2, if_pos h3]
                simp
              · rw [if_neg h3]
                by_cases h4 : j < keeps init + q.keep
                · rw [if_pos h4, if_neg (by omega), if_neg h2, if_neg h3]
                · rw [if_neg h4, if_neg (by omega), if_neg (by omega)]
        rw [e1, gap_append, gap_append l]
        rw [hkl, hg j]
    · rw [if_neg hz]
      refine ⟨normal_snoc hn hi' ?_, ?_, fun j => ?_⟩
      · by_cases ho : out = []
        · exact .inl ho
        · exact .inr fun e => hz ⟨e, ho⟩
      · dsimp only
        rw [keeps_append, keeps_append]
        simp [keeps]
        omega
      · dsimp only
        have hx : ∀ i, gap [(⟨k + p.keep, p.drop, p.put⟩ : Pc)] i = if i = k + p.keep then (p.put, p.drop) else ([], 0) := fun i => by
          unfold gap
          dsimp only
          split
          · rw [if_neg (by omega)]
          · split
            · simp [gap]
            · rfl
        rw [gap_append, gap_append l, hx, hx, hone, hone, hg]
        by_cases h1 : j < keeps out
        · rw [if_pos h1, if_pos (by omega)]
        · rw [if_neg h1]
          by_cases h2 : j = keeps out
          · rw [if_pos h2]
            by_cases h3 : k = 0
            · have h4 : j = keeps l := by omega
              rw [if_neg (show ¬ j < keeps l by omega), if_pos h4, h3, Nat.zero_add]
            · have h5 : ¬ (0 = k + p.keep) := by omega
              rw [if_pos (show j < keeps l by omega), if_neg h5]
              simp
          · rw [if_neg h2]
            by_cases h3 : j < keeps l
            · rw [if_pos h3, if_neg (by omega)]
              have := hg j
              rw [gap_far out j (by omega)] at this
              exact this
            · rw [if_neg h3]
              by_cases h4 : j = keeps l
              · rw [if_pos h4]
                have := hg j
                rw [gap_far out j (by omega)] at this
                rw [← this]
                by_cases h5 : p.keep = 0
                · rw [if_pos (by omega), if_pos h5.symm]
                  simp
                · rw [if_neg (by omega), if_neg (fun e => h5 e.symm)]
                  rfl
              · rw [if_neg h4]
                by_cases h5 : j - keeps l = p.keep
                · rw [if_pos (by omega), if_pos h5]
                · rw [if_neg (by omega), if_neg h5]
end Go.Proofs.Ytpoenlhikanooaa.Ltx
/- A text, edited; edits place by place; what becomes of an edit behind another one; both ways round. -/
namespace Go.Proofs.Ytpoenlhikanooaa.Ltx
set_option linter.unusedVariables false
def emit : List UInt8 → List Pc → List UInt8
  | _, [] => []
  | t, p :: r => t.take p.keep ++ p.put ++ emit (t.drop (p.keep + p.drop)) r
theorem apply_emit : ∀ (l : List Pc) (t : List UInt8), apply t l = emit t l ++ t.drop (extent l)
  | [], t => by simp [apply, emit, extent]
  | p :: r, t => by
    simp only [apply, emit, extent]
    rw [apply_emit r, List.drop_drop]
    simp [List.append_assoc]
theorem extent_append (l m : List Pc) : extent (l ++ m) = extent l + extent m := by
  induction l with
  | nil => simp [extent]
  | cons p r ih => simp [extent, ih, Nat.add_assoc]
theorem emit_append : ∀ (l m : List Pc) (t : List UInt8), emit t (l ++ m) = emit t l ++ emit (t.drop (extent l)) m
  | [], m, t => by simp [emit, extent]
  | p :: r, m, t => by
    simp only [List.cons_append, emit, extent]
    rw [emit_append r m, List.drop_drop]
    simp [List.append_assoc]
/-- what is read so far, and the bytes kept since: they do the same -/
def Does (s : List Pc × Nat) (l : List Pc) : Prop := (∀ t, emit t s.1 ++ (t.drop (extent s.1)).take s.2 = emit t l) ∧ extent s.1 + s.2 = extent l
theorem Does.step {s : List Pc × Nat} {l : List Pc} (h : Does s l) (p : Pc) : Does (normStep s p) (l ++ [p]) := by
  obtain ⟨out, k⟩ := s
  obtain ⟨he, hx⟩ := h
  dsimp only at he hx
  have hone : ∀ t, emit t (l ++ [p]) = emit t l ++ (t.drop (extent l)).take p.keep ++ p.put := fun t => by
    rw [emit_append]
    simp [emit, List.append_assoc]
  have htake : ∀ t : List UInt8, (t.drop (extent out)).take k ++ (t.drop (extent l)).take p.keep = (t.drop (extent out)).take (k + p.keep) := fun t => by
    rw [List.take_add, List.drop_drop, hx]
  unfold normStep
  dsimp only
  by_cases hi : idle p = true
  · rw [if_pos hi]
    have hp : p.put = [] ∧ p.drop = 0 := by unfold idle at hi; simpa using hi
    refine ⟨fun t => ?_, by rw [extent_append]; simp [extent, hp.2]; omega⟩
    dsimp only
    rw [hone, ← he t, hp.1, List.append_nil, List.append_assoc, htake]
  · rw [if_neg hi]
    by_cases hz : k + p.keep = 0 ∧ out ≠ []
    · rw [if_pos hz]
      obtain ⟨hz1, hz2⟩ := hz
      obtain ⟨init, q, rfl⟩ : ∃ init q, out = init ++ [q] := ⟨out.dropLast, out.getLast hz2, (List.dropLast_concat_getLast hz2).symm⟩
      have hj : joinLast (init ++ [q]) p = init ++ [⟨q.keep, q.drop + p.drop, q.put ++ p.put⟩] := by
        unfold joinLast
        simp
      rw [hj]
      have hpk : p.keep = 0 := by omega
      have hk0 : k = 0 := by omega
      subst hk0
      refine ⟨fun t => ?_, ?_⟩
      · dsimp only
        rw [hone, ← he t, hpk, emit_append, emit_append]
        simp [emit, List.append_assoc]
      · dsimp only
        rw [extent_append] at hx ⊢
        rw [extent_append l]
        simp [extent] at hx ⊢
        omega
    · rw [if_neg hz]
      refine ⟨fun t => ?_, ?_⟩
      · dsimp only
        rw [hone, ← he t, emit_append]
        simp only [emit, List.append_nil, List.take_zero, List.append_assoc]
        rw [← List.append_assoc (List.take k _), htake]
      · dsimp only
        rw [extent_append, extent_append]
        simp [extent]
        omega
/-! ### place by place -/
def putAt : List Pc → Nat → List UInt8
  | [], _ => []
  | p :: r, i => if i < p.keep then [] else if i = p.keep then p.put ++ (if p.drop = 0 then putAt r 0 else []) else if i < p.keep + p.drop then [] else putAt r (i - (p.keep + p.drop))
def dropAt : List Pc → Nat → Bool
  | [], _ => false
  | p :: r, i => if i < p.keep then false else if i < p.keep + p.drop then true else dropAt r (i - (p.keep + p.drop))
/-! ### behind each other -/
section
variable (pa pb : Nat → List UInt8) (da db : Nat → Bool) (first : Bool)
def ends (i : Nat) : List Pc := if first then [⟨0, 0, pa i⟩, ⟨(pb i).length, 0, []⟩] else [⟨(pb i).length, 0, []⟩, ⟨0, 0, pa i⟩]
def mid (i : Nat) : List Pc := if db i then [] else if da i then [⟨0, 1, []⟩] else [⟨1, 0, []⟩]
/-- a behind b, at k more places from i on -/
def behind : Nat → Nat → List Pc
  | 0, i => ends pa pb first i
  | k + 1, i => ends pa pb first i ++ mid da db i ++ behind k (i + 1)
end
end Go.Proofs.Ytpoenlhikanooaa.Ltx
/- What undoes an edit; how many bytes an edit behind another one tells of. -/
namespace Go.Proofs.Ytpoenlhikanooaa.Ltx
set_option linter.unusedVariables false
/-- what becomes of a behind b, both normal: by n places, n as far as both tell -/
def trans (a b : List Pc) (first : Bool) : List Pc := norm (behind (putAt a) (putAt b) (dropAt a) (dropAt b) first (max (extent a) (extent b)) 0)
end Go.Proofs.Ytpoenlhikanooaa.Ltx
/- How much an edit puts, drops, and how many pieces it has: behind another one, made normal, undone. -/
namespace Go.Proofs.Ytpoenlhikanooaa.Ltx
set_option linter.unusedVariables false
def puts : List Pc → Nat
  | [] => 0
  | p :: r => p.put.length + puts r
theorem puts_append (l m : List Pc) : puts (l ++ m) = puts l + puts m := by
  induction l with
  | nil => simp [puts]
  | cons p r ih => simp [puts, ih, Nat.add_assoc]
theorem apply_len : ∀ (l : List Pc) (t : List UInt8), (apply t l).length ≤ t.length + puts l
  | [], t => by simp [apply, puts]
  | p :: r, t => by
    have := apply_len r (t.drop (p.keep + p.drop))
    rw [apply]
    simp only [List.length_append, List.length_take, puts]
    rw [List.length_drop] at this
    omega
end Go.Proofs.Ytpoenlhikanooaa.Ltx
/- Two edits, composed: the document's way, by the bytes that stay and those that are new. -/
namespace Go.Proofs.Ytpoenlhikanooaa.Ltx
set_option linter.unusedVariables false
/-- a byte: one of the text, by its place, or a new one -/
inductive It where
  | old (w : Nat)
  | new (c : UInt8)
section
variable {α : Type} (f : UInt8 → α)
end
section
variable (pu : Nat → List UInt8) (dr : Nat → Bool)
end
end Go.Proofs.Ytpoenlhikanooaa.Ltx
