/- Trees by value: what the document says of them; the nodes in the order of the document. -/
import Derived.Test.YtacmofhlbebonaaProg
namespace Go.Proofs.Ytacmofhlbebonaa

abbrev Txt := List UInt8
inductive Nd where
  | mk (id : Nat) (leaf : Bool) (label : Txt) (attrs : List (Txt × Txt)) (text : Txt) (kids : List Nd)
namespace Nd
def id : Nd → Nat | .mk i _ _ _ _ _ => i
def leaf : Nd → Bool | .mk _ l _ _ _ _ => l
def label : Nd → Txt | .mk _ _ l _ _ _ => l
def attrs : Nd → List (Txt × Txt) | .mk _ _ _ a _ _ => a
def text : Nd → Txt | .mk _ _ _ _ t _ => t
def kids : Nd → List Nd | .mk _ _ _ _ _ k => k
def zero : Nd := .mk 0 false [] [] [] []
/-- a tree with other children -/
def withKids : Nd → List Nd → Nd | .mk i l b a t _, k => .mk i l b a t k
theorem kid_lt {t k : Nd} (h : k ∈ t.kids) : SizeOf.sizeOf k < SizeOf.sizeOf t := by
  cases t with
  | mk i l b a x ks =>
    have := List.sizeOf_lt_of_mem (show k ∈ ks from h)
    simp only [mk.sizeOf_spec]
    omega
/-- what holds of a tree wherever it holds of its children holds of all -/
theorem ind {p : Nd → Prop} (h : ∀ t : Nd, (∀ k ∈ t.kids, p k) → p t) (t : Nd) : p t := by
  generalize hn : SizeOf.sizeOf t = n
  induction n using Nat.strongRecOn generalizing t with
  | _ n ih => exact h t fun k hk => ih _ (by have := kid_lt hk; omega) k rfl
end Nd

/-! ### what the document says -/
mutual
def countV : Nd → Nat
  | .mk _ _ _ _ _ ks => 1 + countsV ks
def countsV : List Nd → Nat
  | [] => 0
  | k :: r => countV k + countsV r
end
mutual
def depthV : Nd → Nat
  | .mk _ _ _ _ _ ks => depthsV ks
def depthsV : List Nd → Nat
  | [] => 0
  | k :: r => max (1 + depthV k) (depthsV r)
end
def attrsLen : List (Txt × Txt) → Nat
  | [] => 0
  | a :: r => a.1.length + a.2.length + attrsLen r
def ownLong (t : Nd) : Nat := t.text.length + attrsLen t.attrs
mutual
def longV : Nd → Nat
  | .mk _ _ _ ps x ks => max (x.length + attrsLen ps) (longsV ks)
def longsV : List Nd → Nat
  | [] => 0
  | k :: r => max (longV k) (longsV r)
end
mutual
def idsV : Nd → List Nat
  | .mk i _ _ _ _ ks => i :: idssV ks
def idssV : List Nd → List Nat
  | [] => []
  | k :: r => idsV k ++ idssV r
end
def keyB (s : Txt) : Bool := decide (1 ≤ s.length ∧ s.length ≤ 64)
/-- do the keys rise, and are all parts of a right length? last: the key ahead -/
def attrsOk (lt : Txt → Txt → Bool) : Txt → List (Txt × Txt) → Bool
  | _, [] => true
  | last, a :: r => keyB a.1 && lt last a.1 && decide (a.2.length ≤ 256) && attrsOk lt a.1 r
/-- is a node right by itself? -/
def aloneOk (lt : Txt → Txt → Bool) (t : Nd) : Bool :=
  decide (t.label.length ≤ 64) && attrsOk lt [] t.attrs && (if t.leaf then t.kids.isEmpty else t.text.isEmpty)
mutual
def rightsV (lt : Txt → Txt → Bool) : Nd → Bool
  | .mk i l b ps x ks => aloneOk lt (.mk i l b ps x ks) && rightssV lt ks
def rightssV (lt : Txt → Txt → Bool) : List Nd → Bool
  | [] => true
  | k :: r => rightsV lt k && rightssV lt r
end
def rightV (lt : Txt → Txt → Bool) (t : Nd) : Bool := !t.leaf && rightsV lt t
/-- are two nodes alike by themselves? -/
def alikeA (a b : Nd) : Bool := a.leaf == b.leaf && a.label == b.label && a.text == b.text && a.attrs == b.attrs
def sameA (a b : Nd) : Bool := a.id == b.id && alikeA a b
mutual
def eqV (f : Nd → Nd → Bool) : Nd → Nd → Bool
  | .mk i l b ps x ks, t => f (.mk i l b ps x ks) t && eqsV f ks t.kids
def eqsV (f : Nd → Nd → Bool) : List Nd → List Nd → Bool
  | [], [] => true
  | k :: r, m :: s => eqV f k m && eqsV f r s
  | _, _ => false
end
def alikeV (a b : Nd) : Bool := eqV alikeA a b
def sameV (a b : Nd) : Bool := eqV sameA a b
def atV : Nd → List Int → Option Nd
  | t, [] => some t
  | t, i :: p => if 0 ≤ i then match t.kids[i.toNat]? with
    | some k => atV k p
    | none => none else none
def putV : Nd → List Int → Nd → Option Nd
  | _, [], x => some x
  | t, i :: p, x => if 0 ≤ i then match t.kids[i.toNat]? with
    | some k => match putV k p x with
      | some k' => some (t.withKids (t.kids.set i.toNat k'))
      | none => none
    | none => none else none
def attrV : List (Txt × Txt) → Txt → Option Txt
  | [], _ => none
  | a :: r, k => if a.1 == k then some a.2 else attrV r k
/-- how much a tree has -/
def attrsW : List (Txt × Txt) → Nat
  | [] => 0
  | a :: r => 1 + a.1.length + a.2.length + attrsW r
mutual
def weighV : Nd → Nat
  | .mk _ _ b ps x ks => 1 + b.length + x.length + attrsW ps + weighsV ks
def weighsV : List Nd → Nat
  | [] => 0
  | k :: r => weighV k + weighsV r
end

theorem countV_eq (t : Nd) : countV t = 1 + countsV t.kids := by cases t; simp [countV, Nd.kids]
theorem depthV_eq (t : Nd) : depthV t = depthsV t.kids := by cases t; simp [depthV, Nd.kids]
theorem longV_eq (t : Nd) : longV t = max (ownLong t) (longsV t.kids) := by cases t; simp [longV, Nd.kids, ownLong, Nd.text, Nd.attrs]
theorem idsV_eq (t : Nd) : idsV t = t.id :: idssV t.kids := by cases t; simp [idsV, Nd.kids, Nd.id]
theorem rightsV_eq (lt : Txt → Txt → Bool) (t : Nd) : rightsV lt t = (aloneOk lt t && rightssV lt t.kids) := by cases t; simp [rightsV, Nd.kids]
theorem eqV_eq (f : Nd → Nd → Bool) (s t : Nd) : eqV f s t = (f s t && eqsV f s.kids t.kids) := by cases s; simp [eqV, Nd.kids]
theorem weighV_eq (t : Nd) : weighV t = 1 + t.label.length + t.text.length + attrsW t.attrs + weighsV t.kids := by cases t; simp [weighV, Nd.kids, Nd.label, Nd.text, Nd.attrs]
theorem weighsV_append (l m : List Nd) : weighsV (l ++ m) = weighsV l + weighsV m := by
  induction l with
  | nil => simp [weighsV]
  | cons k r ih => simp [weighsV, ih]; omega
theorem countsV_append (l m : List Nd) : countsV (l ++ m) = countsV l + countsV m := by
  induction l with
  | nil => simp [countsV]
  | cons k r ih => simp [countsV, ih]; omega
theorem idssV_append (l m : List Nd) : idssV (l ++ m) = idssV l ++ idssV m := by
  induction l with
  | nil => simp [idssV]
  | cons k r ih => simp [idssV, ih]
theorem longsV_append (l m : List Nd) : longsV (l ++ m) = max (longsV l) (longsV m) := by
  induction l with
  | nil => simp [longsV]
  | cons k r ih => simp only [List.cons_append, longsV, ih]; omega
theorem depthsV_append (l m : List Nd) : depthsV (l ++ m) = max (depthsV l) (depthsV m) := by
  induction l with
  | nil => simp [depthsV]
  | cons k r ih => simp only [List.cons_append, depthsV, ih]; omega
theorem attrsLen_append (l m : List (Txt × Txt)) : attrsLen (l ++ m) = attrsLen l + attrsLen m := by
  induction l with
  | nil => simp [attrsLen]
  | cons k r ih => simp [attrsLen, ih]; omega
theorem attrsW_append (l m : List (Txt × Txt)) : attrsW (l ++ m) = attrsW l + attrsW m := by
  induction l with
  | nil => simp [attrsW]
  | cons k r ih => simp [attrsW, ih]; omega

/-! ### a tree weighs as much as what is counted of it -/
theorem attrsLen_le (l : List (Txt × Txt)) : attrsLen l + l.length ≤ attrsW l := by
  induction l with
  | nil => simp [attrsLen, attrsW]
  | cons k r ih => simp [attrsLen, attrsW]; omega
theorem count_pos (t : Nd) : 1 ≤ countV t := by rw [countV_eq]; omega
mutual
theorem count_le : ∀ t : Nd, countV t ≤ weighV t
  | .mk i l b ps x ks => by
    have := counts_le ks
    simp only [countV, weighV]
    omega
theorem counts_le : ∀ l : List Nd, countsV l ≤ weighsV l
  | [] => by simp [countsV, weighsV]
  | k :: r => by
    have h1 := count_le k
    have h2 := counts_le r
    simp only [countsV, weighsV]
    omega
end
mutual
theorem depth_lt : ∀ t : Nd, depthV t < countV t
  | .mk i l b ps x ks => by
    have := depths_le ks
    simp only [depthV, countV]
    omega
theorem depths_le : ∀ l : List Nd, depthsV l ≤ countsV l
  | [] => by simp [depthsV, countsV]
  | k :: r => by
    have h1 := depth_lt k
    have h2 := depths_le r
    simp only [depthsV, countsV]
    omega
end
mutual
theorem long_le : ∀ t : Nd, longV t ≤ weighV t
  | .mk i l b ps x ks => by
    have h1 := longs_le ks
    have h2 := attrsLen_le ps
    simp only [longV, weighV]
    omega
theorem longs_le : ∀ l : List Nd, longsV l ≤ weighsV l
  | [] => by simp [longsV, weighsV]
  | k :: r => by
    have h1 := long_le k
    have h2 := longs_le r
    simp only [longsV, weighsV]
    omega
end
theorem kids_le (t : Nd) : t.kids.length + 1 ≤ countV t := by
  rw [countV_eq]
  have : ∀ l : List Nd, l.length ≤ countsV l := by
    intro l
    induction l with
    | nil => simp
    | cons k r ih =>
      have := count_pos k
      simp only [List.length_cons, countsV]
      omega
  have := this t.kids
  omega

/-! ### the nodes in the order of the document, each with how deep it is -/
mutual
def preV (d : Nat) : Nd → List (Nat × Nd)
  | .mk i l b ps x ks => (d, .mk i l b ps x ks) :: presV (d + 1) ks
def presV (d : Nat) : List Nd → List (Nat × Nd)
  | [] => []
  | k :: r => preV d k ++ presV d r
end
theorem preV_eq (d : Nat) (t : Nd) : preV d t = (d, t) :: presV (d + 1) t.kids := by cases t; simp [preV, Nd.kids]
mutual
theorem pre_len : ∀ (t : Nd) (d : Nat), (preV d t).length = countV t
  | .mk i l b ps x ks, d => by simp only [preV, countV, List.length_cons]; rw [pres_len ks (d + 1)]; omega
theorem pres_len : ∀ (l : List Nd) (d : Nat), (presV d l).length = countsV l
  | [], d => by simp [presV, countsV]
  | k :: r, d => by simp only [presV, countsV, List.length_append]; rw [pre_len k d, pres_len r d]
end
mutual
theorem pre_ids : ∀ (t : Nd) (d : Nat), (preV d t).map (·.2.id) = idsV t
  | .mk i l b ps x ks, d => by simp only [preV, idsV, List.map_cons]; rw [pres_ids ks (d + 1)]; rfl
theorem pres_ids : ∀ (l : List Nd) (d : Nat), (presV d l).map (·.2.id) = idssV l
  | [], d => by simp [presV, idssV]
  | k :: r, d => by simp only [presV, idssV, List.map_append]; rw [pre_ids k d, pres_ids r d]
end
def maxOf {α : Type} (f : α → Nat) : List α → Nat
  | [] => 0
  | a :: r => max (f a) (maxOf f r)
theorem maxOf_append {α : Type} (f : α → Nat) (l m : List α) : maxOf f (l ++ m) = max (maxOf f l) (maxOf f m) := by
  induction l with
  | nil => simp [maxOf]
  | cons a r ih => simp only [List.cons_append, maxOf, ih]; omega
mutual
theorem pre_depth : ∀ (t : Nd) (d : Nat), maxOf (·.1) (preV d t) = d + depthV t
  | .mk i l b ps x ks, d => by
    simp only [preV, depthV, maxOf]
    have := pres_depth ks (d + 1)
    cases ks with
    | nil => simp [presV, maxOf, depthsV]
    | cons k r =>
      have h2 := this (by simp)
      have h : 1 ≤ depthsV (k :: r) := by simp only [depthsV]; omega
      omega
theorem pres_depth : ∀ (l : List Nd) (d : Nat), l ≠ [] → maxOf (·.1) (presV d l) + 1 = d + depthsV l
  | [], d => by intro h; exact absurd rfl h
  | [k], d => by
    intro _
    simp only [presV, depthsV, List.append_nil]
    rw [pre_depth k d]
    omega
  | k :: m :: r, d => by
    intro _
    have h1 := pre_depth k d
    have h2 := pres_depth (m :: r) d (by simp)
    rw [presV, maxOf_append, h1, depthsV]
    omega
end
mutual
theorem pre_long : ∀ (t : Nd) (d : Nat), maxOf (fun e => ownLong e.2) (preV d t) = longV t
  | .mk i l b ps x ks, d => by
    simp only [preV, longV, maxOf]
    rw [pres_long ks (d + 1)]
    rfl
theorem pres_long : ∀ (l : List Nd) (d : Nat), maxOf (fun e => ownLong e.2) (presV d l) = longsV l
  | [], d => by simp [presV, longsV, maxOf]
  | k :: r, d => by simp only [presV, longsV, maxOf_append]; rw [pre_long k d, pres_long r d]
end
mutual
theorem pre_right (lt : Txt → Txt → Bool) : ∀ (t : Nd) (d : Nat), (preV d t).all (fun e => aloneOk lt e.2) = rightsV lt t
  | .mk i l b ps x ks, d => by
    simp only [preV, rightsV, List.all_cons]
    rw [pres_right lt ks (d + 1)]
theorem pres_right (lt : Txt → Txt → Bool) : ∀ (l : List Nd) (d : Nat), (presV d l).all (fun e => aloneOk lt e.2) = rightssV lt l
  | [], d => by simp [presV, rightssV]
  | k :: r, d => by simp only [presV, rightssV, List.all_append]; rw [pre_right lt k d, pres_right lt r d]
end

/-! ### where one stands who goes through a tree: rows of nodes to come, the deepest first -/
abbrev Stk := List (List Nd)
def todo : Stk → List (Nat × Nd)
  | [] => []
  | row :: rest => presV rest.length row ++ todo rest
/-- the next node -/
def nextV : Stk → Option (Nat × Nd × Stk)
  | [] => none
  | [] :: rest => nextV rest
  | (x :: r) :: rest => some (rest.length, x, x.kids :: r :: rest)
theorem todo_next : ∀ s : Stk, match nextV s with
    | none => todo s = []
    | some (d, x, s') => todo s = (d, x) :: todo s'
  | [] => rfl
  | [] :: rest => by
    have h := todo_next rest
    have e : todo ([] :: rest) = todo rest := by simp [todo, presV]
    rw [nextV, e]
    exact h
  | (x :: r) :: rest => by
    simp only [nextV, todo, presV, preV_eq, List.cons_append, List.append_assoc, List.length_cons]
theorem todo_root (t : Nd) : todo [[t]] = preV 0 t := by simp [todo, presV]

/-- the sizes of two stacks -/
def shape (s : Stk) : List Nat := s.map List.length
theorem nextV_shape : ∀ s u : Stk, shape s = shape u → (nextV s).isSome = (nextV u).isSome
  | [], [], _ => rfl
  | [], _ :: _, h => by simp [shape] at h
  | _ :: _, [], h => by simp [shape] at h
  | [] :: rest, row :: rest', h => by
    simp only [shape, List.map_cons, List.cons.injEq, List.length_nil] at h
    obtain rfl : row = [] := List.length_eq_zero_iff.1 h.1.symm
    simp only [nextV]
    exact nextV_shape rest rest' h.2
  | (x :: r) :: rest, row :: rest', h => by
    simp only [shape, List.map_cons, List.cons.injEq, List.length_cons] at h
    cases row with
    | nil => simp at h
    | cons y q => simp [nextV]
/-- what two stacks of one shape come to -/
def lock (f : Nd → Nd → Bool) : Stk → Stk → Bool
  | [], [] => true
  | a :: s, b :: u => eqsV f a b && lock f s u
  | _, _ => false
theorem eqsV_len (f : Nd → Nd → Bool) : ∀ a b : List Nd, a.length ≠ b.length → eqsV f a b = false
  | [], [], h => absurd rfl h
  | [], _ :: _, _ => by simp [eqsV]
  | _ :: _, [], _ => by simp [eqsV]
  | k :: r, m :: s, h => by
    simp only [eqsV]
    rw [eqsV_len f r s (by simpa using h), Bool.and_false]
theorem lock_next (f : Nd → Nd → Bool) : ∀ s u : Stk, shape s = shape u → match nextV s, nextV u with
    | some (_, x, s'), some (_, y, u') => lock f s u = (f x y && lock f s' u') ∧ (x.kids.length = y.kids.length → shape s' = shape u') ∧ (x.kids.length ≠ y.kids.length → lock f s u = false)
    | none, none => lock f s u = true
    | _, _ => False
  | [], [], _ => by simp [nextV, lock]
  | [], _ :: _, h => by simp [shape] at h
  | _ :: _, [], h => by simp [shape] at h
  | [] :: rest, row :: rest', h => by
    simp only [shape, List.map_cons, List.cons.injEq, List.length_nil] at h
    obtain rfl : row = [] := List.length_eq_zero_iff.1 h.1.symm
    have ih := lock_next f rest rest' h.2
    simp only [nextV, lock, eqsV, Bool.true_and]
    exact ih
  | (x :: r) :: rest, row :: rest', h => by
    simp only [shape, List.map_cons, List.cons.injEq, List.length_cons] at h
    cases row with
    | nil => simp at h
    | cons y q =>
      simp only [nextV, lock, eqsV, eqV_eq, Bool.and_assoc]
      refine ⟨trivial, fun hk => ?_, fun hk => ?_⟩
      · have h1 : r.length = q.length := by have := h.1; simp at this; exact this
        simp only [shape, List.map_cons, hk, h1]
        rw [show rest.map List.length = rest'.map List.length from h.2]
      · rw [eqsV_len f _ _ hk]
        simp
end Go.Proofs.Ytacmofhlbebonaa
