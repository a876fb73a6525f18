/- MgD: TopVal TopOp TopA TopFp TopV TopC TopG TopS -/
import Derived.Test.YtoeblaecldhcaaaMgA
import Derived.Test.YtoeblaecldhcaaaMgB
import Derived.Test.YtoeblaecldhcaaaMgC
import Derived.Lib.AppendZerosOnto
import Derived.Deep.RegionHeld3
/- Children put in and taken out, as values; a move both ways: put first and then take out, or take out first and then put. -/
namespace Go.Proofs.Ytoeblaecldhcaaa
open Go.RowKit
set_option maxRecDepth 20000
set_option linter.unusedVariables false

def insK (at_ : Nat) (x : Nd) (l : List Nd) : List Nd := l.take at_ ++ x :: l.drop at_
def delK (c : Nat) (l : List Nd) : List Nd := l.take c ++ l.drop (c + 1)
theorem insK_len {at_ : Nat} {x : Nd} {l : List Nd} (h : at_ ≤ l.length) : (insK at_ x l).length = l.length + 1 := by
  unfold insK
  simp only [List.length_append, List.length_take, List.length_cons, List.length_drop]
  omega
theorem delK_len {c : Nat} {l : List Nd} (h : c < l.length) : (delK c l).length + 1 = l.length := by
  unfold delK
  simp only [List.length_append, List.length_take, List.length_drop]
  omega
theorem get_ins {at_ : Nat} {x : Nd} {l : List Nd} (h : at_ ≤ l.length) (j : Nat) : (insK at_ x l)[j]? = if j < at_ then l[j]? else if j = at_ then some x else l[j - 1]? := by
  unfold insK
  by_cases h1 : j < at_
  · rw [if_pos h1, List.getElem?_append_left (by rw [List.length_take]; omega), List.getElem?_take, if_pos h1]
  · rw [if_neg h1, List.getElem?_append_right (by rw [List.length_take]; omega), List.length_take, show j - min at_ l.length = j - at_ by omega]
    by_cases h2 : j = at_
    · rw [if_pos h2, h2, Nat.sub_self]; rfl
    · rw [if_neg h2]
      obtain ⟨k, rfl⟩ : ∃ k, j = at_ + (k + 1) := ⟨j - at_ - 1, by omega⟩
      rw [show at_ + (k + 1) - at_ = k + 1 by omega, List.getElem?_cons_succ, List.getElem?_drop]
      rfl
theorem get_del {c : Nat} {l : List Nd} (h : c < l.length) (j : Nat) : (delK c l)[j]? = if j < c then l[j]? else l[j + 1]? := by
  unfold delK
  by_cases h1 : j < c
  · rw [if_pos h1, List.getElem?_append_left (by rw [List.length_take]; omega), List.getElem?_take, if_pos h1]
  · rw [if_neg h1, List.getElem?_append_right (by rw [List.length_take]; omega), List.length_take, List.getElem?_drop]
    congr 1
    omega
theorem del_ins {at_ c : Nat} {x : Nd} {l : List Nd} (h : at_ ≤ l.length) (hc : c < l.length) :
    delK (if at_ ≤ c then c + 1 else c) (insK at_ x l) = insK (if c < at_ then at_ - 1 else at_) x (delK c l) := by
  have hd := delK_len hc
  have hi := insK_len (x := x) h
  by_cases h1 : at_ ≤ c
  · rw [if_pos h1, if_neg (by omega : ¬ c < at_)]
    apply List.ext_getElem?
    intro j
    rw [get_del (l := insK at_ x l) (by omega), get_ins (l := delK c l) (by omega), get_ins h j, get_ins h (j + 1), get_del hc, get_del hc]
    by_cases h2 : j < at_
    · rw [if_pos (by omega : j < c + 1), if_pos h2, if_pos h2, if_pos (by omega : j < c)]
    · rw [if_neg h2]
      by_cases h3 : j = at_
      · rw [if_pos (by omega : j < c + 1), if_pos h3, if_neg h2, if_pos h3]
      · by_cases h4 : j < c + 1
        · rw [if_pos h4, if_neg h3, if_neg h2, if_neg h3, if_pos (by omega : j - 1 < c)]
        · rw [if_neg h4, if_neg (by omega : ¬ j + 1 < at_), if_neg (by omega : ¬ j + 1 = at_), if_neg h2, if_neg h3, if_neg (by omega : ¬ j - 1 < c), show j + 1 - 1 = j - 1 + 1 by omega]
  · rw [if_neg h1, if_pos (by omega : c < at_)]
    apply List.ext_getElem?
    intro j
    rw [get_del (l := insK at_ x l) (by omega), get_ins (l := delK c l) (by omega), get_ins h j, get_ins h (j + 1), get_del hc, get_del hc]
    by_cases h2 : j < c
    · rw [if_pos h2, if_pos (by omega : j < at_), if_pos (by omega : j < at_ - 1), if_pos h2]
    · rw [if_neg h2]
      by_cases h3 : j < at_ - 1
      · rw [if_pos (by omega : j + 1 < at_), if_pos h3, if_neg h2]
      · rw [if_neg (by omega : ¬ j + 1 < at_), if_neg h3]
        by_cases h4 : j = at_ - 1
        · rw [if_pos (by omega : j + 1 = at_), if_pos h4]
        · rw [if_neg (by omega : ¬ j + 1 = at_), if_neg h4, if_neg (by omega : ¬ j - 1 < c), show j + 1 - 1 = j - 1 + 1 by omega]
theorem ins_set {at_ f : Nat} {x z : Nd} {l : List Nd} (h : at_ ≤ l.length) (hf : f < l.length) : (insK at_ x l).set (if at_ ≤ f then f + 1 else f) z = insK at_ x (l.set f z) := by
  have hi := insK_len (x := x) h
  apply List.ext_getElem?
  intro j
  rw [get_ins (by rw [List.length_set]; exact h), List.getElem?_set, get_ins h, List.getElem?_set, List.getElem?_set]
  by_cases h1 : at_ ≤ f
  · rw [if_pos h1]
    by_cases h2 : j < at_
    · rw [if_neg (by omega : ¬ f + 1 = j), if_pos h2, if_pos h2, if_neg (by omega : ¬ f = j)]
    · by_cases h3 : j = at_
      · rw [if_neg (by omega : ¬ f + 1 = j), if_neg h2, if_pos h3, if_neg h2, if_pos h3]
      · by_cases h4 : f + 1 = j
        · rw [if_pos h4, if_pos (by omega), if_neg h2, if_neg h3, if_pos (by omega : f = j - 1), if_pos (by omega)]
        · rw [if_neg h4, if_neg h2, if_neg h3, if_neg h2, if_neg h3, if_neg (by omega : ¬ f = j - 1)]
  · rw [if_neg h1]
    by_cases h2 : j < at_
    · rw [if_pos h2, if_pos h2]
      by_cases h4 : f = j
      · rw [if_pos h4, if_pos (by omega), if_pos h4, if_pos (by omega)]
      · rw [if_neg h4, if_neg h4]
    · rw [if_neg (by omega : ¬ f = j), if_neg h2, if_neg h2]
      by_cases h3 : j = at_
      · rw [if_pos h3, if_pos h3]
      · rw [if_neg h3, if_neg h3, if_neg (by omega : ¬ f = j - 1)]
theorem del_set {c e : Nat} {z : Nd} {l : List Nd} (hc : c < l.length) (he : e < l.length) (hne : e ≠ c) : delK c (l.set e z) = (delK c l).set (if c < e then e - 1 else e) z := by
  have hd := delK_len hc
  apply List.ext_getElem?
  intro j
  rw [get_del (by rw [List.length_set]; exact hc), List.getElem?_set, List.getElem?_set, List.getElem?_set, get_del hc]
  by_cases h1 : c < e
  · rw [if_pos h1]
    by_cases h2 : j < c
    · rw [if_pos h2, if_neg (by omega : ¬ e = j), if_neg (by omega : ¬ e - 1 = j), if_pos h2]
    · rw [if_neg h2]
      by_cases h3 : e = j + 1
      · rw [if_pos h3, if_pos (by omega), if_pos (by omega : e - 1 = j), if_pos (by omega)]
      · rw [if_neg h3, if_neg (by omega : ¬ e - 1 = j), if_neg h2]
  · rw [if_neg h1]
    by_cases h2 : j < c
    · rw [if_pos h2]
      by_cases h3 : e = j
      · rw [if_pos h3, if_pos h3, if_pos (by omega), if_pos (by omega)]
      · rw [if_neg h3, if_neg h3, if_pos h2]
    · rw [if_neg h2, if_neg (by omega : ¬ e = j + 1), if_neg (by omega : ¬ e = j), if_neg h2]

/-- a tree with the children of the node at a path changed -/
def modV (t : Nd) (p : List Int) (f : List Nd → List Nd) : Option Nd := (atV t p).bind fun y => putV t p (y.withKids (f y.kids))
theorem mod_nil (t : Nd) (f : List Nd → List Nd) : modV t [] f = some (t.withKids (f t.kids)) := rfl
theorem mod_nat {t k : Nd} {j : Nat} {p : List Int} {f : List Nd → List Nd} (h : t.kids[j]? = some k) : modV t ((j : Int) :: p) f = (modV k p f).map fun z => t.withKids (t.kids.set j z) := by
  unfold modV
  rw [atV_nat h]
  cases atV k p with
  | none => rfl
  | some y =>
    show putV t ((j : Int) :: p) _ = _
    rw [putV_nat h]
    rfl
theorem mod_at {t y : Nd} {p : List Int} {f : List Nd → List Nd} (h : atV t p = some y) : modV t p f = putV t p (y.withKids (f y.kids)) := by unfold modV; rw [h]; rfl
theorem mod_some {t y : Nd} {p : List Int} {f : List Nd → List Nd} (h : atV t p = some y) : ∃ m, modV t p f = some m := by
  rw [mod_at h]
  obtain ⟨a, h1, -⟩ := put_all p t (y.withKids (f y.kids)) y h
  exact ⟨a, h1⟩
/-- the tree without the node at a path -/
def delAt (t : Nd) : List Int → Option Nd
  | [] => none
  | c :: p => modV t ((c :: p).dropLast) (delK ((c :: p).getLast (by simp)).toNat)
theorem delAt_one (t : Nd) (c : Int) : delAt t [c] = some (t.withKids (delK c.toNat t.kids)) := rfl
theorem delAt_cons {t k : Nd} {j : Nat} {c : Int} {p : List Int} (h : t.kids[j]? = some k) : delAt t ((j : Int) :: c :: p) = (delAt k (c :: p)).map fun z => t.withKids (t.kids.set j z) := by
  show modV t (((j : Int) :: c :: p).dropLast) _ = (modV k ((c :: p).dropLast) _).map _
  rw [show ((j : Int) :: c :: p).dropLast = (j : Int) :: (c :: p).dropLast from rfl, mod_nat h]
  rfl
theorem delAt_snoc (t : Nd) (q : List Int) (c : Nat) : delAt t (q ++ [(c : Int)]) = modV t q (delK c) := by
  cases q with
  | nil => rfl
  | cons a r =>
    show modV t ((a :: (r ++ [(c : Int)])).dropLast) (delK ((a :: (r ++ [(c : Int)])).getLast _).toNat) = _
    have e1 : (a :: (r ++ [(c : Int)])).dropLast = a :: r := by
      rw [show a :: (r ++ [(c : Int)]) = (a :: r) ++ [(c : Int)] from rfl, List.dropLast_concat]
    have e2 : (a :: (r ++ [(c : Int)])).getLast (by simp) = (c : Int) := by
      have : ∀ (l : List Int) (h : l ++ [(c : Int)] ≠ []), (l ++ [(c : Int)]).getLast h = (c : Int) := fun l h => by simp
      exact this (a :: r) (by simp)
    rw [e1, e2]
    rfl

/-- where the node that is taken out stands when it has been put first -/
def docFrom : List Int → List Int → Nat → List Int
  | [], _, _ => []
  | f :: r, [], at_ => (if (at_ : Int) ≤ f then f + 1 else f) :: r
  | f :: r, e :: s, at_ => if f = e then f :: docFrom r s at_ else f :: r
/-- the target, and the gap, when the node has been taken out first -/
def progTo : List Int → List Int → Nat → List Int × Nat
  | [], to_, at_ => (to_, at_)
  | [c], [], at_ => ([], if c < (at_ : Int) then at_ - 1 else at_)
  | _ :: _ :: _, [], at_ => ([], at_)
  | [c], e :: s, at_ => ((if c < e then e - 1 else e) :: s, at_)
  | f :: g :: r, e :: s, at_ => if f = e then (e :: (progTo (g :: r) s at_).1, (progTo (g :: r) s at_).2) else (e :: s, at_)
theorem move_both : ∀ (from_ to_ : List Int) (t x0 y x : Nd) (at_ : Nat), atV t from_ = some x0 → atV t to_ = some y → from_ ≠ [] → ¬ from_ <+: to_ → at_ ≤ y.kids.length →
    ∃ m1 m2 r, modV t to_ (insK at_ x) = some m1 ∧ delAt m1 (docFrom from_ to_ at_) = some r ∧ delAt t from_ = some m2 ∧ modV m2 (progTo from_ to_ at_).1 (insK (progTo from_ to_ at_).2 x) = some r
  | [], to_, t, x0, y, x, at_, _, _, h, _, _ => absurd rfl h
  | [ci], [], t, x0, y, x, at_, h1, h2, _, _, h5 => by
    obtain ⟨c, k, rfl, hk, -⟩ := atV_cons h1
    have hc : c < t.kids.length := (List.getElem?_eq_some_iff.1 hk).1
    simp only [atV, Option.some.injEq] at h2
    subst h2
    refine ⟨_, _, _, mod_nil _ _, rfl, rfl, ?_⟩
    simp only [progTo]
    rw [mod_nil, with_kids, with_with, with_kids, with_with]
    have e1 : (if ((at_ : Nat) : Int) ≤ (c : Int) then (c : Int) + 1 else (c : Int)).toNat = if at_ ≤ c then c + 1 else c := by split <;> split <;> omega
    have e2 : (if (c : Int) < (at_ : Int) then at_ - 1 else at_) = if c < at_ then at_ - 1 else at_ := by split <;> split <;> omega
    show some (t.withKids _) = some (t.withKids (delK (if ((at_ : Nat) : Int) ≤ (c : Int) then (c : Int) + 1 else (c : Int)).toNat _))
    rw [e1, e2, del_ins h5 hc]
    rfl
  | fi :: g :: r, [], t, x0, y, x, at_, h1, h2, _, _, h5 => by
    obtain ⟨f, k, rfl, hk, hx⟩ := atV_cons h1
    have hf : f < t.kids.length := (List.getElem?_eq_some_iff.1 hk).1
    simp only [atV, Option.some.injEq] at h2
    subst h2
    obtain ⟨k', hk'⟩ : ∃ k', delAt k (g :: r) = some k' := by
      have : ∀ (p : List Int) (k x0 : Nd) (g : Int), atV k (g :: p) = some x0 → ∃ k', delAt k (g :: p) = some k' := by
        intro p
        induction p with
        | nil => intro k x0 g h; exact ⟨_, rfl⟩
        | cons b p ih =>
          intro k x0 g h
          obtain ⟨j, z, rfl, hz, hw⟩ := atV_cons h
          obtain ⟨k', hk'⟩ := ih z x0 b hw
          rw [delAt_cons hz, hk']
          exact ⟨_, rfl⟩
      exact this r k x0 g hx
    have e1 : (if ((at_ : Nat) : Int) ≤ (f : Int) then (f : Int) + 1 else (f : Int)) = ((if at_ ≤ f then f + 1 else f : Nat) : Int) := by split <;> split <;> omega
    have hg : (t.withKids (insK at_ x t.kids)).kids[if at_ ≤ f then f + 1 else f]? = some k := by
      rw [with_kids, get_ins h5]
      by_cases h : at_ ≤ f
      · rw [if_pos h, if_neg (by omega), if_neg (by omega), Nat.add_sub_cancel]; exact hk
      · rw [if_neg h, if_pos (by omega)]; exact hk
    refine ⟨_, _, t.withKids (insK at_ x (t.kids.set f k')), mod_nil _ _, ?_, by rw [delAt_cons hk, hk']; rfl, ?_⟩
    · simp only [docFrom]
      rw [e1, delAt_cons hg, hk']
      simp only [Option.map_some, with_kids, with_with]
      rw [ins_set h5 hf]
    · simp only [progTo]
      rw [mod_nil, with_kids, with_with]
  | [ci], ei :: s, t, x0, y, x, at_, h1, h2, _, h4, h5 => by
    obtain ⟨c, k, rfl, hk, -⟩ := atV_cons h1
    obtain ⟨e, ke, rfl, hke, hy⟩ := atV_cons h2
    have hc : c < t.kids.length := (List.getElem?_eq_some_iff.1 hk).1
    have he : e < t.kids.length := (List.getElem?_eq_some_iff.1 hke).1
    have hne : e ≠ c := fun h => h4 (by subst h; exact ⟨s, rfl⟩)
    obtain ⟨ke', hke'⟩ := mod_some (f := insK at_ x) hy
    have hg : (t.withKids (delK c t.kids)).kids[if c < e then e - 1 else e]? = some ke := by
      rw [with_kids, get_del hc]
      by_cases h : c < e
      · rw [if_pos h, if_neg (by omega), show e - 1 + 1 = e by omega]; exact hke
      · rw [if_neg h, if_pos (by omega)]; exact hke
    have e1 : (if (c : Int) < (e : Int) then (e : Int) - 1 else (e : Int)) = ((if c < e then e - 1 else e : Nat) : Int) := by split <;> split <;> omega
    refine ⟨_, _, t.withKids (delK c (t.kids.set e ke')), by rw [mod_nat hke, hke']; rfl, ?_, rfl, ?_⟩
    · simp only [docFrom]
      rw [if_neg (by omega)]
      rw [delAt_one, with_kids, with_with]
      rfl
    · simp only [progTo]
      rw [e1]
      show modV (t.withKids (delK c t.kids)) _ _ = _
      rw [mod_nat hg, hke']
      simp only [Option.map_some, with_kids, with_with]
      rw [del_set hc he hne]
  | fi :: g :: r, ei :: s, t, x0, y, x, at_, h1, h2, _, h4, h5 => by
    obtain ⟨f, k, rfl, hk, hx⟩ := atV_cons h1
    obtain ⟨e, ke, rfl, hke, hy⟩ := atV_cons h2
    have hf : f < t.kids.length := (List.getElem?_eq_some_iff.1 hk).1
    have he : e < t.kids.length := (List.getElem?_eq_some_iff.1 hke).1
    by_cases hfe : f = e
    · subst hfe
      rw [hk] at hke
      injection hke with hke
      subst hke
      obtain ⟨m1, m2, r', i1, i2, i3, i4⟩ := move_both (g :: r) s k x0 y x at_ hx hy (by simp) (fun h => h4 (by obtain ⟨z, hz⟩ := h; exact ⟨z, by rw [List.cons_append, hz]⟩)) h5
      have g1 : (t.withKids (t.kids.set f m1)).kids[f]? = some m1 := by rw [with_kids, List.getElem?_set_self hf]
      have g2 : (t.withKids (t.kids.set f m2)).kids[f]? = some m2 := by rw [with_kids, List.getElem?_set_self hf]
      refine ⟨t.withKids (t.kids.set f m1), t.withKids (t.kids.set f m2), t.withKids (t.kids.set f r'), by rw [mod_nat hk, i1]; rfl, ?_, by rw [delAt_cons hk, i3]; rfl, ?_⟩
      · simp only [docFrom, if_true]
        cases hd : docFrom (g :: r) s at_ with
        | nil => rw [hd] at i2; exact absurd i2 (by simp [delAt])
        | cons a b =>
          rw [hd] at i2
          rw [delAt_cons g1, i2]
          simp only [Option.map_some, with_kids, with_with, List.set_set]
      · simp only [progTo, if_true]
        rw [mod_nat g2, i4]
        simp only [Option.map_some, with_kids, with_with, List.set_set]
    · obtain ⟨ke', hke'⟩ := mod_some (f := insK at_ x) hy
      obtain ⟨k', hk'⟩ : ∃ k', delAt k (g :: r) = some k' := by
        have : ∀ (p : List Int) (k x0 : Nd) (g : Int), atV k (g :: p) = some x0 → ∃ k', delAt k (g :: p) = some k' := by
          intro p
          induction p with
          | nil => intro k x0 g h; exact ⟨_, rfl⟩
          | cons b p ih =>
            intro k x0 g h
            obtain ⟨j, z, rfl, hz, hw⟩ := atV_cons h
            obtain ⟨k', hk'⟩ := ih z x0 b hw
            rw [delAt_cons hz, hk']
            exact ⟨_, rfl⟩
        exact this r k x0 g hx
      have g1 : (t.withKids (t.kids.set e ke')).kids[f]? = some k := by rw [with_kids, List.getElem?_set_ne (fun h => hfe h.symm)]; exact hk
      have g2 : (t.withKids (t.kids.set f k')).kids[e]? = some ke := by rw [with_kids, List.getElem?_set_ne hfe]; exact hke
      refine ⟨t.withKids (t.kids.set e ke'), t.withKids (t.kids.set f k'), t.withKids ((t.kids.set e ke').set f k'), by rw [mod_nat hke, hke']; rfl, ?_, by rw [delAt_cons hk, hk']; rfl, ?_⟩
      · simp only [docFrom]
        rw [if_neg (by omega), delAt_cons g1, hk']
        simp only [Option.map_some, with_kids, with_with]
      · simp only [progTo]
        rw [if_neg (by omega), mod_nat g2, hke']
        simp only [Option.map_some, with_kids, with_with]
        rw [List.set_comm _ _ hfe]
end Go.Proofs.Ytoeblaecldhcaaa
/- An operation in memory; is it formed: the program's and the document's. -/
namespace Go.Proofs.Ytoeblaecldhcaaa
open Go.RowKit
set_option maxRecDepth 20000
set_option linter.unusedVariables false

/-- an operation by value -/
structure Ov where
  kind : Nat
  path : List Int
  at_ : Int
  to_ : List Int
  id : Nat
  leaf : Bool
  label : Txt
  key : Txt
  value : Txt
  gone : Bool
  pieces : List P5.IP
/-- its slices -/
structure OS where
  pA : Option Addr
  pn : Nat
  pc : Nat
  tA : Option Addr
  tn : Nat
  tc : Nat
  qA : Option Addr
  qn : Nat
  qc : Nat
def opCells (o : Ov) (s : OS) : Array Value :=
  #[.int .u8 (o.kind : Int), .slice s.pA s.pn s.pc, .int .i64 o.at_, .slice s.tA s.tn s.tc, .int .u64 (o.id : Int), .bool o.leaf, .string ⟨o.label.toArray⟩, .string ⟨o.key.toArray⟩, .string ⟨o.value.toArray⟩, .bool o.gone, .slice s.qA s.qn s.qc]
/-- what its slices lead to -/
structure OpIn (w : World) (o : Ov) (s : OS) : Prop where
  kind : o.kind < 256
  path : Its w s.pA s.pn o.path
  pnc : s.pn ≤ s.pc
  pcm : s.pc ≤ maxLen
  pnil : s.pA = none → s.pc = 0
  at_ : -9223372036854775808 ≤ o.at_ ∧ o.at_ ≤ 9223372036854775807
  to_ : Its w s.tA s.tn o.to_
  tnc : s.tn ≤ s.tc
  tcm : s.tc ≤ maxLen
  tnil : s.tA = none → s.tc = 0
  id : o.id < 18446744073709551616
  label : o.label.length ≤ maxLen
  key : o.key.length ≤ maxLen
  value : o.value.length ≤ maxLen
  pieces : P5.PcsIn w s.qA s.qn o.pieces
  qnc : s.qn ≤ s.qc
  qcm : s.qc ≤ maxLen
  qnil : s.qA = none → s.qc = 0
  pfew : s.pn ≤ 500000
  tfew : s.tn ≤ 500000
  qfew : s.qn ≤ 500000
  pfit : Fit o.path
  tfit : Fit o.to_
theorem OpIn.below {w w' : World} {o : Ov} {s : OS} (h : OpIn w o s) (hb : Below w.heap.size w w') : OpIn w' o s :=
  { h with path := h.path.below hb, to_ := h.to_.below hb, pieces := h.pieces.below hb }
/-- an operation in a variable's block -/
structure Ox (W : World) (b : Nat) (o : Ov) (s : OS) : Prop where
  lt : b < W.heap.size
  row : W.heap[b]? = some (.cells (opCells o s) 26 (0, 0))
  op : OpIn W o s
section
variable {W W' : World} {b : Nat} {o : Ov} {s : OS}
theorem Ox.below (h : Ox W b o s) (hb : Below W.heap.size W W') : Ox W' b o s := ⟨Nat.lt_of_lt_of_le h.lt hb.size, (hb.block b h.lt).trans h.row, h.op.below hb⟩
theorem Ox.new (h : OpIn W o s) : Ox (W.alloc (.cells (opCells o s) 26)) W.heap.size o s :=
  ⟨by simp, heap_alloc_new W _, h.below ((Below.refl _ _).alloc (Nat.le_refl _) _)⟩
theorem Ox.cells (h : Ox W b o s) : W.cell? ⟨b, 0, none⟩ = some (.int .u8 (o.kind : Int)) ∧ W.cell? ⟨b, 1, none⟩ = some (.slice s.pA s.pn s.pc) ∧ W.cell? ⟨b, 2, none⟩ = some (.int .i64 o.at_) ∧ W.cell? ⟨b, 3, none⟩ = some (.slice s.tA s.tn s.tc) ∧ W.cell? ⟨b, 4, none⟩ = some (.int .u64 (o.id : Int)) ∧
    W.cell? ⟨b, 5, none⟩ = some (.bool o.leaf) ∧ W.cell? ⟨b, 6, none⟩ = some (.string ⟨o.label.toArray⟩) ∧ W.cell? ⟨b, 7, none⟩ = some (.string ⟨o.key.toArray⟩) ∧ W.cell? ⟨b, 8, none⟩ = some (.string ⟨o.value.toArray⟩) ∧ W.cell? ⟨b, 9, none⟩ = some (.bool o.gone) ∧ W.cell? ⟨b, 10, none⟩ = some (.slice s.qA s.qn s.qc) := by
  have h := h.row
  unfold opCells at h
  exact ⟨cell_of_row W b 0 _ _ _ h, cell_of_row W b 1 _ _ _ h, cell_of_row W b 2 _ _ _ h, cell_of_row W b 3 _ _ _ h, cell_of_row W b 4 _ _ _ h, cell_of_row W b 5 _ _ _ h, cell_of_row W b 6 _ _ _ h, cell_of_row W b 7 _ _ _ h, cell_of_row W b 8 _ _ _ h, cell_of_row W b 9 _ _ _ h, cell_of_row W b 10 _ _ _ h⟩
end
def gapB (i : Int) : Bool := decide (0 ≤ i ∧ i ≤ 1048576)
def lblB (s : Txt) : Bool := decide (s.length ≤ 64)
def valB (s : Txt) : Bool := decide (s.length ≤ 256)
theorem isGap_any (w : World) (i : Int) : Calls Try.prog 39 #[.int .i64 i] w fun e w' => e = .returned (.bool (gapB i)) ∧ w = w' := by
  by_cases h0 : 0 ≤ i
  · by_cases h1 : i ≤ 1048576
    · have hv := Lib.hid (show gapB i = true from decide_eq_true ⟨h0, h1⟩)
      go_enter Try.func39, Try.ntmps39
      go_wp2_with fail
      go_ret
      exact ⟨by rw [hv.out]; rfl, rfl⟩
    · have hv := Lib.hid (show gapB i = false from decide_eq_false fun h => h1 h.2)
      go_enter Try.func39, Try.ntmps39
      go_wp2_with fail
      go_ret
      exact ⟨by rw [hv.out]; rfl, rfl⟩
  · have hv := Lib.hid (show gapB i = false from decide_eq_false fun h => h0 h.1)
    go_enter Try.func39, Try.ntmps39
    go_wp2_with fail
    go_ret
    exact ⟨by rw [hv.out]; rfl, rfl⟩
theorem isLabel_any (w : World) (l : Txt) (hl : l.length ≤ maxLen) : Calls Try.prog 40 #[.string ⟨l.toArray⟩] w fun e w' => e = .returned (.bool (lblB l)) ∧ w = w' := by
  unfold maxLen at hl
  by_cases h0 : l.length ≤ 64
  · have hv := Lib.hid (show lblB l = true from decide_eq_true h0)
    have h0I : (l.length : Int) ≤ 64 := by omega
    go_enter Try.func40, Try.ntmps40
    go_wp2_with fail
    go_ret
    exact ⟨by rw [hv.out]; rfl, rfl⟩
  · have hv := Lib.hid (show lblB l = false from decide_eq_false h0)
    have h0I : ¬ (l.length : Int) ≤ 64 := by omega
    go_enter Try.func40, Try.ntmps40
    go_wp2_with fail
    go_ret
    exact ⟨by rw [hv.out]; rfl, rfl⟩
theorem isValue_any (w : World) (l : Txt) (hl : l.length ≤ maxLen) : Calls Try.prog 42 #[.string ⟨l.toArray⟩] w fun e w' => e = .returned (.bool (valB l)) ∧ w = w' := by
  unfold maxLen at hl
  by_cases h0 : l.length ≤ 256
  · have hv := Lib.hid (show valB l = true from decide_eq_true h0)
    have h0I : (l.length : Int) ≤ 256 := by omega
    go_enter Try.func42, Try.ntmps42
    go_wp2_with fail
    go_ret
    exact ⟨by rw [hv.out]; rfl, rfl⟩
  · have hv := Lib.hid (show valB l = false from decide_eq_false h0)
    have h0I : ¬ (l.length : Int) ≤ 256 := by omega
    go_enter Try.func42, Try.ntmps42
    go_wp2_with fail
    go_ret
    exact ⟨by rw [hv.out]; rfl, rfl⟩
/-- is it formed? -/
def formedV (o : Ov) : Bool :=
  P4.mayV o.path && (if o.kind = 1 then gapB o.at_ && lblB o.label else if o.kind = 2 then true else if o.kind = 3 then gapB o.at_ && P4.mayV o.to_ else if o.kind = 4 then keyB o.key && (o.gone || valB o.value)
    else if o.kind = 5 then lblB o.label else if o.kind = 6 then P5.rightV o.pieces else false)
end Go.Proofs.Ytoeblaecldhcaaa
/- What is wrong with an operation: values; the small questions: the program's. -/
namespace Go.Proofs.Ytoeblaecldhcaaa
open Go.RowKit
set_option maxRecDepth 20000
set_option linter.unusedVariables false

def pcs (l : List P5.IP) : List Ltx.Pc := l.map fun x => ⟨x.keep.toNat, x.drop.toNat, x.put⟩
theorem pcs_right {l : List P5.IP} (h : P5.rightV l = true) : (pcs l).map P5.ipc = l := by
  obtain ⟨l', rfl⟩ := P5.right_pcs h
  have : pcs (l'.map P5.ipc) = l' := by
    unfold pcs
    rw [List.map_map]
    conv => rhs; rw [← List.map_id l']
    apply List.map_congr_left
    intro x _
    simp [P5.ipc]
  rw [this]
def gapE (y : Nd) (i : Int) : Int := if y.leaf then 83 else if (y.kids.length : Int) < i then 81 else 0
def fitE (s : Txt) (l : List P5.IP) : Int := if Ltx.extent (pcs l) ≤ s.length then 0 else 50
def editE (x : Nd) (l : List P5.IP) : Int := if x.leaf then fitE x.text l else 83
/-- what is wrong with an operation on a right tree -/
def faultV (t : Nd) (o : Ov) : Int :=
  if formedV o = false then 80 else if (o.kind = 2 ∨ o.kind = 3) ∧ o.path = [] then 82 else
    match atV t o.path with
    | none => 81
    | some x => if o.kind = 1 then gapE x o.at_ else if o.kind = 3 then (if P4.withinV o.path o.to_ then 84 else match atV t o.to_ with
        | none => 81
        | some y => gapE y o.at_) else if o.kind = 6 then editE x o.pieces else 0
def validV (t : Nd) (o : Ov) : Int := if rightV ltB t then faultV t o else 2

theorem takesOut_any (w : World) (o : Ov) (s : OS) (hk : o.kind < 256) : Calls Try.prog 73 #[.agg (opCells o s)] w fun e w' => e = .returned (.bool (decide (o.kind = 2 ∨ o.kind = 3))) ∧ Below w.heap.size w w' := by
  have hal := Lib.hid (fun o => (Below.refl w.heap.size w).alloc (Nat.le_refl _) o)
  by_cases k2 : o.kind = 2
  · have b2 : ((o.kind : Int) == 2) = true := by simp; omega
    have hv := Lib.hid (show decide (o.kind = 2 ∨ o.kind = 3) = true from decide_eq_true (.inl k2))
    clear k2
    unfold opCells
    go_enter Try.func73, Try.ntmps73
    go_wp2_with fail
    go_ret
    exact ⟨by rw [hv.out] <;> rfl, hal.out _⟩
  · have b2 : ((o.kind : Int) == 2) = false := by simp; omega
    by_cases k3 : o.kind = 3
    · have b3 : ((o.kind : Int) == 3) = true := by simp; omega
      have hv := Lib.hid (show decide (o.kind = 2 ∨ o.kind = 3) = true from decide_eq_true (.inr k3))
      clear k2 k3
      unfold opCells
      go_enter Try.func73, Try.ntmps73
      go_wp2_with fail
      go_ret
      exact ⟨by rw [hv.out] <;> rfl, hal.out _⟩
    · have b3 : ((o.kind : Int) == 3) = false := by simp; omega
      have hv := Lib.hid (show decide (o.kind = 2 ∨ o.kind = 3) = false from decide_eq_false fun h => by rcases h with h | h; exact k2 h; exact k3 h)
      clear k2 k3
      unfold opCells
      go_enter Try.func73, Try.ntmps73
      go_wp2_with fail
      go_ret
      exact ⟨by rw [hv.out] <;> rfl, hal.out _⟩
theorem putsIn_any (w : World) (o : Ov) (s : OS) (hk : o.kind < 256) : Calls Try.prog 75 #[.agg (opCells o s)] w fun e w' => e = .returned (.bool (decide (o.kind = 1 ∨ o.kind = 3))) ∧ Below w.heap.size w w' := by
  have hal := Lib.hid (fun o => (Below.refl w.heap.size w).alloc (Nat.le_refl _) o)
  by_cases k2 : o.kind = 1
  · have b2 : ((o.kind : Int) == 1) = true := by simp; omega
    have hv := Lib.hid (show decide (o.kind = 1 ∨ o.kind = 3) = true from decide_eq_true (.inl k2))
    clear k2
    unfold opCells
    go_enter Try.func75, Try.ntmps75
    go_wp2_with fail
    go_ret
    exact ⟨by rw [hv.out] <;> rfl, hal.out _⟩
  · have b2 : ((o.kind : Int) == 1) = false := by simp; omega
    by_cases k3 : o.kind = 3
    · have b3 : ((o.kind : Int) == 3) = true := by simp; omega
      have hv := Lib.hid (show decide (o.kind = 1 ∨ o.kind = 3) = true from decide_eq_true (.inr k3))
      clear k2 k3
      unfold opCells
      go_enter Try.func75, Try.ntmps75
      go_wp2_with fail
      go_ret
      exact ⟨by rw [hv.out] <;> rfl, hal.out _⟩
    · have b3 : ((o.kind : Int) == 3) = false := by simp; omega
      have hv := Lib.hid (show decide (o.kind = 1 ∨ o.kind = 3) = false from decide_eq_false fun h => by rcases h with h | h; exact k2 h; exact k3 h)
      clear k2 k3
      unfold opCells
      go_enter Try.func75, Try.ntmps75
      go_wp2_with fail
      go_ret
      exact ⟨by rw [hv.out] <;> rfl, hal.out _⟩
theorem gapFault_any (w : World) (y : Nd) (aA kA : Option Addr) (an ac kn kc : Nat) (hk : y.kids.length = kn) (i : Int) : Calls Try.prog 76 #[.agg (val6 y aA an ac kA kn kc), .int .i64 i] w fun e w' => e = .returned (.int .i64 (gapE y i)) ∧ Below w.heap.size w w' := by
  have hal := Lib.hid (fun o => (Below.refl w.heap.size w).alloc (Nat.le_refl _) o)
  have hk' := Lib.hid hk
  clear hk
  unfold val6
  cases hl : y.leaf with
  | true =>
    have hv := Lib.hid (show gapE y i = 83 by unfold gapE; rw [hl]; rfl)
    clear hl
    go_enter Try.func76, Try.ntmps76
    go_wp2_with fail
    go_ret
    exact ⟨by rw [hv.out] <;> rfl, hal.out _⟩
  | false =>
    by_cases hg : (kn : Int) < i
    · have hv := Lib.hid (show gapE y i = 81 by unfold gapE; rw [hl, hk'.out, if_pos hg]; rfl)
      clear hl
      go_enter Try.func76, Try.ntmps76
      go_wp2_with fail
      go_ret
      exact ⟨by rw [hv.out] <;> rfl, hal.out _⟩
    · have hv := Lib.hid (show gapE y i = 0 by unfold gapE; rw [hl, hk'.out, if_neg hg]; rfl)
      clear hl
      go_enter Try.func76, Try.ntmps76
      go_wp2_with fail
      go_ret
      exact ⟨by rw [hv.out] <;> rfl, hal.out _⟩
theorem editFault_any (w : World) (y : Nd) (aA kA : Option Addr) (an ac kn kc : Nat) (hy : y.text.length ≤ 10000000) (A : Option Addr) (n c : Nat) (l : List P5.IP) (hl : P5.PcsIn w A n l) (hn : n ≤ maxLen) (hr : P5.rightV l = true) :
    Calls Try.prog 77 #[.agg (val6 y aA an ac kA kn kc), .slice A n c] w fun e w' => e = .returned (.int .i64 (editE y l)) ∧ Below w.heap.size w w' := by
  have hal := Lib.hid (fun o => (Below.refl w.heap.size w).alloc (Nat.le_refl _) o)
  have hpr := pcs_right hr
  unfold val6
  cases hlf : y.leaf with
  | false =>
    have hv := Lib.hid (show editE y l = 83 by unfold editE; rw [hlf]; rfl)
    clear hlf hpr
    go_enter Try.func77, Try.ntmps77
    go_wp2_with fail
    go_ret
    exact ⟨by rw [hv.out] <;> rfl, hal.out _⟩
  | true =>
    by_cases hf : Ltx.extent (pcs l) ≤ y.text.length
    · have hv := Lib.hid (show editE y l = 0 by unfold editE fitE; rw [hlf, if_pos hf]; rfl)
      have hap := Lib.hid (fun W (hb : Below w.heap.size w W) => P5.apply_ok W y.text A n c (pcs l) (by rw [hpr]; exact hl.below hb) hn hy (by rw [hpr]; exact hr) hf)
      clear hlf hpr hf hl hr
      go_enter Try.func77, Try.ntmps77
      go_wp2_with (go_at_call 84; refine (hap.out _ (hal.out _)).mono ?_; rintro e w7 ⟨rfl, hb7⟩; have hb7' := Lib.hid ((hal.out _).trans (hb7.mono (hal.out _).size)); clear hb7)
      go_ret
      exact ⟨by rw [hv.out] <;> rfl, hb7'.out⟩
    · have hv := Lib.hid (show editE y l = 50 by unfold editE fitE; rw [hlf, if_neg hf]; rfl)
      have hap := Lib.hid (fun W (hb : Below w.heap.size w W) => P5.apply_far W y.text A n c (pcs l) (by rw [hpr]; exact hl.below hb) hn hy (by rw [hpr]; exact hr) (by omega))
      clear hlf hpr hf hl hr
      go_enter Try.func77, Try.ntmps77
      go_wp2_with (go_at_call 84; refine (hap.out _ (hal.out _)).mono ?_; rintro e w7 ⟨rfl, hb7⟩; have hb7' := Lib.hid ((hal.out _).trans (hb7.mono (hal.out _).size)); clear hb7)
      go_ret
      exact ⟨by rw [hv.out] <;> rfl, hb7'.out⟩
end Go.Proofs.Ytoeblaecldhcaaa
/- Is an operation formed: the program's. -/
namespace Go.Proofs.Ytoeblaecldhcaaa
open Go.RowKit
set_option maxRecDepth 20000
set_option linter.unusedVariables false

set_option maxHeartbeats 4000000 in
theorem formed_any (w : World) (o : Ov) (s : OS) (h : OpIn w o s) : Calls Try.prog 11 #[.agg (opCells o s)] w fun e w' => e = .returned (.bool (formedV o)) ∧ Below w.heap.size w w' := by
  have hal := Lib.hid (fun o => (Below.refl w.heap.size w).alloc (Nat.le_refl _) o)
  have hmay := Lib.hid (fun W (hb : Below w.heap.size w W) => P4.may_any W s.pA s.pn s.pc o.path (h.below hb).path (Nat.le_trans h.pnc h.pcm))
  have hmay2 := Lib.hid (fun W (hb : Below w.heap.size w W) => P4.may_any W s.tA s.tn s.tc o.to_ (h.below hb).to_ (Nat.le_trans h.tnc h.tcm))
  have hrig := Lib.hid (fun W (hb : Below w.heap.size w W) => P5.right_any W s.qA s.qn s.qc o.pieces (h.below hb).pieces (Nat.le_trans h.qnc h.qcm))
  have hlab := Lib.hid (fun W => isLabel_any W o.label h.label)
  have hval := Lib.hid (fun W => isValue_any W o.value h.value)
  have hkey := Lib.hid (fun W => key_any o.key W h.key)
  have hat := h.at_
  clear h
  cases hm : P4.mayV o.path with
  | false =>
    have hm' := Lib.hid hm
    have hv := Lib.hid (show formedV o = false by unfold formedV; rw [hm]; rfl)
    clear hm
    unfold opCells
    go_enter Try.func11, Try.ntmps11
    go_wp2_with (first
      | (go_at_call 38; go_at_call_of 38 s.pA; refine (hmay.out _ (hal.out _)).mono ?_; rintro e w7 ⟨rfl, rfl⟩; rw [hm'.out]))
    go_ret
    exact ⟨by rw [hv.out] <;> rfl, (hal.out _)⟩
  | true =>
    have hm' := Lib.hid hm
    by_cases k1 : o.kind = 1
    · have kI := Lib.hid k1
      have b1 : ((o.kind : Int) == 1) = true := by simp; omega
      cases hg : gapB o.at_ with
      | false =>
        have hv := Lib.hid (show formedV o = false by unfold formedV; rw [hm, if_pos k1, hg]; rfl)
        have hg' := Lib.hid hg
        clear k1 hm hg
        unfold opCells
        go_enter Try.func11, Try.ntmps11
        go_wp2_with (first
          | (go_at_call 38; go_at_call_of 38 s.pA; refine (hmay.out _ (hal.out _)).mono ?_; rintro e w7 ⟨rfl, rfl⟩; rw [hm'.out])
          | (go_at_call 39; refine (isGap_any _ o.at_).mono ?_; rintro e w7 ⟨rfl, rfl⟩; rw [hg'.out]))
        go_ret
        exact ⟨by rw [hv.out] <;> rfl, (hal.out _)⟩
      | true =>
        have hv := Lib.hid (show formedV o = lblB o.label by unfold formedV; rw [hm, if_pos k1, hg]; rfl)
        have hg' := Lib.hid hg
        clear k1 hm hg
        unfold opCells
        go_enter Try.func11, Try.ntmps11
        go_wp2_with (first
          | (go_at_call 38; go_at_call_of 38 s.pA; refine (hmay.out _ (hal.out _)).mono ?_; rintro e w7 ⟨rfl, rfl⟩; rw [hm'.out])
          | (go_at_call 39; refine (isGap_any _ o.at_).mono ?_; rintro e w7 ⟨rfl, rfl⟩; rw [hg'.out])
          | (go_at_call 40; refine (hlab.out _).mono ?_; rintro e w7 ⟨rfl, rfl⟩))
        go_ret
        exact ⟨by rw [hv.out] <;> first | rfl | simp, (hal.out _)⟩
    · skip
      by_cases k2 : o.kind = 2
      · have kI := Lib.hid k2
        have b1 : ((o.kind : Int) == 1) = false := by simp; omega
        have b2 : ((o.kind : Int) == 2) = true := by simp; omega
        have hv := Lib.hid (show formedV o = true by unfold formedV; rw [hm, if_neg k1, if_pos k2]; rfl)
        clear k1 k2 hm
        unfold opCells
        go_enter Try.func11, Try.ntmps11
        go_wp2_with (first
          | (go_at_call 38; go_at_call_of 38 s.pA; refine (hmay.out _ (hal.out _)).mono ?_; rintro e w7 ⟨rfl, rfl⟩; rw [hm'.out]))
        go_ret
        exact ⟨by rw [hv.out] <;> rfl, (hal.out _)⟩
      · skip
        by_cases k3 : o.kind = 3
        · have kI := Lib.hid k3
          have b1 : ((o.kind : Int) == 1) = false := by simp; omega
          have b2 : ((o.kind : Int) == 2) = false := by simp; omega
          have b3 : ((o.kind : Int) == 3) = true := by simp; omega
          cases hg : P4.mayV o.to_ with
          | false =>
            have hv := Lib.hid (show formedV o = false by unfold formedV; rw [hm, if_neg k1, if_neg k2, if_pos k3, hg, Bool.and_false]; rfl)
            have hg' := Lib.hid hg
            clear k1 k2 k3 hm hg
            unfold opCells
            go_enter Try.func11, Try.ntmps11
            go_wp2_with (first
              | (go_at_call 38; go_at_call_of 38 s.pA; refine (hmay.out _ (hal.out _)).mono ?_; rintro e w7 ⟨rfl, rfl⟩; rw [hm'.out])
              | (go_at_call 38; refine (hmay2.out _ (hal.out _)).mono ?_; rintro e w7 ⟨rfl, rfl⟩; first | rw [hg'.out] | skip))
            go_ret
            exact ⟨by rw [hv.out] <;> rfl, (hal.out _)⟩
          | true =>
            have hv := Lib.hid (show formedV o = gapB o.at_ by unfold formedV; rw [hm, if_neg k1, if_neg k2, if_pos k3, hg, Bool.and_true]; rfl)
            have hg' := Lib.hid hg
            clear k1 k2 k3 hm hg
            unfold opCells
            go_enter Try.func11, Try.ntmps11
            go_wp2_with (first
              | (go_at_call 38; go_at_call_of 38 s.pA; refine (hmay.out _ (hal.out _)).mono ?_; rintro e w7 ⟨rfl, rfl⟩; rw [hm'.out])
              | (go_at_call 38; refine (hmay2.out _ (hal.out _)).mono ?_; rintro e w7 ⟨rfl, rfl⟩; first | rw [hg'.out] | skip)
              | (go_at_call 39; refine (isGap_any _ o.at_).mono ?_; rintro e w7 ⟨rfl, rfl⟩))
            go_ret
            exact ⟨by rw [hv.out] <;> first | rfl | simp, (hal.out _)⟩
        · skip
          by_cases k4 : o.kind = 4
          · have kI := Lib.hid k4
            have b1 : ((o.kind : Int) == 1) = false := by simp; omega
            have b2 : ((o.kind : Int) == 2) = false := by simp; omega
            have b3 : ((o.kind : Int) == 3) = false := by simp; omega
            have b4 : ((o.kind : Int) == 4) = true := by simp; omega
            cases hg : keyB o.key with
            | false =>
              have hv := Lib.hid (show formedV o = false by unfold formedV; rw [hm, if_neg k1, if_neg k2, if_neg k3, if_pos k4, hg]; rfl)
              have hg' := Lib.hid hg
              clear k1 k2 k3 k4 hm hg
              unfold opCells
              go_enter Try.func11, Try.ntmps11
              go_wp2_with (first
                | (go_at_call 38; go_at_call_of 38 s.pA; refine (hmay.out _ (hal.out _)).mono ?_; rintro e w7 ⟨rfl, rfl⟩; rw [hm'.out])
                | (go_at_call 41; refine (hkey.out _).mono ?_; rintro e w7 ⟨rfl, rfl⟩; rw [hg'.out]))
              go_ret
              exact ⟨by rw [hv.out] <;> rfl, (hal.out _)⟩
            | true =>
              have hg' := Lib.hid hg
              cases hgo : o.gone with
              | true =>
                have hv := Lib.hid (show formedV o = true by unfold formedV; rw [hm, if_neg k1, if_neg k2, if_neg k3, if_pos k4, hg, hgo]; rfl)
                clear k1 k2 k3 k4 hm hg
                unfold opCells
                go_enter Try.func11, Try.ntmps11
                go_wp2_with (first
                  | (go_at_call 38; go_at_call_of 38 s.pA; refine (hmay.out _ (hal.out _)).mono ?_; rintro e w7 ⟨rfl, rfl⟩; rw [hm'.out])
                  | (go_at_call 41; refine (hkey.out _).mono ?_; rintro e w7 ⟨rfl, rfl⟩; rw [hg'.out]))
                go_ret
                exact ⟨by rw [hv.out] <;> rfl, (hal.out _)⟩
              | false =>
                have hv := Lib.hid (show formedV o = valB o.value by unfold formedV; rw [hm, if_neg k1, if_neg k2, if_neg k3, if_pos k4, hg, hgo]; rfl)
                clear k1 k2 k3 k4 hm hg
                unfold opCells
                go_enter Try.func11, Try.ntmps11
                go_wp2_with (first
                  | (go_at_call 38; go_at_call_of 38 s.pA; refine (hmay.out _ (hal.out _)).mono ?_; rintro e w7 ⟨rfl, rfl⟩; rw [hm'.out])
                  | (go_at_call 41; refine (hkey.out _).mono ?_; rintro e w7 ⟨rfl, rfl⟩; rw [hg'.out])
                  | (go_at_call 42; refine (hval.out _).mono ?_; rintro e w7 ⟨rfl, rfl⟩))
                go_ret
                exact ⟨by rw [hv.out] <;> first | rfl | simp, (hal.out _)⟩
          · skip
            by_cases k5 : o.kind = 5
            · have kI := Lib.hid k5
              have b1 : ((o.kind : Int) == 1) = false := by simp; omega
              have b2 : ((o.kind : Int) == 2) = false := by simp; omega
              have b3 : ((o.kind : Int) == 3) = false := by simp; omega
              have b4 : ((o.kind : Int) == 4) = false := by simp; omega
              have b5 : ((o.kind : Int) == 5) = true := by simp; omega
              have hv := Lib.hid (show formedV o = lblB o.label by unfold formedV; rw [hm, if_neg k1, if_neg k2, if_neg k3, if_neg k4, if_pos k5]; rfl)
              clear k1 k2 k3 k4 k5 hm
              unfold opCells
              go_enter Try.func11, Try.ntmps11
              go_wp2_with (first
                | (go_at_call 38; go_at_call_of 38 s.pA; refine (hmay.out _ (hal.out _)).mono ?_; rintro e w7 ⟨rfl, rfl⟩; rw [hm'.out])
                | (go_at_call 40; refine (hlab.out _).mono ?_; rintro e w7 ⟨rfl, rfl⟩))
              go_ret
              exact ⟨by rw [hv.out] <;> first | rfl | simp, (hal.out _)⟩
            · skip
              by_cases k6 : o.kind = 6
              · have kI := Lib.hid k6
                have b1 : ((o.kind : Int) == 1) = false := by simp; omega
                have b2 : ((o.kind : Int) == 2) = false := by simp; omega
                have b3 : ((o.kind : Int) == 3) = false := by simp; omega
                have b4 : ((o.kind : Int) == 4) = false := by simp; omega
                have b5 : ((o.kind : Int) == 5) = false := by simp; omega
                have b6 : ((o.kind : Int) == 6) = true := by simp; omega
                have hv := Lib.hid (show formedV o = P5.rightV o.pieces by unfold formedV; rw [hm, if_neg k1, if_neg k2, if_neg k3, if_neg k4, if_neg k5, if_pos k6]; rfl)
                clear k1 k2 k3 k4 k5 k6 hm
                unfold opCells
                go_enter Try.func11, Try.ntmps11
                go_wp2_with (first
                  | (go_at_call 38; go_at_call_of 38 s.pA; refine (hmay.out _ (hal.out _)).mono ?_; rintro e w7 ⟨rfl, rfl⟩; rw [hm'.out])
                  | (go_at_call 43; refine (hrig.out _ (hal.out _)).mono ?_; rintro e w7 ⟨rfl, hb7⟩; have hb7' := Lib.hid ((hal.out _).trans (hb7.mono (hal.out _).size)); clear hb7))
                go_ret
                exact ⟨by rw [hv.out] <;> first | rfl | simp, hb7'.out⟩
              · skip
                have b1 : ((o.kind : Int) == 1) = false := by simp; omega
                have b2 : ((o.kind : Int) == 2) = false := by simp; omega
                have b3 : ((o.kind : Int) == 3) = false := by simp; omega
                have b4 : ((o.kind : Int) == 4) = false := by simp; omega
                have b5 : ((o.kind : Int) == 5) = false := by simp; omega
                have b6 : ((o.kind : Int) == 6) = false := by simp; omega
                have hv := Lib.hid (show formedV o = false by unfold formedV; rw [hm, if_neg k1, if_neg k2, if_neg k3, if_neg k4, if_neg k5, if_neg k6]; rfl)
                clear k1 k2 k3 k4 k5 k6 hm
                unfold opCells
                go_enter Try.func11, Try.ntmps11
                go_wp2_with (first
                  | (go_at_call 38; go_at_call_of 38 s.pA; refine (hmay.out _ (hal.out _)).mono ?_; rintro e w7 ⟨rfl, rfl⟩; rw [hm'.out]))
                go_ret
                exact ⟨by rw [hv.out] <;> rfl, (hal.out _)⟩
end Go.Proofs.Ytoeblaecldhcaaa
/- At and Put once more, over any blocks T: what is answered lies in these, or in new ones. (After wip/plain's TreM, TreV, TreW.) -/
namespace Go.Proofs.Ytoeblaecldhcaaa.Top
open Go.RowKit
set_option maxRecDepth 20000
set_option linter.unusedVariables false

/-- the blocks of T, and new ones -/
def Nw (T : Nat → Prop) (w w' : World) (k : Nat) : Prop := T k ∨ (w.heap.size ≤ k ∧ k < w'.heap.size)
def AtAns (T : Nat → Prop) (w : World) (t : Nd) (p : List Int) (e : Ending) (w' : World) : Prop :=
  ∃ aA an ac kA kn kc, e = .returned (.tuple #[.agg (val6 ((atV t p).getD Nd.zero) aA an ac kA kn kc), .bool (atV t p).isSome]) ∧ NodeV (Nw T w w') w' aA an ac kA kn kc ((atV t p).getD Nd.zero) ∧ Below w.heap.size w w'
set_option maxHeartbeats 4000000 in
theorem at_T (T : Nat → Prop) (w : World) (hT : ∀ k, T k → k < w.heap.size) (t : Nd) (aA kA : Option Addr) (an ac kn kc : Nat) (h : NodeV T w aA an ac kA kn kc t) (pA : Option Addr) (pn pc : Nat) (p : List Int) (hp : Its w pA pn p) (hpn : pn ≤ maxLen)
    (hbig : weighV t ≤ 1000000) :
    Calls Try.prog 33 #[.agg (val6 t aA an ac kA kn kc), .slice pA pn pc] w (AtAns T w t p) := by
  have h' := Lib.hid h
  have hp' := Lib.hid hp
  have hpl := Lib.hid hp.1
  clear h hp
  unfold maxLen at hpn
  unfold val6
  go_enter Try.func33, Try.ntmps33
  go_wp2_with fail
  go_loopw [10] (fun k wr => ∃ (q : Nat) (s : Nd) (sA skA : Option Addr) (sn sc skn skc : Nat), q ≤ pn ∧ k = .int .i64 (q : Int) ∧ atV t p = atV s (p.drop q) ∧ weighV s ≤ 1000000 ∧ NodeV T w sA sn sc skA skn skc s ∧
    wr.heap[w.heap.size]? = some (.cells (val6 s sA sn sc skA skn skc) 33 (0, 0)) ∧ wr.heap[w.heap.size + 1]? = some (.cells zero6 33 (0, 0)) ∧ Below w.heap.size w wr) (fun k _ => pn - (intOf k).toNat)
  case atStart =>
    exact ⟨0, t, aA, kA, an, ac, kn, kc, Nat.zero_le _, rfl, rfl, hbig, h'.out, two_first w _ _, two_second w _ _, ((Below.refl _ w).alloc (Nat.le_refl _) _).alloc (by simp) _⟩
  case round =>
    obtain ⟨q, s, sA, skA, sn, sc, skn, skc, hq, rfl, hat, hz, hv, hB, hR, hbel⟩ := hrel
    have hf := hv.facts
    have hkl := hf.kl
    have hb := weigh_rows s
    unfold val6 at hB
    unfold zero6 at hR
    obtain ⟨c0, c1, c2, c3, c4, c5, cf⟩ := six_cells hB
    obtain ⟨r0, r1, r2, r3, r4, r5, rf⟩ := six_cells hR
    have hBl := (Array.getElem?_eq_some_iff.1 hB).1
    have hRl := (Array.getElem?_eq_some_iff.1 hR).1
    by_cases h1 : q < pn
    · have h1I : (q : Int) < (pn : Int) := by omega
      obtain ⟨ad, i, rfl, hi, hci⟩ := (hp'.out.below hbel).at_ h1
      have hdrop : p.drop q = i :: p.drop (q + 1) := by
        have hl : q < p.length := by rw [hpl.out]; exact h1
        rw [List.drop_eq_getElem_cons hl]
        rw [List.getElem?_eq_getElem hl] at hi
        injection hi with hi
        rw [hi]
      rw [hdrop] at hat
      have hkm := hf.kcm
      have hknc := hf.knc
      rcases hasB_cases skn i with hno | ⟨j, rfl, hj, hyes⟩
      · have hcall := Lib.hid (hasChild_any wr (s.id : Int) s.leaf s.label s.text sA skA sn sc skn skc i (by omega))
        rw [hno] at hcall
        have hans := Lib.hid (hat.trans (atV_none (by rw [hkl]; exact hno)))
        have hbel' := Lib.hid hbel
        have hR' := Lib.hid hR
        clear hat hf hkl hv hB hR hbel hno hdrop hkm hknc hz hb hi
        go_wp2_with (go_at_call 68; refine hcall.out.mono ?_; rintro e w1 ⟨rfl, hb1⟩; have R1 := (hb1.block _ hRl).trans hR'.out; obtain ⟨d0, d1, d2, d3, d4, d5, df⟩ := six_cells R1)
        have hW : w.heap.size + 1 < w1.heap.size := (Array.getElem?_eq_some_iff.1 R1).1
        have R9 := set_six (b0 := .int .u64 0) (b1 := .bool false) (b2 := .string ⟨#[]⟩) (b3 := .slice none 0 0) (b4 := .string ⟨#[]⟩) (b5 := .slice none 0 0) R1
        have hb9 : Below w.heap.size w _ := below_six (hbel'.out.trans (hb1.mono hbel'.out.size)) (b0 := .int .u64 0) (b1 := .bool false) (b2 := .string ⟨#[]⟩) (b3 := .slice none 0 0) (b4 := .string ⟨#[]⟩) (b5 := .slice none 0 0) (Nat.le_succ w.heap.size)
        generalize ((((((w1.setCell ⟨w.heap.size + 1, 0, none⟩ (.int .u64 0)).setCell ⟨w.heap.size + 1, 1, none⟩ (.bool false)).setCell ⟨w.heap.size + 1, 2, none⟩ (.string ⟨#[]⟩)).setCell ⟨w.heap.size + 1, 3, none⟩ (.slice none 0 0)).setCell ⟨w.heap.size + 1, 4, none⟩ (.string ⟨#[]⟩)).setCell ⟨w.heap.size + 1, 5, none⟩ (.slice none 0 0)) = W9 at R9 hb9 ⊢
        obtain ⟨d0, d1, d2, d3, d4, d5, df⟩ := six_cells R9
        refine bodyPost_ret (v := .tuple #[.agg zero6, .bool false]) (by simp [results, Try.results33, go_sem, d0, d1, d2, d3, d4, d5, zero6]) rfl ?_
        exact ⟨none, 0, 0, none, 0, 0, by rw [hans.out]; rfl, by rw [hans.out]; exact zero_node, hb9⟩
      · obtain ⟨kd, hkd⟩ : ∃ kd, s.kids[j]? = some kd := ⟨s.kids[j]'(by omega), List.getElem?_eq_getElem _⟩
        obtain ⟨ka, rfl, hka, aA3, an3, ac3, kA3, kn3, kc3, hsix, hv3⟩ := hf.row.at_ hkd
        rw [Nat.zero_add] at hka hsix
        have hcall := Lib.hid (hasChild_any wr (s.id : Int) s.leaf s.label s.text sA (some ka) sn sc skn skc (j : Int) (by omega))
        rw [hyes] at hcall
        have hans := Lib.hid (hat.trans (atV_some hkd))
        have hpath := Lib.hid (Nat.le_trans (weigh_kid hkd) hz)
        have hjI : (j : Int) < (skn : Int) := by omega
        have hbel' := Lib.hid hbel
        have hR' := Lib.hid hR
        have hv3' := Lib.hid hv3
        clear hat hf hkl hv hR hbel hyes hdrop hkm hknc hz hb hi hkd hv3
        go_wp2_with (go_at_call 68; refine hcall.out.mono ?_; rintro e w1 ⟨rfl, hb1⟩; have B1 := (hb1.block _ hBl).trans hB; have R1 := (hb1.block _ hRl).trans hR'.out; obtain ⟨d0, d1, d2, d3, d4, d5, df⟩ := six_cells B1; obtain ⟨s0, s1, s2, s3, s4, s5⟩ := hsix.kept (w' := w1) (((hbel'.out.trans (hb1.mono hbel'.out.size))).block _ (hT _ hka)))
        go_roundw
        case rel =>
          have hbw := hbel'.out.trans (hb1.mono hbel'.out.size)
          refine ⟨q + 1, kd, aA3, kA3, an3, ac3, kn3, kc3, by omega, by go_num, hans.out, hpath.out, hv3'.out, set_six B1, (set_six_other (by omega)).trans R1, below_six hbw (Nat.le_refl _)⟩
        case measure => simp [intOf]; omega
    · have h1I : ¬ (q : Int) < (pn : Int) := by omega
      have hans := Lib.hid (show atV t p = some s by rw [hat, List.drop_of_length_le (by rw [hpl.out]; omega)]; rfl)
      have hcall := Lib.hid (owned_any wr T s sA skA sn sc skn skc (hv.kept (fun _ h => h) (fun k hk => hbel.block k (hT k hk))) (fun k hk => Nat.lt_of_lt_of_le (hT k hk) hbel.size) (by have := hf.ats.1; omega) (by omega))
      have hv' := Lib.hid (hv.kept (w' := wr) (T' := T) (fun _ h => h) (fun k hk => hbel.block k (hT k hk)))
      have hbel' := Lib.hid hbel
      have hR' := Lib.hid hR
      clear hat hf hkl hv hR hbel hz hb hB
      go_wp2_with (go_at_call 69; refine hcall.out.mono ?_; rintro e w1 ⟨oA, oc, okA, okc, gA, ks, rfl, hO⟩; have R1 := (hO.bel.block _ hRl).trans hR'.out; obtain ⟨d0, d1, d2, d3, d4, d5, df⟩ := six_cells R1; have hO' := Lib.hid hO; clear hO)
      have R9 := set_six (b0 := .int .u64 (s.id : Int)) (b1 := .bool s.leaf) (b2 := .string ⟨s.label.toArray⟩) (b3 := .slice oA sn oc) (b4 := .string ⟨s.text.toArray⟩) (b5 := .slice okA skn okc) R1
      have hO := hO'.out
      have hbw := hbel'.out.trans (hO.bel.mono hbel'.out.size)
      have hb9 : Below w.heap.size w _ := below_six hbw (b0 := .int .u64 (s.id : Int)) (b1 := .bool s.leaf) (b2 := .string ⟨s.label.toArray⟩) (b3 := .slice oA sn oc) (b4 := .string ⟨s.text.toArray⟩) (b5 := .slice okA skn okc) (Nat.le_succ w.heap.size)
      have hz1 := hO.bel.size
      have hN : NodeV (Nw T w ((((((w1.setCell ⟨w.heap.size + 1, 0, none⟩ (.int .u64 (s.id : Int))).setCell ⟨w.heap.size + 1, 1, none⟩ (.bool s.leaf)).setCell ⟨w.heap.size + 1, 2, none⟩ (.string ⟨s.label.toArray⟩)).setCell ⟨w.heap.size + 1, 3, none⟩ (.slice oA sn oc)).setCell ⟨w.heap.size + 1, 4, none⟩ (.string ⟨s.text.toArray⟩)).setCell ⟨w.heap.size + 1, 5, none⟩ (.slice okA skn okc))) ((((((w1.setCell ⟨w.heap.size + 1, 0, none⟩ (.int .u64 (s.id : Int))).setCell ⟨w.heap.size + 1, 1, none⟩ (.bool s.leaf)).setCell ⟨w.heap.size + 1, 2, none⟩ (.string ⟨s.label.toArray⟩)).setCell ⟨w.heap.size + 1, 3, none⟩ (.slice oA sn oc)).setCell ⟨w.heap.size + 1, 4, none⟩ (.string ⟨s.text.toArray⟩)).setCell ⟨w.heap.size + 1, 5, none⟩ (.slice okA skn okc)) oA sn oc okA skn okc s := (hO.node hv'.out (fun k hk => Nat.lt_of_lt_of_le (hT k hk) hbel'.out.size)).kept (fun k hk => by
          show T k ∨ _
          have hsz := hbel'.out.size
          simp only [World.size_setCell]
          rcases hk with hk | hk
          · exact .inl hk
          · exact .inr ⟨by omega, hk.2⟩) (fun k hk => set_six_other (by
          have hRl2 := hRl
          rcases hk with hk | hk
          · have := hT k hk
            omega
          · omega))
      generalize ((((((w1.setCell ⟨w.heap.size + 1, 0, none⟩ (.int .u64 (s.id : Int))).setCell ⟨w.heap.size + 1, 1, none⟩ (.bool s.leaf)).setCell ⟨w.heap.size + 1, 2, none⟩ (.string ⟨s.label.toArray⟩)).setCell ⟨w.heap.size + 1, 3, none⟩ (.slice oA sn oc)).setCell ⟨w.heap.size + 1, 4, none⟩ (.string ⟨s.text.toArray⟩)).setCell ⟨w.heap.size + 1, 5, none⟩ (.slice okA skn okc)) = W9 at R9 hb9 hN ⊢
      obtain ⟨f0, f1, f2, f3, f4, f5, ff⟩ := six_cells R9
      refine bodyPost_ret (v := .tuple #[.agg (val6 s oA sn oc okA skn okc), .bool true]) (by simp [results, Try.results33, go_sem, f0, f1, f2, f3, f4, f5, val6]) rfl ?_
      exact ⟨oA, sn, oc, okA, skn, okc, by rw [hans.out]; rfl, by rw [hans.out]; exact hN, hb9⟩
/-- all blocks but the one of the answer -/
def Ex (T : Nat → Prop) (b0 : Nat) (W : World) (k : Nat) : Prop := (T k ∨ b0 ≤ k) ∧ k < W.heap.size ∧ k ≠ b0 + 1 + 1
/-- whatever comes to lie at ⟨eb, eo⟩: what then lies at the block b0 -/
def Hole (T : Nat → Prop) (b0 : Nat) (W : World) (eb eo : Nat) (f : Nd → Nd) : Prop :=
  ∀ (W' : World) (z : Nd), W.heap.size ≤ W'.heap.size → (∀ k, k < W.heap.size → k ≠ eb → W'.heap[k]? = W.heap[k]?) → (∀ o, (o < eo ∨ eo + 5 < o) → W'.cell? ⟨eb, o, none⟩ = W.cell? ⟨eb, o, none⟩) →
    NodeAt (Ex T b0 W') W' ⟨eb, eo, none⟩ z → NodeAt (Ex T b0 W') W' ⟨b0, 0, none⟩ (f z)
theorem hole_step {T : Nat → Prop} {w W W1 W2 : World} (hT : ∀ k, T k → k < w.heap.size) {b0 eb eo : Nat} {f : Nd → Nd} {s : Nd} {sA skA aA kA : Option Addr} {sn sc skn skc an ac kn kc gA j : Nat} {ks : List KV} (hb : Below w.heap.size w W) (hb0 : b0 = w.heap.size) (hr : b0 + 1 + 1 < W.heap.size) (hre : eb ≠ b0 + 1 + 1) (hole : Hole T b0 W eb eo f) (heb : eb < W.heap.size) (hew : w.heap.size ≤ eb)
    (hO : Owned W W1 T s aA an ac kA kn kc gA ks) (hv : NodeV T W sA sn sc skA skn skc s) (s1 : W2.heap.size = W1.heap.size) (s2 : ∀ k, k ≠ eb → W2.heap[k]? = W1.heap[k]?) (s3 : ∀ o, (o < eo ∨ eo + 5 < o) → W2.cell? ⟨eb, o, none⟩ = W1.cell? ⟨eb, o, none⟩)
    (s4 : Six W2 ⟨eb, eo, none⟩ s aA an ac kA kn kc) (hj : j < kn) :
    ∃ g kv cur, kA = some ⟨g, 0, none⟩ ∧ W.heap.size ≤ g ∧ g < W1.heap.size ∧ Hole T b0 W2 g (j * 6) (fun z => f (s.withKids (s.kids.set j z))) ∧ ks[j]? = some kv ∧ s.kids[j]? = some kv.t ∧ kv.six W2 ⟨g, j * 6, none⟩ ∧ kv.ok T W ∧ W2.heap[g]? = some (.cells cur 33 (0, 0)) ∧ j * 6 + 5 < cur.size := by
  have hlen := hO.len
  have hbel := hO.bel
  have hz := hbel.size
  obtain ⟨A, n, c, e, hn, hnc, -, -, hq⟩ := hO.row.shape
  injection e with e1 e2 e3
  subst e1 e2 e3
  obtain ⟨kv, hkv⟩ : ∃ kv, ks[j]? = some kv := ⟨ks[j]'(by omega), List.getElem?_eq_getElem _⟩
  obtain ⟨g, rfl, hg1, hg2, hgs⟩ := hq j kv hkv
  have hge : g ≠ eb := by omega
  obtain ⟨cur, hcur, hcsz⟩ : ∃ cur, W1.heap[g]? = some (.cells cur 33 (0, 0)) ∧ j * 6 + 5 < cur.size := by
    rcases hO.row.2 with ⟨h0, h1⟩ | ⟨g', cap, cur, e, -, hg, hcap, -, hsz, -⟩
    · cases h0
    · injection e with e1 e2 e3
      injection e1 with e1
      injection e1 with e1
      subst e1
      exact ⟨cur, hg, by rw [hsz]; omega⟩
  have hgn : g ≠ gA := hO.ne _ rfl
  have hkt : ∀ (q : Nat) (v : KV), ks[q]? = some v → s.kids[q]? = some v.t := fun q v h => by rw [← hO.map, List.getElem?_map, h]; rfl
  have b12 : ∀ k, k ≠ eb → k < W1.heap.size → W2.heap[k]? = W1.heap[k]? := fun k h _ => s2 k h
  refine ⟨g, kv, cur, rfl, hg1, hg2, ?_, hkv, hkt j kv hkv, hgs.kept (b12 g hge hg2), hO.ok kv (List.mem_of_getElem? hkv), (s2 g hge).trans hcur, hcsz⟩
  intro W' z hzs hother hcell hN
  have hbe : W'.heap[eb]? = W2.heap[eb]? := hother eb (by omega) (fun e => hge e.symm)
  refine hole W' (s.withKids (s.kids.set j z)) (by omega) (fun k hk hne => (hother k (by omega) (by omega)).trans ((s2 k hne).trans (hbel.block k hk))) (fun o ho => ?_) ?_
  · exact (World.cell?_of_block (a := ⟨eb, o, none⟩) hbe).trans ((s3 o ho).trans (World.cell?_of_block (a := ⟨eb, o, none⟩) (hbel.block eb heb)))
  · refine ⟨⟨.inr (by show b0 ≤ eb; omega), by show eb < _; omega, hre⟩, aA, an, ac, some ⟨g, 0, none⟩, kn, kc, (six_with ..).2 (s4.kept hbe), ?_⟩
    have hf := hv.facts
    have hga := hO.ga
    have hat : AtsIn (Ex T b0 W') W' aA an s.attrs := hO.ats.kept (fun k hk => by subst hk; exact ⟨.inr (by have := hb.size; omega), by omega, by omega⟩) (fun k hk => by subst hk; exact (hother k (by omega) (fun e => hgn e.symm)).trans (s2 k (by omega)))
    have hrow : RowAt (Ex T b0 W') W' (some ⟨g, 0, none⟩) 0 (s.kids.set j z) := by
      refine RowAt.of _ 0 fun q t hqt => ⟨_, rfl, ?_⟩
      rw [Nat.zero_add, add_zero_off]
      by_cases hqj : q = j
      · subst hqj
        rw [List.getElem?_set_self (by have := hf.kl; have := (List.getElem?_eq_some_iff.1 (hkt q kv hkv)).1; omega)] at hqt
        injection hqt with hqt
        subst hqt
        exact hN
      · rw [List.getElem?_set_ne (fun e => hqj e.symm)] at hqt
        obtain ⟨v, hvq⟩ : ∃ v, ks[q]? = some v := by
          have := (List.getElem?_eq_some_iff.1 hqt).1
          have hm : ks.length = s.kids.length := by rw [← hO.map, List.length_map]
          exact ⟨ks[q]'(by omega), List.getElem?_eq_getElem _⟩
        have hvt := hkt q v hvq
        rw [hqt] at hvt
        injection hvt with hvt
        subst hvt
        obtain ⟨g', eg, -, -, h6⟩ := hq q v hvq
        injection eg with eg
        injection eg with eg
        subst eg
        have hc6 : ∀ o, o < q * 6 + 6 → q * 6 ≤ o → W'.cell? ⟨g, o, none⟩ = W1.cell? ⟨g, o, none⟩ := fun o h1 h2 => (hcell o (by omega)).trans (World.cell?_of_block (a := ⟨g, o, none⟩) (s2 g hge))
        obtain ⟨t0, t1, t2, t3, t4, t5⟩ := h6
        refine ⟨⟨.inr (by show b0 ≤ g; have := hb.size; omega), by show g < _; omega, by show g ≠ _; omega⟩, v.aA, v.an, v.ac, v.kA, v.kn, v.kc, ⟨(hc6 (q * 6) (by omega) (by omega)).trans t0, (hc6 (q * 6 + 1) (by omega) (by omega)).trans t1, (hc6 (q * 6 + 2) (by omega) (by omega)).trans t2, (hc6 (q * 6 + 3) (by omega) (by omega)).trans t3, (hc6 (q * 6 + 4) (by omega) (by omega)).trans t4, (hc6 (q * 6 + 5) (by omega) (by omega)).trans t5⟩, ?_⟩
        refine NodeV.kept (T := T) (w := W) (fun k hk => ?_) (fun k hk => ?_) _ _ _ _ _ _ _ (hO.ok v (List.mem_of_getElem? hvq))
        · have hk' : k < w.heap.size := hT k hk
          exact ⟨.inl hk, by have := hb.size; omega, by omega⟩
        · have hk' : k < w.heap.size := hT k hk
          have := hb.size
          exact (hother k (by omega) (by omega)).trans ((s2 k (by omega)).trans (hbel.block k (by omega)))
    have hkl : (s.kids.set j z).length = kn := by
      rw [List.length_set, ← hO.map, List.length_map]
      exact hlen
    have hfi := hf.id
    have hfl := hf.label
    have hft := hf.text
    cases s
    exact NFacts.node ⟨hfi, hfl, hft, hat, hO.anc, hO.acm, hO.anil, hkl, hO.knc, hO.kcm, hO.knil, hrow⟩
theorem hole_below {T : Nat → Prop} {b0 eb eo : Nat} {W W' : World} {f : Nd → Nd} (h : Hole T b0 W eb eo f) (heb : eb < W.heap.size) (hb : Below W.heap.size W W') : Hole T b0 W' eb eo f := fun W2 z hz ho hc hN =>
  h W2 z (Nat.le_trans hb.size hz) (fun k hk hne => (ho k (Nat.lt_of_lt_of_le hk hb.size) hne).trans (hb.block k hk)) (fun o h => (hc o h).trans (hb.cell (p := ⟨eb, o, none⟩) heb)) hN
/-- what Put answers -/
def PutAns (T : Nat → Prop) (w : World) (t : Nd) (p : List Int) (x : Nd) (e : Ending) (w' : World) : Prop :=
  ∃ aA an ac kA kn kc, e = .returned (.tuple #[.agg (val6 ((putV t p x).getD Nd.zero) aA an ac kA kn kc), .bool (putV t p x).isSome]) ∧ NodeV (Nw T w w') w' aA an ac kA kn kc ((putV t p x).getD Nd.zero) ∧ Below w.heap.size w w'
set_option maxHeartbeats 8000000 in
theorem put_T (T : Nat → Prop) (w : World) (hT : ∀ k, T k → k < w.heap.size) (t x : Nd) (aA kA xA xkA : Option Addr) (an ac kn kc xn xc xkn xkc : Nat) (h : NodeV T w aA an ac kA kn kc t) (hx : NodeV T w xA xn xc xkA xkn xkc x) (pA : Option Addr) (pn pc : Nat) (p : List Int) (hp : Its w pA pn p) (hpn : pn ≤ maxLen)
    (hbig : weighV t ≤ 1000000) (hbigx : weighV x ≤ 1000000) :
    Calls Try.prog 103 #[.agg (val6 t aA an ac kA kn kc), .slice pA pn pc, .agg (val6 x xA xn xc xkA xkn xkc)] w (PutAns T w t p x) := by
  have h' := Lib.hid h
  have hx' := Lib.hid hx
  have hp' := Lib.hid hp
  have hpl := Lib.hid hp.1
  have hbigx' := Lib.hid hbigx
  clear h hx hp hbigx
  unfold maxLen at hpn
  obtain ⟨W3, hW3⟩ : ∃ W3, W3 = ((w.alloc (.cells (val6 t aA an ac kA kn kc) 33)).alloc (.cells (val6 x xA xn xc xkA xkn xkc) 33)).alloc (.cells zero6 33) := ⟨_, rfl⟩
  have hstart := Lib.hid (show W3.heap[w.heap.size]? = some (.cells (val6 t aA an ac kA kn kc) 33 (0, 0)) ∧ W3.heap[w.heap.size + 1]? = some (.cells (val6 x xA xn xc xkA xkn xkc) 33 (0, 0)) ∧ W3.heap[w.heap.size + 1 + 1]? = some (.cells zero6 33 (0, 0)) ∧ Below w.heap.size w W3 by
    rw [hW3]
    have h1 := heap_alloc_new w (.cells (val6 t aA an ac kA kn kc) 33)
    have h2 := heap_alloc_new (w.alloc (.cells (val6 t aA an ac kA kn kc) 33)) (.cells (val6 x xA xn xc xkA xkn xkc) 33)
    have h3 := heap_alloc_new ((w.alloc (.cells (val6 t aA an ac kA kn kc) 33)).alloc (.cells (val6 x xA xn xc xkA xkn xkc) 33)) (.cells zero6 33)
    rw [World.size_alloc] at h2
    rw [World.size_alloc, World.size_alloc] at h3
    exact ⟨(Go.heap_alloc_old _ _ (by simp; omega)).trans ((Go.heap_alloc_old _ _ (by simp)).trans h1), (Go.heap_alloc_old _ _ (by simp)).trans h2, h3, (((Below.refl w.heap.size w).alloc (Nat.le_refl _) _).alloc (by simp) _).alloc (by simp; omega) _⟩)
  unfold zero6 val6 at hW3
  unfold val6
  go_enter Try.func103, Try.ntmps103
  go_wp2_with fail
  rw [← hW3]
  clear hW3
  go_loopw [8, 13] (fun pl k wr => ∃ (q : Nat) (s : Nd) (sA skA : Option Addr) (sn sc skn skc eb eo : Nat) (f : Nd → Nd) (cs : Array Value), q ≤ pn ∧ k = .int .i64 (q : Int) ∧ pl = .pointer (some ⟨eb, eo, none⟩) ∧ putV t p x = (putV s (p.drop q) x).map f ∧ weighV s ≤ 1000000 ∧
    NodeV T w sA sn sc skA skn skc s ∧ Six wr ⟨eb, eo, none⟩ s sA sn sc skA skn skc ∧ wr.heap[eb]? = some (.cells cs 33 (0, 0)) ∧ eo + 5 < cs.size ∧ (eb = w.heap.size ∨ w.heap.size + 3 ≤ eb) ∧ Hole T w.heap.size wr eb eo f ∧
    wr.heap[w.heap.size + 1]? = some (.cells (val6 x xA xn xc xkA xkn xkc) 33 (0, 0)) ∧ wr.heap[w.heap.size + 1 + 1]? = some (.cells zero6 33 (0, 0)) ∧ Below w.heap.size w wr) (fun _ k _ => pn - (intOf k).toNat)
  case atStart =>
    obtain ⟨g1, g2, g3, g4⟩ := hstart.out
    unfold val6 at g1
    obtain ⟨c0, c1, c2, c3, c4, c5, -⟩ := six_cells g1
    exact ⟨0, t, aA, kA, an, ac, kn, kc, w.heap.size, 0, fun z => z, _, Nat.zero_le _, rfl, rfl, by simp, hbig, h'.out, ⟨c0, c1, c2, c3, c4, c5⟩, g1, by simp, .inl rfl, fun _ _ _ _ _ h => h, g2, g3, g4⟩
  case round =>
    obtain ⟨q, s, sA, skA, sn, sc, skn, skc, eb, eo, f, cs, hq, rfl, rfl, hput, hsw, hv, hsix, hrow, hcs, heb, hhole, hX, hZ, hbel⟩ := hrel
    have hf := hv.facts
    have hkl := hf.kl
    have hwr := weigh_rows s
    have hrl := (Array.getElem?_eq_some_iff.1 hrow).1
    have hXl := (Array.getElem?_eq_some_iff.1 hX).1
    have hZl := (Array.getElem?_eq_some_iff.1 hZ).1
    have hrl' := Lib.hid hrl
    have hXl' := Lib.hid hXl
    have hZl' := Lib.hid hZl
    have hX' := Lib.hid hX
    have hZ' := Lib.hid hZ
    have hrow' := Lib.hid hrow
    have hhole' := Lib.hid hhole
    have hbel' := Lib.hid hbel
    have hput' := Lib.hid hput
    have hcs' := Lib.hid hcs
    have heb' := Lib.hid heb
    have hsix' := Lib.hid hsix
    obtain ⟨c0, c1, c2, c3, c4, c5⟩ := hsix
    by_cases h1 : q < pn
    · have h1I : (q : Int) < (pn : Int) := by omega
      obtain ⟨ad, i, rfl, hi, hci⟩ := (hp'.out.below hbel).at_ h1
      have hdrop : p.drop q = i :: p.drop (q + 1) := by
        have hl : q < p.length := by rw [hpl.out]; exact h1
        rw [List.drop_eq_getElem_cons hl]
        rw [List.getElem?_eq_getElem hl] at hi
        injection hi with hi
        rw [hi]
      rw [hdrop] at hput
      have hkm := hf.kcm
      have hknc := hf.knc
      rcases hasB_cases skn i with hno | ⟨j, rfl, hj, hyes⟩
      · have hcall := Lib.hid (hasChild_any wr (s.id : Int) s.leaf s.label s.text sA skA sn sc skn skc i (by omega))
        rw [hno] at hcall
        have hans := Lib.hid (show putV t p x = none by rw [hput, putV_none (by rw [hkl]; exact hno)]; rfl)
        clear hput hf hkl hv hX hZ hrow hhole hbel hno hdrop hkm hknc hwr hi hcs heb hrl hXl hZl hsw
        go_wp2_with (go_at_call 68; refine hcall.out.mono ?_; rintro e w1 ⟨rfl, hb1⟩; have R1 := (hb1.block _ hZl'.out).trans hZ'.out; unfold zero6 at R1; obtain ⟨d0, d1, d2, d3, d4, d5, df⟩ := six_cells R1)
        have R9 := set_six (b0 := .int .u64 0) (b1 := .bool false) (b2 := .string ⟨#[]⟩) (b3 := .slice none 0 0) (b4 := .string ⟨#[]⟩) (b5 := .slice none 0 0) R1
        have hb9 : Below w.heap.size w _ := below_six (hbel'.out.trans (hb1.mono hbel'.out.size)) (b0 := .int .u64 0) (b1 := .bool false) (b2 := .string ⟨#[]⟩) (b3 := .slice none 0 0) (b4 := .string ⟨#[]⟩) (b5 := .slice none 0 0) (show w.heap.size ≤ w.heap.size + 1 + 1 by omega)
        generalize ((((((w1.setCell ⟨w.heap.size + 1 + 1, 0, none⟩ (.int .u64 0)).setCell ⟨w.heap.size + 1 + 1, 1, none⟩ (.bool false)).setCell ⟨w.heap.size + 1 + 1, 2, none⟩ (.string ⟨#[]⟩)).setCell ⟨w.heap.size + 1 + 1, 3, none⟩ (.slice none 0 0)).setCell ⟨w.heap.size + 1 + 1, 4, none⟩ (.string ⟨#[]⟩)).setCell ⟨w.heap.size + 1 + 1, 5, none⟩ (.slice none 0 0)) = W9 at R9 hb9 ⊢
        obtain ⟨d0, d1, d2, d3, d4, d5, df⟩ := six_cells R9
        refine bodyPost_ret (v := .tuple #[.agg zero6, .bool false]) (by simp [results, Try.results103, go_sem, d0, d1, d2, d3, d4, d5, zero6]) rfl ?_
        exact ⟨none, 0, 0, none, 0, 0, by rw [hans.out]; rfl, by rw [hans.out]; exact zero_node, hb9⟩
      · obtain ⟨kd, hkd⟩ : ∃ kd, s.kids[j]? = some kd := ⟨s.kids[j]'(by omega), List.getElem?_eq_getElem _⟩
        have hcall := Lib.hid (hasChild_any wr (s.id : Int) s.leaf s.label s.text sA skA sn sc skn skc (j : Int) (by omega))
        rw [hyes] at hcall
        have hans := Lib.hid (show putV t p x = (putV kd (p.drop (q + 1)) x).map fun z => f (s.withKids (s.kids.set j z)) by rw [hput, putV_some hkd, Option.map_map]; rfl)
        have hvw : Hid (∀ W, Below wr.heap.size wr W → NodeV T W sA sn sc skA skn skc s) := fun W hb => hv.kept (fun _ h => h) (fun k hk => (hb.block k (Nat.lt_of_lt_of_le (hT k hk) hbel'.out.size)).trans (hbel'.out.block k (hT k hk)))
        have hwk := Lib.hid (Nat.le_trans (weigh_kid hkd) hsw)
        have hkd' := Lib.hid hkd
        have hjI : (j : Int) < (skn : Int) := by omega
        have hj0 : 0 < skn := by omega
        have hsn : sn ≤ 1000000 := by have := hf.ats.1; omega
        have hkn : skn ≤ 1000000 := by omega
        have holdw := Lib.hid (show ∀ (W : World), Below wr.heap.size wr W → ∀ k, T k → k < W.heap.size from fun W hb k hk => Nat.lt_of_lt_of_le (Nat.lt_of_lt_of_le (hT k hk) hbel'.out.size) hb.size)
        clear hput hf hkl hv hX hZ hrow hhole hbel hyes hdrop hkm hknc hwr hi hcs heb hrl hXl hZl hsw hkd
        go_upto_region 8 with (first
          | (go_at_call 68; refine hcall.out.mono ?_; rintro e w1 ⟨rfl, hb1⟩; obtain ⟨d0, d1, d2, d3, d4, d5⟩ := hsix'.out.kept (w' := w1) (hb1.block _ hrl'.out); have hb1' := Lib.hid hb1; clear hb1)
          | (go_at_call 69; refine (owned_any w1 T s sA skA sn sc skn skc (hvw.out _ hb1'.out) (holdw.out _ hb1'.out) hsn hkn).mono ?_; rintro e w2 ⟨oA, oc, okA, okc, gA, ks, rfl, hO⟩; obtain ⟨g, rfl⟩ := hO.some_ hj0; have hr2 := (hO.bel.block eb (Nat.lt_of_lt_of_le hrl'.out hb1'.out.size)).trans ((hb1'.out.block eb hrl'.out).trans hrow'.out); have ff : ∀ o, w2.frozen? ⟨eb, o, none⟩ = false := (fun o => frozen_of_row w2 eb o _ _ hr2); obtain ⟨v0, v1, v2, v3, v4, v5⟩ := hsix'.out.kept (w' := w2) ((hO.bel.block eb (Nat.lt_of_lt_of_le hrl'.out hb1'.out.size)).trans (hb1'.out.block eb hrl'.out)); have hO' := Lib.hid hO; have hr2' := Lib.hid hr2; clear hO hr2))
        have hin := six_in (b0 := .int .u64 (s.id : Int)) (b1 := .bool s.leaf) (b2 := .string ⟨s.label.toArray⟩) (b3 := .slice oA sn oc) (b4 := .string ⟨s.text.toArray⟩) (b5 := .slice (some ⟨g, 0, none⟩) skn okc) hr2'.out hcs'.out
        have hzz := six_size (w := w2) (g := eb) (e := eo) (b0 := .int .u64 (s.id : Int)) (b1 := .bool s.leaf) (b2 := .string ⟨s.label.toArray⟩) (b3 := .slice oA sn oc) (b4 := .string ⟨s.text.toArray⟩) (b5 := .slice (some ⟨g, 0, none⟩) skn okc)
        have hot := fun k (hk : k ≠ eb) => six_other (w := w2) (g := eb) (e := eo) (b0 := .int .u64 (s.id : Int)) (b1 := .bool s.leaf) (b2 := .string ⟨s.label.toArray⟩) (b3 := .slice oA sn oc) (b4 := .string ⟨s.text.toArray⟩) (b5 := .slice (some ⟨g, 0, none⟩) skn okc) hk
        have hou := fun o (ho : o < eo ∨ eo + 5 < o) => six_out (b0 := .int .u64 (s.id : Int)) (b1 := .bool s.leaf) (b2 := .string ⟨s.label.toArray⟩) (b3 := .slice oA sn oc) (b4 := .string ⟨s.text.toArray⟩) (b5 := .slice (some ⟨g, 0, none⟩) skn okc) hr2'.out ho
        have hbe := hb1'.out
        have hew : w.heap.size ≤ eb := by have := heb'.out; omega
        have hbw := hbel'.out.trans (hbe.mono hbel'.out.size)
        have hb3 : Below w.heap.size w (six w2 eb eo (.int .u64 (s.id : Int)) (.bool s.leaf) (.string ⟨s.label.toArray⟩) (.slice oA sn oc) (.string ⟨s.text.toArray⟩) (.slice (some ⟨g, 0, none⟩) skn okc)) := six_below (hbw.trans (hO'.out.bel.mono hbw.size)) hew
        obtain ⟨w3, hw3⟩ : ∃ w3, w3 = six w2 eb eo (.int .u64 (s.id : Int)) (.bool s.leaf) (.string ⟨s.label.toArray⟩) (.slice oA sn oc) (.string ⟨s.text.toArray⟩) (.slice (some ⟨g, 0, none⟩) skn okc) := ⟨_, rfl⟩
        rw [← hw3] at hin hzz hot hou hb3
        unfold six at hw3
        rw [← hw3]
        clear hw3
        obtain ⟨u0, u1, u2, u3, u4, u5⟩ := hin
        have hrw1 := Nat.lt_of_lt_of_le hrl'.out hbe.size
        obtain ⟨g', kv, cur, e1, q1, q2, q3, q4, q5, q6, q7, q8, q9⟩ := hole_step hT hbw rfl (by have := hZl'.out; have := hbe.size; omega) (by have := heb'.out; omega) (hole_below hhole'.out hrl'.out hbe) hrw1 hew hO'.out (hvw.out _ hbe) hzz hot hou ⟨u0, u1, u2, u3, u4, u5⟩ (show j < skn by omega)
        obtain rfl : g = g' := by injection e1 with e1; injection e1
        obtain rfl : kd = kv.t := by have := hkd'.out; rw [q5] at this; injection this with this; exact this.symm
        have hX3 := Lib.hid (show w3.heap[w.heap.size + 1]? = some (.cells (val6 x xA xn xc xkA xkn xkc) 33 (0, 0)) from (hot _ (by have := heb'.out; omega)).trans ((hO'.out.bel.block _ (Nat.lt_of_lt_of_le hXl'.out hbe.size)).trans ((hbe.block _ hXl'.out).trans hX'.out)))
        have hZ3 := Lib.hid (show w3.heap[w.heap.size + 1 + 1]? = some (.cells zero6 33 (0, 0)) from (hot _ (by have := heb'.out; omega)).trans ((hO'.out.bel.block _ (Nat.lt_of_lt_of_le hZl'.out hbe.size)).trans ((hbe.block _ hZl'.out).trans hZ'.out)))
        have hgb : w.heap.size + 3 ≤ g := by have := hZl'.out; have := hbe.size; omega
        have hv7 := Lib.hid (show NodeV T w kv.aA kv.an kv.ac kv.kA kv.kn kv.kc kv.t from NodeV.kept (T := T) (w := w1) (fun _ h => h) (fun k hk => (hbw.block k (hT k hk)).symm) _ _ _ _ _ _ _ q7)
        have h3' := Lib.hid q3
        have h6' := Lib.hid q6
        have h8' := Lib.hid q8
        have h9' := Lib.hid q9
        have hb3' := Lib.hid hb3
        clear q3 q4 q5 q6 q7 q8 q9 hzz hot hou hb3 hbe hbw e1 u0 u1 u2 u3 u4 q1 q2 d0 d1 d2 d3 d4 d5 c0 c1 c2 c3 c4 c5 v0 v1 v2 v3 v4 v5 hrw1 ff
        go_wp2_with fail
        go_roundw
        case rel =>
          exact ⟨q + 1, kv.t, kv.aA, kv.kA, kv.an, kv.ac, kv.kn, kv.kc, g, j * 6, _, cur, by omega, by go_num, rfl, hans.out, hwk.out, hv7.out, h6'.out, h8'.out, h9'.out, .inr hgb, h3'.out, hX3.out, hZ3.out, hb3'.out⟩
        case measure => simp [intOf]; omega
    · have h1I : ¬ (q : Int) < (pn : Int) := by omega
      have hans := Lib.hid (show putV t p x = some (f x) by rw [hput, List.drop_of_length_le (by rw [hpl.out]; omega)]; rfl)
      unfold val6 at hX
      have hcallx := Lib.hid (owned_any wr T x xA xkA xn xc xkn xkc (hx'.out.kept (fun _ h => h) (fun k hk => hbel.block k (hT k hk))) (fun k hk => Nat.lt_of_lt_of_le (hT k hk) hbel.size) (by have := hx'.out.facts.ats.1; have := weigh_rows x; have := hbigx'.out; omega) (by have := hx'.out.facts.kl; have := weigh_rows x; have := hbigx'.out; omega))
      have hvx := Lib.hid (hx'.out.kept (w' := wr) (T' := T) (fun _ h => h) (fun k hk => hbel.block k (hT k hk)))
      obtain ⟨x0, x1, x2, x3, x4, x5, -⟩ := six_cells hX
      clear hput hf hkl hv hX hZ hrow hhole hbel hwr hcs heb hrl hXl hZl hsw
      go_upto_region 11 with (go_at_call 69; refine hcallx.out.mono ?_; rintro e w1 ⟨oA, oc, okA, okc, gA, ks, rfl, hO⟩; have hr1 := (hO.bel.block eb hrl'.out).trans hrow'.out; have ff : ∀ o, w1.frozen? ⟨eb, o, none⟩ = false := (fun o => frozen_of_row w1 eb o _ _ hr1); obtain ⟨v0, v1, v2, v3, v4, v5⟩ := hsix'.out.kept (w' := w1) (hO.bel.block eb hrl'.out); have hO' := Lib.hid hO; have hr1' := Lib.hid hr1; clear hO hr1)
      have hin := six_in (b0 := .int .u64 (x.id : Int)) (b1 := .bool x.leaf) (b2 := .string ⟨x.label.toArray⟩) (b3 := .slice oA xn oc) (b4 := .string ⟨x.text.toArray⟩) (b5 := .slice okA xkn okc) hr1'.out hcs'.out
      have hzz := six_size (w := w1) (g := eb) (e := eo) (b0 := .int .u64 (x.id : Int)) (b1 := .bool x.leaf) (b2 := .string ⟨x.label.toArray⟩) (b3 := .slice oA xn oc) (b4 := .string ⟨x.text.toArray⟩) (b5 := .slice okA xkn okc)
      have hot := fun k (hk : k ≠ eb) => six_other (w := w1) (g := eb) (e := eo) (b0 := .int .u64 (x.id : Int)) (b1 := .bool x.leaf) (b2 := .string ⟨x.label.toArray⟩) (b3 := .slice oA xn oc) (b4 := .string ⟨x.text.toArray⟩) (b5 := .slice okA xkn okc) hk
      have hou := fun o (ho : o < eo ∨ eo + 5 < o) => six_out (b0 := .int .u64 (x.id : Int)) (b1 := .bool x.leaf) (b2 := .string ⟨x.label.toArray⟩) (b3 := .slice oA xn oc) (b4 := .string ⟨x.text.toArray⟩) (b5 := .slice okA xkn okc) hr1'.out ho
      have hew : w.heap.size ≤ eb := by have := heb'.out; omega
      have hbw := hbel'.out.trans (hO'.out.bel.mono hbel'.out.size)
      have hb2 : Below w.heap.size w (six w1 eb eo (.int .u64 (x.id : Int)) (.bool x.leaf) (.string ⟨x.label.toArray⟩) (.slice oA xn oc) (.string ⟨x.text.toArray⟩) (.slice okA xkn okc)) := six_below hbw hew
      obtain ⟨w2, hw2⟩ : ∃ w2, w2 = six w1 eb eo (.int .u64 (x.id : Int)) (.bool x.leaf) (.string ⟨x.label.toArray⟩) (.slice oA xn oc) (.string ⟨x.text.toArray⟩) (.slice okA xkn okc) := ⟨_, rfl⟩
      rw [← hw2] at hin hzz hot hou hb2
      unfold six at hw2
      rw [← hw2]
      clear hw2
      have hz1 := hO'.out.bel.size
      have hgl := hrl'.out
      have hN : NodeAt (Ex T w.heap.size w2) w2 ⟨eb, eo, none⟩ x := ⟨⟨.inr (by show w.heap.size ≤ eb; omega), by show eb < _; omega, by have := heb'.out; show eb ≠ _; omega⟩, oA, xn, oc, okA, xkn, okc, hin, (hO'.out.node hvx.out (fun k hk => Nat.lt_of_lt_of_le (hT k hk) hbel'.out.size)).kept (fun k hk => by
          have hZ5 := hZl'.out
          have hsz := hbel'.out.size
          rcases hk with hk | hk
          · have := hT k hk
            exact ⟨.inl hk, by omega, by omega⟩
          · exact ⟨.inr (by omega), by omega, by omega⟩) (fun k hk => hot k (by
          have hZ5 := hZl'.out
          have hsz := hbel'.out.size
          rcases hk with hk | hk
          · have := hT k hk
            omega
          · omega))⟩
      obtain ⟨-, fA, fn, fc, fkA, fkn, fkc, ⟨y0, y1, y2, y3, y4, y5⟩, hfv⟩ := hhole'.out w2 x (by omega) (fun k hk hne => (hot k hne).trans (hO'.out.bel.block k hk)) (fun o ho => (hou o ho).trans (World.cell?_of_block (a := ⟨eb, o, none⟩) (hO'.out.bel.block eb hgl))) hN
      have y1' : w2.cell? ⟨w.heap.size, 1, none⟩ = some (.bool (f x).leaf) := y1
      have y2' : w2.cell? ⟨w.heap.size, 2, none⟩ = some (.string ⟨(f x).label.toArray⟩) := y2
      have y3' : w2.cell? ⟨w.heap.size, 3, none⟩ = some (.slice fA fn fc) := y3
      have y4' : w2.cell? ⟨w.heap.size, 4, none⟩ = some (.string ⟨(f x).text.toArray⟩) := y4
      have y5' : w2.cell? ⟨w.heap.size, 5, none⟩ = some (.slice fkA fkn fkc) := y5
      have R2 := (hot (w.heap.size + 1 + 1) (by have := heb'.out; omega)).trans ((hO'.out.bel.block _ hZl'.out).trans hZ'.out)
      unfold zero6 at R2
      obtain ⟨d0, d1, d2, d3, d4, d5, df⟩ := six_cells R2
      have R2' := Lib.hid R2
      have hb2' := Lib.hid hb2
      have hfv' := Lib.hid hfv
      clear y1 y2 y3 y4 y5 R2 hb2 hfv hN hin hzz hot hou hbw hz1 hgl hew ff v0 v1 v2 v3 v4 v5
      go_wp2_with fail
      have R9 := set_six (b0 := .int .u64 ((f x).id : Int)) (b1 := .bool (f x).leaf) (b2 := .string ⟨(f x).label.toArray⟩) (b3 := .slice fA fn fc) (b4 := .string ⟨(f x).text.toArray⟩) (b5 := .slice fkA fkn fkc) R2'.out
      have hb9 : Below w.heap.size w _ := below_six hb2'.out (b0 := .int .u64 ((f x).id : Int)) (b1 := .bool (f x).leaf) (b2 := .string ⟨(f x).label.toArray⟩) (b3 := .slice fA fn fc) (b4 := .string ⟨(f x).text.toArray⟩) (b5 := .slice fkA fkn fkc) (show w.heap.size ≤ w.heap.size + 1 + 1 by omega)
      have hN9 : NodeV (Nw T w ((((((w2.setCell ⟨w.heap.size + 1 + 1, 0, none⟩ (.int .u64 ((f x).id : Int))).setCell ⟨w.heap.size + 1 + 1, 1, none⟩ (.bool (f x).leaf)).setCell ⟨w.heap.size + 1 + 1, 2, none⟩ (.string ⟨(f x).label.toArray⟩)).setCell ⟨w.heap.size + 1 + 1, 3, none⟩ (.slice fA fn fc)).setCell ⟨w.heap.size + 1 + 1, 4, none⟩ (.string ⟨(f x).text.toArray⟩)).setCell ⟨w.heap.size + 1 + 1, 5, none⟩ (.slice fkA fkn fkc))) ((((((w2.setCell ⟨w.heap.size + 1 + 1, 0, none⟩ (.int .u64 ((f x).id : Int))).setCell ⟨w.heap.size + 1 + 1, 1, none⟩ (.bool (f x).leaf)).setCell ⟨w.heap.size + 1 + 1, 2, none⟩ (.string ⟨(f x).label.toArray⟩)).setCell ⟨w.heap.size + 1 + 1, 3, none⟩ (.slice fA fn fc)).setCell ⟨w.heap.size + 1 + 1, 4, none⟩ (.string ⟨(f x).text.toArray⟩)).setCell ⟨w.heap.size + 1 + 1, 5, none⟩ (.slice fkA fkn fkc)) fA fn fc fkA fkn fkc (f x) := hfv'.out.kept (fun k hk => by
        show T k ∨ _
        simp only [World.size_setCell]
        rcases hk.1 with h | h
        · exact .inl h
        · exact .inr ⟨h, hk.2.1⟩) (fun k hk => set_six_other (fun e => hk.2.2 (by rw [e])))
      generalize ((((((w2.setCell ⟨w.heap.size + 1 + 1, 0, none⟩ (.int .u64 ((f x).id : Int))).setCell ⟨w.heap.size + 1 + 1, 1, none⟩ (.bool (f x).leaf)).setCell ⟨w.heap.size + 1 + 1, 2, none⟩ (.string ⟨(f x).label.toArray⟩)).setCell ⟨w.heap.size + 1 + 1, 3, none⟩ (.slice fA fn fc)).setCell ⟨w.heap.size + 1 + 1, 4, none⟩ (.string ⟨(f x).text.toArray⟩)).setCell ⟨w.heap.size + 1 + 1, 5, none⟩ (.slice fkA fkn fkc)) = W9 at R9 hb9 hN9 ⊢
      obtain ⟨g0, g1, g2, g3, g4, g5, gf⟩ := six_cells R9
      refine bodyPost_ret (v := .tuple #[.agg (val6 (f x) fA fn fc fkA fkn fkc), .bool true]) (by simp [results, Try.results103, go_sem, g0, g1, g2, g3, g4, g5, val6]) rfl ?_
      exact ⟨fA, fn, fc, fkA, fkn, fkc, by rw [hans.out]; rfl, by rw [hans.out]; exact hN9, hb9⟩
end Go.Proofs.Ytoeblaecldhcaaa.Top
/- A tree with a node in the place of one: the program's put. -/
namespace Go.Proofs.Ytoeblaecldhcaaa.Top
open Go.RowKit
set_option maxRecDepth 20000
set_option linter.unusedVariables false

/-- a tree is answered that lies in T, or in new blocks -/
def NodeA (T : Nat → Prop) (w : World) (a : Nd) (e : Ending) (w' : World) : Prop :=
  ∃ aA an ac kA kn kc, e = .returned (.agg (val6 a aA an ac kA kn kc)) ∧ NodeV (Nw T w w') w' aA an ac kA kn kc a ∧ Below w.heap.size w w'
theorem three_new (w : World) (o1 o2 o3 : Obj) : ((((w.alloc o1).alloc o2).alloc o3).heap[w.heap.size]? = some o1) ∧ ((((w.alloc o1).alloc o2).alloc o3).heap[w.heap.size + 1]? = some o2) ∧ ((((w.alloc o1).alloc o2).alloc o3).heap[w.heap.size + 1 + 1]? = some o3) ∧ Below w.heap.size w (((w.alloc o1).alloc o2).alloc o3) ∧ (((w.alloc o1).alloc o2).alloc o3).heap.size = w.heap.size + 1 + 1 + 1 := by
  have h1 := heap_alloc_new w o1
  have h2 := heap_alloc_new (w.alloc o1) o2
  have h3 := heap_alloc_new ((w.alloc o1).alloc o2) o3
  rw [World.size_alloc] at h2
  rw [World.size_alloc, World.size_alloc] at h3
  exact ⟨(Go.heap_alloc_old _ _ (by simp <;> omega)).trans ((Go.heap_alloc_old _ _ (by simp)).trans h1), (Go.heap_alloc_old _ _ (by simp)).trans h2, h3, (((Below.refl _ _).alloc (Nat.le_refl _) _).alloc (by simp) _).alloc (by simp <;> omega) _, by simp⟩
/-- what is answered has been laid into a box, and then into the answer's cells -/
theorem end_node {T : Nat → Prop} {w w1 : World} {b r : Nat} {o : Obj} {ty : TypeId} {a : Nd} {yA yK : Option Addr} {yn yc ym yd : Nat} {a0 a1 a2 a3 a4 a5 : Value} (hT : ∀ k, T k → k < w.heap.size) (hw : w.heap.size ≤ r) (hrb : r < b) (hb : Below w.heap.size w w1)
    (hr : w1.heap[r]? = some (.cells #[a0, a1, a2, a3, a4, a5] ty (0, 0))) (hy : NodeV (fun k => T k ∨ (b ≤ k ∧ k < w1.heap.size)) w1 yA yn yc yK ym yd a) :
    ∃ W9, W9 = ((((((w1.setCell ⟨r, 0, none⟩ (.int .u64 (a.id : Int))).setCell ⟨r, 1, none⟩ (.bool a.leaf)).setCell ⟨r, 2, none⟩ (.string ⟨a.label.toArray⟩)).setCell ⟨r, 3, none⟩ (.slice yA yn yc)).setCell ⟨r, 4, none⟩ (.string ⟨a.text.toArray⟩)).setCell ⟨r, 5, none⟩ (.slice yK ym yd)).alloc o ∧
      W9.heap[r]? = some (.cells (val6 a yA yn yc yK ym yd) ty (0, 0)) ∧ NodeV (Nw T w W9) W9 yA yn yc yK ym yd a ∧ Below w.heap.size w W9 := by
  have hlt := (Array.getElem?_eq_some_iff.1 hr).1
  have hb6 := below_six (b0 := .int .u64 (a.id : Int)) (b1 := .bool a.leaf) (b2 := .string ⟨a.label.toArray⟩) (b3 := .slice yA yn yc) (b4 := .string ⟨a.text.toArray⟩) (b5 := .slice yK ym yd) hb hw
  refine ⟨_, rfl, (Go.heap_alloc_old _ _ (by simpa using hlt)).trans (set_six hr), hy.kept (fun k hk => ?_) (fun k hk => ?_), hb6.alloc hb6.size _⟩
  · show T k ∨ _
    simp only [World.size_setCell, World.size_alloc]
    rcases hk with hk | hk
    · exact .inl hk
    · exact .inr ⟨by omega, by omega⟩
  · have hk2 : k < w1.heap.size ∧ k ≠ r := by
      rcases hk with hk | hk
      · have := hT k hk; have := hb.size; omega
      · omega
    exact (Go.heap_alloc_old _ _ (by simpa using hk2.1)).trans (set_six_other hk2.2)
set_option maxHeartbeats 4000000 in
theorem tput_T (T : Nat → Prop) (w : World) (hT : ∀ k, T k → k < w.heap.size) (t x : Nd) (aA kA xA xK : Option Addr) (an ac kn kc xn xc xm xd : Nat) (h : NodeV T w aA an ac kA kn kc t) (hx : NodeV T w xA xn xc xK xm xd x) (pA : Option Addr) (pn pc : Nat) (p : List Int) (hp : Its w pA pn p) (hpn : pn ≤ maxLen) (hbig : weighV t ≤ 1000000) (hbigx : weighV x ≤ 1000000) :
    Calls Try.prog 85 #[.agg (val6 t aA an ac kA kn kc), .slice pA pn pc, .agg (val6 x xA xn xc xK xm xd)] w (NodeA T w ((putV t p x).getD Nd.zero)) := by
  obtain ⟨-, -, z3, z4, z5⟩ := three_new w (.cells (val6 t aA an ac kA kn kc) 33) (.cells (val6 x xA xn xc xK xm xd) 33) (.cells zero6 33)
  obtain ⟨W3, hW3⟩ : ∃ W3, W3 = ((w.alloc (.cells (val6 t aA an ac kA kn kc) 33)).alloc (.cells (val6 x xA xn xc xK xm xd) 33)).alloc (.cells zero6 33) := ⟨_, rfl⟩
  rw [← hW3] at z3 z4 z5
  have hT3 : ∀ k, T k → k < W3.heap.size := fun k hk => by have := hT k hk; omega
  have hput := Lib.hid (put_T T W3 hT3 t x aA kA xA xK an ac kn kc xn xc xm xd (h.kept (fun _ h => h) fun k hk => z4.block k (hT k hk)) (hx.kept (fun _ h => h) fun k hk => z4.block k (hT k hk)) pA pn pc p (hp.below z4) hpn hbig hbigx)
  rw [hW3] at hput
  have z3' := Lib.hid z3
  have z4' := Lib.hid z4
  have z5' := Lib.hid z5
  have hT' := Lib.hid hT
  clear z3 z4 z5 h hx hp hbig hbigx hT hT3
  unfold zero6 val6 at hW3 hput
  unfold val6
  go_enter Try.func85, Try.ntmps85
  go_wp2_with (go_at_call 103; go_loud (refine hput.out.mono ?_; rw [← hW3]; rintro e w1 ⟨yA, yn, yc, yK, ym, yd, rfl, hy, hb⟩; have r3 := (hb.block _ (by have := z5'.out; omega)).trans z3'.out; have hr := Lib.hid r3; have hy' := Lib.hid hy; have hb' := Lib.hid hb; unfold zero6 at r3; obtain ⟨q0, q1, q2, q3, q4, q5, qf⟩ := six_cells r3; have hne : w.heap.size + 1 + 1 < w1.heap.size := (Array.getElem?_eq_some_iff.1 r3).1; have hne2 : w1.heap.size ≠ w.heap.size + 1 + 1 := (by omega); have hne3 : w.heap.size + 1 + 1 ≠ w1.heap.size := (by omega); unfold val6; clear hy hb r3))
  obtain ⟨W9, hW9, R9, N9, B9⟩ := end_node (o := .cells #[.int .u64 (((putV t p x).getD Nd.zero).id : Int), .bool ((putV t p x).getD Nd.zero).leaf, .string ⟨((putV t p x).getD Nd.zero).label.toArray⟩, .slice yA yn yc, .string ⟨((putV t p x).getD Nd.zero).text.toArray⟩, .slice yK ym yd] 33) hT'.out (r := w.heap.size + 1 + 1) (b := W3.heap.size) (by omega) (by have := z5'.out; omega) (z4'.out.trans (hb'.out.mono z4'.out.size)) hr.out hy'.out
  rw [← hW9]
  unfold val6 at R9
  obtain ⟨d0, d1, d2, d3, d4, d5, df⟩ := six_cells R9
  refine bodyPost_ret (v := .agg (val6 ((putV t p x).getD Nd.zero) yA yn yc yK ym yd)) (by simp [results, Try.results85, go_sem, d0, d1, d2, d3, d4, d5, val6]) rfl ?_
  exact ⟨yA, yn, yc, yK, ym, yd, rfl, N9, B9⟩
end Go.Proofs.Ytoeblaecldhcaaa.Top
/- slices.Concat, for rows of nodes and of attributes. -/
namespace Go.Proofs.Ytoeblaecldhcaaa.Top
open Go.RowKit
set_option maxRecDepth 20000
set_option linter.unusedVariables false

/-- a slice that is read, with its cells -/
structure Prt where
  A : Option Addr
  n : Nat
  c : Nat
  xs : List Value
def Prt.v (p : Prt) : Value := .slice p.A p.n p.c
structure Prt.Ok (S : Nat) (w : World) (p : Prt) : Prop where
  len : p.xs.length = p.n * S
  one : ∀ u ∈ p.xs, u.oneCell' = true
  cells : ∀ j u, p.xs[j]? = some u → ∃ ad, p.A = some ad ∧ ad.block < w.heap.size ∧ w.cell? (ad.add j) = some u
  nil_ : p.A = none → p.c = 0
  nc : p.n ≤ p.c
  few : p.n ≤ 100000
theorem Prt.Ok.below {S : Nat} {w w' : World} {p : Prt} (h : p.Ok S w) (hb : Below w.heap.size w w') : p.Ok S w' :=
  ⟨h.len, h.one, fun j u hj => by
    obtain ⟨ad, e, hl, hc⟩ := h.cells j u hj
    exact ⟨ad, e, Nat.lt_of_lt_of_le hl hb.size, (hb.cell (p := ad.add j) (by rw [block_add]; exact hl)).trans hc⟩, h.nil_, h.nc, h.few⟩
def sumN : List Prt → Nat
  | [] => 0
  | p :: r => p.n + sumN r
def catV : List Prt → List Value
  | [] => []
  | p :: r => p.xs ++ catV r
theorem sumN_take {l : List Prt} {q : Nat} {p : Prt} (h : l[q]? = some p) : sumN (l.take (q + 1)) = sumN (l.take q) + p.n := by
  induction l generalizing q with
  | nil => simp at h
  | cons a r ih =>
    cases q with
    | zero => simp at h; subst h; simp [sumN]
    | succ q => rw [List.take_succ_cons, List.take_succ_cons, sumN, sumN, ih (by simpa using h)]; omega
theorem catV_take {l : List Prt} {q : Nat} {p : Prt} (h : l[q]? = some p) : catV (l.take (q + 1)) = catV (l.take q) ++ p.xs := by
  induction l generalizing q with
  | nil => simp at h
  | cons a r ih =>
    cases q with
    | zero => simp at h; subst h; simp [catV]
    | succ q => rw [List.take_succ_cons, List.take_succ_cons, catV, catV, ih (by simpa using h), List.append_assoc]
theorem sumN_le (l : List Prt) (q : Nat) : sumN (l.take q) ≤ sumN l := by
  induction l generalizing q with
  | nil => simp [sumN]
  | cons a r ih =>
    cases q with
    | zero => simp [sumN]
    | succ q => rw [List.take_succ_cons, sumN, sumN]; have := ih q; omega
theorem Prt.Ok.some_ {S : Nat} {w : World} {p : Prt} (hS : 0 < S) (h : p.Ok S w) {ad : Addr} (e : p.A = some ad) : ∀ j u, p.xs[j]? = some u → w.cell? (ad.add j) = some u := fun j u hj => by
  obtain ⟨ad', e', -, hc⟩ := h.cells j u hj
  rw [e] at e'
  injection e' with e'
  subst e'
  exact hc
theorem madeN {w : World} {ops : Array Oper} {rest : List Oper} {o : Oper} {a : Act} {Q : Exit → Act → World → Prop} (hgd : o.guard = none) (sl x : Operand)
    (ho : o.op = .call { callee := .builtin .append, args := #[sl, x], argTypes := #[31, 3] }) (n : Nat) (h0 : 0 < n) (hn : n ≤ 1000000) (hs : a.eval sl = .slice none 0 0) (hx : a.eval x = .int .i64 (n : Int))
    (h : ∀ cs w' c, cs.size = c * 6 → n ≤ c → c ≤ maxLen → w'.heap[w.heap.size]? = some (.cells cs 33 (0, 0)) → Below w.heap.size w w' → wpList Try.prog ops Q rest (a.put o.dst (.slice (some ⟨w.heap.size, 0, none⟩) n c)) w') : wpList Try.prog ops Q (o :: rest) a w := by
  obtain ⟨i0, hi0, hz0, hz1, hz2⟩ := info_parts Try.infoN
  have hr := Lib.run_append_grow_zeros (P := Try.prog) w 31 3 o.type 33 i0 _ .i64 .i64 Try.underlying31 Try.underlying3 hi0 hz0 none 0 0 [] (run_firstCells_none w.drew i0.size 0 0 0) n h0 (by rw [hz1]; decide) (by omega) (by omega) (by rw [hz2]; omega) (by rw [Nat.zero_add]; exact growslice_fits h0 (by rw [hz2]; omega))
  rw [Nat.zero_add] at hr
  refine wpList_plain hgd fun K hK => ?_
  unfold Oper.wp execOp
  simp only [ho, resolve, invoke, builtin, Sem.run_bind, Sem.run_pure, Result.andThen_ok, List.map_toArray, List.map_cons, List.map_nil, hs, hx, hr]
  have hg := grownCap_ge w n 0 33
  refine hK _ _ (h _ _ _ ?_ hg (grownCap_le_maxLen _ _ _ _ (by unfold maxLen; omega)) (heap_alloc_new w.drew _) ((Below.refl _ _).drew.alloc (Nat.le_refl _) _))
  simp [Builtin.zeroCells, Value.cells] <;> omega
set_option maxHeartbeats 1000000 in
theorem growN (w : World) (n : Nat) (hn : n ≤ 1000000) : Calls Try.prog 105 #[.slice none 0 0, .int .i64 (n : Int)] w fun e w' => ∃ v, e = .returned v ∧ w'.ownsRow w.heap.size 33 6 v 0 [] ∧ Below w.heap.size w w' := by
  by_cases h0 : 0 < n
  · have h0I : (0 : Int) < (n : Int) := by omega
    have hwz : IntKind.i64.wrap (n : Int) = (n : Int) := IntWalk.i64_in _ (by omega)
    go_enter Try.func105, Try.ntmps105
    go_wp2_with (at_builtin; go_loud (refine madeN rfl (.tmp 20) (.tmp 21) rfl n h0 hn rfl rfl ?_; intro cs w1 c hsz hnc hcm hrow hb; have hsz' := Lib.hid hsz; have hrow' := Lib.hid hrow; have hb' := Lib.hid hb; have hc0 : c ≤ 9223372036854775807 := (by unfold maxLen at hcm; omega); have hcm' := Lib.hid hcm; clear hsz hrow hb hcm))
    go_ret
    exact ⟨_, rfl, ⟨rfl, .inr ⟨w.heap.size, c, cs, rfl, Nat.le_refl _, hrow'.out, Nat.zero_le _, hcm'.out, hsz'.out, rfl⟩⟩, hb'.out⟩
  · obtain rfl : n = 0 := by omega
    go_enter Try.func105, Try.ntmps105
    go_wp2_with fail
    go_ret
    exact ⟨_, rfl, World.ownsRow_nil _ _ _ _, Below.refl _ _⟩
theorem appN {w : World} {ops : Array Oper} {rest : List Oper} {o : Oper} {a : Act} {Q : Exit → Act → World → Prop} (hgd : o.guard = none) (sl x : Operand)
    (ho : o.op = .call { callee := .builtin .append, args := #[sl, x], argTypes := #[31, 31] }) (base : Nat) (v : Value) (n : Nat) (ys : List Value) (p : Prt) (hs : a.eval sl = v) (hown : w.ownsRow base 33 6 v n ys) (hx : a.eval x = p.v) (hp : p.Ok 6 w) (hn : n + p.n ≤ 1000000) (hbase : base ≤ w.heap.size) (hb0 : Below base w w)
    (h : ∀ v' w', w'.ownsRow base 33 6 v' (n + p.n) (ys ++ p.xs) → Below base w w' → wpList Try.prog ops Q rest (a.put o.dst v') w') : wpList Try.prog ops Q (o :: rest) a w := by
  obtain ⟨i0, hi0, hz0, hz1, hz2⟩ := info_parts Try.infoN
  obtain ⟨A, m, c, xs⟩ := p
  unfold Prt.v at hx
  have hl := hp.len
  have hnc := hp.nc
  have hnil := hp.nil_
  dsimp only at hx hn hl h hnc hnil
  cases A with
  | none =>
    obtain rfl := hnil rfl
    obtain rfl : m = 0 := by omega
    have hxs : xs = [] := List.length_eq_zero_iff.1 (by omega)
    subst hxs
    refine wpList_append_own_none hgd sl x 31 ho base 33 i0 6 Try.underlying31 hi0 v n ys hs hown hx ?_
    exact h v w (by simpa using hown) hb0
  | some ad =>
    refine wpList_append_own_at _ hgd sl x 31 ho base 33 i0 _ 6 96 Try.underlying31 hi0 hz0 hz1 hz2 rfl (by decide) v n ys hs hown ad m c xs hx hl (hp.some_ (by decide) rfl) hp.one (by unfold maxLen; omega) (by omega) hbase ?_
    intro v' w' hown' hg _ _
    exact h v' w' hown' (hb0.grown hg hbase fun k hk => by
      rcases hown.2 with ⟨e, _⟩ | ⟨g, cap, cur, e, hge, _⟩
      · subst e; cases hk
      · subst e
        have : g = k := by simpa [Value.ownBlock] using hk
        omega)
set_option maxHeartbeats 2000000 in
theorem concatN (w : World) (g m c : Nat) (ps : List Prt) (hm : ps.length = m) (hmc : m ≤ 10) (hc : ∀ i p, ps[i]? = some p → w.cell? ((⟨g, 0, none⟩ : Addr).add i) = some p.v) (hg : g < w.heap.size) (hok : ∀ p ∈ ps, p.Ok 6 w) (hsum : sumN ps ≤ 1000000) :
    Calls Try.prog 95 #[.slice (some ⟨g, 0, none⟩) m c] w fun e w' => ∃ v, e = .returned v ∧ w'.ownsRow w.heap.size 33 6 v (sumN ps) (catV ps) ∧ Below w.heap.size w w' := by
  have hc' := Lib.hid hc
  have hok' := Lib.hid hok
  have hm' := Lib.hid hm
  have hle := Lib.hid (sumN_le ps)
  obtain ⟨N, hN⟩ : ∃ N, N = sumN ps := ⟨_, rfl⟩
  have hN' := Lib.hid hN
  rw [← hN] at hsum
  clear hc hok hm hN
  go_enter Try.func95, Try.ntmps95
  go_wp2_with fail
  go_loopw [3, 11] (fun z i wr => ∃ q : Nat, q ≤ m ∧ i = .int .i64 (q : Int) ∧ z = .int .i64 ((sumN (ps.take q) : Nat) : Int) ∧ wr = w) (fun _ i _ => m - (intOf i).toNat)
  case atStart => exact ⟨0, Nat.zero_le _, rfl, rfl, rfl⟩
  case round =>
    obtain ⟨q, hq, rfl, rfl, rfl⟩ := hrel
    by_cases hqm : q < m
    · have hqI : (q : Int) < (m : Int) := by omega
      obtain ⟨p, hp⟩ : ∃ p, ps[q]? = some p := ⟨_, List.getElem?_eq_getElem (by have := hm'.out; omega)⟩
      have hcell := hc'.out q p hp
      rw [add_zero_off] at hcell
      unfold Prt.v at hcell
      have hst := Lib.hid (sumN_take hp)
      have hl1 := hle.out (q + 1)
      have hl0 := hle.out q
      rw [← hN'.out] at hl1 hl0
      rw [hst.out] at hl1
      obtain ⟨z0, hz0⟩ : ∃ z0, z0 = sumN (ps.take q) := ⟨_, rfl⟩
      rw [← hz0] at hl1 hl0 ⊢
      have hz0' := Lib.hid hz0
      have hneg : ¬ ((z0 : Int) + (p.n : Int) < 0) := by omega
      have hwz : IntKind.i64.wrap ((z0 : Int) + (p.n : Int)) = (z0 : Int) + (p.n : Int) := IntWalk.i64_in _ (by omega)
      clear hp hz0
      go_wp2_with fail
      go_roundw
      case rel => exact ⟨q + 1, by omega, by go_num, by rw [hst.out, ← hz0'.out]; simp, trivial⟩
      case measure => simp [intOf]; omega
    · have hqI : ¬ (q : Int) < (m : Int) := by omega
      have hqe : ps.take q = ps := List.take_of_length_le (by have := hm'.out; omega)
      rw [hqe, ← hN'.out]
      clear hqe
      go_wp2_with (go_at_call 105; refine (growN _ N hsum).mono ?_; rintro e w1 ⟨v1, rfl, ho1, hb1⟩; have ho1' := Lib.hid ho1; have hb1' := Lib.hid hb1; clear ho1 hb1)
      obtain ⟨W0, hW0⟩ : ∃ W0, W0 = wr := ⟨_, rfl⟩
      subst hW0
      go_loopw [6, 27] (fun v i wt => ∃ q : Nat, q ≤ m ∧ i = .int .i64 (q : Int) ∧ wt.ownsRow W0.heap.size 33 6 v (sumN (ps.take q)) (catV (ps.take q)) ∧ Below W0.heap.size W0 wt) (fun _ i _ => m - (intOf i).toNat)
      case atStart => exact ⟨0, Nat.zero_le _, rfl, ho1'.out, hb1'.out⟩
      case round =>
        obtain ⟨q, hq, rfl, ho, hb⟩ := hrel
        have hb' := Lib.hid hb
        have ho' := Lib.hid ho
        by_cases hqm : q < m
        · have hqI : (q : Int) < (m : Int) := by omega
          obtain ⟨p, hp⟩ : ∃ p, ps[q]? = some p := ⟨_, List.getElem?_eq_getElem (by have := hm'.out; omega)⟩
          have hcell := (hb.cell (p := (⟨g, 0, none⟩ : Addr).add q) (by rw [block_add]; exact hg)).trans (hc'.out q p hp)
          rw [add_zero_off] at hcell
          have hpo := Lib.hid ((hok'.out p (List.mem_of_getElem? hp)).below hb)
          have hst := Lib.hid (sumN_take hp)
          have hct := Lib.hid (catV_take hp)
          have hl1 := hle.out (q + 1)
          rw [← hN'.out, hst.out] at hl1
          have hl1' := Lib.hid (show sumN (ps.take q) + p.n ≤ 1000000 by omega)
          obtain ⟨pv, hpv⟩ : ∃ pv, pv = p.v := ⟨_, rfl⟩
          rw [← hpv] at hcell
          have hpv' := Lib.hid hpv
          clear hp ho hb hl1 hpv
          go_wp2_with (at_builtin; go_loud (refine appN rfl (.tmp 31) (.tmp 32) rfl W0.heap.size _ (sumN (ps.take q)) (catV (ps.take q)) p rfl ho'.out (by exact hpv'.out) hpo.out hl1'.out hb'.out.size (Below.refl _ _) ?_; intro v2 w2 ho2 hb2; rw [← hst.out, ← hct.out] at ho2; have ho2' := Lib.hid ho2; have hb2' := Lib.hid (hb'.out.trans hb2); clear ho2 hb2))
          go_roundw
          case rel => exact ⟨q + 1, by omega, by go_num, ho2'.out, hb2'.out⟩
          case measure => simp [intOf]; omega
        · have hqI : ¬ (q : Int) < (m : Int) := by omega
          have hqe : ps.take q = ps := List.take_of_length_le (by have := hm'.out; omega)
          rw [hqe] at ho'
          clear ho hb hqe
          go_wp2_with fail
          go_ret
          exact ⟨_, rfl, by rw [hN'.out]; exact ho'.out, hb'.out⟩
theorem madeA {w : World} {ops : Array Oper} {rest : List Oper} {o : Oper} {a : Act} {Q : Exit → Act → World → Prop} (hgd : o.guard = none) (sl x : Operand)
    (ho : o.op = .call { callee := .builtin .append, args := #[sl, x], argTypes := #[30, 3] }) (n : Nat) (h0 : 0 < n) (hn : n ≤ 1000000) (hs : a.eval sl = .slice none 0 0) (hx : a.eval x = .int .i64 (n : Int))
    (h : ∀ cs w' c, cs.size = c * 2 → n ≤ c → c ≤ maxLen → w'.heap[w.heap.size]? = some (.cells cs 68 (0, 0)) → Below w.heap.size w w' → wpList Try.prog ops Q rest (a.put o.dst (.slice (some ⟨w.heap.size, 0, none⟩) n c)) w') : wpList Try.prog ops Q (o :: rest) a w := by
  obtain ⟨i0, hi0, hz0, hz1, hz2⟩ := info_parts Try.infoA
  have hr := Lib.run_append_grow_zeros (P := Try.prog) w 30 3 o.type 68 i0 _ .i64 .i64 Try.underlying30 Try.underlying3 hi0 hz0 none 0 0 [] (run_firstCells_none w.drew i0.size 0 0 0) n h0 (by rw [hz1]; decide) (by omega) (by omega) (by rw [hz2]; omega) (by rw [Nat.zero_add]; exact growslice_fits h0 (by rw [hz2]; omega))
  rw [Nat.zero_add] at hr
  refine wpList_plain hgd fun K hK => ?_
  unfold Oper.wp execOp
  simp only [ho, resolve, invoke, builtin, Sem.run_bind, Sem.run_pure, Result.andThen_ok, List.map_toArray, List.map_cons, List.map_nil, hs, hx, hr]
  have hg := grownCap_ge w n 0 68
  refine hK _ _ (h _ _ _ ?_ hg (grownCap_le_maxLen _ _ _ _ (by unfold maxLen; omega)) (heap_alloc_new w.drew _) ((Below.refl _ _).drew.alloc (Nat.le_refl _) _))
  simp [Builtin.zeroCells, Value.cells] <;> omega
set_option maxHeartbeats 1000000 in
theorem growA (w : World) (n : Nat) (hn : n ≤ 1000000) : Calls Try.prog 110 #[.slice none 0 0, .int .i64 (n : Int)] w fun e w' => ∃ v, e = .returned v ∧ w'.ownsRow w.heap.size 68 2 v 0 [] ∧ Below w.heap.size w w' := by
  by_cases h0 : 0 < n
  · have h0I : (0 : Int) < (n : Int) := by omega
    have hwz : IntKind.i64.wrap (n : Int) = (n : Int) := IntWalk.i64_in _ (by omega)
    go_enter Try.func110, Try.ntmps110
    go_wp2_with (at_builtin; go_loud (refine madeA rfl (.tmp 20) (.tmp 21) rfl n h0 hn rfl rfl ?_; intro cs w1 c hsz hnc hcm hrow hb; have hsz' := Lib.hid hsz; have hrow' := Lib.hid hrow; have hb' := Lib.hid hb; have hc0 : c ≤ 9223372036854775807 := (by unfold maxLen at hcm; omega); have hcm' := Lib.hid hcm; clear hsz hrow hb hcm))
    go_ret
    exact ⟨_, rfl, ⟨rfl, .inr ⟨w.heap.size, c, cs, rfl, Nat.le_refl _, hrow'.out, Nat.zero_le _, hcm'.out, hsz'.out, rfl⟩⟩, hb'.out⟩
  · obtain rfl : n = 0 := by omega
    go_enter Try.func110, Try.ntmps110
    go_wp2_with fail
    go_ret
    exact ⟨_, rfl, World.ownsRow_nil _ _ _ _, Below.refl _ _⟩
theorem appA {w : World} {ops : Array Oper} {rest : List Oper} {o : Oper} {a : Act} {Q : Exit → Act → World → Prop} (hgd : o.guard = none) (sl x : Operand)
    (ho : o.op = .call { callee := .builtin .append, args := #[sl, x], argTypes := #[30, 30] }) (base : Nat) (v : Value) (n : Nat) (ys : List Value) (p : Prt) (hs : a.eval sl = v) (hown : w.ownsRow base 68 2 v n ys) (hx : a.eval x = p.v) (hp : p.Ok 2 w) (hn : n + p.n ≤ 1000000) (hbase : base ≤ w.heap.size) (hb0 : Below base w w)
    (h : ∀ v' w', w'.ownsRow base 68 2 v' (n + p.n) (ys ++ p.xs) → Below base w w' → wpList Try.prog ops Q rest (a.put o.dst v') w') : wpList Try.prog ops Q (o :: rest) a w := by
  obtain ⟨i0, hi0, hz0, hz1, hz2⟩ := info_parts Try.infoA
  obtain ⟨A, m, c, xs⟩ := p
  unfold Prt.v at hx
  have hl := hp.len
  have hnc := hp.nc
  have hnil := hp.nil_
  dsimp only at hx hn hl h hnc hnil
  cases A with
  | none =>
    obtain rfl := hnil rfl
    obtain rfl : m = 0 := by omega
    have hxs : xs = [] := List.length_eq_zero_iff.1 (by omega)
    subst hxs
    refine wpList_append_own_none hgd sl x 30 ho base 68 i0 2 Try.underlying30 hi0 v n ys hs hown hx ?_
    exact h v w (by simpa using hown) hb0
  | some ad =>
    refine wpList_append_own_at _ hgd sl x 30 ho base 68 i0 _ 2 32 Try.underlying30 hi0 hz0 hz1 hz2 rfl (by decide) v n ys hs hown ad m c xs hx hl (hp.some_ (by decide) rfl) hp.one (by unfold maxLen; omega) (by omega) hbase ?_
    intro v' w' hown' hg _ _
    exact h v' w' hown' (hb0.grown hg hbase fun k hk => by
      rcases hown.2 with ⟨e, _⟩ | ⟨g, cap, cur, e, hge, _⟩
      · subst e; cases hk
      · subst e
        have : g = k := by simpa [Value.ownBlock] using hk
        omega)
set_option maxHeartbeats 2000000 in
theorem concatA (w : World) (g m c : Nat) (ps : List Prt) (hm : ps.length = m) (hmc : m ≤ 10) (hc : ∀ i p, ps[i]? = some p → w.cell? ((⟨g, 0, none⟩ : Addr).add i) = some p.v) (hg : g < w.heap.size) (hok : ∀ p ∈ ps, p.Ok 2 w) (hsum : sumN ps ≤ 1000000) :
    Calls Try.prog 99 #[.slice (some ⟨g, 0, none⟩) m c] w fun e w' => ∃ v, e = .returned v ∧ w'.ownsRow w.heap.size 68 2 v (sumN ps) (catV ps) ∧ Below w.heap.size w w' := by
  have hc' := Lib.hid hc
  have hok' := Lib.hid hok
  have hm' := Lib.hid hm
  have hle := Lib.hid (sumN_le ps)
  obtain ⟨N, hN⟩ : ∃ N, N = sumN ps := ⟨_, rfl⟩
  have hN' := Lib.hid hN
  rw [← hN] at hsum
  clear hc hok hm hN
  go_enter Try.func99, Try.ntmps99
  go_wp2_with fail
  go_loopw [3, 11] (fun z i wr => ∃ q : Nat, q ≤ m ∧ i = .int .i64 (q : Int) ∧ z = .int .i64 ((sumN (ps.take q) : Nat) : Int) ∧ wr = w) (fun _ i _ => m - (intOf i).toNat)
  case atStart => exact ⟨0, Nat.zero_le _, rfl, rfl, rfl⟩
  case round =>
    obtain ⟨q, hq, rfl, rfl, rfl⟩ := hrel
    by_cases hqm : q < m
    · have hqI : (q : Int) < (m : Int) := by omega
      obtain ⟨p, hp⟩ : ∃ p, ps[q]? = some p := ⟨_, List.getElem?_eq_getElem (by have := hm'.out; omega)⟩
      have hcell := hc'.out q p hp
      rw [add_zero_off] at hcell
      unfold Prt.v at hcell
      have hst := Lib.hid (sumN_take hp)
      have hl1 := hle.out (q + 1)
      have hl0 := hle.out q
      rw [← hN'.out] at hl1 hl0
      rw [hst.out] at hl1
      obtain ⟨z0, hz0⟩ : ∃ z0, z0 = sumN (ps.take q) := ⟨_, rfl⟩
      rw [← hz0] at hl1 hl0 ⊢
      have hz0' := Lib.hid hz0
      have hneg : ¬ ((z0 : Int) + (p.n : Int) < 0) := by omega
      have hwz : IntKind.i64.wrap ((z0 : Int) + (p.n : Int)) = (z0 : Int) + (p.n : Int) := IntWalk.i64_in _ (by omega)
      clear hp hz0
      go_wp2_with fail
      go_roundw
      case rel => exact ⟨q + 1, by omega, by go_num, by rw [hst.out, ← hz0'.out]; simp, trivial⟩
      case measure => simp [intOf]; omega
    · have hqI : ¬ (q : Int) < (m : Int) := by omega
      have hqe : ps.take q = ps := List.take_of_length_le (by have := hm'.out; omega)
      rw [hqe, ← hN'.out]
      clear hqe
      go_wp2_with (go_at_call 110; refine (growA _ N hsum).mono ?_; rintro e w1 ⟨v1, rfl, ho1, hb1⟩; have ho1' := Lib.hid ho1; have hb1' := Lib.hid hb1; clear ho1 hb1)
      obtain ⟨W0, hW0⟩ : ∃ W0, W0 = wr := ⟨_, rfl⟩
      subst hW0
      go_loopw [6, 27] (fun v i wt => ∃ q : Nat, q ≤ m ∧ i = .int .i64 (q : Int) ∧ wt.ownsRow W0.heap.size 68 2 v (sumN (ps.take q)) (catV (ps.take q)) ∧ Below W0.heap.size W0 wt) (fun _ i _ => m - (intOf i).toNat)
      case atStart => exact ⟨0, Nat.zero_le _, rfl, ho1'.out, hb1'.out⟩
      case round =>
        obtain ⟨q, hq, rfl, ho, hb⟩ := hrel
        have hb' := Lib.hid hb
        have ho' := Lib.hid ho
        by_cases hqm : q < m
        · have hqI : (q : Int) < (m : Int) := by omega
          obtain ⟨p, hp⟩ : ∃ p, ps[q]? = some p := ⟨_, List.getElem?_eq_getElem (by have := hm'.out; omega)⟩
          have hcell := (hb.cell (p := (⟨g, 0, none⟩ : Addr).add q) (by rw [block_add]; exact hg)).trans (hc'.out q p hp)
          rw [add_zero_off] at hcell
          have hpo := Lib.hid ((hok'.out p (List.mem_of_getElem? hp)).below hb)
          have hst := Lib.hid (sumN_take hp)
          have hct := Lib.hid (catV_take hp)
          have hl1 := hle.out (q + 1)
          rw [← hN'.out, hst.out] at hl1
          have hl1' := Lib.hid (show sumN (ps.take q) + p.n ≤ 1000000 by omega)
          obtain ⟨pv, hpv⟩ : ∃ pv, pv = p.v := ⟨_, rfl⟩
          rw [← hpv] at hcell
          have hpv' := Lib.hid hpv
          clear hp ho hb hl1 hpv
          go_wp2_with (at_builtin; go_loud (refine appA rfl (.tmp 31) (.tmp 32) rfl W0.heap.size _ (sumN (ps.take q)) (catV (ps.take q)) p rfl ho'.out (by exact hpv'.out) hpo.out hl1'.out hb'.out.size (Below.refl _ _) ?_; intro v2 w2 ho2 hb2; rw [← hst.out, ← hct.out] at ho2; have ho2' := Lib.hid ho2; have hb2' := Lib.hid (hb'.out.trans hb2); clear ho2 hb2))
          go_roundw
          case rel => exact ⟨q + 1, by omega, by go_num, ho2'.out, hb2'.out⟩
          case measure => simp [intOf]; omega
        · have hqI : ¬ (q : Int) < (m : Int) := by omega
          have hqe : ps.take q = ps := List.take_of_length_le (by have := hm'.out; omega)
          rw [hqe] at ho'
          clear ho hb hqe
          go_wp2_with fail
          go_ret
          exact ⟨_, rfl, by rw [hN'.out]; exact ho'.out, hb'.out⟩
end Go.Proofs.Ytoeblaecldhcaaa.Top
/- A region that draws its order, of which one operation waits for all that is taken first: behind that one what was held need not hold. -/
namespace Go.Proofs.Ytoeblaecldhcaaa.Top
open Go
section
variable {P : Program} {ops : Array Oper} {Q : Exit → Act → World → Prop} {md : Region.Mode} {S : World → Prop} {l : Nat}

/-- whatever order is picked from here on; S holds behind every operation that is carried out, but behind number l -/
def wpAnyL (P : Program) (md : Region.Mode) (ops : Array Oper) (Q : Exit → Act → World → Prop) (S : World → Prop) (l : Nat) : Nat → Array Bool → Act → World → Prop
  | 0, listed, a, w => Region.ready md ops listed = [] ∧ Q .normal a w
  | fuel + 1, listed, a, w =>
    (Region.ready md ops listed = [] → Q .normal a w) ∧
    ∀ i ∈ Region.ready md ops listed, wpOp P ops Q i (fun a' w' => if i = l then wpAny P md ops Q fuel (listed.setIfInBounds i true) a' w' else S w' ∧ wpAnyL P md ops Q S l fuel (listed.setIfInBounds i true) a' w') a w
theorem wpAny_of_L : ∀ (fuel : Nat) (listed : Array Bool) (a : Act) (w : World), wpAnyL P md ops Q S l fuel listed a w → wpAny P md ops Q fuel listed a w
  | 0, _, _, _, h => h
  | fuel + 1, listed, _, _, h => ⟨h.1, fun i hi => wpOp_mono (fun a' w' h' => by
      by_cases hil : i = l
      · rw [if_pos hil] at h'; exact h'
      · rw [if_neg hil] at h'; exact wpAny_of_L fuel _ a' w' h'.2) (h.2 i hi)⟩
theorem wpAnyL_first {i : Nat} {oi : Oper} {v : Value} (hi : ops[i]? = some oi) (hsel : ∀ (j : Nat) (o : Oper) cs b, ops[j]? = some o → o.op ≠ .select cs b)
    (hQ : ∀ c a w, Q (.panic c) (a.put oi.dst v) w → Q (.panic c) a w) (hil : i ≠ l) (hlw : ∀ o, ops[l]? = some o → ∃ e ∈ o.after, Region.binds md e = true ∧ e.on = i) :
    ∀ (fuel : Nat) (listed : Array Bool) (a : Act) (w : World),
      (∀ j oj, ops[j]? = some oj → j ≠ i → listed.getD j true = false → (∀ e ∈ oj.after, Region.binds md e = true → e.on ≠ i) → oi.apart ops oj = true) →
      i ∈ Region.ready md ops listed → YieldsIf P ops S oi v a → S w →
      wpAnyL P md ops Q S l fuel (listed.setIfInBounds i true) (a.put oi.dst v) w → wpAnyL P md ops Q S l (fuel + 1) listed a w := by
  intro fuel
  induction fuel with
  | zero =>
    intro listed a w _ hr hy hS H
    refine ⟨fun h => (by rw [h] at hr; cases hr), fun j hj => ?_⟩
    by_cases hji : j = i
    · subst hji; exact hy.wpOp hi hS (by rw [if_neg hil]; exact ⟨hS, H⟩)
    · have := ready_mono hj hji
      rw [H.1] at this
      cases this
  | succ fuel ih =>
    intro listed a w hfree hr hy hS H
    refine ⟨fun h => (by rw [h] at hr; cases hr), fun j hj => ?_⟩
    by_cases hji : j = i
    · subst hji; exact hy.wpOp hi hS (by rw [if_neg hil]; exact ⟨hS, H⟩)
    · have h1 := H.2 j (ready_mono hj hji)
      obtain ⟨hjun, oj, hoj, hall⟩ := mem_ready.1 hj
      have hnot : ∀ e ∈ oj.after, Region.binds md e = true → e.on ≠ i := fun e he hb heq => by
        have h1 := hall e he hb
        have h0 := (mem_ready.1 hr).1
        rw [heq] at h1
        rcases Nat.lt_or_ge i listed.size with h' | h'
        · simp [h'] at h0 h1; rw [h0] at h1; cases h1
        · simp [Array.getElem?_eq_none h'] at h1
      have hjl : j ≠ l := fun e => by
        subst e
        obtain ⟨e, he, hb, ho⟩ := hlw oj hoj
        exact hnot e he hb ho
      simp only [if_neg hjl] at h1 ⊢
      have h2 := wpOp_putIf hoj (hfree j oj hoj hji hjun hnot) (fun cs b => hsel i oi cs b hi) (fun cs b => hsel j oj cs b hoj) hQ hy h1
      have hfree' : ∀ k ok, ops[k]? = some ok → k ≠ i → (listed.setIfInBounds j true).getD k true = false →
          (∀ e ∈ ok.after, Region.binds md e = true → e.on ≠ i) → oi.apart ops ok = true := fun k ok hk hki hun hno => by
        refine hfree k ok hk hki ?_ hno
        by_cases hjk : j = k
        · subst hjk; exact hjun
        · rw [getD_set_ne true hjk] at hun; exact hun
      refine wpOp_mono (fun a' w' h3 => ⟨h3.2.1, ih (listed.setIfInBounds j true) a' w' hfree' (ready_mono hr (Ne.symm hji)) h3.1 h3.2.1 ?_⟩) h2
      rw [Array.setIfInBounds_comm _ _ hji]
      exact h3.2.2
/-- number l waits for number i -/
def waitsFor (md : Region.Mode) (ops : Array Oper) (l i : Nat) : Bool :=
  i != l && match ops[l]? with
  | some o => o.after.any fun e => Region.binds md e && e.on == i
  | none => false
theorem waitsFor_spec {i : Nat} (h : waitsFor md ops l i = true) : i ≠ l ∧ ∀ o, ops[l]? = some o → ∃ e ∈ o.after, Region.binds md e = true ∧ e.on = i := by
  unfold waitsFor at h
  rw [Bool.and_eq_true] at h
  refine ⟨by simpa using h.1, fun o ho => ?_⟩
  have h2 := h.2
  rw [ho] at h2
  simp only [Array.any_eq_true'] at h2
  obtain ⟨e, he, hb⟩ := h2
  rw [Bool.and_eq_true, beq_iff_eq] at hb
  exact ⟨e, he, hb.1, hb.2⟩
/-- number i is taken first -/
theorem wpAnyL_take {i : Nat} {oi : Oper} {v : Value} {fuel : Nat} {listed : Array Bool} {a : Act} {w : World} (hi : ops[i]? = some oi)
    (hs : Region.noSelect ops = true) (hf : Region.free md ops listed i = true) (hr : (Region.ready md ops listed).contains i = true) (hl : waitsFor md ops l i = true)
    (hQ : ∀ c a w, Q (.panic c) (a.put oi.dst v) w → Q (.panic c) a w) (hy : YieldsIf P ops S oi v a) (hS : S w)
    (h : wpAnyL P md ops Q S l fuel (listed.setIfInBounds i true) (a.put oi.dst v) w) : wpAnyL P md ops Q S l (fuel + 1) listed a w :=
  wpAnyL_first hi (Region.noSelect_spec hs) hQ (waitsFor_spec hl).1 (waitsFor_spec hl).2 fuel listed a w (Region.free_spec hi hf) (by simpa using hr) hy hS h
/-- but one may come up -/
theorem wpAnyL_one {i : Nat} {o : Oper} {fuel : Nat} {listed : Array Bool} {a : Act} {w : World} (hr : Region.ready md ops listed = [i]) (ho : ops[i]? = some o) (hil : i ≠ l)
    (h : ∀ K' : Act → World → Prop, Shut (∀ a w, S w → (S w → wpAnyL P md ops Q S l fuel (listed.setIfInBounds i true) a w) → K' a w) → if Region.wanted o (yielded ops a.tmps) = true then Oper.wp P o a w K' Q else K' (a.put o.dst undef) w) : wpAnyL P md ops Q S l (fuel + 1) listed a w := by
  refine ⟨fun h0 => (by rw [hr] at h0; cases h0), fun j hj => ?_⟩
  rw [hr] at hj
  obtain rfl := List.mem_singleton.1 hj
  simp only [if_neg hil]
  exact wpOp_step ho fun K' hK => h K' (fun a w hS hW => hK a w ⟨hS, hW hS⟩)
/-- two may come up -/
theorem wpAnyL_two {i j : Nat} {o o' : Oper} {fuel : Nat} {listed : Array Bool} {a : Act} {w : World} (hr : Region.ready md ops listed = [i, j]) (ho : ops[i]? = some o) (ho' : ops[j]? = some o') (hil : i ≠ l) (hjl : j ≠ l)
    (h : ∀ K' : Act → World → Prop, Shut (∀ a w, S w → (S w → wpAnyL P md ops Q S l fuel (listed.setIfInBounds i true) a w) → K' a w) → if Region.wanted o (yielded ops a.tmps) = true then Oper.wp P o a w K' Q else K' (a.put o.dst undef) w)
    (h' : ∀ K' : Act → World → Prop, Shut (∀ a w, S w → (S w → wpAnyL P md ops Q S l fuel (listed.setIfInBounds j true) a w) → K' a w) → if Region.wanted o' (yielded ops a.tmps) = true then Oper.wp P o' a w K' Q else K' (a.put o'.dst undef) w) : wpAnyL P md ops Q S l (fuel + 1) listed a w := by
  refine ⟨fun h0 => (by rw [hr] at h0; cases h0), fun k hk => ?_⟩
  rw [hr] at hk
  rcases List.mem_cons.1 hk with rfl | hk
  · simp only [if_neg hil]
    exact wpOp_step ho fun K' hK => h K' (fun a w hS hW => hK a w ⟨hS, hW hS⟩)
  · obtain rfl := List.mem_singleton.1 hk
    simp only [if_neg hjl]
    exact wpOp_step ho' fun K' hK => h' K' (fun a w hS hW => hK a w ⟨hS, hW hS⟩)
/-- number l comes up -/
theorem wpAnyL_last {o : Oper} {fuel : Nat} {listed : Array Bool} {a : Act} {w : World} (hr : Region.ready md ops listed = [l]) (ho : ops[l]? = some o)
    (h : ∀ K' : Act → World → Prop, (∀ a w, wpAny P md ops Q fuel (listed.setIfInBounds l true) a w → K' a w) → if Region.wanted o (yielded ops a.tmps) = true then Oper.wp P o a w K' Q else K' (a.put o.dst undef) w) : wpAnyL P md ops Q S l (fuel + 1) listed a w := by
  refine ⟨fun h0 => (by rw [hr] at h0; cases h0), fun j hj => ?_⟩
  rw [hr] at hj
  obtain rfl := List.mem_singleton.1 hj
  simp only [if_true]
  exact wpOp_step ho fun K' hK => h K' hK
/-- the beginning -/
theorem wp_region_L (S : World → Prop) (l : Nat) {id : Nat} {a : Act} {w : World} (hm : P.follows .mixedOrders = true) (hS : S w.drew)
    (h : S w.drew → wpAnyL P .any ops Q S l ops.size (Array.replicate ops.size false) a w.drew) : (Code.region id ops true).wp P Q a w :=
  wp_region_any hm (wpAny_of_L _ _ _ _ (h hS))
end
end Go.Proofs.Ytoeblaecldhcaaa.Top
