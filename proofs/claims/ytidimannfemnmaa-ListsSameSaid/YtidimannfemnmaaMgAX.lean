/- MgAX: LstVal LstEx LstStep -/
import Derived.Test.YtidimannfemnmaaMgAV
import Derived.Test.YtidimannfemnmaaMgAW
import Derived.Test.YtidimannfemnmaaMgAB
set_option linter.all false
namespace Go.Proofs.Ytidimannfemnmaa.Lst
open Go.RowKit Top Shf Sim Sqr

abbrev Res:=List Ov × List Ov × Int
def Good (a b:Ov):Prop:=Tiny a∧Tiny b∧P5.totP (pcs a.pieces)≤2000∧P5.totP (pcs b.pieces)≤2000
instance (a b:Ov):Decidable (Good a b):=inferInstanceAs (Decidable ((a.path.length≤300∧a.to_.length≤300)∧(b.path.length≤300∧b.to_.length≤300)∧P5.totP (pcs a.pieces)≤2000∧P5.totP (pcs b.pieces)≤2000))
def metV (p:Bool):Nat→List Ov→List Ov→Option Res
  | 0,_,_=>none
  | _ + 1,[],bs=>some ([],bs,0)
  | _ + 1,a :: l,[]=>some (a :: l,[],0)
  | n + 1,[a],b :: r =>
    if Good a b then
      (if (bothV a b p).2.2 ≠ 0 then some ([],[],(bothV a b p).2.2)
       else match metV p n (bothV a b p).1 r with
        | none=>none
        | some R=>if R.2.2 ≠ 0 then some ([],[],R.2.2) else some (R.1,(bothV a b p).2.1 ++ R.2.1,0))
    else none
  | n + 1,a :: a2 :: l,b :: r =>
    match metV p n [a] (b :: r) with
    | none=>none
    | some X=>if X.2.2 ≠ 0 then some ([],[],X.2.2) else
      match metV p n (a2 :: l) X.2.1 with
      | none=>none
      | some R=>if R.2.2 ≠ 0 then some ([],[],R.2.2) else some (X.1 ++ R.1,R.2.1,0)
theorem met_more (p:Bool):∀ (n:Nat) (xs bs:List Ov) (R:Res),metV p n xs bs = some R→metV p (n + 1) xs bs = some R
  | 0,xs,bs,R,h=>by simp [metV] at h
  | n + 1,[],bs,R,h=>h
  | n + 1,a :: l,[],R,h=>h
  | n + 1,[a],b :: r,R,h=>by
    rw [metV] at h ⊢
    split at h
    · rename_i hg
      rw [if_pos hg]
      split at h
      · rename_i he
        rw [if_pos he]
        exact h
      · rename_i he
        rw [if_neg he]
        cases hx:metV p n (bothV a b p).1 r with
        | none=>rw [hx] at h;cases h
        | some X=>rw [hx] at h;rw [met_more p n _ _ X hx];exact h
    · cases h
  | n + 1,a :: a2 :: l,b :: r,R,h=>by
    rw [metV] at h ⊢
    cases hx:metV p n [a] (b :: r) with
    | none=>rw [hx] at h;cases h
    | some X =>
      rw [hx] at h
      rw [met_more p n _ _ X hx]
      dsimp only at h ⊢
      split at h
      · rename_i he
        rw [if_pos he]
        exact h
      · rename_i he
        rw [if_neg he]
        cases hy:metV p n (a2 :: l) X.2.1 with
        | none=>rw [hy] at h;cases h
        | some Y=>rw [hy] at h;rw [met_more p n _ _ Y hy];exact h
theorem met_le (p:Bool) {n m:Nat} {xs bs:List Ov} {R:Res} (h:metV p n xs bs = some R) (hm:n≤m):metV p m xs bs = some R:=by
  induction hm with
  | refl=>exact h
  | step _ ih=>exact met_more p _ xs bs R ih
theorem met_one (p:Bool) {n m:Nat} {xs bs:List Ov} {R S:Res} (h:metV p n xs bs = some R) (k:metV p m xs bs = some S):R = S:=by
  have h1:=met_le p h (Nat.le_max_left n m)
  have h2:=met_le p k (Nat.le_max_right n m)
  rw [h1] at h2
  injection h2
inductive Meets (p:Bool):List Ov→List Ov→List Ov→List Ov→Prop
  | nil_ (bs:List Ov):Meets p [] bs [] bs
  | non (xs:List Ov):Meets p xs [] xs []
  | step {a b:Ov} {r x y z w:List Ov}:Good a b→bothV a b p = (x,y,0)→Meets p x r z w→Meets p [a] (b :: r) z (y ++ w)
  | cons_ {a:Ov} {l bs x y z w:List Ov}:Meets p [a] bs x y→Meets p l y z w→Meets p (a :: l) bs (x ++ z) w
theorem met_meets (p:Bool):∀ (n:Nat) (xs bs x y:List Ov),metV p n xs bs = some (x,y,0)→Meets p xs bs x y
  | 0,xs,bs,x,y,h=>by simp [metV] at h
  | n + 1,[],bs,x,y,h=>by
    rw [metV] at h
    injection h with h
    injection h with h1 h2
    injection h2 with h2
    subst h1 h2
    exact .nil_ _
  | n + 1,a :: l,[],x,y,h=>by
    rw [metV] at h
    injection h with h
    injection h with h1 h2
    injection h2 with h2
    subst h1 h2
    exact .non _
  | n + 1,[a],b :: r,x,y,h=>by
    rw [metV] at h
    split at h
    · rename_i hg
      split at h
      · rename_i he
        injection h with h
        injection h with h1 h2
        injection h2 with h2 h3
        exact absurd h3 he
      · rename_i he
        have he:(bothV a b p).2.2 = 0:=Decidable.not_not.1 he
        cases hx:metV p n (bothV a b p).1 r with
        | none=>rw [hx] at h;cases h
        | some X =>
          rw [hx] at h
          dsimp only at h
          split at h
          · rename_i hf
            injection h with h
            injection h with h1 h2
            injection h2 with h2 h3
            exact absurd h3 hf
          · rename_i hf
            injection h with h
            injection h with h1 h2
            injection h2 with h2 h3
            subst h1 h2
            refine .step hg (show bothV a b p = ((bothV a b p).1,(bothV a b p).2.1,0) from ?_) (met_meets p n _ _ _ _ (show metV p n (bothV a b p).1 r = some (X.1,X.2.1,0) from ?_))
            · rw [← he]
            · rw [hx,← Decidable.not_not.1 hf]
    · cases h
  | n + 1,a :: a2 :: l,b :: r,x,y,h=>by
    rw [metV] at h
    cases hx:metV p n [a] (b :: r) with
    | none=>rw [hx] at h;cases h
    | some X =>
      rw [hx] at h
      dsimp only at h
      split at h
      · rename_i he
        injection h with h
        injection h with h1 h2
        injection h2 with h2 h3
        exact absurd h3 he
      · rename_i he
        cases hy:metV p n (a2 :: l) X.2.1 with
        | none=>rw [hy] at h;cases h
        | some Y =>
          rw [hy] at h
          dsimp only at h
          split at h
          · rename_i hf
            injection h with h
            injection h with h1 h2
            injection h2 with h2 h3
            exact absurd h3 hf
          · rename_i hf
            injection h with h
            injection h with h1 h2
            injection h2 with h2 h3
            subst h1 h2
            refine .cons_ (met_meets p n _ _ _ _ (show metV p n [a] (b :: r) = some (X.1,X.2.1,0) from ?_)) (met_meets p n _ _ _ _ (show metV p n (a2 :: l) X.2.1 = some (Y.1,Y.2.1,0) from ?_))
            · rw [hx,← Decidable.not_not.1 he]
            · rw [hy,← Decidable.not_not.1 hf]
theorem meets_met (p:Bool) {xs bs x y:List Ov} (h:Meets p xs bs x y):∃ n,metV p n xs bs = some (x,y,0):=by
  induction h with
  | nil_ bs=>exact ⟨1,rfl⟩
  | non xs=>cases xs <;> exact ⟨1,rfl⟩
  | @step a b r x y z w hg hb _ ih =>
    obtain ⟨n,hn⟩:=ih
    refine ⟨n + 1,?_⟩
    rw [metV,if_pos hg,hb]
    dsimp only
    rw [if_neg (by simp),hn]
    simp
  | @cons_ a l bs x y z w _ _ ih1 ih2 =>
    obtain ⟨n,hn⟩:=ih1
    obtain ⟨m,hm⟩:=ih2
    cases l with
    | nil =>
      have e:=met_one p hm (show metV p 1 [] y = some ([],y,0) from rfl)
      injection e with e1 e2
      injection e2 with e2
      subst e1 e2
      exact ⟨n,by rw [List.append_nil];exact hn⟩
    | cons a2 l =>
      cases bs with
      | nil =>
        have e:=met_one p hn (show metV p 1 [a] [] = some ([a],[],0) from rfl)
        injection e with e1 e2
        injection e2 with e2
        subst e1 e2
        have e:=met_one p hm (show metV p 1 (a2 :: l) [] = some (a2 :: l,[],0) from rfl)
        injection e with e1 e2
        injection e2 with e2
        subst e1 e2
        exact ⟨1,rfl⟩
      | cons b r =>
        refine ⟨max n m + 1,?_⟩
        rw [metV,met_le p hn (Nat.le_max_left n m)]
        dsimp only
        rw [if_neg (by simp),met_le p hm (Nat.le_max_right n m)]
        simp
theorem meets_nil {p:Bool} {bs z w:List Ov} (h:Meets p [] bs z w):z = []∧w = bs:=by
  cases h with
  | nil_=>exact ⟨rfl,rfl⟩
  | non=>exact ⟨rfl,rfl⟩
theorem meets_non {p:Bool} {xs bs z w:List Ov} (h:Meets p xs bs z w) (e:bs = []):z = xs∧w = []:=by
  induction h with
  | nil_=>exact ⟨rfl,e⟩
  | non=>exact ⟨rfl,rfl⟩
  | step=>cases e
  | cons_ _ _ ih1 ih2 =>
    obtain ⟨rfl,e1⟩:=ih1 e
    obtain ⟨rfl,rfl⟩:=ih2 e1
    exact ⟨rfl,rfl⟩
theorem meets_cons {p:Bool} {a:Ov} {l bs z w:List Ov} (h:Meets p (a :: l) bs z w):∃ x y z2,Meets p [a] bs x y∧Meets p l y z2 w∧z = x ++ z2:=by
  cases h with
  | non=>exact ⟨[a],[],l,.non _,.non _,rfl⟩
  | step hg hb hm=>exact ⟨_,_,[],.step hg hb hm,.nil_ _,by rw [List.append_nil]⟩
  | cons_ h1 h2=>exact ⟨_,_,_,h1,h2,rfl⟩
theorem meets_cut {p:Bool}:∀ (l1 l2 bs z w:List Ov),Meets p (l1 ++ l2) bs z w→∃ z1 v z2,Meets p l1 bs z1 v∧Meets p l2 v z2 w∧z = z1 ++ z2
  | [],l2,bs,z,w,h=>⟨[],bs,z,.nil_ _,h,rfl⟩
  | a :: l1,l2,bs,z,w,h=>by
    obtain ⟨x,y,z2,h1,h2,rfl⟩:=meets_cons (show Meets p (a :: (l1 ++ l2)) bs z w from h)
    obtain ⟨z1,v,z3,h3,h4,rfl⟩:=meets_cut l1 l2 y z2 w h2
    exact ⟨x ++ z1,v,z3,.cons_ h1 h3,h4,by rw [List.append_assoc]⟩
theorem meets_along {p:Bool} {xs bs x y:List Ov} (h:Meets p xs bs x y):∀ {cs z w:List Ov},Meets p x cs z w→Meets p xs (bs ++ cs) z (y ++ w):=by
  induction h with
  | nil_ bs =>
    intro cs z w k
    obtain ⟨rfl,rfl⟩:=meets_nil k
    exact .nil_ _
  | non xs=>intro cs z w k;exact k
  | step hg hb _ ih =>
    intro cs z w k
    rw [List.append_assoc]
    exact .step hg hb (ih k)
  | cons_ h1 h2 ih1 ih2 =>
    intro cs z w k
    obtain ⟨z1,v,z2,k1,k2,rfl⟩:=meets_cut _ _ _ _ _ k
    exact .cons_ (ih1 k1) (ih2 k2)
theorem both_bares {a b:Ov} {p:Bool}:(bothV a b p).1.map bareV = (bothV a b p).1∧(bothV a b p).2.1.map bareV = (bothV a b p).2.1:=by
  have h:∀ (b a:Ov) (p:Bool),(behindV b a p).1.map bareV = (behindV b a p).1:=fun b a p=>by
    unfold behindV
    split
    · split
      · dsimp only
        rw [List.map_map]
        exact List.map_congr_left fun o _=>bare_bare o
      · rfl
    · rfl
  unfold bothV
  split
  · exact ⟨rfl,rfl⟩
  · split
    · exact ⟨rfl,rfl⟩
    · exact ⟨h _ _ _,h _ _ _⟩
theorem good_bare {a b:Ov} (h:Good a b):Good (bareV a) (bareV b):=by
  have t:∀ o:Ov,Tiny o→Tiny (bareV o):=fun o h=>by
    unfold Tiny bareV at *
    dsimp only
    constructor
    · split
      · exact h.1
      · simp
    · split
      · exact h.2
      · simp
  have k:∀ o:Ov,P5.totP (pcs o.pieces)≤2000→P5.totP (pcs (bareV o).pieces)≤2000:=fun o h=>by
    unfold bareV
    dsimp only
    split
    · exact h
    · simp [pcs,P5.totP,Ltx.extent,Ltx.puts]
  exact ⟨t _ h.1,t _ h.2.1,k _ h.2.2.1,k _ h.2.2.2⟩
theorem met_bare (p:Bool):∀ (n:Nat) (xs bs:List Ov) (R:Res),metV p n xs bs = some R→metV p n (xs.map bareV) (bs.map bareV) = some (R.1.map bareV,R.2.1.map bareV,R.2.2)
  | 0,xs,bs,R,h=>by simp [metV] at h
  | n + 1,[],bs,R,h=>by
    rw [metV] at h
    injection h with h
    subst h
    rfl
  | n + 1,a :: l,[],R,h=>by
    rw [metV] at h
    injection h with h
    subst h
    rfl
  | n + 1,[a],b :: r,R,h=>by
    rw [metV] at h
    show metV p (n + 1) [bareV a] (bareV b :: r.map bareV) = _
    rw [metV]
    split at h
    · rename_i hg
      rw [if_pos (good_bare hg),bare_both]
      split at h
      · rename_i he
        injection h with h
        subst h
        rw [if_pos he]
        rfl
      · rename_i he
        rw [if_neg he]
        cases hx:metV p n (bothV a b p).1 r with
        | none=>rw [hx] at h;cases h
        | some X =>
          rw [hx] at h
          have ih:=met_bare p n _ _ X hx
          rw [both_bares.1] at ih
          rw [ih]
          dsimp only at h ⊢
          split at h
          · rename_i hf
            injection h with h
            subst h
            rw [if_pos hf]
            rfl
          · rename_i hf
            injection h with h
            subst h
            rw [if_neg hf,List.map_append,both_bares.2]
    · cases h
  | n + 1,a :: a2 :: l,b :: r,R,h=>by
    rw [metV] at h
    show metV p (n + 1) (bareV a :: bareV a2 :: l.map bareV) (bareV b :: r.map bareV) = _
    rw [metV]
    cases hx:metV p n [a] (b :: r) with
    | none=>rw [hx] at h;cases h
    | some X =>
      rw [hx] at h
      have ih:=met_bare p n _ _ X hx
      rw [show [a].map bareV = [bareV a] from rfl,show (b :: r).map bareV = bareV b :: r.map bareV from rfl] at ih
      rw [ih]
      dsimp only at h ⊢
      split at h
      · rename_i he
        injection h with h
        subst h
        rw [if_pos he]
        rfl
      · rename_i he
        rw [if_neg he]
        cases hy:metV p n (a2 :: l) X.2.1 with
        | none=>rw [hy] at h;cases h
        | some Y =>
          rw [hy] at h
          have ih:=met_bare p n _ _ Y hy
          rw [show (a2 :: l).map bareV = bareV a2 :: l.map bareV from rfl] at ih
          rw [ih]
          dsimp only at h ⊢
          split at h
          · rename_i hf
            injection h with h
            subst h
            rw [if_pos hf]
            rfl
          · rename_i hf
            injection h with h
            subst h
            rw [if_neg hf,List.map_append]
end Go.Proofs.Ytidimannfemnmaa.Lst
namespace Go.Proofs.Ytidimannfemnmaa.Lst
open Go.RowKit Top Shf Sim Sqr

def mv1 (o:Ov):Nat:=if o.kind = 3 then 1 else 0
def movs:List Ov→Nat
  | []=>0
  | o :: r=>mv1 o + movs r
theorem movs_append:∀ l m:List Ov,movs (l ++ m) = movs l + movs m
  | [],m=>by simp [movs]
  | o :: r,m=>by rw [List.cons_append,movs,movs,movs_append r m];omega
def putsL:List Ov→Nat
  | []=>0
  | o :: r=>Ltx.puts (pcs o.pieces) + putsL r
theorem putsL_append:∀ l m:List Ov,putsL (l ++ m) = putsL l + putsL m
  | [],m=>by simp [putsL]
  | o :: r,m=>by rw [List.cons_append,putsL,putsL,putsL_append r m];omega
theorem shifted_kind (b a:Ov) (p:Bool):(shiftedV b a p).kind = b.kind∧(shiftedV b a p).pieces = b.pieces:=by
  unfold shiftedV
  split
  · exact ⟨rfl,rfl⟩
  · split <;> exact ⟨rfl,rfl⟩
theorem undo_kind (c:Ch):(undoV c).kind ≠ 6:=by
  unfold undoV
  split
  · exact (by decide:(3:Nat) ≠ 6)
  · exact (by decide:(0:Nat) ≠ 6)
theorem cls (b a:Ov) (p:Bool) :
    becomesV b a p = []∨(∃ o,becomesV b a p = [o]∧((o.kind = b.kind∧o.pieces = b.pieces)∨o.kind = 2∨o = editV b a p)) ∨
    (∃ o1 o2,becomesV b a p = [o1,o2]∧o1.kind = 2∧o2.kind = 2∧b.kind = 2∧a.kind = 3∧P4.withinV b.path a.path = true) ∨
    (∃ o1 o2,becomesV b a p = [o1,o2]∧o1.kind ≠ 6∧o2.kind ≠ 6∧p = true∧b.kind = 3∧a.kind = 3∧P4.eqV b.path a.path = false∧P4.withinV b.path a.to_ = true∧P4.withinV a.path b.to_ = true):=by
  have sh:∀ l,l = [shiftedV b a p]→(∃ o,l = [o]∧((o.kind = b.kind∧o.pieces = b.pieces)∨o.kind = 2∨o = editV b a p)):=fun l e=>⟨_,e,.inl (shifted_kind b a p)⟩
  unfold becomesV
  by_cases h1:a.kind = 2∧P4.withinV a.path b.path = true
  · rw [if_pos h1];exact .inl rfl
  rw [if_neg h1]
  by_cases h2:b.kind = 3∧a.kind = 2∧P4.withinV a.path b.to_ = true
  · rw [if_pos h2];exact .inr (.inl ⟨_,rfl,.inr (.inl rfl)⟩)
  rw [if_neg h2]
  by_cases h3:b.kind = 2∧a.kind = 3∧P4.eqV b.path a.path = false∧P4.withinV b.path a.path = true∧P4.withinV b.path a.to_ = false
  · rw [if_pos h3];exact .inr (.inr (.inl ⟨_,_,rfl,rfl,rfl,h3.1,h3.2.1,h3.2.2.2.1⟩))
  rw [if_neg h3]
  by_cases h4:b.kind = 3∧a.kind = 3∧P4.eqV b.path a.path = true
  · rw [if_pos h4]
    cases p
    · exact .inl rfl
    · exact .inr (.inl (sh _ rfl))
  rw [if_neg h4]
  by_cases h5:b.kind = 3∧a.kind = 3∧P4.withinV b.path a.to_ = true∧P4.withinV a.path b.to_ = true
  · rw [if_pos h5]
    cases p
    · exact .inl rfl
    · refine .inr (.inr (.inr ⟨_,_,rfl,undo_kind _,by omega,rfl,h5.1,h5.2.1,?_,h5.2.2.1,h5.2.2.2⟩))
      cases he:P4.eqV b.path a.path with
      | false=>rfl
      | true=>exact absurd ⟨h5.1,h5.2.1,he⟩ h4
  rw [if_neg h5]
  by_cases h6:b.kind = 4∧a.kind = 4∧P4.eqV b.path a.path = true∧b.key = a.key
  · rw [if_pos h6]
    cases p
    · exact .inl rfl
    · exact .inr (.inl (sh _ rfl))
  rw [if_neg h6]
  by_cases h7:b.kind = 5∧a.kind = 5∧P4.eqV b.path a.path = true
  · rw [if_pos h7]
    cases p
    · exact .inl rfl
    · exact .inr (.inl (sh _ rfl))
  rw [if_neg h7]
  by_cases h8:b.kind = 6∧a.kind = 6∧P4.eqV b.path a.path = true
  · rw [if_pos h8];exact .inr (.inl ⟨_,rfl,.inr (.inr rfl)⟩)
  rw [if_neg h8]
  exact .inr (.inl (sh _ rfl))
theorem behind_ok {b a:Ov} {p:Bool} {l:List Ov} (h:behindV b a p = (l,0)):soundV b = true∧soundV a = true∧(becomesV b a p).all formedV = true∧l = (becomesV b a p).map bareV:=by
  unfold behindV at h
  split at h
  · rename_i h1
    split at h
    · rename_i h2
      injection h with h3 h4
      exact ⟨h1.1,h1.2,h2,h3.symm⟩
    · injection h with h3 h4
      cases h4
  · injection h with h3 h4
    cases h4
theorem bare_pcs {o:Ov} (h:o.kind ≠ 6):pcs (bareV o).pieces = []:=by
  unfold bareV
  dsimp only
  rw [if_neg h]
  rfl
theorem one_small {b a:Ov} {p:Bool} {l:List Ov} (h:behindV b a p = (l,0)):putsL l≤Ltx.puts (pcs b.pieces)∧(∀ o ∈ l,P5.totP (pcs o.pieces)≤P5.totP (pcs b.pieces) + Ltx.puts (pcs a.pieces))∧(∀ o ∈ l,Tiny o):=by
  obtain ⟨-,-,hf,rfl⟩:=behind_ok h
  have nil2:∀ o:Ov,o.kind ≠ 6→Ltx.puts (pcs (bareV o).pieces) = 0∧P5.totP (pcs (bareV o).pieces) = 0:=fun o h=>by rw [bare_pcs h];exact ⟨rfl,rfl⟩
  have hb:∀ o:Ov,o.pieces = b.pieces→Ltx.puts (pcs (bareV o).pieces)≤Ltx.puts (pcs b.pieces)∧P5.totP (pcs (bareV o).pieces)≤P5.totP (pcs b.pieces):=fun o e=>by
    by_cases h6:o.kind = 6
    · rw [show (bareV o).pieces = b.pieces by unfold bareV;dsimp only;rw [if_pos h6,e]]
      exact ⟨Nat.le_refl _,Nat.le_refl _⟩
    · obtain ⟨e1,e2⟩:=nil2 o h6
      omega
  refine ⟨?_,?_,?_⟩
  · rcases cls b a p with e | ⟨o,e,k⟩ | ⟨o1,o2,e,k1,k2,-⟩ | ⟨o1,o2,e,k1,k2,-⟩ <;> rw [e]
    · exact Nat.zero_le _
    · simp only [List.map_cons,List.map_nil,putsL,Nat.add_zero]
      rcases k with ⟨-,k⟩ | k | rfl
      · exact (hb o k).1
      · have:=(nil2 o (by omega)).1;omega
      · by_cases h6:(editV b a p).kind = 6
        · rw [show (bareV (editV b a p)).pieces = (editV b a p).pieces by unfold bareV;dsimp only;rw [if_pos h6]]
          unfold editV
          dsimp only
          rw [pcs_ipc]
          have h1:=(Ltx.trans_sums (Ltx.norm (pcs b.pieces)) (Ltx.norm (pcs a.pieces)) p).1
          rw [Ltx.norm_puts] at h1
          exact h1
        · have:=(nil2 _ h6).1;omega
    · simp only [List.map_cons,List.map_nil,putsL]
      have e1:=(nil2 o1 (by omega)).1
      have e2:=(nil2 o2 (by omega)).1
      omega
    · simp only [List.map_cons,List.map_nil,putsL]
      have e1:=(nil2 o1 (by omega)).1
      have e2:=(nil2 o2 (by omega)).1
      omega
  · intro x hx
    obtain ⟨o,ho,rfl⟩:=List.mem_map.1 hx
    by_cases h6:o.kind = 6
    · rcases cls b a p with e | ⟨o1,e,k⟩ | ⟨o1,o2,e,k1,k2,-⟩ | ⟨o1,o2,e,k1,k2,-⟩ <;> rw [e] at ho
      · cases ho
      · rw [List.mem_singleton] at ho
        subst ho
        rcases k with ⟨-,k⟩ | k | rfl
        · have:=(hb o k).2;omega
        · omega
        · rw [show (bareV (editV b a p)).pieces = (editV b a p).pieces by unfold bareV;dsimp only;rw [if_pos h6]]
          unfold editV
          dsimp only
          rw [pcs_ipc]
          have h1:=(Ltx.trans_sums (Ltx.norm (pcs b.pieces)) (Ltx.norm (pcs a.pieces)) p).1
          have h2:=Ltx.trans_reach (Ltx.norm (pcs b.pieces)) (Ltx.norm (pcs a.pieces)) p
          have h3:=Ltx.extent_norm (pcs b.pieces)
          rw [Ltx.norm_puts] at h1 h2
          unfold P5.totP
          omega
      · simp only [List.mem_cons,List.not_mem_nil,or_false] at ho
        rcases ho with rfl | rfl <;> omega
      · simp only [List.mem_cons,List.not_mem_nil,or_false] at ho
        rcases ho with rfl | rfl <;> omega
    · have:=(nil2 o h6).2;omega
  · intro x hx
    obtain ⟨o,ho,rfl⟩:=List.mem_map.1 hx
    have h1:=List.all_eq_true.1 hf o ho
    unfold formedV at h1
    rw [Bool.and_eq_true] at h1
    have h2:=(of_decide_eq_true h1.1).1
    unfold Tiny bareV
    dsimp only
    constructor
    · split
      · omega
      · simp
    · split
      · rename_i h3
        have h4:=h1.2
        rw [if_neg (by omega),if_neg (by omega),if_pos h3,Bool.and_eq_true] at h4
        have h5:=(of_decide_eq_true h4.2).1
        omega
      · simp
theorem bare_mv (o:Ov):mv1 (bareV o) = mv1 o:=rfl
theorem mv_kind {o:Ov} (h:o.kind ≠ 3):mv1 o = 0:=by unfold mv1;rw [if_neg h]
theorem mv_one (o:Ov):mv1 o≤1:=by unfold mv1;split <;> omega
theorem mv_yes {o:Ov} (h:o.kind = 3):mv1 o = 1:=by unfold mv1;rw [if_pos h]
theorem sq {a b:Ov} {p:Bool} {x y:List Ov} (h:bothV a b p = (x,y,0)) :
    (x.length≤1∧y.length≤1∧movs x≤mv1 a∧movs y≤mv1 b)∨(x.length = 2∧y = []∧movs x = 0∧mv1 b = 1)∨(x.length = 2∧y = []∧p = true∧movs x≤2∧mv1 a = 1∧mv1 b = 1) ∨
    (y.length = 2∧x = []∧movs y = 0∧mv1 a = 1)∨(y.length = 2∧x = []∧p = false∧movs y≤2∧mv1 a = 1∧mv1 b = 1):=by
  obtain ⟨hx,hy⟩:behindV a b p = (x,0)∧behindV b a (!p) = (y,0):=by
    unfold bothV at h
    split at h
    · rename_i h1
      injection h with h2 h3
      injection h3 with h3 h4
      exact absurd h4 h1
    · rename_i h1
      split at h
      · rename_i h2
        injection h with h3 h4
        injection h4 with h4 h5
        exact absurd h5 h2
      · rename_i h2
        injection h with h3 h4
        injection h4 with h4 h5
        exact ⟨Prod.ext h3 (Decidable.not_not.1 h1),Prod.ext h4 (Decidable.not_not.1 h2)⟩
  obtain ⟨-,-,-,rfl⟩:=behind_ok hx
  obtain ⟨-,-,-,rfl⟩:=behind_ok hy
  have one:∀ (b a:Ov) (p:Bool) (o:Ov),((o.kind = b.kind∧o.pieces = b.pieces)∨o.kind = 2∨o = editV b a p)→mv1 o≤mv1 b:=fun b a p o k=>by
    rcases k with ⟨k,-⟩ | k | rfl
    · unfold mv1;rw [k];exact Nat.le_refl _
    · rw [mv_kind (by omega)];exact Nat.zero_le _
    · exact Nat.le_refl _
  have small:∀ (b a:Ov) (p:Bool),becomesV b a p = []∨(∃ o,becomesV b a p = [o]∧((o.kind = b.kind∧o.pieces = b.pieces)∨o.kind = 2∨o = editV b a p))→((becomesV b a p).map bareV).length≤1∧movs ((becomesV b a p).map bareV)≤mv1 b:=fun b a p k=>by
    rcases k with e | ⟨o,e,k⟩ <;> rw [e]
    · exact ⟨by simp,Nat.zero_le _⟩
    · refine ⟨by simp,?_⟩
      have:=one b a p o k
      simp only [List.map_cons,List.map_nil,movs,bare_mv]
      omega
  have del:∀ (b a:Ov) (p:Bool),b.kind = 2→P4.withinV b.path a.path = true→becomesV a b p = []:=fun b a p k1 k2=>by unfold becomesV;rw [if_pos ⟨k1,k2⟩]
  have cyc:∀ (b a:Ov),b.kind = 3→a.kind = 3→P4.eqV b.path a.path = false→P4.withinV b.path a.to_ = true→P4.withinV a.path b.to_ = true→becomesV a b false = []:=fun b a k1 k2 k3 k4 k5=>by
    have k6:P4.eqV a.path b.path = false:=decide_eq_false fun e=>by have:=of_decide_eq_false k3;exact this e.symm
    unfold becomesV
    rw [if_neg (by omega),if_neg (by omega),if_neg (by omega),if_neg (by rw [k6];simp),if_pos ⟨k2,k1,k5,k4⟩]
    rfl
  rcases cls a b p with e | e | ⟨o1,o2,e,k1,k2,k3,k4,k5⟩ | ⟨o1,o2,e,k1,k2,k3,k4,k5,k6,k7,k8⟩
  case inr.inr.inl =>
    have e2:=del a b (!p) k3 k5
    refine .inr (.inl ⟨by rw [e];rfl,by rw [e2];rfl,?_,mv_yes k4⟩)
    rw [e]
    simp only [List.map_cons,List.map_nil,movs,bare_mv,mv_kind (show o1.kind ≠ 3 by omega),mv_kind (show o2.kind ≠ 3 by omega)]
  case inr.inr.inr =>
    subst k3
    have e2:=cyc a b k4 k5 k6 k7 k8
    refine .inr (.inr (.inl ⟨by rw [e];rfl,by rw [show (!true) = false from rfl,e2];rfl,rfl,?_,mv_yes k4,mv_yes k5⟩))
    rw [e]
    simp only [List.map_cons,List.map_nil,movs,bare_mv]
    have:=mv_one o1
    have:=mv_one o2
    omega
  all_goals
    have ha:=small a b p (by first | exact .inl e | exact .inr e)
    rcases cls b a (!p) with f | f | ⟨o1,o2,f,k1,k2,k3,k4,k5⟩ | ⟨o1,o2,f,k1,k2,k3,k4,k5,k6,k7,k8⟩
    · have hb:=small b a (!p) (.inl f)
      exact .inl ⟨ha.1,hb.1,ha.2,hb.2⟩
    · have hb:=small b a (!p) (.inr f)
      exact .inl ⟨ha.1,hb.1,ha.2,hb.2⟩
    · have e2:=del b a p k3 k5
      refine .inr (.inr (.inr (.inl ⟨by rw [f];rfl,by rw [e2];rfl,?_,mv_yes k4⟩)))
      rw [f]
      simp only [List.map_cons,List.map_nil,movs,bare_mv,mv_kind (show o1.kind ≠ 3 by omega),mv_kind (show o2.kind ≠ 3 by omega)]
    · have kp:p = false:=by cases p <;> simp_all
      subst kp
      have e2:=cyc b a k4 k5 k6 k7 k8
      refine .inr (.inr (.inr (.inr ⟨by rw [f];rfl,by rw [e2];rfl,rfl,?_,mv_yes k5,mv_yes k4⟩)))
      rw [f]
      simp only [List.map_cons,List.map_nil,movs,bare_mv]
      have:=mv_one o1
      have:=mv_one o2
      omega
theorem both_parts {a b:Ov} {p:Bool} {x y:List Ov} (h:bothV a b p = (x,y,0)):behindV a b p = (x,0)∧behindV b a (!p) = (y,0):=by
  unfold bothV at h
  split at h
  · rename_i h1
    injection h with h2 h3
    injection h3 with h3 h4
    exact absurd h4 h1
  · rename_i h1
    split at h
    · rename_i h2
      injection h with h3 h4
      injection h4 with h4 h5
      exact absurd h5 h2
    · rename_i h2
      injection h with h3 h4
      injection h4 with h4 h5
      exact ⟨Prod.ext h3 (Decidable.not_not.1 h1),Prod.ext h4 (Decidable.not_not.1 h2)⟩
theorem meets_size {p:Bool} {xs bs x y:List Ov} (h:Meets p xs bs x y):x.length + y.length≤xs.length + bs.length∧movs x + movs y≤movs xs + movs bs∧(movs x + movs y = movs xs + movs bs→(p = true→y.length≤bs.length)∧(p = false→x.length≤xs.length))∧putsL x≤putsL xs∧putsL y≤putsL bs:=by
  induction h with
  | nil_ bs=>simp [movs,putsL]
  | non xs=>simp [movs,putsL]
  | @step a b r x y z w hg hb _ ih =>
    obtain ⟨h1,h2,h3,h4,h5⟩:=ih
    obtain ⟨hx,hy⟩:=both_parts hb
    have p1:=(one_small hx).1
    have p2:=(one_small hy).1
    simp only [movs,putsL,List.length_cons,List.length_nil,List.length_append,movs_append,putsL_append]
    rcases sq hb with ⟨s1,s2,s3,s4⟩ | ⟨s1,rfl,s3,s4⟩ | ⟨s1,rfl,rfl,s3,s4,s5⟩ | ⟨s1,rfl,s3,s4⟩ | ⟨s1,rfl,rfl,s3,s4,s5⟩
    · refine ⟨by omega,by omega,fun e=>?_,by omega,by omega⟩
      obtain ⟨g1,g2⟩:=h3 (by omega)
      exact ⟨fun e=>by have:=g1 e;omega,fun e=>by have:=g2 e;omega⟩
    · simp only [movs,List.length_nil,putsL] at *
      refine ⟨by omega,by omega,fun e=>by omega,by omega,by omega⟩
    · simp only [movs,List.length_nil,putsL] at *
      refine ⟨by omega,by omega,fun e=>?_,by omega,by omega⟩
      obtain ⟨g1,g2⟩:=h3 (by omega)
      exact ⟨fun e=>by have:=g1 e;omega,fun e=>by simp at e⟩
    · simp only [movs,List.length_nil,putsL] at *
      refine ⟨by omega,by omega,fun e=>by omega,by omega,by omega⟩
    · simp only [movs,List.length_nil,putsL] at *
      refine ⟨by omega,by omega,fun e=>?_,by omega,by omega⟩
      obtain ⟨g1,g2⟩:=h3 (by omega)
      exact ⟨fun e=>by simp at e,fun e=>by have:=g2 e;omega⟩
  | @cons_ a l bs x y z w _ _ ih1 ih2 =>
    obtain ⟨h1,h2,h3,h4,h5⟩:=ih1
    obtain ⟨k1,k2,k3,k4,k5⟩:=ih2
    simp only [movs,putsL,List.length_cons,List.length_nil,List.length_append,movs_append,putsL_append] at *
    refine ⟨by omega,by omega,fun e=>?_,by omega,by omega⟩
    obtain ⟨g1,g2⟩:=h3 (by omega)
    obtain ⟨g3,g4⟩:=k3 (by omega)
    exact ⟨fun e=>by have:=g1 e;have:=g3 e;omega,fun e=>by have:=g2 e;have:=g4 e;omega⟩
theorem meets_tot {p:Bool} {xs bs x y:List Ov} (h:Meets p xs bs x y):(∀ c,(∀ o ∈ xs,Tiny o∧P5.totP (pcs o.pieces) + putsL bs≤c)→∀ o ∈ x,Tiny o∧P5.totP (pcs o.pieces)≤c)∧(∀ c,(∀ o ∈ bs,Tiny o∧P5.totP (pcs o.pieces) + putsL xs≤c)→∀ o ∈ y,Tiny o∧P5.totP (pcs o.pieces)≤c):=by
  induction h with
  | nil_ bs=>exact ⟨fun c _ o ho=>(by cases ho),fun c h o ho=>⟨(h o ho).1,by have:=(h o ho).2;omega⟩⟩
  | non xs=>exact ⟨fun c h o ho=>⟨(h o ho).1,by have:=(h o ho).2;omega⟩,fun c _ o ho=>(by cases ho)⟩
  | @step a b r x y z w hg hb hm ih =>
    obtain ⟨h1,h2⟩:=ih
    obtain ⟨hx,hy⟩:=both_parts hb
    obtain ⟨p1,p2,p3⟩:=one_small hx
    obtain ⟨q1,q2,q3⟩:=one_small hy
    refine ⟨fun c hc=>h1 c fun o ho=>⟨p3 o ho,?_⟩,fun c hc o ho=>?_⟩
    · have e1:=(hc a List.mem_cons_self).2
      have e2:=p2 o ho
      rw [putsL] at e1
      omega
    · rcases List.mem_append.1 ho with ho | ho
      · refine ⟨q3 o ho,?_⟩
        have e1:=(hc b List.mem_cons_self).2
        have e2:=q2 o ho
        rw [putsL,putsL] at e1
        omega
      · refine h2 c (fun o ho=>⟨(hc o (List.mem_cons_of_mem _ ho)).1,?_⟩) o ho
        have e1:=(hc o (List.mem_cons_of_mem _ ho)).2
        rw [putsL,putsL] at e1
        omega
  | @cons_ a l bs x y z w hm1 hm2 ih1 ih2 =>
    obtain ⟨h1,h2⟩:=ih1
    obtain ⟨k1,k2⟩:=ih2
    have s1:=(meets_size hm1).2.2.2
    refine ⟨fun c hc o ho=>?_,fun c hc=>?_⟩
    · rcases List.mem_append.1 ho with ho | ho
      · refine h1 c (fun o ho=>?_) o ho
        rw [List.mem_singleton] at ho
        subst ho
        exact hc _ List.mem_cons_self
      · refine k1 c (fun o ho=>⟨(hc o (List.mem_cons_of_mem _ ho)).1,?_⟩) o ho
        have e1:=(hc o (List.mem_cons_of_mem _ ho)).2
        omega
    · by_cases hl:putsL l≤c
      · refine k2 c fun o ho=>?_
        obtain ⟨g1,g2⟩:=h2 (c - putsL l) (fun o ho=>⟨(hc o ho).1,by have e1:=(hc o ho).2;simp only [putsL] at e1 ⊢;omega⟩) o ho
        exact ⟨g1,by omega⟩
      · intro o ho
        cases bs with
        | nil =>
          obtain ⟨rfl,rfl⟩:=meets_non hm1 rfl
          obtain ⟨rfl,rfl⟩:=meets_non hm2 rfl
          cases ho
        | cons b r =>
          have e1:=(hc b List.mem_cons_self).2
          simp only [putsL] at e1
          omega
theorem met_ends (p:Bool) (L:Nat) (hL:L≤2000) (xs bs:List Ov) (hA:∀ o ∈ xs,Tiny o∧P5.totP (pcs o.pieces) + putsL bs≤L) (hB:∀ o ∈ bs,Tiny o∧P5.totP (pcs o.pieces) + putsL xs≤L):∃ n R,metV p n xs bs = some R:=by
  match xs,bs with
  | [],bs=>exact ⟨1,_,rfl⟩
  | a :: l,[]=>exact ⟨1,_,rfl⟩
  | [a],b :: r =>
    have ha:=hA a List.mem_cons_self
    have hb:=hB b List.mem_cons_self
    have hg:Good a b:=⟨ha.1,hb.1,by omega,by omega⟩
    obtain ⟨X,hX⟩:∃ X,X = bothV a b p:=⟨_,rfl⟩
    obtain ⟨x,y,e⟩:=X
    by_cases he:e = 0
    · subst he
      obtain ⟨hx,hy⟩:=both_parts hX.symm
      obtain ⟨p1,p2,p3⟩:=one_small hx
      have hs:=sq hX.symm
      obtain ⟨n,R,hR⟩:=met_ends p L hL x r (fun o ho=>⟨p3 o ho,by have:=p2 o ho;have:=ha.2;simp only [putsL] at this;omega⟩) (fun o ho=>⟨(hB o (List.mem_cons_of_mem _ ho)).1,by have:=(hB o (List.mem_cons_of_mem _ ho)).2;simp only [putsL] at this;omega⟩)
      by_cases hf:R.2.2 = 0
      · exact ⟨n + 1,(R.1,y ++ R.2.1,0),by rw [metV,if_pos hg,← hX];dsimp only;rw [if_neg (by simp),hR];simp [hf]⟩
      · exact ⟨n + 1,([],[],R.2.2),by rw [metV,if_pos hg,← hX];dsimp only;rw [if_neg (by simp),hR];simp [hf]⟩
    · exact ⟨1,([],[],e),by rw [metV,if_pos hg,← hX];simp [he]⟩
  | a :: a2 :: l,b :: r =>
    obtain ⟨n,X,hX⟩:=met_ends p L hL [a] (b :: r) (fun o ho=>by rw [List.mem_singleton] at ho;subst ho;exact hA _ List.mem_cons_self) (fun o ho=>⟨(hB o ho).1,by have:=(hB o ho).2;simp only [putsL] at this ⊢;omega⟩)
    obtain ⟨x,y,e⟩:=X
    by_cases he:e = 0
    · subst he
      have hm:=met_meets p n _ _ _ _ hX
      have hs:=meets_size hm
      have ht:=meets_tot hm
      have hl:putsL (a2 :: l)≤L:=by have:=(hB b List.mem_cons_self).2;simp only [putsL] at this ⊢;omega
      obtain ⟨m,R,hR⟩:=met_ends p L hL (a2 :: l) y (fun o ho=>⟨(hA o (List.mem_cons_of_mem _ ho)).1,by have:=(hA o (List.mem_cons_of_mem _ ho)).2;omega⟩) (fun o ho=>by
        obtain ⟨g1,g2⟩:=ht.2 (L - putsL (a2 :: l)) (fun o ho=>⟨(hB o ho).1,by have:=(hB o ho).2;simp only [putsL] at this ⊢;omega⟩) o ho
        exact ⟨g1,by omega⟩)
      by_cases hf:R.2.2 = 0
      · exact ⟨max n m + 1,(x ++ R.1,R.2.1,0),by rw [metV,met_le p hX (Nat.le_max_left n m)];dsimp only;rw [if_neg (by simp),met_le p hR (Nat.le_max_right n m)];simp [hf]⟩
      · exact ⟨max n m + 1,([],[],R.2.2),by rw [metV,met_le p hX (Nat.le_max_left n m)];dsimp only;rw [if_neg (by simp),met_le p hR (Nat.le_max_right n m)];simp [hf]⟩
    · exact ⟨n + 1,([],[],e),by rw [metV,hX];simp [he]⟩
termination_by (movs xs + movs bs,if p then bs.length else xs.length,xs.length + bs.length)
decreasing_by
  all_goals simp_wf
  · cases p <;> simp only [movs,List.length_cons,List.length_nil,Bool.false_eq_true,if_false,if_true] at *
    · rw [Prod.lex_def,Prod.lex_def]
      rcases hs with ⟨s1,s2,s3,s4⟩ | ⟨s1,rfl,s3,s4⟩ | ⟨s1,rfl,s2,s3,s4,s5⟩ | ⟨s1,rfl,s3,s4⟩ | ⟨s1,rfl,s2,s3,s4,s5⟩ <;> simp only [movs,List.length_nil] at * <;> omega
    · rw [Prod.lex_def,Prod.lex_def]
      rcases hs with ⟨s1,s2,s3,s4⟩ | ⟨s1,rfl,s3,s4⟩ | ⟨s1,rfl,s2,s3,s4,s5⟩ | ⟨s1,rfl,s3,s4⟩ | ⟨s1,rfl,s2,s3,s4,s5⟩ <;> simp only [movs,List.length_nil] at * <;> omega
  · cases p
    · simp only [movs,List.length_cons,List.length_nil,Bool.false_eq_true,if_false,if_true]
      rw [Prod.lex_def,Prod.lex_def]
      dsimp only
      omega
    · simp only [movs,List.length_cons,List.length_nil,Bool.false_eq_true,if_false,if_true]
      rw [Prod.lex_def,Prod.lex_def]
      dsimp only
      omega
  · obtain ⟨s1,s2,s3,-,-⟩:=hs
    cases p
    · have s6:=fun e=>(s3 e).2 rfl
      clear s3
      simp only [movs,List.length_cons,List.length_nil,Bool.false_eq_true,if_false,if_true] at s1 s2 s6 ⊢
      rw [Prod.lex_def,Prod.lex_def]
      dsimp only
      omega
    · have s6:=fun e=>(s3 e).1 rfl
      clear s3
      simp only [movs,List.length_cons,List.length_nil,Bool.false_eq_true,if_false,if_true] at s1 s2 s6 ⊢
      rw [Prod.lex_def,Prod.lex_def]
      dsimp only
      omega
end Go.Proofs.Ytidimannfemnmaa.Lst
namespace Go.Proofs.Ytidimannfemnmaa.Lst
open Go.RowKit Top Shf Sim Sqr

theorem met_pos {p:Bool} {n:Nat} {xs bs:List Ov} {R:Res} (h:metV p n xs bs = some R):1≤n:=by
  cases n with
  | zero=>simp [metV] at h
  | succ n=>omega
theorem met_head {p:Bool} {n:Nat} {a:Ov} {l bs:List Ov} {R:Res} (h:metV p n (a :: l) bs = some R) :
    ∃ X,metV p n [a] bs = some X∧(X.2.2 ≠ 0→R = ([],[],X.2.2))∧(X.2.2 = 0→∃ Y,metV p n l X.2.1 = some Y∧(Y.2.2 ≠ 0→R = ([],[],Y.2.2))∧(Y.2.2 = 0→R = (X.1 ++ Y.1,Y.2.1,0))):=by
  obtain ⟨m,rfl⟩:∃ m,n = m + 1:=⟨n - 1,by have:=met_pos h;omega⟩
  match l,bs with
  | l,[] =>
    rw [metV] at h
    injection h with h
    subst h
    refine ⟨_,rfl,fun e=>absurd rfl e,fun _=>?_⟩
    cases l with
    | nil=>exact ⟨_,rfl,fun e=>absurd rfl e,fun _=>rfl⟩
    | cons a2 l=>exact ⟨_,rfl,fun e=>absurd rfl e,fun _=>rfl⟩
  | [],b :: r =>
    refine ⟨R,h,fun e=>?_,fun e=>⟨_,rfl,fun e=>absurd rfl e,fun _=>?_⟩⟩
    · obtain ⟨x,y,k⟩:=R
      rw [metV] at h
      split at h
      · split at h
        · injection h with h
          injection h with h1 h2
          injection h2 with h2 h3
          subst h1 h2
          rfl
        · cases hx:metV p m (bothV a b p).1 r with
          | none=>rw [hx] at h;cases h
          | some X =>
            rw [hx] at h
            dsimp only at h
            split at h
            · injection h with h
              injection h with h1 h2
              injection h2 with h2 h3
              subst h1 h2
              rfl
            · injection h with h
              injection h with h1 h2
              injection h2 with h2 h3
              exact absurd h3.symm e
      · cases h
    · obtain ⟨x,y,k⟩:=R
      dsimp only at e
      subst e
      simp
  | a2 :: l,b :: r =>
    rw [metV] at h
    cases hx:metV p m [a] (b :: r) with
    | none=>rw [hx] at h;cases h
    | some X =>
      rw [hx] at h
      dsimp only at h
      refine ⟨X,met_more p m _ _ _ hx,fun e=>?_,fun e=>?_⟩
      · rw [if_pos e] at h
        injection h with h
        exact h.symm
      · rw [if_neg (by simp [e])] at h
        cases hy:metV p m (a2 :: l) X.2.1 with
        | none=>rw [hy] at h;cases h
        | some Y =>
          rw [hy] at h
          dsimp only at h
          refine ⟨Y,met_more p m _ _ _ hy,fun f=>?_,fun f=>?_⟩
          · rw [if_pos f] at h
            injection h with h
            exact h.symm
          · rw [if_neg (by simp [f])] at h
            injection h with h
            exact h.symm
theorem met_step {p:Bool} {n:Nat} {a b:Ov} {r:List Ov} {R:Res} (h:metV p (n + 1) [a] (b :: r) = some R) :
    Good a b∧((bothV a b p).2.2 ≠ 0→R = ([],[],(bothV a b p).2.2))∧((bothV a b p).2.2 = 0→∃ Y,metV p n (bothV a b p).1 r = some Y∧(Y.2.2 ≠ 0→R = ([],[],Y.2.2))∧(Y.2.2 = 0→R = (Y.1,(bothV a b p).2.1 ++ Y.2.1,0))):=by
  rw [metV] at h
  split at h
  · rename_i hg
    refine ⟨hg,fun e=>?_,fun e=>?_⟩
    · rw [if_pos e] at h
      injection h with h
      exact h.symm
    · rw [if_neg (by simp [e])] at h
      cases hy:metV p n (bothV a b p).1 r with
      | none=>rw [hy] at h;cases h
      | some Y =>
        rw [hy] at h
        dsimp only at h
        refine ⟨Y,rfl,fun f=>?_,fun f=>?_⟩
        · rw [if_pos f] at h
          injection h with h
          exact h.symm
        · rw [if_neg (by simp [f])] at h
          injection h with h
          exact h.symm
  · cases h
theorem met_over {p:Bool} {n:Nat} {xs:List Ov} {R:Res} (h:metV p n xs [] = some R):R = (xs,[],0):=by
  obtain ⟨m,rfl⟩:∃ m,n = m + 1:=⟨n - 1,by have:=met_pos h;omega⟩
  cases xs with
  | nil=>rw [metV] at h;injection h with h;exact h.symm
  | cons a l=>rw [metV] at h;injection h with h;exact h.symm
theorem met_none {p:Bool} {n:Nat} {bs:List Ov} {R:Res} (h:metV p n [] bs = some R):R = ([],bs,0):=by
  obtain ⟨m,rfl⟩:∃ m,n = m + 1:=⟨n - 1,by have:=met_pos h;omega⟩
  rw [metV] at h
  injection h with h
  exact h.symm
theorem met_err {p:Bool} {n:Nat} {xs bs:List Ov} {R:Res} (h:metV p n xs bs = some R) (e:R.2.2 ≠ 0):R = ([],[],R.2.2):=by
  match xs with
  | []=>rw [met_none h] at e;exact absurd rfl e
  | a :: l =>
    match bs with
    | []=>rw [met_over h] at e;exact absurd rfl e
    | b :: r =>
      obtain ⟨X,h1,h2,h3⟩:=met_head h
      by_cases f:X.2.2 = 0
      · obtain ⟨Y,k1,k2,k3⟩:=h3 f
        by_cases g:Y.2.2 = 0
        · rw [k3 g] at e;exact absurd rfl e
        · rw [k2 g]
      · rw [h2 f]
theorem met_small {p:Bool} {n:Nat} {xs bs:List Ov} {R:Res} (h:metV p n xs bs = some R):R.1.length + R.2.1.length≤xs.length + bs.length:=by
  by_cases e:R.2.2 = 0
  · obtain ⟨x,y,k⟩:=R
    dsimp only at e
    subst e
    exact (meets_size (met_meets p n _ _ _ _ h)).1
  · rw [met_err h e];simp
theorem met_joined {p:Bool} {n m k:Nat} {cs xs bs x y z:List Ov} {q:List Ov} {S:Res} (h1:metV p n cs xs = some (x,y,0)) (h2:metV p m x bs = some (z,q,0)) (h3:metV p k cs (xs ++ bs) = some S):S = (z,y ++ q,0):=by
  obtain ⟨i,hi⟩:=meets_met p (meets_along (met_meets p n _ _ _ _ h1) (met_meets p m _ _ _ _ h2))
  exact met_one p h3 hi
end Go.Proofs.Ytidimannfemnmaa.Lst
