/- MgAB: TreVal LtxVal LtxSq LtxInv LtxSize LtxComp -/
import Derived.Test.YtoeblaecldhcaaaProg
namespace Go.Proofs.Ytoeblaecldhcaaa
set_option linter.unusedVariables false
abbrev Txt:=List UInt8
inductive Nd where
  | mk (id:Nat) (leaf:Bool) (label:Txt) (attrs:List (Txt × Txt)) (text:Txt) (kids:List Nd)
namespace Nd
def id:Nd→Nat | .mk i _ _ _ _ _=>i
def leaf:Nd→Bool | .mk _ l _ _ _ _=>l
def label:Nd→Txt | .mk _ _ l _ _ _=>l
def attrs:Nd→List (Txt × Txt) | .mk _ _ _ a _ _=>a
def text:Nd→Txt | .mk _ _ _ _ t _=>t
def kids:Nd→List Nd | .mk _ _ _ _ _ k=>k
def zero:Nd:=.mk 0 false [] [] [] []
def withKids:Nd→List Nd→Nd | .mk i l b a t _,k=>.mk i l b a t k
theorem kid_lt {t k:Nd} (h:k ∈ t.kids):SizeOf.sizeOf k < SizeOf.sizeOf t:=by
  cases t with
  | mk i l b a x ks =>
    have:=List.sizeOf_lt_of_mem (show k ∈ ks from h)
    simp only [mk.sizeOf_spec]
    omega
theorem ind {p:Nd→Prop} (h:∀ t:Nd,(∀ k ∈ t.kids,p k)→p t) (t:Nd):p t:=by
  generalize hn:SizeOf.sizeOf t = n
  induction n using Nat.strongRecOn generalizing t with
  | _ n ih=>exact h t fun k hk=>ih _ (by have:=kid_lt hk;omega) k rfl
end Nd

mutual
def countV:Nd→Nat
  | .mk _ _ _ _ _ ks=>1 + countsV ks
def countsV:List Nd→Nat
  | []=>0
  | k :: r=>countV k + countsV r
end
mutual
def depthV:Nd→Nat
  | .mk _ _ _ _ _ ks=>depthsV ks
def depthsV:List Nd→Nat
  | []=>0
  | k :: r=>max (1 + depthV k) (depthsV r)
end
def attrsLen:List (Txt × Txt)→Nat
  | []=>0
  | a :: r=>a.1.length + a.2.length + attrsLen r
def ownLong (t:Nd):Nat:=t.text.length + attrsLen t.attrs
mutual
def longV:Nd→Nat
  | .mk _ _ _ ps x ks=>max (x.length + attrsLen ps) (longsV ks)
def longsV:List Nd→Nat
  | []=>0
  | k :: r=>max (longV k) (longsV r)
end
mutual
def idsV:Nd→List Nat
  | .mk i _ _ _ _ ks=>i :: idssV ks
def idssV:List Nd→List Nat
  | []=>[]
  | k :: r=>idsV k ++ idssV r
end
def keyB (s:Txt):Bool:=decide (1≤s.length∧s.length≤64)
def attrsOk (lt:Txt→Txt→Bool):Txt→List (Txt × Txt)→Bool
  | _,[]=>true
  | last,a :: r=>keyB a.1 && lt last a.1 && decide (a.2.length≤256) && attrsOk lt a.1 r
def aloneOk (lt:Txt→Txt→Bool) (t:Nd):Bool :=
  decide (t.label.length≤64) && attrsOk lt [] t.attrs && (if t.leaf then t.kids.isEmpty else t.text.isEmpty)
mutual
def rightsV (lt:Txt→Txt→Bool):Nd→Bool
  | .mk i l b ps x ks=>aloneOk lt (.mk i l b ps x ks) && rightssV lt ks
def rightssV (lt:Txt→Txt→Bool):List Nd→Bool
  | []=>true
  | k :: r=>rightsV lt k && rightssV lt r
end
def rightV (lt:Txt→Txt→Bool) (t:Nd):Bool:=!t.leaf && rightsV lt t
def alikeA (a b:Nd):Bool:=a.leaf == b.leaf && a.label == b.label && a.text == b.text && a.attrs == b.attrs
def sameA (a b:Nd):Bool:=a.id == b.id && alikeA a b
mutual
def eqV (f:Nd→Nd→Bool):Nd→Nd→Bool
  | .mk i l b ps x ks,t=>f (.mk i l b ps x ks) t && eqsV f ks t.kids
def eqsV (f:Nd→Nd→Bool):List Nd→List Nd→Bool
  | [],[]=>true
  | k :: r,m :: s=>eqV f k m && eqsV f r s
  | _,_=>false
end
def alikeV (a b:Nd):Bool:=eqV alikeA a b
def sameV (a b:Nd):Bool:=eqV sameA a b
def atV:Nd→List Int→Option Nd
  | t,[]=>some t
  | t,i :: p=>if 0≤i then match t.kids[i.toNat]? with
    | some k=>atV k p
    | none=>none else none
def putV:Nd→List Int→Nd→Option Nd
  | _,[],x=>some x
  | t,i :: p,x=>if 0≤i then match t.kids[i.toNat]? with
    | some k=>match putV k p x with
      | some k'=>some (t.withKids (t.kids.set i.toNat k'))
      | none=>none
    | none=>none else none
def attrV:List (Txt × Txt)→Txt→Option Txt
  | [],_=>none
  | a :: r,k=>if a.1 == k then some a.2 else attrV r k
def attrsW:List (Txt × Txt)→Nat
  | []=>0
  | a :: r=>1 + a.1.length + a.2.length + attrsW r
mutual
def weighV:Nd→Nat
  | .mk _ _ b ps x ks=>1 + b.length + x.length + attrsW ps + weighsV ks
def weighsV:List Nd→Nat
  | []=>0
  | k :: r=>weighV k + weighsV r
end

theorem countV_eq (t:Nd):countV t = 1 + countsV t.kids:=by cases t;simp [countV,Nd.kids]
theorem depthV_eq (t:Nd):depthV t = depthsV t.kids:=by cases t;simp [depthV,Nd.kids]
theorem longV_eq (t:Nd):longV t = max (ownLong t) (longsV t.kids):=by cases t;simp [longV,Nd.kids,ownLong,Nd.text,Nd.attrs]
theorem idsV_eq (t:Nd):idsV t = t.id :: idssV t.kids:=by cases t;simp [idsV,Nd.kids,Nd.id]
theorem rightsV_eq (lt:Txt→Txt→Bool) (t:Nd):rightsV lt t = (aloneOk lt t && rightssV lt t.kids):=by cases t;simp [rightsV,Nd.kids]
theorem eqV_eq (f:Nd→Nd→Bool) (s t:Nd):eqV f s t = (f s t && eqsV f s.kids t.kids):=by cases s;simp [eqV,Nd.kids]
theorem weighV_eq (t:Nd):weighV t = 1 + t.label.length + t.text.length + attrsW t.attrs + weighsV t.kids:=by cases t;simp [weighV,Nd.kids,Nd.label,Nd.text,Nd.attrs]
theorem weighsV_append (l m:List Nd):weighsV (l ++ m) = weighsV l + weighsV m:=by
  induction l with
  | nil=>simp [weighsV]
  | cons k r ih=>simp [weighsV,ih];omega
theorem countsV_append (l m:List Nd):countsV (l ++ m) = countsV l + countsV m:=by
  induction l with
  | nil=>simp [countsV]
  | cons k r ih=>simp [countsV,ih];omega
theorem idssV_append (l m:List Nd):idssV (l ++ m) = idssV l ++ idssV m:=by
  induction l with
  | nil=>simp [idssV]
  | cons k r ih=>simp [idssV,ih]
theorem longsV_append (l m:List Nd):longsV (l ++ m) = max (longsV l) (longsV m):=by
  induction l with
  | nil=>simp [longsV]
  | cons k r ih=>simp only [List.cons_append,longsV,ih];omega
theorem depthsV_append (l m:List Nd):depthsV (l ++ m) = max (depthsV l) (depthsV m):=by
  induction l with
  | nil=>simp [depthsV]
  | cons k r ih=>simp only [List.cons_append,depthsV,ih];omega
theorem attrsLen_append (l m:List (Txt × Txt)):attrsLen (l ++ m) = attrsLen l + attrsLen m:=by
  induction l with
  | nil=>simp [attrsLen]
  | cons k r ih=>simp [attrsLen,ih];omega
theorem attrsW_append (l m:List (Txt × Txt)):attrsW (l ++ m) = attrsW l + attrsW m:=by
  induction l with
  | nil=>simp [attrsW]
  | cons k r ih=>simp [attrsW,ih];omega

theorem attrsLen_le (l:List (Txt × Txt)):attrsLen l + l.length≤attrsW l:=by
  induction l with
  | nil=>simp [attrsLen,attrsW]
  | cons k r ih=>simp [attrsLen,attrsW];omega
theorem count_pos (t:Nd):1≤countV t:=by rw [countV_eq];omega
mutual
theorem count_le:∀ t:Nd,countV t≤weighV t
  | .mk i l b ps x ks=>by
    have:=counts_le ks
    simp only [countV,weighV]
    omega
theorem counts_le:∀ l:List Nd,countsV l≤weighsV l
  | []=>by simp [countsV,weighsV]
  | k :: r=>by
    have h1:=count_le k
    have h2:=counts_le r
    simp only [countsV,weighsV]
    omega
end
mutual
theorem depth_lt:∀ t:Nd,depthV t < countV t
  | .mk i l b ps x ks=>by
    have:=depths_le ks
    simp only [depthV,countV]
    omega
theorem depths_le:∀ l:List Nd,depthsV l≤countsV l
  | []=>by simp [depthsV,countsV]
  | k :: r=>by
    have h1:=depth_lt k
    have h2:=depths_le r
    simp only [depthsV,countsV]
    omega
end
mutual
theorem long_le:∀ t:Nd,longV t≤weighV t
  | .mk i l b ps x ks=>by
    have h1:=longs_le ks
    have h2:=attrsLen_le ps
    simp only [longV,weighV]
    omega
theorem longs_le:∀ l:List Nd,longsV l≤weighsV l
  | []=>by simp [longsV,weighsV]
  | k :: r=>by
    have h1:=long_le k
    have h2:=longs_le r
    simp only [longsV,weighsV]
    omega
end
theorem kids_le (t:Nd):t.kids.length + 1≤countV t:=by
  rw [countV_eq]
  have:∀ l:List Nd,l.length≤countsV l:=by
    intro l
    induction l with
    | nil=>simp
    | cons k r ih =>
      have:=count_pos k
      simp only [List.length_cons,countsV]
      omega
  have:=this t.kids
  omega

mutual
def preV (d:Nat):Nd→List (Nat × Nd)
  | .mk i l b ps x ks=>(d,.mk i l b ps x ks) :: presV (d + 1) ks
def presV (d:Nat):List Nd→List (Nat × Nd)
  | []=>[]
  | k :: r=>preV d k ++ presV d r
end
theorem preV_eq (d:Nat) (t:Nd):preV d t = (d,t) :: presV (d + 1) t.kids:=by cases t;simp [preV,Nd.kids]
mutual
theorem pre_len:∀ (t:Nd) (d:Nat),(preV d t).length = countV t
  | .mk i l b ps x ks,d=>by simp only [preV,countV,List.length_cons];rw [pres_len ks (d + 1)];omega
theorem pres_len:∀ (l:List Nd) (d:Nat),(presV d l).length = countsV l
  | [],d=>by simp [presV,countsV]
  | k :: r,d=>by simp only [presV,countsV,List.length_append];rw [pre_len k d,pres_len r d]
end
mutual
theorem pre_ids:∀ (t:Nd) (d:Nat),(preV d t).map (·.2.id) = idsV t
  | .mk i l b ps x ks,d=>by simp only [preV,idsV,List.map_cons];rw [pres_ids ks (d + 1)];rfl
theorem pres_ids:∀ (l:List Nd) (d:Nat),(presV d l).map (·.2.id) = idssV l
  | [],d=>by simp [presV,idssV]
  | k :: r,d=>by simp only [presV,idssV,List.map_append];rw [pre_ids k d,pres_ids r d]
end
def maxOf {α:Type} (f:α→Nat):List α→Nat
  | []=>0
  | a :: r=>max (f a) (maxOf f r)
theorem maxOf_append {α:Type} (f:α→Nat) (l m:List α):maxOf f (l ++ m) = max (maxOf f l) (maxOf f m):=by
  induction l with
  | nil=>simp [maxOf]
  | cons a r ih=>simp only [List.cons_append,maxOf,ih];omega
mutual
theorem pre_depth:∀ (t:Nd) (d:Nat),maxOf (·.1) (preV d t) = d + depthV t
  | .mk i l b ps x ks,d=>by
    simp only [preV,depthV,maxOf]
    have:=pres_depth ks (d + 1)
    cases ks with
    | nil=>simp [presV,maxOf,depthsV]
    | cons k r =>
      have h2:=this (by simp)
      have h:1≤depthsV (k :: r):=by simp only [depthsV];omega
      omega
theorem pres_depth:∀ (l:List Nd) (d:Nat),l ≠ []→maxOf (·.1) (presV d l) + 1 = d + depthsV l
  | [],d=>by intro h;exact absurd rfl h
  | [k],d=>by
    intro _
    simp only [presV,depthsV,List.append_nil]
    rw [pre_depth k d]
    omega
  | k :: m :: r,d=>by
    intro _
    have h1:=pre_depth k d
    have h2:=pres_depth (m :: r) d (by simp)
    rw [presV,maxOf_append,h1,depthsV]
    omega
end
mutual
theorem pre_long:∀ (t:Nd) (d:Nat),maxOf (fun e=>ownLong e.2) (preV d t) = longV t
  | .mk i l b ps x ks,d=>by
    simp only [preV,longV,maxOf]
    rw [pres_long ks (d + 1)]
    rfl
theorem pres_long:∀ (l:List Nd) (d:Nat),maxOf (fun e=>ownLong e.2) (presV d l) = longsV l
  | [],d=>by simp [presV,longsV,maxOf]
  | k :: r,d=>by simp only [presV,longsV,maxOf_append];rw [pre_long k d,pres_long r d]
end
mutual
theorem pre_right (lt:Txt→Txt→Bool):∀ (t:Nd) (d:Nat),(preV d t).all (fun e=>aloneOk lt e.2) = rightsV lt t
  | .mk i l b ps x ks,d=>by
    simp only [preV,rightsV,List.all_cons]
    rw [pres_right lt ks (d + 1)]
theorem pres_right (lt:Txt→Txt→Bool):∀ (l:List Nd) (d:Nat),(presV d l).all (fun e=>aloneOk lt e.2) = rightssV lt l
  | [],d=>by simp [presV,rightssV]
  | k :: r,d=>by simp only [presV,rightssV,List.all_append];rw [pre_right lt k d,pres_right lt r d]
end

abbrev Stk:=List (List Nd)
def todo:Stk→List (Nat × Nd)
  | []=>[]
  | row :: rest=>presV rest.length row ++ todo rest
def nextV:Stk→Option (Nat × Nd × Stk)
  | []=>none
  | [] :: rest=>nextV rest
  | (x :: r) :: rest=>some (rest.length,x,x.kids :: r :: rest)
theorem todo_next:∀ s:Stk,match nextV s with
    | none=>todo s = []
    | some (d,x,s')=>todo s = (d,x) :: todo s'
  | []=>rfl
  | [] :: rest=>by
    have h:=todo_next rest
    have e:todo ([] :: rest) = todo rest:=by simp [todo,presV]
    rw [nextV,e]
    exact h
  | (x :: r) :: rest=>by
    simp only [nextV,todo,presV,preV_eq,List.cons_append,List.append_assoc,List.length_cons]
theorem todo_root (t:Nd):todo [[t]] = preV 0 t:=by simp [todo,presV]

def shape (s:Stk):List Nat:=s.map List.length
theorem nextV_shape:∀ s u:Stk,shape s = shape u→(nextV s).isSome = (nextV u).isSome
  | [],[],_=>rfl
  | [],_ :: _,h=>by simp [shape] at h
  | _ :: _,[],h=>by simp [shape] at h
  | [] :: rest,row :: rest',h=>by
    simp only [shape,List.map_cons,List.cons.injEq,List.length_nil] at h
    obtain rfl:row = []:=List.length_eq_zero_iff.1 h.1.symm
    simp only [nextV]
    exact nextV_shape rest rest' h.2
  | (x :: r) :: rest,row :: rest',h=>by
    simp only [shape,List.map_cons,List.cons.injEq,List.length_cons] at h
    cases row with
    | nil=>simp at h
    | cons y q=>simp [nextV]
def lock (f:Nd→Nd→Bool):Stk→Stk→Bool
  | [],[]=>true
  | a :: s,b :: u=>eqsV f a b && lock f s u
  | _,_=>false
theorem eqsV_len (f:Nd→Nd→Bool):∀ a b:List Nd,a.length ≠ b.length→eqsV f a b = false
  | [],[],h=>absurd rfl h
  | [],_ :: _,_=>by simp [eqsV]
  | _ :: _,[],_=>by simp [eqsV]
  | k :: r,m :: s,h=>by
    simp only [eqsV]
    rw [eqsV_len f r s (by simpa using h),Bool.and_false]
theorem lock_next (f:Nd→Nd→Bool):∀ s u:Stk,shape s = shape u→match nextV s,nextV u with
    | some (_,x,s'),some (_,y,u')=>lock f s u = (f x y && lock f s' u')∧(x.kids.length = y.kids.length→shape s' = shape u')∧(x.kids.length ≠ y.kids.length→lock f s u = false)
    | none,none=>lock f s u = true
    | _,_=>False
  | [],[],_=>by simp [nextV,lock]
  | [],_ :: _,h=>by simp [shape] at h
  | _ :: _,[],h=>by simp [shape] at h
  | [] :: rest,row :: rest',h=>by
    simp only [shape,List.map_cons,List.cons.injEq,List.length_nil] at h
    obtain rfl:row = []:=List.length_eq_zero_iff.1 h.1.symm
    have ih:=lock_next f rest rest' h.2
    simp only [nextV,lock,eqsV,Bool.true_and]
    exact ih
  | (x :: r) :: rest,row :: rest',h=>by
    simp only [shape,List.map_cons,List.cons.injEq,List.length_cons] at h
    cases row with
    | nil=>simp at h
    | cons y q =>
      simp only [nextV,lock,eqsV,eqV_eq,Bool.and_assoc]
      refine ⟨trivial,fun hk=>?_,fun hk=>?_⟩
      · have h1:r.length = q.length:=by have:=h.1;simp at this;exact this
        simp only [shape,List.map_cons,hk,h1]
        rw [show rest.map List.length = rest'.map List.length from h.2]
      · rw [eqsV_len f _ _ hk]
        simp
end Go.Proofs.Ytoeblaecldhcaaa
namespace Go.Proofs.Ytoeblaecldhcaaa.Ltx
set_option linter.unusedVariables false
structure Pc where
  keep:Nat
  drop:Nat
  put:List UInt8
deriving DecidableEq
def gap:List Pc→Nat→List UInt8 × Nat
  | [],_=>([],0)
  | p :: r,j=>if j < p.keep then ([],0) else if j = p.keep then (p.put ++ (gap r 0).1,p.drop + (gap r 0).2) else gap r (j - p.keep)
def extent:List Pc→Nat
  | []=>0
  | p :: r=>p.keep + p.drop + extent r
def keeps:List Pc→Nat
  | []=>0
  | p :: r=>p.keep + keeps r
def apply:List UInt8→List Pc→List UInt8
  | t,[]=>t
  | t,p :: r=>t.take p.keep ++ p.put ++ apply (t.drop (p.keep + p.drop)) r
def idle (p:Pc):Bool:=p.put.isEmpty && p.drop == 0
def joinLast (out:List Pc) (p:Pc):List Pc :=
  match out.getLast? with
  | none=>out
  | some q=>out.dropLast ++ [⟨q.keep,q.drop + p.drop,q.put ++ p.put⟩]
def normStep (s:List Pc × Nat) (p:Pc):List Pc × Nat :=
  if idle p then (s.1,s.2 + p.keep)
  else if s.2 + p.keep = 0∧s.1 ≠ [] then (joinLast s.1 p,0)
  else (s.1 ++ [⟨s.2 + p.keep,p.drop,p.put⟩],0)
def norm (l:List Pc):List Pc:=(l.foldl normStep ([],0)).1

theorem gap_append:∀ (l m:List Pc) (j:Nat),gap (l ++ m) j =
    if j < keeps l then gap l j else if j = keeps l then ((gap l j).1 ++ (gap m 0).1,(gap l j).2 + (gap m 0).2) else gap m (j - keeps l)
  | [],m,j=>by
    simp only [List.nil_append,keeps,Nat.not_lt_zero,if_false,gap,Nat.sub_zero,Nat.zero_add]
    split
    · rename_i h;subst h;simp
    · rfl
  | p :: r,m,j=>by
    have ih:=gap_append r m
    have hk:keeps (p :: r) = p.keep + keeps r:=rfl
    simp only [List.cons_append,gap]
    by_cases h1:j < p.keep
    · rw [if_pos h1,if_pos h1,if_pos (by omega)]
    · rw [if_neg h1,if_neg h1]
      by_cases h2:j = p.keep
      · rw [if_pos h2,if_pos h2]
        have i0:=ih 0
        by_cases h3:0 < keeps r
        · rw [if_pos (by omega),i0,if_pos h3]
        · rw [if_neg (by omega),if_pos (by omega),i0,if_neg h3,if_pos (by omega)]
          simp [Nat.add_assoc]
      · rw [if_neg h2,if_neg h2,ih (j - p.keep)]
        by_cases h3:j - p.keep < keeps r
        · rw [if_pos h3,if_pos (by omega)]
        · rw [if_neg h3,if_neg (show ¬ j < keeps (p :: r) by omega)]
          by_cases h4:j - p.keep = keeps r
          · rw [if_pos h4,if_pos (show j = keeps (p :: r) by omega)]
          · rw [if_neg h4,if_neg (show ¬ j = keeps (p :: r) by omega)]
            congr 1
            omega
theorem gap_far:∀ (l:List Pc) (j:Nat),keeps l < j→gap l j = ([],0)
  | [],_,_=>rfl
  | p :: r,j,h=>by
    unfold keeps at h
    unfold gap
    rw [if_neg (by omega),if_neg (by omega)]
    exact gap_far r _ (by omega)
def NormalT (l:List Pc):Prop:=∀ p ∈ l,idle p = false∧p.keep ≠ 0
def Normal:List Pc→Prop
  | []=>True
  | p :: r=>idle p = false∧NormalT r
theorem NormalT.zero:∀ {l:List Pc},NormalT l→gap l 0 = ([],0)
  | [],_=>rfl
  | p :: r,h=>by
    have:=(h p List.mem_cons_self).2
    unfold gap
    rw [if_pos (by omega)]
theorem NormalT.normal:∀ {l:List Pc},NormalT l→Normal l
  | [],_=>trivial
  | p :: r,h=>⟨(h p List.mem_cons_self).1,fun q hq=>h q (List.mem_cons_of_mem _ hq)⟩
theorem idle_gap {p:Pc} (h:idle p = false):(p.put,p.drop) ≠ ([],0):=by
  intro e
  obtain ⟨h1,h2⟩:=Prod.mk.inj e
  unfold idle at h
  rw [h1,h2] at h
  cases h
theorem gap_head {p:Pc} {r:List Pc} (h:NormalT r):gap (p :: r) p.keep = (p.put,p.drop):=by
  unfold gap
  rw [if_neg (by omega),if_pos rfl,h.zero]
  simp
theorem gap_tail {p:Pc} {r:List Pc} (h:NormalT r) (j:Nat):gap r j = if j = 0 then ([],0) else gap (p :: r) (j + p.keep):=by
  split
  · rename_i e;subst e;exact h.zero
  · rename_i e
    conv=>rhs;unfold gap
    rw [if_neg (by omega),if_neg (by omega),Nat.add_sub_cancel]
theorem normal_ext:∀ {l m:List Pc},Normal l→Normal m→(∀ j,gap l j = gap m j)→l = m
  | [],[],_,_,_=>rfl
  | [],q :: s,_,hm,h=>by
    have:=h q.keep
    rw [gap_head hm.2] at this
    exact absurd this.symm (idle_gap hm.1)
  | p :: r,[],hl,_,h=>by
    have:=h p.keep
    rw [gap_head hl.2] at this
    exact absurd this (idle_gap hl.1)
  | p :: r,q :: s,hl,hm,h=>by
    have hk:p.keep = q.keep:=by
      rcases Nat.lt_trichotomy p.keep q.keep with h1 | h1 | h1
      · have:=h p.keep
        rw [gap_head hl.2] at this
        rw [show gap (q :: s) p.keep = ([],0) by unfold gap;rw [if_pos h1]] at this
        exact absurd this (idle_gap hl.1)
      · exact h1
      · have:=h q.keep
        rw [gap_head hm.2] at this
        rw [show gap (p :: r) q.keep = ([],0) by unfold gap;rw [if_pos h1]] at this
        exact absurd this.symm (idle_gap hm.1)
    have h1:=h p.keep
    rw [gap_head hl.2,hk,gap_head hm.2] at h1
    obtain ⟨e1,e2⟩:=Prod.mk.inj h1
    have hrs:r = s:=normal_ext hl.2.normal hm.2.normal fun j=>by
      rw [gap_tail hl.2 (p:=p),gap_tail hm.2 (p:=q)]
      split
      · rfl
      · rw [hk];exact h _
    subst hrs
    cases p;cases q
    simp_all

theorem keeps_append (l m:List Pc):keeps (l ++ m) = keeps l + keeps m:=by
  induction l with
  | nil=>simp [keeps]
  | cons p r ih=>simp [keeps,ih,Nat.add_assoc]
structure Stands (s:List Pc × Nat) (l:List Pc):Prop where
  nm:Normal s.1
  ks:keeps s.1 + s.2 = keeps l
  gs:∀ j,gap s.1 j = gap l j
theorem normal_snoc {l:List Pc} {p:Pc} (h:Normal l) (hp:idle p = false) (hk:l = []∨p.keep ≠ 0):Normal (l ++ [p]):=by
  cases l with
  | nil=>exact ⟨hp,fun q hq=>by cases hq⟩
  | cons q r =>
    refine ⟨h.1,fun x hx=>?_⟩
    rcases List.mem_append.1 hx with hx | hx
    · exact h.2 x hx
    · obtain rfl:=List.mem_singleton.1 hx
      exact ⟨hp,hk.resolve_left (by simp)⟩
theorem Stands.step {s:List Pc × Nat} {l:List Pc} (h:Stands s l) (p:Pc):Stands (normStep s p) (l ++ [p]):=by
  obtain ⟨out,k⟩:=s
  obtain ⟨hn,hk,hg⟩:=h
  dsimp only at hn hk hg
  have hone:∀ j,gap [p] j = if j = p.keep then (p.put,p.drop) else ([],0):=fun j=>by
    unfold gap
    split
    · rw [if_neg (by omega)]
    · split
      · simp [gap]
      · rfl
  unfold normStep
  dsimp only
  by_cases hi:idle p = true
  · rw [if_pos hi]
    refine ⟨hn,by rw [keeps_append];simp [keeps];omega,fun j=>?_⟩
    have hp:p.put = []∧p.drop = 0:=by unfold idle at hi;simpa using hi
    dsimp only
    rw [hg j,gap_append]
    split
    · rfl
    · split
      · rename_i h1 h2
        have:gap [p] 0 = ([],0):=by rw [hone,hp.1,hp.2];split <;> rfl
        rw [this]
        simp
      · rename_i h1 h2
        rw [gap_far l j (by omega),hone,hp.1,hp.2]
        split <;> rfl
  · have hi':idle p = false:=by simpa using hi
    rw [if_neg hi]
    by_cases hz:k + p.keep = 0∧out ≠ []
    · rw [if_pos hz]
      obtain ⟨hz1,hz2⟩:=hz
      obtain ⟨init,q,rfl⟩:∃ init q,out = init ++ [q]:=⟨out.dropLast,out.getLast hz2,(List.dropLast_concat_getLast hz2).symm⟩
      have hj:joinLast (init ++ [q]) p = init ++ [⟨q.keep,q.drop + p.drop,q.put ++ p.put⟩]:=by
        unfold joinLast
        simp
      rw [hj]
      have hk2:keeps (init ++ [(⟨q.keep,q.drop + p.drop,q.put ++ p.put⟩:Pc)]) = keeps (init ++ [q]):=by rw [keeps_append,keeps_append];rfl
      have hpk:p.keep = 0:=by omega
      have hk0:k = 0:=by omega
      have hidle:idle (⟨q.keep,q.drop + p.drop,q.put ++ p.put⟩:Pc) = false:=by
        unfold idle at hi' ⊢
        simp only [Bool.and_eq_false_iff] at hi' ⊢
        rcases hi' with h | h
        · left
          cases hpp:p.put with
          | nil=>rw [hpp] at h;cases h
          | cons a b=>simp
        · right
          simp at h ⊢
          omega
      refine ⟨?_,?_,fun j=>?_⟩
      · cases init with
        | nil=>exact ⟨hidle,fun x hx=>by cases hx⟩
        | cons a r =>
          refine ⟨hn.1,fun x hx=>?_⟩
          rcases List.mem_append.1 hx with hx | hx
          · exact hn.2 x (List.mem_append_left _ hx)
          · obtain rfl:=List.mem_singleton.1 hx
            exact ⟨hidle,(hn.2 q (List.mem_append_right _ List.mem_cons_self)).2⟩
      · dsimp only
        rw [hk2,keeps_append l]
        simp [keeps]
        omega
      · dsimp only
        have hkl:keeps (init ++ [q]) = keeps l:=by omega
        have e1:gap (init ++ [(⟨q.keep,q.drop + p.drop,q.put ++ p.put⟩:Pc)]) j = gap ((init ++ [q]) ++ [p]) j:=by
          rw [gap_append,gap_append (init ++ [q]),gap_append init [q],keeps_append]
          have hq:∀ i,gap [q] i = if i = q.keep then (q.put,q.drop) else ([],0):=fun i=>by
            unfold gap
            split
            · rw [if_neg (by omega)]
            · split
              · simp [gap]
              · rfl
          have hq2:∀ i,gap [(⟨q.keep,q.drop + p.drop,q.put ++ p.put⟩:Pc)] i = if i = q.keep then (q.put ++ p.put,q.drop + p.drop) else ([],0):=fun i=>by
            unfold gap
            dsimp only
            split
            · rw [if_neg (by omega)]
            · split
              · simp [gap]
              · rfl
          simp only [hq,hq2,hone,keeps,hpk,Nat.add_zero]
          by_cases h1:j < keeps init
          · rw [if_pos h1,if_pos (by omega),if_pos h1]
          · rw [if_neg h1]
            by_cases h2:j = keeps init
            · subst h2
              by_cases h3:q.keep = 0
              · simp [h3,Nat.add_assoc]
              · have h4:¬ 0 = q.keep:=fun e=>h3 e.symm
                have h5:0 < q.keep:=by omega
                simp [h4,h5]
            · rw [if_neg h2]
              by_cases h3:j - keeps init = q.keep
              · have h4:j = keeps init + q.keep:=by omega
                rw [if_pos h3,if_neg (by omega),if_pos h4,if_neg (by omega),if_neg h2,if_pos h3]
                simp
              · rw [if_neg h3]
                by_cases h4:j < keeps init + q.keep
                · rw [if_pos h4,if_neg (by omega),if_neg h2,if_neg h3]
                · rw [if_neg h4,if_neg (by omega),if_neg (by omega)]
        rw [e1,gap_append,gap_append l]
        rw [hkl,hg j]
    · rw [if_neg hz]
      refine ⟨normal_snoc hn hi' ?_,?_,fun j=>?_⟩
      · by_cases ho:out = []
        · exact .inl ho
        · exact .inr fun e=>hz ⟨e,ho⟩
      · dsimp only
        rw [keeps_append,keeps_append]
        simp [keeps]
        omega
      · dsimp only
        have hx:∀ i,gap [(⟨k + p.keep,p.drop,p.put⟩:Pc)] i = if i = k + p.keep then (p.put,p.drop) else ([],0):=fun i=>by
          unfold gap
          dsimp only
          split
          · rw [if_neg (by omega)]
          · split
            · simp [gap]
            · rfl
        rw [gap_append,gap_append l,hx,hx,hone,hone,hg]
        by_cases h1:j < keeps out
        · rw [if_pos h1,if_pos (by omega)]
        · rw [if_neg h1]
          by_cases h2:j = keeps out
          · rw [if_pos h2]
            by_cases h3:k = 0
            · have h4:j = keeps l:=by omega
              rw [if_neg (show ¬ j < keeps l by omega),if_pos h4,h3,Nat.zero_add]
            · have h5:¬ (0 = k + p.keep):=by omega
              rw [if_pos (show j < keeps l by omega),if_neg h5]
              simp
          · rw [if_neg h2]
            by_cases h3:j < keeps l
            · rw [if_pos h3,if_neg (by omega)]
              have:=hg j
              rw [gap_far out j (by omega)] at this
              exact this
            · rw [if_neg h3]
              by_cases h4:j = keeps l
              · rw [if_pos h4]
                have:=hg j
                rw [gap_far out j (by omega)] at this
                rw [← this]
                by_cases h5:p.keep = 0
                · rw [if_pos (by omega),if_pos h5.symm]
                  simp
                · rw [if_neg (by omega),if_neg (fun e=>h5 e.symm)]
                  rfl
              · rw [if_neg h4]
                by_cases h5:j - keeps l = p.keep
                · rw [if_pos (by omega),if_pos h5]
                · rw [if_neg (by omega),if_neg h5]
theorem stands_all (l:List Pc):∀ (m:List Pc) (s:List Pc × Nat),Stands s m→Stands (l.foldl normStep s) (m ++ l):=by
  induction l with
  | nil=>intro m s h;rw [List.append_nil];exact h
  | cons p r ih =>
    intro m s h
    have:=ih (m ++ [p]) (normStep s p) (h.step p)
    rw [List.append_assoc] at this
    exact this
theorem norm_stands (l:List Pc):Stands (l.foldl normStep ([],0)) l:=by
  have:=stands_all l [] ([],0) ⟨trivial,rfl,fun _=>rfl⟩
  exact this
theorem norm_normal (l:List Pc):Normal (norm l):=(norm_stands l).nm
theorem norm_gap (l:List Pc) (j:Nat):gap (norm l) j = gap l j:=(norm_stands l).gs j
theorem norm_ext {l m:List Pc} (h:∀ j,gap l j = gap m j):norm l = norm m :=
  normal_ext (norm_normal l) (norm_normal m) fun j=>by rw [norm_gap,norm_gap,h]
theorem norm_self {l:List Pc} (h:Normal l):norm l = l:=normal_ext (norm_normal l) h (norm_gap l)
theorem norm_norm (l:List Pc):norm (norm l) = norm l:=norm_self (norm_normal l)
end Go.Proofs.Ytoeblaecldhcaaa.Ltx
namespace Go.Proofs.Ytoeblaecldhcaaa.Ltx
set_option linter.unusedVariables false
def emit:List UInt8→List Pc→List UInt8
  | _,[]=>[]
  | t,p :: r=>t.take p.keep ++ p.put ++ emit (t.drop (p.keep + p.drop)) r
theorem apply_emit:∀ (l:List Pc) (t:List UInt8),apply t l = emit t l ++ t.drop (extent l)
  | [],t=>by simp [apply,emit,extent]
  | p :: r,t=>by
    simp only [apply,emit,extent]
    rw [apply_emit r,List.drop_drop]
    simp [List.append_assoc]
theorem extent_append (l m:List Pc):extent (l ++ m) = extent l + extent m:=by
  induction l with
  | nil=>simp [extent]
  | cons p r ih=>simp [extent,ih,Nat.add_assoc]
theorem apply_append:∀ (l m:List Pc) (t:List UInt8),apply t (l ++ m) = emit t l ++ apply (t.drop (extent l)) m
  | [],m,t=>by simp [emit,extent]
  | p :: r,m,t=>by
    simp only [List.cons_append,apply,emit,extent]
    rw [apply_append r m,List.drop_drop]
    simp [List.append_assoc]
theorem emit_append:∀ (l m:List Pc) (t:List UInt8),emit t (l ++ m) = emit t l ++ emit (t.drop (extent l)) m
  | [],m,t=>by simp [emit,extent]
  | p :: r,m,t=>by
    simp only [List.cons_append,emit,extent]
    rw [emit_append r m,List.drop_drop]
    simp [List.append_assoc]
def Does (s:List Pc × Nat) (l:List Pc):Prop:=(∀ t,emit t s.1 ++ (t.drop (extent s.1)).take s.2 = emit t l)∧extent s.1 + s.2 = extent l
theorem Does.step {s:List Pc × Nat} {l:List Pc} (h:Does s l) (p:Pc):Does (normStep s p) (l ++ [p]):=by
  obtain ⟨out,k⟩:=s
  obtain ⟨he,hx⟩:=h
  dsimp only at he hx
  have hone:∀ t,emit t (l ++ [p]) = emit t l ++ (t.drop (extent l)).take p.keep ++ p.put:=fun t=>by
    rw [emit_append]
    simp [emit,List.append_assoc]
  have htake:∀ t:List UInt8,(t.drop (extent out)).take k ++ (t.drop (extent l)).take p.keep = (t.drop (extent out)).take (k + p.keep):=fun t=>by
    rw [List.take_add,List.drop_drop,hx]
  unfold normStep
  dsimp only
  by_cases hi:idle p = true
  · rw [if_pos hi]
    have hp:p.put = []∧p.drop = 0:=by unfold idle at hi;simpa using hi
    refine ⟨fun t=>?_,by rw [extent_append];simp [extent,hp.2];omega⟩
    dsimp only
    rw [hone,← he t,hp.1,List.append_nil,List.append_assoc,htake]
  · rw [if_neg hi]
    by_cases hz:k + p.keep = 0∧out ≠ []
    · rw [if_pos hz]
      obtain ⟨hz1,hz2⟩:=hz
      obtain ⟨init,q,rfl⟩:∃ init q,out = init ++ [q]:=⟨out.dropLast,out.getLast hz2,(List.dropLast_concat_getLast hz2).symm⟩
      have hj:joinLast (init ++ [q]) p = init ++ [⟨q.keep,q.drop + p.drop,q.put ++ p.put⟩]:=by
        unfold joinLast
        simp
      rw [hj]
      have hpk:p.keep = 0:=by omega
      have hk0:k = 0:=by omega
      subst hk0
      refine ⟨fun t=>?_,?_⟩
      · dsimp only
        rw [hone,← he t,hpk,emit_append,emit_append]
        simp [emit,List.append_assoc]
      · dsimp only
        rw [extent_append] at hx ⊢
        rw [extent_append l]
        simp [extent] at hx ⊢
        omega
    · rw [if_neg hz]
      refine ⟨fun t=>?_,?_⟩
      · dsimp only
        rw [hone,← he t,emit_append]
        simp only [emit,List.append_nil,List.take_zero,List.append_assoc]
        rw [← List.append_assoc (List.take k _),htake]
      · dsimp only
        rw [extent_append,extent_append]
        simp [extent]
        omega
theorem does_all (l:List Pc):∀ (m:List Pc) (s:List Pc × Nat),Does s m→Does (l.foldl normStep s) (m ++ l):=by
  induction l with
  | nil=>intro m s h;rw [List.append_nil];exact h
  | cons p r ih =>
    intro m s h
    have:=ih (m ++ [p]) (normStep s p) (h.step p)
    rw [List.append_assoc] at this
    exact this
theorem norm_does (l:List Pc):Does (l.foldl normStep ([],0)) l:=does_all l [] ([],0) ⟨fun t=>by simp [emit],rfl⟩
theorem apply_norm (l:List Pc) (t:List UInt8):apply t (norm l) = apply t l:=by
  obtain ⟨h1,h2⟩:=norm_does l
  rw [apply_emit,apply_emit,← h1 t,← h2,List.append_assoc]
  congr 1
  unfold norm
  rw [← List.drop_drop,List.take_append_drop]
theorem extent_norm (l:List Pc):extent (norm l)≤extent l:=by
  have h2:=(norm_does l).2
  unfold norm
  omega
theorem apply_same {l m:List Pc} (h:norm l = norm m) (t:List UInt8):apply t l = apply t m:=by rw [← apply_norm,h,apply_norm]

def putAt:List Pc→Nat→List UInt8
  | [],_=>[]
  | p :: r,i=>if i < p.keep then [] else if i = p.keep then p.put ++ (if p.drop = 0 then putAt r 0 else []) else if i < p.keep + p.drop then [] else putAt r (i - (p.keep + p.drop))
def dropAt:List Pc→Nat→Bool
  | [],_=>false
  | p :: r,i=>if i < p.keep then false else if i < p.keep + p.drop then true else dropAt r (i - (p.keep + p.drop))
def flat (pu:Nat→List UInt8) (dr:Nat→Bool):List UInt8→Nat→List UInt8
  | [],i=>pu i
  | c :: t,i=>pu i ++ (if dr i then [] else [c]) ++ flat pu dr t (i + 1)
theorem flat_congr {pu pu':Nat→List UInt8} {dr dr':Nat→Bool}:∀ (t:List UInt8) (i j:Nat),(∀ k,pu (i + k) = pu' (j + k))→(∀ k,dr (i + k) = dr' (j + k))→flat pu dr t i = flat pu' dr' t j
  | [],i,j,h1,_=>h1 0
  | c :: t,i,j,h1,h2=>by
    unfold flat
    rw [show pu i = pu' j from h1 0,show dr i = dr' j from h2 0,flat_congr t (i + 1) (j + 1) (fun k=>by have:=h1 (k + 1);rw [show i + 1 + k = i + (k + 1) by omega,show j + 1 + k = j + (k + 1) by omega];exact this)
      (fun k=>by have:=h2 (k + 1);rw [show i + 1 + k = i + (k + 1) by omega,show j + 1 + k = j + (k + 1) by omega];exact this)]
theorem flat_keep {pu:Nat→List UInt8} {dr:Nat→Bool}:∀ (s t:List UInt8) (i:Nat),(∀ k,k < s.length→pu (i + k) = []∧dr (i + k) = false)→flat pu dr (s ++ t) i = s ++ flat pu dr t (i + s.length)
  | [],t,i,_=>by simp
  | c :: s,t,i,h=>by
    have h0:=h 0 (by simp)
    have ih:=flat_keep s t (i + 1) fun k hk=>by
      have:=h (k + 1) (by simp;omega)
      rw [show i + 1 + k = i + (k + 1) by omega]
      exact this
    simp only [Nat.add_zero] at h0
    rw [List.cons_append,flat,h0.1,h0.2,ih]
    simp only [List.length_cons,List.nil_append]
    rw [show i + 1 + s.length = i + (s.length + 1) by omega]
    simp
theorem flat_drop {pu:Nat→List UInt8} {dr:Nat→Bool}:∀ (s t:List UInt8) (i:Nat),(∀ k,k < s.length→pu (i + k) = []∧dr (i + k) = true)→flat pu dr (s ++ t) i = flat pu dr t (i + s.length)
  | [],t,i,_=>by simp
  | c :: s,t,i,h=>by
    have h0:=h 0 (by simp)
    have ih:=flat_drop s t (i + 1) fun k hk=>by
      have:=h (k + 1) (by simp;omega)
      rw [show i + 1 + k = i + (k + 1) by omega]
      exact this
    simp only [Nat.add_zero] at h0
    rw [List.cons_append,flat,h0.1,h0.2,ih]
    simp only [List.length_cons]
    rw [show i + 1 + s.length = i + (s.length + 1) by omega]
    simp
theorem flat_idle (t:List UInt8) (i:Nat):flat (fun _=>[]) (fun _=>false) t i = t:=by
  induction t generalizing i with
  | nil=>rfl
  | cons c t ih=>rw [flat,ih];simp
theorem apply_flat:∀ (l:List Pc) (t:List UInt8),extent l≤t.length→apply t l = flat (putAt l) (dropAt l) t 0
  | [],t,_=>by
    rw [show putAt [] = fun _=>[] from rfl,show dropAt [] = fun _=>false from rfl,flat_idle]
    rfl
  | p :: r,t,h=>by
    unfold extent at h
    have hsplit:t = t.take p.keep ++ (t.drop p.keep):=(List.take_append_drop _ _).symm
    have hl:(t.take p.keep).length = p.keep:=by rw [List.length_take];omega
    have hk:=flat_keep (pu:=putAt (p :: r)) (dr:=dropAt (p :: r)) (t.take p.keep) (t.drop p.keep) 0 fun k hk=>by
      rw [hl] at hk
      rw [Nat.zero_add]
      exact ⟨by rw [putAt,if_pos hk],by rw [dropAt,if_pos hk]⟩
    rw [List.take_append_drop,hl,Nat.zero_add] at hk
    rw [hk,apply,apply_flat r _ (by rw [List.length_drop];omega),List.append_assoc]
    congr 1
    by_cases hd:p.drop = 0
    · rw [hd,Nat.add_zero]
      cases ht:t.drop p.keep with
      | nil =>
        rw [flat,flat,putAt,if_neg (by omega),if_pos rfl,if_pos hd]
      | cons c s =>
        rw [flat,flat]
        have e1:putAt (p :: r) p.keep = p.put ++ putAt r 0:=by rw [putAt,if_neg (by omega),if_pos rfl,if_pos hd]
        have e2:dropAt (p :: r) p.keep = dropAt r 0:=by rw [dropAt,if_neg (by omega),if_neg (by omega),show p.keep - (p.keep + p.drop) = 0 by omega]
        have e3:flat (putAt (p :: r)) (dropAt (p :: r)) s (p.keep + 1) = flat (putAt r) (dropAt r) s (0 + 1):=flat_congr s _ _
          (fun k=>by rw [putAt,if_neg (by omega),if_neg (by omega),if_neg (by omega)];congr 1;omega)
          (fun k=>by rw [dropAt,if_neg (by omega),if_neg (by omega)];congr 1;omega)
        rw [e1,e2,e3]
        simp [List.append_assoc]
    · obtain ⟨d,hd'⟩:∃ d,p.drop = d + 1:=⟨p.drop - 1,by omega⟩
      cases ht:t.drop p.keep with
      | nil =>
        exfalso
        have:(t.drop p.keep).length = 0:=by rw [ht];rfl
        rw [List.length_drop] at this
        omega
      | cons c s =>
        have hsl:d≤s.length:=by
          have:(t.drop p.keep).length = s.length + 1:=by rw [ht];rfl
          rw [List.length_drop] at this
          omega
        have hrest:t.drop (p.keep + p.drop) = s.drop d:=by
          rw [← List.drop_drop,ht,hd']
          rfl
        have e1:putAt (p :: r) p.keep = p.put:=by rw [putAt,if_neg (by omega),if_pos rfl,if_neg hd,List.append_nil]
        have e2:dropAt (p :: r) p.keep = true:=by rw [dropAt,if_neg (by omega),if_pos (by omega)]
        have hdl:(s.take d).length = d:=by rw [List.length_take];omega
        have e3:=flat_drop (pu:=putAt (p :: r)) (dr:=dropAt (p :: r)) (s.take d) (s.drop d) (p.keep + 1) fun k hk=>by
          rw [hdl] at hk
          exact ⟨by rw [putAt,if_neg (by omega),if_neg (by omega),if_pos (by omega)],by rw [dropAt,if_neg (by omega),if_pos (by omega)]⟩
        rw [List.take_append_drop,hdl] at e3
        have e4:flat (putAt (p :: r)) (dropAt (p :: r)) (s.drop d) (p.keep + 1 + d) = flat (putAt r) (dropAt r) (s.drop d) 0:=flat_congr _ _ _
          (fun k=>by
            rw [Nat.zero_add]
            rw [putAt,if_neg (by omega),if_neg (by omega),if_neg (by omega)]
            congr 1
            omega)
          (fun k=>by
            rw [Nat.zero_add]
            rw [dropAt,if_neg (by omega),if_neg (by omega)]
            congr 1
            omega)
        rw [hrest,flat,e1,e2,e3,e4]
        simp

section
variable (pa pb:Nat→List UInt8) (da db:Nat→Bool) (first:Bool)
def ends (i:Nat):List Pc:=if first then [⟨0,0,pa i⟩,⟨(pb i).length,0,[]⟩] else [⟨(pb i).length,0,[]⟩,⟨0,0,pa i⟩]
def mid (i:Nat):List Pc:=if db i then [] else if da i then [⟨0,1,[]⟩] else [⟨1,0,[]⟩]
def behind:Nat→Nat→List Pc
  | 0,i=>ends pa pb first i
  | k + 1,i=>ends pa pb first i ++ mid da db i ++ behind k (i + 1)
def both (i:Nat):List UInt8:=if first then pa i ++ pb i else pb i ++ pa i
theorem ends_emit (i:Nat) (x:List UInt8):emit (pb i ++ x) (ends pa pb first i) = both pa pb first i∧(pb i ++ x).drop (extent (ends pa pb first i)) = x:=by
  unfold ends both
  cases first <;> simp [emit,extent]
theorem behind_apply:∀ (t:List UInt8) (i:Nat),apply (flat pb db t i) (behind pa pb da db first t.length i) = flat (both pa pb first) (fun j=>da j || db j) t i
  | [],i=>by
    obtain ⟨h1,h2⟩:=ends_emit pa pb first i []
    rw [List.append_nil] at h1 h2
    rw [flat,flat,List.length_nil,behind,apply_emit,h1,h2,List.append_nil]
  | c :: t,i=>by
    obtain ⟨h1,h2⟩:=ends_emit pa pb first i ((if db i then [] else [c]) ++ flat pb db t (i + 1))
    have ih:=behind_apply t (i + 1)
    rw [flat,flat,List.length_cons,behind,List.append_assoc (ends pa pb first i),apply_append,List.append_assoc (pb i),h1,h2,List.append_assoc (both pa pb first i)]
    congr 1
    rw [apply_append]
    unfold mid
    cases hb:db i with
    | true=>simp [emit,extent,ih]
    | false =>
      cases ha:da i with
      | true=>simp [emit,extent,ih]
      | false=>simp [emit,extent,ih]
end
theorem square_flat (pa pb:Nat→List UInt8) (da db:Nat→Bool) (first:Bool) (t:List UInt8) :
    apply (flat pb db t 0) (behind pa pb da db first t.length 0) = apply (flat pa da t 0) (behind pb pa db da (!first) t.length 0):=by
  rw [behind_apply,behind_apply]
  refine flat_congr t 0 0 (fun k=>?_) (fun k=>?_)
  · unfold both;cases first <;> rfl
  · exact Bool.or_comm _ _
end Go.Proofs.Ytoeblaecldhcaaa.Ltx
namespace Go.Proofs.Ytoeblaecldhcaaa.Ltx
set_option linter.unusedVariables false
def inv:List UInt8→List Pc→List Pc
  | _,[]=>[]
  | t,p :: r=>⟨p.keep,p.put.length,(t.drop p.keep).take p.drop⟩ :: inv (t.drop (p.keep + p.drop)) r
theorem inv_back:∀ (l:List Pc) (t:List UInt8),extent l≤t.length→apply (apply t l) (inv t l) = t
  | [],t,_=>rfl
  | p :: r,t,h=>by
    unfold extent at h
    have ih:=inv_back r (t.drop (p.keep + p.drop)) (by rw [List.length_drop];omega)
    have hl:(t.take p.keep).length = p.keep:=by rw [List.length_take];omega
    rw [apply,inv,apply]
    dsimp only
    have e1:(t.take p.keep ++ p.put ++ apply (t.drop (p.keep + p.drop)) r).take p.keep = t.take p.keep:=by
      rw [List.append_assoc,List.take_left' hl]
    have e2:(t.take p.keep ++ p.put ++ apply (t.drop (p.keep + p.drop)) r).drop (p.keep + p.put.length) = apply (t.drop (p.keep + p.drop)) r:=by
      rw [List.drop_left' (by rw [List.length_append,hl])]
    rw [e1,e2,ih,List.append_assoc,← List.drop_drop,List.take_append_drop,List.take_append_drop]
theorem inv_extent:∀ (l:List Pc) (t:List UInt8),extent l≤t.length→extent (inv t l)≤(apply t l).length
  | [],t,_=>Nat.zero_le _
  | p :: r,t,h=>by
    unfold extent at h
    have ih:=inv_extent r (t.drop (p.keep + p.drop)) (by rw [List.length_drop];omega)
    rw [inv,extent,apply]
    simp only [List.length_append,List.length_take]
    omega
theorem inv_norm (l:List Pc) (t:List UInt8) (h:extent l≤t.length):apply (apply t l) (norm (inv t (norm l))) = t:=by
  have hn:extent (norm l)≤t.length:=Nat.le_trans (extent_norm l) h
  rw [apply_norm,← apply_norm l t]
  exact inv_back (norm l) t hn

theorem behind_extent (pa pb:Nat→List UInt8) (da db:Nat→Bool) (first:Bool):∀ (t:List UInt8) (i:Nat),extent (behind pa pb da db first t.length i) = (flat pb db t i).length
  | [],i=>by
    rw [flat,List.length_nil,behind]
    unfold ends
    cases first <;> simp [extent]
  | c :: t,i=>by
    have ih:=behind_extent pa pb da db first t (i + 1)
    rw [flat,List.length_cons,behind,extent_append,extent_append,ih]
    simp only [List.length_append]
    have h1:extent (ends pa pb first i) = (pb i).length:=by unfold ends;cases first <;> simp [extent]
    have h2:extent (mid da db i) = (if db i then ([]:List UInt8) else [c]).length:=by
      unfold mid
      cases db i <;> cases da i <;> simp [extent]
    rw [h1,h2]
theorem behind_longer (pa pb:Nat→List UInt8) (da db:Nat→Bool) (first:Bool) (n:Nat) (hpa:∀ i,n < i→pa i = []) (hpb:∀ i,n < i→pb i = []) (hda:∀ i,n≤i→da i = false) (hdb:∀ i,n≤i→db i = false) :
    ∀ (k i:Nat),n≤i + k→∀ m,norm (behind pa pb da db first (k + m) i) = norm (behind pa pb da db first k i):=by
  intro k i hn m
  refine norm_ext ?_
  have hidle:∀ (l e:List Pc),(∀ p ∈ e,idle p = true)→∀ j,gap (l ++ e) j = gap l j:=by
    intro l e he j
    have hz:∀ (e:List Pc),(∀ p ∈ e,idle p = true)→∀ j,gap e j = ([],0):=by
      intro e
      induction e with
      | nil=>intro _ j;rfl
      | cons p r ih =>
        intro h j
        have hp:p.put = []∧p.drop = 0:=by
          have:=h p List.mem_cons_self
          unfold idle at this
          simpa using this
        have hr:=ih fun q hq=>h q (List.mem_cons_of_mem _ hq)
        unfold gap
        rw [hr,hr,hp.1,hp.2]
        split
        · rfl
        · split <;> rfl
    rw [gap_append,hz e he,hz e he]
    split
    · rfl
    · split
      · simp
      · exact (gap_far l j (by omega)).symm
  have hmore:∀ (m i:Nat),n < i→∀ p ∈ behind pa pb da db first m i,idle p = true:=by
    intro m
    induction m with
    | zero =>
      intro i hi p hp
      rw [behind] at hp
      unfold ends at hp
      rw [hpa i hi,hpb i hi] at hp
      cases first <;> simp at hp <;> rcases hp with rfl | rfl <;> rfl
    | succ m ih =>
      intro i hi p hp
      rw [behind,List.mem_append,List.mem_append] at hp
      rcases hp with (hp | hp) | hp
      · unfold ends at hp
        rw [hpa i hi,hpb i hi] at hp
        cases first <;> simp at hp <;> rcases hp with rfl | rfl <;> rfl
      · unfold mid at hp
        rw [hdb i (by omega),hda i (by omega)] at hp
        simp at hp
        subst hp
        rfl
      · exact ih (i + 1) (by omega) p hp
  have hex:∀ (k i:Nat),n≤i + k→∃ e,behind pa pb da db first (k + m) i = behind pa pb da db first k i ++ e∧∀ p ∈ e,idle p = true:=by
    intro k
    induction k with
    | zero =>
      intro i hi
      cases m with
      | zero=>exact ⟨[],by simp,fun p hp=>by cases hp⟩
      | succ m =>
        refine ⟨mid da db i ++ behind pa pb da db first m (i + 1),?_,fun p hp=>?_⟩
        · rw [Nat.zero_add,behind,behind,List.append_assoc]
        · rcases List.mem_append.1 hp with hp | hp
          · unfold mid at hp
            rw [hdb i (by omega),hda i (by omega)] at hp
            simp at hp
            subst hp
            rfl
          · exact hmore m (i + 1) (by omega) p hp
    | succ k ih =>
      intro i hi
      obtain ⟨e,he,hid⟩:=ih (i + 1) (by omega)
      refine ⟨e,?_,hid⟩
      rw [show k + 1 + m = (k + m) + 1 by omega,behind,behind,he]
      simp [List.append_assoc]
  obtain ⟨e,he,hid⟩:=hex k i hn
  intro j
  rw [he]
  exact hidle _ _ hid j
theorem putAt_far:∀ (l:List Pc) (i:Nat),extent l < i→putAt l i = []
  | [],_,_=>rfl
  | p :: r,i,h=>by
    unfold extent at h
    rw [putAt,if_neg (by omega),if_neg (by omega),if_neg (by omega)]
    exact putAt_far r _ (by omega)
theorem dropAt_far:∀ (l:List Pc) (i:Nat),extent l≤i→dropAt l i = false
  | [],_,_=>rfl
  | p :: r,i,h=>by
    unfold extent at h
    rw [dropAt,if_neg (by omega),if_neg (by omega)]
    exact dropAt_far r _ (by omega)
def trans (a b:List Pc) (first:Bool):List Pc:=norm (behind (putAt a) (putAt b) (dropAt a) (dropAt b) first (max (extent a) (extent b)) 0)
theorem trans_at (a b:List Pc) (first:Bool) (t:List UInt8) (ha:extent a≤t.length) (hb:extent b≤t.length):trans a b first = norm (behind (putAt a) (putAt b) (dropAt a) (dropAt b) first t.length 0):=by
  unfold trans
  have h:=behind_longer (putAt a) (putAt b) (dropAt a) (dropAt b) first (max (extent a) (extent b)) (fun i hi=>putAt_far a i (by omega)) (fun i hi=>putAt_far b i (by omega)) (fun i hi=>dropAt_far a i (by omega)) (fun i hi=>dropAt_far b i (by omega))
    (max (extent a) (extent b)) 0 (by omega) (t.length - max (extent a) (extent b))
  rw [show max (extent a) (extent b) + (t.length - max (extent a) (extent b)) = t.length by omega] at h
  exact h.symm
theorem square (a b:List Pc) (first:Bool) (t:List UInt8) (ha:extent a≤t.length) (hb:extent b≤t.length):apply (apply t b) (trans a b first) = apply (apply t a) (trans b a (!first)):=by
  rw [trans_at a b first t ha hb,trans_at b a (!first) t hb ha,apply_norm,apply_norm,apply_flat b t hb,apply_flat a t ha]
  exact square_flat _ _ _ _ first t
theorem trans_fits (a b:List Pc) (first:Bool) (t:List UInt8) (ha:extent a≤t.length) (hb:extent b≤t.length):extent (trans a b first)≤(apply t b).length:=by
  rw [trans_at a b first t ha hb,apply_flat b t hb,← behind_extent (putAt a) (putAt b) (dropAt a) (dropAt b) first t 0]
  exact extent_norm _
end Go.Proofs.Ytoeblaecldhcaaa.Ltx
namespace Go.Proofs.Ytoeblaecldhcaaa.Ltx
set_option linter.unusedVariables false
def puts:List Pc→Nat
  | []=>0
  | p :: r=>p.put.length + puts r
def drops:List Pc→Nat
  | []=>0
  | p :: r=>p.drop + drops r
theorem puts_append (l m:List Pc):puts (l ++ m) = puts l + puts m:=by
  induction l with
  | nil=>simp [puts]
  | cons p r ih=>simp [puts,ih,Nat.add_assoc]
theorem drops_append (l m:List Pc):drops (l ++ m) = drops l + drops m:=by
  induction l with
  | nil=>simp [drops]
  | cons p r ih=>simp [drops,ih,Nat.add_assoc]
theorem extent_two (l:List Pc):extent l = keeps l + drops l:=by
  induction l with
  | nil=>rfl
  | cons p r ih=>simp [extent,keeps,drops,ih];omega
theorem step_sums (s:List Pc × Nat) (p:Pc):puts (normStep s p).1 = puts s.1 + p.put.length∧drops (normStep s p).1 = drops s.1 + p.drop:=by
  obtain ⟨out,k⟩:=s
  unfold normStep
  dsimp only
  by_cases hi:idle p = true
  · rw [if_pos hi]
    have hp:p.put = []∧p.drop = 0:=by unfold idle at hi;simpa using hi
    simp [hp.1,hp.2]
  · rw [if_neg hi]
    by_cases hz:k + p.keep = 0∧out ≠ []
    · rw [if_pos hz]
      obtain ⟨init,q,rfl⟩:∃ init q,out = init ++ [q]:=⟨out.dropLast,out.getLast hz.2,(List.dropLast_concat_getLast hz.2).symm⟩
      have hj:joinLast (init ++ [q]) p = init ++ [⟨q.keep,q.drop + p.drop,q.put ++ p.put⟩]:=by
        unfold joinLast
        simp
      rw [hj,puts_append,puts_append,drops_append,drops_append]
      simp [puts,drops]
      omega
    · rw [if_neg hz]
      dsimp only
      rw [puts_append,drops_append]
      simp [puts,drops]
theorem fold_sums (l:List Pc):∀ s:List Pc × Nat,puts (l.foldl normStep s).1 = puts s.1 + puts l∧drops (l.foldl normStep s).1 = drops s.1 + drops l:=by
  induction l with
  | nil=>intro s;simp [puts,drops]
  | cons p r ih =>
    intro s
    have h1:=ih (normStep s p)
    have h2:=step_sums s p
    simp only [List.foldl_cons,puts,drops]
    omega
theorem norm_puts (l:List Pc):puts (norm l) = puts l:=by
  have:=(fold_sums l ([],0)).1
  simpa [puts,norm] using this
theorem norm_drops (l:List Pc):drops (norm l) = drops l:=by
  have:=(fold_sums l ([],0)).2
  simpa [drops,norm] using this
theorem normal_len:∀ {l:List Pc},Normal l→l.length≤puts l + drops l:=by
  have hone:∀ p:Pc,idle p = false→1≤p.put.length + p.drop:=by
    intro p h
    unfold idle at h
    cases hp:p.put with
    | nil=>rw [hp] at h;simp at h;omega
    | cons a b=>simp;omega
  have hT:∀ l:List Pc,NormalT l→l.length≤puts l + drops l:=by
    intro l
    induction l with
    | nil=>intro _;exact Nat.zero_le _
    | cons p r ih =>
      intro h
      have h1:=hone p (h p List.mem_cons_self).1
      have h2:=ih fun q hq=>h q (List.mem_cons_of_mem _ hq)
      simp only [List.length_cons,puts,drops]
      omega
  intro l h
  cases l with
  | nil=>exact Nat.zero_le _
  | cons p r =>
    have h1:=hone p h.1
    have h2:=hT r h.2
    simp only [List.length_cons,puts,drops]
    omega
theorem norm_len (l:List Pc):(norm l).length≤puts l + drops l:=by
  have:=normal_len (norm_normal l)
  rwa [norm_puts,norm_drops] at this
theorem apply_len:∀ (l:List Pc) (t:List UInt8),(apply t l).length≤t.length + puts l
  | [],t=>by simp [apply,puts]
  | p :: r,t=>by
    have:=apply_len r (t.drop (p.keep + p.drop))
    rw [apply]
    simp only [List.length_append,List.length_take,puts]
    rw [List.length_drop] at this
    omega
theorem mem_sizes:∀ {l:List Pc} {p:Pc},p ∈ l→p.keep + p.drop≤extent l∧p.put.length≤puts l
  | q :: r,p,h=>by
    rcases List.mem_cons.1 h with rfl | h
    · simp only [extent,puts];omega
    · have:=mem_sizes h
      simp only [extent,puts]
      omega
def Fine (l:List Pc):Prop:=l.length≤4096∧(∀ p ∈ l,p.keep≤1048576∧p.drop≤1048576)∧puts l≤1048576
theorem fine_of {l:List Pc} (h1:l.length≤4096) (h2:extent l≤1048576) (h3:puts l≤1048576):Fine l :=
  ⟨h1,fun p hp=>by have:=(mem_sizes hp).1;omega,h3⟩

def sumTo (f:Nat→Nat):Nat→Nat
  | 0=>0
  | k + 1=>sumTo f k + f k
theorem sumTo_le {f g:Nat→Nat} (h:∀ i,f i≤g i):∀ k,sumTo f k≤sumTo g k
  | 0=>Nat.le_refl _
  | k + 1=>Nat.add_le_add (sumTo_le h k) (h k)
theorem sumTo_add (f g:Nat→Nat):∀ k,sumTo (fun i=>f i + g i) k = sumTo f k + sumTo g k
  | 0=>rfl
  | k + 1=>by simp only [sumTo,sumTo_add f g k];omega
theorem sumTo_one (n c:Nat):∀ k,sumTo (fun i=>if i = n then c else 0) k≤c∧(k≤n→sumTo (fun i=>if i = n then c else 0) k = 0)
  | 0=>⟨Nat.zero_le _,fun _=>rfl⟩
  | k + 1=>by
    obtain ⟨h1,h2⟩:=sumTo_one n c k
    simp only [sumTo]
    by_cases h:k = n
    · rw [if_pos h,h2 (by omega)]
      exact ⟨by omega,fun h3=>by omega⟩
    · rw [if_neg h]
      exact ⟨by omega,fun h3=>by rw [h2 (by omega)]⟩
theorem sumTo_shift (f:Nat→Nat) (n:Nat):∀ k,sumTo (fun i=>if i < n then 0 else f (i - n)) k = sumTo f (k - n)
  | 0=>by simp [sumTo]
  | k + 1=>by
    simp only [sumTo,sumTo_shift f n k]
    by_cases h:k < n
    · rw [if_pos h,show k + 1 - n = 0 by omega,show k - n = 0 by omega];rfl
    · rw [if_neg h,show k + 1 - n = (k - n) + 1 by omega]
      rfl
theorem sumTo_range (n c:Nat):∀ k,sumTo (fun i=>if n≤i∧i < n + c then 1 else 0) k≤c∧sumTo (fun i=>if n≤i∧i < n + c then 1 else 0) k≤k - n
  | 0=>⟨Nat.zero_le _,Nat.zero_le _⟩
  | k + 1=>by
    obtain ⟨h1,h2⟩:=sumTo_range n c k
    simp only [sumTo]
    split
    · rename_i h;omega
    · omega
theorem sum_puts:∀ (l:List Pc) (k:Nat),sumTo (fun i=>(putAt l i).length) k≤puts l
  | [],k=>by
    have:∀ k,sumTo (fun i=>(putAt [] i).length) k = 0:=fun k=>by
      induction k with
      | zero=>rfl
      | succ k ih=>simp only [sumTo,ih];rfl
    rw [this]
    exact Nat.zero_le _
  | p :: r,k=>by
    have h1:=sumTo_le (f:=fun i=>(putAt (p :: r) i).length) (g:=fun i=>(if i = p.keep then p.put.length else 0) + (if i < p.keep + p.drop then 0 else (putAt r (i - (p.keep + p.drop))).length)) (fun i=>by
      rw [putAt]
      by_cases h1:i < p.keep
      · rw [if_pos h1];simp
      · rw [if_neg h1]
        by_cases h2:i = p.keep
        · rw [if_pos h2,if_pos h2]
          by_cases h3:p.drop = 0
          · rw [if_pos h3,if_neg (by omega),show i - (p.keep + p.drop) = 0 by omega];simp
          · rw [if_neg h3];simp
        · rw [if_neg h2]
          by_cases h3:i < p.keep + p.drop
          · rw [if_pos h3];simp
          · rw [if_neg h3,if_neg h3];omega) k
    rw [sumTo_add,sumTo_shift (fun i=>(putAt r i).length)] at h1
    have h2:=(sumTo_one p.keep p.put.length k).1
    have h3:=sum_puts r (k - (p.keep + p.drop))
    simp only [puts]
    omega
theorem sum_drops:∀ (l:List Pc) (k:Nat),sumTo (fun i=>if dropAt l i then 1 else 0) k≤drops l
  | [],k=>by
    have:∀ k,sumTo (fun i=>if dropAt [] i then 1 else 0) k = 0:=fun k=>by
      induction k with
      | zero=>rfl
      | succ k ih=>simp only [sumTo,ih];rfl
    rw [this]
    exact Nat.zero_le _
  | p :: r,k=>by
    have h1:=sumTo_le (f:=fun i=>if dropAt (p :: r) i then 1 else 0) (g:=fun i=>(if p.keep≤i∧i < p.keep + p.drop then 1 else 0) + (if i < p.keep + p.drop then 0 else if dropAt r (i - (p.keep + p.drop)) then 1 else 0)) (fun i=>by
      rw [dropAt]
      by_cases h1:i < p.keep
      · rw [if_pos h1];simp
      · rw [if_neg h1]
        by_cases h2:i < p.keep + p.drop
        · have h3:p.keep≤i∧i < p.keep + p.drop:=⟨by omega,h2⟩
          rw [if_pos h3,if_pos h2,if_pos h2];simp
        · rw [if_neg h2,if_neg h2];omega) k
    rw [sumTo_add,sumTo_shift (fun i=>if dropAt r i then 1 else 0)] at h1
    have h2:=(sumTo_range p.keep p.drop k).1
    have h3:=sum_drops r (k - (p.keep + p.drop))
    simp only [drops]
    omega
theorem behind_sums (pa pb:Nat→List UInt8) (da db:Nat→Bool) (first:Bool):∀ (k i:Nat),
    puts (behind pa pb da db first k i) + sumTo (fun j=>(pa j).length) i = sumTo (fun j=>(pa j).length) (i + k + 1)∧drops (behind pa pb da db first k i) + sumTo (fun j=>if da j then 1 else 0) i≤sumTo (fun j=>if da j then 1 else 0) (i + k)
  | 0,i=>by
    rw [behind]
    unfold ends
    cases first <;> simp [puts,drops,sumTo,Nat.add_comm]
  | k + 1,i=>by
    obtain ⟨h1,h2⟩:=behind_sums pa pb da db first k (i + 1)
    rw [behind,puts_append,puts_append,drops_append,drops_append]
    have e1:puts (ends pa pb first i) = (pa i).length∧drops (ends pa pb first i) = 0:=by unfold ends;cases first <;> simp [puts,drops]
    have e2:puts (mid da db i) = 0∧drops (mid da db i)≤if da i then 1 else 0:=by unfold mid;cases db i <;> cases da i <;> simp [puts,drops]
    rw [show i + (k + 1) + 1 = i + 1 + k + 1 by omega,show i + (k + 1) = i + 1 + k by omega]
    simp only [sumTo] at h1 h2 ⊢
    omega
theorem trans_sums (a b:List Pc) (first:Bool):puts (trans a b first)≤puts a∧drops (trans a b first)≤drops a:=by
  unfold trans
  rw [norm_puts,norm_drops]
  obtain ⟨h1,h2⟩:=behind_sums (putAt a) (putAt b) (dropAt a) (dropAt b) first (max (extent a) (extent b)) 0
  have h3:=sum_puts a (0 + max (extent a) (extent b) + 1)
  have h4:=sum_drops a (0 + max (extent a) (extent b))
  simp only [sumTo] at h1 h2 h3
  omega
theorem trans_extent (a b:List Pc) (first:Bool):extent (trans a b first)≤max (extent a) (extent b) + puts b:=by
  have h:=trans_fits a b first (List.replicate (max (extent a) (extent b)) 0) (by simp;omega) (by simp;omega)
  have h2:=apply_len b (List.replicate (max (extent a) (extent b)) 0)
  rw [List.length_replicate] at h2
  omega
theorem trans_fine {a b:List Pc} {n:Nat} (hn:n≤2000) (first:Bool) (ha:extent a + puts a≤n) (hb:extent b + puts b≤n):Fine (trans a b first):=by
  have h1:=trans_sums a b first
  have h2:=trans_extent a b first
  have h3:(trans a b first).length≤puts (trans a b first) + drops (trans a b first):=normal_len (by unfold trans;exact norm_normal _)
  have h4:=extent_two a
  exact fine_of (by omega) (by omega) (by omega)
end Go.Proofs.Ytoeblaecldhcaaa.Ltx
namespace Go.Proofs.Ytoeblaecldhcaaa.Ltx
set_option linter.unusedVariables false
theorem idle_gaps:∀ (e:List Pc),(∀ p ∈ e,idle p = true)→∀ j,gap e j = ([],0)
  | [],_,_=>rfl
  | p :: r,h,j=>by
    have hp:p.put = []∧p.drop = 0:=by
      have:=h p List.mem_cons_self
      unfold idle at this
      simpa using this
    have hr:=idle_gaps r fun q hq=>h q (List.mem_cons_of_mem _ hq)
    unfold gap
    rw [hr,hr,hp.1,hp.2]
    split
    · rfl
    · split <;> rfl
theorem norm_idle {l e:List Pc} (h:∀ p ∈ e,idle p = true):norm (l ++ e) = norm l:=by
  refine norm_ext fun j=>?_
  rw [gap_append,idle_gaps e h,idle_gaps e h]
  split
  · rfl
  · split
    · simp
    · exact (gap_far l j (by omega)).symm

inductive It where
  | old (w:Nat)
  | new (c:UInt8)
section
variable {α:Type} (f:UInt8→α)
def applyP:List α→List Pc→List α
  | t,[]=>t
  | t,p :: r=>t.take p.keep ++ p.put.map f ++ applyP (t.drop (p.keep + p.drop)) r
end
theorem applyP_map {α β:Type} (f:UInt8→α) (g:α→β):∀ (l:List Pc) (t:List α),(applyP f t l).map g = applyP (fun c=>g (f c)) (t.map g) l
  | [],t=>rfl
  | p :: r,t=>by
    rw [applyP,applyP,List.map_append,List.map_append,applyP_map f g r,List.map_take,List.map_drop,List.map_map]
    rfl
theorem applyP_id:∀ (l:List Pc) (t:List UInt8),applyP (fun c=>c) t l = apply t l
  | [],t=>rfl
  | p :: r,t=>by rw [applyP,apply,applyP_id r];simp
theorem applyP_snoc {α:Type} (f:UInt8→α):∀ (l:List Pc) (t s:List α),extent l≤t.length→applyP f (t ++ s) l = applyP f t l ++ s
  | [],t,s,_=>rfl
  | p :: r,t,s,h=>by
    unfold extent at h
    rw [applyP,applyP,List.take_append_of_le_length (by omega),List.drop_append_of_le_length (by omega),applyP_snoc f r _ _ (by rw [List.length_drop];omega)]
    simp [List.append_assoc]
theorem applyP_len {α:Type} (f:UInt8→α):∀ (l:List Pc) (t:List α),extent l≤t.length→(applyP f t l).length + drops l = t.length + puts l
  | [],t,_=>by simp [applyP,drops,puts]
  | p :: r,t,h=>by
    unfold extent at h
    have:=applyP_len f r (t.drop (p.keep + p.drop)) (by rw [List.length_drop];omega)
    rw [List.length_drop] at this
    rw [applyP]
    simp only [List.length_append,List.length_take,List.length_map,drops,puts]
    omega

def places (s k:Nat):List It:=(List.range' s k).map It.old
def Rise (m:Nat):Nat→List It→Prop
  | _,[]=>True
  | last,.old w :: r=>last≤w∧w < m∧Rise m (w + 1) r
  | last,.new _ :: r=>Rise m last r
theorem Rise.less {m:Nat}:∀ {l:List It} {a b:Nat},Rise m b l→a≤b→Rise m a l
  | [],_,_,_,_=>trivial
  | .old w :: r,a,b,h,hab=>⟨Nat.le_trans hab h.1,h.2.1,h.2.2⟩
  | .new _ :: r,a,b,h,hab=>Rise.less (l:=r) h hab
theorem rise_places {m:Nat}:∀ (k s:Nat) (r:List It),s + k≤m→Rise m (s + k) r→Rise m s (places s k ++ r)
  | 0,s,r,_,h=>h
  | k + 1,s,r,hm,h=>by
    refine ⟨Nat.le_refl _,by omega,?_⟩
    exact rise_places k (s + 1) r (by omega) (by rw [show s + 1 + k = s + (k + 1) by omega];exact h)
theorem rise_new {m last:Nat} (b:List UInt8) (r:List It) (h:Rise m last r):Rise m last (b.map It.new ++ r):=by
  induction b with
  | nil=>exact h
  | cons c b ih=>exact ih
theorem places_take (s k j:Nat) (h:j≤k):(places s k).take j = places s j:=by
  unfold places
  obtain ⟨d,rfl⟩:∃ d,k = j + d:=⟨k - j,by omega⟩
  rw [← List.map_take,← List.range'_append_1,List.take_left' (by simp)]
theorem places_drop (s k j:Nat):(places s k).drop j = places (s + j) (k - j):=by
  unfold places
  rw [← List.map_drop,List.drop_range',Nat.mul_one]
theorem rise_apply (m:Nat):∀ (l:List Pc) (s k:Nat),extent l≤k→s + k≤m→Rise m s (applyP It.new (places s k) l)
  | [],s,k,_,hm=>by
    have:=rise_places (m:=m) k s [] hm trivial
    rw [List.append_nil] at this
    exact this
  | p :: r,s,k,h,hm=>by
    unfold extent at h
    rw [applyP,places_take _ _ _ (by omega),places_drop,List.append_assoc]
    refine rise_places _ _ _ (by omega) (rise_new _ _ ?_)
    have:=rise_apply m r (s + (p.keep + p.drop)) (k - (p.keep + p.drop)) (by omega) (by omega)
    exact this.less (by omega)
theorem places_snoc (s k:Nat):places s (k + 1) = places s k ++ [.old (s + k)]:=by
  unfold places
  rw [List.range'_concat,List.map_append]
  simp

section
variable (pu:Nat→List UInt8) (dr:Nat→Bool)
def compGo:List It→Nat→Nat→List UInt8→List Pc
  | [],_,_,_=>[]
  | .old w :: r,i,last,put=>if dr i then compGo r (i + 1) last (put ++ pu i) else ⟨0,w - last,put ++ pu i⟩ :: ⟨1,0,[]⟩ :: compGo r (i + 1) (w + 1) []
  | .new c :: r,i,last,put=>compGo r (i + 1) last (put ++ pu i ++ (if dr i then [] else [c]))
def compEnd (m:Nat):List It→Nat→Nat→List UInt8→List Pc
  | [],i,last,put=>[⟨0,m - last,put ++ pu i⟩]
  | .old w :: r,i,last,put=>if dr i then compEnd m r (i + 1) last (put ++ pu i) else ⟨0,w - last,put ++ pu i⟩ :: ⟨1,0,[]⟩ :: compEnd m r (i + 1) (w + 1) []
  | .new c :: r,i,last,put=>compEnd m r (i + 1) last (put ++ pu i ++ (if dr i then [] else [c]))
theorem comp_end (m:Nat):∀ (l:List It) (i last:Nat) (put:List UInt8),dr (i + l.length) = false→compGo pu dr (l ++ [.old m]) i last put = compEnd pu dr m l i last put ++ [⟨1,0,[]⟩]
  | [],i,last,put,h=>by
    rw [List.nil_append,compGo,if_neg (by rw [show dr i = false from h];decide)]
    rfl
  | .old w :: r,i,last,put,h=>by
    have h':dr (i + 1 + r.length) = false:=by rw [show i + 1 + r.length = i + (It.old w :: r).length by simp;omega];exact h
    rw [List.cons_append,compGo,compEnd]
    split
    · exact comp_end m r _ _ _ h'
    · rw [comp_end m r _ _ _ h']
      rfl
  | .new c :: r,i,last,put,h=>by
    have h':dr (i + 1 + r.length) = false:=by rw [show i + 1 + r.length = i + (It.new c :: r).length by simp;omega];exact h
    rw [List.cons_append,compGo,compEnd]
    exact comp_end m r _ _ _ h'
theorem comp_more (m:Nat):∀ (l:List It) (i last:Nat) (put:List UInt8),dr (i + l.length) = false→dr (i + l.length + 1) = false→pu (i + l.length + 1) = [] →
    compGo pu dr (l ++ [.old m] ++ [.old (m + 1)]) i last put = compGo pu dr (l ++ [.old m]) i last put ++ [⟨0,0,[]⟩,⟨1,0,[]⟩]
  | [],i,last,put,h,h1,h2=>by
    simp only [List.nil_append,List.length_nil,Nat.add_zero] at h h1 h2 ⊢
    simp only [List.cons_append,List.nil_append,compGo,h,h1,h2]
    simp
  | .old w :: r,i,last,put,h,h1,h2=>by
    have e:i + 1 + r.length = i + (It.old w :: r).length:=by simp;omega
    have ih:=fun last put=>comp_more m r (i + 1) last put (by rw [e];exact h) (by rw [e];exact h1) (by rw [e];exact h2)
    rw [List.cons_append,List.cons_append,compGo,compGo]
    split
    · exact ih _ _
    · rw [ih]
      rfl
  | .new c :: r,i,last,put,h,h1,h2=>by
    have e:i + 1 + r.length = i + (It.new c :: r).length:=by simp;omega
    have ih:=fun last put=>comp_more m r (i + 1) last put (by rw [e];exact h) (by rw [e];exact h1) (by rw [e];exact h2)
    rw [List.cons_append,List.cons_append,compGo,compGo]
    exact ih _ _
def val (t:List UInt8):It→UInt8
  | .old w=>t.getD w 0
  | .new c=>c
theorem comp_apply (t:List UInt8):∀ (l:List It) (i last:Nat) (put:List UInt8),Rise t.length last l→last≤t.length→apply (t.drop last) (compEnd pu dr t.length l i last put) = put ++ flat pu dr (l.map (val t)) i
  | [],i,last,put,_,hl=>by
    rw [compEnd,apply,apply,flat.eq_def]
    simp only [List.take_zero,List.nil_append,Nat.zero_add,List.map_nil,List.drop_drop]
    rw [show last + (t.length - last) = t.length by omega,List.drop_length]
    simp
  | .old w :: r,i,last,put,h,hl=>by
    obtain ⟨h1,h2,h3⟩:=h
    rw [compEnd,List.map_cons,flat]
    split
    · rename_i hd
      rw [comp_apply t r _ _ _ (h3.less (by omega)) hl]
      simp [List.append_assoc]
    · rename_i hd
      have ih:=comp_apply t r (i + 1) (w + 1) [] h3 (by omega)
      rw [apply,apply]
      simp only [List.take_zero,List.nil_append,Nat.zero_add,List.drop_drop,Nat.add_zero,List.append_nil]
      rw [show last + (w - last) = w by omega,show w + 1 = w + 1 from rfl,ih]
      have e:(t.drop w).take 1 = [val t (.old w)]:=by
        rw [List.drop_eq_getElem_cons h2,List.take_succ_cons,List.take_zero]
        simp [val,h2]
      rw [e]
      simp [List.append_assoc]
  | .new c :: r,i,last,put,h,hl=>by
    rw [compEnd,List.map_cons,flat,comp_apply t r _ _ _ h hl]
    simp [List.append_assoc,val]
end
def compAt (a b:List Pc) (m:Nat):List Pc:=compGo (putAt b) (dropAt b) (applyP It.new (places 0 m) a) 0 0 []
def comp (a b:List Pc):List Pc:=norm (compAt a b (extent a + extent b + 1))
theorem comp_grow (a b:List Pc) (m:Nat) (ha:extent a≤m) (hb:extent b≤(applyP It.new (places 0 m) a).length):∀ j,norm (compAt a b (m + 1 + j)) = norm (compAt a b (m + 1))
  | 0=>rfl
  | j + 1=>by
    rw [← comp_grow a b m ha hb j]
    have hlen:(places 0 (m + j)).length = m + j:=by simp [places]
    have hm0:(places 0 m).length = m:=by simp [places]
    have l0:=applyP_len It.new a (places 0 m) (by omega)
    have l1:=applyP_len It.new a (places 0 (m + j)) (by omega)
    rw [hm0] at l0
    rw [hlen] at l1
    have e1:applyP It.new (places 0 (m + 1 + j)) a = applyP It.new (places 0 (m + j)) a ++ [.old (m + j)]:=by
      rw [show m + 1 + j = (m + j) + 1 by omega,places_snoc,applyP_snoc _ _ _ _ (by omega),Nat.zero_add]
    have e2:applyP It.new (places 0 (m + 1 + (j + 1))) a = applyP It.new (places 0 (m + j)) a ++ [.old (m + j)] ++ [.old (m + j + 1)]:=by
      have h1:(places 0 (m + 1 + j)).length = m + 1 + j:=by simp [places]
      rw [show m + 1 + (j + 1) = (m + 1 + j) + 1 by omega,places_snoc,applyP_snoc _ _ _ _ (by omega),Nat.zero_add,e1,show m + 1 + j = m + j + 1 by omega]
    unfold compAt
    rw [e1,e2,comp_more _ _ _ _ _ _ _ (dropAt_far b _ (by omega)) (dropAt_far b _ (by omega)) (putAt_far b _ (by omega))]
    exact norm_idle (by intro p hp;simp at hp;rcases hp with rfl | rfl <;> rfl)
theorem comp_does (a b:List Pc) (t:List UInt8) (ha:extent a≤t.length) (hb:extent b≤(apply t a).length):apply t (comp a b) = apply (apply t a) b:=by
  have hpl:∀ m,(places 0 m).length = m:=fun m=>by simp [places]
  have hval:(places 0 t.length).map (val t) = t:=by
    unfold places
    rw [List.map_map]
    apply List.ext_getElem?
    intro i
    rw [List.getElem?_map]
    by_cases h:i < t.length
    · rw [List.getElem?_range' h,List.getElem?_eq_getElem h]
      simp [val,h]
    · rw [List.getElem?_eq_none (by simp;omega),List.getElem?_eq_none (by omega)]
      rfl
  have hmid:(applyP It.new (places 0 t.length) a).map (val t) = apply t a:=by
    rw [applyP_map,hval]
    exact applyP_id a t
  have hbm:extent b≤(applyP It.new (places 0 t.length) a).length:=by
    rw [← hmid,List.length_map] at hb
    exact hb
  have key:norm (compAt a b (t.length + 1)) = comp a b:=by
    unfold comp
    rcases Nat.le_total t.length (extent a + extent b) with h | h
    · have:=comp_grow a b t.length ha hbm (extent a + extent b - t.length)
      rw [show t.length + 1 + (extent a + extent b - t.length) = extent a + extent b + 1 by omega] at this
      exact this.symm
    · have hl:=applyP_len It.new a (places 0 (extent a + extent b)) (by rw [hpl];omega)
      rw [hpl] at hl
      have h2:=extent_two a
      have:=comp_grow a b (extent a + extent b) (by omega) (by omega) (t.length - (extent a + extent b))
      rw [show extent a + extent b + 1 + (t.length - (extent a + extent b)) = t.length + 1 by omega] at this
      exact this
  rw [← key,apply_norm]
  unfold compAt
  rw [places_snoc,applyP_snoc _ _ _ _ (by rw [hpl];omega),Nat.zero_add,comp_end _ _ _ _ _ _ _ (dropAt_far b _ (by omega))]
  have hr:=rise_apply t.length a 0 t.length ha (by omega)
  have hc:=comp_apply (putAt b) (dropAt b) t _ 0 0 [] hr (Nat.zero_le _)
  rw [List.drop_zero,List.nil_append,hmid] at hc
  have hidle:=apply_same (norm_idle (l:=compEnd (putAt b) (dropAt b) t.length (applyP It.new (places 0 t.length) a) 0 0 []) (e:=[⟨1,0,[]⟩]) (by intro p hp;obtain rfl:=List.mem_singleton.1 hp;rfl)) t
  rw [hidle,hc,apply_flat b _ hb]
end Go.Proofs.Ytoeblaecldhcaaa.Ltx
