/- MgAB: TreVal LtxVal LtxSq LtxInv LtxSize LtxComp LstExt -/
import Derived.Test.YtidimannfemnmaaProg
set_option linter.all false
namespace Go.Proofs.Ytidimannfemnmaa
abbrev Txt:=List UInt8
inductive Nd where
  | mk (id:Nat) (leaf:Bool) (label:Txt) (attrs:List (Txt × Txt)) (text:Txt) (kids:List Nd)
namespace Nd
def id:Nd→Nat | .mk i _ _ _ _ _=>i
def leaf:Nd→Bool | .mk _ l _ _ _ _=>l
def label:Nd→Txt | .mk _ _ l _ _ _=>l
def attrs:Nd→List (Txt × Txt) | .mk _ _ _ a _ _=>a
def text:Nd→Txt | .mk _ _ _ _ t _=>t
def kids:Nd→List Nd | .mk _ _ _ _ _ k=>k
def zero:Nd:=.mk 0 false [] [] [] []
def withKids:Nd→List Nd→Nd | .mk i l b a t _,k=>.mk i l b a t k
end Nd

mutual
def countV:Nd→Nat
  | .mk _ _ _ _ _ ks=>1 + countsV ks
def countsV:List Nd→Nat
  | []=>0
  | k :: r=>countV k + countsV r
end
def attrsLen:List (Txt × Txt)→Nat
  | []=>0
  | a :: r=>a.1.length + a.2.length + attrsLen r
def keyB (s:Txt):Bool:=decide (1≤s.length∧s.length≤64)
def attrsOk (lt:Txt→Txt→Bool):Txt→List (Txt × Txt)→Bool
  | _,[]=>true
  | last,a :: r=>keyB a.1 && lt last a.1 && decide (a.2.length≤256) && attrsOk lt a.1 r
def aloneOk (lt:Txt→Txt→Bool) (t:Nd):Bool :=
  decide (t.label.length≤64) && attrsOk lt [] t.attrs && (if t.leaf then t.kids.isEmpty else t.text.isEmpty)
mutual
def rightsV (lt:Txt→Txt→Bool):Nd→Bool
  | .mk i l b ps x ks=>aloneOk lt (.mk i l b ps x ks) && rightssV lt ks
def rightssV (lt:Txt→Txt→Bool):List Nd→Bool
  | []=>true
  | k :: r=>rightsV lt k && rightssV lt r
end
def rightV (lt:Txt→Txt→Bool) (t:Nd):Bool:=!t.leaf && rightsV lt t
def atV:Nd→List Int→Option Nd
  | t,[]=>some t
  | t,i :: p=>if 0≤i then match t.kids[i.toNat]? with
    | some k=>atV k p
    | none=>none else none
def putV:Nd→List Int→Nd→Option Nd
  | _,[],x=>some x
  | t,i :: p,x=>if 0≤i then match t.kids[i.toNat]? with
    | some k=>match putV k p x with
      | some k'=>some (t.withKids (t.kids.set i.toNat k'))
      | none=>none
    | none=>none else none
def attrsW:List (Txt × Txt)→Nat
  | []=>0
  | a :: r=>1 + a.1.length + a.2.length + attrsW r
mutual
def weighV:Nd→Nat
  | .mk _ _ b ps x ks=>1 + b.length + x.length + attrsW ps + weighsV ks
def weighsV:List Nd→Nat
  | []=>0
  | k :: r=>weighV k + weighsV r
end

theorem countV_eq (t:Nd):countV t = 1 + countsV t.kids:=by cases t;simp [countV,Nd.kids]
theorem weighV_eq (t:Nd):weighV t = 1 + t.label.length + t.text.length + attrsW t.attrs + weighsV t.kids:=by cases t;simp [weighV,Nd.kids,Nd.label,Nd.text,Nd.attrs]
theorem attrsLen_le (l:List (Txt × Txt)):attrsLen l + l.length≤attrsW l:=by
  induction l with
  | nil=>simp [attrsLen,attrsW]
  | cons k r ih=>simp [attrsLen,attrsW];omega
theorem count_pos (t:Nd):1≤countV t:=by rw [countV_eq];omega
mutual
theorem count_le:∀ t:Nd,countV t≤weighV t
  | .mk i l b ps x ks=>by
    have:=counts_le ks
    simp only [countV,weighV]
    omega
theorem counts_le:∀ l:List Nd,countsV l≤weighsV l
  | []=>by simp [countsV,weighsV]
  | k :: r=>by
    have h1:=count_le k
    have h2:=counts_le r
    simp only [countsV,weighsV]
    omega
end
theorem kids_le (t:Nd):t.kids.length + 1≤countV t:=by
  rw [countV_eq]
  have:∀ l:List Nd,l.length≤countsV l:=by
    intro l
    induction l with
    | nil=>simp
    | cons k r ih =>
      have:=count_pos k
      simp only [List.length_cons,countsV]
      omega
  have:=this t.kids
  omega


abbrev Stk:=List (List Nd)
end Go.Proofs.Ytidimannfemnmaa
namespace Go.Proofs.Ytidimannfemnmaa.Ltx
structure Pc where
  keep:Nat
  drop:Nat
  put:List UInt8
deriving DecidableEq
def gap:List Pc→Nat→List UInt8 × Nat
  | [],_=>([],0)
  | p :: r,j=>if j < p.keep then ([],0) else if j = p.keep then (p.put ++ (gap r 0).1,p.drop + (gap r 0).2) else gap r (j - p.keep)
def extent:List Pc→Nat
  | []=>0
  | p :: r=>p.keep + p.drop + extent r
def keeps:List Pc→Nat
  | []=>0
  | p :: r=>p.keep + keeps r
def apply:List UInt8→List Pc→List UInt8
  | t,[]=>t
  | t,p :: r=>t.take p.keep ++ p.put ++ apply (t.drop (p.keep + p.drop)) r
def idle (p:Pc):Bool:=p.put.isEmpty && p.drop == 0
def joinLast (out:List Pc) (p:Pc):List Pc :=
  match out.getLast? with
  | none=>out
  | some q=>out.dropLast ++ [⟨q.keep,q.drop + p.drop,q.put ++ p.put⟩]
def normStep (s:List Pc × Nat) (p:Pc):List Pc × Nat :=
  if idle p then (s.1,s.2 + p.keep)
  else if s.2 + p.keep = 0∧s.1 ≠ [] then (joinLast s.1 p,0)
  else (s.1 ++ [⟨s.2 + p.keep,p.drop,p.put⟩],0)
def norm (l:List Pc):List Pc:=(l.foldl normStep ([],0)).1

theorem gap_append:∀ (l m:List Pc) (j:Nat),gap (l ++ m) j =
    if j < keeps l then gap l j else if j = keeps l then ((gap l j).1 ++ (gap m 0).1,(gap l j).2 + (gap m 0).2) else gap m (j - keeps l)
  | [],m,j=>by
    simp only [List.nil_append,keeps,Nat.not_lt_zero,if_false,gap,Nat.sub_zero,Nat.zero_add]
    split
    · rename_i h;subst h;simp
    · rfl
  | p :: r,m,j=>by
    have ih:=gap_append r m
    have hk:keeps (p :: r) = p.keep + keeps r:=rfl
    simp only [List.cons_append,gap]
    by_cases h1:j < p.keep
    · rw [if_pos h1,if_pos h1,if_pos (by omega)]
    · rw [if_neg h1,if_neg h1]
      by_cases h2:j = p.keep
      · rw [if_pos h2,if_pos h2]
        have i0:=ih 0
        by_cases h3:0 < keeps r
        · rw [if_pos (by omega),i0,if_pos h3]
        · rw [if_neg (by omega),if_pos (by omega),i0,if_neg h3,if_pos (by omega)]
          simp [Nat.add_assoc]
      · rw [if_neg h2,if_neg h2,ih (j - p.keep)]
        by_cases h3:j - p.keep < keeps r
        · rw [if_pos h3,if_pos (by omega)]
        · rw [if_neg h3,if_neg (show ¬ j < keeps (p :: r) by omega)]
          by_cases h4:j - p.keep = keeps r
          · rw [if_pos h4,if_pos (show j = keeps (p :: r) by omega)]
          · rw [if_neg h4,if_neg (show ¬ j = keeps (p :: r) by omega)]
            congr 1
            omega
theorem gap_far:∀ (l:List Pc) (j:Nat),keeps l < j→gap l j = ([],0)
  | [],_,_=>rfl
  | p :: r,j,h=>by
    unfold keeps at h
    unfold gap
    rw [if_neg (by omega),if_neg (by omega)]
    exact gap_far r _ (by omega)
def NormalT (l:List Pc):Prop:=∀ p ∈ l,idle p = false∧p.keep ≠ 0
def Normal:List Pc→Prop
  | []=>True
  | p :: r=>idle p = false∧NormalT r
theorem NormalT.zero:∀ {l:List Pc},NormalT l→gap l 0 = ([],0)
  | [],_=>rfl
  | p :: r,h=>by
    have:=(h p List.mem_cons_self).2
    unfold gap
    rw [if_pos (by omega)]
theorem NormalT.normal:∀ {l:List Pc},NormalT l→Normal l
  | [],_=>trivial
  | p :: r,h=>⟨(h p List.mem_cons_self).1,fun q hq=>h q (List.mem_cons_of_mem _ hq)⟩
theorem idle_gap {p:Pc} (h:idle p = false):(p.put,p.drop) ≠ ([],0):=by
  intro e
  obtain ⟨h1,h2⟩:=Prod.mk.inj e
  unfold idle at h
  rw [h1,h2] at h
  cases h
theorem gap_head {p:Pc} {r:List Pc} (h:NormalT r):gap (p :: r) p.keep = (p.put,p.drop):=by
  unfold gap
  rw [if_neg (by omega),if_pos rfl,h.zero]
  simp
theorem gap_tail {p:Pc} {r:List Pc} (h:NormalT r) (j:Nat):gap r j = if j = 0 then ([],0) else gap (p :: r) (j + p.keep):=by
  split
  · rename_i e;subst e;exact h.zero
  · rename_i e
    conv=>rhs;unfold gap
    rw [if_neg (by omega),if_neg (by omega),Nat.add_sub_cancel]
theorem normal_ext:∀ {l m:List Pc},Normal l→Normal m→(∀ j,gap l j = gap m j)→l = m
  | [],[],_,_,_=>rfl
  | [],q :: s,_,hm,h=>by
    have:=h q.keep
    rw [gap_head hm.2] at this
    exact absurd this.symm (idle_gap hm.1)
  | p :: r,[],hl,_,h=>by
    have:=h p.keep
    rw [gap_head hl.2] at this
    exact absurd this (idle_gap hl.1)
  | p :: r,q :: s,hl,hm,h=>by
    have hk:p.keep = q.keep:=by
      rcases Nat.lt_trichotomy p.keep q.keep with h1 | h1 | h1
      · have:=h p.keep
        rw [gap_head hl.2] at this
        rw [show gap (q :: s) p.keep = ([],0) by unfold gap;rw [if_pos h1]] at this
        exact absurd this (idle_gap hl.1)
      · exact h1
      · have:=h q.keep
        rw [gap_head hm.2] at this
        rw [show gap (p :: r) q.keep = ([],0) by unfold gap;rw [if_pos h1]] at this
        exact absurd this.symm (idle_gap hm.1)
    have h1:=h p.keep
    rw [gap_head hl.2,hk,gap_head hm.2] at h1
    obtain ⟨e1,e2⟩:=Prod.mk.inj h1
    have hrs:r = s:=normal_ext hl.2.normal hm.2.normal fun j=>by
      rw [gap_tail hl.2 (p:=p),gap_tail hm.2 (p:=q)]
      split
      · rfl
      · rw [hk];exact h _
    subst hrs
    cases p;cases q
    simp_all

theorem keeps_append (l m:List Pc):keeps (l ++ m) = keeps l + keeps m:=by
  induction l with
  | nil=>simp [keeps]
  | cons p r ih=>simp [keeps,ih,Nat.add_assoc]
structure Stands (s:List Pc × Nat) (l:List Pc):Prop where
  nm:Normal s.1
  ks:keeps s.1 + s.2 = keeps l
  gs:∀ j,gap s.1 j = gap l j
theorem normal_snoc {l:List Pc} {p:Pc} (h:Normal l) (hp:idle p = false) (hk:l = []∨p.keep ≠ 0):Normal (l ++ [p]):=by
  cases l with
  | nil=>exact ⟨hp,fun q hq=>by cases hq⟩
  | cons q r =>
    refine ⟨h.1,fun x hx=>?_⟩
    rcases List.mem_append.1 hx with hx | hx
    · exact h.2 x hx
    · obtain rfl:=List.mem_singleton.1 hx
      exact ⟨hp,hk.resolve_left (by simp)⟩
theorem Stands.step {s:List Pc × Nat} {l:List Pc} (h:Stands s l) (p:Pc):Stands (normStep s p) (l ++ [p]):=by
  obtain ⟨out,k⟩:=s
  obtain ⟨hn,hk,hg⟩:=h
  dsimp only at hn hk hg
  have hone:∀ j,gap [p] j = if j = p.keep then (p.put,p.drop) else ([],0):=fun j=>by
    unfold gap
    split
    · rw [if_neg (by omega)]
    · split
      · simp [gap]
      · rfl
  unfold normStep
  dsimp only
  by_cases hi:idle p = true
  · rw [if_pos hi]
    refine ⟨hn,by rw [keeps_append];simp [keeps];omega,fun j=>?_⟩
    have hp:p.put = []∧p.drop = 0:=by unfold idle at hi;simpa using hi
    dsimp only
    rw [hg j,gap_append]
    split
    · rfl
    · split
      · rename_i h1 h2
        have:gap [p] 0 = ([],0):=by rw [hone,hp.1,hp.2];split <;> rfl
        rw [this]
        simp
      · rename_i h1 h2
        rw [gap_far l j (by omega),hone,hp.1,hp.2]
        split <;> rfl
  · have hi':idle p = false:=by simpa using hi
    rw [if_neg hi]
    by_cases hz:k + p.keep = 0∧out ≠ []
    · rw [if_pos hz]
      obtain ⟨hz1,hz2⟩:=hz
      obtain ⟨init,q,rfl⟩:∃ init q,out = init ++ [q]:=⟨out.dropLast,out.getLast hz2,(List.dropLast_concat_getLast hz2).symm⟩
      have hj:joinLast (init ++ [q]) p = init ++ [⟨q.keep,q.drop + p.drop,q.put ++ p.put⟩]:=by
        unfold joinLast
        simp
      rw [hj]
      have hk2:keeps (init ++ [(⟨q.keep,q.drop + p.drop,q.put ++ p.put⟩:Pc)]) = keeps (init ++ [q]):=by rw [keeps_append,keeps_append];rfl
      have hpk:p.keep = 0:=by omega
      have hk0:k = 0:=by omega
      have hidle:idle (⟨q.keep,q.drop + p.drop,q.put ++ p.put⟩:Pc) = false:=by
        unfold idle at hi' ⊢
        simp only [Bool.and_eq_false_iff] at hi' ⊢
        rcases hi' with h | h
        · left
          cases hpp:p.put with
          | nil=>rw [hpp] at h;cases h
          | cons a b=>simp
        · right
          simp at h ⊢
          omega
      refine ⟨?_,?_,fun j=>?_⟩
      · cases init with
        | nil=>exact ⟨hidle,fun x hx=>by cases hx⟩
        | cons a r =>
          refine ⟨hn.1,fun x hx=>?_⟩
          rcases List.mem_append.1 hx with hx | hx
          · exact hn.2 x (List.mem_append_left _ hx)
          · obtain rfl:=List.mem_singleton.1 hx
            exact ⟨hidle,(hn.2 q (List.mem_append_right _ List.mem_cons_self)).2⟩
      · dsimp only
        rw [hk2,keeps_append l]
        simp [keeps]
        omega
      · dsimp only
        have hkl:keeps (init ++ [q]) = keeps l:=by omega
        have e1:gap (init ++ [(⟨q.keep,q.drop + p.drop,q.put ++ p.put⟩:Pc)]) j = gap ((init ++ [q]) ++ [p]) j:=by
          rw [gap_append,gap_append (init ++ [q]),gap_append init [q],keeps_append]
          have hq:∀ i,gap [q] i = if i = q.keep then (q.put,q.drop) else ([],0):=fun i=>by
            unfold gap
            split
            · rw [if_neg (by omega)]
            · split
              · simp [gap]
              · rfl
          have hq2:∀ i,gap [(⟨q.keep,q.drop + p.drop,q.put ++ p.put⟩:Pc)] i = if i = q.keep then (q.put ++ p.put,q.drop + p.drop) else ([],0):=fun i=>by
            unfold gap
            dsimp only
            split
            · rw [if_neg (by omega)]
            · split
              · simp [gap]
              · rfl
          simp only [hq,hq2,hone,keeps,hpk,Nat.add_zero]
          by_cases h1:j < keeps init
          · rw [if_pos h1,if_pos (by omega),if_pos h1]
          · rw [if_neg h1]
            by_cases h2:j = keeps init
            · subst h2
              by_cases h3:q.keep = 0
              · simp [h3,Nat.add_assoc]
              · have h4:¬ 0 = q.keep:=fun e=>h3 e.symm
                have h5:0 < q.keep:=by omega
                simp [h4,h5]
            · rw [if_neg h2]
              by_cases h3:j - keeps init = q.keep
              · have h4:j = keeps init + q.keep:=by omega
                rw [if_pos h3,if_neg (by omega),if_pos h4,if_neg (by omega),if_neg h2,if_pos h3]
                simp
              · rw [if_neg h3]
                by_cases h4:j < keeps init + q.keep
                · rw [if_pos h4,if_neg (by omega),if_neg h2,if_neg h3]
                · rw [if_neg h4,if_neg (by omega),if_neg (by omega)]
        rw [e1,gap_append,gap_append l]
        rw [hkl,hg j]
    · rw [if_neg hz]
      refine ⟨normal_snoc hn hi' ?_,?_,fun j=>?_⟩
      · by_cases ho:out = []
        · exact .inl ho
        · exact .inr fun e=>hz ⟨e,ho⟩
      · dsimp only
        rw [keeps_append,keeps_append]
        simp [keeps]
        omega
      · dsimp only
        have hx:∀ i,gap [(⟨k + p.keep,p.drop,p.put⟩:Pc)] i = if i = k + p.keep then (p.put,p.drop) else ([],0):=fun i=>by
          unfold gap
          dsimp only
          split
          · rw [if_neg (by omega)]
          · split
            · simp [gap]
            · rfl
        rw [gap_append,gap_append l,hx,hx,hone,hone,hg]
        by_cases h1:j < keeps out
        · rw [if_pos h1,if_pos (by omega)]
        · rw [if_neg h1]
          by_cases h2:j = keeps out
          · rw [if_pos h2]
            by_cases h3:k = 0
            · have h4:j = keeps l:=by omega
              rw [if_neg (show ¬ j < keeps l by omega),if_pos h4,h3,Nat.zero_add]
            · have h5:¬ (0 = k + p.keep):=by omega
              rw [if_pos (show j < keeps l by omega),if_neg h5]
              simp
          · rw [if_neg h2]
            by_cases h3:j < keeps l
            · rw [if_pos h3,if_neg (by omega)]
              have:=hg j
              rw [gap_far out j (by omega)] at this
              exact this
            · rw [if_neg h3]
              by_cases h4:j = keeps l
              · rw [if_pos h4]
                have:=hg j
                rw [gap_far out j (by omega)] at this
                rw [← this]
                by_cases h5:p.keep = 0
                · rw [if_pos (by omega),if_pos h5.symm]
                  simp
                · rw [if_neg (by omega),if_neg (fun e=>h5 e.symm)]
                  rfl
              · rw [if_neg h4]
                by_cases h5:j - keeps l = p.keep
                · rw [if_pos (by omega),if_pos h5]
                · rw [if_neg (by omega),if_neg h5]
theorem stands_all (l:List Pc):∀ (m:List Pc) (s:List Pc × Nat),Stands s m→Stands (l.foldl normStep s) (m ++ l):=by
  induction l with
  | nil=>intro m s h;rw [List.append_nil];exact h
  | cons p r ih =>
    intro m s h
    have:=ih (m ++ [p]) (normStep s p) (h.step p)
    rw [List.append_assoc] at this
    exact this
theorem norm_stands (l:List Pc):Stands (l.foldl normStep ([],0)) l:=by
  have:=stands_all l [] ([],0) ⟨trivial,rfl,fun _=>rfl⟩
  exact this
theorem norm_normal (l:List Pc):Normal (norm l):=(norm_stands l).nm
theorem norm_gap (l:List Pc) (j:Nat):gap (norm l) j = gap l j:=(norm_stands l).gs j
theorem norm_ext {l m:List Pc} (h:∀ j,gap l j = gap m j):norm l = norm m :=
  normal_ext (norm_normal l) (norm_normal m) fun j=>by rw [norm_gap,norm_gap,h]
theorem norm_self {l:List Pc} (h:Normal l):norm l = l:=normal_ext (norm_normal l) h (norm_gap l)
end Go.Proofs.Ytidimannfemnmaa.Ltx
namespace Go.Proofs.Ytidimannfemnmaa.Ltx
def emit:List UInt8→List Pc→List UInt8
  | _,[]=>[]
  | t,p :: r=>t.take p.keep ++ p.put ++ emit (t.drop (p.keep + p.drop)) r
theorem extent_append (l m:List Pc):extent (l ++ m) = extent l + extent m:=by
  induction l with
  | nil=>simp [extent]
  | cons p r ih=>simp [extent,ih,Nat.add_assoc]
theorem emit_append:∀ (l m:List Pc) (t:List UInt8),emit t (l ++ m) = emit t l ++ emit (t.drop (extent l)) m
  | [],m,t=>by simp [emit,extent]
  | p :: r,m,t=>by
    simp only [List.cons_append,emit,extent]
    rw [emit_append r m,List.drop_drop]
    simp [List.append_assoc]
def Does (s:List Pc × Nat) (l:List Pc):Prop:=(∀ t,emit t s.1 ++ (t.drop (extent s.1)).take s.2 = emit t l)∧extent s.1 + s.2 = extent l
theorem Does.step {s:List Pc × Nat} {l:List Pc} (h:Does s l) (p:Pc):Does (normStep s p) (l ++ [p]):=by
  obtain ⟨out,k⟩:=s
  obtain ⟨he,hx⟩:=h
  dsimp only at he hx
  have hone:∀ t,emit t (l ++ [p]) = emit t l ++ (t.drop (extent l)).take p.keep ++ p.put:=fun t=>by
    rw [emit_append]
    simp [emit,List.append_assoc]
  have htake:∀ t:List UInt8,(t.drop (extent out)).take k ++ (t.drop (extent l)).take p.keep = (t.drop (extent out)).take (k + p.keep):=fun t=>by
    rw [List.take_add,List.drop_drop,hx]
  unfold normStep
  dsimp only
  by_cases hi:idle p = true
  · rw [if_pos hi]
    have hp:p.put = []∧p.drop = 0:=by unfold idle at hi;simpa using hi
    refine ⟨fun t=>?_,by rw [extent_append];simp [extent,hp.2];omega⟩
    dsimp only
    rw [hone,← he t,hp.1,List.append_nil,List.append_assoc,htake]
  · rw [if_neg hi]
    by_cases hz:k + p.keep = 0∧out ≠ []
    · rw [if_pos hz]
      obtain ⟨hz1,hz2⟩:=hz
      obtain ⟨init,q,rfl⟩:∃ init q,out = init ++ [q]:=⟨out.dropLast,out.getLast hz2,(List.dropLast_concat_getLast hz2).symm⟩
      have hj:joinLast (init ++ [q]) p = init ++ [⟨q.keep,q.drop + p.drop,q.put ++ p.put⟩]:=by
        unfold joinLast
        simp
      rw [hj]
      have hpk:p.keep = 0:=by omega
      have hk0:k = 0:=by omega
      subst hk0
      refine ⟨fun t=>?_,?_⟩
      · dsimp only
        rw [hone,← he t,hpk,emit_append,emit_append]
        simp [emit,List.append_assoc]
      · dsimp only
        rw [extent_append] at hx ⊢
        rw [extent_append l]
        simp [extent] at hx ⊢
        omega
    · rw [if_neg hz]
      refine ⟨fun t=>?_,?_⟩
      · dsimp only
        rw [hone,← he t,emit_append]
        simp only [emit,List.append_nil,List.take_zero,List.append_assoc]
        rw [← List.append_assoc (List.take k _),htake]
      · dsimp only
        rw [extent_append,extent_append]
        simp [extent]
        omega
theorem does_all (l:List Pc):∀ (m:List Pc) (s:List Pc × Nat),Does s m→Does (l.foldl normStep s) (m ++ l):=by
  induction l with
  | nil=>intro m s h;rw [List.append_nil];exact h
  | cons p r ih =>
    intro m s h
    have:=ih (m ++ [p]) (normStep s p) (h.step p)
    rw [List.append_assoc] at this
    exact this
theorem norm_does (l:List Pc):Does (l.foldl normStep ([],0)) l:=does_all l [] ([],0) ⟨fun t=>by simp [emit],rfl⟩
theorem extent_norm (l:List Pc):extent (norm l)≤extent l:=by
  have h2:=(norm_does l).2
  unfold norm
  omega
def putAt:List Pc→Nat→List UInt8
  | [],_=>[]
  | p :: r,i=>if i < p.keep then [] else if i = p.keep then p.put ++ (if p.drop = 0 then putAt r 0 else []) else if i < p.keep + p.drop then [] else putAt r (i - (p.keep + p.drop))
def dropAt:List Pc→Nat→Bool
  | [],_=>false
  | p :: r,i=>if i < p.keep then false else if i < p.keep + p.drop then true else dropAt r (i - (p.keep + p.drop))
def flat (pu:Nat→List UInt8) (dr:Nat→Bool):List UInt8→Nat→List UInt8
  | [],i=>pu i
  | c :: t,i=>pu i ++ (if dr i then [] else [c]) ++ flat pu dr t (i + 1)
theorem flat_congr {pu pu':Nat→List UInt8} {dr dr':Nat→Bool}:∀ (t:List UInt8) (i j:Nat),(∀ k,pu (i + k) = pu' (j + k))→(∀ k,dr (i + k) = dr' (j + k))→flat pu dr t i = flat pu' dr' t j
  | [],i,j,h1,_=>h1 0
  | c :: t,i,j,h1,h2=>by
    unfold flat
    rw [show pu i = pu' j from h1 0,show dr i = dr' j from h2 0,flat_congr t (i + 1) (j + 1) (fun k=>by have:=h1 (k + 1);rw [show i + 1 + k = i + (k + 1) by omega,show j + 1 + k = j + (k + 1) by omega];exact this)
      (fun k=>by have:=h2 (k + 1);rw [show i + 1 + k = i + (k + 1) by omega,show j + 1 + k = j + (k + 1) by omega];exact this)]
theorem flat_keep {pu:Nat→List UInt8} {dr:Nat→Bool}:∀ (s t:List UInt8) (i:Nat),(∀ k,k < s.length→pu (i + k) = []∧dr (i + k) = false)→flat pu dr (s ++ t) i = s ++ flat pu dr t (i + s.length)
  | [],t,i,_=>by simp
  | c :: s,t,i,h=>by
    have h0:=h 0 (by simp)
    have ih:=flat_keep s t (i + 1) fun k hk=>by
      have:=h (k + 1) (by simp;omega)
      rw [show i + 1 + k = i + (k + 1) by omega]
      exact this
    simp only [Nat.add_zero] at h0
    rw [List.cons_append,flat,h0.1,h0.2,ih]
    simp only [List.length_cons,List.nil_append]
    rw [show i + 1 + s.length = i + (s.length + 1) by omega]
    simp
theorem flat_drop {pu:Nat→List UInt8} {dr:Nat→Bool}:∀ (s t:List UInt8) (i:Nat),(∀ k,k < s.length→pu (i + k) = []∧dr (i + k) = true)→flat pu dr (s ++ t) i = flat pu dr t (i + s.length)
  | [],t,i,_=>by simp
  | c :: s,t,i,h=>by
    have h0:=h 0 (by simp)
    have ih:=flat_drop s t (i + 1) fun k hk=>by
      have:=h (k + 1) (by simp;omega)
      rw [show i + 1 + k = i + (k + 1) by omega]
      exact this
    simp only [Nat.add_zero] at h0
    rw [List.cons_append,flat,h0.1,h0.2,ih]
    simp only [List.length_cons]
    rw [show i + 1 + s.length = i + (s.length + 1) by omega]
    simp
theorem flat_idle (t:List UInt8) (i:Nat):flat (fun _=>[]) (fun _=>false) t i = t:=by
  induction t generalizing i with
  | nil=>rfl
  | cons c t ih=>rw [flat,ih];simp
theorem apply_flat:∀ (l:List Pc) (t:List UInt8),extent l≤t.length→apply t l = flat (putAt l) (dropAt l) t 0
  | [],t,_=>by
    rw [show putAt [] = fun _=>[] from rfl,show dropAt [] = fun _=>false from rfl,flat_idle]
    rfl
  | p :: r,t,h=>by
    unfold extent at h
    have hsplit:t = t.take p.keep ++ (t.drop p.keep):=(List.take_append_drop _ _).symm
    have hl:(t.take p.keep).length = p.keep:=by rw [List.length_take];omega
    have hk:=flat_keep (pu:=putAt (p :: r)) (dr:=dropAt (p :: r)) (t.take p.keep) (t.drop p.keep) 0 fun k hk=>by
      rw [hl] at hk
      rw [Nat.zero_add]
      exact ⟨by rw [putAt,if_pos hk],by rw [dropAt,if_pos hk]⟩
    rw [List.take_append_drop,hl,Nat.zero_add] at hk
    rw [hk,apply,apply_flat r _ (by rw [List.length_drop];omega),List.append_assoc]
    congr 1
    by_cases hd:p.drop = 0
    · rw [hd,Nat.add_zero]
      cases ht:t.drop p.keep with
      | nil =>
        rw [flat,flat,putAt,if_neg (by omega),if_pos rfl,if_pos hd]
      | cons c s =>
        rw [flat,flat]
        have e1:putAt (p :: r) p.keep = p.put ++ putAt r 0:=by rw [putAt,if_neg (by omega),if_pos rfl,if_pos hd]
        have e2:dropAt (p :: r) p.keep = dropAt r 0:=by rw [dropAt,if_neg (by omega),if_neg (by omega),show p.keep - (p.keep + p.drop) = 0 by omega]
        have e3:flat (putAt (p :: r)) (dropAt (p :: r)) s (p.keep + 1) = flat (putAt r) (dropAt r) s (0 + 1):=flat_congr s _ _
          (fun k=>by rw [putAt,if_neg (by omega),if_neg (by omega),if_neg (by omega)];congr 1;omega)
          (fun k=>by rw [dropAt,if_neg (by omega),if_neg (by omega)];congr 1;omega)
        rw [e1,e2,e3]
        simp [List.append_assoc]
    · obtain ⟨d,hd'⟩:∃ d,p.drop = d + 1:=⟨p.drop - 1,by omega⟩
      cases ht:t.drop p.keep with
      | nil =>
        exfalso
        have:(t.drop p.keep).length = 0:=by rw [ht];rfl
        rw [List.length_drop] at this
        omega
      | cons c s =>
        have hsl:d≤s.length:=by
          have:(t.drop p.keep).length = s.length + 1:=by rw [ht];rfl
          rw [List.length_drop] at this
          omega
        have hrest:t.drop (p.keep + p.drop) = s.drop d:=by
          rw [← List.drop_drop,ht,hd']
          rfl
        have e1:putAt (p :: r) p.keep = p.put:=by rw [putAt,if_neg (by omega),if_pos rfl,if_neg hd,List.append_nil]
        have e2:dropAt (p :: r) p.keep = true:=by rw [dropAt,if_neg (by omega),if_pos (by omega)]
        have hdl:(s.take d).length = d:=by rw [List.length_take];omega
        have e3:=flat_drop (pu:=putAt (p :: r)) (dr:=dropAt (p :: r)) (s.take d) (s.drop d) (p.keep + 1) fun k hk=>by
          rw [hdl] at hk
          exact ⟨by rw [putAt,if_neg (by omega),if_neg (by omega),if_pos (by omega)],by rw [dropAt,if_neg (by omega),if_pos (by omega)]⟩
        rw [List.take_append_drop,hdl] at e3
        have e4:flat (putAt (p :: r)) (dropAt (p :: r)) (s.drop d) (p.keep + 1 + d) = flat (putAt r) (dropAt r) (s.drop d) 0:=flat_congr _ _ _
          (fun k=>by
            rw [Nat.zero_add]
            rw [putAt,if_neg (by omega),if_neg (by omega),if_neg (by omega)]
            congr 1
            omega)
          (fun k=>by
            rw [Nat.zero_add]
            rw [dropAt,if_neg (by omega),if_neg (by omega)]
            congr 1
            omega)
        rw [hrest,flat,e1,e2,e3,e4]
        simp

section
variable (pa pb:Nat→List UInt8) (da db:Nat→Bool) (first:Bool)
def ends (i:Nat):List Pc:=if first then [⟨0,0,pa i⟩,⟨(pb i).length,0,[]⟩] else [⟨(pb i).length,0,[]⟩,⟨0,0,pa i⟩]
def mid (i:Nat):List Pc:=if db i then [] else if da i then [⟨0,1,[]⟩] else [⟨1,0,[]⟩]
def behind:Nat→Nat→List Pc
  | 0,i=>ends pa pb first i
  | k + 1,i=>ends pa pb first i ++ mid da db i ++ behind k (i + 1)
end
end Go.Proofs.Ytidimannfemnmaa.Ltx
namespace Go.Proofs.Ytidimannfemnmaa.Ltx
theorem behind_extent (pa pb:Nat→List UInt8) (da db:Nat→Bool) (first:Bool):∀ (t:List UInt8) (i:Nat),extent (behind pa pb da db first t.length i) = (flat pb db t i).length
  | [],i=>by
    rw [flat,List.length_nil,behind]
    unfold ends
    cases first <;> simp [extent]
  | c :: t,i=>by
    have ih:=behind_extent pa pb da db first t (i + 1)
    rw [flat,List.length_cons,behind,extent_append,extent_append,ih]
    simp only [List.length_append]
    have h1:extent (ends pa pb first i) = (pb i).length:=by unfold ends;cases first <;> simp [extent]
    have h2:extent (mid da db i) = (if db i then ([]:List UInt8) else [c]).length:=by
      unfold mid
      cases db i <;> cases da i <;> simp [extent]
    rw [h1,h2]
theorem behind_longer (pa pb:Nat→List UInt8) (da db:Nat→Bool) (first:Bool) (n:Nat) (hpa:∀ i,n < i→pa i = []) (hpb:∀ i,n < i→pb i = []) (hda:∀ i,n≤i→da i = false) (hdb:∀ i,n≤i→db i = false) :
    ∀ (k i:Nat),n≤i + k→∀ m,norm (behind pa pb da db first (k + m) i) = norm (behind pa pb da db first k i):=by
  intro k i hn m
  refine norm_ext ?_
  have hidle:∀ (l e:List Pc),(∀ p ∈ e,idle p = true)→∀ j,gap (l ++ e) j = gap l j:=by
    intro l e he j
    have hz:∀ (e:List Pc),(∀ p ∈ e,idle p = true)→∀ j,gap e j = ([],0):=by
      intro e
      induction e with
      | nil=>intro _ j;rfl
      | cons p r ih =>
        intro h j
        have hp:p.put = []∧p.drop = 0:=by
          have:=h p List.mem_cons_self
          unfold idle at this
          simpa using this
        have hr:=ih fun q hq=>h q (List.mem_cons_of_mem _ hq)
        unfold gap
        rw [hr,hr,hp.1,hp.2]
        split
        · rfl
        · split <;> rfl
    rw [gap_append,hz e he,hz e he]
    split
    · rfl
    · split
      · simp
      · exact (gap_far l j (by omega)).symm
  have hmore:∀ (m i:Nat),n < i→∀ p ∈ behind pa pb da db first m i,idle p = true:=by
    intro m
    induction m with
    | zero =>
      intro i hi p hp
      rw [behind] at hp
      unfold ends at hp
      rw [hpa i hi,hpb i hi] at hp
      cases first <;> simp at hp <;> rcases hp with rfl | rfl <;> rfl
    | succ m ih =>
      intro i hi p hp
      rw [behind,List.mem_append,List.mem_append] at hp
      rcases hp with (hp | hp) | hp
      · unfold ends at hp
        rw [hpa i hi,hpb i hi] at hp
        cases first <;> simp at hp <;> rcases hp with rfl | rfl <;> rfl
      · unfold mid at hp
        rw [hdb i (by omega),hda i (by omega)] at hp
        simp at hp
        subst hp
        rfl
      · exact ih (i + 1) (by omega) p hp
  have hex:∀ (k i:Nat),n≤i + k→∃ e,behind pa pb da db first (k + m) i = behind pa pb da db first k i ++ e∧∀ p ∈ e,idle p = true:=by
    intro k
    induction k with
    | zero =>
      intro i hi
      cases m with
      | zero=>exact ⟨[],by simp,fun p hp=>by cases hp⟩
      | succ m =>
        refine ⟨mid da db i ++ behind pa pb da db first m (i + 1),?_,fun p hp=>?_⟩
        · rw [Nat.zero_add,behind,behind,List.append_assoc]
        · rcases List.mem_append.1 hp with hp | hp
          · unfold mid at hp
            rw [hdb i (by omega),hda i (by omega)] at hp
            simp at hp
            subst hp
            rfl
          · exact hmore m (i + 1) (by omega) p hp
    | succ k ih =>
      intro i hi
      obtain ⟨e,he,hid⟩:=ih (i + 1) (by omega)
      refine ⟨e,?_,hid⟩
      rw [show k + 1 + m = (k + m) + 1 by omega,behind,behind,he]
      simp [List.append_assoc]
  obtain ⟨e,he,hid⟩:=hex k i hn
  intro j
  rw [he]
  exact hidle _ _ hid j
theorem putAt_far:∀ (l:List Pc) (i:Nat),extent l < i→putAt l i = []
  | [],_,_=>rfl
  | p :: r,i,h=>by
    unfold extent at h
    rw [putAt,if_neg (by omega),if_neg (by omega),if_neg (by omega)]
    exact putAt_far r _ (by omega)
theorem dropAt_far:∀ (l:List Pc) (i:Nat),extent l≤i→dropAt l i = false
  | [],_,_=>rfl
  | p :: r,i,h=>by
    unfold extent at h
    rw [dropAt,if_neg (by omega),if_neg (by omega)]
    exact dropAt_far r _ (by omega)
def trans (a b:List Pc) (first:Bool):List Pc:=norm (behind (putAt a) (putAt b) (dropAt a) (dropAt b) first (max (extent a) (extent b)) 0)
theorem trans_at (a b:List Pc) (first:Bool) (t:List UInt8) (ha:extent a≤t.length) (hb:extent b≤t.length):trans a b first = norm (behind (putAt a) (putAt b) (dropAt a) (dropAt b) first t.length 0):=by
  unfold trans
  have h:=behind_longer (putAt a) (putAt b) (dropAt a) (dropAt b) first (max (extent a) (extent b)) (fun i hi=>putAt_far a i (by omega)) (fun i hi=>putAt_far b i (by omega)) (fun i hi=>dropAt_far a i (by omega)) (fun i hi=>dropAt_far b i (by omega))
    (max (extent a) (extent b)) 0 (by omega) (t.length - max (extent a) (extent b))
  rw [show max (extent a) (extent b) + (t.length - max (extent a) (extent b)) = t.length by omega] at h
  exact h.symm
theorem trans_fits (a b:List Pc) (first:Bool) (t:List UInt8) (ha:extent a≤t.length) (hb:extent b≤t.length):extent (trans a b first)≤(apply t b).length:=by
  rw [trans_at a b first t ha hb,apply_flat b t hb,← behind_extent (putAt a) (putAt b) (dropAt a) (dropAt b) first t 0]
  exact extent_norm _
end Go.Proofs.Ytidimannfemnmaa.Ltx
namespace Go.Proofs.Ytidimannfemnmaa.Ltx
def puts:List Pc→Nat
  | []=>0
  | p :: r=>p.put.length + puts r
def drops:List Pc→Nat
  | []=>0
  | p :: r=>p.drop + drops r
theorem puts_append (l m:List Pc):puts (l ++ m) = puts l + puts m:=by
  induction l with
  | nil=>simp [puts]
  | cons p r ih=>simp [puts,ih,Nat.add_assoc]
theorem drops_append (l m:List Pc):drops (l ++ m) = drops l + drops m:=by
  induction l with
  | nil=>simp [drops]
  | cons p r ih=>simp [drops,ih,Nat.add_assoc]
theorem extent_two (l:List Pc):extent l = keeps l + drops l:=by
  induction l with
  | nil=>rfl
  | cons p r ih=>simp [extent,keeps,drops,ih];omega
theorem step_sums (s:List Pc × Nat) (p:Pc):puts (normStep s p).1 = puts s.1 + p.put.length∧drops (normStep s p).1 = drops s.1 + p.drop:=by
  obtain ⟨out,k⟩:=s
  unfold normStep
  dsimp only
  by_cases hi:idle p = true
  · rw [if_pos hi]
    have hp:p.put = []∧p.drop = 0:=by unfold idle at hi;simpa using hi
    simp [hp.1,hp.2]
  · rw [if_neg hi]
    by_cases hz:k + p.keep = 0∧out ≠ []
    · rw [if_pos hz]
      obtain ⟨init,q,rfl⟩:∃ init q,out = init ++ [q]:=⟨out.dropLast,out.getLast hz.2,(List.dropLast_concat_getLast hz.2).symm⟩
      have hj:joinLast (init ++ [q]) p = init ++ [⟨q.keep,q.drop + p.drop,q.put ++ p.put⟩]:=by
        unfold joinLast
        simp
      rw [hj,puts_append,puts_append,drops_append,drops_append]
      simp [puts,drops]
      omega
    · rw [if_neg hz]
      dsimp only
      rw [puts_append,drops_append]
      simp [puts,drops]
theorem fold_sums (l:List Pc):∀ s:List Pc × Nat,puts (l.foldl normStep s).1 = puts s.1 + puts l∧drops (l.foldl normStep s).1 = drops s.1 + drops l:=by
  induction l with
  | nil=>intro s;simp [puts,drops]
  | cons p r ih =>
    intro s
    have h1:=ih (normStep s p)
    have h2:=step_sums s p
    simp only [List.foldl_cons,puts,drops]
    omega
theorem norm_puts (l:List Pc):puts (norm l) = puts l:=by
  have:=(fold_sums l ([],0)).1
  simpa [puts,norm] using this
theorem norm_drops (l:List Pc):drops (norm l) = drops l:=by
  have:=(fold_sums l ([],0)).2
  simpa [drops,norm] using this
theorem normal_len:∀ {l:List Pc},Normal l→l.length≤puts l + drops l:=by
  have hone:∀ p:Pc,idle p = false→1≤p.put.length + p.drop:=by
    intro p h
    unfold idle at h
    cases hp:p.put with
    | nil=>rw [hp] at h;simp at h;omega
    | cons a b=>simp;omega
  have hT:∀ l:List Pc,NormalT l→l.length≤puts l + drops l:=by
    intro l
    induction l with
    | nil=>intro _;exact Nat.zero_le _
    | cons p r ih =>
      intro h
      have h1:=hone p (h p List.mem_cons_self).1
      have h2:=ih fun q hq=>h q (List.mem_cons_of_mem _ hq)
      simp only [List.length_cons,puts,drops]
      omega
  intro l h
  cases l with
  | nil=>exact Nat.zero_le _
  | cons p r =>
    have h1:=hone p h.1
    have h2:=hT r h.2
    simp only [List.length_cons,puts,drops]
    omega
theorem apply_len:∀ (l:List Pc) (t:List UInt8),(apply t l).length≤t.length + puts l
  | [],t=>by simp [apply,puts]
  | p :: r,t=>by
    have:=apply_len r (t.drop (p.keep + p.drop))
    rw [apply]
    simp only [List.length_append,List.length_take,puts]
    rw [List.length_drop] at this
    omega
theorem mem_sizes:∀ {l:List Pc} {p:Pc},p ∈ l→p.keep + p.drop≤extent l∧p.put.length≤puts l
  | q :: r,p,h=>by
    rcases List.mem_cons.1 h with rfl | h
    · simp only [extent,puts];omega
    · have:=mem_sizes h
      simp only [extent,puts]
      omega
def Fine (l:List Pc):Prop:=l.length≤4096∧(∀ p ∈ l,p.keep≤1048576∧p.drop≤1048576)∧puts l≤1048576
theorem fine_of {l:List Pc} (h1:l.length≤4096) (h2:extent l≤1048576) (h3:puts l≤1048576):Fine l :=
  ⟨h1,fun p hp=>by have:=(mem_sizes hp).1;omega,h3⟩

def sumTo (f:Nat→Nat):Nat→Nat
  | 0=>0
  | k + 1=>sumTo f k + f k
theorem sumTo_le {f g:Nat→Nat} (h:∀ i,f i≤g i):∀ k,sumTo f k≤sumTo g k
  | 0=>Nat.le_refl _
  | k + 1=>Nat.add_le_add (sumTo_le h k) (h k)
theorem sumTo_add (f g:Nat→Nat):∀ k,sumTo (fun i=>f i + g i) k = sumTo f k + sumTo g k
  | 0=>rfl
  | k + 1=>by simp only [sumTo,sumTo_add f g k];omega
theorem sumTo_one (n c:Nat):∀ k,sumTo (fun i=>if i = n then c else 0) k≤c∧(k≤n→sumTo (fun i=>if i = n then c else 0) k = 0)
  | 0=>⟨Nat.zero_le _,fun _=>rfl⟩
  | k + 1=>by
    obtain ⟨h1,h2⟩:=sumTo_one n c k
    simp only [sumTo]
    by_cases h:k = n
    · rw [if_pos h,h2 (by omega)]
      exact ⟨by omega,fun h3=>by omega⟩
    · rw [if_neg h]
      exact ⟨by omega,fun h3=>by rw [h2 (by omega)]⟩
theorem sumTo_shift (f:Nat→Nat) (n:Nat):∀ k,sumTo (fun i=>if i < n then 0 else f (i - n)) k = sumTo f (k - n)
  | 0=>by simp [sumTo]
  | k + 1=>by
    simp only [sumTo,sumTo_shift f n k]
    by_cases h:k < n
    · rw [if_pos h,show k + 1 - n = 0 by omega,show k - n = 0 by omega];rfl
    · rw [if_neg h,show k + 1 - n = (k - n) + 1 by omega]
      rfl
theorem sumTo_range (n c:Nat):∀ k,sumTo (fun i=>if n≤i∧i < n + c then 1 else 0) k≤c∧sumTo (fun i=>if n≤i∧i < n + c then 1 else 0) k≤k - n
  | 0=>⟨Nat.zero_le _,Nat.zero_le _⟩
  | k + 1=>by
    obtain ⟨h1,h2⟩:=sumTo_range n c k
    simp only [sumTo]
    split
    · rename_i h;omega
    · omega
theorem sum_puts:∀ (l:List Pc) (k:Nat),sumTo (fun i=>(putAt l i).length) k≤puts l
  | [],k=>by
    have:∀ k,sumTo (fun i=>(putAt [] i).length) k = 0:=fun k=>by
      induction k with
      | zero=>rfl
      | succ k ih=>simp only [sumTo,ih];rfl
    rw [this]
    exact Nat.zero_le _
  | p :: r,k=>by
    have h1:=sumTo_le (f:=fun i=>(putAt (p :: r) i).length) (g:=fun i=>(if i = p.keep then p.put.length else 0) + (if i < p.keep + p.drop then 0 else (putAt r (i - (p.keep + p.drop))).length)) (fun i=>by
      rw [putAt]
      by_cases h1:i < p.keep
      · rw [if_pos h1];simp
      · rw [if_neg h1]
        by_cases h2:i = p.keep
        · rw [if_pos h2,if_pos h2]
          by_cases h3:p.drop = 0
          · rw [if_pos h3,if_neg (by omega),show i - (p.keep + p.drop) = 0 by omega];simp
          · rw [if_neg h3];simp
        · rw [if_neg h2]
          by_cases h3:i < p.keep + p.drop
          · rw [if_pos h3];simp
          · rw [if_neg h3,if_neg h3];omega) k
    rw [sumTo_add,sumTo_shift (fun i=>(putAt r i).length)] at h1
    have h2:=(sumTo_one p.keep p.put.length k).1
    have h3:=sum_puts r (k - (p.keep + p.drop))
    simp only [puts]
    omega
theorem sum_drops:∀ (l:List Pc) (k:Nat),sumTo (fun i=>if dropAt l i then 1 else 0) k≤drops l
  | [],k=>by
    have:∀ k,sumTo (fun i=>if dropAt [] i then 1 else 0) k = 0:=fun k=>by
      induction k with
      | zero=>rfl
      | succ k ih=>simp only [sumTo,ih];rfl
    rw [this]
    exact Nat.zero_le _
  | p :: r,k=>by
    have h1:=sumTo_le (f:=fun i=>if dropAt (p :: r) i then 1 else 0) (g:=fun i=>(if p.keep≤i∧i < p.keep + p.drop then 1 else 0) + (if i < p.keep + p.drop then 0 else if dropAt r (i - (p.keep + p.drop)) then 1 else 0)) (fun i=>by
      rw [dropAt]
      by_cases h1:i < p.keep
      · rw [if_pos h1];simp
      · rw [if_neg h1]
        by_cases h2:i < p.keep + p.drop
        · have h3:p.keep≤i∧i < p.keep + p.drop:=⟨by omega,h2⟩
          rw [if_pos h3,if_pos h2,if_pos h2];simp
        · rw [if_neg h2,if_neg h2];omega) k
    rw [sumTo_add,sumTo_shift (fun i=>if dropAt r i then 1 else 0)] at h1
    have h2:=(sumTo_range p.keep p.drop k).1
    have h3:=sum_drops r (k - (p.keep + p.drop))
    simp only [drops]
    omega
theorem behind_sums (pa pb:Nat→List UInt8) (da db:Nat→Bool) (first:Bool):∀ (k i:Nat),
    puts (behind pa pb da db first k i) + sumTo (fun j=>(pa j).length) i = sumTo (fun j=>(pa j).length) (i + k + 1)∧drops (behind pa pb da db first k i) + sumTo (fun j=>if da j then 1 else 0) i≤sumTo (fun j=>if da j then 1 else 0) (i + k)
  | 0,i=>by
    rw [behind]
    unfold ends
    cases first <;> simp [puts,drops,sumTo,Nat.add_comm]
  | k + 1,i=>by
    obtain ⟨h1,h2⟩:=behind_sums pa pb da db first k (i + 1)
    rw [behind,puts_append,puts_append,drops_append,drops_append]
    have e1:puts (ends pa pb first i) = (pa i).length∧drops (ends pa pb first i) = 0:=by unfold ends;cases first <;> simp [puts,drops]
    have e2:puts (mid da db i) = 0∧drops (mid da db i)≤if da i then 1 else 0:=by unfold mid;cases db i <;> cases da i <;> simp [puts,drops]
    rw [show i + (k + 1) + 1 = i + 1 + k + 1 by omega,show i + (k + 1) = i + 1 + k by omega]
    simp only [sumTo] at h1 h2 ⊢
    omega
theorem trans_sums (a b:List Pc) (first:Bool):puts (trans a b first)≤puts a∧drops (trans a b first)≤drops a:=by
  unfold trans
  rw [norm_puts,norm_drops]
  obtain ⟨h1,h2⟩:=behind_sums (putAt a) (putAt b) (dropAt a) (dropAt b) first (max (extent a) (extent b)) 0
  have h3:=sum_puts a (0 + max (extent a) (extent b) + 1)
  have h4:=sum_drops a (0 + max (extent a) (extent b))
  simp only [sumTo] at h1 h2 h3
  omega
theorem trans_extent (a b:List Pc) (first:Bool):extent (trans a b first)≤max (extent a) (extent b) + puts b:=by
  have h:=trans_fits a b first (List.replicate (max (extent a) (extent b)) 0) (by simp;omega) (by simp;omega)
  have h2:=apply_len b (List.replicate (max (extent a) (extent b)) 0)
  rw [List.length_replicate] at h2
  omega
theorem trans_fine {a b:List Pc} {n:Nat} (hn:n≤2000) (first:Bool) (ha:extent a + puts a≤n) (hb:extent b + puts b≤n):Fine (trans a b first):=by
  have h1:=trans_sums a b first
  have h2:=trans_extent a b first
  have h3:(trans a b first).length≤puts (trans a b first) + drops (trans a b first):=normal_len (by unfold trans;exact norm_normal _)
  have h4:=extent_two a
  exact fine_of (by omega) (by omega) (by omega)
end Go.Proofs.Ytidimannfemnmaa.Ltx
namespace Go.Proofs.Ytidimannfemnmaa.Ltx
theorem idle_gaps:∀ (e:List Pc),(∀ p ∈ e,idle p = true)→∀ j,gap e j = ([],0)
  | [],_,_=>rfl
  | p :: r,h,j=>by
    have hp:p.put = []∧p.drop = 0:=by
      have:=h p List.mem_cons_self
      unfold idle at this
      simpa using this
    have hr:=idle_gaps r fun q hq=>h q (List.mem_cons_of_mem _ hq)
    unfold gap
    rw [hr,hr,hp.1,hp.2]
    split
    · rfl
    · split <;> rfl
theorem norm_idle {l e:List Pc} (h:∀ p ∈ e,idle p = true):norm (l ++ e) = norm l:=by
  refine norm_ext fun j=>?_
  rw [gap_append,idle_gaps e h,idle_gaps e h]
  split
  · rfl
  · split
    · simp
    · exact (gap_far l j (by omega)).symm

inductive It where
  | old (w:Nat)
  | new (c:UInt8)
section
variable {α:Type} (f:UInt8→α)
def applyP:List α→List Pc→List α
  | t,[]=>t
  | t,p :: r=>t.take p.keep ++ p.put.map f ++ applyP (t.drop (p.keep + p.drop)) r
end
def places (s k:Nat):List It:=(List.range' s k).map It.old
section
variable (pu:Nat→List UInt8) (dr:Nat→Bool)
def compGo:List It→Nat→Nat→List UInt8→List Pc
  | [],_,_,_=>[]
  | .old w :: r,i,last,put=>if dr i then compGo r (i + 1) last (put ++ pu i) else ⟨0,w - last,put ++ pu i⟩ :: ⟨1,0,[]⟩ :: compGo r (i + 1) (w + 1) []
  | .new c :: r,i,last,put=>compGo r (i + 1) last (put ++ pu i ++ (if dr i then [] else [c]))
end
def compAt (a b:List Pc) (m:Nat):List Pc:=compGo (putAt b) (dropAt b) (applyP It.new (places 0 m) a) 0 0 []
def comp (a b:List Pc):List Pc:=norm (compAt a b (extent a + extent b + 1))
end Go.Proofs.Ytidimannfemnmaa.Ltx
namespace Go.Proofs.Ytidimannfemnmaa.Ltx

theorem step_idle {s:List Pc × Nat} {p:Pc} (h:idle p = true):normStep s p = (s.1,s.2 + p.keep):=by
  unfold normStep
  rw [if_pos h]
theorem fold_idle:∀ (m:List Pc) (s:List Pc × Nat),(∀ p ∈ m,idle p = true)→(m.foldl normStep s).1 = s.1
  | [],s,_=>rfl
  | p :: r,s,h=>by
    rw [List.foldl_cons,fold_idle r _ fun q hq=>h q (List.mem_cons_of_mem _ hq),step_idle (h p List.mem_cons_self)]
theorem norm_idles (l m:List Pc) (h:∀ p ∈ m,idle p = true):norm (l ++ m) = norm l:=by
  unfold norm
  rw [List.foldl_append,fold_idle m _ h]
theorem idle_keep (k:Nat):idle ⟨k,0,[]⟩ = true:=by simp [idle]
theorem ends_idle {pa pb:Nat→List UInt8} {first:Bool} {i:Nat} (h:pa i = []):∀ p ∈ ends pa pb first i,idle p = true:=by
  intro p hp
  unfold ends at hp
  rw [h] at hp
  cases first <;> simp only [Bool.false_eq_true,if_false,if_true,List.mem_cons,List.not_mem_nil,or_false] at hp <;> rcases hp with rfl | rfl <;> exact idle_keep _
theorem mid_idle {da db:Nat→Bool} {i:Nat} (h:da i = false):∀ p ∈ mid da db i,idle p = true:=by
  intro p hp
  unfold mid at hp
  rw [h] at hp
  cases hb:db i with
  | true=>rw [hb] at hp;simp at hp
  | false=>rw [hb] at hp;simp at hp;subst hp;exact idle_keep _
theorem behind_idle (pa pb:Nat→List UInt8) (da db:Nat→Bool) (first:Bool):∀ (k i:Nat),(∀ j,i≤j→pa j = [])→(∀ j,i≤j→da j = false)→∀ p ∈ behind pa pb da db first k i,idle p = true
  | 0,i,h1,h2,p,hp=>ends_idle (h1 i (Nat.le_refl _)) p hp
  | k + 1,i,h1,h2,p,hp=>by
    rw [behind] at hp
    rcases List.mem_append.1 hp with hp | hp
    · rcases List.mem_append.1 hp with hp | hp
      · exact ends_idle (h1 i (Nat.le_refl _)) p hp
      · exact mid_idle (h2 i (Nat.le_refl _)) p hp
    · exact behind_idle pa pb da db first k (i + 1) (fun j hj=>h1 j (by omega)) (fun j hj=>h2 j (by omega)) p hp
theorem ends_ext (pa pb:Nat→List UInt8) (first:Bool) (i:Nat):extent (ends pa pb first i) = (pb i).length:=by
  unfold ends
  cases first <;> simp [extent]
theorem mid_ext (da db:Nat→Bool) (i:Nat):extent (mid da db i)≤1:=by
  unfold mid
  cases db i <;> cases da i <;> simp [extent]
theorem behind_split (pa pb:Nat→List UInt8) (da db:Nat→Bool) (first:Bool):∀ (n k i:Nat),n≤k→(∀ j,i + n < j→pa j = [])→(∀ j,i + n≤j→da j = false) →
    ∃ l m,behind pa pb da db first k i = l ++ m∧(∀ p ∈ m,idle p = true)∧extent l + sumTo (fun j=>(pb j).length) i≤n + sumTo (fun j=>(pb j).length) (i + n + 1)
  | 0,0,i,_,h1,h2=>⟨ends pa pb first i,[],by rw [behind,List.append_nil],fun p hp=>(by cases hp),by rw [ends_ext];simp only [sumTo,Nat.add_zero];omega⟩
  | 0,k + 1,i,_,h1,h2=>by
    refine ⟨ends pa pb first i,mid da db i ++ behind pa pb da db first k (i + 1),by rw [behind,List.append_assoc],fun p hp=>?_,by rw [ends_ext];simp only [sumTo,Nat.add_zero];omega⟩
    rcases List.mem_append.1 hp with hp | hp
    · exact mid_idle (h2 i (by omega)) p hp
    · exact behind_idle pa pb da db first k (i + 1) (fun j hj=>h1 j (by omega)) (fun j hj=>h2 j (by omega)) p hp
  | n + 1,0,i,h,_,_=>by omega
  | n + 1,k + 1,i,h,h1,h2=>by
    obtain ⟨l,m,e,hm,hx⟩:=behind_split pa pb da db first n k (i + 1) (by omega) (fun j hj=>h1 j (by omega)) (fun j hj=>h2 j (by omega))
    refine ⟨ends pa pb first i ++ mid da db i ++ l,m,by rw [behind,e,← List.append_assoc],hm,?_⟩
    rw [extent_append,extent_append,ends_ext]
    have h3:=mid_ext da db i
    rw [show i + (n + 1) + 1 = i + 1 + n + 1 by omega]
    simp only [sumTo] at hx ⊢
    omega
theorem trans_reach (a b:List Pc) (first:Bool):extent (trans a b first)≤extent a + puts b:=by
  unfold trans
  obtain ⟨l,m,e,hm,hx⟩:=behind_split (putAt a) (putAt b) (dropAt a) (dropAt b) first (extent a) (max (extent a) (extent b)) 0 (by omega) (fun j hj=>putAt_far a j (by omega)) (fun j hj=>dropAt_far a j (by omega))
  rw [e,norm_idles l m hm]
  have h1:=extent_norm l
  have h2:=sum_puts b (0 + extent a + 1)
  simp only [sumTo] at hx h2
  omega
end Go.Proofs.Ytidimannfemnmaa.Ltx
