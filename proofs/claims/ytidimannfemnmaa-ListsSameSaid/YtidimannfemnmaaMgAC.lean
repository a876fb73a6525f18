/- MgAC: TreBase LtxBase -/
import Derived.Test.YtidimannfemnmaaMgAA
import Derived.Test.YtidimannfemnmaaMgAB
set_option linter.all false
namespace Go.Proofs.Ytidimannfemnmaa
open Go.RowKit
set_option maxRecDepth 20000

structure FrX (S:Nat→Prop) (w w':World):Prop where
  os:w'.os = w.os
  tape:w'.tape = w.tape
  output:w'.output = w.output
  size:w.heap.size≤w'.heap.size
  block:∀ k,k < w.heap.size→¬ S k→w'.heap[k]? = w.heap[k]?
section
variable {S S':Nat→Prop} {w w' w'':World}
theorem FrX.refl (S:Nat→Prop) (w:World):FrX S w w:=⟨rfl,rfl,rfl,Nat.le_refl _,fun _ _ _=>rfl⟩
theorem FrX.of_below (h:Below w.heap.size w w'):FrX S w w':=⟨h.os,h.tape,h.output,h.size,fun k hk _=>h.block k hk⟩
theorem FrX.trans (h:FrX S w w') (h2:FrX S' w' w'') (hs:∀ k,S' k→S k∨w.heap.size≤k):FrX S w w'' :=
  ⟨h2.os.trans h.os,h2.tape.trans h.tape,h2.output.trans h.output,Nat.le_trans h.size h2.size,fun k hk hn=>(h2.block k (Nat.lt_of_lt_of_le hk h.size) (fun e=>by rcases hs k e with e | e;exact hn e;omega)).trans (h.block k hk hn)⟩
theorem FrX.mono (h:FrX S w w') (hs:∀ k,k < w.heap.size→S k→S' k):FrX S' w w':=⟨h.os,h.tape,h.output,h.size,fun k hk hn=>h.block k hk (fun e=>hn (hs k hk e))⟩
theorem FrX.below {B:Nat} (h:FrX S w w') (hB:∀ k,S k→B≤k) (hb:B≤w.heap.size):Below B w w':=⟨h.os,h.tape,h.output,h.size,fun k hk=>h.block k (by omega) (fun e=>by have:=hB k e;omega)⟩
theorem FrX.setCell {g i:Nat} {v:Value} (h:FrX S w w') (hg:S g):FrX S w (w'.setCell ⟨g,i,none⟩ v) :=
  ⟨h.os,h.tape,h.output,by have:=h.size;simpa using this,fun k hk hn=>(heap_setCell_other w' ⟨g,i,none⟩ k v (fun e=>hn (e ▸ hg))).trans (h.block k hk hn)⟩
theorem FrX.alloc (h:FrX S w w') (o:Obj):FrX S w (w'.alloc o) :=
  ⟨h.os,h.tape,h.output,by have:=h.size;simp;omega,fun k hk hn=>(Go.heap_alloc_old w' _ (Nat.lt_of_lt_of_le hk h.size)).trans (h.block k hk hn)⟩
theorem FrX.of_grown {row:Option Nat} (h:w.grownBy w' row) (hs:∀ k,row = some k→S k):FrX S w w' :=
  ⟨h.os,h.tape,h.output,h.size,fun k hk hn=>h.block k hk (fun e=>hn (hs k e.symm))⟩
end
theorem own_kept {w w':World} {base:Nat} {e:TypeId} {size:Nat} {v:Value} {n:Nat} {xs:List Value} (h:w.ownsRow base e size v n xs) (hk:∀ k,v.ownBlock = some k→w'.heap[k]? = w.heap[k]?):w'.ownsRow base e size v n xs:=by
  refine ⟨h.1,?_⟩
  rcases h.2 with h0 | ⟨g,cap,cur,rfl,hb,hg,rest⟩
  · exact .inl h0
  · exact .inr ⟨g,cap,cur,rfl,hb,(hk g rfl).trans hg,rest⟩
theorem own_typed {w:World} {base:Nat} {e:TypeId} {size:Nat} {v:Value} {n:Nat} {xs:List Value} (h:w.ownsRow base e size v n xs):∀ k,v.ownBlock = some k→∃ cs fr,w.heap[k]? = some (.cells cs e fr):=by
  intro k hk
  rcases h.2 with ⟨rfl,_⟩ | ⟨g,cap,cur,rfl,_,hg,_⟩
  · cases hk
  · have:g = k:=by simpa [Value.ownBlock] using hk
    subst this
    exact ⟨cur,(0,0),hg⟩
theorem own_ne {w:World} {base p:Nat} {e t:TypeId} {size n:Nat} {v:Value} {xs:List Value} {cs:Array Value} {fr:Nat × Nat} (h:w.ownsRow base e size v n xs) (hp:w.heap[p]? = some (.cells cs t fr)) (hne:e ≠ t):v.ownBlock ≠ some p:=by
  intro hk
  obtain ⟨cs',fr',hh⟩:=own_typed h p hk
  rw [hp] at hh
  injection hh with hh
  injection hh with _ h2 _
  exact hne h2.symm

def Its (w:World) (A:Option Addr) (n:Nat) (xs:List Int):Prop :=
  xs.length = n∧∀ k x,xs[k]? = some x→∃ ad:Addr,A = some ad∧ad.block < w.heap.size∧w.cell? (ad.add k) = some (.int .i64 x)
def Fit (xs:List Int):Prop:=∀ x ∈ xs,-9223372036854775808≤x∧x≤9223372036854775807
theorem Its.below {w w':World} {A:Option Addr} {n:Nat} {xs:List Int} (h:Its w A n xs) (hb:Below w.heap.size w w'):Its w' A n xs:=by
  refine ⟨h.1,fun k c hk=>?_⟩
  obtain ⟨ad,e,hlt,hc⟩:=h.2 k c hk
  exact ⟨ad,e,Nat.lt_of_lt_of_le hlt hb.size,(hb.cell (p:=ad.add k) (by rw [block_add];exact hlt)).trans hc⟩
theorem Its.at_ {w:World} {A:Option Addr} {n k:Nat} {xs:List Int} (h:Its w A n xs) (hk:k < n) :
    ∃ (ad:Addr) (x:Int),A = some ad∧xs[k]? = some x∧w.cell? (ad.add k) = some (.int .i64 x):=by
  have hl:k < xs.length:=by rw [h.1];exact hk
  have hg:xs[k]? = some xs[k]:=List.getElem?_eq_getElem hl
  obtain ⟨ad,e,_,hc⟩:=h.2 k _ hg
  exact ⟨ad,_,e,hg,hc⟩
theorem Its.none_ (w:World):Its w none 0 []:=⟨rfl,fun k c h=>by simp at h⟩
theorem Its.of_block {w:World} {g n:Nat} {cs:Array Value} {t:TypeId} {fr:Nat × Nat} {xs:List Int} (h:w.heap[g]? = some (.cells cs t fr)) (hn:xs.length = n)
    (hc:cs = (xs.map fun x=>Value.int .i64 x).toArray):Its w (some ⟨g,0,none⟩) n xs:=by
  refine ⟨hn,fun k c hk=>?_⟩
  have hlt:g < w.heap.size:=(Array.getElem?_eq_some_iff.1 h).1
  have hadd:(⟨g,0,none⟩:Addr).add k = ⟨g,k,none⟩:=by unfold Addr.add;split <;> simp_all
  exact ⟨⟨g,0,none⟩,rfl,hlt,by rw [hadd,cell_of_row w g k cs t fr h,hc];simp [hk]⟩
theorem Fit.at_ {xs:List Int} (h:Fit xs) {k:Nat} {x:Int} (hk:xs[k]? = some x):-9223372036854775808≤x∧x≤9223372036854775807:=h x (List.mem_of_getElem? hk)

def AtsIn (T:Nat→Prop) (w:World) (A:Option Addr) (n:Nat) (l:List (Txt × Txt)):Prop :=
  l.length = n∧∀ q x,l[q]? = some x→∃ ad,A = some ad∧T ad.block∧x.1.length≤maxLen∧x.2.length≤maxLen ∧
    w.cell? (ad.add (q * 2)) = some (.string ⟨x.1.toArray⟩)∧w.cell? ⟨(ad.add (q * 2)).block,(ad.add (q * 2)).off + 1,none⟩ = some (.string ⟨x.2.toArray⟩)
def Six (w:World) (E:Addr) (t:Nd) (aA:Option Addr) (an ac:Nat) (kA:Option Addr) (kn kc:Nat):Prop :=
  w.cell? E = some (.int .u64 (t.id:Int))∧w.cell? ⟨E.block,E.off + 1,none⟩ = some (.bool t.leaf)∧w.cell? ⟨E.block,E.off + 2,none⟩ = some (.string ⟨t.label.toArray⟩) ∧
    w.cell? ⟨E.block,E.off + 3,none⟩ = some (.slice aA an ac)∧w.cell? ⟨E.block,E.off + 4,none⟩ = some (.string ⟨t.text.toArray⟩)∧w.cell? ⟨E.block,E.off + 5,none⟩ = some (.slice kA kn kc)
mutual
def NodeV (T:Nat→Prop) (w:World) (aA:Option Addr) (an ac:Nat) (kA:Option Addr) (kn kc:Nat):Nd→Prop
  | .mk i _ b ps x ks=>i < 18446744073709551616∧b.length≤maxLen∧x.length≤maxLen∧AtsIn T w aA an ps∧an≤ac∧ac≤maxLen∧(aA = none→ac = 0) ∧
    ks.length = kn∧kn≤kc∧kc≤maxLen∧(kA = none→kc = 0)∧RowAt T w kA 0 ks
def RowAt (T:Nat→Prop) (w:World) (A:Option Addr):Nat→List Nd→Prop
  | _,[]=>True
  | q,t :: r=>(∃ ad aA an ac kA kn kc,A = some ad∧T ad.block∧Six w (ad.add (q * 6)) t aA an ac kA kn kc∧NodeV T w aA an ac kA kn kc t)∧RowAt T w A (q + 1) r
end
def NodeAt (T:Nat→Prop) (w:World) (E:Addr) (t:Nd):Prop:=T E.block∧∃ aA an ac kA kn kc,Six w E t aA an ac kA kn kc∧NodeV T w aA an ac kA kn kc t
structure NFacts (T:Nat→Prop) (w:World) (aA:Option Addr) (an ac:Nat) (kA:Option Addr) (kn kc:Nat) (t:Nd):Prop where
  id:t.id < 18446744073709551616
  label:t.label.length≤maxLen
  text:t.text.length≤maxLen
  ats:AtsIn T w aA an t.attrs
  anc:an≤ac
  acm:ac≤maxLen
  anil:aA = none→ac = 0
  kl:t.kids.length = kn
  knc:kn≤kc
  kcm:kc≤maxLen
  knil:kA = none→kc = 0
  row:RowAt T w kA 0 t.kids
section
variable {T T':Nat→Prop} {w w':World} {aA kA A:Option Addr} {an ac kn kc:Nat} {t:Nd}
theorem NodeV.facts (h:NodeV T w aA an ac kA kn kc t):NFacts T w aA an ac kA kn kc t:=by
  cases t
  simp only [NodeV] at h
  obtain ⟨h1,h2,h3,h4,h5,h6,h7,h8,h9,h10,h11,h12⟩:=h
  exact ⟨h1,h2,h3,h4,h5,h6,h7,h8,h9,h10,h11,h12⟩
theorem NFacts.node (h:NFacts T w aA an ac kA kn kc t):NodeV T w aA an ac kA kn kc t:=by
  cases t
  simp only [NodeV]
  obtain ⟨h1,h2,h3,h4,h5,h6,h7,h8,h9,h10,h11,h12⟩:=h
  exact ⟨h1,h2,h3,h4,h5,h6,h7,h8,h9,h10,h11,h12⟩
theorem RowAt.at_:∀ {l:List Nd} {q0 q:Nat} {t:Nd},RowAt T w A q0 l→l[q]? = some t→∃ ad,A = some ad∧NodeAt T w (ad.add ((q0 + q) * 6)) t
  | [],q0,q,t,_,h=>by simp at h
  | k :: r,q0,0,t,h,hq=>by
    simp only [RowAt] at h
    simp at hq
    subst hq
    obtain ⟨⟨ad,aA,an,ac,kA,kn,kc,e,hT,h6,hv⟩,_⟩:=h
    exact ⟨ad,e,by rw [block_add];exact hT,aA,an,ac,kA,kn,kc,h6,hv⟩
  | k :: r,q0,q + 1,t,h,hq=>by
    simp only [RowAt] at h
    obtain ⟨ad,e,hn⟩:=h.2.at_ (q:=q) (by simpa using hq)
    exact ⟨ad,e,by rw [show q0 + (q + 1) = q0 + 1 + q by omega];exact hn⟩
theorem RowAt.of:∀ (l:List Nd) (q0:Nat),(∀ q t,l[q]? = some t→∃ ad,A = some ad∧NodeAt T w (ad.add ((q0 + q) * 6)) t)→RowAt T w A q0 l
  | [],q0,_=>by simp [RowAt]
  | k :: r,q0,h=>by
    simp only [RowAt]
    obtain ⟨ad,e,hT,aA,an,ac,kA,kn,kc,h6,hv⟩:=h 0 k rfl
    rw [block_add] at hT
    exact ⟨⟨ad,aA,an,ac,kA,kn,kc,e,hT,h6,hv⟩,RowAt.of r (q0 + 1) fun q t hq=>by
      obtain ⟨ad,e,hn⟩:=h (q + 1) t (by simpa using hq)
      exact ⟨ad,e,by rw [show q0 + 1 + q = q0 + (q + 1) by omega];exact hn⟩⟩
theorem Six.kept {E:Addr} (h:Six w E t aA an ac kA kn kc) (hb:w'.heap[E.block]? = w.heap[E.block]?):Six w' E t aA an ac kA kn kc:=by
  obtain ⟨h1,h2,h3,h4,h5,h6⟩:=h
  have c:∀ o,w'.cell? ⟨E.block,o,none⟩ = w.cell? ⟨E.block,o,none⟩:=fun o=>World.cell?_of_block (w:=w) (w':=w') (a:=⟨E.block,o,none⟩) hb
  exact ⟨(World.cell?_of_block (w:=w) (w':=w') (a:=E) hb).trans h1,(c _).trans h2,(c _).trans h3,(c _).trans h4,(c _).trans h5,(c _).trans h6⟩
theorem AtsIn.kept {n:Nat} {l:List (Txt × Txt)} (hT:∀ k,T k→T' k) (hk:∀ k,T k→w'.heap[k]? = w.heap[k]?) (h:AtsIn T w A n l):AtsIn T' w' A n l:=by
  refine ⟨h.1,fun q x hx=>?_⟩
  obtain ⟨ad,e,ht,l1,l2,c1,c2⟩:=h.2 q x hx
  have hb:w'.heap[(ad.add (q * 2)).block]? = w.heap[(ad.add (q * 2)).block]?:=by rw [block_add];exact hk _ ht
  exact ⟨ad,e,hT _ ht,l1,l2,(World.cell?_of_block (w:=w) (w':=w') (a:=ad.add (q * 2)) hb).trans c1,(World.cell?_of_block (w:=w) (w':=w') (a:=⟨(ad.add (q * 2)).block,(ad.add (q * 2)).off + 1,none⟩) hb).trans c2⟩
mutual
theorem NodeV.kept (hT:∀ k,T k→T' k) (hk:∀ k,T k→w'.heap[k]? = w.heap[k]?):∀ (t:Nd) (aA:Option Addr) (an ac:Nat) (kA:Option Addr) (kn kc:Nat),NodeV T w aA an ac kA kn kc t→NodeV T' w' aA an ac kA kn kc t
  | .mk i l b ps x ks,aA,an,ac,kA,kn,kc,h=>by
    simp only [NodeV] at h ⊢
    obtain ⟨h1,h2,h3,h4,h5,h6,h7,h8,h9,h10,h11,h12⟩:=h
    exact ⟨h1,h2,h3,h4.kept hT hk,h5,h6,h7,h8,h9,h10,h11,RowAt.kept hT hk ks kA 0 h12⟩
theorem RowAt.kept (hT:∀ k,T k→T' k) (hk:∀ k,T k→w'.heap[k]? = w.heap[k]?):∀ (l:List Nd) (A:Option Addr) (q:Nat),RowAt T w A q l→RowAt T' w' A q l
  | [],_,_,_=>by simp [RowAt]
  | t :: r,A,q,h=>by
    simp only [RowAt] at h ⊢
    obtain ⟨⟨ad,aA,an,ac,kA,kn,kc,e,ht,h6,hv⟩,hr⟩:=h
    exact ⟨⟨ad,aA,an,ac,kA,kn,kc,e,hT _ ht,h6.kept (by rw [block_add];exact hk _ ht),NodeV.kept hT hk t aA an ac kA kn kc hv⟩,RowAt.kept hT hk r A (q + 1) hr⟩
end
theorem NodeAt.kept {E:Addr} (hT:∀ k,T k→T' k) (hk:∀ k,T k→w'.heap[k]? = w.heap[k]?) (h:NodeAt T w E t):NodeAt T' w' E t:=by
  obtain ⟨ht,aA,an,ac,kA,kn,kc,h6,hv⟩:=h
  exact ⟨hT _ ht,aA,an,ac,kA,kn,kc,h6.kept (hk _ ht),NodeV.kept hT hk t aA an ac kA kn kc hv⟩
theorem zero_node:NodeV T w none 0 0 none 0 0 Nd.zero:=by
  refine NFacts.node ⟨by decide,Nat.zero_le _,Nat.zero_le _,⟨rfl,fun q x h=>by simp [Nd.zero,Nd.attrs] at h⟩,Nat.le_refl _,Nat.zero_le _,fun _=>rfl,rfl,Nat.le_refl _,Nat.zero_le _,fun _=>rfl,?_⟩
  simp [Nd.zero,Nd.kids,RowAt]
theorem AtsIn.at_ {n q:Nat} {l:List (Txt × Txt)} (h:AtsIn T w A n l) (hq:q < n):∃ ad x,A = some ad∧l[q]? = some x∧T ad.block∧x.1.length≤maxLen∧x.2.length≤maxLen ∧
    w.cell? (ad.add (q * 2)) = some (.string ⟨x.1.toArray⟩)∧w.cell? ⟨(ad.add (q * 2)).block,(ad.add (q * 2)).off + 1,none⟩ = some (.string ⟨x.2.toArray⟩):=by
  have hl:q < l.length:=by rw [h.1];exact hq
  have hg:l[q]? = some l[q]:=List.getElem?_eq_getElem hl
  obtain ⟨ad,e,hb,hc⟩:=h.2 q _ hg
  exact ⟨ad,_,e,hg,hb,hc⟩
end
def val6 (t:Nd) (aA:Option Addr) (an ac:Nat) (kA:Option Addr) (kn kc:Nat):Array Value :=
  #[.int .u64 (t.id:Int),.bool t.leaf,.string ⟨t.label.toArray⟩,.slice aA an ac,.string ⟨t.text.toArray⟩,.slice kA kn kc]
def Old (w:World) (k:Nat):Prop:=k < w.heap.size
theorem old_below {w w':World} (h:Below w.heap.size w w'):(∀ k,Old w k→Old w' k)∧∀ k,Old w k→w'.heap[k]? = w.heap[k]?:=⟨fun _ hk=>Nat.lt_of_lt_of_le hk h.size,fun k hk=>h.block k hk⟩
theorem NodeV.below {w w':World} {t:Nd} {aA kA:Option Addr} {an ac kn kc:Nat} (h:NodeV (Old w) w aA an ac kA kn kc t) (hb:Below w.heap.size w w'):NodeV (Old w') w' aA an ac kA kn kc t:=h.kept (old_below hb).1 (old_below hb).2
theorem NodeAt.below {w w':World} {t:Nd} {E:Addr} (h:NodeAt (Old w) w E t) (hb:Below w.heap.size w w'):NodeAt (Old w') w' E t:=h.kept (old_below hb).1 (old_below hb).2
end Go.Proofs.Ytidimannfemnmaa
namespace Go.Proofs.Ytidimannfemnmaa.P5
open Go.RowKit
set_option maxRecDepth 20000

structure IP where
  keep:Int
  drop:Int
  put:List UInt8
def tx (l:List UInt8):Value:=.string ⟨l.toArray⟩
def PieceAt (w:World) (E:Addr) (x:IP):Prop :=
  -9223372036854775808≤x.keep∧x.keep≤9223372036854775807∧-9223372036854775808≤x.drop∧x.drop≤9223372036854775807∧x.put.length≤maxLen ∧
    w.cell? E = some (.int .i64 x.keep)∧w.cell? ⟨E.block,E.off + 1,none⟩ = some (.int .i64 x.drop)∧w.cell? ⟨E.block,E.off + 2,none⟩ = some (.string ⟨x.put.toArray⟩)
def PcsIn (w:World) (A:Option Addr) (n:Nat) (xs:List IP):Prop:=xs.length = n∧∀ q x,xs[q]? = some x→∃ ad,A = some ad∧ad.block < w.heap.size∧PieceAt w (ad.add (q * 3)) x
theorem PieceAt.where_ {w w':World} {E:Addr} {x:IP} (h:PieceAt w E x) (hb:w'.heap[E.block]? = w.heap[E.block]?):PieceAt w' E x:=by
  obtain ⟨h1,h2,h3,h4,h5,h6,h7,h8⟩:=h
  exact ⟨h1,h2,h3,h4,h5,(World.cell?_of_block (w:=w) (w':=w') (a:=E) hb).trans h6,(World.cell?_of_block (w:=w) (w':=w') (a:=⟨E.block,E.off + 1,none⟩) hb).trans h7,(World.cell?_of_block (w:=w) (w':=w') (a:=⟨E.block,E.off + 2,none⟩) hb).trans h8⟩
theorem PcsIn.below {w w':World} {A:Option Addr} {n:Nat} {xs:List IP} (h:PcsIn w A n xs) (hb:Below w.heap.size w w'):PcsIn w' A n xs:=by
  refine ⟨h.1,fun q x hx=>?_⟩
  obtain ⟨ad,e,hl,hc⟩:=h.2 q x hx
  exact ⟨ad,e,Nat.lt_of_lt_of_le hl hb.size,hc.where_ (hb.block _ (by rw [block_add];exact hl))⟩
theorem PcsIn.nil (w:World):PcsIn w none 0 []:=⟨rfl,fun q x h=>by simp at h⟩
theorem PcsIn.none_nil {w:World} {n:Nat} {xs:List IP} (h:PcsIn w none n xs):xs = []:=by
  cases xs with
  | nil=>rfl
  | cons c r =>
    obtain ⟨ad,e,_⟩:=h.2 0 c rfl
    cases e
theorem PcsIn.at_ {w:World} {A:Option Addr} {n q:Nat} {xs:List IP} (h:PcsIn w A n xs) (hq:q < n):∃ ad x,A = some ad∧xs[q]? = some x∧ad.block < w.heap.size∧PieceAt w (ad.add (q * 3)) x:=by
  have hl:q < xs.length:=by rw [h.1];exact hq
  have hg:xs[q]? = some xs[q]:=List.getElem?_eq_getElem hl
  obtain ⟨ad,e,hb,hc⟩:=h.2 q _ hg
  exact ⟨ad,_,e,hg,hb,hc⟩

def ipc (p:Ltx.Pc):IP:=⟨(p.keep:Int),(p.drop:Int),p.put⟩
def cellsOf (p:Ltx.Pc):List Value:=[.int .i64 (p.keep:Int),.int .i64 (p.drop:Int),.string ⟨p.put.toArray⟩]
theorem cells_at:∀ (l:List Ltx.Pc) (q:Nat) (p:Ltx.Pc),l[q]? = some p→∀ j v,(cellsOf p)[j]? = some v→(l.flatMap cellsOf)[q * 3 + j]? = some v
  | a :: r,0,p,h,j,v,hj=>by
    simp at h
    subst h
    have hjl:=(List.getElem?_eq_some_iff.1 hj).1
    rw [List.flatMap_cons,Nat.zero_mul,Nat.zero_add,List.getElem?_append_left hjl,hj]
  | a :: r,q + 1,p,h,j,v,hj=>by
    have ih:=cells_at r q p (by simpa using h) j v hj
    rw [List.flatMap_cons,List.getElem?_append_right (by simp [cellsOf];omega)]
    rw [show (q + 1) * 3 + j - (cellsOf a).length = q * 3 + j by simp [cellsOf];omega]
    exact ih
def Low (l:List Ltx.Pc):Prop:=∀ p ∈ l,p.keep≤4000000000∧p.drop≤4000000000∧p.put.length≤4000000000
def OwnP (base:Nat) (w:World) (v:Value) (l:List Ltx.Pc):Prop:=w.ownsRow base 60 3 v l.length (l.flatMap cellsOf)
theorem OwnP.nil_ (base:Nat) (w:World):OwnP base w (.slice none 0 0) []:=World.ownsRow_nil w base _ _
theorem Try.infoP:(Try.prog.info? 60).map (fun i=>(i.zero,i.size,i.bytes)) = some (some (.agg #[.int .i64 0,.int .i64 0,.string ⟨#[]⟩]),3,32):=by kernel_rfl
theorem OwnP.shape {base:Nat} {w:World} {v:Value} {l:List Ltx.Pc} (h:OwnP base w v l) (hl:Low l):∃ (A:Option Addr) (n c:Nat),v = .slice A n c∧n = l.length∧n≤c∧c≤maxLen∧PcsIn w A n (l.map ipc)∧(A = none→c = 0):=by
  obtain ⟨A,c,rfl,h1,h2,h3,h4⟩:=own_form h
  refine ⟨A,_,c,rfl,rfl,h1,h2,⟨by simp,fun q x hx=>?_⟩,h3⟩
  rw [List.getElem?_map] at hx
  cases hp:l[q]? with
  | none=>rw [hp] at hx;cases hx
  | some p =>
    rw [hp] at hx
    simp only [Option.map_some,Option.some.injEq] at hx
    subst hx
    have hq:=(List.getElem?_eq_some_iff.1 hp).1
    obtain ⟨g,rfl,hb,hlt,hc⟩:=h4 (by omega)
    have hm:=hl p (List.mem_of_getElem? hp)
    have c0:=hc _ _ (cells_at l q p hp 0 _ rfl)
    have c1:=hc _ _ (cells_at l q p hp 1 _ rfl)
    have c2:=hc _ _ (cells_at l q p hp 2 _ rfl)
    have hadd:(⟨g,0,none⟩:Addr).add (q * 3) = ⟨g,q * 3,none⟩:=by unfold Addr.add;split <;> simp_all
    refine ⟨_,rfl,hlt,?_⟩
    rw [hadd]
    refine ⟨?_,?_,?_,?_,?_,c0,c1,c2⟩
    · show -9223372036854775808≤(p.keep:Int);omega
    · show (p.keep:Int)≤9223372036854775807;omega
    · show -9223372036854775808≤(p.drop:Int);omega
    · show (p.drop:Int)≤9223372036854775807;omega
    · show p.put.length≤maxLen;unfold maxLen;omega
end Go.Proofs.Ytidimannfemnmaa.P5
