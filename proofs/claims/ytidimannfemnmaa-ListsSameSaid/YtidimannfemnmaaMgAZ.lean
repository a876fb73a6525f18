/- MgAZ: LstMt LstLp LstLq LstLa LstBring LstBall LstBoth -/
import Derived.Test.YtidimannfemnmaaMgAX
import Derived.Test.YtidimannfemnmaaMgAY
import Derived.Test.YtidimannfemnmaaMgAS
import Derived.Test.YtidimannfemnmaaMgAV
import Derived.Test.YtidimannfemnmaaTopS
set_option linter.all false
namespace Go.Proofs.Ytidimannfemnmaa.Lst
open Go.RowKit Top Shf Sim Sqr
set_option maxRecDepth 20000

def Tn (g:Nat) (va vb:Value) (k:Nat):Prop:=k = g∨va.ownBlock = some k∨vb.ownBlock = some k
structure Mt (base:Nat) (w:World) (g:Nat) (p:Bool) (la lb:List (Ov × OS)) (va vb:Value):Prop where
  box:w.heap[g]? = some (.cells #[va,vb,.bool p] 151 (0,0))
  gb:base≤g
  oa:OwnO base w va la
  ob:OwnO base w vb lb
  ea:∀ x ∈ la,OwnOp base w x.1 x.2∧OvOk x.1
  eb:∀ x ∈ lb,OwnOp base w x.1 x.2∧OvOk x.1
  ap:∀ k,va.ownBlock = some k→vb.ownBlock ≠ some k
section
variable {base:Nat} {w w':World} {g:Nat} {p:Bool} {la lb:List (Ov × OS)} {va vb:Value}
theorem Mt.typed (h:Mt base w g p la lb va vb):∀ k,Tn g va vb k→∃ cs t fr,w.heap[k]? = some (.cells cs t fr)∧(t = 52∨t = 151):=fun k hk=>by
  rcases hk with rfl | e | e
  · exact ⟨_,_,_,h.box,.inr rfl⟩
  · obtain ⟨cs,hc⟩:=h.oa.block e
    exact ⟨_,_,_,hc,.inl rfl⟩
  · obtain ⟨cs,hc⟩:=h.ob.block e
    exact ⟨_,_,_,hc,.inl rfl⟩
theorem Mt.ga (h:Mt base w g p la lb va vb):va.ownBlock ≠ some g:=fun e=>by
  obtain ⟨cs,hc⟩:=h.oa.block e
  rw [h.box] at hc
  injection hc with hc
  injection hc with _ h2 _
  exact absurd h2 (by decide)
theorem Mt.gbb (h:Mt base w g p la lb va vb):vb.ownBlock ≠ some g:=fun e=>by
  obtain ⟨cs,hc⟩:=h.ob.block e
  rw [h.box] at hc
  injection hc with hc
  injection hc with _ h2 _
  exact absurd h2 (by decide)
end
theorem own_frx {S:Nat→Prop} {base:Nat} {w w':World} {e:TypeId} {size n:Nat} {v:Value} {xs:List Value} (h:w.ownsRow base e size v n xs) (hf:FrX S w w') (hn:∀ k,v.ownBlock = some k→¬ S k):w'.ownsRow base e size v n xs:=by
  refine ⟨h.1,?_⟩
  rcases h.2 with h2 | ⟨k,cap,cur,rfl,hb,hg,hr⟩
  · exact .inl h2
  · exact .inr ⟨k,cap,cur,rfl,hb,(hf.block k (Array.getElem?_eq_some_iff.1 hg).1 (hn k rfl)).trans hg,hr⟩
theorem own_type {base:Nat} {w:World} {e:TypeId} {size n:Nat} {v:Value} {xs:List Value} (h:w.ownsRow base e size v n xs) {k:Nat} (hk:v.ownBlock = some k):∃ cs,w.heap[k]? = some (.cells cs e (0,0)):=by
  rcases h.2 with ⟨rfl,_⟩ | ⟨g,cap,cur,rfl,hb,hg,hr⟩
  · cases hk
  · have e2:g = k:=by simpa [Value.ownBlock] using hk
    subst e2
    exact ⟨cur,hg⟩
def OfOps (S:Nat→Prop) (w:World):Prop:=∀ k,S k→∃ cs t fr,w.heap[k]? = some (.cells cs t fr)∧(t = 52∨t = 151)
theorem op_frx {S:Nat→Prop} {base:Nat} {w w':World} {o:Ov} {s:OS} (h:OwnOp base w o s) (hS:OfOps S w) (hf:FrX S w w'):OwnOp base w' o s:=by
  have no:∀ {e:TypeId} {size n:Nat} {v:Value} {xs:List Value},w.ownsRow base e size v n xs→e ≠ 52→e ≠ 151→∀ k,v.ownBlock = some k→¬ S k:=fun {e size n v xs} ho h1 h2 k hk hs=>by
    obtain ⟨cs,t,fr,hc,ht⟩:=hS k hs
    obtain ⟨cs',hc'⟩:=own_type ho hk
    rw [hc] at hc'
    injection hc' with hc'
    injection hc' with _ e2 _
    subst e2
    rcases ht with ht | ht
    · exact h1 ht
    · exact h2 ht
  exact ⟨own_frx h.path hf (no h.path (by decide) (by decide)),own_frx h.to_ hf (no h.to_ (by decide) (by decide)),own_frx h.pieces hf (no h.pieces (by decide) (by decide))⟩
theorem NewO.frx {S:Nat→Prop} {base:Nat} {w w':World} {A:Option Addr} {n c:Nat} {l:List (Ov × OS)} (h:NewO base w A n c l) (hS:OfOps S w) (hf:FrX S w w') (hn:∀ k,(Value.slice A n c).ownBlock = some k→¬ S k):NewO base w' A n c l :=
  ⟨own_frx h.1 hf hn,fun x hx=>⟨op_frx (h.2 x hx).1 hS hf,(h.2 x hx).2⟩⟩
theorem frx_grown {w w':World} {k:Nat} (h:w.grownBy w' (some k)):FrX (fun i=>i = k) w w' :=
  ⟨h.os,h.tape,h.output,h.size,fun i hi hn=>h.block i hi (fun e=>by injection e with e;exact hn e)⟩
theorem frx_grown_o {w w':World} {v:Option Nat} (h:w.grownBy w' v):FrX (fun i=>v = some i) w w' :=
  ⟨h.os,h.tape,h.output,h.size,fun i hi hn=>h.block i hi (fun e=>hn e.symm)⟩
theorem frx_set {w:World} {g i:Nat} {v:Value}:FrX (fun k=>k = g) w (w.setCell ⟨g,i,none⟩ v) :=
  ⟨rfl,rfl,rfl,by simp [World.setCell],fun k _ hn=>heap_setCell_other w _ k v hn⟩
def BringA (base:Nat) (g:Nat) (p:Bool) (la lb:List (Ov × OS)) (va vb:Value) (from_:Nat) (R:Res) (w:World) (e:Ending) (w':World):Prop :=
  e = .returned (.int .i64 R.2.2)∧FrX (Tn g va vb) w w'∧(R.2.2 = 0→∃ la' lb' va' vb',Mt base w' g p la' lb' va' vb'∧la'.map Prod.fst = la.map Prod.fst ++ R.1∧lb'.map Prod.fst = (lb.map Prod.fst).take from_ ++ R.2.1 ∧
    (∀ k,va'.ownBlock = some k→va.ownBlock = some k∨w.heap.size≤k)∧(∀ k,vb'.ownBlock = some k→vb.ownBlock = some k∨w.heap.size≤k))
def AllOk (n:Nat):Prop:=∀ (base:Nat) (w:World) (g:Nat) (p:Bool) (la lb:List (Ov × OS)) (va vb:Value) (A:Option Addr) (m c:Nat) (lx:List (Ov × OS)) (from_:Nat) (R:Res),
  Mt base w g p la lb va vb→NewO base w A m c lx→(∀ k,(Value.slice A m c).ownBlock = some k→¬ Tn g va vb k)→from_≤lb.length→la.length + lx.length + lb.length≤4096→base≤w.heap.size →
  metV p n (lx.map Prod.fst) ((lb.map Prod.fst).drop from_) = some R →
  Calls Try.prog 133 #[.pointer (some ⟨g,0,none⟩),.slice A m c,.int .i64 (from_:Int)] w (BringA base g p la lb va vb from_ R w)
end Go.Proofs.Ytidimannfemnmaa.Lst
namespace Go.Proofs.Ytidimannfemnmaa.Lst
open Go.RowKit Top Shf Sim Sqr
set_option maxRecDepth 20000

theorem cut_drop {α:Type} (L M N:List α):(L ++ (M ++ N)).drop (L.length + M.length) = N:=by rw [← List.append_assoc,← List.length_append];exact List.drop_left
theorem cut_take {α:Type} (L M N:List α):(L ++ (M ++ N)).take (L.length + M.length) = L ++ M:=by rw [← List.append_assoc,← List.length_append];exact List.take_left
structure Lp (n base:Nat) (w:World) (g:Nat) (p:Bool) (la lb:List (Ov × OS)) (va vb:Value) (from_:Nat) (R:Res) (j:Nat) (A:Option Addr) (n1 c1:Nat) (lA lbj:List (Ov × OS)) (vbj:Value) (wr:World):Prop where
  new:NewO base wr A n1 c1 lA
  apart:∀ k,(Value.slice A n1 c1).ownBlock = some k→¬ Tn g va vbj k
  mt:Mt base wr g p la lbj va vbj
  jle:j≤lbj.length
  fx:FrX (Tn g va vb) w wr
  vbk:∀ k,vbj.ownBlock = some k→vb.ownBlock = some k∨w.heap.size≤k
  len:la.length + lA.length + lbj.length≤4096
  low:base≤wr.heap.size
  met:∃ nf Rj,metV p nf (lA.map Prod.fst) ((lbj.map Prod.fst).drop j) = some Rj∧nf≤n∧(lA.length ≠ 1→nf < n)∧(Rj.2.2 ≠ 0→R.2.2 = Rj.2.2)∧(Rj.2.2 = 0→R.2.2 = 0∧R.1 = Rj.1∧(lb.map Prod.fst).take from_ ++ R.2.1 = (lbj.map Prod.fst).take j ++ Rj.2.1)
section
variable {n base:Nat} {w:World} {g:Nat} {p:Bool} {la lb:List (Ov × OS)} {va vb:Value} {from_:Nat} {R:Res} {j:Nat} {A:Option Addr} {n1 c1:Nat} {lA lbj:List (Ov × OS)} {vbj:Value} {wr:World}
theorem drop_map {l:List (Ov × OS)} {j:Nat} {x:Ov × OS} (hx:l[j]? = some x):(l.map Prod.fst).drop j = x.1 :: (l.map Prod.fst).drop (j + 1):=by
  have h1:(l.map Prod.fst)[j]? = some x.1:=by rw [List.getElem?_map,hx];rfl
  obtain ⟨h2,h3⟩:=List.getElem?_eq_some_iff.1 h1
  rw [List.drop_eq_getElem_cons h2,h3]
theorem Lp.good (h:Lp n base w g p la lb va vb from_ R j A n1 c1 lA lbj vbj wr) {x0 x:Ov × OS} (h0:lA = [x0]) (hx:lbj[j]? = some x):Good x0.1 x.1∧((bothV x0.1 x.1 p).2.2 ≠ 0→R.2.2 = (bothV x0.1 x.1 p).2.2):=by
  obtain ⟨nf,Rj,hm,h1,h2,h3,h4⟩:=h.met
  subst h0
  rw [drop_map hx] at hm
  obtain ⟨m,rfl⟩:∃ m,nf = m + 1:=⟨nf - 1,by have:=met_pos hm;omega⟩
  obtain ⟨k1,k2,k3⟩:=met_step hm
  refine ⟨k1,fun e=>?_⟩
  have k4:=k2 e
  rw [h3 (by rw [k4];exact e),k4]
theorem Lp.next (h:Lp n base w g p la lb va vb from_ R j A n1 c1 lA lbj vbj wr) {x0 x:Ov × OS} (h0:lA = [x0]) (hx:lbj[j]? = some x) {w1:World} (hb1:Below wr.heap.size wr w1) {A1:Option Addr} {n2 c2:Nat} {l1:List (Ov × OS)} (h1:NewO wr.heap.size w1 A1 n2 c2 l1)
    {Av:Option Addr} {m d:Nat} {l2:List (Ov × OS)} (h2:NewO wr.heap.size w1 Av m d l2) (hboth:bothV x0.1 x.1 p = (l1.map Prod.fst,l2.map Prod.fst,0)) {gb nb cb:Nat} (hvb:vbj = .slice (some ⟨gb,0,none⟩) nb cb)
    {k nk ck:Nat} {w2:World} (hrep:OwnO base w2 (.slice (some ⟨k,0,none⟩) nk ck) (lbj.take j ++ (l2 ++ lbj.drop (j + 1)))) (hg2:w1.grownBy w2 (some gb)) (hk:k = gb∨w1.heap.size≤k) :
    Lp n base w g p la lb va vb from_ R (j + m) A1 n2 c2 l1 (lbj.take j ++ (l2 ++ lbj.drop (j + 1))) (.slice (some ⟨k,0,none⟩) nk ck) (w2.setCell ⟨g,1,none⟩ (.slice (some ⟨k,0,none⟩) nk ck)):=by
  have hjl:=(List.getElem?_eq_some_iff.1 hx).1
  have hlm:=h2.len
  have hgl:g < wr.heap.size:=(Array.getElem?_eq_some_iff.1 h.mt.box).1
  have hvbo:vbj.ownBlock = some gb:=by rw [hvb];rfl
  have hgbl:gb < wr.heap.size:=by
    obtain ⟨cs,hc⟩:=h.mt.ob.block hvbo
    exact (Array.getElem?_eq_some_iff.1 hc).1
  have hggb:g ≠ gb:=fun e=>h.mt.gbb (by rw [hvbo,e])
  have hval:∀ i,va.ownBlock = some i→i < wr.heap.size:=fun i e=>by
    obtain ⟨cs,hc⟩:=h.mt.oa.block e
    exact (Array.getElem?_eq_some_iff.1 hc).1
  have f2:=frx_grown hg2
  have t2:OfOps (fun i=>i = gb) w1:=fun i e=>by
    subst e
    obtain ⟨cs,hc⟩:=h.mt.ob.block hvbo
    exact ⟨_,_,_,(hb1.block _ hgbl).trans hc,.inl rfl⟩
  have bx1:w1.heap[g]? = _:=(hb1.block g hgl).trans h.mt.box
  have bx2:w2.heap[g]? = _:=(f2.block g (Nat.lt_of_lt_of_le hgl hb1.size) hggb).trans bx1
  have f3:FrX (fun i=>i = g) w2 (w2.setCell ⟨g,1,none⟩ (.slice (some ⟨k,0,none⟩) nk ck)):=frx_set
  have t3:OfOps (fun i=>i = g) w2:=fun i e=>by subst e;exact ⟨_,_,_,bx2,.inr rfl⟩
  have bx3:=heap_setCell_same w2 g 1 _ _ (Value.slice (some ⟨k,0,none⟩) nk ck) bx2
  have ops:∀ {b:Nat} {o:Ov} {s:OS},OwnOp b w1 o s→OwnOp b (w2.setCell ⟨g,1,none⟩ (.slice (some ⟨k,0,none⟩) nk ck)) o s:=fun ho=>op_frx (op_frx ho t2 f2) t3 f3
  have kg:k ≠ g:=by rcases hk with rfl | hk;exact fun e=>hggb e.symm;have:=hb1.size;omega
  have l1k:∀ i,(Value.slice A1 n2 c2).ownBlock = some i→wr.heap.size≤i∧i < w1.heap.size:=fun i e=>by
    rcases h1.1.2 with ⟨e2,_⟩ | ⟨g',cap,cur,e2,hb,hg,_⟩
    · rw [e2] at e;cases e
    · rw [e2] at e
      have e3:g' = i:=by simpa [Value.ownBlock] using e
      subst e3
      exact ⟨hb,(Array.getElem?_eq_some_iff.1 hg).1⟩
  obtain ⟨nf,Rj,hm,q1,q2,q3,q4⟩:=h.met
  have hsq:=sq hboth
  have e1:=congrArg List.length (show l1.map Prod.fst = l1.map Prod.fst from rfl)
  have hcnt:l1.length + l2.length≤2:=by
    rcases hsq with ⟨s1,s2,-⟩ | ⟨s1,s2,-⟩ | ⟨s1,s2,-⟩ | ⟨s1,s2,-⟩ | ⟨s1,s2,-⟩ <;> (try have s3:=congrArg List.length s2) <;> simp only [List.length_map,List.length_nil] at * <;> omega
  refine ⟨⟨?_,fun y hy=>⟨(ops (h1.2 y hy).1).mono h.low,(h1.2 y hy).2⟩⟩,?_,⟨?_,h.mt.gb,?_,?_,?_,?_,?_⟩,?_,?_,?_,?_,?_,?_⟩
  · exact own_frx (own_frx (own_mono h1.1 h.low) f2 (fun i e=>by have:=l1k i e;omega)) f3 (fun i e=>by have:=l1k i e;omega)
  · intro i e ht
    have h5:=l1k i e
    rcases ht with rfl | e2 | e2
    · omega
    · have:=hval i e2;omega
    · have e3:k = i:=by simpa [Value.ownBlock] using e2
      rcases hk with hk | hk <;> omega
  · rw [bx3];rfl
  · exact own_frx (own_frx (h.mt.oa.kept fun i _ hi=>hb1.block i hi) f2 (fun i e e2=>h.mt.ap i e (by rw [hvbo,e2]))) f3 (fun i e e2=>h.mt.ga (by rw [e,e2]))
  · exact own_frx hrep f3 (fun i e e2=>by have e3:k = i:=by simpa [Value.ownBlock] using e
                                            exact kg (e3.trans e2))
  · exact fun y hy=>⟨ops ((h.mt.ea y hy).1.kept fun i _ hi=>hb1.block i hi),(h.mt.ea y hy).2⟩
  · intro y hy
    have old:y ∈ lbj→OwnOp base (w2.setCell ⟨g,1,none⟩ (.slice (some ⟨k,0,none⟩) nk ck)) y.1 y.2∧OvOk y.1:=fun hy=>⟨ops ((h.mt.eb y hy).1.kept fun i _ hi=>hb1.block i hi),(h.mt.eb y hy).2⟩
    rcases List.mem_append.1 hy with hy | hy
    · exact old (List.mem_of_mem_take hy)
    · rcases List.mem_append.1 hy with hy | hy
      · exact ⟨(ops (h2.2 y hy).1).mono h.low,(h2.2 y hy).2⟩
      · exact old (List.mem_of_mem_drop hy)
  · intro i e e2
    have e3:k = i:=by simpa [Value.ownBlock] using e2
    rcases hk with hk | hk
    · exact h.mt.ap i e (by rw [hvbo,← hk,e3])
    · have:=hval i e;have:=hb1.size;omega
  · rw [List.length_append,List.length_append,List.length_take,List.length_drop];omega
  · have fw:FrX (fun i=>i = gb) wr w2:=FrX.trans (S:=fun i=>i = gb) (FrX.of_below hb1) f2 (fun i e=>.inl e)
    have fw3:FrX (fun i=>i = gb∨i = g) wr _:=FrX.trans (S:=fun i=>i = gb∨i = g) (fw.mono fun i _ e=>.inl e) f3 (fun i e=>.inl (.inr e))
    refine FrX.trans h.fx fw3 fun i e=>?_
    rcases e with rfl | rfl
    · rcases h.vbk i hvbo with e | e
      · exact .inl (.inr (.inr e))
      · exact .inr e
    · exact .inl (.inl rfl)
  · intro i e
    have e3:k = i:=by simpa [Value.ownBlock] using e
    rcases hk with hk | hk
    · exact h.vbk i (by rw [hvbo,← hk,e3])
    · have:=hb1.size;have:=h.fx.size;exact .inr (by omega)
  · have:=h.len
    rw [h0] at this
    rw [List.length_append,List.length_append,List.length_take,List.length_drop]
    simp only [List.length_cons,List.length_nil] at this
    omega
  · have s1:=hb1.size
    have s2:=hg2.size
    have s3:=f3.size
    have:=h.low
    omega
  · subst h0
    rw [drop_map hx] at hm
    obtain ⟨mf,rfl⟩:∃ m,nf = m + 1:=⟨nf - 1,by have:=met_pos hm;omega⟩
    obtain ⟨k1,k2,k3⟩:=met_step hm
    obtain ⟨Y,r1,r2,r3⟩:=k3 (by rw [show [x0] = [x0] from rfl] at *;rw [hboth])
    rw [hboth] at r1 r3
    have hsum:j + m = ((lbj.map Prod.fst).take j).length + (l2.map Prod.fst).length:=by rw [List.length_take,List.length_map,List.length_map];omega
    have hmap:(lbj.take j ++ (l2 ++ lbj.drop (j + 1))).map Prod.fst = (lbj.map Prod.fst).take j ++ (l2.map Prod.fst ++ (lbj.map Prod.fst).drop (j + 1)):=by rw [List.map_append,List.map_append,List.map_take,List.map_drop]
    have hd:((lbj.take j ++ (l2 ++ lbj.drop (j + 1))).map Prod.fst).drop (j + m) = (lbj.map Prod.fst).drop (j + 1):=by rw [hmap,hsum];exact cut_drop _ _ _
    have ht:((lbj.take j ++ (l2 ++ lbj.drop (j + 1))).map Prod.fst).take (j + m) = (lbj.map Prod.fst).take j ++ l2.map Prod.fst:=by rw [hmap,hsum];exact cut_take _ _ _
    refine ⟨mf,Y,by rw [hd];exact r1,by omega,fun _=>by omega,fun e=>?_,fun e=>?_⟩
    · have e5:=r2 e
      rw [q3 (by rw [e5];exact e),e5]
    · have e5:=r3 e
      obtain ⟨u1,u2,u3⟩:=q4 (by rw [e5])
      refine ⟨u1,by rw [u2,e5],?_⟩
      rw [u3,e5,ht,List.append_assoc]
end
end Go.Proofs.Ytidimannfemnmaa.Lst
namespace Go.Proofs.Ytidimannfemnmaa.Lst
open Go.RowKit Top Shf Sim Sqr
set_option maxRecDepth 20000

section
variable {n base:Nat} {w:World} {g:Nat} {p:Bool} {la lb:List (Ov × OS)} {va vb:Value} {from_:Nat} {R:Res} {j:Nat} {A:Option Addr} {n1 c1:Nat} {lA lbj:List (Ov × OS)} {vbj:Value} {wr:World}
theorem Lp.fin_all (h:Lp n base w g p la lb va vb from_ R j A n1 c1 lA lbj vbj wr) {Rj:Res} {e:Ending} {w':World} (hr:BringA base g p la lbj va vbj j Rj wr e w') (q3:Rj.2.2 ≠ 0→R.2.2 = Rj.2.2) (q4:Rj.2.2 = 0→R.2.2 = 0∧R.1 = Rj.1∧(lb.map Prod.fst).take from_ ++ R.2.1 = (lbj.map Prod.fst).take j ++ Rj.2.1):BringA base g p la lb va vb from_ R w e w':=by
  obtain ⟨r1,r2,r3⟩:=hr
  have eR:R.2.2 = Rj.2.2:=by
    by_cases e0:Rj.2.2 = 0
    · rw [e0,(q4 e0).1]
    · exact q3 e0
  refine ⟨by rw [r1,eR],FrX.trans h.fx r2 fun k hk=>?_,fun e0=>?_⟩
  · rcases hk with rfl | hk | hk
    · exact .inl (.inl rfl)
    · exact .inl (.inr (.inl hk))
    · rcases h.vbk k hk with e | e
      · exact .inl (.inr (.inr e))
      · exact .inr e
  · rw [eR] at e0
    obtain ⟨la',lb',va',vb',m1,m2,m3,m4,m5⟩:=r3 e0
    obtain ⟨u1,u2,u3⟩:=q4 e0
    refine ⟨la',lb',va',vb',m1,by rw [m2,u2],by rw [m3,u3],fun k hk=>?_,fun k hk=>?_⟩
    · rcases m4 k hk with e | e
      · exact .inl e
      · exact .inr (Nat.le_trans h.fx.size e)
    · rcases m5 k hk with e | e
      · exact h.vbk k e
      · exact .inr (Nat.le_trans h.fx.size e)
theorem Lp.fin_app (h:Lp n base w g p la lb va vb from_ R j A n1 c1 lA lbj vbj wr) (hj:¬ j < lbj.length) {v':Value} {w1:World} (hown:OwnO base w1 v' (la ++ lA)) (hg:wr.grownBy w1 va.ownBlock) (hk:v'.ownBlock = va.ownBlock∨v'.ownBlock = some wr.heap.size) :
    BringA base g p la lb va vb from_ R w (.returned (.int .i64 0)) (w1.setCell ⟨g,0,none⟩ v'):=by
  obtain ⟨nf,Rj,hm,q1,q2,q3,q4⟩:=h.met
  rw [List.drop_eq_nil_of_le (by rw [List.length_map];omega)] at hm
  have hR:=met_over hm
  obtain ⟨u1,u2,u3⟩:=q4 (by rw [hR])
  have hgl:g < wr.heap.size:=(Array.getElem?_eq_some_iff.1 h.mt.box).1
  have hval:∀ i,va.ownBlock = some i→i < wr.heap.size:=fun i e=>by
    obtain ⟨cs,hc⟩:=h.mt.oa.block e
    exact (Array.getElem?_eq_some_iff.1 hc).1
  have hvbl:∀ i,vbj.ownBlock = some i→i < wr.heap.size:=fun i e=>by
    obtain ⟨cs,hc⟩:=h.mt.ob.block e
    exact (Array.getElem?_eq_some_iff.1 hc).1
  have f1:=frx_grown_o hg
  have t1:OfOps (fun i=>va.ownBlock = some i) wr:=fun i e=>by
    obtain ⟨cs,hc⟩:=h.mt.oa.block e
    exact ⟨_,_,_,hc,.inl rfl⟩
  have bx1:w1.heap[g]? = _:=(f1.block g hgl (fun e=>h.mt.ga e)).trans h.mt.box
  have f2:FrX (fun i=>i = g) w1 (w1.setCell ⟨g,0,none⟩ v'):=frx_set
  have t2:OfOps (fun i=>i = g) w1:=fun i e=>by subst e;exact ⟨_,_,_,bx1,.inr rfl⟩
  have bx2:=heap_setCell_same w1 g 0 _ _ v' bx1
  have ops:∀ {b:Nat} {o:Ov} {s:OS},OwnOp b wr o s→OwnOp b (w1.setCell ⟨g,0,none⟩ v') o s:=fun ho=>op_frx (op_frx ho t1 f1) t2 f2
  have vg:∀ i,v'.ownBlock = some i→i ≠ g∧(va.ownBlock = some i∨i = wr.heap.size):=fun i e=>by
    rcases hk with hk | hk
    · rw [hk] at e
      exact ⟨fun e2=>h.mt.ga (by rw [e,e2]),.inl e⟩
    · rw [hk] at e
      injection e with e
      exact ⟨by omega,.inr e.symm⟩
  have fw:FrX (Tn g va vb) w (w1.setCell ⟨g,0,none⟩ v'):=FrX.trans h.fx (FrX.trans (S:=Tn g va vb) (f1.mono fun i _ e=>.inr (.inl e)) f2 (fun i e=>.inl (.inl e))) (fun i e=>.inl e)
  refine ⟨by rw [u1],fw,fun _=>⟨la ++ lA,lbj,v',vbj,⟨?_,h.mt.gb,?_,?_,?_,?_,?_⟩,?_,?_,?_,h.vbk⟩⟩
  · rw [bx2];rfl
  · exact own_frx hown f2 (fun i e e2=>(vg i e).1 e2)
  · exact own_frx (own_frx h.mt.ob f1 (fun i e e2=>h.mt.ap i e2 e)) f2 (fun i e e2=>h.mt.gbb (by rw [e,e2]))
  · intro y hy
    rcases List.mem_append.1 hy with hy | hy
    · exact ⟨ops (h.mt.ea y hy).1,(h.mt.ea y hy).2⟩
    · exact ⟨ops (h.new.2 y hy).1,(h.new.2 y hy).2⟩
  · exact fun y hy=>⟨ops (h.mt.eb y hy).1,(h.mt.eb y hy).2⟩
  · intro i e e2
    rcases (vg i e).2 with e3 | e3
    · exact h.mt.ap i e3 e2
    · have:=hvbl i e2;omega
  · rw [List.map_append,u2,hR]
  · rw [u3,hR,List.append_nil,List.take_of_length_le (by rw [List.length_map];omega)]
  · intro i e
    rcases (vg i e).2 with e3 | e3
    · exact .inl e3
    · exact .inr (by have:=h.fx.size;omega)
theorem Lp.fin_err (h:Lp n base w g p la lb va vb from_ R j A n1 c1 lA lbj vbj wr) {k:Int} (hR:R.2.2 = k) (hk:k ≠ 0) {w1:World} (hb:Below wr.heap.size wr w1):BringA base g p la lb va vb from_ R w (.returned (.int .i64 k)) w1 :=
  ⟨by rw [hR],FrX.trans h.fx (FrX.of_below (S:=Tn g va vb) hb) (fun i e=>.inl e),fun e=>absurd (hR.symm.trans e) hk⟩
theorem Lp.start {o:Ov} {s:OS} {W:World} (hm:Mt base w g p la lb va vb) (ho:OwnOp base w o s) (hok:OvOk o) (hf:from_≤lb.length) (hlen:la.length + 1 + lb.length≤4096) (hbase:base≤w.heap.size) (hR:metV p n [o] ((lb.map Prod.fst).drop from_) = some R) (hb:Below w.heap.size w W) {k:Nat} (hk:w.heap.size≤k) (hrow:OwnO k W (.slice (some ⟨k,0,none⟩) 1 1) [(o,s)]) :
    Lp n base w g p la lb va vb from_ R from_ (some ⟨k,0,none⟩) 1 1 [(o,s)] lb vb W:=by
  refine ⟨⟨own_mono hrow (by omega),fun x hx=>?_⟩,?_,⟨(hb.block g (Array.getElem?_eq_some_iff.1 hm.box).1).trans hm.box,hm.gb,hm.oa.kept fun i _ hi=>hb.block i hi,hm.ob.kept fun i _ hi=>hb.block i hi,fun y hy=>⟨(hm.ea y hy).1.kept fun i _ hi=>hb.block i hi,(hm.ea y hy).2⟩,fun y hy=>⟨(hm.eb y hy).1.kept fun i _ hi=>hb.block i hi,(hm.eb y hy).2⟩,hm.ap⟩,hf,FrX.of_below hb,fun i e=>.inl e,by simpa using hlen,Nat.le_trans hbase hb.size,n,R,hR,Nat.le_refl _,fun e=>absurd rfl e,fun _=>rfl,fun e=>⟨e,rfl,rfl⟩⟩
  · rw [List.mem_singleton] at hx
    subst hx
    exact ⟨ho.kept fun i _ hi=>hb.block i hi,hok⟩
  · intro i e ht
    have e2:k = i:=by simpa [Value.ownBlock] using e
    obtain ⟨cs,t,fr,hc,-⟩:=hm.typed i ht
    have:=(Array.getElem?_eq_some_iff.1 hc).1
    omega
end
end Go.Proofs.Ytidimannfemnmaa.Lst
namespace Go.Proofs.Ytidimannfemnmaa.Lst
open Go.RowKit Top Shf Sim Sqr
set_option maxRecDepth 20000

structure La (n base:Nat) (w:World) (g:Nat) (p:Bool) (la lb:List (Ov × OS)) (va vb:Value) (A:Option Addr) (m c:Nat) (lx:List (Ov × OS)) (from_:Nat) (R:Res) (q:Nat) (laq lbq:List (Ov × OS)) (vaq vbq:Value) (wr:World):Prop where
  new:NewO base wr A m c lx
  apart:∀ k,(Value.slice A m c).ownBlock = some k→¬ Tn g vaq vbq k
  mt:Mt base wr g p laq lbq vaq vbq
  fle:from_≤lbq.length
  qle:q≤m
  fx:FrX (Tn g va vb) w wr
  vak:∀ k,vaq.ownBlock = some k→va.ownBlock = some k∨w.heap.size≤k
  vbk:∀ k,vbq.ownBlock = some k→vb.ownBlock = some k∨w.heap.size≤k
  len:laq.length + (m - q) + lbq.length≤4096
  low:base≤wr.heap.size
  met:∃ nf Rq,metV p nf ((lx.map Prod.fst).drop q) ((lbq.map Prod.fst).drop from_) = some Rq∧nf≤n∧(Rq.2.2 ≠ 0→R.2.2 = Rq.2.2)∧(Rq.2.2 = 0→R.2.2 = 0∧la.map Prod.fst ++ R.1 = laq.map Prod.fst ++ Rq.1∧(lb.map Prod.fst).take from_ ++ R.2.1 = (lbq.map Prod.fst).take from_ ++ Rq.2.1)
theorem Mt.below {base:Nat} {w w':World} {g:Nat} {p:Bool} {la lb:List (Ov × OS)} {va vb:Value} (h:Mt base w g p la lb va vb) (hb:Below w.heap.size w w'):Mt base w' g p la lb va vb :=
  ⟨(hb.block g (Array.getElem?_eq_some_iff.1 h.box).1).trans h.box,h.gb,h.oa.kept fun i _ hi=>hb.block i hi,h.ob.kept fun i _ hi=>hb.block i hi,fun y hy=>⟨(h.ea y hy).1.kept fun i _ hi=>hb.block i hi,(h.ea y hy).2⟩,fun y hy=>⟨(h.eb y hy).1.kept fun i _ hi=>hb.block i hi,(h.eb y hy).2⟩,h.ap⟩
section
variable {n base:Nat} {w:World} {g:Nat} {p:Bool} {la lb:List (Ov × OS)} {va vb:Value} {A:Option Addr} {m c:Nat} {lx:List (Ov × OS)} {from_:Nat} {R:Res} {q:Nat} {laq lbq:List (Ov × OS)} {vaq vbq:Value} {wr:World}
theorem La.start (hm:Mt base w g p la lb va vb) (hn:NewO base w A m c lx) (hap:∀ k,(Value.slice A m c).ownBlock = some k→¬ Tn g va vb k) (hf:from_≤lb.length) (hlen:la.length + lx.length + lb.length≤4096) (hbase:base≤w.heap.size) (hR:metV p n (lx.map Prod.fst) ((lb.map Prod.fst).drop from_) = some R):La n base w g p la lb va vb A m c lx from_ R 0 la lb va vb w :=
  ⟨hn,hap,hm,hf,Nat.zero_le _,FrX.refl _ _,fun k e=>.inl e,fun k e=>.inl e,by have:=hn.len;omega,hbase,n,R,by rw [List.drop_zero];exact hR,Nat.le_refl _,fun _=>rfl,fun e=>⟨e,rfl,rfl⟩⟩
theorem La.head (h:La n base w g p la lb va vb A m c lx from_ R q laq lbq vaq vbq wr) {x:Ov × OS} (hx:lx[q]? = some x):∃ nf X,nf≤n∧metV p nf [x.1] ((lbq.map Prod.fst).drop from_) = some X∧(X.2.2 ≠ 0→R.2.2 = X.2.2) ∧
    (X.2.2 = 0→∃ Y,metV p nf ((lx.map Prod.fst).drop (q + 1)) X.2.1 = some Y∧(Y.2.2 ≠ 0→R.2.2 = Y.2.2)∧(Y.2.2 = 0→R.2.2 = 0∧la.map Prod.fst ++ R.1 = laq.map Prod.fst ++ X.1 ++ Y.1∧(lb.map Prod.fst).take from_ ++ R.2.1 = (lbq.map Prod.fst).take from_ ++ Y.2.1)):=by
  obtain ⟨nf,Rq,hm,q1,q3,q4⟩:=h.met
  rw [drop_map hx] at hm
  obtain ⟨X,h1,h2,h3⟩:=met_head hm
  refine ⟨nf,X,q1,h1,fun e=>?_,fun e=>?_⟩
  · have e5:=h2 e
    rw [q3 (by rw [e5];exact e),e5]
  · obtain ⟨Y,k1,k2,k3⟩:=h3 e
    refine ⟨Y,k1,fun f=>?_,fun f=>?_⟩
    · have e5:=k2 f
      rw [q3 (by rw [e5];exact f),e5]
    · have e5:=k3 f
      obtain ⟨u1,u2,u3⟩:=q4 (by rw [e5])
      refine ⟨u1,by rw [u2,e5,List.append_assoc],by rw [u3,e5]⟩
theorem La.err (h:La n base w g p la lb va vb A m c lx from_ R q laq lbq vaq vbq wr) {W w5:World} (hb:Below wr.heap.size wr W) {X:Res} {e:Ending} (hr:BringA base g p laq lbq vaq vbq from_ X W e w5) (hR:R.2.2 = X.2.2) (he:X.2.2 ≠ 0):BringA base g p la lb va vb from_ R w (.returned (.int .i64 X.2.2)) w5:=by
  obtain ⟨r1,r2,-⟩:=hr
  refine ⟨by rw [hR],FrX.trans h.fx (FrX.trans (S:=Tn g vaq vbq) (FrX.of_below hb) r2 (fun i e=>.inl e)) fun k hk=>?_,fun e0=>absurd (hR.symm.trans e0) he⟩
  rcases hk with rfl | hk | hk
  · exact .inl (.inl rfl)
  · rcases h.vak k hk with e | e
    · exact .inl (.inr (.inl e))
    · exact .inr e
  · rcases h.vbk k hk with e | e
    · exact .inl (.inr (.inr e))
    · exact .inr e
theorem La.next (h:La n base w g p la lb va vb A m c lx from_ R q laq lbq vaq vbq wr) (hq:q < m) {x:Ov × OS} (hx:lx[q]? = some x) {W w5:World} (hb:Below wr.heap.size wr W) {X:Res} {nf:Nat} (hnf:nf≤n) (hX:metV p nf [x.1] ((lbq.map Prod.fst).drop from_) = some X) {e:Ending} (hr:BringA base g p laq lbq vaq vbq from_ X W e w5) (he:X.2.2 = 0)
    (hY:∃ Y,metV p nf ((lx.map Prod.fst).drop (q + 1)) X.2.1 = some Y∧(Y.2.2 ≠ 0→R.2.2 = Y.2.2)∧(Y.2.2 = 0→R.2.2 = 0∧la.map Prod.fst ++ R.1 = laq.map Prod.fst ++ X.1 ++ Y.1∧(lb.map Prod.fst).take from_ ++ R.2.1 = (lbq.map Prod.fst).take from_ ++ Y.2.1)) :
    ∃ la' lb' va' vb',Mt base w5 g p la' lb' va' vb'∧la'.length≤4096∧lb'.length≤4096∧wr.heap.size≤w5.heap.size∧∀ w6,Below w5.heap.size w5 w6→La n base w g p la lb va vb A m c lx from_ R (q + 1) la' lb' va' vb' w6:=by
  obtain ⟨r1,r2,r3⟩:=hr
  obtain ⟨la',lb',va',vb',m1,m2,m3,m4,m5⟩:=r3 he
  obtain ⟨Y,y1,y2,y3⟩:=hY
  have hsm:=met_small hX
  have hfl:=h.fle
  have hlen:=h.len
  have e2:=congrArg List.length m2
  have e3:=congrArg List.length m3
  simp only [List.length_map,List.length_append,List.length_take,List.length_drop,List.length_cons,List.length_nil] at e2 e3 hsm
  have hsz:wr.heap.size≤w5.heap.size:=Nat.le_trans hb.size r2.size
  have hWlow:∀ k,(Value.slice A m c).ownBlock = some k→k < wr.heap.size:=fun k e=>by
    obtain ⟨cs,hc⟩:=own_type h.new.1 e
    exact (Array.getElem?_eq_some_iff.1 hc).1
  have hnewW:NewO base W A m c lx:=h.new.below hb
  have tW:OfOps (Tn g vaq vbq) W:=(h.mt.below hb).typed
  have hn5:NewO base w5 A m c lx:=hnewW.frx tW r2 h.apart
  refine ⟨la',lb',va',vb',m1,by omega,by omega,hsz,fun w6 hb6=>⟨hn5.below hb6,fun k e ht=>?_,m1.below hb6,by omega,hq,?_,fun k e=>?_,fun k e=>?_,by omega,Nat.le_trans h.low (Nat.le_trans hsz hb6.size),nf,Y,?_,hnf,y2,fun f=>?_⟩⟩
  · have h5:=hWlow k e
    have h6:=hb.size
    rcases ht with rfl | ht | ht
    · exact h.apart k e (.inl rfl)
    · rcases m4 k ht with e4 | e4
      · exact h.apart k e (.inr (.inl e4))
      · omega
    · rcases m5 k ht with e4 | e4
      · exact h.apart k e (.inr (.inr e4))
      · omega
  · refine FrX.trans (FrX.trans h.fx (FrX.trans (S:=Tn g vaq vbq) (FrX.of_below hb) r2 (fun i e=>.inl e)) fun k hk=>?_) (FrX.of_below (S:=Tn g va vb) hb6) (fun i e=>.inl e)
    rcases hk with rfl | hk | hk
    · exact .inl (.inl rfl)
    · rcases h.vak k hk with e | e
      · exact .inl (.inr (.inl e))
      · exact .inr e
    · rcases h.vbk k hk with e | e
      · exact .inl (.inr (.inr e))
      · exact .inr e
  · rcases m4 k e with e4 | e4
    · exact h.vak k e4
    · have:=h.fx.size;have:=hb.size;exact .inr (by omega)
  · rcases m5 k e with e4 | e4
    · exact h.vbk k e4
    · have:=h.fx.size;have:=hb.size;exact .inr (by omega)
  · have hl:((lbq.map Prod.fst).take from_).length = from_:=by rw [List.length_take,List.length_map];omega
    have e5:(lb'.map Prod.fst).drop from_ = X.2.1:=by
      rw [m3,List.drop_append,hl,Nat.sub_self,List.drop_zero,List.drop_eq_nil_of_le (by omega),List.nil_append]
    rw [e5]
    exact y1
  · obtain ⟨u1,u2,u3⟩:=y3 f
    have hl:((lbq.map Prod.fst).take from_).length = from_:=by rw [List.length_take,List.length_map];omega
    have e5:(lb'.map Prod.fst).take from_ = (lbq.map Prod.fst).take from_:=by
      rw [m3,List.take_append_of_le_length (by omega),List.take_take,Nat.min_self]
    exact ⟨u1,by rw [u2,m2],by rw [u3,e5]⟩
theorem La.fin (h:La n base w g p la lb va vb A m c lx from_ R q laq lbq vaq vbq wr) (hq:¬ q < m):BringA base g p la lb va vb from_ R w (.returned (.int .i64 0)) wr:=by
  obtain ⟨nf,Rq,hm,q1,q3,q4⟩:=h.met
  rw [List.drop_eq_nil_of_le (by rw [List.length_map];have:=h.new.len;omega)] at hm
  have hR:=met_none hm
  obtain ⟨u1,u2,u3⟩:=q4 (by rw [hR])
  refine ⟨by rw [u1],h.fx,fun _=>⟨laq,lbq,vaq,vbq,h.mt,by rw [u2,hR,List.append_nil],by rw [u3,hR,List.take_append_drop],h.vak,h.vbk⟩⟩
end
end Go.Proofs.Ytidimannfemnmaa.Lst
namespace Go.Proofs.Ytidimannfemnmaa.Lst
open Go.RowKit Top Shf Sim Sqr
set_option maxRecDepth 20000

theorem new_own {base b0:Nat} {w:World} {v:Value} {l:List (Ov × OS)} (h:OwnO base w v l∧∀ x ∈ l,OwnOp base w x.1 x.2∧OvOk x.1) (hb:b0≤base):∃ A n c,v = .slice A n c∧NewO b0 w A n c l∧l.length = n:=by
  obtain ⟨A,n,c,rfl,h1,-⟩:=h.1.shape
  exact ⟨A,n,c,rfl,NewO.mono ⟨h.1,h.2⟩ hb,h1.symm⟩
theorem rep_cells {base:Nat} {w w':World} {gb g:Nat} {l:List (Ov × OS)} {e:Ending} {v0 v1 v2:Value} {t:TypeId} (h:RepA base w gb l e w') (hb:w.heap[g]? = some (.cells #[v0,v1,v2] t (0,0))) (hne:g ≠ gb) :
    ∃ k n c,e = .returned (.slice (some ⟨k,0,none⟩) n c)∧OwnO base w' (.slice (some ⟨k,0,none⟩) n c) l∧w.grownBy w' (some gb)∧(k = gb∨w.heap.size≤k)∧w'.cell? ⟨g,0,none⟩ = some v0∧w'.cell? ⟨g,1,none⟩ = some v1∧w'.frozen? ⟨g,1,none⟩ = false:=by
  obtain ⟨k,n,c,h1,h2,h3,h4⟩:=h
  have hb':=(h3.block g (Array.getElem?_eq_some_iff.1 hb).1 (fun e=>by injection e with e;exact hne e)).trans hb
  exact ⟨k,n,c,h1,h2,h3,h4,cell_of_row w' g 0 _ _ _ hb',cell_of_row w' g 1 _ _ _ hb',frozen_of_row w' g 1 _ _ hb'⟩
def lenAt (w:World) (g:Nat):Nat:=match w.cell? ⟨g,1,none⟩ with
  | some (.slice _ k _)=>k
  | _=>0
theorem len_set {w:World} {g:Nat} {v:Value} (h:w.cell? ⟨g,1,none⟩ = some v) (v':Value):lenAt (w.setCell ⟨g,1,none⟩ v') g = (match v' with | .slice _ k _=>k | _=>0):=by
  unfold lenAt
  rw [World.cell?_setCell_same (w:=w) (a:=⟨g,1,none⟩) (v:=v') h]
  cases v' <;> rfl
theorem elev0 {W:World} {g:Nat} {o:Ov} {s:OS} (h:Elev W ⟨g,0,none⟩ o s):W.cell? ⟨g,0,none⟩ = some (.int .u8 (o.kind:Int))∧W.cell? ⟨g,1,none⟩ = some (.slice s.pA s.pn s.pc)∧W.cell? ⟨g,2,none⟩ = some (.int .i64 o.at_)∧W.cell? ⟨g,3,none⟩ = some (.slice s.tA s.tn s.tc)∧W.cell? ⟨g,4,none⟩ = some (.int .u64 (o.id:Int)) ∧
    W.cell? ⟨g,5,none⟩ = some (.bool o.leaf)∧W.cell? ⟨g,6,none⟩ = some (.string ⟨o.label.toArray⟩)∧W.cell? ⟨g,7,none⟩ = some (.string ⟨o.key.toArray⟩)∧W.cell? ⟨g,8,none⟩ = some (.string ⟨o.value.toArray⟩)∧W.cell? ⟨g,9,none⟩ = some (.bool o.gone)∧W.cell? ⟨g,10,none⟩ = some (.slice s.qA s.qn s.qc):=by
  obtain ⟨h0,h1,h2,h3,h4,h5,h6,h7,h8,h9,h10⟩:=h
  simp only [Nat.zero_add] at h1 h2 h3 h4 h5 h6 h7 h8 h9 h10
  exact ⟨h0,h1,h2,h3,h4,h5,h6,h7,h8,h9,h10⟩
set_option maxHeartbeats 16000000 in
theorem bring_ok (n:Nat) (hall:∀ m,m < n→AllOk m) (base:Nat) (w:World) (g:Nat) (p:Bool) (la lb:List (Ov × OS)) (va vb:Value) (o:Ov) (s:OS) (from_:Nat) (R:Res)
    (hm:Mt base w g p la lb va vb) (ho:OwnOp base w o s) (hok:OvOk o) (hf:from_≤lb.length) (hlen:la.length + 1 + lb.length≤4096) (hbase:base≤w.heap.size) (hR:metV p n [o] ((lb.map Prod.fst).drop from_) = some R) :
    Calls Try.prog 172 #[.pointer (some ⟨g,0,none⟩),.agg (opCells o s),.int .i64 (from_:Int)] w (BringA base g p la lb va vb from_ R w):=by
  obtain ⟨z1,z2,z4,z5⟩:=two_news w (.cells (opCells o s) 52) (.cells (opCells o s) 52)
  obtain ⟨W2,hW2⟩:∃ Q9,Q9 = ((w.alloc (.cells (opCells o s) 52)).alloc (.cells (opCells o s) 52)):=⟨_,rfl⟩
  have hrow:OwnO (w.heap.size + 1) W2 (.slice (some ⟨w.heap.size + 1,0,none⟩) 1 1) [(o,s)]:=by
    have e:(w.alloc (.cells (opCells o s) 52)).heap.size = w.heap.size + 1:=by simp
    have h:=World.ownsRow_lit (base:=w.heap.size + 1) (e:=52) (size:=11) (w.alloc (.cells (opCells o s) 52)) (opCells o s) 1 (by rw [e];exact Nat.le_refl _) (by unfold maxLen;omega) rfl
    rw [hW2]
    rw [e] at h
    unfold OwnO
    simpa [opL] using h
  rw [← hW2] at z4
  have start:=Lib.hid (Lp.start hm ho hok hf hlen hbase hR z4 (by omega) hrow)
  have hall':=Lib.hid hall
  clear hm ho hok hf hlen hbase hR z1 z2 z4 z5 hrow hall
  unfold opCells at hW2
  unfold opCells
  go_enter Try.func172,Try.ntmps172
  go_wp2_with fail
  refine Top.wp_scope_once 0 rfl ?_
  go_wp2_with fail
  rw [← hW2]
  clear hW2
  go_loopw [2,7,8,9] (fun v2 v7 v8 v9 wr=>∃ (j:Nat) (A1:Option Addr) (n1 c1:Nat) (lA lbj:List (Ov × OS)) (vbj:Value),v2 = .int .i64 (j:Int)∧v8 = .int .i64 0∧v9 = .slice A1 n1 c1∧Lp n base w g p la lb va vb from_ R j A1 n1 c1 lA lbj vbj wr) (fun v2 _ _ _ wr=>lenAt wr g - (intOf v2).toNat)
  case atStart=>exact ⟨from_,_,1,1,_,_,_,rfl,rfl,rfl,start.out⟩
  case round =>
    obtain ⟨j,A1,n1,c1,lA,lbj,vbj,rfl,rfl,rfl,hL⟩:=hrel
    have L:=Lib.hid hL
    obtain ⟨Ab,nb,cb,rfl,hnb,hncb,hcmb,hnilb,hatb⟩:=hL.mt.ob.shape
    have hbx:=hL.mt.box
    have k0:wr.cell? ⟨g,0,none⟩ = some va:=cell_of_row wr g 0 _ _ _ hbx
    have k1:wr.cell? ⟨g,1,none⟩ = some (.slice Ab nb cb):=cell_of_row wr g 1 _ _ _ hbx
    have k2:wr.cell? ⟨g,2,none⟩ = some (.bool p):=cell_of_row wr g 2 _ _ _ hbx
    have kf:∀ i,wr.frozen? ⟨g,i,none⟩ = false:=fun i=>frozen_of_row wr g i _ _ hbx
    have hn1:=hL.new.len
    have hjle:=hL.jle
    have hlen4:=hL.len
    by_cases hc:n1 = 1∧j < nb
    · obtain ⟨hc1,hc2⟩:=hc
      subst hc1
      obtain ⟨x0,h0⟩:∃ x0,lA = [x0]:=List.length_eq_one_iff.1 hn1
      obtain ⟨x,hx⟩:∃ x,lbj[j]? = some x:=⟨_,List.getElem?_eq_getElem (by omega)⟩
      obtain ⟨A0,n0,c0,e0,-,-,hcm0,-,hat0⟩:=hL.new.1.shape
      injection e0 with e01 e02 e03
      subst e01 e02 e03
      obtain ⟨gA,rfl,-,hgAl,hE0⟩:=hat0 0 x0 (by rw [h0];rfl)
      obtain ⟨gb,rfl,-,hgbl,hE1⟩:=hatb j x hx
      obtain ⟨hgood,herr⟩:=hL.good h0 hx
      have hgl:g < wr.heap.size:=(Array.getElem?_eq_some_iff.1 hbx).1
      have hcl:=Lib.hid (fun (W:World) (hB:Below wr.heap.size wr W)=>show W.cell? ⟨g,0,none⟩ = some va∧W.cell? ⟨g,1,none⟩ = some (.slice (some ⟨gb,0,none⟩) nb cb)∧W.cell? ⟨g,2,none⟩ = some (.bool p)∧_∧Elev W ⟨gb,j * 11,none⟩ x.1 x.2 from
        ⟨(hB.cell hgl).trans k0,(hB.cell hgl).trans k1,(hB.cell hgl).trans k2,elev0 (by have h5:=hE0.kept (w':=W) (hB.block gA hgAl);simpa using h5),hE1.kept (hB.block gb hgbl)⟩)
      have hbt:=Lib.hid (fun (W:World) (hB:Below wr.heap.size wr W)=>Both_any W x0.1 x.1 x0.2 x.2 p
        (((hL.new.2 x0 (by rw [h0];exact List.mem_singleton.2 rfl)).1.op (hL.new.2 x0 (by rw [h0];exact List.mem_singleton.2 rfl)).2).below hB) (((hL.mt.eb x (List.mem_of_getElem? hx)).1.op (hL.mt.eb x (List.mem_of_getElem? hx)).2).below hB) hgood.1 hgood.2.1 hgood.2.2.1 hgood.2.2.2)
      have hjI:(j:Int) < (nb:Int):=by omega
      have hnbI:nb≤4096:=by omega
      have hj0:(0:Int)≤(j:Int):=by omega
      have hcmI:(cb:Int)≤9223372036854775807:=by unfold maxLen at hcmb;omega
      obtain ⟨S3,hS3⟩:∃ Q9,Q9 = bothV x0.1 x.1 p:=⟨_,rfl⟩
      rw [← hS3] at hbt herr
      have hS3':=Lib.hid hS3.symm
      obtain ⟨X,Y,er⟩:=S3
      have hnx:=Lib.hid (fun (w1:World) (hb1:Below wr.heap.size wr w1) (A2:Option Addr) (n2 c2:Nat) (l1:List (Ov × OS)) (h1:NewO wr.heap.size w1 A2 n2 c2 l1) (Av:Option Addr) (m d:Nat) (l2:List (Ov × OS)) (h2:NewO wr.heap.size w1 Av m d l2) (hbo:bothV x0.1 x.1 p = (l1.map Prod.fst,l2.map Prod.fst,0)) (k nk ck:Nat) (w2:World) (hrep:OwnO base w2 (.slice (some ⟨k,0,none⟩) nk ck) (lbj.take j ++ (l2 ++ lbj.drop (j + 1)))) (hg2:w1.grownBy w2 (some gb)) (hk:k = gb∨w1.heap.size≤k)=>hL.next h0 hx hb1 h1 h2 hbo rfl hrep hg2 hk)
      have hggb:g ≠ gb:=fun e=>hL.mt.gbb (by rw [e];rfl)
      have herr':=Lib.hid herr
      have hrp:=Lib.hid (And.intro hgl (And.intro hL.low (And.intro hL.mt.ob (show lbj.length + la.length≤4096 by omega))))
      have hgb':=Lib.hid hgbl
      have hnb':=Lib.hid hnb
      clear herr hS3 hgood hE0 hE1 hat0 hatb hgbl hnilb hncb hcmb hcm0 hL hbx kf hn1 hjle hlen4 hgl hgAl hnb
      unfold opCells at hbt
      have hla:=Lib.hid (show lenAt wr g = nb by unfold lenAt;rw [k1])
      go_upto_region 5 with fail
      clear k0 k1 k2
      rename_i K0 hK0
      refine Top.wp_region_L (fun W=>Below wr.heap.size wr W) 21 rfl ((Below.refl wr.heap.size wr).drew) (fun hHeld=>?_)
      refine Top.wpAnyL_take (i:=0) (oi:={ dst:=some 25,op:=Go.Op.move (Go.Operand.tmp 9),type:=55,pos:="meeting.go:40",after:=#[],guard:=none }) (v:=?_) rfl (by kernel_rfl) (by kernel_rfl) (by kernel_rfl) (by kernel_rfl) (fun _ _ _ h=>h) (Or.inl ⟨by rfl,?_⟩) hHeld ?_
      rotate_left 1
      · intro W hSw;obtain ⟨m0,m1,m2,hE0,hE1⟩:=hcl.out W hSw;obtain ⟨a0,a1,a2,a3,a4,a5,a6,a7,a8,a9,a10⟩:=hE0;obtain ⟨b0,b1,b2,b3,b4,b5,b6,b7,b8,b9,b10⟩:=hE1;go_simp;try with_reducible rfl
      try simp only [Act.put,zA,zB,zC]
      refine Top.wpAnyL_take (i:=1) (oi:={ dst:=some 26,op:=Go.Op.indexAddr 55 (Go.Operand.tmp 25) (Go.Operand.const (Go.Value.int Go.IntKind.i64 0)),type:=0,pos:="meeting.go:40",after:=#[{ on:=0,ground:=Go.Ground.data }],guard:=none }) (v:=?_) rfl (by kernel_rfl) (by kernel_rfl) (by kernel_rfl) (by kernel_rfl) (fun _ _ _ h=>h) (Or.inl ⟨by rfl,?_⟩) hHeld ?_
      rotate_left 1
      · intro W hSw;obtain ⟨m0,m1,m2,hE0,hE1⟩:=hcl.out W hSw;obtain ⟨a0,a1,a2,a3,a4,a5,a6,a7,a8,a9,a10⟩:=hE0;obtain ⟨b0,b1,b2,b3,b4,b5,b6,b7,b8,b9,b10⟩:=hE1;go_simp;try with_reducible rfl
      try simp only [Act.put,zA,zB,zC]
      refine Top.wpAnyL_take (i:=2) (oi:={ dst:=some 27,op:=Go.Op.load 52 (Go.Operand.tmp 26),type:=52,pos:="meeting.go:40",after:=#[{ on:=1,ground:=Go.Ground.data }],guard:=none }) (v:=?_) rfl (by kernel_rfl) (by kernel_rfl) (by kernel_rfl) (by kernel_rfl) (fun _ _ _ h=>h) (Or.inl ⟨by rfl,?_⟩) hHeld ?_
      rotate_left 1
      · intro W hSw;obtain ⟨m0,m1,m2,hE0,hE1⟩:=hcl.out W hSw;obtain ⟨a0,a1,a2,a3,a4,a5,a6,a7,a8,a9,a10⟩:=hE0;obtain ⟨b0,b1,b2,b3,b4,b5,b6,b7,b8,b9,b10⟩:=hE1;go_simp;try with_reducible rfl
      try simp only [Act.put,zA,zB,zC]
      refine Top.wpAnyL_take (i:=3) (oi:={ dst:=some 28,op:=Go.Op.move (Go.Operand.tmp 0),type:=181,pos:="meeting.go:40",after:=#[],guard:=none }) (v:=?_) rfl (by kernel_rfl) (by kernel_rfl) (by kernel_rfl) (by kernel_rfl) (fun _ _ _ h=>h) (Or.inl ⟨by rfl,?_⟩) hHeld ?_
      rotate_left 1
      · intro W hSw;obtain ⟨m0,m1,m2,hE0,hE1⟩:=hcl.out W hSw;obtain ⟨a0,a1,a2,a3,a4,a5,a6,a7,a8,a9,a10⟩:=hE0;obtain ⟨b0,b1,b2,b3,b4,b5,b6,b7,b8,b9,b10⟩:=hE1;go_simp;try with_reducible rfl
      try simp only [Act.put,zA,zB,zC]
      refine Top.wpAnyL_take (i:=4) (oi:={ dst:=some 29,op:=Go.Op.nilCheck (Go.Operand.tmp 28),type:=0,pos:="meeting.go:40",after:=#[{ on:=3,ground:=Go.Ground.data }],guard:=none }) (v:=?_) rfl (by kernel_rfl) (by kernel_rfl) (by kernel_rfl) (by kernel_rfl) (fun _ _ _ h=>h) (Or.inl ⟨by rfl,?_⟩) hHeld ?_
      rotate_left 1
      · intro W hSw;obtain ⟨m0,m1,m2,hE0,hE1⟩:=hcl.out W hSw;obtain ⟨a0,a1,a2,a3,a4,a5,a6,a7,a8,a9,a10⟩:=hE0;obtain ⟨b0,b1,b2,b3,b4,b5,b6,b7,b8,b9,b10⟩:=hE1;go_simp;try with_reducible rfl
      try simp only [Act.put,zA,zB,zC]
      refine Top.wpAnyL_take (i:=5) (oi:={ dst:=some 30,op:=Go.Op.fieldAddr 151 (Go.Operand.tmp 29) 1,type:=0,pos:="meeting.go:40",after:=#[{ on:=4,ground:=Go.Ground.data }],guard:=none }) (v:=?_) rfl (by kernel_rfl) (by kernel_rfl) (by kernel_rfl) (by kernel_rfl) (fun _ _ _ h=>h) (Or.inl ⟨by rfl,?_⟩) hHeld ?_
      rotate_left 1
      · intro W hSw;obtain ⟨m0,m1,m2,hE0,hE1⟩:=hcl.out W hSw;obtain ⟨a0,a1,a2,a3,a4,a5,a6,a7,a8,a9,a10⟩:=hE0;obtain ⟨b0,b1,b2,b3,b4,b5,b6,b7,b8,b9,b10⟩:=hE1;go_simp;try with_reducible rfl
      try simp only [Act.put,zA,zB,zC]
      refine Top.wpAnyL_take (i:=6) (oi:={ dst:=some 31,op:=Go.Op.load 55 (Go.Operand.tmp 30),type:=55,pos:="meeting.go:40",after:=#[{ on:=5,ground:=Go.Ground.data }],guard:=none }) (v:=?_) rfl (by kernel_rfl) (by kernel_rfl) (by kernel_rfl) (by kernel_rfl) (fun _ _ _ h=>h) (Or.inl ⟨by rfl,?_⟩) hHeld ?_
      rotate_left 1
      · intro W hSw;obtain ⟨m0,m1,m2,hE0,hE1⟩:=hcl.out W hSw;obtain ⟨a0,a1,a2,a3,a4,a5,a6,a7,a8,a9,a10⟩:=hE0;obtain ⟨b0,b1,b2,b3,b4,b5,b6,b7,b8,b9,b10⟩:=hE1;go_simp;try with_reducible rfl
      try simp only [Act.put,zA,zB,zC]
      refine Top.wpAnyL_take (i:=7) (oi:={ dst:=some 32,op:=Go.Op.move (Go.Operand.tmp 2),type:=3,pos:="meeting.go:40",after:=#[],guard:=none }) (v:=?_) rfl (by kernel_rfl) (by kernel_rfl) (by kernel_rfl) (by kernel_rfl) (fun _ _ _ h=>h) (Or.inl ⟨by rfl,?_⟩) hHeld ?_
      rotate_left 1
      · intro W hSw;obtain ⟨m0,m1,m2,hE0,hE1⟩:=hcl.out W hSw;obtain ⟨a0,a1,a2,a3,a4,a5,a6,a7,a8,a9,a10⟩:=hE0;obtain ⟨b0,b1,b2,b3,b4,b5,b6,b7,b8,b9,b10⟩:=hE1;go_simp;try with_reducible rfl
      try simp only [Act.put,zA,zB,zC]
      refine Top.wpAnyL_take (i:=8) (oi:={ dst:=some 33,op:=Go.Op.indexAddr 55 (Go.Operand.tmp 31) (Go.Operand.tmp 32),type:=0,pos:="meeting.go:40",after:=#[{ on:=6,ground:=Go.Ground.data },{ on:=7,ground:=Go.Ground.data }],guard:=none }) (v:=?_) rfl (by kernel_rfl) (by kernel_rfl) (by kernel_rfl) (by kernel_rfl) (fun _ _ _ h=>h) (Or.inl ⟨by rfl,?_⟩) hHeld ?_
      rotate_left 1
      · intro W hSw;obtain ⟨m0,m1,m2,hE0,hE1⟩:=hcl.out W hSw;obtain ⟨a0,a1,a2,a3,a4,a5,a6,a7,a8,a9,a10⟩:=hE0;obtain ⟨b0,b1,b2,b3,b4,b5,b6,b7,b8,b9,b10⟩:=hE1;go_simp;try with_reducible rfl
      try simp only [Act.put,zA,zB,zC]
      refine Top.wpAnyL_take (i:=9) (oi:={ dst:=some 34,op:=Go.Op.load 52 (Go.Operand.tmp 33),type:=52,pos:="meeting.go:40",after:=#[{ on:=8,ground:=Go.Ground.data }],guard:=none }) (v:=?_) rfl (by kernel_rfl) (by kernel_rfl) (by kernel_rfl) (by kernel_rfl) (fun _ _ _ h=>h) (Or.inl ⟨by rfl,?_⟩) hHeld ?_
      rotate_left 1
      · intro W hSw;obtain ⟨m0,m1,m2,hE0,hE1⟩:=hcl.out W hSw;obtain ⟨a0,a1,a2,a3,a4,a5,a6,a7,a8,a9,a10⟩:=hE0;obtain ⟨b0,b1,b2,b3,b4,b5,b6,b7,b8,b9,b10⟩:=hE1;go_simp;try with_reducible rfl
      try simp only [Act.put,zA,zB,zC]
      refine Top.wpAnyL_take (i:=10) (oi:={ dst:=some 35,op:=Go.Op.move (Go.Operand.tmp 0),type:=181,pos:="meeting.go:40",after:=#[],guard:=none }) (v:=?_) rfl (by kernel_rfl) (by kernel_rfl) (by kernel_rfl) (by kernel_rfl) (fun _ _ _ h=>h) (Or.inl ⟨by rfl,?_⟩) hHeld ?_
      rotate_left 1
      · intro W hSw;obtain ⟨m0,m1,m2,hE0,hE1⟩:=hcl.out W hSw;obtain ⟨a0,a1,a2,a3,a4,a5,a6,a7,a8,a9,a10⟩:=hE0;obtain ⟨b0,b1,b2,b3,b4,b5,b6,b7,b8,b9,b10⟩:=hE1;go_simp;try with_reducible rfl
      try simp only [Act.put,zA,zB,zC]
      refine Top.wpAnyL_take (i:=11) (oi:={ dst:=some 36,op:=Go.Op.nilCheck (Go.Operand.tmp 35),type:=0,pos:="meeting.go:40",after:=#[{ on:=10,ground:=Go.Ground.data }],guard:=none }) (v:=?_) rfl (by kernel_rfl) (by kernel_rfl) (by kernel_rfl) (by kernel_rfl) (fun _ _ _ h=>h) (Or.inl ⟨by rfl,?_⟩) hHeld ?_
      rotate_left 1
      · intro W hSw;obtain ⟨m0,m1,m2,hE0,hE1⟩:=hcl.out W hSw;obtain ⟨a0,a1,a2,a3,a4,a5,a6,a7,a8,a9,a10⟩:=hE0;obtain ⟨b0,b1,b2,b3,b4,b5,b6,b7,b8,b9,b10⟩:=hE1;go_simp;try with_reducible rfl
      try simp only [Act.put,zA,zB,zC]
      refine Top.wpAnyL_take (i:=12) (oi:={ dst:=some 37,op:=Go.Op.fieldAddr 151 (Go.Operand.tmp 36) 2,type:=0,pos:="meeting.go:40",after:=#[{ on:=11,ground:=Go.Ground.data }],guard:=none }) (v:=?_) rfl (by kernel_rfl) (by kernel_rfl) (by kernel_rfl) (by kernel_rfl) (fun _ _ _ h=>h) (Or.inl ⟨by rfl,?_⟩) hHeld ?_
      rotate_left 1
      · intro W hSw;obtain ⟨m0,m1,m2,hE0,hE1⟩:=hcl.out W hSw;obtain ⟨a0,a1,a2,a3,a4,a5,a6,a7,a8,a9,a10⟩:=hE0;obtain ⟨b0,b1,b2,b3,b4,b5,b6,b7,b8,b9,b10⟩:=hE1;go_simp;try with_reducible rfl
      try simp only [Act.put,zA,zB,zC]
      refine Top.wpAnyL_take (i:=13) (oi:={ dst:=some 38,op:=Go.Op.load 4 (Go.Operand.tmp 37),type:=4,pos:="meeting.go:40",after:=#[{ on:=12,ground:=Go.Ground.data }],guard:=none }) (v:=?_) rfl (by kernel_rfl) (by kernel_rfl) (by kernel_rfl) (by kernel_rfl) (fun _ _ _ h=>h) (Or.inl ⟨by rfl,?_⟩) hHeld ?_
      rotate_left 1
      · intro W hSw;obtain ⟨m0,m1,m2,hE0,hE1⟩:=hcl.out W hSw;obtain ⟨a0,a1,a2,a3,a4,a5,a6,a7,a8,a9,a10⟩:=hE0;obtain ⟨b0,b1,b2,b3,b4,b5,b6,b7,b8,b9,b10⟩:=hE1;go_simp;try with_reducible rfl
      try simp only [Act.put,zA,zB,zC]
      refine Top.wpAnyL_one (i:=14) (o:={ dst:=some 39,op:=Go.Op.call { callee:=Go.Callee.value (Go.Operand.func 53),args:=#[Go.Operand.tmp 27,Go.Operand.tmp 34,Go.Operand.tmp 38],argTypes:=#[52,52,4] },type:=80,pos:="meeting.go:40",after:=#[{ on:=2,ground:=Go.Ground.data },{ on:=9,ground:=Go.Ground.data },{ on:=13,ground:=Go.Ground.data }],guard:=none }) (by kernel_rfl) rfl (by decide) (fun K hK=>?_)
      go_simp
      refine ((hbt.out _ hHeld)).mono ?_
      rintro e w5 ⟨v1,v2,l1,l2,rfl,hf1,hf2,ho1,ho2,hb5⟩
      have hs0:=hHeld.size
      obtain ⟨A2,n2,c2,rfl,hN1,hL1⟩:=new_own ho1 hs0
      obtain ⟨A3,n3,c3,rfl,hN2,hL2⟩:=new_own ho2 hs0
      have B5:=Lib.hid (show Below wr.heap.size wr w5 from hHeld.trans (hb5.mono hs0))
      have N1:=Lib.hid hN1
      have N2:=Lib.hid hN2
      have F1:=Lib.hid hf1
      have F2:=Lib.hid hf2
      clear hN1 hN2 hf1 hf2 ho1 ho2 hb5 hs0
      go_simp
      refine hK.out _ _ ?_ (fun hNew=>?_)
      · exact B5.out
      clear hK K hHeld
      have hHeld:=hNew
      clear hNew
      try simp only [Act.put,zA,zB,zC]
      refine Top.wpAnyL_take (i:=15) (oi:={ dst:=some 24,op:=Go.Op.move (Go.Operand.tmp 39),type:=80,pos:="meeting.go:40",after:=#[{ on:=14,ground:=Go.Ground.data }],guard:=none }) (v:=?_) rfl (by kernel_rfl) (by kernel_rfl) (by kernel_rfl) (by kernel_rfl) (fun _ _ _ h=>h) (Or.inl ⟨by rfl,?_⟩) hHeld ?_
      rotate_left 1
      · intro W hSw;obtain ⟨m0,m1,m2,hE0,hE1⟩:=hcl.out W hSw;obtain ⟨a0,a1,a2,a3,a4,a5,a6,a7,a8,a9,a10⟩:=hE0;obtain ⟨b0,b1,b2,b3,b4,b5,b6,b7,b8,b9,b10⟩:=hE1;go_simp;try with_reducible rfl
      try simp only [Act.put,zA,zB,zC]
      refine Top.wpAnyL_take (i:=16) (oi:={ dst:=some 40,op:=Go.Op.extract (Go.Operand.tmp 24) 0,type:=55,pos:="meeting.go:40",after:=#[{ on:=15,ground:=Go.Ground.data }],guard:=none }) (v:=?_) rfl (by kernel_rfl) (by kernel_rfl) (by kernel_rfl) (by kernel_rfl) (fun _ _ _ h=>h) (Or.inl ⟨by rfl,?_⟩) hHeld ?_
      rotate_left 1
      · intro W hSw;obtain ⟨m0,m1,m2,hE0,hE1⟩:=hcl.out W hSw;obtain ⟨a0,a1,a2,a3,a4,a5,a6,a7,a8,a9,a10⟩:=hE0;obtain ⟨b0,b1,b2,b3,b4,b5,b6,b7,b8,b9,b10⟩:=hE1;go_simp;try with_reducible rfl
      try simp only [Act.put,zA,zB,zC]
      refine Top.wpAnyL_take (i:=17) (oi:={ dst:=some 41,op:=Go.Op.extract (Go.Operand.tmp 24) 1,type:=55,pos:="meeting.go:40",after:=#[{ on:=15,ground:=Go.Ground.data },{ on:=19,ground:=Go.Ground.gcOnly Go.Departure.lateStores }],guard:=none }) (v:=?_) rfl (by kernel_rfl) (by kernel_rfl) (by kernel_rfl) (by kernel_rfl) (fun _ _ _ h=>h) (Or.inl ⟨by rfl,?_⟩) hHeld ?_
      rotate_left 1
      · intro W hSw;obtain ⟨m0,m1,m2,hE0,hE1⟩:=hcl.out W hSw;obtain ⟨a0,a1,a2,a3,a4,a5,a6,a7,a8,a9,a10⟩:=hE0;obtain ⟨b0,b1,b2,b3,b4,b5,b6,b7,b8,b9,b10⟩:=hE1;go_simp;try with_reducible rfl
      try simp only [Act.put,zA,zB,zC]
      refine Top.wpAnyL_take (i:=18) (oi:={ dst:=some 42,op:=Go.Op.extract (Go.Operand.tmp 24) 2,type:=25,pos:="meeting.go:40",after:=#[{ on:=15,ground:=Go.Ground.data },{ on:=20,ground:=Go.Ground.gcOnly Go.Departure.lateStores }],guard:=none }) (v:=?_) rfl (by kernel_rfl) (by kernel_rfl) (by kernel_rfl) (by kernel_rfl) (fun _ _ _ h=>h) (Or.inl ⟨by rfl,?_⟩) hHeld ?_
      rotate_left 1
      · intro W hSw;obtain ⟨m0,m1,m2,hE0,hE1⟩:=hcl.out W hSw;obtain ⟨a0,a1,a2,a3,a4,a5,a6,a7,a8,a9,a10⟩:=hE0;obtain ⟨b0,b1,b2,b3,b4,b5,b6,b7,b8,b9,b10⟩:=hE1;go_simp;try with_reducible rfl
      try simp only [Act.put,zA,zB,zC]
      refine Top.wpAnyL_one (i:=19) (o:={ dst:=some 9,op:=Go.Op.assign (Go.Operand.tmp 40),type:=55,pos:="meeting.go:40",after:=#[{ on:=16,ground:=Go.Ground.data },{ on:=14,ground:=Go.Ground.chain },{ on:=0,ground:=Go.Ground.phase },{ on:=1,ground:=Go.Ground.phase },{ on:=2,ground:=Go.Ground.phase },{ on:=3,ground:=Go.Ground.phase },{ on:=4,ground:=Go.Ground.phase },{ on:=5,ground:=Go.Ground.phase },{ on:=6,ground:=Go.Ground.phase },{ on:=7,ground:=Go.Ground.phase },{ on:=8,ground:=Go.Ground.phase },{ on:=9,ground:=Go.Ground.phase },{ on:=10,ground:=Go.Ground.phase },{ on:=11,ground:=Go.Ground.phase },{ on:=12,ground:=Go.Ground.phase },{ on:=13,ground:=Go.Ground.phase },{ on:=14,ground:=Go.Ground.phase },{ on:=15,ground:=Go.Ground.phase },{ on:=16,ground:=Go.Ground.phase },{ on:=17,ground:=Go.Ground.textOnly Go.Departure.lateStores },{ on:=18,ground:=Go.Ground.textOnly Go.Departure.lateStores }],guard:=none }) (by kernel_rfl) rfl (by decide) (fun K hK=>?_)
      go_simp
      refine hK.out _ _ hHeld (fun hNew=>?_)
      clear hK K hHeld
      have hHeld:=hNew
      clear hNew
      try simp only [Act.put,zA,zB,zC]
      refine Top.wpAnyL_one (i:=20) (o:={ dst:=some 7,op:=Go.Op.assign (Go.Operand.tmp 41),type:=55,pos:="meeting.go:40",after:=#[{ on:=17,ground:=Go.Ground.data },{ on:=19,ground:=Go.Ground.chain },{ on:=0,ground:=Go.Ground.phase },{ on:=1,ground:=Go.Ground.phase },{ on:=2,ground:=Go.Ground.phase },{ on:=3,ground:=Go.Ground.phase },{ on:=4,ground:=Go.Ground.phase },{ on:=5,ground:=Go.Ground.phase },{ on:=6,ground:=Go.Ground.phase },{ on:=7,ground:=Go.Ground.phase },{ on:=8,ground:=Go.Ground.phase },{ on:=9,ground:=Go.Ground.phase },{ on:=10,ground:=Go.Ground.phase },{ on:=11,ground:=Go.Ground.phase },{ on:=12,ground:=Go.Ground.phase },{ on:=13,ground:=Go.Ground.phase },{ on:=14,ground:=Go.Ground.phase },{ on:=15,ground:=Go.Ground.phase },{ on:=16,ground:=Go.Ground.phase },{ on:=17,ground:=Go.Ground.phase },{ on:=18,ground:=Go.Ground.textOnly Go.Departure.lateStores },{ on:=19,ground:=Go.Ground.phase }],guard:=none }) (by kernel_rfl) rfl (by decide) (fun K hK=>?_)
      go_simp
      refine hK.out _ _ hHeld (fun hNew=>?_)
      clear hK K hHeld
      have hHeld:=hNew
      clear hNew
      try simp only [Act.put,zA,zB,zC]
      refine Top.wpAnyL_last (o:={ dst:=some 8,op:=Go.Op.assign (Go.Operand.tmp 42),type:=25,pos:="meeting.go:40",after:=#[{ on:=18,ground:=Go.Ground.data },{ on:=20,ground:=Go.Ground.chain },{ on:=0,ground:=Go.Ground.phase },{ on:=1,ground:=Go.Ground.phase },{ on:=2,ground:=Go.Ground.phase },{ on:=3,ground:=Go.Ground.phase },{ on:=4,ground:=Go.Ground.phase },{ on:=5,ground:=Go.Ground.phase },{ on:=6,ground:=Go.Ground.phase },{ on:=7,ground:=Go.Ground.phase },{ on:=8,ground:=Go.Ground.phase },{ on:=9,ground:=Go.Ground.phase },{ on:=10,ground:=Go.Ground.phase },{ on:=11,ground:=Go.Ground.phase },{ on:=12,ground:=Go.Ground.phase },{ on:=13,ground:=Go.Ground.phase },{ on:=14,ground:=Go.Ground.phase },{ on:=15,ground:=Go.Ground.phase },{ on:=16,ground:=Go.Ground.phase },{ on:=17,ground:=Go.Ground.phase },{ on:=18,ground:=Go.Ground.phase },{ on:=19,ground:=Go.Ground.phase },{ on:=20,ground:=Go.Ground.phase }],guard:=none }) (by kernel_rfl) rfl (fun K hK=>?_)
      go_simp
      refine hK _ _ ?_
      clear hK K
      try simp only [Act.put,zA,zB,zC]
      refine wpAny_done (by kernel_rfl) ?_ _
      refine hK0 _ _ ?_
      clear hK0
      by_cases hz:er = 0
      · subst hz
        obtain ⟨w6,hw6⟩:∃ Q9,Q9 = w5:=⟨_,rfl⟩
        subst hw6
        obtain ⟨m0,m1,m2,hE0,hE1⟩:=hcl.out w6 B5.out
        clear hE0 hE1
        have hwm:IntKind.i64.wrap ((j:Int) + 1) = (j:Int) + 1:=IntWalk.i64_in _ (by omega)
        have hn3:n3≤2:=by
          have hq:=sq (hS3'.out.trans (show _ = (X,Y,(0:Int)) from rfl))
          have f2:=congrArg List.length F2.out
          rw [List.length_map] at f2
          have f3:=N2.out.len
          rcases hq with ⟨s1,s2,-⟩ | ⟨s1,s2,-⟩ | ⟨s1,s2,-⟩ | ⟨s1,s2,-⟩ | ⟨s1,s2,-⟩ <;> (try have s3:=congrArg List.length s2) <;> simp only [List.length_nil] at * <;> omega
        have hw3:IntKind.i64.wrap ((j:Int) + (n3:Int)) = ((j + n3:Nat):Int):=by rw [IntWalk.i64_in _ (by omega)];omega
        obtain ⟨hgl,hlow,hob,hl4⟩:=hrp.out
        have hbx6:=Lib.hid (show w6.heap[g]? = some (.cells #[va,.slice (some ⟨gb,0,none⟩) nb cb,.bool p] 151 (0,0)) from (B5.out.block g hgl).trans L.out.mt.box)
        have hre:=Lib.hid ((replace_any w6 base gb nb cb j lbj (hob.kept fun i _ hi=>B5.out.block i hi) hc2 A3 n3 c3 l2 N2.out.rows.2.2.2 N2.out.rows.2.2.1 (fun ad e h3 e2=>by
          obtain ⟨A9,n9,c9,e9,-,-,-,-,hat9⟩:=N2.out.1.shape
          injection e9 with e91 e92 e93
          obtain ⟨y,hy⟩:∃ y,l2[0]? = some y:=⟨_,List.getElem?_eq_getElem (by have:=N2.out.len;omega)⟩
          obtain ⟨g9,e94,hge,-⟩:=hat9 0 y hy
          rw [e91,e94] at e
          injection e with e
          subst e
          have h7:=hgb'.out
          have h8:g9 = gb:=e2
          omega) (by omega) (Nat.le_trans hlow B5.out.size)).mono fun e w' h=>rep_cells h hbx6.out hggb)
        have hgl':=Lib.hid hgl
        clear hgl hlow hob hl4
        go_wp2_with (go_at_call 197;(refine hre.out.mono ?_;rintro e w7 ⟨k7,n7,c7,rfl,ho7,hg7,hk7,q0,q1,qf⟩;have O7:=Lib.hid ho7;have G7:=Lib.hid hg7;have K7:=Lib.hid hk7;clear ho7 hg7 hk7 m0 m1 m2))
        go_roundw
        case rel =>
          refine ⟨j + n3,A2,n2,c2,l1,_,_,by go_num,rfl,rfl,hnx.out w6 B5.out A2 n2 c2 l1 N1.out A3 n3 c3 l2 N2.out ?_ k7 n7 c7 w7 O7.out G7.out K7.out⟩
          rw [hS3'.out,F1.out,F2.out]
        case measure =>
          have e1:=len_set q1 (Value.slice (some ⟨k7,0,none⟩) n7 c7)
          have e2:n7 = (lbj.take j ++ (l2 ++ lbj.drop (j + 1))).length:=by
            obtain ⟨A9,n9,c9,e9,h9,-⟩:=O7.out.shape
            injection e9 with e91 e92 e93
            omega
          have e3:=hnb'.out
          have e4:=N2.out.len
          rw [List.length_append,List.length_append,List.length_take,List.length_drop] at e2
          have e5:=hla.out
          simp only [e1,e5,intOf]
          omega
      · have hzB:(er != 0) = true:=by simp [hz]
        have hfe:=Lib.hid (L.out.fin_err (herr'.out hz) hz B5.out)
        clear hz
        go_wp2_with fail
        go_step3
        refine ⟨rfl,?_⟩
        go_wp2_with fail
        try simp only [Exit.jump]
        go_ret
        exact hfe.out
    · obtain ⟨nf,Rj,hm,q1,q2,q3,q4⟩:=hL.met
      by_cases hj:j < nb
      · have hjI:(j:Int) < (nb:Int):=by omega
        have hn1I:¬ (n1:Int) = 1:=by omega
        have hn1B:((n1:Int) == 1) = false:=beq_eq_false_iff_ne.2 hn1I
        have hca:=Lib.hid (hall'.out nf (q2 (by omega)) base wr g p la lbj va (.slice Ab nb cb) A1 n1 c1 lA j Rj hL.mt hL.new hL.apart hL.jle hL.len hL.low hm)
        have hfa:=Lib.hid (fun (e:Ending) (w':World) (h:BringA base g p la lbj va (.slice Ab nb cb) j Rj wr e w')=>hL.fin_all h q3 q4)
        clear hL hm q3 q4 hatb hbx
        go_wp2_with (go_at_call 133;(refine hca.out.mono ?_;rintro e w7 hb;have HB:=Lib.hid hb;obtain ⟨he,-⟩:=hb;subst he))
        go_step3
        refine ⟨rfl,?_⟩
        go_wp2_with fail
        try simp only [Exit.jump]
        go_ret
        exact hfa.out _ _ HB.out
      · have hjI:¬ (j:Int) < (nb:Int):=by omega
        have hrw:=hL.new.rows
        have hap:=Lib.hid (And.intro hL.mt.oa (And.intro hrw.2.2.2 (And.intro hrw.2.2.1 (And.intro (show la.length + lA.length≤1000000 by omega) hL.low))))
        have hfp:=Lib.hid (fun (v':Value) (w1:World) (h1:OwnO base w1 v' (la ++ lA)) (h2:wr.grownBy w1 va.ownBlock) (h3:v'.ownBlock = va.ownBlock∨v'.ownBlock = some wr.heap.size)=>hL.fin_app (by omega) h1 h2 h3)
        have hgx:=Lib.hid (fun (w1:World) (h2:wr.grownBy w1 va.ownBlock)=>show w1.cell? ⟨g,0,none⟩ = some va∧w1.frozen? ⟨g,0,none⟩ = false from by
          have h5:w1.heap[g]? = _:=(h2.block g (Array.getElem?_eq_some_iff.1 hbx).1 (fun e=>hL.mt.ga e.symm)).trans hbx
          exact ⟨cell_of_row w1 g 0 _ _ _ h5,frozen_of_row w1 g 0 _ _ h5⟩)
        clear hL hm q3 q4 hatb hbx
        go_wp2_with (at_builtin;(refine wpList_append_ops rfl _ (.tmp 77) rfl base va la rfl hap.out.1 A1 n1 c1 lA rfl hap.out.2.1 hap.out.2.2.1 hap.out.2.2.2.1 hap.out.2.2.2.2 ?_;intro v5 w5 hv5 hg5 hk5;obtain ⟨A5,n5,c5,rfl,-⟩:=hv5.shape;obtain ⟨y0,y1⟩:=hgx.out w5 hg5;have HB:=Lib.hid (hfp.out _ w5 hv5 hg5 hk5);clear hv5 hg5 hk5 k0 k1 k2))
        all_goals
          go_step3
          go_wp2_with fail
          try simp only [Exit.jump]
          go_ret
          exact HB.out
end Go.Proofs.Ytidimannfemnmaa.Lst
namespace Go.Proofs.Ytidimannfemnmaa.Lst
open Go.RowKit Top Shf Sim Sqr
set_option maxRecDepth 20000

set_option maxHeartbeats 16000000 in
theorem ball_step (n:Nat) (hall:∀ m,m < n→AllOk m):AllOk n:=by
  intro base w g p la lb va vb A m c lx from_ R hm hn hap hf hlen hbase hR
  have start:=Lib.hid (La.start (n:=n) hm hn hap hf hlen hbase hR)
  have hall':=Lib.hid hall
  have hlx:=hn.len
  clear hm hn hap hf hlen hbase hR hall
  go_enter Try.func133,Try.ntmps133
  go_wp2_with fail
  refine Top.wp_scope_once 0 rfl ?_
  go_wp2_with fail
  go_loopw [7,12] (fun v7 v12 wr=>∃ (q:Nat) (laq lbq:List (Ov × OS)) (vaq vbq:Value),v12 = .int .i64 (q:Int)∧v7 = .int .i64 0∧La n base w g p la lb va vb A m c lx from_ R q laq lbq vaq vbq wr) (fun _ v12 _=>m - (intOf v12).toNat)
  case atStart=>exact ⟨0,_,_,_,_,rfl,rfl,start.out⟩
  case round =>
    obtain ⟨q,laq,lbq,vaq,vbq,rfl,rfl,hL⟩:=hrel
    have L:=Lib.hid hL
    have hqle:=hL.qle
    by_cases hq:q < m
    · have hqI:(q:Int) < (m:Int):=by omega
      have hmx:m≤4096:=by have h1:=hL.len;have h2:=start.out.len;omega
      obtain ⟨x,hx⟩:∃ x,lx[q]? = some x:=⟨_,List.getElem?_eq_getElem (by omega)⟩
      obtain ⟨hin,ad,hA,hlt,hel⟩:=hL.new.rows.2.2.2.2 q x hx
      subst hA
      obtain ⟨nf,X,hnf,hX,hXe,hXn⟩:=hL.head hx
      have hown:=hL.new.2 x (List.mem_of_getElem? hx)
      obtain ⟨o,s⟩:=x
      dsimp only at hel hown hX
      obtain ⟨e0,e1,e2,e3,e4,e5,e6,e7,e8,e9,e10⟩:=hel
      obtain ⟨Wx,hWx⟩:∃ Q9,Q9 = wr.alloc (.cells (opCells o s) 52):=⟨_,rfl⟩
      have hxb:=Lib.hid (show Below wr.heap.size wr Wx by rw [hWx];exact (Below.refl _ _).alloc (Nat.le_refl _) _)
      have hlen:=hL.len
      have hbr:=Lib.hid (bring_ok nf (fun k hk=>hall'.out k (Nat.lt_of_lt_of_le hk hnf)) base Wx g p laq lbq vaq vbq o s from_ X (hL.mt.below hxb.out) (hown.1.kept fun i _ hi=>hxb.out.block i hi) hown.2 hL.fle (by omega) (Nat.le_trans hL.low hxb.out.size) hX)
      have hfe:=Lib.hid (fun (e:Ending) (w5:World) (hr:BringA base g p laq lbq vaq vbq from_ X Wx e w5) (he:X.2.2 ≠ 0)=>hL.err hxb.out hr (hXe he) he)
      have hfn:=Lib.hid (fun (e:Ending) (w5:World) (hr:BringA base g p laq lbq vaq vbq from_ X Wx e w5) (he:X.2.2 = 0)=>hL.next hq hx hxb.out hnf hX hr he (hXn he))
      clear hL hX hXe hXn hown hin hlt hlen hnf hx
      unfold opCells at hWx hbr
      by_cases hz:X.2.2 = 0
      · have hzz:=Lib.hid hz
        go_wp2_with (go_at_call 172;(rw [← hWx];refine hbr.out.mono ?_;rintro e w5 hb;have HB:=Lib.hid hb;obtain ⟨he,-⟩:=hb;rw [hz] at he;subst he;clear e0 e1 e2 e3 e4 e5 e6 e7 e8 e9 e10))
        obtain ⟨la5,lb5,va5,vb5,hm5,hl5,hl6,hs5,hn5⟩:=hfn.out _ _ HB.out hzz.out
        obtain ⟨A5,n5,c5,rfl,hn5a,-⟩:=hm5.oa.shape
        obtain ⟨A6,n6,c6,rfl,hn6a,-⟩:=hm5.ob.shape
        have hcl:=Lib.hid (fun (W:World) (hB:Below w5.heap.size w5 W)=>show W.cell? ⟨g,0,none⟩ = some (.slice A5 n5 c5)∧W.cell? ⟨g,1,none⟩ = some (.slice A6 n6 c6) from
          ⟨cell_of_row W g 0 _ _ _ ((hB.block g (Array.getElem?_eq_some_iff.1 hm5.box).1).trans hm5.box),cell_of_row W g 1 _ _ _ ((hB.block g (Array.getElem?_eq_some_iff.1 hm5.box).1).trans hm5.box)⟩)
        have hmu:muchB n5 n6 = false:=decide_eq_false (by omega)
        have hn5':=Lib.hid hn5
        clear hm5 hl5 hl6 hn5a hn6a hn5 hz
        rename_i K0 hK0
        refine wp_region_held_drew (S:=(fun W=>Below w5.heap.size w5 W)) (by kernel_rfl) ((Below.refl w5.heap.size w5).drew) (fun hHeld=>?_)
        refine wpAnyH_take (i:=0) (oi:={ dst:=some 22,op:=Go.Op.move (Go.Operand.tmp 0),type:=181,pos:="meeting.go:25",after:=#[],guard:=none }) (v:=?_) rfl (by kernel_rfl) (by kernel_rfl) (by kernel_rfl) (fun _ _ _ h=>h) (Or.inl ⟨by rfl,?_⟩) hHeld ?_
        rotate_left 1
        · intro W hSw;obtain ⟨m0,m1⟩:=hcl.out W hSw;go_simp;try with_reducible rfl
        try simp only [Act.put,zA,zB,zC]
        refine wpAnyH_take (i:=1) (oi:={ dst:=some 23,op:=Go.Op.nilCheck (Go.Operand.tmp 22),type:=0,pos:="meeting.go:25",after:=#[{ on:=0,ground:=Go.Ground.data }],guard:=none }) (v:=?_) rfl (by kernel_rfl) (by kernel_rfl) (by kernel_rfl) (fun _ _ _ h=>h) (Or.inl ⟨by rfl,?_⟩) hHeld ?_
        rotate_left 1
        · intro W hSw;obtain ⟨m0,m1⟩:=hcl.out W hSw;go_simp;try with_reducible rfl
        try simp only [Act.put,zA,zB,zC]
        refine wpAnyH_take (i:=2) (oi:={ dst:=some 24,op:=Go.Op.fieldAddr 151 (Go.Operand.tmp 23) 0,type:=0,pos:="meeting.go:25",after:=#[{ on:=1,ground:=Go.Ground.data }],guard:=none }) (v:=?_) rfl (by kernel_rfl) (by kernel_rfl) (by kernel_rfl) (fun _ _ _ h=>h) (Or.inl ⟨by rfl,?_⟩) hHeld ?_
        rotate_left 1
        · intro W hSw;obtain ⟨m0,m1⟩:=hcl.out W hSw;go_simp;try with_reducible rfl
        try simp only [Act.put,zA,zB,zC]
        refine wpAnyH_take (i:=3) (oi:={ dst:=some 25,op:=Go.Op.load 55 (Go.Operand.tmp 24),type:=55,pos:="meeting.go:25",after:=#[{ on:=2,ground:=Go.Ground.data }],guard:=none }) (v:=?_) rfl (by kernel_rfl) (by kernel_rfl) (by kernel_rfl) (fun _ _ _ h=>h) (Or.inl ⟨by rfl,?_⟩) hHeld ?_
        rotate_left 1
        · intro W hSw;obtain ⟨m0,m1⟩:=hcl.out W hSw;go_simp;try with_reducible rfl
        try simp only [Act.put,zA,zB,zC]
        refine wpAnyH_take (i:=4) (oi:={ dst:=some 26,op:=Go.Op.move (Go.Operand.tmp 0),type:=181,pos:="meeting.go:25",after:=#[],guard:=none }) (v:=?_) rfl (by kernel_rfl) (by kernel_rfl) (by kernel_rfl) (fun _ _ _ h=>h) (Or.inl ⟨by rfl,?_⟩) hHeld ?_
        rotate_left 1
        · intro W hSw;obtain ⟨m0,m1⟩:=hcl.out W hSw;go_simp;try with_reducible rfl
        try simp only [Act.put,zA,zB,zC]
        refine wpAnyH_take (i:=5) (oi:={ dst:=some 27,op:=Go.Op.nilCheck (Go.Operand.tmp 26),type:=0,pos:="meeting.go:25",after:=#[{ on:=4,ground:=Go.Ground.data }],guard:=none }) (v:=?_) rfl (by kernel_rfl) (by kernel_rfl) (by kernel_rfl) (fun _ _ _ h=>h) (Or.inl ⟨by rfl,?_⟩) hHeld ?_
        rotate_left 1
        · intro W hSw;obtain ⟨m0,m1⟩:=hcl.out W hSw;go_simp;try with_reducible rfl
        try simp only [Act.put,zA,zB,zC]
        refine wpAnyH_take (i:=6) (oi:={ dst:=some 28,op:=Go.Op.fieldAddr 151 (Go.Operand.tmp 27) 1,type:=0,pos:="meeting.go:25",after:=#[{ on:=5,ground:=Go.Ground.data }],guard:=none }) (v:=?_) rfl (by kernel_rfl) (by kernel_rfl) (by kernel_rfl) (fun _ _ _ h=>h) (Or.inl ⟨by rfl,?_⟩) hHeld ?_
        rotate_left 1
        · intro W hSw;obtain ⟨m0,m1⟩:=hcl.out W hSw;go_simp;try with_reducible rfl
        try simp only [Act.put,zA,zB,zC]
        refine wpAnyH_take (i:=7) (oi:={ dst:=some 29,op:=Go.Op.load 55 (Go.Operand.tmp 28),type:=55,pos:="meeting.go:25",after:=#[{ on:=6,ground:=Go.Ground.data }],guard:=none }) (v:=?_) rfl (by kernel_rfl) (by kernel_rfl) (by kernel_rfl) (fun _ _ _ h=>h) (Or.inl ⟨by rfl,?_⟩) hHeld ?_
        rotate_left 1
        · intro W hSw;obtain ⟨m0,m1⟩:=hcl.out W hSw;go_simp;try with_reducible rfl
        try simp only [Act.put,zA,zB,zC]
        refine wpAnyH_ready (rs:=[8]) (by kernel_rfl) (by simp) ?_
        refine AllReadyH.cons (o:={ dst:=some 30,op:=Go.Op.buildSlice 180 2 #[(0,Go.Operand.tmp 25),(1,Go.Operand.tmp 29)],type:=180,pos:="meeting.go:25",after:=#[{ on:=3,ground:=Go.Ground.data },{ on:=7,ground:=Go.Ground.data }],guard:=none }) rfl (fun K hK=>?_) AllReadyH.nil
        go_simp
        refine hK.out _ _ ?_ (fun hNew=>?_)
        · exact Below.alloc hHeld hHeld.size _
        clear hK K hHeld
        have hHeld:=hNew
        clear hNew
        try simp only [Act.put,zA,zB,zC]
        refine wpAnyH_ready (rs:=[9]) (by kernel_rfl) (by simp) ?_
        refine AllReadyH.cons (o:={ dst:=some 31,op:=Go.Op.call { callee:=Go.Callee.value (Go.Operand.func 131),args:=#[Go.Operand.tmp 30],argTypes:=#[180] },type:=4,pos:="meeting.go:25",after:=#[{ on:=8,ground:=Go.Ground.data }],guard:=none }) rfl (fun K hK=>?_) AllReadyH.nil
        go_simp
        refine (much_any ((w5.alloc (.cells #[.slice A5 n5 c5,.slice A6 n6 c6] 55)).drew) w5.heap.size A5 A6 n5 c5 n6 c6 _ _ (heap_alloc_new w5 (.cells #[.slice A5 n5 c5,.slice A6 n6 c6] 55))).mono ?_
        rintro e w9 ⟨rfl,rfl⟩
        have B9:=Lib.hid hHeld
        go_simp
        refine hK.out _ _ ?_ (fun hNew=>?_)
        · exact B9.out
        clear hK K hHeld
        have hHeld:=hNew
        clear hNew
        try simp only [Act.put,zA,zB,zC]
        refine wpAnyH_done (by kernel_rfl) ?_ _
        refine hK0 _ _ ?_
        clear hK0

        go_wp2_with fail
        go_roundw
        case rel =>
          exact ⟨q + 1,_,_,_,_,by go_num,rfl,hn5'.out _ B9.out⟩
        case measure=>simp [intOf];omega
      · have hzB:(X.2.2 != 0) = true:=by simp [hz]
        have hzz:=Lib.hid hz
        clear hz
        go_wp2_with (go_at_call 172;(rw [← hWx];refine hbr.out.mono ?_;rintro e w5 hb;have HB:=Lib.hid hb;obtain ⟨he,-⟩:=hb;subst he;clear e0 e1 e2 e3 e4 e5 e6 e7 e8 e9 e10))
        go_step3
        refine ⟨rfl,?_⟩
        go_wp2_with fail
        try simp only [Exit.jump]
        go_ret
        exact hfe.out _ _ HB.out hzz.out
    · have hqI:¬ (q:Int) < (m:Int):=by omega
      have hff:=Lib.hid (hL.fin hq)
      clear hL
      go_wp2_with fail
      go_step3
      go_wp2_with fail
      try simp only [Exit.jump]
      go_ret
      exact hff.out
theorem all_ok:∀ n,AllOk n:=fun n=>Nat.strongRecOn n fun k ih=>ball_step k ih
end Go.Proofs.Ytidimannfemnmaa.Lst
namespace Go.Proofs.Ytidimannfemnmaa.Lst
open Go.RowKit Top Shf Sim Sqr
set_option maxRecDepth 20000

def BothL (w:World) (R:Res) (e:Ending) (w':World):Prop :=
  ∃ (A1:Option Addr) (n1 c1:Nat) (l1:List (Ov × OS)) (A2:Option Addr) (n2 c2:Nat) (l2:List (Ov × OS)),e = .returned (.tuple #[.slice A1 n1 c1,.slice A2 n2 c2,.int .i64 R.2.2])∧NewO w.heap.size w' A1 n1 c1 l1∧NewO w.heap.size w' A2 n2 c2 l2∧l1.map Prod.fst = R.1∧l2.map Prod.fst = R.2.1∧Below w.heap.size w w'
theorem BothL.nil_ {w w':World} {k:Int} (hb:Below w.heap.size w w'):BothL w ([],[],k) (.returned (.tuple #[.slice none 0 0,.slice none 0 0,.int .i64 k])) w' :=
  ⟨none,0,0,[],none,0,0,[],rfl,NewO.nil_ _ _,NewO.nil_ _ _,rfl,rfl,hb⟩
theorem three_cells {w:World} {g:Nat} {v0 v1 v2:Value} {t:TypeId} (h:w.heap[g]? = some (.cells #[v0,v1,v2] t (0,0))):w.cell? ⟨g,0,none⟩ = some v0∧w.cell? ⟨g,1,none⟩ = some v1∧w.cell? ⟨g,2,none⟩ = some v2∧∀ i,w.frozen? ⟨g,i,none⟩ = false :=
  ⟨cell_of_row w g 0 _ _ _ h,cell_of_row w g 1 _ _ _ h,cell_of_row w g 2 _ _ _ h,fun i=>frozen_of_row w g i _ _ h⟩
theorem set_three {w:World} {g:Nat} {v0 v1 v2 u0 u1 u2:Value} {t:TypeId} (h:w.heap[g]? = some (.cells #[v0,v1,v2] t (0,0))) (B:Nat) (hB:B≤g):∃ W,W = ((w.setCell ⟨g,0,none⟩ u0).setCell ⟨g,1,none⟩ u1).setCell ⟨g,2,none⟩ u2∧W.heap[g]? = some (.cells #[u0,u1,u2] t (0,0))∧W.heap.size = w.heap.size∧Below B w W∧∀ k,k ≠ g→W.heap[k]? = w.heap[k]?:=by
  have e0:=heap_setCell_same w g 0 _ _ u0 h
  have e1:=heap_setCell_same _ g 1 _ _ u1 e0
  have e2:=heap_setCell_same _ g 2 _ _ u2 e1
  exact ⟨_,rfl,by rw [e2];simp,by simp [World.setCell],(((Below.refl B w).setCell hB _).setCell hB _).setCell hB _,fun k hk=>by repeat rw [heap_setCell_other _ _ k _ hk]⟩
theorem both_meet {w W2 w3 W4 w5:World} {na nb:Nat} {la lb l3 l5:List (Ov × OS)} {p:Bool} {n:Nat} {R:Res} {A3 A5:Option Addr} {n3 c3 n5 c5:Nat}
    (hR:metV p n ((la.map Prod.fst).map bareV) ((lb.map Prod.fst).map bareV) = some R) (hla:la.length = na) (hlb:lb.length = nb) (hlen:na + nb≤4096) (h3:Below w.heap.size w W2∧Below W2.heap.size W2 w3) (hN3:NewO W2.heap.size w3 A3 n3 c3 l3) (hm3:l3.map Prod.fst = (lb.map Prod.fst).map bareV)
    (hx4:W4.heap[w.heap.size]? = some (.cells #[.slice none 0 0,.slice A3 n3 c3,.bool p] 151 (0,0))) (hs4:W4.heap.size = w3.heap.size) (hb4:Below w.heap.size w3 W4) (ho4:∀ k,k ≠ w.heap.size→W4.heap[k]? = w3.heap[k]?)
    (hN5:NewO W4.heap.size w5 A5 n5 c5 l5) (hm5:l5.map Prod.fst = (la.map Prod.fst).map bareV) (hb5:Below W4.heap.size W4 w5) (hc3:Below w.heap.size w w3) (hg:w.heap.size < W2.heap.size) :
    Calls Try.prog 133 #[.pointer (some ⟨w.heap.size,0,none⟩),.slice A5 n5 c5,.int .i64 0] w5 (BringA w.heap.size w.heap.size p [] l3 (.slice none 0 0) (.slice A3 n3 c3) 0 R w5):=by
  have s3:=h3.2.size
  have s5:=hb5.size
  have own3:∀ k,(Value.slice A3 n3 c3).ownBlock = some k→W2.heap.size≤k∧k < w3.heap.size:=fun k e=>by
    rcases hN3.1.2 with ⟨e2,_⟩ | ⟨g',cap,cur,e2,hb,hg,_⟩
    · rw [e2] at e;cases e
    · rw [e2] at e
      have e3:g' = k:=by simpa [Value.ownBlock] using e
      subst e3
      exact ⟨hb,(Array.getElem?_eq_some_iff.1 hg).1⟩
  have own5:∀ k,(Value.slice A5 n5 c5).ownBlock = some k→W4.heap.size≤k:=fun k e=>by
    rcases hN5.1.2 with ⟨e2,_⟩ | ⟨g',cap,cur,e2,hb,hg,_⟩
    · rw [e2] at e;cases e
    · rw [e2] at e
      have e3:g' = k:=by simpa [Value.ownBlock] using e
      omega
  have n4:NewO w.heap.size W4 A3 n3 c3 l3:=(hN3.kept (w':=W4) fun k hk _=>ho4 k (by omega)).mono (by omega)
  have m5:Mt w.heap.size w5 w.heap.size p [] l3 (.slice none 0 0) (.slice A3 n3 c3) :=
    ⟨(hb5.block _ (by omega)).trans hx4,Nat.le_refl _,OwnO.nil_ _ _,(n4.below hb5).1,fun y hy=>(by cases hy),(n4.below hb5).2,fun k e=>(by cases e)⟩
  have e1:=congrArg List.length hm3
  have e2:=congrArg List.length hm5
  simp only [List.length_map] at e1 e2
  have h:=all_ok n w.heap.size w5 w.heap.size p [] l3 (.slice none 0 0) (.slice A3 n3 c3) A5 n5 c5 l5 0 R m5 (hN5.mono (by omega)) (fun k e ht=>by
    have h5:=own5 k e
    rcases ht with rfl | ht | ht
    · omega
    · cases ht
    · have:=own3 k ht;omega) (Nat.zero_le _) (by simp only [List.length_nil];omega) (by omega) (by rw [List.drop_zero,hm5,hm3];exact hR)
  exact h
theorem hmt_low {w:World} {W2 w3:World} {A3:Option Addr} {n3 c3:Nat} {l3:List (Ov × OS)} (hN3:NewO W2.heap.size w3 A3 n3 c3 l3) (hg:w.heap.size < W2.heap.size):∀ k,Tn w.heap.size (.slice none 0 0) (.slice A3 n3 c3) k→w.heap.size≤k:=fun k hk=>by
  rcases hk with rfl | hk | hk
  · exact Nat.le_refl _
  · cases hk
  · rcases hN3.1.2 with ⟨e2,_⟩ | ⟨g',cap,cur,e2,hb,_⟩
    · rw [e2] at hk;cases hk
    · rw [e2] at hk
      have e3:g' = k:=by simpa [Value.ownBlock] using hk
      omega
set_option maxHeartbeats 16000000 in
theorem lboth_any (w:World) (A:Option Addr) (na ca:Nat) (la:List (Ov × OS)) (B:Option Addr) (nb cb:Nat) (lb:List (Ov × OS)) (p:Bool) (n:Nat) (R:Res) (hA:OpsR w A na la) (hB:OpsR w B nb lb) (hlen:na + nb≤4096)
    (hR:metV p n ((la.map Prod.fst).map bareV) ((lb.map Prod.fst).map bareV) = some R) :
    Calls Try.prog 59 #[.slice A na ca,.slice B nb cb,.bool p] w (BothL w R):=by
  obtain ⟨W1,hW1⟩:∃ Q9,Q9 = w.alloc (.cells #[.slice none 0 0,.slice none 0 0,.bool false] 151):=⟨_,rfl⟩
  have hb1:Below w.heap.size w W1:=by rw [hW1];exact (Below.refl _ _).alloc (Nat.le_refl _) _
  have hs1:W1.heap.size = w.heap.size + 1:=by rw [hW1];simp
  have hx1:W1.heap[w.heap.size]? = some (.cells #[.slice none 0 0,.slice none 0 0,.bool false] 151 (0,0)):=by rw [hW1];exact heap_alloc_new w _
  obtain ⟨W2,hW2⟩:∃ Q9,Q9 = W1.alloc (.cells #[.slice A na ca,.slice B nb cb] 55):=⟨_,rfl⟩
  have hb2:Below W1.heap.size W1 W2:=by rw [hW2];exact (Below.refl _ _).alloc (Nat.le_refl _) _
  have hx2:W2.heap[W1.heap.size]? = some (.cells #[.slice A na ca,.slice B nb cb] 55 (0,0)):=by rw [hW2];exact heap_alloc_new W1 _
  have hmu:muchB na nb = false:=decide_eq_false (by omega)
  have hml:=much_any W2 W1.heap.size A B na ca nb cb _ _ hx2
  rw [hmu,hs1] at hml
  have hml':=Lib.hid hml
  have hbb:=Lib.hid (bare_row W2 B nb cb lb ((hB.below hb1).below hb2) (by omega))
  have hba:=Lib.hid (fun (W:World) (hw:Below w.heap.size w W)=>bare_row W A na ca la (hA.below hw) (by omega))
  have hZ:=Lib.hid (And.intro (hb1.trans (hb2.mono (by omega))) (And.intro ((hb2.block w.heap.size (by omega)).trans hx1) (And.intro hA.1 hB.1)))
  have hR':=Lib.hid hR
  have hs1':=Lib.hid hs1
  have hl':=Lib.hid hlen
  have hg2:=Lib.hid (show w.heap.size < W2.heap.size by have:=hb2.size;omega)
  clear hb1 hx1 hb2 hx2 hml hA hB hR hlen hs1
  go_enter Try.func59,Try.ntmps59
  go_wp2_with fail
  refine Top.wp_scope_once 0 rfl ?_
  go_upto_region 6 with (first
    | (go_at_call 133;(refine hmt.out.mono ?_;rintro e w6 hb6;have HB:=Lib.hid hb6;obtain ⟨he,-⟩:=hb6;subst he))
    | (go_at_call_of 132 A;(obtain ⟨W4,hW4,hx4,hs4,hb4,ho4⟩:=set_three (u0:=.slice none 0 0) (u1:=.slice A3 n3 c3) (u2:=.bool p) hx3.out w.heap.size (Nat.le_refl _);rw [← hW4];refine (hba.out W4 ((C3.out).trans hb4)).mono ?_;rintro e w5 ⟨A5,n5,c5,l5,rfl,hN5,hm5,hb5⟩;have hmt:=Lib.hid (both_meet hR'.out hZ.out.2.2.1 hZ.out.2.2.2 hl'.out H3.out hN3'.out hm3'.out hx4 hs4 hb4 ho4 hN5 hm5 hb5 C3.out hg2.out);have C5:=Lib.hid ((C3.out.trans hb4).trans (hb5.mono (by have:=C3.out.size;omega)));clear hW4 hx4 hs4 hb4 ho4 hN5 hm5 hb5 t0 t1 t2 tf))
    | (go_at_call_of 132 B;(rw [← hW1,← hW2];refine hbb.out.mono ?_;rintro e w3 ⟨A3,n3,c3,l3,rfl,hN3,hm3,hb3⟩;have hx3:=Lib.hid ((hb3.block w.heap.size hg2.out).trans hZ.out.2.1);obtain ⟨t0,t1,t2,tf⟩:=three_cells hx3.out;have H3:=Lib.hid (And.intro hZ.out.1 hb3);have hN3':=Lib.hid hN3;have hm3':=Lib.hid hm3;have C3:=Lib.hid (hZ.out.1.trans (hb3.mono hZ.out.1.size));clear hN3 hm3 hb3))
    | (go_at_call 131;(rw [← hW1,← hW2];refine hml'.out.mono ?_;rintro e w2 ⟨rfl,rfl⟩)))
  obtain ⟨-,hfx,hres⟩:=HB.out
  have hbel:=Lib.hid (show Below w.heap.size w w6 from C5.out.trans (hfx.below (fun k hk=>hmt_low hN3'.out hg2.out k hk) C5.out.size))
  by_cases hz:R.2.2 = 0
  · obtain ⟨la',lb',va',vb',hm6,e1,e2,-,-⟩:=hres hz
    obtain ⟨A7,n7,c7,rfl,-⟩:=hm6.oa.shape
    obtain ⟨A8,n8,c8,rfl,-⟩:=hm6.ob.shape
    obtain ⟨t0,t1,-,-⟩:=three_cells hm6.box
    have hfin:=Lib.hid (show BothL w R (.returned (.tuple #[.slice A7 n7 c7,.slice A8 n8 c8,.int .i64 0])) w6 from
      ⟨A7,n7,c7,la',A8,n8,c8,lb',by rw [hz],⟨hm6.oa,hm6.ea⟩,⟨hm6.ob,hm6.eb⟩,by rw [e1];rfl,by rw [e2];rfl,hbel.out⟩)
    clear hres hfx hm6 e1 e2
    rw [hz]
    clear hz
    go_upto_region 7 with fail
    go_quiet (fail)
    rename_i nq
    go_wp2_with fail
    try simp only [Exit.jump]
    go_ret3
    obtain ⟨B1,m1,d1,k1,B2,m2,d2,k2,q1,q2,q3,q4,q5,q6⟩:=hfin.out
    exact ⟨B1,m1,d1,k1,B2,m2,d2,k2,q1,q2.kept (w':=w6.drewN nq) fun _ _ _=>rfl,q3.kept (w':=w6.drewN nq) fun _ _ _=>rfl,q4,q5,draws q6 nq⟩
  · have hzB:(R.2.2 != 0) = true:=by simp [hz]
    have hfin:=Lib.hid (show BothL w R (.returned (.tuple #[.slice none 0 0,.slice none 0 0,.int .i64 R.2.2])) w6 by
      rw [met_err hR'.out hz]
      exact BothL.nil_ hbel.out)
    clear hres hfx hz
    go_wp2_with fail
    go_step3
    refine ⟨rfl,?_⟩
    go_wp2_with fail
    try simp only [Exit.jump]
    go_ret3
    exact hfin.out
end Go.Proofs.Ytidimannfemnmaa.Lst
