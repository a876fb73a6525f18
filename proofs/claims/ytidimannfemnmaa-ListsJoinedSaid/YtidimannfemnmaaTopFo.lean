/- What the frame tells of an operation that came in. -/
import Derived.Test.YtidimannfemnmaaMgAD
import Derived.Test.YtidimannfemnmaaMgAL
set_option linter.all false
namespace Go.Proofs.Ytidimannfemnmaa.Top
open Go.RowKit Go.ChangeShapes Go.WideShapes Go.Deep
set_option maxRecDepth 20000

structure OpRaw (w:World) (o:Ov) (s:OS):Prop where
  kind:o.kind < 256
  path:Its w s.pA s.pn o.path
  pnc:s.pn≤s.pc
  pcm:s.pc≤maxLen
  pnil:s.pA = none→s.pc = 0
  at_:-9223372036854775808≤o.at_∧o.at_≤9223372036854775807
  to_:Its w s.tA s.tn o.to_
  tnc:s.tn≤s.tc
  tcm:s.tc≤maxLen
  tnil:s.tA = none→s.tc = 0
  id:o.id < 18446744073709551616
  label:o.label.length≤maxLen
  key:o.key.length≤maxLen
  value:o.value.length≤maxLen
  pieces:P5.PcsIn w s.qA s.qn o.pieces
  qnc:s.qn≤s.qc
  qcm:s.qc≤maxLen
  qnil:s.qA = none→s.qc = 0
  pfit:Fit o.path
  tfit:Fit o.to_
theorem OpRaw.below {w w':World} {o:Ov} {s:OS} (h:OpRaw w o s) (hb:Below w.heap.size w w'):OpRaw w' o s :=
  { h with path:=h.path.below hb,to_:=h.to_.below hb,pieces:=h.pieces.below hb }
theorem OpRaw.op {w:World} {o:Ov} {s:OS} (h:OpRaw w o s) (h1:o.path.length≤500000) (h2:o.to_.length≤500000) (h3:o.pieces.length≤500000):OpIn w o s :=
  ⟨h.kind,h.path,h.pnc,h.pcm,h.pnil,h.at_,h.to_,h.tnc,h.tcm,h.tnil,h.id,h.label,h.key,h.value,h.pieces,h.qnc,h.qcm,h.qnil,by rw [← h.path.1];exact h1,by rw [← h.to_.1];exact h2,by rw [← h.pieces.1];exact h3,h.pfit,h.tfit⟩
theorem op_size:Try.prog.cellsOf 52 = 11:=by kernel_rfl
theorem op_fields:∃ f0 f1 f2 f3 f4 f5 f6 f7 f8 f9 f10:Field,Try.prog.underlying 52 = some (.struct #[f0,f1,f2,f3,f4,f5,f6,f7,f8,f9,f10])∧(f0.type = 5∧f0.offset = 0)∧(f1.type = 40∧f1.offset = 1)∧(f2.type = 3∧f2.offset = 2)∧(f3.type = 40∧f3.offset = 3)∧(f4.type = 32∧f4.offset = 4)∧(f5.type = 4∧f5.offset = 5)∧(f6.type = 9∧f6.offset = 6)∧(f7.type = 9∧f7.offset = 7)∧(f8.type = 9∧f8.offset = 8)∧(f9.type = 4∧f9.offset = 9)∧(f10.type = 22∧f10.offset = 10) :=
  ⟨_,_,_,_,_,_,_,_,_,_,_,Try.underlying52,⟨rfl,rfl⟩,⟨rfl,rfl⟩,⟨rfl,rfl⟩,⟨rfl,rfl⟩,⟨rfl,rfl⟩,⟨rfl,rfl⟩,⟨rfl,rfl⟩,⟨rfl,rfl⟩,⟨rfl,rfl⟩,⟨rfl,rfl⟩,⟨rfl,rfl⟩⟩
section
variable {H:Type} {enc:TypeId × Value→H} {W:World} {b0:Nat}
theorem ints_nil {fuel:Nat} {v:Value} {x:DataW H × List MemPlace} (h:DataW.trod enc Try.prog W b0 (fun _=>true) true fuel 40 [v] = some x) :
    ∃ (A:Option Addr) (n c:Nat) (l:List Int),v = .slice A n c∧Its W A n l∧n≤c∧c≤maxLen∧(A = none→c = 0)∧Fit l:=by
  obtain ⟨A,n,c,l,e,h1,h2,h3,h4⟩:=ints_in h
  refine ⟨A,n,c,l,e,h1,h2,h3,fun hA=>?_,h4⟩
  subst hA
  rcases DataW.trod_slice Try.underlying40 h with ⟨hcs,-⟩ | ⟨a,len,cap,elems,rest,m,-,hcs,-⟩
  · rw [e] at hcs
    simp at hcs
    exact hcs.2
  · rw [e] at hcs
    simp at hcs
theorem op_in {fuel:Nat} {cs:List Value} {x:DataW H × List MemPlace} (h:DataW.trod enc Try.prog W b0 (fun _=>true) true fuel 52 cs = some x):∃ (o:Ov) (s:OS),cs = (opCells o s).toList∧OpRaw W o s:=by
  obtain ⟨f0,f1,f2,f3,f4,f5,f6,f7,f8,f9,f10,hu,⟨t0,p0⟩,⟨t1,p1⟩,⟨t2,p2⟩,⟨t3,p3⟩,⟨t4,p4⟩,⟨t5,p5⟩,⟨t6,p6⟩,⟨t7,p7⟩,⟨t8,p8⟩,⟨t9,p9⟩,⟨t10,p10⟩⟩:=op_fields
  obtain ⟨ys,m,hn,-,hlen,hyl,hf⟩:=DataW.trod_struct hu h
  rw [op_size] at hlen
  obtain ⟨v0,v1,v2,v3,v4,v5,v6,v7,v8,v9,v10,rfl⟩:∃ v0 v1 v2 v3 v4 v5 v6 v7 v8 v9 v10,cs = [v0,v1,v2,v3,v4,v5,v6,v7,v8,v9,v10]:=by
    match cs,hlen with
    | [a,b,c,d,e,f,g,h,i,j,k],_=>exact ⟨a,b,c,d,e,f,g,h,i,j,k,rfl⟩
  have g0:=hf 0 f0 rfl
  rw [t0,p0,one_cell] at g0
  have g1:=hf 1 f1 rfl
  rw [t1,p1,one_cell] at g1
  have g2:=hf 2 f2 rfl
  rw [t2,p2,one_cell] at g2
  have g3:=hf 3 f3 rfl
  rw [t3,p3,one_cell] at g3
  have g4:=hf 4 f4 rfl
  rw [t4,p4,one_cell] at g4
  have g5:=hf 5 f5 rfl
  rw [t5,p5,one_cell] at g5
  have g6:=hf 6 f6 rfl
  rw [t6,p6,one_cell] at g6
  have g7:=hf 7 f7 rfl
  rw [t7,p7,one_cell] at g7
  have g8:=hf 8 f8 rfl
  rw [t8,p8,one_cell] at g8
  have g9:=hf 9 f9 rfl
  rw [t9,p9,one_cell] at g9
  have g10:=hf 10 f10 rfl
  rw [t10,p10,one_cell] at g10
  have hys:∀ i,i < 11→∃ y,ys[i]? = some y:=fun i hi=>⟨_,List.getElem?_eq_getElem (by rw [hyl];exact hi)⟩
  obtain ⟨y0,e0⟩:=hys 0 (by omega)
  obtain ⟨y1,e1⟩:=hys 1 (by omega)
  obtain ⟨y2,e2⟩:=hys 2 (by omega)
  obtain ⟨y3,e3⟩:=hys 3 (by omega)
  obtain ⟨y4,e4⟩:=hys 4 (by omega)
  obtain ⟨y5,e5⟩:=hys 5 (by omega)
  obtain ⟨y6,e6⟩:=hys 6 (by omega)
  obtain ⟨y7,e7⟩:=hys 7 (by omega)
  obtain ⟨y8,e8⟩:=hys 8 (by omega)
  obtain ⟨y9,e9⟩:=hys 9 (by omega)
  obtain ⟨y10,e10⟩:=hys 10 (by omega)
  obtain ⟨i0,hi0,-,wi0⟩:=DataW.trod_int Try.underlying5 (g0.trans e0)
  obtain ⟨A1,n1,c1,l1,hi1,hA1,hnc1,hcm1,hnl1,hft1⟩:=ints_nil (g1.trans e1)
  obtain ⟨i2,hi2,-,wi2⟩:=DataW.trod_int Try.underlying3 (g2.trans e2)
  obtain ⟨A3,n3,c3,l3,hi3,hA3,hnc3,hcm3,hnl3,hft3⟩:=ints_nil (g3.trans e3)
  obtain ⟨i4,hi4,-,wi4⟩:=DataW.trod_int Try.underlying32 (g4.trans e4)
  obtain ⟨i5,hi5,-⟩:=DataW.trod_bool Try.underlying4 (g5.trans e5)
  obtain ⟨i6,hi6,-,wi6⟩:=DataW.trod_string Try.underlying9 (g6.trans e6)
  obtain ⟨i7,hi7,-,wi7⟩:=DataW.trod_string Try.underlying9 (g7.trans e7)
  obtain ⟨i8,hi8,-,wi8⟩:=DataW.trod_string Try.underlying9 (g8.trans e8)
  obtain ⟨i9,hi9,-⟩:=DataW.trod_bool Try.underlying4 (g9.trans e9)
  obtain ⟨A10,n10,c10,l10,hi10,hA10,hnc10,hcm10,hnl10⟩:=P5.pieces_in (g10.trans e10)
  have hb0:0≤i0∧i0≤255:=by simpa [Lit.wf,IntKind.min,IntKind.max,IntKind.signed,IntKind.bits] using wi0
  have hb2:-9223372036854775808≤i2∧i2≤9223372036854775807:=by simpa [Lit.wf,IntKind.min,IntKind.max,IntKind.signed,IntKind.bits] using wi2
  have hb4:0≤i4∧i4≤18446744073709551615:=by simpa [Lit.wf,IntKind.min,IntKind.max,IntKind.signed,IntKind.bits] using wi4
  obtain ⟨k0,rfl⟩:∃ k:Nat,i0 = (k:Int):=⟨i0.toNat,by omega⟩
  obtain ⟨k4,rfl⟩:∃ k:Nat,i4 = (k:Int):=⟨i4.toNat,by omega⟩
  simp at hi0 hi1 hi2 hi3 hi4 hi5 hi6 hi7 hi8 hi9 hi10
  subst hi0 hi1 hi2 hi3 hi4 hi5 hi6 hi7 hi8 hi9 hi10
  refine ⟨⟨k0,l1,i2,l3,k4,i5,i6.data.toList,i7.data.toList,i8.data.toList,i9,l10⟩,⟨A1,n1,c1,A3,n3,c3,A10,n10,c10⟩,rfl,?_⟩
  exact ⟨by show k0 < 256;omega,hA1,hnc1,hcm1,hnl1,hb2,hA3,hnc3,hcm3,hnl3,by show k4 < _;omega,by show i6.data.toList.length≤_;rw [Array.length_toList];exact wi6,by show i7.data.toList.length≤_;rw [Array.length_toList];exact wi7,by show i8.data.toList.length≤_;rw [Array.length_toList];exact wi8,hA10,hnc10,hcm10,hnl10,hft1,hft3⟩
def OpsIn (w:World) (A:Option Addr) (n:Nat) (l:List (Ov × OS)):Prop :=
  l.length = n∧∀ q x,l[q]? = some x→OpRaw w x.1 x.2∧∃ ad,A = some ad∧ad.block < w.heap.size∧∀ j v,(opCells x.1 x.2)[j]? = some v→w.cell? ((ad.add (q * 11)).add j) = some v
theorem ops_in {fuel:Nat} {v:Value} {x:DataW H × List MemPlace} (h:DataW.trod enc Try.prog W b0 (fun _=>true) true fuel 55 [v] = some x) :
    ∃ (A:Option Addr) (n c:Nat) (l:List (Ov × OS)),v = .slice A n c∧OpsIn W A n l∧n≤c∧c≤maxLen∧(A = none→c = 0):=by
  rcases DataW.trod_slice Try.underlying55 h with ⟨hcs,-⟩ | ⟨a,len,cap,elems,rest,n,-,hcs,-,-,hl,hm,hel,hi,-⟩
  · simp at hcs
    exact ⟨none,0,0,[],hcs,⟨rfl,fun q x h=>by simp at h⟩,Nat.le_refl _,Nat.zero_le _,fun _=>rfl⟩
  · simp at hcs
    rw [op_size] at hi
    obtain ⟨xs,hxl,hx⟩:=list_of (R:=fun i (y:Ov × OS)=>OpRaw W y.1 y.2∧∀ j v,(opCells y.1 y.2)[j]? = some v→W.cell? ((a.add (i * 11)).add j) = some v) len fun i hil=>by
      have key:=hi i hil
      rw [List.getElem?_eq_getElem (by omega)] at key
      obtain ⟨cs',h1,h2⟩:=Option.bind_eq_some_iff.1 key
      obtain ⟨o,s,rfl,ho⟩:=op_in h2
      obtain ⟨-,hcl,hat⟩:=World.cells?_some h1
      refine ⟨(o,s),ho,fun j v hj=>?_⟩
      have hjl:j < 11:=(Array.getElem?_eq_some_iff.1 hj).1
      have h3:=hat j hjl
      rw [h3]
      have e:((opCells o s).toList)[j]? = some v:=by rw [Array.getElem?_toList];exact hj
      rw [← e]
    refine ⟨some a,len,cap,xs,hcs,⟨hxl,fun q y hq=>⟨(hx q y hq).1,a,rfl,?_,(hx q y hq).2⟩⟩,hl,hm,fun e=>by cases e⟩
    have hb:=(hx q y hq).2 0 _ rfl
    have h1:=add_block_lt hb
    rwa [block_add] at h1
end
end Go.Proofs.Ytidimannfemnmaa.Top

