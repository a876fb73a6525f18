/- The document's Bare. -/
import Derived.Test.YtidimannfemnmaaMgAN
import Derived.Test.YtidimannfemnmaaMgAK
set_option linter.all false
namespace Go.Proofs.Ytidimannfemnmaa.Top
open Go.RowKit
set_option maxRecDepth 20000

theorem two_rows {w W3 w1 w2:World} {B:Nat} {o1 o2 o3:Obj} (z1:W3.heap[B]? = some o1) (z2:W3.heap[B + 1]? = some o2) (z3:W3.heap[B + 1 + 1]? = some o3) (z5:W3.heap.size = B + 1 + 1 + 1) (h1:Below W3.heap.size W3 w1) (h2:Below w1.heap.size w1 w2) :
    Below W3.heap.size W3 w2∧w2.heap[B]? = some o1∧w2.heap[B + 1]? = some o2∧w2.heap[B + 1 + 1]? = some o3:=by
  have h:=h1.trans (h2.mono h1.size)
  exact ⟨h,(h.block _ (by omega)).trans z1,(h.block _ (by omega)).trans z2,(h.block _ (by omega)).trans z3⟩
set_option maxHeartbeats 4000000 in
theorem rbare_k1 (w:World) (o:Ov) (s:OS) (ho:OpIn w o s) (hk:o.kind = 1) :Calls Try.prog 32 #[.agg (opCells o s)] w (BareA w (bareV o)):=by
  obtain ⟨z1,z2,z3,z4,z5⟩:=three_new w (.cells (opCells o s) 52) (.cells zero11 52) (.cells #[.int .u8 1,.slice none 0 0,.int .i64 0,.slice none 0 0,.int .u64 0,.bool false,.string ⟨#[]⟩,.string ⟨#[]⟩,.string ⟨#[]⟩,.bool false,.slice none 0 0] 52)
  obtain ⟨W3,hW3⟩:∃ W3,W3 = ((w.alloc (.cells (opCells o s) 52)).alloc (.cells zero11 52)).alloc (.cells #[.int .u8 1,.slice none 0 0,.int .i64 0,.slice none 0 0,.int .u64 0,.bool false,.string ⟨#[]⟩,.string ⟨#[]⟩,.string ⟨#[]⟩,.bool false,.slice none 0 0] 52):=⟨_,rfl⟩
  rw [← hW3] at z1 z2 z3 z4 z5
  have hkI:=Lib.hid (show (o.kind:Int) = 1 by omega)
  have ho':=Lib.hid ho
  have z1':=Lib.hid z1
  have z2':=Lib.hid z2
  have z3':=Lib.hid z3
  have z4':=Lib.hid z4
  have z5':=Lib.hid z5
  unfold opCells zero11 at hW3
  unfold opCells
  rw [hkI.out] at hW3 ⊢
  clear ho z1 z2 z3 z4 z5
  go_enter Try.func32,Try.ntmps32
  go_upto_region 3 with fail
  rw [← hW3]
  clear hW3
  have o1u:=z1'.out
  obtain ⟨o0,o1,o2,o3,o4,o5,o6,o7,o8,o9,o10⟩:=op_cells o1u
  clear o1u
  go_upto_region 4 with (at_builtin;(refine P4.wpList_append_its rfl _ (.tmp 11) rfl (w.heap.size + 1 + 1 + 1) (.slice none 0 0) [] o.path rfl (P4.OwnI.nil_ _ _) s.pA s.pn s.pc rfl (ho'.out.below z4'.out).path ho'.out.pnil (by have h7:=ho'.out.path.1;have h8:=ho'.out.pfew;simp only [List.length_nil];omega) (by have:=z5'.out;omega) ?_;intro v1 w1 ho1 hg1 hat1;have hb1:=P4.grown_nil hg1;have B1:=Lib.hid hb1;have V1:=Lib.hid ho1;obtain ⟨A1,n1,c1,rfl,-⟩:=P4.OwnI.shape ho1;have y1:=(hb1.block w.heap.size (by have:=z5'.out;omega)).trans z1'.out;clear o0 o1 o2 o3 o4 o5 o6 o7 o8 o9 o10 ho1 hg1 hat1 hb1;obtain ⟨o0,o1,o2,o3,o4,o5,o6,o7,o8,o9,o10⟩:=op_cells y1;clear y1))
  go_upto_region 5 with (at_builtin;(refine P4.wpList_append_its rfl _ (.tmp 15) rfl (w.heap.size + 1 + 1 + 1) (.slice none 0 0) [] o.to_ rfl (P4.OwnI.nil_ _ _) s.tA s.tn s.tc rfl (ho'.out.below (z4'.out.trans (B1.out.mono z4'.out.size))).to_ ho'.out.tnil (by have h7:=ho'.out.to_.1;have h8:=ho'.out.tfew;simp only [List.length_nil];omega) (by have:=z5'.out;have:=B1.out.size;omega) ?_;intro v2 w2 ho2 hg2 hat2;have hb2:=P4.grown_nil hg2;have B2:=Lib.hid hb2;have V2:=Lib.hid ho2;obtain ⟨A2,n2,c2,rfl,-⟩:=P4.OwnI.shape ho2;clear o0 o1 o2 o3 o4 o5 o6 o7 o8 o9 o10 ho2 hg2 hat2 hb2))
  obtain ⟨b3,y1,y2,y3⟩:=two_rows (w:=w) z1'.out z2'.out z3'.out z5'.out B1.out B2.out
  have B3:=Lib.hid b3
  have Y1:=Lib.hid y1
  have Y2:=Lib.hid y2
  have Y3:=Lib.hid y3
  have yw:=Lib.hid (z4'.out.trans (b3.mono z4'.out.size))
  obtain ⟨o0,o1,o2,o3,o4,o5,o6,o7,o8,o9,o10⟩:=op_cells y1
  obtain ⟨p0,p1,p2,p3,p4,p5,p6,p7,p8,p9,p10,pf⟩:=eleven_cells y3
  have hl3:w.heap.size + 1 + 1 < w2.heap.size:=(Array.getElem?_eq_some_iff.1 y3).1
  clear b3 y1 y2 y3
  go_upto_region 25 with fail
  clear o0 o1 o2 o3 o4 o5 o6 o7 o8 o9 o10 p0 p1 p2 p3 p4 p5 p6 p7 p8 p9 p10 pf
  obtain ⟨X,hX⟩:∃ X,X = ((((w2.setCell ⟨w.heap.size + 1 + 1,2,none⟩ (.int .i64 o.at_)).setCell ⟨w.heap.size + 1 + 1,4,none⟩ (.int .u64 (o.id:Int))).setCell ⟨w.heap.size + 1 + 1,5,none⟩ (.bool o.leaf)).setCell ⟨w.heap.size + 1 + 1,6,none⟩ (.string ⟨o.label.toArray⟩)):=⟨_,rfl⟩
  have x3:X.heap[w.heap.size + 1 + 1]? = some (.cells #[.int .u8 1,.slice none 0 0,.int .i64 o.at_,.slice none 0 0,.int .u64 (o.id:Int),.bool o.leaf,.string ⟨o.label.toArray⟩,.string ⟨#[]⟩,.string ⟨#[]⟩,.bool false,.slice none 0 0] 52 (0,0)):=by rw [hX];have e0:=heap_setCell_same _ _ 2 _ _ (.int .i64 o.at_) Y3.out;have e1:=heap_setCell_same _ _ 4 _ _ (.int .u64 (o.id:Int)) e0;have e2:=heap_setCell_same _ _ 5 _ _ (.bool o.leaf) e1;have e3:=heap_setCell_same _ _ 6 _ _ (.string ⟨o.label.toArray⟩) e2;rw [e3];simp
  have hk5:=Lib.hid (show ∀ k,k ≠ w.heap.size + 1 + 1→X.heap[k]? = w2.heap[k]? by intro k hk;rw [hX];repeat rw [heap_setCell_other _ _ k _ hk])
  have xw:=Lib.hid (show Below w.heap.size w X by rw [hX];exact ((((yw.out.setCell (p:=⟨w.heap.size + 1 + 1,2,none⟩) (by show w.heap.size≤w.heap.size + 1 + 1;omega) _).setCell (p:=⟨w.heap.size + 1 + 1,4,none⟩) (by show w.heap.size≤w.heap.size + 1 + 1;omega) _).setCell (p:=⟨w.heap.size + 1 + 1,5,none⟩) (by show w.heap.size≤w.heap.size + 1 + 1;omega) _).setCell (p:=⟨w.heap.size + 1 + 1,6,none⟩) (by show w.heap.size≤w.heap.size + 1 + 1;omega) _))
  have xz:=Lib.hid (show X.heap.size = w2.heap.size by rw [hX];simp)
  rw [← hX]
  clear hX
  obtain ⟨p0,p1,p2,p3,p4,p5,p6,p7,p8,p9,p10,pf⟩:=eleven_cells x3
  have X3:=Lib.hid x3
  have hlx:w.heap.size + 1 + 1 < X.heap.size:=(Array.getElem?_eq_some_iff.1 x3).1
  clear x3
  go_upto_region 26 with fail
  clear p0 p1 p2 p3 p4 p5 p6 p7 p8 p9 p10 pf
  obtain ⟨W5,hW5⟩:∃ W5,W5 = X.setCell ⟨w.heap.size + 1 + 1,1,none⟩ (.slice A1 n1 c1):=⟨_,rfl⟩
  have r3:W5.heap[w.heap.size + 1 + 1]? = some (.cells #[.int .u8 1,.slice A1 n1 c1,.int .i64 o.at_,.slice none 0 0,.int .u64 (o.id:Int),.bool o.leaf,.string ⟨o.label.toArray⟩,.string ⟨#[]⟩,.string ⟨#[]⟩,.bool false,.slice none 0 0] 52 (0,0)):=by rw [hW5,heap_setCell_same X _ 1 _ _ _ X3.out];simp
  have h5:=Lib.hid (show ∀ k,k ≠ w.heap.size + 1 + 1→W5.heap[k]? = w2.heap[k]? by intro k hk;rw [hW5];exact (heap_setCell_other _ _ k _ hk).trans (hk5.out k hk))
  have w5b:=Lib.hid (show Below w.heap.size w W5 by rw [hW5];exact xw.out.setCell (p:=⟨w.heap.size + 1 + 1,1,none⟩) (by show w.heap.size≤w.heap.size + 1 + 1;omega) _)
  rw [← hW5]
  clear hW5
  have r2:=(h5.out (w.heap.size + 1) (by omega)).trans Y2.out
  unfold zero11 at r2
  have r2h:=Lib.hid r2
  obtain ⟨p0,p1,p2,p3,p4,p5,p6,p7,p8,p9,p10,pf⟩:=eleven_cells r3
  obtain ⟨q0,q1,q2,q3,q4,q5,q6,q7,q8,q9,q10,qf⟩:=eleven_cells r2
  have hl2:w.heap.size + 1 < W5.heap.size:=(Array.getElem?_eq_some_iff.1 r2).1
  clear r2 r3
  go_wp2_with fail
  obtain ⟨W9,hW9,R9,B9,Z9,K9⟩:=end_op (o:=(⟨1,o.path,o.at_,[],o.id,o.leaf,o.label,[],[],false,[]⟩:Ov)) (s:=⟨A1,n1,c1,none,0,0,none,0,0⟩) (r:=w.heap.size + 1) (by omega) w5b.out r2h.out
  have hW9':W9 = (((((((((((W5.setCell ⟨w.heap.size + 1,0,none⟩ (.int .u8 1)).setCell ⟨w.heap.size + 1,1,none⟩ (.slice A1 n1 c1)).setCell ⟨w.heap.size + 1,2,none⟩ (.int .i64 o.at_)).setCell ⟨w.heap.size + 1,3,none⟩ (.slice none 0 0)).setCell ⟨w.heap.size + 1,4,none⟩ (.int .u64 (o.id:Int))).setCell ⟨w.heap.size + 1,5,none⟩ (.bool o.leaf)).setCell ⟨w.heap.size + 1,6,none⟩ (.string ⟨o.label.toArray⟩)).setCell ⟨w.heap.size + 1,7,none⟩ (.string ⟨#[]⟩)).setCell ⟨w.heap.size + 1,8,none⟩ (.string ⟨#[]⟩)).setCell ⟨w.heap.size + 1,9,none⟩ (.bool false)).setCell ⟨w.heap.size + 1,10,none⟩ (.slice none 0 0)):=hW9
  rw [← hW9']
  clear hW9' hW9
  unfold opCells at R9
  obtain ⟨d0,d1,d2,d3,d4,d5,d6,d7,d8,d9,d10,df⟩:=eleven_cells R9
  refine bodyPost_ret (v:=.agg (opCells (⟨1,o.path,o.at_,[],o.id,o.leaf,o.label,[],[],false,[]⟩:Ov) ⟨A1,n1,c1,none,0,0,none,0,0⟩)) (by simp [results,Try.results32,go_sem,d0,d1,d2,d3,d4,d5,d6,d7,d8,d9,d10,opCells]) rfl ?_
  have kk:∀ k,w.heap.size + 1 + 1 + 1≤k→W9.heap[k]? = w2.heap[k]?:=fun k hk=>(K9 k (by omega)).trans (h5.out k (by omega))
  rw [show bareV o = (⟨1,o.path,o.at_,[],o.id,o.leaf,o.label,[],[],false,[]⟩:Ov) by unfold bareV;simp [hk]]
  refine ⟨_,rfl,⟨own_mono (own_kept V1.out fun k h1 h2=>(kk k h1).trans (B2.out.block k h2)) (by omega),P4.OwnI.nil_ _ _,OwnQ.nil_ _ _⟩,B9⟩
set_option maxHeartbeats 4000000 in
theorem rbare_k2 (w:World) (o:Ov) (s:OS) (ho:OpIn w o s) (hk:o.kind = 2) :Calls Try.prog 32 #[.agg (opCells o s)] w (BareA w (bareV o)):=by
  obtain ⟨z1,z2,z3,z4,z5⟩:=three_new w (.cells (opCells o s) 52) (.cells zero11 52) (.cells #[.int .u8 2,.slice none 0 0,.int .i64 0,.slice none 0 0,.int .u64 0,.bool false,.string ⟨#[]⟩,.string ⟨#[]⟩,.string ⟨#[]⟩,.bool false,.slice none 0 0] 52)
  obtain ⟨W3,hW3⟩:∃ W3,W3 = ((w.alloc (.cells (opCells o s) 52)).alloc (.cells zero11 52)).alloc (.cells #[.int .u8 2,.slice none 0 0,.int .i64 0,.slice none 0 0,.int .u64 0,.bool false,.string ⟨#[]⟩,.string ⟨#[]⟩,.string ⟨#[]⟩,.bool false,.slice none 0 0] 52):=⟨_,rfl⟩
  rw [← hW3] at z1 z2 z3 z4 z5
  have hkI:=Lib.hid (show (o.kind:Int) = 2 by omega)
  have ho':=Lib.hid ho
  have z1':=Lib.hid z1
  have z2':=Lib.hid z2
  have z3':=Lib.hid z3
  have z4':=Lib.hid z4
  have z5':=Lib.hid z5
  unfold opCells zero11 at hW3
  unfold opCells
  rw [hkI.out] at hW3 ⊢
  clear ho z1 z2 z3 z4 z5
  go_enter Try.func32,Try.ntmps32
  go_upto_region 3 with fail
  rw [← hW3]
  clear hW3
  have o1u:=z1'.out
  obtain ⟨o0,o1,o2,o3,o4,o5,o6,o7,o8,o9,o10⟩:=op_cells o1u
  clear o1u
  go_upto_region 4 with (at_builtin;(refine P4.wpList_append_its rfl _ (.tmp 11) rfl (w.heap.size + 1 + 1 + 1) (.slice none 0 0) [] o.path rfl (P4.OwnI.nil_ _ _) s.pA s.pn s.pc rfl (ho'.out.below z4'.out).path ho'.out.pnil (by have h7:=ho'.out.path.1;have h8:=ho'.out.pfew;simp only [List.length_nil];omega) (by have:=z5'.out;omega) ?_;intro v1 w1 ho1 hg1 hat1;have hb1:=P4.grown_nil hg1;have B1:=Lib.hid hb1;have V1:=Lib.hid ho1;obtain ⟨A1,n1,c1,rfl,-⟩:=P4.OwnI.shape ho1;have y1:=(hb1.block w.heap.size (by have:=z5'.out;omega)).trans z1'.out;clear o0 o1 o2 o3 o4 o5 o6 o7 o8 o9 o10 ho1 hg1 hat1 hb1;obtain ⟨o0,o1,o2,o3,o4,o5,o6,o7,o8,o9,o10⟩:=op_cells y1;clear y1))
  go_upto_region 5 with (at_builtin;(refine P4.wpList_append_its rfl _ (.tmp 15) rfl (w.heap.size + 1 + 1 + 1) (.slice none 0 0) [] o.to_ rfl (P4.OwnI.nil_ _ _) s.tA s.tn s.tc rfl (ho'.out.below (z4'.out.trans (B1.out.mono z4'.out.size))).to_ ho'.out.tnil (by have h7:=ho'.out.to_.1;have h8:=ho'.out.tfew;simp only [List.length_nil];omega) (by have:=z5'.out;have:=B1.out.size;omega) ?_;intro v2 w2 ho2 hg2 hat2;have hb2:=P4.grown_nil hg2;have B2:=Lib.hid hb2;have V2:=Lib.hid ho2;obtain ⟨A2,n2,c2,rfl,-⟩:=P4.OwnI.shape ho2;clear o0 o1 o2 o3 o4 o5 o6 o7 o8 o9 o10 ho2 hg2 hat2 hb2))
  obtain ⟨b3,y1,y2,y3⟩:=two_rows (w:=w) z1'.out z2'.out z3'.out z5'.out B1.out B2.out
  have B3:=Lib.hid b3
  have Y1:=Lib.hid y1
  have Y2:=Lib.hid y2
  have Y3:=Lib.hid y3
  have yw:=Lib.hid (z4'.out.trans (b3.mono z4'.out.size))
  obtain ⟨o0,o1,o2,o3,o4,o5,o6,o7,o8,o9,o10⟩:=op_cells y1
  obtain ⟨p0,p1,p2,p3,p4,p5,p6,p7,p8,p9,p10,pf⟩:=eleven_cells y3
  have hl3:w.heap.size + 1 + 1 < w2.heap.size:=(Array.getElem?_eq_some_iff.1 y3).1
  clear b3 y1 y2 y3
  go_upto_region 25 with fail
  clear o0 o1 o2 o3 o4 o5 o6 o7 o8 o9 o10 p0 p1 p2 p3 p4 p5 p6 p7 p8 p9 p10 pf
  obtain ⟨X,hX⟩:∃ X,X = w2:=⟨_,rfl⟩
  have x3:X.heap[w.heap.size + 1 + 1]? = some (.cells #[.int .u8 2,.slice none 0 0,.int .i64 0,.slice none 0 0,.int .u64 0,.bool false,.string ⟨#[]⟩,.string ⟨#[]⟩,.string ⟨#[]⟩,.bool false,.slice none 0 0] 52 (0,0)):=by rw [hX];exact Y3.out
  have hk5:=Lib.hid (show ∀ k,k ≠ w.heap.size + 1 + 1→X.heap[k]? = w2.heap[k]? by intro k hk;rw [hX])
  have xw:=Lib.hid (show Below w.heap.size w X by rw [hX];exact yw.out)
  have xz:=Lib.hid (show X.heap.size = w2.heap.size by rw [hX])
  rw [← hX]
  clear hX
  obtain ⟨p0,p1,p2,p3,p4,p5,p6,p7,p8,p9,p10,pf⟩:=eleven_cells x3
  have X3:=Lib.hid x3
  have hlx:w.heap.size + 1 + 1 < X.heap.size:=(Array.getElem?_eq_some_iff.1 x3).1
  clear x3
  go_upto_region 26 with fail
  clear p0 p1 p2 p3 p4 p5 p6 p7 p8 p9 p10 pf
  obtain ⟨W5,hW5⟩:∃ W5,W5 = X.setCell ⟨w.heap.size + 1 + 1,1,none⟩ (.slice A1 n1 c1):=⟨_,rfl⟩
  have r3:W5.heap[w.heap.size + 1 + 1]? = some (.cells #[.int .u8 2,.slice A1 n1 c1,.int .i64 0,.slice none 0 0,.int .u64 0,.bool false,.string ⟨#[]⟩,.string ⟨#[]⟩,.string ⟨#[]⟩,.bool false,.slice none 0 0] 52 (0,0)):=by rw [hW5,heap_setCell_same X _ 1 _ _ _ X3.out];simp
  have h5:=Lib.hid (show ∀ k,k ≠ w.heap.size + 1 + 1→W5.heap[k]? = w2.heap[k]? by intro k hk;rw [hW5];exact (heap_setCell_other _ _ k _ hk).trans (hk5.out k hk))
  have w5b:=Lib.hid (show Below w.heap.size w W5 by rw [hW5];exact xw.out.setCell (p:=⟨w.heap.size + 1 + 1,1,none⟩) (by show w.heap.size≤w.heap.size + 1 + 1;omega) _)
  rw [← hW5]
  clear hW5
  have r2:=(h5.out (w.heap.size + 1) (by omega)).trans Y2.out
  unfold zero11 at r2
  have r2h:=Lib.hid r2
  obtain ⟨p0,p1,p2,p3,p4,p5,p6,p7,p8,p9,p10,pf⟩:=eleven_cells r3
  obtain ⟨q0,q1,q2,q3,q4,q5,q6,q7,q8,q9,q10,qf⟩:=eleven_cells r2
  have hl2:w.heap.size + 1 < W5.heap.size:=(Array.getElem?_eq_some_iff.1 r2).1
  clear r2 r3
  go_wp2_with fail
  obtain ⟨W9,hW9,R9,B9,Z9,K9⟩:=end_op (o:=(⟨2,o.path,0,[],0,false,[],[],[],false,[]⟩:Ov)) (s:=⟨A1,n1,c1,none,0,0,none,0,0⟩) (r:=w.heap.size + 1) (by omega) w5b.out r2h.out
  have hW9':W9 = (((((((((((W5.setCell ⟨w.heap.size + 1,0,none⟩ (.int .u8 2)).setCell ⟨w.heap.size + 1,1,none⟩ (.slice A1 n1 c1)).setCell ⟨w.heap.size + 1,2,none⟩ (.int .i64 0)).setCell ⟨w.heap.size + 1,3,none⟩ (.slice none 0 0)).setCell ⟨w.heap.size + 1,4,none⟩ (.int .u64 0)).setCell ⟨w.heap.size + 1,5,none⟩ (.bool false)).setCell ⟨w.heap.size + 1,6,none⟩ (.string ⟨#[]⟩)).setCell ⟨w.heap.size + 1,7,none⟩ (.string ⟨#[]⟩)).setCell ⟨w.heap.size + 1,8,none⟩ (.string ⟨#[]⟩)).setCell ⟨w.heap.size + 1,9,none⟩ (.bool false)).setCell ⟨w.heap.size + 1,10,none⟩ (.slice none 0 0)):=hW9
  rw [← hW9']
  clear hW9' hW9
  unfold opCells at R9
  obtain ⟨d0,d1,d2,d3,d4,d5,d6,d7,d8,d9,d10,df⟩:=eleven_cells R9
  refine bodyPost_ret (v:=.agg (opCells (⟨2,o.path,0,[],0,false,[],[],[],false,[]⟩:Ov) ⟨A1,n1,c1,none,0,0,none,0,0⟩)) (by simp [results,Try.results32,go_sem,d0,d1,d2,d3,d4,d5,d6,d7,d8,d9,d10,opCells]) rfl ?_
  have kk:∀ k,w.heap.size + 1 + 1 + 1≤k→W9.heap[k]? = w2.heap[k]?:=fun k hk=>(K9 k (by omega)).trans (h5.out k (by omega))
  rw [show bareV o = (⟨2,o.path,0,[],0,false,[],[],[],false,[]⟩:Ov) by unfold bareV;simp [hk]]
  refine ⟨_,rfl,⟨own_mono (own_kept V1.out fun k h1 h2=>(kk k h1).trans (B2.out.block k h2)) (by omega),P4.OwnI.nil_ _ _,OwnQ.nil_ _ _⟩,B9⟩
set_option maxHeartbeats 4000000 in
theorem rbare_k3 (w:World) (o:Ov) (s:OS) (ho:OpIn w o s) (hk:o.kind = 3) :Calls Try.prog 32 #[.agg (opCells o s)] w (BareA w (bareV o)):=by
  obtain ⟨z1,z2,z3,z4,z5⟩:=three_new w (.cells (opCells o s) 52) (.cells zero11 52) (.cells #[.int .u8 3,.slice none 0 0,.int .i64 0,.slice none 0 0,.int .u64 0,.bool false,.string ⟨#[]⟩,.string ⟨#[]⟩,.string ⟨#[]⟩,.bool false,.slice none 0 0] 52)
  obtain ⟨W3,hW3⟩:∃ W3,W3 = ((w.alloc (.cells (opCells o s) 52)).alloc (.cells zero11 52)).alloc (.cells #[.int .u8 3,.slice none 0 0,.int .i64 0,.slice none 0 0,.int .u64 0,.bool false,.string ⟨#[]⟩,.string ⟨#[]⟩,.string ⟨#[]⟩,.bool false,.slice none 0 0] 52):=⟨_,rfl⟩
  rw [← hW3] at z1 z2 z3 z4 z5
  have hkI:=Lib.hid (show (o.kind:Int) = 3 by omega)
  have ho':=Lib.hid ho
  have z1':=Lib.hid z1
  have z2':=Lib.hid z2
  have z3':=Lib.hid z3
  have z4':=Lib.hid z4
  have z5':=Lib.hid z5
  unfold opCells zero11 at hW3
  unfold opCells
  rw [hkI.out] at hW3 ⊢
  clear ho z1 z2 z3 z4 z5
  go_enter Try.func32,Try.ntmps32
  go_upto_region 3 with fail
  rw [← hW3]
  clear hW3
  have o1u:=z1'.out
  obtain ⟨o0,o1,o2,o3,o4,o5,o6,o7,o8,o9,o10⟩:=op_cells o1u
  clear o1u
  go_upto_region 4 with (at_builtin;(refine P4.wpList_append_its rfl _ (.tmp 11) rfl (w.heap.size + 1 + 1 + 1) (.slice none 0 0) [] o.path rfl (P4.OwnI.nil_ _ _) s.pA s.pn s.pc rfl (ho'.out.below z4'.out).path ho'.out.pnil (by have h7:=ho'.out.path.1;have h8:=ho'.out.pfew;simp only [List.length_nil];omega) (by have:=z5'.out;omega) ?_;intro v1 w1 ho1 hg1 hat1;have hb1:=P4.grown_nil hg1;have B1:=Lib.hid hb1;have V1:=Lib.hid ho1;obtain ⟨A1,n1,c1,rfl,-⟩:=P4.OwnI.shape ho1;have y1:=(hb1.block w.heap.size (by have:=z5'.out;omega)).trans z1'.out;clear o0 o1 o2 o3 o4 o5 o6 o7 o8 o9 o10 ho1 hg1 hat1 hb1;obtain ⟨o0,o1,o2,o3,o4,o5,o6,o7,o8,o9,o10⟩:=op_cells y1;clear y1))
  go_upto_region 5 with (at_builtin;(refine P4.wpList_append_its rfl _ (.tmp 15) rfl (w.heap.size + 1 + 1 + 1) (.slice none 0 0) [] o.to_ rfl (P4.OwnI.nil_ _ _) s.tA s.tn s.tc rfl (ho'.out.below (z4'.out.trans (B1.out.mono z4'.out.size))).to_ ho'.out.tnil (by have h7:=ho'.out.to_.1;have h8:=ho'.out.tfew;simp only [List.length_nil];omega) (by have:=z5'.out;have:=B1.out.size;omega) ?_;intro v2 w2 ho2 hg2 hat2;have hb2:=P4.grown_nil hg2;have B2:=Lib.hid hb2;have V2:=Lib.hid ho2;obtain ⟨A2,n2,c2,rfl,-⟩:=P4.OwnI.shape ho2;clear o0 o1 o2 o3 o4 o5 o6 o7 o8 o9 o10 ho2 hg2 hat2 hb2))
  obtain ⟨b3,y1,y2,y3⟩:=two_rows (w:=w) z1'.out z2'.out z3'.out z5'.out B1.out B2.out
  have B3:=Lib.hid b3
  have Y1:=Lib.hid y1
  have Y2:=Lib.hid y2
  have Y3:=Lib.hid y3
  have yw:=Lib.hid (z4'.out.trans (b3.mono z4'.out.size))
  obtain ⟨o0,o1,o2,o3,o4,o5,o6,o7,o8,o9,o10⟩:=op_cells y1
  obtain ⟨p0,p1,p2,p3,p4,p5,p6,p7,p8,p9,p10,pf⟩:=eleven_cells y3
  have hl3:w.heap.size + 1 + 1 < w2.heap.size:=(Array.getElem?_eq_some_iff.1 y3).1
  clear b3 y1 y2 y3
  go_upto_region 25 with fail
  clear o0 o1 o2 o3 o4 o5 o6 o7 o8 o9 o10 p0 p1 p2 p3 p4 p5 p6 p7 p8 p9 p10 pf
  obtain ⟨X,hX⟩:∃ X,X = ((w2.setCell ⟨w.heap.size + 1 + 1,2,none⟩ (.int .i64 o.at_)).setCell ⟨w.heap.size + 1 + 1,3,none⟩ (.slice A2 n2 c2)):=⟨_,rfl⟩
  have x3:X.heap[w.heap.size + 1 + 1]? = some (.cells #[.int .u8 3,.slice none 0 0,.int .i64 o.at_,.slice A2 n2 c2,.int .u64 0,.bool false,.string ⟨#[]⟩,.string ⟨#[]⟩,.string ⟨#[]⟩,.bool false,.slice none 0 0] 52 (0,0)):=by rw [hX];have e0:=heap_setCell_same _ _ 2 _ _ (.int .i64 o.at_) Y3.out;have e1:=heap_setCell_same _ _ 3 _ _ (.slice A2 n2 c2) e0;rw [e1];simp
  have hk5:=Lib.hid (show ∀ k,k ≠ w.heap.size + 1 + 1→X.heap[k]? = w2.heap[k]? by intro k hk;rw [hX];repeat rw [heap_setCell_other _ _ k _ hk])
  have xw:=Lib.hid (show Below w.heap.size w X by rw [hX];exact ((yw.out.setCell (p:=⟨w.heap.size + 1 + 1,2,none⟩) (by show w.heap.size≤w.heap.size + 1 + 1;omega) _).setCell (p:=⟨w.heap.size + 1 + 1,3,none⟩) (by show w.heap.size≤w.heap.size + 1 + 1;omega) _))
  have xz:=Lib.hid (show X.heap.size = w2.heap.size by rw [hX];simp)
  rw [← hX]
  clear hX
  obtain ⟨p0,p1,p2,p3,p4,p5,p6,p7,p8,p9,p10,pf⟩:=eleven_cells x3
  have X3:=Lib.hid x3
  have hlx:w.heap.size + 1 + 1 < X.heap.size:=(Array.getElem?_eq_some_iff.1 x3).1
  clear x3
  go_upto_region 26 with fail
  clear p0 p1 p2 p3 p4 p5 p6 p7 p8 p9 p10 pf
  obtain ⟨W5,hW5⟩:∃ W5,W5 = X.setCell ⟨w.heap.size + 1 + 1,1,none⟩ (.slice A1 n1 c1):=⟨_,rfl⟩
  have r3:W5.heap[w.heap.size + 1 + 1]? = some (.cells #[.int .u8 3,.slice A1 n1 c1,.int .i64 o.at_,.slice A2 n2 c2,.int .u64 0,.bool false,.string ⟨#[]⟩,.string ⟨#[]⟩,.string ⟨#[]⟩,.bool false,.slice none 0 0] 52 (0,0)):=by rw [hW5,heap_setCell_same X _ 1 _ _ _ X3.out];simp
  have h5:=Lib.hid (show ∀ k,k ≠ w.heap.size + 1 + 1→W5.heap[k]? = w2.heap[k]? by intro k hk;rw [hW5];exact (heap_setCell_other _ _ k _ hk).trans (hk5.out k hk))
  have w5b:=Lib.hid (show Below w.heap.size w W5 by rw [hW5];exact xw.out.setCell (p:=⟨w.heap.size + 1 + 1,1,none⟩) (by show w.heap.size≤w.heap.size + 1 + 1;omega) _)
  rw [← hW5]
  clear hW5
  have r2:=(h5.out (w.heap.size + 1) (by omega)).trans Y2.out
  unfold zero11 at r2
  have r2h:=Lib.hid r2
  obtain ⟨p0,p1,p2,p3,p4,p5,p6,p7,p8,p9,p10,pf⟩:=eleven_cells r3
  obtain ⟨q0,q1,q2,q3,q4,q5,q6,q7,q8,q9,q10,qf⟩:=eleven_cells r2
  have hl2:w.heap.size + 1 < W5.heap.size:=(Array.getElem?_eq_some_iff.1 r2).1
  clear r2 r3
  go_wp2_with fail
  obtain ⟨W9,hW9,R9,B9,Z9,K9⟩:=end_op (o:=(⟨3,o.path,o.at_,o.to_,0,false,[],[],[],false,[]⟩:Ov)) (s:=⟨A1,n1,c1,A2,n2,c2,none,0,0⟩) (r:=w.heap.size + 1) (by omega) w5b.out r2h.out
  have hW9':W9 = (((((((((((W5.setCell ⟨w.heap.size + 1,0,none⟩ (.int .u8 3)).setCell ⟨w.heap.size + 1,1,none⟩ (.slice A1 n1 c1)).setCell ⟨w.heap.size + 1,2,none⟩ (.int .i64 o.at_)).setCell ⟨w.heap.size + 1,3,none⟩ (.slice A2 n2 c2)).setCell ⟨w.heap.size + 1,4,none⟩ (.int .u64 0)).setCell ⟨w.heap.size + 1,5,none⟩ (.bool false)).setCell ⟨w.heap.size + 1,6,none⟩ (.string ⟨#[]⟩)).setCell ⟨w.heap.size + 1,7,none⟩ (.string ⟨#[]⟩)).setCell ⟨w.heap.size + 1,8,none⟩ (.string ⟨#[]⟩)).setCell ⟨w.heap.size + 1,9,none⟩ (.bool false)).setCell ⟨w.heap.size + 1,10,none⟩ (.slice none 0 0)):=hW9
  rw [← hW9']
  clear hW9' hW9
  unfold opCells at R9
  obtain ⟨d0,d1,d2,d3,d4,d5,d6,d7,d8,d9,d10,df⟩:=eleven_cells R9
  refine bodyPost_ret (v:=.agg (opCells (⟨3,o.path,o.at_,o.to_,0,false,[],[],[],false,[]⟩:Ov) ⟨A1,n1,c1,A2,n2,c2,none,0,0⟩)) (by simp [results,Try.results32,go_sem,d0,d1,d2,d3,d4,d5,d6,d7,d8,d9,d10,opCells]) rfl ?_
  have kk:∀ k,w.heap.size + 1 + 1 + 1≤k→W9.heap[k]? = w2.heap[k]?:=fun k hk=>(K9 k (by omega)).trans (h5.out k (by omega))
  rw [show bareV o = (⟨3,o.path,o.at_,o.to_,0,false,[],[],[],false,[]⟩:Ov) by unfold bareV;simp [hk]]
  refine ⟨_,rfl,⟨own_mono (own_kept V1.out fun k h1 h2=>(kk k h1).trans (B2.out.block k h2)) (by omega),own_mono (own_kept V2.out fun k h1 h2=>kk k h1) (by omega),OwnQ.nil_ _ _⟩,B9⟩
set_option maxHeartbeats 4000000 in
theorem rbare_k4 (w:World) (o:Ov) (s:OS) (ho:OpIn w o s) (hk:o.kind = 4) (hg:o.gone = false):Calls Try.prog 32 #[.agg (opCells o s)] w (BareA w (bareV o)):=by
  obtain ⟨z1,z2,z3,z4,z5⟩:=three_new w (.cells (opCells o s) 52) (.cells zero11 52) (.cells #[.int .u8 4,.slice none 0 0,.int .i64 0,.slice none 0 0,.int .u64 0,.bool false,.string ⟨#[]⟩,.string ⟨#[]⟩,.string ⟨#[]⟩,.bool false,.slice none 0 0] 52)
  obtain ⟨W3,hW3⟩:∃ W3,W3 = ((w.alloc (.cells (opCells o s) 52)).alloc (.cells zero11 52)).alloc (.cells #[.int .u8 4,.slice none 0 0,.int .i64 0,.slice none 0 0,.int .u64 0,.bool false,.string ⟨#[]⟩,.string ⟨#[]⟩,.string ⟨#[]⟩,.bool false,.slice none 0 0] 52):=⟨_,rfl⟩
  rw [← hW3] at z1 z2 z3 z4 z5
  have hkI:=Lib.hid (show (o.kind:Int) = 4 by omega)
  have hg':=Lib.hid hg
  have ho':=Lib.hid ho
  have z1':=Lib.hid z1
  have z2':=Lib.hid z2
  have z3':=Lib.hid z3
  have z4':=Lib.hid z4
  have z5':=Lib.hid z5
  unfold opCells zero11 at hW3
  unfold opCells
  rw [hkI.out,hg] at hW3 ⊢
  clear ho z1 z2 z3 z4 z5
  go_enter Try.func32,Try.ntmps32
  go_upto_region 3 with fail
  rw [← hW3]
  clear hW3
  have o1u:=z1'.out
  obtain ⟨o0,o1,o2,o3,o4,o5,o6,o7,o8,o9,o10⟩:=op_cells o1u
  clear o1u
  go_upto_region 4 with (at_builtin;(refine P4.wpList_append_its rfl _ (.tmp 11) rfl (w.heap.size + 1 + 1 + 1) (.slice none 0 0) [] o.path rfl (P4.OwnI.nil_ _ _) s.pA s.pn s.pc rfl (ho'.out.below z4'.out).path ho'.out.pnil (by have h7:=ho'.out.path.1;have h8:=ho'.out.pfew;simp only [List.length_nil];omega) (by have:=z5'.out;omega) ?_;intro v1 w1 ho1 hg1 hat1;have hb1:=P4.grown_nil hg1;have B1:=Lib.hid hb1;have V1:=Lib.hid ho1;obtain ⟨A1,n1,c1,rfl,-⟩:=P4.OwnI.shape ho1;have y1:=(hb1.block w.heap.size (by have:=z5'.out;omega)).trans z1'.out;clear o0 o1 o2 o3 o4 o5 o6 o7 o8 o9 o10 ho1 hg1 hat1 hb1;obtain ⟨o0,o1,o2,o3,o4,o5,o6,o7,o8,o9,o10⟩:=op_cells y1;clear y1))
  go_upto_region 5 with (at_builtin;(refine P4.wpList_append_its rfl _ (.tmp 15) rfl (w.heap.size + 1 + 1 + 1) (.slice none 0 0) [] o.to_ rfl (P4.OwnI.nil_ _ _) s.tA s.tn s.tc rfl (ho'.out.below (z4'.out.trans (B1.out.mono z4'.out.size))).to_ ho'.out.tnil (by have h7:=ho'.out.to_.1;have h8:=ho'.out.tfew;simp only [List.length_nil];omega) (by have:=z5'.out;have:=B1.out.size;omega) ?_;intro v2 w2 ho2 hg2 hat2;have hb2:=P4.grown_nil hg2;have B2:=Lib.hid hb2;have V2:=Lib.hid ho2;obtain ⟨A2,n2,c2,rfl,-⟩:=P4.OwnI.shape ho2;clear o0 o1 o2 o3 o4 o5 o6 o7 o8 o9 o10 ho2 hg2 hat2 hb2))
  obtain ⟨b3,y1,y2,y3⟩:=two_rows (w:=w) z1'.out z2'.out z3'.out z5'.out B1.out B2.out
  have B3:=Lib.hid b3
  have Y1:=Lib.hid y1
  have Y2:=Lib.hid y2
  have Y3:=Lib.hid y3
  have yw:=Lib.hid (z4'.out.trans (b3.mono z4'.out.size))
  obtain ⟨o0,o1,o2,o3,o4,o5,o6,o7,o8,o9,o10⟩:=op_cells y1
  obtain ⟨p0,p1,p2,p3,p4,p5,p6,p7,p8,p9,p10,pf⟩:=eleven_cells y3
  have hl3:w.heap.size + 1 + 1 < w2.heap.size:=(Array.getElem?_eq_some_iff.1 y3).1
  clear b3 y1 y2 y3
  go_upto_region 25 with fail
  clear o0 o1 o2 o3 o4 o5 o6 o7 o8 o9 o10 p0 p1 p2 p3 p4 p5 p6 p7 p8 p9 p10 pf
  obtain ⟨X,hX⟩:∃ X,X = (((w2.setCell ⟨w.heap.size + 1 + 1,7,none⟩ (.string ⟨o.key.toArray⟩)).setCell ⟨w.heap.size + 1 + 1,9,none⟩ (.bool false)).setCell ⟨w.heap.size + 1 + 1,8,none⟩ (.string ⟨o.value.toArray⟩)):=⟨_,rfl⟩
  have x3:X.heap[w.heap.size + 1 + 1]? = some (.cells #[.int .u8 4,.slice none 0 0,.int .i64 0,.slice none 0 0,.int .u64 0,.bool false,.string ⟨#[]⟩,.string ⟨o.key.toArray⟩,.string ⟨o.value.toArray⟩,.bool false,.slice none 0 0] 52 (0,0)):=by rw [hX];have e0:=heap_setCell_same _ _ 7 _ _ (.string ⟨o.key.toArray⟩) Y3.out;have e1:=heap_setCell_same _ _ 9 _ _ (.bool false) e0;have e2:=heap_setCell_same _ _ 8 _ _ (.string ⟨o.value.toArray⟩) e1;rw [e2];simp
  have hk5:=Lib.hid (show ∀ k,k ≠ w.heap.size + 1 + 1→X.heap[k]? = w2.heap[k]? by intro k hk;rw [hX];repeat rw [heap_setCell_other _ _ k _ hk])
  have xw:=Lib.hid (show Below w.heap.size w X by rw [hX];exact (((yw.out.setCell (p:=⟨w.heap.size + 1 + 1,7,none⟩) (by show w.heap.size≤w.heap.size + 1 + 1;omega) _).setCell (p:=⟨w.heap.size + 1 + 1,9,none⟩) (by show w.heap.size≤w.heap.size + 1 + 1;omega) _).setCell (p:=⟨w.heap.size + 1 + 1,8,none⟩) (by show w.heap.size≤w.heap.size + 1 + 1;omega) _))
  have xz:=Lib.hid (show X.heap.size = w2.heap.size by rw [hX];simp)
  rw [← hX]
  clear hX
  obtain ⟨p0,p1,p2,p3,p4,p5,p6,p7,p8,p9,p10,pf⟩:=eleven_cells x3
  have X3:=Lib.hid x3
  have hlx:w.heap.size + 1 + 1 < X.heap.size:=(Array.getElem?_eq_some_iff.1 x3).1
  clear x3
  go_upto_region 26 with fail
  clear p0 p1 p2 p3 p4 p5 p6 p7 p8 p9 p10 pf
  obtain ⟨W5,hW5⟩:∃ W5,W5 = X.setCell ⟨w.heap.size + 1 + 1,1,none⟩ (.slice A1 n1 c1):=⟨_,rfl⟩
  have r3:W5.heap[w.heap.size + 1 + 1]? = some (.cells #[.int .u8 4,.slice A1 n1 c1,.int .i64 0,.slice none 0 0,.int .u64 0,.bool false,.string ⟨#[]⟩,.string ⟨o.key.toArray⟩,.string ⟨o.value.toArray⟩,.bool false,.slice none 0 0] 52 (0,0)):=by rw [hW5,heap_setCell_same X _ 1 _ _ _ X3.out];simp
  have h5:=Lib.hid (show ∀ k,k ≠ w.heap.size + 1 + 1→W5.heap[k]? = w2.heap[k]? by intro k hk;rw [hW5];exact (heap_setCell_other _ _ k _ hk).trans (hk5.out k hk))
  have w5b:=Lib.hid (show Below w.heap.size w W5 by rw [hW5];exact xw.out.setCell (p:=⟨w.heap.size + 1 + 1,1,none⟩) (by show w.heap.size≤w.heap.size + 1 + 1;omega) _)
  rw [← hW5]
  clear hW5
  have r2:=(h5.out (w.heap.size + 1) (by omega)).trans Y2.out
  unfold zero11 at r2
  have r2h:=Lib.hid r2
  obtain ⟨p0,p1,p2,p3,p4,p5,p6,p7,p8,p9,p10,pf⟩:=eleven_cells r3
  obtain ⟨q0,q1,q2,q3,q4,q5,q6,q7,q8,q9,q10,qf⟩:=eleven_cells r2
  have hl2:w.heap.size + 1 < W5.heap.size:=(Array.getElem?_eq_some_iff.1 r2).1
  clear r2 r3
  go_wp2_with fail
  obtain ⟨W9,hW9,R9,B9,Z9,K9⟩:=end_op (o:=(⟨4,o.path,0,[],0,false,[],o.key,o.value,false,[]⟩:Ov)) (s:=⟨A1,n1,c1,none,0,0,none,0,0⟩) (r:=w.heap.size + 1) (by omega) w5b.out r2h.out
  have hW9':W9 = (((((((((((W5.setCell ⟨w.heap.size + 1,0,none⟩ (.int .u8 4)).setCell ⟨w.heap.size + 1,1,none⟩ (.slice A1 n1 c1)).setCell ⟨w.heap.size + 1,2,none⟩ (.int .i64 0)).setCell ⟨w.heap.size + 1,3,none⟩ (.slice none 0 0)).setCell ⟨w.heap.size + 1,4,none⟩ (.int .u64 0)).setCell ⟨w.heap.size + 1,5,none⟩ (.bool false)).setCell ⟨w.heap.size + 1,6,none⟩ (.string ⟨#[]⟩)).setCell ⟨w.heap.size + 1,7,none⟩ (.string ⟨o.key.toArray⟩)).setCell ⟨w.heap.size + 1,8,none⟩ (.string ⟨o.value.toArray⟩)).setCell ⟨w.heap.size + 1,9,none⟩ (.bool false)).setCell ⟨w.heap.size + 1,10,none⟩ (.slice none 0 0)):=hW9
  rw [← hW9']
  clear hW9' hW9
  unfold opCells at R9
  obtain ⟨d0,d1,d2,d3,d4,d5,d6,d7,d8,d9,d10,df⟩:=eleven_cells R9
  refine bodyPost_ret (v:=.agg (opCells (⟨4,o.path,0,[],0,false,[],o.key,o.value,false,[]⟩:Ov) ⟨A1,n1,c1,none,0,0,none,0,0⟩)) (by simp [results,Try.results32,go_sem,d0,d1,d2,d3,d4,d5,d6,d7,d8,d9,d10,opCells]) rfl ?_
  have kk:∀ k,w.heap.size + 1 + 1 + 1≤k→W9.heap[k]? = w2.heap[k]?:=fun k hk=>(K9 k (by omega)).trans (h5.out k (by omega))
  rw [show bareV o = (⟨4,o.path,0,[],0,false,[],o.key,o.value,false,[]⟩:Ov) by unfold bareV;simp [hk,hg]]
  refine ⟨_,rfl,⟨own_mono (own_kept V1.out fun k h1 h2=>(kk k h1).trans (B2.out.block k h2)) (by omega),P4.OwnI.nil_ _ _,OwnQ.nil_ _ _⟩,B9⟩
set_option maxHeartbeats 4000000 in
theorem rbare_k4g (w:World) (o:Ov) (s:OS) (ho:OpIn w o s) (hk:o.kind = 4) (hg:o.gone = true):Calls Try.prog 32 #[.agg (opCells o s)] w (BareA w (bareV o)):=by
  obtain ⟨z1,z2,z3,z4,z5⟩:=three_new w (.cells (opCells o s) 52) (.cells zero11 52) (.cells #[.int .u8 4,.slice none 0 0,.int .i64 0,.slice none 0 0,.int .u64 0,.bool false,.string ⟨#[]⟩,.string ⟨#[]⟩,.string ⟨#[]⟩,.bool false,.slice none 0 0] 52)
  obtain ⟨W3,hW3⟩:∃ W3,W3 = ((w.alloc (.cells (opCells o s) 52)).alloc (.cells zero11 52)).alloc (.cells #[.int .u8 4,.slice none 0 0,.int .i64 0,.slice none 0 0,.int .u64 0,.bool false,.string ⟨#[]⟩,.string ⟨#[]⟩,.string ⟨#[]⟩,.bool false,.slice none 0 0] 52):=⟨_,rfl⟩
  rw [← hW3] at z1 z2 z3 z4 z5
  have hkI:=Lib.hid (show (o.kind:Int) = 4 by omega)
  have hg':=Lib.hid hg
  have ho':=Lib.hid ho
  have z1':=Lib.hid z1
  have z2':=Lib.hid z2
  have z3':=Lib.hid z3
  have z4':=Lib.hid z4
  have z5':=Lib.hid z5
  unfold opCells zero11 at hW3
  unfold opCells
  rw [hkI.out,hg] at hW3 ⊢
  clear ho z1 z2 z3 z4 z5
  go_enter Try.func32,Try.ntmps32
  go_upto_region 3 with fail
  rw [← hW3]
  clear hW3
  have o1u:=z1'.out
  obtain ⟨o0,o1,o2,o3,o4,o5,o6,o7,o8,o9,o10⟩:=op_cells o1u
  clear o1u
  go_upto_region 4 with (at_builtin;(refine P4.wpList_append_its rfl _ (.tmp 11) rfl (w.heap.size + 1 + 1 + 1) (.slice none 0 0) [] o.path rfl (P4.OwnI.nil_ _ _) s.pA s.pn s.pc rfl (ho'.out.below z4'.out).path ho'.out.pnil (by have h7:=ho'.out.path.1;have h8:=ho'.out.pfew;simp only [List.length_nil];omega) (by have:=z5'.out;omega) ?_;intro v1 w1 ho1 hg1 hat1;have hb1:=P4.grown_nil hg1;have B1:=Lib.hid hb1;have V1:=Lib.hid ho1;obtain ⟨A1,n1,c1,rfl,-⟩:=P4.OwnI.shape ho1;have y1:=(hb1.block w.heap.size (by have:=z5'.out;omega)).trans z1'.out;clear o0 o1 o2 o3 o4 o5 o6 o7 o8 o9 o10 ho1 hg1 hat1 hb1;obtain ⟨o0,o1,o2,o3,o4,o5,o6,o7,o8,o9,o10⟩:=op_cells y1;clear y1))
  go_upto_region 5 with (at_builtin;(refine P4.wpList_append_its rfl _ (.tmp 15) rfl (w.heap.size + 1 + 1 + 1) (.slice none 0 0) [] o.to_ rfl (P4.OwnI.nil_ _ _) s.tA s.tn s.tc rfl (ho'.out.below (z4'.out.trans (B1.out.mono z4'.out.size))).to_ ho'.out.tnil (by have h7:=ho'.out.to_.1;have h8:=ho'.out.tfew;simp only [List.length_nil];omega) (by have:=z5'.out;have:=B1.out.size;omega) ?_;intro v2 w2 ho2 hg2 hat2;have hb2:=P4.grown_nil hg2;have B2:=Lib.hid hb2;have V2:=Lib.hid ho2;obtain ⟨A2,n2,c2,rfl,-⟩:=P4.OwnI.shape ho2;clear o0 o1 o2 o3 o4 o5 o6 o7 o8 o9 o10 ho2 hg2 hat2 hb2))
  obtain ⟨b3,y1,y2,y3⟩:=two_rows (w:=w) z1'.out z2'.out z3'.out z5'.out B1.out B2.out
  have B3:=Lib.hid b3
  have Y1:=Lib.hid y1
  have Y2:=Lib.hid y2
  have Y3:=Lib.hid y3
  have yw:=Lib.hid (z4'.out.trans (b3.mono z4'.out.size))
  obtain ⟨o0,o1,o2,o3,o4,o5,o6,o7,o8,o9,o10⟩:=op_cells y1
  obtain ⟨p0,p1,p2,p3,p4,p5,p6,p7,p8,p9,p10,pf⟩:=eleven_cells y3
  have hl3:w.heap.size + 1 + 1 < w2.heap.size:=(Array.getElem?_eq_some_iff.1 y3).1
  clear b3 y1 y2 y3
  go_upto_region 25 with fail
  clear o0 o1 o2 o3 o4 o5 o6 o7 o8 o9 o10 p0 p1 p2 p3 p4 p5 p6 p7 p8 p9 p10 pf
  obtain ⟨X,hX⟩:∃ X,X = ((w2.setCell ⟨w.heap.size + 1 + 1,7,none⟩ (.string ⟨o.key.toArray⟩)).setCell ⟨w.heap.size + 1 + 1,9,none⟩ (.bool true)):=⟨_,rfl⟩
  have x3:X.heap[w.heap.size + 1 + 1]? = some (.cells #[.int .u8 4,.slice none 0 0,.int .i64 0,.slice none 0 0,.int .u64 0,.bool false,.string ⟨#[]⟩,.string ⟨o.key.toArray⟩,.string ⟨#[]⟩,.bool true,.slice none 0 0] 52 (0,0)):=by rw [hX];have e0:=heap_setCell_same _ _ 7 _ _ (.string ⟨o.key.toArray⟩) Y3.out;have e1:=heap_setCell_same _ _ 9 _ _ (.bool true) e0;rw [e1];simp
  have hk5:=Lib.hid (show ∀ k,k ≠ w.heap.size + 1 + 1→X.heap[k]? = w2.heap[k]? by intro k hk;rw [hX];repeat rw [heap_setCell_other _ _ k _ hk])
  have xw:=Lib.hid (show Below w.heap.size w X by rw [hX];exact ((yw.out.setCell (p:=⟨w.heap.size + 1 + 1,7,none⟩) (by show w.heap.size≤w.heap.size + 1 + 1;omega) _).setCell (p:=⟨w.heap.size + 1 + 1,9,none⟩) (by show w.heap.size≤w.heap.size + 1 + 1;omega) _))
  have xz:=Lib.hid (show X.heap.size = w2.heap.size by rw [hX];simp)
  rw [← hX]
  clear hX
  obtain ⟨p0,p1,p2,p3,p4,p5,p6,p7,p8,p9,p10,pf⟩:=eleven_cells x3
  have X3:=Lib.hid x3
  have hlx:w.heap.size + 1 + 1 < X.heap.size:=(Array.getElem?_eq_some_iff.1 x3).1
  clear x3
  go_upto_region 26 with fail
  clear p0 p1 p2 p3 p4 p5 p6 p7 p8 p9 p10 pf
  obtain ⟨W5,hW5⟩:∃ W5,W5 = X.setCell ⟨w.heap.size + 1 + 1,1,none⟩ (.slice A1 n1 c1):=⟨_,rfl⟩
  have r3:W5.heap[w.heap.size + 1 + 1]? = some (.cells #[.int .u8 4,.slice A1 n1 c1,.int .i64 0,.slice none 0 0,.int .u64 0,.bool false,.string ⟨#[]⟩,.string ⟨o.key.toArray⟩,.string ⟨#[]⟩,.bool true,.slice none 0 0] 52 (0,0)):=by rw [hW5,heap_setCell_same X _ 1 _ _ _ X3.out];simp
  have h5:=Lib.hid (show ∀ k,k ≠ w.heap.size + 1 + 1→W5.heap[k]? = w2.heap[k]? by intro k hk;rw [hW5];exact (heap_setCell_other _ _ k _ hk).trans (hk5.out k hk))
  have w5b:=Lib.hid (show Below w.heap.size w W5 by rw [hW5];exact xw.out.setCell (p:=⟨w.heap.size + 1 + 1,1,none⟩) (by show w.heap.size≤w.heap.size + 1 + 1;omega) _)
  rw [← hW5]
  clear hW5
  have r2:=(h5.out (w.heap.size + 1) (by omega)).trans Y2.out
  unfold zero11 at r2
  have r2h:=Lib.hid r2
  obtain ⟨p0,p1,p2,p3,p4,p5,p6,p7,p8,p9,p10,pf⟩:=eleven_cells r3
  obtain ⟨q0,q1,q2,q3,q4,q5,q6,q7,q8,q9,q10,qf⟩:=eleven_cells r2
  have hl2:w.heap.size + 1 < W5.heap.size:=(Array.getElem?_eq_some_iff.1 r2).1
  clear r2 r3
  go_wp2_with fail
  obtain ⟨W9,hW9,R9,B9,Z9,K9⟩:=end_op (o:=(⟨4,o.path,0,[],0,false,[],o.key,[],true,[]⟩:Ov)) (s:=⟨A1,n1,c1,none,0,0,none,0,0⟩) (r:=w.heap.size + 1) (by omega) w5b.out r2h.out
  have hW9':W9 = (((((((((((W5.setCell ⟨w.heap.size + 1,0,none⟩ (.int .u8 4)).setCell ⟨w.heap.size + 1,1,none⟩ (.slice A1 n1 c1)).setCell ⟨w.heap.size + 1,2,none⟩ (.int .i64 0)).setCell ⟨w.heap.size + 1,3,none⟩ (.slice none 0 0)).setCell ⟨w.heap.size + 1,4,none⟩ (.int .u64 0)).setCell ⟨w.heap.size + 1,5,none⟩ (.bool false)).setCell ⟨w.heap.size + 1,6,none⟩ (.string ⟨#[]⟩)).setCell ⟨w.heap.size + 1,7,none⟩ (.string ⟨o.key.toArray⟩)).setCell ⟨w.heap.size + 1,8,none⟩ (.string ⟨#[]⟩)).setCell ⟨w.heap.size + 1,9,none⟩ (.bool true)).setCell ⟨w.heap.size + 1,10,none⟩ (.slice none 0 0)):=hW9
  rw [← hW9']
  clear hW9' hW9
  unfold opCells at R9
  obtain ⟨d0,d1,d2,d3,d4,d5,d6,d7,d8,d9,d10,df⟩:=eleven_cells R9
  refine bodyPost_ret (v:=.agg (opCells (⟨4,o.path,0,[],0,false,[],o.key,[],true,[]⟩:Ov) ⟨A1,n1,c1,none,0,0,none,0,0⟩)) (by simp [results,Try.results32,go_sem,d0,d1,d2,d3,d4,d5,d6,d7,d8,d9,d10,opCells]) rfl ?_
  have kk:∀ k,w.heap.size + 1 + 1 + 1≤k→W9.heap[k]? = w2.heap[k]?:=fun k hk=>(K9 k (by omega)).trans (h5.out k (by omega))
  rw [show bareV o = (⟨4,o.path,0,[],0,false,[],o.key,[],true,[]⟩:Ov) by unfold bareV;simp [hk,hg]]
  refine ⟨_,rfl,⟨own_mono (own_kept V1.out fun k h1 h2=>(kk k h1).trans (B2.out.block k h2)) (by omega),P4.OwnI.nil_ _ _,OwnQ.nil_ _ _⟩,B9⟩
set_option maxHeartbeats 4000000 in
theorem rbare_k5 (w:World) (o:Ov) (s:OS) (ho:OpIn w o s) (hk:o.kind = 5) :Calls Try.prog 32 #[.agg (opCells o s)] w (BareA w (bareV o)):=by
  obtain ⟨z1,z2,z3,z4,z5⟩:=three_new w (.cells (opCells o s) 52) (.cells zero11 52) (.cells #[.int .u8 5,.slice none 0 0,.int .i64 0,.slice none 0 0,.int .u64 0,.bool false,.string ⟨#[]⟩,.string ⟨#[]⟩,.string ⟨#[]⟩,.bool false,.slice none 0 0] 52)
  obtain ⟨W3,hW3⟩:∃ W3,W3 = ((w.alloc (.cells (opCells o s) 52)).alloc (.cells zero11 52)).alloc (.cells #[.int .u8 5,.slice none 0 0,.int .i64 0,.slice none 0 0,.int .u64 0,.bool false,.string ⟨#[]⟩,.string ⟨#[]⟩,.string ⟨#[]⟩,.bool false,.slice none 0 0] 52):=⟨_,rfl⟩
  rw [← hW3] at z1 z2 z3 z4 z5
  have hkI:=Lib.hid (show (o.kind:Int) = 5 by omega)
  have ho':=Lib.hid ho
  have z1':=Lib.hid z1
  have z2':=Lib.hid z2
  have z3':=Lib.hid z3
  have z4':=Lib.hid z4
  have z5':=Lib.hid z5
  unfold opCells zero11 at hW3
  unfold opCells
  rw [hkI.out] at hW3 ⊢
  clear ho z1 z2 z3 z4 z5
  go_enter Try.func32,Try.ntmps32
  go_upto_region 3 with fail
  rw [← hW3]
  clear hW3
  have o1u:=z1'.out
  obtain ⟨o0,o1,o2,o3,o4,o5,o6,o7,o8,o9,o10⟩:=op_cells o1u
  clear o1u
  go_upto_region 4 with (at_builtin;(refine P4.wpList_append_its rfl _ (.tmp 11) rfl (w.heap.size + 1 + 1 + 1) (.slice none 0 0) [] o.path rfl (P4.OwnI.nil_ _ _) s.pA s.pn s.pc rfl (ho'.out.below z4'.out).path ho'.out.pnil (by have h7:=ho'.out.path.1;have h8:=ho'.out.pfew;simp only [List.length_nil];omega) (by have:=z5'.out;omega) ?_;intro v1 w1 ho1 hg1 hat1;have hb1:=P4.grown_nil hg1;have B1:=Lib.hid hb1;have V1:=Lib.hid ho1;obtain ⟨A1,n1,c1,rfl,-⟩:=P4.OwnI.shape ho1;have y1:=(hb1.block w.heap.size (by have:=z5'.out;omega)).trans z1'.out;clear o0 o1 o2 o3 o4 o5 o6 o7 o8 o9 o10 ho1 hg1 hat1 hb1;obtain ⟨o0,o1,o2,o3,o4,o5,o6,o7,o8,o9,o10⟩:=op_cells y1;clear y1))
  go_upto_region 5 with (at_builtin;(refine P4.wpList_append_its rfl _ (.tmp 15) rfl (w.heap.size + 1 + 1 + 1) (.slice none 0 0) [] o.to_ rfl (P4.OwnI.nil_ _ _) s.tA s.tn s.tc rfl (ho'.out.below (z4'.out.trans (B1.out.mono z4'.out.size))).to_ ho'.out.tnil (by have h7:=ho'.out.to_.1;have h8:=ho'.out.tfew;simp only [List.length_nil];omega) (by have:=z5'.out;have:=B1.out.size;omega) ?_;intro v2 w2 ho2 hg2 hat2;have hb2:=P4.grown_nil hg2;have B2:=Lib.hid hb2;have V2:=Lib.hid ho2;obtain ⟨A2,n2,c2,rfl,-⟩:=P4.OwnI.shape ho2;clear o0 o1 o2 o3 o4 o5 o6 o7 o8 o9 o10 ho2 hg2 hat2 hb2))
  obtain ⟨b3,y1,y2,y3⟩:=two_rows (w:=w) z1'.out z2'.out z3'.out z5'.out B1.out B2.out
  have B3:=Lib.hid b3
  have Y1:=Lib.hid y1
  have Y2:=Lib.hid y2
  have Y3:=Lib.hid y3
  have yw:=Lib.hid (z4'.out.trans (b3.mono z4'.out.size))
  obtain ⟨o0,o1,o2,o3,o4,o5,o6,o7,o8,o9,o10⟩:=op_cells y1
  obtain ⟨p0,p1,p2,p3,p4,p5,p6,p7,p8,p9,p10,pf⟩:=eleven_cells y3
  have hl3:w.heap.size + 1 + 1 < w2.heap.size:=(Array.getElem?_eq_some_iff.1 y3).1
  clear b3 y1 y2 y3
  go_upto_region 25 with fail
  clear o0 o1 o2 o3 o4 o5 o6 o7 o8 o9 o10 p0 p1 p2 p3 p4 p5 p6 p7 p8 p9 p10 pf
  obtain ⟨X,hX⟩:∃ X,X = (w2.setCell ⟨w.heap.size + 1 + 1,6,none⟩ (.string ⟨o.label.toArray⟩)):=⟨_,rfl⟩
  have x3:X.heap[w.heap.size + 1 + 1]? = some (.cells #[.int .u8 5,.slice none 0 0,.int .i64 0,.slice none 0 0,.int .u64 0,.bool false,.string ⟨o.label.toArray⟩,.string ⟨#[]⟩,.string ⟨#[]⟩,.bool false,.slice none 0 0] 52 (0,0)):=by rw [hX];have e0:=heap_setCell_same _ _ 6 _ _ (.string ⟨o.label.toArray⟩) Y3.out;rw [e0];simp
  have hk5:=Lib.hid (show ∀ k,k ≠ w.heap.size + 1 + 1→X.heap[k]? = w2.heap[k]? by intro k hk;rw [hX];repeat rw [heap_setCell_other _ _ k _ hk])
  have xw:=Lib.hid (show Below w.heap.size w X by rw [hX];exact (yw.out.setCell (p:=⟨w.heap.size + 1 + 1,6,none⟩) (by show w.heap.size≤w.heap.size + 1 + 1;omega) _))
  have xz:=Lib.hid (show X.heap.size = w2.heap.size by rw [hX];simp)
  rw [← hX]
  clear hX
  obtain ⟨p0,p1,p2,p3,p4,p5,p6,p7,p8,p9,p10,pf⟩:=eleven_cells x3
  have X3:=Lib.hid x3
  have hlx:w.heap.size + 1 + 1 < X.heap.size:=(Array.getElem?_eq_some_iff.1 x3).1
  clear x3
  go_upto_region 26 with fail
  clear p0 p1 p2 p3 p4 p5 p6 p7 p8 p9 p10 pf
  obtain ⟨W5,hW5⟩:∃ W5,W5 = X.setCell ⟨w.heap.size + 1 + 1,1,none⟩ (.slice A1 n1 c1):=⟨_,rfl⟩
  have r3:W5.heap[w.heap.size + 1 + 1]? = some (.cells #[.int .u8 5,.slice A1 n1 c1,.int .i64 0,.slice none 0 0,.int .u64 0,.bool false,.string ⟨o.label.toArray⟩,.string ⟨#[]⟩,.string ⟨#[]⟩,.bool false,.slice none 0 0] 52 (0,0)):=by rw [hW5,heap_setCell_same X _ 1 _ _ _ X3.out];simp
  have h5:=Lib.hid (show ∀ k,k ≠ w.heap.size + 1 + 1→W5.heap[k]? = w2.heap[k]? by intro k hk;rw [hW5];exact (heap_setCell_other _ _ k _ hk).trans (hk5.out k hk))
  have w5b:=Lib.hid (show Below w.heap.size w W5 by rw [hW5];exact xw.out.setCell (p:=⟨w.heap.size + 1 + 1,1,none⟩) (by show w.heap.size≤w.heap.size + 1 + 1;omega) _)
  rw [← hW5]
  clear hW5
  have r2:=(h5.out (w.heap.size + 1) (by omega)).trans Y2.out
  unfold zero11 at r2
  have r2h:=Lib.hid r2
  obtain ⟨p0,p1,p2,p3,p4,p5,p6,p7,p8,p9,p10,pf⟩:=eleven_cells r3
  obtain ⟨q0,q1,q2,q3,q4,q5,q6,q7,q8,q9,q10,qf⟩:=eleven_cells r2
  have hl2:w.heap.size + 1 < W5.heap.size:=(Array.getElem?_eq_some_iff.1 r2).1
  clear r2 r3
  go_wp2_with fail
  obtain ⟨W9,hW9,R9,B9,Z9,K9⟩:=end_op (o:=(⟨5,o.path,0,[],0,false,o.label,[],[],false,[]⟩:Ov)) (s:=⟨A1,n1,c1,none,0,0,none,0,0⟩) (r:=w.heap.size + 1) (by omega) w5b.out r2h.out
  have hW9':W9 = (((((((((((W5.setCell ⟨w.heap.size + 1,0,none⟩ (.int .u8 5)).setCell ⟨w.heap.size + 1,1,none⟩ (.slice A1 n1 c1)).setCell ⟨w.heap.size + 1,2,none⟩ (.int .i64 0)).setCell ⟨w.heap.size + 1,3,none⟩ (.slice none 0 0)).setCell ⟨w.heap.size + 1,4,none⟩ (.int .u64 0)).setCell ⟨w.heap.size + 1,5,none⟩ (.bool false)).setCell ⟨w.heap.size + 1,6,none⟩ (.string ⟨o.label.toArray⟩)).setCell ⟨w.heap.size + 1,7,none⟩ (.string ⟨#[]⟩)).setCell ⟨w.heap.size + 1,8,none⟩ (.string ⟨#[]⟩)).setCell ⟨w.heap.size + 1,9,none⟩ (.bool false)).setCell ⟨w.heap.size + 1,10,none⟩ (.slice none 0 0)):=hW9
  rw [← hW9']
  clear hW9' hW9
  unfold opCells at R9
  obtain ⟨d0,d1,d2,d3,d4,d5,d6,d7,d8,d9,d10,df⟩:=eleven_cells R9
  refine bodyPost_ret (v:=.agg (opCells (⟨5,o.path,0,[],0,false,o.label,[],[],false,[]⟩:Ov) ⟨A1,n1,c1,none,0,0,none,0,0⟩)) (by simp [results,Try.results32,go_sem,d0,d1,d2,d3,d4,d5,d6,d7,d8,d9,d10,opCells]) rfl ?_
  have kk:∀ k,w.heap.size + 1 + 1 + 1≤k→W9.heap[k]? = w2.heap[k]?:=fun k hk=>(K9 k (by omega)).trans (h5.out k (by omega))
  rw [show bareV o = (⟨5,o.path,0,[],0,false,o.label,[],[],false,[]⟩:Ov) by unfold bareV;simp [hk]]
  refine ⟨_,rfl,⟨own_mono (own_kept V1.out fun k h1 h2=>(kk k h1).trans (B2.out.block k h2)) (by omega),P4.OwnI.nil_ _ _,OwnQ.nil_ _ _⟩,B9⟩
set_option maxHeartbeats 4000000 in
theorem rbare_k6 (w:World) (o:Ov) (s:OS) (ho:OpIn w o s) (hk:o.kind = 6) :Calls Try.prog 32 #[.agg (opCells o s)] w (BareA w (bareV o)):=by
  obtain ⟨z1,z2,z3,z4,z5⟩:=three_new w (.cells (opCells o s) 52) (.cells zero11 52) (.cells #[.int .u8 6,.slice none 0 0,.int .i64 0,.slice none 0 0,.int .u64 0,.bool false,.string ⟨#[]⟩,.string ⟨#[]⟩,.string ⟨#[]⟩,.bool false,.slice none 0 0] 52)
  obtain ⟨W3,hW3⟩:∃ W3,W3 = ((w.alloc (.cells (opCells o s) 52)).alloc (.cells zero11 52)).alloc (.cells #[.int .u8 6,.slice none 0 0,.int .i64 0,.slice none 0 0,.int .u64 0,.bool false,.string ⟨#[]⟩,.string ⟨#[]⟩,.string ⟨#[]⟩,.bool false,.slice none 0 0] 52):=⟨_,rfl⟩
  rw [← hW3] at z1 z2 z3 z4 z5
  have hkI:=Lib.hid (show (o.kind:Int) = 6 by omega)
  have ho':=Lib.hid ho
  have z1':=Lib.hid z1
  have z2':=Lib.hid z2
  have z3':=Lib.hid z3
  have z4':=Lib.hid z4
  have z5':=Lib.hid z5
  unfold opCells zero11 at hW3
  unfold opCells
  rw [hkI.out] at hW3 ⊢
  clear ho z1 z2 z3 z4 z5
  go_enter Try.func32,Try.ntmps32
  go_upto_region 3 with fail
  rw [← hW3]
  clear hW3
  have o1u:=z1'.out
  obtain ⟨o0,o1,o2,o3,o4,o5,o6,o7,o8,o9,o10⟩:=op_cells o1u
  clear o1u
  go_upto_region 4 with (at_builtin;(refine P4.wpList_append_its rfl _ (.tmp 11) rfl (w.heap.size + 1 + 1 + 1) (.slice none 0 0) [] o.path rfl (P4.OwnI.nil_ _ _) s.pA s.pn s.pc rfl (ho'.out.below z4'.out).path ho'.out.pnil (by have h7:=ho'.out.path.1;have h8:=ho'.out.pfew;simp only [List.length_nil];omega) (by have:=z5'.out;omega) ?_;intro v1 w1 ho1 hg1 hat1;have hb1:=P4.grown_nil hg1;have B1:=Lib.hid hb1;have V1:=Lib.hid ho1;obtain ⟨A1,n1,c1,rfl,-⟩:=P4.OwnI.shape ho1;have y1:=(hb1.block w.heap.size (by have:=z5'.out;omega)).trans z1'.out;clear o0 o1 o2 o3 o4 o5 o6 o7 o8 o9 o10 ho1 hg1 hat1 hb1;obtain ⟨o0,o1,o2,o3,o4,o5,o6,o7,o8,o9,o10⟩:=op_cells y1;clear y1))
  go_upto_region 5 with (at_builtin;(refine P4.wpList_append_its rfl _ (.tmp 15) rfl (w.heap.size + 1 + 1 + 1) (.slice none 0 0) [] o.to_ rfl (P4.OwnI.nil_ _ _) s.tA s.tn s.tc rfl (ho'.out.below (z4'.out.trans (B1.out.mono z4'.out.size))).to_ ho'.out.tnil (by have h7:=ho'.out.to_.1;have h8:=ho'.out.tfew;simp only [List.length_nil];omega) (by have:=z5'.out;have:=B1.out.size;omega) ?_;intro v2 w2 ho2 hg2 hat2;have hb2:=P4.grown_nil hg2;have B2:=Lib.hid hb2;have V2:=Lib.hid ho2;obtain ⟨A2,n2,c2,rfl,-⟩:=P4.OwnI.shape ho2;clear o0 o1 o2 o3 o4 o5 o6 o7 o8 o9 o10 ho2 hg2 hat2 hb2))
  obtain ⟨b3,y1,y2,y3⟩:=two_rows (w:=w) z1'.out z2'.out z3'.out z5'.out B1.out B2.out
  have B3:=Lib.hid b3
  have Y1:=Lib.hid y1
  have Y2:=Lib.hid y2
  have Y3:=Lib.hid y3
  have yw:=Lib.hid (z4'.out.trans (b3.mono z4'.out.size))
  obtain ⟨o0,o1,o2,o3,o4,o5,o6,o7,o8,o9,o10⟩:=op_cells y1
  obtain ⟨p0,p1,p2,p3,p4,p5,p6,p7,p8,p9,p10,pf⟩:=eleven_cells y3
  have hl3:w.heap.size + 1 + 1 < w2.heap.size:=(Array.getElem?_eq_some_iff.1 y3).1
  clear b3 y1 y2 y3
  have hpc:=Lib.hid (ho'.out.pieces.below yw.out)
  go_upto_region 25 with (at_builtin;(refine wpList_append_pcs rfl _ (.tmp 67) rfl (w.heap.size + 1 + 1 + 1) (.slice none 0 0) [] o.pieces rfl (OwnQ.nil_ _ _) s.qA s.qn s.qc rfl hpc.out ho'.out.qnil (by have h7:=hpc.out.1;have h8:=ho'.out.qfew;simp only [List.length_nil];omega) (by omega) ?_;intro v4 w4 ho4 hg4 hat4;have hb4:=P4.grown_nil hg4;have B4:=Lib.hid hb4;have V4:=Lib.hid ho4;obtain ⟨A4,n4,c4,rfl,-⟩:=OwnQ.shape ho4 (pcs_ok hpc.out);have y3:=(hb4.block (w.heap.size + 1 + 1) hl3).trans Y3.out;have Y3':=Lib.hid y3;have Y2':=Lib.hid ((hb4.block (w.heap.size + 1) (by omega)).trans Y2.out);have yw':=Lib.hid (yw.out.trans (hb4.mono yw.out.size));have hl4:w.heap.size + 1 + 1 < w4.heap.size:=(Array.getElem?_eq_some_iff.1 y3).1;clear o0 o1 o2 o3 o4 o5 o6 o7 o8 o9 o10 p0 p1 p2 p3 p4 p5 p6 p7 p8 p9 p10 pf ho4 hg4 hat4 hb4;obtain ⟨p0,p1,p2,p3,p4,p5,p6,p7,p8,p9,p10,pf⟩:=eleven_cells y3;clear y3))
  clear p0 p1 p2 p3 p4 p5 p6 p7 p8 p9 p10 pf
  obtain ⟨X,hX⟩:∃ X,X = (w4.setCell ⟨w.heap.size + 1 + 1,10,none⟩ (.slice A4 n4 c4)):=⟨_,rfl⟩
  have x3:X.heap[w.heap.size + 1 + 1]? = some (.cells #[.int .u8 6,.slice none 0 0,.int .i64 0,.slice none 0 0,.int .u64 0,.bool false,.string ⟨#[]⟩,.string ⟨#[]⟩,.string ⟨#[]⟩,.bool false,.slice A4 n4 c4] 52 (0,0)):=by rw [hX];have e0:=heap_setCell_same _ _ 10 _ _ (.slice A4 n4 c4) Y3'.out;rw [e0];simp
  have hk5:=Lib.hid (show ∀ k,k ≠ w.heap.size + 1 + 1→X.heap[k]? = w4.heap[k]? by intro k hk;rw [hX];repeat rw [heap_setCell_other _ _ k _ hk])
  have xw:=Lib.hid (show Below w.heap.size w X by rw [hX];exact (yw'.out.setCell (p:=⟨w.heap.size + 1 + 1,10,none⟩) (by show w.heap.size≤w.heap.size + 1 + 1;omega) _))
  have xz:=Lib.hid (show X.heap.size = w4.heap.size by rw [hX];simp)
  rw [← hX]
  clear hX
  obtain ⟨p0,p1,p2,p3,p4,p5,p6,p7,p8,p9,p10,pf⟩:=eleven_cells x3
  have X3:=Lib.hid x3
  have hlx:w.heap.size + 1 + 1 < X.heap.size:=(Array.getElem?_eq_some_iff.1 x3).1
  clear x3
  go_upto_region 26 with fail
  clear p0 p1 p2 p3 p4 p5 p6 p7 p8 p9 p10 pf
  obtain ⟨W5,hW5⟩:∃ W5,W5 = X.setCell ⟨w.heap.size + 1 + 1,1,none⟩ (.slice A1 n1 c1):=⟨_,rfl⟩
  have r3:W5.heap[w.heap.size + 1 + 1]? = some (.cells #[.int .u8 6,.slice A1 n1 c1,.int .i64 0,.slice none 0 0,.int .u64 0,.bool false,.string ⟨#[]⟩,.string ⟨#[]⟩,.string ⟨#[]⟩,.bool false,.slice A4 n4 c4] 52 (0,0)):=by rw [hW5,heap_setCell_same X _ 1 _ _ _ X3.out];simp
  have h5:=Lib.hid (show ∀ k,k ≠ w.heap.size + 1 + 1→W5.heap[k]? = w4.heap[k]? by intro k hk;rw [hW5];exact (heap_setCell_other _ _ k _ hk).trans (hk5.out k hk))
  have w5b:=Lib.hid (show Below w.heap.size w W5 by rw [hW5];exact xw.out.setCell (p:=⟨w.heap.size + 1 + 1,1,none⟩) (by show w.heap.size≤w.heap.size + 1 + 1;omega) _)
  rw [← hW5]
  clear hW5
  have r2:=(h5.out (w.heap.size + 1) (by omega)).trans Y2'.out
  unfold zero11 at r2
  have r2h:=Lib.hid r2
  obtain ⟨p0,p1,p2,p3,p4,p5,p6,p7,p8,p9,p10,pf⟩:=eleven_cells r3
  obtain ⟨q0,q1,q2,q3,q4,q5,q6,q7,q8,q9,q10,qf⟩:=eleven_cells r2
  have hl2:w.heap.size + 1 < W5.heap.size:=(Array.getElem?_eq_some_iff.1 r2).1
  clear r2 r3
  go_wp2_with fail
  obtain ⟨W9,hW9,R9,B9,Z9,K9⟩:=end_op (o:=(⟨6,o.path,0,[],0,false,[],[],[],false,o.pieces⟩:Ov)) (s:=⟨A1,n1,c1,none,0,0,A4,n4,c4⟩) (r:=w.heap.size + 1) (by omega) w5b.out r2h.out
  have hW9':W9 = (((((((((((W5.setCell ⟨w.heap.size + 1,0,none⟩ (.int .u8 6)).setCell ⟨w.heap.size + 1,1,none⟩ (.slice A1 n1 c1)).setCell ⟨w.heap.size + 1,2,none⟩ (.int .i64 0)).setCell ⟨w.heap.size + 1,3,none⟩ (.slice none 0 0)).setCell ⟨w.heap.size + 1,4,none⟩ (.int .u64 0)).setCell ⟨w.heap.size + 1,5,none⟩ (.bool false)).setCell ⟨w.heap.size + 1,6,none⟩ (.string ⟨#[]⟩)).setCell ⟨w.heap.size + 1,7,none⟩ (.string ⟨#[]⟩)).setCell ⟨w.heap.size + 1,8,none⟩ (.string ⟨#[]⟩)).setCell ⟨w.heap.size + 1,9,none⟩ (.bool false)).setCell ⟨w.heap.size + 1,10,none⟩ (.slice A4 n4 c4)):=hW9
  rw [← hW9']
  clear hW9' hW9
  unfold opCells at R9
  obtain ⟨d0,d1,d2,d3,d4,d5,d6,d7,d8,d9,d10,df⟩:=eleven_cells R9
  refine bodyPost_ret (v:=.agg (opCells (⟨6,o.path,0,[],0,false,[],[],[],false,o.pieces⟩:Ov) ⟨A1,n1,c1,none,0,0,A4,n4,c4⟩)) (by simp [results,Try.results32,go_sem,d0,d1,d2,d3,d4,d5,d6,d7,d8,d9,d10,opCells]) rfl ?_
  have kk:∀ k,w.heap.size + 1 + 1 + 1≤k→W9.heap[k]? = w4.heap[k]?:=fun k hk=>(K9 k (by omega)).trans (h5.out k (by omega))
  rw [show bareV o = (⟨6,o.path,0,[],0,false,[],[],[],false,o.pieces⟩:Ov) by unfold bareV;simp [hk]]
  refine ⟨_,rfl,⟨own_mono (own_kept V1.out fun k h1 h2=>(kk k h1).trans ((B4.out.block k (by have:=B2.out.size;omega)).trans (B2.out.block k h2))) (by omega),P4.OwnI.nil_ _ _,own_mono (own_kept V4.out fun k h1 h2=>kk k h1) (by omega)⟩,B9⟩
set_option maxHeartbeats 4000000 in
theorem rbare_no (w:World) (o:Ov) (s:OS) (ho:OpIn w o s) (hk:¬ (1≤o.kind∧o.kind≤6)) :Calls Try.prog 32 #[.agg (opCells o s)] w (BareA w (bareV o)):=by
  obtain ⟨z1,z2,z3,z4,z5⟩:=three_new w (.cells (opCells o s) 52) (.cells zero11 52) (.cells #[.int .u8 (o.kind:Int),.slice none 0 0,.int .i64 0,.slice none 0 0,.int .u64 0,.bool false,.string ⟨#[]⟩,.string ⟨#[]⟩,.string ⟨#[]⟩,.bool false,.slice none 0 0] 52)
  obtain ⟨W3,hW3⟩:∃ W3,W3 = ((w.alloc (.cells (opCells o s) 52)).alloc (.cells zero11 52)).alloc (.cells #[.int .u8 (o.kind:Int),.slice none 0 0,.int .i64 0,.slice none 0 0,.int .u64 0,.bool false,.string ⟨#[]⟩,.string ⟨#[]⟩,.string ⟨#[]⟩,.bool false,.slice none 0 0] 52):=⟨_,rfl⟩
  rw [← hW3] at z1 z2 z3 z4 z5
  have e1:((o.kind:Int) == 1) = false:=by simp;omega
  have e2:((o.kind:Int) == 2) = false:=by simp;omega
  have e3:((o.kind:Int) == 3) = false:=by simp;omega
  have e4:((o.kind:Int) == 4) = false:=by simp;omega
  have e5:((o.kind:Int) == 5) = false:=by simp;omega
  have e6:((o.kind:Int) == 6) = false:=by simp;omega
  have hk':=Lib.hid hk
  have ho':=Lib.hid ho
  have z1':=Lib.hid z1
  have z2':=Lib.hid z2
  have z3':=Lib.hid z3
  have z4':=Lib.hid z4
  have z5':=Lib.hid z5
  unfold opCells zero11 at hW3
  unfold opCells
  clear ho z1 z2 z3 z4 z5
  go_enter Try.func32,Try.ntmps32
  go_upto_region 3 with fail
  rw [← hW3]
  clear hW3
  have o1u:=z1'.out
  obtain ⟨o0,o1,o2,o3,o4,o5,o6,o7,o8,o9,o10⟩:=op_cells o1u
  clear o1u
  go_upto_region 4 with (at_builtin;(refine P4.wpList_append_its rfl _ (.tmp 11) rfl (w.heap.size + 1 + 1 + 1) (.slice none 0 0) [] o.path rfl (P4.OwnI.nil_ _ _) s.pA s.pn s.pc rfl (ho'.out.below z4'.out).path ho'.out.pnil (by have h7:=ho'.out.path.1;have h8:=ho'.out.pfew;simp only [List.length_nil];omega) (by have:=z5'.out;omega) ?_;intro v1 w1 ho1 hg1 hat1;have hb1:=P4.grown_nil hg1;have B1:=Lib.hid hb1;have V1:=Lib.hid ho1;obtain ⟨A1,n1,c1,rfl,-⟩:=P4.OwnI.shape ho1;have y1:=(hb1.block w.heap.size (by have:=z5'.out;omega)).trans z1'.out;clear o0 o1 o2 o3 o4 o5 o6 o7 o8 o9 o10 ho1 hg1 hat1 hb1;obtain ⟨o0,o1,o2,o3,o4,o5,o6,o7,o8,o9,o10⟩:=op_cells y1;clear y1))
  go_upto_region 5 with (at_builtin;(refine P4.wpList_append_its rfl _ (.tmp 15) rfl (w.heap.size + 1 + 1 + 1) (.slice none 0 0) [] o.to_ rfl (P4.OwnI.nil_ _ _) s.tA s.tn s.tc rfl (ho'.out.below (z4'.out.trans (B1.out.mono z4'.out.size))).to_ ho'.out.tnil (by have h7:=ho'.out.to_.1;have h8:=ho'.out.tfew;simp only [List.length_nil];omega) (by have:=z5'.out;have:=B1.out.size;omega) ?_;intro v2 w2 ho2 hg2 hat2;have hb2:=P4.grown_nil hg2;have B2:=Lib.hid hb2;have V2:=Lib.hid ho2;obtain ⟨A2,n2,c2,rfl,-⟩:=P4.OwnI.shape ho2;clear o0 o1 o2 o3 o4 o5 o6 o7 o8 o9 o10 ho2 hg2 hat2 hb2))
  obtain ⟨b3,y1,y2,y3⟩:=two_rows (w:=w) z1'.out z2'.out z3'.out z5'.out B1.out B2.out
  have B3:=Lib.hid b3
  have Y1:=Lib.hid y1
  have Y2:=Lib.hid y2
  have Y3:=Lib.hid y3
  have yw:=Lib.hid (z4'.out.trans (b3.mono z4'.out.size))
  obtain ⟨o0,o1,o2,o3,o4,o5,o6,o7,o8,o9,o10⟩:=op_cells y1
  obtain ⟨p0,p1,p2,p3,p4,p5,p6,p7,p8,p9,p10,pf⟩:=eleven_cells y3
  have hl3:w.heap.size + 1 + 1 < w2.heap.size:=(Array.getElem?_eq_some_iff.1 y3).1
  clear b3 y1 y2 y3
  go_upto_region 6 with fail
  clear o0 o1 o2 o3 o4 o5 o6 o7 o8 o9 o10
  have r2:=Y2.out
  unfold zero11 at r2
  have r2h:=Lib.hid r2
  obtain ⟨q0,q1,q2,q3,q4,q5,q6,q7,q8,q9,q10,qf⟩:=eleven_cells r2
  have hl2:w.heap.size + 1 < w2.heap.size:=(Array.getElem?_eq_some_iff.1 r2).1
  clear r2
  go_wp2_with fail
  obtain ⟨W9,hW9,R9,B9,Z9,K9⟩:=end_op (o:=(⟨o.kind,[],0,[],0,false,[],[],[],false,[]⟩:Ov)) (s:=⟨none,0,0,none,0,0,none,0,0⟩) (r:=w.heap.size + 1) (by omega) yw.out r2h.out
  have hW9':W9 = (((((((((((w2.setCell ⟨w.heap.size + 1,0,none⟩ (.int .u8 (o.kind:Int))).setCell ⟨w.heap.size + 1,1,none⟩ (.slice none 0 0)).setCell ⟨w.heap.size + 1,2,none⟩ (.int .i64 0)).setCell ⟨w.heap.size + 1,3,none⟩ (.slice none 0 0)).setCell ⟨w.heap.size + 1,4,none⟩ (.int .u64 0)).setCell ⟨w.heap.size + 1,5,none⟩ (.bool false)).setCell ⟨w.heap.size + 1,6,none⟩ (.string ⟨#[]⟩)).setCell ⟨w.heap.size + 1,7,none⟩ (.string ⟨#[]⟩)).setCell ⟨w.heap.size + 1,8,none⟩ (.string ⟨#[]⟩)).setCell ⟨w.heap.size + 1,9,none⟩ (.bool false)).setCell ⟨w.heap.size + 1,10,none⟩ (.slice none 0 0)):=hW9
  rw [← hW9']
  clear hW9' hW9
  unfold opCells at R9
  obtain ⟨d0,d1,d2,d3,d4,d5,d6,d7,d8,d9,d10,df⟩:=eleven_cells R9
  refine bodyPost_ret (v:=.agg (opCells (⟨o.kind,[],0,[],0,false,[],[],[],false,[]⟩:Ov) ⟨none,0,0,none,0,0,none,0,0⟩)) (by simp [results,Try.results32,go_sem,d0,d1,d2,d3,d4,d5,d6,d7,d8,d9,d10,opCells]) rfl ?_
  rw [show bareV o = (⟨o.kind,[],0,[],0,false,[],[],[],false,[]⟩:Ov) by unfold bareV;rw [if_neg hk,if_neg (by omega),if_neg (by omega),if_neg (show ¬ (o.kind = 4∧o.gone = false) from fun h=>by omega),if_neg (by omega),if_neg (by omega),if_neg (by omega),if_neg (by omega),if_neg (by omega),if_neg (by omega)]]
  exact ⟨_,rfl,⟨P4.OwnI.nil_ _ _,P4.OwnI.nil_ _ _,OwnQ.nil_ _ _⟩,B9⟩
theorem rbare_any (w:World) (o:Ov) (s:OS) (ho:OpIn w o s):Calls Try.prog 32 #[.agg (opCells o s)] w (BareA w (bareV o)):=by
  by_cases k1:o.kind = 1
  · exact rbare_k1 w o s ho k1
  · by_cases k2:o.kind = 2
    · exact rbare_k2 w o s ho k2
    · by_cases k3:o.kind = 3
      · exact rbare_k3 w o s ho k3
      · by_cases k4:o.kind = 4
        · cases hg:o.gone with
          | true=>exact rbare_k4g w o s ho k4 hg
          | false=>exact rbare_k4 w o s ho k4 hg
        · by_cases k5:o.kind = 5
          · exact rbare_k5 w o s ho k5
          · by_cases k6:o.kind = 6
            · exact rbare_k6 w o s ho k6
            · exact rbare_no w o s ho (by omega)
end Go.Proofs.Ytidimannfemnmaa.Top

