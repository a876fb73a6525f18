/- MgAN: TopBc TopBd TopN TopQ -/
import Derived.Test.YtmipodnffhngaaaMgAL
import Derived.Test.YtmipodnffhngaaaMgAK
import Derived.Test.YtmipodnffhngaaaTopS
import Derived.Test.YtmipodnffhngaaaTopA
import Derived.Test.YtmipodnffhngaaaMgAE
set_option linter.all false
namespace Go.Proofs.Ytmipodnffhngaaa.Top
open Go.RowKit
set_option maxRecDepth 20000
set_option linter.unusedVariables false

set_option maxHeartbeats 4000000 in
theorem bare_k2 (w:World) (o:Ov) (s:OS) (ho:OpIn w o s) (hk:o.kind = 2):Calls Try.prog 28 #[.agg (opCells o s)] w (BareA w (bareV o)):=by
  obtain ⟨z1,z2,z3,z4,z5⟩:=three_new w (.cells (opCells o s) 26) (.cells zero11 26) (.cells #[.int .u8 2,.slice none 0 0,.int .i64 0,.slice none 0 0,.int .u64 0,.bool false,.string ⟨#[]⟩,.string ⟨#[]⟩,.string ⟨#[]⟩,.bool false,.slice none 0 0] 26)
  obtain ⟨W3,hW3⟩:∃ W3,W3 = ((w.alloc (.cells (opCells o s) 26)).alloc (.cells zero11 26)).alloc (.cells #[.int .u8 2,.slice none 0 0,.int .i64 0,.slice none 0 0,.int .u64 0,.bool false,.string ⟨#[]⟩,.string ⟨#[]⟩,.string ⟨#[]⟩,.bool false,.slice none 0 0] 26):=⟨_,rfl⟩
  rw [← hW3] at z1 z2 z3 z4 z5
  have hkI:=Lib.hid (show (o.kind:Int) = 2 by omega)
  have ho':=Lib.hid ho
  unfold opCells zero11 at hW3
  unfold opCells
  rw [hkI.out] at hW3 ⊢
  have z1':=Lib.hid z1
  have z2':=Lib.hid z2
  have z3':=Lib.hid z3
  have z4':=Lib.hid z4
  have z5':=Lib.hid z5
  clear ho z1 z2 z3 z4 z5
  go_enter Try.func28,Try.ntmps28
  go_upto_region 17 with fail
  rw [← hW3]
  obtain ⟨X,hX⟩:∃ X,X = W3:=⟨_,rfl⟩
  rw [← hX]
  have bX:=Lib.hid (show Below W3.heap.size W3 X by rw [hX];exact Below.refl _ _)
  clear hX hW3
  have x1:=Lib.hid ((bX.out.block w.heap.size (by have:=z5'.out;omega)).trans z1'.out)
  have x2:=Lib.hid ((bX.out.block (w.heap.size + 1) (by have:=z5'.out;omega)).trans z2'.out)
  have x3:=Lib.hid ((bX.out.block (w.heap.size + 1 + 1) (by have:=z5'.out;omega)).trans z3'.out)
  have xw:=Lib.hid (z4'.out.trans (bX.out.mono z4'.out.size))
  have xs:=Lib.hid (show w.heap.size + 1 + 1 + 1≤X.heap.size by have:=z5'.out;have:=bX.out.size;omega)
  have OT:=Lib.hid (P4.OwnI.nil_ (w.heap.size + 1 + 1 + 1) X)
  have OQ:=Lib.hid (OwnQ.nil_ (w.heap.size + 1 + 1 + 1) X)
  have hcp:=Lib.hid (copied_any X s.pA s.pn s.pc o.path (ho'.out.below xw.out).path ho'.out.pnil ho'.out.pfew)
  unfold P4.NewRow at hcp
  have x1u:=x1.out
  have x3u:=x3.out
  obtain ⟨o0,o1,o2,o3,o4,o5,o6,o7,o8,o9,o10⟩:=op_cells x1u
  obtain ⟨p0,p1,p2,p3,p4,p5,p6,p7,p8,p9,p10,pf⟩:=eleven_cells x3u
  clear x1u x3u
  go_upto_region 18 with (go_at_call 73;go_loud (refine hcp.out.mono ?_;rintro e w1 ⟨v1,rfl,hv1,hb1⟩;have V1:=Lib.hid hv1;have b1:=Lib.hid hb1;have y3:=(hb1.block (w.heap.size + 1 + 1) (by have:=xs.out;omega)).trans x3.out;have Y3:=Lib.hid y3;obtain ⟨A1,n1,c1,rfl,-⟩:=P4.OwnI.shape hv1;clear o0 o1 o2 o3 o4 o5 o6 o7 o8 o9 o10 p0 p1 p2 p3 p4 p5 p6 p7 p8 p9 p10 pf hv1 hb1;obtain ⟨p0,p1,p2,p3,p4,p5,p6,p7,p8,p9,p10,pf⟩:=eleven_cells y3;have hl3:w.heap.size + 1 + 1 < w1.heap.size:=(Array.getElem?_eq_some_iff.1 y3).1;clear y3))
  clear p0 p1 p2 p3 p4 p5 p6 p7 p8 p9 p10 pf hcp
  obtain ⟨W5,hW5⟩:∃ W5,W5 = w1.setCell ⟨w.heap.size + 1 + 1,1,none⟩ (.slice A1 n1 c1):=⟨_,rfl⟩
  have r3:W5.heap[w.heap.size + 1 + 1]? = some (.cells #[.int .u8 2,.slice A1 n1 c1,.int .i64 0,.slice none 0 0,.int .u64 0,.bool false,.string ⟨#[]⟩,.string ⟨#[]⟩,.string ⟨#[]⟩,.bool false,.slice none 0 0] 26 (0,0)):=by rw [hW5,heap_setCell_same w1 _ 1 _ _ _ Y3.out];simp
  have h5:=Lib.hid (show ∀ k,k ≠ w.heap.size + 1 + 1→W5.heap[k]? = w1.heap[k]? by intro k hk;rw [hW5];exact heap_setCell_other _ _ k _ hk)
  have w5b:=Lib.hid (show Below w.heap.size w W5 by rw [hW5];exact (xw.out.trans (b1.out.mono xw.out.size)).setCell (p:=⟨w.heap.size + 1 + 1,1,none⟩) (by show w.heap.size≤w.heap.size + 1 + 1;omega) _)
  have w5s:=Lib.hid (show W5.heap.size = w1.heap.size by rw [hW5];simp)
  rw [← hW5]
  clear hW5
  have r2:=(h5.out (w.heap.size + 1) (by omega)).trans ((b1.out.block (w.heap.size + 1) (by have:=xs.out;omega)).trans x2.out)
  unfold zero11 at r2
  have r2h:=Lib.hid r2
  obtain ⟨p0,p1,p2,p3,p4,p5,p6,p7,p8,p9,p10,pf⟩:=eleven_cells r3
  obtain ⟨q0,q1,q2,q3,q4,q5,q6,q7,q8,q9,q10,qf⟩:=eleven_cells r2
  have hl2:w.heap.size + 1 < W5.heap.size:=(Array.getElem?_eq_some_iff.1 r2).1
  clear r2 r3
  go_wp2_with fail
  obtain ⟨W9,hW9,R9,B9,Z9,K9⟩:=end_op (o:=(⟨2,o.path,0,[],0,false,[],[],[],false,[]⟩:Ov)) (s:=⟨A1,n1,c1,none,0,0,none,0,0⟩) (r:=w.heap.size + 1) (by omega) w5b.out r2h.out
  have hW9':W9 = (((((((((((W5.setCell ⟨w.heap.size + 1,0,none⟩ (.int .u8 2)).setCell ⟨w.heap.size + 1,1,none⟩ (.slice A1 n1 c1)).setCell ⟨w.heap.size + 1,2,none⟩ (.int .i64 0)).setCell ⟨w.heap.size + 1,3,none⟩ (.slice none 0 0)).setCell ⟨w.heap.size + 1,4,none⟩ (.int .u64 0)).setCell ⟨w.heap.size + 1,5,none⟩ (.bool false)).setCell ⟨w.heap.size + 1,6,none⟩ (.string ⟨#[]⟩)).setCell ⟨w.heap.size + 1,7,none⟩ (.string ⟨#[]⟩)).setCell ⟨w.heap.size + 1,8,none⟩ (.string ⟨#[]⟩)).setCell ⟨w.heap.size + 1,9,none⟩ (.bool false)).setCell ⟨w.heap.size + 1,10,none⟩ (.slice none 0 0)):=hW9
  rw [← hW9']
  clear hW9' hW9
  unfold opCells at R9
  obtain ⟨d0,d1,d2,d3,d4,d5,d6,d7,d8,d9,d10,df⟩:=eleven_cells R9
  refine bodyPost_ret (v:=.agg (opCells (⟨2,o.path,0,[],0,false,[],[],[],false,[]⟩:Ov) ⟨A1,n1,c1,none,0,0,none,0,0⟩)) (by simp [results,Try.results28,go_sem,d0,d1,d2,d3,d4,d5,d6,d7,d8,d9,d10,opCells]) rfl ?_
  have kk:∀ k,w.heap.size + 1 + 1 + 1≤k→W9.heap[k]? = w1.heap[k]?:=fun k hk=>(K9 k (by omega)).trans (h5.out k (by omega))
  rw [show bareV o = (⟨2,o.path,0,[],0,false,[],[],[],false,[]⟩:Ov) by unfold bareV;simp [hk]]
  refine ⟨_,rfl,⟨own_mono (own_kept V1.out fun k h1 h2=>kk k (Nat.le_trans xs.out h1)) (Nat.le_trans (by omega) xs.out),own_mono (own_kept OT.out fun k h1 h2=>(kk k h1).trans (b1.out.block k h2)) (by omega),own_mono (own_kept OQ.out fun k h1 h2=>(kk k h1).trans (b1.out.block k h2)) (by omega)⟩,B9⟩
set_option maxHeartbeats 4000000 in
theorem bare_k1 (w:World) (o:Ov) (s:OS) (ho:OpIn w o s) (hk:o.kind = 1):Calls Try.prog 28 #[.agg (opCells o s)] w (BareA w (bareV o)):=by
  obtain ⟨z1,z2,z3,z4,z5⟩:=three_new w (.cells (opCells o s) 26) (.cells zero11 26) (.cells #[.int .u8 1,.slice none 0 0,.int .i64 o.at_,.slice none 0 0,.int .u64 (o.id:Int),.bool o.leaf,.string ⟨o.label.toArray⟩,.string ⟨#[]⟩,.string ⟨#[]⟩,.bool false,.slice none 0 0] 26)
  obtain ⟨W3,hW3⟩:∃ W3,W3 = ((w.alloc (.cells (opCells o s) 26)).alloc (.cells zero11 26)).alloc (.cells #[.int .u8 1,.slice none 0 0,.int .i64 o.at_,.slice none 0 0,.int .u64 (o.id:Int),.bool o.leaf,.string ⟨o.label.toArray⟩,.string ⟨#[]⟩,.string ⟨#[]⟩,.bool false,.slice none 0 0] 26):=⟨_,rfl⟩
  rw [← hW3] at z1 z2 z3 z4 z5
  have hkI:=Lib.hid (show (o.kind:Int) = 1 by omega)
  have ho':=Lib.hid ho
  unfold opCells zero11 at hW3
  unfold opCells
  rw [hkI.out] at hW3 ⊢
  have z1':=Lib.hid z1
  have z2':=Lib.hid z2
  have z3':=Lib.hid z3
  have z4':=Lib.hid z4
  have z5':=Lib.hid z5
  clear ho z1 z2 z3 z4 z5
  go_enter Try.func28,Try.ntmps28
  go_upto_region 5 with fail
  go_region
  go_upto_region 17 with fail
  rw [← hW3]
  obtain ⟨X,hX⟩:∃ X,X = W3.drew:=⟨_,rfl⟩
  rw [← hX]
  have bX:=Lib.hid (show Below W3.heap.size W3 X by rw [hX];exact (Below.refl _ _).drew)
  clear hX hW3
  have x1:=Lib.hid ((bX.out.block w.heap.size (by have:=z5'.out;omega)).trans z1'.out)
  have x2:=Lib.hid ((bX.out.block (w.heap.size + 1) (by have:=z5'.out;omega)).trans z2'.out)
  have x3:=Lib.hid ((bX.out.block (w.heap.size + 1 + 1) (by have:=z5'.out;omega)).trans z3'.out)
  have xw:=Lib.hid (z4'.out.trans (bX.out.mono z4'.out.size))
  have xs:=Lib.hid (show w.heap.size + 1 + 1 + 1≤X.heap.size by have:=z5'.out;have:=bX.out.size;omega)
  have OT:=Lib.hid (P4.OwnI.nil_ (w.heap.size + 1 + 1 + 1) X)
  have OQ:=Lib.hid (OwnQ.nil_ (w.heap.size + 1 + 1 + 1) X)
  have hcp:=Lib.hid (copied_any X s.pA s.pn s.pc o.path (ho'.out.below xw.out).path ho'.out.pnil ho'.out.pfew)
  unfold P4.NewRow at hcp
  have x1u:=x1.out
  have x3u:=x3.out
  obtain ⟨o0,o1,o2,o3,o4,o5,o6,o7,o8,o9,o10⟩:=op_cells x1u
  obtain ⟨p0,p1,p2,p3,p4,p5,p6,p7,p8,p9,p10,pf⟩:=eleven_cells x3u
  clear x1u x3u
  go_upto_region 18 with (go_at_call 73;go_loud (refine hcp.out.mono ?_;rintro e w1 ⟨v1,rfl,hv1,hb1⟩;have V1:=Lib.hid hv1;have b1:=Lib.hid hb1;have y3:=(hb1.block (w.heap.size + 1 + 1) (by have:=xs.out;omega)).trans x3.out;have Y3:=Lib.hid y3;obtain ⟨A1,n1,c1,rfl,-⟩:=P4.OwnI.shape hv1;clear o0 o1 o2 o3 o4 o5 o6 o7 o8 o9 o10 p0 p1 p2 p3 p4 p5 p6 p7 p8 p9 p10 pf hv1 hb1;obtain ⟨p0,p1,p2,p3,p4,p5,p6,p7,p8,p9,p10,pf⟩:=eleven_cells y3;have hl3:w.heap.size + 1 + 1 < w1.heap.size:=(Array.getElem?_eq_some_iff.1 y3).1;clear y3))
  clear p0 p1 p2 p3 p4 p5 p6 p7 p8 p9 p10 pf hcp
  obtain ⟨W5,hW5⟩:∃ W5,W5 = w1.setCell ⟨w.heap.size + 1 + 1,1,none⟩ (.slice A1 n1 c1):=⟨_,rfl⟩
  have r3:W5.heap[w.heap.size + 1 + 1]? = some (.cells #[.int .u8 1,.slice A1 n1 c1,.int .i64 o.at_,.slice none 0 0,.int .u64 (o.id:Int),.bool o.leaf,.string ⟨o.label.toArray⟩,.string ⟨#[]⟩,.string ⟨#[]⟩,.bool false,.slice none 0 0] 26 (0,0)):=by rw [hW5,heap_setCell_same w1 _ 1 _ _ _ Y3.out];simp
  have h5:=Lib.hid (show ∀ k,k ≠ w.heap.size + 1 + 1→W5.heap[k]? = w1.heap[k]? by intro k hk;rw [hW5];exact heap_setCell_other _ _ k _ hk)
  have w5b:=Lib.hid (show Below w.heap.size w W5 by rw [hW5];exact (xw.out.trans (b1.out.mono xw.out.size)).setCell (p:=⟨w.heap.size + 1 + 1,1,none⟩) (by show w.heap.size≤w.heap.size + 1 + 1;omega) _)
  have w5s:=Lib.hid (show W5.heap.size = w1.heap.size by rw [hW5];simp)
  rw [← hW5]
  clear hW5
  have r2:=(h5.out (w.heap.size + 1) (by omega)).trans ((b1.out.block (w.heap.size + 1) (by have:=xs.out;omega)).trans x2.out)
  unfold zero11 at r2
  have r2h:=Lib.hid r2
  obtain ⟨p0,p1,p2,p3,p4,p5,p6,p7,p8,p9,p10,pf⟩:=eleven_cells r3
  obtain ⟨q0,q1,q2,q3,q4,q5,q6,q7,q8,q9,q10,qf⟩:=eleven_cells r2
  have hl2:w.heap.size + 1 < W5.heap.size:=(Array.getElem?_eq_some_iff.1 r2).1
  clear r2 r3
  go_wp2_with fail
  obtain ⟨W9,hW9,R9,B9,Z9,K9⟩:=end_op (o:=(⟨1,o.path,o.at_,[],o.id,o.leaf,o.label,[],[],false,[]⟩:Ov)) (s:=⟨A1,n1,c1,none,0,0,none,0,0⟩) (r:=w.heap.size + 1) (by omega) w5b.out r2h.out
  have hW9':W9 = (((((((((((W5.setCell ⟨w.heap.size + 1,0,none⟩ (.int .u8 1)).setCell ⟨w.heap.size + 1,1,none⟩ (.slice A1 n1 c1)).setCell ⟨w.heap.size + 1,2,none⟩ (.int .i64 o.at_)).setCell ⟨w.heap.size + 1,3,none⟩ (.slice none 0 0)).setCell ⟨w.heap.size + 1,4,none⟩ (.int .u64 (o.id:Int))).setCell ⟨w.heap.size + 1,5,none⟩ (.bool o.leaf)).setCell ⟨w.heap.size + 1,6,none⟩ (.string ⟨o.label.toArray⟩)).setCell ⟨w.heap.size + 1,7,none⟩ (.string ⟨#[]⟩)).setCell ⟨w.heap.size + 1,8,none⟩ (.string ⟨#[]⟩)).setCell ⟨w.heap.size + 1,9,none⟩ (.bool false)).setCell ⟨w.heap.size + 1,10,none⟩ (.slice none 0 0)):=hW9
  rw [← hW9']
  clear hW9' hW9
  unfold opCells at R9
  obtain ⟨d0,d1,d2,d3,d4,d5,d6,d7,d8,d9,d10,df⟩:=eleven_cells R9
  refine bodyPost_ret (v:=.agg (opCells (⟨1,o.path,o.at_,[],o.id,o.leaf,o.label,[],[],false,[]⟩:Ov) ⟨A1,n1,c1,none,0,0,none,0,0⟩)) (by simp [results,Try.results28,go_sem,d0,d1,d2,d3,d4,d5,d6,d7,d8,d9,d10,opCells]) rfl ?_
  have kk:∀ k,w.heap.size + 1 + 1 + 1≤k→W9.heap[k]? = w1.heap[k]?:=fun k hk=>(K9 k (by omega)).trans (h5.out k (by omega))
  rw [show bareV o = (⟨1,o.path,o.at_,[],o.id,o.leaf,o.label,[],[],false,[]⟩:Ov) by unfold bareV;simp [hk]]
  refine ⟨_,rfl,⟨own_mono (own_kept V1.out fun k h1 h2=>kk k (Nat.le_trans xs.out h1)) (Nat.le_trans (by omega) xs.out),own_mono (own_kept OT.out fun k h1 h2=>(kk k h1).trans (b1.out.block k h2)) (by omega),own_mono (own_kept OQ.out fun k h1 h2=>(kk k h1).trans (b1.out.block k h2)) (by omega)⟩,B9⟩
set_option maxHeartbeats 4000000 in
theorem bare_k5 (w:World) (o:Ov) (s:OS) (ho:OpIn w o s) (hk:o.kind = 5):Calls Try.prog 28 #[.agg (opCells o s)] w (BareA w (bareV o)):=by
  obtain ⟨z1,z2,z3,z4,z5⟩:=three_new w (.cells (opCells o s) 26) (.cells zero11 26) (.cells #[.int .u8 5,.slice none 0 0,.int .i64 0,.slice none 0 0,.int .u64 0,.bool false,.string ⟨o.label.toArray⟩,.string ⟨#[]⟩,.string ⟨#[]⟩,.bool false,.slice none 0 0] 26)
  obtain ⟨W3,hW3⟩:∃ W3,W3 = ((w.alloc (.cells (opCells o s) 26)).alloc (.cells zero11 26)).alloc (.cells #[.int .u8 5,.slice none 0 0,.int .i64 0,.slice none 0 0,.int .u64 0,.bool false,.string ⟨o.label.toArray⟩,.string ⟨#[]⟩,.string ⟨#[]⟩,.bool false,.slice none 0 0] 26):=⟨_,rfl⟩
  rw [← hW3] at z1 z2 z3 z4 z5
  have hkI:=Lib.hid (show (o.kind:Int) = 5 by omega)
  have ho':=Lib.hid ho
  unfold opCells zero11 at hW3
  unfold opCells
  rw [hkI.out] at hW3 ⊢
  have z1':=Lib.hid z1
  have z2':=Lib.hid z2
  have z3':=Lib.hid z3
  have z4':=Lib.hid z4
  have z5':=Lib.hid z5
  clear ho z1 z2 z3 z4 z5
  go_enter Try.func28,Try.ntmps28
  go_upto_region 17 with fail
  rw [← hW3]
  obtain ⟨X,hX⟩:∃ X,X = W3:=⟨_,rfl⟩
  rw [← hX]
  have bX:=Lib.hid (show Below W3.heap.size W3 X by rw [hX];exact Below.refl _ _)
  clear hX hW3
  have x1:=Lib.hid ((bX.out.block w.heap.size (by have:=z5'.out;omega)).trans z1'.out)
  have x2:=Lib.hid ((bX.out.block (w.heap.size + 1) (by have:=z5'.out;omega)).trans z2'.out)
  have x3:=Lib.hid ((bX.out.block (w.heap.size + 1 + 1) (by have:=z5'.out;omega)).trans z3'.out)
  have xw:=Lib.hid (z4'.out.trans (bX.out.mono z4'.out.size))
  have xs:=Lib.hid (show w.heap.size + 1 + 1 + 1≤X.heap.size by have:=z5'.out;have:=bX.out.size;omega)
  have OT:=Lib.hid (P4.OwnI.nil_ (w.heap.size + 1 + 1 + 1) X)
  have OQ:=Lib.hid (OwnQ.nil_ (w.heap.size + 1 + 1 + 1) X)
  have hcp:=Lib.hid (copied_any X s.pA s.pn s.pc o.path (ho'.out.below xw.out).path ho'.out.pnil ho'.out.pfew)
  unfold P4.NewRow at hcp
  have x1u:=x1.out
  have x3u:=x3.out
  obtain ⟨o0,o1,o2,o3,o4,o5,o6,o7,o8,o9,o10⟩:=op_cells x1u
  obtain ⟨p0,p1,p2,p3,p4,p5,p6,p7,p8,p9,p10,pf⟩:=eleven_cells x3u
  clear x1u x3u
  go_upto_region 18 with (go_at_call 73;go_loud (refine hcp.out.mono ?_;rintro e w1 ⟨v1,rfl,hv1,hb1⟩;have V1:=Lib.hid hv1;have b1:=Lib.hid hb1;have y3:=(hb1.block (w.heap.size + 1 + 1) (by have:=xs.out;omega)).trans x3.out;have Y3:=Lib.hid y3;obtain ⟨A1,n1,c1,rfl,-⟩:=P4.OwnI.shape hv1;clear o0 o1 o2 o3 o4 o5 o6 o7 o8 o9 o10 p0 p1 p2 p3 p4 p5 p6 p7 p8 p9 p10 pf hv1 hb1;obtain ⟨p0,p1,p2,p3,p4,p5,p6,p7,p8,p9,p10,pf⟩:=eleven_cells y3;have hl3:w.heap.size + 1 + 1 < w1.heap.size:=(Array.getElem?_eq_some_iff.1 y3).1;clear y3))
  clear p0 p1 p2 p3 p4 p5 p6 p7 p8 p9 p10 pf hcp
  obtain ⟨W5,hW5⟩:∃ W5,W5 = w1.setCell ⟨w.heap.size + 1 + 1,1,none⟩ (.slice A1 n1 c1):=⟨_,rfl⟩
  have r3:W5.heap[w.heap.size + 1 + 1]? = some (.cells #[.int .u8 5,.slice A1 n1 c1,.int .i64 0,.slice none 0 0,.int .u64 0,.bool false,.string ⟨o.label.toArray⟩,.string ⟨#[]⟩,.string ⟨#[]⟩,.bool false,.slice none 0 0] 26 (0,0)):=by rw [hW5,heap_setCell_same w1 _ 1 _ _ _ Y3.out];simp
  have h5:=Lib.hid (show ∀ k,k ≠ w.heap.size + 1 + 1→W5.heap[k]? = w1.heap[k]? by intro k hk;rw [hW5];exact heap_setCell_other _ _ k _ hk)
  have w5b:=Lib.hid (show Below w.heap.size w W5 by rw [hW5];exact (xw.out.trans (b1.out.mono xw.out.size)).setCell (p:=⟨w.heap.size + 1 + 1,1,none⟩) (by show w.heap.size≤w.heap.size + 1 + 1;omega) _)
  have w5s:=Lib.hid (show W5.heap.size = w1.heap.size by rw [hW5];simp)
  rw [← hW5]
  clear hW5
  have r2:=(h5.out (w.heap.size + 1) (by omega)).trans ((b1.out.block (w.heap.size + 1) (by have:=xs.out;omega)).trans x2.out)
  unfold zero11 at r2
  have r2h:=Lib.hid r2
  obtain ⟨p0,p1,p2,p3,p4,p5,p6,p7,p8,p9,p10,pf⟩:=eleven_cells r3
  obtain ⟨q0,q1,q2,q3,q4,q5,q6,q7,q8,q9,q10,qf⟩:=eleven_cells r2
  have hl2:w.heap.size + 1 < W5.heap.size:=(Array.getElem?_eq_some_iff.1 r2).1
  clear r2 r3
  go_wp2_with fail
  obtain ⟨W9,hW9,R9,B9,Z9,K9⟩:=end_op (o:=(⟨5,o.path,0,[],0,false,o.label,[],[],false,[]⟩:Ov)) (s:=⟨A1,n1,c1,none,0,0,none,0,0⟩) (r:=w.heap.size + 1) (by omega) w5b.out r2h.out
  have hW9':W9 = (((((((((((W5.setCell ⟨w.heap.size + 1,0,none⟩ (.int .u8 5)).setCell ⟨w.heap.size + 1,1,none⟩ (.slice A1 n1 c1)).setCell ⟨w.heap.size + 1,2,none⟩ (.int .i64 0)).setCell ⟨w.heap.size + 1,3,none⟩ (.slice none 0 0)).setCell ⟨w.heap.size + 1,4,none⟩ (.int .u64 0)).setCell ⟨w.heap.size + 1,5,none⟩ (.bool false)).setCell ⟨w.heap.size + 1,6,none⟩ (.string ⟨o.label.toArray⟩)).setCell ⟨w.heap.size + 1,7,none⟩ (.string ⟨#[]⟩)).setCell ⟨w.heap.size + 1,8,none⟩ (.string ⟨#[]⟩)).setCell ⟨w.heap.size + 1,9,none⟩ (.bool false)).setCell ⟨w.heap.size + 1,10,none⟩ (.slice none 0 0)):=hW9
  rw [← hW9']
  clear hW9' hW9
  unfold opCells at R9
  obtain ⟨d0,d1,d2,d3,d4,d5,d6,d7,d8,d9,d10,df⟩:=eleven_cells R9
  refine bodyPost_ret (v:=.agg (opCells (⟨5,o.path,0,[],0,false,o.label,[],[],false,[]⟩:Ov) ⟨A1,n1,c1,none,0,0,none,0,0⟩)) (by simp [results,Try.results28,go_sem,d0,d1,d2,d3,d4,d5,d6,d7,d8,d9,d10,opCells]) rfl ?_
  have kk:∀ k,w.heap.size + 1 + 1 + 1≤k→W9.heap[k]? = w1.heap[k]?:=fun k hk=>(K9 k (by omega)).trans (h5.out k (by omega))
  rw [show bareV o = (⟨5,o.path,0,[],0,false,o.label,[],[],false,[]⟩:Ov) by unfold bareV;simp [hk]]
  refine ⟨_,rfl,⟨own_mono (own_kept V1.out fun k h1 h2=>kk k (Nat.le_trans xs.out h1)) (Nat.le_trans (by omega) xs.out),own_mono (own_kept OT.out fun k h1 h2=>(kk k h1).trans (b1.out.block k h2)) (by omega),own_mono (own_kept OQ.out fun k h1 h2=>(kk k h1).trans (b1.out.block k h2)) (by omega)⟩,B9⟩
set_option maxHeartbeats 4000000 in
theorem bare_k4 (w:World) (o:Ov) (s:OS) (ho:OpIn w o s) (hk:o.kind = 4) (hg:o.gone = false):Calls Try.prog 28 #[.agg (opCells o s)] w (BareA w (bareV o)):=by
  obtain ⟨z1,z2,z3,z4,z5⟩:=three_new w (.cells (opCells o s) 26) (.cells zero11 26) (.cells #[.int .u8 4,.slice none 0 0,.int .i64 0,.slice none 0 0,.int .u64 0,.bool false,.string ⟨#[]⟩,.string ⟨o.key.toArray⟩,.string ⟨o.value.toArray⟩,.bool false,.slice none 0 0] 26)
  obtain ⟨W3,hW3⟩:∃ W3,W3 = ((w.alloc (.cells (opCells o s) 26)).alloc (.cells zero11 26)).alloc (.cells #[.int .u8 4,.slice none 0 0,.int .i64 0,.slice none 0 0,.int .u64 0,.bool false,.string ⟨#[]⟩,.string ⟨o.key.toArray⟩,.string ⟨o.value.toArray⟩,.bool false,.slice none 0 0] 26):=⟨_,rfl⟩
  rw [← hW3] at z1 z2 z3 z4 z5
  have hkI:=Lib.hid (show (o.kind:Int) = 4 by omega)
  have ho':=Lib.hid ho
  have hg':=Lib.hid hg
  unfold opCells zero11 at hW3
  unfold opCells
  rw [hkI.out,hg] at hW3 ⊢
  have z1':=Lib.hid z1
  have z2':=Lib.hid z2
  have z3':=Lib.hid z3
  have z4':=Lib.hid z4
  have z5':=Lib.hid z5
  clear ho z1 z2 z3 z4 z5
  go_enter Try.func28,Try.ntmps28
  go_upto_region 10 with fail
  go_region
  go_upto_region 17 with fail
  rw [← hW3]
  obtain ⟨X,hX⟩:∃ X,X = W3.drew:=⟨_,rfl⟩
  rw [← hX]
  have bX:=Lib.hid (show Below W3.heap.size W3 X by rw [hX];exact (Below.refl _ _).drew)
  clear hX hW3
  have x1:=Lib.hid ((bX.out.block w.heap.size (by have:=z5'.out;omega)).trans z1'.out)
  have x2:=Lib.hid ((bX.out.block (w.heap.size + 1) (by have:=z5'.out;omega)).trans z2'.out)
  have x3:=Lib.hid ((bX.out.block (w.heap.size + 1 + 1) (by have:=z5'.out;omega)).trans z3'.out)
  have xw:=Lib.hid (z4'.out.trans (bX.out.mono z4'.out.size))
  have xs:=Lib.hid (show w.heap.size + 1 + 1 + 1≤X.heap.size by have:=z5'.out;have:=bX.out.size;omega)
  have OT:=Lib.hid (P4.OwnI.nil_ (w.heap.size + 1 + 1 + 1) X)
  have OQ:=Lib.hid (OwnQ.nil_ (w.heap.size + 1 + 1 + 1) X)
  have hcp:=Lib.hid (copied_any X s.pA s.pn s.pc o.path (ho'.out.below xw.out).path ho'.out.pnil ho'.out.pfew)
  unfold P4.NewRow at hcp
  have x1u:=x1.out
  have x3u:=x3.out
  obtain ⟨o0,o1,o2,o3,o4,o5,o6,o7,o8,o9,o10⟩:=op_cells x1u
  obtain ⟨p0,p1,p2,p3,p4,p5,p6,p7,p8,p9,p10,pf⟩:=eleven_cells x3u
  clear x1u x3u
  go_upto_region 18 with (go_at_call 73;go_loud (refine hcp.out.mono ?_;rintro e w1 ⟨v1,rfl,hv1,hb1⟩;have V1:=Lib.hid hv1;have b1:=Lib.hid hb1;have y3:=(hb1.block (w.heap.size + 1 + 1) (by have:=xs.out;omega)).trans x3.out;have Y3:=Lib.hid y3;obtain ⟨A1,n1,c1,rfl,-⟩:=P4.OwnI.shape hv1;clear o0 o1 o2 o3 o4 o5 o6 o7 o8 o9 o10 p0 p1 p2 p3 p4 p5 p6 p7 p8 p9 p10 pf hv1 hb1;obtain ⟨p0,p1,p2,p3,p4,p5,p6,p7,p8,p9,p10,pf⟩:=eleven_cells y3;have hl3:w.heap.size + 1 + 1 < w1.heap.size:=(Array.getElem?_eq_some_iff.1 y3).1;clear y3))
  clear p0 p1 p2 p3 p4 p5 p6 p7 p8 p9 p10 pf hcp
  obtain ⟨W5,hW5⟩:∃ W5,W5 = w1.setCell ⟨w.heap.size + 1 + 1,1,none⟩ (.slice A1 n1 c1):=⟨_,rfl⟩
  have r3:W5.heap[w.heap.size + 1 + 1]? = some (.cells #[.int .u8 4,.slice A1 n1 c1,.int .i64 0,.slice none 0 0,.int .u64 0,.bool false,.string ⟨#[]⟩,.string ⟨o.key.toArray⟩,.string ⟨o.value.toArray⟩,.bool false,.slice none 0 0] 26 (0,0)):=by rw [hW5,heap_setCell_same w1 _ 1 _ _ _ Y3.out];simp
  have h5:=Lib.hid (show ∀ k,k ≠ w.heap.size + 1 + 1→W5.heap[k]? = w1.heap[k]? by intro k hk;rw [hW5];exact heap_setCell_other _ _ k _ hk)
  have w5b:=Lib.hid (show Below w.heap.size w W5 by rw [hW5];exact (xw.out.trans (b1.out.mono xw.out.size)).setCell (p:=⟨w.heap.size + 1 + 1,1,none⟩) (by show w.heap.size≤w.heap.size + 1 + 1;omega) _)
  have w5s:=Lib.hid (show W5.heap.size = w1.heap.size by rw [hW5];simp)
  rw [← hW5]
  clear hW5
  have r2:=(h5.out (w.heap.size + 1) (by omega)).trans ((b1.out.block (w.heap.size + 1) (by have:=xs.out;omega)).trans x2.out)
  unfold zero11 at r2
  have r2h:=Lib.hid r2
  obtain ⟨p0,p1,p2,p3,p4,p5,p6,p7,p8,p9,p10,pf⟩:=eleven_cells r3
  obtain ⟨q0,q1,q2,q3,q4,q5,q6,q7,q8,q9,q10,qf⟩:=eleven_cells r2
  have hl2:w.heap.size + 1 < W5.heap.size:=(Array.getElem?_eq_some_iff.1 r2).1
  clear r2 r3
  go_wp2_with fail
  obtain ⟨W9,hW9,R9,B9,Z9,K9⟩:=end_op (o:=(⟨4,o.path,0,[],0,false,[],o.key,o.value,false,[]⟩:Ov)) (s:=⟨A1,n1,c1,none,0,0,none,0,0⟩) (r:=w.heap.size + 1) (by omega) w5b.out r2h.out
  have hW9':W9 = (((((((((((W5.setCell ⟨w.heap.size + 1,0,none⟩ (.int .u8 4)).setCell ⟨w.heap.size + 1,1,none⟩ (.slice A1 n1 c1)).setCell ⟨w.heap.size + 1,2,none⟩ (.int .i64 0)).setCell ⟨w.heap.size + 1,3,none⟩ (.slice none 0 0)).setCell ⟨w.heap.size + 1,4,none⟩ (.int .u64 0)).setCell ⟨w.heap.size + 1,5,none⟩ (.bool false)).setCell ⟨w.heap.size + 1,6,none⟩ (.string ⟨#[]⟩)).setCell ⟨w.heap.size + 1,7,none⟩ (.string ⟨o.key.toArray⟩)).setCell ⟨w.heap.size + 1,8,none⟩ (.string ⟨o.value.toArray⟩)).setCell ⟨w.heap.size + 1,9,none⟩ (.bool false)).setCell ⟨w.heap.size + 1,10,none⟩ (.slice none 0 0)):=hW9
  rw [← hW9']
  clear hW9' hW9
  unfold opCells at R9
  obtain ⟨d0,d1,d2,d3,d4,d5,d6,d7,d8,d9,d10,df⟩:=eleven_cells R9
  refine bodyPost_ret (v:=.agg (opCells (⟨4,o.path,0,[],0,false,[],o.key,o.value,false,[]⟩:Ov) ⟨A1,n1,c1,none,0,0,none,0,0⟩)) (by simp [results,Try.results28,go_sem,d0,d1,d2,d3,d4,d5,d6,d7,d8,d9,d10,opCells]) rfl ?_
  have kk:∀ k,w.heap.size + 1 + 1 + 1≤k→W9.heap[k]? = w1.heap[k]?:=fun k hk=>(K9 k (by omega)).trans (h5.out k (by omega))
  rw [show bareV o = (⟨4,o.path,0,[],0,false,[],o.key,o.value,false,[]⟩:Ov) by unfold bareV;simp [hk,hg]]
  refine ⟨_,rfl,⟨own_mono (own_kept V1.out fun k h1 h2=>kk k (Nat.le_trans xs.out h1)) (Nat.le_trans (by omega) xs.out),own_mono (own_kept OT.out fun k h1 h2=>(kk k h1).trans (b1.out.block k h2)) (by omega),own_mono (own_kept OQ.out fun k h1 h2=>(kk k h1).trans (b1.out.block k h2)) (by omega)⟩,B9⟩
set_option maxHeartbeats 4000000 in
theorem bare_k4g (w:World) (o:Ov) (s:OS) (ho:OpIn w o s) (hk:o.kind = 4) (hg:o.gone = true):Calls Try.prog 28 #[.agg (opCells o s)] w (BareA w (bareV o)):=by
  obtain ⟨z1,z2,z3,z4,z5⟩:=three_new w (.cells (opCells o s) 26) (.cells zero11 26) (.cells #[.int .u8 4,.slice none 0 0,.int .i64 0,.slice none 0 0,.int .u64 0,.bool false,.string ⟨#[]⟩,.string ⟨o.key.toArray⟩,.string ⟨#[]⟩,.bool true,.slice none 0 0] 26)
  obtain ⟨W3,hW3⟩:∃ W3,W3 = ((w.alloc (.cells (opCells o s) 26)).alloc (.cells zero11 26)).alloc (.cells #[.int .u8 4,.slice none 0 0,.int .i64 0,.slice none 0 0,.int .u64 0,.bool false,.string ⟨#[]⟩,.string ⟨o.key.toArray⟩,.string ⟨#[]⟩,.bool true,.slice none 0 0] 26):=⟨_,rfl⟩
  rw [← hW3] at z1 z2 z3 z4 z5
  have hkI:=Lib.hid (show (o.kind:Int) = 4 by omega)
  have ho':=Lib.hid ho
  have hg':=Lib.hid hg
  unfold opCells zero11 at hW3
  unfold opCells
  rw [hkI.out,hg] at hW3 ⊢
  have z1':=Lib.hid z1
  have z2':=Lib.hid z2
  have z3':=Lib.hid z3
  have z4':=Lib.hid z4
  have z5':=Lib.hid z5
  clear ho z1 z2 z3 z4 z5
  go_enter Try.func28,Try.ntmps28
  go_upto_region 10 with fail
  go_region
  go_upto_region 17 with fail
  rw [← hW3]
  obtain ⟨X,hX⟩:∃ X,X = W3.drew:=⟨_,rfl⟩
  rw [← hX]
  have bX:=Lib.hid (show Below W3.heap.size W3 X by rw [hX];exact (Below.refl _ _).drew)
  clear hX hW3
  have x1:=Lib.hid ((bX.out.block w.heap.size (by have:=z5'.out;omega)).trans z1'.out)
  have x2:=Lib.hid ((bX.out.block (w.heap.size + 1) (by have:=z5'.out;omega)).trans z2'.out)
  have x3:=Lib.hid ((bX.out.block (w.heap.size + 1 + 1) (by have:=z5'.out;omega)).trans z3'.out)
  have xw:=Lib.hid (z4'.out.trans (bX.out.mono z4'.out.size))
  have xs:=Lib.hid (show w.heap.size + 1 + 1 + 1≤X.heap.size by have:=z5'.out;have:=bX.out.size;omega)
  have OT:=Lib.hid (P4.OwnI.nil_ (w.heap.size + 1 + 1 + 1) X)
  have OQ:=Lib.hid (OwnQ.nil_ (w.heap.size + 1 + 1 + 1) X)
  have hcp:=Lib.hid (copied_any X s.pA s.pn s.pc o.path (ho'.out.below xw.out).path ho'.out.pnil ho'.out.pfew)
  unfold P4.NewRow at hcp
  have x1u:=x1.out
  have x3u:=x3.out
  obtain ⟨o0,o1,o2,o3,o4,o5,o6,o7,o8,o9,o10⟩:=op_cells x1u
  obtain ⟨p0,p1,p2,p3,p4,p5,p6,p7,p8,p9,p10,pf⟩:=eleven_cells x3u
  clear x1u x3u
  go_upto_region 18 with (go_at_call 73;go_loud (refine hcp.out.mono ?_;rintro e w1 ⟨v1,rfl,hv1,hb1⟩;have V1:=Lib.hid hv1;have b1:=Lib.hid hb1;have y3:=(hb1.block (w.heap.size + 1 + 1) (by have:=xs.out;omega)).trans x3.out;have Y3:=Lib.hid y3;obtain ⟨A1,n1,c1,rfl,-⟩:=P4.OwnI.shape hv1;clear o0 o1 o2 o3 o4 o5 o6 o7 o8 o9 o10 p0 p1 p2 p3 p4 p5 p6 p7 p8 p9 p10 pf hv1 hb1;obtain ⟨p0,p1,p2,p3,p4,p5,p6,p7,p8,p9,p10,pf⟩:=eleven_cells y3;have hl3:w.heap.size + 1 + 1 < w1.heap.size:=(Array.getElem?_eq_some_iff.1 y3).1;clear y3))
  clear p0 p1 p2 p3 p4 p5 p6 p7 p8 p9 p10 pf hcp
  obtain ⟨W5,hW5⟩:∃ W5,W5 = w1.setCell ⟨w.heap.size + 1 + 1,1,none⟩ (.slice A1 n1 c1):=⟨_,rfl⟩
  have r3:W5.heap[w.heap.size + 1 + 1]? = some (.cells #[.int .u8 4,.slice A1 n1 c1,.int .i64 0,.slice none 0 0,.int .u64 0,.bool false,.string ⟨#[]⟩,.string ⟨o.key.toArray⟩,.string ⟨#[]⟩,.bool true,.slice none 0 0] 26 (0,0)):=by rw [hW5,heap_setCell_same w1 _ 1 _ _ _ Y3.out];simp
  have h5:=Lib.hid (show ∀ k,k ≠ w.heap.size + 1 + 1→W5.heap[k]? = w1.heap[k]? by intro k hk;rw [hW5];exact heap_setCell_other _ _ k _ hk)
  have w5b:=Lib.hid (show Below w.heap.size w W5 by rw [hW5];exact (xw.out.trans (b1.out.mono xw.out.size)).setCell (p:=⟨w.heap.size + 1 + 1,1,none⟩) (by show w.heap.size≤w.heap.size + 1 + 1;omega) _)
  have w5s:=Lib.hid (show W5.heap.size = w1.heap.size by rw [hW5];simp)
  rw [← hW5]
  clear hW5
  have r2:=(h5.out (w.heap.size + 1) (by omega)).trans ((b1.out.block (w.heap.size + 1) (by have:=xs.out;omega)).trans x2.out)
  unfold zero11 at r2
  have r2h:=Lib.hid r2
  obtain ⟨p0,p1,p2,p3,p4,p5,p6,p7,p8,p9,p10,pf⟩:=eleven_cells r3
  obtain ⟨q0,q1,q2,q3,q4,q5,q6,q7,q8,q9,q10,qf⟩:=eleven_cells r2
  have hl2:w.heap.size + 1 < W5.heap.size:=(Array.getElem?_eq_some_iff.1 r2).1
  clear r2 r3
  go_wp2_with fail
  obtain ⟨W9,hW9,R9,B9,Z9,K9⟩:=end_op (o:=(⟨4,o.path,0,[],0,false,[],o.key,[],true,[]⟩:Ov)) (s:=⟨A1,n1,c1,none,0,0,none,0,0⟩) (r:=w.heap.size + 1) (by omega) w5b.out r2h.out
  have hW9':W9 = (((((((((((W5.setCell ⟨w.heap.size + 1,0,none⟩ (.int .u8 4)).setCell ⟨w.heap.size + 1,1,none⟩ (.slice A1 n1 c1)).setCell ⟨w.heap.size + 1,2,none⟩ (.int .i64 0)).setCell ⟨w.heap.size + 1,3,none⟩ (.slice none 0 0)).setCell ⟨w.heap.size + 1,4,none⟩ (.int .u64 0)).setCell ⟨w.heap.size + 1,5,none⟩ (.bool false)).setCell ⟨w.heap.size + 1,6,none⟩ (.string ⟨#[]⟩)).setCell ⟨w.heap.size + 1,7,none⟩ (.string ⟨o.key.toArray⟩)).setCell ⟨w.heap.size + 1,8,none⟩ (.string ⟨#[]⟩)).setCell ⟨w.heap.size + 1,9,none⟩ (.bool true)).setCell ⟨w.heap.size + 1,10,none⟩ (.slice none 0 0)):=hW9
  rw [← hW9']
  clear hW9' hW9
  unfold opCells at R9
  obtain ⟨d0,d1,d2,d3,d4,d5,d6,d7,d8,d9,d10,df⟩:=eleven_cells R9
  refine bodyPost_ret (v:=.agg (opCells (⟨4,o.path,0,[],0,false,[],o.key,[],true,[]⟩:Ov) ⟨A1,n1,c1,none,0,0,none,0,0⟩)) (by simp [results,Try.results28,go_sem,d0,d1,d2,d3,d4,d5,d6,d7,d8,d9,d10,opCells]) rfl ?_
  have kk:∀ k,w.heap.size + 1 + 1 + 1≤k→W9.heap[k]? = w1.heap[k]?:=fun k hk=>(K9 k (by omega)).trans (h5.out k (by omega))
  rw [show bareV o = (⟨4,o.path,0,[],0,false,[],o.key,[],true,[]⟩:Ov) by unfold bareV;simp [hk,hg]]
  refine ⟨_,rfl,⟨own_mono (own_kept V1.out fun k h1 h2=>kk k (Nat.le_trans xs.out h1)) (Nat.le_trans (by omega) xs.out),own_mono (own_kept OT.out fun k h1 h2=>(kk k h1).trans (b1.out.block k h2)) (by omega),own_mono (own_kept OQ.out fun k h1 h2=>(kk k h1).trans (b1.out.block k h2)) (by omega)⟩,B9⟩
end Go.Proofs.Ytmipodnffhngaaa.Top
namespace Go.Proofs.Ytmipodnffhngaaa.Top
open Go.RowKit
set_option maxRecDepth 20000
set_option linter.unusedVariables false

set_option maxHeartbeats 4000000 in
theorem bare_k6 (w:World) (o:Ov) (s:OS) (ho:OpIn w o s) (hk:o.kind = 6):Calls Try.prog 28 #[.agg (opCells o s)] w (BareA w (bareV o)):=by
  obtain ⟨z1,z2,z3,z4,z5⟩:=three_new w (.cells (opCells o s) 26) (.cells zero11 26) (.cells #[.int .u8 6,.slice none 0 0,.int .i64 0,.slice none 0 0,.int .u64 0,.bool false,.string ⟨#[]⟩,.string ⟨#[]⟩,.string ⟨#[]⟩,.bool false,.slice none 0 0] 26)
  obtain ⟨W3,hW3⟩:∃ W3,W3 = ((w.alloc (.cells (opCells o s) 26)).alloc (.cells zero11 26)).alloc (.cells #[.int .u8 6,.slice none 0 0,.int .i64 0,.slice none 0 0,.int .u64 0,.bool false,.string ⟨#[]⟩,.string ⟨#[]⟩,.string ⟨#[]⟩,.bool false,.slice none 0 0] 26):=⟨_,rfl⟩
  rw [← hW3] at z1 z2 z3 z4 z5
  have hkI:=Lib.hid (show (o.kind:Int) = 6 by omega)
  have ho':=Lib.hid ho
  unfold opCells zero11 at hW3
  unfold opCells
  rw [hkI.out] at hW3 ⊢
  have z1':=Lib.hid z1
  have z2':=Lib.hid z2
  have z3':=Lib.hid z3
  have z4':=Lib.hid z4
  have z5':=Lib.hid z5
  clear ho z1 z2 z3 z4 z5
  go_enter Try.func28,Try.ntmps28
  have hpc:=Lib.hid (ho'.out.pieces.below z4'.out)
  go_upto_region 16 with fail
  rw [← hW3]
  clear hW3
  have o1u:=z1'.out
  have o3u:=z3'.out
  obtain ⟨o0,o1,o2,o3,o4,o5,o6,o7,o8,o9,o10⟩:=op_cells o1u
  obtain ⟨p0,p1,p2,p3,p4,p5,p6,p7,p8,p9,p10,pf⟩:=eleven_cells o3u
  clear o1u o3u
  go_upto_region 17 with (at_builtin;go_loud (refine wpList_append_pcs rfl _ (.tmp 57) rfl (w.heap.size + 1 + 1 + 1) (.slice none 0 0) [] o.pieces rfl (OwnQ.nil_ _ _) s.qA s.qn s.qc rfl hpc.out ho'.out.qnil (by have h7:=hpc.out.1;have h8:=ho'.out.qfew;simp only [List.length_nil];omega) (by have:=z5'.out;omega) ?_;intro v1 w1 ho1 hg1 hat1;have hb1:=P4.grown_nil hg1;have B1:=Lib.hid hb1;have V1:=Lib.hid ho1;obtain ⟨A6,n6,c6,rfl,-⟩:=OwnQ.shape ho1 (pcs_ok hpc.out);have y3:=(hb1.block (w.heap.size + 1 + 1) (by have:=z5'.out;omega)).trans z3'.out;have Y3:=Lib.hid y3;clear o0 o1 o2 o3 o4 o5 o6 o7 o8 o9 o10 p0 p1 p2 p3 p4 p5 p6 p7 p8 p9 p10 pf ho1 hg1 hat1 hb1;obtain ⟨p0,p1,p2,p3,p4,p5,p6,p7,p8,p9,p10,pf⟩:=eleven_cells y3;have hl3:w.heap.size + 1 + 1 < w1.heap.size:=(Array.getElem?_eq_some_iff.1 y3).1;clear y3))
  clear p0 p1 p2 p3 p4 p5 p6 p7 p8 p9 p10 pf
  obtain ⟨X,hX⟩:∃ X,X = w1.setCell ⟨w.heap.size + 1 + 1,10,none⟩ (.slice A6 n6 c6):=⟨_,rfl⟩
  have x3:=Lib.hid (show X.heap[w.heap.size + 1 + 1]? = some (.cells #[.int .u8 6,.slice none 0 0,.int .i64 0,.slice none 0 0,.int .u64 0,.bool false,.string ⟨#[]⟩,.string ⟨#[]⟩,.string ⟨#[]⟩,.bool false,.slice A6 n6 c6] 26 (0,0)) by rw [hX,heap_setCell_same w1 _ 10 _ _ _ Y3.out];simp)
  have hk5:=Lib.hid (show ∀ k,k ≠ w.heap.size + 1 + 1→X.heap[k]? = w1.heap[k]? by intro k hk;rw [hX];exact heap_setCell_other _ _ k _ hk)
  have xw:=Lib.hid (show Below w.heap.size w X by rw [hX];exact (z4'.out.trans (B1.out.mono z4'.out.size)).setCell (p:=⟨w.heap.size + 1 + 1,10,none⟩) (by show w.heap.size≤w.heap.size + 1 + 1;omega) _)
  have xs:=Lib.hid (show w.heap.size + 1 + 1 + 1≤X.heap.size by rw [hX];simp;have:=z5'.out;have:=B1.out.size;omega)
  rw [← hX]
  clear hX
  have x1:=Lib.hid ((hk5.out w.heap.size (by omega)).trans ((B1.out.block w.heap.size (by have:=z5'.out;omega)).trans z1'.out))
  have x2:=Lib.hid ((hk5.out (w.heap.size + 1) (by omega)).trans ((B1.out.block (w.heap.size + 1) (by have:=z5'.out;omega)).trans z2'.out))
  have OT:=Lib.hid (P4.OwnI.nil_ (w.heap.size + 1 + 1 + 1) X)
  have OQ:=Lib.hid (own_kept (w':=X) V1.out fun k h1 h2=>hk5.out k (by omega))
  have hcp:=Lib.hid (copied_any X s.pA s.pn s.pc o.path (ho'.out.below xw.out).path ho'.out.pnil ho'.out.pfew)
  unfold P4.NewRow at hcp
  have x1u:=x1.out
  have x3u:=x3.out
  obtain ⟨o0,o1,o2,o3,o4,o5,o6,o7,o8,o9,o10⟩:=op_cells x1u
  obtain ⟨p0,p1,p2,p3,p4,p5,p6,p7,p8,p9,p10,pf⟩:=eleven_cells x3u
  clear x1u x3u
  go_upto_region 18 with (go_at_call 73;go_loud (refine hcp.out.mono ?_;rintro e w1 ⟨v1,rfl,hv1,hb1⟩;have V1:=Lib.hid hv1;have b1:=Lib.hid hb1;have y3:=(hb1.block (w.heap.size + 1 + 1) (by have:=xs.out;omega)).trans x3.out;have Y3:=Lib.hid y3;obtain ⟨A1,n1,c1,rfl,-⟩:=P4.OwnI.shape hv1;clear o0 o1 o2 o3 o4 o5 o6 o7 o8 o9 o10 p0 p1 p2 p3 p4 p5 p6 p7 p8 p9 p10 pf hv1 hb1;obtain ⟨p0,p1,p2,p3,p4,p5,p6,p7,p8,p9,p10,pf⟩:=eleven_cells y3;have hl3:w.heap.size + 1 + 1 < w1.heap.size:=(Array.getElem?_eq_some_iff.1 y3).1;clear y3))
  clear p0 p1 p2 p3 p4 p5 p6 p7 p8 p9 p10 pf hcp
  obtain ⟨W5,hW5⟩:∃ W5,W5 = w1.setCell ⟨w.heap.size + 1 + 1,1,none⟩ (.slice A1 n1 c1):=⟨_,rfl⟩
  have r3:W5.heap[w.heap.size + 1 + 1]? = some (.cells #[.int .u8 6,.slice A1 n1 c1,.int .i64 0,.slice none 0 0,.int .u64 0,.bool false,.string ⟨#[]⟩,.string ⟨#[]⟩,.string ⟨#[]⟩,.bool false,.slice A6 n6 c6] 26 (0,0)):=by rw [hW5,heap_setCell_same w1 _ 1 _ _ _ Y3.out];simp
  have h5:=Lib.hid (show ∀ k,k ≠ w.heap.size + 1 + 1→W5.heap[k]? = w1.heap[k]? by intro k hk;rw [hW5];exact heap_setCell_other _ _ k _ hk)
  have w5b:=Lib.hid (show Below w.heap.size w W5 by rw [hW5];exact (xw.out.trans (b1.out.mono xw.out.size)).setCell (p:=⟨w.heap.size + 1 + 1,1,none⟩) (by show w.heap.size≤w.heap.size + 1 + 1;omega) _)
  have w5s:=Lib.hid (show W5.heap.size = w1.heap.size by rw [hW5];simp)
  rw [← hW5]
  clear hW5
  have r2:=(h5.out (w.heap.size + 1) (by omega)).trans ((b1.out.block (w.heap.size + 1) (by have:=xs.out;omega)).trans x2.out)
  unfold zero11 at r2
  have r2h:=Lib.hid r2
  obtain ⟨p0,p1,p2,p3,p4,p5,p6,p7,p8,p9,p10,pf⟩:=eleven_cells r3
  obtain ⟨q0,q1,q2,q3,q4,q5,q6,q7,q8,q9,q10,qf⟩:=eleven_cells r2
  have hl2:w.heap.size + 1 < W5.heap.size:=(Array.getElem?_eq_some_iff.1 r2).1
  clear r2 r3
  go_wp2_with fail
  obtain ⟨W9,hW9,R9,B9,Z9,K9⟩:=end_op (o:=(⟨6,o.path,0,[],0,false,[],[],[],false,o.pieces⟩:Ov)) (s:=⟨A1,n1,c1,none,0,0,A6,n6,c6⟩) (r:=w.heap.size + 1) (by omega) w5b.out r2h.out
  have hW9':W9 = (((((((((((W5.setCell ⟨w.heap.size + 1,0,none⟩ (.int .u8 6)).setCell ⟨w.heap.size + 1,1,none⟩ (.slice A1 n1 c1)).setCell ⟨w.heap.size + 1,2,none⟩ (.int .i64 0)).setCell ⟨w.heap.size + 1,3,none⟩ (.slice none 0 0)).setCell ⟨w.heap.size + 1,4,none⟩ (.int .u64 0)).setCell ⟨w.heap.size + 1,5,none⟩ (.bool false)).setCell ⟨w.heap.size + 1,6,none⟩ (.string ⟨#[]⟩)).setCell ⟨w.heap.size + 1,7,none⟩ (.string ⟨#[]⟩)).setCell ⟨w.heap.size + 1,8,none⟩ (.string ⟨#[]⟩)).setCell ⟨w.heap.size + 1,9,none⟩ (.bool false)).setCell ⟨w.heap.size + 1,10,none⟩ (.slice A6 n6 c6)):=hW9
  rw [← hW9']
  clear hW9' hW9
  unfold opCells at R9
  obtain ⟨d0,d1,d2,d3,d4,d5,d6,d7,d8,d9,d10,df⟩:=eleven_cells R9
  refine bodyPost_ret (v:=.agg (opCells (⟨6,o.path,0,[],0,false,[],[],[],false,o.pieces⟩:Ov) ⟨A1,n1,c1,none,0,0,A6,n6,c6⟩)) (by simp [results,Try.results28,go_sem,d0,d1,d2,d3,d4,d5,d6,d7,d8,d9,d10,opCells]) rfl ?_
  have kk:∀ k,w.heap.size + 1 + 1 + 1≤k→W9.heap[k]? = w1.heap[k]?:=fun k hk=>(K9 k (by omega)).trans (h5.out k (by omega))
  rw [show bareV o = (⟨6,o.path,0,[],0,false,[],[],[],false,o.pieces⟩:Ov) by unfold bareV;simp [hk]]
  refine ⟨_,rfl,⟨own_mono (own_kept V1.out fun k h1 h2=>kk k (Nat.le_trans xs.out h1)) (Nat.le_trans (by omega) xs.out),own_mono (own_kept OT.out fun k h1 h2=>(kk k h1).trans (b1.out.block k h2)) (by omega),own_mono (own_kept OQ.out fun k h1 h2=>(kk k h1).trans (b1.out.block k h2)) (by omega)⟩,B9⟩
set_option maxHeartbeats 4000000 in
theorem bare_k3 (w:World) (o:Ov) (s:OS) (ho:OpIn w o s) (hk:o.kind = 3):Calls Try.prog 28 #[.agg (opCells o s)] w (BareA w (bareV o)):=by
  obtain ⟨z1,z2,z3,z4,z5⟩:=three_new w (.cells (opCells o s) 26) (.cells zero11 26) (.cells #[.int .u8 3,.slice none 0 0,.int .i64 0,.slice none 0 0,.int .u64 0,.bool false,.string ⟨#[]⟩,.string ⟨#[]⟩,.string ⟨#[]⟩,.bool false,.slice none 0 0] 26)
  obtain ⟨W3,hW3⟩:∃ W3,W3 = ((w.alloc (.cells (opCells o s) 26)).alloc (.cells zero11 26)).alloc (.cells #[.int .u8 3,.slice none 0 0,.int .i64 0,.slice none 0 0,.int .u64 0,.bool false,.string ⟨#[]⟩,.string ⟨#[]⟩,.string ⟨#[]⟩,.bool false,.slice none 0 0] 26):=⟨_,rfl⟩
  rw [← hW3] at z1 z2 z3 z4 z5
  have hkI:=Lib.hid (show (o.kind:Int) = 3 by omega)
  have ho':=Lib.hid ho
  unfold opCells zero11 at hW3
  unfold opCells
  rw [hkI.out] at hW3 ⊢
  have z1':=Lib.hid z1
  have z2':=Lib.hid z2
  have z3':=Lib.hid z3
  have z4':=Lib.hid z4
  have z5':=Lib.hid z5
  clear ho z1 z2 z3 z4 z5
  go_enter Try.func28,Try.ntmps28
  have hcp:=Lib.hid (fun (W:World) (hb:Below w.heap.size w W)=>copied_any W s.tA s.tn s.tc o.to_ (ho'.out.below hb).to_ ho'.out.tnil ho'.out.tfew)
  unfold P4.NewRow at hcp
  go_upto_region 8 with fail
  rw [← hW3]
  clear hW3
  rename_i K0 hK0
  refine Top.wp_region_L (fun W=>Below w.heap.size w W∧W.heap[w.heap.size]? = some (.cells (opCells o s) 26 (0,0))) 8 rfl (⟨z4'.out.drew,z1'.out⟩) (fun hHeld=>?_)
  refine Top.wpAnyL_take (i:=0) (oi:={ dst:=some 28,op:=Go.Op.fieldAddr 26 (Go.Operand.tmp 1) 3,type:=0,pos:="treeops.go:82",after:=#[],guard:=none }) (v:=?_) rfl (by kernel_rfl) (by kernel_rfl) (by kernel_rfl) (by kernel_rfl) (fun _ _ _ h=>h) (Or.inl ⟨by rfl,?_⟩) hHeld ?_
  rotate_left 1
  · intro W hSw;obtain ⟨o0,o1,o2,o3,o4,o5,o6,o7,o8,o9,o10⟩:=op_cells hSw.2;go_simp;try with_reducible rfl
  try simp only [Act.put,List.setIfInBounds_toArray,List.set_cons_zero,List.set_cons_succ]
  refine Top.wpAnyL_take (i:=1) (oi:={ dst:=some 29,op:=Go.Op.load 22 (Go.Operand.tmp 28),type:=22,pos:="treeops.go:82",after:=#[{ on:=0,ground:=Go.Ground.data }],guard:=none }) (v:=?_) rfl (by kernel_rfl) (by kernel_rfl) (by kernel_rfl) (by kernel_rfl) (fun _ _ _ h=>h) (Or.inl ⟨by rfl,?_⟩) hHeld ?_
  rotate_left 1
  · intro W hSw;obtain ⟨o0,o1,o2,o3,o4,o5,o6,o7,o8,o9,o10⟩:=op_cells hSw.2;go_simp;try with_reducible rfl
  try simp only [Act.put,List.setIfInBounds_toArray,List.set_cons_zero,List.set_cons_succ]
  refine Top.wpAnyL_take (i:=3) (oi:={ dst:=some 31,op:=Go.Op.fieldAddr 26 (Go.Operand.tmp 1) 2,type:=0,pos:="treeops.go:82",after:=#[{ on:=6,ground:=Go.Ground.gcOnly Go.Departure.lateStores }],guard:=none }) (v:=?_) rfl (by kernel_rfl) (by kernel_rfl) (by kernel_rfl) (by kernel_rfl) (fun _ _ _ h=>h) (Or.inl ⟨by rfl,?_⟩) hHeld ?_
  rotate_left 1
  · intro W hSw;obtain ⟨o0,o1,o2,o3,o4,o5,o6,o7,o8,o9,o10⟩:=op_cells hSw.2;go_simp;try with_reducible rfl
  try simp only [Act.put,List.setIfInBounds_toArray,List.set_cons_zero,List.set_cons_succ]
  refine Top.wpAnyL_take (i:=4) (oi:={ dst:=some 32,op:=Go.Op.load 3 (Go.Operand.tmp 31),type:=3,pos:="treeops.go:82",after:=#[{ on:=3,ground:=Go.Ground.data },{ on:=6,ground:=Go.Ground.gcOnly Go.Departure.lateStores }],guard:=none }) (v:=?_) rfl (by kernel_rfl) (by kernel_rfl) (by kernel_rfl) (by kernel_rfl) (fun _ _ _ h=>h) (Or.inl ⟨by rfl,?_⟩) hHeld ?_
  rotate_left 1
  · intro W hSw;obtain ⟨o0,o1,o2,o3,o4,o5,o6,o7,o8,o9,o10⟩:=op_cells hSw.2;go_simp;try with_reducible rfl
  try simp only [Act.put,List.setIfInBounds_toArray,List.set_cons_zero,List.set_cons_succ]
  obtain ⟨Xd,hXd⟩:∃ X,X = W3.drew:=⟨_,rfl⟩
  have bd:=Lib.hid (show Below W3.heap.size W3 Xd by rw [hXd];exact (Below.refl _ _).drew)
  rw [← hXd] at hHeld ⊢
  clear hXd
  refine Top.wpAnyL_one (i:=2) (o:={ dst:=some 30,op:=Go.Op.call { callee:=Go.Callee.value (Go.Operand.func 73),args:=#[Go.Operand.tmp 29],argTypes:=#[22] },type:=22,pos:="treeops.go:82",after:=#[{ on:=1,ground:=Go.Ground.data }],guard:=none }) (by kernel_rfl) rfl (by decide) (fun K hK=>?_)
  go_simp
  refine (hcp.out Xd hHeld.1).mono ?_
  rintro e w1 ⟨v1,rfl,ho1,hb1⟩
  have B1:=Lib.hid (bd.out.trans (hb1.mono bd.out.size))
  have V1:=Lib.hid (own_mono (base':=w.heap.size + 1 + 1 + 1) ho1 (by have:=bd.out.size;have:=z5'.out;omega))
  obtain ⟨A6,n6,c6,rfl,-⟩:=P4.OwnI.shape ho1
  have y3:=(B1.out.block (w.heap.size + 1 + 1) (by have:=z5'.out;omega)).trans z3'.out
  have Y3:=Lib.hid y3
  have nW1:=(⟨z4'.out.trans (B1.out.mono z4'.out.size),(B1.out.block w.heap.size (by have:=z5'.out;omega)).trans z1'.out⟩:Below w.heap.size w w1∧w1.heap[w.heap.size]? = some (.cells (opCells o s) 26 (0,0)))
  have NW1:=Lib.hid nW1
  go_simp
  refine hK.out _ _ nW1 (fun hNew=>?_)
  clear hK K hHeld ho1 hb1 nW1
  have hHeld:=hNew
  clear hNew
  try simp only [Act.put,List.setIfInBounds_toArray,List.set_cons_zero,List.set_cons_succ]
  refine Top.wpAnyL_take (i:=5) (oi:={ dst:=some 33,op:=Go.Op.fieldAddr 26 (Go.Operand.tmp 3) 3,type:=0,pos:="treeops.go:82",after:=#[{ on:=0,ground:=Go.Ground.phase },{ on:=1,ground:=Go.Ground.phase },{ on:=2,ground:=Go.Ground.phase },{ on:=3,ground:=Go.Ground.textOnly Go.Departure.lateStores },{ on:=4,ground:=Go.Ground.textOnly Go.Departure.lateStores }],guard:=none }) (v:=?_) rfl (by kernel_rfl) (by kernel_rfl) (by kernel_rfl) (by kernel_rfl) (fun _ _ _ h=>h) (Or.inl ⟨by rfl,?_⟩) hHeld ?_
  rotate_left 1
  · intro W hSw;go_simp;try with_reducible rfl
  try simp only [Act.put,List.setIfInBounds_toArray,List.set_cons_zero,List.set_cons_succ]
  obtain ⟨p0,p1,p2,p3,p4,p5,p6,p7,p8,p9,p10,pf⟩:=eleven_cells y3
  have hl3:w.heap.size + 1 + 1 < w1.heap.size:=(Array.getElem?_eq_some_iff.1 y3).1
  clear y3
  refine Top.wpAnyL_one (i:=6) (o:={ dst:=none,op:=Go.Op.store 22 (Go.Operand.tmp 33) (Go.Operand.tmp 30),type:=0,pos:="treeops.go:82",after:=#[{ on:=5,ground:=Go.Ground.data },{ on:=2,ground:=Go.Ground.data },{ on:=2,ground:=Go.Ground.chain },{ on:=0,ground:=Go.Ground.phase },{ on:=1,ground:=Go.Ground.phase },{ on:=2,ground:=Go.Ground.phase },{ on:=3,ground:=Go.Ground.textOnly Go.Departure.lateStores },{ on:=4,ground:=Go.Ground.textOnly Go.Departure.lateStores }],guard:=none }) (by kernel_rfl) rfl (by decide) (fun K hK=>?_)
  go_simp
  obtain ⟨Xa,hXa⟩:∃ X,X = w1.setCell ⟨w.heap.size + 1 + 1,3,none⟩ (.slice A6 n6 c6):=⟨_,rfl⟩
  have x3a:Xa.heap[w.heap.size + 1 + 1]? = some (.cells #[.int .u8 3,.slice none 0 0,.int .i64 0,.slice A6 n6 c6,.int .u64 0,.bool false,.string ⟨#[]⟩,.string ⟨#[]⟩,.string ⟨#[]⟩,.bool false,.slice none 0 0] 26 (0,0)):=by rw [hXa,heap_setCell_same w1 _ 3 _ _ _ Y3.out];simp
  have X3a:=Lib.hid x3a
  have hka:=Lib.hid (show ∀ k,k ≠ w.heap.size + 1 + 1→Xa.heap[k]? = w1.heap[k]? by intro k hk;rw [hXa];exact heap_setCell_other _ _ k _ hk)
  have xwa:=Lib.hid (show Below w.heap.size w Xa by rw [hXa];exact NW1.out.1.setCell (p:=⟨w.heap.size + 1 + 1,3,none⟩) (by show w.heap.size≤w.heap.size + 1 + 1;omega) _)
  have xsa:=Lib.hid (show Xa.heap.size = w1.heap.size by rw [hXa];simp)
  rw [← hXa]
  clear hXa
  refine hK.out _ _ ⟨xwa.out,(hka.out w.heap.size (by omega)).trans NW1.out.2⟩ (fun hNew=>?_)
  clear hK K hHeld p0 p1 p2 p3 p4 p5 p6 p7 p8 p9 p10 pf hl3
  have hHeld:=hNew
  clear hNew
  try simp only [Act.put,List.setIfInBounds_toArray,List.set_cons_zero,List.set_cons_succ]
  obtain ⟨p0,p1,p2,p3,p4,p5,p6,p7,p8,p9,p10,pf⟩:=eleven_cells x3a
  have hl3:w.heap.size + 1 + 1 < Xa.heap.size:=(Array.getElem?_eq_some_iff.1 x3a).1
  clear x3a
  refine Top.wpAnyL_take (i:=7) (oi:={ dst:=some 34,op:=Go.Op.fieldAddr 26 (Go.Operand.tmp 3) 2,type:=0,pos:="treeops.go:82",after:=#[{ on:=0,ground:=Go.Ground.phase },{ on:=1,ground:=Go.Ground.phase },{ on:=2,ground:=Go.Ground.phase },{ on:=3,ground:=Go.Ground.phase },{ on:=4,ground:=Go.Ground.phase },{ on:=5,ground:=Go.Ground.phase },{ on:=6,ground:=Go.Ground.phase }],guard:=none }) (v:=?_) rfl (by kernel_rfl) (by kernel_rfl) (by kernel_rfl) (by kernel_rfl) (fun _ _ _ h=>h) (Or.inl ⟨by rfl,?_⟩) hHeld ?_
  rotate_left 1
  · intro W hSw;go_simp;try with_reducible rfl
  try simp only [Act.put,List.setIfInBounds_toArray,List.set_cons_zero,List.set_cons_succ]
  refine Top.wpAnyL_last (o:={ dst:=none,op:=Go.Op.store 3 (Go.Operand.tmp 34) (Go.Operand.tmp 32),type:=0,pos:="treeops.go:82",after:=#[{ on:=7,ground:=Go.Ground.data },{ on:=4,ground:=Go.Ground.data },{ on:=6,ground:=Go.Ground.chain },{ on:=0,ground:=Go.Ground.phase },{ on:=1,ground:=Go.Ground.phase },{ on:=2,ground:=Go.Ground.phase },{ on:=3,ground:=Go.Ground.phase },{ on:=4,ground:=Go.Ground.phase },{ on:=5,ground:=Go.Ground.phase },{ on:=6,ground:=Go.Ground.phase }],guard:=none }) (by kernel_rfl) rfl (fun K hK=>?_)
  go_simp
  refine hK _ _ ?_
  clear hK K
  try simp only [Act.put,List.setIfInBounds_toArray,List.set_cons_zero,List.set_cons_succ]
  refine wpAny_done (by kernel_rfl) ?_ _
  refine hK0 _ _ ?_
  clear hK0
  clear p0 p1 p2 p3 p4 p5 p6 p7 p8 p9 p10 pf
  obtain ⟨X,hX⟩:∃ X,X = Xa.setCell ⟨w.heap.size + 1 + 1,2,none⟩ (.int .i64 o.at_):=⟨_,rfl⟩
  have x3:=Lib.hid (show X.heap[w.heap.size + 1 + 1]? = some (.cells #[.int .u8 3,.slice none 0 0,.int .i64 o.at_,.slice A6 n6 c6,.int .u64 0,.bool false,.string ⟨#[]⟩,.string ⟨#[]⟩,.string ⟨#[]⟩,.bool false,.slice none 0 0] 26 (0,0)) by rw [hX,heap_setCell_same Xa _ 2 _ _ _ X3a.out];simp)
  have hk5:=Lib.hid (show ∀ k,k ≠ w.heap.size + 1 + 1→X.heap[k]? = w1.heap[k]? by intro k hk;rw [hX];exact (heap_setCell_other _ _ k _ hk).trans (hka.out k hk))
  have xw:=Lib.hid (show Below w.heap.size w X by rw [hX];exact xwa.out.setCell (p:=⟨w.heap.size + 1 + 1,2,none⟩) (by show w.heap.size≤w.heap.size + 1 + 1;omega) _)
  have xs:=Lib.hid (show w.heap.size + 1 + 1 + 1≤X.heap.size by rw [hX];simp;have:=z5'.out;have:=B1.out.size;have:=xsa.out;omega)
  rw [← hX]
  clear hX
  have x1:=Lib.hid ((hk5.out w.heap.size (by omega)).trans NW1.out.2)
  have x2:=Lib.hid ((hk5.out (w.heap.size + 1) (by omega)).trans ((B1.out.block (w.heap.size + 1) (by have:=z5'.out;omega)).trans z2'.out))
  have OT:=Lib.hid (own_kept (w':=X) V1.out fun k h1 h2=>hk5.out k (by omega))
  have OQ:=Lib.hid (OwnQ.nil_ (w.heap.size + 1 + 1 + 1) X)
  clear hcp
  have hcp:=Lib.hid (copied_any X s.pA s.pn s.pc o.path (ho'.out.below xw.out).path ho'.out.pnil ho'.out.pfew)
  unfold P4.NewRow at hcp
  have x1u:=x1.out
  have x3u:=x3.out
  obtain ⟨o0,o1,o2,o3,o4,o5,o6,o7,o8,o9,o10⟩:=op_cells x1u
  obtain ⟨p0,p1,p2,p3,p4,p5,p6,p7,p8,p9,p10,pf⟩:=eleven_cells x3u
  clear x1u x3u
  go_upto_region 18 with (go_at_call 73;go_loud (refine hcp.out.mono ?_;rintro e w1 ⟨v1,rfl,hv1,hb1⟩;have V1:=Lib.hid hv1;have b1:=Lib.hid hb1;have y3:=(hb1.block (w.heap.size + 1 + 1) (by have:=xs.out;omega)).trans x3.out;have Y3:=Lib.hid y3;obtain ⟨A1,n1,c1,rfl,-⟩:=P4.OwnI.shape hv1;clear o0 o1 o2 o3 o4 o5 o6 o7 o8 o9 o10 p0 p1 p2 p3 p4 p5 p6 p7 p8 p9 p10 pf hv1 hb1;obtain ⟨p0,p1,p2,p3,p4,p5,p6,p7,p8,p9,p10,pf⟩:=eleven_cells y3;have hl3:w.heap.size + 1 + 1 < w1.heap.size:=(Array.getElem?_eq_some_iff.1 y3).1;clear y3))
  clear p0 p1 p2 p3 p4 p5 p6 p7 p8 p9 p10 pf hcp
  obtain ⟨W5,hW5⟩:∃ W5,W5 = w1.setCell ⟨w.heap.size + 1 + 1,1,none⟩ (.slice A1 n1 c1):=⟨_,rfl⟩
  have r3:W5.heap[w.heap.size + 1 + 1]? = some (.cells #[.int .u8 3,.slice A1 n1 c1,.int .i64 o.at_,.slice A6 n6 c6,.int .u64 0,.bool false,.string ⟨#[]⟩,.string ⟨#[]⟩,.string ⟨#[]⟩,.bool false,.slice none 0 0] 26 (0,0)):=by rw [hW5,heap_setCell_same w1 _ 1 _ _ _ Y3.out];simp
  have h5:=Lib.hid (show ∀ k,k ≠ w.heap.size + 1 + 1→W5.heap[k]? = w1.heap[k]? by intro k hk;rw [hW5];exact heap_setCell_other _ _ k _ hk)
  have w5b:=Lib.hid (show Below w.heap.size w W5 by rw [hW5];exact (xw.out.trans (b1.out.mono xw.out.size)).setCell (p:=⟨w.heap.size + 1 + 1,1,none⟩) (by show w.heap.size≤w.heap.size + 1 + 1;omega) _)
  have w5s:=Lib.hid (show W5.heap.size = w1.heap.size by rw [hW5];simp)
  rw [← hW5]
  clear hW5
  have r2:=(h5.out (w.heap.size + 1) (by omega)).trans ((b1.out.block (w.heap.size + 1) (by have:=xs.out;omega)).trans x2.out)
  unfold zero11 at r2
  have r2h:=Lib.hid r2
  obtain ⟨p0,p1,p2,p3,p4,p5,p6,p7,p8,p9,p10,pf⟩:=eleven_cells r3
  obtain ⟨q0,q1,q2,q3,q4,q5,q6,q7,q8,q9,q10,qf⟩:=eleven_cells r2
  have hl2:w.heap.size + 1 < W5.heap.size:=(Array.getElem?_eq_some_iff.1 r2).1
  clear r2 r3
  go_wp2_with fail
  obtain ⟨W9,hW9,R9,B9,Z9,K9⟩:=end_op (o:=(⟨3,o.path,o.at_,o.to_,0,false,[],[],[],false,[]⟩:Ov)) (s:=⟨A1,n1,c1,A6,n6,c6,none,0,0⟩) (r:=w.heap.size + 1) (by omega) w5b.out r2h.out
  have hW9':W9 = (((((((((((W5.setCell ⟨w.heap.size + 1,0,none⟩ (.int .u8 3)).setCell ⟨w.heap.size + 1,1,none⟩ (.slice A1 n1 c1)).setCell ⟨w.heap.size + 1,2,none⟩ (.int .i64 o.at_)).setCell ⟨w.heap.size + 1,3,none⟩ (.slice A6 n6 c6)).setCell ⟨w.heap.size + 1,4,none⟩ (.int .u64 0)).setCell ⟨w.heap.size + 1,5,none⟩ (.bool false)).setCell ⟨w.heap.size + 1,6,none⟩ (.string ⟨#[]⟩)).setCell ⟨w.heap.size + 1,7,none⟩ (.string ⟨#[]⟩)).setCell ⟨w.heap.size + 1,8,none⟩ (.string ⟨#[]⟩)).setCell ⟨w.heap.size + 1,9,none⟩ (.bool false)).setCell ⟨w.heap.size + 1,10,none⟩ (.slice none 0 0)):=hW9
  rw [← hW9']
  clear hW9' hW9
  unfold opCells at R9
  obtain ⟨d0,d1,d2,d3,d4,d5,d6,d7,d8,d9,d10,df⟩:=eleven_cells R9
  refine bodyPost_ret (v:=.agg (opCells (⟨3,o.path,o.at_,o.to_,0,false,[],[],[],false,[]⟩:Ov) ⟨A1,n1,c1,A6,n6,c6,none,0,0⟩)) (by simp [results,Try.results28,go_sem,d0,d1,d2,d3,d4,d5,d6,d7,d8,d9,d10,opCells]) rfl ?_
  have kk:∀ k,w.heap.size + 1 + 1 + 1≤k→W9.heap[k]? = w1.heap[k]?:=fun k hk=>(K9 k (by omega)).trans (h5.out k (by omega))
  rw [show bareV o = (⟨3,o.path,o.at_,o.to_,0,false,[],[],[],false,[]⟩:Ov) by unfold bareV;simp [hk]]
  refine ⟨_,rfl,⟨own_mono (own_kept V1.out fun k h1 h2=>kk k (Nat.le_trans xs.out h1)) (Nat.le_trans (by omega) xs.out),own_mono (own_kept OT.out fun k h1 h2=>(kk k h1).trans (b1.out.block k h2)) (by omega),own_mono (own_kept OQ.out fun k h1 h2=>(kk k h1).trans (b1.out.block k h2)) (by omega)⟩,B9⟩
set_option maxHeartbeats 4000000 in
theorem bare_no (w:World) (o:Ov) (s:OS) (ho:OpIn w o s) (hk:¬ (1≤o.kind∧o.kind≤6)):Calls Try.prog 28 #[.agg (opCells o s)] w (BareA w (bareV o)):=by
  obtain ⟨z1,z2,z3,z4,z5⟩:=three_new w (.cells (opCells o s) 26) (.cells zero11 26) (.cells #[.int .u8 (o.kind:Int),.slice none 0 0,.int .i64 0,.slice none 0 0,.int .u64 0,.bool false,.string ⟨#[]⟩,.string ⟨#[]⟩,.string ⟨#[]⟩,.bool false,.slice none 0 0] 26)
  obtain ⟨W3,hW3⟩:∃ W3,W3 = ((w.alloc (.cells (opCells o s) 26)).alloc (.cells zero11 26)).alloc (.cells #[.int .u8 (o.kind:Int),.slice none 0 0,.int .i64 0,.slice none 0 0,.int .u64 0,.bool false,.string ⟨#[]⟩,.string ⟨#[]⟩,.string ⟨#[]⟩,.bool false,.slice none 0 0] 26):=⟨_,rfl⟩
  rw [← hW3] at z1 z2 z3 z4 z5
  have e1:((o.kind:Int) == 1) = false:=by simp;omega
  have e2:((o.kind:Int) == 2) = false:=by simp;omega
  have e3:((o.kind:Int) == 3) = false:=by simp;omega
  have e4:((o.kind:Int) == 4) = false:=by simp;omega
  have e5:((o.kind:Int) == 5) = false:=by simp;omega
  have e6:((o.kind:Int) == 6) = false:=by simp;omega
  unfold opCells zero11 at hW3
  unfold opCells
  have z2':=Lib.hid z2
  have z3':=Lib.hid z3
  have z4':=Lib.hid z4
  have z5':=Lib.hid z5
  have hk':=Lib.hid hk
  clear ho z1 z2 z3 z4 z5 hk
  go_enter Try.func28,Try.ntmps28
  go_upto_region 3 with fail
  rw [← hW3]
  clear hW3
  have r2:=z2'.out
  unfold zero11 at r2
  obtain ⟨q0,q1,q2,q3,q4,q5,q6,q7,q8,q9,q10,qf⟩:=eleven_cells r2
  obtain ⟨p0,p1,p2,p3,p4,p5,p6,p7,p8,p9,p10,pf⟩:=eleven_cells z3'.out
  have hl2:w.heap.size + 1 < W3.heap.size:=(Array.getElem?_eq_some_iff.1 r2).1
  clear r2
  go_wp2_with fail
  have r2h:=z2'.out
  unfold zero11 at r2h
  obtain ⟨W9,hW9,R9,B9,Z9,K9⟩:=end_op (o:=(⟨o.kind,[],0,[],0,false,[],[],[],false,[]⟩:Ov)) (s:=⟨none,0,0,none,0,0,none,0,0⟩) (r:=w.heap.size + 1) (by omega) z4'.out r2h
  have hW9':W9 = (((((((((((W3.setCell ⟨w.heap.size + 1,0,none⟩ (.int .u8 (o.kind:Int))).setCell ⟨w.heap.size + 1,1,none⟩ (.slice none 0 0)).setCell ⟨w.heap.size + 1,2,none⟩ (.int .i64 0)).setCell ⟨w.heap.size + 1,3,none⟩ (.slice none 0 0)).setCell ⟨w.heap.size + 1,4,none⟩ (.int .u64 0)).setCell ⟨w.heap.size + 1,5,none⟩ (.bool false)).setCell ⟨w.heap.size + 1,6,none⟩ (.string ⟨#[]⟩)).setCell ⟨w.heap.size + 1,7,none⟩ (.string ⟨#[]⟩)).setCell ⟨w.heap.size + 1,8,none⟩ (.string ⟨#[]⟩)).setCell ⟨w.heap.size + 1,9,none⟩ (.bool false)).setCell ⟨w.heap.size + 1,10,none⟩ (.slice none 0 0)):=hW9
  rw [← hW9']
  clear hW9' hW9
  unfold opCells at R9
  obtain ⟨d0,d1,d2,d3,d4,d5,d6,d7,d8,d9,d10,df⟩:=eleven_cells R9
  refine bodyPost_ret (v:=.agg (opCells (⟨o.kind,[],0,[],0,false,[],[],[],false,[]⟩:Ov) ⟨none,0,0,none,0,0,none,0,0⟩)) (by simp [results,Try.results28,go_sem,d0,d1,d2,d3,d4,d5,d6,d7,d8,d9,d10,opCells]) rfl ?_
  have hv:bareV o = (⟨o.kind,[],0,[],0,false,[],[],[],false,[]⟩:Ov):=by
    have h1:=hk'.out
    have h2:¬ (o.kind = 1∨o.kind = 3):=by omega
    have h3:¬ (o.kind = 1∨o.kind = 5):=by omega
    have h4:¬ (o.kind = 4∧o.gone = false):=fun h=>by omega
    unfold bareV
    rw [if_neg h1,if_neg h2,if_neg h3,if_neg h4,if_neg (by omega),if_neg (by omega),if_neg (by omega),if_neg (by omega),if_neg (by omega),if_neg (by omega)]
  rw [hv]
  exact ⟨_,rfl,⟨P4.OwnI.nil_ _ _,P4.OwnI.nil_ _ _,OwnQ.nil_ _ _⟩,B9⟩
theorem bare_any (w:World) (o:Ov) (s:OS) (ho:OpIn w o s):Calls Try.prog 28 #[.agg (opCells o s)] w (BareA w (bareV o)):=by
  by_cases k1:o.kind = 1
  · exact bare_k1 w o s ho k1
  · by_cases k2:o.kind = 2
    · exact bare_k2 w o s ho k2
    · by_cases k3:o.kind = 3
      · exact bare_k3 w o s ho k3
      · by_cases k4:o.kind = 4
        · cases hg:o.gone with
          | true=>exact bare_k4g w o s ho k4 hg
          | false=>exact bare_k4 w o s ho k4 hg
        · by_cases k5:o.kind = 5
          · exact bare_k5 w o s ho k5
          · by_cases k6:o.kind = 6
            · exact bare_k6 w o s ho k6
            · exact bare_no w o s ho (by omega)
end Go.Proofs.Ytmipodnffhngaaa.Top
namespace Go.Proofs.Ytmipodnffhngaaa
open Go.RowKit
set_option maxRecDepth 20000
set_option linter.unusedVariables false

theorem at_after:∀ (from_ to_:List Int) (t x0 y:Nd) (at_:Nat),atV t from_ = some x0→atV t to_ = some y→from_ ≠ []→¬ from_ <+: to_→at_≤y.kids.length →
    ∃ m2 y',delAt t from_ = some m2∧atV m2 (progTo from_ to_ at_).1 = some y'∧(progTo from_ to_ at_).2≤y'.kids.length
  | [],to_,t,x0,y,at_,_,_,h,_,_=>absurd rfl h
  | [ci],[],t,x0,y,at_,h1,h2,_,_,h5=>by
    obtain ⟨c,k,rfl,hk,-⟩:=atV_cons h1
    have hc:c < t.kids.length:=(List.getElem?_eq_some_iff.1 hk).1
    simp only [atV,Option.some.injEq] at h2
    subst h2
    refine ⟨_,_,rfl,rfl,?_⟩
    simp only [progTo]
    rw [with_kids]
    have hd:=delK_len hc
    have e2:(c:Int).toNat = c:=by omega
    show (if (c:Int) < (at_:Int) then at_ - 1 else at_)≤(delK (c:Int).toNat t.kids).length
    rw [e2]
    split <;> omega
  | fi :: g :: r,[],t,x0,y,at_,h1,h2,_,_,h5=>by
    obtain ⟨f,k,rfl,hk,hx⟩:=atV_cons h1
    simp only [atV,Option.some.injEq] at h2
    subst h2
    obtain ⟨k',hk'⟩:∃ k',delAt k (g :: r) = some k':=by
      have:∀ (p:List Int) (k x0:Nd) (g:Int),atV k (g :: p) = some x0→∃ k',delAt k (g :: p) = some k':=by
        intro p
        induction p with
        | nil=>intro k x0 g h;exact ⟨_,rfl⟩
        | cons b p ih =>
          intro k x0 g h
          obtain ⟨j,z,rfl,hz,hw⟩:=atV_cons h
          obtain ⟨k',hk'⟩:=ih z x0 b hw
          rw [delAt_cons hz,hk']
          exact ⟨_,rfl⟩
      exact this r k x0 g hx
    refine ⟨_,_,by rw [delAt_cons hk,hk'];rfl,rfl,?_⟩
    simp only [progTo]
    rw [with_kids,List.length_set]
    exact h5
  | [ci],ei :: s,t,x0,y,at_,h1,h2,_,h4,h5=>by
    obtain ⟨c,k,rfl,hk,-⟩:=atV_cons h1
    obtain ⟨e,ke,rfl,hke,hy⟩:=atV_cons h2
    have hc:c < t.kids.length:=(List.getElem?_eq_some_iff.1 hk).1
    have he:e < t.kids.length:=(List.getElem?_eq_some_iff.1 hke).1
    have hne:e ≠ c:=fun h=>h4 (by subst h;exact ⟨s,rfl⟩)
    have hg:(t.withKids (delK c t.kids)).kids[if c < e then e - 1 else e]? = some ke:=by
      rw [with_kids,get_del hc]
      by_cases h:c < e
      · rw [if_pos h,if_neg (by omega),show e - 1 + 1 = e by omega];exact hke
      · rw [if_neg h,if_pos (by omega)];exact hke
    have e1:(if (c:Int) < (e:Int) then (e:Int) - 1 else (e:Int)) = ((if c < e then e - 1 else e:Nat):Int):=by split <;> split <;> omega
    refine ⟨_,y,rfl,?_,?_⟩
    · simp only [progTo]
      rw [e1]
      show atV (t.withKids (delK c t.kids)) _ = _
      rw [atV_nat hg]
      exact hy
    · simp only [progTo]
      exact h5
  | fi :: g :: r,ei :: s,t,x0,y,at_,h1,h2,_,h4,h5=>by
    obtain ⟨f,k,rfl,hk,hx⟩:=atV_cons h1
    obtain ⟨e,ke,rfl,hke,hy⟩:=atV_cons h2
    have hf:f < t.kids.length:=(List.getElem?_eq_some_iff.1 hk).1
    have he:e < t.kids.length:=(List.getElem?_eq_some_iff.1 hke).1
    by_cases hfe:f = e
    · subst hfe
      rw [hk] at hke
      injection hke with hke
      subst hke
      obtain ⟨m2,y',i1,i2,i3⟩:=at_after (g :: r) s k x0 y at_ hx hy (by simp) (fun h=>h4 (by obtain ⟨z,hz⟩:=h;exact ⟨z,by rw [List.cons_append,hz]⟩)) h5
      have g2:(t.withKids (t.kids.set f m2)).kids[f]? = some m2:=by rw [with_kids,List.getElem?_set_self hf]
      refine ⟨t.withKids (t.kids.set f m2),y',by rw [delAt_cons hk,i1];rfl,?_,?_⟩
      · simp only [progTo,if_true]
        rw [atV_nat g2]
        exact i2
      · simp only [progTo,if_true]
        exact i3
    · obtain ⟨k',hk'⟩:∃ k',delAt k (g :: r) = some k':=by
        have:∀ (p:List Int) (k x0:Nd) (g:Int),atV k (g :: p) = some x0→∃ k',delAt k (g :: p) = some k':=by
          intro p
          induction p with
          | nil=>intro k x0 g h;exact ⟨_,rfl⟩
          | cons b p ih =>
            intro k x0 g h
            obtain ⟨j,z,rfl,hz,hw⟩:=atV_cons h
            obtain ⟨k',hk'⟩:=ih z x0 b hw
            rw [delAt_cons hz,hk']
            exact ⟨_,rfl⟩
        exact this r k x0 g hx
      have g2:(t.withKids (t.kids.set f k')).kids[e]? = some ke:=by rw [with_kids,List.getElem?_set_ne hfe];exact hke
      refine ⟨t.withKids (t.kids.set f k'),y,by rw [delAt_cons hk,hk'];rfl,?_,?_⟩
      · simp only [progTo]
        rw [if_neg (by omega),atV_nat g2]
        exact hy
      · simp only [progTo]
        rw [if_neg (by omega)]
        exact h5
theorem progTo_same:∀ (q:List Int) (c:Int) (g:Nat),progTo (q ++ [c]) q g = (q,if c < (g:Int) then g - 1 else g)
  | [],c,g=>rfl
  | [a],c,g=>by simp [progTo]
  | a :: b :: r,c,g=>by
    have ih:=progTo_same (b :: r) c g
    rw [show (a :: b :: r) ++ [c] = a :: b :: (r ++ [c]) from rfl]
    simp only [progTo,if_true]
    rw [show b :: (r ++ [c]) = (b :: r) ++ [c] from rfl,ih]
theorem progTo_in:∀ (q:List Int) (c e:Int) (s:List Int) (g:Nat),progTo (q ++ [c]) (q ++ e :: s) g = (q ++ (if c < e then e - 1 else e) :: s,g)
  | [],c,e,s,g=>rfl
  | [a],c,e,s,g=>by simp [progTo]
  | a :: b :: r,c,e,s,g=>by
    have ih:=progTo_in (b :: r) c e s g
    rw [show (a :: b :: r) ++ [c] = a :: b :: (r ++ [c]) from rfl,show (a :: b :: r) ++ e :: s = a :: b :: (r ++ e :: s) from rfl]
    simp only [progTo,if_true]
    rw [show b :: (r ++ [c]) = (b :: r) ++ [c] from rfl,show b :: (r ++ e :: s) = (b :: r) ++ e :: s from rfl,ih]
    rfl
theorem progTo_out:∀ (q:List Int) (c:Int) (to_:List Int) (g:Nat),¬ q <+: to_→progTo (q ++ [c]) to_ g = (to_,g)
  | [],c,to_,g,h=>absurd (List.nil_prefix) h
  | [a],c,[],g,h=>rfl
  | a :: b :: r,c,[],g,h=>rfl
  | [a],c,e :: s,g,h=>by
    have hne:a ≠ e:=fun he=>h (by subst he;exact ⟨s,rfl⟩)
    show progTo [a,c] (e :: s) g = _
    simp only [progTo]
    rw [if_neg hne]
  | a :: b :: r,c,e :: s,g,h=>by
    rw [show (a :: b :: r) ++ [c] = a :: b :: (r ++ [c]) from rfl]
    simp only [progTo]
    by_cases he:a = e
    · subst he
      have hn:¬ (b :: r) <+: s:=fun h2=>h (by obtain ⟨z,hz⟩:=h2;exact ⟨z,by rw [List.cons_append,hz]⟩)
      have ih:=progTo_out (b :: r) c s g hn
      rw [if_pos rfl,show b :: (r ++ [c]) = (b :: r) ++ [c] from rfl,ih]
    · rw [if_neg he]
theorem common_pre:∀ (p q:List Int),P4.commonV p q = p.length ↔ p <+: q
  | [],q=>by simp [P4.commonV]
  | a :: p,[]=>by simp [P4.commonV]
  | a :: p,b :: q=>by
    have ih:=common_pre p q
    unfold P4.commonV
    by_cases h:a = b
    · subst h
      simp only [if_true,List.length_cons,List.cons_prefix_cons,true_and]
      constructor
      · intro h;exact ih.1 (by omega)
      · intro h;have:=ih.2 h;omega
    · simp [h]
theorem within_pre (p q:List Int):P4.withinV p q = decide (p <+: q):=by
  unfold P4.withinV
  exact decide_eq_decide.2 (common_pre p q)
end Go.Proofs.Ytmipodnffhngaaa
namespace Go.Proofs.Ytmipodnffhngaaa
open Go.RowKit
set_option maxRecDepth 20000
set_option linter.unusedVariables false

theorem u8_tri (a b:UInt8):a < b∨a = b∨b < a:=by
  rcases Nat.lt_trichotomy a.toNat b.toNat with h | h | h
  · exact .inl (UInt8.lt_iff_toNat_lt.2 h)
  · exact .inr (.inl (UInt8.toNat_inj.1 h))
  · exact .inr (.inr (UInt8.lt_iff_toNat_lt.2 h))
theorem less_cons (a b:UInt8) (x y:List UInt8):Op.bytesLess (a :: x) (b :: y) = true ↔ a < b∨(a = b∧Op.bytesLess x y = true):=by
  simp [Op.bytesLess]
theorem less_self:∀ a:Txt,Op.bytesLess a a = false
  | []=>rfl
  | x :: a=>by
    cases h:Op.bytesLess (x :: a) (x :: a) with
    | false=>rfl
    | true =>
      rcases (less_cons _ _ _ _).1 h with h | h
      · exact absurd (UInt8.lt_iff_toNat_lt.1 h) (by omega)
      · rw [less_self a] at h
        cases h.2
theorem less_trans:∀ a b c:Txt,Op.bytesLess a b = true→Op.bytesLess b c = true→Op.bytesLess a c = true
  | _,[],c,h1,_=>by simp [Op.bytesLess] at h1
  | a,y :: b,[],_,h2=>by simp [Op.bytesLess] at h2
  | [],y :: b,z :: c,_,_=>by simp [Op.bytesLess]
  | x :: a,y :: b,z :: c,h1,h2=>by
    rw [less_cons] at h1 h2 ⊢
    rcases h1 with h1 | h1
    · rcases h2 with h2 | h2
      · exact .inl (UInt8.lt_iff_toNat_lt.2 (Nat.lt_trans (UInt8.lt_iff_toNat_lt.1 h1) (UInt8.lt_iff_toNat_lt.1 h2)))
      · rw [← h2.1];exact .inl h1
    · rcases h2 with h2 | h2
      · rw [h1.1];exact .inl h2
      · exact .inr ⟨h1.1.trans h2.1,less_trans a b c h1.2 h2.2⟩
theorem less_tri:∀ a b:Txt,Op.bytesLess a b = true∨a = b∨Op.bytesLess b a = true
  | [],[]=>.inr (.inl rfl)
  | [],y :: b=>.inl (by simp [Op.bytesLess])
  | x :: a,[]=>.inr (.inr (by simp [Op.bytesLess]))
  | x :: a,y :: b=>by
    rw [less_cons,less_cons]
    rcases u8_tri x y with h | h | h
    · exact .inl (.inl h)
    · subst h
      rcases less_tri a b with h | h | h
      · exact .inl (.inr ⟨rfl,h⟩)
      · exact .inr (.inl (by rw [h]))
      · exact .inr (.inr (.inr ⟨rfl,h⟩))
    · exact .inr (.inr (.inl h))
theorem lt_iff (a b:Txt):ltB a b = true ↔ Op.bytesLess a b = true:=by
  unfold ltB
  simp only [Bool.not_eq_true',Bool.or_eq_false_iff,beq_eq_false_iff_ne]
  constructor
  · intro h
    rcases less_tri a b with h2 | h2 | h2
    · exact h2
    · exact absurd h2.symm h.2
    · rw [h2] at h;cases h.1
  · intro h
    constructor
    · cases h2:Op.bytesLess b a with
      | false=>rfl
      | true=>have:=less_trans a b a h h2;rw [less_self] at this;cases this
    · intro e;subst e;rw [less_self] at h;cases h
theorem lt_on {a b c:Txt} (h1:ltB a b = true) (h2:ltB b c = true):ltB a c = true:=(lt_iff _ _).2 (less_trans _ _ _ ((lt_iff _ _).1 h1) ((lt_iff _ _).1 h2))
theorem not_less {a k:Txt} (h:Op.bytesLess a k = false):a = k∨ltB k a = true:=by
  rcases less_tri a k with h2 | h2 | h2
  · rw [h] at h2;cases h2
  · exact .inl h2
  · exact .inr ((lt_iff _ _).2 h2)
def placeP (k:Txt) (l:List (Txt × Txt)):Nat:=l.countP fun a=>Op.bytesLess a.1 k
def progA (k v:Txt) (gone:Bool) (l:List (Txt × Txt)):List (Txt × Txt) :=
  l.take (placeP k l) ++ ((if gone then [] else [(k,v)]) ++ (if (l[placeP k l]?).map (·.1) = some k then l.drop (placeP k l + 1) else l.drop (placeP k l)))
def docA (k v:Txt):List (Txt × Txt)→Bool→List (Txt × Txt)
  | [],d=>if d then [] else [(k,v)]
  | a :: r,d=>(if !d && !Op.bytesLess a.1 k then [(k,v)] else []) ++ ((if a.1 = k then [] else [a]) ++ docA k v r (d || !Op.bytesLess a.1 k))
theorem ok_cons {last:Txt} {a:Txt × Txt} {r:List (Txt × Txt)}:attrsOk ltB last (a :: r) = true ↔ keyB a.1 = true∧ltB last a.1 = true∧a.2.length≤256∧attrsOk ltB a.1 r = true:=by
  simp [attrsOk,and_assoc]
theorem ok_over:∀ (r:List (Txt × Txt)) (last:Txt),attrsOk ltB last r = true→∀ b ∈ r,ltB last b.1 = true
  | [],last,_,b,hb=>by cases hb
  | a :: r,last,h,b,hb=>by
    obtain ⟨-,h2,-,h4⟩:=ok_cons.1 h
    cases hb with
    | head=>exact h2
    | tail _ hb=>exact lt_on h2 (ok_over r a.1 h4 b hb)
theorem over_place (k:Txt) (r:List (Txt × Txt)) (h:∀ b ∈ r,ltB k b.1 = true):placeP k r = 0:=by
  unfold placeP
  rw [List.countP_eq_zero]
  intro b hb
  have h2:=(lt_iff _ _).1 (h b hb)
  cases h3:Op.bytesLess b.1 k with
  | false=>decide
  | true=>have:=less_trans _ _ _ h2 h3;rw [less_self] at this;cases this
theorem over_doc (k v:Txt):∀ (r:List (Txt × Txt)),(∀ b ∈ r,ltB k b.1 = true)→docA k v r true = r
  | [],_=>rfl
  | a :: r,h=>by
    have h1:a.1 ≠ k:=fun e=>by have:=(lt_iff _ _).1 (h a (by simp));rw [e,less_self] at this;cases this
    show (if !true && _ then _ else _) ++ _ = _
    rw [if_neg (by simp),if_neg h1]
    show [a] ++ docA k v r (true || _) = _
    rw [Bool.true_or,over_doc k v r fun b hb=>h b (by simp [hb])]
    rfl
theorem attr_both (k v:Txt) (gone:Bool):∀ (l:List (Txt × Txt)) (last:Txt),attrsOk ltB last l = true→progA k v gone l = docA k v l gone
  | [],last,_=>by cases gone <;> rfl
  | a :: r,last,h=>by
    obtain ⟨h1,h2,h3,h4⟩:=ok_cons.1 h
    cases hl:Op.bytesLess a.1 k with
    | true =>
      have ih:=attr_both k v gone r a.1 h4
      have hp:placeP k (a :: r) = placeP k r + 1:=by unfold placeP;rw [List.countP_cons,if_pos hl]
      have hne:a.1 ≠ k:=fun e=>by rw [e,less_self] at hl;cases hl
      unfold progA at ih ⊢
      rw [hp,List.take_succ_cons,List.getElem?_cons_succ,List.drop_succ_cons,List.drop_succ_cons,List.cons_append,ih]
      show _ = (if !gone && !Op.bytesLess a.1 k then _ else _) ++ _
      rw [hl,if_neg (by simp),if_neg hne]
      simp
    | false =>
      have hov:∀ b ∈ r,ltB k b.1 = true:=fun b hb=>by
        have h5:=ok_over r a.1 h4 b hb
        rcases not_less hl with e | e
        · rw [← e];exact h5
        · exact lt_on e h5
      have hp:placeP k (a :: r) = 0:=by
        have:=over_place k r hov
        unfold placeP at this ⊢
        rw [List.countP_cons,this,if_neg (by rw [hl];decide)]
      unfold progA
      rw [hp]
      show [] ++ (_ ++ if (some a.1:Option Txt) = some k then r else a :: r) = (if !gone && !Op.bytesLess a.1 k then _ else _) ++ ((if a.1 = k then [] else [a]) ++ docA k v r (gone || !Op.bytesLess a.1 k))
      rw [hl]
      have hd:(gone || !false) = true:=by cases gone <;> rfl
      rw [hd,over_doc k v r hov]
      by_cases e:a.1 = k
      · have e3:(some a.1:Option Txt) = some k:=by rw [e]
        rw [if_pos e,if_pos e3]
        cases gone <;> rfl
      · have e3:¬ (some a.1:Option Txt) = some k:=fun h=>e (Option.some.inj h)
        rw [if_neg e,if_neg e3]
        cases gone <;> rfl
theorem doc_weigh (k v:Txt):∀ (l:List (Txt × Txt)) (gone:Bool),attrsW (docA k v l gone)≤attrsW l + (if gone then 0 else 1 + k.length + v.length)
  | [],gone=>by cases gone <;> simp [docA,attrsW]
  | a :: r,gone=>by
    have ih:=doc_weigh k v r (gone || !Op.bytesLess a.1 k)
    show attrsW (_ ++ (_ ++ _))≤_
    rw [attrsW_append,attrsW_append]
    have e1:attrsW (if a.1 = k then [] else [a])≤1 + a.1.length + a.2.length:=by split <;> simp [attrsW]
    have e2:attrsW (a :: r) = 1 + a.1.length + a.2.length + attrsW r:=by simp [attrsW]
    cases gone with
    | true =>
      simp only [Bool.not_true,Bool.false_and,Bool.true_or,if_true] at ih ⊢
      simp only [attrsW] at *
      simp only [Bool.false_eq_true,if_false,attrsW]
      omega
    | false =>
      cases hl:Op.bytesLess a.1 k with
      | true =>
        rw [hl] at ih
        simp only [Bool.not_true,Bool.and_false,Bool.or_false,Bool.false_eq_true,if_false,attrsW] at ih ⊢
        omega
      | false =>
        rw [hl] at ih
        simp only [Bool.not_false,Bool.and_true,Bool.false_or,if_true,Bool.false_eq_true,if_false,attrsW] at ih ⊢
        omega
end Go.Proofs.Ytmipodnffhngaaa
