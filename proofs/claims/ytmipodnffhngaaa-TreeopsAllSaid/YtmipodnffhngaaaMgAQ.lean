/- MgAQ: TopDg TopDh -/
import Derived.Test.YtmipodnffhngaaaMgAP
import Derived.Test.YtmipodnffhngaaaMgAN
set_option linter.all false
namespace Go.Proofs.Ytmipodnffhngaaa.Top
open Go.RowKit
set_option maxRecDepth 20000
set_option linter.unusedVariables false

set_option maxHeartbeats 8000000 in
theorem rapply_del (T:Nat→Prop) (w:World) (hT0:∀ k,T k→k < w.heap.size) (t x:Nd) (aA kA:Option Addr) (an ac kn kc:Nat) (h:NodeV T w aA an ac kA kn kc t) (o:Ov) (s:OS) (ho:OpIn w o s) (hs:Slim o) (hbig:weighV t≤40000) (hk:o.kind = 2) (hv:validV t o = 0) (hx:atV t o.path = some x) (q:List Int) (c:Nat) (hq:o.path = q ++ [(c:Int)]) :
    Calls Try.prog 23 #[.agg (val6 t aA an ac kA kn kc),.agg (opCells o s)] w (AppA T w ((delAt t o.path).getD Nd.zero) 0):=by
  obtain ⟨z1,z2,z3,z4,z5⟩:=three_new w (.cells (val6 t aA an ac kA kn kc) 33) (.cells (opCells o s) 26) (.cells zero6 33)
  obtain ⟨W3,hW3⟩:∃ W3,W3 = ((w.alloc (.cells (val6 t aA an ac kA kn kc) 33)).alloc (.cells (opCells o s) 26)).alloc (.cells zero6 33):=⟨_,rfl⟩
  rw [← hW3] at z1 z2 z3 z4 z5
  have hkI:=Lib.hid (show (o.kind:Int) = 2 by omega)
  have hh:=Lib.hid (fun (W:World) (hb:Below w.heap.size w W)=>h.kept (w':=W) (T':=T) (fun _ h=>h) fun k hk=>hb.block k (hT0 k hk))
  have hop:=Lib.hid (fun (W:World) (hb:Below w.heap.size w W)=>ho.below hb)
  have hTW:=Lib.hid (fun (W:World) (hb:Below w.heap.size w W) k (hk:T k)=>show k < W.heap.size from Nat.lt_of_lt_of_le (hT0 k hk) hb.size)
  have hval:=Lib.hid (rvalid_any W3 t aA kA an ac kn kc o s ((h.kept (T':=Old w) (fun k hk=>hT0 k hk) (fun _ _=>rfl)).below z4) (ho.below z4) (by omega))
  rw [hv] at hval
  have hat1:=Lib.hid (fun (W:World) (hb:Below w.heap.size w W)=>rat_T T W (hTW.out W hb) t aA kA an ac kn kc (hh.out W hb) s.pA s.pn s.pc o.path (hop.out W hb).path (Nat.le_trans ho.pnc ho.pcm))
  unfold RAtAns at hat1
  rw [hx] at hat1
  simp only [Option.getD_some,Option.isSome_some] at hat1
  have hcells:=Lib.hid (fun (W:World) (hb:Below W3.heap.size W3 W)=>show (W.heap[w.heap.size]? = some (.cells (val6 t aA an ac kA kn kc) 33 (0,0))∧W.heap[w.heap.size + 1]? = some (.cells (opCells o s) 26 (0,0))∧W.heap[w.heap.size + 1 + 1]? = some (.cells zero6 33 (0,0))) from
    ⟨(hb.block _ (by omega)).trans z1,(hb.block _ (by omega)).trans z2,(hb.block _ (by omega)).trans z3⟩)
  obtain ⟨o0,o1,o2,o3,o4,o5,o6,o7,o8,o9,o10⟩:=op_cells z2
  have z1u:=z1
  unfold val6 at z1u
  obtain ⟨p0,p1,p2,p3,p4,p5,pf⟩:=six_cells z1u
  have z4':=Lib.hid z4
  have z5':=Lib.hid z5
  have hbig':=Lib.hid hbig
  have hxw:=Lib.hid (at_count o.path t x hx).2
  have hxh:=Lib.hid hx
  have hraw:=Lib.hid ho
  have hvh:=Lib.hid hv
  have hkh:=Lib.hid hk
  have hqh:=Lib.hid hq
  rw [hW3] at o0 o1 o2 o3 o4 o5 o6 o7 o8 o9 o10 p0 p1 p2 p3 p4 p5 pf hval
  clear h ho z1 z1u z2 z3 z4 z5 hx hbig hv hk hq
  unfold zero6 val6 opCells at hW3 o0 o1 o2 o3 o4 o5 o6 o7 o8 o9 o10 p0 p1 p2 p3 p4 p5 pf
  unfold val6 at hat1
  unfold zero6 val6 opCells at hval
  unfold val6 opCells
  rw [hkI.out] at hW3 hval o0 ⊢
  go_enter Try.func23,Try.ntmps23
  go_upto_region 4 with (go_at_call 19;go_loud (refine hval.out.mono ?_;rw [← hW3];rintro e w1 ⟨rfl,hb⟩;have B1:=Lib.hid hb;clear o0 o1 o2 o3 o4 o5 o6 o7 o8 o9 o10 p0 p1 p2 p3 p4 p5 pf hb))
  obtain ⟨r1,r2,-⟩:=hcells.out w1 B1.out
  obtain ⟨o0,o1,o2,o3,o4,o5,o6,o7,o8,o9,o10⟩:=op_cells r2
  unfold val6 at r1
  obtain ⟨p0,p1,p2,p3,p4,p5,pf⟩:=six_cells r1
  rw [hkI.out] at o0
  clear r1 r2 hval
  go_upto_region 5 with (go_at_call 62;go_loud (refine (hat1.out w1 (z4'.out.trans (B1.out.mono z4'.out.size))).mono ?_;rintro e w2 ⟨xA,xn,xc,xK,xm,xd,rfl,hnx,hb⟩;have hnx':=Lib.hid hnx;have hb':=Lib.hid hb;clear o0 o1 o2 o3 o4 o5 o6 o7 o8 o9 o10 p0 p1 p2 p3 p4 p5 pf hnx hb))
  obtain ⟨X1,hX1⟩:∃ X,X = w2.alloc (.cells (val6 x xA xn xc xK xm xd) 33):=⟨_,rfl⟩
  have m1:=Lib.hid (show X1.heap[w2.heap.size]? = some (.cells (val6 x xA xn xc xK xm xd) 33 (0,0)) by rw [hX1];exact heap_alloc_new w2 _)
  have B2:=Lib.hid (show Below W3.heap.size W3 X1 by rw [hX1];exact B1.out.trans ((hb'.out.alloc hb'.out.size _).mono B1.out.size))
  have hs1:w2.heap.size < X1.heap.size:=by rw [hX1];simp
  have hs0:W3.heap.size≤w2.heap.size:=Nat.le_trans B1.out.size hb'.out.size
  have hwX:=Lib.hid (z4'.out.trans (B2.out.mono z4'.out.size))
  have hnx1:=Lib.hid (show NodeV T X1 xA xn xc xK xm xd x by rw [hX1];exact hnx'.out.kept (fun _ h=>h) fun k hk=>Go.heap_alloc_old _ _ (by have:=z4'.out.size;have:=hT0 k hk;omega))
  unfold val6 at hX1
  rw [← hX1]
  clear hX1 hnx' hb' hat1
  obtain ⟨b1,hbe⟩:∃ b,b = w2.heap.size:=⟨_,rfl⟩
  rw [← hbe] at m1 hs1 hs0 ⊢
  clear hbe
  obtain ⟨r1,r2,-⟩:=hcells.out X1 B2.out
  obtain ⟨o0,o1,o2,o3,o4,o5,o6,o7,o8,o9,o10⟩:=op_cells r2
  unfold val6 at r1
  obtain ⟨p0,p1,p2,p3,p4,p5,pf⟩:=six_cells r1
  rw [hkI.out] at o0
  clear r1 r2
  obtain ⟨a,ha⟩:∃ a,a = (delAt t o.path).getD Nd.zero:=⟨_,rfl⟩
  have hwo:=Lib.hid (rwithout_T T X1 (hTW.out X1 hwX.out) t x aA kA an ac kn kc (hh.out X1 hwX.out) s.pA s.pn s.pc q c (hqh.out ▸ (hop.out X1 hwX.out).path) hraw.out.pnc hraw.out.pcm (hqh.out ▸ hxh.out) (by have:=hbig'.out;omega))
  rw [← hqh.out,← ha] at hwo
  have ha':=Lib.hid ha
  clear ha
  unfold val6 at hwo
  go_wp2_with (go_at_call 69;go_loud (refine hwo.out.mono ?_;rintro e w10 ⟨eA,en,ec,eK,em,ed,rfl,he,hb10⟩;clear o0 o1 o2 o3 o4 o5 o6 o7 o8 o9 o10 p0 p1 p2 p3 p4 p5 pf;have he10:=Lib.hid he;have B10:=Lib.hid (B2.out.trans (hb10.mono B2.out.size));have Bw10:=Lib.hid (hwX.out.trans (hb10.mono hwX.out.size));have s10:=hb10.size;obtain ⟨-,-,r3⟩:=hcells.out w10 B10.out;have r3h:=Lib.hid r3;have hl10:w.heap.size + 1 + 1 < w10.heap.size:=(Array.getElem?_eq_some_iff.1 r3).1;unfold zero6 at r3;obtain ⟨g0,g1,g2,g3,g4,g5,gf⟩:=six_cells r3;clear he hb10 r3;unfold val6))
  have r3:=r3h.out
  unfold zero6 at r3
  have hz3:=z5'.out
  obtain ⟨W9,hW9,R9,N9,B9,Z9⟩:=end_box (w:=w) (r:=w.heap.size + 1 + 1) (by omega) Bw10.out r3 he10.out (fun k hk=>(by (rcases hk with hk | hk);(have:=hT0 k hk;omega);(have:=B2.out.size;omega)))
  rw [← hW9]
  unfold val6 at R9
  obtain ⟨d0,d1,d2,d3,d4,d5,df⟩:=six_cells R9
  rw [← ha'.out]
  refine bodyPost_ret (v:=.tuple #[.agg (val6 a eA en ec eK em ed),.int .i64 0]) (by simp [results,Try.results23,go_sem,d0,d1,d2,d3,d4,d5,val6]) rfl ?_
  exact ⟨eA,en,ec,eK,em,ed,rfl,N9.kept (fun k hk=>(by (rcases hk with hk | hk);(exact .inl hk);(exact .inr ⟨by have:=B2.out.size;omega,by omega⟩))) (fun _ _=>rfl),B9⟩
set_option maxHeartbeats 8000000 in
theorem rapply_move (T:Nat→Prop) (w:World) (hT0:∀ k,T k→k < w.heap.size) (t x:Nd) (aA kA:Option Addr) (an ac kn kc:Nat) (h:NodeV T w aA an ac kA kn kc t) (o:Ov) (s:OS) (ho:OpIn w o s) (hs:Slim o) (hbig:weighV t≤40000) (hk:o.kind = 3) (hv:validV t o = 0) (hx:atV t o.path = some x) (y m r x2:Nd) (g:Nat) (q':List Int) (c':Nat) (hy:atV t o.to_ = some y) (hg:o.at_ = (g:Int)) (hgk:g≤y.kids.length) (hm:putV t o.to_ (y.withKids (insK g x y.kids)) = some m) (hq:docFrom o.path o.to_ g = q' ++ [(c':Int)]) (hx2:atV m (docFrom o.path o.to_ g) = some x2) (hmw:weighV m≤90000) :
    Calls Try.prog 23 #[.agg (val6 t aA an ac kA kn kc),.agg (opCells o s)] w (AppA T w ((delAt m (docFrom o.path o.to_ g)).getD Nd.zero) 0):=by
  obtain ⟨z1,z2,z3,z4,z5⟩:=three_new w (.cells (val6 t aA an ac kA kn kc) 33) (.cells (opCells o s) 26) (.cells zero6 33)
  obtain ⟨W3,hW3⟩:∃ W3,W3 = ((w.alloc (.cells (val6 t aA an ac kA kn kc) 33)).alloc (.cells (opCells o s) 26)).alloc (.cells zero6 33):=⟨_,rfl⟩
  rw [← hW3] at z1 z2 z3 z4 z5
  have hkI:=Lib.hid (show (o.kind:Int) = 3 by omega)
  have hh:=Lib.hid (fun (W:World) (hb:Below w.heap.size w W)=>h.kept (w':=W) (T':=T) (fun _ h=>h) fun k hk=>hb.block k (hT0 k hk))
  have hop:=Lib.hid (fun (W:World) (hb:Below w.heap.size w W)=>ho.below hb)
  have hTW:=Lib.hid (fun (W:World) (hb:Below w.heap.size w W) k (hk:T k)=>show k < W.heap.size from Nat.lt_of_lt_of_le (hT0 k hk) hb.size)
  have hval:=Lib.hid (rvalid_any W3 t aA kA an ac kn kc o s ((h.kept (T':=Old w) (fun k hk=>hT0 k hk) (fun _ _=>rfl)).below z4) (ho.below z4) (by omega))
  rw [hv] at hval
  have hat1:=Lib.hid (fun (W:World) (hb:Below w.heap.size w W)=>rat_T T W (hTW.out W hb) t aA kA an ac kn kc (hh.out W hb) s.pA s.pn s.pc o.path (hop.out W hb).path (Nat.le_trans ho.pnc ho.pcm))
  unfold RAtAns at hat1
  rw [hx] at hat1
  simp only [Option.getD_some,Option.isSome_some] at hat1
  have hcells:=Lib.hid (fun (W:World) (hb:Below W3.heap.size W3 W)=>show (W.heap[w.heap.size]? = some (.cells (val6 t aA an ac kA kn kc) 33 (0,0))∧W.heap[w.heap.size + 1]? = some (.cells (opCells o s) 26 (0,0))∧W.heap[w.heap.size + 1 + 1]? = some (.cells zero6 33 (0,0))) from
    ⟨(hb.block _ (by omega)).trans z1,(hb.block _ (by omega)).trans z2,(hb.block _ (by omega)).trans z3⟩)
  obtain ⟨o0,o1,o2,o3,o4,o5,o6,o7,o8,o9,o10⟩:=op_cells z2
  have z1u:=z1
  unfold val6 at z1u
  obtain ⟨p0,p1,p2,p3,p4,p5,pf⟩:=six_cells z1u
  have z4':=Lib.hid z4
  have z5':=Lib.hid z5
  have hbig':=Lib.hid hbig
  have hxw:=Lib.hid (at_count o.path t x hx).2
  have hxh:=Lib.hid hx
  have hraw:=Lib.hid ho
  have hvh:=Lib.hid hv
  have hkh:=Lib.hid hk
  have hmv:=Lib.hid (fun (W:World) (hb:Below w.heap.size w W)=>rmove_T T W (hTW.out W hb) t x y m x2 aA kA an ac kn kc (hh.out W hb) o s (hop.out W hb) q' c' hbig hx hy g hg hgk hm hq hx2 hmw)
  rw [hW3] at o0 o1 o2 o3 o4 o5 o6 o7 o8 o9 o10 p0 p1 p2 p3 p4 p5 pf hval
  clear h ho z1 z1u z2 z3 z4 z5 hx hbig hv hk hy hg hgk hm hq hx2 hmw
  unfold zero6 val6 opCells at hW3 o0 o1 o2 o3 o4 o5 o6 o7 o8 o9 o10 p0 p1 p2 p3 p4 p5 pf
  unfold val6 at hat1
  unfold zero6 val6 opCells at hval
  unfold val6 opCells
  rw [hkI.out] at hW3 hval o0 ⊢
  go_enter Try.func23,Try.ntmps23
  go_upto_region 4 with (go_at_call 19;go_loud (refine hval.out.mono ?_;rw [← hW3];rintro e w1 ⟨rfl,hb⟩;have B1:=Lib.hid hb;clear o0 o1 o2 o3 o4 o5 o6 o7 o8 o9 o10 p0 p1 p2 p3 p4 p5 pf hb))
  obtain ⟨r1,r2,-⟩:=hcells.out w1 B1.out
  obtain ⟨o0,o1,o2,o3,o4,o5,o6,o7,o8,o9,o10⟩:=op_cells r2
  unfold val6 at r1
  obtain ⟨p0,p1,p2,p3,p4,p5,pf⟩:=six_cells r1
  rw [hkI.out] at o0
  clear r1 r2 hval
  go_upto_region 5 with (go_at_call 62;go_loud (refine (hat1.out w1 (z4'.out.trans (B1.out.mono z4'.out.size))).mono ?_;rintro e w2 ⟨xA,xn,xc,xK,xm,xd,rfl,hnx,hb⟩;have hnx':=Lib.hid hnx;have hb':=Lib.hid hb;clear o0 o1 o2 o3 o4 o5 o6 o7 o8 o9 o10 p0 p1 p2 p3 p4 p5 pf hnx hb))
  obtain ⟨X1,hX1⟩:∃ X,X = w2.alloc (.cells (val6 x xA xn xc xK xm xd) 33):=⟨_,rfl⟩
  have m1:=Lib.hid (show X1.heap[w2.heap.size]? = some (.cells (val6 x xA xn xc xK xm xd) 33 (0,0)) by rw [hX1];exact heap_alloc_new w2 _)
  have B2:=Lib.hid (show Below W3.heap.size W3 X1 by rw [hX1];exact B1.out.trans ((hb'.out.alloc hb'.out.size _).mono B1.out.size))
  have hs1:w2.heap.size < X1.heap.size:=by rw [hX1];simp
  have hs0:W3.heap.size≤w2.heap.size:=Nat.le_trans B1.out.size hb'.out.size
  have hwX:=Lib.hid (z4'.out.trans (B2.out.mono z4'.out.size))
  have hnx1:=Lib.hid (show NodeV T X1 xA xn xc xK xm xd x by rw [hX1];exact hnx'.out.kept (fun _ h=>h) fun k hk=>Go.heap_alloc_old _ _ (by have:=z4'.out.size;have:=hT0 k hk;omega))
  unfold val6 at hX1
  rw [← hX1]
  clear hX1 hnx' hb' hat1
  obtain ⟨b1,hbe⟩:∃ b,b = w2.heap.size:=⟨_,rfl⟩
  rw [← hbe] at m1 hs1 hs0 ⊢
  clear hbe
  obtain ⟨r1,r2,-⟩:=hcells.out X1 B2.out
  obtain ⟨o0,o1,o2,o3,o4,o5,o6,o7,o8,o9,o10⟩:=op_cells r2
  unfold val6 at r1
  obtain ⟨p0,p1,p2,p3,p4,p5,pf⟩:=six_cells r1
  rw [hkI.out] at o0
  clear r1 r2
  obtain ⟨a,ha⟩:∃ a,a = (delAt m (docFrom o.path o.to_ g)).getD Nd.zero:=⟨_,rfl⟩
  have hwo:=Lib.hid (hmv.out X1 hwX.out)
  rw [← ha] at hwo
  have ha':=Lib.hid ha
  clear ha hmv
  unfold val6 opCells at hwo
  rw [hkI.out] at hwo
  go_wp2_with (go_at_call 70;go_loud (refine hwo.out.mono ?_;rintro e w10 ⟨eA,en,ec,eK,em,ed,rfl,he,hb10⟩;clear o0 o1 o2 o3 o4 o5 o6 o7 o8 o9 o10 p0 p1 p2 p3 p4 p5 pf;have he10:=Lib.hid he;have B10:=Lib.hid (B2.out.trans (hb10.mono B2.out.size));have Bw10:=Lib.hid (hwX.out.trans (hb10.mono hwX.out.size));have s10:=hb10.size;obtain ⟨-,-,r3⟩:=hcells.out w10 B10.out;have r3h:=Lib.hid r3;have hl10:w.heap.size + 1 + 1 < w10.heap.size:=(Array.getElem?_eq_some_iff.1 r3).1;unfold zero6 at r3;obtain ⟨g0,g1,g2,g3,g4,g5,gf⟩:=six_cells r3;clear he hb10 r3;unfold val6))
  have r3:=r3h.out
  unfold zero6 at r3
  have hz3:=z5'.out
  obtain ⟨W9,hW9,R9,N9,B9,Z9⟩:=end_box (w:=w) (r:=w.heap.size + 1 + 1) (by omega) Bw10.out r3 he10.out (fun k hk=>(by (rcases hk with hk | hk);(have:=hT0 k hk;omega);(have:=B2.out.size;omega)))
  rw [← hW9]
  unfold val6 at R9
  obtain ⟨d0,d1,d2,d3,d4,d5,df⟩:=six_cells R9
  rw [← ha'.out]
  refine bodyPost_ret (v:=.tuple #[.agg (val6 a eA en ec eK em ed),.int .i64 0]) (by simp [results,Try.results23,go_sem,d0,d1,d2,d3,d4,d5,val6]) rfl ?_
  exact ⟨eA,en,ec,eK,em,ed,rfl,N9.kept (fun k hk=>(by (rcases hk with hk | hk);(exact .inl hk);(exact .inr ⟨by have:=B2.out.size;omega,by omega⟩))) (fun _ _=>rfl),B9⟩
set_option maxHeartbeats 8000000 in
theorem rapply_relabel (T:Nat→Prop) (w:World) (hT0:∀ k,T k→k < w.heap.size) (t x:Nd) (aA kA:Option Addr) (an ac kn kc:Nat) (h:NodeV T w aA an ac kA kn kc t) (o:Ov) (s:OS) (ho:OpIn w o s) (hs:Slim o) (hbig:weighV t≤40000) (hk:o.kind = 5) (hv:validV t o = 0) (hx:atV t o.path = some x) :
    Calls Try.prog 23 #[.agg (val6 t aA an ac kA kn kc),.agg (opCells o s)] w (AppA T w ((putV t o.path (labN x o.label)).getD Nd.zero) 0):=by
  obtain ⟨z1,z2,z3,z4,z5⟩:=three_new w (.cells (val6 t aA an ac kA kn kc) 33) (.cells (opCells o s) 26) (.cells zero6 33)
  obtain ⟨W3,hW3⟩:∃ W3,W3 = ((w.alloc (.cells (val6 t aA an ac kA kn kc) 33)).alloc (.cells (opCells o s) 26)).alloc (.cells zero6 33):=⟨_,rfl⟩
  rw [← hW3] at z1 z2 z3 z4 z5
  have hkI:=Lib.hid (show (o.kind:Int) = 5 by omega)
  have hh:=Lib.hid (fun (W:World) (hb:Below w.heap.size w W)=>h.kept (w':=W) (T':=T) (fun _ h=>h) fun k hk=>hb.block k (hT0 k hk))
  have hop:=Lib.hid (fun (W:World) (hb:Below w.heap.size w W)=>ho.below hb)
  have hTW:=Lib.hid (fun (W:World) (hb:Below w.heap.size w W) k (hk:T k)=>show k < W.heap.size from Nat.lt_of_lt_of_le (hT0 k hk) hb.size)
  have hval:=Lib.hid (rvalid_any W3 t aA kA an ac kn kc o s ((h.kept (T':=Old w) (fun k hk=>hT0 k hk) (fun _ _=>rfl)).below z4) (ho.below z4) (by omega))
  rw [hv] at hval
  have hat1:=Lib.hid (fun (W:World) (hb:Below w.heap.size w W)=>rat_T T W (hTW.out W hb) t aA kA an ac kn kc (hh.out W hb) s.pA s.pn s.pc o.path (hop.out W hb).path (Nat.le_trans ho.pnc ho.pcm))
  unfold RAtAns at hat1
  rw [hx] at hat1
  simp only [Option.getD_some,Option.isSome_some] at hat1
  have hcells:=Lib.hid (fun (W:World) (hb:Below W3.heap.size W3 W)=>show (W.heap[w.heap.size]? = some (.cells (val6 t aA an ac kA kn kc) 33 (0,0))∧W.heap[w.heap.size + 1]? = some (.cells (opCells o s) 26 (0,0))∧W.heap[w.heap.size + 1 + 1]? = some (.cells zero6 33 (0,0))) from
    ⟨(hb.block _ (by omega)).trans z1,(hb.block _ (by omega)).trans z2,(hb.block _ (by omega)).trans z3⟩)
  obtain ⟨o0,o1,o2,o3,o4,o5,o6,o7,o8,o9,o10⟩:=op_cells z2
  have z1u:=z1
  unfold val6 at z1u
  obtain ⟨p0,p1,p2,p3,p4,p5,pf⟩:=six_cells z1u
  have z4':=Lib.hid z4
  have z5':=Lib.hid z5
  have hbig':=Lib.hid hbig
  have hxw:=Lib.hid (at_count o.path t x hx).2
  have hxh:=Lib.hid hx
  have hraw:=Lib.hid ho
  have hvh:=Lib.hid hv
  have hkh:=Lib.hid hk
  rw [hW3] at o0 o1 o2 o3 o4 o5 o6 o7 o8 o9 o10 p0 p1 p2 p3 p4 p5 pf hval
  clear h ho z1 z1u z2 z3 z4 z5 hx hbig hv hk 
  unfold zero6 val6 opCells at hW3 o0 o1 o2 o3 o4 o5 o6 o7 o8 o9 o10 p0 p1 p2 p3 p4 p5 pf
  unfold val6 at hat1
  unfold zero6 val6 opCells at hval
  unfold val6 opCells
  rw [hkI.out] at hW3 hval o0 ⊢
  go_enter Try.func23,Try.ntmps23
  go_upto_region 4 with (go_at_call 19;go_loud (refine hval.out.mono ?_;rw [← hW3];rintro e w1 ⟨rfl,hb⟩;have B1:=Lib.hid hb;clear o0 o1 o2 o3 o4 o5 o6 o7 o8 o9 o10 p0 p1 p2 p3 p4 p5 pf hb))
  obtain ⟨r1,r2,-⟩:=hcells.out w1 B1.out
  obtain ⟨o0,o1,o2,o3,o4,o5,o6,o7,o8,o9,o10⟩:=op_cells r2
  unfold val6 at r1
  obtain ⟨p0,p1,p2,p3,p4,p5,pf⟩:=six_cells r1
  rw [hkI.out] at o0
  clear r1 r2 hval
  go_upto_region 5 with (go_at_call 62;go_loud (refine (hat1.out w1 (z4'.out.trans (B1.out.mono z4'.out.size))).mono ?_;rintro e w2 ⟨xA,xn,xc,xK,xm,xd,rfl,hnx,hb⟩;have hnx':=Lib.hid hnx;have hb':=Lib.hid hb;clear o0 o1 o2 o3 o4 o5 o6 o7 o8 o9 o10 p0 p1 p2 p3 p4 p5 pf hnx hb))
  obtain ⟨X1,hX1⟩:∃ X,X = w2.alloc (.cells (val6 x xA xn xc xK xm xd) 33):=⟨_,rfl⟩
  have m1:=Lib.hid (show X1.heap[w2.heap.size]? = some (.cells (val6 x xA xn xc xK xm xd) 33 (0,0)) by rw [hX1];exact heap_alloc_new w2 _)
  have B2:=Lib.hid (show Below W3.heap.size W3 X1 by rw [hX1];exact B1.out.trans ((hb'.out.alloc hb'.out.size _).mono B1.out.size))
  have hs1:w2.heap.size < X1.heap.size:=by rw [hX1];simp
  have hs0:W3.heap.size≤w2.heap.size:=Nat.le_trans B1.out.size hb'.out.size
  have hwX:=Lib.hid (z4'.out.trans (B2.out.mono z4'.out.size))
  have hnx1:=Lib.hid (show NodeV T X1 xA xn xc xK xm xd x by rw [hX1];exact hnx'.out.kept (fun _ h=>h) fun k hk=>Go.heap_alloc_old _ _ (by have:=z4'.out.size;have:=hT0 k hk;omega))
  unfold val6 at hX1
  rw [← hX1]
  clear hX1 hnx' hb' hat1
  obtain ⟨b1,hbe⟩:∃ b,b = w2.heap.size:=⟨_,rfl⟩
  rw [← hbe] at m1 hs1 hs0 ⊢
  clear hbe
  obtain ⟨r1,r2,-⟩:=hcells.out X1 B2.out
  obtain ⟨o0,o1,o2,o3,o4,o5,o6,o7,o8,o9,o10⟩:=op_cells r2
  unfold val6 at r1
  obtain ⟨p0,p1,p2,p3,p4,p5,pf⟩:=six_cells r1
  rw [hkI.out] at o0
  clear r1 r2
  have m1u:=m1.out
  unfold val6 at m1u
  obtain ⟨c0,c1,c2,c3,c4,c5,cf⟩:=six_cells m1u
  clear m1u
  go_upto_region 16 with fail
  obtain ⟨X5,hX5⟩:∃ X,X = X1.setCell ⟨b1,2,none⟩ (.string ⟨o.label.toArray⟩):=⟨_,rfl⟩
  have m5:=Lib.hid (show X5.heap[b1]? = some (.cells (val6 (labN x o.label) xA xn xc xK xm xd) 33 (0,0)) by rw [hX5,heap_setCell_same X1 b1 2 _ _ _ m1.out];cases x;rfl)
  have B5:=Lib.hid (show Below W3.heap.size W3 X5 by rw [hX5];exact B2.out.setCell (p:=⟨b1,2,none⟩) hs0 _)
  have hwX5:=Lib.hid (z4'.out.trans (B5.out.mono z4'.out.size))
  have hz3:=Lib.hid z5'.out
  have hn5:=Lib.hid (show NodeV T X5 xA xn xc xK xm xd (labN x o.label) from (fun hh=>labN_node hh (by have:=hs.label;unfold maxLen;omega)) (hnx1.out.kept (fun _ h=>h) fun k hk=>(hwX5.out.block k (hT0 k hk)).trans (hwX.out.block k (hT0 k hk)).symm))
  have hch:=Lib.hid (rchange_T T X5 (hTW.out X5 hwX5.out) t (labN x o.label) aA kA xA xK an ac kn kc xn xc xm xd (hh.out X5 hwX5.out) hn5.out s.pA s.pn s.pc o.path (hop.out X5 hwX5.out).path hraw.out.pnc hraw.out.pcm (by have:=hbig'.out;omega) (by have:=labN_weigh x o.label;have:=hxw.out;have:=hbig'.out;have:=hs.label;omega))
  obtain ⟨a,ha⟩:∃ a,a = (putV t o.path (labN x o.label)).getD Nd.zero:=⟨_,rfl⟩
  rw [← ha] at hch
  have ha':=Lib.hid ha
  obtain ⟨nx,hnx⟩:∃ nx,nx = labN x o.label:=⟨_,rfl⟩
  rw [← hnx] at m5 hch
  rw [← hX5]
  clear ha hX5 hnx o0 o1 o2 o3 o4 o5 o6 o7 o8 o9 o10 p0 p1 p2 p3 p4 p5 pf c0 c1 c2 c3 c4 c5 cf
  obtain ⟨r1,r2,-⟩:=hcells.out X5 B5.out
  obtain ⟨o0,o1,o2,o3,o4,o5,o6,o7,o8,o9,o10⟩:=op_cells r2
  unfold val6 at r1
  obtain ⟨p0,p1,p2,p3,p4,p5,pf⟩:=six_cells r1
  rw [hkI.out] at o0
  have m5u:=m5.out
  unfold val6 at m5u hch
  obtain ⟨c0,c1,c2,c3,c4,c5,cf⟩:=six_cells m5u
  clear r1 r2 m5u
  go_wp2_with (go_at_call 67;go_loud (refine hch.out.mono ?_;rintro e w10 ⟨eA,en,ec,eK,em,ed,rfl,he,hb10⟩;clear o0 o1 o2 o3 o4 o5 o6 o7 o8 o9 o10 p0 p1 p2 p3 p4 p5 pf;have he10:=Lib.hid he;have B10:=Lib.hid (B5.out.trans (hb10.mono B5.out.size));have Bw10:=Lib.hid (hwX5.out.trans (hb10.mono hwX5.out.size));have s10:=hb10.size;obtain ⟨-,-,r3⟩:=hcells.out w10 B10.out;have r3h:=Lib.hid r3;have hl10:w.heap.size + 1 + 1 < w10.heap.size:=(Array.getElem?_eq_some_iff.1 r3).1;unfold zero6 at r3;obtain ⟨g0,g1,g2,g3,g4,g5,gf⟩:=six_cells r3;clear he hb10 r3;unfold val6;clear c0 c1 c2 c3 c4 c5 cf))
  have r3:=r3h.out
  unfold zero6 at r3
  have hz3:=z5'.out
  obtain ⟨W9,hW9,R9,N9,B9,Z9⟩:=end_box (w:=w) (r:=w.heap.size + 1 + 1) (by omega) Bw10.out r3 he10.out (fun k hk=>(by (rcases hk with hk | hk);(have:=hT0 k hk;omega);(have:=B5.out.size;omega)))
  rw [← hW9]
  unfold val6 at R9
  obtain ⟨d0,d1,d2,d3,d4,d5,df⟩:=six_cells R9
  rw [← ha'.out]
  refine bodyPost_ret (v:=.tuple #[.agg (val6 a eA en ec eK em ed),.int .i64 0]) (by simp [results,Try.results23,go_sem,d0,d1,d2,d3,d4,d5,val6]) rfl ?_
  exact ⟨eA,en,ec,eK,em,ed,rfl,N9.kept (fun k hk=>(by (rcases hk with hk | hk);(exact .inl hk);(exact .inr ⟨by have:=B5.out.size;omega,by omega⟩))) (fun _ _=>rfl),B9⟩
set_option maxHeartbeats 8000000 in
theorem rapply_edit (T:Nat→Prop) (w:World) (hT0:∀ k,T k→k < w.heap.size) (t x:Nd) (aA kA:Option Addr) (an ac kn kc:Nat) (h:NodeV T w aA an ac kA kn kc t) (o:Ov) (s:OS) (ho:OpIn w o s) (hs:Slim o) (hbig:weighV t≤40000) (hk:o.kind = 6) (hv:validV t o = 0) (hx:atV t o.path = some x) (hr:P5.rightV o.pieces = true) (hf:Ltx.extent (pcs o.pieces)≤x.text.length) (htx:(Ltx.apply x.text (pcs o.pieces)).length≤900000) :
    Calls Try.prog 23 #[.agg (val6 t aA an ac kA kn kc),.agg (opCells o s)] w (AppA T w ((putV t o.path (textN x (Ltx.apply x.text (pcs o.pieces)))).getD Nd.zero) 0):=by
  obtain ⟨z1,z2,z3,z4,z5⟩:=three_new w (.cells (val6 t aA an ac kA kn kc) 33) (.cells (opCells o s) 26) (.cells zero6 33)
  obtain ⟨W3,hW3⟩:∃ W3,W3 = ((w.alloc (.cells (val6 t aA an ac kA kn kc) 33)).alloc (.cells (opCells o s) 26)).alloc (.cells zero6 33):=⟨_,rfl⟩
  rw [← hW3] at z1 z2 z3 z4 z5
  have hkI:=Lib.hid (show (o.kind:Int) = 6 by omega)
  have hh:=Lib.hid (fun (W:World) (hb:Below w.heap.size w W)=>h.kept (w':=W) (T':=T) (fun _ h=>h) fun k hk=>hb.block k (hT0 k hk))
  have hop:=Lib.hid (fun (W:World) (hb:Below w.heap.size w W)=>ho.below hb)
  have hTW:=Lib.hid (fun (W:World) (hb:Below w.heap.size w W) k (hk:T k)=>show k < W.heap.size from Nat.lt_of_lt_of_le (hT0 k hk) hb.size)
  have hval:=Lib.hid (rvalid_any W3 t aA kA an ac kn kc o s ((h.kept (T':=Old w) (fun k hk=>hT0 k hk) (fun _ _=>rfl)).below z4) (ho.below z4) (by omega))
  rw [hv] at hval
  have hat1:=Lib.hid (fun (W:World) (hb:Below w.heap.size w W)=>rat_T T W (hTW.out W hb) t aA kA an ac kn kc (hh.out W hb) s.pA s.pn s.pc o.path (hop.out W hb).path (Nat.le_trans ho.pnc ho.pcm))
  unfold RAtAns at hat1
  rw [hx] at hat1
  simp only [Option.getD_some,Option.isSome_some] at hat1
  have hcells:=Lib.hid (fun (W:World) (hb:Below W3.heap.size W3 W)=>show (W.heap[w.heap.size]? = some (.cells (val6 t aA an ac kA kn kc) 33 (0,0))∧W.heap[w.heap.size + 1]? = some (.cells (opCells o s) 26 (0,0))∧W.heap[w.heap.size + 1 + 1]? = some (.cells zero6 33 (0,0))) from
    ⟨(hb.block _ (by omega)).trans z1,(hb.block _ (by omega)).trans z2,(hb.block _ (by omega)).trans z3⟩)
  obtain ⟨o0,o1,o2,o3,o4,o5,o6,o7,o8,o9,o10⟩:=op_cells z2
  have z1u:=z1
  unfold val6 at z1u
  obtain ⟨p0,p1,p2,p3,p4,p5,pf⟩:=six_cells z1u
  have z4':=Lib.hid z4
  have z5':=Lib.hid z5
  have hbig':=Lib.hid hbig
  have hxw:=Lib.hid (at_count o.path t x hx).2
  have hxh:=Lib.hid hx
  have hraw:=Lib.hid ho
  have hvh:=Lib.hid hv
  have hkh:=Lib.hid hk
  have htxh:=Lib.hid htx
  have hpr:=pcs_right hr
  have hxt:x.text.length≤10000000:=at_text hx (by omega)
  have hap:=Lib.hid (fun (W:World) (hb:Below w.heap.size w W)=>P5.rapply_ok W x.text s.qA s.qn s.qc (pcs o.pieces) (by rw [hpr];exact ho.pieces.below hb) (Nat.le_trans ho.qnc ho.qcm) hxt (by rw [hpr];exact hr) hf)
  rw [hW3] at o0 o1 o2 o3 o4 o5 o6 o7 o8 o9 o10 p0 p1 p2 p3 p4 p5 pf hval
  clear h ho z1 z1u z2 z3 z4 z5 hx hbig hv hk hr hf htx hpr hxt
  unfold zero6 val6 opCells at hW3 o0 o1 o2 o3 o4 o5 o6 o7 o8 o9 o10 p0 p1 p2 p3 p4 p5 pf
  unfold val6 at hat1
  unfold zero6 val6 opCells at hval
  unfold val6 opCells
  rw [hkI.out] at hW3 hval o0 ⊢
  go_enter Try.func23,Try.ntmps23
  go_upto_region 4 with (go_at_call 19;go_loud (refine hval.out.mono ?_;rw [← hW3];rintro e w1 ⟨rfl,hb⟩;have B1:=Lib.hid hb;clear o0 o1 o2 o3 o4 o5 o6 o7 o8 o9 o10 p0 p1 p2 p3 p4 p5 pf hb))
  obtain ⟨r1,r2,-⟩:=hcells.out w1 B1.out
  obtain ⟨o0,o1,o2,o3,o4,o5,o6,o7,o8,o9,o10⟩:=op_cells r2
  unfold val6 at r1
  obtain ⟨p0,p1,p2,p3,p4,p5,pf⟩:=six_cells r1
  rw [hkI.out] at o0
  clear r1 r2 hval
  go_upto_region 5 with (go_at_call 62;go_loud (refine (hat1.out w1 (z4'.out.trans (B1.out.mono z4'.out.size))).mono ?_;rintro e w2 ⟨xA,xn,xc,xK,xm,xd,rfl,hnx,hb⟩;have hnx':=Lib.hid hnx;have hb':=Lib.hid hb;clear o0 o1 o2 o3 o4 o5 o6 o7 o8 o9 o10 p0 p1 p2 p3 p4 p5 pf hnx hb))
  obtain ⟨X1,hX1⟩:∃ X,X = w2.alloc (.cells (val6 x xA xn xc xK xm xd) 33):=⟨_,rfl⟩
  have m1:=Lib.hid (show X1.heap[w2.heap.size]? = some (.cells (val6 x xA xn xc xK xm xd) 33 (0,0)) by rw [hX1];exact heap_alloc_new w2 _)
  have B2:=Lib.hid (show Below W3.heap.size W3 X1 by rw [hX1];exact B1.out.trans ((hb'.out.alloc hb'.out.size _).mono B1.out.size))
  have hs1:w2.heap.size < X1.heap.size:=by rw [hX1];simp
  have hs0:W3.heap.size≤w2.heap.size:=Nat.le_trans B1.out.size hb'.out.size
  have hwX:=Lib.hid (z4'.out.trans (B2.out.mono z4'.out.size))
  have hnx1:=Lib.hid (show NodeV T X1 xA xn xc xK xm xd x by rw [hX1];exact hnx'.out.kept (fun _ h=>h) fun k hk=>Go.heap_alloc_old _ _ (by have:=z4'.out.size;have:=hT0 k hk;omega))
  unfold val6 at hX1
  rw [← hX1]
  clear hX1 hnx' hb' hat1
  obtain ⟨b1,hbe⟩:∃ b,b = w2.heap.size:=⟨_,rfl⟩
  rw [← hbe] at m1 hs1 hs0 ⊢
  clear hbe
  obtain ⟨r1,r2,-⟩:=hcells.out X1 B2.out
  obtain ⟨o0,o1,o2,o3,o4,o5,o6,o7,o8,o9,o10⟩:=op_cells r2
  unfold val6 at r1
  obtain ⟨p0,p1,p2,p3,p4,p5,pf⟩:=six_cells r1
  rw [hkI.out] at o0
  clear r1 r2
  have m1u:=m1.out
  unfold val6 at m1u
  obtain ⟨c0,c1,c2,c3,c4,c5,cf⟩:=six_cells m1u
  clear m1u
  go_upto_region 18 with (go_at_call 65;go_loud (refine (hap.out X1 hwX.out).mono ?_;rintro e w3 ⟨rfl,hb3⟩;have hb3':=Lib.hid hb3;have m1c:=Lib.hid ((hb3.block b1 hs1).trans m1.out);have m1v:=m1c.out;unfold val6 at m1v;clear c0 c1 c2 c3 c4 c5 cf hb3 o0 o1 o2 o3 o4 o5 o6 o7 o8 o9 o10 p0 p1 p2 p3 p4 p5 pf;obtain ⟨c0,c1,c2,c3,c4,c5,cf⟩:=six_cells m1v;clear m1v;have hl3:b1 < w3.heap.size:=Nat.lt_of_lt_of_le hs1 hb3'.out.size))
  have B3:=Lib.hid (B2.out.trans (hb3'.out.mono B2.out.size))
  obtain ⟨X5,hX5⟩:∃ X,X = w3.setCell ⟨b1,4,none⟩ (.string ⟨(Ltx.apply x.text (pcs o.pieces)).toArray⟩):=⟨_,rfl⟩
  have m5:=Lib.hid (show X5.heap[b1]? = some (.cells (val6 (textN x (Ltx.apply x.text (pcs o.pieces))) xA xn xc xK xm xd) 33 (0,0)) by rw [hX5,heap_setCell_same w3 b1 4 _ _ _ m1c.out];cases x;rfl)
  have B5:=Lib.hid (show Below W3.heap.size W3 X5 by rw [hX5];exact B3.out.setCell (p:=⟨b1,4,none⟩) hs0 _)
  have hwX5:=Lib.hid (z4'.out.trans (B5.out.mono z4'.out.size))
  have hz3:=Lib.hid z5'.out
  have hn5:=Lib.hid (show NodeV T X5 xA xn xc xK xm xd (textN x (Ltx.apply x.text (pcs o.pieces))) from (fun hh=>textN_node hh (by have:=htxh.out;unfold maxLen;omega)) (hnx1.out.kept (fun _ h=>h) fun k hk=>(hwX5.out.block k (hT0 k hk)).trans (hwX.out.block k (hT0 k hk)).symm))
  have hch:=Lib.hid (rchange_T T X5 (hTW.out X5 hwX5.out) t (textN x (Ltx.apply x.text (pcs o.pieces))) aA kA xA xK an ac kn kc xn xc xm xd (hh.out X5 hwX5.out) hn5.out s.pA s.pn s.pc o.path (hop.out X5 hwX5.out).path hraw.out.pnc hraw.out.pcm (by have:=hbig'.out;omega) (by have:=textN_weigh x (Ltx.apply x.text (pcs o.pieces));have:=hxw.out;have:=hbig'.out;have:=htxh.out;omega))
  obtain ⟨a,ha⟩:∃ a,a = (putV t o.path (textN x (Ltx.apply x.text (pcs o.pieces)))).getD Nd.zero:=⟨_,rfl⟩
  rw [← ha] at hch
  have ha':=Lib.hid ha
  obtain ⟨nx,hnx⟩:∃ nx,nx = textN x (Ltx.apply x.text (pcs o.pieces)):=⟨_,rfl⟩
  rw [← hnx] at m5 hch
  rw [← hX5]
  clear ha hX5 hnx c0 c1 c2 c3 c4 c5 cf
  obtain ⟨r1,r2,-⟩:=hcells.out X5 B5.out
  obtain ⟨o0,o1,o2,o3,o4,o5,o6,o7,o8,o9,o10⟩:=op_cells r2
  unfold val6 at r1
  obtain ⟨p0,p1,p2,p3,p4,p5,pf⟩:=six_cells r1
  rw [hkI.out] at o0
  have m5u:=m5.out
  unfold val6 at m5u hch
  obtain ⟨c0,c1,c2,c3,c4,c5,cf⟩:=six_cells m5u
  clear r1 r2 m5u
  go_wp2_with (go_at_call 67;go_loud (refine hch.out.mono ?_;rintro e w10 ⟨eA,en,ec,eK,em,ed,rfl,he,hb10⟩;clear o0 o1 o2 o3 o4 o5 o6 o7 o8 o9 o10 p0 p1 p2 p3 p4 p5 pf;have he10:=Lib.hid he;have B10:=Lib.hid (B5.out.trans (hb10.mono B5.out.size));have Bw10:=Lib.hid (hwX5.out.trans (hb10.mono hwX5.out.size));have s10:=hb10.size;obtain ⟨-,-,r3⟩:=hcells.out w10 B10.out;have r3h:=Lib.hid r3;have hl10:w.heap.size + 1 + 1 < w10.heap.size:=(Array.getElem?_eq_some_iff.1 r3).1;unfold zero6 at r3;obtain ⟨g0,g1,g2,g3,g4,g5,gf⟩:=six_cells r3;clear he hb10 r3;unfold val6;clear c0 c1 c2 c3 c4 c5 cf))
  have r3:=r3h.out
  unfold zero6 at r3
  have hz3:=z5'.out
  obtain ⟨W9,hW9,R9,N9,B9,Z9⟩:=end_box (w:=w) (r:=w.heap.size + 1 + 1) (by omega) Bw10.out r3 he10.out (fun k hk=>(by (rcases hk with hk | hk);(have:=hT0 k hk;omega);(have:=B5.out.size;omega)))
  rw [← hW9]
  unfold val6 at R9
  obtain ⟨d0,d1,d2,d3,d4,d5,df⟩:=six_cells R9
  rw [← ha'.out]
  refine bodyPost_ret (v:=.tuple #[.agg (val6 a eA en ec eK em ed),.int .i64 0]) (by simp [results,Try.results23,go_sem,d0,d1,d2,d3,d4,d5,val6]) rfl ?_
  exact ⟨eA,en,ec,eK,em,ed,rfl,N9.kept (fun k hk=>(by (rcases hk with hk | hk);(exact .inl hk);(exact .inr ⟨by have:=B5.out.size;omega,by omega⟩))) (fun _ _=>rfl),B9⟩
set_option maxHeartbeats 8000000 in
theorem rapply_attr (T:Nat→Prop) (w:World) (hT0:∀ k,T k→k < w.heap.size) (t x:Nd) (aA kA:Option Addr) (an ac kn kc:Nat) (h:NodeV T w aA an ac kA kn kc t) (o:Ov) (s:OS) (ho:OpIn w o s) (hs:Slim o) (hbig:weighV t≤40000) (hk:o.kind = 4) (hv:validV t o = 0) (hx:atV t o.path = some x) (hok:attrsOk ltB [] x.attrs = true) :
    Calls Try.prog 23 #[.agg (val6 t aA an ac kA kn kc),.agg (opCells o s)] w (AppA T w ((putV t o.path (attN x (docA o.key o.value x.attrs o.gone))).getD Nd.zero) 0):=by
  obtain ⟨z1,z2,z3,z4,z5⟩:=three_new w (.cells (val6 t aA an ac kA kn kc) 33) (.cells (opCells o s) 26) (.cells zero6 33)
  obtain ⟨W3,hW3⟩:∃ W3,W3 = ((w.alloc (.cells (val6 t aA an ac kA kn kc) 33)).alloc (.cells (opCells o s) 26)).alloc (.cells zero6 33):=⟨_,rfl⟩
  rw [← hW3] at z1 z2 z3 z4 z5
  have hkI:=Lib.hid (show (o.kind:Int) = 4 by omega)
  have hh:=Lib.hid (fun (W:World) (hb:Below w.heap.size w W)=>h.kept (w':=W) (T':=T) (fun _ h=>h) fun k hk=>hb.block k (hT0 k hk))
  have hop:=Lib.hid (fun (W:World) (hb:Below w.heap.size w W)=>ho.below hb)
  have hTW:=Lib.hid (fun (W:World) (hb:Below w.heap.size w W) k (hk:T k)=>show k < W.heap.size from Nat.lt_of_lt_of_le (hT0 k hk) hb.size)
  have hval:=Lib.hid (rvalid_any W3 t aA kA an ac kn kc o s ((h.kept (T':=Old w) (fun k hk=>hT0 k hk) (fun _ _=>rfl)).below z4) (ho.below z4) (by omega))
  rw [hv] at hval
  have hat1:=Lib.hid (fun (W:World) (hb:Below w.heap.size w W)=>rat_T T W (hTW.out W hb) t aA kA an ac kn kc (hh.out W hb) s.pA s.pn s.pc o.path (hop.out W hb).path (Nat.le_trans ho.pnc ho.pcm))
  unfold RAtAns at hat1
  rw [hx] at hat1
  simp only [Option.getD_some,Option.isSome_some] at hat1
  have hcells:=Lib.hid (fun (W:World) (hb:Below W3.heap.size W3 W)=>show (W.heap[w.heap.size]? = some (.cells (val6 t aA an ac kA kn kc) 33 (0,0))∧W.heap[w.heap.size + 1]? = some (.cells (opCells o s) 26 (0,0))∧W.heap[w.heap.size + 1 + 1]? = some (.cells zero6 33 (0,0))) from
    ⟨(hb.block _ (by omega)).trans z1,(hb.block _ (by omega)).trans z2,(hb.block _ (by omega)).trans z3⟩)
  obtain ⟨o0,o1,o2,o3,o4,o5,o6,o7,o8,o9,o10⟩:=op_cells z2
  have z1u:=z1
  unfold val6 at z1u
  obtain ⟨p0,p1,p2,p3,p4,p5,pf⟩:=six_cells z1u
  have z4':=Lib.hid z4
  have z5':=Lib.hid z5
  have hbig':=Lib.hid hbig
  have hxw:=Lib.hid (at_count o.path t x hx).2
  have hxh:=Lib.hid hx
  have hraw:=Lib.hid ho
  have hvh:=Lib.hid hv
  have hkh:=Lib.hid hk
  have hokh:=Lib.hid hok
  rw [hW3] at o0 o1 o2 o3 o4 o5 o6 o7 o8 o9 o10 p0 p1 p2 p3 p4 p5 pf hval
  clear h ho z1 z1u z2 z3 z4 z5 hx hbig hv hk hok
  unfold zero6 val6 opCells at hW3 o0 o1 o2 o3 o4 o5 o6 o7 o8 o9 o10 p0 p1 p2 p3 p4 p5 pf
  unfold val6 at hat1
  unfold zero6 val6 opCells at hval
  unfold val6 opCells
  rw [hkI.out] at hW3 hval o0 ⊢
  go_enter Try.func23,Try.ntmps23
  go_upto_region 4 with (go_at_call 19;go_loud (refine hval.out.mono ?_;rw [← hW3];rintro e w1 ⟨rfl,hb⟩;have B1:=Lib.hid hb;clear o0 o1 o2 o3 o4 o5 o6 o7 o8 o9 o10 p0 p1 p2 p3 p4 p5 pf hb))
  obtain ⟨r1,r2,-⟩:=hcells.out w1 B1.out
  obtain ⟨o0,o1,o2,o3,o4,o5,o6,o7,o8,o9,o10⟩:=op_cells r2
  unfold val6 at r1
  obtain ⟨p0,p1,p2,p3,p4,p5,pf⟩:=six_cells r1
  rw [hkI.out] at o0
  clear r1 r2 hval
  go_upto_region 5 with (go_at_call 62;go_loud (refine (hat1.out w1 (z4'.out.trans (B1.out.mono z4'.out.size))).mono ?_;rintro e w2 ⟨xA,xn,xc,xK,xm,xd,rfl,hnx,hb⟩;have hnx':=Lib.hid hnx;have hb':=Lib.hid hb;clear o0 o1 o2 o3 o4 o5 o6 o7 o8 o9 o10 p0 p1 p2 p3 p4 p5 pf hnx hb))
  obtain ⟨X1,hX1⟩:∃ X,X = w2.alloc (.cells (val6 x xA xn xc xK xm xd) 33):=⟨_,rfl⟩
  have m1:=Lib.hid (show X1.heap[w2.heap.size]? = some (.cells (val6 x xA xn xc xK xm xd) 33 (0,0)) by rw [hX1];exact heap_alloc_new w2 _)
  have B2:=Lib.hid (show Below W3.heap.size W3 X1 by rw [hX1];exact B1.out.trans ((hb'.out.alloc hb'.out.size _).mono B1.out.size))
  have hs1:w2.heap.size < X1.heap.size:=by rw [hX1];simp
  have hs0:W3.heap.size≤w2.heap.size:=Nat.le_trans B1.out.size hb'.out.size
  have hwX:=Lib.hid (z4'.out.trans (B2.out.mono z4'.out.size))
  have hnx1:=Lib.hid (show NodeV T X1 xA xn xc xK xm xd x by rw [hX1];exact hnx'.out.kept (fun _ h=>h) fun k hk=>Go.heap_alloc_old _ _ (by have:=z4'.out.size;have:=hT0 k hk;omega))
  unfold val6 at hX1
  rw [← hX1]
  clear hX1 hnx' hb' hat1
  obtain ⟨b1,hbe⟩:∃ b,b = w2.heap.size:=⟨_,rfl⟩
  rw [← hbe] at m1 hs1 hs0 ⊢
  clear hbe
  obtain ⟨r1,r2,-⟩:=hcells.out X1 B2.out
  obtain ⟨o0,o1,o2,o3,o4,o5,o6,o7,o8,o9,o10⟩:=op_cells r2
  unfold val6 at r1
  obtain ⟨p0,p1,p2,p3,p4,p5,pf⟩:=six_cells r1
  rw [hkI.out] at o0
  clear r1 r2
  have hnxW:=Lib.hid (fun (W:World) (hb:Below X1.heap.size X1 W)=>show NodeV T W xA xn xc xK xm xd x from hnx1.out.kept (fun _ h=>h) fun k hk=>hb.block k (hTW.out X1 hwX.out k hk))
  have hWX:=Lib.hid (fun (W:World) (hb:Below X1.heap.size X1 W)=>show Below w.heap.size w W from hwX.out.trans (hb.mono hwX.out.size))
  have hc1:=Lib.hid (fun (W:World) (hb:Below X1.heap.size X1 W)=>rattr_T T W (hTW.out W (hWX.out W hb)) x xA xK xn xc xm xd (hnxW.out W hb) (by have:=hxw.out;have:=hbig'.out;omega) hokh.out o s (hop.out W (hWX.out W hb)))
  obtain ⟨a,ha⟩:∃ a,a = (putV t o.path (attN x (docA o.key o.value x.attrs o.gone))).getD Nd.zero:=⟨_,rfl⟩
  have ha':=Lib.hid ha
  have hc2:=Lib.hid (fun (T5:Nat→Prop) (W:World) (hT5:∀ k,T5 k→k < W.heap.size) (hto:∀ k,T k→T5 k) (hb:Below X1.heap.size X1 W) (zA zK:Option Addr) (zn zc zm zd:Nat) (hz:NodeV T5 W zA zn zc zK zm zd (attN x (docA o.key o.value x.attrs o.gone)))=>by
    have h5:=rchange_T T5 W hT5 t (attN x (docA o.key o.value x.attrs o.gone)) aA kA zA zK an ac kn kc zn zc zm zd ((hh.out W (hWX.out W hb)).kept hto (fun _ _=>rfl)) hz s.pA s.pn s.pc o.path (hop.out W (hWX.out W hb)).path hraw.out.pnc hraw.out.pcm (by have:=hbig'.out;omega) (by have:=attN_weigh x (docA o.key o.value x.attrs o.gone);have:=doc_weigh o.key o.value x.attrs o.gone;have:=hs.key;have:=hs.value;have:=hxw.out;have:=hbig'.out;have:(if o.gone = true then 0 else 1 + o.key.length + o.value.length)≤1 + o.key.length + o.value.length:=(by split <;> omega);omega)
    rw [← ha] at h5
    exact h5)
  have hcX:=Lib.hid (fun (W:World) (hb:Below X1.heap.size X1 W)=>show W.heap[b1]? = some (.cells (val6 x xA xn xc xK xm xd) 33 (0,0)) from (hb.block b1 hs1).trans m1.out)
  clear ha
  unfold val6 opCells at hc1
  rw [hkI.out] at hc1
  go_wp2_with fail
  clear o0 o1 o2 o3 o4 o5 o6 o7 o8 o9 o10 p0 p1 p2 p3 p4 p5 pf
  rename_i K0 hK0
  refine Top.wp_region_L (fun W=>Below X1.heap.size X1 W) 7 rfl ((Below.refl X1.heap.size X1).drew) (fun hHeld=>?_)
  refine Top.wpAnyL_take (i:=0) (oi:={ dst:=some 55,op:=Go.Op.load 33 (Go.Operand.tmp 2),type:=33,pos:="ref.go:160",after:=#[],guard:=none }) (v:=?_) rfl (by kernel_rfl) (by kernel_rfl) (by kernel_rfl) (by kernel_rfl) (fun _ _ _ h=>h) (Or.inl ⟨by rfl,?_⟩) hHeld ?_
  rotate_left 1
  · intro W hSw;obtain ⟨r1,r2,-⟩:=hcells.out W (B2.out.trans (hSw.mono B2.out.size));obtain ⟨o0,o1,o2,o3,o4,o5,o6,o7,o8,o9,o10⟩:=op_cells r2;rw [hkI.out] at o0;unfold val6 at r1;obtain ⟨p0,p1,p2,p3,p4,p5,pf⟩:=six_cells r1;have r4:=hcX.out W hSw;unfold val6 at r4;obtain ⟨c0,c1,c2,c3,c4,c5,cf⟩:=six_cells r4;go_simp;try with_reducible rfl
  try simp only [Act.put,List.setIfInBounds_toArray,List.set_cons_zero,List.set_cons_succ]
  refine Top.wpAnyL_take (i:=1) (oi:={ dst:=some 56,op:=Go.Op.fieldAddr 26 (Go.Operand.tmp 3) 1,type:=0,pos:="ref.go:160",after:=#[],guard:=none }) (v:=?_) rfl (by kernel_rfl) (by kernel_rfl) (by kernel_rfl) (by kernel_rfl) (fun _ _ _ h=>h) (Or.inl ⟨by rfl,?_⟩) hHeld ?_
  rotate_left 1
  · intro W hSw;obtain ⟨r1,r2,-⟩:=hcells.out W (B2.out.trans (hSw.mono B2.out.size));obtain ⟨o0,o1,o2,o3,o4,o5,o6,o7,o8,o9,o10⟩:=op_cells r2;rw [hkI.out] at o0;unfold val6 at r1;obtain ⟨p0,p1,p2,p3,p4,p5,pf⟩:=six_cells r1;have r4:=hcX.out W hSw;unfold val6 at r4;obtain ⟨c0,c1,c2,c3,c4,c5,cf⟩:=six_cells r4;go_simp;try with_reducible rfl
  try simp only [Act.put,List.setIfInBounds_toArray,List.set_cons_zero,List.set_cons_succ]
  refine Top.wpAnyL_take (i:=2) (oi:={ dst:=some 57,op:=Go.Op.load 22 (Go.Operand.tmp 56),type:=22,pos:="ref.go:160",after:=#[{ on:=1,ground:=Go.Ground.data }],guard:=none }) (v:=?_) rfl (by kernel_rfl) (by kernel_rfl) (by kernel_rfl) (by kernel_rfl) (fun _ _ _ h=>h) (Or.inl ⟨by rfl,?_⟩) hHeld ?_
  rotate_left 1
  · intro W hSw;obtain ⟨r1,r2,-⟩:=hcells.out W (B2.out.trans (hSw.mono B2.out.size));obtain ⟨o0,o1,o2,o3,o4,o5,o6,o7,o8,o9,o10⟩:=op_cells r2;rw [hkI.out] at o0;unfold val6 at r1;obtain ⟨p0,p1,p2,p3,p4,p5,pf⟩:=six_cells r1;have r4:=hcX.out W hSw;unfold val6 at r4;obtain ⟨c0,c1,c2,c3,c4,c5,cf⟩:=six_cells r4;go_simp;try with_reducible rfl
  try simp only [Act.put,List.setIfInBounds_toArray,List.set_cons_zero,List.set_cons_succ]
  refine Top.wpAnyL_take (i:=3) (oi:={ dst:=some 58,op:=Go.Op.load 33 (Go.Operand.tmp 7),type:=33,pos:="ref.go:160",after:=#[],guard:=none }) (v:=?_) rfl (by kernel_rfl) (by kernel_rfl) (by kernel_rfl) (by kernel_rfl) (fun _ _ _ h=>h) (Or.inl ⟨by rfl,?_⟩) hHeld ?_
  rotate_left 1
  · intro W hSw;obtain ⟨r1,r2,-⟩:=hcells.out W (B2.out.trans (hSw.mono B2.out.size));obtain ⟨o0,o1,o2,o3,o4,o5,o6,o7,o8,o9,o10⟩:=op_cells r2;rw [hkI.out] at o0;unfold val6 at r1;obtain ⟨p0,p1,p2,p3,p4,p5,pf⟩:=six_cells r1;have r4:=hcX.out W hSw;unfold val6 at r4;obtain ⟨c0,c1,c2,c3,c4,c5,cf⟩:=six_cells r4;go_simp;try with_reducible rfl
  try simp only [Act.put,List.setIfInBounds_toArray,List.set_cons_zero,List.set_cons_succ]
  refine Top.wpAnyL_take (i:=4) (oi:={ dst:=some 59,op:=Go.Op.load 26 (Go.Operand.tmp 3),type:=26,pos:="ref.go:160",after:=#[],guard:=none }) (v:=?_) rfl (by kernel_rfl) (by kernel_rfl) (by kernel_rfl) (by kernel_rfl) (fun _ _ _ h=>h) (Or.inl ⟨by rfl,?_⟩) hHeld ?_
  rotate_left 1
  · intro W hSw;obtain ⟨r1,r2,-⟩:=hcells.out W (B2.out.trans (hSw.mono B2.out.size));obtain ⟨o0,o1,o2,o3,o4,o5,o6,o7,o8,o9,o10⟩:=op_cells r2;rw [hkI.out] at o0;unfold val6 at r1;obtain ⟨p0,p1,p2,p3,p4,p5,pf⟩:=six_cells r1;have r4:=hcX.out W hSw;unfold val6 at r4;obtain ⟨c0,c1,c2,c3,c4,c5,cf⟩:=six_cells r4;go_simp;try with_reducible rfl
  try simp only [Act.put,List.setIfInBounds_toArray,List.set_cons_zero,List.set_cons_succ]
  refine Top.wpAnyL_one (i:=5) (o:={ dst:=some 60,op:=Go.Op.call { callee:=Go.Callee.value (Go.Operand.func 71),args:=#[Go.Operand.tmp 58,Go.Operand.tmp 59],argTypes:=#[33,26] },type:=33,pos:="ref.go:160",after:=#[{ on:=3,ground:=Go.Ground.data },{ on:=4,ground:=Go.Ground.data }],guard:=none }) (by kernel_rfl) rfl (by decide) (fun K hK=>?_)
  go_simp
  refine (hc1.out _ hHeld).mono ?_
  rintro e w5 ⟨zA,zn,zc,zK,zm,zd,rfl,hz,hb5⟩
  have b5c:=Lib.hid (show Below X1.heap.size X1 w5 from hHeld.trans (hb5.mono hHeld.size))
  have s5:=hHeld.size
  have s56:=hb5.size
  have hz5:=Lib.hid (show NodeV (fun k=>T k∨(X1.heap.size≤k∧k < w5.heap.size)) w5 zA zn zc zK zm zd (attN x (docA o.key o.value x.attrs o.gone)) from hz.kept (fun k hk=>(by (rcases hk with hk | hk);(exact .inl hk);(exact .inr ⟨by omega,hk.2⟩))) (fun _ _=>rfl))
  unfold val6
  clear hz hb5
  go_simp
  refine hK.out _ _ ?_ (fun hNew=>?_)
  · exact b5c.out
  clear hK K hHeld
  have hHeld:=hNew
  clear hNew
  try simp only [Act.put,List.setIfInBounds_toArray,List.set_cons_zero,List.set_cons_succ]
  refine Top.wpAnyL_one (i:=6) (o:={ dst:=some 61,op:=Go.Op.call { callee:=Go.Callee.value (Go.Operand.func 67),args:=#[Go.Operand.tmp 55,Go.Operand.tmp 57,Go.Operand.tmp 60],argTypes:=#[33,22,33] },type:=33,pos:="ref.go:160",after:=#[{ on:=0,ground:=Go.Ground.data },{ on:=2,ground:=Go.Ground.data },{ on:=5,ground:=Go.Ground.data },{ on:=5,ground:=Go.Ground.chain }],guard:=none }) (by kernel_rfl) rfl (by decide) (fun K hK=>?_)
  go_simp
  have hcc:=hc2.out (fun k=>T k∨(X1.heap.size≤k∧k < w5.heap.size)) w5 (fun k hk=>(by (rcases hk with hk | hk);(exact hTW.out w5 (hWX.out w5 b5c.out) k hk);(exact hk.2))) (fun k hk=>.inl hk) b5c.out zA zK zn zc zm zd hz5.out
  unfold val6 at hcc
  refine (hcc).mono ?_
  rintro e w10 ⟨eA,en,ec,eK,em,ed,rfl,he,hb10⟩
  have b10c:=Lib.hid (hHeld.trans (hb10.mono hHeld.size))
  have s10:=hb10.size
  have he10:=Lib.hid (show NodeV (fun k=>T k∨(X1.heap.size≤k∧k < w10.heap.size)) w10 eA en ec eK em ed a from he.kept (fun k hk=>(by (rcases hk with hk | hk);(rcases hk with hk | hk);(exact .inl hk);(exact .inr ⟨hk.1,by omega⟩);(exact .inr ⟨by have:=b5c.out.size;omega,hk.2⟩))) (fun _ _=>rfl))
  unfold val6
  clear he hb10 hcc
  go_simp
  refine hK.out _ _ ?_ (fun hNew=>?_)
  · exact b10c.out
  clear hK K hHeld
  have hHeld:=hNew
  clear hNew
  try simp only [Act.put,List.setIfInBounds_toArray,List.set_cons_zero,List.set_cons_succ]
  have B10:=Lib.hid (B2.out.trans (b10c.out.mono B2.out.size))
  have Bw10:=Lib.hid (hwX.out.trans (b10c.out.mono hwX.out.size))
  obtain ⟨-,-,r3⟩:=hcells.out w10 B10.out
  have r3h:=Lib.hid r3
  have hl10:w.heap.size + 1 + 1 < w10.heap.size:=(Array.getElem?_eq_some_iff.1 r3).1
  unfold zero6 at r3
  obtain ⟨g0,g1,g2,g3,g4,g5,gf⟩:=six_cells r3
  clear r3
  refine Top.wpAnyL_last (o:={ dst:=none,op:=Go.Op.store 33 (Go.Operand.tmp 4) (Go.Operand.tmp 61),type:=0,pos:="ref.go:160",after:=#[{ on:=6,ground:=Go.Ground.data },{ on:=6,ground:=Go.Ground.chain },{ on:=0,ground:=Go.Ground.phase },{ on:=1,ground:=Go.Ground.phase },{ on:=2,ground:=Go.Ground.phase },{ on:=3,ground:=Go.Ground.phase },{ on:=4,ground:=Go.Ground.phase },{ on:=5,ground:=Go.Ground.phase },{ on:=6,ground:=Go.Ground.phase }],guard:=none }) (by kernel_rfl) rfl (fun K hK=>?_)
  go_simp
  refine hK _ _ ?_
  clear hK K
  try simp only [Act.put,List.setIfInBounds_toArray,List.set_cons_zero,List.set_cons_succ]
  refine wpAny_take (i:=8) (oi:={ dst:=some 5,op:=Go.Op.assign (Go.Operand.const (Go.Value.int Go.IntKind.i64 0)),type:=35,pos:="ref.go:160",after:=#[{ on:=7,ground:=Go.Ground.chain },{ on:=0,ground:=Go.Ground.phase },{ on:=1,ground:=Go.Ground.phase },{ on:=2,ground:=Go.Ground.phase },{ on:=3,ground:=Go.Ground.phase },{ on:=4,ground:=Go.Ground.phase },{ on:=5,ground:=Go.Ground.phase },{ on:=6,ground:=Go.Ground.phase },{ on:=7,ground:=Go.Ground.phase }],guard:=none }) (v:=.int .i64 0) rfl (by kernel_rfl) (by kernel_rfl) (by kernel_rfl) (fun _ _ _ h=>h) (Or.inl ⟨by rfl,fun W=>by go_simp⟩) ?_
  try simp only [Act.put,List.setIfInBounds_toArray,List.set_cons_zero,List.set_cons_succ]
  refine wpAny_done (by kernel_rfl) ?_ _
  refine hK0 _ _ ?_
  clear hK0
  go_wp2_with fail
  have r3:=r3h.out
  unfold zero6 at r3
  have hz3:=z5'.out
  obtain ⟨W9,hW9,R9,N9,B9,Z9⟩:=end_box (w:=w) (r:=w.heap.size + 1 + 1) (by omega) Bw10.out r3 he10.out (fun k hk=>(by (rcases hk with hk | hk);(have:=hT0 k hk;omega);(have:=B2.out.size;omega)))
  rw [← hW9]
  unfold val6 at R9
  obtain ⟨d0,d1,d2,d3,d4,d5,df⟩:=six_cells R9
  rw [← ha'.out]
  refine bodyPost_ret (v:=.tuple #[.agg (val6 a eA en ec eK em ed),.int .i64 0]) (by simp [results,Try.results23,go_sem,d0,d1,d2,d3,d4,d5,val6]) rfl ?_
  exact ⟨eA,en,ec,eK,em,ed,rfl,N9.kept (fun k hk=>(by (rcases hk with hk | hk);(exact .inl hk);(exact .inr ⟨by have:=B2.out.size;omega,by omega⟩))) (fun _ _=>rfl),B9⟩
set_option maxHeartbeats 8000000 in
theorem rapply_insert (T:Nat→Prop) (w:World) (hT0:∀ k,T k→k < w.heap.size) (t x:Nd) (aA kA:Option Addr) (an ac kn kc:Nat) (h:NodeV T w aA an ac kA kn kc t) (o:Ov) (s:OS) (ho:OpIn w o s) (hs:Slim o) (hbig:weighV t≤40000) (hk:o.kind = 1) (hv:validV t o = 0) (hx:atV t o.path = some x) (g:Nat) (hg:o.at_ = (g:Int)) (hgk:g≤x.kids.length) :
    Calls Try.prog 23 #[.agg (val6 t aA an ac kA kn kc),.agg (opCells o s)] w (AppA T w ((putV t o.path (x.withKids (insK g (.mk o.id o.leaf o.label [] [] []:Nd) x.kids))).getD Nd.zero) 0):=by
  obtain ⟨z1,z2,z3,z4,z5⟩:=three_new w (.cells (val6 t aA an ac kA kn kc) 33) (.cells (opCells o s) 26) (.cells zero6 33)
  obtain ⟨W3,hW3⟩:∃ W3,W3 = ((w.alloc (.cells (val6 t aA an ac kA kn kc) 33)).alloc (.cells (opCells o s) 26)).alloc (.cells zero6 33):=⟨_,rfl⟩
  rw [← hW3] at z1 z2 z3 z4 z5
  have hkI:=Lib.hid (show (o.kind:Int) = 1 by omega)
  have hh:=Lib.hid (fun (W:World) (hb:Below w.heap.size w W)=>h.kept (w':=W) (T':=T) (fun _ h=>h) fun k hk=>hb.block k (hT0 k hk))
  have hop:=Lib.hid (fun (W:World) (hb:Below w.heap.size w W)=>ho.below hb)
  have hTW:=Lib.hid (fun (W:World) (hb:Below w.heap.size w W) k (hk:T k)=>show k < W.heap.size from Nat.lt_of_lt_of_le (hT0 k hk) hb.size)
  have hval:=Lib.hid (rvalid_any W3 t aA kA an ac kn kc o s ((h.kept (T':=Old w) (fun k hk=>hT0 k hk) (fun _ _=>rfl)).below z4) (ho.below z4) (by omega))
  rw [hv] at hval
  have hat1:=Lib.hid (fun (W:World) (hb:Below w.heap.size w W)=>rat_T T W (hTW.out W hb) t aA kA an ac kn kc (hh.out W hb) s.pA s.pn s.pc o.path (hop.out W hb).path (Nat.le_trans ho.pnc ho.pcm))
  unfold RAtAns at hat1
  rw [hx] at hat1
  simp only [Option.getD_some,Option.isSome_some] at hat1
  have hcells:=Lib.hid (fun (W:World) (hb:Below W3.heap.size W3 W)=>show (W.heap[w.heap.size]? = some (.cells (val6 t aA an ac kA kn kc) 33 (0,0))∧W.heap[w.heap.size + 1]? = some (.cells (opCells o s) 26 (0,0))∧W.heap[w.heap.size + 1 + 1]? = some (.cells zero6 33 (0,0))) from
    ⟨(hb.block _ (by omega)).trans z1,(hb.block _ (by omega)).trans z2,(hb.block _ (by omega)).trans z3⟩)
  obtain ⟨o0,o1,o2,o3,o4,o5,o6,o7,o8,o9,o10⟩:=op_cells z2
  have z1u:=z1
  unfold val6 at z1u
  obtain ⟨p0,p1,p2,p3,p4,p5,pf⟩:=six_cells z1u
  have z4':=Lib.hid z4
  have z5':=Lib.hid z5
  have hbig':=Lib.hid hbig
  have hxw:=Lib.hid (at_count o.path t x hx).2
  have hxh:=Lib.hid hx
  have hraw:=Lib.hid ho
  have hvh:=Lib.hid hv
  have hkh:=Lib.hid hk
  have hgh:=Lib.hid hg
  have hgkh:=Lib.hid hgk
  rw [hW3] at o0 o1 o2 o3 o4 o5 o6 o7 o8 o9 o10 p0 p1 p2 p3 p4 p5 pf hval
  clear h ho z1 z1u z2 z3 z4 z5 hx hbig hv hk hg hgk
  unfold zero6 val6 opCells at hW3 o0 o1 o2 o3 o4 o5 o6 o7 o8 o9 o10 p0 p1 p2 p3 p4 p5 pf
  unfold val6 at hat1
  unfold zero6 val6 opCells at hval
  unfold val6 opCells
  rw [hkI.out] at hW3 hval o0 ⊢
  rw [hgh.out] at hW3 hval o2 ⊢
  go_enter Try.func23,Try.ntmps23
  go_upto_region 4 with (go_at_call 19;go_loud (refine hval.out.mono ?_;rw [← hW3];rintro e w1 ⟨rfl,hb⟩;have B1:=Lib.hid hb;clear o0 o1 o2 o3 o4 o5 o6 o7 o8 o9 o10 p0 p1 p2 p3 p4 p5 pf hb))
  obtain ⟨r1,r2,-⟩:=hcells.out w1 B1.out
  obtain ⟨o0,o1,o2,o3,o4,o5,o6,o7,o8,o9,o10⟩:=op_cells r2
  unfold val6 at r1
  obtain ⟨p0,p1,p2,p3,p4,p5,pf⟩:=six_cells r1
  rw [hkI.out] at o0
  rw [hgh.out] at o2
  clear r1 r2 hval
  go_upto_region 5 with (go_at_call 62;go_loud (refine (hat1.out w1 (z4'.out.trans (B1.out.mono z4'.out.size))).mono ?_;rintro e w2 ⟨xA,xn,xc,xK,xm,xd,rfl,hnx,hb⟩;have hnx':=Lib.hid hnx;have hb':=Lib.hid hb;clear o0 o1 o2 o3 o4 o5 o6 o7 o8 o9 o10 p0 p1 p2 p3 p4 p5 pf hnx hb))
  obtain ⟨X1,hX1⟩:∃ X,X = w2.alloc (.cells (val6 x xA xn xc xK xm xd) 33):=⟨_,rfl⟩
  have m1:=Lib.hid (show X1.heap[w2.heap.size]? = some (.cells (val6 x xA xn xc xK xm xd) 33 (0,0)) by rw [hX1];exact heap_alloc_new w2 _)
  have B2:=Lib.hid (show Below W3.heap.size W3 X1 by rw [hX1];exact B1.out.trans ((hb'.out.alloc hb'.out.size _).mono B1.out.size))
  have hs1:w2.heap.size < X1.heap.size:=by rw [hX1];simp
  have hs0:W3.heap.size≤w2.heap.size:=Nat.le_trans B1.out.size hb'.out.size
  have hwX:=Lib.hid (z4'.out.trans (B2.out.mono z4'.out.size))
  have hnx1:=Lib.hid (show NodeV T X1 xA xn xc xK xm xd x by rw [hX1];exact hnx'.out.kept (fun _ h=>h) fun k hk=>Go.heap_alloc_old _ _ (by have:=z4'.out.size;have:=hT0 k hk;omega))
  unfold val6 at hX1
  rw [← hX1]
  clear hX1 hnx' hb' hat1
  obtain ⟨b1,hbe⟩:∃ b,b = w2.heap.size:=⟨_,rfl⟩
  rw [← hbe] at m1 hs1 hs0 ⊢
  clear hbe
  obtain ⟨r1,r2,-⟩:=hcells.out X1 B2.out
  obtain ⟨o0,o1,o2,o3,o4,o5,o6,o7,o8,o9,o10⟩:=op_cells r2
  unfold val6 at r1
  obtain ⟨p0,p1,p2,p3,p4,p5,pf⟩:=six_cells r1
  rw [hkI.out] at o0
  rw [hgh.out] at o2
  clear r1 r2
  have hnxW:=Lib.hid (fun (W:World) (hb:Below X1.heap.size X1 W)=>show NodeV T W xA xn xc xK xm xd x from hnx1.out.kept (fun _ h=>h) fun k hk=>hb.block k (hTW.out X1 hwX.out k hk))
  have hWX:=Lib.hid (fun (W:World) (hb:Below X1.heap.size X1 W)=>show Below w.heap.size w W from hwX.out.trans (hb.mono hwX.out.size))
  have hc1:=Lib.hid (fun (W:World) (hb:Below X1.heap.size X1 W)=>rins_T T W (hTW.out W (hWX.out W hb)) x (.mk o.id o.leaf o.label [] [] []:Nd) xA xK none none xn xc xm xd 0 0 0 0 (hnxW.out W hb) (new_node T W o.id o.leaf o.label hraw.out.id (by have:=hs.label;unfold maxLen;omega)) (by have:=hxw.out;have:=hbig'.out;omega) g hgkh.out)
  obtain ⟨a,ha⟩:∃ a,a = (putV t o.path (x.withKids (insK g (.mk o.id o.leaf o.label [] [] []:Nd) x.kids))).getD Nd.zero:=⟨_,rfl⟩
  have ha':=Lib.hid ha
  have hc2:=Lib.hid (fun (T5:Nat→Prop) (W:World) (hT5:∀ k,T5 k→k < W.heap.size) (hto:∀ k,T k→T5 k) (hb:Below X1.heap.size X1 W) (zA zK:Option Addr) (zn zc zm zd:Nat) (hz:NodeV T5 W zA zn zc zK zm zd (x.withKids (insK g (.mk o.id o.leaf o.label [] [] []:Nd) x.kids)))=>by
    have h5:=rchange_T T5 W hT5 t (x.withKids (insK g (.mk o.id o.leaf o.label [] [] []:Nd) x.kids)) aA kA zA zK an ac kn kc zn zc zm zd ((hh.out W (hWX.out W hb)).kept hto (fun _ _=>rfl)) hz s.pA s.pn s.pc o.path (hop.out W (hWX.out W hb)).path hraw.out.pnc hraw.out.pcm (by have:=hbig'.out;omega) (by have:=weighV_with x (insK g (.mk o.id o.leaf o.label [] [] []:Nd) x.kids);have:=weighs_ins g (.mk o.id o.leaf o.label [] [] []:Nd) x.kids;have:weighV (.mk o.id o.leaf o.label [] [] []:Nd) = 1 + o.label.length:=(by simp [weighV,weighsV,attrsW]);have:=hs.label;have:=hxw.out;have:=hbig'.out;omega)
    rw [← ha] at h5
    exact h5)
  have hcX:=Lib.hid (fun (W:World) (hb:Below X1.heap.size X1 W)=>show W.heap[b1]? = some (.cells (val6 x xA xn xc xK xm xd) 33 (0,0)) from (hb.block b1 hs1).trans m1.out)
  clear ha
  unfold val6  at hc1
  skip
  go_wp2_with fail
  clear o0 o1 o2 o3 o4 o5 o6 o7 o8 o9 o10 p0 p1 p2 p3 p4 p5 pf
  rename_i K0 hK0
  refine Top.wp_region_L (fun W=>Below X1.heap.size X1 W) 15 rfl ((Below.refl X1.heap.size X1).drew) (fun hHeld=>?_)
  refine Top.wpAnyL_take (i:=0) (oi:={ dst:=some 27,op:=Go.Op.load 33 (Go.Operand.tmp 2),type:=33,pos:="ref.go:154",after:=#[],guard:=none }) (v:=?_) rfl (by kernel_rfl) (by kernel_rfl) (by kernel_rfl) (by kernel_rfl) (fun _ _ _ h=>h) (Or.inl ⟨by rfl,?_⟩) hHeld ?_
  rotate_left 1
  · intro W hSw;obtain ⟨r1,r2,-⟩:=hcells.out W (B2.out.trans (hSw.mono B2.out.size));obtain ⟨o0,o1,o2,o3,o4,o5,o6,o7,o8,o9,o10⟩:=op_cells r2;rw [hkI.out] at o0;rw [hgh.out] at o2;unfold val6 at r1;obtain ⟨p0,p1,p2,p3,p4,p5,pf⟩:=six_cells r1;have r4:=hcX.out W hSw;unfold val6 at r4;obtain ⟨c0,c1,c2,c3,c4,c5,cf⟩:=six_cells r4;go_simp;try with_reducible rfl
  try simp only [Act.put,List.setIfInBounds_toArray,List.set_cons_zero,List.set_cons_succ]
  refine Top.wpAnyL_take (i:=1) (oi:={ dst:=some 28,op:=Go.Op.fieldAddr 26 (Go.Operand.tmp 3) 1,type:=0,pos:="ref.go:154",after:=#[],guard:=none }) (v:=?_) rfl (by kernel_rfl) (by kernel_rfl) (by kernel_rfl) (by kernel_rfl) (fun _ _ _ h=>h) (Or.inl ⟨by rfl,?_⟩) hHeld ?_
  rotate_left 1
  · intro W hSw;obtain ⟨r1,r2,-⟩:=hcells.out W (B2.out.trans (hSw.mono B2.out.size));obtain ⟨o0,o1,o2,o3,o4,o5,o6,o7,o8,o9,o10⟩:=op_cells r2;rw [hkI.out] at o0;rw [hgh.out] at o2;unfold val6 at r1;obtain ⟨p0,p1,p2,p3,p4,p5,pf⟩:=six_cells r1;have r4:=hcX.out W hSw;unfold val6 at r4;obtain ⟨c0,c1,c2,c3,c4,c5,cf⟩:=six_cells r4;go_simp;try with_reducible rfl
  try simp only [Act.put,List.setIfInBounds_toArray,List.set_cons_zero,List.set_cons_succ]
  refine Top.wpAnyL_take (i:=2) (oi:={ dst:=some 29,op:=Go.Op.load 22 (Go.Operand.tmp 28),type:=22,pos:="ref.go:154",after:=#[{ on:=1,ground:=Go.Ground.data }],guard:=none }) (v:=?_) rfl (by kernel_rfl) (by kernel_rfl) (by kernel_rfl) (by kernel_rfl) (fun _ _ _ h=>h) (Or.inl ⟨by rfl,?_⟩) hHeld ?_
  rotate_left 1
  · intro W hSw;obtain ⟨r1,r2,-⟩:=hcells.out W (B2.out.trans (hSw.mono B2.out.size));obtain ⟨o0,o1,o2,o3,o4,o5,o6,o7,o8,o9,o10⟩:=op_cells r2;rw [hkI.out] at o0;rw [hgh.out] at o2;unfold val6 at r1;obtain ⟨p0,p1,p2,p3,p4,p5,pf⟩:=six_cells r1;have r4:=hcX.out W hSw;unfold val6 at r4;obtain ⟨c0,c1,c2,c3,c4,c5,cf⟩:=six_cells r4;go_simp;try with_reducible rfl
  try simp only [Act.put,List.setIfInBounds_toArray,List.set_cons_zero,List.set_cons_succ]
  refine Top.wpAnyL_take (i:=3) (oi:={ dst:=some 30,op:=Go.Op.load 33 (Go.Operand.tmp 7),type:=33,pos:="ref.go:154",after:=#[],guard:=none }) (v:=?_) rfl (by kernel_rfl) (by kernel_rfl) (by kernel_rfl) (by kernel_rfl) (fun _ _ _ h=>h) (Or.inl ⟨by rfl,?_⟩) hHeld ?_
  rotate_left 1
  · intro W hSw;obtain ⟨r1,r2,-⟩:=hcells.out W (B2.out.trans (hSw.mono B2.out.size));obtain ⟨o0,o1,o2,o3,o4,o5,o6,o7,o8,o9,o10⟩:=op_cells r2;rw [hkI.out] at o0;rw [hgh.out] at o2;unfold val6 at r1;obtain ⟨p0,p1,p2,p3,p4,p5,pf⟩:=six_cells r1;have r4:=hcX.out W hSw;unfold val6 at r4;obtain ⟨c0,c1,c2,c3,c4,c5,cf⟩:=six_cells r4;go_simp;try with_reducible rfl
  try simp only [Act.put,List.setIfInBounds_toArray,List.set_cons_zero,List.set_cons_succ]
  refine Top.wpAnyL_take (i:=4) (oi:={ dst:=some 31,op:=Go.Op.fieldAddr 26 (Go.Operand.tmp 3) 2,type:=0,pos:="ref.go:154",after:=#[],guard:=none }) (v:=?_) rfl (by kernel_rfl) (by kernel_rfl) (by kernel_rfl) (by kernel_rfl) (fun _ _ _ h=>h) (Or.inl ⟨by rfl,?_⟩) hHeld ?_
  rotate_left 1
  · intro W hSw;obtain ⟨r1,r2,-⟩:=hcells.out W (B2.out.trans (hSw.mono B2.out.size));obtain ⟨o0,o1,o2,o3,o4,o5,o6,o7,o8,o9,o10⟩:=op_cells r2;rw [hkI.out] at o0;rw [hgh.out] at o2;unfold val6 at r1;obtain ⟨p0,p1,p2,p3,p4,p5,pf⟩:=six_cells r1;have r4:=hcX.out W hSw;unfold val6 at r4;obtain ⟨c0,c1,c2,c3,c4,c5,cf⟩:=six_cells r4;go_simp;try with_reducible rfl
  try simp only [Act.put,List.setIfInBounds_toArray,List.set_cons_zero,List.set_cons_succ]
  refine Top.wpAnyL_take (i:=5) (oi:={ dst:=some 32,op:=Go.Op.load 3 (Go.Operand.tmp 31),type:=3,pos:="ref.go:154",after:=#[{ on:=4,ground:=Go.Ground.data }],guard:=none }) (v:=?_) rfl (by kernel_rfl) (by kernel_rfl) (by kernel_rfl) (by kernel_rfl) (fun _ _ _ h=>h) (Or.inl ⟨by rfl,?_⟩) hHeld ?_
  rotate_left 1
  · intro W hSw;obtain ⟨r1,r2,-⟩:=hcells.out W (B2.out.trans (hSw.mono B2.out.size));obtain ⟨o0,o1,o2,o3,o4,o5,o6,o7,o8,o9,o10⟩:=op_cells r2;rw [hkI.out] at o0;rw [hgh.out] at o2;unfold val6 at r1;obtain ⟨p0,p1,p2,p3,p4,p5,pf⟩:=six_cells r1;have r4:=hcX.out W hSw;unfold val6 at r4;obtain ⟨c0,c1,c2,c3,c4,c5,cf⟩:=six_cells r4;go_simp;try with_reducible rfl
  try simp only [Act.put,List.setIfInBounds_toArray,List.set_cons_zero,List.set_cons_succ]
  refine Top.wpAnyL_take (i:=6) (oi:={ dst:=some 33,op:=Go.Op.fieldAddr 26 (Go.Operand.tmp 3) 4,type:=0,pos:="ref.go:154",after:=#[],guard:=none }) (v:=?_) rfl (by kernel_rfl) (by kernel_rfl) (by kernel_rfl) (by kernel_rfl) (fun _ _ _ h=>h) (Or.inl ⟨by rfl,?_⟩) hHeld ?_
  rotate_left 1
  · intro W hSw;obtain ⟨r1,r2,-⟩:=hcells.out W (B2.out.trans (hSw.mono B2.out.size));obtain ⟨o0,o1,o2,o3,o4,o5,o6,o7,o8,o9,o10⟩:=op_cells r2;rw [hkI.out] at o0;rw [hgh.out] at o2;unfold val6 at r1;obtain ⟨p0,p1,p2,p3,p4,p5,pf⟩:=six_cells r1;have r4:=hcX.out W hSw;unfold val6 at r4;obtain ⟨c0,c1,c2,c3,c4,c5,cf⟩:=six_cells r4;go_simp;try with_reducible rfl
  try simp only [Act.put,List.setIfInBounds_toArray,List.set_cons_zero,List.set_cons_succ]
  refine Top.wpAnyL_take (i:=7) (oi:={ dst:=some 34,op:=Go.Op.load 23 (Go.Operand.tmp 33),type:=23,pos:="ref.go:154",after:=#[{ on:=6,ground:=Go.Ground.data }],guard:=none }) (v:=?_) rfl (by kernel_rfl) (by kernel_rfl) (by kernel_rfl) (by kernel_rfl) (fun _ _ _ h=>h) (Or.inl ⟨by rfl,?_⟩) hHeld ?_
  rotate_left 1
  · intro W hSw;obtain ⟨r1,r2,-⟩:=hcells.out W (B2.out.trans (hSw.mono B2.out.size));obtain ⟨o0,o1,o2,o3,o4,o5,o6,o7,o8,o9,o10⟩:=op_cells r2;rw [hkI.out] at o0;rw [hgh.out] at o2;unfold val6 at r1;obtain ⟨p0,p1,p2,p3,p4,p5,pf⟩:=six_cells r1;have r4:=hcX.out W hSw;unfold val6 at r4;obtain ⟨c0,c1,c2,c3,c4,c5,cf⟩:=six_cells r4;go_simp;try with_reducible rfl
  try simp only [Act.put,List.setIfInBounds_toArray,List.set_cons_zero,List.set_cons_succ]
  refine Top.wpAnyL_take (i:=8) (oi:={ dst:=some 35,op:=Go.Op.fieldAddr 26 (Go.Operand.tmp 3) 5,type:=0,pos:="ref.go:154",after:=#[],guard:=none }) (v:=?_) rfl (by kernel_rfl) (by kernel_rfl) (by kernel_rfl) (by kernel_rfl) (fun _ _ _ h=>h) (Or.inl ⟨by rfl,?_⟩) hHeld ?_
  rotate_left 1
  · intro W hSw;obtain ⟨r1,r2,-⟩:=hcells.out W (B2.out.trans (hSw.mono B2.out.size));obtain ⟨o0,o1,o2,o3,o4,o5,o6,o7,o8,o9,o10⟩:=op_cells r2;rw [hkI.out] at o0;rw [hgh.out] at o2;unfold val6 at r1;obtain ⟨p0,p1,p2,p3,p4,p5,pf⟩:=six_cells r1;have r4:=hcX.out W hSw;unfold val6 at r4;obtain ⟨c0,c1,c2,c3,c4,c5,cf⟩:=six_cells r4;go_simp;try with_reducible rfl
  try simp only [Act.put,List.setIfInBounds_toArray,List.set_cons_zero,List.set_cons_succ]
  refine Top.wpAnyL_take (i:=9) (oi:={ dst:=some 36,op:=Go.Op.load 4 (Go.Operand.tmp 35),type:=4,pos:="ref.go:154",after:=#[{ on:=8,ground:=Go.Ground.data }],guard:=none }) (v:=?_) rfl (by kernel_rfl) (by kernel_rfl) (by kernel_rfl) (by kernel_rfl) (fun _ _ _ h=>h) (Or.inl ⟨by rfl,?_⟩) hHeld ?_
  rotate_left 1
  · intro W hSw;obtain ⟨r1,r2,-⟩:=hcells.out W (B2.out.trans (hSw.mono B2.out.size));obtain ⟨o0,o1,o2,o3,o4,o5,o6,o7,o8,o9,o10⟩:=op_cells r2;rw [hkI.out] at o0;rw [hgh.out] at o2;unfold val6 at r1;obtain ⟨p0,p1,p2,p3,p4,p5,pf⟩:=six_cells r1;have r4:=hcX.out W hSw;unfold val6 at r4;obtain ⟨c0,c1,c2,c3,c4,c5,cf⟩:=six_cells r4;go_simp;try with_reducible rfl
  try simp only [Act.put,List.setIfInBounds_toArray,List.set_cons_zero,List.set_cons_succ]
  refine Top.wpAnyL_take (i:=10) (oi:={ dst:=some 37,op:=Go.Op.fieldAddr 26 (Go.Operand.tmp 3) 6,type:=0,pos:="ref.go:154",after:=#[],guard:=none }) (v:=?_) rfl (by kernel_rfl) (by kernel_rfl) (by kernel_rfl) (by kernel_rfl) (fun _ _ _ h=>h) (Or.inl ⟨by rfl,?_⟩) hHeld ?_
  rotate_left 1
  · intro W hSw;obtain ⟨r1,r2,-⟩:=hcells.out W (B2.out.trans (hSw.mono B2.out.size));obtain ⟨o0,o1,o2,o3,o4,o5,o6,o7,o8,o9,o10⟩:=op_cells r2;rw [hkI.out] at o0;rw [hgh.out] at o2;unfold val6 at r1;obtain ⟨p0,p1,p2,p3,p4,p5,pf⟩:=six_cells r1;have r4:=hcX.out W hSw;unfold val6 at r4;obtain ⟨c0,c1,c2,c3,c4,c5,cf⟩:=six_cells r4;go_simp;try with_reducible rfl
  try simp only [Act.put,List.setIfInBounds_toArray,List.set_cons_zero,List.set_cons_succ]
  refine Top.wpAnyL_take (i:=11) (oi:={ dst:=some 38,op:=Go.Op.load 9 (Go.Operand.tmp 37),type:=9,pos:="ref.go:154",after:=#[{ on:=10,ground:=Go.Ground.data }],guard:=none }) (v:=?_) rfl (by kernel_rfl) (by kernel_rfl) (by kernel_rfl) (by kernel_rfl) (fun _ _ _ h=>h) (Or.inl ⟨by rfl,?_⟩) hHeld ?_
  rotate_left 1
  · intro W hSw;obtain ⟨r1,r2,-⟩:=hcells.out W (B2.out.trans (hSw.mono B2.out.size));obtain ⟨o0,o1,o2,o3,o4,o5,o6,o7,o8,o9,o10⟩:=op_cells r2;rw [hkI.out] at o0;rw [hgh.out] at o2;unfold val6 at r1;obtain ⟨p0,p1,p2,p3,p4,p5,pf⟩:=six_cells r1;have r4:=hcX.out W hSw;unfold val6 at r4;obtain ⟨c0,c1,c2,c3,c4,c5,cf⟩:=six_cells r4;go_simp;try with_reducible rfl
  try simp only [Act.put,List.setIfInBounds_toArray,List.set_cons_zero,List.set_cons_succ]
  refine Top.wpAnyL_take (i:=12) (oi:={ dst:=some 39,op:=Go.Op.build 33 #[(0,Go.Operand.tmp 34),(1,Go.Operand.tmp 36),(2,Go.Operand.tmp 38)],type:=33,pos:="ref.go:154",after:=#[{ on:=7,ground:=Go.Ground.data },{ on:=9,ground:=Go.Ground.data },{ on:=11,ground:=Go.Ground.data }],guard:=none }) (v:=?_) rfl (by kernel_rfl) (by kernel_rfl) (by kernel_rfl) (by kernel_rfl) (fun _ _ _ h=>h) (Or.inl ⟨by rfl,?_⟩) hHeld ?_
  rotate_left 1
  · intro W hSw;obtain ⟨r1,r2,-⟩:=hcells.out W (B2.out.trans (hSw.mono B2.out.size));obtain ⟨o0,o1,o2,o3,o4,o5,o6,o7,o8,o9,o10⟩:=op_cells r2;rw [hkI.out] at o0;rw [hgh.out] at o2;unfold val6 at r1;obtain ⟨p0,p1,p2,p3,p4,p5,pf⟩:=six_cells r1;have r4:=hcX.out W hSw;unfold val6 at r4;obtain ⟨c0,c1,c2,c3,c4,c5,cf⟩:=six_cells r4;go_simp;try with_reducible rfl
  try simp only [Act.put,List.setIfInBounds_toArray,List.set_cons_zero,List.set_cons_succ]
  refine Top.wpAnyL_one (i:=13) (o:={ dst:=some 40,op:=Go.Op.call { callee:=Go.Callee.value (Go.Operand.func 68),args:=#[Go.Operand.tmp 30,Go.Operand.tmp 32,Go.Operand.tmp 39],argTypes:=#[33,3,33] },type:=33,pos:="ref.go:154",after:=#[{ on:=3,ground:=Go.Ground.data },{ on:=5,ground:=Go.Ground.data },{ on:=12,ground:=Go.Ground.data }],guard:=none }) (by kernel_rfl) rfl (by decide) (fun K hK=>?_)
  go_simp
  refine (hc1.out _ hHeld).mono ?_
  rintro e w5 ⟨zA,zn,zc,zK,zm,zd,rfl,hz,hb5⟩
  have b5c:=Lib.hid (show Below X1.heap.size X1 w5 from hHeld.trans (hb5.mono hHeld.size))
  have s5:=hHeld.size
  have s56:=hb5.size
  have hz5:=Lib.hid (show NodeV (fun k=>T k∨(X1.heap.size≤k∧k < w5.heap.size)) w5 zA zn zc zK zm zd (x.withKids (insK g (.mk o.id o.leaf o.label [] [] []:Nd) x.kids)) from hz.kept (fun k hk=>(by (rcases hk with hk | hk);(exact .inl hk);(exact .inr ⟨by omega,hk.2⟩))) (fun _ _=>rfl))
  unfold val6
  clear hz hb5
  go_simp
  refine hK.out _ _ ?_ (fun hNew=>?_)
  · exact b5c.out
  clear hK K hHeld
  have hHeld:=hNew
  clear hNew
  try simp only [Act.put,List.setIfInBounds_toArray,List.set_cons_zero,List.set_cons_succ]
  refine Top.wpAnyL_one (i:=14) (o:={ dst:=some 41,op:=Go.Op.call { callee:=Go.Callee.value (Go.Operand.func 67),args:=#[Go.Operand.tmp 27,Go.Operand.tmp 29,Go.Operand.tmp 40],argTypes:=#[33,22,33] },type:=33,pos:="ref.go:154",after:=#[{ on:=0,ground:=Go.Ground.data },{ on:=2,ground:=Go.Ground.data },{ on:=13,ground:=Go.Ground.data },{ on:=13,ground:=Go.Ground.chain }],guard:=none }) (by kernel_rfl) rfl (by decide) (fun K hK=>?_)
  go_simp
  have hcc:=hc2.out (fun k=>T k∨(X1.heap.size≤k∧k < w5.heap.size)) w5 (fun k hk=>(by (rcases hk with hk | hk);(exact hTW.out w5 (hWX.out w5 b5c.out) k hk);(exact hk.2))) (fun k hk=>.inl hk) b5c.out zA zK zn zc zm zd hz5.out
  unfold val6 at hcc
  refine (hcc).mono ?_
  rintro e w10 ⟨eA,en,ec,eK,em,ed,rfl,he,hb10⟩
  have b10c:=Lib.hid (hHeld.trans (hb10.mono hHeld.size))
  have s10:=hb10.size
  have he10:=Lib.hid (show NodeV (fun k=>T k∨(X1.heap.size≤k∧k < w10.heap.size)) w10 eA en ec eK em ed a from he.kept (fun k hk=>(by (rcases hk with hk | hk);(rcases hk with hk | hk);(exact .inl hk);(exact .inr ⟨hk.1,by omega⟩);(exact .inr ⟨by have:=b5c.out.size;omega,hk.2⟩))) (fun _ _=>rfl))
  unfold val6
  clear he hb10 hcc
  go_simp
  refine hK.out _ _ ?_ (fun hNew=>?_)
  · exact b10c.out
  clear hK K hHeld
  have hHeld:=hNew
  clear hNew
  try simp only [Act.put,List.setIfInBounds_toArray,List.set_cons_zero,List.set_cons_succ]
  have B10:=Lib.hid (B2.out.trans (b10c.out.mono B2.out.size))
  have Bw10:=Lib.hid (hwX.out.trans (b10c.out.mono hwX.out.size))
  obtain ⟨-,-,r3⟩:=hcells.out w10 B10.out
  have r3h:=Lib.hid r3
  have hl10:w.heap.size + 1 + 1 < w10.heap.size:=(Array.getElem?_eq_some_iff.1 r3).1
  unfold zero6 at r3
  obtain ⟨g0,g1,g2,g3,g4,g5,gf⟩:=six_cells r3
  clear r3
  refine Top.wpAnyL_last (o:={ dst:=none,op:=Go.Op.store 33 (Go.Operand.tmp 4) (Go.Operand.tmp 41),type:=0,pos:="ref.go:154",after:=#[{ on:=14,ground:=Go.Ground.data },{ on:=14,ground:=Go.Ground.chain },{ on:=0,ground:=Go.Ground.phase },{ on:=1,ground:=Go.Ground.phase },{ on:=2,ground:=Go.Ground.phase },{ on:=3,ground:=Go.Ground.phase },{ on:=4,ground:=Go.Ground.phase },{ on:=5,ground:=Go.Ground.phase },{ on:=6,ground:=Go.Ground.phase },{ on:=7,ground:=Go.Ground.phase },{ on:=8,ground:=Go.Ground.phase },{ on:=9,ground:=Go.Ground.phase },{ on:=10,ground:=Go.Ground.phase },{ on:=11,ground:=Go.Ground.phase },{ on:=12,ground:=Go.Ground.phase },{ on:=13,ground:=Go.Ground.phase },{ on:=14,ground:=Go.Ground.phase }],guard:=none }) (by kernel_rfl) rfl (fun K hK=>?_)
  go_simp
  refine hK _ _ ?_
  clear hK K
  try simp only [Act.put,List.setIfInBounds_toArray,List.set_cons_zero,List.set_cons_succ]
  refine wpAny_take (i:=16) (oi:={ dst:=some 5,op:=Go.Op.assign (Go.Operand.const (Go.Value.int Go.IntKind.i64 0)),type:=35,pos:="ref.go:154",after:=#[{ on:=15,ground:=Go.Ground.chain },{ on:=0,ground:=Go.Ground.phase },{ on:=1,ground:=Go.Ground.phase },{ on:=2,ground:=Go.Ground.phase },{ on:=3,ground:=Go.Ground.phase },{ on:=4,ground:=Go.Ground.phase },{ on:=5,ground:=Go.Ground.phase },{ on:=6,ground:=Go.Ground.phase },{ on:=7,ground:=Go.Ground.phase },{ on:=8,ground:=Go.Ground.phase },{ on:=9,ground:=Go.Ground.phase },{ on:=10,ground:=Go.Ground.phase },{ on:=11,ground:=Go.Ground.phase },{ on:=12,ground:=Go.Ground.phase },{ on:=13,ground:=Go.Ground.phase },{ on:=14,ground:=Go.Ground.phase },{ on:=15,ground:=Go.Ground.phase }],guard:=none }) (v:=.int .i64 0) rfl (by kernel_rfl) (by kernel_rfl) (by kernel_rfl) (fun _ _ _ h=>h) (Or.inl ⟨by rfl,fun W=>by go_simp⟩) ?_
  try simp only [Act.put,List.setIfInBounds_toArray,List.set_cons_zero,List.set_cons_succ]
  refine wpAny_done (by kernel_rfl) ?_ _
  refine hK0 _ _ ?_
  clear hK0
  go_wp2_with fail
  have r3:=r3h.out
  unfold zero6 at r3
  have hz3:=z5'.out
  obtain ⟨W9,hW9,R9,N9,B9,Z9⟩:=end_box (w:=w) (r:=w.heap.size + 1 + 1) (by omega) Bw10.out r3 he10.out (fun k hk=>(by (rcases hk with hk | hk);(have:=hT0 k hk;omega);(have:=B2.out.size;omega)))
  rw [← hW9]
  unfold val6 at R9
  obtain ⟨d0,d1,d2,d3,d4,d5,df⟩:=six_cells R9
  rw [← ha'.out]
  refine bodyPost_ret (v:=.tuple #[.agg (val6 a eA en ec eK em ed),.int .i64 0]) (by simp [results,Try.results23,go_sem,d0,d1,d2,d3,d4,d5,val6]) rfl ?_
  exact ⟨eA,en,ec,eK,em,ed,rfl,N9.kept (fun k hk=>(by (rcases hk with hk | hk);(exact .inl hk);(exact .inr ⟨by have:=B2.out.size;omega,by omega⟩))) (fun _ _=>rfl),B9⟩
end Go.Proofs.Ytmipodnffhngaaa.Top
namespace Go.Proofs.Ytmipodnffhngaaa.Top
open Go.RowKit
set_option maxRecDepth 20000
set_option linter.unusedVariables false

theorem at_from:∀ (from_ to_:List Int) (t x0 y m x:Nd) (g:Nat),atV t from_ = some x0→atV t to_ = some y→¬ from_ <+: to_→g≤y.kids.length→modV t to_ (insK g x) = some m→atV m (docFrom from_ to_ g) = some x0
  | [],to_,t,x0,y,m,x,g,_,_,h,_,_=>absurd List.nil_prefix h
  | fi :: r,[],t,x0,y,m,x,g,h1,h2,_,h5,h6=>by
    obtain ⟨f,k,rfl,hk,hx⟩:=atV_cons h1
    simp only [atV,Option.some.injEq] at h2
    subst h2
    rw [mod_nil] at h6
    injection h6 with h6
    have hj:docFrom ((f:Int) :: r) [] g = ((if g≤f then f + 1 else f:Nat):Int) :: r:=by
      simp only [docFrom]
      by_cases hg:g≤f
      · rw [if_pos (show (g:Int)≤(f:Int) by omega),if_pos hg];rfl
      · rw [if_neg (show ¬ (g:Int)≤(f:Int) by omega),if_neg hg]
    rw [hj,← h6]
    have hk2:(t.withKids (insK g x t.kids)).kids[(if g≤f then f + 1 else f:Nat)]? = some k:=by
      rw [with_kids,get_ins h5]
      by_cases hg:g≤f
      · rw [if_pos hg,if_neg (by omega),if_neg (by omega)]
        exact hk
      · rw [if_neg hg,if_pos (by omega)]
        exact hk
    rw [atV_nat hk2]
    exact hx
  | fi :: r,ei :: s,t,x0,y,m,x,g,h1,h2,h3,h5,h6=>by
    obtain ⟨f,k,rfl,hk,hx⟩:=atV_cons h1
    obtain ⟨e,z,rfl,hz,hy⟩:=atV_cons h2
    rw [mod_nat hz] at h6
    obtain ⟨z',hz'⟩:=mod_some (f:=insK g x) hy
    rw [hz'] at h6
    simp only [Option.map_some,Option.some.injEq] at h6
    by_cases he:f = e
    · subst he
      rw [hk] at hz
      injection hz with hz
      subst hz
      simp only [docFrom,if_true]
      have hk2:m.kids[f]? = some z':=by rw [← h6,with_kids,List.getElem?_set_self (List.getElem?_eq_some_iff.1 hk).1]
      rw [atV_nat hk2]
      exact at_from r s k x0 y z' x g hx hy (fun h=>h3 (by rw [List.cons_prefix_cons];exact ⟨rfl,h⟩)) h5 hz'
    · have hne:¬ (f:Int) = (e:Int):=by omega
      simp only [docFrom,if_neg hne]
      have hk2:m.kids[f]? = some k:=by rw [← h6,with_kids,List.getElem?_set_ne (fun h=>he h.symm)];exact hk
      rw [atV_nat hk2]
      exact hx
theorem at_snoc {t x:Nd} {p:List Int} (h:atV t p = some x) (hne:p ≠ []):∃ q,∃ c:Nat,p = q ++ [(c:Int)]:=by
  have e:p = p.dropLast ++ [p.getLast hne]:=(List.dropLast_concat_getLast hne).symm
  rw [e] at h
  obtain ⟨y,j,-,hj,-⟩:=at_parent _ _ _ _ h
  exact ⟨p.dropLast,j,by rw [← hj];exact e⟩
theorem docFrom_ne:∀ (p t:List Int) (g:Nat),p ≠ []→docFrom p t g ≠ []
  | [],_,_,h=>absurd rfl h
  | f :: r,[],g,_=>by simp [docFrom]
  | f :: r,e :: s,g,_=>by simp only [docFrom];split <;> simp
set_option maxHeartbeats 4000000 in
theorem rapply_bad (T:Nat→Prop) (w:World) (hT0:∀ k,T k→k < w.heap.size) (t:Nd) (aA kA:Option Addr) (an ac kn kc:Nat) (h:NodeV T w aA an ac kA kn kc t) (o:Ov) (s:OS) (ho:OpIn w o s) (hs:Slim o) (hbig:weighV t≤40000) (hv0:validV t o ≠ 0) :
    Calls Try.prog 23 #[.agg (val6 t aA an ac kA kn kc),.agg (opCells o s)] w (AppA T w Nd.zero (validV t o)):=by
  obtain ⟨z1,z2,z3,z4,z5⟩:=three_new w (.cells (val6 t aA an ac kA kn kc) 33) (.cells (opCells o s) 26) (.cells zero6 33)
  obtain ⟨W3,hW3⟩:∃ W3,W3 = ((w.alloc (.cells (val6 t aA an ac kA kn kc) 33)).alloc (.cells (opCells o s) 26)).alloc (.cells zero6 33):=⟨_,rfl⟩
  rw [← hW3] at z1 z2 z3 z4 z5
  have hval:=Lib.hid (rvalid_any W3 t aA kA an ac kn kc o s ((h.kept (T':=Old w) (fun k hk=>hT0 k hk) (fun _ _=>rfl)).below z4) (ho.below z4) (by omega))
  obtain ⟨o0,o1,o2,o3,o4,o5,o6,o7,o8,o9,o10⟩:=op_cells z2
  have z1u:=z1
  unfold val6 at z1u
  obtain ⟨p0,p1,p2,p3,p4,p5,pf⟩:=six_cells z1u
  have z1':=Lib.hid z1
  have z2':=Lib.hid z2
  have z3':=Lib.hid z3
  have z4':=Lib.hid z4
  have z5':=Lib.hid z5
  rw [hW3] at o0 o1 o2 o3 o4 o5 o6 o7 o8 o9 o10 p0 p1 p2 p3 p4 p5 pf hval
  obtain ⟨vv,hvv⟩:∃ vv,vv = validV t o:=⟨_,rfl⟩
  rw [← hvv] at hval hv0 ⊢
  have hv:=hv0
  clear h ho z1 z1u z2 z3 z4 z5 hvv hv0
  unfold zero6 val6 opCells at hW3 hval o0 o1 o2 o3 o4 o5 o6 o7 o8 o9 o10 p0 p1 p2 p3 p4 p5 pf
  unfold val6 opCells
  have hvb:(vv == 0) = false:=by simpa using hv
  have hvn:(vv != 0) = true:=by simpa using hv
  go_enter Try.func23,Try.ntmps23
  go_wp2_with (go_at_call 19;go_loud (refine hval.out.mono ?_;rw [← hW3];rintro e w1 ⟨rfl,hb⟩;have hb':=Lib.hid hb;have hsb:=hb.size;have r3:=(hb.block (w.heap.size + 1 + 1) (by have:=z5'.out;omega)).trans z3'.out;have hr:=Lib.hid r3;clear o0 o1 o2 o3 o4 o5 o6 o7 o8 o9 o10 p0 p1 p2 p3 p4 p5 pf;unfold zero6 at r3;obtain ⟨q0,q1,q2,q3,q4,q5,qf⟩:=six_cells r3;have hne:w.heap.size + 1 + 1 < w1.heap.size:=(by have:=z5'.out;omega);clear hb hsb r3))
  obtain ⟨W9,hW9,R9,N9,B9⟩:=end_node0 (T:=T) (a:=Nd.zero) (yA:=none) (yn:=0) (yc:=0) (yK:=none) (ym:=0) (yd:=0) (fun k hk=>hT0 k hk) (r:=w.heap.size + 1 + 1) (b:=W3.heap.size) (by omega) (by have:=z5'.out;omega) (z4'.out.trans (hb'.out.mono z4'.out.size)) hr.out zero_node
  have hW9':W9 = ((((((w1.setCell ⟨w.heap.size + 1 + 1,0,none⟩ (.int .u64 0)).setCell ⟨w.heap.size + 1 + 1,1,none⟩ (.bool false)).setCell ⟨w.heap.size + 1 + 1,2,none⟩ (.string ⟨#[]⟩)).setCell ⟨w.heap.size + 1 + 1,3,none⟩ (.slice none 0 0)).setCell ⟨w.heap.size + 1 + 1,4,none⟩ (.string ⟨#[]⟩)).setCell ⟨w.heap.size + 1 + 1,5,none⟩ (.slice none 0 0)):=hW9
  rw [← hW9']
  unfold val6 at R9
  obtain ⟨d0,d1,d2,d3,d4,d5,df⟩:=six_cells R9
  refine bodyPost_ret (v:=.tuple #[.agg (val6 Nd.zero none 0 0 none 0 0),.int .i64 vv]) (by simp [results,Try.results23,go_sem,d0,d1,d2,d3,d4,d5,val6]) rfl ?_
  exact ⟨none,0,0,none,0,0,rfl,N9,B9⟩
theorem rapply_any (T:Nat→Prop) (w:World) (hT0:∀ k,T k→k < w.heap.size) (t:Nd) (aA kA:Option Addr) (an ac kn kc:Nat) (h:NodeV T w aA an ac kA kn kc t) (o:Ov) (s:OS) (ho:OpIn w o s) (hs:Slim o) (hbig:weighV t≤40000) :
    Calls Try.prog 23 #[.agg (val6 t aA an ac kA kn kc),.agg (opCells o s)] w (AppA T w (applyV t o) (validV t o)):=by
  by_cases hv:validV t o = 0
  · have hap:applyV t o = afterV t o:=by unfold applyV;rw [if_pos hv]
    have hrf:rightsV ltB t = true∧faultV t o = 0:=by
      have hv2:=hv
      unfold validV at hv2
      cases hr:rightV ltB t with
      | false=>rw [hr] at hv2;simp at hv2
      | true=>rw [hr] at hv2;unfold rightV at hr;rw [Bool.and_eq_true] at hr;exact ⟨hr.2,by simpa using hv2⟩
    obtain ⟨hr,hf⟩:=hrf
    obtain ⟨hfm,hroot,x,hx,h1,h3,h6⟩:=fault_none hf
    have hmay:=may_nat hfm
    rw [hap,hv]
    by_cases k1:o.kind = 1
    · have hgb:gapB o.at_ = true:=by
        unfold formedV at hfm
        rw [if_pos k1] at hfm
        simp only [Bool.and_eq_true] at hfm
        exact hfm.2.1
      obtain ⟨g,hg,-⟩:=gap_nat hgb
      have hgl:=(gap_none (h1 k1)).2
      rw [show afterV t o = (putV t o.path (x.withKids (insK g (.mk o.id o.leaf o.label [] [] []) x.kids))).getD Nd.zero by
        unfold afterV
        rw [if_pos k1,mod_at hx,hg,Int.toNat_natCast]]
      exact rapply_insert T w hT0 t x aA kA an ac kn kc h o s ho hs hbig k1 hv hx g hg (by omega)
    · by_cases k2:o.kind = 2
      · have hne:o.path ≠ []:=fun e=>hroot ⟨.inl k2,e⟩
        obtain ⟨q,c,hq⟩:=path_last hne hmay
        rw [show afterV t o = (delAt t o.path).getD Nd.zero by unfold afterV;rw [if_neg k1,if_pos k2]]
        exact rapply_del T w hT0 t x aA kA an ac kn kc h o s ho hs hbig k2 hv hx q c hq
      · by_cases k3:o.kind = 3
        · have hne:o.path ≠ []:=fun e=>hroot ⟨.inr k3,e⟩
          obtain ⟨hw,y,hy,hge⟩:=h3 k3
          have hfm3:=hfm
          unfold formedV at hfm3
          rw [if_neg k1,if_neg k2,if_pos k3] at hfm3
          simp only [Bool.and_eq_true] at hfm3
          obtain ⟨g,hg,hg1⟩:=gap_nat hfm3.2.1
          have hgl:=(gap_none hge).2
          have hpre:¬ o.path <+: o.to_:=by rw [within_pre] at hw;exact of_decide_eq_false hw
          obtain ⟨m,hm⟩:=mod_some (f:=insK g x) hy
          have hx2:=at_from o.path o.to_ t x y m x g hx hy hpre (by omega) hm
          obtain ⟨q',c',hq⟩:=at_snoc hx2 (docFrom_ne _ _ _ hne)
          have hmp:=hm
          rw [mod_at hy] at hmp
          rw [show afterV t o = (delAt m (docFrom o.path o.to_ g)).getD Nd.zero by
            unfold afterV
            rw [if_neg k1,if_neg k2,if_pos k3,hx,hg,Int.toNat_natCast]
            show ((modV t o.to_ (insK g x)).bind _).getD _ = _
            rw [hm]
            rfl]
          refine rapply_move T w hT0 t x aA kA an ac kn kc h o s ho hs hbig k3 hv hx y m m x g q' c' hy hg (by omega) hmp hq hx2 ?_
          obtain ⟨a,p1,-,-,-,p5⟩:=put_all o.to_ t (y.withKids (insK g x y.kids)) y hy
          rw [hmp] at p1
          injection p1 with p1
          subst p1
          have e1:=weighV_with y (insK g x y.kids)
          have e2:=weighs_ins g x y.kids
          have e3:=(at_count o.path t x hx).2
          omega
        · by_cases k4:o.kind = 4
          · rw [show afterV t o = (putV t o.path (attN x (docA o.key o.value x.attrs o.gone))).getD Nd.zero by
              unfold afterV
              rw [if_neg k1,if_neg k2,if_neg k3,if_pos k4,hx]
              rfl]
            exact rapply_attr T w hT0 t x aA kA an ac kn kc h o s ho hs hbig k4 hv hx (rights_attrs (rights_at _ _ _ hr hx))
          · by_cases k5:o.kind = 5
            · rw [show afterV t o = (putV t o.path (labN x o.label)).getD Nd.zero by
                unfold afterV
                rw [if_neg k1,if_neg k2,if_neg k3,if_neg k4,if_pos k5,hx]
                rfl]
              exact rapply_relabel T w hT0 t x aA kA an ac kn kc h o s ho hs hbig k5 hv hx
            · have k6:=form_kind hfm k1 k2 k3 k4 k5
              have hrp:P5.rightV o.pieces = true:=by
                have hh:=hfm
                unfold formedV at hh
                rw [if_neg k1,if_neg k2,if_neg k3,if_neg k4,if_neg k5,if_pos k6,Bool.and_eq_true] at hh
                exact hh.2
              rw [show afterV t o = (putV t o.path (textN x (Ltx.apply x.text (pcs o.pieces)))).getD Nd.zero by
                unfold afterV
                rw [if_neg k1,if_neg k2,if_neg k3,if_neg k4,if_neg k5,hx]
                rfl]
              exact rapply_edit T w hT0 t x aA kA an ac kn kc h o s ho hs hbig k6 hv hx hrp (edit_none (h6 k6)).2 (by
                have e1:=Ltx.apply_len (pcs o.pieces) x.text
                have e2:=puts_pcs o.pieces
                have e3:=hs.puts
                have e4:=(at_count o.path t x hx).2
                have e5:=weighV_eq x
                omega)
  · rw [show applyV t o = Nd.zero by unfold applyV;rw [if_neg hv]]
    exact rapply_bad T w hT0 t aA kA an ac kn kc h o s ho hs hbig hv
end Go.Proofs.Ytmipodnffhngaaa.Top
