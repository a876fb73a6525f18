/- MgAP: TopDe TopDf TopDd TopVa -/
import Derived.Test.YtmipodnffhngaaaMgAO
import Derived.Test.YtmipodnffhngaaaMgAN
import Derived.Test.YtmipodnffhngaaaMgAF
import Derived.Test.YtmipodnffhngaaaMgAK
import Derived.Deep.CutBlock
import Derived.Test.YtmipodnffhngaaaMgAM
import Derived.Deep.Cut
import Derived.Test.YtmipodnffhngaaaMgAI
set_option linter.all false
namespace Go.Proofs.Ytmipodnffhngaaa.Top
open Go.RowKit
set_option maxRecDepth 20000
set_option linter.unusedVariables false

set_option maxHeartbeats 8000000 in
theorem rwithout_T (T:Nat→Prop) (w:World) (hT:∀ k,T k→k < w.heap.size) (t x:Nd) (aA kA:Option Addr) (an ac kn kc:Nat) (h:NodeV T w aA an ac kA kn kc t) (pA:Option Addr) (pn pc:Nat) (q:List Int) (c:Nat) (hp:Its w pA pn (q ++ [(c:Int)])) (hpnc:pn≤pc) (hpcm:pc≤maxLen) (hx:atV t (q ++ [(c:Int)]) = some x) (hbig:weighV t≤90000) :
    Calls Try.prog 69 #[.agg (val6 t aA an ac kA kn kc),.slice pA pn pc] w (NodeA T w ((delAt t (q ++ [(c:Int)])).getD Nd.zero)):=by
  obtain ⟨y,m,hy,hcy,hput,hdel,hmw⟩:=del_all hx
  rw [hdel]
  obtain ⟨W3,hW3⟩:∃ W3,W3 = (w.alloc (.cells (val6 t aA an ac kA kn kc) 33)).alloc (.cells zero6 33):=⟨_,rfl⟩
  have z1:W3.heap[w.heap.size]? = some (.cells (val6 t aA an ac kA kn kc) 33 (0,0)):=by rw [hW3];exact (Go.heap_alloc_old _ _ (by simp)).trans (heap_alloc_new w _)
  have z3:W3.heap[w.heap.size + 1]? = some (.cells zero6 33 (0,0)):=by rw [hW3];have h1:=heap_alloc_new (w.alloc (.cells (val6 t aA an ac kA kn kc) 33)) (.cells zero6 33);rw [World.size_alloc] at h1;exact h1
  have z4:Below w.heap.size w W3:=by rw [hW3];exact ((Below.refl _ _).alloc (Nat.le_refl _) _).alloc (by simp) _
  have z5:W3.heap.size = w.heap.size + 1 + 1:=by rw [hW3];simp
  have hT3:∀ k,T k→k < W3.heap.size:=fun k hk=>by have:=hT k hk;omega
  obtain ⟨ql,hql⟩:∃ ql,ql = q.length:=⟨_,rfl⟩
  have hpn:pn = ql + 1:=by have h1:=hp.1;rw [List.length_append,List.length_singleton] at h1;omega
  have hpq:Its w pA ql q:=⟨hql.symm,fun k v hk=>hp.2 k v (by rw [List.getElem?_append_left (List.getElem?_eq_some_iff.1 hk).1];exact hk)⟩
  obtain ⟨ad,c0,hA,hc0,hcell⟩:=hp.at_ (k:=ql) (by omega)
  have hcc:c0 = (c:Int):=by rw [hql,List.getElem?_append_right (Nat.le_refl _),Nat.sub_self] at hc0;injection hc0 with hc0;exact hc0.symm
  rw [hcc] at hcell
  obtain ⟨ad',hA',hlt,-⟩:=hp.2 ql c0 hc0
  have had:ad' = ad:=by rw [hA] at hA';injection hA' with e;exact e.symm
  rw [had] at hlt
  clear hc0 hcc hA' had
  subst hA
  have hat:=Lib.hid (rat_T T W3 hT3 t aA kA an ac kn kc (h.kept (fun _ h=>h) fun k hk=>z4.block k (hT k hk)) (some ad) ql pc q (hpq.below z4) (by omega))
  unfold RAtAns at hat
  rw [hy] at hat
  simp only [Option.getD_some,Option.isSome_some] at hat
  have hh:=Lib.hid (fun (W:World) (hb:Below w.heap.size w W)=>h.kept (w':=W) (T':=T) (fun _ h=>h) fun k hk=>hb.block k (hT k hk))
  have hits:=Lib.hid (fun (W:World) (hb:Below w.heap.size w W)=>hpq.below hb)
  have hyw:=(at_count q t y hy).2
  have hci:=Lib.hid (fun (W:World) (hb:Below w.heap.size w W)=>show W.cell? (ad.add ql) = some (.int .i64 (c:Int)) from (hb.cell (p:=ad.add ql) (by rw [block_add];exact hlt)).trans hcell)
  have hI:(pn:Int) - 1 = (ql:Int):=by omega
  have hI0:(0:Int)≤(ql:Int):=by omega
  have hI1:(ql:Int)≤(pc:Int):=by omega
  have hI2:(ql:Int) < (pn:Int):=by omega
  have hI3:ql < pn:=by omega
  have hI4:ql≤pc:=by omega
  unfold maxLen at hpcm
  have hwr:IntKind.i64.wrap (ql:Int) = (ql:Int):=IntWalk.i64_in _ (by omega)
  have z1u:=z1
  unfold val6 at z1u
  obtain ⟨p0,p1,p2,p3,p4,p5,pf⟩:=six_cells z1u
  have z1':=Lib.hid z1
  have z3':=Lib.hid z3
  have z4':=Lib.hid z4
  have z5':=Lib.hid z5
  have hT':=Lib.hid hT
  have hbig':=Lib.hid hbig
  have hyw':=Lib.hid hyw
  have hcy':=Lib.hid hcy
  have hput':=Lib.hid hput
  rw [hW3] at p0 p1 p2 p3 p4 p5 pf hat
  clear h hp hT hT3 hpq z1 z1u z3 z4 z5 hx hbig hyw hy hcy hput hdel hmw hcell hlt hpn hql
  unfold zero6 val6 at hW3 hat p0 p1 p2 p3 p4 p5 pf
  unfold val6
  go_enter Try.func69,Try.ntmps69
  go_upto_region 3 with (go_at_call 62;go_loud (refine hat.out.mono ?_;rw [← hW3];rintro e w1 ⟨yA,yn,yc,yK,ym,yd,rfl,hny,hb⟩;have hny':=Lib.hid hny;have hb':=Lib.hid hb;clear p0 p1 p2 p3 p4 p5 pf hny hb))
  obtain ⟨X1,hX1⟩:∃ X,X = w1.alloc (.cells (val6 y yA yn yc yK ym yd) 33):=⟨_,rfl⟩
  have m1:=Lib.hid (show X1.heap[w1.heap.size]? = some (.cells (val6 y yA yn yc yK ym yd) 33 (0,0)) by rw [hX1];exact heap_alloc_new w1 _)
  have b1c:=Lib.hid (show Below w.heap.size w X1 by rw [hX1];exact z4'.out.trans ((hb'.out.alloc hb'.out.size _).mono z4'.out.size))
  have hs1:w1.heap.size < X1.heap.size:=by rw [hX1];simp
  have hs0:W3.heap.size≤w1.heap.size:=hb'.out.size
  have hz3:W3.heap.size = w.heap.size + 1 + 1:=z5'.out
  have hny1:=Lib.hid (show NodeV T X1 yA yn yc yK ym yd y by rw [hX1];exact hny'.out.kept (fun _ h=>h) fun k hk=>(Go.heap_alloc_old _ _ (by have:=hT'.out k hk;have:=z4'.out.size;omega)))
  have t1:=Lib.hid (show X1.heap[w.heap.size]? = some (.cells (val6 t aA an ac kA kn kc) 33 (0,0)) by rw [hX1];exact (Go.heap_alloc_old _ _ (by omega)).trans ((hb'.out.block _ (by omega)).trans z1'.out))
  have g3:=Lib.hid (show X1.heap[w.heap.size + 1]? = some (.cells zero6 33 (0,0)) by rw [hX1];exact (Go.heap_alloc_old _ _ (by omega)).trans ((hb'.out.block _ (by omega)).trans z3'.out))
  unfold val6 at hX1
  rw [← hX1]
  clear hX1 hny' hb'
  obtain ⟨b1,hbe⟩:∃ b,b = w1.heap.size:=⟨_,rfl⟩
  rw [← hbe] at m1 hs1 hs0 ⊢
  clear hbe
  have hf:=Lib.hid (fun (W:World) (hb:Below X1.heap.size X1 W)=>show (W.heap[w.heap.size]? = some (.cells (val6 t aA an ac kA kn kc) 33 (0,0))∧W.heap[b1]? = some (.cells (val6 y yA yn yc yK ym yd) 33 (0,0))∧W.cell? (ad.add ql) = some (.int .i64 (c:Int))∧W.heap[w.heap.size + 1]? = some (.cells zero6 33 (0,0))) from
    ⟨(hb.block _ (by omega)).trans t1.out,(hb.block _ hs1).trans m1.out,hci.out W (b1c.out.trans (hb.mono b1c.out.size)),(hb.block _ (by omega)).trans g3.out⟩)
  have hT1:=Lib.hid (fun (W:World) (hb:Below X1.heap.size X1 W) k (hk:T k)=>show k < W.heap.size from by have:=hT'.out k hk;have:=b1c.out.size;have:=hb.size;omega)
  have hdr:=Lib.hid (fun (W:World) (hb:Below X1.heap.size X1 W)=>rdel_T T W (hT1.out W hb) y yA yK yn yc ym yd (hny1.out.kept (fun _ h=>h) fun k hk=>hb.block k (hT1.out X1 (Below.refl _ _) k hk)) (by have:=hbig'.out;have:=hyw'.out;omega) c hcy'.out)
  clear t1 m1 g3
  rename_i K0 hK0
  refine Top.wp_region_L (fun W=>Below X1.heap.size X1 W) 11 rfl ((Below.refl X1.heap.size X1).drew) (fun hHeld=>?_)
  refine Top.wpAnyL_take (i:=0) (oi:={ dst:=some 19,op:=Go.Op.load 33 (Go.Operand.tmp 2),type:=33,pos:="ref.go:129",after:=#[],guard:=none }) (v:=?_) rfl (by kernel_rfl) (by kernel_rfl) (by kernel_rfl) (by kernel_rfl) (fun _ _ _ h=>h) (Or.inl ⟨by rfl,?_⟩) hHeld ?_
  rotate_left 1
  · intro W hSw;obtain ⟨r1,r2,rc,-⟩:=hf.out W hSw;unfold val6 at r1 r2;obtain ⟨p0,p1,p2,p3,p4,p5,pf⟩:=six_cells r1;obtain ⟨q0,q1,q2,q3,q4,q5,qf⟩:=six_cells r2;go_simp;try with_reducible rfl
  try simp only [Act.put,List.setIfInBounds_toArray,List.set_cons_zero,List.set_cons_succ]
  refine Top.wpAnyL_take (i:=1) (oi:={ dst:=some 20,op:=Go.Op.move (Go.Operand.tmp 5),type:=22,pos:="ref.go:129",after:=#[],guard:=none }) (v:=?_) rfl (by kernel_rfl) (by kernel_rfl) (by kernel_rfl) (by kernel_rfl) (fun _ _ _ h=>h) (Or.inl ⟨by rfl,?_⟩) hHeld ?_
  rotate_left 1
  · intro W hSw;obtain ⟨r1,r2,rc,-⟩:=hf.out W hSw;unfold val6 at r1 r2;obtain ⟨p0,p1,p2,p3,p4,p5,pf⟩:=six_cells r1;obtain ⟨q0,q1,q2,q3,q4,q5,qf⟩:=six_cells r2;go_simp;try with_reducible rfl
  try simp only [Act.put,List.setIfInBounds_toArray,List.set_cons_zero,List.set_cons_succ]
  refine Top.wpAnyL_take (i:=2) (oi:={ dst:=some 21,op:=Go.Op.load 33 (Go.Operand.tmp 6),type:=33,pos:="ref.go:129",after:=#[],guard:=none }) (v:=?_) rfl (by kernel_rfl) (by kernel_rfl) (by kernel_rfl) (by kernel_rfl) (fun _ _ _ h=>h) (Or.inl ⟨by rfl,?_⟩) hHeld ?_
  rotate_left 1
  · intro W hSw;obtain ⟨r1,r2,rc,-⟩:=hf.out W hSw;unfold val6 at r1 r2;obtain ⟨p0,p1,p2,p3,p4,p5,pf⟩:=six_cells r1;obtain ⟨q0,q1,q2,q3,q4,q5,qf⟩:=six_cells r2;go_simp;try with_reducible rfl
  try simp only [Act.put,List.setIfInBounds_toArray,List.set_cons_zero,List.set_cons_succ]
  refine Top.wpAnyL_take (i:=3) (oi:={ dst:=some 22,op:=Go.Op.move (Go.Operand.tmp 1),type:=22,pos:="ref.go:129",after:=#[],guard:=none }) (v:=?_) rfl (by kernel_rfl) (by kernel_rfl) (by kernel_rfl) (by kernel_rfl) (fun _ _ _ h=>h) (Or.inl ⟨by rfl,?_⟩) hHeld ?_
  rotate_left 1
  · intro W hSw;obtain ⟨r1,r2,rc,-⟩:=hf.out W hSw;unfold val6 at r1 r2;obtain ⟨p0,p1,p2,p3,p4,p5,pf⟩:=six_cells r1;obtain ⟨q0,q1,q2,q3,q4,q5,qf⟩:=six_cells r2;go_simp;try with_reducible rfl
  try simp only [Act.put,List.setIfInBounds_toArray,List.set_cons_zero,List.set_cons_succ]
  refine Top.wpAnyL_take (i:=4) (oi:={ dst:=some 23,op:=Go.Op.move (Go.Operand.tmp 1),type:=22,pos:="ref.go:129",after:=#[],guard:=none }) (v:=?_) rfl (by kernel_rfl) (by kernel_rfl) (by kernel_rfl) (by kernel_rfl) (fun _ _ _ h=>h) (Or.inl ⟨by rfl,?_⟩) hHeld ?_
  rotate_left 1
  · intro W hSw;obtain ⟨r1,r2,rc,-⟩:=hf.out W hSw;unfold val6 at r1 r2;obtain ⟨p0,p1,p2,p3,p4,p5,pf⟩:=six_cells r1;obtain ⟨q0,q1,q2,q3,q4,q5,qf⟩:=six_cells r2;go_simp;try with_reducible rfl
  try simp only [Act.put,List.setIfInBounds_toArray,List.set_cons_zero,List.set_cons_succ]
  refine Top.wpAnyL_take (i:=5) (oi:={ dst:=some 24,op:=Go.Op.call { callee:=Go.Callee.builtin Go.Builtin.len,args:=#[Go.Operand.tmp 23],argTypes:=#[22] },type:=3,pos:="ref.go:129",after:=#[{ on:=4,ground:=Go.Ground.data }],guard:=none }) (v:=?_) rfl (by kernel_rfl) (by kernel_rfl) (by kernel_rfl) (by kernel_rfl) (fun _ _ _ h=>h) (Or.inl ⟨by rfl,?_⟩) hHeld ?_
  rotate_left 1
  · intro W hSw;obtain ⟨r1,r2,rc,-⟩:=hf.out W hSw;unfold val6 at r1 r2;obtain ⟨p0,p1,p2,p3,p4,p5,pf⟩:=six_cells r1;obtain ⟨q0,q1,q2,q3,q4,q5,qf⟩:=six_cells r2;go_simp;try with_reducible rfl
  try simp only [Act.put,List.setIfInBounds_toArray,List.set_cons_zero,List.set_cons_succ]
  refine Top.wpAnyL_take (i:=6) (oi:={ dst:=some 25,op:=Go.Op.binOp Go.BinOp.sub 3 (Go.Operand.tmp 24) (Go.Operand.const (Go.Value.int Go.IntKind.i64 1)) 3,type:=3,pos:="ref.go:129",after:=#[{ on:=5,ground:=Go.Ground.data }],guard:=none }) (v:=?_) rfl (by kernel_rfl) (by kernel_rfl) (by kernel_rfl) (by kernel_rfl) (fun _ _ _ h=>h) (Or.inl ⟨by rfl,?_⟩) hHeld ?_
  rotate_left 1
  · intro W hSw;obtain ⟨r1,r2,rc,-⟩:=hf.out W hSw;unfold val6 at r1 r2;obtain ⟨p0,p1,p2,p3,p4,p5,pf⟩:=six_cells r1;obtain ⟨q0,q1,q2,q3,q4,q5,qf⟩:=six_cells r2;go_simp;try with_reducible rfl
  try simp only [Act.put,List.setIfInBounds_toArray,List.set_cons_zero,List.set_cons_succ]
  refine Top.wpAnyL_take (i:=7) (oi:={ dst:=some 26,op:=Go.Op.indexAddr 22 (Go.Operand.tmp 22) (Go.Operand.tmp 25),type:=0,pos:="ref.go:129",after:=#[{ on:=3,ground:=Go.Ground.data },{ on:=6,ground:=Go.Ground.data }],guard:=none }) (v:=?_) rfl (by kernel_rfl) (by kernel_rfl) (by kernel_rfl) (by kernel_rfl) (fun _ _ _ h=>h) (Or.inl ⟨by rfl,?_⟩) hHeld ?_
  rotate_left 1
  · intro W hSw;obtain ⟨r1,r2,rc,-⟩:=hf.out W hSw;unfold val6 at r1 r2;obtain ⟨p0,p1,p2,p3,p4,p5,pf⟩:=six_cells r1;obtain ⟨q0,q1,q2,q3,q4,q5,qf⟩:=six_cells r2;go_simp;try with_reducible rfl
  try simp only [Act.put,List.setIfInBounds_toArray,List.set_cons_zero,List.set_cons_succ]
  refine Top.wpAnyL_take (i:=8) (oi:={ dst:=some 27,op:=Go.Op.load 3 (Go.Operand.tmp 26),type:=3,pos:="ref.go:129",after:=#[{ on:=7,ground:=Go.Ground.data }],guard:=none }) (v:=?_) rfl (by kernel_rfl) (by kernel_rfl) (by kernel_rfl) (by kernel_rfl) (fun _ _ _ h=>h) (Or.inl ⟨by rfl,?_⟩) hHeld ?_
  rotate_left 1
  · intro W hSw;obtain ⟨r1,r2,rc,-⟩:=hf.out W hSw;unfold val6 at r1 r2;obtain ⟨p0,p1,p2,p3,p4,p5,pf⟩:=six_cells r1;obtain ⟨q0,q1,q2,q3,q4,q5,qf⟩:=six_cells r2;go_simp;try with_reducible rfl
  try simp only [Act.put,List.setIfInBounds_toArray,List.set_cons_zero,List.set_cons_succ]
  refine Top.wpAnyL_one (i:=9) (o:={ dst:=some 28,op:=Go.Op.call { callee:=Go.Callee.value (Go.Operand.func 111),args:=#[Go.Operand.tmp 21,Go.Operand.tmp 27],argTypes:=#[33,3] },type:=33,pos:="ref.go:129",after:=#[{ on:=2,ground:=Go.Ground.data },{ on:=8,ground:=Go.Ground.data }],guard:=none }) (by kernel_rfl) rfl (by decide) (fun K hK=>?_)
  go_simp
  refine (hdr.out _ hHeld).mono ?_
  rintro e w5 ⟨zA,zn,zc,zK,zm,zd,rfl,hz,hb5⟩
  have b5c:=Lib.hid (show Below X1.heap.size X1 w5 from hHeld.trans (hb5.mono hHeld.size))
  have hz5:=Lib.hid (hz.kept (w':=w5) (T':=fun k=>T k∨(W3.heap.size≤k∧k < w5.heap.size)) (fun k hk=>(by (rcases hk with hk | hk);(exact .inl hk);(exact .inr ⟨Nat.le_trans (by omega) (Nat.le_trans hHeld.size hk.1),hk.2⟩))) (fun _ _=>rfl))
  unfold val6
  clear hz hb5
  go_simp
  refine hK.out _ _ ?_ (fun hNew=>?_)
  · exact b5c.out
  clear hK K hHeld
  have hHeld:=hNew
  clear hNew
  try simp only [Act.put,List.setIfInBounds_toArray,List.set_cons_zero,List.set_cons_succ]
  refine Top.wpAnyL_one (i:=10) (o:={ dst:=some 29,op:=Go.Op.call { callee:=Go.Callee.value (Go.Operand.func 67),args:=#[Go.Operand.tmp 19,Go.Operand.tmp 20,Go.Operand.tmp 28],argTypes:=#[33,22,33] },type:=33,pos:="ref.go:129",after:=#[{ on:=0,ground:=Go.Ground.data },{ on:=1,ground:=Go.Ground.data },{ on:=9,ground:=Go.Ground.data },{ on:=9,ground:=Go.Ground.chain }],guard:=none }) (by kernel_rfl) rfl (by decide) (fun K hK=>?_)
  go_simp
  have hT5:=Lib.hid (show ∀ k,(T k∨(W3.heap.size≤k∧k < w5.heap.size))→k < w5.heap.size from fun k hk=>(by (rcases hk with hk | hk);(exact hT1.out w5 b5c.out k hk);(exact hk.2)))
  have hch:=Lib.hid (rchange_T (fun k=>T k∨(W3.heap.size≤k∧k < w5.heap.size)) w5 hT5.out t (y.withKids (delK c y.kids)) aA kA zA zK an ac kn kc zn zc zm zd ((hh.out w5 (b1c.out.trans (b5c.out.mono b1c.out.size))).kept (fun k hk=>.inl hk) (fun _ _=>rfl)) hz5.out (some ad) ql pc q (hits.out w5 (b1c.out.trans (b5c.out.mono b1c.out.size))) hI4 hpcm (by have:=hbig'.out;omega) (by have:=weighV_with y (delK c y.kids);have:=weighs_del c y.kids; have:=hbig'.out;have:=hyw'.out;omega))
  rw [hput'.out,Option.getD_some] at hch
  unfold val6 at hch
  refine (hch.out).mono ?_
  rintro e w6 ⟨eA,en,ec,eK,em,ed,rfl,he6,hb6⟩
  have b6c:=Lib.hid (b5c.out.trans (hb6.mono b5c.out.size))
  have he6':=Lib.hid he6
  have hsz56:=hb6.size
  unfold val6
  clear he6 hb6
  go_simp
  refine hK.out _ _ ?_ (fun hNew=>?_)
  · exact b6c.out
  clear hK K hHeld
  have hHeld:=hNew
  clear hNew
  try simp only [Act.put,List.setIfInBounds_toArray,List.set_cons_zero,List.set_cons_succ]
  have r3:=Lib.hid (hf.out w6 b6c.out).2.2.2
  have r3u:=r3.out
  unfold zero6 at r3u
  obtain ⟨q0,q1,q2,q3,q4,q5,qf⟩:=six_cells r3u
  have hsz26:w.heap.size + 1 < w6.heap.size:=(Array.getElem?_eq_some_iff.1 r3u).1
  refine Top.wpAnyL_last (o:={ dst:=none,op:=Go.Op.store 33 (Go.Operand.tmp 4) (Go.Operand.tmp 29),type:=0,pos:="ref.go:129",after:=#[{ on:=10,ground:=Go.Ground.data },{ on:=10,ground:=Go.Ground.chain },{ on:=0,ground:=Go.Ground.phase },{ on:=1,ground:=Go.Ground.phase },{ on:=2,ground:=Go.Ground.phase },{ on:=3,ground:=Go.Ground.phase },{ on:=4,ground:=Go.Ground.phase },{ on:=5,ground:=Go.Ground.phase },{ on:=6,ground:=Go.Ground.phase },{ on:=7,ground:=Go.Ground.phase },{ on:=8,ground:=Go.Ground.phase },{ on:=9,ground:=Go.Ground.phase },{ on:=10,ground:=Go.Ground.phase }],guard:=none }) (by kernel_rfl) rfl (fun K hK=>?_)
  go_simp
  refine hK _ _ ?_
  clear hK K
  try simp only [Act.put,List.setIfInBounds_toArray,List.set_cons_zero,List.set_cons_succ]
  refine wpAny_done (by kernel_rfl) ?_ _
  refine hK0 _ _ ?_
  clear hK0

  have hz9:=Lib.hid (he6'.out.kept (w':=w6) (T':=fun k=>T k∨(W3.heap.size≤k∧k < w6.heap.size)) (fun k hk=>(by
    rcases hk with hk | hk
    · rcases hk with hk | hk
      · exact .inl hk
      · exact .inr ⟨hk.1,Nat.lt_of_lt_of_le hk.2 hsz56⟩
    · exact .inr ⟨Nat.le_trans (by have:=b5c.out.size;omega) hk.1,hk.2⟩)) (fun _ _=>rfl))
  clear he6'
  go_wp2_with fail
  obtain ⟨W9,hW9,R9,N9,B9⟩:=end_node0 hT'.out (r:=w.heap.size + 1) (b:=W3.heap.size) (by omega) (by have:=z5'.out;omega) (b1c.out.trans (b6c.out.mono b1c.out.size)) r3.out hz9.out
  rw [← hW9]
  unfold val6 at R9
  obtain ⟨d0,d1,d2,d3,d4,d5,df⟩:=six_cells R9
  refine bodyPost_ret (v:=.agg (val6 m eA en ec eK em ed)) (by simp [results,Try.results69,go_sem,d0,d1,d2,d3,d4,d5,val6]) rfl ?_
  exact ⟨eA,en,ec,eK,em,ed,rfl,N9,B9⟩
end Go.Proofs.Ytmipodnffhngaaa.Top
namespace Go.Proofs.Ytmipodnffhngaaa.Top
open Go.RowKit
set_option maxRecDepth 20000
set_option linter.unusedVariables false

theorem at_pre:∀ (p:List Int) (t x y:Nd) (f:Int) (s:List Int),atV t p = some y→atV t (p ++ f :: s) = some x→∃ j:Nat,f = (j:Int)∧j < y.kids.length
  | [],t,x,y,f,s,h,hx=>by
    simp only [atV,Option.some.injEq] at h
    subst h
    obtain ⟨j,k,rfl,hk,-⟩:=atV_cons hx
    exact ⟨j,rfl,(List.getElem?_eq_some_iff.1 hk).1⟩
  | i :: p,t,x,y,f,s,h,hx=>by
    obtain ⟨j,k,rfl,hk,h2⟩:=atV_cons h
    rw [show ((j:Int) :: p) ++ f :: s = (j:Int) :: (p ++ f :: s) from rfl,atV_nat hk] at hx
    exact at_pre p k x y f s h2 hx
theorem its_bump {w:World} {g n d:Nat} {p s:List Int} {f v:Int} (hi:∀ (j:Nat) (u:Int),(p ++ f :: s)[j]? = some u→w.cell? ⟨g,j,none⟩ = some (.int .i64 u)) (hlt:g < w.heap.size) (hn:(p ++ f :: s).length = n) (hd:p.length = d):Its (w.setCell ⟨g,d,none⟩ (.int .i64 v)) (some ⟨g,0,none⟩) n (p ++ v :: s):=by
  subst hd
  refine ⟨by rw [← hn];simp,fun k u hk=>⟨_,rfl,by rw [World.size_setCell];exact hlt,?_⟩⟩
  have hadd:(⟨g,0,none⟩:Addr).add k = ⟨g,k,none⟩:=by unfold Addr.add;split <;> simp_all
  rw [hadd]
  by_cases e:k = p.length
  · subst e
    rw [List.getElem?_append_right (Nat.le_refl _),Nat.sub_self] at hk
    injection hk with hk
    subst hk
    exact World.cell?_setCell_same' _ _ _ (by rw [hi p.length f (by rw [List.getElem?_append_right (Nat.le_refl _),Nat.sub_self];rfl)];rfl)
  · refine (World.cell?_setCell_other _ _ _ _ (by intro e2;injection e2 with e3 e4;exact e e4.symm)).trans (hi k u ?_)
    rw [← hk]
    by_cases h:k < p.length
    · rw [List.getElem?_append_left h,List.getElem?_append_left h]
    · rw [List.getElem?_append_right (by omega),List.getElem?_append_right (by omega)]
      obtain ⟨j,hj⟩:∃ j,k - p.length = j + 1:=⟨k - p.length - 1,by omega⟩
      rw [hj]
      rfl
theorem end_box {T':Nat→Prop} {w w1:World} {r:Nat} {ty:TypeId} {a:Nd} {yA yK:Option Addr} {yn yc ym yd:Nat} {a0 a1 a2 a3 a4 a5:Value} (hw:w.heap.size≤r) (hb:Below w.heap.size w w1)
    (hr:w1.heap[r]? = some (.cells #[a0,a1,a2,a3,a4,a5] ty (0,0))) (hy:NodeV T' w1 yA yn yc yK ym yd a) (hT':∀ k,T' k→k ≠ r) :
    ∃ W9,W9 = ((((((w1.setCell ⟨r,0,none⟩ (.int .u64 (a.id:Int))).setCell ⟨r,1,none⟩ (.bool a.leaf)).setCell ⟨r,2,none⟩ (.string ⟨a.label.toArray⟩)).setCell ⟨r,3,none⟩ (.slice yA yn yc)).setCell ⟨r,4,none⟩ (.string ⟨a.text.toArray⟩)).setCell ⟨r,5,none⟩ (.slice yK ym yd)) ∧
      W9.heap[r]? = some (.cells (val6 a yA yn yc yK ym yd) ty (0,0))∧NodeV T' W9 yA yn yc yK ym yd a∧Below w.heap.size w W9∧W9.heap.size = w1.heap.size:=by
  have hb6:=below_six (b0:=.int .u64 (a.id:Int)) (b1:=.bool a.leaf) (b2:=.string ⟨a.label.toArray⟩) (b3:=.slice yA yn yc) (b4:=.string ⟨a.text.toArray⟩) (b5:=.slice yK ym yd) hb hw
  exact ⟨_,rfl,set_six hr,hy.kept (fun k hk=>hk) (fun k hk=>set_six_other (hT' k hk)),hb6,by simp only [World.size_setCell]⟩
set_option maxHeartbeats 8000000 in
theorem rmove_T (T:Nat→Prop) (w:World) (hT:∀ k,T k→k < w.heap.size) (t x y m x2:Nd) (aA kA:Option Addr) (an ac kn kc:Nat) (h:NodeV T w aA an ac kA kn kc t) (o:Ov) (s:OS) (ho:OpIn w o s) (q':List Int) (c':Nat) (hbig:weighV t≤40000)
    (hx:atV t o.path = some x) (hy:atV t o.to_ = some y) (g:Nat) (hg:o.at_ = (g:Int)) (hgk:g≤y.kids.length) (hm:putV t o.to_ (y.withKids (insK g x y.kids)) = some m) (hq:docFrom o.path o.to_ g = q' ++ [(c':Int)]) (hx2:atV m (docFrom o.path o.to_ g) = some x2) (hmw:weighV m≤90000) :
    Calls Try.prog 70 #[.agg (val6 t aA an ac kA kn kc),.agg (opCells o s)] w (NodeA T w ((delAt m (docFrom o.path o.to_ g)).getD Nd.zero)):=by
  obtain ⟨z1,z2,z3,z4,z5⟩:=three_new w (.cells (val6 t aA an ac kA kn kc) 33) (.cells (opCells o s) 26) (.cells zero6 33)
  obtain ⟨W3,hW3⟩:∃ W3,W3 = ((w.alloc (.cells (val6 t aA an ac kA kn kc) 33)).alloc (.cells (opCells o s) 26)).alloc (.cells zero6 33):=⟨_,rfl⟩
  rw [← hW3] at z1 z2 z3 z4 z5
  have hT3:∀ k,T k→k < W3.heap.size:=fun k hk=>by have:=hT k hk;omega
  have hh:=Lib.hid (fun (W:World) (hb:Below w.heap.size w W)=>h.kept (w':=W) (T':=T) (fun _ h=>h) fun k hk=>hb.block k (hT k hk))
  have hop:=Lib.hid (fun (W:World) (hb:Below w.heap.size w W)=>ho.below hb)
  have hTW:=Lib.hid (fun (W:World) (hb:Below w.heap.size w W) k (hk:T k)=>show k < W.heap.size from by have:=hT k hk;have:=hb.size;omega)
  have hat1:=Lib.hid (fun (W:World) (hb:Below w.heap.size w W)=>rat_T T W (hTW.out W hb) t aA kA an ac kn kc (hh.out W hb) s.pA s.pn s.pc o.path (hop.out W hb).path (Nat.le_trans ho.pnc ho.pcm))
  have hat2:=Lib.hid (fun (W:World) (hb:Below w.heap.size w W)=>rat_T T W (hTW.out W hb) t aA kA an ac kn kc (hh.out W hb) s.tA s.tn s.tc o.to_ (hop.out W hb).to_ (Nat.le_trans ho.tnc ho.tcm))
  unfold RAtAns at hat1 hat2
  rw [hx] at hat1
  rw [hy] at hat2
  simp only [Option.getD_some,Option.isSome_some] at hat1 hat2
  have hfb:=Lib.hid (fun f s' (e:o.to_ ++ f :: s' = o.path)=>at_pre o.to_ t x y f s' hy (by rw [e];exact hx))
  have hcells:=Lib.hid (fun (W:World) (hb:Below W3.heap.size W3 W)=>show (W.heap[w.heap.size]? = some (.cells (val6 t aA an ac kA kn kc) 33 (0,0))∧W.heap[w.heap.size + 1]? = some (.cells (opCells o s) 26 (0,0))∧W.heap[w.heap.size + 1 + 1]? = some (.cells zero6 33 (0,0))) from
    ⟨(hb.block _ (by omega)).trans z1,(hb.block _ (by omega)).trans z2,(hb.block _ (by omega)).trans z3⟩)
  obtain ⟨o0,o1,o2,o3,o4,o5,o6,o7,o8,o9,o10⟩:=op_cells z2
  have z1u:=z1
  unfold val6 at z1u
  obtain ⟨p0,p1,p2,p3,p4,p5,pf⟩:=six_cells z1u
  have z4':=Lib.hid z4
  have z5':=Lib.hid z5
  have hT':=Lib.hid hT
  have hxw:=Lib.hid (at_count o.path t x hx).2
  have hyw:=Lib.hid (at_count o.to_ t y hy).2
  have hbig':=Lib.hid hbig
  have hg':=Lib.hid hg
  have hgk':=Lib.hid hgk
  have hm':=Lib.hid hm
  have hq':=Lib.hid hq
  have hx2':=Lib.hid hx2
  have hmw':=Lib.hid hmw
  have hraw:=Lib.hid ho
  rw [hW3] at o0 o1 o2 o3 o4 o5 o6 o7 o8 o9 o10 p0 p1 p2 p3 p4 p5 pf
  clear h ho hT hT3 z1 z1u z2 z3 z4 z5 hx hy hbig hg hgk hm hq hx2 hmw
  unfold zero6 val6 opCells at hW3 o0 o1 o2 o3 o4 o5 o6 o7 o8 o9 o10 p0 p1 p2 p3 p4 p5 pf
  unfold val6 at hat1 hat2
  unfold val6 opCells
  rw [hg'.out] at hW3 o2 ⊢
  go_enter Try.func70,Try.ntmps70
  go_upto_region 2 with (go_at_call 62;go_loud (rw [← hW3];refine (hat1.out W3 z4'.out).mono ?_;rintro e w1 ⟨xA,xn,xc,xK,xm,xd,rfl,hnx,hb⟩;have hnx':=Lib.hid hnx;have hb':=Lib.hid hb;clear o0 o1 o2 o3 o4 o5 o6 o7 o8 o9 o10 p0 p1 p2 p3 p4 p5 pf;clear hnx hb))
  obtain ⟨X1,hX1⟩:∃ X,X = w1.alloc (.cells (val6 x xA xn xc xK xm xd) 33):=⟨_,rfl⟩
  have m1:=Lib.hid (show X1.heap[w1.heap.size]? = some (.cells (val6 x xA xn xc xK xm xd) 33 (0,0)) by rw [hX1];exact heap_alloc_new w1 _)
  have B1:=Lib.hid (show Below W3.heap.size W3 X1 by rw [hX1];exact hb'.out.alloc hb'.out.size _)
  have hs1:w1.heap.size < X1.heap.size:=by rw [hX1];simp
  have hs0:W3.heap.size≤w1.heap.size:=hb'.out.size
  have hnx1:=Lib.hid (fun (W:World) (hb:Below X1.heap.size X1 W)=>show NodeV T W xA xn xc xK xm xd x from (show NodeV T X1 xA xn xc xK xm xd x by rw [hX1];exact hnx'.out.kept (fun _ h=>h) fun k hk=>Go.heap_alloc_old _ _ (by have:=hT'.out k hk;have:=z4'.out.size;omega)).kept (fun _ h=>h) fun k hk=>hb.block k (hTW.out X1 (z4'.out.trans (B1.out.mono z4'.out.size)) k hk))
  unfold val6 at hX1
  rw [← hX1]
  clear hX1 hnx' hb'
  obtain ⟨b1,hbe⟩:∃ b,b = w1.heap.size:=⟨_,rfl⟩
  rw [← hbe] at m1 hs1 hs0 ⊢
  clear hbe
  obtain ⟨r1,r2,-⟩:=hcells.out X1 B1.out
  obtain ⟨o0,o1,o2,o3,o4,o5,o6,o7,o8,o9,o10⟩:=op_cells r2
  unfold val6 at r1
  obtain ⟨p0,p1,p2,p3,p4,p5,pf⟩:=six_cells r1
  rw [hg'.out] at o2
  clear r1 r2
  go_upto_region 3 with (go_at_call 62;go_loud (refine (hat2.out X1 (z4'.out.trans (B1.out.mono z4'.out.size))).mono ?_;rintro e w2 ⟨yA,yn,yc,yK,ym,yd,rfl,hny,hb⟩;have hny':=Lib.hid hny;have hb':=Lib.hid hb;clear o0 o1 o2 o3 o4 o5 o6 o7 o8 o9 o10 p0 p1 p2 p3 p4 p5 pf;clear hny hb))
  obtain ⟨X2,hX2⟩:∃ X,X = w2.alloc (.cells (val6 y yA yn yc yK ym yd) 33):=⟨_,rfl⟩
  have m2:=Lib.hid (show X2.heap[w2.heap.size]? = some (.cells (val6 y yA yn yc yK ym yd) 33 (0,0)) by rw [hX2];exact heap_alloc_new w2 _)
  have B12:=Lib.hid (show Below X1.heap.size X1 X2 by rw [hX2];exact hb'.out.alloc hb'.out.size _)
  have B2:=Lib.hid (B1.out.trans (B12.out.mono B1.out.size))
  have hs2:w2.heap.size < X2.heap.size:=by rw [hX2];simp
  have hs12:X1.heap.size≤w2.heap.size:=hb'.out.size
  have hny1:=Lib.hid (fun (W:World) (hb:Below X2.heap.size X2 W)=>show NodeV T W yA yn yc yK ym yd y from (show NodeV T X2 yA yn yc yK ym yd y by rw [hX2];exact hny'.out.kept (fun _ h=>h) fun k hk=>Go.heap_alloc_old _ _ (by have:=hT'.out k hk;have:=z4'.out.size;omega)).kept (fun _ h=>h) fun k hk=>hb.block k (hTW.out X2 (z4'.out.trans (B2.out.mono z4'.out.size)) k hk))
  unfold val6 at hX2
  rw [← hX2]
  clear hX2 hny' hb'
  obtain ⟨b2,hbe⟩:∃ b,b = w2.heap.size:=⟨_,rfl⟩
  rw [← hbe] at m2 hs2 hs12 ⊢
  clear hbe
  have n1:=Lib.hid ((B12.out.block b1 hs1).trans m1.out)
  have n2:=m2
  clear m1 m2
  obtain ⟨r1,r2,-⟩:=hcells.out X2 B2.out
  obtain ⟨o0,o1,o2,o3,o4,o5,o6,o7,o8,o9,o10⟩:=op_cells r2
  unfold val6 at r1
  obtain ⟨p0,p1,p2,p3,p4,p5,pf⟩:=six_cells r1
  rw [hg'.out] at o2
  have n1u:=n1.out
  have n2u:=n2.out
  unfold val6 at n1u n2u
  obtain ⟨e0,e1,e2,e3,e4,e5,ef⟩:=six_cells n1u
  obtain ⟨f0,f1,f2,f3,f4,f5,ff⟩:=six_cells n2u
  clear r1 r2 n1u n2u
  have hpt:=Lib.hid (fun (W:World) (hb:Below X2.heap.size X2 W)=>rins_T T W (hTW.out W (z4'.out.trans ((B2.out.trans (hb.mono B2.out.size)).mono z4'.out.size))) y x yA yK xA xK yn yc ym yd xn xc xm xd (hny1.out W hb) (hnx1.out W (B12.out.trans (hb.mono B12.out.size))) (by have:=hyw.out;have:=hbig'.out;omega) g hgk'.out)
  have hWX:=Lib.hid (fun (W:World) (hb:Below X2.heap.size X2 W)=>show Below w.heap.size w W from z4'.out.trans ((B2.out.trans (hb.mono B2.out.size)).mono z4'.out.size))
  have hch:=Lib.hid (fun (T5:Nat→Prop) (W:World) (hT5:∀ k,T5 k→k < W.heap.size) (hto:∀ k,T k→T5 k) (hb:Below X2.heap.size X2 W) (zA zK:Option Addr) (zn zc zm zd:Nat) (hz:NodeV T5 W zA zn zc zK zm zd (y.withKids (insK g x y.kids)))=>by
    have h5:=rchange_T T5 W hT5 t (y.withKids (insK g x y.kids)) aA kA zA zK an ac kn kc zn zc zm zd ((hh.out W (hWX.out W hb)).kept hto (fun _ _=>rfl)) hz s.tA s.tn s.tc o.to_ (hop.out W (hWX.out W hb)).to_ (hop.out W (hWX.out W hb)).tnc (hop.out W (hWX.out W hb)).tcm (by have:=hbig'.out;omega) (by have:=weighV_with y (insK g x y.kids);have:=weighs_ins g x y.kids;have:=hxw.out;have:=hyw.out;have:=hbig'.out;omega)
    rw [hm'.out,Option.getD_some] at h5
    exact h5)
  have hcX:=Lib.hid (fun (W:World) (hb:Below X2.heap.size X2 W)=>show W.heap[b1]? = some (.cells (val6 x xA xn xc xK xm xd) 33 (0,0))∧W.heap[b2]? = some (.cells (val6 y yA yn yc yK ym yd) 33 (0,0)) from ⟨(hb.block _ (by omega)).trans n1.out,(hb.block _ hs2).trans n2.out⟩)
  have hTX:=Lib.hid (fun (W:World) (hb:Below X2.heap.size X2 W) k (hk:T k)=>show k < W.heap.size from hTW.out W (hWX.out W hb) k hk)
  have hTX2:=Lib.hid (fun k (hk:T k)=>show k < X2.heap.size from hTW.out X2 (hWX.out X2 (Below.refl _ _)) k hk)
  clear n1 n2 hat1 hat2
  go_cut [9] from 26 (fun v9 wc=>∃ (b:Nat) (mA:Option Addr) (mn mc:Nat) (mK:Option Addr) (mk md:Nat),v9 = .pointer (some ⟨b,0,none⟩)∧X2.heap.size≤b∧b < wc.heap.size∧wc.heap[b]? = some (.cells (val6 m mA mn mc mK mk md) 33 (0,0))∧NodeV (fun k=>T k∨(X2.heap.size≤k∧k < wc.heap.size∧k ≠ b)) wc mA mn mc mK mk md m∧Below X2.heap.size X2 wc)
  case first =>
    clear o0 o1 o2 o3 o4 o5 o6 o7 o8 o9 o10 e0 e1 e2 e3 e4 e5 ef f0 f1 f2 f3 f4 f5 ff p0 p1 p2 p3 p4 p5 pf
    rename_i K0 hK0
    refine Top.wp_region_L (fun W=>Below X2.heap.size X2 W) 10 rfl ((Below.refl X2.heap.size X2).drew) (fun hHeld=>?_)
    refine Top.wpAnyL_take (i:=0) (oi:={ dst:=some 26,op:=Go.Op.load 33 (Go.Operand.tmp 2),type:=33,pos:="ref.go:136",after:=#[],guard:=none }) (v:=?_) rfl (by kernel_rfl) (by kernel_rfl) (by kernel_rfl) (by kernel_rfl) (fun _ _ _ h=>h) (Or.inl ⟨by rfl,?_⟩) hHeld ?_
    rotate_left 1
    · intro W hSw;obtain ⟨r1,r2,-⟩:=hcells.out W (B2.out.trans (hSw.mono B2.out.size));obtain ⟨o0,o1,o2,o3,o4,o5,o6,o7,o8,o9,o10⟩:=op_cells r2;unfold val6 at r1;obtain ⟨p0,p1,p2,p3,p4,p5,pf⟩:=six_cells r1;obtain ⟨n1,n2⟩:=hcX.out W hSw;unfold val6 at n1 n2;obtain ⟨e0,e1,e2,e3,e4,e5,ef⟩:=six_cells n1;obtain ⟨f0,f1,f2,f3,f4,f5,ff⟩:=six_cells n2;rw [hg'.out] at o2;go_simp;try with_reducible rfl
    try simp only [Act.put,List.setIfInBounds_toArray,List.set_cons_zero,List.set_cons_succ]
    refine Top.wpAnyL_take (i:=1) (oi:={ dst:=some 27,op:=Go.Op.fieldAddr 26 (Go.Operand.tmp 3) 3,type:=0,pos:="ref.go:136",after:=#[],guard:=none }) (v:=?_) rfl (by kernel_rfl) (by kernel_rfl) (by kernel_rfl) (by kernel_rfl) (fun _ _ _ h=>h) (Or.inl ⟨by rfl,?_⟩) hHeld ?_
    rotate_left 1
    · intro W hSw;obtain ⟨r1,r2,-⟩:=hcells.out W (B2.out.trans (hSw.mono B2.out.size));obtain ⟨o0,o1,o2,o3,o4,o5,o6,o7,o8,o9,o10⟩:=op_cells r2;unfold val6 at r1;obtain ⟨p0,p1,p2,p3,p4,p5,pf⟩:=six_cells r1;obtain ⟨n1,n2⟩:=hcX.out W hSw;unfold val6 at n1 n2;obtain ⟨e0,e1,e2,e3,e4,e5,ef⟩:=six_cells n1;obtain ⟨f0,f1,f2,f3,f4,f5,ff⟩:=six_cells n2;rw [hg'.out] at o2;go_simp;try with_reducible rfl
    try simp only [Act.put,List.setIfInBounds_toArray,List.set_cons_zero,List.set_cons_succ]
    refine Top.wpAnyL_take (i:=2) (oi:={ dst:=some 28,op:=Go.Op.load 22 (Go.Operand.tmp 27),type:=22,pos:="ref.go:136",after:=#[{ on:=1,ground:=Go.Ground.data }],guard:=none }) (v:=?_) rfl (by kernel_rfl) (by kernel_rfl) (by kernel_rfl) (by kernel_rfl) (fun _ _ _ h=>h) (Or.inl ⟨by rfl,?_⟩) hHeld ?_
    rotate_left 1
    · intro W hSw;obtain ⟨r1,r2,-⟩:=hcells.out W (B2.out.trans (hSw.mono B2.out.size));obtain ⟨o0,o1,o2,o3,o4,o5,o6,o7,o8,o9,o10⟩:=op_cells r2;unfold val6 at r1;obtain ⟨p0,p1,p2,p3,p4,p5,pf⟩:=six_cells r1;obtain ⟨n1,n2⟩:=hcX.out W hSw;unfold val6 at n1 n2;obtain ⟨e0,e1,e2,e3,e4,e5,ef⟩:=six_cells n1;obtain ⟨f0,f1,f2,f3,f4,f5,ff⟩:=six_cells n2;rw [hg'.out] at o2;go_simp;try with_reducible rfl
    try simp only [Act.put,List.setIfInBounds_toArray,List.set_cons_zero,List.set_cons_succ]
    refine Top.wpAnyL_take (i:=3) (oi:={ dst:=some 29,op:=Go.Op.load 33 (Go.Operand.tmp 7),type:=33,pos:="ref.go:136",after:=#[],guard:=none }) (v:=?_) rfl (by kernel_rfl) (by kernel_rfl) (by kernel_rfl) (by kernel_rfl) (fun _ _ _ h=>h) (Or.inl ⟨by rfl,?_⟩) hHeld ?_
    rotate_left 1
    · intro W hSw;obtain ⟨r1,r2,-⟩:=hcells.out W (B2.out.trans (hSw.mono B2.out.size));obtain ⟨o0,o1,o2,o3,o4,o5,o6,o7,o8,o9,o10⟩:=op_cells r2;unfold val6 at r1;obtain ⟨p0,p1,p2,p3,p4,p5,pf⟩:=six_cells r1;obtain ⟨n1,n2⟩:=hcX.out W hSw;unfold val6 at n1 n2;obtain ⟨e0,e1,e2,e3,e4,e5,ef⟩:=six_cells n1;obtain ⟨f0,f1,f2,f3,f4,f5,ff⟩:=six_cells n2;rw [hg'.out] at o2;go_simp;try with_reducible rfl
    try simp only [Act.put,List.setIfInBounds_toArray,List.set_cons_zero,List.set_cons_succ]
    refine Top.wpAnyL_take (i:=4) (oi:={ dst:=some 30,op:=Go.Op.fieldAddr 26 (Go.Operand.tmp 3) 2,type:=0,pos:="ref.go:136",after:=#[],guard:=none }) (v:=?_) rfl (by kernel_rfl) (by kernel_rfl) (by kernel_rfl) (by kernel_rfl) (fun _ _ _ h=>h) (Or.inl ⟨by rfl,?_⟩) hHeld ?_
    rotate_left 1
    · intro W hSw;obtain ⟨r1,r2,-⟩:=hcells.out W (B2.out.trans (hSw.mono B2.out.size));obtain ⟨o0,o1,o2,o3,o4,o5,o6,o7,o8,o9,o10⟩:=op_cells r2;unfold val6 at r1;obtain ⟨p0,p1,p2,p3,p4,p5,pf⟩:=six_cells r1;obtain ⟨n1,n2⟩:=hcX.out W hSw;unfold val6 at n1 n2;obtain ⟨e0,e1,e2,e3,e4,e5,ef⟩:=six_cells n1;obtain ⟨f0,f1,f2,f3,f4,f5,ff⟩:=six_cells n2;rw [hg'.out] at o2;go_simp;try with_reducible rfl
    try simp only [Act.put,List.setIfInBounds_toArray,List.set_cons_zero,List.set_cons_succ]
    refine Top.wpAnyL_take (i:=5) (oi:={ dst:=some 31,op:=Go.Op.load 3 (Go.Operand.tmp 30),type:=3,pos:="ref.go:136",after:=#[{ on:=4,ground:=Go.Ground.data }],guard:=none }) (v:=?_) rfl (by kernel_rfl) (by kernel_rfl) (by kernel_rfl) (by kernel_rfl) (fun _ _ _ h=>h) (Or.inl ⟨by rfl,?_⟩) hHeld ?_
    rotate_left 1
    · intro W hSw;obtain ⟨r1,r2,-⟩:=hcells.out W (B2.out.trans (hSw.mono B2.out.size));obtain ⟨o0,o1,o2,o3,o4,o5,o6,o7,o8,o9,o10⟩:=op_cells r2;unfold val6 at r1;obtain ⟨p0,p1,p2,p3,p4,p5,pf⟩:=six_cells r1;obtain ⟨n1,n2⟩:=hcX.out W hSw;unfold val6 at n1 n2;obtain ⟨e0,e1,e2,e3,e4,e5,ef⟩:=six_cells n1;obtain ⟨f0,f1,f2,f3,f4,f5,ff⟩:=six_cells n2;rw [hg'.out] at o2;go_simp;try with_reducible rfl
    try simp only [Act.put,List.setIfInBounds_toArray,List.set_cons_zero,List.set_cons_succ]
    refine Top.wpAnyL_take (i:=6) (oi:={ dst:=some 32,op:=Go.Op.load 33 (Go.Operand.tmp 5),type:=33,pos:="ref.go:136",after:=#[],guard:=none }) (v:=?_) rfl (by kernel_rfl) (by kernel_rfl) (by kernel_rfl) (by kernel_rfl) (fun _ _ _ h=>h) (Or.inl ⟨by rfl,?_⟩) hHeld ?_
    rotate_left 1
    · intro W hSw;obtain ⟨r1,r2,-⟩:=hcells.out W (B2.out.trans (hSw.mono B2.out.size));obtain ⟨o0,o1,o2,o3,o4,o5,o6,o7,o8,o9,o10⟩:=op_cells r2;unfold val6 at r1;obtain ⟨p0,p1,p2,p3,p4,p5,pf⟩:=six_cells r1;obtain ⟨n1,n2⟩:=hcX.out W hSw;unfold val6 at n1 n2;obtain ⟨e0,e1,e2,e3,e4,e5,ef⟩:=six_cells n1;obtain ⟨f0,f1,f2,f3,f4,f5,ff⟩:=six_cells n2;rw [hg'.out] at o2;go_simp;try with_reducible rfl
    try simp only [Act.put,List.setIfInBounds_toArray,List.set_cons_zero,List.set_cons_succ]
    obtain ⟨Xd,hXd⟩:∃ X,X = X2.drew:=⟨_,rfl⟩
    have sd:Xd.heap.size≤X2.heap.size∧X2.heap.size≤Xd.heap.size:=by rw [hXd];exact ⟨Nat.le_refl _,Nat.le_refl _⟩
    rw [← hXd] at hHeld ⊢
    clear hXd
    refine Top.wpAnyL_two (i:=7) (j:=9) (o:={ dst:=some 33,op:=Go.Op.call { callee:=Go.Callee.value (Go.Operand.func 68),args:=#[Go.Operand.tmp 29,Go.Operand.tmp 31,Go.Operand.tmp 32],argTypes:=#[33,3,33] },type:=33,pos:="ref.go:136",after:=#[{ on:=3,ground:=Go.Ground.data },{ on:=5,ground:=Go.Ground.data },{ on:=6,ground:=Go.Ground.data }],guard:=none }) (o':={ dst:=some 9,op:=Go.Op.alloc 33,type:=0,pos:="ref.go:136",after:=#[],guard:=none }) (by kernel_rfl) rfl rfl (by decide) (by decide) (fun K hK=>?_) (fun K hK=>?_)
    · go_simp
      have b4c:=Lib.hid hHeld
      refine (hpt.out _ hHeld).mono ?_
      rintro e w5 ⟨zA,zn,zc,zK,zm,zd,rfl,hz,hb5⟩
      have b5c:=Lib.hid (show Below X2.heap.size X2 w5 from hHeld.trans (hb5.mono hHeld.size))
      have hz5:=Lib.hid hz
      have hb45:=Lib.hid hb5
      have s5:=hb5.size
      unfold val6
      clear hz hb5
      go_simp
      refine hK.out _ _ ?_ (fun hNew=>?_)
      · exact b5c.out
      clear hK K hHeld
      have hHeld:=hNew
      clear hNew
      try simp only [Act.put,List.setIfInBounds_toArray,List.set_cons_zero,List.set_cons_succ]
      refine Top.wpAnyL_two (i:=8) (j:=9) (o:={ dst:=some 34,op:=Go.Op.call { callee:=Go.Callee.value (Go.Operand.func 67),args:=#[Go.Operand.tmp 26,Go.Operand.tmp 28,Go.Operand.tmp 33],argTypes:=#[33,22,33] },type:=33,pos:="ref.go:136",after:=#[{ on:=0,ground:=Go.Ground.data },{ on:=2,ground:=Go.Ground.data },{ on:=7,ground:=Go.Ground.data },{ on:=7,ground:=Go.Ground.chain }],guard:=none }) (o':={ dst:=some 9,op:=Go.Op.alloc 33,type:=0,pos:="ref.go:136",after:=#[],guard:=none }) (by kernel_rfl) rfl rfl (by decide) (by decide) (fun K hK=>?_) (fun K hK=>?_)
      · go_simp
        have hT5:∀ k,(T k∨(X2.heap.size≤k∧k < w5.heap.size))→k < w5.heap.size:=fun k hk=>(by (rcases hk with hk | hk);(exact hTX.out _ hHeld k hk);(omega))
        have hzc:=Lib.hid (show NodeV (fun k=>T k∨(X2.heap.size≤k∧k < w5.heap.size)) w5 zA zn zc zK zm zd (y.withKids (insK g x y.kids)) from hz5.out.kept (fun k hk=>(by (rcases hk with hk | hk);(exact .inl hk);(exact .inr ⟨by omega,by omega⟩))) (fun _ _=>rfl))
        have hcc:=hch.out (fun k=>T k∨(X2.heap.size≤k∧k < w5.heap.size)) w5 hT5 (fun k hk=>.inl hk) hHeld zA zK zn zc zm zd hzc.out
        unfold val6 at hcc
        refine hcc.mono ?_
        rintro e w6 ⟨mA,mn,mc,mK,mk,md,rfl,he,hb6⟩
        have b6c:=Lib.hid (show Below X2.heap.size X2 w6 from hHeld.trans (hb6.mono hHeld.size))
        have he6:=Lib.hid he
        have hbc6:=Lib.hid hb6
        have s6:=hb6.size
        unfold val6
        clear he hb6 hcc hzc
        go_simp
        refine hK.out _ _ ?_ (fun hNew=>?_)
        · exact b6c.out
        clear hK K hHeld
        have hHeld:=hNew
        clear hNew
        try simp only [Act.put,List.setIfInBounds_toArray,List.set_cons_zero,List.set_cons_succ]
        refine Top.wpAnyL_one (i:=9) (o:={ dst:=some 9,op:=Go.Op.alloc 33,type:=0,pos:="ref.go:136",after:=#[],guard:=none }) (by kernel_rfl) rfl (by decide) (fun K hK=>?_)
        go_simp
        obtain ⟨Xa,hXa⟩:∃ X,X = World.alloc w6 (.cells zero6 33):=⟨_,rfl⟩
        have ra:=Lib.hid (show Xa.heap[w6.heap.size]? = some (.cells zero6 33 (0,0)) by rw [hXa];exact heap_alloc_new _ _)
        have bab:=Lib.hid (show Below w6.heap.size w6 Xa by rw [hXa];exact (Below.refl _ _).alloc (Nat.le_refl _) _)
        have bac:=Lib.hid (show Below X2.heap.size X2 Xa by rw [hXa];exact hHeld.alloc hHeld.size _)
        have sa:Xa.heap.size≤w6.heap.size + 1∧w6.heap.size + 1≤Xa.heap.size:=by rw [hXa];simp
        unfold zero6 at hXa
        rw [← hXa]
        clear hXa
        go_simp
        refine hK.out _ _ ?_ (fun hNew=>?_)
        · exact bac.out
        clear hK K hHeld
        have hHeld:=hNew
        clear hNew
        try simp only [Act.put,List.setIfInBounds_toArray,List.set_cons_zero,List.set_cons_succ]
        have he9:=Lib.hid (show NodeV (fun k=>T k∨(X2.heap.size≤k∧k < Xa.heap.size∧k ≠ w6.heap.size)) Xa mA mn mc mK mk md m from he6.out.kept (fun k hk=>(by (rcases hk with hk | hk);(rcases hk with hk | hk);(exact .inl hk);(have h1:=b4c.out.size;have h2:=b5c.out.size;have h3:=hk.1;have h4:=hk.2;exact .inr ⟨by omega,by omega,by omega⟩);(have h1:=b4c.out.size;have h2:=b5c.out.size;have h3:=hk.1;have h4:=hk.2;exact .inr ⟨by omega,by omega,by omega⟩))) (fun k hk=>bab.out.block k (by (rcases hk with hk | hk);(rcases hk with hk | hk);(exact hTX.out _ b6c.out k hk);(omega);(omega))))
        have rb:=Lib.hid (show Xa.heap[w6.heap.size]? = some (.cells zero6 33 (0,0)) from ra.out)
        have bb9:=Lib.hid hHeld
        obtain ⟨b,hbe⟩:∃ b,b = w6.heap.size:=⟨_,rfl⟩
        have sb:X2.heap.size≤b:=by rw [hbe];have:=b4c.out.size;have:=b5c.out.size;have:=b6c.out.size;omega
        rw [← hbe] at he9 rb ⊢
        have hlt:b < Xa.heap.size:=(Array.getElem?_eq_some_iff.1 rb.out).1
        clear hbe
        have rbu:=rb.out
        unfold zero6 at rbu
        obtain ⟨g0,g1,g2,g3,g4,g5,gf⟩:=six_cells rbu
        refine Top.wpAnyL_last (o:={ dst:=none,op:=Go.Op.store 33 (Go.Operand.tmp 9) (Go.Operand.tmp 34),type:=0,pos:="ref.go:136",after:=#[{ on:=9,ground:=Go.Ground.data },{ on:=8,ground:=Go.Ground.data },{ on:=8,ground:=Go.Ground.chain },{ on:=0,ground:=Go.Ground.phase },{ on:=1,ground:=Go.Ground.phase },{ on:=2,ground:=Go.Ground.phase },{ on:=3,ground:=Go.Ground.phase },{ on:=4,ground:=Go.Ground.phase },{ on:=5,ground:=Go.Ground.phase },{ on:=6,ground:=Go.Ground.phase },{ on:=7,ground:=Go.Ground.phase },{ on:=8,ground:=Go.Ground.phase },{ on:=9,ground:=Go.Ground.phase }],guard:=none }) (by kernel_rfl) rfl (fun K hK=>?_)
        go_simp
        refine hK _ _ ?_
        clear hK K
        try simp only [Act.put,List.setIfInBounds_toArray,List.set_cons_zero,List.set_cons_succ]
        refine wpAny_done (by kernel_rfl) ?_ _
        refine hK0 _ _ ?_
        clear hK0
        obtain ⟨W9,hW9,R9,N9,B9,Z9⟩:=end_box (w:=X2) (r:=b) sb bb9.out rbu he9.out (fun k hk=>(by (rcases hk with hk | hk);(have:=hTX2.out k hk;omega);(exact hk.2.2)))
        rw [← hW9]
        clear hW9 g0 g1 g2 g3 g4 g5 gf
        go_wp2_with fail
        go_meet
        rw [← Z9] at hlt N9
        exact ⟨b,mA,mn,mc,mK,mk,md,rfl,sb,hlt,R9,N9,B9⟩
      · go_simp
        obtain ⟨Xa,hXa⟩:∃ X,X = World.alloc w5 (.cells zero6 33):=⟨_,rfl⟩
        have ra:=Lib.hid (show Xa.heap[w5.heap.size]? = some (.cells zero6 33 (0,0)) by rw [hXa];exact heap_alloc_new _ _)
        have bab:=Lib.hid (show Below w5.heap.size w5 Xa by rw [hXa];exact (Below.refl _ _).alloc (Nat.le_refl _) _)
        have bac:=Lib.hid (show Below X2.heap.size X2 Xa by rw [hXa];exact hHeld.alloc hHeld.size _)
        have sa:Xa.heap.size≤w5.heap.size + 1∧w5.heap.size + 1≤Xa.heap.size:=by rw [hXa];simp
        unfold zero6 at hXa
        rw [← hXa]
        clear hXa
        go_simp
        refine hK.out _ _ ?_ (fun hNew=>?_)
        · exact bac.out
        clear hK K hHeld
        have hHeld:=hNew
        clear hNew
        try simp only [Act.put,List.setIfInBounds_toArray,List.set_cons_zero,List.set_cons_succ]
        refine Top.wpAnyL_one (i:=8) (o:={ dst:=some 34,op:=Go.Op.call { callee:=Go.Callee.value (Go.Operand.func 67),args:=#[Go.Operand.tmp 26,Go.Operand.tmp 28,Go.Operand.tmp 33],argTypes:=#[33,22,33] },type:=33,pos:="ref.go:136",after:=#[{ on:=0,ground:=Go.Ground.data },{ on:=2,ground:=Go.Ground.data },{ on:=7,ground:=Go.Ground.data },{ on:=7,ground:=Go.Ground.chain }],guard:=none }) (by kernel_rfl) rfl (by decide) (fun K hK=>?_)
        go_simp
        have hT5:∀ k,(T k∨(X2.heap.size≤k∧k < w5.heap.size))→k < Xa.heap.size:=fun k hk=>(by (rcases hk with hk | hk);(exact hTX.out _ hHeld k hk);(omega))
        have hzc:=Lib.hid (show NodeV (fun k=>T k∨(X2.heap.size≤k∧k < w5.heap.size)) Xa zA zn zc zK zm zd (y.withKids (insK g x y.kids)) from hz5.out.kept (fun k hk=>(by (rcases hk with hk | hk);(exact .inl hk);(exact .inr ⟨by omega,by omega⟩))) (fun k hk=>bab.out.block k (by (rcases hk with hk | hk);(exact hTX.out _ b5c.out k hk);(omega))))
        have hcc:=hch.out (fun k=>T k∨(X2.heap.size≤k∧k < w5.heap.size)) Xa hT5 (fun k hk=>.inl hk) hHeld zA zK zn zc zm zd hzc.out
        unfold val6 at hcc
        refine hcc.mono ?_
        rintro e w6 ⟨mA,mn,mc,mK,mk,md,rfl,he,hb6⟩
        have b6c:=Lib.hid (show Below X2.heap.size X2 w6 from hHeld.trans (hb6.mono hHeld.size))
        have he6:=Lib.hid he
        have hbc6:=Lib.hid hb6
        have s6:=hb6.size
        unfold val6
        clear he hb6 hcc hzc
        go_simp
        refine hK.out _ _ ?_ (fun hNew=>?_)
        · exact b6c.out
        clear hK K hHeld
        have hHeld:=hNew
        clear hNew
        try simp only [Act.put,List.setIfInBounds_toArray,List.set_cons_zero,List.set_cons_succ]
        have he9:=Lib.hid (show NodeV (fun k=>T k∨(X2.heap.size≤k∧k < w6.heap.size∧k ≠ w5.heap.size)) w6 mA mn mc mK mk md m from he6.out.kept (fun k hk=>(by (rcases hk with hk | hk);(rcases hk with hk | hk);(exact .inl hk);(have h1:=b4c.out.size;have h2:=b5c.out.size;have h3:=hk.1;have h4:=hk.2;exact .inr ⟨by omega,by omega,by omega⟩);(have h1:=b4c.out.size;have h2:=b5c.out.size;have h3:=hk.1;have h4:=hk.2;exact .inr ⟨by omega,by omega,by omega⟩))) (fun k hk=>rfl))
        have rb:=Lib.hid (show w6.heap[w5.heap.size]? = some (.cells zero6 33 (0,0)) from ((hbc6.out.block _ (by omega)).trans ra.out))
        have bb9:=Lib.hid hHeld
        obtain ⟨b,hbe⟩:∃ b,b = w5.heap.size:=⟨_,rfl⟩
        have sb:X2.heap.size≤b:=by rw [hbe];have:=b4c.out.size;have:=b5c.out.size;have:=b6c.out.size;omega
        rw [← hbe] at he9 rb ⊢
        have hlt:b < w6.heap.size:=(Array.getElem?_eq_some_iff.1 rb.out).1
        clear hbe
        have rbu:=rb.out
        unfold zero6 at rbu
        obtain ⟨g0,g1,g2,g3,g4,g5,gf⟩:=six_cells rbu
        refine Top.wpAnyL_last (o:={ dst:=none,op:=Go.Op.store 33 (Go.Operand.tmp 9) (Go.Operand.tmp 34),type:=0,pos:="ref.go:136",after:=#[{ on:=9,ground:=Go.Ground.data },{ on:=8,ground:=Go.Ground.data },{ on:=8,ground:=Go.Ground.chain },{ on:=0,ground:=Go.Ground.phase },{ on:=1,ground:=Go.Ground.phase },{ on:=2,ground:=Go.Ground.phase },{ on:=3,ground:=Go.Ground.phase },{ on:=4,ground:=Go.Ground.phase },{ on:=5,ground:=Go.Ground.phase },{ on:=6,ground:=Go.Ground.phase },{ on:=7,ground:=Go.Ground.phase },{ on:=8,ground:=Go.Ground.phase },{ on:=9,ground:=Go.Ground.phase }],guard:=none }) (by kernel_rfl) rfl (fun K hK=>?_)
        go_simp
        refine hK _ _ ?_
        clear hK K
        try simp only [Act.put,List.setIfInBounds_toArray,List.set_cons_zero,List.set_cons_succ]
        refine wpAny_done (by kernel_rfl) ?_ _
        refine hK0 _ _ ?_
        clear hK0
        obtain ⟨W9,hW9,R9,N9,B9,Z9⟩:=end_box (w:=X2) (r:=b) sb bb9.out rbu he9.out (fun k hk=>(by (rcases hk with hk | hk);(have:=hTX2.out k hk;omega);(exact hk.2.2)))
        rw [← hW9]
        clear hW9 g0 g1 g2 g3 g4 g5 gf
        go_wp2_with fail
        go_meet
        rw [← Z9] at hlt N9
        exact ⟨b,mA,mn,mc,mK,mk,md,rfl,sb,hlt,R9,N9,B9⟩
    · go_simp
      obtain ⟨Xa,hXa⟩:∃ X,X = World.alloc Xd (.cells zero6 33):=⟨_,rfl⟩
      have ra:=Lib.hid (show Xa.heap[Xd.heap.size]? = some (.cells zero6 33 (0,0)) by rw [hXa];exact heap_alloc_new _ _)
      have bab:=Lib.hid (show Below Xd.heap.size Xd Xa by rw [hXa];exact (Below.refl _ _).alloc (Nat.le_refl _) _)
      have bac:=Lib.hid (show Below X2.heap.size X2 Xa by rw [hXa];exact hHeld.alloc hHeld.size _)
      have sa:Xa.heap.size≤Xd.heap.size + 1∧Xd.heap.size + 1≤Xa.heap.size:=by rw [hXa];simp
      unfold zero6 at hXa
      rw [← hXa]
      clear hXa
      go_simp
      refine hK.out _ _ ?_ (fun hNew=>?_)
      · exact bac.out
      clear hK K hHeld
      have hHeld:=hNew
      clear hNew
      try simp only [Act.put,List.setIfInBounds_toArray,List.set_cons_zero,List.set_cons_succ]
      refine Top.wpAnyL_one (i:=7) (o:={ dst:=some 33,op:=Go.Op.call { callee:=Go.Callee.value (Go.Operand.func 68),args:=#[Go.Operand.tmp 29,Go.Operand.tmp 31,Go.Operand.tmp 32],argTypes:=#[33,3,33] },type:=33,pos:="ref.go:136",after:=#[{ on:=3,ground:=Go.Ground.data },{ on:=5,ground:=Go.Ground.data },{ on:=6,ground:=Go.Ground.data }],guard:=none }) (by kernel_rfl) rfl (by decide) (fun K hK=>?_)
      go_simp
      have b4c:=Lib.hid hHeld
      refine (hpt.out _ hHeld).mono ?_
      rintro e w5 ⟨zA,zn,zc,zK,zm,zd,rfl,hz,hb5⟩
      have b5c:=Lib.hid (show Below X2.heap.size X2 w5 from hHeld.trans (hb5.mono hHeld.size))
      have hz5:=Lib.hid hz
      have hb45:=Lib.hid hb5
      have s5:=hb5.size
      unfold val6
      clear hz hb5
      go_simp
      refine hK.out _ _ ?_ (fun hNew=>?_)
      · exact b5c.out
      clear hK K hHeld
      have hHeld:=hNew
      clear hNew
      try simp only [Act.put,List.setIfInBounds_toArray,List.set_cons_zero,List.set_cons_succ]
      refine Top.wpAnyL_one (i:=8) (o:={ dst:=some 34,op:=Go.Op.call { callee:=Go.Callee.value (Go.Operand.func 67),args:=#[Go.Operand.tmp 26,Go.Operand.tmp 28,Go.Operand.tmp 33],argTypes:=#[33,22,33] },type:=33,pos:="ref.go:136",after:=#[{ on:=0,ground:=Go.Ground.data },{ on:=2,ground:=Go.Ground.data },{ on:=7,ground:=Go.Ground.data },{ on:=7,ground:=Go.Ground.chain }],guard:=none }) (by kernel_rfl) rfl (by decide) (fun K hK=>?_)
      go_simp
      have hT5:∀ k,(T k∨(Xa.heap.size≤k∧k < w5.heap.size))→k < w5.heap.size:=fun k hk=>(by (rcases hk with hk | hk);(exact hTX.out _ hHeld k hk);(omega))
      have hzc:=Lib.hid (show NodeV (fun k=>T k∨(Xa.heap.size≤k∧k < w5.heap.size)) w5 zA zn zc zK zm zd (y.withKids (insK g x y.kids)) from hz5.out.kept (fun k hk=>(by (rcases hk with hk | hk);(exact .inl hk);(exact .inr ⟨by omega,by omega⟩))) (fun _ _=>rfl))
      have hcc:=hch.out (fun k=>T k∨(Xa.heap.size≤k∧k < w5.heap.size)) w5 hT5 (fun k hk=>.inl hk) hHeld zA zK zn zc zm zd hzc.out
      unfold val6 at hcc
      refine hcc.mono ?_
      rintro e w6 ⟨mA,mn,mc,mK,mk,md,rfl,he,hb6⟩
      have b6c:=Lib.hid (show Below X2.heap.size X2 w6 from hHeld.trans (hb6.mono hHeld.size))
      have he6:=Lib.hid he
      have hbc6:=Lib.hid hb6
      have s6:=hb6.size
      unfold val6
      clear he hb6 hcc hzc
      go_simp
      refine hK.out _ _ ?_ (fun hNew=>?_)
      · exact b6c.out
      clear hK K hHeld
      have hHeld:=hNew
      clear hNew
      try simp only [Act.put,List.setIfInBounds_toArray,List.set_cons_zero,List.set_cons_succ]
      have he9:=Lib.hid (show NodeV (fun k=>T k∨(X2.heap.size≤k∧k < w6.heap.size∧k ≠ Xd.heap.size)) w6 mA mn mc mK mk md m from he6.out.kept (fun k hk=>(by (rcases hk with hk | hk);(rcases hk with hk | hk);(exact .inl hk);(have h1:=b4c.out.size;have h2:=b5c.out.size;have h3:=hk.1;have h4:=hk.2;exact .inr ⟨by omega,by omega,by omega⟩);(have h1:=b4c.out.size;have h2:=b5c.out.size;have h3:=hk.1;have h4:=hk.2;exact .inr ⟨by omega,by omega,by omega⟩))) (fun k hk=>rfl))
      have rb:=Lib.hid (show w6.heap[Xd.heap.size]? = some (.cells zero6 33 (0,0)) from ((bab.out.size |> fun _=>(hb45.out.trans (hbc6.out.mono hb45.out.size)).block _ (by omega)).trans ra.out))
      have bb9:=Lib.hid hHeld
      obtain ⟨b,hbe⟩:∃ b,b = Xd.heap.size:=⟨_,rfl⟩
      have sb:X2.heap.size≤b:=by rw [hbe];have:=b4c.out.size;have:=b5c.out.size;have:=b6c.out.size;omega
      rw [← hbe] at he9 rb ⊢
      have hlt:b < w6.heap.size:=(Array.getElem?_eq_some_iff.1 rb.out).1
      clear hbe
      have rbu:=rb.out
      unfold zero6 at rbu
      obtain ⟨g0,g1,g2,g3,g4,g5,gf⟩:=six_cells rbu
      refine Top.wpAnyL_last (o:={ dst:=none,op:=Go.Op.store 33 (Go.Operand.tmp 9) (Go.Operand.tmp 34),type:=0,pos:="ref.go:136",after:=#[{ on:=9,ground:=Go.Ground.data },{ on:=8,ground:=Go.Ground.data },{ on:=8,ground:=Go.Ground.chain },{ on:=0,ground:=Go.Ground.phase },{ on:=1,ground:=Go.Ground.phase },{ on:=2,ground:=Go.Ground.phase },{ on:=3,ground:=Go.Ground.phase },{ on:=4,ground:=Go.Ground.phase },{ on:=5,ground:=Go.Ground.phase },{ on:=6,ground:=Go.Ground.phase },{ on:=7,ground:=Go.Ground.phase },{ on:=8,ground:=Go.Ground.phase },{ on:=9,ground:=Go.Ground.phase }],guard:=none }) (by kernel_rfl) rfl (fun K hK=>?_)
      go_simp
      refine hK _ _ ?_
      clear hK K
      try simp only [Act.put,List.setIfInBounds_toArray,List.set_cons_zero,List.set_cons_succ]
      refine wpAny_done (by kernel_rfl) ?_ _
      refine hK0 _ _ ?_
      clear hK0
      obtain ⟨W9,hW9,R9,N9,B9,Z9⟩:=end_box (w:=X2) (r:=b) sb bb9.out rbu he9.out (fun k hk=>(by (rcases hk with hk | hk);(have:=hTX2.out k hk;omega);(exact hk.2.2)))
      rw [← hW9]
      clear hW9 g0 g1 g2 g3 g4 g5 gf
      go_wp2_with fail
      go_meet
      rw [← Z9] at hlt N9
      exact ⟨b,mA,mn,mc,mK,mk,md,rfl,sb,hlt,R9,N9,B9⟩

  case rest =>
    obtain ⟨b,mA,mn,mc,mK,mk,md,rfl,sb,hlt,R9,N9,B9⟩:=hcut
    have Bc:=Lib.hid B9
    have hR9:=Lib.hid R9
    have hN9:=Lib.hid N9
    have h3c:=Lib.hid (B2.out.trans (B9.mono B2.out.size))
    have hwc:=Lib.hid (hWX.out _ B9)
    obtain ⟨r1,r2,-⟩:=hcells.out _ h3c.out
    obtain ⟨o0,o1,o2,o3,o4,o5,o6,o7,o8,o9,o10⟩:=op_cells r2
    rw [hg'.out] at o2
    have hoc:=Lib.hid (hop.out _ hwc.out)
    have hcop:=Lib.hid (P4.refCopied_any wc s.pA s.pn s.pc o.path (its4 hoc.out.path) hoc.out.pnil hoc.out.pfew)
    clear r1 r2 R9 N9 B9
    unfold P4.NewRow at hcop
    go_upto_region 5 with (go_at_call 112;go_loud (refine hcop.out.mono ?_;rintro e w7 ⟨v7,rfl,ho7,hb7⟩;have ho7':=Lib.hid ho7;have hb7':=Lib.hid hb7;obtain ⟨A7,n7,c7,rfl,hn7,hc7,hm7,hi7,-⟩:=P4.OwnI.shape ho7;have hn7':=Lib.hid hn7;have hi7':=Lib.hid hi7;clear hn7 hi7;clear o0 o1 o2 o3 o4 o5 o6 o7 o8 o9 o10 ho7 hb7))
    have b7:=Lib.hid (hwc.out.trans (hb7'.out.mono hwc.out.size))
    have h37:=Lib.hid (h3c.out.trans (hb7'.out.mono h3c.out.size))
    have hR7:=Lib.hid ((hb7'.out.block b hlt).trans hR9.out)
    have hN7:=Lib.hid (hN9.out.kept (w':=w7) (T':=fun k=>T k∨(X2.heap.size≤k∧k < w7.heap.size)) (fun k hk=>(by (rcases hk with hk | hk);(exact .inl hk);(have:=hb7'.out.size;exact .inr ⟨hk.1,by omega⟩))) (fun k hk=>hb7'.out.block k (by (rcases hk with hk | hk);(exact hTX.out _ Bc.out k hk);(exact hk.2.1))))
    have hlt7:b < w7.heap.size:=by have:=hb7'.out.size;omega
    obtain ⟨r1,r2,-⟩:=hcells.out _ h37.out
    obtain ⟨o0,o1,o2,o3,o4,o5,o6,o7,o8,o9,o10⟩:=op_cells r2
    rw [hg'.out] at o2
    clear r1 r2
    go_upto_region 6 with fail
    have hlp:=Lib.hid hoc.out.path.1
    have hlt':=Lib.hid hoc.out.to_.1
    have hwo:=Lib.hid (fun (W:World) (hb:Below wc.heap.size wc W) (dn:Nat) (hi:Its W A7 dn (q' ++ [(c':Int)])) (hd:dn≤c7)=>rwithout_T (fun k=>T k∨(X2.heap.size≤k∧k < wc.heap.size∧k ≠ b)) W (fun k hk=>(by (rcases hk with hk | hk);(exact hTX.out W (Bc.out.trans (hb.mono Bc.out.size)) k hk);(have:=hb.size;omega))) m x2 mA mK mn mc mk md (hN9.out.kept (fun _ h=>h) (fun k hk=>hb.block k (by (rcases hk with hk | hk);(exact hTX.out _ Bc.out k hk);(exact hk.2.1)))) A7 dn c7 q' c' hi hd hm7 (by rw [← hq'.out];exact hx2'.out) hmw'.out)
    obtain ⟨a,ha⟩:∃ a,a = (delAt m (docFrom o.path o.to_ g)).getD Nd.zero:=⟨_,rfl⟩
    rw [← hq'.out,← ha] at hwo
    have ha':=Lib.hid ha
    clear ha
    by_cases k1:s.tn < n7
    · have k1I:(s.tn:Int) < (n7:Int):=by omega
      have k1d:decide ((s.tn:Int) < (n7:Int)) = true:=decide_eq_true k1I
      have hwi:=Lib.hid (fun (k:Nat)=>P4.refWithin_any (w7.drewN k) s.tA A7 s.tn s.tc n7 c7 o.to_ o.path (P4.Its.drewN (its4 (hop.out _ b7.out).to_) k) (hi7'.out.drewN k) (Nat.le_trans hoc.out.tnc hoc.out.tcm) (Nat.le_trans hc7 hm7))
      by_cases hpre:o.to_ <+: o.path
      · obtain ⟨sfx,hsf⟩:=hpre
        rw [show P4.withinV o.to_ o.path = true by rw [within_pre];exact decide_eq_true ⟨sfx,hsf⟩] at hwi
        obtain ⟨f,s',rfl⟩:∃ f s',sfx = f :: s':=by
          cases sfx with
          | nil=>exfalso;have h1:=congrArg List.length hsf;rw [List.append_nil] at h1;have:=hlp.out;have:=hlt'.out;have:=hn7'.out;omega
          | cons f s'=>exact ⟨f,s',rfl⟩
        obtain ⟨fj,rfl,hfj⟩:=hfb.out f s' hsf
        have hsf':=Lib.hid hsf
        have hfw:(fj:Int) < 1000000:=by have:=(weigh_rows y).2;have:=hyw.out;have:=hbig'.out;omega
        obtain ⟨ad7,v7,hA7,hv7,hcl⟩:=hi7'.out.at_ (k:=s.tn) k1
        have hvf:v7 = (fj:Int):=by rw [← hsf,List.getElem?_append_right (by have:=hlt'.out;omega),show s.tn - o.to_.length = 0 by have:=hlt'.out;omega] at hv7;injection hv7 with e;exact e.symm
        rw [hvf] at hcl
        clear hvf hv7 hsf
        have h0:(0:Int)≤(s.tn:Int):=by omega
        have hdin:=docFrom_in o.to_ (fj:Int) s' g
        rw [hsf'.out] at hdin
        by_cases h3:g≤fj
        · have h3I:(g:Int)≤(fj:Int):=by omega
          rw [if_pos h3I] at hdin
          rw [hdin] at hwo
          obtain ⟨A7',c7',e7,-,-,-,hrow⟩:=own_form ho7'.out
          injection e7 with e1 e2 e3
          subst e1
          obtain ⟨g7,hg7,hgb,hglt,hgc⟩:=hrow (by have:=hlp.out;have:=hn7'.out;omega)
          rw [hA7] at hg7
          injection hg7 with hg7
          subst hg7
          subst hA7
          have hadd:(⟨g7,0,none⟩:Addr).add s.tn = ⟨g7,s.tn,none⟩:=by unfold Addr.add;split <;> simp_all
          rw [hadd] at hcl
          have hty:=own_typed ho7'.out g7 rfl
          have hwr:IntKind.i64.wrap ((fj:Int) + 1) = (fj:Int) + 1:=IntWalk.i64_in _ (by omega)
          have hgc':=Lib.hid (fun (j:Nat) (u:Int) (hj:o.path[j]? = some u)=>hgc j _ (by rw [List.getElem?_map,hj];rfl))
          have hff:w7.frozen? ⟨g7,s.tn,none⟩ = false:=own_frozen (n:=n7) (cap:=c7) (by have:=ho7'.out;unfold P4.OwnI at this;rw [← hn7'.out] at this;exact this) _
          clear hdin hgc hrow e2 e3 hty hadd
          go_quiet ((go_at_call 64;exact Calls.quiet_of (hwi.out _)))
          rename_i nq
          go_upto_region 8 with fail
          obtain ⟨W8,hW8⟩:∃ X,X = (w7.drewN nq).setCell ⟨g7,s.tn,none⟩ (.int .i64 ((fj:Int) + 1)):=⟨_,rfl⟩
          have hB8:Below wc.heap.size wc W8:=by rw [hW8];exact (draws hb7'.out nq).setCell hgb _
          have hI8:Its W8 (some ⟨g7,0,none⟩) n7 (o.to_ ++ ((fj:Int) + 1) :: s'):=by rw [hW8];exact its_bump (f:=(fj:Int)) (fun j u hj=>hgc'.out j u (by rw [← hsf'.out];exact hj)) hglt (by rw [hsf'.out];exact hn7'.out.symm) hlt'.out
          rw [← hW8]
          clear hW8 hff hwr hcl
          have HB:=Lib.hid (hB8)
          have HI:=Lib.hid (hI8)
          obtain ⟨-,-,r3⟩:=hcells.out _ (h3c.out.trans (HB.out.mono h3c.out.size))
          have rm:=(HB.out.block b hlt).trans hR9.out
          unfold val6 at rm
          obtain ⟨p0,p1,p2,p3,p4,p5,pf⟩:=six_cells rm
          clear rm r3
          go_wp2_with (go_at_call 69;go_loud (refine (hwo.out _ HB.out n7 HI.out hc7).mono ?_;rintro e w10 ⟨eA,en,ec,eK,em,ed,rfl,he,hb10⟩;clear p0 p1 p2 p3 p4 p5 pf;have he10:=Lib.hid he;have B10:=Lib.hid (HB.out.trans (hb10.mono HB.out.size));have s10:=hb10.size;obtain ⟨-,-,r3⟩:=hcells.out w10 (h3c.out.trans (B10.out.mono h3c.out.size));have r3h:=Lib.hid r3;have hl10:w.heap.size + 1 + 1 < w10.heap.size:=(Array.getElem?_eq_some_iff.1 r3).1;unfold zero6 at r3;obtain ⟨g0,g1,g2,g3,g4,g5,gf⟩:=six_cells r3;clear he hb10 r3;unfold val6))
          have r3:=r3h.out
          unfold zero6 at r3
          have hz3:=z5'.out
          obtain ⟨W9,hW9,R9,N9,B9,Z9⟩:=end_box (w:=w) (r:=w.heap.size + 1 + 1) (by omega) (hwc.out.trans (B10.out.mono hwc.out.size)) r3 he10.out (fun k hk=>(by (rcases hk with hk | hk);(rcases hk with hk | hk);(have:=hT'.out k hk;omega);(have:=B2.out.size;omega);(have:=hk.1;have:=HB.out.size;have:=B2.out.size;have:=Bc.out.size;omega)))
          rw [← hW9]
          unfold val6 at R9
          obtain ⟨d0,d1,d2,d3,d4,d5,df⟩:=six_cells R9
          rw [← ha'.out]
          refine bodyPost_ret (v:=.agg (val6 a eA en ec eK em ed)) (by simp [results,Try.results70,go_sem,d0,d1,d2,d3,d4,d5,val6]) rfl ?_
          exact ⟨eA,en,ec,eK,em,ed,rfl,N9.kept (fun k hk=>(by (rcases hk with hk | hk);(rcases hk with hk | hk);(exact .inl hk);(exact .inr ⟨by have:=B2.out.size;omega,by have:=B10.out.size;omega⟩);(exact .inr ⟨by have:=hk.1;have:=HB.out.size;have:=B2.out.size;have:=Bc.out.size;omega,by have:=hk.2;omega⟩))) (fun _ _=>rfl),B9⟩

        · have h3I:¬ (g:Int)≤(fj:Int):=by omega
          rw [if_neg h3I,hsf'.out] at hdin
          rw [hdin] at hwo
          subst hA7
          clear hdin
          go_quiet ((go_at_call 64;exact Calls.quiet_of (hwi.out _)))
          rename_i nq
          have HB:=Lib.hid (draws hb7'.out nq)
          have HI:=Lib.hid (show Its (w7.drewN nq) _ n7 _ from hi7'.out.drewN nq)
          obtain ⟨-,-,r3⟩:=hcells.out _ (h3c.out.trans (HB.out.mono h3c.out.size))
          have rm:=(HB.out.block b hlt).trans hR9.out
          unfold val6 at rm
          obtain ⟨p0,p1,p2,p3,p4,p5,pf⟩:=six_cells rm
          clear rm r3
          go_wp2_with (go_at_call 69;go_loud (refine (hwo.out _ HB.out n7 HI.out hc7).mono ?_;rintro e w10 ⟨eA,en,ec,eK,em,ed,rfl,he,hb10⟩;clear p0 p1 p2 p3 p4 p5 pf;have he10:=Lib.hid he;have B10:=Lib.hid (HB.out.trans (hb10.mono HB.out.size));have s10:=hb10.size;obtain ⟨-,-,r3⟩:=hcells.out w10 (h3c.out.trans (B10.out.mono h3c.out.size));have r3h:=Lib.hid r3;have hl10:w.heap.size + 1 + 1 < w10.heap.size:=(Array.getElem?_eq_some_iff.1 r3).1;unfold zero6 at r3;obtain ⟨g0,g1,g2,g3,g4,g5,gf⟩:=six_cells r3;clear he hb10 r3;unfold val6))
          have r3:=r3h.out
          unfold zero6 at r3
          have hz3:=z5'.out
          obtain ⟨W9,hW9,R9,N9,B9,Z9⟩:=end_box (w:=w) (r:=w.heap.size + 1 + 1) (by omega) (hwc.out.trans (B10.out.mono hwc.out.size)) r3 he10.out (fun k hk=>(by (rcases hk with hk | hk);(rcases hk with hk | hk);(have:=hT'.out k hk;omega);(have:=B2.out.size;omega);(have:=hk.1;have:=HB.out.size;have:=B2.out.size;have:=Bc.out.size;omega)))
          rw [← hW9]
          unfold val6 at R9
          obtain ⟨d0,d1,d2,d3,d4,d5,df⟩:=six_cells R9
          rw [← ha'.out]
          refine bodyPost_ret (v:=.agg (val6 a eA en ec eK em ed)) (by simp [results,Try.results70,go_sem,d0,d1,d2,d3,d4,d5,val6]) rfl ?_
          exact ⟨eA,en,ec,eK,em,ed,rfl,N9.kept (fun k hk=>(by (rcases hk with hk | hk);(rcases hk with hk | hk);(exact .inl hk);(exact .inr ⟨by have:=B2.out.size;omega,by have:=B10.out.size;omega⟩);(exact .inr ⟨by have:=hk.1;have:=HB.out.size;have:=B2.out.size;have:=Bc.out.size;omega,by have:=hk.2;omega⟩))) (fun _ _=>rfl),B9⟩

      · rw [show P4.withinV o.to_ o.path = false by rw [within_pre];exact decide_eq_false hpre] at hwi
        rw [docFrom_out _ _ _ hpre] at hwo
        clear hpre
        go_quiet ((go_at_call 64;exact Calls.quiet_of (hwi.out _)))
        rename_i nq
        have HB:=Lib.hid (draws hb7'.out nq)
        have HI:=Lib.hid (show Its (w7.drewN nq) _ n7 _ from hi7'.out.drewN nq)
        obtain ⟨-,-,r3⟩:=hcells.out _ (h3c.out.trans (HB.out.mono h3c.out.size))
        have rm:=(HB.out.block b hlt).trans hR9.out
        unfold val6 at rm
        obtain ⟨p0,p1,p2,p3,p4,p5,pf⟩:=six_cells rm
        clear rm r3
        go_wp2_with (go_at_call 69;go_loud (refine (hwo.out _ HB.out n7 HI.out hc7).mono ?_;rintro e w10 ⟨eA,en,ec,eK,em,ed,rfl,he,hb10⟩;clear p0 p1 p2 p3 p4 p5 pf;have he10:=Lib.hid he;have B10:=Lib.hid (HB.out.trans (hb10.mono HB.out.size));have s10:=hb10.size;obtain ⟨-,-,r3⟩:=hcells.out w10 (h3c.out.trans (B10.out.mono h3c.out.size));have r3h:=Lib.hid r3;have hl10:w.heap.size + 1 + 1 < w10.heap.size:=(Array.getElem?_eq_some_iff.1 r3).1;unfold zero6 at r3;obtain ⟨g0,g1,g2,g3,g4,g5,gf⟩:=six_cells r3;clear he hb10 r3;unfold val6))
        have r3:=r3h.out
        unfold zero6 at r3
        have hz3:=z5'.out
        obtain ⟨W9,hW9,R9,N9,B9,Z9⟩:=end_box (w:=w) (r:=w.heap.size + 1 + 1) (by omega) (hwc.out.trans (B10.out.mono hwc.out.size)) r3 he10.out (fun k hk=>(by (rcases hk with hk | hk);(rcases hk with hk | hk);(have:=hT'.out k hk;omega);(have:=B2.out.size;omega);(have:=hk.1;have:=HB.out.size;have:=B2.out.size;have:=Bc.out.size;omega)))
        rw [← hW9]
        unfold val6 at R9
        obtain ⟨d0,d1,d2,d3,d4,d5,df⟩:=six_cells R9
        rw [← ha'.out]
        refine bodyPost_ret (v:=.agg (val6 a eA en ec eK em ed)) (by simp [results,Try.results70,go_sem,d0,d1,d2,d3,d4,d5,val6]) rfl ?_
        exact ⟨eA,en,ec,eK,em,ed,rfl,N9.kept (fun k hk=>(by (rcases hk with hk | hk);(rcases hk with hk | hk);(exact .inl hk);(exact .inr ⟨by have:=B2.out.size;omega,by have:=B10.out.size;omega⟩);(exact .inr ⟨by have:=hk.1;have:=HB.out.size;have:=B2.out.size;have:=Bc.out.size;omega,by have:=hk.2;omega⟩))) (fun _ _=>rfl),B9⟩

    · have k1I:¬ (s.tn:Int) < (n7:Int):=by omega
      have k1d:decide ((s.tn:Int) < (n7:Int)) = false:=decide_eq_false k1I
      have hdf:docFrom o.path o.to_ g = o.path:=by
        by_cases hpre:o.to_ <+: o.path
        · have e:o.to_ = o.path:=hpre.eq_of_length_le (by have:=hlp.out;have:=hlt'.out;have:=hn7'.out;omega)
          rw [e];exact docFrom_eq _ _
        · exact docFrom_out _ _ _ hpre
      rw [hdf] at hwo
      clear hdf
      go_quiet (fail)
      rename_i nq

      have HB:=Lib.hid (draws hb7'.out nq)
      have HI:=Lib.hid (show Its (w7.drewN nq) _ n7 _ from hi7'.out.drewN nq)
      obtain ⟨-,-,r3⟩:=hcells.out _ (h3c.out.trans (HB.out.mono h3c.out.size))
      have rm:=(HB.out.block b hlt).trans hR9.out
      unfold val6 at rm
      obtain ⟨p0,p1,p2,p3,p4,p5,pf⟩:=six_cells rm
      clear rm r3
      go_wp2_with (go_at_call 69;go_loud (refine (hwo.out _ HB.out n7 HI.out hc7).mono ?_;rintro e w10 ⟨eA,en,ec,eK,em,ed,rfl,he,hb10⟩;clear p0 p1 p2 p3 p4 p5 pf;have he10:=Lib.hid he;have B10:=Lib.hid (HB.out.trans (hb10.mono HB.out.size));have s10:=hb10.size;obtain ⟨-,-,r3⟩:=hcells.out w10 (h3c.out.trans (B10.out.mono h3c.out.size));have r3h:=Lib.hid r3;have hl10:w.heap.size + 1 + 1 < w10.heap.size:=(Array.getElem?_eq_some_iff.1 r3).1;unfold zero6 at r3;obtain ⟨g0,g1,g2,g3,g4,g5,gf⟩:=six_cells r3;clear he hb10 r3;unfold val6))
      have r3:=r3h.out
      unfold zero6 at r3
      have hz3:=z5'.out
      obtain ⟨W9,hW9,R9,N9,B9,Z9⟩:=end_box (w:=w) (r:=w.heap.size + 1 + 1) (by omega) (hwc.out.trans (B10.out.mono hwc.out.size)) r3 he10.out (fun k hk=>(by (rcases hk with hk | hk);(rcases hk with hk | hk);(have:=hT'.out k hk;omega);(have:=B2.out.size;omega);(have:=hk.1;have:=HB.out.size;have:=B2.out.size;have:=Bc.out.size;omega)))
      rw [← hW9]
      unfold val6 at R9
      obtain ⟨d0,d1,d2,d3,d4,d5,df⟩:=six_cells R9
      rw [← ha'.out]
      refine bodyPost_ret (v:=.agg (val6 a eA en ec eK em ed)) (by simp [results,Try.results70,go_sem,d0,d1,d2,d3,d4,d5,val6]) rfl ?_
      exact ⟨eA,en,ec,eK,em,ed,rfl,N9.kept (fun k hk=>(by (rcases hk with hk | hk);(rcases hk with hk | hk);(exact .inl hk);(exact .inr ⟨by have:=B2.out.size;omega,by have:=B10.out.size;omega⟩);(exact .inr ⟨by have:=hk.1;have:=HB.out.size;have:=B2.out.size;have:=Bc.out.size;omega,by have:=hk.2;omega⟩))) (fun _ _=>rfl),B9⟩

end Go.Proofs.Ytmipodnffhngaaa.Top
namespace Go.Proofs.Ytmipodnffhngaaa.Top
open Go.RowKit
set_option maxRecDepth 20000
set_option linter.unusedVariables false

theorem atc_prt {w:World} {x:Txt × Txt} {g:Nat} (hr:w.heap[g]? = some (.cells #[.string ⟨x.1.toArray⟩,.string ⟨x.2.toArray⟩] 73 (0,0))):(Prt.mk (some ⟨g,0,none⟩) 1 1 (atc x)).Ok 2 w:=by
  refine ⟨rfl,fun u hu=>atc_one [x] u (by simpa using hu),fun j u hj=>?_,fun e=>(by cases e),Nat.le_refl _,by show (1:Nat)≤100000;decide⟩
  refine ⟨_,rfl,(Array.getElem?_eq_some_iff.1 hr).1,?_⟩
  rw [add_zero_off]
  match j,hj with
  | 0,hj=>injection hj with hj;subst hj;exact cell_of_row w g 0 _ _ _ hr
  | 1,hj=>injection hj with hj;subst hj;exact cell_of_row w g 1 _ _ _ hr
  | j + 2,hj=>simp [atc] at hj
theorem ats_own_alloc {w:World} {base:Nat} {v:Value} {n:Nat} {xs:List Value} {o:Obj} (h:w.ownsRow base 73 2 v n xs):(w.alloc o).ownsRow base 73 2 v n xs :=
  own_kept h fun k hk=>Go.heap_alloc_old _ _ (by obtain ⟨cs,fr,hh⟩:=own_typed h k hk;exact (Array.getElem?_eq_some_iff.1 hh).1)
set_option maxHeartbeats 8000000 in
theorem rattr_T (T:Nat→Prop) (w:World) (hT:∀ k,T k→k < w.heap.size) (y:Nd) (yA yK:Option Addr) (yn yc ym yd:Nat) (hy:NodeV T w yA yn yc yK ym yd y) (hbig:weighV y≤90000) (hok:attrsOk ltB [] y.attrs = true) (o:Ov) (s:OS) (ho:OpIn w o s) :
    Calls Try.prog 71 #[.agg (val6 y yA yn yc yK ym yd),.agg (opCells o s)] w (NodeA T w (attN y (docA o.key o.value y.attrs o.gone))):=by
  obtain ⟨z1,z2,z3,z4,z5⟩:=three_new w (.cells (val6 y yA yn yc yK ym yd) 33) (.cells (opCells o s) 26) (.cells zero6 33)
  obtain ⟨W3,hW3⟩:∃ W3,W3 = ((w.alloc (.cells (val6 y yA yn yc yK ym yd) 33)).alloc (.cells (opCells o s) 26)).alloc (.cells zero6 33):=⟨_,rfl⟩
  rw [← hW3] at z1 z2 z3 z4 z5
  have hf:=hy.facts
  have hal:y.attrs.length = yn:=hf.ats.1
  have hyn:yn≤90000:=by have:=(weigh_rows y).1;omega
  have hst:=Lib.hid (fun (W:World) (hb:Below W3.heap.size W3 W)=>show W.heap[w.heap.size]? = some (.cells (val6 y yA yn yc yK ym yd) 33 (0,0))∧W.heap[w.heap.size + 1]? = some (.cells (opCells o s) 26 (0,0))∧AtsIn T W yA yn y.attrs from
    ⟨(hb.block _ (by omega)).trans z1,(hb.block _ (by omega)).trans z2,hf.ats.kept (fun _ h=>h) fun k hk=>(hb.block k (by have:=hT k hk;omega)).trans (z4.block k (hT k hk))⟩)
  have hlens:=Lib.hid (fun (x:Txt × Txt) (hx:x ∈ docA o.key o.value y.attrs o.gone)=>show x.1.length≤maxLen∧x.2.length≤maxLen from by
    have hold:∀ z ∈ y.attrs,z.1.length≤maxLen∧z.2.length≤maxLen:=fun z hz=>by
      obtain ⟨q,hq,e⟩:=List.getElem_of_mem hz
      obtain ⟨ad,-,-,h1,h2,-⟩:=hf.ats.2 q z (by rw [← e];exact List.getElem?_eq_getElem hq)
      exact ⟨h1,h2⟩
    have key:∀ (l:List (Txt × Txt)) (d:Bool),(∀ z ∈ l,z.1.length≤maxLen∧z.2.length≤maxLen)→x ∈ docA o.key o.value l d→x.1.length≤maxLen∧x.2.length≤maxLen:=by
      intro l
      induction l with
      | nil =>
        intro d _ h
        cases d with
        | true=>simp [docA] at h
        | false=>simp [docA] at h;subst h;exact ⟨ho.key,ho.value⟩
      | cons a r ih =>
        intro d hl h
        have h:x ∈ (if !d && !Op.bytesLess a.1 o.key then [(o.key,o.value)] else []) ++ ((if a.1 = o.key then [] else [a]) ++ docA o.key o.value r (d || !Op.bytesLess a.1 o.key)):=h
        rw [List.mem_append,List.mem_append] at h
        rcases h with h | h | h
        · split at h
          · simp at h;subst h;exact ⟨ho.key,ho.value⟩
          · cases h
        · split at h
          · cases h
          · simp at h;subst h;exact hl _ (by simp)
        · exact ih _ (fun z hz=>hl z (by simp [hz])) h
    exact key _ _ hold hx)
  have hdl:=prog_len o.key o.value o.gone y.attrs
  rw [attr_both o.key o.value o.gone y.attrs [] hok] at hdl
  have z1':=Lib.hid z1
  have z3':=Lib.hid z3
  have z4':=Lib.hid z4
  have z5':=Lib.hid z5
  have hT':=Lib.hid hT
  have hy':=Lib.hid hy
  have hal':=Lib.hid hal
  obtain ⟨p0,p1,p2,p3,p4,p5,pf⟩:=six_cells (by unfold val6 at z1;exact z1)
  obtain ⟨o0,o1,o2,o3,o4,o5,o6,o7,o8,o9,o10⟩:=op_cells z2
  have hcm:=hf.acm
  have hnc:=hf.anc
  unfold maxLen at hcm
  have hlt1:w.heap.size < W3.heap.size:=by omega
  obtain ⟨al,hale⟩:∃ al,al = docA o.key o.value y.attrs o.gone:=⟨_,rfl⟩
  have hale':=Lib.hid hale
  rw [← hale] at hlens hdl ⊢
  clear hf z1 z2 z3 z4 z5 hT hy ho hal hbig hale hok
  rw [hW3] at p0 p1 p2 p3 p4 p5 pf o0 o1 o2 o3 o4 o5 o6 o7 o8 o9 o10
  unfold val6 opCells zero6 at hW3
  unfold val6 opCells
  go_enter Try.func71,Try.ntmps71
  go_wp2_with fail
  rw [← hW3]
  clear hW3 p0 p1 p2 p3 p4 p5 pf o0 o1 o2 o3 o4 o5 o6 o7 o8 o9 o10
  go_loopw [5,6,7] (fun v5 v6 v7 wr=>∃ (q:Nat) (d:Bool) (pre:List (Txt × Txt)) (v:Value),q≤yn∧v7 = .int .i64 (q:Int)∧v6 = .bool d∧v = v5∧al = pre ++ docA o.key o.value (y.attrs.drop q) d∧wr.ownsRow W3.heap.size 73 2 v pre.length (pre.flatMap atc)∧Below W3.heap.size W3 wr) (fun _ _ v7 _=>yn - (intOf v7).toNat)
  case atStart=>exact ⟨0,o.gone,[],_,Nat.zero_le _,rfl,rfl,rfl,hale'.out,World.ownsRow_nil _ _ _ _,Below.refl _ _⟩
  case round =>
    obtain ⟨q,d,pre,v5,hq,rfl,rfl,rfl,hpre,hown,hbel⟩:=hrel
    have hplen:pre.length≤90001:=by have h1:=congrArg List.length hpre;rw [List.length_append] at h1;have:=hal'.out;omega
    by_cases hq1:q < yn
    · have hqI:(q:Int) < (yn:Int):=by omega
      obtain ⟨⟨ky,va⟩,hxq0⟩:∃ x,y.attrs[q]? = some x:=⟨_,List.getElem?_eq_getElem (by have:=hal'.out;omega)⟩
      have hxq:=Lib.hid hxq0
      have hdp:y.attrs.drop q = (ky,va) :: y.attrs.drop (q + 1):=by
        have hl:q < y.attrs.length:=by have:=hal'.out;omega
        rw [List.drop_eq_getElem_cons hl]
        rw [List.getElem?_eq_getElem hl] at hxq0
        injection hxq0 with hxq0
        rw [hxq0]
      clear hxq0
      rw [hdp] at hpre
      clear hdp
      have hda:∀ dd,docA o.key o.value ((ky,va) :: y.attrs.drop (q + 1)) dd = (if !dd && !Op.bytesLess ky o.key then [(o.key,o.value)] else []) ++ ((if ky = o.key then [] else [(ky,va)]) ++ docA o.key o.value (y.attrs.drop (q + 1)) (dd || !Op.bytesLess ky o.key)):=fun dd=>rfl
      rw [hda] at hpre
      clear hda
      by_cases heq:ky = o.key
      · have hb9:(ky != o.key) = false:=by simpa using heq
        have hb9':(ky == o.key) = true:=by simpa using heq
        have hles:Op.bytesLess ky o.key = false:=by rw [heq];exact less_self _
        cases d with
        | true =>
          simp only [Bool.not_true,Bool.false_and,Bool.false_eq_true,if_false,List.nil_append,if_pos heq,Bool.true_or] at hpre;clear heq hles
          have g6:=Lib.hid hbel
          have own0:=Lib.hid hown
          have hal2:=Lib.hid hpre
          clear hown hbel hpre
          obtain ⟨W0,hW0⟩:∃ W0,W0 = wr:=⟨_,rfl⟩
          subst hW0
          obtain ⟨r1,r2,hat⟩:=hst.out W0 g6.out
          unfold val6 at r1
          obtain ⟨p0,p1,p2,p3,p4,p5,pf⟩:=six_cells r1
          obtain ⟨o0,o1,o2,o3,o4,o5,o6,o7,o8,o9,o10⟩:=op_cells r2
          obtain ⟨ad,x2,rfl,hx2,-,-,-,k1,k2⟩:=hat.at_ hq1
          obtain rfl:(ky,va) = x2:=Option.some.inj (hxq.out.symm.trans hx2)
          dsimp only at k1 k2
          clear r1 r2 hat hx2
          go_upto_region 6 with fail
          go_quiet (fail)
          obtain ⟨W4,hW4⟩:∃ W,W = W0.drewN nq:=⟨_,rfl⟩
          have b4:=Lib.hid (show Below W3.heap.size W3 W4 by rw [hW4];exact draws g6.out _)
          have ow4:=Lib.hid (show W4.ownsRow W3.heap.size 73 2 v5 pre.length (pre.flatMap atc) by rw [hW4];exact own_kept own0.out fun _ _=>rfl)
          rw [← hW4]
          clear hW4
          clear p0 p1 p2 p3 p4 p5 pf o0 o1 o2 o3 o4 o5 o6 o7 o8 o9 o10 k1 k2
          obtain ⟨r1,r2,hat⟩:=hst.out W4 b4.out
          unfold val6 at r1
          obtain ⟨p0,p1,p2,p3,p4,p5,pf⟩:=six_cells r1
          obtain ⟨o0,o1,o2,o3,o4,o5,o6,o7,o8,o9,o10⟩:=op_cells r2
          obtain ⟨ad2,x2,hA,hx2,-,-,-,k1,k2⟩:=hat.at_ hq1
          obtain rfl:ad = ad2:=Option.some.inj hA
          obtain rfl:(ky,va) = x2:=Option.some.inj (hxq.out.symm.trans hx2)
          clear hA
          dsimp only at k1 k2
          clear r1 r2 hat hx2
          go_upto_region 9 with fail
          go_quiet (fail)
          obtain ⟨W7,hW7⟩:∃ W,W = W4.drewN nq:=⟨_,rfl⟩
          have b7:=Lib.hid (show Below W3.heap.size W3 W7 by rw [hW7];exact draws b4.out _)
          have ow7:=Lib.hid (show W7.ownsRow W3.heap.size 73 2 v5 pre.length (pre.flatMap atc) by rw [hW7];exact own_kept ow4.out fun _ _=>rfl)
          rw [← hW7]
          clear hW7
          clear p0 p1 p2 p3 p4 p5 pf o0 o1 o2 o3 o4 o5 o6 o7 o8 o9 o10 k1 k2
          obtain ⟨r1,r2,hat⟩:=hst.out W7 b7.out
          unfold val6 at r1
          obtain ⟨p0,p1,p2,p3,p4,p5,pf⟩:=six_cells r1
          obtain ⟨o0,o1,o2,o3,o4,o5,o6,o7,o8,o9,o10⟩:=op_cells r2
          obtain ⟨ad2,x2,hA,hx2,-,-,-,k1,k2⟩:=hat.at_ hq1
          obtain rfl:ad = ad2:=Option.some.inj hA
          obtain rfl:(ky,va) = x2:=Option.some.inj (hxq.out.symm.trans hx2)
          clear hA
          dsimp only at k1 k2
          clear r1 r2 hat hx2
          go_wp2_with fail
          go_roundw
          case rel=>exact ⟨q + 1,true,pre,_,by omega,by go_num,rfl,rfl,by first | (rw [hal2.out];done) | (rw [hal2.out];simp),ow7.out,b7.out⟩
          case measure=>simp [intOf];omega
        | false =>
          simp only [hles,Bool.not_false,Bool.and_self,if_true,if_pos heq,List.nil_append,Bool.or_true] at hpre;clear heq;have hlt9:=hles;clear hles
          have g6:=Lib.hid hbel
          have own0:=Lib.hid hown
          have hal2:=Lib.hid hpre
          clear hown hbel hpre
          obtain ⟨W0,hW0⟩:∃ W0,W0 = wr:=⟨_,rfl⟩
          subst hW0
          obtain ⟨r1,r2,hat⟩:=hst.out W0 g6.out
          unfold val6 at r1
          obtain ⟨p0,p1,p2,p3,p4,p5,pf⟩:=six_cells r1
          obtain ⟨o0,o1,o2,o3,o4,o5,o6,o7,o8,o9,o10⟩:=op_cells r2
          obtain ⟨ad,x2,rfl,hx2,-,-,-,k1,k2⟩:=hat.at_ hq1
          obtain rfl:(ky,va) = x2:=Option.some.inj (hxq.out.symm.trans hx2)
          dsimp only at k1 k2
          clear r1 r2 hat hx2
          go_upto_region 6 with fail
          go_quiet (fail)
          obtain ⟨W4,hW4⟩:∃ W,W = W0.drewN nq:=⟨_,rfl⟩
          have b4:=Lib.hid (show Below W3.heap.size W3 W4 by rw [hW4];exact draws g6.out _)
          have ow4:=Lib.hid (show W4.ownsRow W3.heap.size 73 2 v5 pre.length (pre.flatMap atc) by rw [hW4];exact own_kept own0.out fun _ _=>rfl)
          rw [← hW4]
          clear hW4
          clear p0 p1 p2 p3 p4 p5 pf o0 o1 o2 o3 o4 o5 o6 o7 o8 o9 o10 k1 k2
          obtain ⟨r1,r2,hat⟩:=hst.out W4 b4.out
          unfold val6 at r1
          obtain ⟨p0,p1,p2,p3,p4,p5,pf⟩:=six_cells r1
          obtain ⟨o0,o1,o2,o3,o4,o5,o6,o7,o8,o9,o10⟩:=op_cells r2
          obtain ⟨ad2,x2,hA,hx2,-,-,-,k1,k2⟩:=hat.at_ hq1
          obtain rfl:ad = ad2:=Option.some.inj hA
          obtain rfl:(ky,va) = x2:=Option.some.inj (hxq.out.symm.trans hx2)
          clear hA
          dsimp only at k1 k2
          clear r1 r2 hat hx2
          go_upto_region 9 with (at_builtin;go_loud (refine appA rfl (.tmp 30) (.tmp 36) rfl W3.heap.size v5 pre.length (pre.flatMap atc) ⟨some ⟨W4.heap.size,0,none⟩,1,1,atc (o.key,o.value)⟩ rfl (ats_own_alloc ow4.out) rfl (atc_prt (heap_alloc_new W4 _)) (by show pre.length + 1≤1000000;(try simp only [List.length_append,List.length_cons,List.length_nil]);have:=hplen;omega) (by have:=b4.out.size;rw [World.size_alloc];omega) (Below.refl _ _) ?_;intro v5 w5 ho5 hb5;have ow5:=Lib.hid (show w5.ownsRow W3.heap.size 73 2 v5 (pre ++ [(o.key,o.value)]).length ((pre ++ [(o.key,o.value)]).flatMap atc) from (by rw [List.length_append,List.flatMap_append,List.flatMap_cons,List.flatMap_nil,List.append_nil];exact ho5));have b5:=Lib.hid (show Below W3.heap.size W3 w5 from (b4.out.alloc b4.out.size _).trans hb5);clear ho5 hb5))
          clear p0 p1 p2 p3 p4 p5 pf o0 o1 o2 o3 o4 o5 o6 o7 o8 o9 o10 k1 k2
          obtain ⟨r1,r2,hat⟩:=hst.out w5 b5.out
          unfold val6 at r1
          obtain ⟨p0,p1,p2,p3,p4,p5,pf⟩:=six_cells r1
          obtain ⟨o0,o1,o2,o3,o4,o5,o6,o7,o8,o9,o10⟩:=op_cells r2
          obtain ⟨ad2,x2,hA,hx2,-,-,-,k1,k2⟩:=hat.at_ hq1
          obtain rfl:ad = ad2:=Option.some.inj hA
          obtain rfl:(ky,va) = x2:=Option.some.inj (hxq.out.symm.trans hx2)
          clear hA
          dsimp only at k1 k2
          clear r1 r2 hat hx2
          go_quiet (fail)
          obtain ⟨W7,hW7⟩:∃ W,W = w5.drewN nq:=⟨_,rfl⟩
          have b7:=Lib.hid (show Below W3.heap.size W3 W7 by rw [hW7];exact draws b5.out _)
          have ow7:=Lib.hid (show W7.ownsRow W3.heap.size 73 2 v5 (pre ++ [(o.key,o.value)]).length ((pre ++ [(o.key,o.value)]).flatMap atc) by rw [hW7];exact own_kept ow5.out fun _ _=>rfl)
          rw [← hW7]
          clear hW7
          clear p0 p1 p2 p3 p4 p5 pf o0 o1 o2 o3 o4 o5 o6 o7 o8 o9 o10 k1 k2
          obtain ⟨r1,r2,hat⟩:=hst.out W7 b7.out
          unfold val6 at r1
          obtain ⟨p0,p1,p2,p3,p4,p5,pf⟩:=six_cells r1
          obtain ⟨o0,o1,o2,o3,o4,o5,o6,o7,o8,o9,o10⟩:=op_cells r2
          obtain ⟨ad2,x2,hA,hx2,-,-,-,k1,k2⟩:=hat.at_ hq1
          obtain rfl:ad = ad2:=Option.some.inj hA
          obtain rfl:(ky,va) = x2:=Option.some.inj (hxq.out.symm.trans hx2)
          clear hA
          dsimp only at k1 k2
          clear r1 r2 hat hx2
          go_wp2_with fail
          go_roundw
          case rel=>exact ⟨q + 1,true,(pre ++ [(o.key,o.value)]),_,by omega,by go_num,rfl,rfl,by first | (rw [hal2.out];done) | (rw [hal2.out];simp),ow7.out,b7.out⟩
          case measure=>simp [intOf];omega
      · have hb9:(ky != o.key) = true:=by simpa using heq
        have hb9':(ky == o.key) = false:=by simpa using heq
        cases d with
        | true =>
          simp only [Bool.not_true,Bool.false_and,Bool.false_eq_true,if_false,List.nil_append,if_neg heq,Bool.true_or] at hpre;clear heq
          have g6:=Lib.hid hbel
          have own0:=Lib.hid hown
          have hal2:=Lib.hid hpre
          clear hown hbel hpre
          obtain ⟨W0,hW0⟩:∃ W0,W0 = wr:=⟨_,rfl⟩
          subst hW0
          obtain ⟨r1,r2,hat⟩:=hst.out W0 g6.out
          unfold val6 at r1
          obtain ⟨p0,p1,p2,p3,p4,p5,pf⟩:=six_cells r1
          obtain ⟨o0,o1,o2,o3,o4,o5,o6,o7,o8,o9,o10⟩:=op_cells r2
          obtain ⟨ad,x2,rfl,hx2,-,-,-,k1,k2⟩:=hat.at_ hq1
          obtain rfl:(ky,va) = x2:=Option.some.inj (hxq.out.symm.trans hx2)
          dsimp only at k1 k2
          clear r1 r2 hat hx2
          go_upto_region 6 with fail
          go_quiet (fail)
          obtain ⟨W4,hW4⟩:∃ W,W = W0.drewN nq:=⟨_,rfl⟩
          have b4:=Lib.hid (show Below W3.heap.size W3 W4 by rw [hW4];exact draws g6.out _)
          have ow4:=Lib.hid (show W4.ownsRow W3.heap.size 73 2 v5 pre.length (pre.flatMap atc) by rw [hW4];exact own_kept own0.out fun _ _=>rfl)
          rw [← hW4]
          clear hW4
          clear p0 p1 p2 p3 p4 p5 pf o0 o1 o2 o3 o4 o5 o6 o7 o8 o9 o10 k1 k2
          obtain ⟨r1,r2,hat⟩:=hst.out W4 b4.out
          unfold val6 at r1
          obtain ⟨p0,p1,p2,p3,p4,p5,pf⟩:=six_cells r1
          obtain ⟨o0,o1,o2,o3,o4,o5,o6,o7,o8,o9,o10⟩:=op_cells r2
          obtain ⟨ad2,x2,hA,hx2,-,-,-,k1,k2⟩:=hat.at_ hq1
          obtain rfl:ad = ad2:=Option.some.inj hA
          obtain rfl:(ky,va) = x2:=Option.some.inj (hxq.out.symm.trans hx2)
          clear hA
          dsimp only at k1 k2
          clear r1 r2 hat hx2
          go_upto_region 9 with fail
          go_quiet (fail)
          obtain ⟨W7,hW7⟩:∃ W,W = W4.drewN nq:=⟨_,rfl⟩
          have b7:=Lib.hid (show Below W3.heap.size W3 W7 by rw [hW7];exact draws b4.out _)
          have ow7:=Lib.hid (show W7.ownsRow W3.heap.size 73 2 v5 pre.length (pre.flatMap atc) by rw [hW7];exact own_kept ow4.out fun _ _=>rfl)
          rw [← hW7]
          clear hW7
          clear p0 p1 p2 p3 p4 p5 pf o0 o1 o2 o3 o4 o5 o6 o7 o8 o9 o10 k1 k2
          obtain ⟨r1,r2,hat⟩:=hst.out W7 b7.out
          unfold val6 at r1
          obtain ⟨p0,p1,p2,p3,p4,p5,pf⟩:=six_cells r1
          obtain ⟨o0,o1,o2,o3,o4,o5,o6,o7,o8,o9,o10⟩:=op_cells r2
          obtain ⟨ad2,x2,hA,hx2,-,-,-,k1,k2⟩:=hat.at_ hq1
          obtain rfl:ad = ad2:=Option.some.inj hA
          obtain rfl:(ky,va) = x2:=Option.some.inj (hxq.out.symm.trans hx2)
          clear hA
          dsimp only at k1 k2
          clear r1 r2 hat hx2
          go_wp2_with (at_builtin;go_loud (refine appA rfl (.tmp 47) (.tmp 53) rfl W3.heap.size v5 pre.length (pre.flatMap atc) ⟨some ⟨W7.heap.size,0,none⟩,1,1,atc (ky,va)⟩ rfl (ats_own_alloc ow7.out) rfl (atc_prt (heap_alloc_new W7 _)) (by show pre.length + 1≤1000000;(try simp only [List.length_append,List.length_cons,List.length_nil]);have:=hplen;omega) (by have:=b7.out.size;rw [World.size_alloc];omega) (Below.refl _ _) ?_;intro v8 w8 ho8 hb8;have ow8:=Lib.hid (show w8.ownsRow W3.heap.size 73 2 v8 (pre ++ [(ky,va)]).length ((pre ++ [(ky,va)]).flatMap atc) from (by rw [List.length_append,List.flatMap_append,List.flatMap_cons,List.flatMap_nil,List.append_nil];exact ho8));have b8:=Lib.hid (show Below W3.heap.size W3 w8 from (b7.out.alloc b7.out.size _).trans hb8);clear ho8 hb8))
          go_roundw
          case rel=>exact ⟨q + 1,true,(pre ++ [(ky,va)]),_,by omega,by go_num,rfl,rfl,by first | (rw [hal2.out];done) | (rw [hal2.out];simp),ow8.out,b8.out⟩
          case measure=>simp [intOf];omega
        | false =>
          cases hles:Op.bytesLess ky o.key with
          | false =>
            simp only [hles,Bool.not_false,Bool.and_self,if_true,if_neg heq,Bool.or_true] at hpre;clear heq
            have g6:=Lib.hid hbel
            have own0:=Lib.hid hown
            have hal2:=Lib.hid hpre
            clear hown hbel hpre
            obtain ⟨W0,hW0⟩:∃ W0,W0 = wr:=⟨_,rfl⟩
            subst hW0
            obtain ⟨r1,r2,hat⟩:=hst.out W0 g6.out
            unfold val6 at r1
            obtain ⟨p0,p1,p2,p3,p4,p5,pf⟩:=six_cells r1
            obtain ⟨o0,o1,o2,o3,o4,o5,o6,o7,o8,o9,o10⟩:=op_cells r2
            obtain ⟨ad,x2,rfl,hx2,-,-,-,k1,k2⟩:=hat.at_ hq1
            obtain rfl:(ky,va) = x2:=Option.some.inj (hxq.out.symm.trans hx2)
            dsimp only at k1 k2
            clear r1 r2 hat hx2
            go_upto_region 6 with fail
            go_quiet (fail)
            obtain ⟨W4,hW4⟩:∃ W,W = W0.drewN nq:=⟨_,rfl⟩
            have b4:=Lib.hid (show Below W3.heap.size W3 W4 by rw [hW4];exact draws g6.out _)
            have ow4:=Lib.hid (show W4.ownsRow W3.heap.size 73 2 v5 pre.length (pre.flatMap atc) by rw [hW4];exact own_kept own0.out fun _ _=>rfl)
            rw [← hW4]
            clear hW4
            clear p0 p1 p2 p3 p4 p5 pf o0 o1 o2 o3 o4 o5 o6 o7 o8 o9 o10 k1 k2
            obtain ⟨r1,r2,hat⟩:=hst.out W4 b4.out
            unfold val6 at r1
            obtain ⟨p0,p1,p2,p3,p4,p5,pf⟩:=six_cells r1
            obtain ⟨o0,o1,o2,o3,o4,o5,o6,o7,o8,o9,o10⟩:=op_cells r2
            obtain ⟨ad2,x2,hA,hx2,-,-,-,k1,k2⟩:=hat.at_ hq1
            obtain rfl:ad = ad2:=Option.some.inj hA
            obtain rfl:(ky,va) = x2:=Option.some.inj (hxq.out.symm.trans hx2)
            clear hA
            dsimp only at k1 k2
            clear r1 r2 hat hx2
            go_upto_region 9 with (at_builtin;go_loud (refine appA rfl (.tmp 30) (.tmp 36) rfl W3.heap.size v5 pre.length (pre.flatMap atc) ⟨some ⟨W4.heap.size,0,none⟩,1,1,atc (o.key,o.value)⟩ rfl (ats_own_alloc ow4.out) rfl (atc_prt (heap_alloc_new W4 _)) (by show pre.length + 1≤1000000;(try simp only [List.length_append,List.length_cons,List.length_nil]);have:=hplen;omega) (by have:=b4.out.size;rw [World.size_alloc];omega) (Below.refl _ _) ?_;intro v5 w5 ho5 hb5;have ow5:=Lib.hid (show w5.ownsRow W3.heap.size 73 2 v5 (pre ++ [(o.key,o.value)]).length ((pre ++ [(o.key,o.value)]).flatMap atc) from (by rw [List.length_append,List.flatMap_append,List.flatMap_cons,List.flatMap_nil,List.append_nil];exact ho5));have b5:=Lib.hid (show Below W3.heap.size W3 w5 from (b4.out.alloc b4.out.size _).trans hb5);clear ho5 hb5))
            clear p0 p1 p2 p3 p4 p5 pf o0 o1 o2 o3 o4 o5 o6 o7 o8 o9 o10 k1 k2
            obtain ⟨r1,r2,hat⟩:=hst.out w5 b5.out
            unfold val6 at r1
            obtain ⟨p0,p1,p2,p3,p4,p5,pf⟩:=six_cells r1
            obtain ⟨o0,o1,o2,o3,o4,o5,o6,o7,o8,o9,o10⟩:=op_cells r2
            obtain ⟨ad2,x2,hA,hx2,-,-,-,k1,k2⟩:=hat.at_ hq1
            obtain rfl:ad = ad2:=Option.some.inj hA
            obtain rfl:(ky,va) = x2:=Option.some.inj (hxq.out.symm.trans hx2)
            clear hA
            dsimp only at k1 k2
            clear r1 r2 hat hx2
            go_quiet (fail)
            obtain ⟨W7,hW7⟩:∃ W,W = w5.drewN nq:=⟨_,rfl⟩
            have b7:=Lib.hid (show Below W3.heap.size W3 W7 by rw [hW7];exact draws b5.out _)
            have ow7:=Lib.hid (show W7.ownsRow W3.heap.size 73 2 v5 (pre ++ [(o.key,o.value)]).length ((pre ++ [(o.key,o.value)]).flatMap atc) by rw [hW7];exact own_kept ow5.out fun _ _=>rfl)
            rw [← hW7]
            clear hW7
            clear p0 p1 p2 p3 p4 p5 pf o0 o1 o2 o3 o4 o5 o6 o7 o8 o9 o10 k1 k2
            obtain ⟨r1,r2,hat⟩:=hst.out W7 b7.out
            unfold val6 at r1
            obtain ⟨p0,p1,p2,p3,p4,p5,pf⟩:=six_cells r1
            obtain ⟨o0,o1,o2,o3,o4,o5,o6,o7,o8,o9,o10⟩:=op_cells r2
            obtain ⟨ad2,x2,hA,hx2,-,-,-,k1,k2⟩:=hat.at_ hq1
            obtain rfl:ad = ad2:=Option.some.inj hA
            obtain rfl:(ky,va) = x2:=Option.some.inj (hxq.out.symm.trans hx2)
            clear hA
            dsimp only at k1 k2
            clear r1 r2 hat hx2
            go_wp2_with (at_builtin;go_loud (refine appA rfl (.tmp 47) (.tmp 53) rfl W3.heap.size v5 (pre ++ [(o.key,o.value)]).length ((pre ++ [(o.key,o.value)]).flatMap atc) ⟨some ⟨W7.heap.size,0,none⟩,1,1,atc (ky,va)⟩ rfl (ats_own_alloc ow7.out) rfl (atc_prt (heap_alloc_new W7 _)) (by show (pre ++ [(o.key,o.value)]).length + 1≤1000000;(try simp only [List.length_append,List.length_cons,List.length_nil]);have:=hplen;omega) (by have:=b7.out.size;rw [World.size_alloc];omega) (Below.refl _ _) ?_;intro v8 w8 ho8 hb8;have ow8:=Lib.hid (show w8.ownsRow W3.heap.size 73 2 v8 ((pre ++ [(o.key,o.value)]) ++ [(ky,va)]).length (((pre ++ [(o.key,o.value)]) ++ [(ky,va)]).flatMap atc) from (by rw [List.length_append,List.flatMap_append,List.flatMap_cons,List.flatMap_nil,List.append_nil];exact ho8));have b8:=Lib.hid (show Below W3.heap.size W3 w8 from (b7.out.alloc b7.out.size _).trans hb8);clear ho8 hb8))
            go_roundw
            case rel=>exact ⟨q + 1,true,((pre ++ [(o.key,o.value)]) ++ [(ky,va)]),_,by omega,by go_num,rfl,rfl,by first | (rw [hal2.out];done) | (rw [hal2.out];simp),ow8.out,b8.out⟩
            case measure=>simp [intOf];omega
          | true =>
            simp only [hles,Bool.not_true,Bool.and_false,Bool.false_eq_true,if_false,if_neg heq,List.nil_append,Bool.or_false] at hpre;clear heq
            have g6:=Lib.hid hbel
            have own0:=Lib.hid hown
            have hal2:=Lib.hid hpre
            clear hown hbel hpre
            obtain ⟨W0,hW0⟩:∃ W0,W0 = wr:=⟨_,rfl⟩
            subst hW0
            obtain ⟨r1,r2,hat⟩:=hst.out W0 g6.out
            unfold val6 at r1
            obtain ⟨p0,p1,p2,p3,p4,p5,pf⟩:=six_cells r1
            obtain ⟨o0,o1,o2,o3,o4,o5,o6,o7,o8,o9,o10⟩:=op_cells r2
            obtain ⟨ad,x2,rfl,hx2,-,-,-,k1,k2⟩:=hat.at_ hq1
            obtain rfl:(ky,va) = x2:=Option.some.inj (hxq.out.symm.trans hx2)
            dsimp only at k1 k2
            clear r1 r2 hat hx2
            go_upto_region 6 with fail
            go_quiet (fail)
            obtain ⟨W4,hW4⟩:∃ W,W = W0.drewN nq:=⟨_,rfl⟩
            have b4:=Lib.hid (show Below W3.heap.size W3 W4 by rw [hW4];exact draws g6.out _)
            have ow4:=Lib.hid (show W4.ownsRow W3.heap.size 73 2 v5 pre.length (pre.flatMap atc) by rw [hW4];exact own_kept own0.out fun _ _=>rfl)
            rw [← hW4]
            clear hW4
            clear p0 p1 p2 p3 p4 p5 pf o0 o1 o2 o3 o4 o5 o6 o7 o8 o9 o10 k1 k2
            obtain ⟨r1,r2,hat⟩:=hst.out W4 b4.out
            unfold val6 at r1
            obtain ⟨p0,p1,p2,p3,p4,p5,pf⟩:=six_cells r1
            obtain ⟨o0,o1,o2,o3,o4,o5,o6,o7,o8,o9,o10⟩:=op_cells r2
            obtain ⟨ad2,x2,hA,hx2,-,-,-,k1,k2⟩:=hat.at_ hq1
            obtain rfl:ad = ad2:=Option.some.inj hA
            obtain rfl:(ky,va) = x2:=Option.some.inj (hxq.out.symm.trans hx2)
            clear hA
            dsimp only at k1 k2
            clear r1 r2 hat hx2
            go_upto_region 9 with fail
            go_quiet (fail)
            obtain ⟨W7,hW7⟩:∃ W,W = W4.drewN nq:=⟨_,rfl⟩
            have b7:=Lib.hid (show Below W3.heap.size W3 W7 by rw [hW7];exact draws b4.out _)
            have ow7:=Lib.hid (show W7.ownsRow W3.heap.size 73 2 v5 pre.length (pre.flatMap atc) by rw [hW7];exact own_kept ow4.out fun _ _=>rfl)
            rw [← hW7]
            clear hW7
            clear p0 p1 p2 p3 p4 p5 pf o0 o1 o2 o3 o4 o5 o6 o7 o8 o9 o10 k1 k2
            obtain ⟨r1,r2,hat⟩:=hst.out W7 b7.out
            unfold val6 at r1
            obtain ⟨p0,p1,p2,p3,p4,p5,pf⟩:=six_cells r1
            obtain ⟨o0,o1,o2,o3,o4,o5,o6,o7,o8,o9,o10⟩:=op_cells r2
            obtain ⟨ad2,x2,hA,hx2,-,-,-,k1,k2⟩:=hat.at_ hq1
            obtain rfl:ad = ad2:=Option.some.inj hA
            obtain rfl:(ky,va) = x2:=Option.some.inj (hxq.out.symm.trans hx2)
            clear hA
            dsimp only at k1 k2
            clear r1 r2 hat hx2
            go_wp2_with (at_builtin;go_loud (refine appA rfl (.tmp 47) (.tmp 53) rfl W3.heap.size v5 pre.length (pre.flatMap atc) ⟨some ⟨W7.heap.size,0,none⟩,1,1,atc (ky,va)⟩ rfl (ats_own_alloc ow7.out) rfl (atc_prt (heap_alloc_new W7 _)) (by show pre.length + 1≤1000000;(try simp only [List.length_append,List.length_cons,List.length_nil]);have:=hplen;omega) (by have:=b7.out.size;rw [World.size_alloc];omega) (Below.refl _ _) ?_;intro v8 w8 ho8 hb8;have ow8:=Lib.hid (show w8.ownsRow W3.heap.size 73 2 v8 (pre ++ [(ky,va)]).length ((pre ++ [(ky,va)]).flatMap atc) from (by rw [List.length_append,List.flatMap_append,List.flatMap_cons,List.flatMap_nil,List.append_nil];exact ho8));have b8:=Lib.hid (show Below W3.heap.size W3 w8 from (b7.out.alloc b7.out.size _).trans hb8);clear ho8 hb8))
            go_roundw
            case rel=>exact ⟨q + 1,false,(pre ++ [(ky,va)]),_,by omega,by go_num,rfl,rfl,by first | (rw [hal2.out];done) | (rw [hal2.out];simp),ow8.out,b8.out⟩
            case measure=>simp [intOf];omega
    · have hqI:¬ (q:Int) < (yn:Int):=by omega
      rw [List.drop_of_length_le (by have:=hal'.out;omega)] at hpre
      cases d with
      | true =>
        replace hpre:al = pre ++ []:=hpre
        have g6:=Lib.hid hbel
        have own0:=Lib.hid hown
        have hal2:=Lib.hid hpre
        clear hown hbel hpre
        obtain ⟨W0,hW0⟩:∃ W0,W0 = wr:=⟨_,rfl⟩
        subst hW0
        obtain ⟨r1,r2,-⟩:=hst.out W0 g6.out
        unfold val6 at r1
        obtain ⟨p0,p1,p2,p3,p4,p5,pf⟩:=six_cells r1
        obtain ⟨o0,o1,o2,o3,o4,o5,o6,o7,o8,o9,o10⟩:=op_cells r2
        clear r1 r2
        obtain ⟨A8,c8,rfl,-⟩:=own_form own0.out
        obtain ⟨n8,hn8⟩:∃ n8,n8 = pre.length:=⟨_,rfl⟩
        rw [← hn8] at own0
        rw [← hn8]
        have hn8':=Lib.hid hn8
        clear hn8
        go_upto_region 14 with fail
        have hpe:al = pre:=by first | (rw [hal2.out];done) | (rw [hal2.out];simp)
        rw [← hpe] at own0 hn8'
        obtain ⟨A9,c9,e9,hat9,hnc9,hcm9,hnil9⟩:=ats_back own0.out hn8'.out hlens.out
        injection e9 with e91 e92 e93
        subst e91 e93
        have hs7:=g6.out.size
        have hlt7:w.heap.size < W0.heap.size:=by omega
        have hc7:=(g6.out.block _ hlt1).trans z1'.out
        unfold val6 at hc7
        have hk8:=Lib.hid (fun k (hk:k ≠ w.heap.size)=>heap_setCell_other W0 ⟨w.heap.size,3,none⟩ k (.slice A8 n8 c8) hk)
        have g1:=Lib.hid (heap_setCell_same W0 w.heap.size 3 _ _ (.slice A8 n8 c8) hc7)
        have g3:=Lib.hid (show (W0.setCell ⟨w.heap.size,3,none⟩ (.slice A8 n8 c8)).heap[w.heap.size + 1 + 1]? = some (.cells zero6 33 (0,0)) from (heap_setCell_other _ _ _ _ (by show w.heap.size + 1 + 1 ≠ w.heap.size;omega)).trans ((g6.out.block _ (by have:=z5'.out;omega)).trans z3'.out))
        have b8:=Lib.hid (show Below w.heap.size w (W0.setCell ⟨w.heap.size,3,none⟩ (.slice A8 n8 c8)) from (z4'.out.trans (g6.out.mono z4'.out.size)).setCell (show w.heap.size≤w.heap.size from Nat.le_refl _) _)
        have hs8:(W0.setCell ⟨w.heap.size,3,none⟩ (.slice A8 n8 c8)).heap.size = W0.heap.size:=by simp
        have hrow:NodeV (fun k=>T k∨(W3.heap.size≤k∧k < W0.heap.size)) (W0.setCell ⟨w.heap.size,3,none⟩ (.slice A8 n8 c8)) A8 n8 c8 yK ym yd (attN y al):=by
          refine attN_node (hy'.out.kept (fun k hk=>.inl hk) fun k hk=>?_) (hat9.kept (fun k hk=>.inr hk) fun k hk=>hk8.out k (by have:=hk.1;omega)) hnc9 hcm9 hnil9
          exact (hk8.out k (by have:=hT'.out k hk;omega)).trans ((g6.out.block k (by have:=hT'.out k hk;omega)).trans (z4'.out.block k (hT'.out k hk)))
        generalize W0.setCell ⟨w.heap.size,3,none⟩ (.slice A8 n8 c8) = W8 at hrow g1 g3 b8 hs8 hk8 ⊢
        rw [← hs8] at hrow
        have hrow':=Lib.hid hrow
        clear hrow hc7 hk8 hat9 hnc9 hcm9 hnil9 hpe p0 p1 p2 p3 p4 p5 pf
        have g1u:=g1.out
        simp only [List.setIfInBounds_toArray,List.set_cons_zero,List.set_cons_succ] at g1u
        obtain ⟨p0,p1,p2,p3,p4,p5,pf⟩:=six_cells g1u
        have g3u:=g3.out
        unfold zero6 at g3u
        obtain ⟨f0,f1,f2,f3,f4,f5,ff⟩:=six_cells g3u
        clear g1u g3u
        have hne8:w.heap.size ≠ w.heap.size + 1 + 1:=by omega
        have hne9:w.heap.size + 1 + 1 ≠ w.heap.size:=by omega
        go_wp2_with fail
        have we:=attN_id y al
        obtain ⟨W9,hW9,R9,N9,B9⟩:=end_node0 hT'.out (r:=w.heap.size + 1 + 1) (b:=W3.heap.size) (by omega) (by have:=z5'.out;omega) b8.out g3.out hrow'.out
        rw [we.1,we.2.1,we.2.2.1,we.2.2.2.1] at hW9
        rw [← hW9]
        unfold val6 at R9
        rw [we.1,we.2.1,we.2.2.1,we.2.2.2.1] at R9
        obtain ⟨d0,d1,d2,d3,d4,d5,df⟩:=six_cells R9
        refine bodyPost_ret (v:=.agg (val6 (attN y al) A8 n8 c8 yK ym yd)) (by unfold val6;rw [we.1,we.2.1,we.2.2.1,we.2.2.2.1];simp [results,Try.results71,go_sem,d0,d1,d2,d3,d4,d5]) rfl ?_
        exact ⟨A8,n8,c8,yK,ym,yd,rfl,N9,B9⟩
      | false =>
        replace hpre:al = pre ++ [(o.key,o.value)]:=hpre
        have g6:=Lib.hid hbel
        have own0:=Lib.hid hown
        have hal2:=Lib.hid hpre
        clear hown hbel hpre
        obtain ⟨W0,hW0⟩:∃ W0,W0 = wr:=⟨_,rfl⟩
        subst hW0
        obtain ⟨r1,r2,-⟩:=hst.out W0 g6.out
        unfold val6 at r1
        obtain ⟨p0,p1,p2,p3,p4,p5,pf⟩:=six_cells r1
        obtain ⟨o0,o1,o2,o3,o4,o5,o6,o7,o8,o9,o10⟩:=op_cells r2
        clear r1 r2
        go_upto_region 13 with (at_builtin;go_loud (refine appA rfl (.tmp 57) (.tmp 63) rfl W3.heap.size v5 pre.length (pre.flatMap atc) ⟨some ⟨W0.heap.size,0,none⟩,1,1,atc (o.key,o.value)⟩ rfl (ats_own_alloc own0.out) rfl (atc_prt (heap_alloc_new W0 _)) (by show pre.length + 1≤1000000;(try simp only [List.length_append,List.length_cons,List.length_nil]);have:=hplen;omega) (by have:=g6.out.size;rw [World.size_alloc];omega) (Below.refl _ _) ?_;intro v5 w5 ho5 hb5;have ow5:=Lib.hid (show w5.ownsRow W3.heap.size 73 2 v5 (pre ++ [(o.key,o.value)]).length ((pre ++ [(o.key,o.value)]).flatMap atc) from (by rw [List.length_append,List.flatMap_append,List.flatMap_cons,List.flatMap_nil,List.append_nil];exact ho5));have b5:=Lib.hid (show Below W3.heap.size W3 w5 from (g6.out.alloc g6.out.size _).trans hb5);clear ho5 hb5;obtain ⟨A8,c8,rfl,-⟩:=own_form ow5.out;obtain ⟨n8,hn8⟩:∃ n8,n8 = (pre ++ [(o.key,o.value)]).length:=⟨_,rfl⟩;rw [← hn8] at ow5;rw [← hn8];have hn8':=Lib.hid hn8;clear hn8))
        clear p0 p1 p2 p3 p4 p5 pf o0 o1 o2 o3 o4 o5 o6 o7 o8 o9 o10
        obtain ⟨r1,r2,-⟩:=hst.out w5 b5.out
        unfold val6 at r1
        obtain ⟨p0,p1,p2,p3,p4,p5,pf⟩:=six_cells r1
        obtain ⟨o0,o1,o2,o3,o4,o5,o6,o7,o8,o9,o10⟩:=op_cells r2
        clear r1 r2
        go_upto_region 14 with fail
        have hpe:al = (pre ++ [(o.key,o.value)]):=by first | (rw [hal2.out];done) | (rw [hal2.out];simp)
        rw [← hpe] at ow5 hn8'
        obtain ⟨A9,c9,e9,hat9,hnc9,hcm9,hnil9⟩:=ats_back ow5.out hn8'.out hlens.out
        injection e9 with e91 e92 e93
        subst e91 e93
        have hs7:=b5.out.size
        have hlt7:w.heap.size < w5.heap.size:=by omega
        have hc7:=(b5.out.block _ hlt1).trans z1'.out
        unfold val6 at hc7
        have hk8:=Lib.hid (fun k (hk:k ≠ w.heap.size)=>heap_setCell_other w5 ⟨w.heap.size,3,none⟩ k (.slice A8 n8 c8) hk)
        have g1:=Lib.hid (heap_setCell_same w5 w.heap.size 3 _ _ (.slice A8 n8 c8) hc7)
        have g3:=Lib.hid (show (w5.setCell ⟨w.heap.size,3,none⟩ (.slice A8 n8 c8)).heap[w.heap.size + 1 + 1]? = some (.cells zero6 33 (0,0)) from (heap_setCell_other _ _ _ _ (by show w.heap.size + 1 + 1 ≠ w.heap.size;omega)).trans ((b5.out.block _ (by have:=z5'.out;omega)).trans z3'.out))
        have b8:=Lib.hid (show Below w.heap.size w (w5.setCell ⟨w.heap.size,3,none⟩ (.slice A8 n8 c8)) from (z4'.out.trans (b5.out.mono z4'.out.size)).setCell (show w.heap.size≤w.heap.size from Nat.le_refl _) _)
        have hs8:(w5.setCell ⟨w.heap.size,3,none⟩ (.slice A8 n8 c8)).heap.size = w5.heap.size:=by simp
        have hrow:NodeV (fun k=>T k∨(W3.heap.size≤k∧k < w5.heap.size)) (w5.setCell ⟨w.heap.size,3,none⟩ (.slice A8 n8 c8)) A8 n8 c8 yK ym yd (attN y al):=by
          refine attN_node (hy'.out.kept (fun k hk=>.inl hk) fun k hk=>?_) (hat9.kept (fun k hk=>.inr hk) fun k hk=>hk8.out k (by have:=hk.1;omega)) hnc9 hcm9 hnil9
          exact (hk8.out k (by have:=hT'.out k hk;omega)).trans ((b5.out.block k (by have:=hT'.out k hk;omega)).trans (z4'.out.block k (hT'.out k hk)))
        generalize w5.setCell ⟨w.heap.size,3,none⟩ (.slice A8 n8 c8) = W8 at hrow g1 g3 b8 hs8 hk8 ⊢
        rw [← hs8] at hrow
        have hrow':=Lib.hid hrow
        clear hrow hc7 hk8 hat9 hnc9 hcm9 hnil9 hpe p0 p1 p2 p3 p4 p5 pf
        have g1u:=g1.out
        simp only [List.setIfInBounds_toArray,List.set_cons_zero,List.set_cons_succ] at g1u
        obtain ⟨p0,p1,p2,p3,p4,p5,pf⟩:=six_cells g1u
        have g3u:=g3.out
        unfold zero6 at g3u
        obtain ⟨f0,f1,f2,f3,f4,f5,ff⟩:=six_cells g3u
        clear g1u g3u
        have hne8:w.heap.size ≠ w.heap.size + 1 + 1:=by omega
        have hne9:w.heap.size + 1 + 1 ≠ w.heap.size:=by omega
        go_wp2_with fail
        have we:=attN_id y al
        obtain ⟨W9,hW9,R9,N9,B9⟩:=end_node0 hT'.out (r:=w.heap.size + 1 + 1) (b:=W3.heap.size) (by omega) (by have:=z5'.out;omega) b8.out g3.out hrow'.out
        rw [we.1,we.2.1,we.2.2.1,we.2.2.2.1] at hW9
        rw [← hW9]
        unfold val6 at R9
        rw [we.1,we.2.1,we.2.2.1,we.2.2.2.1] at R9
        obtain ⟨d0,d1,d2,d3,d4,d5,df⟩:=six_cells R9
        refine bodyPost_ret (v:=.agg (val6 (attN y al) A8 n8 c8 yK ym yd)) (by unfold val6;rw [we.1,we.2.1,we.2.2.1,we.2.2.2.1];simp [results,Try.results71,go_sem,d0,d1,d2,d3,d4,d5]) rfl ?_
        exact ⟨A8,n8,c8,yK,ym,yd,rfl,N9,B9⟩
end Go.Proofs.Ytmipodnffhngaaa.Top
namespace Go.Proofs.Ytmipodnffhngaaa.Top
open Go.RowKit
set_option maxRecDepth 20000
set_option linter.unusedVariables false

theorem rinto_any (w:World) (y:Nd) (aA kA:Option Addr) (an ac kn kc:Nat) (hk:y.kids.length = kn) (i:Int):Calls Try.prog 63 #[.agg (val6 y aA an ac kA kn kc),.int .i64 i] w fun e w'=>e = .returned (.int .i64 (gapE y i))∧Below w.heap.size w w':=by
  have hal:=Lib.hid (fun o=>(Below.refl w.heap.size w).alloc (Nat.le_refl _) o)
  have hk':=Lib.hid hk
  clear hk
  unfold val6
  cases hl:y.leaf with
  | true =>
    have hv:=Lib.hid (show gapE y i = 83 by unfold gapE;rw [hl];rfl)
    clear hl
    go_enter Try.func63,Try.ntmps63
    go_wp2_with fail
    go_ret
    exact ⟨by rw [hv.out] <;> rfl,hal.out _⟩
  | false =>
    by_cases hg:(kn:Int) < i
    · have hv:=Lib.hid (show gapE y i = 81 by unfold gapE;rw [hl,hk'.out,if_pos hg];rfl)
      clear hl
      go_enter Try.func63,Try.ntmps63
      go_wp2_with fail
      go_ret
      exact ⟨by rw [hv.out] <;> rfl,hal.out _⟩
    · have hv:=Lib.hid (show gapE y i = 0 by unfold gapE;rw [hl,hk'.out,if_neg hg];rfl)
      clear hl
      go_enter Try.func63,Try.ntmps63
      go_wp2_with fail
      go_ret
      exact ⟨by rw [hv.out] <;> rfl,hal.out _⟩
set_option maxHeartbeats 4000000 in
theorem rv_c0 (w:World) (t:Nd) (aA kA:Option Addr) (an ac kn kc:Nat) (o:Ov) (s:OS) (h:NodeV (Old w) w aA an ac kA kn kc t) (ho:OpIn w o s) (hbig:weighV t≤100000) (hr:rightV ltB t = false) :
    Calls Try.prog 19 #[.agg (val6 t aA an ac kA kn kc),.agg (opCells o s)] w fun e w'=>e = .returned (.int .i64 2)∧Below w.heap.size w w':=by
  obtain ⟨W2,hW2⟩:∃ W2,W2 = (w.alloc (.cells (val6 t aA an ac kA kn kc) 33)).alloc (.cells (opCells o s) 26):=⟨_,rfl⟩
  have z1:W2.heap[w.heap.size]? = some (.cells (val6 t aA an ac kA kn kc) 33 (0,0)):=by rw [hW2];exact (Go.heap_alloc_old _ _ (by simp)).trans (heap_alloc_new w _)
  have z2:W2.heap[w.heap.size + 1]? = some (.cells (opCells o s) 26 (0,0)):=by rw [hW2];have h1:=heap_alloc_new (w.alloc (.cells (val6 t aA an ac kA kn kc) 33)) (.cells (opCells o s) 26);rw [World.size_alloc] at h1;exact h1
  have z4':=Lib.hid (show Below w.heap.size w W2 by rw [hW2];exact ((Below.refl _ _).alloc (Nat.le_refl _) _).alloc (by simp) _)
  have z5:W2.heap.size = w.heap.size + 1 + 1:=by rw [hW2];simp
  have hR:=Lib.hid (fun (W:World) (hb:Below w.heap.size w W)=>rRight_any W t aA kA an ac kn kc (h.below hb))
  have hF:=Lib.hid (fun (W:World) (hb:Below w.heap.size w W)=>rformed_any W o s (ho.below hb))
  have hA:=Lib.hid (fun (W:World) (hb:Below w.heap.size w W)=>rat_any W t aA kA an ac kn kc (h.below hb) s.pA s.pn s.pc o.path (ho.path.below hb) (Nat.le_trans ho.pnc ho.pcm))
  have hA2:=Lib.hid (fun (W:World) (hb:Below w.heap.size w W)=>rat_any W t aA kA an ac kn kc (h.below hb) s.tA s.tn s.tc o.to_ (ho.to_.below hb) (Nat.le_trans ho.tnc ho.tcm))
  have hWi:=Lib.hid (fun (W:World) (hb:Below w.heap.size w W)=>P4.refWithin_any W s.pA s.tA s.pn s.pc s.tn s.tc o.path o.to_ (its4 (ho.path.below hb)) (its4 (ho.to_.below hb)) (Nat.le_trans ho.pnc ho.pcm) (Nat.le_trans ho.tnc ho.tcm))
  have hop:=Lib.hid (fun (W:World) (hb:Below w.heap.size w W)=>ho.below hb)
  have hlen:=Lib.hid ho.path.1
  have hz1:=Lib.hid z1
  have hz2:=Lib.hid z2
  have hz5:=Lib.hid z5
  have hkr:=ho.kind
  have hbg:=Lib.hid hbig
  obtain ⟨o0,o1,o2,o3,o4,o5,o6,o7,o8,o9,o10⟩:=op_cells z2
  have z1u:=z1
  unfold val6 at z1u
  obtain ⟨p0,p1,p2,p3,p4,p5,pf⟩:=six_cells z1u
  clear h ho z1 z1u z2 z5 hbig
  rw [hW2] at o0 o1 o2 o3 o4 o5 o6 o7 o8 o9 o10 p0 p1 p2 p3 p4 p5 pf
  unfold opCells at hF
  unfold val6 at hR hA hA2
  unfold val6 opCells at hW2 o0 o1 o2 o3 o4 o5 o6 o7 o8 o9 o10 p0 p1 p2 p3 p4 p5
  unfold val6 opCells
  have hbx:=Lib.hid (fun (W:World) (hb:Below W2.heap.size W2 W)=>show W.heap[w.heap.size]? = some (.cells (val6 t aA an ac kA kn kc) 33 (0,0))∧W.heap[w.heap.size + 1]? = some (.cells (opCells o s) 26 (0,0)) from ⟨(hb.block _ (by have:=hz5.out;omega)).trans hz1.out,(hb.block _ (by have:=hz5.out;omega)).trans hz2.out⟩)
  have v1:=Lib.hid hr
  clear hr
  go_enter Try.func19,Try.ntmps19
  go_wp2_with (go_at_call 61;go_loud (refine (hR.out _ (by rw [← hW2];exact z4'.out)).mono ?_;rw [← hW2];rintro e w3 ⟨rfl,hb3⟩;rw [v1.out];have B3:=Lib.hid hb3;obtain ⟨r1,r2⟩:=hbx.out w3 hb3;clear o0 o1 o2 o3 o4 o5 o6 o7 o8 o9 o10 p0 p1 p2 p3 p4 p5 pf;obtain ⟨o0,o1,o2,o3,o4,o5,o6,o7,o8,o9,o10⟩:=op_cells r2;unfold val6 at r1;obtain ⟨p0,p1,p2,p3,p4,p5,pf⟩:=six_cells r1;clear hb3 r1 r2))
  go_ret
  exact ⟨rfl,z4'.out.trans (B3.out.mono z4'.out.size)⟩
set_option maxHeartbeats 4000000 in
theorem rv_c1 (w:World) (t:Nd) (aA kA:Option Addr) (an ac kn kc:Nat) (o:Ov) (s:OS) (h:NodeV (Old w) w aA an ac kA kn kc t) (ho:OpIn w o s) (hbig:weighV t≤100000) (hr:rightV ltB t = true) (hf:formedV o = false) :
    Calls Try.prog 19 #[.agg (val6 t aA an ac kA kn kc),.agg (opCells o s)] w fun e w'=>e = .returned (.int .i64 80)∧Below w.heap.size w w':=by
  obtain ⟨W2,hW2⟩:∃ W2,W2 = (w.alloc (.cells (val6 t aA an ac kA kn kc) 33)).alloc (.cells (opCells o s) 26):=⟨_,rfl⟩
  have z1:W2.heap[w.heap.size]? = some (.cells (val6 t aA an ac kA kn kc) 33 (0,0)):=by rw [hW2];exact (Go.heap_alloc_old _ _ (by simp)).trans (heap_alloc_new w _)
  have z2:W2.heap[w.heap.size + 1]? = some (.cells (opCells o s) 26 (0,0)):=by rw [hW2];have h1:=heap_alloc_new (w.alloc (.cells (val6 t aA an ac kA kn kc) 33)) (.cells (opCells o s) 26);rw [World.size_alloc] at h1;exact h1
  have z4':=Lib.hid (show Below w.heap.size w W2 by rw [hW2];exact ((Below.refl _ _).alloc (Nat.le_refl _) _).alloc (by simp) _)
  have z5:W2.heap.size = w.heap.size + 1 + 1:=by rw [hW2];simp
  have hR:=Lib.hid (fun (W:World) (hb:Below w.heap.size w W)=>rRight_any W t aA kA an ac kn kc (h.below hb))
  have hF:=Lib.hid (fun (W:World) (hb:Below w.heap.size w W)=>rformed_any W o s (ho.below hb))
  have hA:=Lib.hid (fun (W:World) (hb:Below w.heap.size w W)=>rat_any W t aA kA an ac kn kc (h.below hb) s.pA s.pn s.pc o.path (ho.path.below hb) (Nat.le_trans ho.pnc ho.pcm))
  have hA2:=Lib.hid (fun (W:World) (hb:Below w.heap.size w W)=>rat_any W t aA kA an ac kn kc (h.below hb) s.tA s.tn s.tc o.to_ (ho.to_.below hb) (Nat.le_trans ho.tnc ho.tcm))
  have hWi:=Lib.hid (fun (W:World) (hb:Below w.heap.size w W)=>P4.refWithin_any W s.pA s.tA s.pn s.pc s.tn s.tc o.path o.to_ (its4 (ho.path.below hb)) (its4 (ho.to_.below hb)) (Nat.le_trans ho.pnc ho.pcm) (Nat.le_trans ho.tnc ho.tcm))
  have hop:=Lib.hid (fun (W:World) (hb:Below w.heap.size w W)=>ho.below hb)
  have hlen:=Lib.hid ho.path.1
  have hz1:=Lib.hid z1
  have hz2:=Lib.hid z2
  have hz5:=Lib.hid z5
  have hkr:=ho.kind
  have hbg:=Lib.hid hbig
  obtain ⟨o0,o1,o2,o3,o4,o5,o6,o7,o8,o9,o10⟩:=op_cells z2
  have z1u:=z1
  unfold val6 at z1u
  obtain ⟨p0,p1,p2,p3,p4,p5,pf⟩:=six_cells z1u
  clear h ho z1 z1u z2 z5 hbig
  rw [hW2] at o0 o1 o2 o3 o4 o5 o6 o7 o8 o9 o10 p0 p1 p2 p3 p4 p5 pf
  unfold opCells at hF
  unfold val6 at hR hA hA2
  unfold val6 opCells at hW2 o0 o1 o2 o3 o4 o5 o6 o7 o8 o9 o10 p0 p1 p2 p3 p4 p5
  unfold val6 opCells
  have hbx:=Lib.hid (fun (W:World) (hb:Below W2.heap.size W2 W)=>show W.heap[w.heap.size]? = some (.cells (val6 t aA an ac kA kn kc) 33 (0,0))∧W.heap[w.heap.size + 1]? = some (.cells (opCells o s) 26 (0,0)) from ⟨(hb.block _ (by have:=hz5.out;omega)).trans hz1.out,(hb.block _ (by have:=hz5.out;omega)).trans hz2.out⟩)
  have v1:=Lib.hid hr
  clear hr
  have v2:=Lib.hid hf
  clear hf
  go_enter Try.func19,Try.ntmps19
  go_wp2_with (first
    | (go_at_call 61;go_loud (refine (hR.out _ (by rw [← hW2];exact z4'.out)).mono ?_;rw [← hW2];rintro e w3 ⟨rfl,hb3⟩;rw [v1.out];have B3:=Lib.hid hb3;obtain ⟨r1,r2⟩:=hbx.out w3 hb3;clear o0 o1 o2 o3 o4 o5 o6 o7 o8 o9 o10 p0 p1 p2 p3 p4 p5 pf;obtain ⟨o0,o1,o2,o3,o4,o5,o6,o7,o8,o9,o10⟩:=op_cells r2;unfold val6 at r1;obtain ⟨p0,p1,p2,p3,p4,p5,pf⟩:=six_cells r1;clear hb3 r1 r2))
    | (go_at_call 15;go_loud (refine (hF.out w3 (z4'.out.trans (B3.out.mono z4'.out.size))).mono ?_;rintro e w4 ⟨rfl,hb4⟩;rw [v2.out];have B4:=Lib.hid (B3.out.trans (hb4.mono B3.out.size));obtain ⟨r1,r2⟩:=hbx.out w4 B4.out;clear o0 o1 o2 o3 o4 o5 o6 o7 o8 o9 o10 p0 p1 p2 p3 p4 p5 pf;obtain ⟨o0,o1,o2,o3,o4,o5,o6,o7,o8,o9,o10⟩:=op_cells r2;unfold val6 at r1;obtain ⟨p0,p1,p2,p3,p4,p5,pf⟩:=six_cells r1;clear hb4 r1 r2)))
  go_ret
  exact ⟨rfl,z4'.out.trans (B4.out.mono z4'.out.size)⟩
set_option maxHeartbeats 4000000 in
theorem rv_c2_2 (w:World) (t:Nd) (aA kA:Option Addr) (an ac kn kc:Nat) (o:Ov) (s:OS) (h:NodeV (Old w) w aA an ac kA kn kc t) (ho:OpIn w o s) (hbig:weighV t≤100000) (hr:rightV ltB t = true) (hf:formedV o = true) (hk:o.kind = 2) (hp:o.path = []) :
    Calls Try.prog 19 #[.agg (val6 t aA an ac kA kn kc),.agg (opCells o s)] w fun e w'=>e = .returned (.int .i64 82)∧Below w.heap.size w w':=by
  obtain ⟨W2,hW2⟩:∃ W2,W2 = (w.alloc (.cells (val6 t aA an ac kA kn kc) 33)).alloc (.cells (opCells o s) 26):=⟨_,rfl⟩
  have z1:W2.heap[w.heap.size]? = some (.cells (val6 t aA an ac kA kn kc) 33 (0,0)):=by rw [hW2];exact (Go.heap_alloc_old _ _ (by simp)).trans (heap_alloc_new w _)
  have z2:W2.heap[w.heap.size + 1]? = some (.cells (opCells o s) 26 (0,0)):=by rw [hW2];have h1:=heap_alloc_new (w.alloc (.cells (val6 t aA an ac kA kn kc) 33)) (.cells (opCells o s) 26);rw [World.size_alloc] at h1;exact h1
  have z4':=Lib.hid (show Below w.heap.size w W2 by rw [hW2];exact ((Below.refl _ _).alloc (Nat.le_refl _) _).alloc (by simp) _)
  have z5:W2.heap.size = w.heap.size + 1 + 1:=by rw [hW2];simp
  have hR:=Lib.hid (fun (W:World) (hb:Below w.heap.size w W)=>rRight_any W t aA kA an ac kn kc (h.below hb))
  have hF:=Lib.hid (fun (W:World) (hb:Below w.heap.size w W)=>rformed_any W o s (ho.below hb))
  have hA:=Lib.hid (fun (W:World) (hb:Below w.heap.size w W)=>rat_any W t aA kA an ac kn kc (h.below hb) s.pA s.pn s.pc o.path (ho.path.below hb) (Nat.le_trans ho.pnc ho.pcm))
  have hA2:=Lib.hid (fun (W:World) (hb:Below w.heap.size w W)=>rat_any W t aA kA an ac kn kc (h.below hb) s.tA s.tn s.tc o.to_ (ho.to_.below hb) (Nat.le_trans ho.tnc ho.tcm))
  have hWi:=Lib.hid (fun (W:World) (hb:Below w.heap.size w W)=>P4.refWithin_any W s.pA s.tA s.pn s.pc s.tn s.tc o.path o.to_ (its4 (ho.path.below hb)) (its4 (ho.to_.below hb)) (Nat.le_trans ho.pnc ho.pcm) (Nat.le_trans ho.tnc ho.tcm))
  have hop:=Lib.hid (fun (W:World) (hb:Below w.heap.size w W)=>ho.below hb)
  have hlen:=Lib.hid ho.path.1
  have hz1:=Lib.hid z1
  have hz2:=Lib.hid z2
  have hz5:=Lib.hid z5
  have hkr:=ho.kind
  have hbg:=Lib.hid hbig
  obtain ⟨o0,o1,o2,o3,o4,o5,o6,o7,o8,o9,o10⟩:=op_cells z2
  have z1u:=z1
  unfold val6 at z1u
  obtain ⟨p0,p1,p2,p3,p4,p5,pf⟩:=six_cells z1u
  clear h ho z1 z1u z2 z5 hbig
  rw [hW2] at o0 o1 o2 o3 o4 o5 o6 o7 o8 o9 o10 p0 p1 p2 p3 p4 p5 pf
  unfold opCells at hF
  unfold val6 at hR hA hA2
  unfold val6 opCells at hW2 o0 o1 o2 o3 o4 o5 o6 o7 o8 o9 o10 p0 p1 p2 p3 p4 p5
  unfold val6 opCells
  have hbx:=Lib.hid (fun (W:World) (hb:Below W2.heap.size W2 W)=>show W.heap[w.heap.size]? = some (.cells (val6 t aA an ac kA kn kc) 33 (0,0))∧W.heap[w.heap.size + 1]? = some (.cells (opCells o s) 26 (0,0)) from ⟨(hb.block _ (by have:=hz5.out;omega)).trans hz1.out,(hb.block _ (by have:=hz5.out;omega)).trans hz2.out⟩)
  have v1:=Lib.hid hr
  clear hr
  have v2:=Lib.hid hf
  clear hf
  have b1:((o.kind:Int) == 1) = false:=by simp;omega
  have b2:((o.kind:Int) == 2) = true:=by simp;omega
  have b3:((o.kind:Int) == 3) = false:=by simp;omega
  have b6:((o.kind:Int) == 6) = false:=by simp;omega
  have hn:s.pn = 0:=by rw [← hlen.out,hp];rfl
  have hn1:((s.pn:Int) == 0) = true:=by simp;omega
  clear hn hk hp hkr
  go_enter Try.func19,Try.ntmps19
  go_wp2_with (first
    | (go_at_call 61;go_loud (refine (hR.out _ (by rw [← hW2];exact z4'.out)).mono ?_;rw [← hW2];rintro e w3 ⟨rfl,hb3⟩;rw [v1.out];have B3:=Lib.hid hb3;obtain ⟨r1,r2⟩:=hbx.out w3 hb3;clear o0 o1 o2 o3 o4 o5 o6 o7 o8 o9 o10 p0 p1 p2 p3 p4 p5 pf;obtain ⟨o0,o1,o2,o3,o4,o5,o6,o7,o8,o9,o10⟩:=op_cells r2;unfold val6 at r1;obtain ⟨p0,p1,p2,p3,p4,p5,pf⟩:=six_cells r1;clear hb3 r1 r2))
    | (go_at_call 15;go_loud (refine (hF.out w3 (z4'.out.trans (B3.out.mono z4'.out.size))).mono ?_;rintro e w4 ⟨rfl,hb4⟩;rw [v2.out];have B4:=Lib.hid (B3.out.trans (hb4.mono B3.out.size));obtain ⟨r1,r2⟩:=hbx.out w4 B4.out;clear o0 o1 o2 o3 o4 o5 o6 o7 o8 o9 o10 p0 p1 p2 p3 p4 p5 pf;obtain ⟨o0,o1,o2,o3,o4,o5,o6,o7,o8,o9,o10⟩:=op_cells r2;unfold val6 at r1;obtain ⟨p0,p1,p2,p3,p4,p5,pf⟩:=six_cells r1;clear hb4 r1 r2)))
  go_ret
  exact ⟨rfl,z4'.out.trans (B4.out.mono z4'.out.size)⟩
set_option maxHeartbeats 4000000 in
theorem rv_c2_3 (w:World) (t:Nd) (aA kA:Option Addr) (an ac kn kc:Nat) (o:Ov) (s:OS) (h:NodeV (Old w) w aA an ac kA kn kc t) (ho:OpIn w o s) (hbig:weighV t≤100000) (hr:rightV ltB t = true) (hf:formedV o = true) (hk:o.kind = 3) (hp:o.path = []) :
    Calls Try.prog 19 #[.agg (val6 t aA an ac kA kn kc),.agg (opCells o s)] w fun e w'=>e = .returned (.int .i64 82)∧Below w.heap.size w w':=by
  obtain ⟨W2,hW2⟩:∃ W2,W2 = (w.alloc (.cells (val6 t aA an ac kA kn kc) 33)).alloc (.cells (opCells o s) 26):=⟨_,rfl⟩
  have z1:W2.heap[w.heap.size]? = some (.cells (val6 t aA an ac kA kn kc) 33 (0,0)):=by rw [hW2];exact (Go.heap_alloc_old _ _ (by simp)).trans (heap_alloc_new w _)
  have z2:W2.heap[w.heap.size + 1]? = some (.cells (opCells o s) 26 (0,0)):=by rw [hW2];have h1:=heap_alloc_new (w.alloc (.cells (val6 t aA an ac kA kn kc) 33)) (.cells (opCells o s) 26);rw [World.size_alloc] at h1;exact h1
  have z4':=Lib.hid (show Below w.heap.size w W2 by rw [hW2];exact ((Below.refl _ _).alloc (Nat.le_refl _) _).alloc (by simp) _)
  have z5:W2.heap.size = w.heap.size + 1 + 1:=by rw [hW2];simp
  have hR:=Lib.hid (fun (W:World) (hb:Below w.heap.size w W)=>rRight_any W t aA kA an ac kn kc (h.below hb))
  have hF:=Lib.hid (fun (W:World) (hb:Below w.heap.size w W)=>rformed_any W o s (ho.below hb))
  have hA:=Lib.hid (fun (W:World) (hb:Below w.heap.size w W)=>rat_any W t aA kA an ac kn kc (h.below hb) s.pA s.pn s.pc o.path (ho.path.below hb) (Nat.le_trans ho.pnc ho.pcm))
  have hA2:=Lib.hid (fun (W:World) (hb:Below w.heap.size w W)=>rat_any W t aA kA an ac kn kc (h.below hb) s.tA s.tn s.tc o.to_ (ho.to_.below hb) (Nat.le_trans ho.tnc ho.tcm))
  have hWi:=Lib.hid (fun (W:World) (hb:Below w.heap.size w W)=>P4.refWithin_any W s.pA s.tA s.pn s.pc s.tn s.tc o.path o.to_ (its4 (ho.path.below hb)) (its4 (ho.to_.below hb)) (Nat.le_trans ho.pnc ho.pcm) (Nat.le_trans ho.tnc ho.tcm))
  have hop:=Lib.hid (fun (W:World) (hb:Below w.heap.size w W)=>ho.below hb)
  have hlen:=Lib.hid ho.path.1
  have hz1:=Lib.hid z1
  have hz2:=Lib.hid z2
  have hz5:=Lib.hid z5
  have hkr:=ho.kind
  have hbg:=Lib.hid hbig
  obtain ⟨o0,o1,o2,o3,o4,o5,o6,o7,o8,o9,o10⟩:=op_cells z2
  have z1u:=z1
  unfold val6 at z1u
  obtain ⟨p0,p1,p2,p3,p4,p5,pf⟩:=six_cells z1u
  clear h ho z1 z1u z2 z5 hbig
  rw [hW2] at o0 o1 o2 o3 o4 o5 o6 o7 o8 o9 o10 p0 p1 p2 p3 p4 p5 pf
  unfold opCells at hF
  unfold val6 at hR hA hA2
  unfold val6 opCells at hW2 o0 o1 o2 o3 o4 o5 o6 o7 o8 o9 o10 p0 p1 p2 p3 p4 p5
  unfold val6 opCells
  have hbx:=Lib.hid (fun (W:World) (hb:Below W2.heap.size W2 W)=>show W.heap[w.heap.size]? = some (.cells (val6 t aA an ac kA kn kc) 33 (0,0))∧W.heap[w.heap.size + 1]? = some (.cells (opCells o s) 26 (0,0)) from ⟨(hb.block _ (by have:=hz5.out;omega)).trans hz1.out,(hb.block _ (by have:=hz5.out;omega)).trans hz2.out⟩)
  have v1:=Lib.hid hr
  clear hr
  have v2:=Lib.hid hf
  clear hf
  have b1:((o.kind:Int) == 1) = false:=by simp;omega
  have b2:((o.kind:Int) == 2) = false:=by simp;omega
  have b3:((o.kind:Int) == 3) = true:=by simp;omega
  have b6:((o.kind:Int) == 6) = false:=by simp;omega
  have hn:s.pn = 0:=by rw [← hlen.out,hp];rfl
  have hn1:((s.pn:Int) == 0) = true:=by simp;omega
  clear hn hk hp hkr
  go_enter Try.func19,Try.ntmps19
  go_wp2_with (first
    | (go_at_call 61;go_loud (refine (hR.out _ (by rw [← hW2];exact z4'.out)).mono ?_;rw [← hW2];rintro e w3 ⟨rfl,hb3⟩;rw [v1.out];have B3:=Lib.hid hb3;obtain ⟨r1,r2⟩:=hbx.out w3 hb3;clear o0 o1 o2 o3 o4 o5 o6 o7 o8 o9 o10 p0 p1 p2 p3 p4 p5 pf;obtain ⟨o0,o1,o2,o3,o4,o5,o6,o7,o8,o9,o10⟩:=op_cells r2;unfold val6 at r1;obtain ⟨p0,p1,p2,p3,p4,p5,pf⟩:=six_cells r1;clear hb3 r1 r2))
    | (go_at_call 15;go_loud (refine (hF.out w3 (z4'.out.trans (B3.out.mono z4'.out.size))).mono ?_;rintro e w4 ⟨rfl,hb4⟩;rw [v2.out];have B4:=Lib.hid (B3.out.trans (hb4.mono B3.out.size));obtain ⟨r1,r2⟩:=hbx.out w4 B4.out;clear o0 o1 o2 o3 o4 o5 o6 o7 o8 o9 o10 p0 p1 p2 p3 p4 p5 pf;obtain ⟨o0,o1,o2,o3,o4,o5,o6,o7,o8,o9,o10⟩:=op_cells r2;unfold val6 at r1;obtain ⟨p0,p1,p2,p3,p4,p5,pf⟩:=six_cells r1;clear hb4 r1 r2)))
  go_ret
  exact ⟨rfl,z4'.out.trans (B4.out.mono z4'.out.size)⟩
set_option maxHeartbeats 4000000 in
theorem rv_n2 (w:World) (t:Nd) (aA kA:Option Addr) (an ac kn kc:Nat) (o:Ov) (s:OS) (h:NodeV (Old w) w aA an ac kA kn kc t) (ho:OpIn w o s) (hbig:weighV t≤100000) (hr:rightV ltB t = true) (hf:formedV o = true) (hk:o.kind = 2) (hp:o.path ≠ []) (hx:atV t o.path = none) :
    Calls Try.prog 19 #[.agg (val6 t aA an ac kA kn kc),.agg (opCells o s)] w fun e w'=>e = .returned (.int .i64 81)∧Below w.heap.size w w':=by
  obtain ⟨W2,hW2⟩:∃ W2,W2 = (w.alloc (.cells (val6 t aA an ac kA kn kc) 33)).alloc (.cells (opCells o s) 26):=⟨_,rfl⟩
  have z1:W2.heap[w.heap.size]? = some (.cells (val6 t aA an ac kA kn kc) 33 (0,0)):=by rw [hW2];exact (Go.heap_alloc_old _ _ (by simp)).trans (heap_alloc_new w _)
  have z2:W2.heap[w.heap.size + 1]? = some (.cells (opCells o s) 26 (0,0)):=by rw [hW2];have h1:=heap_alloc_new (w.alloc (.cells (val6 t aA an ac kA kn kc) 33)) (.cells (opCells o s) 26);rw [World.size_alloc] at h1;exact h1
  have z4':=Lib.hid (show Below w.heap.size w W2 by rw [hW2];exact ((Below.refl _ _).alloc (Nat.le_refl _) _).alloc (by simp) _)
  have z5:W2.heap.size = w.heap.size + 1 + 1:=by rw [hW2];simp
  have hR:=Lib.hid (fun (W:World) (hb:Below w.heap.size w W)=>rRight_any W t aA kA an ac kn kc (h.below hb))
  have hF:=Lib.hid (fun (W:World) (hb:Below w.heap.size w W)=>rformed_any W o s (ho.below hb))
  have hA:=Lib.hid (fun (W:World) (hb:Below w.heap.size w W)=>rat_any W t aA kA an ac kn kc (h.below hb) s.pA s.pn s.pc o.path (ho.path.below hb) (Nat.le_trans ho.pnc ho.pcm))
  have hA2:=Lib.hid (fun (W:World) (hb:Below w.heap.size w W)=>rat_any W t aA kA an ac kn kc (h.below hb) s.tA s.tn s.tc o.to_ (ho.to_.below hb) (Nat.le_trans ho.tnc ho.tcm))
  have hWi:=Lib.hid (fun (W:World) (hb:Below w.heap.size w W)=>P4.refWithin_any W s.pA s.tA s.pn s.pc s.tn s.tc o.path o.to_ (its4 (ho.path.below hb)) (its4 (ho.to_.below hb)) (Nat.le_trans ho.pnc ho.pcm) (Nat.le_trans ho.tnc ho.tcm))
  have hop:=Lib.hid (fun (W:World) (hb:Below w.heap.size w W)=>ho.below hb)
  have hlen:=Lib.hid ho.path.1
  have hz1:=Lib.hid z1
  have hz2:=Lib.hid z2
  have hz5:=Lib.hid z5
  have hkr:=ho.kind
  have hbg:=Lib.hid hbig
  obtain ⟨o0,o1,o2,o3,o4,o5,o6,o7,o8,o9,o10⟩:=op_cells z2
  have z1u:=z1
  unfold val6 at z1u
  obtain ⟨p0,p1,p2,p3,p4,p5,pf⟩:=six_cells z1u
  clear h ho z1 z1u z2 z5 hbig
  rw [hW2] at o0 o1 o2 o3 o4 o5 o6 o7 o8 o9 o10 p0 p1 p2 p3 p4 p5 pf
  unfold opCells at hF
  unfold val6 at hR hA hA2
  unfold val6 opCells at hW2 o0 o1 o2 o3 o4 o5 o6 o7 o8 o9 o10 p0 p1 p2 p3 p4 p5
  unfold val6 opCells
  have hbx:=Lib.hid (fun (W:World) (hb:Below W2.heap.size W2 W)=>show W.heap[w.heap.size]? = some (.cells (val6 t aA an ac kA kn kc) 33 (0,0))∧W.heap[w.heap.size + 1]? = some (.cells (opCells o s) 26 (0,0)) from ⟨(hb.block _ (by have:=hz5.out;omega)).trans hz1.out,(hb.block _ (by have:=hz5.out;omega)).trans hz2.out⟩)
  have v1:=Lib.hid hr
  clear hr
  have v2:=Lib.hid hf
  clear hf
  have v3:=Lib.hid hx
  clear hx
  have b1:((o.kind:Int) == 1) = false:=by simp;omega
  have b2:((o.kind:Int) == 2) = true:=by simp;omega
  have b3:((o.kind:Int) == 3) = false:=by simp;omega
  have b6:((o.kind:Int) == 6) = false:=by simp;omega
  have hn1:((s.pn:Int) == 0) = false:=by have:=hlen.out;have:o.path.length ≠ 0:=fun e=>hp (List.eq_nil_of_length_eq_zero e);simp;omega
  clear hk hp hkr
  go_enter Try.func19,Try.ntmps19
  go_wp2_with (first
    | (go_at_call 61;go_loud (refine (hR.out _ (by rw [← hW2];exact z4'.out)).mono ?_;rw [← hW2];rintro e w3 ⟨rfl,hb3⟩;rw [v1.out];have B3:=Lib.hid hb3;obtain ⟨r1,r2⟩:=hbx.out w3 hb3;clear o0 o1 o2 o3 o4 o5 o6 o7 o8 o9 o10 p0 p1 p2 p3 p4 p5 pf;obtain ⟨o0,o1,o2,o3,o4,o5,o6,o7,o8,o9,o10⟩:=op_cells r2;unfold val6 at r1;obtain ⟨p0,p1,p2,p3,p4,p5,pf⟩:=six_cells r1;clear hb3 r1 r2))
    | (go_at_call 15;go_loud (refine (hF.out w3 (z4'.out.trans (B3.out.mono z4'.out.size))).mono ?_;rintro e w4 ⟨rfl,hb4⟩;rw [v2.out];have B4:=Lib.hid (B3.out.trans (hb4.mono B3.out.size));obtain ⟨r1,r2⟩:=hbx.out w4 B4.out;clear o0 o1 o2 o3 o4 o5 o6 o7 o8 o9 o10 p0 p1 p2 p3 p4 p5 pf;obtain ⟨o0,o1,o2,o3,o4,o5,o6,o7,o8,o9,o10⟩:=op_cells r2;unfold val6 at r1;obtain ⟨p0,p1,p2,p3,p4,p5,pf⟩:=six_cells r1;clear hb4 r1 r2))
    | (go_at_call 62;go_loud (refine (hA.out w4 (z4'.out.trans (B4.out.mono z4'.out.size))).mono ?_;rintro e w5 ⟨xA,xn,xc,xK,xm,xd,rfl,hx5,hb5⟩;rw [v3.out] at hx5 ⊢;have B5:=Lib.hid (B4.out.trans (hb5.mono B4.out.size));obtain ⟨r1,r2⟩:=hbx.out w5 B5.out;have hs5:w.heap.size + 1 < w5.heap.size:=(by have:=B5.out.size;have:=hz5.out;omega);have hs6:w.heap.size < w5.heap.size:=(by omega);have hq1:w5.heap.size ≠ w.heap.size:=(by omega);have hq2:w5.heap.size ≠ w.heap.size + 1:=(by omega);clear o0 o1 o2 o3 o4 o5 o6 o7 o8 o9 o10 p0 p1 p2 p3 p4 p5 pf;obtain ⟨o0,o1,o2,o3,o4,o5,o6,o7,o8,o9,o10⟩:=op_cells r2;unfold val6 at r1;obtain ⟨p0,p1,p2,p3,p4,p5,pf⟩:=six_cells r1;have uu:=fun O j v (h:w5.cell? ⟨w.heap.size + 1,j,none⟩ = some v)=>(World.cell?_alloc_lt w5 O ⟨w.heap.size + 1,j,none⟩ hs5).trans h;have u0:=fun O=>uu O 0 _ o0;have u1:=fun O=>uu O 1 _ o1;have u2:=fun O=>uu O 2 _ o2;have u3:=fun O=>uu O 3 _ o3;have u10:=fun O=>uu O 10 _ o10;have vv:=fun O j v (h:w5.cell? ⟨w.heap.size,j,none⟩ = some v)=>(World.cell?_alloc_lt w5 O ⟨w.heap.size,j,none⟩ hs6).trans h;have v0':=fun O=>vv O 0 _ p0;have v1':=fun O=>vv O 1 _ p1;have v2':=fun O=>vv O 2 _ p2;have v3':=fun O=>vv O 3 _ p3;have v4':=fun O=>vv O 4 _ p4;have v5':=fun O=>vv O 5 _ p5;have hkl:=hx5.facts.kl;have hkl':=Lib.hid hkl;clear uu vv hb5 r1 r2 hx5 hkl;unfold val6)))
  go_ret
  exact ⟨rfl,(z4'.out.trans (B5.out.mono z4'.out.size)).alloc (by omega) _⟩
set_option maxHeartbeats 4000000 in
theorem rv_n3 (w:World) (t:Nd) (aA kA:Option Addr) (an ac kn kc:Nat) (o:Ov) (s:OS) (h:NodeV (Old w) w aA an ac kA kn kc t) (ho:OpIn w o s) (hbig:weighV t≤100000) (hr:rightV ltB t = true) (hf:formedV o = true) (hk:o.kind = 3) (hp:o.path ≠ []) (hx:atV t o.path = none) :
    Calls Try.prog 19 #[.agg (val6 t aA an ac kA kn kc),.agg (opCells o s)] w fun e w'=>e = .returned (.int .i64 81)∧Below w.heap.size w w':=by
  obtain ⟨W2,hW2⟩:∃ W2,W2 = (w.alloc (.cells (val6 t aA an ac kA kn kc) 33)).alloc (.cells (opCells o s) 26):=⟨_,rfl⟩
  have z1:W2.heap[w.heap.size]? = some (.cells (val6 t aA an ac kA kn kc) 33 (0,0)):=by rw [hW2];exact (Go.heap_alloc_old _ _ (by simp)).trans (heap_alloc_new w _)
  have z2:W2.heap[w.heap.size + 1]? = some (.cells (opCells o s) 26 (0,0)):=by rw [hW2];have h1:=heap_alloc_new (w.alloc (.cells (val6 t aA an ac kA kn kc) 33)) (.cells (opCells o s) 26);rw [World.size_alloc] at h1;exact h1
  have z4':=Lib.hid (show Below w.heap.size w W2 by rw [hW2];exact ((Below.refl _ _).alloc (Nat.le_refl _) _).alloc (by simp) _)
  have z5:W2.heap.size = w.heap.size + 1 + 1:=by rw [hW2];simp
  have hR:=Lib.hid (fun (W:World) (hb:Below w.heap.size w W)=>rRight_any W t aA kA an ac kn kc (h.below hb))
  have hF:=Lib.hid (fun (W:World) (hb:Below w.heap.size w W)=>rformed_any W o s (ho.below hb))
  have hA:=Lib.hid (fun (W:World) (hb:Below w.heap.size w W)=>rat_any W t aA kA an ac kn kc (h.below hb) s.pA s.pn s.pc o.path (ho.path.below hb) (Nat.le_trans ho.pnc ho.pcm))
  have hA2:=Lib.hid (fun (W:World) (hb:Below w.heap.size w W)=>rat_any W t aA kA an ac kn kc (h.below hb) s.tA s.tn s.tc o.to_ (ho.to_.below hb) (Nat.le_trans ho.tnc ho.tcm))
  have hWi:=Lib.hid (fun (W:World) (hb:Below w.heap.size w W)=>P4.refWithin_any W s.pA s.tA s.pn s.pc s.tn s.tc o.path o.to_ (its4 (ho.path.below hb)) (its4 (ho.to_.below hb)) (Nat.le_trans ho.pnc ho.pcm) (Nat.le_trans ho.tnc ho.tcm))
  have hop:=Lib.hid (fun (W:World) (hb:Below w.heap.size w W)=>ho.below hb)
  have hlen:=Lib.hid ho.path.1
  have hz1:=Lib.hid z1
  have hz2:=Lib.hid z2
  have hz5:=Lib.hid z5
  have hkr:=ho.kind
  have hbg:=Lib.hid hbig
  obtain ⟨o0,o1,o2,o3,o4,o5,o6,o7,o8,o9,o10⟩:=op_cells z2
  have z1u:=z1
  unfold val6 at z1u
  obtain ⟨p0,p1,p2,p3,p4,p5,pf⟩:=six_cells z1u
  clear h ho z1 z1u z2 z5 hbig
  rw [hW2] at o0 o1 o2 o3 o4 o5 o6 o7 o8 o9 o10 p0 p1 p2 p3 p4 p5 pf
  unfold opCells at hF
  unfold val6 at hR hA hA2
  unfold val6 opCells at hW2 o0 o1 o2 o3 o4 o5 o6 o7 o8 o9 o10 p0 p1 p2 p3 p4 p5
  unfold val6 opCells
  have hbx:=Lib.hid (fun (W:World) (hb:Below W2.heap.size W2 W)=>show W.heap[w.heap.size]? = some (.cells (val6 t aA an ac kA kn kc) 33 (0,0))∧W.heap[w.heap.size + 1]? = some (.cells (opCells o s) 26 (0,0)) from ⟨(hb.block _ (by have:=hz5.out;omega)).trans hz1.out,(hb.block _ (by have:=hz5.out;omega)).trans hz2.out⟩)
  have v1:=Lib.hid hr
  clear hr
  have v2:=Lib.hid hf
  clear hf
  have v3:=Lib.hid hx
  clear hx
  have b1:((o.kind:Int) == 1) = false:=by simp;omega
  have b2:((o.kind:Int) == 2) = false:=by simp;omega
  have b3:((o.kind:Int) == 3) = true:=by simp;omega
  have b6:((o.kind:Int) == 6) = false:=by simp;omega
  have hn1:((s.pn:Int) == 0) = false:=by have:=hlen.out;have:o.path.length ≠ 0:=fun e=>hp (List.eq_nil_of_length_eq_zero e);simp;omega
  clear hk hp hkr
  go_enter Try.func19,Try.ntmps19
  go_wp2_with (first
    | (go_at_call 61;go_loud (refine (hR.out _ (by rw [← hW2];exact z4'.out)).mono ?_;rw [← hW2];rintro e w3 ⟨rfl,hb3⟩;rw [v1.out];have B3:=Lib.hid hb3;obtain ⟨r1,r2⟩:=hbx.out w3 hb3;clear o0 o1 o2 o3 o4 o5 o6 o7 o8 o9 o10 p0 p1 p2 p3 p4 p5 pf;obtain ⟨o0,o1,o2,o3,o4,o5,o6,o7,o8,o9,o10⟩:=op_cells r2;unfold val6 at r1;obtain ⟨p0,p1,p2,p3,p4,p5,pf⟩:=six_cells r1;clear hb3 r1 r2))
    | (go_at_call 15;go_loud (refine (hF.out w3 (z4'.out.trans (B3.out.mono z4'.out.size))).mono ?_;rintro e w4 ⟨rfl,hb4⟩;rw [v2.out];have B4:=Lib.hid (B3.out.trans (hb4.mono B3.out.size));obtain ⟨r1,r2⟩:=hbx.out w4 B4.out;clear o0 o1 o2 o3 o4 o5 o6 o7 o8 o9 o10 p0 p1 p2 p3 p4 p5 pf;obtain ⟨o0,o1,o2,o3,o4,o5,o6,o7,o8,o9,o10⟩:=op_cells r2;unfold val6 at r1;obtain ⟨p0,p1,p2,p3,p4,p5,pf⟩:=six_cells r1;clear hb4 r1 r2))
    | (go_at_call 62;go_loud (refine (hA.out w4 (z4'.out.trans (B4.out.mono z4'.out.size))).mono ?_;rintro e w5 ⟨xA,xn,xc,xK,xm,xd,rfl,hx5,hb5⟩;rw [v3.out] at hx5 ⊢;have B5:=Lib.hid (B4.out.trans (hb5.mono B4.out.size));obtain ⟨r1,r2⟩:=hbx.out w5 B5.out;have hs5:w.heap.size + 1 < w5.heap.size:=(by have:=B5.out.size;have:=hz5.out;omega);have hs6:w.heap.size < w5.heap.size:=(by omega);have hq1:w5.heap.size ≠ w.heap.size:=(by omega);have hq2:w5.heap.size ≠ w.heap.size + 1:=(by omega);clear o0 o1 o2 o3 o4 o5 o6 o7 o8 o9 o10 p0 p1 p2 p3 p4 p5 pf;obtain ⟨o0,o1,o2,o3,o4,o5,o6,o7,o8,o9,o10⟩:=op_cells r2;unfold val6 at r1;obtain ⟨p0,p1,p2,p3,p4,p5,pf⟩:=six_cells r1;have uu:=fun O j v (h:w5.cell? ⟨w.heap.size + 1,j,none⟩ = some v)=>(World.cell?_alloc_lt w5 O ⟨w.heap.size + 1,j,none⟩ hs5).trans h;have u0:=fun O=>uu O 0 _ o0;have u1:=fun O=>uu O 1 _ o1;have u2:=fun O=>uu O 2 _ o2;have u3:=fun O=>uu O 3 _ o3;have u10:=fun O=>uu O 10 _ o10;have vv:=fun O j v (h:w5.cell? ⟨w.heap.size,j,none⟩ = some v)=>(World.cell?_alloc_lt w5 O ⟨w.heap.size,j,none⟩ hs6).trans h;have v0':=fun O=>vv O 0 _ p0;have v1':=fun O=>vv O 1 _ p1;have v2':=fun O=>vv O 2 _ p2;have v3':=fun O=>vv O 3 _ p3;have v4':=fun O=>vv O 4 _ p4;have v5':=fun O=>vv O 5 _ p5;have hkl:=hx5.facts.kl;have hkl':=Lib.hid hkl;clear uu vv hb5 r1 r2 hx5 hkl;unfold val6)))
  go_ret
  exact ⟨rfl,(z4'.out.trans (B5.out.mono z4'.out.size)).alloc (by omega) _⟩
set_option maxHeartbeats 4000000 in
theorem rv_no (w:World) (t:Nd) (aA kA:Option Addr) (an ac kn kc:Nat) (o:Ov) (s:OS) (h:NodeV (Old w) w aA an ac kA kn kc t) (ho:OpIn w o s) (hbig:weighV t≤100000) (hr:rightV ltB t = true) (hf:formedV o = true) (hk2:o.kind ≠ 2) (hk3:o.kind ≠ 3) (hx:atV t o.path = none) :
    Calls Try.prog 19 #[.agg (val6 t aA an ac kA kn kc),.agg (opCells o s)] w fun e w'=>e = .returned (.int .i64 81)∧Below w.heap.size w w':=by
  obtain ⟨W2,hW2⟩:∃ W2,W2 = (w.alloc (.cells (val6 t aA an ac kA kn kc) 33)).alloc (.cells (opCells o s) 26):=⟨_,rfl⟩
  have z1:W2.heap[w.heap.size]? = some (.cells (val6 t aA an ac kA kn kc) 33 (0,0)):=by rw [hW2];exact (Go.heap_alloc_old _ _ (by simp)).trans (heap_alloc_new w _)
  have z2:W2.heap[w.heap.size + 1]? = some (.cells (opCells o s) 26 (0,0)):=by rw [hW2];have h1:=heap_alloc_new (w.alloc (.cells (val6 t aA an ac kA kn kc) 33)) (.cells (opCells o s) 26);rw [World.size_alloc] at h1;exact h1
  have z4':=Lib.hid (show Below w.heap.size w W2 by rw [hW2];exact ((Below.refl _ _).alloc (Nat.le_refl _) _).alloc (by simp) _)
  have z5:W2.heap.size = w.heap.size + 1 + 1:=by rw [hW2];simp
  have hR:=Lib.hid (fun (W:World) (hb:Below w.heap.size w W)=>rRight_any W t aA kA an ac kn kc (h.below hb))
  have hF:=Lib.hid (fun (W:World) (hb:Below w.heap.size w W)=>rformed_any W o s (ho.below hb))
  have hA:=Lib.hid (fun (W:World) (hb:Below w.heap.size w W)=>rat_any W t aA kA an ac kn kc (h.below hb) s.pA s.pn s.pc o.path (ho.path.below hb) (Nat.le_trans ho.pnc ho.pcm))
  have hA2:=Lib.hid (fun (W:World) (hb:Below w.heap.size w W)=>rat_any W t aA kA an ac kn kc (h.below hb) s.tA s.tn s.tc o.to_ (ho.to_.below hb) (Nat.le_trans ho.tnc ho.tcm))
  have hWi:=Lib.hid (fun (W:World) (hb:Below w.heap.size w W)=>P4.refWithin_any W s.pA s.tA s.pn s.pc s.tn s.tc o.path o.to_ (its4 (ho.path.below hb)) (its4 (ho.to_.below hb)) (Nat.le_trans ho.pnc ho.pcm) (Nat.le_trans ho.tnc ho.tcm))
  have hop:=Lib.hid (fun (W:World) (hb:Below w.heap.size w W)=>ho.below hb)
  have hlen:=Lib.hid ho.path.1
  have hz1:=Lib.hid z1
  have hz2:=Lib.hid z2
  have hz5:=Lib.hid z5
  have hkr:=ho.kind
  have hbg:=Lib.hid hbig
  obtain ⟨o0,o1,o2,o3,o4,o5,o6,o7,o8,o9,o10⟩:=op_cells z2
  have z1u:=z1
  unfold val6 at z1u
  obtain ⟨p0,p1,p2,p3,p4,p5,pf⟩:=six_cells z1u
  clear h ho z1 z1u z2 z5 hbig
  rw [hW2] at o0 o1 o2 o3 o4 o5 o6 o7 o8 o9 o10 p0 p1 p2 p3 p4 p5 pf
  unfold opCells at hF
  unfold val6 at hR hA hA2
  unfold val6 opCells at hW2 o0 o1 o2 o3 o4 o5 o6 o7 o8 o9 o10 p0 p1 p2 p3 p4 p5
  unfold val6 opCells
  have hbx:=Lib.hid (fun (W:World) (hb:Below W2.heap.size W2 W)=>show W.heap[w.heap.size]? = some (.cells (val6 t aA an ac kA kn kc) 33 (0,0))∧W.heap[w.heap.size + 1]? = some (.cells (opCells o s) 26 (0,0)) from ⟨(hb.block _ (by have:=hz5.out;omega)).trans hz1.out,(hb.block _ (by have:=hz5.out;omega)).trans hz2.out⟩)
  have v1:=Lib.hid hr
  clear hr
  have v2:=Lib.hid hf
  clear hf
  have v3:=Lib.hid hx
  clear hx
  have b2:((o.kind:Int) == 2) = false:=by simp;omega
  have b3:((o.kind:Int) == 3) = false:=by simp;omega
  clear hk2 hk3 hkr
  go_enter Try.func19,Try.ntmps19
  go_wp2_with (first
    | (go_at_call 61;go_loud (refine (hR.out _ (by rw [← hW2];exact z4'.out)).mono ?_;rw [← hW2];rintro e w3 ⟨rfl,hb3⟩;rw [v1.out];have B3:=Lib.hid hb3;obtain ⟨r1,r2⟩:=hbx.out w3 hb3;clear o0 o1 o2 o3 o4 o5 o6 o7 o8 o9 o10 p0 p1 p2 p3 p4 p5 pf;obtain ⟨o0,o1,o2,o3,o4,o5,o6,o7,o8,o9,o10⟩:=op_cells r2;unfold val6 at r1;obtain ⟨p0,p1,p2,p3,p4,p5,pf⟩:=six_cells r1;clear hb3 r1 r2))
    | (go_at_call 15;go_loud (refine (hF.out w3 (z4'.out.trans (B3.out.mono z4'.out.size))).mono ?_;rintro e w4 ⟨rfl,hb4⟩;rw [v2.out];have B4:=Lib.hid (B3.out.trans (hb4.mono B3.out.size));obtain ⟨r1,r2⟩:=hbx.out w4 B4.out;clear o0 o1 o2 o3 o4 o5 o6 o7 o8 o9 o10 p0 p1 p2 p3 p4 p5 pf;obtain ⟨o0,o1,o2,o3,o4,o5,o6,o7,o8,o9,o10⟩:=op_cells r2;unfold val6 at r1;obtain ⟨p0,p1,p2,p3,p4,p5,pf⟩:=six_cells r1;clear hb4 r1 r2))
    | (go_at_call 62;go_loud (refine (hA.out w4 (z4'.out.trans (B4.out.mono z4'.out.size))).mono ?_;rintro e w5 ⟨xA,xn,xc,xK,xm,xd,rfl,hx5,hb5⟩;rw [v3.out] at hx5 ⊢;have B5:=Lib.hid (B4.out.trans (hb5.mono B4.out.size));obtain ⟨r1,r2⟩:=hbx.out w5 B5.out;have hs5:w.heap.size + 1 < w5.heap.size:=(by have:=B5.out.size;have:=hz5.out;omega);have hs6:w.heap.size < w5.heap.size:=(by omega);have hq1:w5.heap.size ≠ w.heap.size:=(by omega);have hq2:w5.heap.size ≠ w.heap.size + 1:=(by omega);clear o0 o1 o2 o3 o4 o5 o6 o7 o8 o9 o10 p0 p1 p2 p3 p4 p5 pf;obtain ⟨o0,o1,o2,o3,o4,o5,o6,o7,o8,o9,o10⟩:=op_cells r2;unfold val6 at r1;obtain ⟨p0,p1,p2,p3,p4,p5,pf⟩:=six_cells r1;have uu:=fun O j v (h:w5.cell? ⟨w.heap.size + 1,j,none⟩ = some v)=>(World.cell?_alloc_lt w5 O ⟨w.heap.size + 1,j,none⟩ hs5).trans h;have u0:=fun O=>uu O 0 _ o0;have u1:=fun O=>uu O 1 _ o1;have u2:=fun O=>uu O 2 _ o2;have u3:=fun O=>uu O 3 _ o3;have u10:=fun O=>uu O 10 _ o10;have vv:=fun O j v (h:w5.cell? ⟨w.heap.size,j,none⟩ = some v)=>(World.cell?_alloc_lt w5 O ⟨w.heap.size,j,none⟩ hs6).trans h;have v0':=fun O=>vv O 0 _ p0;have v1':=fun O=>vv O 1 _ p1;have v2':=fun O=>vv O 2 _ p2;have v3':=fun O=>vv O 3 _ p3;have v4':=fun O=>vv O 4 _ p4;have v5':=fun O=>vv O 5 _ p5;have hkl:=hx5.facts.kl;have hkl':=Lib.hid hkl;clear uu vv hb5 r1 r2 hx5 hkl;unfold val6)))
  go_ret
  exact ⟨rfl,(z4'.out.trans (B5.out.mono z4'.out.size)).alloc (by omega) _⟩
set_option maxHeartbeats 4000000 in
theorem rv_k1 (w:World) (t:Nd) (aA kA:Option Addr) (an ac kn kc:Nat) (o:Ov) (s:OS) (h:NodeV (Old w) w aA an ac kA kn kc t) (ho:OpIn w o s) (hbig:weighV t≤100000) (hr:rightV ltB t = true) (hf:formedV o = true) (hk:o.kind = 1) (x:Nd) (hx:atV t o.path = some x) :
    Calls Try.prog 19 #[.agg (val6 t aA an ac kA kn kc),.agg (opCells o s)] w fun e w'=>e = .returned (.int .i64 (gapE x o.at_))∧Below w.heap.size w w':=by
  obtain ⟨W2,hW2⟩:∃ W2,W2 = (w.alloc (.cells (val6 t aA an ac kA kn kc) 33)).alloc (.cells (opCells o s) 26):=⟨_,rfl⟩
  have z1:W2.heap[w.heap.size]? = some (.cells (val6 t aA an ac kA kn kc) 33 (0,0)):=by rw [hW2];exact (Go.heap_alloc_old _ _ (by simp)).trans (heap_alloc_new w _)
  have z2:W2.heap[w.heap.size + 1]? = some (.cells (opCells o s) 26 (0,0)):=by rw [hW2];have h1:=heap_alloc_new (w.alloc (.cells (val6 t aA an ac kA kn kc) 33)) (.cells (opCells o s) 26);rw [World.size_alloc] at h1;exact h1
  have z4':=Lib.hid (show Below w.heap.size w W2 by rw [hW2];exact ((Below.refl _ _).alloc (Nat.le_refl _) _).alloc (by simp) _)
  have z5:W2.heap.size = w.heap.size + 1 + 1:=by rw [hW2];simp
  have hR:=Lib.hid (fun (W:World) (hb:Below w.heap.size w W)=>rRight_any W t aA kA an ac kn kc (h.below hb))
  have hF:=Lib.hid (fun (W:World) (hb:Below w.heap.size w W)=>rformed_any W o s (ho.below hb))
  have hA:=Lib.hid (fun (W:World) (hb:Below w.heap.size w W)=>rat_any W t aA kA an ac kn kc (h.below hb) s.pA s.pn s.pc o.path (ho.path.below hb) (Nat.le_trans ho.pnc ho.pcm))
  have hA2:=Lib.hid (fun (W:World) (hb:Below w.heap.size w W)=>rat_any W t aA kA an ac kn kc (h.below hb) s.tA s.tn s.tc o.to_ (ho.to_.below hb) (Nat.le_trans ho.tnc ho.tcm))
  have hWi:=Lib.hid (fun (W:World) (hb:Below w.heap.size w W)=>P4.refWithin_any W s.pA s.tA s.pn s.pc s.tn s.tc o.path o.to_ (its4 (ho.path.below hb)) (its4 (ho.to_.below hb)) (Nat.le_trans ho.pnc ho.pcm) (Nat.le_trans ho.tnc ho.tcm))
  have hop:=Lib.hid (fun (W:World) (hb:Below w.heap.size w W)=>ho.below hb)
  have hlen:=Lib.hid ho.path.1
  have hz1:=Lib.hid z1
  have hz2:=Lib.hid z2
  have hz5:=Lib.hid z5
  have hkr:=ho.kind
  have hbg:=Lib.hid hbig
  obtain ⟨o0,o1,o2,o3,o4,o5,o6,o7,o8,o9,o10⟩:=op_cells z2
  have z1u:=z1
  unfold val6 at z1u
  obtain ⟨p0,p1,p2,p3,p4,p5,pf⟩:=six_cells z1u
  clear h ho z1 z1u z2 z5 hbig
  rw [hW2] at o0 o1 o2 o3 o4 o5 o6 o7 o8 o9 o10 p0 p1 p2 p3 p4 p5 pf
  unfold opCells at hF
  unfold val6 at hR hA hA2
  unfold val6 opCells at hW2 o0 o1 o2 o3 o4 o5 o6 o7 o8 o9 o10 p0 p1 p2 p3 p4 p5
  unfold val6 opCells
  have hbx:=Lib.hid (fun (W:World) (hb:Below W2.heap.size W2 W)=>show W.heap[w.heap.size]? = some (.cells (val6 t aA an ac kA kn kc) 33 (0,0))∧W.heap[w.heap.size + 1]? = some (.cells (opCells o s) 26 (0,0)) from ⟨(hb.block _ (by have:=hz5.out;omega)).trans hz1.out,(hb.block _ (by have:=hz5.out;omega)).trans hz2.out⟩)
  have v1:=Lib.hid hr
  clear hr
  have v2:=Lib.hid hf
  clear hf
  have v3:=Lib.hid hx
  clear hx
  have b1:((o.kind:Int) == 1) = true:=by simp;omega
  have b2:((o.kind:Int) == 2) = false:=by simp;omega
  have b3:((o.kind:Int) == 3) = false:=by simp;omega
  have b6:((o.kind:Int) == 6) = false:=by simp;omega
  clear hk hkr
  go_enter Try.func19,Try.ntmps19
  go_wp2_with (first
    | (go_at_call 61;go_loud (refine (hR.out _ (by rw [← hW2];exact z4'.out)).mono ?_;rw [← hW2];rintro e w3 ⟨rfl,hb3⟩;rw [v1.out];have B3:=Lib.hid hb3;obtain ⟨r1,r2⟩:=hbx.out w3 hb3;clear o0 o1 o2 o3 o4 o5 o6 o7 o8 o9 o10 p0 p1 p2 p3 p4 p5 pf;obtain ⟨o0,o1,o2,o3,o4,o5,o6,o7,o8,o9,o10⟩:=op_cells r2;unfold val6 at r1;obtain ⟨p0,p1,p2,p3,p4,p5,pf⟩:=six_cells r1;clear hb3 r1 r2))
    | (go_at_call 15;go_loud (refine (hF.out w3 (z4'.out.trans (B3.out.mono z4'.out.size))).mono ?_;rintro e w4 ⟨rfl,hb4⟩;rw [v2.out];have B4:=Lib.hid (B3.out.trans (hb4.mono B3.out.size));obtain ⟨r1,r2⟩:=hbx.out w4 B4.out;clear o0 o1 o2 o3 o4 o5 o6 o7 o8 o9 o10 p0 p1 p2 p3 p4 p5 pf;obtain ⟨o0,o1,o2,o3,o4,o5,o6,o7,o8,o9,o10⟩:=op_cells r2;unfold val6 at r1;obtain ⟨p0,p1,p2,p3,p4,p5,pf⟩:=six_cells r1;clear hb4 r1 r2))
    | (go_at_call 62;go_loud (refine (hA.out w4 (z4'.out.trans (B4.out.mono z4'.out.size))).mono ?_;rintro e w5 ⟨xA,xn,xc,xK,xm,xd,rfl,hx5,hb5⟩;rw [v3.out] at hx5 ⊢;have B5:=Lib.hid (B4.out.trans (hb5.mono B4.out.size));obtain ⟨r1,r2⟩:=hbx.out w5 B5.out;have hs5:w.heap.size + 1 < w5.heap.size:=(by have:=B5.out.size;have:=hz5.out;omega);have hs6:w.heap.size < w5.heap.size:=(by omega);have hq1:w5.heap.size ≠ w.heap.size:=(by omega);have hq2:w5.heap.size ≠ w.heap.size + 1:=(by omega);clear o0 o1 o2 o3 o4 o5 o6 o7 o8 o9 o10 p0 p1 p2 p3 p4 p5 pf;obtain ⟨o0,o1,o2,o3,o4,o5,o6,o7,o8,o9,o10⟩:=op_cells r2;unfold val6 at r1;obtain ⟨p0,p1,p2,p3,p4,p5,pf⟩:=six_cells r1;have uu:=fun O j v (h:w5.cell? ⟨w.heap.size + 1,j,none⟩ = some v)=>(World.cell?_alloc_lt w5 O ⟨w.heap.size + 1,j,none⟩ hs5).trans h;have u0:=fun O=>uu O 0 _ o0;have u1:=fun O=>uu O 1 _ o1;have u2:=fun O=>uu O 2 _ o2;have u3:=fun O=>uu O 3 _ o3;have u10:=fun O=>uu O 10 _ o10;have vv:=fun O j v (h:w5.cell? ⟨w.heap.size,j,none⟩ = some v)=>(World.cell?_alloc_lt w5 O ⟨w.heap.size,j,none⟩ hs6).trans h;have v0':=fun O=>vv O 0 _ p0;have v1':=fun O=>vv O 1 _ p1;have v2':=fun O=>vv O 2 _ p2;have v3':=fun O=>vv O 3 _ p3;have v4':=fun O=>vv O 4 _ p4;have v5':=fun O=>vv O 5 _ p5;have hkl:=hx5.facts.kl;have hkl':=Lib.hid hkl;clear uu vv hb5 r1 r2 hx5 hkl;unfold val6))
    | (go_at_call 63;go_loud (refine (rinto_any _ x xA xK xn xc xm xd hkl'.out o.at_).mono ?_;rintro e w6 ⟨rfl,hb6⟩;have B6:=Lib.hid ((z4'.out.trans (B5.out.mono z4'.out.size)).trans ((Below.refl w5.heap.size w5).alloc (Nat.le_refl _) _ |>.mono (z4'.out.trans (B5.out.mono z4'.out.size)).size) |>.trans (hb6.mono (by rw [World.size_alloc];omega)));clear hb6)))
  go_ret
  exact ⟨rfl,B6.out⟩
set_option maxHeartbeats 4000000 in
theorem rv_k2 (w:World) (t:Nd) (aA kA:Option Addr) (an ac kn kc:Nat) (o:Ov) (s:OS) (h:NodeV (Old w) w aA an ac kA kn kc t) (ho:OpIn w o s) (hbig:weighV t≤100000) (hr:rightV ltB t = true) (hf:formedV o = true) (hk:o.kind = 2) (hp:o.path ≠ []) (x:Nd) (hx:atV t o.path = some x) :
    Calls Try.prog 19 #[.agg (val6 t aA an ac kA kn kc),.agg (opCells o s)] w fun e w'=>e = .returned (.int .i64 0)∧Below w.heap.size w w':=by
  obtain ⟨W2,hW2⟩:∃ W2,W2 = (w.alloc (.cells (val6 t aA an ac kA kn kc) 33)).alloc (.cells (opCells o s) 26):=⟨_,rfl⟩
  have z1:W2.heap[w.heap.size]? = some (.cells (val6 t aA an ac kA kn kc) 33 (0,0)):=by rw [hW2];exact (Go.heap_alloc_old _ _ (by simp)).trans (heap_alloc_new w _)
  have z2:W2.heap[w.heap.size + 1]? = some (.cells (opCells o s) 26 (0,0)):=by rw [hW2];have h1:=heap_alloc_new (w.alloc (.cells (val6 t aA an ac kA kn kc) 33)) (.cells (opCells o s) 26);rw [World.size_alloc] at h1;exact h1
  have z4':=Lib.hid (show Below w.heap.size w W2 by rw [hW2];exact ((Below.refl _ _).alloc (Nat.le_refl _) _).alloc (by simp) _)
  have z5:W2.heap.size = w.heap.size + 1 + 1:=by rw [hW2];simp
  have hR:=Lib.hid (fun (W:World) (hb:Below w.heap.size w W)=>rRight_any W t aA kA an ac kn kc (h.below hb))
  have hF:=Lib.hid (fun (W:World) (hb:Below w.heap.size w W)=>rformed_any W o s (ho.below hb))
  have hA:=Lib.hid (fun (W:World) (hb:Below w.heap.size w W)=>rat_any W t aA kA an ac kn kc (h.below hb) s.pA s.pn s.pc o.path (ho.path.below hb) (Nat.le_trans ho.pnc ho.pcm))
  have hA2:=Lib.hid (fun (W:World) (hb:Below w.heap.size w W)=>rat_any W t aA kA an ac kn kc (h.below hb) s.tA s.tn s.tc o.to_ (ho.to_.below hb) (Nat.le_trans ho.tnc ho.tcm))
  have hWi:=Lib.hid (fun (W:World) (hb:Below w.heap.size w W)=>P4.refWithin_any W s.pA s.tA s.pn s.pc s.tn s.tc o.path o.to_ (its4 (ho.path.below hb)) (its4 (ho.to_.below hb)) (Nat.le_trans ho.pnc ho.pcm) (Nat.le_trans ho.tnc ho.tcm))
  have hop:=Lib.hid (fun (W:World) (hb:Below w.heap.size w W)=>ho.below hb)
  have hlen:=Lib.hid ho.path.1
  have hz1:=Lib.hid z1
  have hz2:=Lib.hid z2
  have hz5:=Lib.hid z5
  have hkr:=ho.kind
  have hbg:=Lib.hid hbig
  obtain ⟨o0,o1,o2,o3,o4,o5,o6,o7,o8,o9,o10⟩:=op_cells z2
  have z1u:=z1
  unfold val6 at z1u
  obtain ⟨p0,p1,p2,p3,p4,p5,pf⟩:=six_cells z1u
  clear h ho z1 z1u z2 z5 hbig
  rw [hW2] at o0 o1 o2 o3 o4 o5 o6 o7 o8 o9 o10 p0 p1 p2 p3 p4 p5 pf
  unfold opCells at hF
  unfold val6 at hR hA hA2
  unfold val6 opCells at hW2 o0 o1 o2 o3 o4 o5 o6 o7 o8 o9 o10 p0 p1 p2 p3 p4 p5
  unfold val6 opCells
  have hbx:=Lib.hid (fun (W:World) (hb:Below W2.heap.size W2 W)=>show W.heap[w.heap.size]? = some (.cells (val6 t aA an ac kA kn kc) 33 (0,0))∧W.heap[w.heap.size + 1]? = some (.cells (opCells o s) 26 (0,0)) from ⟨(hb.block _ (by have:=hz5.out;omega)).trans hz1.out,(hb.block _ (by have:=hz5.out;omega)).trans hz2.out⟩)
  have v1:=Lib.hid hr
  clear hr
  have v2:=Lib.hid hf
  clear hf
  have v3:=Lib.hid hx
  clear hx
  have b1:((o.kind:Int) == 1) = false:=by simp;omega
  have b2:((o.kind:Int) == 2) = true:=by simp;omega
  have b3:((o.kind:Int) == 3) = false:=by simp;omega
  have b6:((o.kind:Int) == 6) = false:=by simp;omega
  have hn1:((s.pn:Int) == 0) = false:=by have:=hlen.out;have:o.path.length ≠ 0:=fun e=>hp (List.eq_nil_of_length_eq_zero e);simp;omega
  clear hk hp hkr
  go_enter Try.func19,Try.ntmps19
  go_wp2_with (first
    | (go_at_call 61;go_loud (refine (hR.out _ (by rw [← hW2];exact z4'.out)).mono ?_;rw [← hW2];rintro e w3 ⟨rfl,hb3⟩;rw [v1.out];have B3:=Lib.hid hb3;obtain ⟨r1,r2⟩:=hbx.out w3 hb3;clear o0 o1 o2 o3 o4 o5 o6 o7 o8 o9 o10 p0 p1 p2 p3 p4 p5 pf;obtain ⟨o0,o1,o2,o3,o4,o5,o6,o7,o8,o9,o10⟩:=op_cells r2;unfold val6 at r1;obtain ⟨p0,p1,p2,p3,p4,p5,pf⟩:=six_cells r1;clear hb3 r1 r2))
    | (go_at_call 15;go_loud (refine (hF.out w3 (z4'.out.trans (B3.out.mono z4'.out.size))).mono ?_;rintro e w4 ⟨rfl,hb4⟩;rw [v2.out];have B4:=Lib.hid (B3.out.trans (hb4.mono B3.out.size));obtain ⟨r1,r2⟩:=hbx.out w4 B4.out;clear o0 o1 o2 o3 o4 o5 o6 o7 o8 o9 o10 p0 p1 p2 p3 p4 p5 pf;obtain ⟨o0,o1,o2,o3,o4,o5,o6,o7,o8,o9,o10⟩:=op_cells r2;unfold val6 at r1;obtain ⟨p0,p1,p2,p3,p4,p5,pf⟩:=six_cells r1;clear hb4 r1 r2))
    | (go_at_call 62;go_loud (refine (hA.out w4 (z4'.out.trans (B4.out.mono z4'.out.size))).mono ?_;rintro e w5 ⟨xA,xn,xc,xK,xm,xd,rfl,hx5,hb5⟩;rw [v3.out] at hx5 ⊢;have B5:=Lib.hid (B4.out.trans (hb5.mono B4.out.size));obtain ⟨r1,r2⟩:=hbx.out w5 B5.out;have hs5:w.heap.size + 1 < w5.heap.size:=(by have:=B5.out.size;have:=hz5.out;omega);have hs6:w.heap.size < w5.heap.size:=(by omega);have hq1:w5.heap.size ≠ w.heap.size:=(by omega);have hq2:w5.heap.size ≠ w.heap.size + 1:=(by omega);clear o0 o1 o2 o3 o4 o5 o6 o7 o8 o9 o10 p0 p1 p2 p3 p4 p5 pf;obtain ⟨o0,o1,o2,o3,o4,o5,o6,o7,o8,o9,o10⟩:=op_cells r2;unfold val6 at r1;obtain ⟨p0,p1,p2,p3,p4,p5,pf⟩:=six_cells r1;have uu:=fun O j v (h:w5.cell? ⟨w.heap.size + 1,j,none⟩ = some v)=>(World.cell?_alloc_lt w5 O ⟨w.heap.size + 1,j,none⟩ hs5).trans h;have u0:=fun O=>uu O 0 _ o0;have u1:=fun O=>uu O 1 _ o1;have u2:=fun O=>uu O 2 _ o2;have u3:=fun O=>uu O 3 _ o3;have u10:=fun O=>uu O 10 _ o10;have vv:=fun O j v (h:w5.cell? ⟨w.heap.size,j,none⟩ = some v)=>(World.cell?_alloc_lt w5 O ⟨w.heap.size,j,none⟩ hs6).trans h;have v0':=fun O=>vv O 0 _ p0;have v1':=fun O=>vv O 1 _ p1;have v2':=fun O=>vv O 2 _ p2;have v3':=fun O=>vv O 3 _ p3;have v4':=fun O=>vv O 4 _ p4;have v5':=fun O=>vv O 5 _ p5;have hkl:=hx5.facts.kl;have hkl':=Lib.hid hkl;clear uu vv hb5 r1 r2 hx5 hkl;unfold val6)))
  go_ret
  exact ⟨rfl,(z4'.out.trans (B5.out.mono z4'.out.size)).alloc (by omega) _⟩
set_option maxHeartbeats 4000000 in
theorem rv_k45 (w:World) (t:Nd) (aA kA:Option Addr) (an ac kn kc:Nat) (o:Ov) (s:OS) (h:NodeV (Old w) w aA an ac kA kn kc t) (ho:OpIn w o s) (hbig:weighV t≤100000) (hr:rightV ltB t = true) (hf:formedV o = true) (hk:o.kind = 4∨o.kind = 5) (x:Nd) (hx:atV t o.path = some x) :
    Calls Try.prog 19 #[.agg (val6 t aA an ac kA kn kc),.agg (opCells o s)] w fun e w'=>e = .returned (.int .i64 0)∧Below w.heap.size w w':=by
  obtain ⟨W2,hW2⟩:∃ W2,W2 = (w.alloc (.cells (val6 t aA an ac kA kn kc) 33)).alloc (.cells (opCells o s) 26):=⟨_,rfl⟩
  have z1:W2.heap[w.heap.size]? = some (.cells (val6 t aA an ac kA kn kc) 33 (0,0)):=by rw [hW2];exact (Go.heap_alloc_old _ _ (by simp)).trans (heap_alloc_new w _)
  have z2:W2.heap[w.heap.size + 1]? = some (.cells (opCells o s) 26 (0,0)):=by rw [hW2];have h1:=heap_alloc_new (w.alloc (.cells (val6 t aA an ac kA kn kc) 33)) (.cells (opCells o s) 26);rw [World.size_alloc] at h1;exact h1
  have z4':=Lib.hid (show Below w.heap.size w W2 by rw [hW2];exact ((Below.refl _ _).alloc (Nat.le_refl _) _).alloc (by simp) _)
  have z5:W2.heap.size = w.heap.size + 1 + 1:=by rw [hW2];simp
  have hR:=Lib.hid (fun (W:World) (hb:Below w.heap.size w W)=>rRight_any W t aA kA an ac kn kc (h.below hb))
  have hF:=Lib.hid (fun (W:World) (hb:Below w.heap.size w W)=>rformed_any W o s (ho.below hb))
  have hA:=Lib.hid (fun (W:World) (hb:Below w.heap.size w W)=>rat_any W t aA kA an ac kn kc (h.below hb) s.pA s.pn s.pc o.path (ho.path.below hb) (Nat.le_trans ho.pnc ho.pcm))
  have hA2:=Lib.hid (fun (W:World) (hb:Below w.heap.size w W)=>rat_any W t aA kA an ac kn kc (h.below hb) s.tA s.tn s.tc o.to_ (ho.to_.below hb) (Nat.le_trans ho.tnc ho.tcm))
  have hWi:=Lib.hid (fun (W:World) (hb:Below w.heap.size w W)=>P4.refWithin_any W s.pA s.tA s.pn s.pc s.tn s.tc o.path o.to_ (its4 (ho.path.below hb)) (its4 (ho.to_.below hb)) (Nat.le_trans ho.pnc ho.pcm) (Nat.le_trans ho.tnc ho.tcm))
  have hop:=Lib.hid (fun (W:World) (hb:Below w.heap.size w W)=>ho.below hb)
  have hlen:=Lib.hid ho.path.1
  have hz1:=Lib.hid z1
  have hz2:=Lib.hid z2
  have hz5:=Lib.hid z5
  have hkr:=ho.kind
  have hbg:=Lib.hid hbig
  obtain ⟨o0,o1,o2,o3,o4,o5,o6,o7,o8,o9,o10⟩:=op_cells z2
  have z1u:=z1
  unfold val6 at z1u
  obtain ⟨p0,p1,p2,p3,p4,p5,pf⟩:=six_cells z1u
  clear h ho z1 z1u z2 z5 hbig
  rw [hW2] at o0 o1 o2 o3 o4 o5 o6 o7 o8 o9 o10 p0 p1 p2 p3 p4 p5 pf
  unfold opCells at hF
  unfold val6 at hR hA hA2
  unfold val6 opCells at hW2 o0 o1 o2 o3 o4 o5 o6 o7 o8 o9 o10 p0 p1 p2 p3 p4 p5
  unfold val6 opCells
  have hbx:=Lib.hid (fun (W:World) (hb:Below W2.heap.size W2 W)=>show W.heap[w.heap.size]? = some (.cells (val6 t aA an ac kA kn kc) 33 (0,0))∧W.heap[w.heap.size + 1]? = some (.cells (opCells o s) 26 (0,0)) from ⟨(hb.block _ (by have:=hz5.out;omega)).trans hz1.out,(hb.block _ (by have:=hz5.out;omega)).trans hz2.out⟩)
  have v1:=Lib.hid hr
  clear hr
  have v2:=Lib.hid hf
  clear hf
  have v3:=Lib.hid hx
  clear hx
  have b1:((o.kind:Int) == 1) = false:=by simp;omega
  have b2:((o.kind:Int) == 2) = false:=by simp;omega
  have b3:((o.kind:Int) == 3) = false:=by simp;omega
  have b6:((o.kind:Int) == 6) = false:=by simp;omega
  clear hk hkr
  go_enter Try.func19,Try.ntmps19
  go_wp2_with (first
    | (go_at_call 61;go_loud (refine (hR.out _ (by rw [← hW2];exact z4'.out)).mono ?_;rw [← hW2];rintro e w3 ⟨rfl,hb3⟩;rw [v1.out];have B3:=Lib.hid hb3;obtain ⟨r1,r2⟩:=hbx.out w3 hb3;clear o0 o1 o2 o3 o4 o5 o6 o7 o8 o9 o10 p0 p1 p2 p3 p4 p5 pf;obtain ⟨o0,o1,o2,o3,o4,o5,o6,o7,o8,o9,o10⟩:=op_cells r2;unfold val6 at r1;obtain ⟨p0,p1,p2,p3,p4,p5,pf⟩:=six_cells r1;clear hb3 r1 r2))
    | (go_at_call 15;go_loud (refine (hF.out w3 (z4'.out.trans (B3.out.mono z4'.out.size))).mono ?_;rintro e w4 ⟨rfl,hb4⟩;rw [v2.out];have B4:=Lib.hid (B3.out.trans (hb4.mono B3.out.size));obtain ⟨r1,r2⟩:=hbx.out w4 B4.out;clear o0 o1 o2 o3 o4 o5 o6 o7 o8 o9 o10 p0 p1 p2 p3 p4 p5 pf;obtain ⟨o0,o1,o2,o3,o4,o5,o6,o7,o8,o9,o10⟩:=op_cells r2;unfold val6 at r1;obtain ⟨p0,p1,p2,p3,p4,p5,pf⟩:=six_cells r1;clear hb4 r1 r2))
    | (go_at_call 62;go_loud (refine (hA.out w4 (z4'.out.trans (B4.out.mono z4'.out.size))).mono ?_;rintro e w5 ⟨xA,xn,xc,xK,xm,xd,rfl,hx5,hb5⟩;rw [v3.out] at hx5 ⊢;have B5:=Lib.hid (B4.out.trans (hb5.mono B4.out.size));obtain ⟨r1,r2⟩:=hbx.out w5 B5.out;have hs5:w.heap.size + 1 < w5.heap.size:=(by have:=B5.out.size;have:=hz5.out;omega);have hs6:w.heap.size < w5.heap.size:=(by omega);have hq1:w5.heap.size ≠ w.heap.size:=(by omega);have hq2:w5.heap.size ≠ w.heap.size + 1:=(by omega);clear o0 o1 o2 o3 o4 o5 o6 o7 o8 o9 o10 p0 p1 p2 p3 p4 p5 pf;obtain ⟨o0,o1,o2,o3,o4,o5,o6,o7,o8,o9,o10⟩:=op_cells r2;unfold val6 at r1;obtain ⟨p0,p1,p2,p3,p4,p5,pf⟩:=six_cells r1;have uu:=fun O j v (h:w5.cell? ⟨w.heap.size + 1,j,none⟩ = some v)=>(World.cell?_alloc_lt w5 O ⟨w.heap.size + 1,j,none⟩ hs5).trans h;have u0:=fun O=>uu O 0 _ o0;have u1:=fun O=>uu O 1 _ o1;have u2:=fun O=>uu O 2 _ o2;have u3:=fun O=>uu O 3 _ o3;have u10:=fun O=>uu O 10 _ o10;have vv:=fun O j v (h:w5.cell? ⟨w.heap.size,j,none⟩ = some v)=>(World.cell?_alloc_lt w5 O ⟨w.heap.size,j,none⟩ hs6).trans h;have v0':=fun O=>vv O 0 _ p0;have v1':=fun O=>vv O 1 _ p1;have v2':=fun O=>vv O 2 _ p2;have v3':=fun O=>vv O 3 _ p3;have v4':=fun O=>vv O 4 _ p4;have v5':=fun O=>vv O 5 _ p5;have hkl:=hx5.facts.kl;have hkl':=Lib.hid hkl;clear uu vv hb5 r1 r2 hx5 hkl;unfold val6)))
  go_ret
  exact ⟨rfl,(z4'.out.trans (B5.out.mono z4'.out.size)).alloc (by omega) _⟩
set_option maxHeartbeats 4000000 in
theorem rv_k3a (w:World) (t:Nd) (aA kA:Option Addr) (an ac kn kc:Nat) (o:Ov) (s:OS) (h:NodeV (Old w) w aA an ac kA kn kc t) (ho:OpIn w o s) (hbig:weighV t≤100000) (hr:rightV ltB t = true) (hf:formedV o = true) (hk:o.kind = 3) (hp:o.path ≠ []) (x:Nd) (hx:atV t o.path = some x) (hw:P4.withinV o.path o.to_ = true) :
    Calls Try.prog 19 #[.agg (val6 t aA an ac kA kn kc),.agg (opCells o s)] w fun e w'=>e = .returned (.int .i64 84)∧Below w.heap.size w w':=by
  obtain ⟨W2,hW2⟩:∃ W2,W2 = (w.alloc (.cells (val6 t aA an ac kA kn kc) 33)).alloc (.cells (opCells o s) 26):=⟨_,rfl⟩
  have z1:W2.heap[w.heap.size]? = some (.cells (val6 t aA an ac kA kn kc) 33 (0,0)):=by rw [hW2];exact (Go.heap_alloc_old _ _ (by simp)).trans (heap_alloc_new w _)
  have z2:W2.heap[w.heap.size + 1]? = some (.cells (opCells o s) 26 (0,0)):=by rw [hW2];have h1:=heap_alloc_new (w.alloc (.cells (val6 t aA an ac kA kn kc) 33)) (.cells (opCells o s) 26);rw [World.size_alloc] at h1;exact h1
  have z4':=Lib.hid (show Below w.heap.size w W2 by rw [hW2];exact ((Below.refl _ _).alloc (Nat.le_refl _) _).alloc (by simp) _)
  have z5:W2.heap.size = w.heap.size + 1 + 1:=by rw [hW2];simp
  have hR:=Lib.hid (fun (W:World) (hb:Below w.heap.size w W)=>rRight_any W t aA kA an ac kn kc (h.below hb))
  have hF:=Lib.hid (fun (W:World) (hb:Below w.heap.size w W)=>rformed_any W o s (ho.below hb))
  have hA:=Lib.hid (fun (W:World) (hb:Below w.heap.size w W)=>rat_any W t aA kA an ac kn kc (h.below hb) s.pA s.pn s.pc o.path (ho.path.below hb) (Nat.le_trans ho.pnc ho.pcm))
  have hA2:=Lib.hid (fun (W:World) (hb:Below w.heap.size w W)=>rat_any W t aA kA an ac kn kc (h.below hb) s.tA s.tn s.tc o.to_ (ho.to_.below hb) (Nat.le_trans ho.tnc ho.tcm))
  have hWi:=Lib.hid (fun (W:World) (hb:Below w.heap.size w W)=>P4.refWithin_any W s.pA s.tA s.pn s.pc s.tn s.tc o.path o.to_ (its4 (ho.path.below hb)) (its4 (ho.to_.below hb)) (Nat.le_trans ho.pnc ho.pcm) (Nat.le_trans ho.tnc ho.tcm))
  have hop:=Lib.hid (fun (W:World) (hb:Below w.heap.size w W)=>ho.below hb)
  have hlen:=Lib.hid ho.path.1
  have hz1:=Lib.hid z1
  have hz2:=Lib.hid z2
  have hz5:=Lib.hid z5
  have hkr:=ho.kind
  have hbg:=Lib.hid hbig
  obtain ⟨o0,o1,o2,o3,o4,o5,o6,o7,o8,o9,o10⟩:=op_cells z2
  have z1u:=z1
  unfold val6 at z1u
  obtain ⟨p0,p1,p2,p3,p4,p5,pf⟩:=six_cells z1u
  clear h ho z1 z1u z2 z5 hbig
  rw [hW2] at o0 o1 o2 o3 o4 o5 o6 o7 o8 o9 o10 p0 p1 p2 p3 p4 p5 pf
  unfold opCells at hF
  unfold val6 at hR hA hA2
  unfold val6 opCells at hW2 o0 o1 o2 o3 o4 o5 o6 o7 o8 o9 o10 p0 p1 p2 p3 p4 p5
  unfold val6 opCells
  have hbx:=Lib.hid (fun (W:World) (hb:Below W2.heap.size W2 W)=>show W.heap[w.heap.size]? = some (.cells (val6 t aA an ac kA kn kc) 33 (0,0))∧W.heap[w.heap.size + 1]? = some (.cells (opCells o s) 26 (0,0)) from ⟨(hb.block _ (by have:=hz5.out;omega)).trans hz1.out,(hb.block _ (by have:=hz5.out;omega)).trans hz2.out⟩)
  have v1:=Lib.hid hr
  clear hr
  have v2:=Lib.hid hf
  clear hf
  have v3:=Lib.hid hx
  clear hx
  have b1:((o.kind:Int) == 1) = false:=by simp;omega
  have b2:((o.kind:Int) == 2) = false:=by simp;omega
  have b3:((o.kind:Int) == 3) = true:=by simp;omega
  have b6:((o.kind:Int) == 6) = false:=by simp;omega
  have hn1:((s.pn:Int) == 0) = false:=by have:=hlen.out;have:o.path.length ≠ 0:=fun e=>hp (List.eq_nil_of_length_eq_zero e);simp;omega
  have v4:=Lib.hid hw
  clear hk hp hkr hw
  go_enter Try.func19,Try.ntmps19
  go_wp2_with (first
    | (go_at_call 61;go_loud (refine (hR.out _ (by rw [← hW2];exact z4'.out)).mono ?_;rw [← hW2];rintro e w3 ⟨rfl,hb3⟩;rw [v1.out];have B3:=Lib.hid hb3;obtain ⟨r1,r2⟩:=hbx.out w3 hb3;clear o0 o1 o2 o3 o4 o5 o6 o7 o8 o9 o10 p0 p1 p2 p3 p4 p5 pf;obtain ⟨o0,o1,o2,o3,o4,o5,o6,o7,o8,o9,o10⟩:=op_cells r2;unfold val6 at r1;obtain ⟨p0,p1,p2,p3,p4,p5,pf⟩:=six_cells r1;clear hb3 r1 r2))
    | (go_at_call 15;go_loud (refine (hF.out w3 (z4'.out.trans (B3.out.mono z4'.out.size))).mono ?_;rintro e w4 ⟨rfl,hb4⟩;rw [v2.out];have B4:=Lib.hid (B3.out.trans (hb4.mono B3.out.size));obtain ⟨r1,r2⟩:=hbx.out w4 B4.out;clear o0 o1 o2 o3 o4 o5 o6 o7 o8 o9 o10 p0 p1 p2 p3 p4 p5 pf;obtain ⟨o0,o1,o2,o3,o4,o5,o6,o7,o8,o9,o10⟩:=op_cells r2;unfold val6 at r1;obtain ⟨p0,p1,p2,p3,p4,p5,pf⟩:=six_cells r1;clear hb4 r1 r2))
    | (go_at_call 62;go_loud (refine (hA.out w4 (z4'.out.trans (B4.out.mono z4'.out.size))).mono ?_;rintro e w5 ⟨xA,xn,xc,xK,xm,xd,rfl,hx5,hb5⟩;rw [v3.out] at hx5 ⊢;have B5:=Lib.hid (B4.out.trans (hb5.mono B4.out.size));obtain ⟨r1,r2⟩:=hbx.out w5 B5.out;have hs5:w.heap.size + 1 < w5.heap.size:=(by have:=B5.out.size;have:=hz5.out;omega);have hs6:w.heap.size < w5.heap.size:=(by omega);have hq1:w5.heap.size ≠ w.heap.size:=(by omega);have hq2:w5.heap.size ≠ w.heap.size + 1:=(by omega);clear o0 o1 o2 o3 o4 o5 o6 o7 o8 o9 o10 p0 p1 p2 p3 p4 p5 pf;obtain ⟨o0,o1,o2,o3,o4,o5,o6,o7,o8,o9,o10⟩:=op_cells r2;unfold val6 at r1;obtain ⟨p0,p1,p2,p3,p4,p5,pf⟩:=six_cells r1;have uu:=fun O j v (h:w5.cell? ⟨w.heap.size + 1,j,none⟩ = some v)=>(World.cell?_alloc_lt w5 O ⟨w.heap.size + 1,j,none⟩ hs5).trans h;have u0:=fun O=>uu O 0 _ o0;have u1:=fun O=>uu O 1 _ o1;have u2:=fun O=>uu O 2 _ o2;have u3:=fun O=>uu O 3 _ o3;have u10:=fun O=>uu O 10 _ o10;have vv:=fun O j v (h:w5.cell? ⟨w.heap.size,j,none⟩ = some v)=>(World.cell?_alloc_lt w5 O ⟨w.heap.size,j,none⟩ hs6).trans h;have v0':=fun O=>vv O 0 _ p0;have v1':=fun O=>vv O 1 _ p1;have v2':=fun O=>vv O 2 _ p2;have v3':=fun O=>vv O 3 _ p3;have v4':=fun O=>vv O 4 _ p4;have v5':=fun O=>vv O 5 _ p5;have hkl:=hx5.facts.kl;have hkl':=Lib.hid hkl;clear uu vv hb5 r1 r2 hx5 hkl;unfold val6))
    | (go_at_call 64;go_loud (refine (hWi.out _ ((z4'.out.trans (B5.out.mono z4'.out.size)).alloc (by omega) _)).mono ?_;rintro e w6 ⟨rfl,k6,hw6⟩;rw [v4.out];have B6:=Lib.hid (show Below w.heap.size w w6 from by rw [hw6];exact draws ((z4'.out.trans (B5.out.mono z4'.out.size)).alloc (by omega) _) _);have r1:=(show w6.heap[w.heap.size]? = some (.cells (val6 t aA an ac kA kn kc) 33 (0,0)) from by rw [hw6];exact (Go.heap_alloc_old _ _ hs6).trans (hbx.out w5 B5.out).1);have r2:=(show w6.heap[w.heap.size + 1]? = some (.cells (opCells o s) 26 (0,0)) from by rw [hw6];exact (Go.heap_alloc_old _ _ hs5).trans (hbx.out w5 B5.out).2);clear o0 o1 o2 o3 o4 o5 o6 o7 o8 o9 o10 p0 p1 p2 p3 p4 p5 pf;obtain ⟨o0,o1,o2,o3,o4,o5,o6,o7,o8,o9,o10⟩:=op_cells r2;unfold val6 at r1;obtain ⟨p0,p1,p2,p3,p4,p5,pf⟩:=six_cells r1;clear hw6 r1 r2 u0 u1 u2 u3 u10 v0' v1' v2' v3' v4' v5')))
  go_ret
  exact ⟨rfl,B6.out⟩
set_option maxHeartbeats 4000000 in
theorem rv_k3b (w:World) (t:Nd) (aA kA:Option Addr) (an ac kn kc:Nat) (o:Ov) (s:OS) (h:NodeV (Old w) w aA an ac kA kn kc t) (ho:OpIn w o s) (hbig:weighV t≤100000) (hr:rightV ltB t = true) (hf:formedV o = true) (hk:o.kind = 3) (hp:o.path ≠ []) (x:Nd) (hx:atV t o.path = some x) (hw:P4.withinV o.path o.to_ = false) (hy:atV t o.to_ = none) :
    Calls Try.prog 19 #[.agg (val6 t aA an ac kA kn kc),.agg (opCells o s)] w fun e w'=>e = .returned (.int .i64 81)∧Below w.heap.size w w':=by
  obtain ⟨W2,hW2⟩:∃ W2,W2 = (w.alloc (.cells (val6 t aA an ac kA kn kc) 33)).alloc (.cells (opCells o s) 26):=⟨_,rfl⟩
  have z1:W2.heap[w.heap.size]? = some (.cells (val6 t aA an ac kA kn kc) 33 (0,0)):=by rw [hW2];exact (Go.heap_alloc_old _ _ (by simp)).trans (heap_alloc_new w _)
  have z2:W2.heap[w.heap.size + 1]? = some (.cells (opCells o s) 26 (0,0)):=by rw [hW2];have h1:=heap_alloc_new (w.alloc (.cells (val6 t aA an ac kA kn kc) 33)) (.cells (opCells o s) 26);rw [World.size_alloc] at h1;exact h1
  have z4':=Lib.hid (show Below w.heap.size w W2 by rw [hW2];exact ((Below.refl _ _).alloc (Nat.le_refl _) _).alloc (by simp) _)
  have z5:W2.heap.size = w.heap.size + 1 + 1:=by rw [hW2];simp
  have hR:=Lib.hid (fun (W:World) (hb:Below w.heap.size w W)=>rRight_any W t aA kA an ac kn kc (h.below hb))
  have hF:=Lib.hid (fun (W:World) (hb:Below w.heap.size w W)=>rformed_any W o s (ho.below hb))
  have hA:=Lib.hid (fun (W:World) (hb:Below w.heap.size w W)=>rat_any W t aA kA an ac kn kc (h.below hb) s.pA s.pn s.pc o.path (ho.path.below hb) (Nat.le_trans ho.pnc ho.pcm))
  have hA2:=Lib.hid (fun (W:World) (hb:Below w.heap.size w W)=>rat_any W t aA kA an ac kn kc (h.below hb) s.tA s.tn s.tc o.to_ (ho.to_.below hb) (Nat.le_trans ho.tnc ho.tcm))
  have hWi:=Lib.hid (fun (W:World) (hb:Below w.heap.size w W)=>P4.refWithin_any W s.pA s.tA s.pn s.pc s.tn s.tc o.path o.to_ (its4 (ho.path.below hb)) (its4 (ho.to_.below hb)) (Nat.le_trans ho.pnc ho.pcm) (Nat.le_trans ho.tnc ho.tcm))
  have hop:=Lib.hid (fun (W:World) (hb:Below w.heap.size w W)=>ho.below hb)
  have hlen:=Lib.hid ho.path.1
  have hz1:=Lib.hid z1
  have hz2:=Lib.hid z2
  have hz5:=Lib.hid z5
  have hkr:=ho.kind
  have hbg:=Lib.hid hbig
  obtain ⟨o0,o1,o2,o3,o4,o5,o6,o7,o8,o9,o10⟩:=op_cells z2
  have z1u:=z1
  unfold val6 at z1u
  obtain ⟨p0,p1,p2,p3,p4,p5,pf⟩:=six_cells z1u
  clear h ho z1 z1u z2 z5 hbig
  rw [hW2] at o0 o1 o2 o3 o4 o5 o6 o7 o8 o9 o10 p0 p1 p2 p3 p4 p5 pf
  unfold opCells at hF
  unfold val6 at hR hA hA2
  unfold val6 opCells at hW2 o0 o1 o2 o3 o4 o5 o6 o7 o8 o9 o10 p0 p1 p2 p3 p4 p5
  unfold val6 opCells
  have hbx:=Lib.hid (fun (W:World) (hb:Below W2.heap.size W2 W)=>show W.heap[w.heap.size]? = some (.cells (val6 t aA an ac kA kn kc) 33 (0,0))∧W.heap[w.heap.size + 1]? = some (.cells (opCells o s) 26 (0,0)) from ⟨(hb.block _ (by have:=hz5.out;omega)).trans hz1.out,(hb.block _ (by have:=hz5.out;omega)).trans hz2.out⟩)
  have v1:=Lib.hid hr
  clear hr
  have v2:=Lib.hid hf
  clear hf
  have v3:=Lib.hid hx
  clear hx
  have b1:((o.kind:Int) == 1) = false:=by simp;omega
  have b2:((o.kind:Int) == 2) = false:=by simp;omega
  have b3:((o.kind:Int) == 3) = true:=by simp;omega
  have b6:((o.kind:Int) == 6) = false:=by simp;omega
  have hn1:((s.pn:Int) == 0) = false:=by have:=hlen.out;have:o.path.length ≠ 0:=fun e=>hp (List.eq_nil_of_length_eq_zero e);simp;omega
  have v4:=Lib.hid hw
  have v5:=Lib.hid hy
  clear hk hp hkr hw hy
  go_enter Try.func19,Try.ntmps19
  go_wp2_with (first
    | (go_at_call 61;go_loud (refine (hR.out _ (by rw [← hW2];exact z4'.out)).mono ?_;rw [← hW2];rintro e w3 ⟨rfl,hb3⟩;rw [v1.out];have B3:=Lib.hid hb3;obtain ⟨r1,r2⟩:=hbx.out w3 hb3;clear o0 o1 o2 o3 o4 o5 o6 o7 o8 o9 o10 p0 p1 p2 p3 p4 p5 pf;obtain ⟨o0,o1,o2,o3,o4,o5,o6,o7,o8,o9,o10⟩:=op_cells r2;unfold val6 at r1;obtain ⟨p0,p1,p2,p3,p4,p5,pf⟩:=six_cells r1;clear hb3 r1 r2))
    | (go_at_call 15;go_loud (refine (hF.out w3 (z4'.out.trans (B3.out.mono z4'.out.size))).mono ?_;rintro e w4 ⟨rfl,hb4⟩;rw [v2.out];have B4:=Lib.hid (B3.out.trans (hb4.mono B3.out.size));obtain ⟨r1,r2⟩:=hbx.out w4 B4.out;clear o0 o1 o2 o3 o4 o5 o6 o7 o8 o9 o10 p0 p1 p2 p3 p4 p5 pf;obtain ⟨o0,o1,o2,o3,o4,o5,o6,o7,o8,o9,o10⟩:=op_cells r2;unfold val6 at r1;obtain ⟨p0,p1,p2,p3,p4,p5,pf⟩:=six_cells r1;clear hb4 r1 r2))
    | (go_at_call 62;go_loud (refine (hA2.out w6 B6.out).mono ?_;rintro e w7 ⟨yA,yn,yc,yK,ym,yd,rfl,hy7,hb7⟩;rw [v5.out] at hy7 ⊢;have B7:=Lib.hid (B6.out.trans (hb7.mono B6.out.size));have hs7:w.heap.size + 1 < w7.heap.size:=(by have:=(World.block_lt_of_cell? _ _ o0);have:=hb7.size;dsimp only at *;omega);have o2':=(hb7.cell (p:=⟨w.heap.size + 1,2,none⟩) (World.block_lt_of_cell? _ _ o2)).trans o2;have u2:=fun O=>(World.cell?_alloc_lt w7 O ⟨w.heap.size + 1,2,none⟩ hs7).trans o2';have hkl:=hy7.facts.kl;have hkl':=Lib.hid hkl;clear hb7 hy7 hkl;unfold val6))
    | (go_at_call 62;go_loud (refine (hA.out w4 (z4'.out.trans (B4.out.mono z4'.out.size))).mono ?_;rintro e w5 ⟨xA,xn,xc,xK,xm,xd,rfl,hx5,hb5⟩;rw [v3.out] at hx5 ⊢;have B5:=Lib.hid (B4.out.trans (hb5.mono B4.out.size));obtain ⟨r1,r2⟩:=hbx.out w5 B5.out;have hs5:w.heap.size + 1 < w5.heap.size:=(by have:=B5.out.size;have:=hz5.out;omega);have hs6:w.heap.size < w5.heap.size:=(by omega);have hq1:w5.heap.size ≠ w.heap.size:=(by omega);have hq2:w5.heap.size ≠ w.heap.size + 1:=(by omega);clear o0 o1 o2 o3 o4 o5 o6 o7 o8 o9 o10 p0 p1 p2 p3 p4 p5 pf;obtain ⟨o0,o1,o2,o3,o4,o5,o6,o7,o8,o9,o10⟩:=op_cells r2;unfold val6 at r1;obtain ⟨p0,p1,p2,p3,p4,p5,pf⟩:=six_cells r1;have uu:=fun O j v (h:w5.cell? ⟨w.heap.size + 1,j,none⟩ = some v)=>(World.cell?_alloc_lt w5 O ⟨w.heap.size + 1,j,none⟩ hs5).trans h;have u0:=fun O=>uu O 0 _ o0;have u1:=fun O=>uu O 1 _ o1;have u2:=fun O=>uu O 2 _ o2;have u3:=fun O=>uu O 3 _ o3;have u10:=fun O=>uu O 10 _ o10;have vv:=fun O j v (h:w5.cell? ⟨w.heap.size,j,none⟩ = some v)=>(World.cell?_alloc_lt w5 O ⟨w.heap.size,j,none⟩ hs6).trans h;have v0':=fun O=>vv O 0 _ p0;have v1':=fun O=>vv O 1 _ p1;have v2':=fun O=>vv O 2 _ p2;have v3':=fun O=>vv O 3 _ p3;have v4':=fun O=>vv O 4 _ p4;have v5':=fun O=>vv O 5 _ p5;have hkl:=hx5.facts.kl;have hkl':=Lib.hid hkl;clear uu vv hb5 r1 r2 hx5 hkl;unfold val6))
    | (go_at_call 64;go_loud (refine (hWi.out _ ((z4'.out.trans (B5.out.mono z4'.out.size)).alloc (by omega) _)).mono ?_;rintro e w6 ⟨rfl,k6,hw6⟩;rw [v4.out];have B6:=Lib.hid (show Below w.heap.size w w6 from by rw [hw6];exact draws ((z4'.out.trans (B5.out.mono z4'.out.size)).alloc (by omega) _) _);have r1:=(show w6.heap[w.heap.size]? = some (.cells (val6 t aA an ac kA kn kc) 33 (0,0)) from by rw [hw6];exact (Go.heap_alloc_old _ _ hs6).trans (hbx.out w5 B5.out).1);have r2:=(show w6.heap[w.heap.size + 1]? = some (.cells (opCells o s) 26 (0,0)) from by rw [hw6];exact (Go.heap_alloc_old _ _ hs5).trans (hbx.out w5 B5.out).2);clear o0 o1 o2 o3 o4 o5 o6 o7 o8 o9 o10 p0 p1 p2 p3 p4 p5 pf;obtain ⟨o0,o1,o2,o3,o4,o5,o6,o7,o8,o9,o10⟩:=op_cells r2;unfold val6 at r1;obtain ⟨p0,p1,p2,p3,p4,p5,pf⟩:=six_cells r1;clear hw6 r1 r2 u0 u1 u2 u3 u10 v0' v1' v2' v3' v4' v5')))
  go_ret
  exact ⟨rfl,B7.out.alloc B7.out.size _⟩
set_option maxHeartbeats 4000000 in
theorem rv_k3c (w:World) (t:Nd) (aA kA:Option Addr) (an ac kn kc:Nat) (o:Ov) (s:OS) (h:NodeV (Old w) w aA an ac kA kn kc t) (ho:OpIn w o s) (hbig:weighV t≤100000) (hr:rightV ltB t = true) (hf:formedV o = true) (hk:o.kind = 3) (hp:o.path ≠ []) (x:Nd) (hx:atV t o.path = some x) (hw:P4.withinV o.path o.to_ = false) (y:Nd) (hy:atV t o.to_ = some y) :
    Calls Try.prog 19 #[.agg (val6 t aA an ac kA kn kc),.agg (opCells o s)] w fun e w'=>e = .returned (.int .i64 (gapE y o.at_))∧Below w.heap.size w w':=by
  obtain ⟨W2,hW2⟩:∃ W2,W2 = (w.alloc (.cells (val6 t aA an ac kA kn kc) 33)).alloc (.cells (opCells o s) 26):=⟨_,rfl⟩
  have z1:W2.heap[w.heap.size]? = some (.cells (val6 t aA an ac kA kn kc) 33 (0,0)):=by rw [hW2];exact (Go.heap_alloc_old _ _ (by simp)).trans (heap_alloc_new w _)
  have z2:W2.heap[w.heap.size + 1]? = some (.cells (opCells o s) 26 (0,0)):=by rw [hW2];have h1:=heap_alloc_new (w.alloc (.cells (val6 t aA an ac kA kn kc) 33)) (.cells (opCells o s) 26);rw [World.size_alloc] at h1;exact h1
  have z4':=Lib.hid (show Below w.heap.size w W2 by rw [hW2];exact ((Below.refl _ _).alloc (Nat.le_refl _) _).alloc (by simp) _)
  have z5:W2.heap.size = w.heap.size + 1 + 1:=by rw [hW2];simp
  have hR:=Lib.hid (fun (W:World) (hb:Below w.heap.size w W)=>rRight_any W t aA kA an ac kn kc (h.below hb))
  have hF:=Lib.hid (fun (W:World) (hb:Below w.heap.size w W)=>rformed_any W o s (ho.below hb))
  have hA:=Lib.hid (fun (W:World) (hb:Below w.heap.size w W)=>rat_any W t aA kA an ac kn kc (h.below hb) s.pA s.pn s.pc o.path (ho.path.below hb) (Nat.le_trans ho.pnc ho.pcm))
  have hA2:=Lib.hid (fun (W:World) (hb:Below w.heap.size w W)=>rat_any W t aA kA an ac kn kc (h.below hb) s.tA s.tn s.tc o.to_ (ho.to_.below hb) (Nat.le_trans ho.tnc ho.tcm))
  have hWi:=Lib.hid (fun (W:World) (hb:Below w.heap.size w W)=>P4.refWithin_any W s.pA s.tA s.pn s.pc s.tn s.tc o.path o.to_ (its4 (ho.path.below hb)) (its4 (ho.to_.below hb)) (Nat.le_trans ho.pnc ho.pcm) (Nat.le_trans ho.tnc ho.tcm))
  have hop:=Lib.hid (fun (W:World) (hb:Below w.heap.size w W)=>ho.below hb)
  have hlen:=Lib.hid ho.path.1
  have hz1:=Lib.hid z1
  have hz2:=Lib.hid z2
  have hz5:=Lib.hid z5
  have hkr:=ho.kind
  have hbg:=Lib.hid hbig
  obtain ⟨o0,o1,o2,o3,o4,o5,o6,o7,o8,o9,o10⟩:=op_cells z2
  have z1u:=z1
  unfold val6 at z1u
  obtain ⟨p0,p1,p2,p3,p4,p5,pf⟩:=six_cells z1u
  clear h ho z1 z1u z2 z5 hbig
  rw [hW2] at o0 o1 o2 o3 o4 o5 o6 o7 o8 o9 o10 p0 p1 p2 p3 p4 p5 pf
  unfold opCells at hF
  unfold val6 at hR hA hA2
  unfold val6 opCells at hW2 o0 o1 o2 o3 o4 o5 o6 o7 o8 o9 o10 p0 p1 p2 p3 p4 p5
  unfold val6 opCells
  have hbx:=Lib.hid (fun (W:World) (hb:Below W2.heap.size W2 W)=>show W.heap[w.heap.size]? = some (.cells (val6 t aA an ac kA kn kc) 33 (0,0))∧W.heap[w.heap.size + 1]? = some (.cells (opCells o s) 26 (0,0)) from ⟨(hb.block _ (by have:=hz5.out;omega)).trans hz1.out,(hb.block _ (by have:=hz5.out;omega)).trans hz2.out⟩)
  have v1:=Lib.hid hr
  clear hr
  have v2:=Lib.hid hf
  clear hf
  have v3:=Lib.hid hx
  clear hx
  have b1:((o.kind:Int) == 1) = false:=by simp;omega
  have b2:((o.kind:Int) == 2) = false:=by simp;omega
  have b3:((o.kind:Int) == 3) = true:=by simp;omega
  have b6:((o.kind:Int) == 6) = false:=by simp;omega
  have hn1:((s.pn:Int) == 0) = false:=by have:=hlen.out;have:o.path.length ≠ 0:=fun e=>hp (List.eq_nil_of_length_eq_zero e);simp;omega
  have v4:=Lib.hid hw
  have v5:=Lib.hid hy
  clear hk hp hkr hw hy
  go_enter Try.func19,Try.ntmps19
  go_wp2_with (first
    | (go_at_call 61;go_loud (refine (hR.out _ (by rw [← hW2];exact z4'.out)).mono ?_;rw [← hW2];rintro e w3 ⟨rfl,hb3⟩;rw [v1.out];have B3:=Lib.hid hb3;obtain ⟨r1,r2⟩:=hbx.out w3 hb3;clear o0 o1 o2 o3 o4 o5 o6 o7 o8 o9 o10 p0 p1 p2 p3 p4 p5 pf;obtain ⟨o0,o1,o2,o3,o4,o5,o6,o7,o8,o9,o10⟩:=op_cells r2;unfold val6 at r1;obtain ⟨p0,p1,p2,p3,p4,p5,pf⟩:=six_cells r1;clear hb3 r1 r2))
    | (go_at_call 15;go_loud (refine (hF.out w3 (z4'.out.trans (B3.out.mono z4'.out.size))).mono ?_;rintro e w4 ⟨rfl,hb4⟩;rw [v2.out];have B4:=Lib.hid (B3.out.trans (hb4.mono B3.out.size));obtain ⟨r1,r2⟩:=hbx.out w4 B4.out;clear o0 o1 o2 o3 o4 o5 o6 o7 o8 o9 o10 p0 p1 p2 p3 p4 p5 pf;obtain ⟨o0,o1,o2,o3,o4,o5,o6,o7,o8,o9,o10⟩:=op_cells r2;unfold val6 at r1;obtain ⟨p0,p1,p2,p3,p4,p5,pf⟩:=six_cells r1;clear hb4 r1 r2))
    | (go_at_call 62;go_loud (refine (hA2.out w6 B6.out).mono ?_;rintro e w7 ⟨yA,yn,yc,yK,ym,yd,rfl,hy7,hb7⟩;rw [v5.out] at hy7 ⊢;have B7:=Lib.hid (B6.out.trans (hb7.mono B6.out.size));have hs7:w.heap.size + 1 < w7.heap.size:=(by have:=(World.block_lt_of_cell? _ _ o0);have:=hb7.size;dsimp only at *;omega);have o2':=(hb7.cell (p:=⟨w.heap.size + 1,2,none⟩) (World.block_lt_of_cell? _ _ o2)).trans o2;have u2:=fun O=>(World.cell?_alloc_lt w7 O ⟨w.heap.size + 1,2,none⟩ hs7).trans o2';have hkl:=hy7.facts.kl;have hkl':=Lib.hid hkl;clear hb7 hy7 hkl;unfold val6))
    | (go_at_call 62;go_loud (refine (hA.out w4 (z4'.out.trans (B4.out.mono z4'.out.size))).mono ?_;rintro e w5 ⟨xA,xn,xc,xK,xm,xd,rfl,hx5,hb5⟩;rw [v3.out] at hx5 ⊢;have B5:=Lib.hid (B4.out.trans (hb5.mono B4.out.size));obtain ⟨r1,r2⟩:=hbx.out w5 B5.out;have hs5:w.heap.size + 1 < w5.heap.size:=(by have:=B5.out.size;have:=hz5.out;omega);have hs6:w.heap.size < w5.heap.size:=(by omega);have hq1:w5.heap.size ≠ w.heap.size:=(by omega);have hq2:w5.heap.size ≠ w.heap.size + 1:=(by omega);clear o0 o1 o2 o3 o4 o5 o6 o7 o8 o9 o10 p0 p1 p2 p3 p4 p5 pf;obtain ⟨o0,o1,o2,o3,o4,o5,o6,o7,o8,o9,o10⟩:=op_cells r2;unfold val6 at r1;obtain ⟨p0,p1,p2,p3,p4,p5,pf⟩:=six_cells r1;have uu:=fun O j v (h:w5.cell? ⟨w.heap.size + 1,j,none⟩ = some v)=>(World.cell?_alloc_lt w5 O ⟨w.heap.size + 1,j,none⟩ hs5).trans h;have u0:=fun O=>uu O 0 _ o0;have u1:=fun O=>uu O 1 _ o1;have u2:=fun O=>uu O 2 _ o2;have u3:=fun O=>uu O 3 _ o3;have u10:=fun O=>uu O 10 _ o10;have vv:=fun O j v (h:w5.cell? ⟨w.heap.size,j,none⟩ = some v)=>(World.cell?_alloc_lt w5 O ⟨w.heap.size,j,none⟩ hs6).trans h;have v0':=fun O=>vv O 0 _ p0;have v1':=fun O=>vv O 1 _ p1;have v2':=fun O=>vv O 2 _ p2;have v3':=fun O=>vv O 3 _ p3;have v4':=fun O=>vv O 4 _ p4;have v5':=fun O=>vv O 5 _ p5;have hkl:=hx5.facts.kl;have hkl':=Lib.hid hkl;clear uu vv hb5 r1 r2 hx5 hkl;unfold val6))
    | (go_at_call 64;go_loud (refine (hWi.out _ ((z4'.out.trans (B5.out.mono z4'.out.size)).alloc (by omega) _)).mono ?_;rintro e w6 ⟨rfl,k6,hw6⟩;rw [v4.out];have B6:=Lib.hid (show Below w.heap.size w w6 from by rw [hw6];exact draws ((z4'.out.trans (B5.out.mono z4'.out.size)).alloc (by omega) _) _);have r1:=(show w6.heap[w.heap.size]? = some (.cells (val6 t aA an ac kA kn kc) 33 (0,0)) from by rw [hw6];exact (Go.heap_alloc_old _ _ hs6).trans (hbx.out w5 B5.out).1);have r2:=(show w6.heap[w.heap.size + 1]? = some (.cells (opCells o s) 26 (0,0)) from by rw [hw6];exact (Go.heap_alloc_old _ _ hs5).trans (hbx.out w5 B5.out).2);clear o0 o1 o2 o3 o4 o5 o6 o7 o8 o9 o10 p0 p1 p2 p3 p4 p5 pf;obtain ⟨o0,o1,o2,o3,o4,o5,o6,o7,o8,o9,o10⟩:=op_cells r2;unfold val6 at r1;obtain ⟨p0,p1,p2,p3,p4,p5,pf⟩:=six_cells r1;clear hw6 r1 r2 u0 u1 u2 u3 u10 v0' v1' v2' v3' v4' v5'))
    | (go_at_call 63;go_loud (refine (rinto_any _ y yA yK yn yc ym yd hkl'.out o.at_).mono ?_;rintro e w8 ⟨rfl,hb8⟩;have B8:=Lib.hid ((B7.out.alloc B7.out.size _).trans (hb8.mono (by rw [World.size_alloc];have:=B7.out.size;omega)));clear hb8)))
  go_ret
  exact ⟨rfl,B8.out⟩
set_option maxHeartbeats 4000000 in
theorem rv_k6a (w:World) (t:Nd) (aA kA:Option Addr) (an ac kn kc:Nat) (o:Ov) (s:OS) (h:NodeV (Old w) w aA an ac kA kn kc t) (ho:OpIn w o s) (hbig:weighV t≤100000) (hr:rightV ltB t = true) (hf:formedV o = true) (hk:o.kind = 6) (x:Nd) (hx:atV t o.path = some x) (hl:x.leaf = false) :
    Calls Try.prog 19 #[.agg (val6 t aA an ac kA kn kc),.agg (opCells o s)] w fun e w'=>e = .returned (.int .i64 83)∧Below w.heap.size w w':=by
  obtain ⟨W2,hW2⟩:∃ W2,W2 = (w.alloc (.cells (val6 t aA an ac kA kn kc) 33)).alloc (.cells (opCells o s) 26):=⟨_,rfl⟩
  have z1:W2.heap[w.heap.size]? = some (.cells (val6 t aA an ac kA kn kc) 33 (0,0)):=by rw [hW2];exact (Go.heap_alloc_old _ _ (by simp)).trans (heap_alloc_new w _)
  have z2:W2.heap[w.heap.size + 1]? = some (.cells (opCells o s) 26 (0,0)):=by rw [hW2];have h1:=heap_alloc_new (w.alloc (.cells (val6 t aA an ac kA kn kc) 33)) (.cells (opCells o s) 26);rw [World.size_alloc] at h1;exact h1
  have z4':=Lib.hid (show Below w.heap.size w W2 by rw [hW2];exact ((Below.refl _ _).alloc (Nat.le_refl _) _).alloc (by simp) _)
  have z5:W2.heap.size = w.heap.size + 1 + 1:=by rw [hW2];simp
  have hR:=Lib.hid (fun (W:World) (hb:Below w.heap.size w W)=>rRight_any W t aA kA an ac kn kc (h.below hb))
  have hF:=Lib.hid (fun (W:World) (hb:Below w.heap.size w W)=>rformed_any W o s (ho.below hb))
  have hA:=Lib.hid (fun (W:World) (hb:Below w.heap.size w W)=>rat_any W t aA kA an ac kn kc (h.below hb) s.pA s.pn s.pc o.path (ho.path.below hb) (Nat.le_trans ho.pnc ho.pcm))
  have hA2:=Lib.hid (fun (W:World) (hb:Below w.heap.size w W)=>rat_any W t aA kA an ac kn kc (h.below hb) s.tA s.tn s.tc o.to_ (ho.to_.below hb) (Nat.le_trans ho.tnc ho.tcm))
  have hWi:=Lib.hid (fun (W:World) (hb:Below w.heap.size w W)=>P4.refWithin_any W s.pA s.tA s.pn s.pc s.tn s.tc o.path o.to_ (its4 (ho.path.below hb)) (its4 (ho.to_.below hb)) (Nat.le_trans ho.pnc ho.pcm) (Nat.le_trans ho.tnc ho.tcm))
  have hop:=Lib.hid (fun (W:World) (hb:Below w.heap.size w W)=>ho.below hb)
  have hlen:=Lib.hid ho.path.1
  have hz1:=Lib.hid z1
  have hz2:=Lib.hid z2
  have hz5:=Lib.hid z5
  have hkr:=ho.kind
  have hbg:=Lib.hid hbig
  obtain ⟨o0,o1,o2,o3,o4,o5,o6,o7,o8,o9,o10⟩:=op_cells z2
  have z1u:=z1
  unfold val6 at z1u
  obtain ⟨p0,p1,p2,p3,p4,p5,pf⟩:=six_cells z1u
  clear h ho z1 z1u z2 z5 hbig
  rw [hW2] at o0 o1 o2 o3 o4 o5 o6 o7 o8 o9 o10 p0 p1 p2 p3 p4 p5 pf
  unfold opCells at hF
  unfold val6 at hR hA hA2
  unfold val6 opCells at hW2 o0 o1 o2 o3 o4 o5 o6 o7 o8 o9 o10 p0 p1 p2 p3 p4 p5
  unfold val6 opCells
  have hbx:=Lib.hid (fun (W:World) (hb:Below W2.heap.size W2 W)=>show W.heap[w.heap.size]? = some (.cells (val6 t aA an ac kA kn kc) 33 (0,0))∧W.heap[w.heap.size + 1]? = some (.cells (opCells o s) 26 (0,0)) from ⟨(hb.block _ (by have:=hz5.out;omega)).trans hz1.out,(hb.block _ (by have:=hz5.out;omega)).trans hz2.out⟩)
  have v1:=Lib.hid hr
  clear hr
  have v2:=Lib.hid hf
  clear hf
  have v3:=Lib.hid hx
  clear hx
  have b1:((o.kind:Int) == 1) = false:=by simp;omega
  have b2:((o.kind:Int) == 2) = false:=by simp;omega
  have b3:((o.kind:Int) == 3) = false:=by simp;omega
  have b6:((o.kind:Int) == 6) = true:=by simp;omega
  clear hk hkr
  go_enter Try.func19,Try.ntmps19
  go_wp2_with (first
    | (go_at_call 61;go_loud (refine (hR.out _ (by rw [← hW2];exact z4'.out)).mono ?_;rw [← hW2];rintro e w3 ⟨rfl,hb3⟩;rw [v1.out];have B3:=Lib.hid hb3;obtain ⟨r1,r2⟩:=hbx.out w3 hb3;clear o0 o1 o2 o3 o4 o5 o6 o7 o8 o9 o10 p0 p1 p2 p3 p4 p5 pf;obtain ⟨o0,o1,o2,o3,o4,o5,o6,o7,o8,o9,o10⟩:=op_cells r2;unfold val6 at r1;obtain ⟨p0,p1,p2,p3,p4,p5,pf⟩:=six_cells r1;clear hb3 r1 r2))
    | (go_at_call 15;go_loud (refine (hF.out w3 (z4'.out.trans (B3.out.mono z4'.out.size))).mono ?_;rintro e w4 ⟨rfl,hb4⟩;rw [v2.out];have B4:=Lib.hid (B3.out.trans (hb4.mono B3.out.size));obtain ⟨r1,r2⟩:=hbx.out w4 B4.out;clear o0 o1 o2 o3 o4 o5 o6 o7 o8 o9 o10 p0 p1 p2 p3 p4 p5 pf;obtain ⟨o0,o1,o2,o3,o4,o5,o6,o7,o8,o9,o10⟩:=op_cells r2;unfold val6 at r1;obtain ⟨p0,p1,p2,p3,p4,p5,pf⟩:=six_cells r1;clear hb4 r1 r2))
    | (go_at_call 62;go_loud (refine (hA.out w4 (z4'.out.trans (B4.out.mono z4'.out.size))).mono ?_;rintro e w5 ⟨xA,xn,xc,xK,xm,xd,rfl,hx5,hb5⟩;rw [v3.out] at hx5 ⊢;have B5:=Lib.hid (B4.out.trans (hb5.mono B4.out.size));obtain ⟨r1,r2⟩:=hbx.out w5 B5.out;have hs5:w.heap.size + 1 < w5.heap.size:=(by have:=B5.out.size;have:=hz5.out;omega);have hs6:w.heap.size < w5.heap.size:=(by omega);have hq1:w5.heap.size ≠ w.heap.size:=(by omega);have hq2:w5.heap.size ≠ w.heap.size + 1:=(by omega);clear o0 o1 o2 o3 o4 o5 o6 o7 o8 o9 o10 p0 p1 p2 p3 p4 p5 pf;obtain ⟨o0,o1,o2,o3,o4,o5,o6,o7,o8,o9,o10⟩:=op_cells r2;unfold val6 at r1;obtain ⟨p0,p1,p2,p3,p4,p5,pf⟩:=six_cells r1;have uu:=fun O j v (h:w5.cell? ⟨w.heap.size + 1,j,none⟩ = some v)=>(World.cell?_alloc_lt w5 O ⟨w.heap.size + 1,j,none⟩ hs5).trans h;have u0:=fun O=>uu O 0 _ o0;have u1:=fun O=>uu O 1 _ o1;have u2:=fun O=>uu O 2 _ o2;have u3:=fun O=>uu O 3 _ o3;have u10:=fun O=>uu O 10 _ o10;have vv:=fun O j v (h:w5.cell? ⟨w.heap.size,j,none⟩ = some v)=>(World.cell?_alloc_lt w5 O ⟨w.heap.size,j,none⟩ hs6).trans h;have v0':=fun O=>vv O 0 _ p0;have v1':=fun O=>vv O 1 _ p1;have v2':=fun O=>vv O 2 _ p2;have v3':=fun O=>vv O 3 _ p3;have v4':=fun O=>vv O 4 _ p4;have v5':=fun O=>vv O 5 _ p5;have hkl:=hx5.facts.kl;have hkl':=Lib.hid hkl;clear uu vv hb5 r1 r2 hx5 hkl;unfold val6)))
  go_ret
  exact ⟨rfl,(z4'.out.trans (B5.out.mono z4'.out.size)).alloc (by omega) _⟩
set_option maxHeartbeats 4000000 in
theorem rv_k6b (w:World) (t:Nd) (aA kA:Option Addr) (an ac kn kc:Nat) (o:Ov) (s:OS) (h:NodeV (Old w) w aA an ac kA kn kc t) (ho:OpIn w o s) (hbig:weighV t≤100000) (hr:rightV ltB t = true) (hf:formedV o = true) (hk:o.kind = 6) (x:Nd) (hx:atV t o.path = some x) (hl:x.leaf = true) (hrp:P5.rightV o.pieces = true) (hft:Ltx.extent (pcs o.pieces)≤x.text.length) :
    Calls Try.prog 19 #[.agg (val6 t aA an ac kA kn kc),.agg (opCells o s)] w fun e w'=>e = .returned (.int .i64 0)∧Below w.heap.size w w':=by
  obtain ⟨W2,hW2⟩:∃ W2,W2 = (w.alloc (.cells (val6 t aA an ac kA kn kc) 33)).alloc (.cells (opCells o s) 26):=⟨_,rfl⟩
  have z1:W2.heap[w.heap.size]? = some (.cells (val6 t aA an ac kA kn kc) 33 (0,0)):=by rw [hW2];exact (Go.heap_alloc_old _ _ (by simp)).trans (heap_alloc_new w _)
  have z2:W2.heap[w.heap.size + 1]? = some (.cells (opCells o s) 26 (0,0)):=by rw [hW2];have h1:=heap_alloc_new (w.alloc (.cells (val6 t aA an ac kA kn kc) 33)) (.cells (opCells o s) 26);rw [World.size_alloc] at h1;exact h1
  have z4':=Lib.hid (show Below w.heap.size w W2 by rw [hW2];exact ((Below.refl _ _).alloc (Nat.le_refl _) _).alloc (by simp) _)
  have z5:W2.heap.size = w.heap.size + 1 + 1:=by rw [hW2];simp
  have hR:=Lib.hid (fun (W:World) (hb:Below w.heap.size w W)=>rRight_any W t aA kA an ac kn kc (h.below hb))
  have hF:=Lib.hid (fun (W:World) (hb:Below w.heap.size w W)=>rformed_any W o s (ho.below hb))
  have hA:=Lib.hid (fun (W:World) (hb:Below w.heap.size w W)=>rat_any W t aA kA an ac kn kc (h.below hb) s.pA s.pn s.pc o.path (ho.path.below hb) (Nat.le_trans ho.pnc ho.pcm))
  have hA2:=Lib.hid (fun (W:World) (hb:Below w.heap.size w W)=>rat_any W t aA kA an ac kn kc (h.below hb) s.tA s.tn s.tc o.to_ (ho.to_.below hb) (Nat.le_trans ho.tnc ho.tcm))
  have hWi:=Lib.hid (fun (W:World) (hb:Below w.heap.size w W)=>P4.refWithin_any W s.pA s.tA s.pn s.pc s.tn s.tc o.path o.to_ (its4 (ho.path.below hb)) (its4 (ho.to_.below hb)) (Nat.le_trans ho.pnc ho.pcm) (Nat.le_trans ho.tnc ho.tcm))
  have hop:=Lib.hid (fun (W:World) (hb:Below w.heap.size w W)=>ho.below hb)
  have hlen:=Lib.hid ho.path.1
  have hz1:=Lib.hid z1
  have hz2:=Lib.hid z2
  have hz5:=Lib.hid z5
  have hkr:=ho.kind
  have hbg:=Lib.hid hbig
  obtain ⟨o0,o1,o2,o3,o4,o5,o6,o7,o8,o9,o10⟩:=op_cells z2
  have z1u:=z1
  unfold val6 at z1u
  obtain ⟨p0,p1,p2,p3,p4,p5,pf⟩:=six_cells z1u
  clear h ho z1 z1u z2 z5 hbig
  rw [hW2] at o0 o1 o2 o3 o4 o5 o6 o7 o8 o9 o10 p0 p1 p2 p3 p4 p5 pf
  unfold opCells at hF
  unfold val6 at hR hA hA2
  unfold val6 opCells at hW2 o0 o1 o2 o3 o4 o5 o6 o7 o8 o9 o10 p0 p1 p2 p3 p4 p5
  unfold val6 opCells
  have hbx:=Lib.hid (fun (W:World) (hb:Below W2.heap.size W2 W)=>show W.heap[w.heap.size]? = some (.cells (val6 t aA an ac kA kn kc) 33 (0,0))∧W.heap[w.heap.size + 1]? = some (.cells (opCells o s) 26 (0,0)) from ⟨(hb.block _ (by have:=hz5.out;omega)).trans hz1.out,(hb.block _ (by have:=hz5.out;omega)).trans hz2.out⟩)
  have hpr:=pcs_right hrp
  have hxl:=at_text hx (show weighV t≤1000000 by have:=hbg.out;omega)
  have hap:=Lib.hid (fun (W:World) (hb:Below w.heap.size w W)=>P5.rapply_ok W x.text s.qA s.qn s.qc (pcs o.pieces) (by rw [hpr];exact (hop.out W hb).pieces) (Nat.le_trans (hop.out W hb).qnc (hop.out W hb).qcm) hxl (by rw [hpr];exact hrp) hft)
  clear hpr hrp hft hxl
  have v1:=Lib.hid hr
  clear hr
  have v2:=Lib.hid hf
  clear hf
  have v3:=Lib.hid hx
  clear hx
  have b1:((o.kind:Int) == 1) = false:=by simp;omega
  have b2:((o.kind:Int) == 2) = false:=by simp;omega
  have b3:((o.kind:Int) == 3) = false:=by simp;omega
  have b6:((o.kind:Int) == 6) = true:=by simp;omega
  clear hk hkr
  go_enter Try.func19,Try.ntmps19
  go_wp2_with (first
    | (go_at_call 61;go_loud (refine (hR.out _ (by rw [← hW2];exact z4'.out)).mono ?_;rw [← hW2];rintro e w3 ⟨rfl,hb3⟩;rw [v1.out];have B3:=Lib.hid hb3;obtain ⟨r1,r2⟩:=hbx.out w3 hb3;clear o0 o1 o2 o3 o4 o5 o6 o7 o8 o9 o10 p0 p1 p2 p3 p4 p5 pf;obtain ⟨o0,o1,o2,o3,o4,o5,o6,o7,o8,o9,o10⟩:=op_cells r2;unfold val6 at r1;obtain ⟨p0,p1,p2,p3,p4,p5,pf⟩:=six_cells r1;clear hb3 r1 r2))
    | (go_at_call 15;go_loud (refine (hF.out w3 (z4'.out.trans (B3.out.mono z4'.out.size))).mono ?_;rintro e w4 ⟨rfl,hb4⟩;rw [v2.out];have B4:=Lib.hid (B3.out.trans (hb4.mono B3.out.size));obtain ⟨r1,r2⟩:=hbx.out w4 B4.out;clear o0 o1 o2 o3 o4 o5 o6 o7 o8 o9 o10 p0 p1 p2 p3 p4 p5 pf;obtain ⟨o0,o1,o2,o3,o4,o5,o6,o7,o8,o9,o10⟩:=op_cells r2;unfold val6 at r1;obtain ⟨p0,p1,p2,p3,p4,p5,pf⟩:=six_cells r1;clear hb4 r1 r2))
    | (go_at_call 62;go_loud (refine (hA.out w4 (z4'.out.trans (B4.out.mono z4'.out.size))).mono ?_;rintro e w5 ⟨xA,xn,xc,xK,xm,xd,rfl,hx5,hb5⟩;rw [v3.out] at hx5 ⊢;have B5:=Lib.hid (B4.out.trans (hb5.mono B4.out.size));obtain ⟨r1,r2⟩:=hbx.out w5 B5.out;have hs5:w.heap.size + 1 < w5.heap.size:=(by have:=B5.out.size;have:=hz5.out;omega);have hs6:w.heap.size < w5.heap.size:=(by omega);have hq1:w5.heap.size ≠ w.heap.size:=(by omega);have hq2:w5.heap.size ≠ w.heap.size + 1:=(by omega);clear o0 o1 o2 o3 o4 o5 o6 o7 o8 o9 o10 p0 p1 p2 p3 p4 p5 pf;obtain ⟨o0,o1,o2,o3,o4,o5,o6,o7,o8,o9,o10⟩:=op_cells r2;unfold val6 at r1;obtain ⟨p0,p1,p2,p3,p4,p5,pf⟩:=six_cells r1;have uu:=fun O j v (h:w5.cell? ⟨w.heap.size + 1,j,none⟩ = some v)=>(World.cell?_alloc_lt w5 O ⟨w.heap.size + 1,j,none⟩ hs5).trans h;have u0:=fun O=>uu O 0 _ o0;have u1:=fun O=>uu O 1 _ o1;have u2:=fun O=>uu O 2 _ o2;have u3:=fun O=>uu O 3 _ o3;have u10:=fun O=>uu O 10 _ o10;have vv:=fun O j v (h:w5.cell? ⟨w.heap.size,j,none⟩ = some v)=>(World.cell?_alloc_lt w5 O ⟨w.heap.size,j,none⟩ hs6).trans h;have v0':=fun O=>vv O 0 _ p0;have v1':=fun O=>vv O 1 _ p1;have v2':=fun O=>vv O 2 _ p2;have v3':=fun O=>vv O 3 _ p3;have v4':=fun O=>vv O 4 _ p4;have v5':=fun O=>vv O 5 _ p5;have hkl:=hx5.facts.kl;have hkl':=Lib.hid hkl;clear uu vv hb5 r1 r2 hx5 hkl;unfold val6))
    | (go_at_call 65;go_loud (refine (hap.out _ ((z4'.out.trans (B5.out.mono z4'.out.size)).alloc (by omega) _)).mono ?_;rintro e w6 ⟨rfl,hb6⟩;have B6:=Lib.hid (((z4'.out.trans (B5.out.mono z4'.out.size)).alloc (by omega) _).trans (hb6.mono (by rw [World.size_alloc];omega)));clear hb6)))
  go_ret
  exact ⟨rfl,B6.out⟩
set_option maxHeartbeats 4000000 in
theorem rv_k6c (w:World) (t:Nd) (aA kA:Option Addr) (an ac kn kc:Nat) (o:Ov) (s:OS) (h:NodeV (Old w) w aA an ac kA kn kc t) (ho:OpIn w o s) (hbig:weighV t≤100000) (hr:rightV ltB t = true) (hf:formedV o = true) (hk:o.kind = 6) (x:Nd) (hx:atV t o.path = some x) (hl:x.leaf = true) (hrp:P5.rightV o.pieces = true) (hft:x.text.length < Ltx.extent (pcs o.pieces)) :
    Calls Try.prog 19 #[.agg (val6 t aA an ac kA kn kc),.agg (opCells o s)] w fun e w'=>e = .returned (.int .i64 50)∧Below w.heap.size w w':=by
  obtain ⟨W2,hW2⟩:∃ W2,W2 = (w.alloc (.cells (val6 t aA an ac kA kn kc) 33)).alloc (.cells (opCells o s) 26):=⟨_,rfl⟩
  have z1:W2.heap[w.heap.size]? = some (.cells (val6 t aA an ac kA kn kc) 33 (0,0)):=by rw [hW2];exact (Go.heap_alloc_old _ _ (by simp)).trans (heap_alloc_new w _)
  have z2:W2.heap[w.heap.size + 1]? = some (.cells (opCells o s) 26 (0,0)):=by rw [hW2];have h1:=heap_alloc_new (w.alloc (.cells (val6 t aA an ac kA kn kc) 33)) (.cells (opCells o s) 26);rw [World.size_alloc] at h1;exact h1
  have z4':=Lib.hid (show Below w.heap.size w W2 by rw [hW2];exact ((Below.refl _ _).alloc (Nat.le_refl _) _).alloc (by simp) _)
  have z5:W2.heap.size = w.heap.size + 1 + 1:=by rw [hW2];simp
  have hR:=Lib.hid (fun (W:World) (hb:Below w.heap.size w W)=>rRight_any W t aA kA an ac kn kc (h.below hb))
  have hF:=Lib.hid (fun (W:World) (hb:Below w.heap.size w W)=>rformed_any W o s (ho.below hb))
  have hA:=Lib.hid (fun (W:World) (hb:Below w.heap.size w W)=>rat_any W t aA kA an ac kn kc (h.below hb) s.pA s.pn s.pc o.path (ho.path.below hb) (Nat.le_trans ho.pnc ho.pcm))
  have hA2:=Lib.hid (fun (W:World) (hb:Below w.heap.size w W)=>rat_any W t aA kA an ac kn kc (h.below hb) s.tA s.tn s.tc o.to_ (ho.to_.below hb) (Nat.le_trans ho.tnc ho.tcm))
  have hWi:=Lib.hid (fun (W:World) (hb:Below w.heap.size w W)=>P4.refWithin_any W s.pA s.tA s.pn s.pc s.tn s.tc o.path o.to_ (its4 (ho.path.below hb)) (its4 (ho.to_.below hb)) (Nat.le_trans ho.pnc ho.pcm) (Nat.le_trans ho.tnc ho.tcm))
  have hop:=Lib.hid (fun (W:World) (hb:Below w.heap.size w W)=>ho.below hb)
  have hlen:=Lib.hid ho.path.1
  have hz1:=Lib.hid z1
  have hz2:=Lib.hid z2
  have hz5:=Lib.hid z5
  have hkr:=ho.kind
  have hbg:=Lib.hid hbig
  obtain ⟨o0,o1,o2,o3,o4,o5,o6,o7,o8,o9,o10⟩:=op_cells z2
  have z1u:=z1
  unfold val6 at z1u
  obtain ⟨p0,p1,p2,p3,p4,p5,pf⟩:=six_cells z1u
  clear h ho z1 z1u z2 z5 hbig
  rw [hW2] at o0 o1 o2 o3 o4 o5 o6 o7 o8 o9 o10 p0 p1 p2 p3 p4 p5 pf
  unfold opCells at hF
  unfold val6 at hR hA hA2
  unfold val6 opCells at hW2 o0 o1 o2 o3 o4 o5 o6 o7 o8 o9 o10 p0 p1 p2 p3 p4 p5
  unfold val6 opCells
  have hbx:=Lib.hid (fun (W:World) (hb:Below W2.heap.size W2 W)=>show W.heap[w.heap.size]? = some (.cells (val6 t aA an ac kA kn kc) 33 (0,0))∧W.heap[w.heap.size + 1]? = some (.cells (opCells o s) 26 (0,0)) from ⟨(hb.block _ (by have:=hz5.out;omega)).trans hz1.out,(hb.block _ (by have:=hz5.out;omega)).trans hz2.out⟩)
  have hpr:=pcs_right hrp
  have hxl:=at_text hx (show weighV t≤1000000 by have:=hbg.out;omega)
  have hap:=Lib.hid (fun (W:World) (hb:Below w.heap.size w W)=>P5.rapply_far W x.text s.qA s.qn s.qc (pcs o.pieces) (by rw [hpr];exact (hop.out W hb).pieces) (Nat.le_trans (hop.out W hb).qnc (hop.out W hb).qcm) hxl (by rw [hpr];exact hrp) hft)
  clear hpr hrp hft hxl
  have v1:=Lib.hid hr
  clear hr
  have v2:=Lib.hid hf
  clear hf
  have v3:=Lib.hid hx
  clear hx
  have b1:((o.kind:Int) == 1) = false:=by simp;omega
  have b2:((o.kind:Int) == 2) = false:=by simp;omega
  have b3:((o.kind:Int) == 3) = false:=by simp;omega
  have b6:((o.kind:Int) == 6) = true:=by simp;omega
  clear hk hkr
  go_enter Try.func19,Try.ntmps19
  go_wp2_with (first
    | (go_at_call 61;go_loud (refine (hR.out _ (by rw [← hW2];exact z4'.out)).mono ?_;rw [← hW2];rintro e w3 ⟨rfl,hb3⟩;rw [v1.out];have B3:=Lib.hid hb3;obtain ⟨r1,r2⟩:=hbx.out w3 hb3;clear o0 o1 o2 o3 o4 o5 o6 o7 o8 o9 o10 p0 p1 p2 p3 p4 p5 pf;obtain ⟨o0,o1,o2,o3,o4,o5,o6,o7,o8,o9,o10⟩:=op_cells r2;unfold val6 at r1;obtain ⟨p0,p1,p2,p3,p4,p5,pf⟩:=six_cells r1;clear hb3 r1 r2))
    | (go_at_call 15;go_loud (refine (hF.out w3 (z4'.out.trans (B3.out.mono z4'.out.size))).mono ?_;rintro e w4 ⟨rfl,hb4⟩;rw [v2.out];have B4:=Lib.hid (B3.out.trans (hb4.mono B3.out.size));obtain ⟨r1,r2⟩:=hbx.out w4 B4.out;clear o0 o1 o2 o3 o4 o5 o6 o7 o8 o9 o10 p0 p1 p2 p3 p4 p5 pf;obtain ⟨o0,o1,o2,o3,o4,o5,o6,o7,o8,o9,o10⟩:=op_cells r2;unfold val6 at r1;obtain ⟨p0,p1,p2,p3,p4,p5,pf⟩:=six_cells r1;clear hb4 r1 r2))
    | (go_at_call 62;go_loud (refine (hA.out w4 (z4'.out.trans (B4.out.mono z4'.out.size))).mono ?_;rintro e w5 ⟨xA,xn,xc,xK,xm,xd,rfl,hx5,hb5⟩;rw [v3.out] at hx5 ⊢;have B5:=Lib.hid (B4.out.trans (hb5.mono B4.out.size));obtain ⟨r1,r2⟩:=hbx.out w5 B5.out;have hs5:w.heap.size + 1 < w5.heap.size:=(by have:=B5.out.size;have:=hz5.out;omega);have hs6:w.heap.size < w5.heap.size:=(by omega);have hq1:w5.heap.size ≠ w.heap.size:=(by omega);have hq2:w5.heap.size ≠ w.heap.size + 1:=(by omega);clear o0 o1 o2 o3 o4 o5 o6 o7 o8 o9 o10 p0 p1 p2 p3 p4 p5 pf;obtain ⟨o0,o1,o2,o3,o4,o5,o6,o7,o8,o9,o10⟩:=op_cells r2;unfold val6 at r1;obtain ⟨p0,p1,p2,p3,p4,p5,pf⟩:=six_cells r1;have uu:=fun O j v (h:w5.cell? ⟨w.heap.size + 1,j,none⟩ = some v)=>(World.cell?_alloc_lt w5 O ⟨w.heap.size + 1,j,none⟩ hs5).trans h;have u0:=fun O=>uu O 0 _ o0;have u1:=fun O=>uu O 1 _ o1;have u2:=fun O=>uu O 2 _ o2;have u3:=fun O=>uu O 3 _ o3;have u10:=fun O=>uu O 10 _ o10;have vv:=fun O j v (h:w5.cell? ⟨w.heap.size,j,none⟩ = some v)=>(World.cell?_alloc_lt w5 O ⟨w.heap.size,j,none⟩ hs6).trans h;have v0':=fun O=>vv O 0 _ p0;have v1':=fun O=>vv O 1 _ p1;have v2':=fun O=>vv O 2 _ p2;have v3':=fun O=>vv O 3 _ p3;have v4':=fun O=>vv O 4 _ p4;have v5':=fun O=>vv O 5 _ p5;have hkl:=hx5.facts.kl;have hkl':=Lib.hid hkl;clear uu vv hb5 r1 r2 hx5 hkl;unfold val6))
    | (go_at_call 65;go_loud (refine (hap.out _ ((z4'.out.trans (B5.out.mono z4'.out.size)).alloc (by omega) _)).mono ?_;rintro e w6 ⟨rfl,hb6⟩;have B6:=Lib.hid (((z4'.out.trans (B5.out.mono z4'.out.size)).alloc (by omega) _).trans (hb6.mono (by rw [World.size_alloc];omega)));clear hb6)))
  go_ret
  exact ⟨rfl,B6.out⟩
theorem rvalid_any (w:World) (t:Nd) (aA kA:Option Addr) (an ac kn kc:Nat) (o:Ov) (s:OS) (h:NodeV (Old w) w aA an ac kA kn kc t) (ho:OpIn w o s) (hbig:weighV t≤100000) :
    Calls Try.prog 19 #[.agg (val6 t aA an ac kA kn kc),.agg (opCells o s)] w fun e w'=>e = .returned (.int .i64 (validV t o))∧Below w.heap.size w w':=by
  cases hr:rightV ltB t with
  | false =>
    rw [show validV t o = 2 by unfold validV;rw [hr];rfl]
    exact rv_c0 w t aA kA an ac kn kc o s h ho hbig hr
  | true =>
    rw [show validV t o = faultV t o by unfold validV;rw [hr];rfl]
    cases hf:formedV o with
    | false =>
      rw [show faultV t o = 80 by unfold faultV;rw [if_pos hf]]
      exact rv_c1 w t aA kA an ac kn kc o s h ho hbig hr hf
    | true =>
      have e0:¬ formedV o = false:=by rw [hf];decide
      by_cases hp:(o.kind = 2∨o.kind = 3)∧o.path = []
      · rw [show faultV t o = 82 by unfold faultV;rw [if_neg e0,if_pos hp]]
        rcases hp with ⟨hk | hk,hp⟩
        · exact rv_c2_2 w t aA kA an ac kn kc o s h ho hbig hr hf hk hp
        · exact rv_c2_3 w t aA kA an ac kn kc o s h ho hbig hr hf hk hp
      · cases hx:atV t o.path with
        | none =>
          rw [show faultV t o = 81 by unfold faultV;rw [if_neg e0,if_neg hp,hx]]
          by_cases k2:o.kind = 2
          · exact rv_n2 w t aA kA an ac kn kc o s h ho hbig hr hf k2 (fun e=>hp ⟨.inl k2,e⟩) hx
          · by_cases k3:o.kind = 3
            · exact rv_n3 w t aA kA an ac kn kc o s h ho hbig hr hf k3 (fun e=>hp ⟨.inr k3,e⟩) hx
            · exact rv_no w t aA kA an ac kn kc o s h ho hbig hr hf k2 k3 hx
        | some x =>
          have hv:faultV t o = if o.kind = 1 then gapE x o.at_ else if o.kind = 3 then (if P4.withinV o.path o.to_ then 84 else match atV t o.to_ with | none=>81 | some y=>gapE y o.at_) else if o.kind = 6 then editE x o.pieces else 0:=by
            unfold faultV
            rw [if_neg e0,if_neg hp,hx]
            rfl
          rw [hv]
          by_cases k1:o.kind = 1
          · rw [if_pos k1]
            exact rv_k1 w t aA kA an ac kn kc o s h ho hbig hr hf k1 x hx
          · rw [if_neg k1]
            by_cases k3:o.kind = 3
            · rw [if_pos k3]
              have hne:o.path ≠ []:=fun e=>hp ⟨.inr k3,e⟩
              cases hw:P4.withinV o.path o.to_ with
              | true=>exact rv_k3a w t aA kA an ac kn kc o s h ho hbig hr hf k3 hne x hx hw
              | false =>
                cases hy:atV t o.to_ with
                | none=>exact rv_k3b w t aA kA an ac kn kc o s h ho hbig hr hf k3 hne x hx hw hy
                | some y=>exact rv_k3c w t aA kA an ac kn kc o s h ho hbig hr hf k3 hne x hx hw y hy
            · rw [if_neg k3]
              by_cases k6:o.kind = 6
              · rw [if_pos k6]
                have hrp:P5.rightV o.pieces = true:=by
                  have hh:=hf
                  unfold formedV at hh
                  rw [if_neg k1,if_neg (by omega),if_neg k3,if_neg (by omega),if_neg (by omega),if_pos k6,Bool.and_eq_true] at hh
                  exact hh.2
                cases hl:x.leaf with
                | false =>
                  rw [show editE x o.pieces = 83 by unfold editE;rw [hl];rfl]
                  exact rv_k6a w t aA kA an ac kn kc o s h ho hbig hr hf k6 x hx hl
                | true =>
                  by_cases hft:Ltx.extent (pcs o.pieces)≤x.text.length
                  · rw [show editE x o.pieces = 0 by unfold editE fitE;rw [hl,if_pos hft];rfl]
                    exact rv_k6b w t aA kA an ac kn kc o s h ho hbig hr hf k6 x hx hl hrp hft
                  · rw [show editE x o.pieces = 50 by unfold editE fitE;rw [hl,if_neg hft];rfl]
                    exact rv_k6c w t aA kA an ac kn kc o s h ho hbig hr hf k6 x hx hl hrp (by omega)
              · rw [if_neg k6]
                by_cases k2:o.kind = 2
                · exact rv_k2 w t aA kA an ac kn kc o s h ho hbig hr hf k2 (fun e=>hp ⟨.inl k2,e⟩) x hx
                · exact rv_k45 w t aA kA an ac kn kc o s h ho hbig hr hf (by
                    by_cases k4:o.kind = 4
                    · exact .inl k4
                    · by_cases k5:o.kind = 5
                      · exact .inr k5
                      · exact absurd (form_kind hf k1 k2 k3 k4 k5) k6) x hx
end Go.Proofs.Ytmipodnffhngaaa.Top
