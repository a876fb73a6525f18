/- MgAO: TopDa TopDb TopDc -/
import Derived.Test.YtmipodnffhngaaaMgAF
import Derived.Test.YtmipodnffhngaaaTreZa
import Derived.Test.YtmipodnffhngaaaMgAM
import Derived.Deep.Cut
set_option linter.all false
namespace Go.Proofs.Ytmipodnffhngaaa.Top
open Go.RowKit
set_option maxRecDepth 20000
set_option linter.unusedVariables false

set_option maxHeartbeats 4000000 in
theorem rchange_T (T:Nat→Prop) (w:World) (hT:∀ k,T k→k < w.heap.size) (t x:Nd) (aA kA xA xK:Option Addr) (an ac kn kc xn xc xm xd:Nat) (h:NodeV T w aA an ac kA kn kc t) (hx:NodeV T w xA xn xc xK xm xd x) (pA:Option Addr) (pn pc:Nat) (p:List Int) (hp:Its w pA pn p) (hpnc:pn≤pc) (hpcm:pc≤maxLen) (hbig:weighV t≤1000000) (hbigx:weighV x≤1000000) :
    Calls Try.prog 67 #[.agg (val6 t aA an ac kA kn kc),.slice pA pn pc,.agg (val6 x xA xn xc xK xm xd)] w (NodeA T w ((putV t p x).getD Nd.zero)):=by
  obtain ⟨-,-,z3,z4,z5⟩:=three_new w (.cells (val6 t aA an ac kA kn kc) 33) (.cells (val6 x xA xn xc xK xm xd) 33) (.cells zero6 33)
  obtain ⟨W3,hW3⟩:∃ W3,W3 = ((w.alloc (.cells (val6 t aA an ac kA kn kc) 33)).alloc (.cells (val6 x xA xn xc xK xm xd) 33)).alloc (.cells zero6 33):=⟨_,rfl⟩
  rw [← hW3] at z3 z4 z5
  have hT3:∀ k,T k→k < W3.heap.size:=fun k hk=>by have:=hT k hk;omega
  have hput:=Lib.hid (rput_any p t x W3 T aA kA xA xK pA an ac kn kc xn xc xm xd pn pc hT3 (h.kept (fun _ h=>h) fun k hk=>z4.block k (hT k hk)) (hx.kept (fun _ h=>h) fun k hk=>z4.block k (hT k hk)) (hp.below z4) hpnc hpcm hbig)
  rw [hW3] at hput
  have z3':=Lib.hid z3
  have z4':=Lib.hid z4
  have z5':=Lib.hid z5
  have hT':=Lib.hid hT
  clear z3 z4 z5 h hx hp hbig hbigx hT hT3
  unfold zero6 val6 at hW3 hput
  unfold val6
  go_enter Try.func67,Try.ntmps67
  go_wp2_with (go_at_call 110;go_loud (refine hput.out.mono ?_;rw [← hW3];rintro e w1 ⟨yA,yn,yc,yK,ym,yd,rfl,hy,hb⟩;have r3:=(hb.block _ (by have:=z5'.out;omega)).trans z3'.out;have hr:=Lib.hid r3;have hy':=Lib.hid hy;have hb':=Lib.hid hb;unfold zero6 at r3;obtain ⟨q0,q1,q2,q3,q4,q5,qf⟩:=six_cells r3;have hne:w.heap.size + 1 + 1 < w1.heap.size:=(Array.getElem?_eq_some_iff.1 r3).1;have hne2:w1.heap.size ≠ w.heap.size + 1 + 1:=(by omega);have hne3:w.heap.size + 1 + 1 ≠ w1.heap.size:=(by omega);unfold val6;clear hy hb r3))
  obtain ⟨W9,hW9,R9,N9,B9⟩:=end_node (o:=.cells #[.int .u64 (((putV t p x).getD Nd.zero).id:Int),.bool ((putV t p x).getD Nd.zero).leaf,.string ⟨((putV t p x).getD Nd.zero).label.toArray⟩,.slice yA yn yc,.string ⟨((putV t p x).getD Nd.zero).text.toArray⟩,.slice yK ym yd] 33) hT'.out (r:=w.heap.size + 1 + 1) (b:=W3.heap.size) (by omega) (by have:=z5'.out;omega) (z4'.out.trans (hb'.out.mono z4'.out.size)) hr.out hy'.out
  rw [← hW9]
  unfold val6 at R9
  obtain ⟨d0,d1,d2,d3,d4,d5,df⟩:=six_cells R9
  refine bodyPost_ret (v:=.agg (val6 ((putV t p x).getD Nd.zero) yA yn yc yK ym yd)) (by simp [results,Try.results67,go_sem,d0,d1,d2,d3,d4,d5,val6]) rfl ?_
  exact ⟨yA,yn,yc,yK,ym,yd,rfl,N9,B9⟩
end Go.Proofs.Ytmipodnffhngaaa.Top
namespace Go.Proofs.Ytmipodnffhngaaa.Top
open Go.RowKit
set_option maxRecDepth 20000
set_option linter.unusedVariables false

theorem row_stored {T:Nat→Prop} {w W3 w7:World} {b n c8:Nat} {y:Nd} {yA yK A8:Option Addr} {yn yc ym yd:Nat} {kvs:List KV} (hT:∀ k,T k→k < w.heap.size) (hb:b < W3.heap.size) (hwb:w.heap.size≤b) (h3:Below w.heap.size w W3) (h7:Below W3.heap.size W3 w7) (hy:NodeV T w yA yn yc yK ym yd y) (hok:∀ k ∈ kvs,k.ok T w) (hown:w7.ownsRow W3.heap.size 33 6 (.slice A8 n c8) n (kvs.flatMap KV.cells)) (hn:n = kvs.length) :
    NodeV (fun k=>T k∨(W3.heap.size≤k∧k < w7.heap.size)) (w7.setCell ⟨b,5,none⟩ (.slice A8 n c8)) yA yn yc A8 n c8 (y.withKids (kvs.map KV.t)):=by
  have hs:=h7.size
  have hk7:∀ k,T k→w7.heap[k]? = w.heap[k]?:=fun k hk=>(h7.block k (by have:=hT k hk;omega)).trans (h3.block k (hT k hk))
  obtain ⟨A,c,e,h8⟩:=newKids (T:=fun k=>T k∨(W3.heap.size≤k∧k < w7.heap.size)) (W:=w7) (hy.kept (fun k hk=>.inl hk) hk7) (fun k hk=>KV.ok_kept (fun k hk=>.inl hk) hk7 (hok k hk)) hown hn (fun k h1 h2=>.inr ⟨h1,h2⟩)
  injection e with e1 e2 e3
  subst e1 e3
  exact h8.kept (fun k hk=>hk) fun k hk=>heap_setCell_other _ _ k _ (by
    show k ≠ b
    rcases hk with hk | hk
    · have:=hT k hk;omega
    · omega)
theorem kx_prt {w:World} {kx:KV} {x0 x1 x2 x3 x4 x5:Value} (h:kx.cells = [x0,x1,x2,x3,x4,x5]) {g:Nat} (hr:w.heap[g]? = some (.cells #[x0,x1,x2,x3,x4,x5] 33 (0,0))):(Prt.mk (some ⟨g,0,none⟩) 1 1 kx.cells).Ok 6 w:=by
  refine ⟨rfl,fun u hu=>?_,fun j u hj=>?_,fun e=>(by cases e),Nat.le_refl _,by show (1:Nat)≤100000;decide⟩
  · exact KV.one [kx] u (by simpa using hu)
  · have hj2:kx.cells[j]? = some u:=hj
    rw [h] at hj2
    refine ⟨_,rfl,(Array.getElem?_eq_some_iff.1 hr).1,?_⟩
    rw [add_zero_off]
    match j,hj2 with
    | 0,hj2=>injection hj2 with hj2;subst hj2;exact cell_of_row w g 0 _ _ _ hr
    | 1,hj2=>injection hj2 with hj2;subst hj2;exact cell_of_row w g 1 _ _ _ hr
    | 2,hj2=>injection hj2 with hj2;subst hj2;exact cell_of_row w g 2 _ _ _ hr
    | 3,hj2=>injection hj2 with hj2;subst hj2;exact cell_of_row w g 3 _ _ _ hr
    | 4,hj2=>injection hj2 with hj2;subst hj2;exact cell_of_row w g 4 _ _ _ hr
    | 5,hj2=>injection hj2 with hj2;subst hj2;exact cell_of_row w g 5 _ _ _ hr
    | j + 6,hj2=>simp at hj2
end Go.Proofs.Ytmipodnffhngaaa.Top
namespace Go.Proofs.Ytmipodnffhngaaa.Top
open Go.RowKit
set_option maxRecDepth 20000
set_option linter.unusedVariables false

theorem own_alloc {w:World} {base:Nat} {v:Value} {n:Nat} {xs:List Value} {o:Obj} (h:w.ownsRow base 33 6 v n xs):(w.alloc o).ownsRow base 33 6 v n xs :=
  own_kept h fun k hk=>Go.heap_alloc_old _ _ (by obtain ⟨cs,fr,hh⟩:=own_typed h k hk;exact (Array.getElem?_eq_some_iff.1 hh).1)
set_option maxHeartbeats 8000000 in
theorem rins_T (T:Nat→Prop) (w:World) (hT:∀ k,T k→k < w.heap.size) (y x:Nd) (yA yK xA xK:Option Addr) (yn yc ym yd xn xc xm xd:Nat) (hy:NodeV T w yA yn yc yK ym yd y) (hx:NodeV T w xA xn xc xK xm xd x) (hbig:weighV y≤90000) (g:Nat) (hg:g≤y.kids.length) :
    Calls Try.prog 68 #[.agg (val6 y yA yn yc yK ym yd),.int .i64 (g:Int),.agg (val6 x xA xn xc xK xm xd)] w (NodeA T w (y.withKids (insK g x y.kids))):=by
  obtain ⟨z1,z2,z3,z4,z5⟩:=three_new w (.cells (val6 y yA yn yc yK ym yd) 33) (.cells (val6 x xA xn xc xK xm xd) 33) (.cells zero6 33)
  obtain ⟨W3,hW3⟩:∃ W3,W3 = ((w.alloc (.cells (val6 y yA yn yc yK ym yd) 33)).alloc (.cells (val6 x xA xn xc xK xm xd) 33)).alloc (.cells zero6 33):=⟨_,rfl⟩
  rw [← hW3] at z1 z2 z3 z4 z5
  obtain ⟨r,hr⟩:∃ r,r = w.heap.size + 1 + 1:=⟨_,rfl⟩
  obtain ⟨kx,hkx⟩:∃ kx:KV,kx = ⟨x,xA,xn,xc,xK,xm,xd⟩:=⟨_,rfl⟩
  have hkxc:kx.cells = [.int .u64 (x.id:Int),.bool x.leaf,.string ⟨x.label.toArray⟩,.slice xA xn xc,.string ⟨x.text.toArray⟩,.slice xK xm xd]:=by rw [hkx];rfl
  have hf:=hy.facts
  have hykl:y.kids.length = ym:=hf.kl
  have hnc:=hf.knc
  have hcm:=hf.kcm
  have hyn:ym≤90000:=by have:=(weigh_rows y).2;omega
  obtain ⟨ks,hk1,hk2,hk3,hk4⟩:=row_prt hykl hf.row hT hf.knil hnc (by omega)
  have hknil:=hf.knil
  have hP:=Lib.hid (fun (W:World) (hb:Below w.heap.size w W)=>hk3.below hb)
  have z1':=Lib.hid z1
  have z3':=Lib.hid z3
  have z4':=Lib.hid z4
  have z5':=Lib.hid z5
  have hT':=Lib.hid hT
  have hy':=Lib.hid hy
  have hks:=Lib.hid hk1
  have hkok:=Lib.hid hk2
  have hkl:=Lib.hid hk4
  have hx':=Lib.hid hx
  have z2':=Lib.hid z2
  have x2:=z2
  unfold val6 at x2
  obtain ⟨e0,e1,e2,e3,e4,e5,ef⟩:=six_cells x2
  have z1u:=z1
  unfold val6 at z1u
  obtain ⟨p0,p1,p2,p3,p4,p5,pf⟩:=six_cells z1u
  have hgn:g≤ym:=by omega
  have k0:(0:Int)≤(g:Int):=by omega
  have k1:(g:Int)≤(ym:Int):=by omega
  have k2:(g:Int)≤(yd:Int):=by omega
  have k3:(ym:Int)≤(yd:Int):=by omega
  unfold maxLen at hcm
  have hlt1:w.heap.size < W3.heap.size:=by omega
  clear hf hk1 hk2 hk3 hk4 hy hT hykl z1 z1u z3 z4 z5 hg hbig hx z2 x2
  unfold val6 zero6 at hW3
  unfold val6
  cases yK with
  | none =>
    obtain rfl:yd = 0:=hknil rfl
    obtain rfl:ym = 0:=by omega
    obtain rfl:g = 0:=by omega
    rw [hW3] at p0 p1 p2 p3 p4 p5 pf e0 e1 e2 e3 e4 e5 ef
    go_enter Try.func68,Try.ntmps68
    go_upto_region 2 with fail
    rw [← hW3]
    rw [← hW3] at p0 p1 p2 p3 p4 p5 pf e0 e1 e2 e3 e4 e5 ef
    clear hW3
    go_upto_region 5 with (first
      | (at_builtin;refine appN rfl (.tmp 18) (.tmp 22) rfl W3.heap.size v5 (0 + 0 + 1) (([] ++ (ks.take 0).flatMap KV.cells) ++ kx.cells) ⟨_,_,_,(ks.drop 0).flatMap KV.cells⟩ rfl ho5'.out rfl (by have h9:=(hP.out _ (z4'.out.trans (hb5'.out.mono z4'.out.size))).drop hkl.out (Nat.le_refl 0);exact h9) (by dsimp only;omega) (hb5'.out.size) (Below.refl _ _) ?_;intro v7 w7 ho7 hb7;obtain ⟨n8,hn8⟩:∃ n8:Nat,n8 = ((0 + 0 + 1) + (0)):=⟨_,rfl⟩;have ho7n:w7.ownsRow W3.heap.size 33 6 v7 n8 ((([] ++ (ks.take 0).flatMap KV.cells) ++ kx.cells) ++ (ks.drop 0).flatMap KV.cells):=(by rw [hn8];exact ho7);obtain ⟨A8,c8,rfl,-⟩:=own_form ho7n;have ho7':=Lib.hid ho7n;have hn8':=Lib.hid hn8;have hb7':=Lib.hid (show Below W3.heap.size W3 w7 from hb5'.out.trans hb7);clear ho7 ho7n hn8 hb7;have c0:=(hb7'.out.block _ hlt1).trans z1'.out;unfold val6 at c0;clear p0 p1 p2 p3 p4 p5 pf;obtain ⟨p0,p1,p2,p3,p4,p5,pf⟩:=six_cells c0;clear c0)
      | (at_builtin;refine appN rfl (.tmp 14) (.tmp 16) rfl W3.heap.size v4 (0 + 0) ([] ++ (ks.take 0).flatMap KV.cells) ⟨some ⟨w4.heap.size,0,none⟩,1,1,kx.cells⟩ rfl (own_alloc ho4'.out) rfl (kx_prt hkxc (heap_alloc_new w4 _)) (by show 0 + 0 + 1≤1000000;omega) (by have:=hb4'.out.size;rw [World.size_alloc];omega) (Below.refl _ _) ?_;intro v5 w5 ho5 hb5;have ho5':=Lib.hid ho5;have hb5':=Lib.hid (show Below W3.heap.size W3 w5 from (hb4'.out.alloc hb4'.out.size _).trans hb5);clear ho5 hb5;have c0:=(hb5'.out.block _ hlt1).trans z1'.out;unfold val6 at c0;clear e0 e1 e2 e3 e4 e5 ef;clear p0 p1 p2 p3 p4 p5 pf;obtain ⟨p0,p1,p2,p3,p4,p5,pf⟩:=six_cells c0;clear c0)
      | (at_builtin;refine appN rfl (.tmp 8) (.tmp 12) rfl W3.heap.size (.slice none 0 0) 0 [] ⟨none,0,0,(ks.take 0).flatMap KV.cells⟩ rfl (World.ownsRow_nil _ _ _ _) rfl ((hP.out W3 z4'.out).take hkl.out hgn) (by show 0 + 0≤1000000;omega) (Nat.le_refl _) (Below.refl _ _) ?_;intro v4 w4 ho4 hb4;have ho4':=Lib.hid ho4;have hb4':=Lib.hid hb4;have c0:=(hb4.block _ hlt1).trans z1'.out;unfold val6 at c0;clear p0 p1 p2 p3 p4 p5 pf;obtain ⟨p0,p1,p2,p3,p4,p5,pf⟩:=six_cells c0;have c1:=(hb4.block _ (by have:=z5'.out;omega)).trans z2'.out;unfold val6 at c1;clear e0 e1 e2 e3 e4 e5 ef;obtain ⟨e0,e1,e2,e3,e4,e5,ef⟩:=six_cells c1;clear c1;clear ho4 hb4 c0))
    have hrow:=row_stored (b:=w.heap.size) (n:=n8) (kvs:=(ks.take 0 ++ kx :: ks.drop 0)) hT'.out hlt1 (Nat.le_refl _) z4'.out hb7'.out hy'.out (fun k hk=>by
      rw [List.mem_append] at hk
      rcases hk with hk | hk
      · exact hkok.out k (List.mem_of_mem_take hk)
      · rw [List.mem_cons] at hk
        rcases hk with rfl | hk
        · rw [hkx];exact hx'.out
        · exact hkok.out k (List.mem_of_mem_drop hk)) (by have h1:=ho7'.out;simp only [List.nil_append,List.append_assoc] at h1;rw [List.flatMap_append,List.flatMap_cons];exact h1) (by rw [List.length_append,List.length_take,List.length_cons,List.length_drop,hkl.out];have:=hn8'.out;omega)
    have hmp:((ks.take 0 ++ kx :: ks.drop 0)).map KV.t = insK 0 x y.kids:=by unfold insK;rw [← hks.out,List.map_append,List.map_take,List.map_cons,List.map_drop];rw [hkx]
    rw [hmp] at hrow
    have hs7:=hb7'.out.size
    have hlt7:w.heap.size < w7.heap.size:=by omega
    have hc7:=(hb7'.out.block _ hlt1).trans z1'.out
    unfold val6 at hc7
    have g1:=Lib.hid (heap_setCell_same w7 w.heap.size 5 _ _ (.slice A8 n8 c8) hc7)
    have g3:=Lib.hid (show (w7.setCell ⟨w.heap.size,5,none⟩ (.slice A8 n8 c8)).heap[w.heap.size + 1 + 1]? = some (.cells zero6 33 (0,0)) from (heap_setCell_other _ _ _ _ (by show w.heap.size + 1 + 1 ≠ w.heap.size;omega)).trans ((hb7'.out.block _ (by have:=z5'.out;omega)).trans z3'.out))
    have b8:=Lib.hid (show Below w.heap.size w (w7.setCell ⟨w.heap.size,5,none⟩ (.slice A8 n8 c8)) from (z4'.out.trans (hb7'.out.mono z4'.out.size)).setCell (show w.heap.size≤w.heap.size from Nat.le_refl _) _)
    have hs8:(w7.setCell ⟨w.heap.size,5,none⟩ (.slice A8 n8 c8)).heap.size = w7.heap.size:=by simp
    generalize w7.setCell ⟨w.heap.size,5,none⟩ (.slice A8 n8 c8) = W8 at hrow g1 g3 b8 hs8 ⊢
    rw [← hs8] at hrow
    have hrow':=Lib.hid hrow
    clear hrow hmp hc7 p0 p1 p2 p3 p4 p5 pf
    have g1u:=g1.out
    simp only [List.setIfInBounds_toArray,List.set_cons_zero,List.set_cons_succ] at g1u
    obtain ⟨p0,p1,p2,p3,p4,p5,pf⟩:=six_cells g1u
    have g3u:=g3.out
    unfold zero6 at g3u
    obtain ⟨f0,f1,f2,f3,f4,f5,ff⟩:=six_cells g3u
    clear g1u g3u
    have hne8:w.heap.size ≠ w.heap.size + 1 + 1:=by omega
    have hne9:w.heap.size + 1 + 1 ≠ w.heap.size:=by omega
    go_wp2_with fail
    have we:=with_id y (insK 0 x y.kids)
    obtain ⟨W9,hW9,R9,N9,B9⟩:=end_node0 hT'.out (r:=w.heap.size + 1 + 1) (b:=W3.heap.size) (by omega) (by have:=z5'.out;omega) b8.out g3.out hrow'.out
    rw [we.1,we.2.1,we.2.2.1,we.2.2.2.1] at hW9
    rw [← hW9]
    unfold val6 at R9
    rw [we.1,we.2.1,we.2.2.1,we.2.2.2.1] at R9
    obtain ⟨d0,d1,d2,d3,d4,d5,df⟩:=six_cells R9
    refine bodyPost_ret (v:=.agg (val6 (y.withKids (insK 0 x y.kids)) yA yn yc A8 n8 c8)) (by unfold val6;rw [we.1,we.2.1,we.2.2.1,we.2.2.2.1];simp [results,Try.results68,go_sem,d0,d1,d2,d3,d4,d5]) rfl ?_
    exact ⟨yA,yn,yc,A8,_,c8,rfl,N9,B9⟩
  | some ky =>
    by_cases hdg:yd = g
    · have hdg2:g = yd:=hdg.symm
      subst hdg2
      have hgm:g = ym:=by omega
      subst hgm
      rw [hW3] at p0 p1 p2 p3 p4 p5 pf e0 e1 e2 e3 e4 e5 ef
      go_enter Try.func68,Try.ntmps68
      go_upto_region 2 with fail
      rw [← hW3]
      rw [← hW3] at p0 p1 p2 p3 p4 p5 pf e0 e1 e2 e3 e4 e5 ef
      clear hW3
      go_upto_region 5 with (first
        | (at_builtin;refine appN rfl (.tmp 18) (.tmp 22) rfl W3.heap.size v5 (0 + g + 1) (([] ++ (ks.take g).flatMap KV.cells) ++ kx.cells) ⟨_,_,_,(ks.drop g).flatMap KV.cells⟩ rfl ho5'.out rfl (by have h9:=(hP.out _ (z4'.out.trans (hb5'.out.mono z4'.out.size))).drop hkl.out (Nat.le_refl g);rw [restA_same] at h9;simpa using h9) (by dsimp only;omega) (hb5'.out.size) (Below.refl _ _) ?_;intro v7 w7 ho7 hb7;obtain ⟨n8,hn8⟩:∃ n8:Nat,n8 = ((0 + g + 1) + (0)):=⟨_,rfl⟩;have ho7n:w7.ownsRow W3.heap.size 33 6 v7 n8 ((([] ++ (ks.take g).flatMap KV.cells) ++ kx.cells) ++ (ks.drop g).flatMap KV.cells):=(by rw [hn8];exact ho7);obtain ⟨A8,c8,rfl,-⟩:=own_form ho7n;have ho7':=Lib.hid ho7n;have hn8':=Lib.hid hn8;have hb7':=Lib.hid (show Below W3.heap.size W3 w7 from hb5'.out.trans hb7);clear ho7 ho7n hn8 hb7;have c0:=(hb7'.out.block _ hlt1).trans z1'.out;unfold val6 at c0;clear p0 p1 p2 p3 p4 p5 pf;obtain ⟨p0,p1,p2,p3,p4,p5,pf⟩:=six_cells c0;clear c0)
        | (at_builtin;refine appN rfl (.tmp 14) (.tmp 16) rfl W3.heap.size v4 (0 + g) ([] ++ (ks.take g).flatMap KV.cells) ⟨some ⟨w4.heap.size,0,none⟩,1,1,kx.cells⟩ rfl (own_alloc ho4'.out) rfl (kx_prt hkxc (heap_alloc_new w4 _)) (by show 0 + g + 1≤1000000;omega) (by have:=hb4'.out.size;rw [World.size_alloc];omega) (Below.refl _ _) ?_;intro v5 w5 ho5 hb5;have ho5':=Lib.hid ho5;have hb5':=Lib.hid (show Below W3.heap.size W3 w5 from (hb4'.out.alloc hb4'.out.size _).trans hb5);clear ho5 hb5;have c0:=(hb5'.out.block _ hlt1).trans z1'.out;unfold val6 at c0;clear e0 e1 e2 e3 e4 e5 ef;clear p0 p1 p2 p3 p4 p5 pf;obtain ⟨p0,p1,p2,p3,p4,p5,pf⟩:=six_cells c0;clear c0)
        | (at_builtin;refine appN rfl (.tmp 8) (.tmp 12) rfl W3.heap.size (.slice none 0 0) 0 [] ⟨some ky,g,g,(ks.take g).flatMap KV.cells⟩ rfl (World.ownsRow_nil _ _ _ _) rfl ((hP.out W3 z4'.out).take hkl.out hgn) (by show 0 + g≤1000000;omega) (Nat.le_refl _) (Below.refl _ _) ?_;intro v4 w4 ho4 hb4;have ho4':=Lib.hid ho4;have hb4':=Lib.hid hb4;have c0:=(hb4.block _ hlt1).trans z1'.out;unfold val6 at c0;clear p0 p1 p2 p3 p4 p5 pf;obtain ⟨p0,p1,p2,p3,p4,p5,pf⟩:=six_cells c0;have c1:=(hb4.block _ (by have:=z5'.out;omega)).trans z2'.out;unfold val6 at c1;clear e0 e1 e2 e3 e4 e5 ef;obtain ⟨e0,e1,e2,e3,e4,e5,ef⟩:=six_cells c1;clear c1;clear ho4 hb4 c0))
      have hrow:=row_stored (b:=w.heap.size) (n:=n8) (kvs:=(ks.take g ++ kx :: ks.drop g)) hT'.out hlt1 (Nat.le_refl _) z4'.out hb7'.out hy'.out (fun k hk=>by
        rw [List.mem_append] at hk
        rcases hk with hk | hk
        · exact hkok.out k (List.mem_of_mem_take hk)
        · rw [List.mem_cons] at hk
          rcases hk with rfl | hk
          · rw [hkx];exact hx'.out
          · exact hkok.out k (List.mem_of_mem_drop hk)) (by have h1:=ho7'.out;simp only [List.nil_append,List.append_assoc] at h1;rw [List.flatMap_append,List.flatMap_cons];exact h1) (by rw [List.length_append,List.length_take,List.length_cons,List.length_drop,hkl.out];have:=hn8'.out;omega)
      have hmp:((ks.take g ++ kx :: ks.drop g)).map KV.t = insK g x y.kids:=by unfold insK;rw [← hks.out,List.map_append,List.map_take,List.map_cons,List.map_drop];rw [hkx]
      rw [hmp] at hrow
      have hs7:=hb7'.out.size
      have hlt7:w.heap.size < w7.heap.size:=by omega
      have hc7:=(hb7'.out.block _ hlt1).trans z1'.out
      unfold val6 at hc7
      have g1:=Lib.hid (heap_setCell_same w7 w.heap.size 5 _ _ (.slice A8 n8 c8) hc7)
      have g3:=Lib.hid (show (w7.setCell ⟨w.heap.size,5,none⟩ (.slice A8 n8 c8)).heap[w.heap.size + 1 + 1]? = some (.cells zero6 33 (0,0)) from (heap_setCell_other _ _ _ _ (by show w.heap.size + 1 + 1 ≠ w.heap.size;omega)).trans ((hb7'.out.block _ (by have:=z5'.out;omega)).trans z3'.out))
      have b8:=Lib.hid (show Below w.heap.size w (w7.setCell ⟨w.heap.size,5,none⟩ (.slice A8 n8 c8)) from (z4'.out.trans (hb7'.out.mono z4'.out.size)).setCell (show w.heap.size≤w.heap.size from Nat.le_refl _) _)
      have hs8:(w7.setCell ⟨w.heap.size,5,none⟩ (.slice A8 n8 c8)).heap.size = w7.heap.size:=by simp
      generalize w7.setCell ⟨w.heap.size,5,none⟩ (.slice A8 n8 c8) = W8 at hrow g1 g3 b8 hs8 ⊢
      rw [← hs8] at hrow
      have hrow':=Lib.hid hrow
      clear hrow hmp hc7 p0 p1 p2 p3 p4 p5 pf
      have g1u:=g1.out
      simp only [List.setIfInBounds_toArray,List.set_cons_zero,List.set_cons_succ] at g1u
      obtain ⟨p0,p1,p2,p3,p4,p5,pf⟩:=six_cells g1u
      have g3u:=g3.out
      unfold zero6 at g3u
      obtain ⟨f0,f1,f2,f3,f4,f5,ff⟩:=six_cells g3u
      clear g1u g3u
      have hne8:w.heap.size ≠ w.heap.size + 1 + 1:=by omega
      have hne9:w.heap.size + 1 + 1 ≠ w.heap.size:=by omega
      go_wp2_with fail
      have we:=with_id y (insK g x y.kids)
      obtain ⟨W9,hW9,R9,N9,B9⟩:=end_node0 hT'.out (r:=w.heap.size + 1 + 1) (b:=W3.heap.size) (by omega) (by have:=z5'.out;omega) b8.out g3.out hrow'.out
      rw [we.1,we.2.1,we.2.2.1,we.2.2.2.1] at hW9
      rw [← hW9]
      unfold val6 at R9
      rw [we.1,we.2.1,we.2.2.1,we.2.2.2.1] at R9
      obtain ⟨d0,d1,d2,d3,d4,d5,df⟩:=six_cells R9
      refine bodyPost_ret (v:=.agg (val6 (y.withKids (insK g x y.kids)) yA yn yc A8 n8 c8)) (by unfold val6;rw [we.1,we.2.1,we.2.2.1,we.2.2.2.1];simp [results,Try.results68,go_sem,d0,d1,d2,d3,d4,d5]) rfl ?_
      exact ⟨yA,yn,yc,A8,_,c8,rfl,N9,B9⟩
    · have hdg2:(yd = g) = False:=eq_false hdg
      rw [hW3] at p0 p1 p2 p3 p4 p5 pf e0 e1 e2 e3 e4 e5 ef
      go_enter Try.func68,Try.ntmps68
      go_upto_region 2 with fail
      rw [← hW3]
      rw [← hW3] at p0 p1 p2 p3 p4 p5 pf e0 e1 e2 e3 e4 e5 ef
      clear hW3
      go_upto_region 5 with (first
        | (at_builtin;refine appN rfl (.tmp 18) (.tmp 22) rfl W3.heap.size v5 (0 + g + 1) (([] ++ (ks.take g).flatMap KV.cells) ++ kx.cells) ⟨_,_,_,(ks.drop g).flatMap KV.cells⟩ rfl ho5'.out rfl (by have h9:=(hP.out _ (z4'.out.trans (hb5'.out.mono z4'.out.size))).drop hkl.out hgn;rw [restA_ne hdg] at h9;exact h9) (by dsimp only;omega) (hb5'.out.size) (Below.refl _ _) ?_;intro v7 w7 ho7 hb7;obtain ⟨n8,hn8⟩:∃ n8:Nat,n8 = ((0 + g + 1) + (ym - g)):=⟨_,rfl⟩;have ho7n:w7.ownsRow W3.heap.size 33 6 v7 n8 ((([] ++ (ks.take g).flatMap KV.cells) ++ kx.cells) ++ (ks.drop g).flatMap KV.cells):=(by rw [hn8];exact ho7);obtain ⟨A8,c8,rfl,-⟩:=own_form ho7n;have ho7':=Lib.hid ho7n;have hn8':=Lib.hid hn8;have hb7':=Lib.hid (show Below W3.heap.size W3 w7 from hb5'.out.trans hb7);clear ho7 ho7n hn8 hb7;have c0:=(hb7'.out.block _ hlt1).trans z1'.out;unfold val6 at c0;clear p0 p1 p2 p3 p4 p5 pf;obtain ⟨p0,p1,p2,p3,p4,p5,pf⟩:=six_cells c0;clear c0)
        | (at_builtin;refine appN rfl (.tmp 14) (.tmp 16) rfl W3.heap.size v4 (0 + g) ([] ++ (ks.take g).flatMap KV.cells) ⟨some ⟨w4.heap.size,0,none⟩,1,1,kx.cells⟩ rfl (own_alloc ho4'.out) rfl (kx_prt hkxc (heap_alloc_new w4 _)) (by show 0 + g + 1≤1000000;omega) (by have:=hb4'.out.size;rw [World.size_alloc];omega) (Below.refl _ _) ?_;intro v5 w5 ho5 hb5;have ho5':=Lib.hid ho5;have hb5':=Lib.hid (show Below W3.heap.size W3 w5 from (hb4'.out.alloc hb4'.out.size _).trans hb5);clear ho5 hb5;have c0:=(hb5'.out.block _ hlt1).trans z1'.out;unfold val6 at c0;clear e0 e1 e2 e3 e4 e5 ef;clear p0 p1 p2 p3 p4 p5 pf;obtain ⟨p0,p1,p2,p3,p4,p5,pf⟩:=six_cells c0;clear c0)
        | (at_builtin;refine appN rfl (.tmp 8) (.tmp 12) rfl W3.heap.size (.slice none 0 0) 0 [] ⟨some ky,g,yd,(ks.take g).flatMap KV.cells⟩ rfl (World.ownsRow_nil _ _ _ _) rfl ((hP.out W3 z4'.out).take hkl.out hgn) (by show 0 + g≤1000000;omega) (Nat.le_refl _) (Below.refl _ _) ?_;intro v4 w4 ho4 hb4;have ho4':=Lib.hid ho4;have hb4':=Lib.hid hb4;have c0:=(hb4.block _ hlt1).trans z1'.out;unfold val6 at c0;clear p0 p1 p2 p3 p4 p5 pf;obtain ⟨p0,p1,p2,p3,p4,p5,pf⟩:=six_cells c0;have c1:=(hb4.block _ (by have:=z5'.out;omega)).trans z2'.out;unfold val6 at c1;clear e0 e1 e2 e3 e4 e5 ef;obtain ⟨e0,e1,e2,e3,e4,e5,ef⟩:=six_cells c1;clear c1;clear ho4 hb4 c0))
      have hrow:=row_stored (b:=w.heap.size) (n:=n8) (kvs:=(ks.take g ++ kx :: ks.drop g)) hT'.out hlt1 (Nat.le_refl _) z4'.out hb7'.out hy'.out (fun k hk=>by
        rw [List.mem_append] at hk
        rcases hk with hk | hk
        · exact hkok.out k (List.mem_of_mem_take hk)
        · rw [List.mem_cons] at hk
          rcases hk with rfl | hk
          · rw [hkx];exact hx'.out
          · exact hkok.out k (List.mem_of_mem_drop hk)) (by have h1:=ho7'.out;simp only [List.nil_append,List.append_assoc] at h1;rw [List.flatMap_append,List.flatMap_cons];exact h1) (by rw [List.length_append,List.length_take,List.length_cons,List.length_drop,hkl.out];have:=hn8'.out;omega)
      have hmp:((ks.take g ++ kx :: ks.drop g)).map KV.t = insK g x y.kids:=by unfold insK;rw [← hks.out,List.map_append,List.map_take,List.map_cons,List.map_drop];rw [hkx]
      rw [hmp] at hrow
      have hs7:=hb7'.out.size
      have hlt7:w.heap.size < w7.heap.size:=by omega
      have hc7:=(hb7'.out.block _ hlt1).trans z1'.out
      unfold val6 at hc7
      have g1:=Lib.hid (heap_setCell_same w7 w.heap.size 5 _ _ (.slice A8 n8 c8) hc7)
      have g3:=Lib.hid (show (w7.setCell ⟨w.heap.size,5,none⟩ (.slice A8 n8 c8)).heap[w.heap.size + 1 + 1]? = some (.cells zero6 33 (0,0)) from (heap_setCell_other _ _ _ _ (by show w.heap.size + 1 + 1 ≠ w.heap.size;omega)).trans ((hb7'.out.block _ (by have:=z5'.out;omega)).trans z3'.out))
      have b8:=Lib.hid (show Below w.heap.size w (w7.setCell ⟨w.heap.size,5,none⟩ (.slice A8 n8 c8)) from (z4'.out.trans (hb7'.out.mono z4'.out.size)).setCell (show w.heap.size≤w.heap.size from Nat.le_refl _) _)
      have hs8:(w7.setCell ⟨w.heap.size,5,none⟩ (.slice A8 n8 c8)).heap.size = w7.heap.size:=by simp
      generalize w7.setCell ⟨w.heap.size,5,none⟩ (.slice A8 n8 c8) = W8 at hrow g1 g3 b8 hs8 ⊢
      rw [← hs8] at hrow
      have hrow':=Lib.hid hrow
      clear hrow hmp hc7 p0 p1 p2 p3 p4 p5 pf
      have g1u:=g1.out
      simp only [List.setIfInBounds_toArray,List.set_cons_zero,List.set_cons_succ] at g1u
      obtain ⟨p0,p1,p2,p3,p4,p5,pf⟩:=six_cells g1u
      have g3u:=g3.out
      unfold zero6 at g3u
      obtain ⟨f0,f1,f2,f3,f4,f5,ff⟩:=six_cells g3u
      clear g1u g3u
      have hne8:w.heap.size ≠ w.heap.size + 1 + 1:=by omega
      have hne9:w.heap.size + 1 + 1 ≠ w.heap.size:=by omega
      go_wp2_with fail
      have we:=with_id y (insK g x y.kids)
      obtain ⟨W9,hW9,R9,N9,B9⟩:=end_node0 hT'.out (r:=w.heap.size + 1 + 1) (b:=W3.heap.size) (by omega) (by have:=z5'.out;omega) b8.out g3.out hrow'.out
      rw [we.1,we.2.1,we.2.2.1,we.2.2.2.1] at hW9
      rw [← hW9]
      unfold val6 at R9
      rw [we.1,we.2.1,we.2.2.1,we.2.2.2.1] at R9
      obtain ⟨d0,d1,d2,d3,d4,d5,df⟩:=six_cells R9
      refine bodyPost_ret (v:=.agg (val6 (y.withKids (insK g x y.kids)) yA yn yc A8 n8 c8)) (by unfold val6;rw [we.1,we.2.1,we.2.2.1,we.2.2.2.1];simp [results,Try.results68,go_sem,d0,d1,d2,d3,d4,d5]) rfl ?_
      exact ⟨yA,yn,yc,A8,_,c8,rfl,N9,B9⟩
set_option maxHeartbeats 8000000 in
theorem rdel_T (T:Nat→Prop) (w:World) (hT:∀ k,T k→k < w.heap.size) (y:Nd) (yA yK:Option Addr) (yn yc ym yd:Nat) (hy:NodeV T w yA yn yc yK ym yd y) (hbig:weighV y≤90000) (g:Nat) (hg:g < y.kids.length) :
    Calls Try.prog 111 #[.agg (val6 y yA yn yc yK ym yd),.int .i64 (g:Int)] w (NodeA T w (y.withKids (delK g y.kids))):=by
  obtain ⟨W3,hW3⟩:∃ W3,W3 = (w.alloc (.cells (val6 y yA yn yc yK ym yd) 33)).alloc (.cells zero6 33):=⟨_,rfl⟩
  have z1:W3.heap[w.heap.size]? = some (.cells (val6 y yA yn yc yK ym yd) 33 (0,0)):=by rw [hW3];exact (Go.heap_alloc_old _ _ (by simp)).trans (heap_alloc_new w _)
  have z3:W3.heap[w.heap.size + 1]? = some (.cells zero6 33 (0,0)):=by rw [hW3];have h1:=heap_alloc_new (w.alloc (.cells (val6 y yA yn yc yK ym yd) 33)) (.cells zero6 33);rw [World.size_alloc] at h1;exact h1
  have z4:Below w.heap.size w W3:=by rw [hW3];exact ((Below.refl _ _).alloc (Nat.le_refl _) _).alloc (by simp) _
  have z5:W3.heap.size = w.heap.size + 1 + 1:=by rw [hW3];simp
  have hf:=hy.facts
  have hykl:y.kids.length = ym:=hf.kl
  have hnc:=hf.knc
  have hcm:=hf.kcm
  have hyn:ym≤90000:=by have:=(weigh_rows y).2;omega
  obtain ⟨ks,hk1,hk2,hk3,hk4⟩:=row_prt hykl hf.row hT hf.knil hnc (by omega)
  have hknil:=hf.knil
  have hP:=Lib.hid (fun (W:World) (hb:Below w.heap.size w W)=>hk3.below hb)
  have z1':=Lib.hid z1
  have z3':=Lib.hid z3
  have z4':=Lib.hid z4
  have z5':=Lib.hid z5
  have hT':=Lib.hid hT
  have hy':=Lib.hid hy
  have hks:=Lib.hid hk1
  have hkok:=Lib.hid hk2
  have hkl:=Lib.hid hk4
  have z1u:=z1
  unfold val6 at z1u
  obtain ⟨p0,p1,p2,p3,p4,p5,pf⟩:=six_cells z1u
  have hgn:g≤ym:=by omega
  have k0:(0:Int)≤(g:Int):=by omega
  have k1:(g:Int)≤(ym:Int):=by omega
  have k2:(g:Int)≤(yd:Int):=by omega
  have k3:(ym:Int)≤(yd:Int):=by omega
  unfold maxLen at hcm
  have hgl:g < ym:=by omega
  have k4:(0:Int)≤(g:Int) + 1:=by omega
  have k5:(g:Int) + 1≤(ym:Int):=by omega
  have k6:(g:Int) + 1≤(yd:Int):=by omega
  have k7:((g:Int) + 1).toNat = g + 1:=by omega
  have hwrap:IntKind.i64.wrap ((g:Int) + 1) = (g:Int) + 1:=IntWalk.i64_in _ (by omega)
  have hlt1:w.heap.size < W3.heap.size:=by omega
  clear hf hk1 hk2 hk3 hk4 hy hT hykl z1 z1u z3 z4 z5 hg hbig
  unfold val6 zero6 at hW3
  unfold val6
  cases yK with
  | none =>
    exfalso
    have:=hknil rfl
    omega
  | some ky =>
    by_cases hdg:yd = g + 1
    · subst hdg
      obtain rfl:ym = g + 1:=by omega
      rw [hW3] at p0 p1 p2 p3 p4 p5 pf
      go_enter Try.func111,Try.ntmps111
      go_upto_region 2 with fail
      rw [← hW3]
      rw [← hW3] at p0 p1 p2 p3 p4 p5 pf
      clear hW3
      go_upto_region 4 with (first
        | (at_builtin;refine appN rfl (.tmp 12) (.tmp 17) rfl W3.heap.size v4 (0 + g) ([] ++ (ks.take g).flatMap KV.cells) ⟨_,_,_,(ks.drop (g + 1)).flatMap KV.cells⟩ rfl ho4'.out rfl (by have h9:=(hP.out _ (z4'.out.trans (hb4'.out.mono z4'.out.size))).drop hkl.out (Nat.le_refl (g + 1));rw [restA_same] at h9;simpa using h9) (by dsimp only;omega) (hb4'.out.size) (Below.refl _ _) ?_;intro v7 w7 ho7 hb7;obtain ⟨n8,hn8⟩:∃ n8:Nat,n8 = ((0 + g) + (0)):=⟨_,rfl⟩;have ho7n:w7.ownsRow W3.heap.size 33 6 v7 n8 (([] ++ (ks.take g).flatMap KV.cells) ++ (ks.drop (g + 1)).flatMap KV.cells):=(by rw [hn8];exact ho7);obtain ⟨A8,c8,rfl,-⟩:=own_form ho7n;have ho7':=Lib.hid ho7n;have hn8':=Lib.hid hn8;have hb7':=Lib.hid (show Below W3.heap.size W3 w7 from hb4'.out.trans hb7);clear ho7 ho7n hn8 hb7;have c0:=(hb7'.out.block _ hlt1).trans z1'.out;unfold val6 at c0;clear p0 p1 p2 p3 p4 p5 pf;obtain ⟨p0,p1,p2,p3,p4,p5,pf⟩:=six_cells c0;clear c0)
        | (at_builtin;refine appN rfl (.tmp 6) (.tmp 10) rfl W3.heap.size (.slice none 0 0) 0 [] ⟨some ky,g,(g + 1),(ks.take g).flatMap KV.cells⟩ rfl (World.ownsRow_nil _ _ _ _) rfl ((hP.out W3 z4'.out).take hkl.out hgn) (by show 0 + g≤1000000;omega) (Nat.le_refl _) (Below.refl _ _) ?_;intro v4 w4 ho4 hb4;have ho4':=Lib.hid ho4;have hb4':=Lib.hid hb4;have c0:=(hb4.block _ hlt1).trans z1'.out;unfold val6 at c0;clear p0 p1 p2 p3 p4 p5 pf;obtain ⟨p0,p1,p2,p3,p4,p5,pf⟩:=six_cells c0;clear ho4 hb4 c0))
      have hrow:=row_stored (b:=w.heap.size) (n:=n8) (kvs:=(ks.take g ++ ks.drop (g + 1))) hT'.out hlt1 (Nat.le_refl _) z4'.out hb7'.out hy'.out (fun k hk=>by
        rw [List.mem_append] at hk
        rcases hk with hk | hk
        · exact hkok.out k (List.mem_of_mem_take hk)
        · exact hkok.out k (List.mem_of_mem_drop hk)) (by have h1:=ho7'.out;simp only [List.nil_append,List.append_assoc] at h1;rw [List.flatMap_append];exact h1) (by rw [List.length_append,List.length_take,List.length_drop,hkl.out];have:=hn8'.out;omega)
      have hmp:((ks.take g ++ ks.drop (g + 1))).map KV.t = delK g y.kids:=by unfold delK;rw [← hks.out,List.map_append,List.map_take,List.map_drop]
      rw [hmp] at hrow
      have hs7:=hb7'.out.size
      have hlt7:w.heap.size < w7.heap.size:=by omega
      have hc7:=(hb7'.out.block _ hlt1).trans z1'.out
      unfold val6 at hc7
      have g1:=Lib.hid (heap_setCell_same w7 w.heap.size 5 _ _ (.slice A8 n8 c8) hc7)
      have g3:=Lib.hid (show (w7.setCell ⟨w.heap.size,5,none⟩ (.slice A8 n8 c8)).heap[w.heap.size + 1]? = some (.cells zero6 33 (0,0)) from (heap_setCell_other _ _ _ _ (by show w.heap.size + 1 ≠ w.heap.size;omega)).trans ((hb7'.out.block _ (by have:=z5'.out;omega)).trans z3'.out))
      have b8:=Lib.hid (show Below w.heap.size w (w7.setCell ⟨w.heap.size,5,none⟩ (.slice A8 n8 c8)) from (z4'.out.trans (hb7'.out.mono z4'.out.size)).setCell (show w.heap.size≤w.heap.size from Nat.le_refl _) _)
      have hs8:(w7.setCell ⟨w.heap.size,5,none⟩ (.slice A8 n8 c8)).heap.size = w7.heap.size:=by simp
      generalize w7.setCell ⟨w.heap.size,5,none⟩ (.slice A8 n8 c8) = W8 at hrow g1 g3 b8 hs8 ⊢
      rw [← hs8] at hrow
      have hrow':=Lib.hid hrow
      clear hrow hmp hc7 p0 p1 p2 p3 p4 p5 pf
      have g1u:=g1.out
      simp only [List.setIfInBounds_toArray,List.set_cons_zero,List.set_cons_succ] at g1u
      obtain ⟨p0,p1,p2,p3,p4,p5,pf⟩:=six_cells g1u
      have g3u:=g3.out
      unfold zero6 at g3u
      obtain ⟨f0,f1,f2,f3,f4,f5,ff⟩:=six_cells g3u
      clear g1u g3u
      have hne8:w.heap.size ≠ w.heap.size + 1:=by omega
      have hne9:w.heap.size + 1 ≠ w.heap.size:=by omega
      go_wp2_with fail
      have we:=with_id y (delK g y.kids)
      obtain ⟨W9,hW9,R9,N9,B9⟩:=end_node0 hT'.out (r:=w.heap.size + 1) (b:=W3.heap.size) (by omega) (by have:=z5'.out;omega) b8.out g3.out hrow'.out
      rw [we.1,we.2.1,we.2.2.1,we.2.2.2.1] at hW9
      rw [← hW9]
      unfold val6 at R9
      rw [we.1,we.2.1,we.2.2.1,we.2.2.2.1] at R9
      obtain ⟨d0,d1,d2,d3,d4,d5,df⟩:=six_cells R9
      refine bodyPost_ret (v:=.agg (val6 (y.withKids (delK g y.kids)) yA yn yc A8 n8 c8)) (by unfold val6;rw [we.1,we.2.1,we.2.2.1,we.2.2.2.1];simp [results,Try.results111,go_sem,d0,d1,d2,d3,d4,d5]) rfl ?_
      exact ⟨yA,yn,yc,A8,_,c8,rfl,N9,B9⟩
    · have hdg2:(yd = g + 1) = False:=eq_false hdg
      rw [hW3] at p0 p1 p2 p3 p4 p5 pf
      go_enter Try.func111,Try.ntmps111
      go_upto_region 2 with fail
      rw [← hW3]
      rw [← hW3] at p0 p1 p2 p3 p4 p5 pf
      clear hW3
      go_upto_region 4 with (first
        | (at_builtin;refine appN rfl (.tmp 12) (.tmp 17) rfl W3.heap.size v4 (0 + g) ([] ++ (ks.take g).flatMap KV.cells) ⟨_,_,_,(ks.drop (g + 1)).flatMap KV.cells⟩ rfl ho4'.out rfl (by have h9:=(hP.out _ (z4'.out.trans (hb4'.out.mono z4'.out.size))).drop hkl.out hgl;rw [restA_ne hdg] at h9;exact h9) (by dsimp only;omega) (hb4'.out.size) (Below.refl _ _) ?_;intro v7 w7 ho7 hb7;obtain ⟨n8,hn8⟩:∃ n8:Nat,n8 = ((0 + g) + (ym - (g + 1))):=⟨_,rfl⟩;have ho7n:w7.ownsRow W3.heap.size 33 6 v7 n8 (([] ++ (ks.take g).flatMap KV.cells) ++ (ks.drop (g + 1)).flatMap KV.cells):=(by rw [hn8];exact ho7);obtain ⟨A8,c8,rfl,-⟩:=own_form ho7n;have ho7':=Lib.hid ho7n;have hn8':=Lib.hid hn8;have hb7':=Lib.hid (show Below W3.heap.size W3 w7 from hb4'.out.trans hb7);clear ho7 ho7n hn8 hb7;have c0:=(hb7'.out.block _ hlt1).trans z1'.out;unfold val6 at c0;clear p0 p1 p2 p3 p4 p5 pf;obtain ⟨p0,p1,p2,p3,p4,p5,pf⟩:=six_cells c0;clear c0)
        | (at_builtin;refine appN rfl (.tmp 6) (.tmp 10) rfl W3.heap.size (.slice none 0 0) 0 [] ⟨some ky,g,yd,(ks.take g).flatMap KV.cells⟩ rfl (World.ownsRow_nil _ _ _ _) rfl ((hP.out W3 z4'.out).take hkl.out hgn) (by show 0 + g≤1000000;omega) (Nat.le_refl _) (Below.refl _ _) ?_;intro v4 w4 ho4 hb4;have ho4':=Lib.hid ho4;have hb4':=Lib.hid hb4;have c0:=(hb4.block _ hlt1).trans z1'.out;unfold val6 at c0;clear p0 p1 p2 p3 p4 p5 pf;obtain ⟨p0,p1,p2,p3,p4,p5,pf⟩:=six_cells c0;clear ho4 hb4 c0))
      have hrow:=row_stored (b:=w.heap.size) (n:=n8) (kvs:=(ks.take g ++ ks.drop (g + 1))) hT'.out hlt1 (Nat.le_refl _) z4'.out hb7'.out hy'.out (fun k hk=>by
        rw [List.mem_append] at hk
        rcases hk with hk | hk
        · exact hkok.out k (List.mem_of_mem_take hk)
        · exact hkok.out k (List.mem_of_mem_drop hk)) (by have h1:=ho7'.out;simp only [List.nil_append,List.append_assoc] at h1;rw [List.flatMap_append];exact h1) (by rw [List.length_append,List.length_take,List.length_drop,hkl.out];have:=hn8'.out;omega)
      have hmp:((ks.take g ++ ks.drop (g + 1))).map KV.t = delK g y.kids:=by unfold delK;rw [← hks.out,List.map_append,List.map_take,List.map_drop]
      rw [hmp] at hrow
      have hs7:=hb7'.out.size
      have hlt7:w.heap.size < w7.heap.size:=by omega
      have hc7:=(hb7'.out.block _ hlt1).trans z1'.out
      unfold val6 at hc7
      have g1:=Lib.hid (heap_setCell_same w7 w.heap.size 5 _ _ (.slice A8 n8 c8) hc7)
      have g3:=Lib.hid (show (w7.setCell ⟨w.heap.size,5,none⟩ (.slice A8 n8 c8)).heap[w.heap.size + 1]? = some (.cells zero6 33 (0,0)) from (heap_setCell_other _ _ _ _ (by show w.heap.size + 1 ≠ w.heap.size;omega)).trans ((hb7'.out.block _ (by have:=z5'.out;omega)).trans z3'.out))
      have b8:=Lib.hid (show Below w.heap.size w (w7.setCell ⟨w.heap.size,5,none⟩ (.slice A8 n8 c8)) from (z4'.out.trans (hb7'.out.mono z4'.out.size)).setCell (show w.heap.size≤w.heap.size from Nat.le_refl _) _)
      have hs8:(w7.setCell ⟨w.heap.size,5,none⟩ (.slice A8 n8 c8)).heap.size = w7.heap.size:=by simp
      generalize w7.setCell ⟨w.heap.size,5,none⟩ (.slice A8 n8 c8) = W8 at hrow g1 g3 b8 hs8 ⊢
      rw [← hs8] at hrow
      have hrow':=Lib.hid hrow
      clear hrow hmp hc7 p0 p1 p2 p3 p4 p5 pf
      have g1u:=g1.out
      simp only [List.setIfInBounds_toArray,List.set_cons_zero,List.set_cons_succ] at g1u
      obtain ⟨p0,p1,p2,p3,p4,p5,pf⟩:=six_cells g1u
      have g3u:=g3.out
      unfold zero6 at g3u
      obtain ⟨f0,f1,f2,f3,f4,f5,ff⟩:=six_cells g3u
      clear g1u g3u
      have hne8:w.heap.size ≠ w.heap.size + 1:=by omega
      have hne9:w.heap.size + 1 ≠ w.heap.size:=by omega
      go_wp2_with fail
      have we:=with_id y (delK g y.kids)
      obtain ⟨W9,hW9,R9,N9,B9⟩:=end_node0 hT'.out (r:=w.heap.size + 1) (b:=W3.heap.size) (by omega) (by have:=z5'.out;omega) b8.out g3.out hrow'.out
      rw [we.1,we.2.1,we.2.2.1,we.2.2.2.1] at hW9
      rw [← hW9]
      unfold val6 at R9
      rw [we.1,we.2.1,we.2.2.1,we.2.2.2.1] at R9
      obtain ⟨d0,d1,d2,d3,d4,d5,df⟩:=six_cells R9
      refine bodyPost_ret (v:=.agg (val6 (y.withKids (delK g y.kids)) yA yn yc A8 n8 c8)) (by unfold val6;rw [we.1,we.2.1,we.2.2.1,we.2.2.2.1];simp [results,Try.results111,go_sem,d0,d1,d2,d3,d4,d5]) rfl ?_
      exact ⟨yA,yn,yc,A8,_,c8,rfl,N9,B9⟩
end Go.Proofs.Ytmipodnffhngaaa.Top
