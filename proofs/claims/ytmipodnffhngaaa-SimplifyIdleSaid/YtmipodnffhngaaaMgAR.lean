/- MgAR: TopPm TopW TopX TopEa TopDe TopDf TopXa TopXb -/
import Derived.Test.YtmipodnffhngaaaMgAL
import Derived.Test.YtmipodnffhngaaaMgAQ
import Derived.Deep.CutRange
import Derived.Deep.CutBlock
import Derived.Test.YtmipodnffhngaaaMgAJ
import Derived.Test.YtmipodnffhngaaaMgAK
import Derived.Test.YtmipodnffhngaaaMgAN
set_option linter.all false
namespace Go.Proofs.Ytmipodnffhngaaa.Top
open Go.RowKit
set_option maxRecDepth 20000
set_option linter.unusedVariables false

theorem at_parent:∀ (q:List Int) (t x:Nd) (c:Int),atV t (q ++ [c]) = some x→∃ y j,atV t q = some y∧c = (j:Nat)∧y.kids[j]? = some x
  | [],t,x,c,h=>by
    obtain ⟨j,k,rfl,hk,hx⟩:=atV_cons h
    simp only [atV,Option.some.injEq] at hx
    subst hx
    exact ⟨t,j,rfl,rfl,hk⟩
  | i :: q,t,x,c,h=>by
    obtain ⟨j,k,rfl,hk,hx⟩:=atV_cons h
    obtain ⟨y,m,h1,h2,h3⟩:=at_parent q k x c hx
    exact ⟨y,m,by rw [atV_nat hk];exact h1,h2,h3⟩
theorem del_all {t x:Nd} {q:List Int} {c:Nat} (h:atV t (q ++ [(c:Int)]) = some x):∃ y m,atV t q = some y∧c < y.kids.length∧putV t q (y.withKids (delK c y.kids)) = some m∧delAt t (q ++ [(c:Int)]) = some m∧weighV m≤weighV t:=by
  obtain ⟨y,j,h1,h2,h3⟩:=at_parent q t x _ h
  obtain rfl:c = j:=by omega
  obtain ⟨m,p1,-,-,-,p5⟩:=put_all q t (y.withKids (delK c y.kids)) y h1
  have hw:=weighV_with y (delK c y.kids)
  have hd:=weighs_del c y.kids
  refine ⟨y,m,h1,(List.getElem?_eq_some_iff.1 h3).1,p1,?_,by omega⟩
  rw [delAt_snoc,mod_at h1]
  exact p1
set_option maxHeartbeats 4000000 in
theorem moved_T (T:Nat→Prop) (w:World) (hT:∀ k,T k→k < w.heap.size) (t x y m2 y2:Nd) (aA kA:Option Addr) (an ac kn kc:Nat) (h:NodeV T w aA an ac kA kn kc t) (o:Ov) (s:OS) (ho:OpIn w o s) (q:List Int) (c:Nat) (hq:o.path = q ++ [(c:Int)]) (hbig:weighV t≤40000)
    (hx:atV t o.path = some x) (hy:atV t o.to_ = some y) (g:Nat) (hg:o.at_ = (g:Int)) (hg1:g≤1048576) (hmay:P4.mayV o.to_ = true) (hm2:delAt t o.path = some m2) (hy2:atV m2 (progTo o.path o.to_ g).1 = some y2) (hg2:(progTo o.path o.to_ g).2≤y2.kids.length) :
    Calls Try.prog 106 #[.agg (val6 t aA an ac kA kn kc),.agg (opCells o s)] w (NodeA T w ((putV m2 (progTo o.path o.to_ g).1 (y2.withKids (insK (progTo o.path o.to_ g).2 x y2.kids))).getD Nd.zero)):=by
  obtain ⟨z1,z2,z3,z4,z5⟩:=three_new w (.cells (val6 t aA an ac kA kn kc) 33) (.cells (opCells o s) 26) (.cells zero6 33)
  obtain ⟨W3,hW3⟩:∃ W3,W3 = ((w.alloc (.cells (val6 t aA an ac kA kn kc) 33)).alloc (.cells (opCells o s) 26)).alloc (.cells zero6 33):=⟨_,rfl⟩
  rw [← hW3] at z1 z2 z3 z4 z5
  have hT3:∀ k,T k→k < W3.heap.size:=fun k hk=>by have:=hT k hk;omega
  have hpm:=Nat.le_trans ho.pnc ho.pcm
  have hatc:=Lib.hid (at_T T W3 hT3 t aA kA an ac kn kc (h.kept (fun _ h=>h) fun k hk=>z4.block k (hT k hk)) s.pA s.pn s.pc o.path (ho.path.below z4) hpm (by omega))
  have hh:=Lib.hid (fun (W:World) (hb:Below w.heap.size w W)=>h.kept (w':=W) (T':=T) (fun _ h=>h) fun k hk=>hb.block k (hT k hk))
  have hop:=Lib.hid (fun (W:World) (hb:Below w.heap.size w W)=>ho.below hb)
  have hpar:=Lib.hid (fun (W:World) (hb:Below w.heap.size w W)=>parent_c W s.pA s.pn s.pc q (c:Int) (hq ▸ ho.path.below hb) ho.pnil ho.pfew ho.pnc ho.pcm)
  have hxw:=(at_count o.path t x hx).2
  obtain ⟨o0,o1,o2,o3,o4,o5,o6,o7,o8,o9,o10⟩:=op_cells z2
  have z1u:=z1
  unfold val6 at z1u
  obtain ⟨p0,p1,p2,p3,p4,p5,pf⟩:=six_cells z1u
  have z1':=Lib.hid z1
  have z2':=Lib.hid z2
  have z3':=Lib.hid z3
  have z4':=Lib.hid z4
  have z5':=Lib.hid z5
  have hT':=Lib.hid hT
  have hx':=Lib.hid hx
  have hbig':=Lib.hid hbig
  have hxw':=Lib.hid hxw
  have hpm':=Lib.hid hpm
  have hg':=Lib.hid hg
  have hq':=Lib.hid hq
  have hm2':=Lib.hid hm2
  have hmay':=Lib.hid hmay
  have hy2':=Lib.hid hy2
  have hg2':=Lib.hid hg2
  rw [hW3] at o0 o1 o2 o3 o4 o5 o6 o7 o8 o9 o10 p0 p1 p2 p3 p4 p5 pf hatc
  clear h ho hT hT3 z1 z1u z2 z3 z4 z5 hx hbig hxw hpm hg hq hm2 hmay hy hy2 hg2
  unfold zero6 val6 opCells at hW3 hatc o0 o1 o2 o3 o4 o5 o6 o7 o8 o9 o10 p0 p1 p2 p3 p4 p5 pf
  unfold val6 opCells
  rw [hg'.out] at hW3 hatc o2 ⊢
  go_enter Try.func106,Try.ntmps106
  go_wp2_with (first
    | (go_at_call 36;go_loud (refine hatc.out.mono ?_;rw [← hW3];rintro e w1 ⟨yA,yn,yc,yK,ym,yd,rfl,hny,hb⟩;rw [hx'.out] at hny ⊢;have hny':=Lib.hid hny;have hb':=Lib.hid hb;have r1:=(hb.block _ (by have:=z5'.out;omega)).trans z1'.out;have r2:=(hb.block _ (by have:=z5'.out;omega)).trans z2'.out;have r1':=Lib.hid r1;have r2':=Lib.hid r2;clear o0 o1 o2 o3 o4 o5 o6 o7 o8 o9 o10 p0 p1 p2 p3 p4 p5 pf;obtain ⟨o0,o1,o2,o3,o4,o5,o6,o7,o8,o9,o10⟩:=op_cells r2;have hs1:w.heap.size + 1 + 1 < w1.heap.size:=(by have:=hb.size;have:=z5'.out;omega);have hq0:w1.heap.size ≠ w.heap.size:=(by omega);have hq1:w1.heap.size ≠ w.heap.size + 1:=(by omega);have hq2:w.heap.size ≠ w1.heap.size:=(by omega);have hq3:w.heap.size + 1 ≠ w1.heap.size:=(by omega);have hq4:w.heap.size + 1 < w1.heap.size:=(by omega);have hq5:w.heap.size < w1.heap.size:=(by omega);have u1:=fun O=>(World.cell?_alloc_lt w1 O ⟨w.heap.size + 1,1,none⟩ hq4).trans o1;clear hny hb r1 r2;unfold val6))
    | (go_at_call 118;go_loud (refine (hpar.out _ ((z4'.out.trans (hb'.out.mono z4'.out.size)).alloc (by omega) _)).mono ?_;rintro e w2 ⟨qA,qn,qc,rfl,hits,hqc,hqm,hqnil,hb2⟩;have r9:=(hb2.block w1.heap.size (by rw [World.size_alloc];omega)).trans (heap_alloc_new w1 _);have r9':=Lib.hid r9;have hsz2:w1.heap.size < w2.heap.size:=(by have:=hb2.size;rw [World.size_alloc] at this;omega);have r1:=(hb2.block w.heap.size (by rw [World.size_alloc];omega)).trans ((Go.heap_alloc_old w1 _ hq5).trans r1'.out);have r2:=(hb2.block (w.heap.size + 1) (by rw [World.size_alloc];omega)).trans ((Go.heap_alloc_old w1 _ hq4).trans r2'.out);have k2:=Lib.hid (fun k (hk:k < w1.heap.size)=>(hb2.block k (by rw [World.size_alloc];omega)).trans (Go.heap_alloc_old w1 _ hk));have bw2:=Lib.hid (((z4'.out.trans (hb'.out.mono z4'.out.size)).alloc (by omega) _).trans (hb2.mono (by rw [World.size_alloc];omega)));have q1':=Lib.hid r1;have q2':=Lib.hid r2;have hits':=Lib.hid hits;clear o0 o1 o2 o3 o4 o5 o6 o7 o8 o9 o10 u1;obtain ⟨o0,o1,o2,o3,o4,o5,o6,o7,o8,o9,o10⟩:=op_cells r2;rw [hg'.out] at o2;clear hb2 r1 r2 r9 hits)))
  rename_i K0 hK0
  go_quiet (fail)
  refine hK0 _ _ ?_
  clear hK0
  obtain ⟨W4,hW4⟩:∃ W4,W4 = w2.drewN nq:=⟨_,rfl⟩
  have bw4:=Lib.hid (show Below w.heap.size w W4 by rw [hW4];exact draws bw2.out _)
  have k4:=Lib.hid (fun k (hk:k < w1.heap.size)=>show W4.heap[k]? = w1.heap[k]? by rw [hW4];exact k2.out k hk)
  have q1:=Lib.hid (show W4.heap[w.heap.size]? = some (.cells (val6 t aA an ac kA kn kc) 33 (0,0)) by rw [hW4];exact q1'.out)
  have q2:=Lib.hid (show W4.heap[w.heap.size + 1]? = some (.cells (opCells o s) 26 (0,0)) by rw [hW4];exact q2'.out)
  have q9:=Lib.hid (show W4.heap[w1.heap.size]? = some (.cells (val6 x yA yn yc yK ym yd) 33 (0,0)) by rw [hW4];exact r9'.out)
  have hit4:=Lib.hid (show Its W4 qA qn q by rw [hW4];exact hits'.out.below (draws (Below.refl _ _) _))
  have hsz4:w1.heap.size < W4.heap.size:=by rw [hW4];exact hsz2
  rw [← hW4]
  have hop':=Lib.hid hop.out
  clear hW4 o0 o1 o2 o3 o4 o5 o6 o7 o8 o9 o10 hpar hatc hop
  go_upto_block 0 with fail
  go_cut [10,11] from 31 (fun v10 v11 wc=>∃ (A:Option Addr) (n c:Nat),v10 = .slice A n c∧v11 = .int .i64 ((progTo o.path o.to_ g).2:Int)∧Its wc A n (progTo o.path o.to_ g).1∧n≤maxLen∧Below W4.heap.size W4 wc)
  case first =>
    have hto:=Lib.hid (hop'.out W4 bw4.out).to_
    have htoL:=Lib.hid hto.out.1
    have htm:s.tn≤maxLen:=Nat.le_trans (hop'.out W4 bw4.out).tnc (hop'.out W4 bw4.out).tcm
    have htnil:=Lib.hid (hop'.out W4 bw4.out).tnil
    have hqL:=Lib.hid hit4.out.1
    have hqn2:qn≤maxLen:=Nat.le_trans hqc hqm
    clear z1' z2' z3' z4' z5' hx' hy2' hg2' hm2' hny' hb' k4 q1 q2 q9 hxw' hbig' hh r9' q1' q2' bw2 k2 hits'
    have hsame:=Lib.hid (P4.same_any W4 qA s.tA qn qc s.tn s.tc q o.to_ (its4 hit4.out) (its4 hto.out) hqn2)
    by_cases he:q = o.to_
    · have hs1:=Lib.hid (show P4.eqV q o.to_ = true from decide_eq_true he)
      rw [hs1.out] at hsame
      have hpt:=Lib.hid (show progTo o.path o.to_ g = (o.to_,if (c:Int) < (g:Int) then g - 1 else g) by rw [hq'.out,← he,progTo_same])
      clear he
      by_cases hcg:(c:Int) < (g:Int)
      · have hw1:IntKind.i64.wrap ((g:Int) - 1) = (g:Int) - 1:=IntWalk.i64_in _ (by omega)
        have hg3:=Lib.hid (show ((g - 1:Nat):Int) = (g:Int) - 1 by omega)
        go_wp2_with (go_at_call 75;go_loud (refine hsame.out.mono ?_;rintro e w5 ⟨rfl,k5,rfl⟩))
        go_meet
        rw [hpt.out,if_pos hcg]
        exact ⟨_,_,_,rfl,by rw [hg3.out],hto.out.below (draws (Below.refl _ _) _),htm,draws (Below.refl _ _) _⟩
      · go_wp2_with (go_at_call 75;go_loud (refine hsame.out.mono ?_;rintro e w5 ⟨rfl,k5,rfl⟩))
        go_meet
        rw [hpt.out,if_neg (show ¬ (c:Int) < (g:Int) by omega)]
        exact ⟨_,_,_,rfl,rfl,hto.out.below (draws (Below.refl _ _) _),htm,draws (Below.refl _ _) _⟩
    · have hs1:=Lib.hid (show P4.eqV q o.to_ = false from decide_eq_false he)
      rw [hs1.out] at hsame
      have hwith:=Lib.hid (fun (W:World) (hb:Below W4.heap.size W4 W)=>P4.within_any W qA s.tA qn qc s.tn s.tc q o.to_ (its4 (hit4.out.below hb)) (its4 (hto.out.below hb)) hqn2 htm)
      by_cases hpre:q <+: o.to_
      · have hw2:=Lib.hid (show P4.withinV q o.to_ = true by rw [within_pre];exact decide_eq_true hpre)
        rw [hw2.out] at hwith
        obtain ⟨r,hr⟩:=hpre
        cases r with
        | nil=>exact absurd (by simpa using hr) he
        | cons e r =>
          have hpt:=Lib.hid (show progTo o.path o.to_ g = (q ++ (if (c:Int) < e then e - 1 else e) :: r,g) by rw [hq'.out,← hr,progTo_in])
          have hr':=Lib.hid hr
          clear he hr
          have hlen:=congrArg List.length hr'.out
          rw [List.length_append,List.length_cons,htoL.out,hqL.out] at hlen
          have hqt:qn < s.tn:=by omega
          obtain ⟨ad,e2,hta,he2,hce⟩:=hto.out.at_ hqt
          have hee:e2 = e:=by
            rw [← hr'.out,List.getElem?_append_right (by have:=hqL.out;omega),hqL.out,Nat.sub_self] at he2
            exact (Option.some.inj he2).symm
          subst hee
          have hqtI:(qn:Int) < (s.tn:Int):=by omega
          have hce':=Lib.hid hce
          clear he2 hlen hqt hce
          by_cases hcg:(c:Int) < e2
          · have hshl:=Lib.hid (fun (W:World) (hb:Below W4.heap.size W4 W)=>shift_less W s.tA s.tn s.tc q r e2 (by rw [hr'.out];exact hto.out.below hb) htnil.out (by rw [hr'.out];exact hmay'.out) (by omega) qn hqL.out)
            rw [hta] at hsame hwith hshl
            go_wp2_with (first
              | (go_at_call 75;go_loud (refine hsame.out.mono ?_;rintro e w5 ⟨rfl,k5,rfl⟩))
              | (go_at_call 98;go_loud (refine (hwith.out _ (draws (Below.refl _ _) _)).mono ?_;rintro e w6 ⟨rfl,k6,hw6⟩;have hce6:w6.cell? (ad.add qn) = some (.int .i64 e2):=(by rw [hw6];exact hce'.out);have hbl6:Below W4.heap.size W4 w6:=(by rw [hw6];exact draws (draws (Below.refl _ _) _) _);clear hw6))
              | (go_at_call 132;go_loud (refine (hshl.out _ hbl6).mono ?_;rintro e w7 ⟨A7,n7,c7,rfl,hi7,hnc7,hcm7,hb7⟩)))
            rw [← hta]
            go_meet
            rw [hpt.out,if_pos hcg]
            exact ⟨_,_,_,rfl,rfl,hi7,Nat.le_trans hnc7 hcm7,hbl6.trans (hb7.mono hbl6.size)⟩
          · rw [hta] at hsame hwith
            go_wp2_with (first
              | (go_at_call 75;go_loud (refine hsame.out.mono ?_;rintro e w5 ⟨rfl,k5,rfl⟩))
              | (go_at_call 98;go_loud (refine (hwith.out _ (draws (Below.refl _ _) _)).mono ?_;rintro e w6 ⟨rfl,k6,hw6⟩;have hce6:w6.cell? (ad.add qn) = some (.int .i64 e2):=(by rw [hw6];exact hce'.out);have hbl6:Below W4.heap.size W4 w6:=(by rw [hw6];exact draws (draws (Below.refl _ _) _) _);clear hw6)))
            rw [← hta]
            go_meet
            rw [hpt.out,if_neg (show ¬ (c:Int) < e2 by omega),hr'.out]
            exact ⟨_,_,_,rfl,rfl,hto.out.below hbl6,htm,hbl6⟩
      · have hw2:=Lib.hid (show P4.withinV q o.to_ = false by rw [within_pre];exact decide_eq_false hpre)
        rw [hw2.out] at hwith
        have hpt:=Lib.hid (show progTo o.path o.to_ g = (o.to_,g) by rw [hq'.out,progTo_out _ _ _ _ hpre])
        clear he hpre
        go_wp2_with (first
          | (go_at_call 75;go_loud (refine hsame.out.mono ?_;rintro e w5 ⟨rfl,k5,rfl⟩))
          | (go_at_call 98;go_loud (refine (hwith.out _ (draws (Below.refl _ _) _)).mono ?_;rintro e w6 ⟨rfl,k6,hw6⟩;have hbl6:Below W4.heap.size W4 w6:=(by rw [hw6];exact draws (draws (Below.refl _ _) _) _);clear hw6)))
        go_meet
        rw [hpt.out]
        exact ⟨_,_,_,rfl,rfl,hto.out.below hbl6,htm,hbl6⟩
  case rest =>
    obtain ⟨A,n,k,rfl,rfl,hit,hnm,hbc⟩:=hcut
    rename_i K1 hK1
    refine hK1 _ _ ?_
    clear hK1 K1
    have hlw1:w1.heap.size < wc.heap.size:=by have:=hbc.size;omega
    have bwc:=Lib.hid (bw4.out.trans (hbc.mono bw4.out.size))
    have b3c:=Lib.hid (show W3.heap.size≤wc.heap.size by have:=hb'.out.size;have:=hbc.size;omega)
    have b1c:=Lib.hid (show ∀ k,k < w1.heap.size→wc.heap[k]? = w1.heap[k]? from fun k hk=>(hbc.block k (by omega)).trans (k4.out k hk))
    have g1:=Lib.hid ((hbc.block w.heap.size (by omega)).trans q1.out)
    have g2:=Lib.hid ((hbc.block (w.heap.size + 1) (by omega)).trans q2.out)
    have g9:=Lib.hid ((hbc.block w1.heap.size hsz4).trans q9.out)
    have g3:=Lib.hid (show wc.heap[w.heap.size + 1 + 1]? = some (.cells zero6 33 (0,0)) from (b1c.out _ (by omega)).trans ((hb'.out.block _ (by have:=z5'.out;omega)).trans z3'.out))
    have hnx:=Lib.hid (hny'.out.kept (w':=wc) (T':=fun k=>T k∨(W3.heap.size≤k∧k < wc.heap.size)) (fun k hk=>by
      rcases hk with hk | hk
      · exact .inl hk
      · exact .inr ⟨hk.1,by have h2:=hk.2;omega⟩) (fun k hk=>b1c.out k (by
      rcases hk with hk | hk
      · have:=hT'.out k hk;omega
      · exact hk.2)))
    have hit':=Lib.hid hit
    obtain ⟨to2,hto2⟩:∃ a,a = (progTo o.path o.to_ g).1:=⟨_,rfl⟩
    obtain ⟨g4,hg4⟩:∃ a,a = (progTo o.path o.to_ g).2:=⟨_,rfl⟩
    rw [← hto2,← hg4]
    rw [← hto2] at hit' hy2'
    rw [← hg4] at hg2'
    have hpx:=hx'.out
    rw [hq'.out] at hpx
    obtain ⟨y0,m,d1,d2,d3,d4,d5⟩:=del_all hpx
    have hmm:m = m2:=by
      have:=hm2'.out
      rw [hq'.out,d4] at this
      exact Option.some.inj this
    subst hmm
    have htk:=Lib.hid (fun (W:World) (hb:Below w.heap.size w W)=>takenOut_T T W (fun k hk=>Nat.lt_of_lt_of_le (hT'.out k hk) hb.size) t y0 aA kA an ac kn kc (hh.out W hb) s.pA s.pn s.pc q c (hq'.out ▸ (hop'.out W hb).path) (hop'.out W hb).pnil (hop'.out W hb).pfew (hop'.out W hb).pnc (hop'.out W hb).pcm (by have:=hbig'.out;omega) d1 d2)
    rw [d3] at htk
    have hpi:=Lib.hid (fun (W:World) (T2:Nat→Prop) (hT2:∀ k,T2 k→k < W.heap.size) (zA zK:Option Addr) (zn zc zm zd:Nat) (hz:NodeV T2 W zA zn zc zK zm zd m) (hx2:NodeV T2 W yA yn yc yK ym yd x) (hi2:Its W A n to2)=>putIn_T T2 W hT2 m x y2 zA zK yA yK zn zc zm zd yn yc ym yd hz hx2 A n k to2 hi2 hnm (by have:=hbig'.out;omega) (by have:=hbig'.out;have:=hxw'.out;omega) hy2'.out g4 hg2'.out)
    have g2':=g2.out
    have g1':=g1.out
    have g9':=g9.out
    unfold val6 at g1' g9'
    obtain ⟨p0,p1,p2,p3,p4,p5,pf⟩:=six_cells g1'
    obtain ⟨x0,x1,x2,x3,x4,x5,xf⟩:=six_cells g9'
    have s1:=(op_cells g2').2.1
    have hwne:w1.heap.size ≠ w.heap.size + 1 + 1:=by omega
    clear g1' g2' g9' hit hbc pf xf d1 d2 d3 d4 hpx hto2 hg4 hW3 hg2' hy2'
    unfold val6 at htk hpi
    have hst:=Lib.hid (fun (W:World) (hb:Below wc.heap.size wc W)=>show W.cell? ⟨w.heap.size,0,none⟩ = some (.int .u64 (t.id:Int))∧W.cell? ⟨w.heap.size,1,none⟩ = some (.bool t.leaf)∧W.cell? ⟨w.heap.size,2,none⟩ = some (.string ⟨t.label.toArray⟩)∧W.cell? ⟨w.heap.size,3,none⟩ = some (.slice aA an ac)∧W.cell? ⟨w.heap.size,4,none⟩ = some (.string ⟨t.text.toArray⟩)∧W.cell? ⟨w.heap.size,5,none⟩ = some (.slice kA kn kc)∧W.cell? ⟨w.heap.size + 1,1,none⟩ = some (.slice s.pA s.pn s.pc) ∧
      W.cell? ⟨w1.heap.size,0,none⟩ = some (.int .u64 (x.id:Int))∧W.cell? ⟨w1.heap.size,1,none⟩ = some (.bool x.leaf)∧W.cell? ⟨w1.heap.size,2,none⟩ = some (.string ⟨x.label.toArray⟩)∧W.cell? ⟨w1.heap.size,3,none⟩ = some (.slice yA yn yc)∧W.cell? ⟨w1.heap.size,4,none⟩ = some (.string ⟨x.text.toArray⟩)∧W.cell? ⟨w1.heap.size,5,none⟩ = some (.slice yK ym yd) from by
      have b0:=(hb.block w.heap.size (by omega)).trans g1.out
      have b9:=(hb.block w1.heap.size hlw1).trans g9.out
      have b1:=(op_cells ((hb.block (w.heap.size + 1) (by omega)).trans g2.out)).2.1
      unfold val6 at b0 b9
      obtain ⟨p0,p1,p2,p3,p4,p5,pf⟩:=six_cells b0
      obtain ⟨x0,x1,x2,x3,x4,x5,xf⟩:=six_cells b9
      exact ⟨p0,p1,p2,p3,p4,p5,b1,x0,x1,x2,x3,x4,x5⟩)
    go_upto_region 11 with fail
    rename_i K0 hK0
    refine wp_region_L (fun W=>Below wc.heap.size wc W) 8 rfl (Below.refl wc.heap.size wc).drew (fun hHeld=>?_)
    refine wpAnyL_take (i:=0) (oi:={ dst:=some 60,op:=Go.Op.load 33 (Go.Operand.tmp 2),type:=33,pos:="done.go:52",after:=#[],guard:=none }) (v:=?_) rfl (by kernel_rfl) (by kernel_rfl) (by kernel_rfl) (by kernel_rfl) (fun _ _ _ h=>h) (Or.inl ⟨by rfl,?_⟩) hHeld ?_
    rotate_left 1
    · intro W hSw;obtain ⟨e0,e1,e2,e3,e4,e5,e6,e7,e8,e9,e10,e11,e12⟩:=hst.out W hSw;go_simp;try with_reducible rfl
    try simp only [Act.put,List.setIfInBounds_toArray,List.set_cons_zero,List.set_cons_succ]
    refine wpAnyL_take (i:=1) (oi:={ dst:=some 61,op:=Go.Op.fieldAddr 26 (Go.Operand.tmp 3) 1,type:=0,pos:="done.go:52",after:=#[],guard:=none }) (v:=?_) rfl (by kernel_rfl) (by kernel_rfl) (by kernel_rfl) (by kernel_rfl) (fun _ _ _ h=>h) (Or.inl ⟨by rfl,?_⟩) hHeld ?_
    rotate_left 1
    · intro W hSw;obtain ⟨e0,e1,e2,e3,e4,e5,e6,e7,e8,e9,e10,e11,e12⟩:=hst.out W hSw;go_simp;try with_reducible rfl
    try simp only [Act.put,List.setIfInBounds_toArray,List.set_cons_zero,List.set_cons_succ]
    refine wpAnyL_take (i:=2) (oi:={ dst:=some 62,op:=Go.Op.load 22 (Go.Operand.tmp 61),type:=22,pos:="done.go:52",after:=#[{ on:=1,ground:=Go.Ground.data }],guard:=none }) (v:=?_) rfl (by kernel_rfl) (by kernel_rfl) (by kernel_rfl) (by kernel_rfl) (fun _ _ _ h=>h) (Or.inl ⟨by rfl,?_⟩) hHeld ?_
    rotate_left 1
    · intro W hSw;obtain ⟨e0,e1,e2,e3,e4,e5,e6,e7,e8,e9,e10,e11,e12⟩:=hst.out W hSw;go_simp;try with_reducible rfl
    try simp only [Act.put,List.setIfInBounds_toArray,List.set_cons_zero,List.set_cons_succ]
    refine wpAnyL_take (i:=4) (oi:={ dst:=some 64,op:=Go.Op.move (Go.Operand.tmp 10),type:=22,pos:="done.go:52",after:=#[],guard:=none }) (v:=?_) rfl (by kernel_rfl) (by kernel_rfl) (by kernel_rfl) (by kernel_rfl) (fun _ _ _ h=>h) (Or.inl ⟨by rfl,?_⟩) hHeld ?_
    rotate_left 1
    · intro W hSw;obtain ⟨e0,e1,e2,e3,e4,e5,e6,e7,e8,e9,e10,e11,e12⟩:=hst.out W hSw;go_simp;try with_reducible rfl
    try simp only [Act.put,List.setIfInBounds_toArray,List.set_cons_zero,List.set_cons_succ]
    refine wpAnyL_take (i:=5) (oi:={ dst:=some 65,op:=Go.Op.move (Go.Operand.tmp 11),type:=3,pos:="done.go:52",after:=#[],guard:=none }) (v:=?_) rfl (by kernel_rfl) (by kernel_rfl) (by kernel_rfl) (by kernel_rfl) (fun _ _ _ h=>h) (Or.inl ⟨by rfl,?_⟩) hHeld ?_
    rotate_left 1
    · intro W hSw;obtain ⟨e0,e1,e2,e3,e4,e5,e6,e7,e8,e9,e10,e11,e12⟩:=hst.out W hSw;go_simp;try with_reducible rfl
    try simp only [Act.put,List.setIfInBounds_toArray,List.set_cons_zero,List.set_cons_succ]
    refine wpAnyL_take (i:=6) (oi:={ dst:=some 66,op:=Go.Op.load 33 (Go.Operand.tmp 5),type:=33,pos:="done.go:52",after:=#[],guard:=none }) (v:=?_) rfl (by kernel_rfl) (by kernel_rfl) (by kernel_rfl) (by kernel_rfl) (fun _ _ _ h=>h) (Or.inl ⟨by rfl,?_⟩) hHeld ?_
    rotate_left 1
    · intro W hSw;obtain ⟨e0,e1,e2,e3,e4,e5,e6,e7,e8,e9,e10,e11,e12⟩:=hst.out W hSw;go_simp;try with_reducible rfl
    try simp only [Act.put,List.setIfInBounds_toArray,List.set_cons_zero,List.set_cons_succ]
    refine wpAnyL_one (i:=3) (o:={ dst:=some 63,op:=Go.Op.call { callee:=Go.Callee.value (Go.Operand.func 105),args:=#[Go.Operand.tmp 60,Go.Operand.tmp 62],argTypes:=#[33,22] },type:=33,pos:="done.go:52",after:=#[{ on:=0,ground:=Go.Ground.data },{ on:=2,ground:=Go.Ground.data }],guard:=none }) (by kernel_rfl) rfl (by decide) (fun K hK=>?_)
    go_simp
    refine (htk.out _ (bwc.out.drew)).mono ?_
    rintro e w5 ⟨zA,zn,zc,zK,zm,zd,rfl,hz,hb5⟩
    have b5c:=Lib.hid (show Below wc.heap.size wc w5 from (Below.refl wc.heap.size wc).drew.trans hb5)
    have hz5:=Lib.hid (hz.kept (w':=w5) (T':=fun k=>T k∨(W3.heap.size≤k∧k < w5.heap.size)) (fun k hk=>(by (rcases hk with hk | hk);(exact .inl hk);(exact .inr ⟨Nat.le_trans b3c.out hk.1,hk.2⟩))) (fun _ _=>rfl))
    unfold val6
    go_simp
    refine hK.out _ _ ?_ (fun hNew=>?_)
    · exact b5c.out
    clear hK K hHeld hz hb5
    have hHeld:=hNew
    clear hNew
    try simp only [Act.put,List.setIfInBounds_toArray,List.set_cons_zero,List.set_cons_succ]
    refine wpAnyL_one (i:=7) (o:={ dst:=some 67,op:=Go.Op.call { callee:=Go.Callee.value (Go.Operand.func 104),args:=#[Go.Operand.tmp 63,Go.Operand.tmp 64,Go.Operand.tmp 65,Go.Operand.tmp 66],argTypes:=#[33,22,3,33] },type:=33,pos:="done.go:52",after:=#[{ on:=3,ground:=Go.Ground.data },{ on:=4,ground:=Go.Ground.data },{ on:=5,ground:=Go.Ground.data },{ on:=6,ground:=Go.Ground.data },{ on:=3,ground:=Go.Ground.chain }],guard:=none }) (by kernel_rfl) rfl (by decide) (fun K hK=>?_)
    go_simp
    have hT5:=Lib.hid (show ∀ k,(T k∨(W3.heap.size≤k∧k < w5.heap.size))→k < w5.heap.size from fun k hk=>(by (rcases hk with hk | hk);(have:=hT'.out k hk;have:=b5c.out.size;omega);(exact hk.2)))
    have hx5:=Lib.hid (hnx.out.kept (w':=w5) (T':=fun k=>T k∨(W3.heap.size≤k∧k < w5.heap.size)) (fun k hk=>(by (rcases hk with hk | hk);(exact .inl hk);(exact .inr ⟨hk.1,Nat.lt_of_lt_of_le hk.2 b5c.out.size⟩))) (fun k hk=>b5c.out.block k (by (rcases hk with hk | hk);(have:=hT'.out k hk;omega);(exact hk.2))))
    have hi5:=Lib.hid (hit'.out.below b5c.out)
    refine (hpi.out w5 (fun k=>T k∨(W3.heap.size≤k∧k < w5.heap.size)) hT5.out zA zK zn zc zm zd hz5.out hx5.out hi5.out).mono ?_
    rintro e w6 ⟨eA,en,ec,eK,em,ed,rfl,he6,hb6⟩
    have b6c:=Lib.hid (b5c.out.trans (hb6.mono b5c.out.size))
    have he6':=Lib.hid he6
    have hsz56:=hb6.size
    unfold val6
    go_simp
    refine hK.out _ _ ?_ (fun hNew=>?_)
    · exact b6c.out
    clear hK K hHeld he6 hb6 hNew
    try simp only [Act.put,List.setIfInBounds_toArray,List.set_cons_zero,List.set_cons_succ]
    have r3:=Lib.hid ((b6c.out.block (w.heap.size + 1 + 1) (by omega)).trans g3.out)
    have r3u:=r3.out
    unfold zero6 at r3u
    obtain ⟨q0,q1,q2,q3,q4,q5,qf⟩:=six_cells r3u
    have hsz26:w.heap.size + 1 + 1 < w6.heap.size:=(Array.getElem?_eq_some_iff.1 r3u).1
    refine wpAnyL_last (o:={ dst:=none,op:=Go.Op.store 33 (Go.Operand.tmp 4) (Go.Operand.tmp 67),type:=0,pos:="done.go:52",after:=#[{ on:=7,ground:=Go.Ground.data },{ on:=7,ground:=Go.Ground.chain },{ on:=0,ground:=Go.Ground.phase },{ on:=1,ground:=Go.Ground.phase },{ on:=2,ground:=Go.Ground.phase },{ on:=3,ground:=Go.Ground.phase },{ on:=4,ground:=Go.Ground.phase },{ on:=5,ground:=Go.Ground.phase },{ on:=6,ground:=Go.Ground.phase },{ on:=7,ground:=Go.Ground.phase }],guard:=none }) (by kernel_rfl) rfl (fun K hK=>?_)
    go_simp
    refine hK _ _ ?_
    clear hK K
    try simp only [Act.put,List.setIfInBounds_toArray,List.set_cons_zero,List.set_cons_succ]
    refine wpAny_done (by kernel_rfl) ?_ _
    refine hK0 _ _ ?_
    clear hK0 K0
    have hz9:=Lib.hid (he6'.out.kept (w':=w6) (T':=fun k=>T k∨(W3.heap.size≤k∧k < w6.heap.size)) (fun k hk=>(by
      rcases hk with hk | hk
      · rcases hk with hk | hk
        · exact .inl hk
        · exact .inr ⟨hk.1,Nat.lt_of_lt_of_le hk.2 hsz56⟩
      · exact .inr ⟨Nat.le_trans (Nat.le_trans b3c.out b5c.out.size) hk.1,hk.2⟩)) (fun _ _=>rfl))
    clear he6'
    go_wp2_with fail
    obtain ⟨a,ha⟩:∃ a,a = (putV m to2 (y2.withKids (insK g4 x y2.kids))).getD Nd.zero:=⟨_,rfl⟩
    rw [← ha] at hz9 ⊢
    obtain ⟨W9,hW9,R9,N9,B9⟩:=end_node0 hT'.out (r:=w.heap.size + 1 + 1) (b:=W3.heap.size) (by omega) (by have:=z5'.out;omega) (bwc.out.trans (b6c.out.mono bwc.out.size)) r3.out hz9.out
    rw [← hW9]
    unfold val6 at R9
    obtain ⟨d0,d1,d2,d3,d4,d5,df⟩:=six_cells R9
    refine bodyPost_ret (v:=.agg (val6 a eA en ec eK em ed)) (by simp [results,Try.results106,go_sem,d0,d1,d2,d3,d4,d5,val6]) rfl ?_
    exact ⟨eA,en,ec,eK,em,ed,rfl,N9,B9⟩
end Go.Proofs.Ytmipodnffhngaaa.Top
namespace Go.Proofs.Ytmipodnffhngaaa.Top
open Go.RowKit
set_option maxRecDepth 20000
set_option linter.unusedVariables false

def attN:Nd→List (Txt × Txt)→Nd
  | .mk i f l _ x k,a=>.mk i f l a x k
theorem attN_id (y:Nd) (l:List (Txt × Txt)):(attN y l).id = y.id∧(attN y l).leaf = y.leaf∧(attN y l).label = y.label∧(attN y l).text = y.text∧(attN y l).attrs = l∧(attN y l).kids = y.kids:=by cases y;exact ⟨rfl,rfl,rfl,rfl,rfl,rfl⟩
theorem attN_weigh (y:Nd) (l:List (Txt × Txt)):weighV (attN y l) + attrsW y.attrs = weighV y + attrsW l:=by cases y;simp only [attN,weighV,Nd.attrs];omega
theorem attN_node {T:Nat→Prop} {w:World} {aA kA A:Option Addr} {an ac kn kc n c:Nat} {y:Nd} {l:List (Txt × Txt)} (h:NodeV T w aA an ac kA kn kc y) (hl:AtsIn T w A n l) (hnc:n≤c) (hcm:c≤maxLen) (hnil:A = none→c = 0):NodeV T w A n c kA kn kc (attN y l):=by
  have hf:=h.facts
  obtain ⟨e1,e2,e3,e4,e5,e6⟩:=attN_id y l
  exact NFacts.node ⟨by rw [e1];exact hf.id,by rw [e3];exact hf.label,by rw [e4];exact hf.text,by rw [e5];exact hl,hnc,hcm,hnil,by rw [e6];exact hf.kl,hf.knc,hf.kcm,hf.knil,by rw [e6];exact hf.row⟩
set_option maxHeartbeats 4000000 in
theorem done_move (T:Nat→Prop) (w:World) (hT:∀ k,T k→k < w.heap.size) (t x y m2 y2:Nd) (aA kA:Option Addr) (an ac kn kc:Nat) (h:NodeV T w aA an ac kA kn kc t) (o:Ov) (s:OS) (ho:OpIn w o s) (hk:o.kind = 3) (q:List Int) (c:Nat) (hq:o.path = q ++ [(c:Int)]) (hbig:weighV t≤40000)
    (hx:atV t o.path = some x) (hy:atV t o.to_ = some y) (g:Nat) (hg:o.at_ = (g:Int)) (hg1:g≤1048576) (hmay:P4.mayV o.to_ = true) (hm2:delAt t o.path = some m2) (hy2:atV m2 (progTo o.path o.to_ g).1 = some y2) (hg2:(progTo o.path o.to_ g).2≤y2.kids.length) :
    Calls Try.prog 66 #[.agg (val6 t aA an ac kA kn kc),.agg (opCells o s)] w (NodeA T w ((putV m2 (progTo o.path o.to_ g).1 (y2.withKids (insK (progTo o.path o.to_ g).2 x y2.kids))).getD Nd.zero)):=by
  obtain ⟨z1,z2,z3,z4,z5⟩:=three_new w (.cells (val6 t aA an ac kA kn kc) 33) (.cells (opCells o s) 26) (.cells zero6 33)
  obtain ⟨W3,hW3⟩:∃ W3,W3 = ((w.alloc (.cells (val6 t aA an ac kA kn kc) 33)).alloc (.cells (opCells o s) 26)).alloc (.cells zero6 33):=⟨_,rfl⟩
  rw [← hW3] at z1 z2 z3 z4 z5
  have hT3:∀ k,T k→k < W3.heap.size:=fun k hk=>by have:=hT k hk;omega
  have htk:=Lib.hid (moved_T T W3 hT3 t x y m2 y2 aA kA an ac kn kc (h.kept (fun _ h=>h) fun k hk=>z4.block k (hT k hk)) o s (ho.below z4) q c hq hbig hx hy g hg hg1 hmay hm2 hy2 hg2)
  obtain ⟨a,ha⟩:∃ a,a = (putV m2 (progTo o.path o.to_ g).1 (y2.withKids (insK (progTo o.path o.to_ g).2 x y2.kids))).getD Nd.zero:=⟨_,rfl⟩
  rw [← ha] at htk ⊢
  clear ha hx hg hg1 hmay hm2 hy2 hg2
  obtain ⟨o0,o1,o2,o3,o4,o5,o6,o7,o8,o9,o10⟩:=op_cells z2
  have z1u:=z1
  unfold val6 at z1u
  obtain ⟨p0,p1,p2,p3,p4,p5,pf⟩:=six_cells z1u
  have hkI:(o.kind:Int) = 3:=by omega
  have z3':=Lib.hid z3
  have z4':=Lib.hid z4
  have z5':=Lib.hid z5
  have hT':=Lib.hid hT
  have hkr:=ho.kind
  rw [hW3] at o0 o1 o2 o3 o4 o5 o6 o7 o8 o9 o10 p0 p1 p2 p3 p4 p5 pf htk
  clear h ho hT hT3 z1 z1u z2 z3 z4 z5 hk hq hy
  unfold zero6 val6 opCells at hW3 htk o0 o1 o2 o3 o4 o5 o6 o7 o8 o9 o10 p0 p1 p2 p3 p4 p5 pf
  unfold val6 opCells
  rw [hkI] at hW3 htk o0 o1 o2 o3 o4 o5 o6 o7 o8 o9 o10 p0 p1 p2 p3 p4 p5
  rw [hkI]
  clear hkI hkr
  go_enter Try.func66,Try.ntmps66
  go_wp2_with (go_at_call 106;go_loud (refine htk.out.mono ?_;rw [← hW3];rintro e w9 ⟨zA,zn,zc,zK,zm,zd,rfl,hz,hbz⟩;have r3:=(hbz.block _ (by have:=z5'.out;omega)).trans z3'.out;have hr:=Lib.hid r3;have hz':=Lib.hid hz;have hbz':=Lib.hid hbz;unfold zero6 at r3;obtain ⟨q0,q1,q2,q3,q4,q5,qf⟩:=six_cells r3;have hne:w.heap.size + 1 + 1 < w9.heap.size:=(Array.getElem?_eq_some_iff.1 r3).1;have hne2:w9.heap.size ≠ w.heap.size + 1 + 1:=(by omega);have hne3:w.heap.size + 1 + 1 ≠ w9.heap.size:=(by omega);unfold val6;clear hz hbz r3))
  obtain ⟨W9,hW9,R9,N9,B9⟩:=end_node0 hT'.out (r:=w.heap.size + 1 + 1) (b:=W3.heap.size) (by omega) (by have:=z5'.out;omega) (z4'.out.trans (hbz'.out.mono z4'.out.size)) hr.out hz'.out
  rw [← hW9]
  unfold val6 at R9
  obtain ⟨d0,d1,d2,d3,d4,d5,df⟩:=six_cells R9
  refine bodyPost_ret (v:=.agg (val6 a zA zn zc zK zm zd)) (by simp [results,Try.results66,go_sem,d0,d1,d2,d3,d4,d5,val6]) rfl ?_
  exact ⟨zA,zn,zc,zK,zm,zd,rfl,N9,B9⟩
set_option maxHeartbeats 4000000 in
theorem done_attr (T:Nat→Prop) (w:World) (hT:∀ k,T k→k < w.heap.size) (t y:Nd) (aA kA:Option Addr) (an ac kn kc:Nat) (h:NodeV T w aA an ac kA kn kc t) (o:Ov) (s:OS) (ho:OpIn w o s) (hk:o.kind = 4) (hbig:weighV t≤90000)
    (hy:atV t o.path = some y) (hok:attrsOk ltB [] y.attrs = true) (hlk:o.key.length≤80000) (hlv:o.value.length≤80000) :
    Calls Try.prog 66 #[.agg (val6 t aA an ac kA kn kc),.agg (opCells o s)] w (NodeA T w ((putV t o.path (attN y (docA o.key o.value y.attrs o.gone))).getD Nd.zero)):=by
  obtain ⟨la,hlae⟩:∃ la,la = docA o.key o.value y.attrs o.gone:=⟨_,rfl⟩
  obtain ⟨z1,z2,z3,z4,z5⟩:=three_new w (.cells (val6 t aA an ac kA kn kc) 33) (.cells (opCells o s) 26) (.cells zero6 33)
  obtain ⟨W3,hW3⟩:∃ W3,W3 = ((w.alloc (.cells (val6 t aA an ac kA kn kc) 33)).alloc (.cells (opCells o s) 26)).alloc (.cells zero6 33):=⟨_,rfl⟩
  rw [← hW3] at z1 z2 z3 z4 z5
  have hT3:∀ k,T k→k < W3.heap.size:=fun k hk=>by have:=hT k hk;omega
  have hpm:=Nat.le_trans ho.pnc ho.pcm
  have hatc:=Lib.hid (at_T T W3 hT3 t aA kA an ac kn kc (h.kept (fun _ h=>h) fun k hk=>z4.block k (hT k hk)) s.pA s.pn s.pc o.path (ho.path.below z4) hpm (by omega))
  have hkI:(o.kind:Int) = 4:=by omega
  have hh:=Lib.hid (fun (W:World) (hb:Below w.heap.size w W)=>h.kept (w':=W) (T':=T) (fun _ h=>h) fun k hk=>hb.block k (hT k hk))
  have hop:=Lib.hid (fun (W:World) (hb:Below w.heap.size w W)=>ho.path.below hb)
  have hap:=Lib.hid (fun (W:World) (hb:Below w.heap.size w W) (T2:Nat→Prop) (hT2:∀ k,T2 k→k < W.heap.size) (A:Option Addr) (n c:Nat) (hl:AtsIn T2 W A n y.attrs) (hnil:A = none→c = 0) (hnc:n≤c) (hcm:c≤maxLen) (hn:n≤90000)=>attrsBehind_any W T2 hT2 A n c y.attrs o s (ho.below hb) hl hnil hnc hcm hn hok)
  have hlaw:attrsW la≤attrsW y.attrs + 200000:=by rw [hlae];have:=doc_weigh o.key o.value y.attrs o.gone;revert this;cases o.gone <;> simp <;> omega
  rw [attr_both o.key o.value o.gone y.attrs [] hok,← hlae] at hap
  rw [← hlae]
  have hyw:=(at_count o.path t y hy).2
  obtain ⟨o0,o1,o2,o3,o4,o5,o6,o7,o8,o9,o10⟩:=op_cells z2
  have z1u:=z1
  unfold val6 at z1u
  obtain ⟨p0,p1,p2,p3,p4,p5,pf⟩:=six_cells z1u
  have z1':=Lib.hid z1
  have z2':=Lib.hid z2
  have z3':=Lib.hid z3
  have z4':=Lib.hid z4
  have z5':=Lib.hid z5
  have hT':=Lib.hid hT
  have hy':=Lib.hid hy
  have hbig':=Lib.hid hbig
  have hyw':=Lib.hid hyw
  have hpm':=Lib.hid hpm
  have hlaw':=Lib.hid hlaw
  rw [hW3] at o0 o1 o2 o3 o4 o5 o6 o7 o8 o9 o10 p0 p1 p2 p3 p4 p5 pf hatc
  clear h ho hT hT3 z1 z1u z2 z3 z4 z5 hk hy hbig hyw hpm hlaw hlae hok
  unfold zero6 val6 opCells at hW3 hatc o0 o1 o2 o3 o4 o5 o6 o7 o8 o9 o10 p0 p1 p2 p3 p4 p5 pf
  unfold val6 opCells
  rw [hkI] at hW3 hatc o0 o1 o2 o3 o4 o5 o6 o7 o8 o9 o10 p0 p1 p2 p3 p4 p5
  rw [hkI]
  have hkI':=Lib.hid hkI
  clear hkI
  go_enter Try.func66,Try.ntmps66
  go_wp2_with (first
    | (go_at_call 36;go_loud (refine hatc.out.mono ?_;rw [← hW3];rintro e w1 ⟨yA,yn,yc,yK,ym,yd,rfl,hny,hb⟩;rw [hy'.out] at hny ⊢;have hny':=Lib.hid hny;have hb':=Lib.hid hb;have r1:=(hb.block _ (by have:=z5'.out;omega)).trans z1'.out;have r2:=(hb.block _ (by have:=z5'.out;omega)).trans z2'.out;have r1':=Lib.hid r1;have r2':=Lib.hid r2;clear o0 o1 o2 o3 o4 o5 o6 o7 o8 o9 o10 p0 p1 p2 p3 p4 p5 pf;obtain ⟨o0,o1,o2,o3,o4,o5,o6,o7,o8,o9,o10⟩:=op_cells r2;rw [hkI'.out] at o0;have hs1:w.heap.size + 1 + 1 < w1.heap.size:=(by have:=hb.size;have:=z5'.out;omega);have hq0:w1.heap.size ≠ w.heap.size:=(by omega);have hq1:w1.heap.size ≠ w.heap.size + 1:=(by omega);have hq2:w.heap.size ≠ w1.heap.size:=(by omega);have hq3:w.heap.size + 1 ≠ w1.heap.size:=(by omega);have hq4:w.heap.size + 1 < w1.heap.size:=(by omega);have hq5:w.heap.size < w1.heap.size:=(by omega);have u0:=fun O=>(World.cell?_alloc_lt w1 O ⟨w.heap.size + 1,0,none⟩ hq4).trans o0;have uu:=fun O j v (h:w1.cell? ⟨w.heap.size + 1,j,none⟩ = some v)=>(World.cell?_alloc_lt w1 O ⟨w.heap.size + 1,j,none⟩ hq4).trans h;have u1:=fun O=>uu O 1 _ o1;have u2:=fun O=>uu O 2 _ o2;have u3:=fun O=>uu O 3 _ o3;have u4:=fun O=>uu O 4 _ o4;have u5:=fun O=>uu O 5 _ o5;have u6:=fun O=>uu O 6 _ o6;have u7:=fun O=>uu O 7 _ o7;have u8:=fun O=>uu O 8 _ o8;have u9:=fun O=>uu O 9 _ o9;have u10:=fun O=>uu O 10 _ o10;have hfx:=hny.facts;have hyc:=hfx.anc;have hycm:=hfx.acm;have hats:=Lib.hid (show AtsIn (Nw T W3 w1) w1 yA yn y.attrs from hfx.ats);have hyan:=Lib.hid hfx.anil;have hyal:y.attrs.length = yn:=hfx.ats.1;have hcall:=(fun O=>hap.out (w1.alloc O) ((z4'.out.trans (hb.mono z4'.out.size)).alloc (by omega) O) (Nw T W3 w1) (fun k hk=>by (have hs2:=World.size_alloc w1 O);(rcases hk with hk | hk);(have:=hT'.out k hk;omega);(have:=hk.2;omega)) yA yn yc (hats.out.kept (fun _ h=>h) (fun k hk=>Go.heap_alloc_old _ _ (by (rcases hk with hk | hk);(have:=hT'.out k hk;omega);(exact hk.2)))) hyan.out hyc hycm (by have h1:=(weigh_rows y).1;have h2:=hyw'.out;have h3:=hbig'.out;omega));unfold opCells at hcall;rw [hkI'.out] at hcall;have hcall':=Lib.hid hcall;clear uu hfx hyc hycm hyal hcall hny hb r1 r2;unfold val6))
    | (go_at_call 107;go_loud (refine (hcall'.out _).mono ?_;rintro e w2 ⟨A9,n9,c9,rfl,hat9,hnc9,hcm9,hnil9,hb2⟩;have r9:=(hb2.block w1.heap.size (by rw [World.size_alloc];omega)).trans (heap_alloc_new w1 _);obtain ⟨g0,g1,g2,g3,g4,g5,gf⟩:=six_cells r9;have hsz2:w1.heap.size < w2.heap.size:=(by have:=hb2.size;rw [World.size_alloc] at this;omega);have r1:=(hb2.block w.heap.size (by rw [World.size_alloc];omega)).trans ((Go.heap_alloc_old w1 _ hq5).trans r1'.out);have r2:=(hb2.block (w.heap.size + 1) (by rw [World.size_alloc];omega)).trans ((Go.heap_alloc_old w1 _ hq4).trans r2'.out);unfold val6 at r1;obtain ⟨p0,p1,p2,p3,p4,p5,pf⟩:=six_cells r1;clear o0 o1 o2 o3 o4 o5 o6 o7 o8 o9 o10 u0 u1 u2 u3 u4 u5 u6 u7 u8 u9 u10;obtain ⟨o0,o1,o2,o3,o4,o5,o6,o7,o8,o9,o10⟩:=op_cells r2;rw [hkI'.out] at o0;have hmk:=(fun v=>mid_kept (c:=3) (v:=v) z4'.out hb'.out hb2);have hmk':=Lib.hid hmk;have hoth:=Lib.hid (fun v k (h:k ≠ w1.heap.size)=>heap_setCell_other w2 ⟨w1.heap.size,3,none⟩ k v h);have hs9:∀ v,(w2.setCell ⟨w1.heap.size,3,none⟩ v).heap.size = w2.heap.size:=(fun v=>by simp);have hs9':=Lib.hid hs9;have hatT:AtsIn (fun k=>w1.heap.size + 1≤k∧k < w2.heap.size) w2 A9 n9 la:=(by (rw [World.size_alloc] at hat9);exact hat9);have hput:=(fun v=>tput_T (fun k=>Nw T W3 w1 k∨(w1.heap.size + 1≤k∧k < w2.heap.size)) (w2.setCell ⟨w1.heap.size,3,none⟩ v) (fun k hk=>by (rw [hs9]);(rcases hk with hk | hk);(rcases hk with hk | hk);(have:=hT'.out k hk;omega);(have:=hk.2;omega);(exact hk.2)) t (attN y la) aA kA A9 yK an ac kn kc n9 c9 ym yd (NodeV.kept (fun k hk=>.inl (.inl hk)) (fun _ _=>rfl) _ _ _ _ _ _ _ (hh.out _ (hmk v).2.2)) (attN_node (NodeV.kept (fun k hk=>.inl hk) (fun k hk=>(hmk v).1 k (by (rcases hk with hk | hk);(have:=hT'.out k hk;omega);(exact hk.2))) _ _ _ _ _ _ _ hny'.out) (hatT.kept (fun k hk=>.inr hk) (fun k hk=>hoth.out v k (by have:=hk.1;omega))) hnc9 hcm9 hnil9) s.pA s.pn s.pc o.path (hop.out _ (hmk v).2.2) hpm'.out (by have:=hbig'.out;omega) (by have h1:=attN_weigh y la;have h2:=hyw'.out;have h3:=hbig'.out;have h4:=hlaw'.out;have h5:=weighV_eq y;omega));have we:=attN_id y la;unfold val6 at hput;rw [we.1,we.2.1,we.2.2.1,we.2.2.2.1] at hput;have hput':=Lib.hid hput;clear hb2 r1 r2 r9 hmk hput we hs9 hatT hat9))
    | (go_at_call 109;go_loud (refine (hput'.out _).mono ?_;rintro e w9 ⟨zA,zn,zc,zK,zm,zd,rfl,hz,hbz⟩;have hsa:=hbz.size;rw [hs9'.out] at hsa;have r3:=(hbz.block (w.heap.size + 1 + 1) (by rw [hs9'.out];omega)).trans (((hmk'.out _).1 _ hs1).trans ((hb'.out.block _ (by have:=z5'.out;omega)).trans z3'.out));have hr:=Lib.hid r3;have hz':=Lib.hid (show NodeV (fun k=>T k∨(W3.heap.size≤k∧k < w9.heap.size)) w9 zA zn zc zK zm zd _ from hz.kept (fun k hk=>by (have hsb:=hb'.out.size);(rcases hk with hk | hk);(rcases hk with hk | hk);(rcases hk with hk | hk);(exact .inl hk);(exact .inr ⟨hk.1,by have:=hk.2;omega⟩);(exact .inr ⟨by have:=hk.1;omega,by have:=hk.2;omega⟩);(exact .inr ⟨by have:=hk.1;rw [hs9'.out] at this;omega,hk.2⟩)) (fun _ _=>rfl));have hbz':=Lib.hid ((hmk'.out _).2.2.trans (hbz.mono (hmk'.out _).2.2.size));unfold zero6 at r3;clear o0 o1 o2 o3 o4 o5 o6 o7 o8 o9 o10 p0 p1 p2 p3 p4 p5 pf g0 g1 g2 g3 g4 g5 gf;obtain ⟨q0,q1,q2,q3,q4,q5,qf⟩:=six_cells r3;have hne:w.heap.size + 1 + 1 < w9.heap.size:=(by omega);have hne2:w9.heap.size ≠ w.heap.size + 1 + 1:=(by omega);have hne3:w.heap.size + 1 + 1 ≠ w9.heap.size:=(by omega);unfold val6;clear hz hbz r3 hsa)))
  obtain ⟨a,ha⟩:∃ a,a = (putV t o.path (attN y la)).getD Nd.zero:=⟨_,rfl⟩
  rw [← ha] at hz' ⊢
  obtain ⟨W9,hW9,R9,N9,B9⟩:=end_node0 hT'.out (r:=w.heap.size + 1 + 1) (b:=W3.heap.size) (by omega) (by have:=z5'.out;omega) hbz'.out hr.out hz'.out
  rw [← hW9]
  unfold val6 at R9
  obtain ⟨d0,d1,d2,d3,d4,d5,df⟩:=six_cells R9
  refine bodyPost_ret (v:=.agg (val6 a zA zn zc zK zm zd)) (by simp [results,Try.results66,go_sem,d0,d1,d2,d3,d4,d5,val6]) rfl ?_
  exact ⟨zA,zn,zc,zK,zm,zd,rfl,N9,B9⟩
end Go.Proofs.Ytmipodnffhngaaa.Top
namespace Go.Proofs.Ytmipodnffhngaaa.Top
open Go.RowKit
set_option maxRecDepth 20000
set_option linter.unusedVariables false

structure Slim (o:Ov):Prop where
  label:o.label.length≤80000
  key:o.key.length≤80000
  value:o.value.length≤80000
  puts:P5.putsI o.pieces≤80000
def afterV (t:Nd) (o:Ov):Nd :=
  if o.kind = 1 then (modV t o.path (insK o.at_.toNat (.mk o.id o.leaf o.label [] [] []))).getD Nd.zero
  else if o.kind = 2 then (delAt t o.path).getD Nd.zero
  else if o.kind = 3 then ((modV t o.to_ (insK o.at_.toNat ((atV t o.path).getD Nd.zero))).bind fun m=>delAt m (docFrom o.path o.to_ o.at_.toNat)).getD Nd.zero
  else if o.kind = 4 then ((atV t o.path).bind fun y=>putV t o.path (attN y (docA o.key o.value y.attrs o.gone))).getD Nd.zero
  else if o.kind = 5 then ((atV t o.path).bind fun y=>putV t o.path (labN y o.label)).getD Nd.zero
  else ((atV t o.path).bind fun y=>putV t o.path (textN y (Ltx.apply y.text (pcs o.pieces)))).getD Nd.zero
theorem puts_pcs:∀ l:List P5.IP,Ltx.puts (pcs l) = P5.putsI l
  | []=>rfl
  | x :: r=>by
    have ih:=puts_pcs r
    simp only [pcs,List.map_cons,Ltx.puts,P5.putsI] at ih ⊢
    omega
theorem rights_at:∀ (p:List Int) (t y:Nd),rightsV ltB t = true→atV t p = some y→rightsV ltB y = true
  | [],t,y,h,ha=>by
    simp only [atV,Option.some.injEq] at ha
    subst ha
    exact h
  | i :: p,t,y,h,ha=>by
    obtain ⟨j,k,rfl,hk,hw⟩:=atV_cons ha
    rw [rightsV_eq,Bool.and_eq_true] at h
    refine rights_at p k y ?_ hw
    have:∀ l:List Nd,rightssV ltB l = true→k ∈ l→rightsV ltB k = true:=by
      intro l
      induction l with
      | nil=>intro _ hm;cases hm
      | cons a r ih =>
        intro hr hm
        rw [rightssV,Bool.and_eq_true] at hr
        cases hm with
        | head=>exact hr.1
        | tail _ hm=>exact ih hr.2 hm
    exact this _ h.2 (List.mem_of_getElem? hk)
theorem rights_attrs {y:Nd} (h:rightsV ltB y = true):attrsOk ltB [] y.attrs = true:=by
  rw [rightsV_eq,Bool.and_eq_true] at h
  unfold aloneOk at h
  simp only [Bool.and_eq_true] at h
  exact h.1.1.2
theorem may_nat {o:Ov} (h:formedV o = true):P4.mayV o.path = true:=by
  unfold formedV at h
  rw [Bool.and_eq_true] at h
  exact h.1
theorem form_kind {o:Ov} (h:formedV o = true) (h1:o.kind ≠ 1) (h2:o.kind ≠ 2) (h3:o.kind ≠ 3) (h4:o.kind ≠ 4) (h5:o.kind ≠ 5):o.kind = 6:=by
  unfold formedV at h
  rw [if_neg h1,if_neg h2,if_neg h3,if_neg h4,if_neg h5] at h
  by_cases h6:o.kind = 6
  · exact h6
  · rw [if_neg h6,Bool.and_false] at h;cases h
theorem fault_none {t:Nd} {o:Ov} (h:faultV t o = 0):formedV o = true∧¬ ((o.kind = 2∨o.kind = 3)∧o.path = [])∧∃ x,atV t o.path = some x∧(o.kind = 1→gapE x o.at_ = 0)∧(o.kind = 3→P4.withinV o.path o.to_ = false∧∃ y,atV t o.to_ = some y∧gapE y o.at_ = 0)∧(o.kind = 6→editE x o.pieces = 0):=by
  unfold faultV at h
  by_cases hf:formedV o = false
  · rw [if_pos hf] at h;omega
  · rw [if_neg hf] at h
    have hf':formedV o = true:=by cases hh:formedV o;exact absurd hh hf;rfl
    by_cases hr:(o.kind = 2∨o.kind = 3)∧o.path = []
    · rw [if_pos hr] at h;omega
    · rw [if_neg hr] at h
      refine ⟨hf',hr,?_⟩
      cases hx:atV t o.path with
      | none=>rw [hx] at h;dsimp only at h;omega
      | some x =>
        rw [hx] at h
        dsimp only at h
        refine ⟨x,rfl,fun h1=>?_,fun h3=>?_,fun h6=>?_⟩
        · rw [if_pos h1] at h;exact h
        · rw [if_neg (by omega),if_pos h3] at h
          by_cases hw:P4.withinV o.path o.to_ = true
          · rw [if_pos hw] at h;omega
          · rw [if_neg hw] at h
            refine ⟨by cases hh:P4.withinV o.path o.to_;rfl;exact absurd hh hw,?_⟩
            cases hy:atV t o.to_ with
            | none=>rw [hy] at h;dsimp only at h;omega
            | some y=>rw [hy] at h;exact ⟨y,rfl,h⟩
        · rw [if_neg (by omega),if_neg (by omega),if_pos h6] at h;exact h
theorem gap_none {y:Nd} {i:Int} (h:gapE y i = 0):y.leaf = false∧i≤y.kids.length:=by
  unfold gapE at h
  cases hl:y.leaf with
  | true=>rw [hl] at h;simp at h
  | false =>
    rw [hl] at h
    simp only [Bool.false_eq_true,if_false] at h
    refine ⟨rfl,?_⟩
    by_cases hg:(y.kids.length:Int) < i
    · rw [if_pos hg] at h;omega
    · omega
theorem edit_none {x:Nd} {l:List P5.IP} (h:editE x l = 0):x.leaf = true∧Ltx.extent (pcs l)≤x.text.length:=by
  unfold editE fitE at h
  cases hl:x.leaf with
  | false=>rw [hl] at h;simp at h
  | true =>
    rw [hl] at h
    simp only [if_true] at h
    refine ⟨rfl,?_⟩
    by_cases hg:Ltx.extent (pcs l)≤x.text.length
    · exact hg
    · rw [if_neg hg] at h;omega
theorem path_last {p:List Int} (h:p ≠ []) (hm:P4.mayV p = true):∃ q,∃ c:Nat,p = q ++ [(c:Int)]:=by
  obtain ⟨q,c,rfl⟩:∃ q c,p = q ++ [c]:=⟨p.dropLast,p.getLast h,(List.dropLast_concat_getLast h).symm⟩
  have:=(of_decide_eq_true hm).2 c (by simp)
  exact ⟨q,c.toNat,by rw [Int.toNat_of_nonneg this.1]⟩
theorem gap_nat {o:Ov} (h:gapB o.at_ = true):∃ g:Nat,o.at_ = (g:Int)∧g≤1048576:=by
  have:=of_decide_eq_true h
  exact ⟨o.at_.toNat,by omega,by omega⟩
theorem move_value {t x y:Nd} {o:Ov} {g:Nat} (hk:o.kind = 3) (hg:o.at_ = (g:Int)) (hx:atV t o.path = some x) (hy:atV t o.to_ = some y) (hne:o.path ≠ []) (hw:P4.withinV o.path o.to_ = false) (hgl:g≤y.kids.length) :
    ∃ m1 m2 y2 r,modV t o.to_ (insK g x) = some m1∧delAt m1 (docFrom o.path o.to_ g) = some r∧delAt t o.path = some m2∧atV m2 (progTo o.path o.to_ g).1 = some y2∧(progTo o.path o.to_ g).2≤y2.kids.length∧putV m2 (progTo o.path o.to_ g).1 (y2.withKids (insK (progTo o.path o.to_ g).2 x y2.kids)) = some r∧afterV t o = r:=by
  have hpre:¬ o.path <+: o.to_:=by rw [within_pre] at hw;exact of_decide_eq_false hw
  obtain ⟨m1,m2,r,h1,h2,h3,h4⟩:=move_both o.path o.to_ t x y x g hx hy hne hpre hgl
  obtain ⟨m2',y2,h5,h6,h7⟩:=at_after o.path o.to_ t x y g hx hy hne hpre hgl
  rw [h3] at h5
  injection h5 with h5
  subst h5
  rw [mod_at h6] at h4
  refine ⟨m1,m2,y2,r,h1,h2,h3,h6,h7,h4,?_⟩
  unfold afterV
  rw [if_neg (by omega),if_neg (by omega),if_pos hk,hx,hg]
  simp only [Option.getD_some,Int.toNat_natCast]
  rw [h1]
  simp only [Option.bind_some]
  rw [h2]
  rfl
theorem done_any (T:Nat→Prop) (w:World) (hT:∀ k,T k→k < w.heap.size) (t:Nd) (aA kA:Option Addr) (an ac kn kc:Nat) (h:NodeV T w aA an ac kA kn kc t) (o:Ov) (s:OS) (ho:OpIn w o s) (hs:Slim o) (hbig:weighV t≤40000) (hr:rightsV ltB t = true) (hf:faultV t o = 0) :
    Calls Try.prog 66 #[.agg (val6 t aA an ac kA kn kc),.agg (opCells o s)] w (NodeA T w (afterV t o)):=by
  obtain ⟨hfm,hroot,x,hx,h1,h3,h6⟩:=fault_none hf
  have hmay:=may_nat hfm
  by_cases k1:o.kind = 1
  · have hgb:gapB o.at_ = true:=by
      unfold formedV at hfm
      rw [if_pos k1] at hfm
      simp only [Bool.and_eq_true] at hfm
      exact hfm.2.1
    obtain ⟨g,hg,-⟩:=gap_nat hgb
    have hgl:=(gap_none (h1 k1)).2
    rw [show afterV t o = (putV t o.path (x.withKids (insK g (.mk o.id o.leaf o.label [] [] []) x.kids))).getD Nd.zero by
      unfold afterV
      rw [if_pos k1,mod_at hx,hg,Int.toNat_natCast]]
    exact done_insert T w hT t x aA kA an ac kn kc h o s ho k1 hs.label g hg (by omega) hx (by omega)
  · by_cases k2:o.kind = 2
    · have hne:o.path ≠ []:=fun e=>hroot ⟨.inl k2,e⟩
      obtain ⟨q,c,hq⟩:=path_last hne hmay
      have hx2:=hx
      rw [hq] at hx2
      obtain ⟨y,m,d1,d2,d3,d4,-⟩:=del_all hx2
      rw [show afterV t o = (putV t q (y.withKids (delK c y.kids))).getD Nd.zero by
        unfold afterV
        rw [if_neg k1,if_pos k2,hq,d4,d3]]
      exact done_delete T w hT t y aA kA an ac kn kc h o s ho k2 ho.pfew ho.pnil q c hq (by omega) d1 d2
    · by_cases k3:o.kind = 3
      · have hne:o.path ≠ []:=fun e=>hroot ⟨.inr k3,e⟩
        obtain ⟨q,c,hq⟩:=path_last hne hmay
        obtain ⟨hw,y,hy,hge⟩:=h3 k3
        have hfm3:=hfm
        unfold formedV at hfm3
        rw [if_neg k1,if_neg k2,if_pos k3] at hfm3
        simp only [Bool.and_eq_true] at hfm3
        obtain ⟨g,hg,hg1⟩:=gap_nat hfm3.2.1
        have hgl:=(gap_none hge).2
        obtain ⟨m1,m2,y2,r,v1,v2,v3,v4,v5,v6,v7⟩:=move_value k3 hg hx hy hne hw (by omega)
        rw [show afterV t o = (putV m2 (progTo o.path o.to_ g).1 (y2.withKids (insK (progTo o.path o.to_ g).2 x y2.kids))).getD Nd.zero by rw [v6,v7];rfl]
        exact done_move T w hT t x y m2 y2 aA kA an ac kn kc h o s ho k3 q c hq hbig hx hy g hg hg1 hfm3.2.2 v3 v4 v5
      · by_cases k4:o.kind = 4
        · rw [show afterV t o = (putV t o.path (attN x (docA o.key o.value x.attrs o.gone))).getD Nd.zero by
            unfold afterV
            rw [if_neg k1,if_neg k2,if_neg k3,if_pos k4,hx]
            rfl]
          exact done_attr T w hT t x aA kA an ac kn kc h o s ho k4 (by omega) hx (rights_attrs (rights_at _ _ _ hr hx)) hs.key hs.value
        · by_cases k5:o.kind = 5
          · rw [show afterV t o = (putV t o.path (labN x o.label)).getD Nd.zero by
              unfold afterV
              rw [if_neg k1,if_neg k2,if_neg k3,if_neg k4,if_pos k5,hx]
              rfl]
            exact done_relabel T w hT t x aA kA an ac kn kc h o s ho k5 hs.label (by omega) hx
          · have k6:=form_kind hfm k1 k2 k3 k4 k5
            have hrp:P5.rightV o.pieces = true:=by
              have hh:=hfm
              unfold formedV at hh
              rw [if_neg k1,if_neg k2,if_neg k3,if_neg k4,if_neg k5,if_pos k6,Bool.and_eq_true] at hh
              exact hh.2
            rw [show afterV t o = (putV t o.path (textN x (Ltx.apply x.text (pcs o.pieces)))).getD Nd.zero by
              unfold afterV
              rw [if_neg k1,if_neg k2,if_neg k3,if_neg k4,if_neg k5,hx]
              rfl]
            exact done_edit T w hT t x aA kA an ac kn kc h o s ho k6 (by omega) hx hrp (edit_none (h6 k6)).2 (by
              have e1:=Ltx.apply_len (pcs o.pieces) x.text
              have e2:=puts_pcs o.pieces
              have e3:=hs.puts
              have e4:=(at_count o.path t x hx).2
              have e5:=weighV_eq x
              omega)
def AppA (T:Nat→Prop) (w:World) (a:Nd) (k:Int) (e:Ending) (w':World):Prop :=
  ∃ aA an ac kA kn kc,e = .returned (.tuple #[.agg (val6 a aA an ac kA kn kc),.int .i64 k])∧NodeV (Nw T w w') w' aA an ac kA kn kc a∧Below w.heap.size w w'
def applyV (t:Nd) (o:Ov):Nd:=if validV t o = 0 then afterV t o else Nd.zero
set_option maxHeartbeats 4000000 in
theorem apply_T (T:Nat→Prop) (w:World) (hT0:∀ k,T k→k < w.heap.size) (t:Nd) (aA kA:Option Addr) (an ac kn kc:Nat) (h:NodeV T w aA an ac kA kn kc t) (o:Ov) (s:OS) (ho:OpIn w o s) (hs:Slim o) (hbig:weighV t≤40000) :
    Calls Try.prog 22 #[.agg (val6 t aA an ac kA kn kc),.agg (opCells o s)] w (AppA T w (applyV t o) (validV t o)):=by
  obtain ⟨z1,z2,z3,z4,z5⟩:=three_new w (.cells (val6 t aA an ac kA kn kc) 33) (.cells (opCells o s) 26) (.cells zero6 33)
  obtain ⟨W3,hW3⟩:∃ W3,W3 = ((w.alloc (.cells (val6 t aA an ac kA kn kc) 33)).alloc (.cells (opCells o s) 26)).alloc (.cells zero6 33):=⟨_,rfl⟩
  rw [← hW3] at z1 z2 z3 z4 z5
  have hval:=Lib.hid (valid_any W3 t aA kA an ac kn kc o s ((h.kept (T':=Old w) (fun k hk=>hT0 k hk) (fun _ _=>rfl)).below z4) (ho.below z4) (by omega))
  have hdone:=Lib.hid (fun (hv:validV t o = 0) (W:World) (hb:Below w.heap.size w W)=>done_any T W (fun k hk=>Nat.lt_of_lt_of_le (hT0 k hk) hb.size) t aA kA an ac kn kc (h.kept (fun _ h=>h) fun k hk=>hb.block k (hT0 k hk)) o s (ho.below hb) hs hbig (by
    unfold validV at hv
    cases hr:rightV ltB t with
    | false=>rw [hr] at hv;simp at hv
    | true=>unfold rightV at hr;rw [Bool.and_eq_true] at hr;exact hr.2) (by
    unfold validV at hv
    cases hr:rightV ltB t with
    | false=>rw [hr] at hv;simp at hv
    | true=>rw [hr] at hv;simpa using hv))
  obtain ⟨o0,o1,o2,o3,o4,o5,o6,o7,o8,o9,o10⟩:=op_cells z2
  have z1u:=z1
  unfold val6 at z1u
  obtain ⟨p0,p1,p2,p3,p4,p5,pf⟩:=six_cells z1u
  have z1':=Lib.hid z1
  have z2':=Lib.hid z2
  have z3':=Lib.hid z3
  have z4':=Lib.hid z4
  have z5':=Lib.hid z5
  rw [hW3] at o0 o1 o2 o3 o4 o5 o6 o7 o8 o9 o10 p0 p1 p2 p3 p4 p5 pf hval
  obtain ⟨vv,hvv⟩:∃ vv,vv = validV t o:=⟨_,rfl⟩
  rw [← hvv] at hval hdone ⊢
  have hap:=Lib.hid (show applyV t o = if vv = 0 then afterV t o else Nd.zero by unfold applyV;rw [← hvv])
  rw [hap.out]
  clear h ho z1 z1u z2 z3 z4 z5 hvv hap
  unfold val6 opCells at hdone
  unfold zero6 val6 opCells at hW3 hval o0 o1 o2 o3 o4 o5 o6 o7 o8 o9 o10 p0 p1 p2 p3 p4 p5 pf
  unfold val6 opCells
  by_cases hv:vv = 0
  · rw [if_pos hv]
    have hdone':=Lib.hid (hdone.out hv)
    subst hv
    clear hdone
    go_enter Try.func22,Try.ntmps22
    go_wp2_with (first
      | (go_at_call 18;go_loud (refine hval.out.mono ?_;rw [← hW3];rintro e w1 ⟨rfl,hb⟩;have hb':=Lib.hid hb;have r1:=(hb.block _ (by have:=z5'.out;omega)).trans z1'.out;have r2:=(hb.block _ (by have:=z5'.out;omega)).trans z2'.out;clear o0 o1 o2 o3 o4 o5 o6 o7 o8 o9 o10 p0 p1 p2 p3 p4 p5 pf;obtain ⟨o0,o1,o2,o3,o4,o5,o6,o7,o8,o9,o10⟩:=op_cells r2;unfold val6 at r1;obtain ⟨p0,p1,p2,p3,p4,p5,pf⟩:=six_cells r1;clear hb r1 r2))
      | (go_at_call 66;go_loud (refine (hdone'.out w1 (z4'.out.trans (hb'.out.mono z4'.out.size))).mono ?_;rintro e w9 ⟨zA,zn,zc,zK,zm,zd,rfl,hz,hbz⟩;have hsa:=hbz.size;have hsb:=hb'.out.size;have r3:=(hbz.block (w.heap.size + 1 + 1) (by have:=z5'.out;omega)).trans ((hb'.out.block _ (by have:=z5'.out;omega)).trans z3'.out);have hr:=Lib.hid r3;have hz':=Lib.hid (show NodeV (fun k=>T k∨(W3.heap.size≤k∧k < w9.heap.size)) w9 zA zn zc zK zm zd _ from hz.kept (fun k hk=>by (rcases hk with hk | hk);(exact .inl hk);(exact .inr ⟨by have:=hk.1;omega,hk.2⟩)) (fun _ _=>rfl));have hbz':=Lib.hid ((z4'.out.trans (hb'.out.mono z4'.out.size)).trans (hbz.mono (by have:=z5'.out;omega)));unfold zero6 at r3;clear o0 o1 o2 o3 o4 o5 o6 o7 o8 o9 o10 p0 p1 p2 p3 p4 p5 pf;obtain ⟨q0,q1,q2,q3,q4,q5,qf⟩:=six_cells r3;have hne:w.heap.size + 1 + 1 < w9.heap.size:=(by have:=z5'.out;omega);have hne2:w9.heap.size ≠ w.heap.size + 1 + 1:=(by omega);have hne3:w.heap.size + 1 + 1 ≠ w9.heap.size:=(by omega);unfold val6;clear hz hbz r3 hsa hsb)))
    obtain ⟨a,ha⟩:∃ a,a = afterV t o:=⟨_,rfl⟩
    rw [← ha] at hz' ⊢
    obtain ⟨W9,hW9,R9,N9,B9⟩:=end_node0 (T:=T) hT0 (r:=w.heap.size + 1 + 1) (b:=W3.heap.size) (by omega) (by have:=z5'.out;omega) hbz'.out hr.out hz'.out
    rw [← hW9]
    unfold val6 at R9
    obtain ⟨d0,d1,d2,d3,d4,d5,df⟩:=six_cells R9
    refine bodyPost_ret (v:=.tuple #[.agg (val6 a zA zn zc zK zm zd),.int .i64 0]) (by simp [results,Try.results22,go_sem,d0,d1,d2,d3,d4,d5,val6]) rfl ?_
    exact ⟨zA,zn,zc,zK,zm,zd,rfl,N9,B9⟩
  · rw [if_neg hv]
    have hvb:(vv == 0) = false:=by simpa using hv
    have hvn:(vv != 0) = true:=by simpa using hv
    clear hdone
    go_enter Try.func22,Try.ntmps22
    go_wp2_with (go_at_call 18;go_loud (refine hval.out.mono ?_;rw [← hW3];rintro e w1 ⟨rfl,hb⟩;have hb':=Lib.hid hb;have hsb:=hb.size;have r3:=(hb.block (w.heap.size + 1 + 1) (by have:=z5'.out;omega)).trans z3'.out;have hr:=Lib.hid r3;clear o0 o1 o2 o3 o4 o5 o6 o7 o8 o9 o10 p0 p1 p2 p3 p4 p5 pf;unfold zero6 at r3;obtain ⟨q0,q1,q2,q3,q4,q5,qf⟩:=six_cells r3;have hne:w.heap.size + 1 + 1 < w1.heap.size:=(by have:=z5'.out;omega);clear hb hsb r3))
    obtain ⟨W9,hW9,R9,N9,B9⟩:=end_node0 (T:=T) (a:=Nd.zero) (yA:=none) (yn:=0) (yc:=0) (yK:=none) (ym:=0) (yd:=0) hT0 (r:=w.heap.size + 1 + 1) (b:=W3.heap.size) (by omega) (by have:=z5'.out;omega) (z4'.out.trans (hb'.out.mono z4'.out.size)) hr.out zero_node
    have hW9':W9 = ((((((w1.setCell ⟨w.heap.size + 1 + 1,0,none⟩ (.int .u64 0)).setCell ⟨w.heap.size + 1 + 1,1,none⟩ (.bool false)).setCell ⟨w.heap.size + 1 + 1,2,none⟩ (.string ⟨#[]⟩)).setCell ⟨w.heap.size + 1 + 1,3,none⟩ (.slice none 0 0)).setCell ⟨w.heap.size + 1 + 1,4,none⟩ (.string ⟨#[]⟩)).setCell ⟨w.heap.size + 1 + 1,5,none⟩ (.slice none 0 0)):=hW9
    rw [← hW9']
    unfold val6 at R9
    obtain ⟨d0,d1,d2,d3,d4,d5,df⟩:=six_cells R9
    refine bodyPost_ret (v:=.tuple #[.agg (val6 Nd.zero none 0 0 none 0 0),.int .i64 vv]) (by simp [results,Try.results22,go_sem,d0,d1,d2,d3,d4,d5,val6]) rfl ?_
    exact ⟨none,0,0,none,0,0,rfl,N9,B9⟩
theorem apply_any (w:World) (t:Nd) (aA kA:Option Addr) (an ac kn kc:Nat) (h:NodeV (Old w) w aA an ac kA kn kc t) (o:Ov) (s:OS) (ho:OpIn w o s) (hs:Slim o) (hbig:weighV t≤40000) :
    Calls Try.prog 22 #[.agg (val6 t aA an ac kA kn kc),.agg (opCells o s)] w (AppA (Old w) w (applyV t o) (validV t o)):=apply_T (Old w) w (fun _ h=>h) t aA kA an ac kn kc h o s ho hs hbig
end Go.Proofs.Ytmipodnffhngaaa.Top
namespace Go.Proofs.Ytmipodnffhngaaa.Top
open Go.RowKit
set_option maxRecDepth 20000
set_option linter.unusedVariables false

end Go.Proofs.Ytmipodnffhngaaa.Top
namespace Go.Proofs.Ytmipodnffhngaaa.Top
open Go.RowKit
set_option maxRecDepth 20000
set_option linter.unusedVariables false

end Go.Proofs.Ytmipodnffhngaaa.Top
namespace Go.Proofs.Ytmipodnffhngaaa.Top
open Go.RowKit
set_option maxRecDepth 20000
set_option linter.unusedVariables false

end Go.Proofs.Ytmipodnffhngaaa.Top
namespace Go.Proofs.Ytmipodnffhngaaa.Top
open Go.RowKit
set_option maxRecDepth 20000
set_option linter.unusedVariables false

def xW:Nd:=.mk 0 true [120] [] [104,105] []
def cW:Nd:=.mk 0 false [99] [] [] []
def aW:Nd:=.mk 0 false [97] [] [] [xW,cW]
def bW:Nd:=.mk 0 true [98] [] [98,101,101] []
def rW:Nd:=.mk 0 false [114] [] [] [aW,bW]
structure Wk (w0 w:World):Prop where
  bel:Below w0.heap.size w0 w
  size:w0.heap.size + 3≤w.heap.size
  h1:w.heap[w0.heap.size]? = some (.cells #[.int .u64 0,.bool true,.string ⟨#[120]⟩,.slice none 0 0,.string ⟨#[104,105]⟩,.slice none 0 0,.int .u64 0,.bool false,.string ⟨#[99]⟩,.slice none 0 0,.string ⟨#[]⟩,.slice none 0 0] 33 (0,0))
  h2:w.heap[w0.heap.size + 1]? = some (.cells #[.int .u64 0,.bool false,.string ⟨#[97]⟩,.slice none 0 0,.string ⟨#[]⟩,.slice (some ⟨w0.heap.size,0,none⟩) 2 2,.int .u64 0,.bool true,.string ⟨#[98]⟩,.slice none 0 0,.string ⟨#[98,101,101]⟩,.slice none 0 0] 33 (0,0))
  h3:w.heap[w0.heap.size + 2]? = some (.cells #[.int .u64 0,.bool false,.string ⟨#[114]⟩,.slice none 0 0,.string ⟨#[]⟩,.slice (some ⟨w0.heap.size + 1,0,none⟩) 2 2] 33 (0,0))
section
variable {w0 w w':World}
theorem Wk.below (h:Wk w0 w) (hb:Below w.heap.size w w'):Wk w0 w' :=
  have hs:=h.size
  ⟨h.bel.trans (hb.mono (by omega)),Nat.le_trans h.size hb.size,(hb.block _ (by omega)).trans h.h1,(hb.block _ (by omega)).trans h.h2,(hb.block _ (by omega)).trans h.h3⟩
theorem Wk.alloc (h:Wk w0 w) (o:Obj):Wk w0 (w.alloc o):=h.below ((Below.refl _ _).alloc (Nat.le_refl _) _)
theorem Wk.node (h:Wk w0 w):NodeV (Old w) w none 0 0 (some ⟨w0.heap.size + 1,0,none⟩) 2 2 rW:=by
  have hs:=h.size
  have c1:=fun i=>cell_of_row w w0.heap.size i _ _ _ h.h1
  have c2:=fun i=>cell_of_row w (w0.heap.size + 1) i _ _ _ h.h2
  have hX:NodeV (Old w) w none 0 0 none 0 0 xW:=NFacts.node ⟨by decide,by decide,by decide,ats_nil _ _,Nat.le_refl _,Nat.zero_le _,fun _=>rfl,rfl,Nat.le_refl _,Nat.zero_le _,fun _=>rfl,by simp [xW,Nd.kids,RowAt]⟩
  have hC:NodeV (Old w) w none 0 0 none 0 0 cW:=NFacts.node ⟨by decide,by decide,by decide,ats_nil _ _,Nat.le_refl _,Nat.zero_le _,fun _=>rfl,rfl,Nat.le_refl _,Nat.zero_le _,fun _=>rfl,by simp [cW,Nd.kids,RowAt]⟩
  have hB:NodeV (Old w) w none 0 0 none 0 0 bW:=NFacts.node ⟨by decide,by decide,by decide,ats_nil _ _,Nat.le_refl _,Nat.zero_le _,fun _=>rfl,rfl,Nat.le_refl _,Nat.zero_le _,fun _=>rfl,by simp [bW,Nd.kids,RowAt]⟩
  have hA:NodeV (Old w) w none 0 0 (some ⟨w0.heap.size,0,none⟩) 2 2 aW:=NFacts.node ⟨by decide,by decide,by decide,ats_nil _ _,Nat.le_refl _,Nat.zero_le _,fun _=>rfl,rfl,Nat.le_refl _,by decide,(fun h=>by cases h),by
    show RowAt (Old w) w (some ⟨w0.heap.size,0,none⟩) 0 [xW,cW]
    simp only [RowAt,and_true]
    refine ⟨⟨⟨w0.heap.size,0,none⟩,none,0,0,none,0,0,rfl,(by show w0.heap.size < _;omega),?_,hX⟩,⟨w0.heap.size,0,none⟩,none,0,0,none,0,0,rfl,(by show w0.heap.size < _;omega),?_,hC⟩
    · rw [add_zero_off]
      exact ⟨c1 0,c1 1,c1 2,c1 3,c1 4,c1 5⟩
    · rw [add_zero_off]
      exact ⟨c1 6,c1 7,c1 8,c1 9,c1 10,c1 11⟩⟩
  refine NFacts.node ⟨by decide,by decide,by decide,ats_nil _ _,Nat.le_refl _,Nat.zero_le _,fun _=>rfl,rfl,Nat.le_refl _,by decide,(fun h=>by cases h),?_⟩
  show RowAt (Old w) w (some ⟨w0.heap.size + 1,0,none⟩) 0 [aW,bW]
  simp only [RowAt,and_true]
  refine ⟨⟨⟨w0.heap.size + 1,0,none⟩,none,0,0,(some ⟨w0.heap.size,0,none⟩),2,2,rfl,(by show w0.heap.size + 1 < _;omega),?_,hA⟩,⟨w0.heap.size + 1,0,none⟩,none,0,0,none,0,0,rfl,(by show w0.heap.size + 1 < _;omega),?_,hB⟩
  · rw [add_zero_off]
    exact ⟨c2 0,c2 1,c2 2,c2 3,c2 4,c2 5⟩
  · rw [add_zero_off]
    exact ⟨c2 6,c2 7,c2 8,c2 9,c2 10,c2 11⟩
end
def o1:Ov:=⟨1,[0],1,[],0,false,[110],[],[],false,[]⟩
def o2:Ov:=⟨3,[0,0],2,[],0,false,[],[],[],false,[]⟩
def o3:Ov:=⟨3,[0],1,[],0,false,[],[],[],false,[]⟩
def o4:Ov:=⟨6,[0,0],0,[],0,false,[],[],[],false,[⟨2,0,[33]⟩]⟩
def o5:Ov:=⟨3,[0],0,[0,0],0,false,[],[],[],false,[]⟩
def o6:Ov:=⟨2,[],0,[],0,false,[],[],[],false,[]⟩
def nW:Nd:=.mk 0 false [110] [] [] []
theorem v1:validV rW o1 = 0:=by kernel_rfl
theorem v2:validV rW o2 = 0:=by kernel_rfl
theorem v3:validV rW o3 = 0:=by kernel_rfl
theorem v4:validV rW o4 = 0:=by kernel_rfl
theorem v5:validV rW o5 = 84:=by kernel_rfl
theorem v6:validV rW o6 = 82:=by kernel_rfl
theorem a1:applyV rW o1 = .mk 0 false [114] [] [] [.mk 0 false [97] [] [] [xW,nW,cW],bW]:=by kernel_rfl
theorem a2:applyV rW o2 = .mk 0 false [114] [] [] [.mk 0 false [97] [] [] [cW],bW,xW]:=by kernel_rfl
theorem a3:applyV rW o3 = rW:=by kernel_rfl
theorem a4:applyV rW o4 = .mk 0 false [114] [] [] [.mk 0 false [97] [] [] [.mk 0 true [120] [] [104,105,33] [],cW],bW]:=by kernel_rfl
theorem slim_lit {o:Ov} (h:o.label.length≤80000∧o.key.length≤80000∧o.value.length≤80000∧P5.putsI o.pieces≤80000:=by decide):Slim o:=⟨h.1,h.2.1,h.2.2.1,h.2.2.2⟩
theorem fit_lit {l:List Int} (h:(l.all fun x=>decide (-9223372036854775808≤x∧x≤9223372036854775807)) = true:=by decide):Fit l:=fun x hx=>of_decide_eq_true (List.all_eq_true.1 h x hx)
theorem op_lit {W:World} {o:Ov} {s:OS} (hk:o.kind < 256:=by decide) (hp:Its W s.pA s.pn o.path) (hp2:s.pn≤s.pc∧s.pc≤4:=by (dsimp only;decide)) (hp3:s.pA = none→s.pc = 0) (ha:-9223372036854775808≤o.at_∧o.at_≤9223372036854775807:=by decide) (ht:Its W s.tA s.tn o.to_) (ht2:s.tn≤s.tc∧s.tc≤4:=by (dsimp only;decide)) (ht3:s.tA = none→s.tc = 0)
    (hi:o.id < 18446744073709551616:=by decide) (hl:o.label.length≤4∧o.key.length≤4∧o.value.length≤4:=by decide) (hq:P5.PcsIn W s.qA s.qn o.pieces) (hq2:s.qn≤s.qc∧s.qc≤4:=by (dsimp only;decide)) (hq3:s.qA = none→s.qc = 0) (f1:Fit o.path) (f2:Fit o.to_):OpIn W o s :=
  ⟨hk,hp,hp2.1,by unfold maxLen;omega,hp3,ha,ht,ht2.1,by unfold maxLen;omega,ht3,hi,by unfold maxLen;omega,by unfold maxLen;omega,by unfold maxLen;omega,hq,hq2.1,by unfold maxLen;omega,hq3,by omega,by omega,by omega,f1,f2⟩
end Go.Proofs.Ytmipodnffhngaaa.Top
namespace Go.Proofs.Ytmipodnffhngaaa.Top
open Go.RowKit
set_option maxRecDepth 20000
set_option linter.unusedVariables false

structure Res (b:Nat) (r:Nd) (w:World):Prop where
  lt:b < w.heap.size
  at_:∃ aA an ac kA kc,w.heap[b]? = some (.cells (val6 r aA an ac kA r.kids.length kc) 33 (0,0))∧NodeV (Old w) w aA an ac kA r.kids.length kc r
theorem Res.below {b:Nat} {r:Nd} {w w':World} (h:Res b r w) (hb:Below w.heap.size w w'):Res b r w':=by
  obtain ⟨h0,aA,an,ac,kA,kc,h1,h2⟩:=h
  exact ⟨Nat.lt_of_lt_of_le h0 hb.size,aA,an,ac,kA,kc,(hb.block _ h0).trans h1,h2.below hb⟩
theorem Res.alloc {b:Nat} {r:Nd} {w:World} (h:Res b r w) (o:Obj):Res b r (w.alloc o):=h.below ((Below.refl _ _).alloc (Nat.le_refl _) _)
theorem Res.new {r:Nd} {w:World} {aA kA:Option Addr} {an ac kc:Nat} (h:NodeV (Old w) w aA an ac kA r.kids.length kc r):Res w.heap.size r (w.alloc (.cells (val6 r aA an ac kA r.kids.length kc) 33)) :=
  ⟨by simp,aA,an,ac,kA,kc,heap_alloc_new w _,h.below ((Below.refl _ _).alloc (Nat.le_refl _) _)⟩
theorem Wk.ap {w0 W:World} (h:Wk w0 W) (o:Ov) (s:OS) (ho:OpIn W o s) (hs:Slim o) (r:Nd) (hv:validV rW o = 0) (ha:applyV rW o = r) :
    Calls Try.prog 22 #[.agg (val6 rW none 0 0 (some ⟨w0.heap.size + 1,0,none⟩) 2 2),.agg (opCells o s)] W fun e w'=>∃ aA an ac kA kc,e = .returned (.tuple #[.agg (val6 r aA an ac kA r.kids.length kc),.int .i64 0])∧NodeV (Old w') w' aA an ac kA r.kids.length kc r∧Below W.heap.size W w':=by
  refine (apply_any W rW none _ 0 0 2 2 h.node o s ho hs (by decide)).mono ?_
  rintro e w' ⟨aA,an,ac,kA,kn,kc,rfl,hn,hb⟩
  rw [hv,ha] at *
  obtain rfl:kn = r.kids.length:=hn.facts.kl.symm
  exact ⟨aA,an,ac,kA,kc,rfl,hn.kept (fun k hk=>by
    rcases hk with hk | hk
    · exact Nat.lt_of_lt_of_le hk hb.size
    · exact hk.2) (fun _ _=>rfl),hb⟩
theorem Wk.va {w0 W:World} (h:Wk w0 W) (o:Ov) (s:OS) (ho:OpIn W o s) (k:Int) (hv:validV rW o = k) :
    Calls Try.prog 18 #[.agg (val6 rW none 0 0 (some ⟨w0.heap.size + 1,0,none⟩) 2 2),.agg (opCells o s)] W fun e w'=>e = .returned (.int .i64 k)∧Below W.heap.size W w':=by
  have:=valid_any W rW none _ 0 0 2 2 o s h.node ho (by decide)
  rw [hv] at this
  exact this
theorem pcs_none (W:World):P5.PcsIn W none 0 []:=P5.PcsIn.nil W
theorem Wk.c1 {w0 W:World} (h:Wk w0 W):Calls Try.prog 22 #[.agg #[.int .u64 0,.bool false,.string ⟨#[114]⟩,.slice none 0 0,.string ⟨#[]⟩,.slice (some ⟨w0.heap.size + 1,0,none⟩) 2 2],.agg #[.int .u8 1,.slice (some ⟨W.heap.size,0,none⟩) 1 1,.int .i64 1,.slice none 0 0,.int .u64 0,.bool false,.string ⟨#[110]⟩,.string ⟨#[]⟩,.string ⟨#[]⟩,.bool false,.slice none 0 0]] (W.alloc (.cells #[.int .i64 0] 3)) fun e w'=>∃ aA an ac kA kc,e = .returned (.tuple #[.agg #[.int .u64 0,.bool false,.string ⟨#[114]⟩,.slice aA an ac,.string ⟨#[]⟩,.slice kA 2 kc],.int .i64 0])∧Res w'.heap.size (.mk 0 false [114] [] [] [.mk 0 false [97] [] [] [xW,nW,cW],bW]) (w'.alloc (.cells #[.int .u64 0,.bool false,.string ⟨#[114]⟩,.slice aA an ac,.string ⟨#[]⟩,.slice kA 2 kc] 33))∧Below W.heap.size W w':=by
  have hi:Its (W.alloc (.cells #[.int .i64 0] 3)) (some ⟨W.heap.size,0,none⟩) 1 [0]:=its_lit (xs:=[0]) (heap_alloc_new W _)
  refine ((h.alloc (.cells #[.int .i64 0] 3)).ap o1 ⟨some ⟨W.heap.size,0,none⟩,1,1,none,0,0,none,0,0⟩ (op_lit (hp:=hi) (hp3:=fun e=>by cases e) (ht:=Its.none_ _) (ht3:=fun _=>rfl) (hq:=pcs_none _) (hq3:=fun _=>rfl) (f1:=fit_lit) (f2:=fit_lit)) slim_lit (.mk 0 false [114] [] [] [.mk 0 false [97] [] [] [xW,nW,cW],bW]) v1 a1).mono ?_
  rintro e w' ⟨aA,an,ac,kA,kc,rfl,hn,hb⟩
  exact ⟨aA,an,ac,kA,kc,rfl,Res.new hn,((Below.refl _ _).alloc (Nat.le_refl _) _).trans (hb.mono (by simp))⟩
theorem Wk.c2 {w0 W:World} (h:Wk w0 W):Calls Try.prog 22 #[.agg #[.int .u64 0,.bool false,.string ⟨#[114]⟩,.slice none 0 0,.string ⟨#[]⟩,.slice (some ⟨w0.heap.size + 1,0,none⟩) 2 2],.agg #[.int .u8 3,.slice (some ⟨W.heap.size,0,none⟩) 2 2,.int .i64 2,.slice none 0 0,.int .u64 0,.bool false,.string ⟨#[]⟩,.string ⟨#[]⟩,.string ⟨#[]⟩,.bool false,.slice none 0 0]] (W.alloc (.cells #[.int .i64 0,.int .i64 0] 3)) fun e w'=>∃ aA an ac kA kc,e = .returned (.tuple #[.agg #[.int .u64 0,.bool false,.string ⟨#[114]⟩,.slice aA an ac,.string ⟨#[]⟩,.slice kA 3 kc],.int .i64 0])∧Res w'.heap.size (.mk 0 false [114] [] [] [.mk 0 false [97] [] [] [cW],bW,xW]) (w'.alloc (.cells #[.int .u64 0,.bool false,.string ⟨#[114]⟩,.slice aA an ac,.string ⟨#[]⟩,.slice kA 3 kc] 33))∧Below W.heap.size W w':=by
  have hi:Its (W.alloc (.cells #[.int .i64 0,.int .i64 0] 3)) (some ⟨W.heap.size,0,none⟩) 2 [0,0]:=its_lit (xs:=[0,0]) (heap_alloc_new W _)
  refine ((h.alloc (.cells #[.int .i64 0,.int .i64 0] 3)).ap o2 ⟨some ⟨W.heap.size,0,none⟩,2,2,none,0,0,none,0,0⟩ (op_lit (hp:=hi) (hp3:=fun e=>by cases e) (ht:=Its.none_ _) (ht3:=fun _=>rfl) (hq:=pcs_none _) (hq3:=fun _=>rfl) (f1:=fit_lit) (f2:=fit_lit)) slim_lit (.mk 0 false [114] [] [] [.mk 0 false [97] [] [] [cW],bW,xW]) v2 a2).mono ?_
  rintro e w' ⟨aA,an,ac,kA,kc,rfl,hn,hb⟩
  exact ⟨aA,an,ac,kA,kc,rfl,Res.new hn,((Below.refl _ _).alloc (Nat.le_refl _) _).trans (hb.mono (by simp))⟩
theorem Wk.c3 {w0 W:World} (h:Wk w0 W):Calls Try.prog 22 #[.agg #[.int .u64 0,.bool false,.string ⟨#[114]⟩,.slice none 0 0,.string ⟨#[]⟩,.slice (some ⟨w0.heap.size + 1,0,none⟩) 2 2],.agg #[.int .u8 3,.slice (some ⟨W.heap.size,0,none⟩) 1 1,.int .i64 1,.slice none 0 0,.int .u64 0,.bool false,.string ⟨#[]⟩,.string ⟨#[]⟩,.string ⟨#[]⟩,.bool false,.slice none 0 0]] (W.alloc (.cells #[.int .i64 0] 3)) fun e w'=>∃ aA an ac kA kc,e = .returned (.tuple #[.agg #[.int .u64 0,.bool false,.string ⟨#[114]⟩,.slice aA an ac,.string ⟨#[]⟩,.slice kA 2 kc],.int .i64 0])∧Res w'.heap.size rW (w'.alloc (.cells #[.int .u64 0,.bool false,.string ⟨#[114]⟩,.slice aA an ac,.string ⟨#[]⟩,.slice kA 2 kc] 33))∧Below W.heap.size W w':=by
  have hi:Its (W.alloc (.cells #[.int .i64 0] 3)) (some ⟨W.heap.size,0,none⟩) 1 [0]:=its_lit (xs:=[0]) (heap_alloc_new W _)
  refine ((h.alloc (.cells #[.int .i64 0] 3)).ap o3 ⟨some ⟨W.heap.size,0,none⟩,1,1,none,0,0,none,0,0⟩ (op_lit (hp:=hi) (hp3:=fun e=>by cases e) (ht:=Its.none_ _) (ht3:=fun _=>rfl) (hq:=pcs_none _) (hq3:=fun _=>rfl) (f1:=fit_lit) (f2:=fit_lit)) slim_lit rW v3 a3).mono ?_
  rintro e w' ⟨aA,an,ac,kA,kc,rfl,hn,hb⟩
  exact ⟨aA,an,ac,kA,kc,rfl,Res.new hn,((Below.refl _ _).alloc (Nat.le_refl _) _).trans (hb.mono (by simp))⟩
theorem Wk.c4 {w0 W:World} (h:Wk w0 W):Calls Try.prog 22 #[.agg #[.int .u64 0,.bool false,.string ⟨#[114]⟩,.slice none 0 0,.string ⟨#[]⟩,.slice (some ⟨w0.heap.size + 1,0,none⟩) 2 2],.agg #[.int .u8 6,.slice (some ⟨W.heap.size,0,none⟩) 2 2,.int .i64 0,.slice none 0 0,.int .u64 0,.bool false,.string ⟨#[]⟩,.string ⟨#[]⟩,.string ⟨#[]⟩,.bool false,.slice (some ⟨W.heap.size + 1,0,none⟩) 1 1]] ((W.alloc (.cells #[.int .i64 0,.int .i64 0] 3)).alloc (.cells #[.int .i64 2,.int .i64 0,.string ⟨#[33]⟩] 53)) fun e w'=>∃ aA an ac kA kc,e = .returned (.tuple #[.agg #[.int .u64 0,.bool false,.string ⟨#[114]⟩,.slice aA an ac,.string ⟨#[]⟩,.slice kA 2 kc],.int .i64 0])∧Res w'.heap.size (.mk 0 false [114] [] [] [.mk 0 false [97] [] [] [.mk 0 true [120] [] [104,105,33] [],cW],bW]) (w'.alloc (.cells #[.int .u64 0,.bool false,.string ⟨#[114]⟩,.slice aA an ac,.string ⟨#[]⟩,.slice kA 2 kc] 33))∧Below W.heap.size W w':=by
  have hi:Its (W.alloc (.cells #[.int .i64 0,.int .i64 0] 3)) (some ⟨W.heap.size,0,none⟩) 2 [0,0]:=its_lit (xs:=[0,0]) (heap_alloc_new W _)
  have hb1:Below (W.alloc (.cells #[.int .i64 0,.int .i64 0] 3)).heap.size (W.alloc (.cells #[.int .i64 0,.int .i64 0] 3)) ((W.alloc (.cells #[.int .i64 0,.int .i64 0] 3)).alloc (.cells #[.int .i64 2,.int .i64 0,.string ⟨#[33]⟩] 53)):=(Below.refl _ _).alloc (Nat.le_refl _) _
  have g1:=heap_alloc_new (W.alloc (.cells #[.int .i64 0,.int .i64 0] 3)) (.cells #[.int .i64 2,.int .i64 0,.string ⟨#[33]⟩] 53)
  rw [World.size_alloc] at g1
  have hq:P5.PcsIn ((W.alloc (.cells #[.int .i64 0,.int .i64 0] 3)).alloc (.cells #[.int .i64 2,.int .i64 0,.string ⟨#[33]⟩] 53)) (some ⟨W.heap.size + 1,0,none⟩) 1 [⟨2,0,[33]⟩]:=by
    refine ⟨rfl,fun q x hx=>?_⟩
    match q,hx with
    | 0,hx =>
      injection hx with hx
      subst hx
      refine ⟨_,rfl,by show W.heap.size + 1 < _;simp,?_⟩
      have c0:=cell_of_row _ _ 0 _ _ _ g1
      have c1:=cell_of_row _ _ 1 _ _ _ g1
      have c2:=cell_of_row _ _ 2 _ _ _ g1
      rw [add_zero_off]
      exact ⟨by decide,by decide,by decide,by decide,by decide,c0,c1,c2⟩
    | q + 1,hx=>simp at hx
  refine (((h.alloc (.cells #[.int .i64 0,.int .i64 0] 3)).alloc (.cells #[.int .i64 2,.int .i64 0,.string ⟨#[33]⟩] 53)).ap o4 ⟨some ⟨W.heap.size,0,none⟩,2,2,none,0,0,some ⟨W.heap.size + 1,0,none⟩,1,1⟩ (op_lit (hp:=hi.below hb1) (hp3:=fun e=>by cases e) (ht:=Its.none_ _) (ht3:=fun _=>rfl) (hq:=hq) (hq3:=fun e=>by cases e) (f1:=fit_lit) (f2:=fit_lit)) slim_lit (.mk 0 false [114] [] [] [.mk 0 false [97] [] [] [.mk 0 true [120] [] [104,105,33] [],cW],bW]) v4 a4).mono ?_
  rintro e w' ⟨aA,an,ac,kA,kc,rfl,hn,hb⟩
  exact ⟨aA,an,ac,kA,kc,rfl,Res.new hn,(((Below.refl _ _).alloc (Nat.le_refl _) _).alloc (by simp) _).trans (hb.mono (by simp <;> omega))⟩
theorem Wk.c5 {w0 W:World} (h:Wk w0 W):Calls Try.prog 18 #[.agg #[.int .u64 0,.bool false,.string ⟨#[114]⟩,.slice none 0 0,.string ⟨#[]⟩,.slice (some ⟨w0.heap.size + 1,0,none⟩) 2 2],.agg #[.int .u8 3,.slice (some ⟨W.heap.size,0,none⟩) 1 1,.int .i64 0,.slice (some ⟨W.heap.size + 1,0,none⟩) 2 2,.int .u64 0,.bool false,.string ⟨#[]⟩,.string ⟨#[]⟩,.string ⟨#[]⟩,.bool false,.slice none 0 0]] ((W.alloc (.cells #[.int .i64 0] 3)).alloc (.cells #[.int .i64 0,.int .i64 0] 3)) fun e w'=>e = .returned (.int .i64 84)∧Below W.heap.size W w':=by
  have hi:Its (W.alloc (.cells #[.int .i64 0] 3)) (some ⟨W.heap.size,0,none⟩) 1 [0]:=its_lit (xs:=[0]) (heap_alloc_new W _)
  have hb1:Below (W.alloc (.cells #[.int .i64 0] 3)).heap.size (W.alloc (.cells #[.int .i64 0] 3)) ((W.alloc (.cells #[.int .i64 0] 3)).alloc (.cells #[.int .i64 0,.int .i64 0] 3)):=(Below.refl _ _).alloc (Nat.le_refl _) _
  have g1:=heap_alloc_new (W.alloc (.cells #[.int .i64 0] 3)) (.cells #[.int .i64 0,.int .i64 0] 3)
  rw [World.size_alloc] at g1
  refine (((h.alloc (.cells #[.int .i64 0] 3)).alloc (.cells #[.int .i64 0,.int .i64 0] 3)).va o5 ⟨some ⟨W.heap.size,0,none⟩,1,1,some ⟨W.heap.size + 1,0,none⟩,2,2,none,0,0⟩ (op_lit (hp:=hi.below hb1) (hp3:=fun e=>by cases e) (ht:=its_lit (xs:=[0,0]) g1) (ht3:=fun e=>by cases e) (hq:=pcs_none _) (hq3:=fun _=>rfl) (f1:=fit_lit) (f2:=fit_lit)) 84 v5).mono ?_
  rintro e w' ⟨rfl,hb⟩
  exact ⟨rfl,(((Below.refl _ _).alloc (Nat.le_refl _) _).alloc (by simp) _).trans (hb.mono (by simp <;> omega))⟩
theorem Wk.c6 {w0 W:World} (h:Wk w0 W):Calls Try.prog 18 #[.agg #[.int .u64 0,.bool false,.string ⟨#[114]⟩,.slice none 0 0,.string ⟨#[]⟩,.slice (some ⟨w0.heap.size + 1,0,none⟩) 2 2],.agg #[.int .u8 2,.slice none 0 0,.int .i64 0,.slice none 0 0,.int .u64 0,.bool false,.string ⟨#[]⟩,.string ⟨#[]⟩,.string ⟨#[]⟩,.bool false,.slice none 0 0]] W fun e w'=>e = .returned (.int .i64 82)∧Below W.heap.size W w' :=
  h.va o6 ⟨none,0,0,none,0,0,none,0,0⟩ (op_lit (hp:=Its.none_ _) (hp3:=fun _=>rfl) (ht:=Its.none_ _) (ht3:=fun _=>rfl) (hq:=pcs_none _) (hq3:=fun _=>rfl) (f1:=fit_lit) (f2:=fit_lit)) 82 v6
end Go.Proofs.Ytmipodnffhngaaa.Top
