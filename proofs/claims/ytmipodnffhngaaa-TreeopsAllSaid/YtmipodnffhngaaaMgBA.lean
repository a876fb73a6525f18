/- MgBA: TopAa TopAb TopAc TopAd -/
import Derived.Test.YtmipodnffhngaaaTopEa
import Derived.Test.YtmipodnffhngaaaTopFo
import Derived.Test.YtmipodnffhngaaaMgAN
import Derived.Test.YtmipodnffhngaaaMgAP
import Derived.Test.YtmipodnffhngaaaMgAQ
import Derived.Test.YtmipodnffhngaaaMgAL
import Derived.Test.YtmipodnffhngaaaMgAF
set_option linter.all false
namespace Go.Proofs.Ytmipodnffhngaaa.Top
open Go.RowKit
set_option maxRecDepth 20000
set_option linter.unusedVariables false

def costV (o:Ov):Nat:=1 + o.label.length + o.key.length + o.value.length + P5.putsI o.pieces
theorem weighs_out {x:Nd}:∀ {c:Nat} {l:List Nd},l[c]? = some x→weighsV (delK c l) + weighV x = weighsV l:=fun {c l} h=>by
  have hd:l.drop c = x :: l.drop (c + 1):=by
    obtain ⟨h1,h2⟩:=List.getElem?_eq_some_iff.1 h
    rw [List.drop_eq_getElem_cons h1,h2]
  have h2:=congrArg weighsV (List.take_append_drop c l)
  rw [weighsV_append,hd] at h2
  have h3:weighsV (x :: l.drop (c + 1)) = weighV x + weighsV (l.drop (c + 1)):=rfl
  unfold delK
  rw [weighsV_append]
  omega
theorem textN_weighs (y:Nd) (l:Txt):weighV (textN y l) + y.text.length = weighV y + l.length:=by cases y;simp only [textN,weighV,Nd.text];omega
theorem weigh_after {t:Nd} {o:Ov} (hf:faultV t o = 0):weighV (afterV t o)≤weighV t + costV o:=by
  obtain ⟨hfm,hroot,x,hx,h1,h3,h6⟩:=fault_none hf
  have hmay:=may_nat hfm
  have hc:costV o = 1 + o.label.length + o.key.length + o.value.length + P5.putsI o.pieces:=rfl
  by_cases k1:o.kind = 1
  · rw [show afterV t o = (putV t o.path (x.withKids (insK o.at_.toNat (.mk o.id o.leaf o.label [] [] []) x.kids))).getD Nd.zero by unfold afterV;rw [if_pos k1,mod_at hx]]
    obtain ⟨a,p1,-,-,-,p4⟩:=put_all o.path t (x.withKids (insK o.at_.toNat (.mk o.id o.leaf o.label [] [] []) x.kids)) x hx
    rw [p1]
    have e1:=weighV_with x (insK o.at_.toNat (.mk o.id o.leaf o.label [] [] []) x.kids)
    rw [weighs_ins] at e1
    have e2:weighV (.mk o.id o.leaf o.label [] [] []) = 1 + o.label.length:=by simp [weighV,attrsW,weighsV]
    simp only [Option.getD_some]
    omega
  · by_cases k2:o.kind = 2
    · have hne:o.path ≠ []:=fun e=>hroot ⟨.inl k2,e⟩
      obtain ⟨q,c,hq⟩:=path_last hne hmay
      have hx2:=hx
      rw [hq] at hx2
      obtain ⟨y,j,d1,d2,d3⟩:=at_parent q t x _ hx2
      obtain rfl:c = j:=by omega
      obtain ⟨a,p1,-,-,-,p4⟩:=put_all q t (y.withKids (delK c y.kids)) y d1
      rw [show afterV t o = a by unfold afterV;rw [if_neg k1,if_pos k2,hq,delAt_snoc,mod_at d1,p1];rfl]
      have e1:=weighV_with y (delK c y.kids)
      have e2:=weighs_out d3
      omega
    · by_cases k3:o.kind = 3
      · have hne:o.path ≠ []:=fun e=>hroot ⟨.inr k3,e⟩
        obtain ⟨q,c,hq⟩:=path_last hne hmay
        obtain ⟨hw,y,hy,hge⟩:=h3 k3
        have hfm3:=hfm
        unfold formedV at hfm3
        rw [if_neg k1,if_neg k2,if_pos k3] at hfm3
        simp only [Bool.and_eq_true] at hfm3
        obtain ⟨g,hg,hg1⟩:=gap_nat hfm3.2.1
        obtain ⟨m1,m2,y2,r,v1,v2,v3,v4,v5,v6,v7⟩:=move_value k3 hg hx hy hne hw (by have:=(gap_none hge).2;omega)
        rw [v7]
        obtain ⟨a,p1,-,-,-,p4⟩:=put_all _ m2 (y2.withKids (insK (progTo o.path o.to_ g).2 x y2.kids)) y2 v4
        obtain rfl:r = a:=Option.some.inj (v6.symm.trans p1)
        have e1:=weighV_with y2 (insK (progTo o.path o.to_ g).2 x y2.kids)
        rw [weighs_ins] at e1
        have hx2:=hx
        rw [hq] at hx2
        obtain ⟨y3,j,d1,d2,d3⟩:=at_parent q t x _ hx2
        obtain rfl:c = j:=by omega
        obtain ⟨b,p6,-,-,-,p7⟩:=put_all q t (y3.withKids (delK c y3.kids)) y3 d1
        rw [hq,delAt_snoc,mod_at d1] at v3
        obtain rfl:b = m2:=Option.some.inj (p6.symm.trans v3)
        have e2:=weighV_with y3 (delK c y3.kids)
        have e3:=weighs_out d3
        omega
      · have hfin:∀ z:Nd,weighV z≤weighV x + costV o→weighV ((putV t o.path z).getD Nd.zero)≤weighV t + costV o:=fun z e=>by
          obtain ⟨a,p1,-,-,-,p4⟩:=put_all o.path t z x hx
          rw [p1]
          simp only [Option.getD_some]
          omega
        by_cases k4:o.kind = 4
        · rw [show afterV t o = (putV t o.path (attN x (docA o.key o.value x.attrs o.gone))).getD Nd.zero by unfold afterV;rw [if_neg k1,if_neg k2,if_neg k3,if_pos k4,hx];rfl]
          have e1:=attN_weigh x (docA o.key o.value x.attrs o.gone)
          have e2:=doc_weigh o.key o.value x.attrs o.gone
          refine hfin _ ?_
          split at e2 <;> omega
        · by_cases k5:o.kind = 5
          · rw [show afterV t o = (putV t o.path (labN x o.label)).getD Nd.zero by unfold afterV;rw [if_neg k1,if_neg k2,if_neg k3,if_neg k4,if_pos k5,hx];rfl]
            have e1:=labN_weigh x o.label
            exact hfin _ (by omega)
          · rw [show afterV t o = (putV t o.path (textN x (Ltx.apply x.text (pcs o.pieces)))).getD Nd.zero by unfold afterV;rw [if_neg k1,if_neg k2,if_neg k3,if_neg k4,if_neg k5,hx];rfl]
            have e1:=textN_weighs x (Ltx.apply x.text (pcs o.pieces))
            have e2:=Ltx.apply_len (pcs o.pieces) x.text
            have e3:=puts_pcs o.pieces
            exact hfin _ (by omega)
def goAll (t:Nd) (i:Nat):List Ov→Nd × Nat × Int
  | []=>(t,i,0)
  | o :: r=>if faultV t o = 0 then goAll (afterV t o) (i + 1) r else (Nd.zero,i,faultV t o)
def allV (t:Nd) (l:List Ov):Nd × Nat × Int:=if rightV ltB t = true then goAll t 0 l else (Nd.zero,0,2)
theorem cost_slim {o:Ov} (h:costV o≤1000):Slim o:=by
  have hc:costV o = 1 + o.label.length + o.key.length + o.value.length + P5.putsI o.pieces:=rfl
  exact ⟨by omega,by omega,by omega,by omega⟩
theorem go_step {t tq:Nd} {ls:List Ov} {q:Nat} {o:Ov} (h:goAll t 0 ls = goAll tq q (ls.drop q)) (ho:ls[q]? = some o):goAll t 0 ls = if faultV tq o = 0 then goAll (afterV tq o) (q + 1) (ls.drop (q + 1)) else (Nd.zero,q,faultV tq o):=by
  obtain ⟨h1,h2⟩:=List.getElem?_eq_some_iff.1 ho
  rw [h,List.drop_eq_getElem_cons h1,h2]
  rfl
theorem go_end {t tq:Nd} {ls:List Ov} {q:Nat} (h:goAll t 0 ls = goAll tq q (ls.drop q)) (hq:ls.length≤q):goAll t 0 ls = (tq,q,0):=by
  rw [h,List.drop_of_length_le hq]
  rfl
def Elev (w:World) (E:Addr) (o:Ov) (s:OS):Prop :=
  w.cell? E = some (.int .u8 (o.kind:Int))∧w.cell? ⟨E.block,E.off + 1,none⟩ = some (.slice s.pA s.pn s.pc)∧w.cell? ⟨E.block,E.off + 2,none⟩ = some (.int .i64 o.at_)∧w.cell? ⟨E.block,E.off + 3,none⟩ = some (.slice s.tA s.tn s.tc)∧w.cell? ⟨E.block,E.off + 4,none⟩ = some (.int .u64 (o.id:Int)) ∧
    w.cell? ⟨E.block,E.off + 5,none⟩ = some (.bool o.leaf)∧w.cell? ⟨E.block,E.off + 6,none⟩ = some (.string ⟨o.label.toArray⟩)∧w.cell? ⟨E.block,E.off + 7,none⟩ = some (.string ⟨o.key.toArray⟩)∧w.cell? ⟨E.block,E.off + 8,none⟩ = some (.string ⟨o.value.toArray⟩)∧w.cell? ⟨E.block,E.off + 9,none⟩ = some (.bool o.gone)∧w.cell? ⟨E.block,E.off + 10,none⟩ = some (.slice s.qA s.qn s.qc)
theorem Elev.kept {w w':World} {E:Addr} {o:Ov} {s:OS} (h:Elev w E o s) (hb:w'.heap[E.block]? = w.heap[E.block]?):Elev w' E o s:=by
  obtain ⟨h0,h1,h2,h3,h4,h5,h6,h7,h8,h9,h10⟩:=h
  have c:∀ o,w'.cell? ⟨E.block,o,none⟩ = w.cell? ⟨E.block,o,none⟩:=fun o=>World.cell?_of_block (w:=w) (w':=w') (a:=⟨E.block,o,none⟩) hb
  exact ⟨(World.cell?_of_block (w:=w) (w':=w') (a:=E) hb).trans h0,(c _).trans h1,(c _).trans h2,(c _).trans h3,(c _).trans h4,(c _).trans h5,(c _).trans h6,(c _).trans h7,(c _).trans h8,(c _).trans h9,(c _).trans h10⟩
def OpsAt (w:World) (A:Option Addr) (n:Nat) (l:List (Ov × OS)):Prop :=
  l.length = n∧∀ q x,l[q]? = some x→OpRaw w x.1 x.2∧∃ ad,A = some ad∧ad.block < w.heap.size∧Elev w (ad.add (q * 11)) x.1 x.2
theorem OpsAt.below {w w':World} {A:Option Addr} {n:Nat} {l:List (Ov × OS)} (h:OpsAt w A n l) (hb:Below w.heap.size w w'):OpsAt w' A n l :=
  ⟨h.1,fun q x hx=>by
    obtain ⟨h1,ad,e,hlt,hc⟩:=h.2 q x hx
    have hk:(ad.add (q * 11)).block = ad.block:=by unfold Addr.add;split <;> rfl
    exact ⟨h1.below hb,ad,e,Nat.lt_of_lt_of_le hlt hb.size,hc.kept (by rw [hk];exact hb.block _ hlt)⟩⟩
theorem OpsAt.at_ {w:World} {A:Option Addr} {n q:Nat} {l:List (Ov × OS)} (h:OpsAt w A n l) (hq:q < n):∃ ad o s,A = some ad∧l[q]? = some (o,s)∧ad.block < w.heap.size∧OpRaw w o s∧Elev w (ad.add (q * 11)) o s:=by
  have hl:q < l.length:=by rw [h.1];exact hq
  obtain ⟨h1,ad,e,hlt,hc⟩:=h.2 q _ (List.getElem?_eq_getElem hl)
  exact ⟨ad,_,_,e,List.getElem?_eq_getElem hl,hlt,h1,hc⟩
theorem elev_of {w:World} {E:Addr} {o:Ov} {s:OS} (h:∀ j v,(opCells o s)[j]? = some v→w.cell? (E.add j) = some v):Elev w E o s :=
  ⟨h 0 _ rfl,h 1 _ rfl,h 2 _ rfl,h 3 _ rfl,h 4 _ rfl,h 5 _ rfl,h 6 _ rfl,h 7 _ rfl,h 8 _ rfl,h 9 _ rfl,h 10 _ rfl⟩
theorem OpsIn.at_row {w:World} {A:Option Addr} {n:Nat} {l:List (Ov × OS)} (h:OpsIn w A n l):OpsAt w A n l :=
  ⟨h.1,fun q x hx=>by
    obtain ⟨h1,ad,e,hlt,hc⟩:=h.2 q x hx
    exact ⟨h1,ad,e,hlt,elev_of hc⟩⟩
end Go.Proofs.Ytmipodnffhngaaa.Top
namespace Go.Proofs.Ytmipodnffhngaaa.Top
open Go.RowKit
set_option maxRecDepth 20000
set_option linter.unusedVariables false

def AllA (T:Nat→Prop) (w:World) (R:Nd × Nat × Int) (e:Ending) (w':World):Prop :=
  ∃ aA an ac kA kn kc,e = .returned (.tuple #[.agg (val6 R.1 aA an ac kA kn kc),.int .i64 (R.2.1:Int),.int .i64 R.2.2])∧NodeV (Nw T w w') w' aA an ac kA kn kc R.1∧Below w.heap.size w w'
structure FewO (o:Ov):Prop where
  cost:costV o≤1000
  path:o.path.length≤500000
  to_:o.to_.length≤500000
  pieces:o.pieces.length≤500000
theorem two_new (w:World) (o1 o2:Obj):(((w.alloc o1).alloc o2).heap[w.heap.size]? = some o1)∧(((w.alloc o1).alloc o2).heap[w.heap.size + 1]? = some o2)∧Below w.heap.size w ((w.alloc o1).alloc o2)∧((w.alloc o1).alloc o2).heap.size = w.heap.size + 1 + 1:=by
  have h1:=heap_alloc_new w o1
  have h2:=heap_alloc_new (w.alloc o1) o2
  rw [World.size_alloc] at h2
  exact ⟨(Go.heap_alloc_old _ _ (by simp)).trans h1,h2,((Below.refl _ _).alloc (Nat.le_refl _) _).alloc (by simp) _,by simp⟩
set_option maxHeartbeats 8000000 in
theorem all_any (w:World) (t:Nd) (aA kA:Option Addr) (an ac kn kc:Nat) (h:NodeV (Old w) w aA an ac kA kn kc t) (A:Option Addr) (n c:Nat) (l:List (Ov × OS)) (hl:OpsAt w A n l) (hn:n≤1000) (hf:∀ x ∈ l,FewO x.1) (hbig:weighV t + n * 1000≤40000) :
    Calls Try.prog 26 #[.agg (val6 t aA an ac kA kn kc),.slice A n c] w (AllA (Old w) w (allV t (l.map Prod.fst))):=by
  obtain ⟨z1,z2,z4,z5⟩:=two_new w (.cells (val6 t aA an ac kA kn kc) 33) (.cells zero6 33)
  obtain ⟨W2,hW2⟩:∃ W2,W2 = (w.alloc (.cells (val6 t aA an ac kA kn kc) 33)).alloc (.cells zero6 33):=⟨_,rfl⟩
  rw [← hW2] at z1 z2 z4 z5
  have hr:=Lib.hid (right_any W2 t aA kA an ac kn kc (h.below z4) (by have:=(count_le t);omega))
  have hat:=Lib.hid (fun (W:World) (hb:Below w.heap.size w W)=>at_T (Old w) W (fun k hk=>Nat.lt_of_lt_of_le hk hb.size) t aA kA an ac kn kc (h.kept (fun _ h=>h) fun k hk=>hb.block k hk) none 0 0 [] (Its.none_ W) (Nat.zero_le _) (by omega))
  unfold AtAns at hat
  simp only [atV,Option.getD_some,Option.isSome_some] at hat
  have hops:=Lib.hid (fun (W:World) (hb:Below w.heap.size w W)=>hl.below hb)
  have hlen:=Lib.hid hl.1
  have hbig':=Lib.hid hbig
  have hf':=Lib.hid hf
  have z1u:=z1
  unfold val6 at z1u
  obtain ⟨p0,p1,p2,p3,p4,p5,pf⟩:=six_cells z1u
  have z1':=Lib.hid z1
  have z2':=Lib.hid z2
  have z4':=Lib.hid z4
  have z5':=Lib.hid z5
  rw [hW2] at p0 p1 p2 p3 p4 p5 pf hr
  clear h hl z1 z1u z2 z4 z5 hbig hf
  unfold zero6 val6 at hW2 hr
  unfold val6 at hat
  unfold val6
  cases hv:rightV ltB t with
  | false =>
    have hv':=Lib.hid hv
    have hR:allV t (l.map Prod.fst) = (Nd.zero,0,2):=by unfold allV;rw [hv];rfl
    rw [hR]
    clear hv hR hat hops
    go_enter Try.func26,Try.ntmps26
    go_wp2_with (go_at_call 38;go_loud (refine hr.out.mono ?_;rw [← hW2];rintro e w1 ⟨rfl,hb⟩;rw [hv'.out];have hb':=Lib.hid hb;have hsb:=hb.size;have r3:=(hb.block (w.heap.size + 1) (by have:=z5'.out;omega)).trans z2'.out;have hr3:=Lib.hid r3;clear p0 p1 p2 p3 p4 p5 pf;unfold zero6 at r3;obtain ⟨q0,q1,q2,q3,q4,q5,qf⟩:=six_cells r3;have hne:w.heap.size + 1 < w1.heap.size:=(by have:=z5'.out;omega);clear hb hsb r3))
    obtain ⟨W9,hW9,R9,N9,B9⟩:=end_node0 (T:=Old w) (a:=Nd.zero) (yA:=none) (yn:=0) (yc:=0) (yK:=none) (ym:=0) (yd:=0) (fun k hk=>hk) (r:=w.heap.size + 1) (b:=W2.heap.size) (by omega) (by have:=z5'.out;omega) (z4'.out.trans (hb'.out.mono z4'.out.size)) hr3.out zero_node
    have hW9':W9 = ((((((w1.setCell ⟨w.heap.size + 1,0,none⟩ (.int .u64 0)).setCell ⟨w.heap.size + 1,1,none⟩ (.bool false)).setCell ⟨w.heap.size + 1,2,none⟩ (.string ⟨#[]⟩)).setCell ⟨w.heap.size + 1,3,none⟩ (.slice none 0 0)).setCell ⟨w.heap.size + 1,4,none⟩ (.string ⟨#[]⟩)).setCell ⟨w.heap.size + 1,5,none⟩ (.slice none 0 0)):=hW9
    rw [← hW9']
    unfold val6 at R9
    obtain ⟨d0,d1,d2,d3,d4,d5,df⟩:=six_cells R9
    refine bodyPost_ret (v:=.tuple #[.agg (val6 Nd.zero none 0 0 none 0 0),.int .i64 0,.int .i64 2]) (by simp [results,Try.results26,go_sem,d0,d1,d2,d3,d4,d5,val6]) rfl ?_
    exact ⟨none,0,0,none,0,0,rfl,N9,B9⟩
  | true =>
    have hv':=Lib.hid hv
    have hR:=Lib.hid (show allV t (l.map Prod.fst) = goAll t 0 (l.map Prod.fst) by unfold allV;rw [hv];rfl)
    rw [hR.out]
    clear hv hR
    go_enter Try.func26,Try.ntmps26
    go_upto_region 3 with (go_at_call 38;go_loud (refine hr.out.mono ?_;rw [← hW2];rintro e w1 ⟨rfl,hb⟩;rw [hv'.out];have B1:=Lib.hid hb;clear p0 p1 p2 p3 p4 p5 pf;have r1:=(hb.block w.heap.size (by have:=z5'.out;omega)).trans z1'.out;unfold val6 at r1;obtain ⟨p0,p1,p2,p3,p4,p5,pf⟩:=six_cells r1;clear hb r1))
    clear hr
    go_upto_region 4 with (go_at_call 36;go_loud (refine (hat.out w1 (z4'.out.trans (B1.out.mono z4'.out.size))).mono ?_;rintro e w2 ⟨xA,xn,xc,xK,xm,xd,rfl,hnx,hb⟩;have hnx':=Lib.hid hnx;have hb':=Lib.hid hb;clear p0 p1 p2 p3 p4 p5 pf hnx hb))
    clear hat
    obtain ⟨X1,hX1⟩:∃ X,X = w2.alloc (.cells (val6 t xA xn xc xK xm xd) 33):=⟨_,rfl⟩
    have m1:=Lib.hid (show X1.heap[w2.heap.size]? = some (.cells (val6 t xA xn xc xK xm xd) 33 (0,0)) by rw [hX1];exact heap_alloc_new w2 _)
    have B2:=Lib.hid (show Below W2.heap.size W2 X1 by rw [hX1];exact B1.out.trans ((hb'.out.alloc hb'.out.size _).mono B1.out.size))
    have hs1:w2.heap.size < X1.heap.size:=by rw [hX1];simp
    have hs0:W2.heap.size≤w2.heap.size:=Nat.le_trans B1.out.size hb'.out.size
    have hn1:=Lib.hid (show NodeV (fun k=>Old w k∨(W2.heap.size≤k∧k ≠ w2.heap.size∧k < X1.heap.size)) X1 xA xn xc xK xm xd t by
      rw [hX1]
      refine hnx'.out.kept (fun k hk=>?_) (fun k hk=>?_)
      · rcases hk with hk | hk
        · exact .inl hk
        · exact .inr ⟨Nat.le_trans B1.out.size hk.1,by omega,by simp;omega⟩
      · refine Go.heap_alloc_old _ _ ?_
        rcases hk with hk | hk
        · have:=z4'.out.size;unfold Old at hk;omega
        · omega)
    unfold val6 at hX1
    rw [← hX1]
    clear hX1 hnx' hb'
    obtain ⟨b7,hbe⟩:∃ b,b = w2.heap.size:=⟨_,rfl⟩
    rw [← hbe] at m1 hs1 hs0 hn1 ⊢
    clear hbe
    have g2:=Lib.hid ((B2.out.block (w.heap.size + 1) (by have:=z5'.out;omega)).trans z2'.out)
    have BX:=Lib.hid (z4'.out.trans (B2.out.mono z4'.out.size))
    have sX:=Lib.hid (show W2.heap.size≤X1.heap.size from B2.out.size)
    clear B1 B2
    go_wp2_with fail
    go_loopw [23] (fun v23 wr=>∃ (q:Nat) (tq:Nd) (qA qK:Option Addr) (qn qc qm qd:Nat),q≤n∧v23 = .int .i64 (q:Int)∧goAll t 0 (l.map Prod.fst) = goAll tq q ((l.map Prod.fst).drop q)∧rightV ltB tq = true∧weighV tq + (n - q) * 1000≤40000 ∧
      NodeV (fun k=>Old w k∨(W2.heap.size≤k∧k ≠ b7∧k < wr.heap.size)) wr qA qn qc qK qm qd tq∧wr.heap[b7]? = some (.cells (val6 tq qA qn qc qK qm qd) 33 (0,0))∧wr.heap[w.heap.size + 1]? = some (.cells zero6 33 (0,0))∧Below w.heap.size w wr∧X1.heap.size≤wr.heap.size) (fun v23 _=>n - (intOf v23).toNat)
    case atStart=>exact ⟨0,t,xA,xK,xn,xc,xm,xd,Nat.zero_le _,rfl,rfl,hv'.out,by have:=hbig'.out;omega,hn1.out,m1.out,g2.out,BX.out,Nat.le_refl _⟩
    case round =>
      obtain ⟨q,tq,qA,qK,qn,qc,qm,qd,hq,rfl,hgo,hrt,hwq,hnq,hB7,hB4,hbel,hsz⟩:=hrel
      have HGO:=Lib.hid hgo
      have HRT:=Lib.hid hrt
      have HWQ:=Lib.hid hwq
      have HNQ:=Lib.hid hnq
      have HB7:=Lib.hid hB7
      have HB4:=Lib.hid hB4
      have HBEL:=Lib.hid hbel
      have r7:=hB7
      unfold val6 at r7
      obtain ⟨p0,p1,p2,p3,p4,p5,pf⟩:=six_cells r7
      clear hgo hrt hwq hnq hB7 hbel r7
      by_cases h1:q < n
      · have h1I:(q:Int) < (n:Int):=by omega
        obtain ⟨ad,o,s,hA,hoq,hlt,hraw,hel⟩:=(hops.out wr HBEL.out).at_ h1
        subst hA
        obtain ⟨e0,e1,e2,e3,e4,e5,e6,e7,e8,e9,e10⟩:=hel
        have hfo:=Lib.hid (hf'.out (o,s) (List.mem_of_getElem? hoq))
        have hin:=Lib.hid (hraw.op hfo.out.path hfo.out.to_ hfo.out.pieces)
        have hoq':=Lib.hid (show (l.map Prod.fst)[q]? = some o by rw [List.getElem?_map,hoq];rfl)
        clear hlt hraw hoq hB4
        go_upto_region 7 with fail
        obtain ⟨X,hX⟩:∃ X,X = wr.alloc (.cells (opCells o s) 26):=⟨_,rfl⟩
        have BX:=Lib.hid (show Below wr.heap.size wr X by rw [hX];exact (Below.refl _ _).alloc (Nat.le_refl _) _)
        have hXs:=Lib.hid (show X.heap.size = wr.heap.size + 1 by rw [hX];simp)
        have hXr:=Lib.hid (show X.heap[wr.heap.size]? = some (.cells (opCells o s) 26 (0,0)) by rw [hX];exact heap_alloc_new wr _)
        unfold opCells at hX
        rw [← hX]
        clear hX e0 e1 e2 e3 e4 e5 e6 e7 e8 e9 e10 p0 p1 p2 p3 p4 p5 pf
        have h7:=Lib.hid ((BX.out.block b7 (by have:=HB7.out;exact (Array.getElem?_eq_some_iff.1 this).1)).trans HB7.out)
        have bw:=Lib.hid (HBEL.out.trans (BX.out.mono HBEL.out.size))
        have hnX:=Lib.hid (show NodeV (fun k=>Old w k∨(W2.heap.size≤k∧k ≠ b7∧k < X.heap.size)) X qA qn qc qK qm qd tq from HNQ.out.kept (fun k hk=>by
          rcases hk with hk | hk
          · exact .inl hk
          · exact .inr ⟨hk.1,hk.2.1,by have:=hXs.out;omega⟩) (fun k hk=>BX.out.block k (by
          rcases hk with hk | hk
          · have:=HBEL.out.size;unfold Old at hk;omega
          · exact hk.2.2)))
        have hfa:=Lib.hid (fault_any X tq qA qK qn qc qm qd o s (hnX.out.kept (fun k hk=>show k < X.heap.size by
          rcases hk with hk | hk
          · have:=bw.out.size;unfold Old at hk;omega
          · exact hk.2.2) (fun _ _=>rfl)) (hin.out.below BX.out) (by have:=HWQ.out;omega))
        have hXr':=hXr.out
        have h7':=h7.out
        unfold val6 at h7'
        obtain ⟨o0,o1,o2,o3,o4,o5,o6,o7,o8,o9,o10⟩:=op_cells hXr'
        obtain ⟨p0,p1,p2,p3,p4,p5,pf⟩:=six_cells h7'
        clear hXr' h7'
        unfold val6 opCells at hfa
        obtain ⟨vv,hvv⟩:∃ vv,vv = faultV tq o:=⟨_,rfl⟩
        rw [← hvv] at hfa
        have hst:=Lib.hid (go_step HGO.out hoq'.out)
        rw [← hvv] at hst
        have hvv':=Lib.hid hvv
        have hlb7:=Lib.hid (Array.getElem?_eq_some_iff.1 HB7.out).1
        clear hvv
        by_cases hfq:vv = 0
        · have hdone:=Lib.hid (fun (W:World) (hb:Below X.heap.size X W)=>done_any (fun k=>Old w k∨(W2.heap.size≤k∧k ≠ b7∧k < X.heap.size)) W (fun k hk=>by
            have s1:=hb.size
            rcases hk with hk | hk
            · have:=bw.out.size;unfold Old at hk;omega
            · omega) tq qA qK qn qc qm qd (hnX.out.kept (fun _ h=>h) (fun k hk=>hb.block k (by
            rcases hk with hk | hk
            · have:=bw.out.size;unfold Old at hk;omega
            · omega))) o s ((hin.out.below BX.out).below hb) (cost_slim hfo.out.cost) (by have:=HWQ.out;omega) (by have h5:=HRT.out;unfold rightV at h5;rw [Bool.and_eq_true] at h5;exact h5.2) (by rw [← hvv'.out];exact hfq))
          have hwa:=Lib.hid (weigh_after (t:=tq) (o:=o) (by rw [← hvv'.out];exact hfq))
          have hra:=Lib.hid (right_after HRT.out (o:=o) (by rw [← hvv'.out];exact hfq))
          obtain ⟨a,ha⟩:∃ a,a = afterV tq o:=⟨_,rfl⟩
          rw [← ha] at hwa hra hst
          have hdone':=Lib.hid (fun (W:World) (hb:Below X.heap.size X W)=>ha ▸ hdone.out W hb)
          clear hdone ha
          subst hfq
          unfold NodeA val6 opCells at hdone'
          have hst':=Lib.hid (hst.out.trans (if_pos rfl))
          clear hst
          go_wp2_with (first
            | (go_at_call 60;go_loud (refine hfa.out.mono ?_;rintro e w3 ⟨rfl,hb3⟩;have B3:=Lib.hid hb3;have r1:=(hb3.block b7 (by have:=BX.out.size;have:=hlb7.out;omega)).trans h7.out;have r2:=(hb3.block wr.heap.size (by have:=hXs.out;omega)).trans hXr.out;clear o0 o1 o2 o3 o4 o5 o6 o7 o8 o9 o10 p0 p1 p2 p3 p4 p5 pf;obtain ⟨o0,o1,o2,o3,o4,o5,o6,o7,o8,o9,o10⟩:=op_cells r2;unfold val6 at r1;obtain ⟨p0,p1,p2,p3,p4,p5,pf⟩:=six_cells r1;clear hb3 r1 r2))
            | (go_at_call 66;go_loud (refine (hdone'.out w3 B3.out).mono ?_;rintro e w4 ⟨eA,en,ec,eK,em,ed,rfl,he,hb4⟩;have B4:=Lib.hid hb4;have HE:=Lib.hid he;have r1:=(hb4.block b7 (by have:=BX.out.size;have:=B3.out.size;have:=hlb7.out;omega)).trans ((B3.out.block b7 (by have:=BX.out.size;have:=hlb7.out;omega)).trans h7.out);have R7:=Lib.hid r1;have hl7:b7 < w4.heap.size:=(Array.getElem?_eq_some_iff.1 r1).1;clear o0 o1 o2 o3 o4 o5 o6 o7 o8 o9 o10 p0 p1 p2 p3 p4 p5 pf;unfold val6 at r1;obtain ⟨p0,p1,p2,p3,p4,p5,pf⟩:=six_cells r1;clear he hb4 r1)))
          have B34:=Lib.hid ((BX.out.trans (B3.out.mono BX.out.size)).trans (B4.out.mono (by have:=BX.out.size;have:=B3.out.size;omega)))
          have r7:=R7.out
          unfold val6 at r7
          obtain ⟨W9,hW9,R9,N9,B9,Z9⟩:=end_box (w:=w) (r:=b7) (by have:=z4'.out.size;omega) (HBEL.out.trans (B34.out.mono HBEL.out.size)) r7 HE.out (fun k hk=>(by (rcases hk with hk | hk);((rcases hk with hk | hk);(have:=z4'.out.size;unfold Old at hk;omega);(exact hk.2.1));(have:=B3.out.size;have:=BX.out.size;have:=hlb7.out;omega)))
          rw [← hW9]
          have G4:=Lib.hid (show W9.heap[w.heap.size + 1]? = some (.cells zero6 33 (0,0)) by
            rw [hW9]
            exact (set_six_other (by have:=z5'.out;omega)).trans ((B34.out.block _ (by have:=hsz;have:=z5'.out;omega)).trans HB4.out))
          clear hW9
          go_roundw
          case rel =>
            refine ⟨q + 1,a,eA,eK,en,ec,em,ed,by omega,by go_num,hst'.out,hra.out,by have:=hwa.out;have:=HWQ.out;have:=hfo.out.cost;omega,N9.kept (fun k hk=>?_) (fun _ _=>rfl),R9,G4.out,B9,by have:=B34.out.size;omega⟩
            have s4:=B4.out.size
            have s3:=B3.out.size
            rcases hk with hk | hk
            · rcases hk with hk | hk
              · exact .inl hk
              · exact .inr ⟨hk.1,hk.2.1,by omega⟩
            · exact .inr ⟨by have:=BX.out.size;omega,by have:=BX.out.size;have:=hlb7.out;omega,by omega⟩
          case measure=>simp [intOf];omega
        · have hvn:(vv != 0) = true:=by simpa using hfq
          have hst':=Lib.hid (hst.out.trans (if_neg hfq))
          clear hst
          go_wp2_with (go_at_call 60;go_loud (refine hfa.out.mono ?_;rintro e w3 ⟨rfl,hb3⟩;have B3:=Lib.hid hb3;have r3:=(hb3.block (w.heap.size + 1) (by have:=hXs.out;have:=z5'.out;omega)).trans ((BX.out.block (w.heap.size + 1) (by have:=z5'.out;omega)).trans HB4.out);have R3:=Lib.hid r3;have hl4:w.heap.size + 1 < w3.heap.size:=(Array.getElem?_eq_some_iff.1 r3).1;clear o0 o1 o2 o3 o4 o5 o6 o7 o8 o9 o10 p0 p1 p2 p3 p4 p5 pf;unfold zero6 at r3;obtain ⟨q0,q1,q2,q3,q4,q5,qf⟩:=six_cells r3;clear hb3 r3))
          have r3:=R3.out
          unfold zero6 at r3
          obtain ⟨W9,hW9,R9,N9,B9,Z9⟩:=end_box (T':=Old w) (a:=Nd.zero) (yA:=none) (yn:=0) (yc:=0) (yK:=none) (ym:=0) (yd:=0) (w:=w) (r:=w.heap.size + 1) (by omega) (bw.out.trans (B3.out.mono bw.out.size)) r3 zero_node (fun k hk=>by unfold Old at hk;omega)
          have hW9':W9 = ((((((w3.setCell ⟨w.heap.size + 1,0,none⟩ (.int .u64 0)).setCell ⟨w.heap.size + 1,1,none⟩ (.bool false)).setCell ⟨w.heap.size + 1,2,none⟩ (.string ⟨#[]⟩)).setCell ⟨w.heap.size + 1,3,none⟩ (.slice none 0 0)).setCell ⟨w.heap.size + 1,4,none⟩ (.string ⟨#[]⟩)).setCell ⟨w.heap.size + 1,5,none⟩ (.slice none 0 0)):=hW9
          rw [← hW9']
          unfold val6 at R9
          obtain ⟨d0,d1,d2,d3,d4,d5,df⟩:=six_cells R9
          refine bodyPost_ret (v:=.tuple #[.agg (val6 Nd.zero none 0 0 none 0 0),.int .i64 (q:Int),.int .i64 vv]) (by simp [results,Try.results26,go_sem,d0,d1,d2,d3,d4,d5,val6]) rfl ?_
          show AllA _ _ (goAll t 0 (l.map Prod.fst)) _ _
          rw [hst'.out]
          exact ⟨none,0,0,none,0,0,rfl,zero_node,B9⟩
      · have h1I:¬ (q:Int) < (n:Int):=by omega
        obtain rfl:q = n:=by omega
        have hgE:=Lib.hid (go_end HGO.out (by rw [List.length_map,hlen.out];omega))
        have r4:=hB4
        unfold zero6 at r4
        obtain ⟨q0,q1,q2,q3,q4,q5,qf⟩:=six_cells r4
        have hl4:w.heap.size + 1 < wr.heap.size:=(Array.getElem?_eq_some_iff.1 r4).1
        have R4:=Lib.hid r4
        clear hB4 r4
        go_wp2_with fail
        obtain ⟨W9,hW9,R9,N9,B9,Z9⟩:=end_box (w:=w) (r:=w.heap.size + 1) (by omega) HBEL.out R4.out HNQ.out (fun k hk=>(by (rcases hk with hk | hk);(unfold Old at hk;omega);(have:=z5'.out;omega)))
        rw [← hW9]
        unfold val6 at R9
        obtain ⟨d0,d1,d2,d3,d4,d5,df⟩:=six_cells R9
        refine bodyPost_ret (v:=.tuple #[.agg (val6 tq qA qn qc qK qm qd),.int .i64 (q:Int),.int .i64 0]) (by simp [results,Try.results26,go_sem,d0,d1,d2,d3,d4,d5,val6]) rfl ?_
        show AllA _ _ (goAll t 0 (l.map Prod.fst)) _ _
        rw [hgE.out]
        exact ⟨qA,qn,qc,qK,qm,qd,rfl,N9.kept (fun k hk=>(by (rcases hk with hk | hk);(exact .inl hk);(exact .inr ⟨by have:=z5'.out;omega,by omega⟩))) (fun _ _=>rfl),B9⟩
end Go.Proofs.Ytmipodnffhngaaa.Top
namespace Go.Proofs.Ytmipodnffhngaaa.Top
open Go.RowKit
set_option maxRecDepth 20000
set_option linter.unusedVariables false

set_option maxHeartbeats 8000000 in
theorem rall_any (w:World) (t:Nd) (aA kA:Option Addr) (an ac kn kc:Nat) (h:NodeV (Old w) w aA an ac kA kn kc t) (A:Option Addr) (n c:Nat) (l:List (Ov × OS)) (hl:OpsAt w A n l) (hn:n≤1000) (hf:∀ x ∈ l,FewO x.1) (hbig:weighV t + n * 1000≤40000) :
    Calls Try.prog 27 #[.agg (val6 t aA an ac kA kn kc),.slice A n c] w (AllA (Old w) w (allV t (l.map Prod.fst))):=by
  obtain ⟨z1,z2,z4,z5⟩:=two_new w (.cells (val6 t aA an ac kA kn kc) 33) (.cells zero6 33)
  obtain ⟨W2,hW2⟩:∃ W2,W2 = (w.alloc (.cells (val6 t aA an ac kA kn kc) 33)).alloc (.cells zero6 33):=⟨_,rfl⟩
  rw [← hW2] at z1 z2 z4 z5
  have hr:=Lib.hid (rRight_any W2 t aA kA an ac kn kc (h.below z4))
  have hops:=Lib.hid (fun (W:World) (hb:Below w.heap.size w W)=>hl.below hb)
  have hlen:=Lib.hid hl.1
  have hbig':=Lib.hid hbig
  have hf':=Lib.hid hf
  have hN0:=Lib.hid (fun (W:World) (hb:Below W2.heap.size W2 W)=>show NodeV (fun k=>Old w k∨(W2.heap.size≤k∧k < W.heap.size)) W aA an ac kA kn kc t from h.kept (fun k hk=>.inl hk) (fun k hk=>(z4.trans (hb.mono z4.size)).block k hk))
  have z1u:=z1
  unfold val6 at z1u
  obtain ⟨p0,p1,p2,p3,p4,p5,pf⟩:=six_cells z1u
  have z1':=Lib.hid z1
  have z2':=Lib.hid z2
  have z4':=Lib.hid z4
  have z5':=Lib.hid z5
  rw [hW2] at p0 p1 p2 p3 p4 p5 pf hr
  clear h hl z1 z1u z2 z4 z5 hbig hf
  unfold zero6 val6 at hW2 hr
  unfold val6
  cases hv:rightV ltB t with
  | false =>
    have hv':=Lib.hid hv
    have hR:allV t (l.map Prod.fst) = (Nd.zero,0,2):=by unfold allV;rw [hv];rfl
    rw [hR]
    clear hv hR hops hN0
    go_enter Try.func27,Try.ntmps27
    go_wp2_with (go_at_call 61;go_loud (refine hr.out.mono ?_;rw [← hW2];rintro e w1 ⟨rfl,hb⟩;rw [hv'.out];have hb':=Lib.hid hb;have hsb:=hb.size;have r3:=(hb.block (w.heap.size + 1) (by have:=z5'.out;omega)).trans z2'.out;have hr3:=Lib.hid r3;clear p0 p1 p2 p3 p4 p5 pf;unfold zero6 at r3;obtain ⟨q0,q1,q2,q3,q4,q5,qf⟩:=six_cells r3;have hne:w.heap.size + 1 < w1.heap.size:=(by have:=z5'.out;omega);clear hb hsb r3))
    obtain ⟨W9,hW9,R9,N9,B9⟩:=end_node0 (T:=Old w) (a:=Nd.zero) (yA:=none) (yn:=0) (yc:=0) (yK:=none) (ym:=0) (yd:=0) (fun k hk=>hk) (r:=w.heap.size + 1) (b:=W2.heap.size) (by omega) (by have:=z5'.out;omega) (z4'.out.trans (hb'.out.mono z4'.out.size)) hr3.out zero_node
    have hW9':W9 = ((((((w1.setCell ⟨w.heap.size + 1,0,none⟩ (.int .u64 0)).setCell ⟨w.heap.size + 1,1,none⟩ (.bool false)).setCell ⟨w.heap.size + 1,2,none⟩ (.string ⟨#[]⟩)).setCell ⟨w.heap.size + 1,3,none⟩ (.slice none 0 0)).setCell ⟨w.heap.size + 1,4,none⟩ (.string ⟨#[]⟩)).setCell ⟨w.heap.size + 1,5,none⟩ (.slice none 0 0)):=hW9
    rw [← hW9']
    unfold val6 at R9
    obtain ⟨d0,d1,d2,d3,d4,d5,df⟩:=six_cells R9
    refine bodyPost_ret (v:=.tuple #[.agg (val6 Nd.zero none 0 0 none 0 0),.int .i64 0,.int .i64 2]) (by simp [results,Try.results27,go_sem,d0,d1,d2,d3,d4,d5,val6]) rfl ?_
    exact ⟨none,0,0,none,0,0,rfl,N9,B9⟩
  | true =>
    have hv':=Lib.hid hv
    have hR:=Lib.hid (show allV t (l.map Prod.fst) = goAll t 0 (l.map Prod.fst) by unfold allV;rw [hv];rfl)
    rw [hR.out]
    clear hv hR
    go_enter Try.func27,Try.ntmps27
    go_upto_region 3 with (go_at_call 61;go_loud (refine hr.out.mono ?_;rw [← hW2];rintro e w1 ⟨rfl,hb⟩;rw [hv'.out];have B1:=Lib.hid hb;clear hb p0 p1 p2 p3 p4 p5 pf))
    clear hr
    have g1:=Lib.hid ((B1.out.block w.heap.size (by have:=z5'.out;omega)).trans z1'.out)
    have g2:=Lib.hid ((B1.out.block (w.heap.size + 1) (by have:=z5'.out;omega)).trans z2'.out)
    go_wp2_with fail
    go_loopw [7] (fun v7 wr=>∃ (q:Nat) (tq:Nd) (qA qK:Option Addr) (qn qc qm qd:Nat),q≤n∧v7 = .int .i64 (q:Int)∧goAll t 0 (l.map Prod.fst) = goAll tq q ((l.map Prod.fst).drop q)∧rightV ltB tq = true∧weighV tq + (n - q) * 1000≤40000 ∧
      NodeV (fun k=>Old w k∨(W2.heap.size≤k∧k < wr.heap.size)) wr qA qn qc qK qm qd tq∧wr.heap[w.heap.size]? = some (.cells (val6 tq qA qn qc qK qm qd) 33 (0,0))∧wr.heap[w.heap.size + 1]? = some (.cells zero6 33 (0,0))∧Below w.heap.size w wr∧W2.heap.size≤wr.heap.size) (fun v7 _=>n - (intOf v7).toNat)
    case atStart=>exact ⟨0,t,aA,kA,an,ac,kn,kc,Nat.zero_le _,rfl,rfl,hv'.out,by have:=hbig'.out;omega,hN0.out _ B1.out,g1.out,g2.out,z4'.out.trans (B1.out.mono z4'.out.size),B1.out.size⟩
    case round =>
      obtain ⟨q,tq,qA,qK,qn,qc,qm,qd,hq,rfl,hgo,hrt,hwq,hnq,hB7,hB4,hbel,hsz⟩:=hrel
      have HGO:=Lib.hid hgo
      have HRT:=Lib.hid hrt
      have HWQ:=Lib.hid hwq
      have HNQ:=Lib.hid hnq
      have HB7:=Lib.hid hB7
      have HB4:=Lib.hid hB4
      have HBEL:=Lib.hid hbel
      have HSZ:=Lib.hid hsz
      clear hgo hrt hwq hnq hbel hsz
      by_cases h1:q < n
      · have h1I:(q:Int) < (n:Int):=by omega
        obtain ⟨ad,o,s,hA,hoq,hlt,hraw,hel⟩:=(hops.out wr HBEL.out).at_ h1
        subst hA
        have hel':=Lib.hid hel
        have hlt':=Lib.hid hlt
        have hfo:=Lib.hid (hf'.out (o,s) (List.mem_of_getElem? hoq))
        have hin:=Lib.hid (hraw.op hfo.out.path hfo.out.to_ hfo.out.pieces)
        have hoq':=Lib.hid (show (l.map Prod.fst)[q]? = some o by rw [List.getElem?_map,hoq];rfl)
        clear hlt hraw hoq hB4 hB7 hel
        obtain ⟨T,hTe⟩:∃ T:Nat→Prop,T = fun k=>Old w k∨(W2.heap.size≤k∧k < wr.heap.size):=⟨_,rfl⟩
        have hT:=Lib.hid (show ∀ k,T k→k < wr.heap.size by
          intro k hk
          rw [hTe] at hk
          rcases hk with hk | hk
          · have:=HBEL.out.size;unfold Old at hk;omega
          · exact hk.2)
        have hTn:=Lib.hid (show ∀ k,T k→k ≠ w.heap.size∧k ≠ w.heap.size + 1 by
          intro k hk
          rw [hTe] at hk
          have:=z5'.out
          rcases hk with hk | hk
          · unfold Old at hk;omega
          · omega)
        have hTb:=Lib.hid (show ∀ k,T k→Old w k∨(W2.heap.size≤k∧k < wr.heap.size) by intro k hk;rw [hTe] at hk;exact hk)
        have HNT:=Lib.hid (show NodeV T wr qA qn qc qK qm qd tq by rw [hTe];exact HNQ.out)
        clear hTe HNQ
        have hvf:validV tq o = faultV tq o:=by unfold validV;rw [HRT.out];rfl
        have hst:=Lib.hid (go_step HGO.out hoq'.out)
        rw [← hvf] at hst
        have hap:=Lib.hid (fun (W:World) (hb:Below wr.heap.size wr W)=>rapply_any T W (fun k hk=>Nat.lt_of_lt_of_le (hT.out k hk) hb.size) tq qA qK qn qc qm qd (HNT.out.kept (fun _ h=>h) (fun k hk=>hb.block k (hT.out k hk))) o s (hin.out.below hb) (cost_slim hfo.out.cost) (by have:=HWQ.out;omega))
        have hwa:=Lib.hid (fun (e:validV tq o = 0)=>weigh_after (t:=tq) (o:=o) (by rw [← hvf];exact e))
        have hra:=Lib.hid (fun (e:validV tq o = 0)=>right_after HRT.out (o:=o) (by rw [← hvf];exact e))
        have hav:validV tq o = 0→applyV tq o = afterV tq o:=fun e=>by unfold applyV;rw [if_pos e]
        have hwa':=Lib.hid (fun (e:validV tq o = 0)=>by have h5:=hwa.out e;rw [← hav e] at h5;exact h5)
        have hra':=Lib.hid (fun (e:validV tq o = 0)=>by have h5:=hra.out e;rw [← hav e] at h5;exact h5)
        have hst':=Lib.hid (fun (e:validV tq o = 0)=>by have h5:=hst.out;rw [if_pos e,← hav e] at h5;exact h5)
        have hst2:=Lib.hid (fun (e:¬ validV tq o = 0)=>by have h5:=hst.out;rw [if_neg e] at h5;exact h5)
        clear hwa hra hst hav hvf
        obtain ⟨vv,hvv⟩:∃ vv,vv = validV tq o:=⟨_,rfl⟩
        obtain ⟨a,ha⟩:∃ a,a = applyV tq o:=⟨_,rfl⟩
        rw [← hvv] at hwa' hra' hst' hst2
        rw [← ha] at hwa' hra' hst'
        have hap':=Lib.hid (fun (W:World) (hb:Below wr.heap.size wr W)=>by have h5:=hap.out W hb;rw [← hvv,← ha] at h5;exact h5)
        clear hap hvv ha
        unfold AppA val6 opCells at hap'
        have hlb:=Lib.hid (show w.heap.size + 1 < wr.heap.size from (Array.getElem?_eq_some_iff.1 HB4.out).1)
        have hcl:=Lib.hid (fun (W:World) (hb:Below wr.heap.size wr W)=>show W.heap[w.heap.size]? = some (.cells (val6 tq qA qn qc qK qm qd) 33 (0,0))∧Elev W (ad.add (q * 11)) o s from
          ⟨(hb.block _ (by have:=hlb.out;omega)).trans HB7.out,hel'.out.kept (hb.block _ (by rw [show (ad.add (q * 11)).block = ad.block by unfold Addr.add;split <;> rfl];exact hlt'.out))⟩)
        go_upto_region 6 with fail
        rename_i K0 hK0
        refine Top.wp_region_L (fun W=>Below wr.heap.size wr W) 11 rfl ((Below.refl wr.heap.size wr).drew) (fun hHeld=>?_)
        refine Top.wpAnyL_take (i:=0) (oi:={ dst:=some 21,op:=Go.Op.load 33 (Go.Operand.tmp 2),type:=33,pos:="ref.go:175",after:=#[],guard:=none }) (v:=?_) rfl (by kernel_rfl) (by kernel_rfl) (by kernel_rfl) (by kernel_rfl) (fun _ _ _ h=>h) (Or.inl ⟨by rfl,?_⟩) hHeld ?_
        rotate_left 1
        · intro W hSw;obtain ⟨r1,hel⟩:=hcl.out W hSw;unfold val6 at r1;obtain ⟨p0,p1,p2,p3,p4,p5,pf⟩:=six_cells r1;obtain ⟨e0,e1,e2,e3,e4,e5,e6,e7,e8,e9,e10⟩:=hel;go_simp;try with_reducible rfl
        try simp only [Act.put,List.setIfInBounds_toArray,List.set_cons_zero,List.set_cons_succ]
        refine Top.wpAnyL_take (i:=1) (oi:={ dst:=some 22,op:=Go.Op.move (Go.Operand.tmp 1),type:=44,pos:="ref.go:175",after:=#[],guard:=none }) (v:=?_) rfl (by kernel_rfl) (by kernel_rfl) (by kernel_rfl) (by kernel_rfl) (fun _ _ _ h=>h) (Or.inl ⟨by rfl,?_⟩) hHeld ?_
        rotate_left 1
        · intro W hSw;obtain ⟨r1,hel⟩:=hcl.out W hSw;unfold val6 at r1;obtain ⟨p0,p1,p2,p3,p4,p5,pf⟩:=six_cells r1;obtain ⟨e0,e1,e2,e3,e4,e5,e6,e7,e8,e9,e10⟩:=hel;go_simp;try with_reducible rfl
        try simp only [Act.put,List.setIfInBounds_toArray,List.set_cons_zero,List.set_cons_succ]
        refine Top.wpAnyL_take (i:=2) (oi:={ dst:=some 23,op:=Go.Op.move (Go.Operand.tmp 7),type:=3,pos:="ref.go:175",after:=#[],guard:=none }) (v:=?_) rfl (by kernel_rfl) (by kernel_rfl) (by kernel_rfl) (by kernel_rfl) (fun _ _ _ h=>h) (Or.inl ⟨by rfl,?_⟩) hHeld ?_
        rotate_left 1
        · intro W hSw;obtain ⟨r1,hel⟩:=hcl.out W hSw;unfold val6 at r1;obtain ⟨p0,p1,p2,p3,p4,p5,pf⟩:=six_cells r1;obtain ⟨e0,e1,e2,e3,e4,e5,e6,e7,e8,e9,e10⟩:=hel;go_simp;try with_reducible rfl
        try simp only [Act.put,List.setIfInBounds_toArray,List.set_cons_zero,List.set_cons_succ]
        refine Top.wpAnyL_take (i:=3) (oi:={ dst:=some 24,op:=Go.Op.indexAddr 44 (Go.Operand.tmp 22) (Go.Operand.tmp 23),type:=0,pos:="ref.go:175",after:=#[{ on:=1,ground:=Go.Ground.data },{ on:=2,ground:=Go.Ground.data }],guard:=none }) (v:=?_) rfl (by kernel_rfl) (by kernel_rfl) (by kernel_rfl) (by kernel_rfl) (fun _ _ _ h=>h) (Or.inl ⟨by rfl,?_⟩) hHeld ?_
        rotate_left 1
        · intro W hSw;obtain ⟨r1,hel⟩:=hcl.out W hSw;unfold val6 at r1;obtain ⟨p0,p1,p2,p3,p4,p5,pf⟩:=six_cells r1;obtain ⟨e0,e1,e2,e3,e4,e5,e6,e7,e8,e9,e10⟩:=hel;go_simp;try with_reducible rfl
        try simp only [Act.put,List.setIfInBounds_toArray,List.set_cons_zero,List.set_cons_succ]
        refine Top.wpAnyL_take (i:=4) (oi:={ dst:=some 25,op:=Go.Op.load 26 (Go.Operand.tmp 24),type:=26,pos:="ref.go:175",after:=#[{ on:=3,ground:=Go.Ground.data }],guard:=none }) (v:=?_) rfl (by kernel_rfl) (by kernel_rfl) (by kernel_rfl) (by kernel_rfl) (fun _ _ _ h=>h) (Or.inl ⟨by rfl,?_⟩) hHeld ?_
        rotate_left 1
        · intro W hSw;obtain ⟨r1,hel⟩:=hcl.out W hSw;unfold val6 at r1;obtain ⟨p0,p1,p2,p3,p4,p5,pf⟩:=six_cells r1;obtain ⟨e0,e1,e2,e3,e4,e5,e6,e7,e8,e9,e10⟩:=hel;go_simp;try with_reducible rfl
        try simp only [Act.put,List.setIfInBounds_toArray,List.set_cons_zero,List.set_cons_succ]
        obtain ⟨Xd,hXd⟩:∃ X,X = wr.drew:=⟨_,rfl⟩
        have sd:Xd.heap.size≤wr.heap.size∧wr.heap.size≤Xd.heap.size:=by rw [hXd];exact ⟨Nat.le_refl _,Nat.le_refl _⟩
        rw [← hXd] at hHeld ⊢
        clear hXd
        refine Top.wpAnyL_two (i:=5) (j:=9) (o:={ dst:=some 26,op:=Go.Op.call { callee:=Go.Callee.value (Go.Operand.func 23),args:=#[Go.Operand.tmp 21,Go.Operand.tmp 25],argTypes:=#[33,26] },type:=41,pos:="ref.go:175",after:=#[{ on:=0,ground:=Go.Ground.data },{ on:=4,ground:=Go.Ground.data }],guard:=none }) (o':={ dst:=some 8,op:=Go.Op.alloc 33,type:=0,pos:="ref.go:175",after:=#[],guard:=none }) (by kernel_rfl) rfl rfl (by decide) (by decide) (fun K hK=>?_) (fun K hK=>?_)
        · go_simp
          have b4c:=Lib.hid hHeld
          refine (hap'.out _ hHeld).mono ?_
          rintro e w5 ⟨mA,mn,mc,mK,mk,md,rfl,hz,hb5⟩
          have b5c:=Lib.hid (show Below wr.heap.size wr w5 from hHeld.trans (hb5.mono hHeld.size))
          have hz5:=Lib.hid hz
          have hb45:=Lib.hid hb5
          have s5:=hb5.size
          clear hz hb5
          go_simp
          refine hK.out _ _ ?_ (fun hNew=>?_)
          · exact b5c.out
          clear hK K hHeld
          have hHeld:=hNew
          clear hNew
          try simp only [Act.put,List.setIfInBounds_toArray,List.set_cons_zero,List.set_cons_succ]
          refine Top.wpAnyL_take (i:=6) (oi:={ dst:=some 20,op:=Go.Op.move (Go.Operand.tmp 26),type:=41,pos:="ref.go:175",after:=#[{ on:=5,ground:=Go.Ground.data }],guard:=none }) (v:=?_) rfl (by kernel_rfl) (by kernel_rfl) (by kernel_rfl) (by kernel_rfl) (fun _ _ _ h=>h) (Or.inl ⟨by rfl,?_⟩) hHeld ?_
          rotate_left 1
          · intro W hSw;go_simp;try with_reducible rfl
          try simp only [Act.put,List.setIfInBounds_toArray,List.set_cons_zero,List.set_cons_succ]
          refine Top.wpAnyL_take (i:=7) (oi:={ dst:=some 27,op:=Go.Op.extract (Go.Operand.tmp 20) 0,type:=33,pos:="ref.go:175",after:=#[{ on:=6,ground:=Go.Ground.data }],guard:=none }) (v:=?_) rfl (by kernel_rfl) (by kernel_rfl) (by kernel_rfl) (by kernel_rfl) (fun _ _ _ h=>h) (Or.inl ⟨by rfl,?_⟩) hHeld ?_
          rotate_left 1
          · intro W hSw;go_simp;try with_reducible rfl
          try simp only [Act.put,List.setIfInBounds_toArray,List.set_cons_zero,List.set_cons_succ]
          refine Top.wpAnyL_take (i:=8) (oi:={ dst:=some 28,op:=Go.Op.extract (Go.Operand.tmp 20) 1,type:=35,pos:="ref.go:175",after:=#[{ on:=6,ground:=Go.Ground.data },{ on:=10,ground:=Go.Ground.gcOnly Go.Departure.lateStores }],guard:=none }) (v:=?_) rfl (by kernel_rfl) (by kernel_rfl) (by kernel_rfl) (by kernel_rfl) (fun _ _ _ h=>h) (Or.inl ⟨by rfl,?_⟩) hHeld ?_
          rotate_left 1
          · intro W hSw;go_simp;try with_reducible rfl
          try simp only [Act.put,List.setIfInBounds_toArray,List.set_cons_zero,List.set_cons_succ]
          refine Top.wpAnyL_one (i:=9) (o:={ dst:=some 8,op:=Go.Op.alloc 33,type:=0,pos:="ref.go:175",after:=#[],guard:=none }) (by kernel_rfl) rfl (by decide) (fun K hK=>?_)
          go_simp
          obtain ⟨Xa,hXa⟩:∃ X,X = World.alloc w5 (.cells zero6 33):=⟨_,rfl⟩
          have ra:=Lib.hid (show Xa.heap[w5.heap.size]? = some (.cells zero6 33 (0,0)) by rw [hXa];exact heap_alloc_new _ _)
          have bab:=Lib.hid (show Below w5.heap.size w5 Xa by rw [hXa];exact (Below.refl _ _).alloc (Nat.le_refl _) _)
          have bac:=Lib.hid (show Below wr.heap.size wr Xa by rw [hXa];exact hHeld.alloc hHeld.size _)
          have sa:Xa.heap.size≤w5.heap.size + 1∧w5.heap.size + 1≤Xa.heap.size:=by rw [hXa];simp
          unfold zero6 at hXa
          rw [← hXa]
          clear hXa
          go_simp
          refine hK.out _ _ ?_ (fun hNew=>?_)
          · exact bac.out
          clear hK K hHeld
          have hHeld:=hNew
          clear hNew
          try simp only [Act.put,List.setIfInBounds_toArray,List.set_cons_zero,List.set_cons_succ]
          have he9:=Lib.hid (show NodeV (fun k=>T k∨(wr.heap.size≤k∧k < Xa.heap.size∧k ≠ w5.heap.size)) Xa mA mn mc mK mk md a from hz5.out.kept (fun k hk=>(by (rcases hk with hk | hk);(exact .inl hk);(have h1:=b4c.out.size;have h2:=b5c.out.size;have h3:=hk.1;have h4:=hk.2;exact .inr ⟨by omega,by omega,by omega⟩))) (fun k hk=>bab.out.block k (by (rcases hk with hk | hk);(have:=hT.out k hk;have:=b5c.out.size;omega);(exact hk.2))))
          have rb:=Lib.hid (show Xa.heap[w5.heap.size]? = some (.cells zero6 33 (0,0)) from ra.out)
          have bb9:=Lib.hid hHeld
          obtain ⟨b,hbe⟩:∃ b,b = w5.heap.size:=⟨_,rfl⟩
          have sb:wr.heap.size≤b:=by rw [hbe];have:=b4c.out.size;have:=b5c.out.size;omega
          rw [← hbe] at he9 rb ⊢
          have hlt:b < Xa.heap.size:=(Array.getElem?_eq_some_iff.1 rb.out).1
          clear hbe
          have rbu:=rb.out
          unfold zero6 at rbu
          obtain ⟨g0,g1,g2,g3,g4,g5,gf⟩:=six_cells rbu
          refine Top.wpAnyL_one (i:=10) (o:={ dst:=none,op:=Go.Op.store 33 (Go.Operand.tmp 8) (Go.Operand.tmp 27),type:=0,pos:="ref.go:175",after:=#[{ on:=9,ground:=Go.Ground.data },{ on:=7,ground:=Go.Ground.data },{ on:=5,ground:=Go.Ground.chain },{ on:=0,ground:=Go.Ground.phase },{ on:=1,ground:=Go.Ground.phase },{ on:=2,ground:=Go.Ground.phase },{ on:=3,ground:=Go.Ground.phase },{ on:=4,ground:=Go.Ground.phase },{ on:=5,ground:=Go.Ground.phase },{ on:=6,ground:=Go.Ground.phase },{ on:=7,ground:=Go.Ground.phase },{ on:=8,ground:=Go.Ground.textOnly Go.Departure.lateStores },{ on:=9,ground:=Go.Ground.phase }],guard:=none }) (by kernel_rfl) rfl (by decide) (fun K hK=>?_)
          go_simp
          obtain ⟨W9,hW9,R9,N9,B9,Z9⟩:=end_box (w:=wr) (r:=b) sb bb9.out rbu he9.out (fun k hk=>(by (rcases hk with hk | hk);(have:=hT.out k hk;omega);(exact hk.2.2)))
          rw [← hW9]
          clear hW9 g0 g1 g2 g3 g4 g5 gf
          rw [← Z9] at hlt N9
          refine hK.out _ _ B9 (fun hNew=>?_)
          clear hK K hHeld
          have hHeld:=hNew
          clear hNew
          try simp only [Act.put,List.setIfInBounds_toArray,List.set_cons_zero,List.set_cons_succ]
          refine Top.wpAnyL_last (o:={ dst:=some 9,op:=Go.Op.assign (Go.Operand.tmp 28),type:=35,pos:="ref.go:175",after:=#[{ on:=8,ground:=Go.Ground.data },{ on:=10,ground:=Go.Ground.chain },{ on:=0,ground:=Go.Ground.phase },{ on:=1,ground:=Go.Ground.phase },{ on:=2,ground:=Go.Ground.phase },{ on:=3,ground:=Go.Ground.phase },{ on:=4,ground:=Go.Ground.phase },{ on:=5,ground:=Go.Ground.phase },{ on:=6,ground:=Go.Ground.phase },{ on:=7,ground:=Go.Ground.phase },{ on:=8,ground:=Go.Ground.phase },{ on:=9,ground:=Go.Ground.phase },{ on:=10,ground:=Go.Ground.phase }],guard:=none }) (by kernel_rfl) rfl (fun K hK=>?_)
          go_simp
          refine hK _ _ ?_
          clear hK K
          try simp only [Act.put,List.setIfInBounds_toArray,List.set_cons_zero,List.set_cons_succ]
          refine wpAny_done (by kernel_rfl) ?_ _
          refine hK0 _ _ ?_
          clear hK0
          have R9':=Lib.hid R9
          have N9':=Lib.hid N9
          have B9':=Lib.hid B9
          have r4:=Lib.hid ((B9.block (w.heap.size + 1) hlb.out).trans HB4.out)
          have r7:=Lib.hid ((B9.block w.heap.size (by have:=hlb.out;omega)).trans HB7.out)
          have HB9:=Lib.hid (HBEL.out.trans (B9.mono HBEL.out.size))
          have hl9:w.heap.size + 1 < W9.heap.size:=(Array.getElem?_eq_some_iff.1 r4.out).1
          clear N9 B9 Z9 he9 rb bb9 rbu
          by_cases hfq:vv = 0
          · subst hfq
            unfold val6 at R9
            obtain ⟨p0,p1,p2,p3,p4,p5,pf⟩:=six_cells R9
            have r7u:=r7.out
            unfold val6 at r7u
            obtain ⟨q0,q1,q2,q3,q4,q5,qf⟩:=six_cells r7u
            clear r7u R9
            go_wp2_with fail
            have r7u:=r7.out
            unfold val6 at r7u
            obtain ⟨Wa,hWa,Ra,Na,Ba,Za⟩:=end_box (w:=w) (r:=w.heap.size) (Nat.le_refl _) HB9.out r7u N9'.out (fun k hk=>(by (rcases hk with hk | hk);(exact (hTn.out k hk).1);(have:=HBEL.out.size;have:=hlb.out;omega)))
            have Ga:=Lib.hid (show Wa.heap[w.heap.size + 1]? = some (.cells zero6 33 (0,0)) by
              rw [hWa]
              exact (set_six_other (by omega)).trans r4.out)
            rw [← hWa]
            clear hWa
            go_roundw
            case rel =>
              refine ⟨q + 1,a,mA,mK,mn,mc,mk,md,by omega,by go_num,hst'.out rfl,hra'.out rfl,by have:=hwa'.out rfl;have:=HWQ.out;have hc5:costV o≤1000:=hfo.out.cost;omega,Na.kept (fun k hk=>?_) (fun _ _=>rfl),Ra,Ga.out,Ba,by have:=B9'.out.size;have:=HSZ.out;omega⟩
              have s4:=B9'.out.size
              have s5:=HSZ.out
              rcases hk with hk | hk
              · rcases hTb.out k hk with hk | hk
                · exact .inl hk
                · exact .inr ⟨hk.1,by omega⟩
              · exact .inr ⟨by omega,by omega⟩
            case measure=>simp [intOf];omega
          · have hvn:(vv != 0) = true:=by simpa using hfq
            have r4u:=r4.out
            unfold zero6 at r4u
            obtain ⟨q0,q1,q2,q3,q4,q5,qf⟩:=six_cells r4u
            clear R9 r4u
            go_wp2_with fail
            have r3:=r4.out
            unfold zero6 at r3
            obtain ⟨Wa,hWa,Ra,Na,Ba,Za⟩:=end_box (T':=Old w) (a:=Nd.zero) (yA:=none) (yn:=0) (yc:=0) (yK:=none) (ym:=0) (yd:=0) (w:=w) (r:=w.heap.size + 1) (by omega) HB9.out r3 zero_node (fun k hk=>by unfold Old at hk;omega)
            have hW9':Wa = ((((((W9.setCell ⟨w.heap.size + 1,0,none⟩ (.int .u64 0)).setCell ⟨w.heap.size + 1,1,none⟩ (.bool false)).setCell ⟨w.heap.size + 1,2,none⟩ (.string ⟨#[]⟩)).setCell ⟨w.heap.size + 1,3,none⟩ (.slice none 0 0)).setCell ⟨w.heap.size + 1,4,none⟩ (.string ⟨#[]⟩)).setCell ⟨w.heap.size + 1,5,none⟩ (.slice none 0 0)):=hWa
            rw [← hW9']
            unfold val6 at Ra
            obtain ⟨d0,d1,d2,d3,d4,d5,df⟩:=six_cells Ra
            refine bodyPost_ret (v:=.tuple #[.agg (val6 Nd.zero none 0 0 none 0 0),.int .i64 (q:Int),.int .i64 vv]) (by simp [results,Try.results27,go_sem,d0,d1,d2,d3,d4,d5,val6]) rfl ?_
            show AllA _ _ (goAll t 0 (l.map Prod.fst)) _ _
            rw [hst2.out hfq]
            exact ⟨none,0,0,none,0,0,rfl,zero_node,Ba⟩
        · go_simp
          obtain ⟨Xa,hXa⟩:∃ X,X = World.alloc Xd (.cells zero6 33):=⟨_,rfl⟩
          have ra:=Lib.hid (show Xa.heap[Xd.heap.size]? = some (.cells zero6 33 (0,0)) by rw [hXa];exact heap_alloc_new _ _)
          have bab:=Lib.hid (show Below Xd.heap.size Xd Xa by rw [hXa];exact (Below.refl _ _).alloc (Nat.le_refl _) _)
          have bac:=Lib.hid (show Below wr.heap.size wr Xa by rw [hXa];exact hHeld.alloc hHeld.size _)
          have sa:Xa.heap.size≤Xd.heap.size + 1∧Xd.heap.size + 1≤Xa.heap.size:=by rw [hXa];simp
          unfold zero6 at hXa
          rw [← hXa]
          clear hXa
          go_simp
          refine hK.out _ _ ?_ (fun hNew=>?_)
          · exact bac.out
          clear hK K hHeld
          have hHeld:=hNew
          clear hNew
          try simp only [Act.put,List.setIfInBounds_toArray,List.set_cons_zero,List.set_cons_succ]
          refine Top.wpAnyL_one (i:=5) (o:={ dst:=some 26,op:=Go.Op.call { callee:=Go.Callee.value (Go.Operand.func 23),args:=#[Go.Operand.tmp 21,Go.Operand.tmp 25],argTypes:=#[33,26] },type:=41,pos:="ref.go:175",after:=#[{ on:=0,ground:=Go.Ground.data },{ on:=4,ground:=Go.Ground.data }],guard:=none }) (by kernel_rfl) rfl (by decide) (fun K hK=>?_)
          go_simp
          have b4c:=Lib.hid hHeld
          refine (hap'.out _ hHeld).mono ?_
          rintro e w5 ⟨mA,mn,mc,mK,mk,md,rfl,hz,hb5⟩
          have b5c:=Lib.hid (show Below wr.heap.size wr w5 from hHeld.trans (hb5.mono hHeld.size))
          have hz5:=Lib.hid hz
          have hb45:=Lib.hid hb5
          have s5:=hb5.size
          clear hz hb5
          go_simp
          refine hK.out _ _ ?_ (fun hNew=>?_)
          · exact b5c.out
          clear hK K hHeld
          have hHeld:=hNew
          clear hNew
          try simp only [Act.put,List.setIfInBounds_toArray,List.set_cons_zero,List.set_cons_succ]
          refine Top.wpAnyL_take (i:=6) (oi:={ dst:=some 20,op:=Go.Op.move (Go.Operand.tmp 26),type:=41,pos:="ref.go:175",after:=#[{ on:=5,ground:=Go.Ground.data }],guard:=none }) (v:=?_) rfl (by kernel_rfl) (by kernel_rfl) (by kernel_rfl) (by kernel_rfl) (fun _ _ _ h=>h) (Or.inl ⟨by rfl,?_⟩) hHeld ?_
          rotate_left 1
          · intro W hSw;go_simp;try with_reducible rfl
          try simp only [Act.put,List.setIfInBounds_toArray,List.set_cons_zero,List.set_cons_succ]
          refine Top.wpAnyL_take (i:=7) (oi:={ dst:=some 27,op:=Go.Op.extract (Go.Operand.tmp 20) 0,type:=33,pos:="ref.go:175",after:=#[{ on:=6,ground:=Go.Ground.data }],guard:=none }) (v:=?_) rfl (by kernel_rfl) (by kernel_rfl) (by kernel_rfl) (by kernel_rfl) (fun _ _ _ h=>h) (Or.inl ⟨by rfl,?_⟩) hHeld ?_
          rotate_left 1
          · intro W hSw;go_simp;try with_reducible rfl
          try simp only [Act.put,List.setIfInBounds_toArray,List.set_cons_zero,List.set_cons_succ]
          refine Top.wpAnyL_take (i:=8) (oi:={ dst:=some 28,op:=Go.Op.extract (Go.Operand.tmp 20) 1,type:=35,pos:="ref.go:175",after:=#[{ on:=6,ground:=Go.Ground.data },{ on:=10,ground:=Go.Ground.gcOnly Go.Departure.lateStores }],guard:=none }) (v:=?_) rfl (by kernel_rfl) (by kernel_rfl) (by kernel_rfl) (by kernel_rfl) (fun _ _ _ h=>h) (Or.inl ⟨by rfl,?_⟩) hHeld ?_
          rotate_left 1
          · intro W hSw;go_simp;try with_reducible rfl
          try simp only [Act.put,List.setIfInBounds_toArray,List.set_cons_zero,List.set_cons_succ]
          have he9:=Lib.hid (show NodeV (fun k=>T k∨(wr.heap.size≤k∧k < w5.heap.size∧k ≠ Xd.heap.size)) w5 mA mn mc mK mk md a from hz5.out.kept (fun k hk=>(by (rcases hk with hk | hk);(exact .inl hk);(have h1:=b4c.out.size;have h2:=b5c.out.size;have h3:=hk.1;have h4:=hk.2;exact .inr ⟨by omega,by omega,by omega⟩))) (fun k hk=>rfl))
          have rb:=Lib.hid (show w5.heap[Xd.heap.size]? = some (.cells zero6 33 (0,0)) from ((hb45.out.block _ (by omega)).trans ra.out))
          have bb9:=Lib.hid hHeld
          obtain ⟨b,hbe⟩:∃ b,b = Xd.heap.size:=⟨_,rfl⟩
          have sb:wr.heap.size≤b:=by rw [hbe];have:=b4c.out.size;have:=b5c.out.size;omega
          rw [← hbe] at he9 rb ⊢
          have hlt:b < w5.heap.size:=(Array.getElem?_eq_some_iff.1 rb.out).1
          clear hbe
          have rbu:=rb.out
          unfold zero6 at rbu
          obtain ⟨g0,g1,g2,g3,g4,g5,gf⟩:=six_cells rbu
          refine Top.wpAnyL_one (i:=10) (o:={ dst:=none,op:=Go.Op.store 33 (Go.Operand.tmp 8) (Go.Operand.tmp 27),type:=0,pos:="ref.go:175",after:=#[{ on:=9,ground:=Go.Ground.data },{ on:=7,ground:=Go.Ground.data },{ on:=5,ground:=Go.Ground.chain },{ on:=0,ground:=Go.Ground.phase },{ on:=1,ground:=Go.Ground.phase },{ on:=2,ground:=Go.Ground.phase },{ on:=3,ground:=Go.Ground.phase },{ on:=4,ground:=Go.Ground.phase },{ on:=5,ground:=Go.Ground.phase },{ on:=6,ground:=Go.Ground.phase },{ on:=7,ground:=Go.Ground.phase },{ on:=8,ground:=Go.Ground.textOnly Go.Departure.lateStores },{ on:=9,ground:=Go.Ground.phase }],guard:=none }) (by kernel_rfl) rfl (by decide) (fun K hK=>?_)
          go_simp
          obtain ⟨W9,hW9,R9,N9,B9,Z9⟩:=end_box (w:=wr) (r:=b) sb bb9.out rbu he9.out (fun k hk=>(by (rcases hk with hk | hk);(have:=hT.out k hk;omega);(exact hk.2.2)))
          rw [← hW9]
          clear hW9 g0 g1 g2 g3 g4 g5 gf
          rw [← Z9] at hlt N9
          refine hK.out _ _ B9 (fun hNew=>?_)
          clear hK K hHeld
          have hHeld:=hNew
          clear hNew
          try simp only [Act.put,List.setIfInBounds_toArray,List.set_cons_zero,List.set_cons_succ]
          refine Top.wpAnyL_last (o:={ dst:=some 9,op:=Go.Op.assign (Go.Operand.tmp 28),type:=35,pos:="ref.go:175",after:=#[{ on:=8,ground:=Go.Ground.data },{ on:=10,ground:=Go.Ground.chain },{ on:=0,ground:=Go.Ground.phase },{ on:=1,ground:=Go.Ground.phase },{ on:=2,ground:=Go.Ground.phase },{ on:=3,ground:=Go.Ground.phase },{ on:=4,ground:=Go.Ground.phase },{ on:=5,ground:=Go.Ground.phase },{ on:=6,ground:=Go.Ground.phase },{ on:=7,ground:=Go.Ground.phase },{ on:=8,ground:=Go.Ground.phase },{ on:=9,ground:=Go.Ground.phase },{ on:=10,ground:=Go.Ground.phase }],guard:=none }) (by kernel_rfl) rfl (fun K hK=>?_)
          go_simp
          refine hK _ _ ?_
          clear hK K
          try simp only [Act.put,List.setIfInBounds_toArray,List.set_cons_zero,List.set_cons_succ]
          refine wpAny_done (by kernel_rfl) ?_ _
          refine hK0 _ _ ?_
          clear hK0
          have R9':=Lib.hid R9
          have N9':=Lib.hid N9
          have B9':=Lib.hid B9
          have r4:=Lib.hid ((B9.block (w.heap.size + 1) hlb.out).trans HB4.out)
          have r7:=Lib.hid ((B9.block w.heap.size (by have:=hlb.out;omega)).trans HB7.out)
          have HB9:=Lib.hid (HBEL.out.trans (B9.mono HBEL.out.size))
          have hl9:w.heap.size + 1 < W9.heap.size:=(Array.getElem?_eq_some_iff.1 r4.out).1
          clear N9 B9 Z9 he9 rb bb9 rbu
          by_cases hfq:vv = 0
          · subst hfq
            unfold val6 at R9
            obtain ⟨p0,p1,p2,p3,p4,p5,pf⟩:=six_cells R9
            have r7u:=r7.out
            unfold val6 at r7u
            obtain ⟨q0,q1,q2,q3,q4,q5,qf⟩:=six_cells r7u
            clear r7u R9
            go_wp2_with fail
            have r7u:=r7.out
            unfold val6 at r7u
            obtain ⟨Wa,hWa,Ra,Na,Ba,Za⟩:=end_box (w:=w) (r:=w.heap.size) (Nat.le_refl _) HB9.out r7u N9'.out (fun k hk=>(by (rcases hk with hk | hk);(exact (hTn.out k hk).1);(have:=HBEL.out.size;have:=hlb.out;omega)))
            have Ga:=Lib.hid (show Wa.heap[w.heap.size + 1]? = some (.cells zero6 33 (0,0)) by
              rw [hWa]
              exact (set_six_other (by omega)).trans r4.out)
            rw [← hWa]
            clear hWa
            go_roundw
            case rel =>
              refine ⟨q + 1,a,mA,mK,mn,mc,mk,md,by omega,by go_num,hst'.out rfl,hra'.out rfl,by have:=hwa'.out rfl;have:=HWQ.out;have hc5:costV o≤1000:=hfo.out.cost;omega,Na.kept (fun k hk=>?_) (fun _ _=>rfl),Ra,Ga.out,Ba,by have:=B9'.out.size;have:=HSZ.out;omega⟩
              have s4:=B9'.out.size
              have s5:=HSZ.out
              rcases hk with hk | hk
              · rcases hTb.out k hk with hk | hk
                · exact .inl hk
                · exact .inr ⟨hk.1,by omega⟩
              · exact .inr ⟨by omega,by omega⟩
            case measure=>simp [intOf];omega
          · have hvn:(vv != 0) = true:=by simpa using hfq
            have r4u:=r4.out
            unfold zero6 at r4u
            obtain ⟨q0,q1,q2,q3,q4,q5,qf⟩:=six_cells r4u
            clear R9 r4u
            go_wp2_with fail
            have r3:=r4.out
            unfold zero6 at r3
            obtain ⟨Wa,hWa,Ra,Na,Ba,Za⟩:=end_box (T':=Old w) (a:=Nd.zero) (yA:=none) (yn:=0) (yc:=0) (yK:=none) (ym:=0) (yd:=0) (w:=w) (r:=w.heap.size + 1) (by omega) HB9.out r3 zero_node (fun k hk=>by unfold Old at hk;omega)
            have hW9':Wa = ((((((W9.setCell ⟨w.heap.size + 1,0,none⟩ (.int .u64 0)).setCell ⟨w.heap.size + 1,1,none⟩ (.bool false)).setCell ⟨w.heap.size + 1,2,none⟩ (.string ⟨#[]⟩)).setCell ⟨w.heap.size + 1,3,none⟩ (.slice none 0 0)).setCell ⟨w.heap.size + 1,4,none⟩ (.string ⟨#[]⟩)).setCell ⟨w.heap.size + 1,5,none⟩ (.slice none 0 0)):=hWa
            rw [← hW9']
            unfold val6 at Ra
            obtain ⟨d0,d1,d2,d3,d4,d5,df⟩:=six_cells Ra
            refine bodyPost_ret (v:=.tuple #[.agg (val6 Nd.zero none 0 0 none 0 0),.int .i64 (q:Int),.int .i64 vv]) (by simp [results,Try.results27,go_sem,d0,d1,d2,d3,d4,d5,val6]) rfl ?_
            show AllA _ _ (goAll t 0 (l.map Prod.fst)) _ _
            rw [hst2.out hfq]
            exact ⟨none,0,0,none,0,0,rfl,zero_node,Ba⟩
      · have h1I:¬ (q:Int) < (n:Int):=by omega
        obtain rfl:q = n:=by omega
        have hgE:=Lib.hid (go_end HGO.out (by rw [List.length_map,hlen.out];omega))
        have r4:=hB4
        unfold zero6 at r4
        obtain ⟨q0,q1,q2,q3,q4,q5,qf⟩:=six_cells r4
        have hl4:w.heap.size + 1 < wr.heap.size:=(Array.getElem?_eq_some_iff.1 r4).1
        have R4:=Lib.hid r4
        unfold val6 at hB7
        obtain ⟨p0,p1,p2,p3,p4,p5,pf⟩:=six_cells hB7
        clear hB4 r4 hB7
        go_wp2_with fail
        obtain ⟨W9,hW9,R9,N9,B9,Z9⟩:=end_box (w:=w) (r:=w.heap.size + 1) (by omega) HBEL.out R4.out HNQ.out (fun k hk=>(by (rcases hk with hk | hk);(unfold Old at hk;omega);(have:=z5'.out;omega)))
        rw [← hW9]
        unfold val6 at R9
        obtain ⟨d0,d1,d2,d3,d4,d5,df⟩:=six_cells R9
        refine bodyPost_ret (v:=.tuple #[.agg (val6 tq qA qn qc qK qm qd),.int .i64 (q:Int),.int .i64 0]) (by simp [results,Try.results27,go_sem,d0,d1,d2,d3,d4,d5,val6]) rfl ?_
        show AllA _ _ (goAll t 0 (l.map Prod.fst)) _ _
        rw [hgE.out]
        exact ⟨qA,qn,qc,qK,qm,qd,rfl,N9.kept (fun k hk=>(by (rcases hk with hk | hk);(exact .inl hk);(exact .inr ⟨by have:=z5'.out;omega,by omega⟩))) (fun _ _=>rfl),B9⟩
end Go.Proofs.Ytmipodnffhngaaa.Top
namespace Go.Proofs.Ytmipodnffhngaaa.Top
open Go.RowKit
set_option maxRecDepth 20000
set_option linter.unusedVariables false

def lightL (l:List (Ov × OS)) (count top:Nat):Bool:=decide (l.length≤count) && l.all fun x=>lightB x.1 top
set_option maxHeartbeats 4000000 in
theorem lightlist_any (w:World) (A:Option Addr) (n c:Nat) (l:List (Ov × OS)) (h:OpsAt w A n l) (hn:n≤maxLen) (count top:Nat) (hc:count≤1000) (ht:top≤1000) :
    Calls Try.prog 25 #[.slice A n c,.int .i64 (count:Int),.int .i64 (top:Int)] w fun e w'=>e = .returned (.bool (lightL l count top))∧Below w.heap.size w w':=by
  have h':=Lib.hid h
  have hlen:=Lib.hid h.1
  clear h
  unfold maxLen at hn
  by_cases c0:count < n
  · have d0:(count:Int) < (n:Int):=by omega
    have hv:=Lib.hid (show lightL l count top = false by unfold lightL;rw [decide_eq_false (by have:=hlen.out;omega)];rfl)
    go_enter Try.func25,Try.ntmps25
    go_wp2_with fail
    go_ret
    exact ⟨by rw [hv.out] <;> rfl,Below.refl _ _⟩
  · have d0:¬ (count:Int) < (n:Int):=by omega
    have hd:=Lib.hid (show decide (l.length≤count) = true from decide_eq_true (by have:=hlen.out;omega))
    go_enter Try.func25,Try.ntmps25
    go_wp2_with fail
    go_loopw [7] (fun v7 wr=>∃ q:Nat,q≤n∧v7 = .int .i64 (q:Int)∧((l.take q).all fun x=>lightB x.1 top) = true∧Below w.heap.size w wr) (fun v7 _=>n - (intOf v7).toNat)
    case atStart=>exact ⟨0,Nat.zero_le _,rfl,rfl,Below.refl _ _⟩
    case round =>
      obtain ⟨q,hq,rfl,hall,hb⟩:=hrel
      have hall':=Lib.hid hall
      have hb':=Lib.hid hb
      clear hall hb
      by_cases h1:q < n
      · have h1I:(q:Int) < (n:Int):=by omega
        obtain ⟨ad,o,s,hA,hoq,hlt,hraw,hel⟩:=(h'.out.below hb'.out).at_ h1
        subst hA
        obtain ⟨e0,e1,e2,e3,e4,e5,e6,e7,e8,e9,e10⟩:=hel
        have hli:=Lib.hid (light_any wr o s hraw top ht)
        have hoq':=Lib.hid hoq
        obtain ⟨b,hb2⟩:∃ b,b = lightB o top:=⟨_,rfl⟩
        rw [← hb2] at hli
        have hb2':=Lib.hid hb2
        clear hlt hraw hoq hb2
        unfold opCells at hli
        cases b with
        | true =>
          go_wp2_with (go_at_call 13;go_loud (refine hli.out.mono ?_;rintro e w1 ⟨rfl,hb3⟩;have hb3':=Lib.hid hb3;clear hb3 e0 e1 e2 e3 e4 e5 e6 e7 e8 e9 e10))
          go_roundw
          case rel =>
            refine ⟨q + 1,by omega,by go_num,?_,hb'.out.trans (hb3'.out.mono hb'.out.size)⟩
            rw [List.take_add_one,hoq'.out,List.all_append,hall'.out]
            simp [← hb2'.out]
          case measure=>simp [intOf];omega
        | false =>
          have hv:=Lib.hid (show lightL l count top = false by
            unfold lightL
            rw [hd.out,Bool.true_and]
            rw [List.all_eq_false]
            exact ⟨(o,s),List.mem_of_getElem? hoq'.out,by simp [← hb2'.out]⟩)
          go_wp2_with (go_at_call 13;go_loud (refine hli.out.mono ?_;rintro e w1 ⟨rfl,hb3⟩;have hb3':=Lib.hid hb3;clear hb3 e0 e1 e2 e3 e4 e5 e6 e7 e8 e9 e10))
          go_ret
          exact ⟨by rw [hv.out] <;> rfl,hb'.out.trans (hb3'.out.mono hb'.out.size)⟩
      · have h1I:¬ (q:Int) < (n:Int):=by omega
        have hv:=Lib.hid (show lightL l count top = true by
          unfold lightL
          rw [hd.out,Bool.true_and]
          have h5:=hall'.out
          rw [List.take_of_length_le (by rw [hlen.out];omega)] at h5
          exact h5)
        go_wp2_with fail
        go_ret
        exact ⟨by rw [hv.out] <;> rfl,hb'.out⟩
theorem light_few {o:Ov} {top:Nat} (h:lightB o top = true) (ht:top≤200):FewO o:=by
  have h:=of_decide_eq_true h
  have hc:costV o = 1 + o.label.length + o.key.length + o.value.length + P5.putsI o.pieces:=rfl
  exact ⟨by omega,by omega,by omega,by omega⟩
set_option maxHeartbeats 8000000 in
theorem lawAll_any (w:World) (t:Nd) (aA kA:Option Addr) (an ac kn kc:Nat) (h:NodeV (Old w) w aA an ac kA kn kc t) (A:Option Addr) (n c:Nat) (l:List (Ov × OS)) (hl:OpsAt w A n l) (hn:n≤maxLen):Calls Try.prog 6 #[.agg (val6 t aA an ac kA kn kc),.slice A n c] w fun e w'=>e = .returned (.bool true)∧Below w.heap.size w w':=by
  obtain ⟨W2,hW2⟩:∃ W2,W2 = w.alloc (.cells (val6 t aA an ac kA kn kc) 33):=⟨_,rfl⟩
  have z1:W2.heap[w.heap.size]? = some (.cells (val6 t aA an ac kA kn kc) 33 (0,0)):=by rw [hW2];exact heap_alloc_new w _
  have z4':=Lib.hid (show Below w.heap.size w W2 by rw [hW2];exact (Below.refl _ _).alloc (Nat.le_refl _) _)
  have z5:=Lib.hid (show W2.heap.size = w.heap.size + 1 by rw [hW2];simp)
  have hbx:=Lib.hid (fun (W:World) (hb:Below W2.heap.size W2 W)=>show W.heap[w.heap.size]? = some (.cells (val6 t aA an ac kA kn kc) 33 (0,0)) from (hb.block _ (by have:=z5.out;omega)).trans z1)
  have hN:=Lib.hid (fun (W:World) (hb:Below W2.heap.size W2 W)=>(h.below z4'.out).below hb)
  have hO:=Lib.hid (fun (W:World) (hb:Below W2.heap.size W2 W)=>(hl.below z4'.out).below hb)
  have hwt:=Lib.hid (fun (W:World) (hb:Below W2.heap.size W2 W)=>weight_any t W aA kA an ac kn kc 300 (hN.out W hb) (by decide))
  have hli:=Lib.hid (fun (W:World) (hb:Below W2.heap.size W2 W)=>lightlist_any W A n c l (hO.out W hb) hn 30 100 (by decide) (by decide))
  have hin:=Lib.hid (fun (e:lightL l 30 100 = true)=>show n≤30∧∀ x ∈ l,FewO x.1 by
    unfold lightL at e
    rw [Bool.and_eq_true] at e
    have e1:=of_decide_eq_true e.1
    exact ⟨by have:=hl.1;omega,fun x hx=>light_few (List.all_eq_true.1 e.2 x hx) (by decide)⟩)
  obtain ⟨b,hb⟩:∃ b,b = lightL l 30 100:=⟨_,rfl⟩
  rw [← hb] at hli hin
  clear h hl hb
  have z1u:=z1
  unfold val6 at z1u
  obtain ⟨p0,p1,p2,p3,p4,p5,pf⟩:=six_cells z1u
  clear z1 z1u
  rw [hW2] at p0 p1 p2 p3 p4 p5 pf
  unfold val6 at hwt
  unfold val6 at hW2
  unfold val6
  go_enter Try.func6,Try.ntmps6
  go_wp2_with fail
  rw [← hW2]
  clear hW2 p0 p1 p2 p3 p4 p5 pf
  refine (hwt.out W2 (Below.refl _ _)).mono ?_
  rintro e w1 ⟨x,rfl,hx3,hx,hb1⟩
  have B1:=Lib.hid hb1
  have hx':=Lib.hid hx
  have r1:=hbx.out w1 hb1
  unfold val6 at r1
  obtain ⟨p0,p1,p2,p3,p4,p5,pf⟩:=six_cells r1
  clear hb1 hx r1 hwt
  by_cases g1:x≤300
  · have g1I:¬ (300:Int) < (x:Int):=by omega
    cases b with
    | false =>
      clear hin
      go_wp2_with (first
        | (go_at_call 16;go_loud (refine (works_any _).mono ?_;rintro e w5 ⟨rfl,hb5⟩;have B5:=Lib.hid (B2.out.trans (hb5.mono B2.out.size));clear hb5))
        | (go_at_call 25;go_loud (refine (hli.out w1 B1.out).mono ?_;rintro e w2 ⟨rfl,hb2⟩;have B2:=Lib.hid (B1.out.trans (hb2.mono B1.out.size));clear hb2 p0 p1 p2 p3 p4 p5 pf)))
      go_ret
      exact ⟨rfl,z4'.out.trans (B5.out.mono z4'.out.size)⟩
    | true =>
      obtain ⟨hn30,hfw⟩:=hin.out rfl
      have hfw':=Lib.hid hfw
      clear hin hfw
      go_upto_region 3 with (go_at_call 25;go_loud (refine (hli.out w1 B1.out).mono ?_;rintro e w2 ⟨rfl,hb2⟩;have B2:=Lib.hid (B1.out.trans (hb2.mono B1.out.size));have r1:=hbx.out w2 B2.out;clear p0 p1 p2 p3 p4 p5 pf;unfold val6 at r1;obtain ⟨p0,p1,p2,p3,p4,p5,pf⟩:=six_cells r1;clear hb2 r1))
      have hwg:weighV t≤300:=by have:=hx'.out g1;omega
      have hap:=Lib.hid (fun (W:World) (hb:Below W2.heap.size W2 W)=>all_any W t aA kA an ac kn kc (hN.out W hb) A n c l (hO.out W hb) (by omega) hfw'.out (by omega))
      have hrp:=Lib.hid (fun (W:World) (hb:Below W2.heap.size W2 W)=>rall_any W t aA kA an ac kn kc (hN.out W hb) A n c l (hO.out W hb) (by omega) hfw'.out (by omega))
      obtain ⟨R,hR⟩:∃ R,R = allV t (l.map Prod.fst):=⟨_,rfl⟩
      rw [← hR] at hap hrp
      obtain ⟨m,kk,vv⟩:=R
      clear hR hli
      unfold AllA val6 at hap hrp
      dsimp only at hap hrp
      go_upto_region 4 with (go_at_call 26;go_loud (refine (hap.out w2 B2.out).mono ?_;rintro e w5 ⟨mA,mn,mc,mK,mk,md,rfl,hn5,hb5⟩;have B5:=Lib.hid (B2.out.trans (hb5.mono B2.out.size));have r1:=hbx.out w5 B5.out;clear p0 p1 p2 p3 p4 p5 pf;unfold val6 at r1;obtain ⟨p0,p1,p2,p3,p4,p5,pf⟩:=six_cells r1;clear r1))
      obtain ⟨X5,hX5⟩:∃ X,X = w5.alloc (.cells (val6 m mA mn mc mK mk md) 33):=⟨_,rfl⟩
      have m5:=Lib.hid (show X5.heap[w5.heap.size]? = some (.cells (val6 m mA mn mc mK mk md) 33 (0,0)) by rw [hX5];exact heap_alloc_new w5 _)
      have h45:=Lib.hid (show Below w2.heap.size w2 X5 by rw [hX5];exact hb5.alloc hb5.size _)
      have hM5:=Lib.hid (show NodeV (Old X5) X5 mA mn mc mK mk md m by
        rw [hX5]
        exact (hn5.kept (fun k hk=>show Old w5 k by
          rcases hk with hk | hk
          · exact Nat.lt_of_lt_of_le hk hb5.size
          · exact hk.2) (fun _ _=>rfl)).below ((Below.refl _ _).alloc (Nat.le_refl _) _))
      have hs5:w5.heap.size < X5.heap.size:=by rw [hX5];simp
      unfold val6 at hX5
      rw [← hX5]
      clear hX5 hn5 hb5 p0 p1 p2 p3 p4 p5 pf
      obtain ⟨b5,hbe⟩:∃ b,b = w5.heap.size:=⟨_,rfl⟩
      rw [← hbe] at m5 hs5 ⊢
      clear hbe
      have C5:=Lib.hid (B2.out.trans (h45.out.mono B2.out.size))
      have r1:=hbx.out X5 C5.out
      unfold val6 at r1
      obtain ⟨p0,p1,p2,p3,p4,p5,pf⟩:=six_cells r1
      clear r1 B5
      go_upto_region 5 with (go_at_call 27;go_loud (refine (hrp.out X5 C5.out).mono ?_;rintro e w6 ⟨nA,nn,nc,nK,nk,nd,rfl,hn6,hb6⟩;clear p0 p1 p2 p3 p4 p5 pf))
      obtain ⟨X6,hX6⟩:∃ X,X = w6.alloc (.cells (val6 m nA nn nc nK nk nd) 33):=⟨_,rfl⟩
      have m6:=Lib.hid (show X6.heap[w6.heap.size]? = some (.cells (val6 m nA nn nc nK nk nd) 33 (0,0)) by rw [hX6];exact heap_alloc_new w6 _)
      have h56:=Lib.hid (show Below X5.heap.size X5 X6 by rw [hX6];exact hb6.alloc hb6.size _)
      have hM6:=Lib.hid (show NodeV (Old X6) X6 nA nn nc nK nk nd m by
        rw [hX6]
        exact (hn6.kept (fun k hk=>show Old w6 k by
          rcases hk with hk | hk
          · exact Nat.lt_of_lt_of_le hk hb6.size
          · exact hk.2) (fun _ _=>rfl)).below ((Below.refl _ _).alloc (Nat.le_refl _) _))
      have hs6:w6.heap.size < X6.heap.size:=by rw [hX6];simp
      unfold val6 at hX6
      rw [← hX6]
      clear hX6 hn6 hb6
      obtain ⟨b6,hbe⟩:∃ b,b = w6.heap.size:=⟨_,rfl⟩
      rw [← hbe] at m6 hs6 ⊢
      clear hbe
      have C6:=Lib.hid (C5.out.trans (h56.out.mono C5.out.size))
      have m56:=(h56.out.block b5 hs5).trans m5.out
      have m6u:=m6.out
      unfold val6 at m56 m6u
      obtain ⟨q0,q1,q2,q3,q4,q5,qf⟩:=six_cells m56
      obtain ⟨t0,t1,t2,t3,t4,t5,tf⟩:=six_cells m6u
      have hsm:=rsame_any m m X6 mA mK nA nK mn mc mk md nn nc nk nd (hM5.out.below h56.out) hM6.out
      rw [eqV_refl sameA sameA_refl] at hsm
      unfold val6 at hsm
      have hsm':=Lib.hid hsm
      clear m56 m6u hsm hap hrp
      go_wp2_with (first | (go_at_call 24;go_loud (refine hsm'.out.mono ?_;rintro e w8 ⟨rfl,hb8⟩;have h8:=Lib.hid (C6.out.trans (hb8.mono C6.out.size));clear q0 q1 q2 q3 q4 q5 qf t0 t1 t2 t3 t4 t5 tf hb8)) | (go_at_call 16;go_loud (refine (works_any _).mono ?_;rintro e w9 ⟨rfl,hb9⟩;have h9:=Lib.hid (h8.out.trans (hb9.mono h8.out.size));clear hb9)))
      go_ret
      exact ⟨rfl,z4'.out.trans (h9.out.mono z4'.out.size)⟩
  · have g1I:(300:Int) < (x:Int):=by omega
    clear hin hli
    go_wp2_with (go_at_call 16;go_loud (refine (works_any _).mono ?_;rintro e w5 ⟨rfl,hb5⟩;have B5:=Lib.hid (B1.out.trans (hb5.mono B1.out.size));clear hb5))
    go_ret
    exact ⟨rfl,z4'.out.trans (B5.out.mono z4'.out.size)⟩
end Go.Proofs.Ytmipodnffhngaaa.Top
