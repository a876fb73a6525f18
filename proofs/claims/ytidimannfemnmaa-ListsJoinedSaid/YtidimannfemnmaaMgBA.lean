/- MgBA: LstFew LstLj -/
import Derived.Test.YtidimannfemnmaaLstLs
set_option linter.all false
namespace Go.Proofs.Ytidimannfemnmaa.Lst
open Go.RowKit Top Shf Sim Sqr
set_option maxRecDepth 20000

def fewB (l:List (Ov × OS)) (k:Nat):Bool:=lightL l k 60 && l.all fun x=>P5.smallV x.1.pieces 100
set_option maxHeartbeats 8000000 in
theorem few_any (w:World) (A:Option Addr) (n c:Nat) (l:List (Ov × OS)) (h:OpsAt w A n l) (hn:n≤maxLen) (k:Nat) (hk:k≤1000) :
    Calls Try.prog 57 #[.slice A n c,.int .i64 (k:Int)] w fun e w'=>e = .returned (.bool (fewB l k))∧Below w.heap.size w w':=by
  have kl:=Lib.hid (lightlist_any w A n c l h hn k 60 hk (by omega))
  obtain ⟨f1,hf1⟩:∃ Q9,Q9 = lightL l k 60:=⟨_,rfl⟩
  rw [← hf1] at kl
  cases f1 with
  | false =>
    have hv:=Lib.hid (show fewB l k = false by unfold fewB;rw [← hf1];rfl)
    clear h hf1 hn
    go_enter Try.func57,Try.ntmps57
    go_wp2_with (go_at_call 61;(refine kl.out.mono ?_;rintro e u1 ⟨rfl,hb9⟩;have V1:=Lib.hid hb9;clear hb9))
    go_ret
    exact ⟨by rw [hv.out] <;> rfl,V1.out⟩
  | true =>
    have hr:=Lib.hid (rows_light h hf1.symm)
    have hlen:=Lib.hid h.1
    have hln:=light_len hf1.symm
    have hnk:n≤1000:=by have:=h.1;omega
    have hv:=Lib.hid (show fewB l k = l.all fun x=>P5.smallV x.1.pieces 100 by unfold fewB;rw [← hf1];rfl)
    clear h hf1 hn hln
    go_enter Try.func57,Try.ntmps57
    go_wp2_with (go_at_call 61;(refine kl.out.mono ?_;rintro e u1 ⟨rfl,hb9⟩;have V1:=Lib.hid hb9;clear hb9))
    go_loopw [5] (fun v5 wr=>∃ q:Nat,q≤n∧v5 = .int .i64 (q:Int)∧((l.take q).all fun x=>P5.smallV x.1.pieces 100) = true∧Below w.heap.size w wr) (fun v5 _=>n - (intOf v5).toNat)
    case atStart=>exact ⟨0,Nat.zero_le _,rfl,rfl,V1.out⟩
    case round =>
      obtain ⟨q,hq,rfl,hE,hb⟩:=hrel
      have hE':=Lib.hid hE
      have hb':=Lib.hid hb
      clear hE hb
      by_cases hlt:q < n
      · have hI:(q:Int) < (n:Int):=by omega
        have h0:(0:Int)≤(q:Int):=by omega
        obtain ⟨x,hx⟩:∃ x,l[q]? = some x:=⟨_,List.getElem?_eq_getElem (by have:=hlen.out;omega)⟩
        obtain ⟨hxi,ad,rfl,hadl,hel⟩:=(hr.out.below hb'.out).2 q x hx
        have e10:=hel.2.2.2.2.2.2.2.2.2.2
        have hsm:=Lib.hid (P5.small_any wr x.2.qA x.2.qn x.2.qc x.1.pieces hxi.pieces (Nat.le_trans hxi.qnc hxi.qcm) 100 (by omega))
        have hst:=Lib.hid (show ((l.take (q + 1)).all fun x=>P5.smallV x.1.pieces 100) = (((l.take q).all fun x=>P5.smallV x.1.pieces 100) && P5.smallV x.1.pieces 100) by rw [List.take_add_one,hx];simp)
        have hno:=Lib.hid (fun (h:P5.smallV x.1.pieces 100 = false)=>show (l.all fun x=>P5.smallV x.1.pieces 100) = false from List.all_eq_false.2 ⟨x,List.mem_of_getElem? hx,by rw [h];simp⟩)
        obtain ⟨bb,hbb⟩:∃ bb,bb = P5.smallV x.1.pieces 100:=⟨_,rfl⟩
        rw [← hbb] at hsm hst hno
        have hbb':=Lib.hid hbb
        clear hxi hadl hel hx hbb
        cases bb with
        | true =>
          go_wp2_with (go_at_call 13;(refine hsm.out.mono ?_;rintro e u2 ⟨rfl,hb9⟩;have V2:=Lib.hid hb9;clear hb9))
          go_roundw
          case rel =>
            refine ⟨q + 1,by omega,by go_num,?_,hb'.out.trans (V2.out.mono hb'.out.size)⟩
            rw [hst.out,hE'.out];rfl
          case measure=>simp [intOf];omega
        | false =>
          have hv2:=Lib.hid (hv.out.trans (hno.out rfl))
          go_wp2_with (go_at_call 13;(refine hsm.out.mono ?_;rintro e u2 ⟨rfl,hb9⟩;have V2:=Lib.hid hb9;clear hb9))
          go_ret
          exact ⟨by rw [hv2.out] <;> rfl,hb'.out.trans (V2.out.mono hb'.out.size)⟩
      · have hI:¬ (q:Int) < (n:Int):=by omega
        have hv2:=Lib.hid (hv.out.trans (show (l.all fun x=>P5.smallV x.1.pieces 100) = true by have h5:=hE'.out;rw [List.take_of_length_le (by rw [hlen.out];omega)] at h5;exact h5))
        go_wp2_with fail
        go_ret
        exact ⟨by rw [hv2.out] <;> rfl,hb'.out⟩
theorem few_of {l:List (Ov × OS)} {k:Nat} (h:fewB l k = true):l.length≤k∧(∀ o ∈ (l.map Prod.fst).map bareV,Tiny o∧P5.totP (pcs o.pieces)≤100)∧lightL l k 60 = true:=by
  unfold fewB at h
  rw [Bool.and_eq_true] at h
  refine ⟨light_len h.1,fun o ho=>?_,h.1⟩
  obtain ⟨o1,ho1,rfl⟩:=List.mem_map.1 ho
  obtain ⟨x,hx,rfl⟩:=List.mem_map.1 ho1
  have h2:=List.all_eq_true.1 h.2 x hx
  have h1:=h.1
  unfold lightL at h1
  rw [Bool.and_eq_true] at h1
  have h3:=List.all_eq_true.1 h1.2 x hx
  obtain ⟨a,b,-⟩:=of_decide_eq_true h3
  unfold P5.smallV at h2
  simp only [Bool.and_eq_true,decide_eq_true_eq] at h2
  have h4:=totCosts x.1.pieces
  refine ⟨?_,?_⟩
  · unfold Tiny bareV
    dsimp only
    constructor
    · split
      · omega
      · simp
    · split
      · omega
      · simp
  · unfold bareV
    dsimp only
    split
    · omega
    · simp [pcs,P5.totP,Ltx.extent,Ltx.puts]
theorem puts_sum {l:List Ov} {c:Nat} (h:∀ o ∈ l,P5.totP (pcs o.pieces)≤c):putsL l≤l.length * c:=by
  induction l with
  | nil=>exact Nat.zero_le _
  | cons o r ih =>
    have h1:=h o List.mem_cons_self
    have h2:=ih fun y hy=>h y (List.mem_cons_of_mem _ hy)
    unfold P5.totP at h1
    rw [putsL,List.length_cons,Nat.succ_mul]
    omega
theorem met_few {p:Bool} {xs bs:List Ov} {c d m n:Nat} (hx:∀ o ∈ xs,Tiny o∧P5.totP (pcs o.pieces)≤c) (hb:∀ o ∈ bs,Tiny o∧P5.totP (pcs o.pieces)≤d) (h1:c + putsL bs≤2000) (h2:d + putsL xs≤2000):∃ n R,metV p n xs bs = some R :=
  met_ends p 2000 (Nat.le_refl _) xs bs (fun o ho=>⟨(hx o ho).1,by have:=(hx o ho).2;omega⟩) (fun o ho=>⟨(hb o ho).1,by have:=(hb o ho).2;omega⟩)
theorem met_bares {p:Bool} {n:Nat} {xs bs:List Ov} {R:Res} (hx:xs.map bareV = xs) (hb:bs.map bareV = bs) (h:metV p n xs bs = some R):R.1.map bareV = R.1∧R.2.1.map bareV = R.2.1:=by
  have h2:=met_bare p n xs bs R h
  rw [hx,hb] at h2
  have e:=met_one p h h2
  have e1:=congrArg Prod.fst e
  have e2:=congrArg (fun x=>x.2.1) e
  exact ⟨e1.symm,e2.symm⟩
theorem bares (l:List Ov):(l.map bareV).map bareV = l.map bareV:=by rw [List.map_map];exact List.map_congr_left fun o _=>bare_bare o
end Go.Proofs.Ytidimannfemnmaa.Lst
namespace Go.Proofs.Ytidimannfemnmaa.Lst
open Go.RowKit Top Shf Sim Sqr
set_option maxRecDepth 20000

theorem lsame_any (w:World) (A:Option Addr) (n c:Nat) (l1:List (Ov × OS)) (B:Option Addr) (m d:Nat) (l2:List (Ov × OS)) (h1:OpsR w A n l1) (h2:OpsR w B m l2) (hn:n≤100000) :
    Calls Try.prog 60 #[.slice A n c,.slice B m d] w fun e w'=>e = .returned (.bool (sameL (l1.map Prod.fst) (l2.map Prod.fst)))∧Below w.heap.size w w':=by
  have hc:=Lib.hid (same_ref w A n c l1 B m d l2 h1 h2 hn)
  clear h1 h2 hn
  go_enter Try.func60,Try.ntmps60
  go_wp2_with (go_at_call 63;(refine hc.out.mono ?_;rintro e u1 ⟨rfl,hb9⟩;have V1:=Lib.hid hb9;clear hb9))
  go_ret
  exact ⟨rfl,V1.out⟩
theorem own_bel {base:Nat} {w w':World} {v:Value} {l:List (Ov × OS)} (h:OwnO base w v l) (hg:w.grownBy w' v.ownBlock) (hb:base≤w.heap.size):Below base w w' :=
  ⟨hg.os,hg.tape,hg.output,hg.size,fun k hk=>hg.block k (by omega) (fun e=>by
    rcases h.2 with ⟨rfl,_⟩ | ⟨g',cap,cur,rfl,hbb,_⟩
    · cases e
    · have e2:g' = k:=by simpa [Value.ownBlock] using e.symm
      omega)⟩
theorem joined_vals {la lb lc:List (Ov × OS)} (p:Bool) (ha:fewB la 4 = true) (hb:fewB lb 4 = true) (hc:fewB lc 4 = true) :
    ∃ n1 R1 n2 R2 n3 R3,metV p n1 ((lc.map Prod.fst).map bareV) ((la.map Prod.fst).map bareV) = some R1∧metV p n2 (R1.1.map bareV) ((lb.map Prod.fst).map bareV) = some R2∧metV p n3 ((lc.map Prod.fst).map bareV) (((la ++ lb).map Prod.fst).map bareV) = some R3 ∧
      R1.1.length≤8∧(R1.2.2 = 0→R2.2.2 = 0→R3.2.2 = 0→R3 = (R2.1,R1.2.1 ++ R2.2.1,0)):=by
  obtain ⟨a1,a2,-⟩:=few_of ha
  obtain ⟨b1,b2,-⟩:=few_of hb
  obtain ⟨c1,c2,-⟩:=few_of hc
  have pa:=puts_sum fun o ho=>(a2 o ho).2
  have pb:=puts_sum fun o ho=>(b2 o ho).2
  have pc:=puts_sum fun o ho=>(c2 o ho).2
  simp only [List.length_map] at pa pb pc
  obtain ⟨n1,R1,h1⟩:=met_few (p:=p) (m:=0) (n:=0) c2 a2 (by omega) (by omega)
  have e1:=(met_bares (bares _) (bares _) h1).1
  have s1:=met_small h1
  simp only [List.length_map] at s1
  have t1:∀ o ∈ R1.1,Tiny o∧P5.totP (pcs o.pieces)≤500:=by
    by_cases hz:R1.2.2 = 0
    · obtain ⟨x,y,k⟩:=R1
      dsimp only at hz
      subst hz
      exact (meets_tot (met_meets p n1 _ _ _ _ h1)).1 500 fun o ho=>⟨(c2 o ho).1,by have:=(c2 o ho).2;omega⟩
    · rw [met_err h1 hz]
      exact fun o ho=>by cases ho
  have p1:putsL R1.1≤400:=by
    by_cases hz:R1.2.2 = 0
    · obtain ⟨x,y,k⟩:=R1
      dsimp only at hz
      subst hz
      have:=(meets_size (met_meets p n1 _ _ _ _ h1)).2.2.2.1
      dsimp only
      omega
    · rw [met_err h1 hz]
      exact Nat.zero_le _
  obtain ⟨n2,R2,h2⟩:=met_few (p:=p) (m:=0) (n:=0) t1 b2 (by omega) (by omega)
  have hab:((la ++ lb).map Prod.fst).map bareV = (la.map Prod.fst).map bareV ++ (lb.map Prod.fst).map bareV:=by rw [List.map_append,List.map_append]
  obtain ⟨n3,R3,h3⟩:=met_few (p:=p) (m:=0) (n:=0) (xs:=(lc.map Prod.fst).map bareV) (bs:=(la.map Prod.fst).map bareV ++ (lb.map Prod.fst).map bareV) c2 (c:=100) (d:=100) (fun o ho=>by
    rcases List.mem_append.1 ho with ho | ho
    · exact a2 o ho
    · exact b2 o ho) (by rw [putsL_append];omega) (by omega)
  refine ⟨n1,R1,n2,R2,n3,R3,h1,by rw [e1];exact h2,by rw [hab];exact h3,by omega,fun z1 z2 z3=>?_⟩
  obtain ⟨x,y,k⟩:=R1
  obtain ⟨z,q,k2⟩:=R2
  dsimp only at z1 z2
  subst z1 z2
  exact met_joined h1 h2 h3
set_option maxHeartbeats 32000000 in
theorem lawJoined_any (w:World) (C:Option Addr) (nc cc:Nat) (lc:List (Ov × OS)) (A:Option Addr) (na ca:Nat) (la:List (Ov × OS)) (B:Option Addr) (nb cb:Nat) (lb:List (Ov × OS)) (p:Bool) (hC:OpsAt w C nc lc) (hA:OpsAt w A na la) (hB:OpsAt w B nb lb)
    (hnc:nc≤maxLen) (hna:na≤maxLen) (hnb:nb≤maxLen) (hAn:A = none→ca = 0) (hBn:B = none→cb = 0) :
    Calls Try.prog 11 #[.slice C nc cc,.slice A na ca,.slice B nb cb,.bool p] w fun e w'=>e = .returned (.bool true)∧Below w.heap.size w w':=by
  have ka:=Lib.hid (few_any w A na ca la hA hna 4 (by omega))
  have kb:=Lib.hid (fun (W:World) (hw:Below w.heap.size w W)=>few_any W B nb cb lb (hB.below hw) hnb 4 (by omega))
  have kc:=Lib.hid (fun (W:World) (hw:Below w.heap.size w W)=>few_any W C nc cc lc (hC.below hw) hnc 4 (by omega))
  obtain ⟨fa,hfa⟩:∃ Q9,Q9 = fewB la 4:=⟨_,rfl⟩
  obtain ⟨fb,hfb⟩:∃ Q9,Q9 = fewB lb 4:=⟨_,rfl⟩
  obtain ⟨fc,hfc⟩:∃ Q9,Q9 = fewB lc 4:=⟨_,rfl⟩
  rw [← hfa] at ka
  rw [← hfb] at kb
  rw [← hfc] at kc
  cases fa with
  | false =>
    clear hA hB hC hfa hfb hfc hnc hna hnb hAn hBn
    go_enter Try.func11,Try.ntmps11
    go_wp2_with (first | (go_at_call 58;(refine (works_any _).mono ?_;rintro e wz ⟨rfl,hbz⟩;have BZ:=Lib.hid (V1.out.trans (hbz.mono V1.out.size));clear hbz)) | (go_at_call_of 57 A;(refine ka.out.mono ?_;rintro e u1 ⟨rfl,hb9⟩;have V1:=Lib.hid hb9;clear hb9)))
    go_ret
    exact ⟨rfl,BZ.out⟩
  | true =>
    cases fb with
    | false =>
      clear hA hB hC hfa hfb hfc hnc hna hnb hAn hBn
      go_enter Try.func11,Try.ntmps11
      go_wp2_with (first | (go_at_call 58;(refine (works_any _).mono ?_;rintro e wz ⟨rfl,hbz⟩;have BZ:=Lib.hid (V2.out.trans (hbz.mono V2.out.size));clear hbz)) | (go_at_call_of 57 B;(refine (kb.out u1 V1.out).mono ?_;rintro e u2 ⟨rfl,hb9⟩;have V2:=Lib.hid (V1.out.trans (hb9.mono V1.out.size));clear hb9)) | (go_at_call_of 57 A;(refine ka.out.mono ?_;rintro e u1 ⟨rfl,hb9⟩;have V1:=Lib.hid hb9;clear hb9)))
      go_ret
      exact ⟨rfl,BZ.out⟩
    | true =>
      cases fc with
      | false =>
        clear hA hB hC hfa hfb hfc hnc hna hnb hAn hBn
        go_enter Try.func11,Try.ntmps11
        go_wp2_with (first | (go_at_call 58;(refine (works_any _).mono ?_;rintro e wz ⟨rfl,hbz⟩;have BZ:=Lib.hid (V3.out.trans (hbz.mono V3.out.size));clear hbz)) | (go_at_call_of 57 C;(refine (kc.out u2 V2.out).mono ?_;rintro e u3 ⟨rfl,hb9⟩;have V3:=Lib.hid (V2.out.trans (hb9.mono V2.out.size));clear hb9)) | (go_at_call_of 57 B;(refine (kb.out u1 V1.out).mono ?_;rintro e u2 ⟨rfl,hb9⟩;have V2:=Lib.hid (V1.out.trans (hb9.mono V1.out.size));clear hb9)) | (go_at_call_of 57 A;(refine ka.out.mono ?_;rintro e u1 ⟨rfl,hb9⟩;have V1:=Lib.hid hb9;clear hb9)))
        go_ret
        exact ⟨rfl,BZ.out⟩
      | true =>
        obtain ⟨n1,R1,n2,R2,n3,R3,m1,m2,m3,s8,hj⟩:=joined_vals p hfa.symm hfb.symm hfc.symm
        have rA:=Lib.hid (rows_light hA (few_of hfa.symm).2.2)
        have rB:=Lib.hid (rows_light hB (few_of hfb.symm).2.2)
        have rC:=Lib.hid (rows_light hC (few_of hfc.symm).2.2)
        have la4:=(few_of hfa.symm).1
        have lb4:=(few_of hfb.symm).1
        have lc4:=(few_of hfc.symm).1
        have ea:=hA.1
        have eb:=hB.1
        have ec:=hC.1
        have b1:=Lib.hid (fun (W:World) (hw:Below w.heap.size w W)=>lboth_any W C nc cc lc A na ca la p n1 R1 (rC.out.below hw) (rA.out.below hw) (by omega) m1)
        have b2:=Lib.hid (fun (W:World) (hw:Below w.heap.size w W) (X:Option Addr) (nx cx:Nat) (lx:List (Ov × OS)) (hx:OpsR W X nx lx) (ex:lx.map Prod.fst = R1.1)=>lboth_any W X nx cx lx B nb cb lb p n2 R2 hx (rB.out.below hw) (by have h5:=congrArg List.length ex;have h6:=hx.1;rw [List.length_map] at h5;omega) (by rw [ex];exact m2))
        have b3:=Lib.hid (fun (W:World) (hw:Below w.heap.size w W) (X:Option Addr) (nx cx:Nat) (hx:OpsR W X nx (la ++ lb))=>lboth_any W C nc cc lc X nx cx (la ++ lb) p n3 R3 (rC.out.below hw) hx (by have h6:=hx.1;rw [List.length_append] at h6;omega) m3)
        have hj':=Lib.hid hj
        have sz:=Lib.hid (And.intro (show la.length≤4 by omega) (And.intro (show lb.length≤4 by omega) (And.intro (show lc.length≤4 by omega) (And.intro (met_small m1) (And.intro (met_small m2) (met_small m3))))))
        clear hA hB hC hfa hfb hfc hnc hna hnb m1 m2 m3 s8 hj la4 lb4 lc4 ea eb ec
        go_enter Try.func11,Try.ntmps11
        go_upto_region 4 with (first | (go_at_call_of 57 C;(refine (kc.out u2 V2.out).mono ?_;rintro e u3 ⟨rfl,hb9⟩;have V3:=Lib.hid (V2.out.trans (hb9.mono V2.out.size));clear hb9)) | (go_at_call_of 57 B;(refine (kb.out u1 V1.out).mono ?_;rintro e u2 ⟨rfl,hb9⟩;have V2:=Lib.hid (V1.out.trans (hb9.mono V1.out.size));clear hb9)) | (go_at_call_of 57 A;(refine ka.out.mono ?_;rintro e u1 ⟨rfl,hb9⟩;have V1:=Lib.hid hb9;clear hb9)))
        clear ka kb kc
        have o3:=OwnO.nil_ w.heap.size u3
        go_upto_region 5 with (at_builtin;(refine wpList_append_ops rfl _ (.tmp 35) rfl w.heap.size (.slice none 0 0) [] rfl o3 A na ca la rfl (rA.out.below V3.out) hAn (by have:=sz.out.1;simp only [List.length_nil];omega) V3.out.size ?_;intro v4 u4 hv4 hg4 _;have bl4:=own_bel o3 hg4 V3.out.size;rw [List.nil_append] at hv4;obtain ⟨A4,n4,c4,rfl,-⟩:=hv4.shape;have O4:=Lib.hid hv4;have V4:=Lib.hid (V3.out.trans bl4);clear hv4 hg4 bl4))
        clear o3
        go_upto_region 6 with (at_builtin;(refine wpList_append_ops rfl _ (.tmp 38) rfl w.heap.size (.slice A4 n4 c4) la rfl O4.out B nb cb lb rfl (rB.out.below V4.out) hBn (by have h5:=sz.out.1;have h6:=sz.out.2.1;omega) V4.out.size ?_;intro v5 u5 hv5 hg5 _;have bl5:=own_bel O4.out hg5 V4.out.size;obtain ⟨A5,n5,c5,rfl,-⟩:=hv5.shape;have O5:=Lib.hid hv5;have V5:=Lib.hid (V4.out.trans bl5);clear hv5 hg5 bl5))
        clear hAn hBn
        have r5:=Lib.hid (show OpsR u5 A5 n5 (la ++ lb) from by
          obtain ⟨A9,n9,c9,e9,-,-,-,h9⟩:=own_rows O5.out (fun x hx=>by
            rcases List.mem_append.1 hx with hx | hx
            · obtain ⟨q,hq⟩:=List.getElem?_of_mem hx
              exact ((rA.out.below V5.out).2 q x hq).1
            · obtain ⟨q,hq⟩:=List.getElem?_of_mem hx
              exact ((rB.out.below V5.out).2 q x hq).1)
          injection e9 with e1 e2 e3
          subst e1 e2 e3
          exact h9)
        go_upto_region 7 with (go_at_call 59;(refine (b1.out u5 V5.out).mono ?_;rintro e u6 ⟨X1,x1,d1,l1,P1,p1,f1,k1,rfl,hN1,hM1,hL1,hK1,hb9⟩;have N1:=Lib.hid hN1;have M1:=Lib.hid hM1;have L1:=Lib.hid hL1;have K1:=Lib.hid hK1;have E6:=Lib.hid hb9;have V6:=Lib.hid (V5.out.trans (hb9.mono V5.out.size));clear hb9 hN1 hM1 hL1 hK1))
        go_upto_region 8 with (go_at_call 59;(refine (b2.out u6 V6.out X1 x1 d1 l1 N1.out.rows.2.2.2 L1.out).mono ?_;rintro e u7 ⟨X2,x2,d2,l2,P2,p2,f2,k2,rfl,hN1,hM1,hL1,hK1,hb9⟩;have N2:=Lib.hid hN1;have M2:=Lib.hid hM1;have L2:=Lib.hid hL1;have K2:=Lib.hid hK1;have E7:=Lib.hid hb9;have V7:=Lib.hid (V6.out.trans (hb9.mono V6.out.size));clear hb9 hN1 hM1 hL1 hK1))
        go_upto_region 9 with (go_at_call 59;(refine (b3.out u7 V7.out A5 n5 c5 (r5.out.below (E6.out.trans (E7.out.mono E6.out.size)))).mono ?_;rintro e u8 ⟨X3,x3,d3,l3,P3,p3,f3,k3,rfl,hN1,hM1,hL1,hK1,hb9⟩;have N3:=Lib.hid hN1;have M3:=Lib.hid hM1;have L3:=Lib.hid hL1;have K3:=Lib.hid hK1;have E8:=Lib.hid hb9;have V8:=Lib.hid (V7.out.trans (hb9.mono V7.out.size));clear hb9 hN1 hM1 hL1 hK1))
        by_cases z1:R1.2.2 = 0
        case neg =>
          have z1B:(R1.2.2 != 0) = true:=by simp [z1]
          clear z1
          go_wp2_with (go_at_call 58;(refine (works_any _).mono ?_;rintro e wz ⟨rfl,hbz⟩;have BZ:=Lib.hid (V8.out.trans (hbz.mono V8.out.size));clear hbz))
          go_ret
          exact ⟨rfl,BZ.out⟩
        by_cases z2:R2.2.2 = 0
        case neg =>
          have z2B:(R2.2.2 != 0) = true:=by simp [z2]
          rw [z1]
          clear z1 z2
          go_wp2_with (go_at_call 58;(refine (works_any _).mono ?_;rintro e wz ⟨rfl,hbz⟩;have BZ:=Lib.hid (V8.out.trans (hbz.mono V8.out.size));clear hbz))
          go_ret
          exact ⟨rfl,BZ.out⟩
        by_cases z3:R3.2.2 = 0
        case neg =>
          have z3B:(R3.2.2 != 0) = true:=by simp [z3]
          rw [z1,z2]
          clear z1 z2 z3
          go_wp2_with (go_at_call 58;(refine (works_any _).mono ?_;rintro e wz ⟨rfl,hbz⟩;have BZ:=Lib.hid (V8.out.trans (hbz.mono V8.out.size));clear hbz))
          go_ret
          exact ⟨rfl,BZ.out⟩
        have hjj:=hj'.out z1 z2 z3
        have q1:sameL (l2.map Prod.fst) (l3.map Prod.fst) = true:=by rw [L2.out,L3.out,hjj];exact sameL_refl _
        have q2:sameL ((k1 ++ k2).map Prod.fst) (k3.map Prod.fst) = true:=by rw [List.map_append,K1.out,K2.out,K3.out,hjj];exact sameL_refl _
        have q1':=Lib.hid q1
        have q2':=Lib.hid q2
        rw [z1,z2,z3]
        clear z1 z2 z3 hjj q1 q2
        have e2_:=congrArg List.length K1.out
        have e3_:=congrArg List.length K2.out
        have e4_:=congrArg List.length L2.out
        have e1_:=congrArg List.length L1.out
        rw [List.length_map] at e1_ e2_ e3_ e4_
        have s4:=Lib.hid (show k1.length≤20∧k2.length≤20∧l2.length≤20 from by
          obtain ⟨h1,h2,h3,h4,h5,h6⟩:=sz.out
          simp only [List.length_map] at h4 h5
          exact ⟨by omega,by omega,by omega⟩)
        clear e1_ e2_ e3_ e4_
        have rk1:=Lib.hid ((M1.out.rows.2.2.2).below (E7.out.trans (E8.out.mono E7.out.size)))
        have rk2:=Lib.hid ((M2.out.rows.2.2.2).below E8.out)
        have cn1:=M1.out.rows.2.2.1
        have cn2:=M2.out.rows.2.2.1
        have o8:=OwnO.nil_ u8.heap.size u8
        go_upto_region 13 with (at_builtin;(refine wpList_append_ops rfl _ (.tmp 76) rfl u8.heap.size (.slice none 0 0) [] rfl o8 P1 p1 f1 k1 rfl rk1.out cn1 (by have:=s4.out.1;simp only [List.length_nil];omega) (Nat.le_refl _) ?_;intro v9 u9 hv9 hg9 _;have bl9:=own_bel o8 hg9 (Nat.le_refl _);rw [List.nil_append] at hv9;obtain ⟨A9,n9,c9,rfl,-⟩:=hv9.shape;have O9:=Lib.hid hv9;have E9:=Lib.hid bl9;clear hv9 hg9 bl9))
        clear o8
        go_upto_region 14 with (at_builtin;(refine wpList_append_ops rfl _ (.tmp 79) rfl u8.heap.size (.slice A9 n9 c9) k1 rfl O9.out P2 p2 f2 k2 rfl (rk2.out.below E9.out) cn2 (by have h5:=s4.out.1;have h6:=s4.out.2.1;omega) E9.out.size ?_;intro v10 u10 hv10 hg10 _;have bl10:=own_bel O9.out hg10 E9.out.size;obtain ⟨A10,n10,c10,rfl,-⟩:=hv10.shape;have O10:=Lib.hid hv10;have E10:=Lib.hid (E9.out.trans bl10);clear hv10 hg10 bl10))
        have V10:=Lib.hid (V8.out.trans (E10.out.mono V8.out.size))
        have r10:=Lib.hid (show OpsR u10 A10 n10 (k1 ++ k2) from by
          obtain ⟨A9_,n9_,c9_,e9,-,-,-,h9⟩:=own_rows O10.out (fun x hx=>by
            rcases List.mem_append.1 hx with hx | hx
            · obtain ⟨q,hq⟩:=List.getElem?_of_mem hx
              exact ((rk1.out.below E10.out).2 q x hq).1
            · obtain ⟨q,hq⟩:=List.getElem?_of_mem hx
              exact ((rk2.out.below E10.out).2 q x hq).1)
          injection e9 with e1 e2 e3
          subst e1 e2 e3
          exact h9)
        have y2:=Lib.hid ((N2.out.rows.2.2.2).below (E8.out.trans (E10.out.mono E8.out.size)))
        have y3:=Lib.hid ((N3.out.rows.2.2.2).below E10.out)
        have y4:=Lib.hid ((M3.out.rows.2.2.2).below E10.out)
        have w1:=Lib.hid (lsame_any u10 X2 x2 d2 l2 X3 x3 d3 l3 y2.out y3.out (by have h5:=y2.out.1;have h6:=s4.out.2.2;omega))
        have w2:=Lib.hid (fun (W:World) (hw:Below u10.heap.size u10 W)=>lsame_any W A10 n10 c10 (k1 ++ k2) P3 p3 f3 k3 (r10.out.below hw) (y4.out.below hw) (by have h5:=r10.out.1;have h6:=s4.out.1;have h7:=s4.out.2.1;rw [List.length_append] at h5;omega))
        rw [q1'.out] at w1
        rw [q2'.out] at w2
        go_wp2_with (first | (go_at_call 58;(refine (works_any _).mono ?_;rintro e wz ⟨rfl,hbz⟩;have BZ:=Lib.hid (V12.out.trans (hbz.mono V12.out.size));clear hbz)) | (go_at_call_of 60 P3;(refine (w2.out u11 E11.out).mono ?_;rintro e u12 ⟨rfl,hb9⟩;have V12:=Lib.hid (V11.out.trans (hb9.mono V11.out.size));clear hb9)) | (go_at_call_of 60 X3;(refine w1.out.mono ?_;rintro e u11 ⟨rfl,hb9⟩;have E11:=Lib.hid hb9;have V11:=Lib.hid (V10.out.trans (hb9.mono V10.out.size));clear hb9)))
        go_ret
        exact ⟨rfl,BZ.out⟩
end Go.Proofs.Ytidimannfemnmaa.Lst
