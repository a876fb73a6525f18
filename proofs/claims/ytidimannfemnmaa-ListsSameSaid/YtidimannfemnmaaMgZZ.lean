/- MgZZ: LstSame TopAd -/
import Derived.Test.YtidimannfemnmaaMgAS
import Derived.Test.YtidimannfemnmaaTopBg
import Derived.Test.YtidimannfemnmaaTopBh
import Derived.BigQuiet
import Derived.RegionTactic
import Derived.Test.YtidimannfemnmaaMgAF
import Derived.Test.YtidimannfemnmaaMgAK
import Derived.Deep.Cut
import Derived.Test.YtidimannfemnmaaMgAO
import Derived.Test.YtidimannfemnmaaMgAN
import Derived.Deep.CutRange
import Derived.Deep.CutBlock
import Derived.Test.YtidimannfemnmaaMgAP
import Derived.Test.YtidimannfemnmaaMgAL
import Derived.Test.YtidimannfemnmaaMgAU
import Derived.Deep.RegionHeld3
import Derived.Test.YtidimannfemnmaaMgAE
set_option linter.all false
namespace Go.Proofs.Ytidimannfemnmaa.Lst
open Go.RowKit Top Sim
set_option maxRecDepth 20000

instance:DecidableEq Ov:=fun a b=>decidable_of_iff (sameB a b = true) sameB_iff
def sameL (l1 l2:List Ov):Bool:=decide (l1.map bareV = l2.map bareV)
set_option maxHeartbeats 8000000 in
theorem same_prog (w:World) (A:Option Addr) (n c:Nat) (l1:List (Ov × OS)) (B:Option Addr) (m d:Nat) (l2:List (Ov × OS)) (h1:OpsR w A n l1) (h2:OpsR w B m l2) (hn:n≤100000) :
    Calls Try.prog 62 #[.slice A n c,.slice B m d] w fun e w'=>e = .returned (.bool (sameL (l1.map Prod.fst) (l2.map Prod.fst)))∧Below w.heap.size w w':=by
  have hl1:=h1.1
  have hl2:=h2.1
  by_cases hnm:n = m
  case neg =>
    have hI:¬ (n:Int) = (m:Int):=by omega
    have hB1:((n:Int) != (m:Int)) = true:=by simp;omega
    have hv:=Lib.hid (show sameL (l1.map Prod.fst) (l2.map Prod.fst) = false from decide_eq_false fun e=>by have:=congrArg List.length e;simp only [List.length_map] at this;omega)
    clear h1 h2 hnm
    go_enter Try.func62,Try.ntmps62
    go_wp2_with fail
    go_ret
    exact ⟨by rw [hv.out] <;> rfl,Below.refl _ _⟩
  subst hnm
  have h1':=Lib.hid h1
  have h2':=Lib.hid h2
  have hl1':=Lib.hid hl1
  have hl2':=Lib.hid hl2
  clear h1 h2 hl1 hl2
  go_enter Try.func62,Try.ntmps62
  go_wp2_with fail
  go_loopw [13] (fun v13 wr=>∃ q:Nat,q≤n∧v13 = .int .i64 (q:Int)∧((l1.map Prod.fst).take q).map bareV = ((l2.map Prod.fst).take q).map bareV∧Below w.heap.size w wr) (fun v13 _=>n - (intOf v13).toNat)
  case atStart=>exact ⟨0,Nat.zero_le _,rfl,rfl,Below.refl _ _⟩
  case round =>
    obtain ⟨q,hq,rfl,hE,hb⟩:=hrel
    have hE':=Lib.hid hE
    have hb':=Lib.hid hb
    clear hE hb
    by_cases hlt:q < n
    · have hI:(q:Int) < (n:Int):=by omega
      have h0:(0:Int)≤(q:Int):=by omega
      obtain ⟨x,hx⟩:∃ x,l1[q]? = some x:=⟨_,List.getElem?_eq_getElem (by have:=hl1'.out;omega)⟩
      obtain ⟨y,hy⟩:∃ y,l2[q]? = some y:=⟨_,List.getElem?_eq_getElem (by have:=hl2'.out;omega)⟩
      obtain ⟨hxi,ad,rfl,hadl,hel⟩:=(h1'.out.below hb'.out).2 q x hx
      obtain ⟨hyi,bd,rfl,hbdl,hfl⟩:=(h2'.out.below hb'.out).2 q y hy
      obtain ⟨o,s⟩:=x
      obtain ⟨p,t⟩:=y
      dsimp only at hxi hyi hel hfl
      have hcl:=Lib.hid (fun (W:World) (hB:Below wr.heap.size wr W)=>And.intro (hel.kept (hB.block _ (by rw [add_off];exact hadl))) (hfl.kept (hB.block _ (by rw [add_off];exact hbdl))))
      have hcc:=Lib.hid (fun (W:World) (hB:Below wr.heap.size wr W)=>psame_any W o p s t (hxi.below hB) (hyi.below hB))
      have e1:(l1.map Prod.fst)[q]? = some o:=by rw [List.getElem?_map,hx];rfl
      have e2:(l2.map Prod.fst)[q]? = some p:=by rw [List.getElem?_map,hy];rfl
      have hst:=Lib.hid (And.intro (show ((l1.map Prod.fst).take (q + 1)).map bareV = ((l1.map Prod.fst).take q).map bareV ++ [bareV o] by rw [List.take_add_one,e1];simp) (show ((l2.map Prod.fst).take (q + 1)).map bareV = ((l2.map Prod.fst).take q).map bareV ++ [bareV p] by rw [List.take_add_one,e2];simp))
      have hno:=Lib.hid (fun (h:bareV o ≠ bareV p)=>show sameL (l1.map Prod.fst) (l2.map Prod.fst) = false from decide_eq_false fun e=>h (by
        have e5:=congrArg (fun l=>l[q]?) e
        simp only [List.getElem?_map] at e5 e1 e2
        rw [hx,hy] at e5
        simpa using e5))
      obtain ⟨bb,hbb⟩:∃ bb,bb = sameB (bareV o) (bareV p):=⟨_,rfl⟩
      rw [← hbb] at hcc
      have hbb':=Lib.hid hbb
      unfold opCells at hcc
      clear hxi hyi hadl hbdl hel hfl hx hy e1 e2 hbb
      go_upto_region 6 with fail
      rename_i K0 hK0
      refine wp_region_held_drew (S:=(fun W=>Below wr.heap.size wr W)) (by kernel_rfl) ((Below.refl wr.heap.size wr).drew) (fun hHeld=>?_)
      refine wpAnyH_take (i:=0) (oi:={ dst:=some 16,op:=Go.Op.move (Go.Operand.tmp 0),type:=55,pos:="lists.go:56",after:=#[],guard:=none }) (v:=?_) rfl (by kernel_rfl) (by kernel_rfl) (by kernel_rfl) (fun _ _ _ h=>h) (Or.inl ⟨by rfl,?_⟩) hHeld ?_
      rotate_left 1
      · intro W hSw;obtain ⟨hE0,hE1⟩:=hcl.out W hSw;obtain ⟨e0,e1,e2,e3,e4,e5,e6,e7,e8,e9,e10⟩:=hE0;obtain ⟨f0,f1,f2,f3,f4,f5,f6,f7,f8,f9,f10⟩:=hE1;go_simp;try with_reducible rfl
      try simp only [Act.put,zA,zB,zC]
      refine wpAnyH_take (i:=1) (oi:={ dst:=some 17,op:=Go.Op.move (Go.Operand.tmp 5),type:=3,pos:="lists.go:56",after:=#[],guard:=none }) (v:=?_) rfl (by kernel_rfl) (by kernel_rfl) (by kernel_rfl) (fun _ _ _ h=>h) (Or.inl ⟨by rfl,?_⟩) hHeld ?_
      rotate_left 1
      · intro W hSw;obtain ⟨hE0,hE1⟩:=hcl.out W hSw;obtain ⟨e0,e1,e2,e3,e4,e5,e6,e7,e8,e9,e10⟩:=hE0;obtain ⟨f0,f1,f2,f3,f4,f5,f6,f7,f8,f9,f10⟩:=hE1;go_simp;try with_reducible rfl
      try simp only [Act.put,zA,zB,zC]
      refine wpAnyH_take (i:=2) (oi:={ dst:=some 18,op:=Go.Op.indexAddr 55 (Go.Operand.tmp 16) (Go.Operand.tmp 17),type:=0,pos:="lists.go:56",after:=#[{ on:=0,ground:=Go.Ground.data },{ on:=1,ground:=Go.Ground.data }],guard:=none }) (v:=?_) rfl (by kernel_rfl) (by kernel_rfl) (by kernel_rfl) (fun _ _ _ h=>h) (Or.inl ⟨by rfl,?_⟩) hHeld ?_
      rotate_left 1
      · intro W hSw;obtain ⟨hE0,hE1⟩:=hcl.out W hSw;obtain ⟨e0,e1,e2,e3,e4,e5,e6,e7,e8,e9,e10⟩:=hE0;obtain ⟨f0,f1,f2,f3,f4,f5,f6,f7,f8,f9,f10⟩:=hE1;go_simp;try with_reducible rfl
      try simp only [Act.put,zA,zB,zC]
      refine wpAnyH_take (i:=3) (oi:={ dst:=some 19,op:=Go.Op.load 52 (Go.Operand.tmp 18),type:=52,pos:="lists.go:56",after:=#[{ on:=2,ground:=Go.Ground.data }],guard:=none }) (v:=?_) rfl (by kernel_rfl) (by kernel_rfl) (by kernel_rfl) (fun _ _ _ h=>h) (Or.inl ⟨by rfl,?_⟩) hHeld ?_
      rotate_left 1
      · intro W hSw;obtain ⟨hE0,hE1⟩:=hcl.out W hSw;obtain ⟨e0,e1,e2,e3,e4,e5,e6,e7,e8,e9,e10⟩:=hE0;obtain ⟨f0,f1,f2,f3,f4,f5,f6,f7,f8,f9,f10⟩:=hE1;go_simp;try with_reducible rfl
      try simp only [Act.put,zA,zB,zC]
      refine wpAnyH_take (i:=4) (oi:={ dst:=some 20,op:=Go.Op.move (Go.Operand.tmp 1),type:=55,pos:="lists.go:56",after:=#[],guard:=none }) (v:=?_) rfl (by kernel_rfl) (by kernel_rfl) (by kernel_rfl) (fun _ _ _ h=>h) (Or.inl ⟨by rfl,?_⟩) hHeld ?_
      rotate_left 1
      · intro W hSw;obtain ⟨hE0,hE1⟩:=hcl.out W hSw;obtain ⟨e0,e1,e2,e3,e4,e5,e6,e7,e8,e9,e10⟩:=hE0;obtain ⟨f0,f1,f2,f3,f4,f5,f6,f7,f8,f9,f10⟩:=hE1;go_simp;try with_reducible rfl
      try simp only [Act.put,zA,zB,zC]
      refine wpAnyH_take (i:=5) (oi:={ dst:=some 21,op:=Go.Op.move (Go.Operand.tmp 5),type:=3,pos:="lists.go:56",after:=#[],guard:=none }) (v:=?_) rfl (by kernel_rfl) (by kernel_rfl) (by kernel_rfl) (fun _ _ _ h=>h) (Or.inl ⟨by rfl,?_⟩) hHeld ?_
      rotate_left 1
      · intro W hSw;obtain ⟨hE0,hE1⟩:=hcl.out W hSw;obtain ⟨e0,e1,e2,e3,e4,e5,e6,e7,e8,e9,e10⟩:=hE0;obtain ⟨f0,f1,f2,f3,f4,f5,f6,f7,f8,f9,f10⟩:=hE1;go_simp;try with_reducible rfl
      try simp only [Act.put,zA,zB,zC]
      refine wpAnyH_take (i:=6) (oi:={ dst:=some 22,op:=Go.Op.indexAddr 55 (Go.Operand.tmp 20) (Go.Operand.tmp 21),type:=0,pos:="lists.go:56",after:=#[{ on:=4,ground:=Go.Ground.data },{ on:=5,ground:=Go.Ground.data }],guard:=none }) (v:=?_) rfl (by kernel_rfl) (by kernel_rfl) (by kernel_rfl) (fun _ _ _ h=>h) (Or.inl ⟨by rfl,?_⟩) hHeld ?_
      rotate_left 1
      · intro W hSw;obtain ⟨hE0,hE1⟩:=hcl.out W hSw;obtain ⟨e0,e1,e2,e3,e4,e5,e6,e7,e8,e9,e10⟩:=hE0;obtain ⟨f0,f1,f2,f3,f4,f5,f6,f7,f8,f9,f10⟩:=hE1;go_simp;try with_reducible rfl
      try simp only [Act.put,zA,zB,zC]
      refine wpAnyH_take (i:=7) (oi:={ dst:=some 23,op:=Go.Op.load 52 (Go.Operand.tmp 22),type:=52,pos:="lists.go:56",after:=#[{ on:=6,ground:=Go.Ground.data }],guard:=none }) (v:=?_) rfl (by kernel_rfl) (by kernel_rfl) (by kernel_rfl) (fun _ _ _ h=>h) (Or.inl ⟨by rfl,?_⟩) hHeld ?_
      rotate_left 1
      · intro W hSw;obtain ⟨hE0,hE1⟩:=hcl.out W hSw;obtain ⟨e0,e1,e2,e3,e4,e5,e6,e7,e8,e9,e10⟩:=hE0;obtain ⟨f0,f1,f2,f3,f4,f5,f6,f7,f8,f9,f10⟩:=hE1;go_simp;try with_reducible rfl
      try simp only [Act.put,zA,zB,zC]
      refine wpAnyH_ready (rs:=[8]) (by kernel_rfl) (by simp) ?_
      refine AllReadyH.cons (o:={ dst:=some 24,op:=Go.Op.call { callee:=Go.Callee.value (Go.Operand.func 129),args:=#[Go.Operand.tmp 19,Go.Operand.tmp 23],argTypes:=#[52,52] },type:=4,pos:="lists.go:56",after:=#[{ on:=3,ground:=Go.Ground.data },{ on:=7,ground:=Go.Ground.data }],guard:=none }) rfl (fun K hK=>?_) AllReadyH.nil
      go_simp
      refine (hcc.out _ hHeld).mono ?_
      rintro e w5 ⟨rfl,hb5⟩
      have B5:=Lib.hid (hHeld.trans (hb5.mono hHeld.size))
      clear hb5
      go_simp
      refine hK.out _ _ ?_ (fun hNew=>?_)
      · exact B5.out
      clear hK K hHeld
      have hHeld:=hNew
      clear hNew
      try simp only [Act.put,zA,zB,zC]
      refine wpAnyH_ready (rs:=[9]) (by kernel_rfl) (by simp) ?_
      refine AllReadyH.cons (o:={ dst:=some 25,op:=Go.Op.unOp Go.UnOp.not 4 (Go.Operand.tmp 24),type:=4,pos:="lists.go:56",after:=#[{ on:=8,ground:=Go.Ground.data }],guard:=none }) rfl (fun K hK=>?_) AllReadyH.nil
      go_simp
      refine hK.out _ _ hHeld (fun hNew=>?_)
      clear hK K hHeld
      have hHeld:=hNew
      clear hNew
      try simp only [Act.put,zA,zB,zC]
      refine wpAnyH_done (by kernel_rfl) ?_ _
      refine hK0 _ _ ?_
      clear hK0
      cases bb with
      | true =>
        have heq:bareV o = bareV p:=sameB_iff.1 hbb'.out.symm
        have heq':=Lib.hid heq
        clear heq
        go_wp2_with fail
        go_roundw
        case rel =>
          refine ⟨q + 1,by omega,by go_num,?_,hb'.out.trans (B5.out.mono hb'.out.size)⟩
          have h5:=hE'.out
          have h6:=hst.out
          rw [h6.1,h6.2,h5,heq'.out]
        case measure=>simp [intOf];omega
      | false =>
        have hne:bareV o ≠ bareV p:=fun e=>by
          have h5:=sameB_iff.2 e
          rw [← hbb'.out] at h5
          cases h5
        have hv:=Lib.hid (hno.out hne)
        clear hne
        go_wp2_with fail
        go_ret
        exact ⟨by rw [hv.out] <;> rfl,hb'.out.trans (B5.out.mono hb'.out.size)⟩
    · have hI:¬ (q:Int) < (n:Int):=by omega
      have hv:=Lib.hid (show sameL (l1.map Prod.fst) (l2.map Prod.fst) = true from decide_eq_true (by
        have h5:=hE'.out
        rw [List.take_of_length_le (by rw [List.length_map,hl1'.out];omega),List.take_of_length_le (by rw [List.length_map,hl2'.out];omega)] at h5
        exact h5))
      go_wp2_with fail
      go_ret
      exact ⟨by rw [hv.out] <;> rfl,hb'.out⟩
set_option maxHeartbeats 8000000 in
theorem same_ref (w:World) (A:Option Addr) (n c:Nat) (l1:List (Ov × OS)) (B:Option Addr) (m d:Nat) (l2:List (Ov × OS)) (h1:OpsR w A n l1) (h2:OpsR w B m l2) (hn:n≤100000) :
    Calls Try.prog 63 #[.slice A n c,.slice B m d] w fun e w'=>e = .returned (.bool (sameL (l1.map Prod.fst) (l2.map Prod.fst)))∧Below w.heap.size w w':=by
  have hl1:=h1.1
  have hl2:=h2.1
  by_cases hnm:n = m
  case neg =>
    have hI:¬ (n:Int) = (m:Int):=by omega
    have hB1:((n:Int) != (m:Int)) = true:=by simp;omega
    have hv:=Lib.hid (show sameL (l1.map Prod.fst) (l2.map Prod.fst) = false from decide_eq_false fun e=>by have:=congrArg List.length e;simp only [List.length_map] at this;omega)
    clear h1 h2 hnm
    go_enter Try.func63,Try.ntmps63
    go_wp2_with fail
    go_ret
    exact ⟨by rw [hv.out] <;> rfl,Below.refl _ _⟩
  subst hnm
  have h1':=Lib.hid h1
  have h2':=Lib.hid h2
  have hl1':=Lib.hid hl1
  have hl2':=Lib.hid hl2
  clear h1 h2 hl1 hl2
  go_enter Try.func63,Try.ntmps63
  go_wp2_with fail
  go_loopw [5] (fun v13 wr=>∃ q:Nat,q≤n∧v13 = .int .i64 (q:Int)∧((l1.map Prod.fst).take q).map bareV = ((l2.map Prod.fst).take q).map bareV∧Below w.heap.size w wr) (fun v13 _=>n - (intOf v13).toNat)
  case atStart=>exact ⟨0,Nat.zero_le _,rfl,rfl,Below.refl _ _⟩
  case round =>
    obtain ⟨q,hq,rfl,hE,hb⟩:=hrel
    have hE':=Lib.hid hE
    have hb':=Lib.hid hb
    clear hE hb
    by_cases hlt:q < n
    · have hI:(q:Int) < (n:Int):=by omega
      have h0:(0:Int)≤(q:Int):=by omega
      obtain ⟨x,hx⟩:∃ x,l1[q]? = some x:=⟨_,List.getElem?_eq_getElem (by have:=hl1'.out;omega)⟩
      obtain ⟨y,hy⟩:∃ y,l2[q]? = some y:=⟨_,List.getElem?_eq_getElem (by have:=hl2'.out;omega)⟩
      obtain ⟨hxi,ad,rfl,hadl,hel⟩:=(h1'.out.below hb'.out).2 q x hx
      obtain ⟨hyi,bd,rfl,hbdl,hfl⟩:=(h2'.out.below hb'.out).2 q y hy
      obtain ⟨o,s⟩:=x
      obtain ⟨p,t⟩:=y
      dsimp only at hxi hyi hel hfl
      have hcl:=Lib.hid (fun (W:World) (hB:Below wr.heap.size wr W)=>And.intro (hel.kept (hB.block _ (by rw [add_off];exact hadl))) (hfl.kept (hB.block _ (by rw [add_off];exact hbdl))))
      have hcc:=Lib.hid (fun (W:World) (hB:Below wr.heap.size wr W)=>rsame_any8 W o p s t (hxi.below hB) (hyi.below hB))
      have e1:(l1.map Prod.fst)[q]? = some o:=by rw [List.getElem?_map,hx];rfl
      have e2:(l2.map Prod.fst)[q]? = some p:=by rw [List.getElem?_map,hy];rfl
      have hst:=Lib.hid (And.intro (show ((l1.map Prod.fst).take (q + 1)).map bareV = ((l1.map Prod.fst).take q).map bareV ++ [bareV o] by rw [List.take_add_one,e1];simp) (show ((l2.map Prod.fst).take (q + 1)).map bareV = ((l2.map Prod.fst).take q).map bareV ++ [bareV p] by rw [List.take_add_one,e2];simp))
      have hno:=Lib.hid (fun (h:bareV o ≠ bareV p)=>show sameL (l1.map Prod.fst) (l2.map Prod.fst) = false from decide_eq_false fun e=>h (by
        have e5:=congrArg (fun l=>l[q]?) e
        simp only [List.getElem?_map] at e5 e1 e2
        rw [hx,hy] at e5
        simpa using e5))
      obtain ⟨bb,hbb⟩:∃ bb,bb = sameB (bareV o) (bareV p):=⟨_,rfl⟩
      rw [← hbb] at hcc
      have hbb':=Lib.hid hbb
      unfold opCells at hcc
      clear hxi hyi hadl hbdl hel hfl hx hy e1 e2 hbb
      go_upto_region 6 with fail
      rename_i K0 hK0
      refine wp_region_held_drew (S:=(fun W=>Below wr.heap.size wr W)) (by kernel_rfl) ((Below.refl wr.heap.size wr).drew) (fun hHeld=>?_)
      refine wpAnyH_take (i:=0) (oi:={ dst:=some 17,op:=Go.Op.move (Go.Operand.tmp 0),type:=55,pos:="ref.go:92",after:=#[],guard:=none }) (v:=?_) rfl (by kernel_rfl) (by kernel_rfl) (by kernel_rfl) (fun _ _ _ h=>h) (Or.inl ⟨by rfl,?_⟩) hHeld ?_
      rotate_left 1
      · intro W hSw;obtain ⟨hE0,hE1⟩:=hcl.out W hSw;obtain ⟨e0,e1,e2,e3,e4,e5,e6,e7,e8,e9,e10⟩:=hE0;obtain ⟨f0,f1,f2,f3,f4,f5,f6,f7,f8,f9,f10⟩:=hE1;go_simp;try with_reducible rfl
      try simp only [Act.put,zA,zB,zC]
      refine wpAnyH_take (i:=1) (oi:={ dst:=some 18,op:=Go.Op.move (Go.Operand.tmp 5),type:=3,pos:="ref.go:92",after:=#[],guard:=none }) (v:=?_) rfl (by kernel_rfl) (by kernel_rfl) (by kernel_rfl) (fun _ _ _ h=>h) (Or.inl ⟨by rfl,?_⟩) hHeld ?_
      rotate_left 1
      · intro W hSw;obtain ⟨hE0,hE1⟩:=hcl.out W hSw;obtain ⟨e0,e1,e2,e3,e4,e5,e6,e7,e8,e9,e10⟩:=hE0;obtain ⟨f0,f1,f2,f3,f4,f5,f6,f7,f8,f9,f10⟩:=hE1;go_simp;try with_reducible rfl
      try simp only [Act.put,zA,zB,zC]
      refine wpAnyH_take (i:=2) (oi:={ dst:=some 19,op:=Go.Op.indexAddr 55 (Go.Operand.tmp 17) (Go.Operand.tmp 18),type:=0,pos:="ref.go:92",after:=#[{ on:=0,ground:=Go.Ground.data },{ on:=1,ground:=Go.Ground.data }],guard:=none }) (v:=?_) rfl (by kernel_rfl) (by kernel_rfl) (by kernel_rfl) (fun _ _ _ h=>h) (Or.inl ⟨by rfl,?_⟩) hHeld ?_
      rotate_left 1
      · intro W hSw;obtain ⟨hE0,hE1⟩:=hcl.out W hSw;obtain ⟨e0,e1,e2,e3,e4,e5,e6,e7,e8,e9,e10⟩:=hE0;obtain ⟨f0,f1,f2,f3,f4,f5,f6,f7,f8,f9,f10⟩:=hE1;go_simp;try with_reducible rfl
      try simp only [Act.put,zA,zB,zC]
      refine wpAnyH_take (i:=3) (oi:={ dst:=some 20,op:=Go.Op.load 52 (Go.Operand.tmp 19),type:=52,pos:="ref.go:92",after:=#[{ on:=2,ground:=Go.Ground.data }],guard:=none }) (v:=?_) rfl (by kernel_rfl) (by kernel_rfl) (by kernel_rfl) (fun _ _ _ h=>h) (Or.inl ⟨by rfl,?_⟩) hHeld ?_
      rotate_left 1
      · intro W hSw;obtain ⟨hE0,hE1⟩:=hcl.out W hSw;obtain ⟨e0,e1,e2,e3,e4,e5,e6,e7,e8,e9,e10⟩:=hE0;obtain ⟨f0,f1,f2,f3,f4,f5,f6,f7,f8,f9,f10⟩:=hE1;go_simp;try with_reducible rfl
      try simp only [Act.put,zA,zB,zC]
      refine wpAnyH_take (i:=4) (oi:={ dst:=some 21,op:=Go.Op.move (Go.Operand.tmp 1),type:=55,pos:="ref.go:92",after:=#[],guard:=none }) (v:=?_) rfl (by kernel_rfl) (by kernel_rfl) (by kernel_rfl) (fun _ _ _ h=>h) (Or.inl ⟨by rfl,?_⟩) hHeld ?_
      rotate_left 1
      · intro W hSw;obtain ⟨hE0,hE1⟩:=hcl.out W hSw;obtain ⟨e0,e1,e2,e3,e4,e5,e6,e7,e8,e9,e10⟩:=hE0;obtain ⟨f0,f1,f2,f3,f4,f5,f6,f7,f8,f9,f10⟩:=hE1;go_simp;try with_reducible rfl
      try simp only [Act.put,zA,zB,zC]
      refine wpAnyH_take (i:=5) (oi:={ dst:=some 22,op:=Go.Op.move (Go.Operand.tmp 5),type:=3,pos:="ref.go:92",after:=#[],guard:=none }) (v:=?_) rfl (by kernel_rfl) (by kernel_rfl) (by kernel_rfl) (fun _ _ _ h=>h) (Or.inl ⟨by rfl,?_⟩) hHeld ?_
      rotate_left 1
      · intro W hSw;obtain ⟨hE0,hE1⟩:=hcl.out W hSw;obtain ⟨e0,e1,e2,e3,e4,e5,e6,e7,e8,e9,e10⟩:=hE0;obtain ⟨f0,f1,f2,f3,f4,f5,f6,f7,f8,f9,f10⟩:=hE1;go_simp;try with_reducible rfl
      try simp only [Act.put,zA,zB,zC]
      refine wpAnyH_take (i:=6) (oi:={ dst:=some 23,op:=Go.Op.indexAddr 55 (Go.Operand.tmp 21) (Go.Operand.tmp 22),type:=0,pos:="ref.go:92",after:=#[{ on:=4,ground:=Go.Ground.data },{ on:=5,ground:=Go.Ground.data }],guard:=none }) (v:=?_) rfl (by kernel_rfl) (by kernel_rfl) (by kernel_rfl) (fun _ _ _ h=>h) (Or.inl ⟨by rfl,?_⟩) hHeld ?_
      rotate_left 1
      · intro W hSw;obtain ⟨hE0,hE1⟩:=hcl.out W hSw;obtain ⟨e0,e1,e2,e3,e4,e5,e6,e7,e8,e9,e10⟩:=hE0;obtain ⟨f0,f1,f2,f3,f4,f5,f6,f7,f8,f9,f10⟩:=hE1;go_simp;try with_reducible rfl
      try simp only [Act.put,zA,zB,zC]
      refine wpAnyH_take (i:=7) (oi:={ dst:=some 24,op:=Go.Op.load 52 (Go.Operand.tmp 23),type:=52,pos:="ref.go:92",after:=#[{ on:=6,ground:=Go.Ground.data }],guard:=none }) (v:=?_) rfl (by kernel_rfl) (by kernel_rfl) (by kernel_rfl) (fun _ _ _ h=>h) (Or.inl ⟨by rfl,?_⟩) hHeld ?_
      rotate_left 1
      · intro W hSw;obtain ⟨hE0,hE1⟩:=hcl.out W hSw;obtain ⟨e0,e1,e2,e3,e4,e5,e6,e7,e8,e9,e10⟩:=hE0;obtain ⟨f0,f1,f2,f3,f4,f5,f6,f7,f8,f9,f10⟩:=hE1;go_simp;try with_reducible rfl
      try simp only [Act.put,zA,zB,zC]
      refine wpAnyH_ready (rs:=[8]) (by kernel_rfl) (by simp) ?_
      refine AllReadyH.cons (o:={ dst:=some 25,op:=Go.Op.call { callee:=Go.Callee.value (Go.Operand.func 36),args:=#[Go.Operand.tmp 20,Go.Operand.tmp 24],argTypes:=#[52,52] },type:=4,pos:="ref.go:92",after:=#[{ on:=3,ground:=Go.Ground.data },{ on:=7,ground:=Go.Ground.data }],guard:=none }) rfl (fun K hK=>?_) AllReadyH.nil
      go_simp
      refine (hcc.out _ hHeld).mono ?_
      rintro e w5 ⟨rfl,hb5⟩
      have B5:=Lib.hid (hHeld.trans (hb5.mono hHeld.size))
      clear hb5
      go_simp
      refine hK.out _ _ ?_ (fun hNew=>?_)
      · exact B5.out
      clear hK K hHeld
      have hHeld:=hNew
      clear hNew
      try simp only [Act.put,zA,zB,zC]
      refine wpAnyH_ready (rs:=[9]) (by kernel_rfl) (by simp) ?_
      refine AllReadyH.cons (o:={ dst:=some 26,op:=Go.Op.unOp Go.UnOp.not 4 (Go.Operand.tmp 25),type:=4,pos:="ref.go:92",after:=#[{ on:=8,ground:=Go.Ground.data }],guard:=none }) rfl (fun K hK=>?_) AllReadyH.nil
      go_simp
      refine hK.out _ _ hHeld (fun hNew=>?_)
      clear hK K hHeld
      have hHeld:=hNew
      clear hNew
      try simp only [Act.put,zA,zB,zC]
      refine wpAnyH_done (by kernel_rfl) ?_ _
      refine hK0 _ _ ?_
      clear hK0
      cases bb with
      | true =>
        have heq:bareV o = bareV p:=sameB_iff.1 hbb'.out.symm
        have heq':=Lib.hid heq
        clear heq
        go_wp2_with fail
        go_roundw
        case rel =>
          refine ⟨q + 1,by omega,by go_num,?_,hb'.out.trans (B5.out.mono hb'.out.size)⟩
          have h5:=hE'.out
          have h6:=hst.out
          rw [h6.1,h6.2,h5,heq'.out]
        case measure=>simp [intOf];omega
      | false =>
        have hne:bareV o ≠ bareV p:=fun e=>by
          have h5:=sameB_iff.2 e
          rw [← hbb'.out] at h5
          cases h5
        have hv:=Lib.hid (hno.out hne)
        clear hne
        go_wp2_with fail
        go_ret
        exact ⟨by rw [hv.out] <;> rfl,hb'.out.trans (B5.out.mono hb'.out.size)⟩
    · have hI:¬ (q:Int) < (n:Int):=by omega
      have hv:=Lib.hid (show sameL (l1.map Prod.fst) (l2.map Prod.fst) = true from decide_eq_true (by
        have h5:=hE'.out
        rw [List.take_of_length_le (by rw [List.length_map,hl1'.out];omega),List.take_of_length_le (by rw [List.length_map,hl2'.out];omega)] at h5
        exact h5))
      go_wp2_with fail
      go_ret
      exact ⟨by rw [hv.out] <;> rfl,hb'.out⟩
theorem sameL_refl (l:List Ov):sameL l l = true:=decide_eq_true rfl
end Go.Proofs.Ytidimannfemnmaa.Lst
namespace Go.Proofs.Ytidimannfemnmaa.Top
open Go.RowKit
set_option maxRecDepth 20000

def lightL (l:List (Ov × OS)) (count top:Nat):Bool:=decide (l.length≤count) && l.all fun x=>lightB x.1 top
set_option maxHeartbeats 4000000 in
theorem lightlist_any (w:World) (A:Option Addr) (n c:Nat) (l:List (Ov × OS)) (h:OpsAt w A n l) (hn:n≤maxLen) (count top:Nat) (hc:count≤1000) (ht:top≤1000) :
    Calls Try.prog 61 #[.slice A n c,.int .i64 (count:Int),.int .i64 (top:Int)] w fun e w'=>e = .returned (.bool (lightL l count top))∧Below w.heap.size w w':=by
  have h':=Lib.hid h
  have hlen:=Lib.hid h.1
  clear h
  unfold maxLen at hn
  by_cases c0:count < n
  · have d0:(count:Int) < (n:Int):=by omega
    have hv:=Lib.hid (show lightL l count top = false by unfold lightL;rw [decide_eq_false (by have:=hlen.out;omega)];rfl)
    go_enter Try.func61,Try.ntmps61
    go_wp2_with fail
    go_ret
    exact ⟨by rw [hv.out] <;> rfl,Below.refl _ _⟩
  · have d0:¬ (count:Int) < (n:Int):=by omega
    have hd:=Lib.hid (show decide (l.length≤count) = true from decide_eq_true (by have:=hlen.out;omega))
    go_enter Try.func61,Try.ntmps61
    go_wp2_with fail
    go_loopw [7] (fun v7 wr=>∃ q:Nat,q≤n∧v7 = .int .i64 (q:Int)∧((l.take q).all fun x=>lightB x.1 top) = true∧Below w.heap.size w wr) (fun v7 _=>n - (intOf v7).toNat)
    case atStart=>exact ⟨0,Nat.zero_le _,rfl,rfl,Below.refl _ _⟩
    case round =>
      obtain ⟨q,hq,rfl,hall,hb⟩:=hrel
      have hall':=Lib.hid hall
      have hb':=Lib.hid hb
      clear hall hb
      by_cases h1:q < n
      · have h1I:(q:Int) < (n:Int):=by omega
        obtain ⟨ad,o,s,hA,hoq,hlt,hraw,hel⟩:=(h'.out.below hb'.out).at_ h1
        subst hA
        obtain ⟨e0,e1,e2,e3,e4,e5,e6,e7,e8,e9,e10⟩:=hel
        have hli:=Lib.hid (light_any wr o s hraw top ht)
        have hoq':=Lib.hid hoq
        obtain ⟨b,hb2⟩:∃ b,b = lightB o top:=⟨_,rfl⟩
        rw [← hb2] at hli
        have hb2':=Lib.hid hb2
        clear hlt hraw hoq hb2
        unfold opCells at hli
        cases b with
        | true =>
          go_wp2_with (go_at_call 43;(refine hli.out.mono ?_;rintro e w1 ⟨rfl,hb3⟩;have hb3':=Lib.hid hb3;clear hb3 e0 e1 e2 e3 e4 e5 e6 e7 e8 e9 e10))
          go_roundw
          case rel =>
            refine ⟨q + 1,by omega,by go_num,?_,hb'.out.trans (hb3'.out.mono hb'.out.size)⟩
            rw [List.take_add_one,hoq'.out,List.all_append,hall'.out]
            simp [← hb2'.out]
          case measure=>simp [intOf];omega
        | false =>
          have hv:=Lib.hid (show lightL l count top = false by
            unfold lightL
            rw [hd.out,Bool.true_and]
            rw [List.all_eq_false]
            exact ⟨(o,s),List.mem_of_getElem? hoq'.out,by simp [← hb2'.out]⟩)
          go_wp2_with (go_at_call 43;(refine hli.out.mono ?_;rintro e w1 ⟨rfl,hb3⟩;have hb3':=Lib.hid hb3;clear hb3 e0 e1 e2 e3 e4 e5 e6 e7 e8 e9 e10))
          go_ret
          exact ⟨by rw [hv.out] <;> rfl,hb'.out.trans (hb3'.out.mono hb'.out.size)⟩
      · have h1I:¬ (q:Int) < (n:Int):=by omega
        have hv:=Lib.hid (show lightL l count top = true by
          unfold lightL
          rw [hd.out,Bool.true_and]
          have h5:=hall'.out
          rw [List.take_of_length_le (by rw [hlen.out];omega)] at h5
          exact h5)
        go_wp2_with fail
        go_ret
        exact ⟨by rw [hv.out] <;> rfl,hb'.out⟩
end Go.Proofs.Ytidimannfemnmaa.Top
