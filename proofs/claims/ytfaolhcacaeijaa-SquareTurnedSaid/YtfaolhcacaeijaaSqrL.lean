/- The law's same: two rows of operations that are the same. -/
import Derived.Test.YtfaolhcacaeijaaMgAW
import Derived.Test.YtfaolhcacaeijaaLtxB
set_option linter.all false
namespace Go.Proofs.Ytfaolhcacaeijaa.Sqr
open Go.RowKit Top Shf Sim
set_option maxRecDepth 20000
set_option linter.unusedVariables false

def RowR (w:World) (A:Option Addr) (n:Nat) (l:List (Ov × OS)):Prop :=
  l.length = n∧n≤maxLen∧∀ q x,l[q]? = some x→OpIn w x.1 x.2∧∃ g,A = some ⟨g,0,none⟩∧g < w.heap.size∧Elev w ⟨g,q * 11,none⟩ x.1 x.2
theorem RowR.below {w w':World} {A:Option Addr} {n:Nat} {l:List (Ov × OS)} (h:RowR w A n l) (hb:Below w.heap.size w w'):RowR w' A n l :=
  ⟨h.1,h.2.1,fun q x hx=>by
    obtain ⟨h1,g,h2,h3,h4⟩:=h.2.2 q x hx
    exact ⟨h1.below hb,g,h2,Nat.lt_of_lt_of_le h3 hb.size,h4.kept (hb.block g h3)⟩⟩
theorem row_read {base:Nat} {w:World} {v:Value} {l:List (Ov × OS)} (h:OwnO base w v l) (hx:∀ x ∈ l,OwnOp base w x.1 x.2∧OvOk x.1):∃ A n c,v = .slice A n c∧RowR w A n l:=by
  obtain ⟨A,n,c,rfl,h1,h2,h3,h4,h5⟩:=h.shape
  refine ⟨A,n,c,rfl,h1.symm,Nat.le_trans h2 h3,fun q x hq=>?_⟩
  obtain ⟨k1,k2⟩:=hx x (List.mem_of_getElem? hq)
  obtain ⟨g,e1,e2,e3,e4⟩:=h5 q x hq
  exact ⟨k1.op k2,g,e1,e3,e4⟩
set_option maxHeartbeats 32000000 in
theorem same_any (w:World) (A B:Option Addr) (n c m d:Nat) (l1 l2:List (Ov × OS)) (h1:RowR w A n l1) (h2:RowR w B m l2) (he:l1.map Prod.fst = l2.map Prod.fst) :
    Calls Try.prog 19 #[.slice A n c,.slice B m d] w fun e w'=>e = .returned (.bool true)∧Below w.heap.size w w':=by
  obtain rfl:n = m:=by rw [← h1.1,← h2.1];have:=congrArg List.length he;simpa using this
  have hR1:=Lib.hid (fun (W:World) (hB:Below w.heap.size w W)=>h1.below hB)
  have hR2:=Lib.hid (fun (W:World) (hB:Below w.heap.size w W)=>h2.below hB)
  have hl1:=Lib.hid h1.1
  have hl2:=Lib.hid h2.1
  have hnm:(n:Int)≤9223372036854775807:=by have:=h1.2.1;unfold maxLen at this;omega
  have hE:=Lib.hid he
  clear h1 h2 he
  go_enter Try.func19,Try.ntmps19
  go_wp2_with fail
  go_loopw [5] (fun v5 wr=>∃ q:Nat,q≤n∧v5 = .int .i64 (q:Int)∧Below w.heap.size w wr) (fun v5 _=>n - (intOf v5).toNat)
  case atStart=>exact ⟨0,Nat.zero_le _,rfl,Below.refl _ _⟩
  case round =>
    obtain ⟨q,hq,rfl,hbr⟩:=hrel
    have HB:=Lib.hid hbr
    clear hbr
    obtain ⟨wo,hwo⟩:∃ Q9,Q9 = wr:=⟨_,rfl⟩
    subst hwo
    by_cases hqn:q < n
    · have hqI:(q:Int) < (n:Int):=by omega
      have e0_:(0:Int)≤(q:Int):=by omega
      obtain ⟨x,hx⟩:∃ x,l1[q]? = some x:=⟨_,List.getElem?_eq_getElem (by have:=hl1.out;omega)⟩
      obtain ⟨y,hy⟩:∃ y,l2[q]? = some y:=⟨_,List.getElem?_eq_getElem (by have:=hl2.out;omega)⟩
      have hxy:x.1 = y.1:=by
        have e:=congrArg (fun m=>m[q]?) hE.out
        simp only [List.getElem?_map,hx,hy] at e
        exact Option.some.inj e
      obtain ⟨o,s⟩:=x
      obtain ⟨o',s'⟩:=y
      obtain rfl:o = o':=hxy
      obtain ⟨k1,g,rfl,k3,k4⟩:=(hR1.out _ HB.out).2.2 q (o,s) hx
      obtain ⟨j1,g',rfl,j3,j4⟩:=(hR2.out _ HB.out).2.2 q (o,s') hy
      have hadd:(⟨g,0,none⟩:Addr).add (q * 11) = ⟨g,q * 11,none⟩:=add_zero_off g (q * 11)
      have hadd':(⟨g',0,none⟩:Addr).add (q * 11) = ⟨g',q * 11,none⟩:=add_zero_off g' (q * 11)
      have K1:=Lib.hid (fun (W:World) (hB:Below wo.heap.size wo W)=>show OpIn W o s from OpIn.below k1 hB)
      have J1:=Lib.hid (fun (W:World) (hB:Below wo.heap.size wo W)=>show OpIn W o s' from OpIn.below j1 hB)
      have K4:=Lib.hid (fun (W:World) (hB:Below wo.heap.size wo W)=>Elev.kept k4 (hB.block g k3))
      have J4:=Lib.hid (fun (W:World) (hB:Below wo.heap.size wo W)=>Elev.kept j4 (hB.block g' j3))
      clear hx hy k1 j1 k3 j3 k4 j4
      obtain ⟨e0,e1,e2,e3,e4,e5,e6,e7,e8,e9,e10⟩:=K4.out _ (Below.refl _ _)
      obtain ⟨f0,f1,f2,f3,f4,f5,f6,f7,f8,f9,f10⟩:=J4.out _ (Below.refl _ _)
      dsimp only at e0 e1 e2 e3 e4 e5 e6 e7 e8 e9 e10 f0 f1 f2 f3 f4 f5 f6 f7 f8 f9 f10
      go_upto_region 6 with fail
      go_cut [6,7] from 19 to 27 (fun v6 v7 wc=>∃ p p':Nat,v6 = .pointer (some ⟨p,0,none⟩)∧v7 = .pointer (some ⟨p',0,none⟩)∧wc.heap[p]? = some (.cells (opCells o s) 26 (0,0))∧wc.heap[p']? = some (.cells (opCells o s') 26 (0,0))∧Below wo.heap.size wo wc)
      case first =>
        clear e0 e1 e2 e3 e4 e5 e6 e7 e8 e9 e10 f0 f1 f2 f3 f4 f5 f6 f7 f8 f9 f10
        rename_i K0 hK0
        refine wp_region_held_drew (S:=(fun W=>Below wo.heap.size wo W)) (by kernel_rfl) ((Below.refl wo.heap.size wo).drew) (fun hHeld=>?_)
        refine wpAnyH_take (i:=0) (oi:={ dst:=some 19,op:=Go.Op.move (Go.Operand.tmp 0),type:=30,pos:="law.go:21",after:=#[],guard:=none }) (v:=?_) rfl (by kernel_rfl) (by kernel_rfl) (by kernel_rfl) (fun _ _ _ h=>h) (Or.inl ⟨by rfl,?_⟩) hHeld ?_
        rotate_left 1
        · intro W hSw;obtain ⟨e0,e1,e2,e3,e4,e5,e6,e7,e8,e9,e10⟩:=K4.out W hSw;obtain ⟨f0,f1,f2,f3,f4,f5,f6,f7,f8,f9,f10⟩:=J4.out W hSw;dsimp only at e0 e1 e2 e3 e4 e5 e6 e7 e8 e9 e10 f0 f1 f2 f3 f4 f5 f6 f7 f8 f9 f10;go_simp;try with_reducible rfl
        try simp only [Act.put,List.setIfInBounds_toArray,List.set_cons_zero,List.set_cons_succ]
        refine wpAnyH_take (i:=1) (oi:={ dst:=some 20,op:=Go.Op.move (Go.Operand.tmp 5),type:=3,pos:="law.go:21",after:=#[],guard:=none }) (v:=?_) rfl (by kernel_rfl) (by kernel_rfl) (by kernel_rfl) (fun _ _ _ h=>h) (Or.inl ⟨by rfl,?_⟩) hHeld ?_
        rotate_left 1
        · intro W hSw;obtain ⟨e0,e1,e2,e3,e4,e5,e6,e7,e8,e9,e10⟩:=K4.out W hSw;obtain ⟨f0,f1,f2,f3,f4,f5,f6,f7,f8,f9,f10⟩:=J4.out W hSw;dsimp only at e0 e1 e2 e3 e4 e5 e6 e7 e8 e9 e10 f0 f1 f2 f3 f4 f5 f6 f7 f8 f9 f10;go_simp;try with_reducible rfl
        try simp only [Act.put,List.setIfInBounds_toArray,List.set_cons_zero,List.set_cons_succ]
        refine wpAnyH_take (i:=2) (oi:={ dst:=some 21,op:=Go.Op.indexAddr 30 (Go.Operand.tmp 19) (Go.Operand.tmp 20),type:=0,pos:="law.go:21",after:=#[{ on:=0,ground:=Go.Ground.data },{ on:=1,ground:=Go.Ground.data }],guard:=none }) (v:=?_) rfl (by kernel_rfl) (by kernel_rfl) (by kernel_rfl) (fun _ _ _ h=>h) (Or.inl ⟨by rfl,?_⟩) hHeld ?_
        rotate_left 1
        · intro W hSw;obtain ⟨e0,e1,e2,e3,e4,e5,e6,e7,e8,e9,e10⟩:=K4.out W hSw;obtain ⟨f0,f1,f2,f3,f4,f5,f6,f7,f8,f9,f10⟩:=J4.out W hSw;dsimp only at e0 e1 e2 e3 e4 e5 e6 e7 e8 e9 e10 f0 f1 f2 f3 f4 f5 f6 f7 f8 f9 f10;go_simp;try with_reducible rfl
        try simp only [Act.put,List.setIfInBounds_toArray,List.set_cons_zero,List.set_cons_succ]
        refine wpAnyH_take (i:=3) (oi:={ dst:=some 22,op:=Go.Op.load 26 (Go.Operand.tmp 21),type:=26,pos:="law.go:21",after:=#[{ on:=2,ground:=Go.Ground.data }],guard:=none }) (v:=?_) rfl (by kernel_rfl) (by kernel_rfl) (by kernel_rfl) (fun _ _ _ h=>h) (Or.inl ⟨by rfl,?_⟩) hHeld ?_
        rotate_left 1
        · intro W hSw;obtain ⟨e0,e1,e2,e3,e4,e5,e6,e7,e8,e9,e10⟩:=K4.out W hSw;obtain ⟨f0,f1,f2,f3,f4,f5,f6,f7,f8,f9,f10⟩:=J4.out W hSw;dsimp only at e0 e1 e2 e3 e4 e5 e6 e7 e8 e9 e10 f0 f1 f2 f3 f4 f5 f6 f7 f8 f9 f10;go_simp;try with_reducible rfl
        try simp only [Act.put,List.setIfInBounds_toArray,List.set_cons_zero,List.set_cons_succ]
        refine wpAnyH_take (i:=4) (oi:={ dst:=some 23,op:=Go.Op.move (Go.Operand.tmp 1),type:=30,pos:="law.go:21",after:=#[{ on:=10,ground:=Go.Ground.gcOnly Go.Departure.lateStores }],guard:=none }) (v:=?_) rfl (by kernel_rfl) (by kernel_rfl) (by kernel_rfl) (fun _ _ _ h=>h) (Or.inl ⟨by rfl,?_⟩) hHeld ?_
        rotate_left 1
        · intro W hSw;obtain ⟨e0,e1,e2,e3,e4,e5,e6,e7,e8,e9,e10⟩:=K4.out W hSw;obtain ⟨f0,f1,f2,f3,f4,f5,f6,f7,f8,f9,f10⟩:=J4.out W hSw;dsimp only at e0 e1 e2 e3 e4 e5 e6 e7 e8 e9 e10 f0 f1 f2 f3 f4 f5 f6 f7 f8 f9 f10;go_simp;try with_reducible rfl
        try simp only [Act.put,List.setIfInBounds_toArray,List.set_cons_zero,List.set_cons_succ]
        refine wpAnyH_take (i:=5) (oi:={ dst:=some 24,op:=Go.Op.move (Go.Operand.tmp 5),type:=3,pos:="law.go:21",after:=#[{ on:=10,ground:=Go.Ground.gcOnly Go.Departure.lateStores }],guard:=none }) (v:=?_) rfl (by kernel_rfl) (by kernel_rfl) (by kernel_rfl) (fun _ _ _ h=>h) (Or.inl ⟨by rfl,?_⟩) hHeld ?_
        rotate_left 1
        · intro W hSw;obtain ⟨e0,e1,e2,e3,e4,e5,e6,e7,e8,e9,e10⟩:=K4.out W hSw;obtain ⟨f0,f1,f2,f3,f4,f5,f6,f7,f8,f9,f10⟩:=J4.out W hSw;dsimp only at e0 e1 e2 e3 e4 e5 e6 e7 e8 e9 e10 f0 f1 f2 f3 f4 f5 f6 f7 f8 f9 f10;go_simp;try with_reducible rfl
        try simp only [Act.put,List.setIfInBounds_toArray,List.set_cons_zero,List.set_cons_succ]
        refine wpAnyH_take (i:=6) (oi:={ dst:=some 25,op:=Go.Op.indexAddr 30 (Go.Operand.tmp 23) (Go.Operand.tmp 24),type:=0,pos:="law.go:21",after:=#[{ on:=4,ground:=Go.Ground.data },{ on:=5,ground:=Go.Ground.data },{ on:=10,ground:=Go.Ground.gcOnly Go.Departure.lateStores }],guard:=none }) (v:=?_) rfl (by kernel_rfl) (by kernel_rfl) (by kernel_rfl) (fun _ _ _ h=>h) (Or.inl ⟨by rfl,?_⟩) hHeld ?_
        rotate_left 1
        · intro W hSw;obtain ⟨e0,e1,e2,e3,e4,e5,e6,e7,e8,e9,e10⟩:=K4.out W hSw;obtain ⟨f0,f1,f2,f3,f4,f5,f6,f7,f8,f9,f10⟩:=J4.out W hSw;dsimp only at e0 e1 e2 e3 e4 e5 e6 e7 e8 e9 e10 f0 f1 f2 f3 f4 f5 f6 f7 f8 f9 f10;go_simp;try with_reducible rfl
        try simp only [Act.put,List.setIfInBounds_toArray,List.set_cons_zero,List.set_cons_succ]
        refine wpAnyH_take (i:=7) (oi:={ dst:=some 26,op:=Go.Op.load 26 (Go.Operand.tmp 25),type:=26,pos:="law.go:21",after:=#[{ on:=6,ground:=Go.Ground.data },{ on:=10,ground:=Go.Ground.gcOnly Go.Departure.lateStores }],guard:=none }) (v:=?_) rfl (by kernel_rfl) (by kernel_rfl) (by kernel_rfl) (fun _ _ _ h=>h) (Or.inl ⟨by rfl,?_⟩) hHeld ?_
        rotate_left 1
        · intro W hSw;obtain ⟨e0,e1,e2,e3,e4,e5,e6,e7,e8,e9,e10⟩:=K4.out W hSw;obtain ⟨f0,f1,f2,f3,f4,f5,f6,f7,f8,f9,f10⟩:=J4.out W hSw;dsimp only at e0 e1 e2 e3 e4 e5 e6 e7 e8 e9 e10 f0 f1 f2 f3 f4 f5 f6 f7 f8 f9 f10;go_simp;try with_reducible rfl
        try simp only [Act.put,List.setIfInBounds_toArray,List.set_cons_zero,List.set_cons_succ]
        refine wpAnyH_ready (rs:=[8,9]) (by kernel_rfl) (by simp) ?_
        refine AllReadyH.cons (o:={ dst:=some 6,op:=Go.Op.alloc 26,type:=0,pos:="law.go:21",after:=#[],guard:=none }) rfl (fun K hK=>?_) (AllReadyH.cons (o:={ dst:=some 7,op:=Go.Op.alloc 26,type:=0,pos:="law.go:21",after:=#[],guard:=none }) rfl (fun K hK=>?_) AllReadyH.nil)
        · go_simp
          refine hK.out _ _ ?_ (fun hNew=>?_)
          · exact (Below.alloc hHeld hHeld.size _)
          clear hK K hHeld
          have hHeld:=hNew
          clear hNew
          try simp only [Act.put,List.setIfInBounds_toArray,List.set_cons_zero,List.set_cons_succ]
          refine wpAnyH_ready (rs:=[9]) (by kernel_rfl) (by simp) ?_
          refine AllReadyH.cons (o:={ dst:=some 7,op:=Go.Op.alloc 26,type:=0,pos:="law.go:21",after:=#[],guard:=none }) rfl (fun K hK=>?_) AllReadyH.nil
          go_simp
          refine hK.out _ _ ?_ (fun hNew=>?_)
          · exact (Below.alloc hHeld hHeld.size _)
          clear hK K hHeld
          have hHeld:=hNew
          clear hNew
          try simp only [Act.put,List.setIfInBounds_toArray,List.set_cons_zero,List.set_cons_succ]
          obtain ⟨Xb,hXb⟩:∃ Q9,Q9 = ((wo.alloc (.cells #[.int .u8 0,.slice none 0 0,.int .i64 0,.slice none 0 0,.int .u64 0,.bool false,.string ⟨#[]⟩,.string ⟨#[]⟩,.string ⟨#[]⟩,.bool false,.slice none 0 0] 26)).alloc (.cells #[.int .u8 0,.slice none 0 0,.int .i64 0,.slice none 0 0,.int .u64 0,.bool false,.string ⟨#[]⟩,.string ⟨#[]⟩,.string ⟨#[]⟩,.bool false,.slice none 0 0] 26)).drew:=⟨_,rfl⟩
          have z0:=two_news wo (.cells #[.int .u8 0,.slice none 0 0,.int .i64 0,.slice none 0 0,.int .u64 0,.bool false,.string ⟨#[]⟩,.string ⟨#[]⟩,.string ⟨#[]⟩,.bool false,.slice none 0 0] 26) (.cells #[.int .u8 0,.slice none 0 0,.int .i64 0,.slice none 0 0,.int .u64 0,.bool false,.string ⟨#[]⟩,.string ⟨#[]⟩,.string ⟨#[]⟩,.bool false,.slice none 0 0] 26)
          have y0:=Lib.hid (show Xb.heap[wo.heap.size]? = some (.cells #[.int .u8 0,.slice none 0 0,.int .i64 0,.slice none 0 0,.int .u64 0,.bool false,.string ⟨#[]⟩,.string ⟨#[]⟩,.string ⟨#[]⟩,.bool false,.slice none 0 0] 26 (0,0)) by rw [hXb];exact z0.1)
          have y1:=Lib.hid (show Xb.heap[wo.heap.size + 1]? = some (.cells #[.int .u8 0,.slice none 0 0,.int .i64 0,.slice none 0 0,.int .u64 0,.bool false,.string ⟨#[]⟩,.string ⟨#[]⟩,.string ⟨#[]⟩,.bool false,.slice none 0 0] 26 (0,0)) by rw [hXb];exact z0.2.1)
          have yB:=Lib.hid (show Below wo.heap.size wo Xb by rw [hXb];exact z0.2.2.1.drew)
          rw [← hXb] at hHeld ⊢
          clear hXb z0
          obtain ⟨d0,d1,d2,d3,d4,d5,d6,d7,d8,d9,d10,df⟩:=eleven_cells y0.out
          refine wpAnyH_ready (rs:=[10]) (by kernel_rfl) (by simp) ?_
          refine AllReadyH.cons (o:={ dst:=none,op:=Go.Op.store 26 (Go.Operand.tmp 6) (Go.Operand.tmp 22),type:=0,pos:="law.go:21",after:=#[{ on:=8,ground:=Go.Ground.data },{ on:=3,ground:=Go.Ground.data },{ on:=0,ground:=Go.Ground.phase },{ on:=1,ground:=Go.Ground.phase },{ on:=2,ground:=Go.Ground.phase },{ on:=3,ground:=Go.Ground.phase },{ on:=4,ground:=Go.Ground.textOnly Go.Departure.lateStores },{ on:=5,ground:=Go.Ground.textOnly Go.Departure.lateStores },{ on:=6,ground:=Go.Ground.textOnly Go.Departure.lateStores },{ on:=7,ground:=Go.Ground.textOnly Go.Departure.lateStores },{ on:=8,ground:=Go.Ground.phase },{ on:=9,ground:=Go.Ground.phase }],guard:=none }) rfl (fun K hK=>?_) AllReadyH.nil
          go_simp
          obtain ⟨W9,hW9,R9,B9,Z9,K9⟩:=end_op (w:=wo) (o:=o) (s:=s) (r:=wo.heap.size) (by omega) yB.out (show Xb.heap[wo.heap.size]? = some (.cells #[.int .u8 0,.slice none 0 0,.int .i64 0,.slice none 0 0,.int .u64 0,.bool false,.string ⟨#[]⟩,.string ⟨#[]⟩,.string ⟨#[]⟩,.bool false,.slice none 0 0] _ (0,0)) from y0.out)
          have hW9':W9 = (((((((((((Xb.setCell ⟨wo.heap.size,0,none⟩ (.int .u8 (o.kind:Int))).setCell ⟨wo.heap.size,1,none⟩ (.slice s.pA s.pn s.pc)).setCell ⟨wo.heap.size,2,none⟩ (.int .i64 o.at_)).setCell ⟨wo.heap.size,3,none⟩ (.slice s.tA s.tn s.tc)).setCell ⟨wo.heap.size,4,none⟩ (.int .u64 (o.id:Int))).setCell ⟨wo.heap.size,5,none⟩ (.bool o.leaf)).setCell ⟨wo.heap.size,6,none⟩ (.string ⟨o.label.toArray⟩)).setCell ⟨wo.heap.size,7,none⟩ (.string ⟨o.key.toArray⟩)).setCell ⟨wo.heap.size,8,none⟩ (.string ⟨o.value.toArray⟩)).setCell ⟨wo.heap.size,9,none⟩ (.bool o.gone)).setCell ⟨wo.heap.size,10,none⟩ (.slice s.qA s.qn s.qc)):=hW9
          rw [← hW9']
          clear hW9' hW9 d0 d1 d2 d3 d4 d5 d6 d7 d8 d9 d10 df
          refine hK.out _ _ ?_ (fun hNew=>?_)
          · exact B9
          clear hK K hHeld
          have hHeld:=hNew
          clear hNew
          try simp only [Act.put,List.setIfInBounds_toArray,List.set_cons_zero,List.set_cons_succ]
          have y2:=Lib.hid ((K9 (wo.heap.size + 1) (by omega)).trans y1.out)
          obtain ⟨d0,d1,d2,d3,d4,d5,d6,d7,d8,d9,d10,df⟩:=eleven_cells y2.out
          refine wpAnyH_ready (rs:=[11]) (by kernel_rfl) (by simp) ?_
          refine AllReadyH.cons (o:={ dst:=none,op:=Go.Op.store 26 (Go.Operand.tmp 7) (Go.Operand.tmp 26),type:=0,pos:="law.go:21",after:=#[{ on:=9,ground:=Go.Ground.data },{ on:=7,ground:=Go.Ground.data },{ on:=10,ground:=Go.Ground.chain },{ on:=0,ground:=Go.Ground.phase },{ on:=1,ground:=Go.Ground.phase },{ on:=2,ground:=Go.Ground.phase },{ on:=3,ground:=Go.Ground.phase },{ on:=4,ground:=Go.Ground.phase },{ on:=5,ground:=Go.Ground.phase },{ on:=6,ground:=Go.Ground.phase },{ on:=7,ground:=Go.Ground.phase },{ on:=8,ground:=Go.Ground.phase },{ on:=9,ground:=Go.Ground.phase },{ on:=10,ground:=Go.Ground.phase }],guard:=none }) rfl (fun K hK=>?_) AllReadyH.nil
          go_simp
          obtain ⟨W8,hW8,R8,B8,Z8,K8⟩:=end_op (w:=wo) (o:=o) (s:=s') (r:=wo.heap.size + 1) (by omega) B9 (show W9.heap[wo.heap.size + 1]? = some (.cells #[.int .u8 0,.slice none 0 0,.int .i64 0,.slice none 0 0,.int .u64 0,.bool false,.string ⟨#[]⟩,.string ⟨#[]⟩,.string ⟨#[]⟩,.bool false,.slice none 0 0] _ (0,0)) from y2.out)
          have hW8':W8 = (((((((((((W9.setCell ⟨wo.heap.size + 1,0,none⟩ (.int .u8 (o.kind:Int))).setCell ⟨wo.heap.size + 1,1,none⟩ (.slice s'.pA s'.pn s'.pc)).setCell ⟨wo.heap.size + 1,2,none⟩ (.int .i64 o.at_)).setCell ⟨wo.heap.size + 1,3,none⟩ (.slice s'.tA s'.tn s'.tc)).setCell ⟨wo.heap.size + 1,4,none⟩ (.int .u64 (o.id:Int))).setCell ⟨wo.heap.size + 1,5,none⟩ (.bool o.leaf)).setCell ⟨wo.heap.size + 1,6,none⟩ (.string ⟨o.label.toArray⟩)).setCell ⟨wo.heap.size + 1,7,none⟩ (.string ⟨o.key.toArray⟩)).setCell ⟨wo.heap.size + 1,8,none⟩ (.string ⟨o.value.toArray⟩)).setCell ⟨wo.heap.size + 1,9,none⟩ (.bool o.gone)).setCell ⟨wo.heap.size + 1,10,none⟩ (.slice s'.qA s'.qn s'.qc)):=hW8
          rw [← hW8']
          clear hW8' hW8 d0 d1 d2 d3 d4 d5 d6 d7 d8 d9 d10 df
          refine hK.out _ _ ?_ (fun hNew=>?_)
          · exact B8
          clear hK K hHeld
          have hHeld:=hNew
          clear hNew
          try simp only [Act.put,List.setIfInBounds_toArray,List.set_cons_zero,List.set_cons_succ]
          refine wpAnyH_done (by kernel_rfl) ?_ _
          refine hK0 _ _ ?_
          clear hK0
          go_meet
          exact ⟨wo.heap.size,wo.heap.size + 1,rfl,rfl,(K8 _ (by omega)).trans R9,R8,B8⟩
        · go_simp
          refine hK.out _ _ ?_ (fun hNew=>?_)
          · exact (Below.alloc hHeld hHeld.size _)
          clear hK K hHeld
          have hHeld:=hNew
          clear hNew
          try simp only [Act.put,List.setIfInBounds_toArray,List.set_cons_zero,List.set_cons_succ]
          refine wpAnyH_ready (rs:=[8]) (by kernel_rfl) (by simp) ?_
          refine AllReadyH.cons (o:={ dst:=some 6,op:=Go.Op.alloc 26,type:=0,pos:="law.go:21",after:=#[],guard:=none }) rfl (fun K hK=>?_) AllReadyH.nil
          go_simp
          refine hK.out _ _ ?_ (fun hNew=>?_)
          · exact (Below.alloc hHeld hHeld.size _)
          clear hK K hHeld
          have hHeld:=hNew
          clear hNew
          try simp only [Act.put,List.setIfInBounds_toArray,List.set_cons_zero,List.set_cons_succ]
          obtain ⟨Xb,hXb⟩:∃ Q9,Q9 = ((wo.alloc (.cells #[.int .u8 0,.slice none 0 0,.int .i64 0,.slice none 0 0,.int .u64 0,.bool false,.string ⟨#[]⟩,.string ⟨#[]⟩,.string ⟨#[]⟩,.bool false,.slice none 0 0] 26)).alloc (.cells #[.int .u8 0,.slice none 0 0,.int .i64 0,.slice none 0 0,.int .u64 0,.bool false,.string ⟨#[]⟩,.string ⟨#[]⟩,.string ⟨#[]⟩,.bool false,.slice none 0 0] 26)).drew:=⟨_,rfl⟩
          have z0:=two_news wo (.cells #[.int .u8 0,.slice none 0 0,.int .i64 0,.slice none 0 0,.int .u64 0,.bool false,.string ⟨#[]⟩,.string ⟨#[]⟩,.string ⟨#[]⟩,.bool false,.slice none 0 0] 26) (.cells #[.int .u8 0,.slice none 0 0,.int .i64 0,.slice none 0 0,.int .u64 0,.bool false,.string ⟨#[]⟩,.string ⟨#[]⟩,.string ⟨#[]⟩,.bool false,.slice none 0 0] 26)
          have y0:=Lib.hid (show Xb.heap[wo.heap.size]? = some (.cells #[.int .u8 0,.slice none 0 0,.int .i64 0,.slice none 0 0,.int .u64 0,.bool false,.string ⟨#[]⟩,.string ⟨#[]⟩,.string ⟨#[]⟩,.bool false,.slice none 0 0] 26 (0,0)) by rw [hXb];exact z0.1)
          have y1:=Lib.hid (show Xb.heap[wo.heap.size + 1]? = some (.cells #[.int .u8 0,.slice none 0 0,.int .i64 0,.slice none 0 0,.int .u64 0,.bool false,.string ⟨#[]⟩,.string ⟨#[]⟩,.string ⟨#[]⟩,.bool false,.slice none 0 0] 26 (0,0)) by rw [hXb];exact z0.2.1)
          have yB:=Lib.hid (show Below wo.heap.size wo Xb by rw [hXb];exact z0.2.2.1.drew)
          rw [← hXb] at hHeld ⊢
          clear hXb z0
          obtain ⟨d0,d1,d2,d3,d4,d5,d6,d7,d8,d9,d10,df⟩:=eleven_cells y1.out
          refine wpAnyH_ready (rs:=[10]) (by kernel_rfl) (by simp) ?_
          refine AllReadyH.cons (o:={ dst:=none,op:=Go.Op.store 26 (Go.Operand.tmp 6) (Go.Operand.tmp 22),type:=0,pos:="law.go:21",after:=#[{ on:=8,ground:=Go.Ground.data },{ on:=3,ground:=Go.Ground.data },{ on:=0,ground:=Go.Ground.phase },{ on:=1,ground:=Go.Ground.phase },{ on:=2,ground:=Go.Ground.phase },{ on:=3,ground:=Go.Ground.phase },{ on:=4,ground:=Go.Ground.textOnly Go.Departure.lateStores },{ on:=5,ground:=Go.Ground.textOnly Go.Departure.lateStores },{ on:=6,ground:=Go.Ground.textOnly Go.Departure.lateStores },{ on:=7,ground:=Go.Ground.textOnly Go.Departure.lateStores },{ on:=8,ground:=Go.Ground.phase },{ on:=9,ground:=Go.Ground.phase }],guard:=none }) rfl (fun K hK=>?_) AllReadyH.nil
          go_simp
          obtain ⟨W9,hW9,R9,B9,Z9,K9⟩:=end_op (w:=wo) (o:=o) (s:=s) (r:=wo.heap.size + 1) (by omega) yB.out (show Xb.heap[wo.heap.size + 1]? = some (.cells #[.int .u8 0,.slice none 0 0,.int .i64 0,.slice none 0 0,.int .u64 0,.bool false,.string ⟨#[]⟩,.string ⟨#[]⟩,.string ⟨#[]⟩,.bool false,.slice none 0 0] _ (0,0)) from y1.out)
          have hW9':W9 = (((((((((((Xb.setCell ⟨wo.heap.size + 1,0,none⟩ (.int .u8 (o.kind:Int))).setCell ⟨wo.heap.size + 1,1,none⟩ (.slice s.pA s.pn s.pc)).setCell ⟨wo.heap.size + 1,2,none⟩ (.int .i64 o.at_)).setCell ⟨wo.heap.size + 1,3,none⟩ (.slice s.tA s.tn s.tc)).setCell ⟨wo.heap.size + 1,4,none⟩ (.int .u64 (o.id:Int))).setCell ⟨wo.heap.size + 1,5,none⟩ (.bool o.leaf)).setCell ⟨wo.heap.size + 1,6,none⟩ (.string ⟨o.label.toArray⟩)).setCell ⟨wo.heap.size + 1,7,none⟩ (.string ⟨o.key.toArray⟩)).setCell ⟨wo.heap.size + 1,8,none⟩ (.string ⟨o.value.toArray⟩)).setCell ⟨wo.heap.size + 1,9,none⟩ (.bool o.gone)).setCell ⟨wo.heap.size + 1,10,none⟩ (.slice s.qA s.qn s.qc)):=hW9
          rw [← hW9']
          clear hW9' hW9 d0 d1 d2 d3 d4 d5 d6 d7 d8 d9 d10 df
          refine hK.out _ _ ?_ (fun hNew=>?_)
          · exact B9
          clear hK K hHeld
          have hHeld:=hNew
          clear hNew
          try simp only [Act.put,List.setIfInBounds_toArray,List.set_cons_zero,List.set_cons_succ]
          have y2:=Lib.hid ((K9 (wo.heap.size) (by omega)).trans y0.out)
          obtain ⟨d0,d1,d2,d3,d4,d5,d6,d7,d8,d9,d10,df⟩:=eleven_cells y2.out
          refine wpAnyH_ready (rs:=[11]) (by kernel_rfl) (by simp) ?_
          refine AllReadyH.cons (o:={ dst:=none,op:=Go.Op.store 26 (Go.Operand.tmp 7) (Go.Operand.tmp 26),type:=0,pos:="law.go:21",after:=#[{ on:=9,ground:=Go.Ground.data },{ on:=7,ground:=Go.Ground.data },{ on:=10,ground:=Go.Ground.chain },{ on:=0,ground:=Go.Ground.phase },{ on:=1,ground:=Go.Ground.phase },{ on:=2,ground:=Go.Ground.phase },{ on:=3,ground:=Go.Ground.phase },{ on:=4,ground:=Go.Ground.phase },{ on:=5,ground:=Go.Ground.phase },{ on:=6,ground:=Go.Ground.phase },{ on:=7,ground:=Go.Ground.phase },{ on:=8,ground:=Go.Ground.phase },{ on:=9,ground:=Go.Ground.phase },{ on:=10,ground:=Go.Ground.phase }],guard:=none }) rfl (fun K hK=>?_) AllReadyH.nil
          go_simp
          obtain ⟨W8,hW8,R8,B8,Z8,K8⟩:=end_op (w:=wo) (o:=o) (s:=s') (r:=wo.heap.size) (by omega) B9 (show W9.heap[wo.heap.size]? = some (.cells #[.int .u8 0,.slice none 0 0,.int .i64 0,.slice none 0 0,.int .u64 0,.bool false,.string ⟨#[]⟩,.string ⟨#[]⟩,.string ⟨#[]⟩,.bool false,.slice none 0 0] _ (0,0)) from y2.out)
          have hW8':W8 = (((((((((((W9.setCell ⟨wo.heap.size,0,none⟩ (.int .u8 (o.kind:Int))).setCell ⟨wo.heap.size,1,none⟩ (.slice s'.pA s'.pn s'.pc)).setCell ⟨wo.heap.size,2,none⟩ (.int .i64 o.at_)).setCell ⟨wo.heap.size,3,none⟩ (.slice s'.tA s'.tn s'.tc)).setCell ⟨wo.heap.size,4,none⟩ (.int .u64 (o.id:Int))).setCell ⟨wo.heap.size,5,none⟩ (.bool o.leaf)).setCell ⟨wo.heap.size,6,none⟩ (.string ⟨o.label.toArray⟩)).setCell ⟨wo.heap.size,7,none⟩ (.string ⟨o.key.toArray⟩)).setCell ⟨wo.heap.size,8,none⟩ (.string ⟨o.value.toArray⟩)).setCell ⟨wo.heap.size,9,none⟩ (.bool o.gone)).setCell ⟨wo.heap.size,10,none⟩ (.slice s'.qA s'.qn s'.qc)):=hW8
          rw [← hW8']
          clear hW8' hW8 d0 d1 d2 d3 d4 d5 d6 d7 d8 d9 d10 df
          refine hK.out _ _ ?_ (fun hNew=>?_)
          · exact B8
          clear hK K hHeld
          have hHeld:=hNew
          clear hNew
          try simp only [Act.put,List.setIfInBounds_toArray,List.set_cons_zero,List.set_cons_succ]
          refine wpAnyH_done (by kernel_rfl) ?_ _
          refine hK0 _ _ ?_
          clear hK0
          go_meet
          exact ⟨wo.heap.size + 1,wo.heap.size,rfl,rfl,(K8 _ (by omega)).trans R9,R8,B8⟩
      case rest =>
        obtain ⟨p,p',rfl,rfl,r1,r2,hbc⟩:=hcut
        have BC:=Lib.hid hbc
        obtain ⟨o0,o1,o2,o3,o4,o5,o6,o7,o8,o9,o10⟩:=op_cells r1
        obtain ⟨a0,a1,a2,a3,a4,a5,a6,a7,a8,a9,a10⟩:=op_cells r2
        clear r1 r2 hbc hadd hadd'
        have s1:=Lib.hid (fun (W:World) (hB:Below wo.heap.size wo W)=>by have h5:=rsame_its W s.pA s'.pA s.pn s.pc s'.pn s'.pc o.path o.path (K1.out W hB).path (J1.out W hB).path (Nat.le_trans (K1.out W hB).pnc (K1.out W hB).pcm) (Nat.le_trans (J1.out W hB).pnc (J1.out W hB).pcm);rw [show P4.eqV o.path o.path = true by unfold P4.eqV;simp] at h5;exact h5)
        have s2:=Lib.hid (fun (W:World) (hB:Below wo.heap.size wo W)=>by have h5:=rsame_its W s.tA s'.tA s.tn s.tc s'.tn s'.tc o.to_ o.to_ (K1.out W hB).to_ (J1.out W hB).to_ (Nat.le_trans (K1.out W hB).tnc (K1.out W hB).tcm) (Nat.le_trans (J1.out W hB).tnc (J1.out W hB).tcm);rw [show P4.eqV o.to_ o.to_ = true by unfold P4.eqV;simp] at h5;exact h5)
        have s3:=Lib.hid (fun (W:World) (hB:Below wo.heap.size wo W)=>by have h5:=P5.same_any W s.qA s'.qA s.qn s.qc s'.qn s'.qc o.pieces o.pieces (K1.out W hB).pieces (J1.out W hB).pieces (Nat.le_trans (K1.out W hB).qnc (K1.out W hB).qcm) (Nat.le_trans (J1.out W hB).qnc (J1.out W hB).qcm);rw [P5.sameP_iff.2 rfl] at h5;exact h5)
        go_wp2_with (first
          | (go_at_call 39;go_loud (refine (s3.out _ (draws BC.out _)).mono ?_;rintro e w6 ⟨rfl,hb6⟩;have B6:=Lib.hid (Below.trans (draws BC.out (k4 + k5)) (hb6.mono (Below.size (draws BC.out (k4 + k5)))));clear hb6))
          | (go_at_call_of 79 s.tA;go_loud (refine (s2.out _ (draws BC.out _)).mono ?_;rintro e w5 ⟨rfl,k5,rfl⟩))
          | (go_at_call_of 79 s.pA;go_loud (refine (s1.out _ BC.out).mono ?_;rintro e w4 ⟨rfl,k4,rfl⟩)))
        go_roundw
        case rel=>exact ⟨q + 1,by omega,by go_num,HB.out.trans (B6.out.mono HB.out.size)⟩
        case measure=>simp [intOf];omega
    · have hqI:¬ (q:Int) < (n:Int):=by omega
      go_wp2_with fail
      go_ret
      exact ⟨rfl,HB.out⟩
end Go.Proofs.Ytfaolhcacaeijaa.Sqr

