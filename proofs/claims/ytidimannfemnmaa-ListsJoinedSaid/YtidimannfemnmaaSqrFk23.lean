/- The program's becomes: a Delete behind a Move. -/
import Derived.Test.YtidimannfemnmaaSqrE
set_option linter.all false
namespace Go.Proofs.Ytidimannfemnmaa.Sqr
open Go.RowKit Top Shf Sim
set_option maxRecDepth 20000
set_option maxHeartbeats 32000000 in
theorem becomes_k23 (w:World) (b a:Ov) (sb sa:OS) (prior:Bool) (hb:OpIn w b sb) (ha:OpIn w a sa) (hlb:Tiny b) (hla:Tiny a) (hkb:b.kind = 2) (hka:a.kind = 3) :
    Calls Try.prog 168 #[.agg (opCells b sb),.agg (opCells a sa),.bool prior] w fun e w'=>∃ v,e = .returned (.tuple #[v,.int .i64 0])∧RowA w (becomesV b a prior) v w':=by
  obtain ⟨z1,z2,z4,z5⟩:=two_news w (.cells (opCells b sb) 52) (.cells (opCells a sa) 52)
  obtain ⟨W2,hW2⟩:∃ Q9,Q9 = ((w.alloc (.cells (opCells b sb) 52)).alloc (.cells (opCells a sa) 52)):=⟨_,rfl⟩
  rw [← hW2] at z1 z2 z4 z5
  have z1':=Lib.hid z1
  have z2':=Lib.hid z2
  have z4':=Lib.hid z4
  have z5':=Lib.hid z5
  have hrow:=Lib.hid (fun (W:World) (hB:Below W2.heap.size W2 W)=>And.intro ((hB.block w.heap.size (by omega)).trans z1) ((hB.block (w.heap.size + 1) (by omega)).trans z2))
  obtain ⟨sm,hsm⟩:∃ Q9,Q9 = P4.eqV b.path a.path:=⟨_,rfl⟩
  have hSM:=Lib.hid hsm
  have hs:=Lib.hid (fun (W:World) (hB:Below W2.heap.size W2 W)=>(P4.same_any W sb.pA sa.pA sb.pn sb.pc sa.pn sa.pc b.path a.path (its4 (hb.below (z4.trans (hB.mono z4.size))).path) (its4 (ha.below (z4.trans (hB.mono z4.size))).path) (Nat.le_trans hb.pnc hb.pcm)).mono (R':=fun e w'=>e = .returned (.bool sm)∧∃ k,w' = W.drewN k) fun e w' h=>⟨by rw [hsm];exact h.1,h.2⟩)
  have hw3:=Lib.hid (fun (W:World) (hB:Below w.heap.size w W)=>P4.within_any W sb.pA sa.pA sb.pn sb.pc sa.pn sa.pc b.path a.path (its4 (hb.below hB).path) (its4 (ha.below hB).path) (Nat.le_trans hb.pnc hb.pcm) (Nat.le_trans ha.pnc ha.pcm))
  have hw4:=Lib.hid (fun (W:World) (hB:Below w.heap.size w W)=>P4.within_any W sb.pA sa.tA sb.pn sb.pc sa.tn sa.tc b.path a.to_ (its4 (hb.below hB).path) (its4 (ha.below hB).to_) (Nat.le_trans hb.pnc hb.pcm) (Nat.le_trans ha.tnc ha.tcm))
  have hshift:=Lib.hid (fun (W:World) (hB:Below w.heap.size w W)=>shifted_any W b a sb sa prior (hb.below hB) (ha.below hB) hlb.slen hla.slen)
  have hrow3:=Lib.hid (fun (W:World) (hB:Below w.heap.size w W)=>bothGone_any W b a sb sa (hb.below hB) (ha.below hB) hlb hla)
  have hbo:=Lib.hid (fun (W:World) (hB:Below w.heap.size w W)=>And.intro (hb.below hB) (ha.below hB))
  have hkr:=Lib.hid (show b.kind < 256∧a.kind < 256 from ⟨hb.kind,ha.kind⟩)
  clear hb ha z1 z2 z4 z5 hlb hla
  have hsm2:=Lib.hid hsm.symm
  clear hsm
  have HV:=Lib.hid (And.intro hkb hka)
  have ea2:((a.kind:Int) == 2) = false:=by simp;omega
  have e32:∀ W,(binOp .eql 192 (.agg #[.int .u8 (b.kind:Int),.int .u8 (a.kind:Int)]) (.agg #[.int .u8 3,.int .u8 2])).run Try.prog W = .ok (.bool false) W:=fun W=>by have h5:=eqK W b.kind a.kind 3 2 hkr.out.1 hkr.out.2 (by decide) (by decide);rw [decide_eq_false (by omega)] at h5;exact h5
  have e23:∀ W,(binOp .eql 192 (.agg #[.int .u8 (b.kind:Int),.int .u8 (a.kind:Int)]) (.agg #[.int .u8 2,.int .u8 3])).run Try.prog W = .ok (.bool true) W:=fun W=>by have h5:=eqK W b.kind a.kind 2 3 hkr.out.1 hkr.out.2 (by decide) (by decide);rw [decide_eq_true (by omega)] at h5;exact h5
  have e33:∀ W,(binOp .eql 192 (.agg #[.int .u8 (b.kind:Int),.int .u8 (a.kind:Int)]) (.agg #[.int .u8 3,.int .u8 3])).run Try.prog W = .ok (.bool false) W:=fun W=>by have h5:=eqK W b.kind a.kind 3 3 hkr.out.1 hkr.out.2 (by decide) (by decide);rw [decide_eq_false (by omega)] at h5;exact h5
  have e44:∀ W,(binOp .eql 192 (.agg #[.int .u8 (b.kind:Int),.int .u8 (a.kind:Int)]) (.agg #[.int .u8 4,.int .u8 4])).run Try.prog W = .ok (.bool false) W:=fun W=>by have h5:=eqK W b.kind a.kind 4 4 hkr.out.1 hkr.out.2 (by decide) (by decide);rw [decide_eq_false (by omega)] at h5;exact h5
  have e55:∀ W,(binOp .eql 192 (.agg #[.int .u8 (b.kind:Int),.int .u8 (a.kind:Int)]) (.agg #[.int .u8 5,.int .u8 5])).run Try.prog W = .ok (.bool false) W:=fun W=>by have h5:=eqK W b.kind a.kind 5 5 hkr.out.1 hkr.out.2 (by decide) (by decide);rw [decide_eq_false (by omega)] at h5;exact h5
  have e66:∀ W,(binOp .eql 192 (.agg #[.int .u8 (b.kind:Int),.int .u8 (a.kind:Int)]) (.agg #[.int .u8 6,.int .u8 6])).run Try.prog W = .ok (.bool false) W:=fun W=>by have h5:=eqK W b.kind a.kind 6 6 hkr.out.1 hkr.out.2 (by decide) (by decide);rw [decide_eq_false (by omega)] at h5;exact h5
  clear hka hkb
  unfold opCells at hW2 hshift hrow3
  unfold opCells
  go_enter Try.func168,Try.ntmps168
  go_wp2_with fail
  refine Top.wp_scope_once 0 rfl ?_
  go_upto_region 1 with fail
  rw [← hW2]
  clear hW2
  go_cut [8,9] from 10 (fun v8 v9 wc=>∃ g:Nat,v8 = .pointer (some ⟨g,0,none⟩)∧v9 = .bool sm∧wc.heap[g]? = some (.cells #[.int .u8 (b.kind:Int),.int .u8 (a.kind:Int)] 192 (0,0))∧W2.heap.size≤g∧Below W2.heap.size W2 wc)
  case first =>
    rename_i K0 hK0
    refine wp_region_held_drew (S:=(fun W=>Below W2.heap.size W2 W)) (by kernel_rfl) ((Below.refl W2.heap.size W2).drew) (fun hHeld=>?_)
    refine wpAnyH_take (i:=0) (v:=?_) rfl (by kernel_rfl) (by kernel_rfl) (by kernel_rfl) (fun _ _ _ h=>h) (Or.inl ⟨by rfl,?_⟩) hHeld ?_
    rotate_left 1
    · intro W hSw;obtain ⟨r1,r2⟩:=hrow.out W hSw;obtain ⟨o0,o1,o2,o3,o4,o5,o6,o7,o8,o9,o10⟩:=op_cells r1;obtain ⟨a0,a1,a2,a3,a4,a5,a6,a7,a8,a9,a10⟩:=op_cells r2;go_simp;try with_reducible rfl
    try simp only [Act.put,zA,zB,zC]
    refine wpAnyH_take (i:=1) (v:=?_) rfl (by kernel_rfl) (by kernel_rfl) (by kernel_rfl) (fun _ _ _ h=>h) (Or.inl ⟨by rfl,?_⟩) hHeld ?_
    rotate_left 1
    · intro W hSw;obtain ⟨r1,r2⟩:=hrow.out W hSw;obtain ⟨o0,o1,o2,o3,o4,o5,o6,o7,o8,o9,o10⟩:=op_cells r1;obtain ⟨a0,a1,a2,a3,a4,a5,a6,a7,a8,a9,a10⟩:=op_cells r2;go_simp;try with_reducible rfl
    try simp only [Act.put,zA,zB,zC]
    refine wpAnyH_take (i:=2) (v:=?_) rfl (by kernel_rfl) (by kernel_rfl) (by kernel_rfl) (fun _ _ _ h=>h) (Or.inl ⟨by rfl,?_⟩) hHeld ?_
    rotate_left 1
    · intro W hSw;obtain ⟨r1,r2⟩:=hrow.out W hSw;obtain ⟨o0,o1,o2,o3,o4,o5,o6,o7,o8,o9,o10⟩:=op_cells r1;obtain ⟨a0,a1,a2,a3,a4,a5,a6,a7,a8,a9,a10⟩:=op_cells r2;go_simp;try with_reducible rfl
    try simp only [Act.put,zA,zB,zC]
    refine wpAnyH_take (i:=3) (v:=?_) rfl (by kernel_rfl) (by kernel_rfl) (by kernel_rfl) (fun _ _ _ h=>h) (Or.inl ⟨by rfl,?_⟩) hHeld ?_
    rotate_left 1
    · intro W hSw;obtain ⟨r1,r2⟩:=hrow.out W hSw;obtain ⟨o0,o1,o2,o3,o4,o5,o6,o7,o8,o9,o10⟩:=op_cells r1;obtain ⟨a0,a1,a2,a3,a4,a5,a6,a7,a8,a9,a10⟩:=op_cells r2;go_simp;try with_reducible rfl
    try simp only [Act.put,zA,zB,zC]
    refine wpAnyH_take (i:=4) (v:=?_) rfl (by kernel_rfl) (by kernel_rfl) (by kernel_rfl) (fun _ _ _ h=>h) (Or.inl ⟨by rfl,?_⟩) hHeld ?_
    rotate_left 1
    · intro W hSw;obtain ⟨r1,r2⟩:=hrow.out W hSw;obtain ⟨o0,o1,o2,o3,o4,o5,o6,o7,o8,o9,o10⟩:=op_cells r1;obtain ⟨a0,a1,a2,a3,a4,a5,a6,a7,a8,a9,a10⟩:=op_cells r2;go_simp;try with_reducible rfl
    try simp only [Act.put,zA,zB,zC]
    refine wpAnyH_take (i:=5) (v:=?_) rfl (by kernel_rfl) (by kernel_rfl) (by kernel_rfl) (fun _ _ _ h=>h) (Or.inl ⟨by rfl,?_⟩) hHeld ?_
    rotate_left 1
    · intro W hSw;obtain ⟨r1,r2⟩:=hrow.out W hSw;obtain ⟨o0,o1,o2,o3,o4,o5,o6,o7,o8,o9,o10⟩:=op_cells r1;obtain ⟨a0,a1,a2,a3,a4,a5,a6,a7,a8,a9,a10⟩:=op_cells r2;go_simp;try with_reducible rfl
    try simp only [Act.put,zA,zB,zC]
    refine wpAnyH_take (i:=6) (v:=?_) rfl (by kernel_rfl) (by kernel_rfl) (by kernel_rfl) (fun _ _ _ h=>h) (Or.inl ⟨by rfl,?_⟩) hHeld ?_
    rotate_left 1
    · intro W hSw;obtain ⟨r1,r2⟩:=hrow.out W hSw;obtain ⟨o0,o1,o2,o3,o4,o5,o6,o7,o8,o9,o10⟩:=op_cells r1;obtain ⟨a0,a1,a2,a3,a4,a5,a6,a7,a8,a9,a10⟩:=op_cells r2;go_simp;try with_reducible rfl
    try simp only [Act.put,zA,zB,zC]
    refine wpAnyH_take (i:=7) (v:=?_) rfl (by kernel_rfl) (by kernel_rfl) (by kernel_rfl) (fun _ _ _ h=>h) (Or.inl ⟨by rfl,?_⟩) hHeld ?_
    rotate_left 1
    · intro W hSw;obtain ⟨r1,r2⟩:=hrow.out W hSw;obtain ⟨o0,o1,o2,o3,o4,o5,o6,o7,o8,o9,o10⟩:=op_cells r1;obtain ⟨a0,a1,a2,a3,a4,a5,a6,a7,a8,a9,a10⟩:=op_cells r2;go_simp;try with_reducible rfl
    try simp only [Act.put,zA,zB,zC]
    refine wpAnyH_take (i:=8) (v:=?_) rfl (by kernel_rfl) (by kernel_rfl) (by kernel_rfl) (fun _ _ _ h=>h) (Or.inl ⟨by rfl,?_⟩) hHeld ?_
    rotate_left 1
    · intro W hSw;obtain ⟨r1,r2⟩:=hrow.out W hSw;obtain ⟨o0,o1,o2,o3,o4,o5,o6,o7,o8,o9,o10⟩:=op_cells r1;obtain ⟨a0,a1,a2,a3,a4,a5,a6,a7,a8,a9,a10⟩:=op_cells r2;go_simp;try with_reducible rfl
    try simp only [Act.put,zA,zB,zC]
    refine wpAnyH_ready (rs:=[9,10]) (by kernel_rfl) (by simp) ?_
    refine AllReadyH.cons rfl (fun K hK=>?_) (AllReadyH.cons rfl (fun K hK=>?_) AllReadyH.nil)
    · go_simp
      refine (hs.out _ hHeld).mono ?_
      rintro e w1 ⟨rfl,k1,hk1⟩
      have E1:=Lib.hid (show Below W2.heap.size W2 w1 by rw [hk1];exact draws hHeld k1)
      have hK1:=Lib.hid hk1
      clear hk1
      go_simp
      refine hK.out _ _ ?_ (fun hNew=>?_)
      · exact E1.out
      clear hK K hHeld
      have hHeld:=hNew
      clear hNew
      try simp only [Act.put,zA,zB,zC]
      refine wpAnyH_ready (rs:=[10]) (by kernel_rfl) (by simp) ?_
      refine AllReadyH.cons rfl (fun K hK=>?_) AllReadyH.nil
      go_simp
      refine hK.out _ _ ?_ (fun hNew=>?_)
      · exact hHeld.alloc hHeld.size _
      clear hK K
      try simp only [Act.put,zA,zB,zC]
      obtain ⟨Xa,hXa⟩:∃ Q9,Q9 = ((w1).alloc (.cells #[.int .u8 0,.int .u8 0] 192)):=⟨_,rfl⟩
      have xr:=Lib.hid (show Xa.heap[(w1).heap.size]? = some (.cells #[.int .u8 0,.int .u8 0] 192 (0,0)) by rw [hXa];exact heap_alloc_new _ _)
      have xs:=Lib.hid (show W2.heap.size≤(w1).heap.size from hHeld.size)
      rw [← hXa] at hNew ⊢
      clear hXa hHeld
      have hHeld:=hNew
      clear hNew
      obtain ⟨q0,q1,qf⟩:=two_at (xr.out)
      refine wpAnyH_ready (rs:=[11]) (by kernel_rfl) (by simp) ?_
      refine AllReadyH.cons rfl (fun K hK=>?_) AllReadyH.nil
      go_simp
      refine hK.out _ _ ?_ (fun hNew=>?_)
      · exact (hHeld.setCell (p:=⟨w1.heap.size,0,none⟩) (by have:=xs.out;first | exact this | omega) _).setCell (p:=⟨w1.heap.size,1,none⟩) (by have:=xs.out;first | exact this | omega) _
      clear hK K hHeld
      have hHeld:=hNew
      clear hNew
      try simp only [Act.put,zA,zB,zC]
      refine wpAnyH_ready (rs:=[12]) (by kernel_rfl) (by simp) ?_
      refine AllReadyH.cons rfl (fun K hK=>?_) AllReadyH.nil
      go_simp
      refine hK.out _ _ hHeld (fun hNew=>?_)
      clear hK K hHeld
      have hHeld:=hNew
      clear hNew
      try simp only [Act.put,zA,zB,zC]
      refine wpAnyH_done (by kernel_rfl) ?_ _
      refine hK0 _ _ ?_
      clear hK0
      go_meet
      exact ⟨w1.heap.size,rfl,rfl,two_set (xr.out),by have:=xs.out;first | exact this | omega,hHeld⟩
    · go_simp
      refine hK.out _ _ ?_ (fun hNew=>?_)
      · exact hHeld.alloc hHeld.size _
      clear hK K
      try simp only [Act.put,zA,zB,zC]
      obtain ⟨Xa,hXa⟩:∃ Q9,Q9 = ((W2).alloc (.cells #[.int .u8 0,.int .u8 0] 192)).drew:=⟨_,rfl⟩
      have xr:=Lib.hid (show Xa.heap[(W2).heap.size]? = some (.cells #[.int .u8 0,.int .u8 0] 192 (0,0)) by rw [hXa];exact heap_alloc_new _ _)
      have xs:=Lib.hid (show W2.heap.size≤(W2).heap.size from hHeld.size)
      rw [← hXa] at hNew ⊢
      clear hXa hHeld
      have hHeld:=hNew
      clear hNew
      refine wpAnyH_ready (rs:=[9]) (by kernel_rfl) (by simp) ?_
      refine AllReadyH.cons rfl (fun K hK=>?_) AllReadyH.nil
      go_simp
      refine (hs.out _ hHeld).mono ?_
      rintro e w1 ⟨rfl,k1,hk1⟩
      have E1:=Lib.hid (show Below W2.heap.size W2 w1 by rw [hk1];exact draws hHeld k1)
      have hK1:=Lib.hid hk1
      clear hk1
      go_simp
      refine hK.out _ _ ?_ (fun hNew=>?_)
      · exact E1.out
      clear hK K hHeld
      have hHeld:=hNew
      clear hNew
      try simp only [Act.put,zA,zB,zC]
      obtain ⟨q0,q1,qf⟩:=two_at (show w1.heap[W2.heap.size]? = some (.cells #[.int .u8 0,.int .u8 0] 192 (0,0)) by rw [hK1.out];exact xr.out)
      refine wpAnyH_ready (rs:=[11]) (by kernel_rfl) (by simp) ?_
      refine AllReadyH.cons rfl (fun K hK=>?_) AllReadyH.nil
      go_simp
      refine hK.out _ _ ?_ (fun hNew=>?_)
      · exact (hHeld.setCell (p:=⟨W2.heap.size,0,none⟩) (by have:=xs.out;first | exact this | omega) _).setCell (p:=⟨W2.heap.size,1,none⟩) (by have:=xs.out;first | exact this | omega) _
      clear hK K hHeld
      have hHeld:=hNew
      clear hNew
      try simp only [Act.put,zA,zB,zC]
      refine wpAnyH_ready (rs:=[12]) (by kernel_rfl) (by simp) ?_
      refine AllReadyH.cons rfl (fun K hK=>?_) AllReadyH.nil
      go_simp
      refine hK.out _ _ hHeld (fun hNew=>?_)
      clear hK K hHeld
      have hHeld:=hNew
      clear hNew
      try simp only [Act.put,zA,zB,zC]
      refine wpAnyH_done (by kernel_rfl) ?_ _
      refine hK0 _ _ ?_
      clear hK0
      go_meet
      exact ⟨W2.heap.size,rfl,rfl,two_set (show w1.heap[W2.heap.size]? = some (.cells #[.int .u8 0,.int .u8 0] 192 (0,0)) by rw [hK1.out];exact xr.out),by have:=xs.out;first | exact this | omega,hHeld⟩
  case rest =>
    obtain ⟨g,rfl,rfl,hk,hg,hwc⟩:=hcut
    have HW:=Lib.hid hwc
    have VW:=Lib.hid (z4'.out.trans (hwc.mono z4'.out.size))
    obtain ⟨r1,r2⟩:=hrow.out wc hwc
    obtain ⟨q0,q1,qf⟩:=two_at hk
    obtain ⟨o0,o1,o2,o3,o4,o5,o6,o7,o8,o9,o10⟩:=op_cells r1
    obtain ⟨a0,a1,a2,a3,a4,a5,a6,a7,a8,a9,a10⟩:=op_cells r2
    clear r1 r2 hk hg hwc hs
    cases sm with
    | true =>
      have hval:=Lib.hid (show becomesV b a prior = [shiftedV b a prior] from val_k23b HV.out.1 HV.out.2 (.inl hsm2.out))
      go_wp2_with (first | (go_at_call 189;(refine (hshift.out _ (by first | exact VW.out | exact draws VW.out _)).mono ?_;rintro e w8 ⟨s8,rfl,h8,hb8⟩;have H8:=Lib.hid h8;have E8:=Lib.hid hb8;clear h8 hb8 o0 o1 o2 o3 o4 o5 o6 o7 o8 o9 o10 a0 a1 a2 a3 a4 a5 a6 a7 a8 a9 a10 q0 q1 qf;unfold opCells)))
      try simp only [Exit.jump]
      go_ret2
      rw [hval.out]
      exact ⟨_,rfl,RowA.one (by first | exact Below.trans VW.out (E8.out.mono (Below.size VW.out)) | exact Below.trans (draws VW.out _) (E8.out.mono (Below.size (draws VW.out _)))) H8.out⟩
    | false =>
      cases h_w3:P4.withinV b.path a.path with
      | true =>
        rw [h_w3] at hw3
        have H_w3:=Lib.hid h_w3
        clear h_w3
        cases h_w4:P4.withinV b.path a.to_ with
        | true =>
          rw [h_w4] at hw4
          have H_w4:=Lib.hid h_w4
          clear h_w4
          have hval:=Lib.hid (show becomesV b a prior = [shiftedV b a prior] from val_k23b HV.out.1 HV.out.2 (.inr (.inr H_w4.out)))
          go_wp2_with (first | (go_at_call 189;(refine (hshift.out _ (by first | exact VW.out | exact draws VW.out _)).mono ?_;rintro e w8 ⟨s8,rfl,h8,hb8⟩;have H8:=Lib.hid h8;have E8:=Lib.hid hb8;clear h8 hb8 o0 o1 o2 o3 o4 o5 o6 o7 o8 o9 o10 a0 a1 a2 a3 a4 a5 a6 a7 a8 a9 a10 q0 q1 qf;unfold opCells)) | (go_at_call_of 165 sa.tA;(refine (hw4.out _ (by first | exact VW.out | exact draws VW.out _)).mono ?_;rintro e wy ⟨rfl,kw4,rfl⟩)) | (go_at_call_of 165 sa.pA;(refine (hw3.out _ (by first | exact VW.out | exact draws VW.out _)).mono ?_;rintro e wx ⟨rfl,kw3,rfl⟩)))
          try simp only [Exit.jump]
          go_ret2
          rw [hval.out]
          exact ⟨_,rfl,RowA.one (by first | exact Below.trans VW.out (E8.out.mono (Below.size VW.out)) | exact Below.trans (draws VW.out _) (E8.out.mono (Below.size (draws VW.out _)))) H8.out⟩
        | false =>
          rw [h_w4] at hw4
          have H_w4:=Lib.hid h_w4
          clear h_w4
          have hval:=Lib.hid (show becomesV b a prior = [delV (nodeD a a.path),delV (nodeD (delV (nodeD a a.path)) (nodeD a b.path))] from val_k23a HV.out.1 HV.out.2 hsm2.out H_w3.out H_w4.out)
          go_wp2_with (first | (go_at_call 187;(refine (hrow3.out _ (by first | exact VW.out | exact draws VW.out _)).mono ?_;rintro e w8 ⟨v8,rfl,h8⟩;have hb8:=h8.bel;have H8:=Lib.hid h8;have E8:=Lib.hid hb8;clear h8 hb8 o0 o1 o2 o3 o4 o5 o6 o7 o8 o9 o10 a0 a1 a2 a3 a4 a5 a6 a7 a8 a9 a10 q0 q1 qf)) | (go_at_call_of 165 sa.tA;(refine (hw4.out _ (by first | exact VW.out | exact draws VW.out _)).mono ?_;rintro e wy ⟨rfl,kw4,rfl⟩)) | (go_at_call_of 165 sa.pA;(refine (hw3.out _ (by first | exact VW.out | exact draws VW.out _)).mono ?_;rintro e wx ⟨rfl,kw3,rfl⟩)))
          try simp only [Exit.jump]
          go_ret2
          rw [hval.out]
          exact ⟨_,rfl,H8.out.from_ (by first | exact VW.out | exact draws VW.out _)⟩
      | false =>
        rw [h_w3] at hw3
        have H_w3:=Lib.hid h_w3
        clear h_w3
        have hval:=Lib.hid (show becomesV b a prior = [shiftedV b a prior] from val_k23b HV.out.1 HV.out.2 (.inr (.inl H_w3.out)))
        go_wp2_with (first | (go_at_call 189;(refine (hshift.out _ (by first | exact VW.out | exact draws VW.out _)).mono ?_;rintro e w8 ⟨s8,rfl,h8,hb8⟩;have H8:=Lib.hid h8;have E8:=Lib.hid hb8;clear h8 hb8 o0 o1 o2 o3 o4 o5 o6 o7 o8 o9 o10 a0 a1 a2 a3 a4 a5 a6 a7 a8 a9 a10 q0 q1 qf;unfold opCells)) | (go_at_call_of 165 sa.pA;(refine (hw3.out _ (by first | exact VW.out | exact draws VW.out _)).mono ?_;rintro e wx ⟨rfl,kw3,rfl⟩)))
        try simp only [Exit.jump]
        go_ret2
        rw [hval.out]
        exact ⟨_,rfl,RowA.one (by first | exact Below.trans VW.out (E8.out.mono (Below.size VW.out)) | exact Below.trans (draws VW.out _) (E8.out.mono (Below.size (draws VW.out _)))) H8.out⟩
end Go.Proofs.Ytidimannfemnmaa.Sqr

