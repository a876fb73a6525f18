/- The document's behind: behind a Delete. -/
import Derived.Test.YtfaolhcacaeijaaMgAU
import Derived.Test.YtfaolhcacaeijaaMgAP
set_option linter.all false
namespace Go.Proofs.Ytfaolhcacaeijaa.Sqr
open Go.RowKit Top Shf Sim
set_option maxRecDepth 20000
set_option linter.unusedVariables false


set_option maxHeartbeats 32000000 in
theorem rbehind_k2 (w:World) (b a:Ov) (sb sa:OS) (prior:Bool) (hb:OpIn w b sb) (ha:OpIn w a sa) (hlb:Tiny b) (hla:Tiny a) (hka:a.kind = 2) :
    Calls Try.prog 77 #[.agg (opCells b sb),.agg (opCells a sa),.bool prior] w fun e w'=>∃ v,e = .returned (.tuple #[v,.int .i64 0])∧RowA w (becomesV b a prior) v w':=by
  obtain ⟨z1,z2,z4,z5⟩:=two_news w (.cells (opCells b sb) 26) (.cells (opCells a sa) 26)
  obtain ⟨W2,hW2⟩:∃ Q9,Q9 = ((w.alloc (.cells (opCells b sb) 26)).alloc (.cells (opCells a sa) 26)):=⟨_,rfl⟩
  rw [← hW2] at z1 z2 z4 z5
  have z1':=Lib.hid z1
  have z2':=Lib.hid z2
  have z4':=Lib.hid z4
  have z5':=Lib.hid z5
  have hrow:=Lib.hid (fun (W:World) (hB:Below W2.heap.size W2 W)=>And.intro ((hB.block w.heap.size (by omega)).trans z1) ((hB.block (w.heap.size + 1) (by omega)).trans z2))
  obtain ⟨sm,hsm⟩:∃ Q9,Q9 = P4.eqV b.path a.path:=⟨_,rfl⟩
  have hs:=Lib.hid (fun (W:World) (hB:Below w.heap.size w W)=>(rsame_its W sa.pA sb.pA sa.pn sa.pc sb.pn sb.pc a.path b.path (ha.below hB).path (hb.below hB).path (Nat.le_trans ha.pnc ha.pcm) (Nat.le_trans hb.pnc hb.pcm)).mono (R':=fun e w'=>e = .returned (.bool sm)∧∃ k,w' = W.drewN k) fun e w' h=>⟨by rw [hsm,eqV_comm];exact h.1,h.2⟩)
  have hsm2:=Lib.hid hsm.symm
  have hbo:=Lib.hid (fun (W:World) (hB:Below w.heap.size w W)=>And.intro (hb.below hB) (ha.below hB))
  have hkr:=Lib.hid (show b.kind < 256∧a.kind < 256 from ⟨hb.kind,ha.kind⟩)
  have hti:=Lib.hid (And.intro hlb hla)
  have hw1:=Lib.hid (fun (W:World) (hB:Below w.heap.size w W)=>P4.refWithin_any W sa.pA sb.pA sa.pn sa.pc sb.pn sb.pc a.path b.path (its4 (ha.below hB).path) (its4 (hb.below hB).path) (Nat.le_trans ha.pnc ha.pcm) (Nat.le_trans hb.pnc hb.pcm))
  have hw2:=Lib.hid (fun (W:World) (hB:Below w.heap.size w W)=>P4.refWithin_any W sa.pA sb.tA sa.pn sa.pc sb.tn sb.tc a.path b.to_ (its4 (ha.below hB).path) (its4 (hb.below hB).to_) (Nat.le_trans ha.pnc ha.pcm) (Nat.le_trans hb.tnc hb.tcm))
  have HV:=Lib.hid hka
  have hq:=Lib.hid (nodeD_ok hla.slen (op_ok ha) (op_ok hb).pfit)
  have hshift:=Lib.hid (fun (W:World) (hB:Below w.heap.size w W)=>row9_any W b a sb sa prior (hb.below hB) (ha.below hB) hlb.slen hla.slen)
  have hnodeB:=Lib.hid (fun (W:World) (hB:Below w.heap.size w W)=>(rNode_any W a sa sb.pA sb.pn sb.pc b.path (ha.below hB) hla.slen (hb.below hB).path hb.pnc hb.pcm hb.pnil (by have:=hb.path.1;have:=hlb.1;omega)).mono fun e w' h=>nodeS h)
  clear hb ha z1 z2 z4 z5 hlb hla hsm
  unfold opCells at hW2 hshift hnodeB
  unfold opCells
  have ea2:((a.kind:Int) == 2) = true:=by simp;omega
  have ea3:((a.kind:Int) == 3) = false:=by simp;omega
  try clear hka
  try clear hkb
  go_enter Try.func77,Try.ntmps77
  go_upto_region 1 with fail
  rw [← hW2]
  clear hW2
  obtain ⟨r1,r2⟩:=hrow.out W2 (Below.refl _ _)
  obtain ⟨o0,o1,o2,o3,o4,o5,o6,o7,o8,o9,o10⟩:=op_cells r1
  obtain ⟨a0,a1,a2,a3,a4,a5,a6,a7,a8,a9,a10⟩:=op_cells r2
  clear r1 r2
  by_cases hb2:b.kind = 2
  · have HB:=Lib.hid (show b.kind ≠ 3 by omega)
    have ekk:((a.kind:Int) == (b.kind:Int)) = true:=by have h7:=HV.out;simp;omega
    have eb3:((b.kind:Int) == 3) = false:=by simp;omega
    have eb4:((b.kind:Int) == 4) = false:=by simp;omega
    have eb5:((b.kind:Int) == 5) = false:=by simp;omega
    have eb6:((b.kind:Int) == 6) = false:=by simp;omega
    clear hb2
    cases sm with
    | true =>
      cases h_w1:P4.withinV a.path b.path with
      | true =>
        rw [h_w1] at hw1
        have H_w1:=Lib.hid h_w1
        clear h_w1
        have hval:=Lib.hid (show becomesV b a prior = [] from val_k2a HV.out H_w1.out)
        go_wp2_with (first | (go_at_call_of 159 sb.pA;go_loud (refine (hw1.out _ (by first | exact z4'.out | exact draws z4'.out _)).mono ?_;rintro e wx ⟨rfl,kw1,rfl⟩)) | (go_at_call 79;go_loud (refine (hs.out _ (by first | exact z4'.out | exact draws z4'.out _)).mono ?_;rintro e ws ⟨rfl,ks,rfl⟩)))
        go_ret2
        rw [hval.out]
        exact ⟨_,rfl,RowA.none_ (by first | exact z4'.out | exact draws z4'.out _)⟩
      | false =>
        rw [h_w1] at hw1
        have H_w1:=Lib.hid h_w1
        clear h_w1
        have hval:=Lib.hid (show becomesV b a prior = [shiftedV b a prior] from val_k2c HV.out H_w1.out fun e=>absurd e HB.out)
        go_wp2_with (first | (go_at_call 160;go_loud (refine (one_any w8 _ s8 H8.out).mono ?_;rintro e w9 ⟨v9,rfl,h9⟩;obtain ⟨A9,n9,c9,rfl⟩:=rowA_slice h9;have H9:=Lib.hid (h9.from_ V8.out);clear h9)) | (go_at_call 164;go_loud (refine (hshift.out _ (by first | exact z4'.out | exact draws z4'.out _)).mono ?_;rintro e w8 ⟨s8,rfl,h8,hb8⟩;have H8:=Lib.hid h8;have V8:=Lib.hid (show Below w.heap.size w w8 by first | exact Below.trans z4'.out (hb8.mono (Below.size z4'.out)) | exact Below.trans (draws z4'.out _) (hb8.mono (Below.size (draws z4'.out _))));clear h8 hb8 o0 o1 o2 o3 o4 o5 o6 o7 o8 o9 o10 a0 a1 a2 a3 a4 a5 a6 a7 a8 a9 a10;unfold opCells)) | (go_at_call_of 159 sb.pA;go_loud (refine (hw1.out _ (by first | exact z4'.out | exact draws z4'.out _)).mono ?_;rintro e wx ⟨rfl,kw1,rfl⟩)) | (go_at_call 79;go_loud (refine (hs.out _ (by first | exact z4'.out | exact draws z4'.out _)).mono ?_;rintro e ws ⟨rfl,ks,rfl⟩)))
        go_ret2
        rw [hval.out]
        exact ⟨_,rfl,H9.out⟩
    | false =>
      cases h_w1:P4.withinV a.path b.path with
      | true =>
        rw [h_w1] at hw1
        have H_w1:=Lib.hid h_w1
        clear h_w1
        have hval:=Lib.hid (show becomesV b a prior = [] from val_k2a HV.out H_w1.out)
        go_wp2_with (first | (go_at_call_of 159 sb.pA;go_loud (refine (hw1.out _ (by first | exact z4'.out | exact draws z4'.out _)).mono ?_;rintro e wx ⟨rfl,kw1,rfl⟩)) | (go_at_call 79;go_loud (refine (hs.out _ (by first | exact z4'.out | exact draws z4'.out _)).mono ?_;rintro e ws ⟨rfl,ks,rfl⟩)))
        go_ret2
        rw [hval.out]
        exact ⟨_,rfl,RowA.none_ (by first | exact z4'.out | exact draws z4'.out _)⟩
      | false =>
        rw [h_w1] at hw1
        have H_w1:=Lib.hid h_w1
        clear h_w1
        have hval:=Lib.hid (show becomesV b a prior = [shiftedV b a prior] from val_k2c HV.out H_w1.out fun e=>absurd e HB.out)
        go_wp2_with (first | (go_at_call 160;go_loud (refine (one_any w8 _ s8 H8.out).mono ?_;rintro e w9 ⟨v9,rfl,h9⟩;obtain ⟨A9,n9,c9,rfl⟩:=rowA_slice h9;have H9:=Lib.hid (h9.from_ V8.out);clear h9)) | (go_at_call 164;go_loud (refine (hshift.out _ (by first | exact z4'.out | exact draws z4'.out _)).mono ?_;rintro e w8 ⟨s8,rfl,h8,hb8⟩;have H8:=Lib.hid h8;have V8:=Lib.hid (show Below w.heap.size w w8 by first | exact Below.trans z4'.out (hb8.mono (Below.size z4'.out)) | exact Below.trans (draws z4'.out _) (hb8.mono (Below.size (draws z4'.out _))));clear h8 hb8 o0 o1 o2 o3 o4 o5 o6 o7 o8 o9 o10 a0 a1 a2 a3 a4 a5 a6 a7 a8 a9 a10;unfold opCells)) | (go_at_call_of 159 sb.pA;go_loud (refine (hw1.out _ (by first | exact z4'.out | exact draws z4'.out _)).mono ?_;rintro e wx ⟨rfl,kw1,rfl⟩)) | (go_at_call 79;go_loud (refine (hs.out _ (by first | exact z4'.out | exact draws z4'.out _)).mono ?_;rintro e ws ⟨rfl,ks,rfl⟩)))
        go_ret2
        rw [hval.out]
        exact ⟨_,rfl,H9.out⟩
  · by_cases hb3:b.kind = 3
    · have HB:=Lib.hid hb3
      have eb3:((b.kind:Int) == 3) = true:=by simp;omega
      have ekk:((a.kind:Int) == (b.kind:Int)) = false:=by have h7:=HV.out;simp;omega
      clear hb2 hb3
      cases h_w1:P4.withinV a.path b.path with
      | true =>
        rw [h_w1] at hw1
        have H_w1:=Lib.hid h_w1
        clear h_w1
        have hval:=Lib.hid (show becomesV b a prior = [] from val_k2a HV.out H_w1.out)
        go_wp2_with (go_at_call_of 159 sb.pA;go_loud (refine (hw1.out _ (by first | exact z4'.out | exact draws z4'.out _)).mono ?_;rintro e wx ⟨rfl,kw1,rfl⟩))
        go_ret2
        rw [hval.out]
        exact ⟨_,rfl,RowA.none_ (by first | exact z4'.out | exact draws z4'.out _)⟩
      | false =>
        rw [h_w1] at hw1
        have H_w1:=Lib.hid h_w1
        clear h_w1
        cases h_w2:P4.withinV a.path b.to_ with
        | true =>
          rw [h_w2] at hw2
          have H_w2:=Lib.hid h_w2
          clear h_w2
          have hval:=Lib.hid (show becomesV b a prior = [delV (nodeD a b.path)] from val_k2b HV.out H_w1.out HB.out H_w2.out)
          go_wp2_with (first | (go_at_call 160;go_loud (refine (one_any w8 _ s8 H8.out).mono ?_;rintro e w9 ⟨v9,rfl,h9⟩;obtain ⟨A9,n9,c9,rfl⟩:=rowA_slice h9;have H9:=Lib.hid (h9.from_ V8.out);clear h9)) | (go_at_call 161;go_loud (refine (drop_any w5 A5 n5 c5 _ H5.out.1 H5.out.2.1 H5.out.2.2.1 H5.out.2.2.2.1 (by have h6:=H5.out.2.2.2.2;have h7:=hq.out.1;have h8:=hti.out.1.1;omega) hq.out.2).mono ?_;rintro e w8 ⟨s8,rfl,h8,hb8⟩;have H8:=Lib.hid h8;have V8:=Lib.hid (V5.out.trans (hb8.mono V5.out.size));clear h8 hb8;unfold opCells;dsimp only [delV])) | (go_at_call_of 127 sb.pA;go_loud (refine (hnodeB.out _ (by first | exact z4'.out | exact draws z4'.out _)).mono ?_;rintro e w5 ⟨A5,n5,c5,bb5,rfl,h5,hb5⟩;have H5:=Lib.hid (own_facts h5);have V5:=Lib.hid (show Below w.heap.size w w5 by first | exact Below.trans z4'.out (hb5.mono (Below.size z4'.out)) | exact Below.trans (draws z4'.out _) (hb5.mono (Below.size (draws z4'.out _))));clear h5 hb5 o0 o1 o2 o3 o4 o5 o6 o7 o8 o9 o10 a0 a1 a2 a3 a4 a5 a6 a7 a8 a9 a10)) | (go_at_call_of 159 sb.tA;go_loud (refine (hw2.out _ (by first | exact z4'.out | exact draws z4'.out _)).mono ?_;rintro e wy ⟨rfl,kw2,rfl⟩)) | (go_at_call_of 159 sb.pA;go_loud (refine (hw1.out _ (by first | exact z4'.out | exact draws z4'.out _)).mono ?_;rintro e wx ⟨rfl,kw1,rfl⟩)))
          go_ret2
          rw [hval.out]
          exact ⟨_,rfl,H9.out⟩
        | false =>
          rw [h_w2] at hw2
          have H_w2:=Lib.hid h_w2
          clear h_w2
          have hval:=Lib.hid (show becomesV b a prior = [shiftedV b a prior] from val_k2c HV.out H_w1.out fun _=>H_w2.out)
          go_wp2_with (first | (go_at_call 160;go_loud (refine (one_any w8 _ s8 H8.out).mono ?_;rintro e w9 ⟨v9,rfl,h9⟩;obtain ⟨A9,n9,c9,rfl⟩:=rowA_slice h9;have H9:=Lib.hid (h9.from_ V8.out);clear h9)) | (go_at_call 164;go_loud (refine (hshift.out _ (by first | exact z4'.out | exact draws z4'.out _)).mono ?_;rintro e w8 ⟨s8,rfl,h8,hb8⟩;have H8:=Lib.hid h8;have V8:=Lib.hid (show Below w.heap.size w w8 by first | exact Below.trans z4'.out (hb8.mono (Below.size z4'.out)) | exact Below.trans (draws z4'.out _) (hb8.mono (Below.size (draws z4'.out _))));clear h8 hb8 o0 o1 o2 o3 o4 o5 o6 o7 o8 o9 o10 a0 a1 a2 a3 a4 a5 a6 a7 a8 a9 a10;unfold opCells)) | (go_at_call_of 159 sb.tA;go_loud (refine (hw2.out _ (by first | exact z4'.out | exact draws z4'.out _)).mono ?_;rintro e wy ⟨rfl,kw2,rfl⟩)) | (go_at_call_of 159 sb.pA;go_loud (refine (hw1.out _ (by first | exact z4'.out | exact draws z4'.out _)).mono ?_;rintro e wx ⟨rfl,kw1,rfl⟩)))
          go_ret2
          rw [hval.out]
          exact ⟨_,rfl,H9.out⟩
    · have HB:=Lib.hid hb3
      have eb3:((b.kind:Int) == 3) = false:=by simp;omega
      have ekk:((a.kind:Int) == (b.kind:Int)) = false:=by have h7:=HV.out;simp;omega
      clear hb2 hb3
      cases h_w1:P4.withinV a.path b.path with
      | true =>
        rw [h_w1] at hw1
        have H_w1:=Lib.hid h_w1
        clear h_w1
        have hval:=Lib.hid (show becomesV b a prior = [] from val_k2a HV.out H_w1.out)
        go_wp2_with (go_at_call_of 159 sb.pA;go_loud (refine (hw1.out _ (by first | exact z4'.out | exact draws z4'.out _)).mono ?_;rintro e wx ⟨rfl,kw1,rfl⟩))
        go_ret2
        rw [hval.out]
        exact ⟨_,rfl,RowA.none_ (by first | exact z4'.out | exact draws z4'.out _)⟩
      | false =>
        rw [h_w1] at hw1
        have H_w1:=Lib.hid h_w1
        clear h_w1
        have hval:=Lib.hid (show becomesV b a prior = [shiftedV b a prior] from val_k2c HV.out H_w1.out fun e=>absurd e HB.out)
        go_wp2_with (first | (go_at_call 160;go_loud (refine (one_any w8 _ s8 H8.out).mono ?_;rintro e w9 ⟨v9,rfl,h9⟩;obtain ⟨A9,n9,c9,rfl⟩:=rowA_slice h9;have H9:=Lib.hid (h9.from_ V8.out);clear h9)) | (go_at_call 164;go_loud (refine (hshift.out _ (by first | exact z4'.out | exact draws z4'.out _)).mono ?_;rintro e w8 ⟨s8,rfl,h8,hb8⟩;have H8:=Lib.hid h8;have V8:=Lib.hid (show Below w.heap.size w w8 by first | exact Below.trans z4'.out (hb8.mono (Below.size z4'.out)) | exact Below.trans (draws z4'.out _) (hb8.mono (Below.size (draws z4'.out _))));clear h8 hb8 o0 o1 o2 o3 o4 o5 o6 o7 o8 o9 o10 a0 a1 a2 a3 a4 a5 a6 a7 a8 a9 a10;unfold opCells)) | (go_at_call_of 159 sb.pA;go_loud (refine (hw1.out _ (by first | exact z4'.out | exact draws z4'.out _)).mono ?_;rintro e wx ⟨rfl,kw1,rfl⟩)))
        go_ret2
        rw [hval.out]
        exact ⟨_,rfl,H9.out⟩
end Go.Proofs.Ytfaolhcacaeijaa.Sqr

