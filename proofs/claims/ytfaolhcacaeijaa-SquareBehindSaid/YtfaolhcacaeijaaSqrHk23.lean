/- The document's behind: a Delete behind a Move. -/
import Derived.Test.YtfaolhcacaeijaaMgAU
import Derived.Test.YtfaolhcacaeijaaMgAP
set_option linter.all false
namespace Go.Proofs.Ytfaolhcacaeijaa.Sqr
open Go.RowKit Top Shf Sim
set_option maxRecDepth 20000
set_option linter.unusedVariables false


set_option maxHeartbeats 32000000 in
theorem rbehind_k23 (w:World) (b a:Ov) (sb sa:OS) (prior:Bool) (hb:OpIn w b sb) (ha:OpIn w a sa) (hlb:Tiny b) (hla:Tiny a) (hkb:b.kind = 2) (hka:a.kind = 3) :
    Calls Try.prog 77 #[.agg (opCells b sb),.agg (opCells a sa),.bool prior] w fun e w'=>∃ v,e = .returned (.tuple #[v,.int .i64 0])∧RowA w (becomesV b a prior) v w':=by
  obtain ⟨z1,z2,z4,z5⟩:=two_news w (.cells (opCells b sb) 26) (.cells (opCells a sa) 26)
  obtain ⟨W2,hW2⟩:∃ Q9,Q9 = ((w.alloc (.cells (opCells b sb) 26)).alloc (.cells (opCells a sa) 26)):=⟨_,rfl⟩
  rw [← hW2] at z1 z2 z4 z5
  have z1':=Lib.hid z1
  have z2':=Lib.hid z2
  have z4':=Lib.hid z4
  have z5':=Lib.hid z5
  have hrow:=Lib.hid (fun (W:World) (hB:Below W2.heap.size W2 W)=>And.intro ((hB.block w.heap.size (by omega)).trans z1) ((hB.block (w.heap.size + 1) (by omega)).trans z2))
  obtain ⟨sm,hsm⟩:∃ Q9,Q9 = P4.eqV b.path a.path:=⟨_,rfl⟩
  have hs:=Lib.hid (fun (W:World) (hB:Below w.heap.size w W)=>(rsame_its W sa.pA sb.pA sa.pn sa.pc sb.pn sb.pc a.path b.path (ha.below hB).path (hb.below hB).path (Nat.le_trans ha.pnc ha.pcm) (Nat.le_trans hb.pnc hb.pcm)).mono (R':=fun e w'=>e = .returned (.bool sm)∧∃ k,w' = W.drewN k) fun e w' h=>⟨by rw [hsm,eqV_comm];exact h.1,h.2⟩)
  have hsm2:=Lib.hid hsm.symm
  have hbo:=Lib.hid (fun (W:World) (hB:Below w.heap.size w W)=>And.intro (hb.below hB) (ha.below hB))
  have hkr:=Lib.hid (show b.kind < 256∧a.kind < 256 from ⟨hb.kind,ha.kind⟩)
  have hti:=Lib.hid (And.intro hlb hla)
  have hw3:=Lib.hid (fun (W:World) (hB:Below w.heap.size w W)=>P4.refWithin_any W sb.pA sa.pA sb.pn sb.pc sa.pn sa.pc b.path a.path (its4 (hb.below hB).path) (its4 (ha.below hB).path) (Nat.le_trans hb.pnc hb.pcm) (Nat.le_trans ha.pnc ha.pcm))
  have hw4:=Lib.hid (fun (W:World) (hB:Below w.heap.size w W)=>P4.refWithin_any W sb.pA sa.tA sb.pn sb.pc sa.tn sa.tc b.path a.to_ (its4 (hb.below hB).path) (its4 (ha.below hB).to_) (Nat.le_trans hb.pnc hb.pcm) (Nat.le_trans ha.tnc ha.tcm))
  have HV:=Lib.hid (And.intro hkb hka)
  have hpa:=ha.path.1
  have hpb:=hb.path.1
  have hnq:=Lib.hid (show sb.pn < sa.pn→P4.eqV b.path a.path = false from fun h=>eqV_len (by omega))
  have hlen:=Lib.hid (show ¬ sb.pn < sa.pn→P4.eqV b.path a.path = true∨P4.withinV b.path a.path = false from fun h=>within_len (by omega))
  have hq0:=And.intro (And.intro (show (nodeD a a.path).length≤901 by have:=nodeD_len a a.path;have:=hla.1;have:=hla.2;omega) (nodeD_ok hla.slen (op_ok ha) (op_ok ha).pfit).2) (And.intro (show (nodeD a b.path).length≤901 by have:=nodeD_len a b.path;have:=hla.1;have:=hla.2;have:=hlb.1;omega) (nodeD_ok hla.slen (op_ok ha) (op_ok hb).pfit).2)
  obtain ⟨q1,hE1⟩:∃ Q9,Q9 = nodeD a a.path:=⟨_,rfl⟩
  obtain ⟨q2,hE2⟩:∃ Q9,Q9 = nodeD a b.path:=⟨_,rfl⟩
  obtain ⟨q3,hE3⟩:∃ Q9,Q9 = nodeD (delV q1) q2:=⟨_,rfl⟩
  have HE:=Lib.hid (show [delV (nodeD a a.path),delV (nodeD (delV (nodeD a a.path)) (nodeD a b.path))] = [delV q1,delV q3] by rw [hE3,hE2,hE1])
  have HQ3:=Lib.hid hE3
  rw [← hE1,← hE2] at hq0
  have hq:=Lib.hid hq0
  have hshift:=Lib.hid (fun (W:World) (hB:Below w.heap.size w W)=>row9_any W b a sb sa prior (hb.below hB) (ha.below hB) hlb.slen hla.slen)
  have hnodeA:=Lib.hid (fun (W:World) (hB:Below w.heap.size w W)=>(rNode_any W a sa sa.pA sa.pn sa.pc a.path (ha.below hB) hla.slen (ha.below hB).path ha.pnc ha.pcm ha.pnil (by have:=ha.path.1;have:=hla.1;omega)).mono fun e w' h=>nodeS h)
  have hnodeB:=Lib.hid (fun (W:World) (hB:Below w.heap.size w W)=>(rNode_any W a sa sb.pA sb.pn sb.pc b.path (ha.below hB) hla.slen (hb.below hB).path hb.pnc hb.pcm hb.pnil (by have:=hb.path.1;have:=hlb.1;omega)).mono fun e w' h=>nodeS h)
  rw [← hE1] at hnodeA
  rw [← hE2] at hnodeB
  clear hE1 hE2 hE3 hq0 hpa hpb
  clear hb ha z1 z2 z4 z5 hlb hla hsm
  unfold opCells at hW2 hshift hnodeA hnodeB
  unfold opCells
  have ea2:((a.kind:Int) == 2) = false:=by simp;omega
  have ea3:((a.kind:Int) == 3) = true:=by simp;omega
  have eb2:((b.kind:Int) == 2) = true:=by simp;omega
  have eb3:((b.kind:Int) == 3) = false:=by simp;omega
  have ekk:((a.kind:Int) == (b.kind:Int)) = false:=by simp;omega
  try clear hka
  try clear hkb
  go_enter Try.func77,Try.ntmps77
  go_upto_region 1 with fail
  rw [← hW2]
  clear hW2
  obtain ⟨r1,r2⟩:=hrow.out W2 (Below.refl _ _)
  obtain ⟨o0,o1,o2,o3,o4,o5,o6,o7,o8,o9,o10⟩:=op_cells r1
  obtain ⟨a0,a1,a2,a3,a4,a5,a6,a7,a8,a9,a10⟩:=op_cells r2
  clear r1 r2
  by_cases hlt:sb.pn < sa.pn
  · have hlI:(sb.pn:Int) < (sa.pn:Int):=by omega
    have HS:=Lib.hid (hnq.out hlt)
    clear hlt
    cases h_w3:P4.withinV b.path a.path with
    | true =>
      rw [h_w3] at hw3
      have H_w3:=Lib.hid h_w3
      clear h_w3
      cases h_w4:P4.withinV b.path a.to_ with
      | true =>
        rw [h_w4] at hw4
        have H_w4:=Lib.hid h_w4
        clear h_w4
        have hval:=Lib.hid (show becomesV b a prior = [shiftedV b a prior] from val_k23b HV.out.1 HV.out.2 (.inr (.inr H_w4.out)))
        go_wp2_with (first | (go_at_call 160;go_loud (refine (one_any w8 _ s8 H8.out).mono ?_;rintro e w9 ⟨v9,rfl,h9⟩;obtain ⟨A9,n9,c9,rfl⟩:=rowA_slice h9;have H9:=Lib.hid (h9.from_ V8.out);clear h9)) | (go_at_call 164;go_loud (refine (hshift.out _ (by first | exact z4'.out | exact draws z4'.out _)).mono ?_;rintro e w8 ⟨s8,rfl,h8,hb8⟩;have H8:=Lib.hid h8;have V8:=Lib.hid (show Below w.heap.size w w8 by first | exact Below.trans z4'.out (hb8.mono (Below.size z4'.out)) | exact Below.trans (draws z4'.out _) (hb8.mono (Below.size (draws z4'.out _))));clear h8 hb8 o0 o1 o2 o3 o4 o5 o6 o7 o8 o9 o10 a0 a1 a2 a3 a4 a5 a6 a7 a8 a9 a10;unfold opCells)) | (go_at_call_of 159 sa.tA;go_loud (refine (hw4.out _ (by first | exact z4'.out | exact draws z4'.out _)).mono ?_;rintro e wy ⟨rfl,kw4,rfl⟩)) | (go_at_call_of 159 sa.pA;go_loud (refine (hw3.out _ (by first | exact z4'.out | exact draws z4'.out _)).mono ?_;rintro e wx ⟨rfl,kw3,rfl⟩)))
        go_ret2
        rw [hval.out]
        exact ⟨_,rfl,H9.out⟩
      | false =>
        rw [h_w4] at hw4
        have H_w4:=Lib.hid h_w4
        clear h_w4
        have hval:=Lib.hid (show becomesV b a prior = [delV q1,delV q3] from (val_k23a HV.out.1 HV.out.2 HS.out H_w3.out H_w4.out).trans HE.out)
        go_wp2_with (first | (go_at_call_of 161 A8;go_loud (refine (drop_any w9 A8 n8 c8 q3 (H8.out.1.below F9.out) H8.out.2.1 H8.out.2.2.1 H8.out.2.2.2.1 (by have h6:=H8.out.2.2.2.2;have h7:=hq3.out.1;have h8:=hq.out.2.1;omega) hq3.out.2).mono ?_;rintro e wt ⟨st,rfl,h8,hb8⟩;have HT:=Lib.hid h8;have FT:=Lib.hid hb8;have VT:=Lib.hid (V9.out.trans (hb8.mono V9.out.size));clear h8 hb8;unfold opCells;dsimp only [delV])) | (go_at_call_of 161 A5;go_loud (refine (drop_any w8 A5 n5 c5 q1 (((H5.out.1.below F6.out).below F7.out).below F8.out) H5.out.2.1 H5.out.2.2.1 H5.out.2.2.2.1 (by have h6:=H5.out.2.2.2.2;have h7:=hq.out.1.1;omega) hq.out.1.2).mono ?_;rintro e w9 ⟨s9,rfl,h8,hb8⟩;have H9:=Lib.hid h8;have F9:=Lib.hid hb8;have V9:=Lib.hid (V8.out.trans (hb8.mono V8.out.size));clear h8 hb8;unfold opCells;dsimp only [delV])) | (go_at_call_of 127 A6;go_loud (refine ((rNode_any w7 (delV q1) s7 A6 n6 c6 q2 H7.out ⟨by have h6:=hq.out.1.1;show q1.length≤1000;omega,Nat.zero_le _⟩ (H6.out.1.below F7.out) H6.out.2.1 H6.out.2.2.1 H6.out.2.2.2.1 (by have h6:=H6.out.2.2.2.2;have h7:=hq.out.2.1;omega)).mono fun e w' h=>nodeS h).mono ?_;rintro e w8 ⟨A8,n8,c8,bb8,rfl,h8,hb8⟩;have H8:=Lib.hid (own_facts h8);have hq3:=Lib.hid (nodeD_ok (a:=delV q1) ⟨by have h6:=hq.out.1.1;show q1.length≤1000;omega,Nat.zero_le _⟩ (op_ok H7.out) hq.out.2.2);rw [← HQ3.out] at H8 hq3;have F8:=Lib.hid hb8;have V8:=Lib.hid (V7.out.trans (hb8.mono V7.out.size));clear h8 hb8)) | (go_at_call_of 161 A5;go_loud (refine (drop_any w6 A5 n5 c5 q1 (H5.out.1.below F6.out) H5.out.2.1 H5.out.2.2.1 H5.out.2.2.2.1 (by have h6:=H5.out.2.2.2.2;have h7:=hq.out.1.1;omega) hq.out.1.2).mono ?_;rintro e w7 ⟨s7,rfl,h8,hb8⟩;have H7:=Lib.hid h8;have F7:=Lib.hid hb8;have V7:=Lib.hid (V6.out.trans (hb8.mono V6.out.size));clear h8 hb8;unfold opCells;dsimp only [delV])) | (go_at_call_of 127 sb.pA;go_loud (refine (hnodeB.out w5 V5.out).mono ?_;rintro e w6 ⟨A6,n6,c6,bb6,rfl,h6,hb6⟩;have H6:=Lib.hid (own_facts h6);have F6:=Lib.hid hb6;have V6:=Lib.hid (V5.out.trans (hb6.mono V5.out.size));clear h6 hb6 o0 o1 o2 o3 o4 o5 o6 o7 o8 o9 o10 a0 a1 a2 a3 a4 a5 a6 a7 a8 a9 a10)) | (go_at_call_of 127 sa.pA;go_loud (refine (hnodeA.out _ (by first | exact z4'.out | exact draws z4'.out _)).mono ?_;rintro e w5 ⟨A5,n5,c5,bb5,rfl,h5,hb5⟩;have H5:=Lib.hid (own_facts h5);have V5:=Lib.hid (show Below w.heap.size w w5 by first | exact Below.trans z4'.out (hb5.mono (Below.size z4'.out)) | exact Below.trans (draws z4'.out _) (hb5.mono (Below.size (draws z4'.out _))));have E5:=Lib.hid (show Below W2.heap.size W2 w5 by first | exact hb5 | exact Below.trans (draws (Below.refl W2.heap.size W2) _) hb5);clear h5 hb5 o0 o1 o2 o3 o4 o5 o6 o7 o8 o9 o10 a0 a1 a2 a3 a4 a5 a6 a7 a8 a9 a10;obtain ⟨r1,r2⟩:=hrow.out _ E5.out;obtain ⟨o0,o1,o2,o3,o4,o5,o6,o7,o8,o9,o10⟩:=op_cells r1;obtain ⟨a0,a1,a2,a3,a4,a5,a6,a7,a8,a9,a10⟩:=op_cells r2;clear r1 r2)) | (go_at_call_of 159 sa.tA;go_loud (refine (hw4.out _ (by first | exact z4'.out | exact draws z4'.out _)).mono ?_;rintro e wy ⟨rfl,kw4,rfl⟩)) | (go_at_call_of 159 sa.pA;go_loud (refine (hw3.out _ (by first | exact z4'.out | exact draws z4'.out _)).mono ?_;rintro e wx ⟨rfl,kw3,rfl⟩)))
        go_ret2
        rw [hval.out]
        exact ⟨_,rfl,RowA.two VT.out (H9.out.below FT.out) HT.out⟩
    | false =>
      rw [h_w3] at hw3
      have H_w3:=Lib.hid h_w3
      clear h_w3
      have hval:=Lib.hid (show becomesV b a prior = [shiftedV b a prior] from val_k23b HV.out.1 HV.out.2 (.inr (.inl H_w3.out)))
      go_wp2_with (first | (go_at_call 160;go_loud (refine (one_any w8 _ s8 H8.out).mono ?_;rintro e w9 ⟨v9,rfl,h9⟩;obtain ⟨A9,n9,c9,rfl⟩:=rowA_slice h9;have H9:=Lib.hid (h9.from_ V8.out);clear h9)) | (go_at_call 164;go_loud (refine (hshift.out _ (by first | exact z4'.out | exact draws z4'.out _)).mono ?_;rintro e w8 ⟨s8,rfl,h8,hb8⟩;have H8:=Lib.hid h8;have V8:=Lib.hid (show Below w.heap.size w w8 by first | exact Below.trans z4'.out (hb8.mono (Below.size z4'.out)) | exact Below.trans (draws z4'.out _) (hb8.mono (Below.size (draws z4'.out _))));clear h8 hb8 o0 o1 o2 o3 o4 o5 o6 o7 o8 o9 o10 a0 a1 a2 a3 a4 a5 a6 a7 a8 a9 a10;unfold opCells)) | (go_at_call_of 159 sa.pA;go_loud (refine (hw3.out _ (by first | exact z4'.out | exact draws z4'.out _)).mono ?_;rintro e wx ⟨rfl,kw3,rfl⟩)))
      go_ret2
      rw [hval.out]
      exact ⟨_,rfl,H9.out⟩
  · have hlI:¬ (sb.pn:Int) < (sa.pn:Int):=by omega
    have HS:=Lib.hid (hlen.out hlt)
    clear hlt
    have hval:=Lib.hid (show becomesV b a prior = [shiftedV b a prior] from val_k23b HV.out.1 HV.out.2 (HS.out.imp id .inl))
    go_wp2_with (first | (go_at_call 160;go_loud (refine (one_any w8 _ s8 H8.out).mono ?_;rintro e w9 ⟨v9,rfl,h9⟩;obtain ⟨A9,n9,c9,rfl⟩:=rowA_slice h9;have H9:=Lib.hid (h9.from_ V8.out);clear h9)) | (go_at_call 164;go_loud (refine (hshift.out _ (by first | exact z4'.out | exact draws z4'.out _)).mono ?_;rintro e w8 ⟨s8,rfl,h8,hb8⟩;have H8:=Lib.hid h8;have V8:=Lib.hid (show Below w.heap.size w w8 by first | exact Below.trans z4'.out (hb8.mono (Below.size z4'.out)) | exact Below.trans (draws z4'.out _) (hb8.mono (Below.size (draws z4'.out _))));clear h8 hb8 o0 o1 o2 o3 o4 o5 o6 o7 o8 o9 o10 a0 a1 a2 a3 a4 a5 a6 a7 a8 a9 a10;unfold opCells)))
    go_ret2
    rw [hval.out]
    exact ⟨_,rfl,H9.out⟩
end Go.Proofs.Ytfaolhcacaeijaa.Sqr

