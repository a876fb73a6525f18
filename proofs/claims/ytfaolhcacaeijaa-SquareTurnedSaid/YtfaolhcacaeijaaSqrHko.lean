/- The document's behind: two kinds that have no row of their own. -/
import Derived.Test.YtfaolhcacaeijaaMgAU
import Derived.Test.YtfaolhcacaeijaaMgAP
set_option linter.all false
namespace Go.Proofs.Ytfaolhcacaeijaa.Sqr
open Go.RowKit Top Shf Sim
set_option maxRecDepth 20000
set_option linter.unusedVariables false


set_option maxHeartbeats 32000000 in
theorem rbehind_ko (w:World) (b a:Ov) (sb sa:OS) (prior:Bool) (hb:OpIn w b sb) (ha:OpIn w a sa) (hlb:Tiny b) (hla:Tiny a) (h2:a.kind ≠ 2) (hka:¬ (b.kind = 2∧a.kind = 3)∧¬ (b.kind = 3∧a.kind = 3)∧¬ (b.kind = 4∧a.kind = 4)∧¬ (b.kind = 5∧a.kind = 5)∧¬ (b.kind = 6∧a.kind = 6)) :
    Calls Try.prog 77 #[.agg (opCells b sb),.agg (opCells a sa),.bool prior] w fun e w'=>∃ v,e = .returned (.tuple #[v,.int .i64 0])∧RowA w (becomesV b a prior) v w':=by
  obtain ⟨z1,z2,z4,z5⟩:=two_news w (.cells (opCells b sb) 26) (.cells (opCells a sa) 26)
  obtain ⟨W2,hW2⟩:∃ Q9,Q9 = ((w.alloc (.cells (opCells b sb) 26)).alloc (.cells (opCells a sa) 26)):=⟨_,rfl⟩
  rw [← hW2] at z1 z2 z4 z5
  have z1':=Lib.hid z1
  have z2':=Lib.hid z2
  have z4':=Lib.hid z4
  have z5':=Lib.hid z5
  have hrow:=Lib.hid (fun (W:World) (hB:Below W2.heap.size W2 W)=>And.intro ((hB.block w.heap.size (by omega)).trans z1) ((hB.block (w.heap.size + 1) (by omega)).trans z2))
  obtain ⟨sm,hsm⟩:∃ Q9,Q9 = P4.eqV b.path a.path:=⟨_,rfl⟩
  have hs:=Lib.hid (fun (W:World) (hB:Below w.heap.size w W)=>(rsame_its W sa.pA sb.pA sa.pn sa.pc sb.pn sb.pc a.path b.path (ha.below hB).path (hb.below hB).path (Nat.le_trans ha.pnc ha.pcm) (Nat.le_trans hb.pnc hb.pcm)).mono (R':=fun e w'=>e = .returned (.bool sm)∧∃ k,w' = W.drewN k) fun e w' h=>⟨by rw [hsm,eqV_comm];exact h.1,h.2⟩)
  have hsm2:=Lib.hid hsm.symm
  have hbo:=Lib.hid (fun (W:World) (hB:Below w.heap.size w W)=>And.intro (hb.below hB) (ha.below hB))
  have hkr:=Lib.hid (show b.kind < 256∧a.kind < 256 from ⟨hb.kind,ha.kind⟩)
  have hti:=Lib.hid (And.intro hlb hla)
  have HV:=Lib.hid (And.intro h2 hka)
  have hshift:=Lib.hid (fun (W:World) (hB:Below w.heap.size w W)=>row9_any W b a sb sa prior (hb.below hB) (ha.below hB) hlb.slen hla.slen)
  clear hb ha z1 z2 z4 z5 hlb hla hsm
  unfold opCells at hW2 hshift
  unfold opCells
  have ea2:((a.kind:Int) == 2) = false:=by simp;omega
  clear h2
  try clear hka
  try clear hkb
  go_enter Try.func77,Try.ntmps77
  go_upto_region 1 with fail
  rw [← hW2]
  clear hW2
  obtain ⟨r1,r2⟩:=hrow.out W2 (Below.refl _ _)
  obtain ⟨o0,o1,o2,o3,o4,o5,o6,o7,o8,o9,o10⟩:=op_cells r1
  obtain ⟨a0,a1,a2,a3,a4,a5,a6,a7,a8,a9,a10⟩:=op_cells r2
  clear r1 r2
  by_cases hkk:a.kind = b.kind
  · have hb0:b.kind ≠ 2∧b.kind ≠ 3∧b.kind ≠ 4∧b.kind ≠ 5∧b.kind ≠ 6:=by have h6:=HV.out.1;have h7:=HV.out.2;omega
    have ekk:((a.kind:Int) == (b.kind:Int)) = true:=by simp;omega
    have ea3:((a.kind:Int) == 3) = false:=by simp;omega
    have eb2:((b.kind:Int) == 2) = false:=by simp;omega
    have eb3:((b.kind:Int) == 3) = false:=by simp;omega
    have eb4:((b.kind:Int) == 4) = false:=by simp;omega
    have eb5:((b.kind:Int) == 5) = false:=by simp;omega
    have eb6:((b.kind:Int) == 6) = false:=by simp;omega
    clear hkk hb0
    cases sm with
    | true =>
      have hval:=Lib.hid (show becomesV b a prior = [shiftedV b a prior] from val_ko HV.out.1 HV.out.2)
      go_wp2_with (first | (go_at_call 160;go_loud (refine (one_any w8 _ s8 H8.out).mono ?_;rintro e w9 ⟨v9,rfl,h9⟩;obtain ⟨A9,n9,c9,rfl⟩:=rowA_slice h9;have H9:=Lib.hid (h9.from_ V8.out);clear h9)) | (go_at_call 164;go_loud (refine (hshift.out _ (by first | exact z4'.out | exact draws z4'.out _)).mono ?_;rintro e w8 ⟨s8,rfl,h8,hb8⟩;have H8:=Lib.hid h8;have V8:=Lib.hid (show Below w.heap.size w w8 by first | exact Below.trans z4'.out (hb8.mono (Below.size z4'.out)) | exact Below.trans (draws z4'.out _) (hb8.mono (Below.size (draws z4'.out _))));clear h8 hb8 o0 o1 o2 o3 o4 o5 o6 o7 o8 o9 o10 a0 a1 a2 a3 a4 a5 a6 a7 a8 a9 a10;unfold opCells)) | (go_at_call 79;go_loud (refine (hs.out _ (by first | exact z4'.out | exact draws z4'.out _)).mono ?_;rintro e ws ⟨rfl,ks,rfl⟩)))
      go_ret2
      rw [hval.out]
      exact ⟨_,rfl,H9.out⟩
    | false =>
      have hval:=Lib.hid (show becomesV b a prior = [shiftedV b a prior] from val_ko HV.out.1 HV.out.2)
      go_wp2_with (first | (go_at_call 160;go_loud (refine (one_any w8 _ s8 H8.out).mono ?_;rintro e w9 ⟨v9,rfl,h9⟩;obtain ⟨A9,n9,c9,rfl⟩:=rowA_slice h9;have H9:=Lib.hid (h9.from_ V8.out);clear h9)) | (go_at_call 164;go_loud (refine (hshift.out _ (by first | exact z4'.out | exact draws z4'.out _)).mono ?_;rintro e w8 ⟨s8,rfl,h8,hb8⟩;have H8:=Lib.hid h8;have V8:=Lib.hid (show Below w.heap.size w w8 by first | exact Below.trans z4'.out (hb8.mono (Below.size z4'.out)) | exact Below.trans (draws z4'.out _) (hb8.mono (Below.size (draws z4'.out _))));clear h8 hb8 o0 o1 o2 o3 o4 o5 o6 o7 o8 o9 o10 a0 a1 a2 a3 a4 a5 a6 a7 a8 a9 a10;unfold opCells)) | (go_at_call 79;go_loud (refine (hs.out _ (by first | exact z4'.out | exact draws z4'.out _)).mono ?_;rintro e ws ⟨rfl,ks,rfl⟩)))
      go_ret2
      rw [hval.out]
      exact ⟨_,rfl,H9.out⟩
  · have ekk:((a.kind:Int) == (b.kind:Int)) = false:=by simp;omega
    by_cases ha3:a.kind = 3
    · have hb0:b.kind ≠ 2∧b.kind ≠ 3:=by have h7:=HV.out.2;omega
      have ea3:((a.kind:Int) == 3) = true:=by simp;omega
      have eb2:((b.kind:Int) == 2) = false:=by simp;omega
      have eb3:((b.kind:Int) == 3) = false:=by simp;omega
      clear hkk hb0 ha3
      have hval:=Lib.hid (show becomesV b a prior = [shiftedV b a prior] from val_ko HV.out.1 HV.out.2)
      go_wp2_with (first | (go_at_call 160;go_loud (refine (one_any w8 _ s8 H8.out).mono ?_;rintro e w9 ⟨v9,rfl,h9⟩;obtain ⟨A9,n9,c9,rfl⟩:=rowA_slice h9;have H9:=Lib.hid (h9.from_ V8.out);clear h9)) | (go_at_call 164;go_loud (refine (hshift.out _ (by first | exact z4'.out | exact draws z4'.out _)).mono ?_;rintro e w8 ⟨s8,rfl,h8,hb8⟩;have H8:=Lib.hid h8;have V8:=Lib.hid (show Below w.heap.size w w8 by first | exact Below.trans z4'.out (hb8.mono (Below.size z4'.out)) | exact Below.trans (draws z4'.out _) (hb8.mono (Below.size (draws z4'.out _))));clear h8 hb8 o0 o1 o2 o3 o4 o5 o6 o7 o8 o9 o10 a0 a1 a2 a3 a4 a5 a6 a7 a8 a9 a10;unfold opCells)))
      go_ret2
      rw [hval.out]
      exact ⟨_,rfl,H9.out⟩
    · have ea3:((a.kind:Int) == 3) = false:=by simp;omega
      clear hkk ha3
      have hval:=Lib.hid (show becomesV b a prior = [shiftedV b a prior] from val_ko HV.out.1 HV.out.2)
      go_wp2_with (first | (go_at_call 160;go_loud (refine (one_any w8 _ s8 H8.out).mono ?_;rintro e w9 ⟨v9,rfl,h9⟩;obtain ⟨A9,n9,c9,rfl⟩:=rowA_slice h9;have H9:=Lib.hid (h9.from_ V8.out);clear h9)) | (go_at_call 164;go_loud (refine (hshift.out _ (by first | exact z4'.out | exact draws z4'.out _)).mono ?_;rintro e w8 ⟨s8,rfl,h8,hb8⟩;have H8:=Lib.hid h8;have V8:=Lib.hid (show Below w.heap.size w w8 by first | exact Below.trans z4'.out (hb8.mono (Below.size z4'.out)) | exact Below.trans (draws z4'.out _) (hb8.mono (Below.size (draws z4'.out _))));clear h8 hb8 o0 o1 o2 o3 o4 o5 o6 o7 o8 o9 o10 a0 a1 a2 a3 a4 a5 a6 a7 a8 a9 a10;unfold opCells)))
      go_ret2
      rw [hval.out]
      exact ⟨_,rfl,H9.out⟩
end Go.Proofs.Ytfaolhcacaeijaa.Sqr

