/- The document's behind: two Edits. -/
import Derived.Test.YtidimannfemnmaaMgAT
import Derived.Test.YtidimannfemnmaaLtxRt
import Derived.Test.YtidimannfemnmaaMgAO
set_option linter.all false
namespace Go.Proofs.Ytidimannfemnmaa.Sqr
open Go.RowKit Top Shf Sim
set_option maxRecDepth 20000


set_option maxHeartbeats 32000000 in
theorem rbehind_k66 (w:World) (b a:Ov) (sb sa:OS) (prior:Bool) (hb:OpIn w b sb) (ha:OpIn w a sa) (hlb:Tiny b) (hla:Tiny a) (hkb:b.kind = 6) (hka:a.kind = 6) (hrb:P5.rightV b.pieces = true) (hra:P5.rightV a.pieces = true) (htb:P5.totP (pcs b.pieces)≤2000) (hta:P5.totP (pcs a.pieces)≤2000) :
    Calls Try.prog 171 #[.agg (opCells b sb),.agg (opCells a sa),.bool prior] w fun e w'=>∃ v,e = .returned (.tuple #[v,.int .i64 0])∧RowA w (becomesV b a prior) v w':=by
  obtain ⟨z1,z2,z4,z5⟩:=two_news w (.cells (opCells b sb) 52) (.cells (opCells a sa) 52)
  obtain ⟨W2,hW2⟩:∃ Q9,Q9 = ((w.alloc (.cells (opCells b sb) 52)).alloc (.cells (opCells a sa) 52)):=⟨_,rfl⟩
  rw [← hW2] at z1 z2 z4 z5
  have z1':=Lib.hid z1
  have z2':=Lib.hid z2
  have z4':=Lib.hid z4
  have z5':=Lib.hid z5
  have hrow:=Lib.hid (fun (W:World) (hB:Below W2.heap.size W2 W)=>And.intro ((hB.block w.heap.size (by omega)).trans z1) ((hB.block (w.heap.size + 1) (by omega)).trans z2))
  obtain ⟨sm,hsm⟩:∃ Q9,Q9 = P4.eqV b.path a.path:=⟨_,rfl⟩
  have hs:=Lib.hid (fun (W:World) (hB:Below w.heap.size w W)=>(rsame_its W sa.pA sb.pA sa.pn sa.pc sb.pn sb.pc a.path b.path (ha.below hB).path (hb.below hB).path (Nat.le_trans ha.pnc ha.pcm) (Nat.le_trans hb.pnc hb.pcm)).mono (R':=fun e w'=>e = .returned (.bool sm)∧∃ k,w' = W.drewN k) fun e w' h=>⟨by rw [hsm,eqV_comm];exact h.1,h.2⟩)
  have hsm2:=Lib.hid hsm.symm
  have hbo:=Lib.hid (fun (W:World) (hB:Below w.heap.size w W)=>And.intro (hb.below hB) (ha.below hB))
  have hkr:=Lib.hid (show b.kind < 256∧a.kind < 256 from ⟨hb.kind,ha.kind⟩)
  have hti:=Lib.hid (And.intro hlb hla)
  have HV:=Lib.hid (And.intro hkb hka)
  have htr:=Lib.hid (fun (W:World) (hB:Below w.heap.size w W)=>P5.rtransform_ok W sb.qA sa.qA sb.qn sb.qc sa.qn sa.qc (pcs b.pieces) (pcs a.pieces) prior (by rw [pcs_right hrb];exact (hb.below hB).pieces) (by rw [pcs_right hra];exact (ha.below hB).pieces) (by have h5:=hb.pieces.1;have h6:=right_few hrb;omega) (by have h5:=ha.pieces.1;have h6:=right_few hra;omega) htb hta (by rw [pcs_right hrb];exact hrb) (by rw [pcs_right hra];exact hra))
  have hfine:=Lib.hid (show Ltx.Fine (Ltx.trans (Ltx.norm (pcs b.pieces)) (Ltx.norm (pcs a.pieces)) prior) from Ltx.trans_fine (n:=2000) (Nat.le_refl _) _ (by have h1:=P5.totP_norm (pcs b.pieces);show P5.totP _≤2000;omega) (by have h1:=P5.totP_norm (pcs a.pieces);show P5.totP _≤2000;omega))
  obtain ⟨r,hr⟩:∃ Q9,Q9 = editV b a prior:=⟨_,rfl⟩
  obtain ⟨X1,hX1⟩:∃ Q9,Q9 = Ltx.trans (Ltx.norm (pcs b.pieces)) (Ltx.norm (pcs a.pieces)) prior:=⟨_,rfl⟩
  have hed:=Lib.hid (show r = editV b a prior∧r = { b with pieces:=X1.map P5.ipc } from ⟨hr,by rw [hr,hX1];rfl⟩)
  rw [← hX1] at htr hfine
  clear hr hX1 hrb hra htb hta
  have hshift:=Lib.hid (fun (W:World) (hB:Below w.heap.size w W)=>row9_any W b a sb sa prior (hb.below hB) (ha.below hB) hlb.slen hla.slen)
  clear hb ha z1 z2 z4 z5 hlb hla hsm
  unfold opCells at hW2 hshift
  unfold opCells
  have ea2:((a.kind:Int) == 2) = false:=by simp;omega
  have ea3:((a.kind:Int) == 3) = false:=by simp;omega
  have ekk:((a.kind:Int) == (b.kind:Int)) = true:=by simp;omega
  have eb2:((b.kind:Int) == 2) = false:=by simp;omega
  have eb3:((b.kind:Int) == 3) = false:=by simp;omega
  have eb4:((b.kind:Int) == 4) = false:=by simp;omega
  have eb5:((b.kind:Int) == 5) = false:=by simp;omega
  have eb6:((b.kind:Int) == 6) = true:=by simp;omega
  try clear hka
  try clear hkb
  go_enter Try.func171,Try.ntmps171
  go_upto_region 1 with fail
  rw [← hW2]
  clear hW2
  obtain ⟨r1,r2⟩:=hrow.out W2 (Below.refl _ _)
  obtain ⟨o0,o1,o2,o3,o4,o5,o6,o7,o8,o9,o10⟩:=op_cells r1
  obtain ⟨a0,a1,a2,a3,a4,a5,a6,a7,a8,a9,a10⟩:=op_cells r2
  clear r1 r2
  cases sm with
  | true =>
    have hval:=Lib.hid (show becomesV b a prior = [r] from (val_k66a HV.out.1 HV.out.2 hsm2.out).trans (by rw [hed.out.1]))
    go_upto_region 19 with (first | (go_at_call 195;(refine (htr.out _ (by first | exact z4'.out | exact draws z4'.out _)).mono ?_;rintro e w1 ⟨v1,v2,rfl,h1,h2,hb1⟩;have hlow:=(fun q hq=>by have e1:=hfine.out.2.1 q hq;have e2:=(Ltx.mem_sizes hq).2;have e3:=hfine.out.2.2;omega:P5.Low X1);obtain ⟨A1,n1,c1,rfl,-⟩:=P5.OwnP.shape h1 hlow;have H1:=Lib.hid h1;have E1:=Lib.hid (show Below W2.heap.size W2 w1 by first | exact hb1 | exact Below.trans (draws (Below.refl W2.heap.size W2) _) hb1);have HL:=Lib.hid hlow;clear o0 o1 o2 o3 o4 o5 o6 o7 o8 o9 o10 a0 a1 a2 a3 a4 a5 a6 a7 a8 a9 a10 h1 h2 hb1 hlow;obtain ⟨r1,r2⟩:=hrow.out _ E1.out;have Y1:=Lib.hid r1;have hof:=op_frozen r1;have hlt:w.heap.size < w1.heap.size:=(Array.getElem?_eq_some_iff.1 r1).1;obtain ⟨o0,o1,o2,o3,o4,o5,o6,o7,o8,o9,o10⟩:=op_cells r1;clear r1 r2)) | (go_at_call 108;(refine (hs.out _ (by first | exact z4'.out | exact draws z4'.out _)).mono ?_;rintro e ws ⟨rfl,ks,rfl⟩)))
    obtain ⟨W5,hW5⟩:∃ Q9,Q9 = w1.setCell ⟨w.heap.size,10,none⟩ (.slice A1 n1 c1):=⟨_,rfl⟩
    rw [← hW5]
    have R1:=Lib.hid (show W5.heap[w.heap.size]? = some (.cells (opCells ({ b with pieces:=X1.map P5.ipc }:Ov) ({ sb with qA:=A1,qn:=n1,qc:=c1 }:OS)) 52 (0,0)) by rw [hW5];exact set_op10 A1 n1 c1 _ Y1.out)
    have B5:=Lib.hid (show Below w.heap.size w W5 by rw [hW5];exact (z4'.out.trans (E1.out.mono z4'.out.size)).setCell (p:=⟨w.heap.size,10,none⟩) (Nat.le_refl _) _)
    have O5:=Lib.hid (show ∀ k,k ≠ w.heap.size→W5.heap[k]? = w1.heap[k]? by intro k hk;rw [hW5];exact heap_setCell_other _ _ k _ hk)
    have hin:=Lib.hid (show OpIn W5 { b with pieces:=X1.map P5.ipc } { sb with qA:=A1,qn:=n1,qc:=c1 } from by
      obtain ⟨A',n',c',e0,e1,e2,e3,e4,e5⟩:=P5.OwnP.shape (Top.own_kept (w':=W5) H1.out fun k h1 h2=>O5.out k (by have h3:=z5'.out;have h4:W2.heap.size≤k:=h1;omega)) HL.out
      injection e0 with f1 f2 f3
      subst f1 f2 f3
      exact with_pieces (hbo.out W5 B5.out).1 e4 e2 e3 e5 (by rw [List.length_map];have:=hfine.out.1;omega))
    clear hW5 o0 o1 o2 o3 o4 o5 o6 o7 o8 o9 o10 hof hlt
    obtain ⟨o0,o1,o2,o3,o4,o5,o6,o7,o8,o9,o10⟩:=op_cells R1.out
    dsimp only at o0 o1 o2 o3 o4 o5 o6 o7 o8 o9 o10
    go_wp2_with (go_at_call 191;(refine (one_any W5 _ _ hin.out).mono ?_;rintro e w9 ⟨v9,rfl,h9⟩;have H9:=Lib.hid (h9.from_ B5.out);clear h9))
    go_ret2
    rw [hval.out,hed.out.2]
    exact ⟨_,rfl,H9.out⟩
  | false =>
    have hval:=Lib.hid (show becomesV b a prior = [shiftedV b a prior] from val_k66b HV.out.1 HV.out.2 hsm2.out)
    go_wp2_with (first | (go_at_call 191;(refine (one_any w8 _ s8 H8.out).mono ?_;rintro e w9 ⟨v9,rfl,h9⟩;obtain ⟨A9,n9,c9,rfl⟩:=rowA_slice h9;have H9:=Lib.hid (h9.from_ V8.out);clear h9)) | (go_at_call 196;(refine (hshift.out _ (by first | exact z4'.out | exact draws z4'.out _)).mono ?_;rintro e w8 ⟨s8,rfl,h8,hb8⟩;have H8:=Lib.hid h8;have V8:=Lib.hid (show Below w.heap.size w w8 by first | exact Below.trans z4'.out (hb8.mono (Below.size z4'.out)) | exact Below.trans (draws z4'.out _) (hb8.mono (Below.size (draws z4'.out _))));clear h8 hb8 o0 o1 o2 o3 o4 o5 o6 o7 o8 o9 o10 a0 a1 a2 a3 a4 a5 a6 a7 a8 a9 a10;unfold opCells)) | (go_at_call 108;(refine (hs.out _ (by first | exact z4'.out | exact draws z4'.out _)).mono ?_;rintro e ws ⟨rfl,ks,rfl⟩)))
    go_ret2
    rw [hval.out]
    exact ⟨_,rfl,H9.out⟩
end Go.Proofs.Ytidimannfemnmaa.Sqr

