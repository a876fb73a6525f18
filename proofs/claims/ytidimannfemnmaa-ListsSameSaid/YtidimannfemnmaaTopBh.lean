/- The program's Same. -/
import Derived.Test.YtidimannfemnmaaMgAR
import Derived.Deep.CutBlock
set_option linter.all false
namespace Go.Proofs.Ytidimannfemnmaa.Top
open Go.RowKit
set_option maxRecDepth 20000

set_option maxHeartbeats 8000000 in
theorem psame_any (w:World) (a b:Ov) (sa sb:OS) (ha:OpIn w a sa) (hb:OpIn w b sb):Calls Try.prog 129 #[.agg (opCells a sa),.agg (opCells b sb)] w fun e w'=>e = .returned (.bool (sameB (bareV a) (bareV b)))∧Below w.heap.size w w':=by
  obtain ⟨z1,z2,z4,z5⟩:=pair_new w (.cells (opCells a sa) 52) (.cells (opCells b sb) 52)
  obtain ⟨W2,hW2⟩:∃ W2,W2 = (w.alloc (.cells (opCells a sa) 52)).alloc (.cells (opCells b sb) 52):=⟨_,rfl⟩
  rw [← hW2] at z1 z2 z4 z5
  have hba:=Lib.hid (fun (W:World) (h:Below w.heap.size w W)=>bare_any W a sa (ha.below h))
  have hbb:=Lib.hid (fun (W:World) (h:Below w.heap.size w W)=>bare_any W b sb (hb.below h))
  have hoka:=Lib.hid (op_ok ha).bare
  have hokb:=Lib.hid (op_ok hb).bare
  obtain ⟨A,hA⟩:∃ A,A = bareV a:=⟨_,rfl⟩
  obtain ⟨B,hB⟩:∃ B,B = bareV b:=⟨_,rfl⟩
  rw [← hA] at hba hoka
  rw [← hB] at hbb hokb
  rw [← hA,← hB]
  clear ha hb hA hB
  have z1':=Lib.hid z1
  have z2':=Lib.hid z2
  have z4':=Lib.hid z4
  have z5':=Lib.hid z5
  unfold opCells at z1 z2 hW2
  obtain ⟨p0,p1,p2,p3,p4,p5,p6,p7,p8,p9,p10,pf⟩:=eleven_cells z1
  obtain ⟨q0,q1,q2,q3,q4,q5,q6,q7,q8,q9,q10,qf⟩:=eleven_cells z2
  clear z1 z2 z4 z5
  unfold opCells
  unfold BareA opCells at hba hbb
  rw [hW2] at p0 p1 p2 p3 p4 p5 p6 p7 p8 p9 p10 pf q0 q1 q2 q3 q4 q5 q6 q7 q8 q9 q10 qf
  go_enter Try.func129,Try.ntmps129
  go_upto_region 1 with fail
  rw [← hW2] at p0 p1 p2 p3 p4 p5 p6 p7 p8 p9 p10 pf q0 q1 q2 q3 q4 q5 q6 q7 q8 q9 q10 qf ⊢
  clear hW2
  go_cut [] from 5 (fun wc=>∃ s1 s2,OwnOp W2.heap.size wc A s1∧OwnOp W2.heap.size wc B s2∧wc.heap[w.heap.size]? = some (.cells (opCells A s1) 52 (0,0))∧wc.heap[w.heap.size + 1]? = some (.cells (opCells B s2) 52 (0,0))∧Below w.heap.size w wc)
  case first =>
    go_region_with (first
      | (go_at_call_of 105 sa.pA;(refine (hba.out _ (z4'.out.drew)).mono ?_;rintro e w1 ⟨s1,rfl,ho1,hb1⟩;have O1:=Lib.hid ho1;have B1:=Lib.hid (show Below W2.heap.size W2 w1 from (Below.refl W2.heap.size W2).drew.trans hb1);have y2:=(B1.out.block (w.heap.size + 1) (by have:=z5'.out;omega)).trans z2'.out;clear p0 p1 p2 p3 p4 p5 p6 p7 p8 p9 p10 pf q0 q1 q2 q3 q4 q5 q6 q7 q8 q9 q10 qf;unfold opCells at y2;obtain ⟨q0,q1,q2,q3,q4,q5,q6,q7,q8,q9,q10,qf⟩:=eleven_cells y2;clear ho1 hb1 y2))
      | (go_at_call_of 105 sb.pA;(refine (hbb.out w1 (z4'.out.trans (B1.out.mono z4'.out.size))).mono ?_;rintro e w4 ⟨s2,rfl,ho2,hb2⟩;have O2:=Lib.hid ho2;have B2:=Lib.hid hb2;have y2:=(hb2.block (w.heap.size + 1) (by have:=z5'.out;have:=B1.out.size;omega)).trans ((B1.out.block (w.heap.size + 1) (by have:=z5'.out;omega)).trans z2'.out);have Y2:=Lib.hid y2;have y1:=(hb2.block w.heap.size (by have:=z5'.out;have:=B1.out.size;omega)).trans ((B1.out.block w.heap.size (by have:=z5'.out;omega)).trans z1'.out);have Y1:=Lib.hid y1;clear q0 q1 q2 q3 q4 q5 q6 q7 q8 q9 q10 qf;unfold opCells at y2 y1;obtain ⟨q0,q1,q2,q3,q4,q5,q6,q7,q8,q9,q10,qf⟩:=eleven_cells y2;obtain ⟨p0,p1,p2,p3,p4,p5,p6,p7,p8,p9,p10,pf⟩:=eleven_cells y1;have hl1:w.heap.size < w4.heap.size:=(Array.getElem?_eq_some_iff.1 y1).1;have hl2:w.heap.size + 1 < w4.heap.size:=(Array.getElem?_eq_some_iff.1 y2).1;clear ho2 hb2 y2 y1)))
    all_goals
      have y1:=Y1.out
      unfold opCells at y1
      obtain ⟨Wm,hWm,Rm,Cm,Zm,Km⟩:=end_op (o:=A) (s:=s1) (w:=w) (r:=w.heap.size) (Nat.le_refl _) ((z4'.out.trans (B1.out.mono z4'.out.size)).trans (B2.out.mono (z4'.out.trans (B1.out.mono z4'.out.size)).size)) y1
      have y2:=(Km (w.heap.size + 1) (by omega)).trans Y2.out
      unfold opCells at y2
      obtain ⟨W5,hW5,R5,C5,Z5,K5⟩:=end_op (o:=B) (s:=s2) (w:=w) (r:=w.heap.size + 1) (by omega) Cm y2
      have kk:∀ k,W2.heap.size≤k→W5.heap[k]? = w4.heap[k]?:=fun k hk=>(K5 k (by have:=z5'.out;omega)).trans (Km k (by have:=z5'.out;omega))
      rw [← hWm,← hW5]
      clear hWm hW5 p0 p1 p2 p3 p4 p5 p6 p7 p8 p9 p10 pf q0 q1 q2 q3 q4 q5 q6 q7 q8 q9 q10 qf
      have F:=Lib.hid (show OwnOp W2.heap.size W5 A s1∧OwnOp W2.heap.size W5 B s2∧W5.heap[w.heap.size]? = some (.cells (opCells A s1) 52 (0,0))∧W5.heap[w.heap.size + 1]? = some (.cells (opCells B s2) 52 (0,0))∧Below w.heap.size w W5 from
        ⟨((O1.out.mono (Nat.le_refl _)).kept fun k h1 h2=>(kk k h1).trans (B2.out.block k h2)),((O2.out.mono B1.out.size).kept fun k h1 h2=>kk k h1),(K5 w.heap.size (by omega)).trans Rm,R5,C5⟩)
      clear R5 C5 Z5 K5 Rm Cm Zm Km kk y1 y2
      go_wp2_with fail
      go_meet
      exact ⟨s1,s2,F.out⟩
  case rest =>
    obtain ⟨s1,s2,h1,h2,h3,h4,h5⟩:=hcut
    have O1':=Lib.hid (h1.op hoka.out)
    have O2':=Lib.hid (h2.op hokb.out)
    have C5':=Lib.hid h5
    clear p0 p1 p2 p3 p4 p5 p6 p7 p8 p9 p10 pf q0 q1 q2 q3 q4 q5 q6 q7 q8 q9 q10 qf
    unfold opCells at h3 h4
    obtain ⟨p0,p1,p2,p3,p4,p5,p6,p7,p8,p9,p10,pf⟩:=eleven_cells h3
    obtain ⟨q0,q1,q2,q3,q4,q5,q6,q7,q8,q9,q10,qf⟩:=eleven_cells h4
    clear h1 h2 h3 h4 h5 hba hbb
    go_wp2_with (first
      | (go_at_call_of 102 s1.pA;(refine (P4.same_any wc s1.pA s2.pA s1.pn s1.pc s2.pn s2.pc A.path B.path O1'.out.path O2'.out.path (Nat.le_trans O1'.out.pnc O1'.out.pcm)).mono ?_;rintro e w6 ⟨rfl,k6,rfl⟩))
      | (go_at_call_of 102 s1.tA;(refine (P4.same_any _ s1.tA s2.tA s1.tn s1.tc s2.tn s2.tc A.to_ B.to_ (P4.Its.drewN O1'.out.to_ _) (P4.Its.drewN O2'.out.to_ _) (Nat.le_trans O1'.out.tnc O1'.out.tcm)).mono ?_;rintro e w7 ⟨rfl,k7,rfl⟩))
      | (go_at_call 169;(refine (P5.slEqP_any _ s1.qA s2.qA s1.qn s1.qc s2.qn s2.qc A.pieces B.pieces (O1'.out.pieces.below (draws (Below.refl _ _) _)) (O2'.out.pieces.below (draws (Below.refl _ _) _)) (Nat.le_trans O1'.out.qnc O1'.out.qcm) (Nat.le_trans O2'.out.qnc O2'.out.qcm)).mono ?_;rintro e w8 ⟨rfl,hb8⟩;have B8:=Lib.hid hb8;clear hb8)))
    all_goals clear p0 p1 p2 p3 p4 p5 p6 p7 p8 p9 p10 pf q0 q1 q2 q3 q4 q5 q6 q7 q8 q9 q10 qf
    all_goals go_ret
    all_goals refine ⟨?_,?_⟩
    all_goals first
      | (rw [show sameB A B = false by unfold sameB;simp [*]];rfl)
      | (rw [show sameB A B = P5.sameP A.pieces B.pieces by unfold sameB;simp [*]];rfl)
      | exact C5'.out
      | exact draws C5'.out _
      | exact (draws C5'.out _).trans (B8.out.mono (draws C5'.out _).size)
end Go.Proofs.Ytidimannfemnmaa.Top

