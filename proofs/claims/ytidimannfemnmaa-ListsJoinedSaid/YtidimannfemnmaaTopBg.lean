/- The document's Same. -/
import Derived.Test.YtidimannfemnmaaMgAR
set_option linter.all false
namespace Go.Proofs.Ytidimannfemnmaa.Top
open Go.RowKit
set_option maxRecDepth 20000

set_option maxHeartbeats 8000000 in
theorem rsame_any8 (w:World) (a b:Ov) (sa sb:OS) (ha:OpIn w a sa) (hb:OpIn w b sb):Calls Try.prog 36 #[.agg (opCells a sa),.agg (opCells b sb)] w fun e w'=>e = .returned (.bool (sameB (bareV a) (bareV b)))∧Below w.heap.size w w':=by
  obtain ⟨z1,z2,z4,z5⟩:=pair_new w (.cells (opCells a sa) 52) (.cells (opCells b sb) 52)
  obtain ⟨W2,hW2⟩:∃ W2,W2 = (w.alloc (.cells (opCells a sa) 52)).alloc (.cells (opCells b sb) 52):=⟨_,rfl⟩
  rw [← hW2] at z1 z2 z4 z5
  have hba:=Lib.hid (rbare_any W2 a sa (ha.below z4))
  have hbb:=Lib.hid (fun (W:World) (h:Below w.heap.size w W)=>rbare_any W b sb (hb.below h))
  have hoka:=Lib.hid (op_ok ha).bare
  have hokb:=Lib.hid (op_ok hb).bare
  obtain ⟨A,hA⟩:∃ A,A = bareV a:=⟨_,rfl⟩
  obtain ⟨B,hB⟩:∃ B,B = bareV b:=⟨_,rfl⟩
  rw [← hA] at hba hoka
  rw [← hB] at hbb hokb
  rw [← hA,← hB]
  clear ha hb hA hB
  have z1':=Lib.hid z1
  have z2':=Lib.hid z2
  have z4':=Lib.hid z4
  have z5':=Lib.hid z5
  unfold opCells at z1 hW2 hba
  obtain ⟨p0,p1,p2,p3,p4,p5,p6,p7,p8,p9,p10,pf⟩:=eleven_cells z1
  rw [hW2] at p0 p1 p2 p3 p4 p5 p6 p7 p8 p9 p10 pf hba
  clear z1 z2 z4 z5
  unfold opCells
  unfold BareA opCells at hba hbb
  go_enter Try.func36,Try.ntmps36
  go_upto_region 2 with (go_at_call 32;(refine hba.out.mono ?_;rw [← hW2];rintro e w1 ⟨s1,rfl,ho1,hb1⟩;have O1:=Lib.hid ho1;have B1:=Lib.hid hb1;have y1:=(hb1.block w.heap.size (by have:=z5'.out;omega)).trans z1'.out;have Y1:=Lib.hid y1;clear p0 p1 p2 p3 p4 p5 p6 p7 p8 p9 p10 pf;unfold opCells at y1;obtain ⟨p0,p1,p2,p3,p4,p5,p6,p7,p8,p9,p10,pf⟩:=eleven_cells y1;have hl1:w.heap.size < w1.heap.size:=(Array.getElem?_eq_some_iff.1 y1).1;clear ho1 hb1 y1))
  have y1:=Y1.out
  unfold opCells at y1
  obtain ⟨W3,hW3,R3,C3,Z3,K3⟩:=end_op (o:=A) (s:=s1) (w:=w) (r:=w.heap.size) (Nat.le_refl _) (z4'.out.trans (B1.out.mono z4'.out.size)) y1
  rw [← hW3]
  clear hW3 y1 p0 p1 p2 p3 p4 p5 p6 p7 p8 p9 p10 pf
  have R3':=Lib.hid R3
  have C3':=Lib.hid C3
  have K3':=Lib.hid K3
  have sz3:=Lib.hid (show W2.heap.size≤W3.heap.size by rw [Z3];exact B1.out.size)
  have O3:=Lib.hid (O1.out.kept (w':=W3) fun k h1 h2=>K3 k (by have:=z5'.out;omega))
  have y2:=(K3 (w.heap.size + 1) (by omega)).trans ((B1.out.block (w.heap.size + 1) (by have:=z5'.out;omega)).trans z2'.out)
  have Y2:=Lib.hid y2
  unfold opCells at y2
  obtain ⟨q0,q1,q2,q3,q4,q5,q6,q7,q8,q9,q10,qf⟩:=eleven_cells y2
  clear R3 C3 Z3 K3 y2
  have hbb3:=Lib.hid (hbb.out W3 C3'.out)
  clear hbb
  go_wp2_with (first
    | (go_at_call 32;(refine hbb3.out.mono ?_;rintro e w4 ⟨s2,rfl,ho2,hb2⟩;have O2:=Lib.hid ho2;have B2:=Lib.hid hb2;have y2:=(hb2.block (w.heap.size + 1) (by have:=z5'.out;have:=sz3.out;omega)).trans Y2.out;have Y4:=Lib.hid y2;have x1:=(hb2.block w.heap.size (by have:=z5'.out;have:=sz3.out;omega)).trans R3'.out;have X1:=Lib.hid x1;clear q0 q1 q2 q3 q4 q5 q6 q7 q8 q9 q10 qf;unfold opCells at y2 x1;obtain ⟨q0,q1,q2,q3,q4,q5,q6,q7,q8,q9,q10,qf⟩:=eleven_cells y2;obtain ⟨p0,p1,p2,p3,p4,p5,p6,p7,p8,p9,p10,pf⟩:=eleven_cells x1;have hl2:w.heap.size + 1 < w4.heap.size:=(Array.getElem?_eq_some_iff.1 y2).1;clear ho2 hb2 y2 x1))
    | (go_at_call_of 108 s1.pA;(have y4:=Y4.out;unfold opCells at y4;obtain ⟨W5,hW5,R5,C5,Z5,K5⟩:=end_op (o:=B) (s:=s2) (w:=w) (r:=w.heap.size + 1) (by omega) (C3'.out.trans (B2.out.mono C3'.out.size)) y4;rw [← hW5];have O1':=Lib.hid ((O3.out.kept (w':=W5) fun k h1 h2=>(K5 k (by have:=z5'.out;omega)).trans (B2.out.block k h2)).op hoka.out);have O2':=Lib.hid ((O2.out.kept (w':=W5) fun k h1 h2=>K5 k (by have:=z5'.out;have:=sz3.out;omega)).op hokb.out);have C5':=Lib.hid C5;have x1:=(K5 w.heap.size (by omega)).trans X1.out;have x2:=R5;clear hW5 y4 K5 Z5 C5 p0 p1 p2 p3 p4 p5 p6 p7 p8 p9 p10 pf q0 q1 q2 q3 q4 q5 q6 q7 q8 q9 q10 qf;unfold opCells at x1 x2;obtain ⟨p0,p1,p2,p3,p4,p5,p6,p7,p8,p9,p10,pf⟩:=eleven_cells x1;obtain ⟨q0,q1,q2,q3,q4,q5,q6,q7,q8,q9,q10,qf⟩:=eleven_cells x2;clear x1 x2 R5;refine (P4.refSame_any W5 s1.pA s2.pA s1.pn s1.pc s2.pn s2.pc A.path B.path O1'.out.path O2'.out.path (Nat.le_trans O1'.out.pnc O1'.out.pcm) (Nat.le_trans O2'.out.pnc O2'.out.pcm)).mono ?_;rintro e w6 ⟨rfl,k6,rfl⟩))
    | (go_at_call_of 108 s1.tA;(refine (P4.refSame_any _ s1.tA s2.tA s1.tn s1.tc s2.tn s2.tc A.to_ B.to_ (P4.Its.drewN O1'.out.to_ _) (P4.Its.drewN O2'.out.to_ _) (Nat.le_trans O1'.out.tnc O1'.out.tcm) (Nat.le_trans O2'.out.tnc O2'.out.tcm)).mono ?_;rintro e w7 ⟨rfl,k7,rfl⟩))
    | (go_at_call 111;(refine (P5.rsamep_any _ s1.qA s2.qA s1.qn s1.qc s2.qn s2.qc A.pieces B.pieces (O1'.out.pieces.below (draws (Below.refl _ _) _)) (O2'.out.pieces.below (draws (Below.refl _ _) _)) (Nat.le_trans O1'.out.qnc O1'.out.qcm) (Nat.le_trans O2'.out.qnc O2'.out.qcm)).mono ?_;rintro e w8 ⟨rfl,hb8⟩;have B8:=Lib.hid hb8;clear hb8)))
  all_goals clear p0 p1 p2 p3 p4 p5 p6 p7 p8 p9 p10 pf q0 q1 q2 q3 q4 q5 q6 q7 q8 q9 q10 qf
  all_goals go_ret
  all_goals refine ⟨?_,?_⟩
  all_goals first
    | (rw [show sameB A B = false by unfold sameB;simp [*]];rfl)
    | (rw [show sameB A B = P5.sameP A.pieces B.pieces by unfold sameB;simp [*]];rfl)
    | exact draws C5'.out _
    | exact (draws C5'.out _).trans (B8.out.mono (draws C5'.out _).size)
    | exact below_op (C3'.out.trans (B2.out.mono C3'.out.size)) (by omega)
end Go.Proofs.Ytidimannfemnmaa.Top

