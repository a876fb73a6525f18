/- MgBA: SqrP SqrO -/
import Derived.Test.YtfaolhcacaeijaaMgAX
import Derived.Test.YtfaolhcacaeijaaMgAY
set_option linter.all false
namespace Go.Proofs.Ytfaolhcacaeijaa.Sqr
open Go.RowKit Top Shf Sim
set_option maxRecDepth 20000
set_option linter.unusedVariables false

def bothV (b a:Ov) (prior:Bool):List Ov × List Ov × Int :=
  if (behindV b a prior).2 ≠ 0 then ([],[],(behindV b a prior).2) else if (behindV a b (!prior)).2 ≠ 0 then ([],[],(behindV a b (!prior)).2) else ((behindV b a prior).1,(behindV a b (!prior)).1,0)
def BothA (w:World) (r:List Ov × List Ov × Int) (e:Ending) (w':World):Prop :=
  ∃ v1 v2 l1 l2,e = .returned (.tuple #[v1,v2,.int .i64 r.2.2])∧l1.map Prod.fst = r.1∧l2.map Prod.fst = r.2.1∧(OwnO w.heap.size w' v1 l1∧∀ x ∈ l1,OwnOp w.heap.size w' x.1 x.2∧OvOk x.1)∧(OwnO w.heap.size w' v2 l2∧∀ x ∈ l2,OwnOp w.heap.size w' x.1 x.2∧OvOk x.1)∧Below w.heap.size w w'
theorem BothA.nil_ {w w':World} {k:Int} (hb:Below w.heap.size w w'):BothA w ([],[],k) (.returned (.tuple #[.slice none 0 0,.slice none 0 0,.int .i64 k])) w' :=
  ⟨_,_,[],[],rfl,rfl,rfl,⟨OwnO.nil_ _ _,fun x hx=>by simp at hx⟩,⟨OwnO.nil_ _ _,fun x hx=>by simp at hx⟩,hb⟩
set_option maxHeartbeats 16000000 in
theorem Both_any (w:World) (b a:Ov) (sb sa:OS) (prior:Bool) (hb:OpIn w b sb) (ha:OpIn w a sa) (hlb:Tiny b) (hla:Tiny a) (htb:P5.totP (pcs b.pieces)≤2000) (hta:P5.totP (pcs a.pieces)≤2000) :
    Calls Try.prog 21 #[.agg (opCells b sb),.agg (opCells a sa),.bool prior] w (BothA w (bothV b a prior)):=by
  obtain ⟨z1,z2,z4,z5⟩:=two_news w (.cells (opCells b sb) 26) (.cells (opCells a sa) 26)
  obtain ⟨W2,hW2⟩:∃ Q9,Q9 = ((w.alloc (.cells (opCells b sb) 26)).alloc (.cells (opCells a sa) 26)):=⟨_,rfl⟩
  rw [← hW2] at z1 z2 z4 z5
  have z4':=Lib.hid z4
  have z5':=Lib.hid z5
  have hrow:=Lib.hid (fun (W:World) (hB:Below W2.heap.size W2 W)=>And.intro ((hB.block w.heap.size (by omega)).trans z1) ((hB.block (w.heap.size + 1) (by omega)).trans z2))
  have hp:=Lib.hid (fun (W:World) (hB:Below w.heap.size w W)=>Behind_any W b a sb sa prior (hb.below hB) (ha.below hB) hlb hla htb hta)
  have hq:=Lib.hid (fun (W:World) (hB:Below w.heap.size w W)=>Behind_any W a b sa sb (!prior) (ha.below hB) (hb.below hB) hla hlb hta htb)
  obtain ⟨R,hR⟩:∃ Q9,Q9 = bothV b a prior:=⟨_,rfl⟩
  rw [← hR]
  unfold bothV at hR
  generalize behindV b a prior = P at hp hR
  generalize behindV a b (!prior) = Q at hq hR
  have HR:=Lib.hid hR
  obtain ⟨r1_,k1⟩:=P
  obtain ⟨r2_,k2⟩:=Q
  dsimp only at HR
  clear hb ha hlb hla htb hta z1 z2 z4 z5 hR
  unfold opCells at hW2 hp hq
  unfold opCells
  go_enter Try.func21,Try.ntmps21
  go_upto_region 1 with fail
  rw [← hW2]
  clear hW2
  obtain ⟨r1,r2⟩:=hrow.out W2 (Below.refl _ _)
  obtain ⟨o0,o1,o2,o3,o4,o5,o6,o7,o8,o9,o10⟩:=op_cells r1
  obtain ⟨a0,a1,a2,a3,a4,a5,a6,a7,a8,a9,a10⟩:=op_cells r2
  clear r1 r2
  by_cases h1:k1 = 0
  · subst h1
    by_cases h2:k2 = 0
    · subst h2
      have hv:=Lib.hid (HR.out.trans (show _ = (r1_,r2_,(0:Int)) by simp))
      go_wp2_with (first | (go_at_call 17;go_loud (refine (hq.out w5 V5.out).mono ?_;rintro e w6 ⟨v6,l6,rfl,h5,h6,h7,hb9⟩;have M6:=Lib.hid h5;have X6:=Lib.hid (And.intro h6 h7);have E6:=Lib.hid hb9;have V6:=Lib.hid (V5.out.trans (hb9.mono V5.out.size));clear h5 h6 h7 hb9 o0 o1 o2 o3 o4 o5 o6 o7 o8 o9 o10 a0 a1 a2 a3 a4 a5 a6 a7 a8 a9 a10)) | (go_at_call_of 17 sb.pA;go_loud (refine (hp.out _ z4'.out).mono ?_;rintro e w5 ⟨v5,l5,rfl,h5,h6,h7,hb9⟩;have M5:=Lib.hid h5;have X5:=Lib.hid (And.intro h6 h7);have E5:=Lib.hid hb9;have V5:=Lib.hid (z4'.out.trans (hb9.mono z4'.out.size));clear h5 h6 h7 hb9 o0 o1 o2 o3 o4 o5 o6 o7 o8 o9 o10 a0 a1 a2 a3 a4 a5 a6 a7 a8 a9 a10;obtain ⟨r1,r2⟩:=hrow.out _ E5.out;obtain ⟨o0,o1,o2,o3,o4,o5,o6,o7,o8,o9,o10⟩:=op_cells r1;obtain ⟨a0,a1,a2,a3,a4,a5,a6,a7,a8,a9,a10⟩:=op_cells r2;clear r1 r2)))
      go_ret3
      rw [hv.out]
      exact ⟨_,_,l5,l6,rfl,M5.out,M6.out,⟨own_mono (X5.out.1.kept fun k h1 h2=>E6.out.block k h2) z4'.out.size,fun x hx=>⟨((X5.out.2 x hx).1.kept fun k h1 h2=>E6.out.block k h2).mono z4'.out.size,(X5.out.2 x hx).2⟩⟩,⟨own_mono X6.out.1 V5.out.size,fun x hx=>⟨(X6.out.2 x hx).1.mono V5.out.size,(X6.out.2 x hx).2⟩⟩,V6.out⟩
    · have n2:(k2 != 0) = true:=by simp [h2]
      have hv:=Lib.hid (HR.out.trans (show _ = (([]:List Ov),([]:List Ov),k2) by simp [h2]))
      clear h2
      go_wp2_with (first | (go_at_call 17;go_loud (refine (hq.out w5 V5.out).mono ?_;rintro e w6 ⟨v6,l6,rfl,h5,h6,h7,hb9⟩;have M6:=Lib.hid h5;have X6:=Lib.hid (And.intro h6 h7);have E6:=Lib.hid hb9;have V6:=Lib.hid (V5.out.trans (hb9.mono V5.out.size));clear h5 h6 h7 hb9 o0 o1 o2 o3 o4 o5 o6 o7 o8 o9 o10 a0 a1 a2 a3 a4 a5 a6 a7 a8 a9 a10)) | (go_at_call_of 17 sb.pA;go_loud (refine (hp.out _ z4'.out).mono ?_;rintro e w5 ⟨v5,l5,rfl,h5,h6,h7,hb9⟩;have M5:=Lib.hid h5;have X5:=Lib.hid (And.intro h6 h7);have E5:=Lib.hid hb9;have V5:=Lib.hid (z4'.out.trans (hb9.mono z4'.out.size));clear h5 h6 h7 hb9 o0 o1 o2 o3 o4 o5 o6 o7 o8 o9 o10 a0 a1 a2 a3 a4 a5 a6 a7 a8 a9 a10;obtain ⟨r1,r2⟩:=hrow.out _ E5.out;obtain ⟨o0,o1,o2,o3,o4,o5,o6,o7,o8,o9,o10⟩:=op_cells r1;obtain ⟨a0,a1,a2,a3,a4,a5,a6,a7,a8,a9,a10⟩:=op_cells r2;clear r1 r2)))
      go_ret3
      rw [hv.out]
      exact BothA.nil_ V6.out
  · have n1:(k1 != 0) = true:=by simp [h1]
    have hv:=Lib.hid (HR.out.trans (show _ = (([]:List Ov),([]:List Ov),k1) by simp [h1]))
    clear h1
    go_wp2_with (go_at_call_of 17 sb.pA;go_loud (refine (hp.out _ z4'.out).mono ?_;rintro e w5 ⟨v5,l5,rfl,h5,h6,h7,hb9⟩;have M5:=Lib.hid h5;have X5:=Lib.hid (And.intro h6 h7);have E5:=Lib.hid hb9;have V5:=Lib.hid (z4'.out.trans (hb9.mono z4'.out.size));clear h5 h6 h7 hb9 o0 o1 o2 o3 o4 o5 o6 o7 o8 o9 o10 a0 a1 a2 a3 a4 a5 a6 a7 a8 a9 a10;obtain ⟨r1,r2⟩:=hrow.out _ E5.out;obtain ⟨o0,o1,o2,o3,o4,o5,o6,o7,o8,o9,o10⟩:=op_cells r1;obtain ⟨a0,a1,a2,a3,a4,a5,a6,a7,a8,a9,a10⟩:=op_cells r2;clear r1 r2))
    go_ret3
    rw [hv.out]
    exact BothA.nil_ V5.out

end Go.Proofs.Ytfaolhcacaeijaa.Sqr
namespace Go.Proofs.Ytfaolhcacaeijaa.Sqr
open Go.RowKit Top Shf Sim
set_option maxRecDepth 20000
set_option linter.unusedVariables false

theorem both_turn (b a:Ov) (prior:Bool):(bothV b a prior).1 = (bothV a b (!prior)).2.1∧(bothV b a prior).2.1 = (bothV a b (!prior)).1∧((bothV b a prior).2.2 == 0) = ((bothV a b (!prior)).2.2 == 0):=by
  unfold bothV
  rw [Bool.not_not]
  by_cases h1:(behindV b a prior).2 = 0
  · by_cases h2:(behindV a b (!prior)).2 = 0
    · simp [h1,h2]
    · simp [h1,h2]
  · by_cases h2:(behindV a b (!prior)).2 = 0
    · simp [h1,h2]
    · simp only [h1,h2,ne_eq,not_false_eq_true,if_true]
      exact ⟨by trivial,by trivial,by rw [beq_eq_false_iff_ne.2 h1,beq_eq_false_iff_ne.2 h2]⟩
theorem bothA_read {w:World} {r:List Ov × List Ov × Int} {e:Ending} {w':World} (h:BothA w r e w'):∃ A n c l B m d k,e = .returned (.tuple #[.slice A n c,.slice B m d,.int .i64 r.2.2])∧l.map Prod.fst = r.1∧k.map Prod.fst = r.2.1∧RowR w' A n l∧RowR w' B m k∧Below w.heap.size w w':=by
  obtain ⟨v1,v2,l1,l2,rfl,h1,h2,⟨h3,h4⟩,⟨h5,h6⟩,h7⟩:=h
  obtain ⟨A,n,c,rfl,h8⟩:=row_read h3 h4
  obtain ⟨B,m,d,rfl,h9⟩:=row_read h5 h6
  exact ⟨A,n,c,l1,B,m,d,l2,rfl,h1,h2,h8,h9,h7⟩
set_option maxHeartbeats 32000000 in
theorem lawTurned_any (w:World) (b a:Ov) (sb sa:OS) (prior:Bool) (hb:OpRaw w b sb) (ha:OpRaw w a sa) :
    Calls Try.prog 5 #[.agg (opCells b sb),.agg (opCells a sa),.bool prior] w fun e w'=>e = .returned (.bool true)∧Below w.heap.size w w':=by
  obtain ⟨z1,z2,z4,z5⟩:=two_news w (.cells (opCells b sb) 26) (.cells (opCells a sa) 26)
  obtain ⟨W2,hW2⟩:∃ Q9,Q9 = ((w.alloc (.cells (opCells b sb) 26)).alloc (.cells (opCells a sa) 26)):=⟨_,rfl⟩
  rw [← hW2] at z1 z2 z4 z5
  have z4':=Lib.hid z4
  have z5':=Lib.hid z5
  have hrow:=Lib.hid (fun (W:World) (hB:Below W2.heap.size W2 W)=>And.intro ((hB.block w.heap.size (by omega)).trans z1) ((hB.block (w.heap.size + 1) (by omega)).trans z2))
  have hlb:=Lib.hid (fun (W:World) (hB:Below w.heap.size w W)=>light_any W b sb (hb.below hB) 200 (by omega))
  have hla:=Lib.hid (fun (W:World) (hB:Below w.heap.size w W)=>light_any W a sa (ha.below hB) 200 (by omega))
  have hsb:=Lib.hid (fun (h1:lightB b 200 = true) (W:World) (hB:Below w.heap.size w W)=>P5.small_any W sb.qA sb.qn sb.qc b.pieces (raw_op (hb.below hB) h1).pieces (Nat.le_trans hb.qnc hb.qcm) 400 (by omega))
  have hsa:=Lib.hid (fun (h1:lightB a 200 = true) (W:World) (hB:Below w.heap.size w W)=>P5.small_any W sa.qA sa.qn sa.qc a.pieces (raw_op (ha.below hB) h1).pieces (Nat.le_trans ha.qnc ha.qcm) 400 (by omega))
  have hib:=Lib.hid (fun (h1:lightB b 200 = true) (W:World) (hB:Below w.heap.size w W)=>raw_op (hb.below hB) h1)
  have hia:=Lib.hid (fun (h1:lightB a 200 = true) (W:World) (hB:Below w.heap.size w W)=>raw_op (ha.below hB) h1)
  obtain ⟨fb,hfb⟩:∃ Q9,Q9 = lightB b 200:=⟨_,rfl⟩
  obtain ⟨fa,hfa⟩:∃ Q9,Q9 = lightB a 200:=⟨_,rfl⟩
  obtain ⟨gb,hgb⟩:∃ Q9,Q9 = P5.smallV b.pieces 400:=⟨_,rfl⟩
  obtain ⟨ga,hga⟩:∃ Q9,Q9 = P5.smallV a.pieces 400:=⟨_,rfl⟩
  rw [← hfb] at hlb hsb hib
  rw [← hfa] at hla hsa hia
  rw [← hgb] at hsb
  rw [← hga] at hsa
  have HB:=Lib.hid (fun (e1:fb = true) (e2:gb = true)=>fit_of (hfb.symm.trans e1) (hgb.symm.trans e2))
  have HA:=Lib.hid (fun (e1:fa = true) (e2:ga = true)=>fit_of (hfa.symm.trans e1) (hga.symm.trans e2))
  clear hb ha z1 z2 z4 z5 hfb hfa hgb hga
  unfold opCells at hW2 hlb hla
  unfold opCells
  go_enter Try.func5,Try.ntmps5
  go_upto_region 1 with fail
  rw [← hW2]
  clear hW2
  obtain ⟨r1,r2⟩:=hrow.out W2 (Below.refl _ _)
  obtain ⟨o0,o1,o2,o3,o4,o5,o6,o7,o8,o9,o10⟩:=op_cells r1
  obtain ⟨a0,a1,a2,a3,a4,a5,a6,a7,a8,a9,a10⟩:=op_cells r2
  clear r1 r2
  cases fb with
  | false =>
    go_wp2_with (first | (go_at_call 16;go_loud (refine (works_any _).mono ?_;rintro e wz ⟨rfl,hbz⟩;have BZ:=Lib.hid (Below.trans V1.out (hbz.mono (Below.size V1.out)));clear hbz)) | (go_at_call_of 14 sb.pA;go_loud (refine (hlb.out W2 z4'.out).mono ?_;rintro e u1 ⟨rfl,hb9⟩;have E1:=Lib.hid ((Below.refl W2.heap.size W2).trans (hb9.mono (Below.size (Below.refl W2.heap.size W2))));have V1:=Lib.hid (z4'.out.trans (E1.out.mono z4'.out.size));clear hb9;clear o0 o1 o2 o3 o4 o5 o6 o7 o8 o9 o10 a0 a1 a2 a3 a4 a5 a6 a7 a8 a9 a10;obtain ⟨r1,r2⟩:=hrow.out _ E1.out;obtain ⟨o0,o1,o2,o3,o4,o5,o6,o7,o8,o9,o10⟩:=op_cells r1;obtain ⟨a0,a1,a2,a3,a4,a5,a6,a7,a8,a9,a10⟩:=op_cells r2;clear r1 r2)))
    go_ret
    exact ⟨rfl,BZ.out⟩
  | true =>
    cases fa with
    | false =>
      go_wp2_with (first | (go_at_call 16;go_loud (refine (works_any _).mono ?_;rintro e wz ⟨rfl,hbz⟩;have BZ:=Lib.hid (Below.trans V2.out (hbz.mono (Below.size V2.out)));clear hbz)) | (go_at_call_of 14 sa.pA;go_loud (refine (hla.out u1 V1.out).mono ?_;rintro e u2 ⟨rfl,hb9⟩;have E2:=Lib.hid (E1.out.trans (hb9.mono (Below.size E1.out)));have V2:=Lib.hid (z4'.out.trans (E2.out.mono z4'.out.size));clear hb9;clear o0 o1 o2 o3 o4 o5 o6 o7 o8 o9 o10 a0 a1 a2 a3 a4 a5 a6 a7 a8 a9 a10;obtain ⟨r1,r2⟩:=hrow.out _ E2.out;obtain ⟨o0,o1,o2,o3,o4,o5,o6,o7,o8,o9,o10⟩:=op_cells r1;obtain ⟨a0,a1,a2,a3,a4,a5,a6,a7,a8,a9,a10⟩:=op_cells r2;clear r1 r2)) | (go_at_call_of 14 sb.pA;go_loud (refine (hlb.out W2 z4'.out).mono ?_;rintro e u1 ⟨rfl,hb9⟩;have E1:=Lib.hid ((Below.refl W2.heap.size W2).trans (hb9.mono (Below.size (Below.refl W2.heap.size W2))));have V1:=Lib.hid (z4'.out.trans (E1.out.mono z4'.out.size));clear hb9;clear o0 o1 o2 o3 o4 o5 o6 o7 o8 o9 o10 a0 a1 a2 a3 a4 a5 a6 a7 a8 a9 a10;obtain ⟨r1,r2⟩:=hrow.out _ E1.out;obtain ⟨o0,o1,o2,o3,o4,o5,o6,o7,o8,o9,o10⟩:=op_cells r1;obtain ⟨a0,a1,a2,a3,a4,a5,a6,a7,a8,a9,a10⟩:=op_cells r2;clear r1 r2)))
      go_ret
      exact ⟨rfl,BZ.out⟩
    | true =>
      cases gb with
      | false =>
        go_wp2_with (first | (go_at_call 16;go_loud (refine (works_any _).mono ?_;rintro e wz ⟨rfl,hbz⟩;have BZ:=Lib.hid (Below.trans V3.out (hbz.mono (Below.size V3.out)));clear hbz)) | (go_at_call_of 15 sb.qA;go_loud (refine (hsb.out (by first | rfl | trivial) u2 V2.out).mono ?_;rintro e u3 ⟨rfl,hb9⟩;have E3:=Lib.hid (E2.out.trans (hb9.mono (Below.size E2.out)));have V3:=Lib.hid (z4'.out.trans (E3.out.mono z4'.out.size));clear hb9;clear o0 o1 o2 o3 o4 o5 o6 o7 o8 o9 o10 a0 a1 a2 a3 a4 a5 a6 a7 a8 a9 a10;obtain ⟨r1,r2⟩:=hrow.out _ E3.out;obtain ⟨o0,o1,o2,o3,o4,o5,o6,o7,o8,o9,o10⟩:=op_cells r1;obtain ⟨a0,a1,a2,a3,a4,a5,a6,a7,a8,a9,a10⟩:=op_cells r2;clear r1 r2)) | (go_at_call_of 14 sa.pA;go_loud (refine (hla.out u1 V1.out).mono ?_;rintro e u2 ⟨rfl,hb9⟩;have E2:=Lib.hid (E1.out.trans (hb9.mono (Below.size E1.out)));have V2:=Lib.hid (z4'.out.trans (E2.out.mono z4'.out.size));clear hb9;clear o0 o1 o2 o3 o4 o5 o6 o7 o8 o9 o10 a0 a1 a2 a3 a4 a5 a6 a7 a8 a9 a10;obtain ⟨r1,r2⟩:=hrow.out _ E2.out;obtain ⟨o0,o1,o2,o3,o4,o5,o6,o7,o8,o9,o10⟩:=op_cells r1;obtain ⟨a0,a1,a2,a3,a4,a5,a6,a7,a8,a9,a10⟩:=op_cells r2;clear r1 r2)) | (go_at_call_of 14 sb.pA;go_loud (refine (hlb.out W2 z4'.out).mono ?_;rintro e u1 ⟨rfl,hb9⟩;have E1:=Lib.hid ((Below.refl W2.heap.size W2).trans (hb9.mono (Below.size (Below.refl W2.heap.size W2))));have V1:=Lib.hid (z4'.out.trans (E1.out.mono z4'.out.size));clear hb9;clear o0 o1 o2 o3 o4 o5 o6 o7 o8 o9 o10 a0 a1 a2 a3 a4 a5 a6 a7 a8 a9 a10;obtain ⟨r1,r2⟩:=hrow.out _ E1.out;obtain ⟨o0,o1,o2,o3,o4,o5,o6,o7,o8,o9,o10⟩:=op_cells r1;obtain ⟨a0,a1,a2,a3,a4,a5,a6,a7,a8,a9,a10⟩:=op_cells r2;clear r1 r2)))
        go_ret
        exact ⟨rfl,BZ.out⟩
      | true =>
        cases ga with
        | false =>
          go_wp2_with (first | (go_at_call 16;go_loud (refine (works_any _).mono ?_;rintro e wz ⟨rfl,hbz⟩;have BZ:=Lib.hid (Below.trans V4.out (hbz.mono (Below.size V4.out)));clear hbz)) | (go_at_call_of 15 sa.qA;go_loud (refine (hsa.out (by first | rfl | trivial) u3 V3.out).mono ?_;rintro e u4 ⟨rfl,hb9⟩;have E4:=Lib.hid (E3.out.trans (hb9.mono (Below.size E3.out)));have V4:=Lib.hid (z4'.out.trans (E4.out.mono z4'.out.size));clear hb9;clear o0 o1 o2 o3 o4 o5 o6 o7 o8 o9 o10 a0 a1 a2 a3 a4 a5 a6 a7 a8 a9 a10;obtain ⟨r1,r2⟩:=hrow.out _ E4.out;obtain ⟨o0,o1,o2,o3,o4,o5,o6,o7,o8,o9,o10⟩:=op_cells r1;obtain ⟨a0,a1,a2,a3,a4,a5,a6,a7,a8,a9,a10⟩:=op_cells r2;clear r1 r2)) | (go_at_call_of 15 sb.qA;go_loud (refine (hsb.out (by first | rfl | trivial) u2 V2.out).mono ?_;rintro e u3 ⟨rfl,hb9⟩;have E3:=Lib.hid (E2.out.trans (hb9.mono (Below.size E2.out)));have V3:=Lib.hid (z4'.out.trans (E3.out.mono z4'.out.size));clear hb9;clear o0 o1 o2 o3 o4 o5 o6 o7 o8 o9 o10 a0 a1 a2 a3 a4 a5 a6 a7 a8 a9 a10;obtain ⟨r1,r2⟩:=hrow.out _ E3.out;obtain ⟨o0,o1,o2,o3,o4,o5,o6,o7,o8,o9,o10⟩:=op_cells r1;obtain ⟨a0,a1,a2,a3,a4,a5,a6,a7,a8,a9,a10⟩:=op_cells r2;clear r1 r2)) | (go_at_call_of 14 sa.pA;go_loud (refine (hla.out u1 V1.out).mono ?_;rintro e u2 ⟨rfl,hb9⟩;have E2:=Lib.hid (E1.out.trans (hb9.mono (Below.size E1.out)));have V2:=Lib.hid (z4'.out.trans (E2.out.mono z4'.out.size));clear hb9;clear o0 o1 o2 o3 o4 o5 o6 o7 o8 o9 o10 a0 a1 a2 a3 a4 a5 a6 a7 a8 a9 a10;obtain ⟨r1,r2⟩:=hrow.out _ E2.out;obtain ⟨o0,o1,o2,o3,o4,o5,o6,o7,o8,o9,o10⟩:=op_cells r1;obtain ⟨a0,a1,a2,a3,a4,a5,a6,a7,a8,a9,a10⟩:=op_cells r2;clear r1 r2)) | (go_at_call_of 14 sb.pA;go_loud (refine (hlb.out W2 z4'.out).mono ?_;rintro e u1 ⟨rfl,hb9⟩;have E1:=Lib.hid ((Below.refl W2.heap.size W2).trans (hb9.mono (Below.size (Below.refl W2.heap.size W2))));have V1:=Lib.hid (z4'.out.trans (E1.out.mono z4'.out.size));clear hb9;clear o0 o1 o2 o3 o4 o5 o6 o7 o8 o9 o10 a0 a1 a2 a3 a4 a5 a6 a7 a8 a9 a10;obtain ⟨r1,r2⟩:=hrow.out _ E1.out;obtain ⟨o0,o1,o2,o3,o4,o5,o6,o7,o8,o9,o10⟩:=op_cells r1;obtain ⟨a0,a1,a2,a3,a4,a5,a6,a7,a8,a9,a10⟩:=op_cells r2;clear r1 r2)))
          go_ret
          exact ⟨rfl,BZ.out⟩
        | true =>
          have hfb:=HB.out (by first | rfl | trivial) (by first | rfl | trivial)
          have hfa:=HA.out (by first | rfl | trivial) (by first | rfl | trivial)
          have hp:=Lib.hid (fun (W:World) (hB:Below w.heap.size w W)=>(Both_any W b a sb sa prior (hib.out (by first | rfl | trivial) W hB) (hia.out (by first | rfl | trivial) W hB) hfb.1 hfa.1 hfb.2 hfa.2).mono fun e w' h=>bothA_read h)
          have hq:=Lib.hid (fun (W:World) (hB:Below w.heap.size w W)=>(Both_any W a b sa sb (!prior) (hia.out (by first | rfl | trivial) W hB) (hib.out (by first | rfl | trivial) W hB) hfa.1 hfb.1 hfa.2 hfb.2).mono fun e w' h=>bothA_read h)
          unfold opCells at hp hq
          clear hfb hfa
          have hT:=both_turn b a prior
          generalize bothV b a prior = R at hp hT
          generalize bothV a b (!prior) = S at hq hT
          obtain ⟨r1_,r2_,k1⟩:=R
          obtain ⟨q1_,q2_,k2⟩:=S
          dsimp only at hT
          have HT:=Lib.hid hT
          have hkk:((k1 == 0) == (k2 == 0)) = true:=by rw [hT.2.2];simp
          clear hT
          go_wp2_with (first | (go_at_call 16;go_loud (refine (works_any _).mono ?_;rintro e wz ⟨rfl,hbz⟩;have BZ:=Lib.hid (Below.trans V8.out (hbz.mono (Below.size V8.out)));clear hbz)) | (go_at_call_of 19 B5;go_loud (refine (same_any u7 B5 A6 m5 d5 n6 c6 k5 l6 ((Y5.out.below F6.out).below F7.out) (X6.out.below F7.out) (N5.out.trans (HT.out.2.1.trans M6.out.symm))).mono ?_;rintro e u8 ⟨rfl,hb9⟩;have V8:=Lib.hid (V7.out.trans (hb9.mono V7.out.size));clear hb9)) | (go_at_call_of 19 A5;go_loud (refine (same_any u6 A5 B6 n5 c5 m6 d6 l5 k6 (X5.out.below F6.out) Y6.out (M5.out.trans (HT.out.1.trans N6.out.symm))).mono ?_;rintro e u7 ⟨rfl,hb9⟩;have F7:=Lib.hid hb9;have V7:=Lib.hid (V6.out.trans (hb9.mono V6.out.size));clear hb9)) | (go_at_call_of 21 sa.pA;go_loud (refine (hq.out u5 V5.out).mono ?_;rintro e u6 ⟨A6,n6,c6,l6,B6,m6,d6,k6,rfl,hm,hm2,hx,hx2,hb9⟩;have M6:=Lib.hid hm;have N6:=Lib.hid hm2;have X6:=Lib.hid hx;have Y6:=Lib.hid hx2;have F6:=Lib.hid hb9;have V6:=Lib.hid (V5.out.trans (hb9.mono V5.out.size));clear hm hm2 hx hx2 hb9 o0 o1 o2 o3 o4 o5 o6 o7 o8 o9 o10 a0 a1 a2 a3 a4 a5 a6 a7 a8 a9 a10)) | (go_at_call_of 21 sb.pA;go_loud (refine (hp.out u4 V4.out).mono ?_;rintro e u5 ⟨A5,n5,c5,l5,B5,m5,d5,k5,rfl,hm,hm2,hx,hx2,hb9⟩;have M5:=Lib.hid hm;have N5:=Lib.hid hm2;have X5:=Lib.hid hx;have Y5:=Lib.hid hx2;have E5:=Lib.hid (E4.out.trans (hb9.mono E4.out.size));have V5:=Lib.hid (V4.out.trans (hb9.mono V4.out.size));clear hm hm2 hx hx2 hb9 o0 o1 o2 o3 o4 o5 o6 o7 o8 o9 o10 a0 a1 a2 a3 a4 a5 a6 a7 a8 a9 a10;obtain ⟨r1,r2⟩:=hrow.out _ E5.out;obtain ⟨o0,o1,o2,o3,o4,o5,o6,o7,o8,o9,o10⟩:=op_cells r1;obtain ⟨a0,a1,a2,a3,a4,a5,a6,a7,a8,a9,a10⟩:=op_cells r2;clear r1 r2)) | (go_at_call_of 15 sa.qA;go_loud (refine (hsa.out (by first | rfl | trivial) u3 V3.out).mono ?_;rintro e u4 ⟨rfl,hb9⟩;have E4:=Lib.hid (E3.out.trans (hb9.mono (Below.size E3.out)));have V4:=Lib.hid (z4'.out.trans (E4.out.mono z4'.out.size));clear hb9;clear o0 o1 o2 o3 o4 o5 o6 o7 o8 o9 o10 a0 a1 a2 a3 a4 a5 a6 a7 a8 a9 a10;obtain ⟨r1,r2⟩:=hrow.out _ E4.out;obtain ⟨o0,o1,o2,o3,o4,o5,o6,o7,o8,o9,o10⟩:=op_cells r1;obtain ⟨a0,a1,a2,a3,a4,a5,a6,a7,a8,a9,a10⟩:=op_cells r2;clear r1 r2)) | (go_at_call_of 15 sb.qA;go_loud (refine (hsb.out (by first | rfl | trivial) u2 V2.out).mono ?_;rintro e u3 ⟨rfl,hb9⟩;have E3:=Lib.hid (E2.out.trans (hb9.mono (Below.size E2.out)));have V3:=Lib.hid (z4'.out.trans (E3.out.mono z4'.out.size));clear hb9;clear o0 o1 o2 o3 o4 o5 o6 o7 o8 o9 o10 a0 a1 a2 a3 a4 a5 a6 a7 a8 a9 a10;obtain ⟨r1,r2⟩:=hrow.out _ E3.out;obtain ⟨o0,o1,o2,o3,o4,o5,o6,o7,o8,o9,o10⟩:=op_cells r1;obtain ⟨a0,a1,a2,a3,a4,a5,a6,a7,a8,a9,a10⟩:=op_cells r2;clear r1 r2)) | (go_at_call_of 14 sa.pA;go_loud (refine (hla.out u1 V1.out).mono ?_;rintro e u2 ⟨rfl,hb9⟩;have E2:=Lib.hid (E1.out.trans (hb9.mono (Below.size E1.out)));have V2:=Lib.hid (z4'.out.trans (E2.out.mono z4'.out.size));clear hb9;clear o0 o1 o2 o3 o4 o5 o6 o7 o8 o9 o10 a0 a1 a2 a3 a4 a5 a6 a7 a8 a9 a10;obtain ⟨r1,r2⟩:=hrow.out _ E2.out;obtain ⟨o0,o1,o2,o3,o4,o5,o6,o7,o8,o9,o10⟩:=op_cells r1;obtain ⟨a0,a1,a2,a3,a4,a5,a6,a7,a8,a9,a10⟩:=op_cells r2;clear r1 r2)) | (go_at_call_of 14 sb.pA;go_loud (refine (hlb.out W2 z4'.out).mono ?_;rintro e u1 ⟨rfl,hb9⟩;have E1:=Lib.hid ((Below.refl W2.heap.size W2).trans (hb9.mono (Below.size (Below.refl W2.heap.size W2))));have V1:=Lib.hid (z4'.out.trans (E1.out.mono z4'.out.size));clear hb9;clear o0 o1 o2 o3 o4 o5 o6 o7 o8 o9 o10 a0 a1 a2 a3 a4 a5 a6 a7 a8 a9 a10;obtain ⟨r1,r2⟩:=hrow.out _ E1.out;obtain ⟨o0,o1,o2,o3,o4,o5,o6,o7,o8,o9,o10⟩:=op_cells r1;obtain ⟨a0,a1,a2,a3,a4,a5,a6,a7,a8,a9,a10⟩:=op_cells r2;clear r1 r2)))
          go_ret
          exact ⟨rfl,BZ.out⟩

end Go.Proofs.Ytfaolhcacaeijaa.Sqr
