/- The law: what becomes of two operations behind each other is the document's; they stay. -/
import Derived.Test.YtidimannfemnmaaMgAX
import Derived.Deep.CutBlock
import Derived.Test.YtidimannfemnmaaSqrO
import Derived.Test.YtidimannfemnmaaMgAP
import Derived.Test.YtidimannfemnmaaTopBg
import Derived.Test.YtidimannfemnmaaTopBj
set_option linter.all false
namespace Go.Proofs.Ytidimannfemnmaa.Sqr
open Go.RowKit Top Shf Sim
set_option maxRecDepth 20000

theorem tiny_bare {o:Ov} (h:Tiny o∧P5.totP (pcs o.pieces)≤2000):Tiny (bareV o)∧P5.totP (pcs (bareV o).pieces)≤2000:=by
  obtain ⟨⟨h1,h2⟩,h3⟩:=h
  refine ⟨⟨?_,?_⟩,?_⟩
  · show (if 1≤o.kind∧o.kind≤6 then o.path else []).length≤300
    split
    · exact h1
    · exact Nat.zero_le _
  · show (if o.kind = 3 then o.to_ else []).length≤300
    split
    · exact h2
    · exact Nat.zero_le _
  · show P5.totP (pcs (if o.kind = 6 then o.pieces else []))≤2000
    split
    · exact h3
    · exact Nat.zero_le _
theorem rows_kept {base:Nat} {w w':World} {v:Value} {l:List (Ov × OS)} (h:OwnO base w v l∧∀ x ∈ l,OwnOp base w x.1 x.2∧OvOk x.1) (hb:Below w.heap.size w w'):OwnO base w' v l∧∀ x ∈ l,OwnOp base w' x.1 x.2∧OvOk x.1 :=
  ⟨h.1.kept fun k _ h2=>hb.block k h2,fun x hx=>⟨(h.2 x hx).1.kept fun k _ h2=>hb.block k h2,(h.2 x hx).2⟩⟩
theorem spoil_at {base:Nat} {w wr:World} {A:Option Addr} {n c q:Nat} {l:List (Ov × OS)} (h:OwnO base w (.slice A n c) l∧∀ x ∈ l,OwnOp base w x.1 x.2∧OvOk x.1) (hs:Shp base w wr) (hb:base≤w.heap.size) (hq:q < n) :
    ∃ (o:Ov) (t:OS) (g:Nat),A = some ⟨g,0,none⟩∧Elev wr ⟨g,q * 11,none⟩ o t∧Sp base wr t∧(t.pn≤maxLen∧t.tn≤maxLen∧t.qn≤maxLen)∧(n:Int)≤9223372036854775807:=by
  obtain ⟨A',n',c',e,h1,h2,h3,h4,h5⟩:=h.1.shape
  injection e with e1 e2 e3
  subst e1 e2 e3
  obtain ⟨x,hx⟩:∃ x,l[q]? = some x:=⟨_,List.getElem?_eq_getElem (by omega)⟩
  obtain ⟨g,rfl,k1,k2,k3⟩:=h5 q x hx
  obtain ⟨m1,m2⟩:=h.2 x (List.mem_of_getElem? hx)
  obtain ⟨cs,hc⟩:=h.1.block (show (Value.slice (some ⟨g,0,none⟩) n c).ownBlock = some g from rfl)
  obtain ⟨c1,d1,-,d2⟩:=hs.shape g cs _ hc
  have hop:=m1.op m2
  refine ⟨x.1,x.2,g,rfl,Elev.kept k3 (by show wr.heap[g]? = w.heap[g]?;rw [d1,hc,d2 rfl]),(Sp.of m1).shp hs,⟨Nat.le_trans hop.pnc hop.pcm,Nat.le_trans hop.tnc hop.tcm,Nat.le_trans hop.qnc hop.qcm⟩,by unfold maxLen at h3;omega⟩
set_option maxHeartbeats 64000000 in
theorem lawBoth_any (w:World) (b a:Ov) (sb sa:OS) (prior:Bool) (hb:OpRaw w b sb) (ha:OpRaw w a sa) :
    Calls Try.prog 9 #[.agg (opCells b sb),.agg (opCells a sa),.bool prior] w fun e w'=>e = .returned (.bool true)∧Below w.heap.size w w':=by
  obtain ⟨z1,z2,z4,z5⟩:=two_news w (.cells (opCells b sb) 52) (.cells (opCells a sa) 52)
  obtain ⟨W2,hW2⟩:∃ Q9,Q9 = ((w.alloc (.cells (opCells b sb) 52)).alloc (.cells (opCells a sa) 52)):=⟨_,rfl⟩
  rw [← hW2] at z1 z2 z4 z5
  have z4':=Lib.hid z4
  have z5':=Lib.hid z5
  have hrow:=Lib.hid (fun (W:World) (hB:Below W2.heap.size W2 W)=>And.intro ((hB.block w.heap.size (by omega)).trans z1) ((hB.block (w.heap.size + 1) (by omega)).trans z2))
  have hlb:=Lib.hid (fun (W:World) (hB:Below w.heap.size w W)=>light_any W b sb (hb.below hB) 200 (by omega))
  have hla:=Lib.hid (fun (W:World) (hB:Below w.heap.size w W)=>light_any W a sa (ha.below hB) 200 (by omega))
  have hsb:=Lib.hid (fun (h1:lightB b 200 = true) (W:World) (hB:Below w.heap.size w W)=>P5.small_any W sb.qA sb.qn sb.qc b.pieces (raw_op (hb.below hB) h1).pieces (Nat.le_trans hb.qnc hb.qcm) 400 (by omega))
  have hsa:=Lib.hid (fun (h1:lightB a 200 = true) (W:World) (hB:Below w.heap.size w W)=>P5.small_any W sa.qA sa.qn sa.qc a.pieces (raw_op (ha.below hB) h1).pieces (Nat.le_trans ha.qnc ha.qcm) 400 (by omega))
  have hib:=Lib.hid (fun (h1:lightB b 200 = true) (W:World) (hB:Below w.heap.size w W)=>raw_op (hb.below hB) h1)
  have hia:=Lib.hid (fun (h1:lightB a 200 = true) (W:World) (hB:Below w.heap.size w W)=>raw_op (ha.below hB) h1)
  obtain ⟨fb,hfb⟩:∃ Q9,Q9 = lightB b 200:=⟨_,rfl⟩
  obtain ⟨fa,hfa⟩:∃ Q9,Q9 = lightB a 200:=⟨_,rfl⟩
  obtain ⟨gb,hgb⟩:∃ Q9,Q9 = P5.smallV b.pieces 400:=⟨_,rfl⟩
  obtain ⟨ga,hga⟩:∃ Q9,Q9 = P5.smallV a.pieces 400:=⟨_,rfl⟩
  rw [← hfb] at hlb hsb hib
  rw [← hfa] at hla hsa hia
  rw [← hgb] at hsb
  rw [← hga] at hsa
  have HB:=Lib.hid (fun (e1:fb = true) (e2:gb = true)=>fit_of (hfb.symm.trans e1) (hgb.symm.trans e2))
  have HA:=Lib.hid (fun (e1:fa = true) (e2:ga = true)=>fit_of (hfa.symm.trans e1) (hga.symm.trans e2))
  clear hb ha z1 z2 z4 z5 hfb hfa hgb hga
  unfold opCells at hW2 hlb hla
  unfold opCells
  go_enter Try.func9,Try.ntmps9
  go_upto_region 1 with fail
  rw [← hW2]
  clear hW2
  obtain ⟨r1,r2⟩:=hrow.out W2 (Below.refl _ _)
  obtain ⟨o0,o1,o2,o3,o4,o5,o6,o7,o8,o9,o10⟩:=op_cells r1
  obtain ⟨a0,a1,a2,a3,a4,a5,a6,a7,a8,a9,a10⟩:=op_cells r2
  clear r1 r2
  cases fb with
  | false =>
    go_wp2_with (first | (go_at_call 52;(refine (works_any _).mono ?_;rintro e wz ⟨rfl,hbz⟩;have BZ:=Lib.hid (Below.trans V1.out (hbz.mono (Below.size V1.out)));clear hbz)) | (go_at_call_of 43 sb.pA;(refine (hlb.out W2 z4'.out).mono ?_;rintro e u1 ⟨rfl,hb9⟩;have E1:=Lib.hid ((Below.refl W2.heap.size W2).trans (hb9.mono (Below.size (Below.refl W2.heap.size W2))));have V1:=Lib.hid (z4'.out.trans (E1.out.mono z4'.out.size));clear hb9;clear o0 o1 o2 o3 o4 o5 o6 o7 o8 o9 o10 a0 a1 a2 a3 a4 a5 a6 a7 a8 a9 a10;obtain ⟨r1,r2⟩:=hrow.out _ E1.out;obtain ⟨o0,o1,o2,o3,o4,o5,o6,o7,o8,o9,o10⟩:=op_cells r1;obtain ⟨a0,a1,a2,a3,a4,a5,a6,a7,a8,a9,a10⟩:=op_cells r2;clear r1 r2)))
    go_ret
    exact ⟨rfl,BZ.out⟩
  | true =>
    cases fa with
    | false =>
      go_wp2_with (first | (go_at_call 52;(refine (works_any _).mono ?_;rintro e wz ⟨rfl,hbz⟩;have BZ:=Lib.hid (Below.trans V2.out (hbz.mono (Below.size V2.out)));clear hbz)) | (go_at_call_of 43 sa.pA;(refine (hla.out u1 V1.out).mono ?_;rintro e u2 ⟨rfl,hb9⟩;have E2:=Lib.hid (E1.out.trans (hb9.mono (Below.size E1.out)));have V2:=Lib.hid (z4'.out.trans (E2.out.mono z4'.out.size));clear hb9;clear o0 o1 o2 o3 o4 o5 o6 o7 o8 o9 o10 a0 a1 a2 a3 a4 a5 a6 a7 a8 a9 a10;obtain ⟨r1,r2⟩:=hrow.out _ E2.out;obtain ⟨o0,o1,o2,o3,o4,o5,o6,o7,o8,o9,o10⟩:=op_cells r1;obtain ⟨a0,a1,a2,a3,a4,a5,a6,a7,a8,a9,a10⟩:=op_cells r2;clear r1 r2)) | (go_at_call_of 43 sb.pA;(refine (hlb.out W2 z4'.out).mono ?_;rintro e u1 ⟨rfl,hb9⟩;have E1:=Lib.hid ((Below.refl W2.heap.size W2).trans (hb9.mono (Below.size (Below.refl W2.heap.size W2))));have V1:=Lib.hid (z4'.out.trans (E1.out.mono z4'.out.size));clear hb9;clear o0 o1 o2 o3 o4 o5 o6 o7 o8 o9 o10 a0 a1 a2 a3 a4 a5 a6 a7 a8 a9 a10;obtain ⟨r1,r2⟩:=hrow.out _ E1.out;obtain ⟨o0,o1,o2,o3,o4,o5,o6,o7,o8,o9,o10⟩:=op_cells r1;obtain ⟨a0,a1,a2,a3,a4,a5,a6,a7,a8,a9,a10⟩:=op_cells r2;clear r1 r2)))
      go_ret
      exact ⟨rfl,BZ.out⟩
    | true =>
      cases gb with
      | false =>
        go_wp2_with (first | (go_at_call 52;(refine (works_any _).mono ?_;rintro e wz ⟨rfl,hbz⟩;have BZ:=Lib.hid (Below.trans V3.out (hbz.mono (Below.size V3.out)));clear hbz)) | (go_at_call_of 13 sb.qA;(refine (hsb.out (by first | rfl | trivial) u2 V2.out).mono ?_;rintro e u3 ⟨rfl,hb9⟩;have E3:=Lib.hid (E2.out.trans (hb9.mono (Below.size E2.out)));have V3:=Lib.hid (z4'.out.trans (E3.out.mono z4'.out.size));clear hb9;clear o0 o1 o2 o3 o4 o5 o6 o7 o8 o9 o10 a0 a1 a2 a3 a4 a5 a6 a7 a8 a9 a10;obtain ⟨r1,r2⟩:=hrow.out _ E3.out;obtain ⟨o0,o1,o2,o3,o4,o5,o6,o7,o8,o9,o10⟩:=op_cells r1;obtain ⟨a0,a1,a2,a3,a4,a5,a6,a7,a8,a9,a10⟩:=op_cells r2;clear r1 r2)) | (go_at_call_of 43 sa.pA;(refine (hla.out u1 V1.out).mono ?_;rintro e u2 ⟨rfl,hb9⟩;have E2:=Lib.hid (E1.out.trans (hb9.mono (Below.size E1.out)));have V2:=Lib.hid (z4'.out.trans (E2.out.mono z4'.out.size));clear hb9;clear o0 o1 o2 o3 o4 o5 o6 o7 o8 o9 o10 a0 a1 a2 a3 a4 a5 a6 a7 a8 a9 a10;obtain ⟨r1,r2⟩:=hrow.out _ E2.out;obtain ⟨o0,o1,o2,o3,o4,o5,o6,o7,o8,o9,o10⟩:=op_cells r1;obtain ⟨a0,a1,a2,a3,a4,a5,a6,a7,a8,a9,a10⟩:=op_cells r2;clear r1 r2)) | (go_at_call_of 43 sb.pA;(refine (hlb.out W2 z4'.out).mono ?_;rintro e u1 ⟨rfl,hb9⟩;have E1:=Lib.hid ((Below.refl W2.heap.size W2).trans (hb9.mono (Below.size (Below.refl W2.heap.size W2))));have V1:=Lib.hid (z4'.out.trans (E1.out.mono z4'.out.size));clear hb9;clear o0 o1 o2 o3 o4 o5 o6 o7 o8 o9 o10 a0 a1 a2 a3 a4 a5 a6 a7 a8 a9 a10;obtain ⟨r1,r2⟩:=hrow.out _ E1.out;obtain ⟨o0,o1,o2,o3,o4,o5,o6,o7,o8,o9,o10⟩:=op_cells r1;obtain ⟨a0,a1,a2,a3,a4,a5,a6,a7,a8,a9,a10⟩:=op_cells r2;clear r1 r2)))
        go_ret
        exact ⟨rfl,BZ.out⟩
      | true =>
        cases ga with
        | false =>
          go_wp2_with (first | (go_at_call 52;(refine (works_any _).mono ?_;rintro e wz ⟨rfl,hbz⟩;have BZ:=Lib.hid (Below.trans V4.out (hbz.mono (Below.size V4.out)));clear hbz)) | (go_at_call_of 13 sa.qA;(refine (hsa.out (by first | rfl | trivial) u3 V3.out).mono ?_;rintro e u4 ⟨rfl,hb9⟩;have E4:=Lib.hid (E3.out.trans (hb9.mono (Below.size E3.out)));have V4:=Lib.hid (z4'.out.trans (E4.out.mono z4'.out.size));clear hb9;clear o0 o1 o2 o3 o4 o5 o6 o7 o8 o9 o10 a0 a1 a2 a3 a4 a5 a6 a7 a8 a9 a10;obtain ⟨r1,r2⟩:=hrow.out _ E4.out;obtain ⟨o0,o1,o2,o3,o4,o5,o6,o7,o8,o9,o10⟩:=op_cells r1;obtain ⟨a0,a1,a2,a3,a4,a5,a6,a7,a8,a9,a10⟩:=op_cells r2;clear r1 r2)) | (go_at_call_of 13 sb.qA;(refine (hsb.out (by first | rfl | trivial) u2 V2.out).mono ?_;rintro e u3 ⟨rfl,hb9⟩;have E3:=Lib.hid (E2.out.trans (hb9.mono (Below.size E2.out)));have V3:=Lib.hid (z4'.out.trans (E3.out.mono z4'.out.size));clear hb9;clear o0 o1 o2 o3 o4 o5 o6 o7 o8 o9 o10 a0 a1 a2 a3 a4 a5 a6 a7 a8 a9 a10;obtain ⟨r1,r2⟩:=hrow.out _ E3.out;obtain ⟨o0,o1,o2,o3,o4,o5,o6,o7,o8,o9,o10⟩:=op_cells r1;obtain ⟨a0,a1,a2,a3,a4,a5,a6,a7,a8,a9,a10⟩:=op_cells r2;clear r1 r2)) | (go_at_call_of 43 sa.pA;(refine (hla.out u1 V1.out).mono ?_;rintro e u2 ⟨rfl,hb9⟩;have E2:=Lib.hid (E1.out.trans (hb9.mono (Below.size E1.out)));have V2:=Lib.hid (z4'.out.trans (E2.out.mono z4'.out.size));clear hb9;clear o0 o1 o2 o3 o4 o5 o6 o7 o8 o9 o10 a0 a1 a2 a3 a4 a5 a6 a7 a8 a9 a10;obtain ⟨r1,r2⟩:=hrow.out _ E2.out;obtain ⟨o0,o1,o2,o3,o4,o5,o6,o7,o8,o9,o10⟩:=op_cells r1;obtain ⟨a0,a1,a2,a3,a4,a5,a6,a7,a8,a9,a10⟩:=op_cells r2;clear r1 r2)) | (go_at_call_of 43 sb.pA;(refine (hlb.out W2 z4'.out).mono ?_;rintro e u1 ⟨rfl,hb9⟩;have E1:=Lib.hid ((Below.refl W2.heap.size W2).trans (hb9.mono (Below.size (Below.refl W2.heap.size W2))));have V1:=Lib.hid (z4'.out.trans (E1.out.mono z4'.out.size));clear hb9;clear o0 o1 o2 o3 o4 o5 o6 o7 o8 o9 o10 a0 a1 a2 a3 a4 a5 a6 a7 a8 a9 a10;obtain ⟨r1,r2⟩:=hrow.out _ E1.out;obtain ⟨o0,o1,o2,o3,o4,o5,o6,o7,o8,o9,o10⟩:=op_cells r1;obtain ⟨a0,a1,a2,a3,a4,a5,a6,a7,a8,a9,a10⟩:=op_cells r2;clear r1 r2)))
          go_ret
          exact ⟨rfl,BZ.out⟩
        | true =>
          have hfb:=HB.out (by first | rfl | trivial) (by first | rfl | trivial)
          have hfa:=HA.out (by first | rfl | trivial) (by first | rfl | trivial)
          have hIb:=Lib.hid (fun (W:World) (hB:Below w.heap.size w W)=>hib.out (by first | rfl | trivial) W hB)
          have hIa:=Lib.hid (fun (W:World) (hB:Below w.heap.size w W)=>hia.out (by first | rfl | trivial) W hB)
          have hbB0:=fun (W:World) (hB:Below w.heap.size w W)=>rbare_any W b sb (hIb.out W hB)
          have hbA0:=fun (W:World) (hB:Below w.heap.size w W)=>rbare_any W a sa (hIa.out W hB)
          have hq:=Lib.hid (fun (W:World) (hB:Below w.heap.size w W)=>(rBoth_any W b a sb sa prior (hIb.out W hB) (hIa.out W hB) hfb.1 hfa.1 hfb.2 hfa.2).mono fun e w' h=>bothA_read h)
          have hTb:=Lib.hid (tiny_bare hfb)
          have hTa:=Lib.hid (tiny_bare hfa)
          have hOb:=Lib.hid (op_ok (hIb.out w (Below.refl _ _))).bare
          have hOa:=Lib.hid (op_ok (hIa.out w (Below.refl _ _))).bare
          have hsb2:=Lib.hid (show sameB (bareV (bareV b)) (bareV b) = true by rw [bare_bare];exact sameB_refl _)
          have hsa2:=Lib.hid (show sameB (bareV (bareV a)) (bareV a) = true by rw [bare_bare];exact sameB_refl _)
          have hbb:=bare_both b a prior
          obtain ⟨oB,hoB⟩:∃ Q9,Q9 = bareV b:=⟨_,rfl⟩
          obtain ⟨oA,hoA⟩:∃ Q9,Q9 = bareV a:=⟨_,rfl⟩
          rw [← hoB] at hbB0 hTb hOb hsb2 hbb
          rw [← hoA] at hbA0 hTa hOa hsa2 hbb
          have hbB:=Lib.hid hbB0
          have hbA:=Lib.hid hbA0
          obtain ⟨R,hR⟩:∃ Q9,Q9 = bothV b a prior:=⟨_,rfl⟩
          rw [← hR] at hq hbb
          have HBB:=Lib.hid hbb
          unfold opCells at hbB hbA hq
          have HOB:=Lib.hid hoB
          have HOA:=Lib.hid hoA
          clear hfb hfa hbB0 hbA0 hoB hoA hR hbb
          obtain ⟨x_,y_,k⟩:=R
          dsimp only at hq
          have hkk:(k != k) = false:=by simp
          go_upto_region 3 with (first | (go_at_call_of 13 sa.qA;(refine (hsa.out (by first | rfl | trivial) u3 V3.out).mono ?_;rintro e u4 ⟨rfl,hb9⟩;have E4:=Lib.hid (E3.out.trans (hb9.mono (Below.size E3.out)));have V4:=Lib.hid (z4'.out.trans (E4.out.mono z4'.out.size));clear hb9;clear o0 o1 o2 o3 o4 o5 o6 o7 o8 o9 o10 a0 a1 a2 a3 a4 a5 a6 a7 a8 a9 a10;obtain ⟨r1,r2⟩:=hrow.out _ E4.out;obtain ⟨o0,o1,o2,o3,o4,o5,o6,o7,o8,o9,o10⟩:=op_cells r1;obtain ⟨a0,a1,a2,a3,a4,a5,a6,a7,a8,a9,a10⟩:=op_cells r2;clear r1 r2)) | (go_at_call_of 13 sb.qA;(refine (hsb.out (by first | rfl | trivial) u2 V2.out).mono ?_;rintro e u3 ⟨rfl,hb9⟩;have E3:=Lib.hid (E2.out.trans (hb9.mono (Below.size E2.out)));have V3:=Lib.hid (z4'.out.trans (E3.out.mono z4'.out.size));clear hb9;clear o0 o1 o2 o3 o4 o5 o6 o7 o8 o9 o10 a0 a1 a2 a3 a4 a5 a6 a7 a8 a9 a10;obtain ⟨r1,r2⟩:=hrow.out _ E3.out;obtain ⟨o0,o1,o2,o3,o4,o5,o6,o7,o8,o9,o10⟩:=op_cells r1;obtain ⟨a0,a1,a2,a3,a4,a5,a6,a7,a8,a9,a10⟩:=op_cells r2;clear r1 r2)) | (go_at_call_of 43 sa.pA;(refine (hla.out u1 V1.out).mono ?_;rintro e u2 ⟨rfl,hb9⟩;have E2:=Lib.hid (E1.out.trans (hb9.mono (Below.size E1.out)));have V2:=Lib.hid (z4'.out.trans (E2.out.mono z4'.out.size));clear hb9;clear o0 o1 o2 o3 o4 o5 o6 o7 o8 o9 o10 a0 a1 a2 a3 a4 a5 a6 a7 a8 a9 a10;obtain ⟨r1,r2⟩:=hrow.out _ E2.out;obtain ⟨o0,o1,o2,o3,o4,o5,o6,o7,o8,o9,o10⟩:=op_cells r1;obtain ⟨a0,a1,a2,a3,a4,a5,a6,a7,a8,a9,a10⟩:=op_cells r2;clear r1 r2)) | (go_at_call_of 43 sb.pA;(refine (hlb.out W2 z4'.out).mono ?_;rintro e u1 ⟨rfl,hb9⟩;have E1:=Lib.hid ((Below.refl W2.heap.size W2).trans (hb9.mono (Below.size (Below.refl W2.heap.size W2))));have V1:=Lib.hid (z4'.out.trans (E1.out.mono z4'.out.size));clear hb9;clear o0 o1 o2 o3 o4 o5 o6 o7 o8 o9 o10 a0 a1 a2 a3 a4 a5 a6 a7 a8 a9 a10;obtain ⟨r1,r2⟩:=hrow.out _ E1.out;obtain ⟨o0,o1,o2,o3,o4,o5,o6,o7,o8,o9,o10⟩:=op_cells r1;obtain ⟨a0,a1,a2,a3,a4,a5,a6,a7,a8,a9,a10⟩:=op_cells r2;clear r1 r2)))
          clear o0 o1 o2 o3 o4 o5 o6 o7 o8 o9 o10 a0 a1 a2 a3 a4 a5 a6 a7 a8 a9 a10
          go_cut [7,8] from 38 to 42 (fun v7 v8 wc=>∃ (g3 g4:Nat) (s1 s2:OS),v7 = .pointer (some ⟨g3,0,none⟩)∧v8 = .pointer (some ⟨g4,0,none⟩)∧wc.heap[g3]? = some (.cells (opCells oB s1) 52 (0,0))∧wc.heap[g4]? = some (.cells (opCells oA s2) 52 (0,0))∧OwnOp w.heap.size wc oB s1∧OwnOp w.heap.size wc oA s2∧Below u4.heap.size u4 wc)
          case first =>
            rename_i K0 hK0
            refine Top.wp_region_L (fun W=>Below u4.heap.size u4 W) 7 rfl ((Below.refl u4.heap.size u4).drew) (fun hHeld=>?_)
            refine Top.wpAnyL_take (i:=0) (v:=?_) rfl (by kernel_rfl) (by kernel_rfl) (by kernel_rfl) (by kernel_rfl) (fun _ _ _ h=>h) (Or.inl ⟨by rfl,?_⟩) hHeld ?_
            rotate_left 1
            · intro W hSw;obtain ⟨r1,r2⟩:=hrow.out W (E4.out.trans (hSw.mono E4.out.size));obtain ⟨o0,o1,o2,o3,o4,o5,o6,o7,o8,o9,o10⟩:=op_cells r1;obtain ⟨a0,a1,a2,a3,a4,a5,a6,a7,a8,a9,a10⟩:=op_cells r2;go_simp;try with_reducible rfl
            try simp only [Act.put,zA,zB,zC]
            refine Top.wpAnyL_take (i:=2) (v:=?_) rfl (by kernel_rfl) (by kernel_rfl) (by kernel_rfl) (by kernel_rfl) (fun _ _ _ h=>h) (Or.inl ⟨by rfl,?_⟩) hHeld ?_
            rotate_left 1
            · intro W hSw;obtain ⟨r1,r2⟩:=hrow.out W (E4.out.trans (hSw.mono E4.out.size));obtain ⟨o0,o1,o2,o3,o4,o5,o6,o7,o8,o9,o10⟩:=op_cells r1;obtain ⟨a0,a1,a2,a3,a4,a5,a6,a7,a8,a9,a10⟩:=op_cells r2;go_simp;try with_reducible rfl
            try simp only [Act.put,zA,zB,zC]
            obtain ⟨D,hD⟩:∃ D,D = u4.drew:=⟨_,rfl⟩
            rw [← hD] at hHeld ⊢
            clear hD
            have BB:=Lib.hid hHeld
            refine wpAnyL_three (i:=1) (j:=4) (k:=5) (by kernel_rfl) (show _ = some { dst:=some 39,op:=Go.Op.call { callee:=Go.Callee.value (Go.Operand.func 32),args:=#[Go.Operand.tmp 38],argTypes:=#[52] },type:=52,pos:="law.go:44",after:=#[{ on:=0,ground:=Go.Ground.data }],guard:=none } from rfl) (show _ = some { dst:=some 7,op:=Go.Op.alloc 52,type:=0,pos:="law.go:44",after:=#[],guard:=none } from rfl) (show _ = some { dst:=some 8,op:=Go.Op.alloc 52,type:=0,pos:="law.go:44",after:=#[],guard:=none } from rfl) (by decide) (by decide) (by decide) (fun K hK=>?_) (fun K hK=>?_) (fun K hK=>?_)
            · go_simp
              refine (hbB.out D (V4.out.trans (BB.out.mono V4.out.size))).mono ?_
              have BBo:=BB
              rintro e y1 ⟨s1,rfl,ho,hb⟩
              have BB:=Lib.hid (BB.out.trans (hb.mono BB.out.size))
              have P1:=Lib.hid (OwnOp.mono ho (base':=w.heap.size) (Below.size (V4.out.trans (BBo.out.mono V4.out.size))))
              clear ho hb BBo
              go_simp
              refine hK.out _ _ ?_ (fun hNew=>?_)
              · exact BB.out
              clear hK K hHeld
              have hHeld:=hNew
              clear hNew
              try simp only [Act.put,zA,zB,zC]
              refine wpAnyL_three (i:=3) (j:=4) (k:=5) (by kernel_rfl) (show _ = some { dst:=some 41,op:=Go.Op.call { callee:=Go.Callee.value (Go.Operand.func 32),args:=#[Go.Operand.tmp 40],argTypes:=#[52] },type:=52,pos:="law.go:44",after:=#[{ on:=2,ground:=Go.Ground.data },{ on:=1,ground:=Go.Ground.chain }],guard:=none } from rfl) (show _ = some { dst:=some 7,op:=Go.Op.alloc 52,type:=0,pos:="law.go:44",after:=#[],guard:=none } from rfl) (show _ = some { dst:=some 8,op:=Go.Op.alloc 52,type:=0,pos:="law.go:44",after:=#[],guard:=none } from rfl) (by decide) (by decide) (by decide) (fun K hK=>?_) (fun K hK=>?_) (fun K hK=>?_)
              · go_simp
                refine (hbA.out y1 (V4.out.trans (BB.out.mono V4.out.size))).mono ?_
                have BBo:=BB
                rintro e y2 ⟨s2,rfl,ho,hb⟩
                have BB:=Lib.hid (BB.out.trans (hb.mono BB.out.size))
                have P1:=Lib.hid (P1.out.kept (w':=y2) fun k _ h2=>hb.block k h2)
                have P2:=Lib.hid (OwnOp.mono ho (base':=w.heap.size) (Below.size (V4.out.trans (BBo.out.mono V4.out.size))))
                clear ho hb BBo
                go_simp
                refine hK.out _ _ ?_ (fun hNew=>?_)
                · exact BB.out
                clear hK K hHeld
                have hHeld:=hNew
                clear hNew
                try simp only [Act.put,zA,zB,zC]
                refine Top.wpAnyL_two (i:=4) (j:=5) (by kernel_rfl) (show _ = some { dst:=some 7,op:=Go.Op.alloc 52,type:=0,pos:="law.go:44",after:=#[],guard:=none } from rfl) (show _ = some { dst:=some 8,op:=Go.Op.alloc 52,type:=0,pos:="law.go:44",after:=#[],guard:=none } from rfl) (by decide) (by decide) (fun K hK=>?_) (fun K hK=>?_)
                · go_simp
                  obtain ⟨x3,hX⟩:∃ Q9,Q9 = y2.alloc (.cells zero11 52):=⟨_,rfl⟩
                  have hX':x3 = y2.alloc (.cells #[.int .u8 0,.slice none 0 0,.int .i64 0,.slice none 0 0,.int .u64 0,.bool false,.string ⟨#[]⟩,.string ⟨#[]⟩,.string ⟨#[]⟩,.bool false,.slice none 0 0] 52):=hX
                  rw [← hX']
                  have hb:Below y2.heap.size y2 x3:=by rw [hX];exact (Below.refl _ _).alloc (Nat.le_refl _) _
                  have rn:x3.heap[y2.heap.size]? = some (.cells zero11 52 (0,0)):=by rw [hX];exact heap_alloc_new y2 _
                  have hge:u4.heap.size≤y2.heap.size:=BB.out.size
                  have BB:=Lib.hid (BB.out.trans (hb.mono BB.out.size))
                  have P1:=Lib.hid (P1.out.kept (w':=x3) fun k _ h2=>hb.block k h2)
                  have P2:=Lib.hid (P2.out.kept (w':=x3) fun k _ h2=>hb.block k h2)
                  obtain ⟨g3,hg⟩:∃ g,g = y2.heap.size:=⟨_,rfl⟩
                  rw [← hg] at rn hge ⊢
                  have R3:=Lib.hid rn
                  have G3:=Lib.hid hge
                  clear hX hX' hb rn hge hg
                  refine hK.out _ _ ?_ (fun hNew=>?_)
                  · exact BB.out
                  clear hK K hHeld
                  have hHeld:=hNew
                  clear hNew
                  try simp only [Act.put,zA,zB,zC]
                  refine Top.wpAnyL_one (i:=5) (by kernel_rfl) rfl (by decide) (fun K hK=>?_)
                  go_simp
                  obtain ⟨x4,hX⟩:∃ Q9,Q9 = x3.alloc (.cells zero11 52):=⟨_,rfl⟩
                  have hX':x4 = x3.alloc (.cells #[.int .u8 0,.slice none 0 0,.int .i64 0,.slice none 0 0,.int .u64 0,.bool false,.string ⟨#[]⟩,.string ⟨#[]⟩,.string ⟨#[]⟩,.bool false,.slice none 0 0] 52):=hX
                  rw [← hX']
                  have hb:Below x3.heap.size x3 x4:=by rw [hX];exact (Below.refl _ _).alloc (Nat.le_refl _) _
                  have rn:x4.heap[x3.heap.size]? = some (.cells zero11 52 (0,0)):=by rw [hX];exact heap_alloc_new x3 _
                  have hne0:g3 ≠ x3.heap.size:=Nat.ne_of_lt (Array.getElem?_eq_some_iff.1 R3.out).1
                  have hge:u4.heap.size≤x3.heap.size:=BB.out.size
                  have BB:=Lib.hid (BB.out.trans (hb.mono BB.out.size))
                  have P1:=Lib.hid (P1.out.kept (w':=x4) fun k _ h2=>hb.block k h2)
                  have P2:=Lib.hid (P2.out.kept (w':=x4) fun k _ h2=>hb.block k h2)
                  have R3:=Lib.hid ((hb.block _ (Array.getElem?_eq_some_iff.1 R3.out).1).trans R3.out)
                  obtain ⟨g4,hg⟩:∃ g,g = x3.heap.size:=⟨_,rfl⟩
                  rw [← hg] at rn hge hne0 ⊢
                  have R4:=Lib.hid rn
                  have G4:=Lib.hid hge
                  have NE:=Lib.hid (show g3 ≠ g4 from hne0)
                  clear hne0
                  clear hX hX' hb rn hge hg
                  refine hK.out _ _ ?_ (fun hNew=>?_)
                  · exact BB.out
                  clear hK K hHeld
                  have hHeld:=hNew
                  clear hNew
                  try simp only [Act.put,zA,zB,zC]
                  have y3:=R3.out
                  unfold zero11 at y3
                  obtain ⟨q0,q1,q2,q3,q4,q5,q6,q7,q8,q9,q10,qf⟩:=eleven_cells y3
                  refine Top.wpAnyL_one (i:=6) (by kernel_rfl) rfl (by decide) (fun K hK=>?_)
                  try unfold opCells
                  go_simp
                  obtain ⟨X,hX,RX,-,ZX,KX⟩:=end_op (w:=u4) (o:=oB) (s:=s1) (r:=g3) G3.out BB.out (show x4.heap[g3]? = some (.cells #[.int .u8 0,.slice none 0 0,.int .i64 0,.slice none 0 0,.int .u64 0,.bool false,.string ⟨#[]⟩,.string ⟨#[]⟩,.string ⟨#[]⟩,.bool false,.slice none 0 0] _ (0,0)) from R3.out)
                  have BX:Below u4.heap.size u4 X:=by rw [hX];exact below_op BB.out G3.out
                  have hX':X = (((((((((((x4.setCell ⟨g3,0,none⟩ (.int .u8 (oB.kind:Int))).setCell ⟨g3,1,none⟩ (.slice s1.pA s1.pn s1.pc)).setCell ⟨g3,2,none⟩ (.int .i64 oB.at_)).setCell ⟨g3,3,none⟩ (.slice s1.tA s1.tn s1.tc)).setCell ⟨g3,4,none⟩ (.int .u64 (oB.id:Int))).setCell ⟨g3,5,none⟩ (.bool oB.leaf)).setCell ⟨g3,6,none⟩ (.string ⟨oB.label.toArray⟩)).setCell ⟨g3,7,none⟩ (.string ⟨oB.key.toArray⟩)).setCell ⟨g3,8,none⟩ (.string ⟨oB.value.toArray⟩)).setCell ⟨g3,9,none⟩ (.bool oB.gone)).setCell ⟨g3,10,none⟩ (.slice s1.qA s1.qn s1.qc)):=hX
                  rw [← hX']
                  clear q0 q1 q2 q3 q4 q5 q6 q7 q8 q9 q10 qf y3
                  refine hK.out _ _ ?_ (fun hNew=>?_)
                  · exact BX
                  clear hK K hHeld hX hX'
                  have hHeld:=hNew
                  clear hNew
                  try simp only [Act.put,zA,zB,zC]
                  have R4X:=(KX g4 (Ne.symm NE.out)).trans R4.out
                  have y3:=R4X
                  unfold zero11 at y3
                  obtain ⟨q0,q1,q2,q3,q4,q5,q6,q7,q8,q9,q10,qf⟩:=eleven_cells y3
                  refine Top.wpAnyL_last (by kernel_rfl) rfl (fun K hK=>?_)
                  try unfold opCells
                  go_simp
                  obtain ⟨Y,hY,RY,-,ZY,KY⟩:=end_op (w:=u4) (o:=oA) (s:=s2) (r:=g4) G4.out BX (show X.heap[g4]? = some (.cells #[.int .u8 0,.slice none 0 0,.int .i64 0,.slice none 0 0,.int .u64 0,.bool false,.string ⟨#[]⟩,.string ⟨#[]⟩,.string ⟨#[]⟩,.bool false,.slice none 0 0] _ (0,0)) from R4X)
                  have BY:Below u4.heap.size u4 Y:=by rw [hY];exact below_op BX G4.out
                  have hY':Y = (((((((((((X.setCell ⟨g4,0,none⟩ (.int .u8 (oA.kind:Int))).setCell ⟨g4,1,none⟩ (.slice s2.pA s2.pn s2.pc)).setCell ⟨g4,2,none⟩ (.int .i64 oA.at_)).setCell ⟨g4,3,none⟩ (.slice s2.tA s2.tn s2.tc)).setCell ⟨g4,4,none⟩ (.int .u64 (oA.id:Int))).setCell ⟨g4,5,none⟩ (.bool oA.leaf)).setCell ⟨g4,6,none⟩ (.string ⟨oA.label.toArray⟩)).setCell ⟨g4,7,none⟩ (.string ⟨oA.key.toArray⟩)).setCell ⟨g4,8,none⟩ (.string ⟨oA.value.toArray⟩)).setCell ⟨g4,9,none⟩ (.bool oA.gone)).setCell ⟨g4,10,none⟩ (.slice s2.qA s2.qn s2.qc)):=hY
                  rw [← hY']
                  clear q0 q1 q2 q3 q4 q5 q6 q7 q8 q9 q10 qf y3
                  refine hK _ _ ?_
                  clear hK K hY hY'
                  try simp only [Act.put,zA,zB,zC]
                  have F:=Lib.hid (show Y.heap[g3]? = some (.cells (opCells oB s1) 52 (0,0))∧Y.heap[g4]? = some (.cells (opCells oA s2) 52 (0,0))∧OwnOp w.heap.size Y oB s1∧OwnOp w.heap.size Y oA s2∧Below u4.heap.size u4 Y from ⟨(KY g3 NE.out).trans RX,RY,op_other (op_other P1.out R3.out KX) R4X KY,op_other (op_other P2.out R3.out KX) R4X KY,BY⟩)
                  refine wpAny_done (by kernel_rfl) ?_ _
                  refine hK0 _ _ ?_
                  clear hK0 RX RY KX KY ZX ZY BX BY R4X hHeld
                  go_meet
                  exact ⟨g3,g4,s1,s2,rfl,rfl,F.out⟩
                · go_simp
                  obtain ⟨x5,hX⟩:∃ Q9,Q9 = y2.alloc (.cells zero11 52):=⟨_,rfl⟩
                  have hX':x5 = y2.alloc (.cells #[.int .u8 0,.slice none 0 0,.int .i64 0,.slice none 0 0,.int .u64 0,.bool false,.string ⟨#[]⟩,.string ⟨#[]⟩,.string ⟨#[]⟩,.bool false,.slice none 0 0] 52):=hX
                  rw [← hX']
                  have hb:Below y2.heap.size y2 x5:=by rw [hX];exact (Below.refl _ _).alloc (Nat.le_refl _) _
                  have rn:x5.heap[y2.heap.size]? = some (.cells zero11 52 (0,0)):=by rw [hX];exact heap_alloc_new y2 _
                  have hge:u4.heap.size≤y2.heap.size:=BB.out.size
                  have BB:=Lib.hid (BB.out.trans (hb.mono BB.out.size))
                  have P1:=Lib.hid (P1.out.kept (w':=x5) fun k _ h2=>hb.block k h2)
                  have P2:=Lib.hid (P2.out.kept (w':=x5) fun k _ h2=>hb.block k h2)
                  obtain ⟨g4,hg⟩:∃ g,g = y2.heap.size:=⟨_,rfl⟩
                  rw [← hg] at rn hge ⊢
                  have R4:=Lib.hid rn
                  have G4:=Lib.hid hge
                  clear hX hX' hb rn hge hg
                  refine hK.out _ _ ?_ (fun hNew=>?_)
                  · exact BB.out
                  clear hK K hHeld
                  have hHeld:=hNew
                  clear hNew
                  try simp only [Act.put,zA,zB,zC]
                  refine Top.wpAnyL_one (i:=4) (by kernel_rfl) rfl (by decide) (fun K hK=>?_)
                  go_simp
                  obtain ⟨x6,hX⟩:∃ Q9,Q9 = x5.alloc (.cells zero11 52):=⟨_,rfl⟩
                  have hX':x6 = x5.alloc (.cells #[.int .u8 0,.slice none 0 0,.int .i64 0,.slice none 0 0,.int .u64 0,.bool false,.string ⟨#[]⟩,.string ⟨#[]⟩,.string ⟨#[]⟩,.bool false,.slice none 0 0] 52):=hX
                  rw [← hX']
                  have hb:Below x5.heap.size x5 x6:=by rw [hX];exact (Below.refl _ _).alloc (Nat.le_refl _) _
                  have rn:x6.heap[x5.heap.size]? = some (.cells zero11 52 (0,0)):=by rw [hX];exact heap_alloc_new x5 _
                  have hne0:g4 ≠ x5.heap.size:=Nat.ne_of_lt (Array.getElem?_eq_some_iff.1 R4.out).1
                  have hge:u4.heap.size≤x5.heap.size:=BB.out.size
                  have BB:=Lib.hid (BB.out.trans (hb.mono BB.out.size))
                  have P1:=Lib.hid (P1.out.kept (w':=x6) fun k _ h2=>hb.block k h2)
                  have P2:=Lib.hid (P2.out.kept (w':=x6) fun k _ h2=>hb.block k h2)
                  have R4:=Lib.hid ((hb.block _ (Array.getElem?_eq_some_iff.1 R4.out).1).trans R4.out)
                  obtain ⟨g3,hg⟩:∃ g,g = x5.heap.size:=⟨_,rfl⟩
                  rw [← hg] at rn hge hne0 ⊢
                  have R3:=Lib.hid rn
                  have G3:=Lib.hid hge
                  have NE:=Lib.hid (show g3 ≠ g4 from Ne.symm hne0)
                  clear hne0
                  clear hX hX' hb rn hge hg
                  refine hK.out _ _ ?_ (fun hNew=>?_)
                  · exact BB.out
                  clear hK K hHeld
                  have hHeld:=hNew
                  clear hNew
                  try simp only [Act.put,zA,zB,zC]
                  have y3:=R3.out
                  unfold zero11 at y3
                  obtain ⟨q0,q1,q2,q3,q4,q5,q6,q7,q8,q9,q10,qf⟩:=eleven_cells y3
                  refine Top.wpAnyL_one (i:=6) (by kernel_rfl) rfl (by decide) (fun K hK=>?_)
                  try unfold opCells
                  go_simp
                  obtain ⟨X,hX,RX,-,ZX,KX⟩:=end_op (w:=u4) (o:=oB) (s:=s1) (r:=g3) G3.out BB.out (show x6.heap[g3]? = some (.cells #[.int .u8 0,.slice none 0 0,.int .i64 0,.slice none 0 0,.int .u64 0,.bool false,.string ⟨#[]⟩,.string ⟨#[]⟩,.string ⟨#[]⟩,.bool false,.slice none 0 0] _ (0,0)) from R3.out)
                  have BX:Below u4.heap.size u4 X:=by rw [hX];exact below_op BB.out G3.out
                  have hX':X = (((((((((((x6.setCell ⟨g3,0,none⟩ (.int .u8 (oB.kind:Int))).setCell ⟨g3,1,none⟩ (.slice s1.pA s1.pn s1.pc)).setCell ⟨g3,2,none⟩ (.int .i64 oB.at_)).setCell ⟨g3,3,none⟩ (.slice s1.tA s1.tn s1.tc)).setCell ⟨g3,4,none⟩ (.int .u64 (oB.id:Int))).setCell ⟨g3,5,none⟩ (.bool oB.leaf)).setCell ⟨g3,6,none⟩ (.string ⟨oB.label.toArray⟩)).setCell ⟨g3,7,none⟩ (.string ⟨oB.key.toArray⟩)).setCell ⟨g3,8,none⟩ (.string ⟨oB.value.toArray⟩)).setCell ⟨g3,9,none⟩ (.bool oB.gone)).setCell ⟨g3,10,none⟩ (.slice s1.qA s1.qn s1.qc)):=hX
                  rw [← hX']
                  clear q0 q1 q2 q3 q4 q5 q6 q7 q8 q9 q10 qf y3
                  refine hK.out _ _ ?_ (fun hNew=>?_)
                  · exact BX
                  clear hK K hHeld hX hX'
                  have hHeld:=hNew
                  clear hNew
                  try simp only [Act.put,zA,zB,zC]
                  have R4X:=(KX g4 (Ne.symm NE.out)).trans R4.out
                  have y3:=R4X
                  unfold zero11 at y3
                  obtain ⟨q0,q1,q2,q3,q4,q5,q6,q7,q8,q9,q10,qf⟩:=eleven_cells y3
                  refine Top.wpAnyL_last (by kernel_rfl) rfl (fun K hK=>?_)
                  try unfold opCells
                  go_simp
                  obtain ⟨Y,hY,RY,-,ZY,KY⟩:=end_op (w:=u4) (o:=oA) (s:=s2) (r:=g4) G4.out BX (show X.heap[g4]? = some (.cells #[.int .u8 0,.slice none 0 0,.int .i64 0,.slice none 0 0,.int .u64 0,.bool false,.string ⟨#[]⟩,.string ⟨#[]⟩,.string ⟨#[]⟩,.bool false,.slice none 0 0] _ (0,0)) from R4X)
                  have BY:Below u4.heap.size u4 Y:=by rw [hY];exact below_op BX G4.out
                  have hY':Y = (((((((((((X.setCell ⟨g4,0,none⟩ (.int .u8 (oA.kind:Int))).setCell ⟨g4,1,none⟩ (.slice s2.pA s2.pn s2.pc)).setCell ⟨g4,2,none⟩ (.int .i64 oA.at_)).setCell ⟨g4,3,none⟩ (.slice s2.tA s2.tn s2.tc)).setCell ⟨g4,4,none⟩ (.int .u64 (oA.id:Int))).setCell ⟨g4,5,none⟩ (.bool oA.leaf)).setCell ⟨g4,6,none⟩ (.string ⟨oA.label.toArray⟩)).setCell ⟨g4,7,none⟩ (.string ⟨oA.key.toArray⟩)).setCell ⟨g4,8,none⟩ (.string ⟨oA.value.toArray⟩)).setCell ⟨g4,9,none⟩ (.bool oA.gone)).setCell ⟨g4,10,none⟩ (.slice s2.qA s2.qn s2.qc)):=hY
                  rw [← hY']
                  clear q0 q1 q2 q3 q4 q5 q6 q7 q8 q9 q10 qf y3
                  refine hK _ _ ?_
                  clear hK K hY hY'
                  try simp only [Act.put,zA,zB,zC]
                  have F:=Lib.hid (show Y.heap[g3]? = some (.cells (opCells oB s1) 52 (0,0))∧Y.heap[g4]? = some (.cells (opCells oA s2) 52 (0,0))∧OwnOp w.heap.size Y oB s1∧OwnOp w.heap.size Y oA s2∧Below u4.heap.size u4 Y from ⟨(KY g3 NE.out).trans RX,RY,op_other (op_other P1.out R3.out KX) R4X KY,op_other (op_other P2.out R3.out KX) R4X KY,BY⟩)
                  refine wpAny_done (by kernel_rfl) ?_ _
                  refine hK0 _ _ ?_
                  clear hK0 RX RY KX KY ZX ZY BX BY R4X hHeld
                  go_meet
                  exact ⟨g3,g4,s1,s2,rfl,rfl,F.out⟩
              · go_simp
                obtain ⟨x7,hX⟩:∃ Q9,Q9 = y1.alloc (.cells zero11 52):=⟨_,rfl⟩
                have hX':x7 = y1.alloc (.cells #[.int .u8 0,.slice none 0 0,.int .i64 0,.slice none 0 0,.int .u64 0,.bool false,.string ⟨#[]⟩,.string ⟨#[]⟩,.string ⟨#[]⟩,.bool false,.slice none 0 0] 52):=hX
                rw [← hX']
                have hb:Below y1.heap.size y1 x7:=by rw [hX];exact (Below.refl _ _).alloc (Nat.le_refl _) _
                have rn:x7.heap[y1.heap.size]? = some (.cells zero11 52 (0,0)):=by rw [hX];exact heap_alloc_new y1 _
                have hge:u4.heap.size≤y1.heap.size:=BB.out.size
                have BB:=Lib.hid (BB.out.trans (hb.mono BB.out.size))
                have P1:=Lib.hid (P1.out.kept (w':=x7) fun k _ h2=>hb.block k h2)
                obtain ⟨g3,hg⟩:∃ g,g = y1.heap.size:=⟨_,rfl⟩
                rw [← hg] at rn hge ⊢
                have R3:=Lib.hid rn
                have G3:=Lib.hid hge
                clear hX hX' hb rn hge hg
                refine hK.out _ _ ?_ (fun hNew=>?_)
                · exact BB.out
                clear hK K hHeld
                have hHeld:=hNew
                clear hNew
                try simp only [Act.put,zA,zB,zC]
                refine Top.wpAnyL_two (i:=3) (j:=5) (by kernel_rfl) (show _ = some { dst:=some 41,op:=Go.Op.call { callee:=Go.Callee.value (Go.Operand.func 32),args:=#[Go.Operand.tmp 40],argTypes:=#[52] },type:=52,pos:="law.go:44",after:=#[{ on:=2,ground:=Go.Ground.data },{ on:=1,ground:=Go.Ground.chain }],guard:=none } from rfl) (show _ = some { dst:=some 8,op:=Go.Op.alloc 52,type:=0,pos:="law.go:44",after:=#[],guard:=none } from rfl) (by decide) (by decide) (fun K hK=>?_) (fun K hK=>?_)
                · go_simp
                  refine (hbA.out x7 (V4.out.trans (BB.out.mono V4.out.size))).mono ?_
                  have BBo:=BB
                  rintro e y8 ⟨s2,rfl,ho,hb⟩
                  have BB:=Lib.hid (BB.out.trans (hb.mono BB.out.size))
                  have P1:=Lib.hid (P1.out.kept (w':=y8) fun k _ h2=>hb.block k h2)
                  have R3:=Lib.hid ((hb.block _ (Array.getElem?_eq_some_iff.1 R3.out).1).trans R3.out)
                  have P2:=Lib.hid (OwnOp.mono ho (base':=w.heap.size) (Below.size (V4.out.trans (BBo.out.mono V4.out.size))))
                  clear ho hb BBo
                  go_simp
                  refine hK.out _ _ ?_ (fun hNew=>?_)
                  · exact BB.out
                  clear hK K hHeld
                  have hHeld:=hNew
                  clear hNew
                  try simp only [Act.put,zA,zB,zC]
                  refine Top.wpAnyL_one (i:=5) (by kernel_rfl) rfl (by decide) (fun K hK=>?_)
                  go_simp
                  obtain ⟨x9,hX⟩:∃ Q9,Q9 = y8.alloc (.cells zero11 52):=⟨_,rfl⟩
                  have hX':x9 = y8.alloc (.cells #[.int .u8 0,.slice none 0 0,.int .i64 0,.slice none 0 0,.int .u64 0,.bool false,.string ⟨#[]⟩,.string ⟨#[]⟩,.string ⟨#[]⟩,.bool false,.slice none 0 0] 52):=hX
                  rw [← hX']
                  have hb:Below y8.heap.size y8 x9:=by rw [hX];exact (Below.refl _ _).alloc (Nat.le_refl _) _
                  have rn:x9.heap[y8.heap.size]? = some (.cells zero11 52 (0,0)):=by rw [hX];exact heap_alloc_new y8 _
                  have hne0:g3 ≠ y8.heap.size:=Nat.ne_of_lt (Array.getElem?_eq_some_iff.1 R3.out).1
                  have hge:u4.heap.size≤y8.heap.size:=BB.out.size
                  have BB:=Lib.hid (BB.out.trans (hb.mono BB.out.size))
                  have P1:=Lib.hid (P1.out.kept (w':=x9) fun k _ h2=>hb.block k h2)
                  have P2:=Lib.hid (P2.out.kept (w':=x9) fun k _ h2=>hb.block k h2)
                  have R3:=Lib.hid ((hb.block _ (Array.getElem?_eq_some_iff.1 R3.out).1).trans R3.out)
                  obtain ⟨g4,hg⟩:∃ g,g = y8.heap.size:=⟨_,rfl⟩
                  rw [← hg] at rn hge hne0 ⊢
                  have R4:=Lib.hid rn
                  have G4:=Lib.hid hge
                  have NE:=Lib.hid (show g3 ≠ g4 from hne0)
                  clear hne0
                  clear hX hX' hb rn hge hg
                  refine hK.out _ _ ?_ (fun hNew=>?_)
                  · exact BB.out
                  clear hK K hHeld
                  have hHeld:=hNew
                  clear hNew
                  try simp only [Act.put,zA,zB,zC]
                  have y3:=R3.out
                  unfold zero11 at y3
                  obtain ⟨q0,q1,q2,q3,q4,q5,q6,q7,q8,q9,q10,qf⟩:=eleven_cells y3
                  refine Top.wpAnyL_one (i:=6) (by kernel_rfl) rfl (by decide) (fun K hK=>?_)
                  try unfold opCells
                  go_simp
                  obtain ⟨X,hX,RX,-,ZX,KX⟩:=end_op (w:=u4) (o:=oB) (s:=s1) (r:=g3) G3.out BB.out (show x9.heap[g3]? = some (.cells #[.int .u8 0,.slice none 0 0,.int .i64 0,.slice none 0 0,.int .u64 0,.bool false,.string ⟨#[]⟩,.string ⟨#[]⟩,.string ⟨#[]⟩,.bool false,.slice none 0 0] _ (0,0)) from R3.out)
                  have BX:Below u4.heap.size u4 X:=by rw [hX];exact below_op BB.out G3.out
                  have hX':X = (((((((((((x9.setCell ⟨g3,0,none⟩ (.int .u8 (oB.kind:Int))).setCell ⟨g3,1,none⟩ (.slice s1.pA s1.pn s1.pc)).setCell ⟨g3,2,none⟩ (.int .i64 oB.at_)).setCell ⟨g3,3,none⟩ (.slice s1.tA s1.tn s1.tc)).setCell ⟨g3,4,none⟩ (.int .u64 (oB.id:Int))).setCell ⟨g3,5,none⟩ (.bool oB.leaf)).setCell ⟨g3,6,none⟩ (.string ⟨oB.label.toArray⟩)).setCell ⟨g3,7,none⟩ (.string ⟨oB.key.toArray⟩)).setCell ⟨g3,8,none⟩ (.string ⟨oB.value.toArray⟩)).setCell ⟨g3,9,none⟩ (.bool oB.gone)).setCell ⟨g3,10,none⟩ (.slice s1.qA s1.qn s1.qc)):=hX
                  rw [← hX']
                  clear q0 q1 q2 q3 q4 q5 q6 q7 q8 q9 q10 qf y3
                  refine hK.out _ _ ?_ (fun hNew=>?_)
                  · exact BX
                  clear hK K hHeld hX hX'
                  have hHeld:=hNew
                  clear hNew
                  try simp only [Act.put,zA,zB,zC]
                  have R4X:=(KX g4 (Ne.symm NE.out)).trans R4.out
                  have y3:=R4X
                  unfold zero11 at y3
                  obtain ⟨q0,q1,q2,q3,q4,q5,q6,q7,q8,q9,q10,qf⟩:=eleven_cells y3
                  refine Top.wpAnyL_last (by kernel_rfl) rfl (fun K hK=>?_)
                  try unfold opCells
                  go_simp
                  obtain ⟨Y,hY,RY,-,ZY,KY⟩:=end_op (w:=u4) (o:=oA) (s:=s2) (r:=g4) G4.out BX (show X.heap[g4]? = some (.cells #[.int .u8 0,.slice none 0 0,.int .i64 0,.slice none 0 0,.int .u64 0,.bool false,.string ⟨#[]⟩,.string ⟨#[]⟩,.string ⟨#[]⟩,.bool false,.slice none 0 0] _ (0,0)) from R4X)
                  have BY:Below u4.heap.size u4 Y:=by rw [hY];exact below_op BX G4.out
                  have hY':Y = (((((((((((X.setCell ⟨g4,0,none⟩ (.int .u8 (oA.kind:Int))).setCell ⟨g4,1,none⟩ (.slice s2.pA s2.pn s2.pc)).setCell ⟨g4,2,none⟩ (.int .i64 oA.at_)).setCell ⟨g4,3,none⟩ (.slice s2.tA s2.tn s2.tc)).setCell ⟨g4,4,none⟩ (.int .u64 (oA.id:Int))).setCell ⟨g4,5,none⟩ (.bool oA.leaf)).setCell ⟨g4,6,none⟩ (.string ⟨oA.label.toArray⟩)).setCell ⟨g4,7,none⟩ (.string ⟨oA.key.toArray⟩)).setCell ⟨g4,8,none⟩ (.string ⟨oA.value.toArray⟩)).setCell ⟨g4,9,none⟩ (.bool oA.gone)).setCell ⟨g4,10,none⟩ (.slice s2.qA s2.qn s2.qc)):=hY
                  rw [← hY']
                  clear q0 q1 q2 q3 q4 q5 q6 q7 q8 q9 q10 qf y3
                  refine hK _ _ ?_
                  clear hK K hY hY'
                  try simp only [Act.put,zA,zB,zC]
                  have F:=Lib.hid (show Y.heap[g3]? = some (.cells (opCells oB s1) 52 (0,0))∧Y.heap[g4]? = some (.cells (opCells oA s2) 52 (0,0))∧OwnOp w.heap.size Y oB s1∧OwnOp w.heap.size Y oA s2∧Below u4.heap.size u4 Y from ⟨(KY g3 NE.out).trans RX,RY,op_other (op_other P1.out R3.out KX) R4X KY,op_other (op_other P2.out R3.out KX) R4X KY,BY⟩)
                  refine wpAny_done (by kernel_rfl) ?_ _
                  refine hK0 _ _ ?_
                  clear hK0 RX RY KX KY ZX ZY BX BY R4X hHeld
                  go_meet
                  exact ⟨g3,g4,s1,s2,rfl,rfl,F.out⟩
                · go_simp
                  obtain ⟨x10,hX⟩:∃ Q9,Q9 = x7.alloc (.cells zero11 52):=⟨_,rfl⟩
                  have hX':x10 = x7.alloc (.cells #[.int .u8 0,.slice none 0 0,.int .i64 0,.slice none 0 0,.int .u64 0,.bool false,.string ⟨#[]⟩,.string ⟨#[]⟩,.string ⟨#[]⟩,.bool false,.slice none 0 0] 52):=hX
                  rw [← hX']
                  have hb:Below x7.heap.size x7 x10:=by rw [hX];exact (Below.refl _ _).alloc (Nat.le_refl _) _
                  have rn:x10.heap[x7.heap.size]? = some (.cells zero11 52 (0,0)):=by rw [hX];exact heap_alloc_new x7 _
                  have hne0:g3 ≠ x7.heap.size:=Nat.ne_of_lt (Array.getElem?_eq_some_iff.1 R3.out).1
                  have hge:u4.heap.size≤x7.heap.size:=BB.out.size
                  have BB:=Lib.hid (BB.out.trans (hb.mono BB.out.size))
                  have P1:=Lib.hid (P1.out.kept (w':=x10) fun k _ h2=>hb.block k h2)
                  have R3:=Lib.hid ((hb.block _ (Array.getElem?_eq_some_iff.1 R3.out).1).trans R3.out)
                  obtain ⟨g4,hg⟩:∃ g,g = x7.heap.size:=⟨_,rfl⟩
                  rw [← hg] at rn hge hne0 ⊢
                  have R4:=Lib.hid rn
                  have G4:=Lib.hid hge
                  have NE:=Lib.hid (show g3 ≠ g4 from hne0)
                  clear hne0
                  clear hX hX' hb rn hge hg
                  refine hK.out _ _ ?_ (fun hNew=>?_)
                  · exact BB.out
                  clear hK K hHeld
                  have hHeld:=hNew
                  clear hNew
                  try simp only [Act.put,zA,zB,zC]
                  refine Top.wpAnyL_one (i:=3) (by kernel_rfl) rfl (by decide) (fun K hK=>?_)
                  go_simp
                  refine (hbA.out x10 (V4.out.trans (BB.out.mono V4.out.size))).mono ?_
                  have BBo:=BB
                  rintro e y11 ⟨s2,rfl,ho,hb⟩
                  have BB:=Lib.hid (BB.out.trans (hb.mono BB.out.size))
                  have P1:=Lib.hid (P1.out.kept (w':=y11) fun k _ h2=>hb.block k h2)
                  have R3:=Lib.hid ((hb.block _ (Array.getElem?_eq_some_iff.1 R3.out).1).trans R3.out)
                  have R4:=Lib.hid ((hb.block _ (Array.getElem?_eq_some_iff.1 R4.out).1).trans R4.out)
                  have P2:=Lib.hid (OwnOp.mono ho (base':=w.heap.size) (Below.size (V4.out.trans (BBo.out.mono V4.out.size))))
                  clear ho hb BBo
                  go_simp
                  refine hK.out _ _ ?_ (fun hNew=>?_)
                  · exact BB.out
                  clear hK K hHeld
                  have hHeld:=hNew
                  clear hNew
                  try simp only [Act.put,zA,zB,zC]
                  have y3:=R3.out
                  unfold zero11 at y3
                  obtain ⟨q0,q1,q2,q3,q4,q5,q6,q7,q8,q9,q10,qf⟩:=eleven_cells y3
                  refine Top.wpAnyL_one (i:=6) (by kernel_rfl) rfl (by decide) (fun K hK=>?_)
                  try unfold opCells
                  go_simp
                  obtain ⟨X,hX,RX,-,ZX,KX⟩:=end_op (w:=u4) (o:=oB) (s:=s1) (r:=g3) G3.out BB.out (show y11.heap[g3]? = some (.cells #[.int .u8 0,.slice none 0 0,.int .i64 0,.slice none 0 0,.int .u64 0,.bool false,.string ⟨#[]⟩,.string ⟨#[]⟩,.string ⟨#[]⟩,.bool false,.slice none 0 0] _ (0,0)) from R3.out)
                  have BX:Below u4.heap.size u4 X:=by rw [hX];exact below_op BB.out G3.out
                  have hX':X = (((((((((((y11.setCell ⟨g3,0,none⟩ (.int .u8 (oB.kind:Int))).setCell ⟨g3,1,none⟩ (.slice s1.pA s1.pn s1.pc)).setCell ⟨g3,2,none⟩ (.int .i64 oB.at_)).setCell ⟨g3,3,none⟩ (.slice s1.tA s1.tn s1.tc)).setCell ⟨g3,4,none⟩ (.int .u64 (oB.id:Int))).setCell ⟨g3,5,none⟩ (.bool oB.leaf)).setCell ⟨g3,6,none⟩ (.string ⟨oB.label.toArray⟩)).setCell ⟨g3,7,none⟩ (.string ⟨oB.key.toArray⟩)).setCell ⟨g3,8,none⟩ (.string ⟨oB.value.toArray⟩)).setCell ⟨g3,9,none⟩ (.bool oB.gone)).setCell ⟨g3,10,none⟩ (.slice s1.qA s1.qn s1.qc)):=hX
                  rw [← hX']
                  clear q0 q1 q2 q3 q4 q5 q6 q7 q8 q9 q10 qf y3
                  refine hK.out _ _ ?_ (fun hNew=>?_)
                  · exact BX
                  clear hK K hHeld hX hX'
                  have hHeld:=hNew
                  clear hNew
                  try simp only [Act.put,zA,zB,zC]
                  have R4X:=(KX g4 (Ne.symm NE.out)).trans R4.out
                  have y3:=R4X
                  unfold zero11 at y3
                  obtain ⟨q0,q1,q2,q3,q4,q5,q6,q7,q8,q9,q10,qf⟩:=eleven_cells y3
                  refine Top.wpAnyL_last (by kernel_rfl) rfl (fun K hK=>?_)
                  try unfold opCells
                  go_simp
                  obtain ⟨Y,hY,RY,-,ZY,KY⟩:=end_op (w:=u4) (o:=oA) (s:=s2) (r:=g4) G4.out BX (show X.heap[g4]? = some (.cells #[.int .u8 0,.slice none 0 0,.int .i64 0,.slice none 0 0,.int .u64 0,.bool false,.string ⟨#[]⟩,.string ⟨#[]⟩,.string ⟨#[]⟩,.bool false,.slice none 0 0] _ (0,0)) from R4X)
                  have BY:Below u4.heap.size u4 Y:=by rw [hY];exact below_op BX G4.out
                  have hY':Y = (((((((((((X.setCell ⟨g4,0,none⟩ (.int .u8 (oA.kind:Int))).setCell ⟨g4,1,none⟩ (.slice s2.pA s2.pn s2.pc)).setCell ⟨g4,2,none⟩ (.int .i64 oA.at_)).setCell ⟨g4,3,none⟩ (.slice s2.tA s2.tn s2.tc)).setCell ⟨g4,4,none⟩ (.int .u64 (oA.id:Int))).setCell ⟨g4,5,none⟩ (.bool oA.leaf)).setCell ⟨g4,6,none⟩ (.string ⟨oA.label.toArray⟩)).setCell ⟨g4,7,none⟩ (.string ⟨oA.key.toArray⟩)).setCell ⟨g4,8,none⟩ (.string ⟨oA.value.toArray⟩)).setCell ⟨g4,9,none⟩ (.bool oA.gone)).setCell ⟨g4,10,none⟩ (.slice s2.qA s2.qn s2.qc)):=hY
                  rw [← hY']
                  clear q0 q1 q2 q3 q4 q5 q6 q7 q8 q9 q10 qf y3
                  refine hK _ _ ?_
                  clear hK K hY hY'
                  try simp only [Act.put,zA,zB,zC]
                  have F:=Lib.hid (show Y.heap[g3]? = some (.cells (opCells oB s1) 52 (0,0))∧Y.heap[g4]? = some (.cells (opCells oA s2) 52 (0,0))∧OwnOp w.heap.size Y oB s1∧OwnOp w.heap.size Y oA s2∧Below u4.heap.size u4 Y from ⟨(KY g3 NE.out).trans RX,RY,op_other (op_other P1.out R3.out KX) R4X KY,op_other (op_other P2.out R3.out KX) R4X KY,BY⟩)
                  refine wpAny_done (by kernel_rfl) ?_ _
                  refine hK0 _ _ ?_
                  clear hK0 RX RY KX KY ZX ZY BX BY R4X hHeld
                  go_meet
                  exact ⟨g3,g4,s1,s2,rfl,rfl,F.out⟩
              · go_simp
                obtain ⟨x12,hX⟩:∃ Q9,Q9 = y1.alloc (.cells zero11 52):=⟨_,rfl⟩
                have hX':x12 = y1.alloc (.cells #[.int .u8 0,.slice none 0 0,.int .i64 0,.slice none 0 0,.int .u64 0,.bool false,.string ⟨#[]⟩,.string ⟨#[]⟩,.string ⟨#[]⟩,.bool false,.slice none 0 0] 52):=hX
                rw [← hX']
                have hb:Below y1.heap.size y1 x12:=by rw [hX];exact (Below.refl _ _).alloc (Nat.le_refl _) _
                have rn:x12.heap[y1.heap.size]? = some (.cells zero11 52 (0,0)):=by rw [hX];exact heap_alloc_new y1 _
                have hge:u4.heap.size≤y1.heap.size:=BB.out.size
                have BB:=Lib.hid (BB.out.trans (hb.mono BB.out.size))
                have P1:=Lib.hid (P1.out.kept (w':=x12) fun k _ h2=>hb.block k h2)
                obtain ⟨g4,hg⟩:∃ g,g = y1.heap.size:=⟨_,rfl⟩
                rw [← hg] at rn hge ⊢
                have R4:=Lib.hid rn
                have G4:=Lib.hid hge
                clear hX hX' hb rn hge hg
                refine hK.out _ _ ?_ (fun hNew=>?_)
                · exact BB.out
                clear hK K hHeld
                have hHeld:=hNew
                clear hNew
                try simp only [Act.put,zA,zB,zC]
                refine Top.wpAnyL_two (i:=3) (j:=4) (by kernel_rfl) (show _ = some { dst:=some 41,op:=Go.Op.call { callee:=Go.Callee.value (Go.Operand.func 32),args:=#[Go.Operand.tmp 40],argTypes:=#[52] },type:=52,pos:="law.go:44",after:=#[{ on:=2,ground:=Go.Ground.data },{ on:=1,ground:=Go.Ground.chain }],guard:=none } from rfl) (show _ = some { dst:=some 7,op:=Go.Op.alloc 52,type:=0,pos:="law.go:44",after:=#[],guard:=none } from rfl) (by decide) (by decide) (fun K hK=>?_) (fun K hK=>?_)
                · go_simp
                  refine (hbA.out x12 (V4.out.trans (BB.out.mono V4.out.size))).mono ?_
                  have BBo:=BB
                  rintro e y13 ⟨s2,rfl,ho,hb⟩
                  have BB:=Lib.hid (BB.out.trans (hb.mono BB.out.size))
                  have P1:=Lib.hid (P1.out.kept (w':=y13) fun k _ h2=>hb.block k h2)
                  have R4:=Lib.hid ((hb.block _ (Array.getElem?_eq_some_iff.1 R4.out).1).trans R4.out)
                  have P2:=Lib.hid (OwnOp.mono ho (base':=w.heap.size) (Below.size (V4.out.trans (BBo.out.mono V4.out.size))))
                  clear ho hb BBo
                  go_simp
                  refine hK.out _ _ ?_ (fun hNew=>?_)
                  · exact BB.out
                  clear hK K hHeld
                  have hHeld:=hNew
                  clear hNew
                  try simp only [Act.put,zA,zB,zC]
                  refine Top.wpAnyL_one (i:=4) (by kernel_rfl) rfl (by decide) (fun K hK=>?_)
                  go_simp
                  obtain ⟨x14,hX⟩:∃ Q9,Q9 = y13.alloc (.cells zero11 52):=⟨_,rfl⟩
                  have hX':x14 = y13.alloc (.cells #[.int .u8 0,.slice none 0 0,.int .i64 0,.slice none 0 0,.int .u64 0,.bool false,.string ⟨#[]⟩,.string ⟨#[]⟩,.string ⟨#[]⟩,.bool false,.slice none 0 0] 52):=hX
                  rw [← hX']
                  have hb:Below y13.heap.size y13 x14:=by rw [hX];exact (Below.refl _ _).alloc (Nat.le_refl _) _
                  have rn:x14.heap[y13.heap.size]? = some (.cells zero11 52 (0,0)):=by rw [hX];exact heap_alloc_new y13 _
                  have hne0:g4 ≠ y13.heap.size:=Nat.ne_of_lt (Array.getElem?_eq_some_iff.1 R4.out).1
                  have hge:u4.heap.size≤y13.heap.size:=BB.out.size
                  have BB:=Lib.hid (BB.out.trans (hb.mono BB.out.size))
                  have P1:=Lib.hid (P1.out.kept (w':=x14) fun k _ h2=>hb.block k h2)
                  have P2:=Lib.hid (P2.out.kept (w':=x14) fun k _ h2=>hb.block k h2)
                  have R4:=Lib.hid ((hb.block _ (Array.getElem?_eq_some_iff.1 R4.out).1).trans R4.out)
                  obtain ⟨g3,hg⟩:∃ g,g = y13.heap.size:=⟨_,rfl⟩
                  rw [← hg] at rn hge hne0 ⊢
                  have R3:=Lib.hid rn
                  have G3:=Lib.hid hge
                  have NE:=Lib.hid (show g3 ≠ g4 from Ne.symm hne0)
                  clear hne0
                  clear hX hX' hb rn hge hg
                  refine hK.out _ _ ?_ (fun hNew=>?_)
                  · exact BB.out
                  clear hK K hHeld
                  have hHeld:=hNew
                  clear hNew
                  try simp only [Act.put,zA,zB,zC]
                  have y3:=R3.out
                  unfold zero11 at y3
                  obtain ⟨q0,q1,q2,q3,q4,q5,q6,q7,q8,q9,q10,qf⟩:=eleven_cells y3
                  refine Top.wpAnyL_one (i:=6) (by kernel_rfl) rfl (by decide) (fun K hK=>?_)
                  try unfold opCells
                  go_simp
                  obtain ⟨X,hX,RX,-,ZX,KX⟩:=end_op (w:=u4) (o:=oB) (s:=s1) (r:=g3) G3.out BB.out (show x14.heap[g3]? = some (.cells #[.int .u8 0,.slice none 0 0,.int .i64 0,.slice none 0 0,.int .u64 0,.bool false,.string ⟨#[]⟩,.string ⟨#[]⟩,.string ⟨#[]⟩,.bool false,.slice none 0 0] _ (0,0)) from R3.out)
                  have BX:Below u4.heap.size u4 X:=by rw [hX];exact below_op BB.out G3.out
                  have hX':X = (((((((((((x14.setCell ⟨g3,0,none⟩ (.int .u8 (oB.kind:Int))).setCell ⟨g3,1,none⟩ (.slice s1.pA s1.pn s1.pc)).setCell ⟨g3,2,none⟩ (.int .i64 oB.at_)).setCell ⟨g3,3,none⟩ (.slice s1.tA s1.tn s1.tc)).setCell ⟨g3,4,none⟩ (.int .u64 (oB.id:Int))).setCell ⟨g3,5,none⟩ (.bool oB.leaf)).setCell ⟨g3,6,none⟩ (.string ⟨oB.label.toArray⟩)).setCell ⟨g3,7,none⟩ (.string ⟨oB.key.toArray⟩)).setCell ⟨g3,8,none⟩ (.string ⟨oB.value.toArray⟩)).setCell ⟨g3,9,none⟩ (.bool oB.gone)).setCell ⟨g3,10,none⟩ (.slice s1.qA s1.qn s1.qc)):=hX
                  rw [← hX']
                  clear q0 q1 q2 q3 q4 q5 q6 q7 q8 q9 q10 qf y3
                  refine hK.out _ _ ?_ (fun hNew=>?_)
                  · exact BX
                  clear hK K hHeld hX hX'
                  have hHeld:=hNew
                  clear hNew
                  try simp only [Act.put,zA,zB,zC]
                  have R4X:=(KX g4 (Ne.symm NE.out)).trans R4.out
                  have y3:=R4X
                  unfold zero11 at y3
                  obtain ⟨q0,q1,q2,q3,q4,q5,q6,q7,q8,q9,q10,qf⟩:=eleven_cells y3
                  refine Top.wpAnyL_last (by kernel_rfl) rfl (fun K hK=>?_)
                  try unfold opCells
                  go_simp
                  obtain ⟨Y,hY,RY,-,ZY,KY⟩:=end_op (w:=u4) (o:=oA) (s:=s2) (r:=g4) G4.out BX (show X.heap[g4]? = some (.cells #[.int .u8 0,.slice none 0 0,.int .i64 0,.slice none 0 0,.int .u64 0,.bool false,.string ⟨#[]⟩,.string ⟨#[]⟩,.string ⟨#[]⟩,.bool false,.slice none 0 0] _ (0,0)) from R4X)
                  have BY:Below u4.heap.size u4 Y:=by rw [hY];exact below_op BX G4.out
                  have hY':Y = (((((((((((X.setCell ⟨g4,0,none⟩ (.int .u8 (oA.kind:Int))).setCell ⟨g4,1,none⟩ (.slice s2.pA s2.pn s2.pc)).setCell ⟨g4,2,none⟩ (.int .i64 oA.at_)).setCell ⟨g4,3,none⟩ (.slice s2.tA s2.tn s2.tc)).setCell ⟨g4,4,none⟩ (.int .u64 (oA.id:Int))).setCell ⟨g4,5,none⟩ (.bool oA.leaf)).setCell ⟨g4,6,none⟩ (.string ⟨oA.label.toArray⟩)).setCell ⟨g4,7,none⟩ (.string ⟨oA.key.toArray⟩)).setCell ⟨g4,8,none⟩ (.string ⟨oA.value.toArray⟩)).setCell ⟨g4,9,none⟩ (.bool oA.gone)).setCell ⟨g4,10,none⟩ (.slice s2.qA s2.qn s2.qc)):=hY
                  rw [← hY']
                  clear q0 q1 q2 q3 q4 q5 q6 q7 q8 q9 q10 qf y3
                  refine hK _ _ ?_
                  clear hK K hY hY'
                  try simp only [Act.put,zA,zB,zC]
                  have F:=Lib.hid (show Y.heap[g3]? = some (.cells (opCells oB s1) 52 (0,0))∧Y.heap[g4]? = some (.cells (opCells oA s2) 52 (0,0))∧OwnOp w.heap.size Y oB s1∧OwnOp w.heap.size Y oA s2∧Below u4.heap.size u4 Y from ⟨(KY g3 NE.out).trans RX,RY,op_other (op_other P1.out R3.out KX) R4X KY,op_other (op_other P2.out R3.out KX) R4X KY,BY⟩)
                  refine wpAny_done (by kernel_rfl) ?_ _
                  refine hK0 _ _ ?_
                  clear hK0 RX RY KX KY ZX ZY BX BY R4X hHeld
                  go_meet
                  exact ⟨g3,g4,s1,s2,rfl,rfl,F.out⟩
                · go_simp
                  obtain ⟨x15,hX⟩:∃ Q9,Q9 = x12.alloc (.cells zero11 52):=⟨_,rfl⟩
                  have hX':x15 = x12.alloc (.cells #[.int .u8 0,.slice none 0 0,.int .i64 0,.slice none 0 0,.int .u64 0,.bool false,.string ⟨#[]⟩,.string ⟨#[]⟩,.string ⟨#[]⟩,.bool false,.slice none 0 0] 52):=hX
                  rw [← hX']
                  have hb:Below x12.heap.size x12 x15:=by rw [hX];exact (Below.refl _ _).alloc (Nat.le_refl _) _
                  have rn:x15.heap[x12.heap.size]? = some (.cells zero11 52 (0,0)):=by rw [hX];exact heap_alloc_new x12 _
                  have hne0:g4 ≠ x12.heap.size:=Nat.ne_of_lt (Array.getElem?_eq_some_iff.1 R4.out).1
                  have hge:u4.heap.size≤x12.heap.size:=BB.out.size
                  have BB:=Lib.hid (BB.out.trans (hb.mono BB.out.size))
                  have P1:=Lib.hid (P1.out.kept (w':=x15) fun k _ h2=>hb.block k h2)
                  have R4:=Lib.hid ((hb.block _ (Array.getElem?_eq_some_iff.1 R4.out).1).trans R4.out)
                  obtain ⟨g3,hg⟩:∃ g,g = x12.heap.size:=⟨_,rfl⟩
                  rw [← hg] at rn hge hne0 ⊢
                  have R3:=Lib.hid rn
                  have G3:=Lib.hid hge
                  have NE:=Lib.hid (show g3 ≠ g4 from Ne.symm hne0)
                  clear hne0
                  clear hX hX' hb rn hge hg
                  refine hK.out _ _ ?_ (fun hNew=>?_)
                  · exact BB.out
                  clear hK K hHeld
                  have hHeld:=hNew
                  clear hNew
                  try simp only [Act.put,zA,zB,zC]
                  refine Top.wpAnyL_one (i:=3) (by kernel_rfl) rfl (by decide) (fun K hK=>?_)
                  go_simp
                  refine (hbA.out x15 (V4.out.trans (BB.out.mono V4.out.size))).mono ?_
                  have BBo:=BB
                  rintro e y16 ⟨s2,rfl,ho,hb⟩
                  have BB:=Lib.hid (BB.out.trans (hb.mono BB.out.size))
                  have P1:=Lib.hid (P1.out.kept (w':=y16) fun k _ h2=>hb.block k h2)
                  have R3:=Lib.hid ((hb.block _ (Array.getElem?_eq_some_iff.1 R3.out).1).trans R3.out)
                  have R4:=Lib.hid ((hb.block _ (Array.getElem?_eq_some_iff.1 R4.out).1).trans R4.out)
                  have P2:=Lib.hid (OwnOp.mono ho (base':=w.heap.size) (Below.size (V4.out.trans (BBo.out.mono V4.out.size))))
                  clear ho hb BBo
                  go_simp
                  refine hK.out _ _ ?_ (fun hNew=>?_)
                  · exact BB.out
                  clear hK K hHeld
                  have hHeld:=hNew
                  clear hNew
                  try simp only [Act.put,zA,zB,zC]
                  have y3:=R3.out
                  unfold zero11 at y3
                  obtain ⟨q0,q1,q2,q3,q4,q5,q6,q7,q8,q9,q10,qf⟩:=eleven_cells y3
                  refine Top.wpAnyL_one (i:=6) (by kernel_rfl) rfl (by decide) (fun K hK=>?_)
                  try unfold opCells
                  go_simp
                  obtain ⟨X,hX,RX,-,ZX,KX⟩:=end_op (w:=u4) (o:=oB) (s:=s1) (r:=g3) G3.out BB.out (show y16.heap[g3]? = some (.cells #[.int .u8 0,.slice none 0 0,.int .i64 0,.slice none 0 0,.int .u64 0,.bool false,.string ⟨#[]⟩,.string ⟨#[]⟩,.string ⟨#[]⟩,.bool false,.slice none 0 0] _ (0,0)) from R3.out)
                  have BX:Below u4.heap.size u4 X:=by rw [hX];exact below_op BB.out G3.out
                  have hX':X = (((((((((((y16.setCell ⟨g3,0,none⟩ (.int .u8 (oB.kind:Int))).setCell ⟨g3,1,none⟩ (.slice s1.pA s1.pn s1.pc)).setCell ⟨g3,2,none⟩ (.int .i64 oB.at_)).setCell ⟨g3,3,none⟩ (.slice s1.tA s1.tn s1.tc)).setCell ⟨g3,4,none⟩ (.int .u64 (oB.id:Int))).setCell ⟨g3,5,none⟩ (.bool oB.leaf)).setCell ⟨g3,6,none⟩ (.string ⟨oB.label.toArray⟩)).setCell ⟨g3,7,none⟩ (.string ⟨oB.key.toArray⟩)).setCell ⟨g3,8,none⟩ (.string ⟨oB.value.toArray⟩)).setCell ⟨g3,9,none⟩ (.bool oB.gone)).setCell ⟨g3,10,none⟩ (.slice s1.qA s1.qn s1.qc)):=hX
                  rw [← hX']
                  clear q0 q1 q2 q3 q4 q5 q6 q7 q8 q9 q10 qf y3
                  refine hK.out _ _ ?_ (fun hNew=>?_)
                  · exact BX
                  clear hK K hHeld hX hX'
                  have hHeld:=hNew
                  clear hNew
                  try simp only [Act.put,zA,zB,zC]
                  have R4X:=(KX g4 (Ne.symm NE.out)).trans R4.out
                  have y3:=R4X
                  unfold zero11 at y3
                  obtain ⟨q0,q1,q2,q3,q4,q5,q6,q7,q8,q9,q10,qf⟩:=eleven_cells y3
                  refine Top.wpAnyL_last (by kernel_rfl) rfl (fun K hK=>?_)
                  try unfold opCells
                  go_simp
                  obtain ⟨Y,hY,RY,-,ZY,KY⟩:=end_op (w:=u4) (o:=oA) (s:=s2) (r:=g4) G4.out BX (show X.heap[g4]? = some (.cells #[.int .u8 0,.slice none 0 0,.int .i64 0,.slice none 0 0,.int .u64 0,.bool false,.string ⟨#[]⟩,.string ⟨#[]⟩,.string ⟨#[]⟩,.bool false,.slice none 0 0] _ (0,0)) from R4X)
                  have BY:Below u4.heap.size u4 Y:=by rw [hY];exact below_op BX G4.out
                  have hY':Y = (((((((((((X.setCell ⟨g4,0,none⟩ (.int .u8 (oA.kind:Int))).setCell ⟨g4,1,none⟩ (.slice s2.pA s2.pn s2.pc)).setCell ⟨g4,2,none⟩ (.int .i64 oA.at_)).setCell ⟨g4,3,none⟩ (.slice s2.tA s2.tn s2.tc)).setCell ⟨g4,4,none⟩ (.int .u64 (oA.id:Int))).setCell ⟨g4,5,none⟩ (.bool oA.leaf)).setCell ⟨g4,6,none⟩ (.string ⟨oA.label.toArray⟩)).setCell ⟨g4,7,none⟩ (.string ⟨oA.key.toArray⟩)).setCell ⟨g4,8,none⟩ (.string ⟨oA.value.toArray⟩)).setCell ⟨g4,9,none⟩ (.bool oA.gone)).setCell ⟨g4,10,none⟩ (.slice s2.qA s2.qn s2.qc)):=hY
                  rw [← hY']
                  clear q0 q1 q2 q3 q4 q5 q6 q7 q8 q9 q10 qf y3
                  refine hK _ _ ?_
                  clear hK K hY hY'
                  try simp only [Act.put,zA,zB,zC]
                  have F:=Lib.hid (show Y.heap[g3]? = some (.cells (opCells oB s1) 52 (0,0))∧Y.heap[g4]? = some (.cells (opCells oA s2) 52 (0,0))∧OwnOp w.heap.size Y oB s1∧OwnOp w.heap.size Y oA s2∧Below u4.heap.size u4 Y from ⟨(KY g3 NE.out).trans RX,RY,op_other (op_other P1.out R3.out KX) R4X KY,op_other (op_other P2.out R3.out KX) R4X KY,BY⟩)
                  refine wpAny_done (by kernel_rfl) ?_ _
                  refine hK0 _ _ ?_
                  clear hK0 RX RY KX KY ZX ZY BX BY R4X hHeld
                  go_meet
                  exact ⟨g3,g4,s1,s2,rfl,rfl,F.out⟩
            · go_simp
              obtain ⟨x17,hX⟩:∃ Q9,Q9 = D.alloc (.cells zero11 52):=⟨_,rfl⟩
              have hX':x17 = D.alloc (.cells #[.int .u8 0,.slice none 0 0,.int .i64 0,.slice none 0 0,.int .u64 0,.bool false,.string ⟨#[]⟩,.string ⟨#[]⟩,.string ⟨#[]⟩,.bool false,.slice none 0 0] 52):=hX
              rw [← hX']
              have hb:Below D.heap.size D x17:=by rw [hX];exact (Below.refl _ _).alloc (Nat.le_refl _) _
              have rn:x17.heap[D.heap.size]? = some (.cells zero11 52 (0,0)):=by rw [hX];exact heap_alloc_new D _
              have hge:u4.heap.size≤D.heap.size:=BB.out.size
              have BB:=Lib.hid (BB.out.trans (hb.mono BB.out.size))
              obtain ⟨g3,hg⟩:∃ g,g = D.heap.size:=⟨_,rfl⟩
              rw [← hg] at rn hge ⊢
              have R3:=Lib.hid rn
              have G3:=Lib.hid hge
              clear hX hX' hb rn hge hg
              refine hK.out _ _ ?_ (fun hNew=>?_)
              · exact BB.out
              clear hK K hHeld
              have hHeld:=hNew
              clear hNew
              try simp only [Act.put,zA,zB,zC]
              refine Top.wpAnyL_two (i:=1) (j:=5) (by kernel_rfl) (show _ = some { dst:=some 39,op:=Go.Op.call { callee:=Go.Callee.value (Go.Operand.func 32),args:=#[Go.Operand.tmp 38],argTypes:=#[52] },type:=52,pos:="law.go:44",after:=#[{ on:=0,ground:=Go.Ground.data }],guard:=none } from rfl) (show _ = some { dst:=some 8,op:=Go.Op.alloc 52,type:=0,pos:="law.go:44",after:=#[],guard:=none } from rfl) (by decide) (by decide) (fun K hK=>?_) (fun K hK=>?_)
              · go_simp
                refine (hbB.out x17 (V4.out.trans (BB.out.mono V4.out.size))).mono ?_
                have BBo:=BB
                rintro e y18 ⟨s1,rfl,ho,hb⟩
                have BB:=Lib.hid (BB.out.trans (hb.mono BB.out.size))
                have R3:=Lib.hid ((hb.block _ (Array.getElem?_eq_some_iff.1 R3.out).1).trans R3.out)
                have P1:=Lib.hid (OwnOp.mono ho (base':=w.heap.size) (Below.size (V4.out.trans (BBo.out.mono V4.out.size))))
                clear ho hb BBo
                go_simp
                refine hK.out _ _ ?_ (fun hNew=>?_)
                · exact BB.out
                clear hK K hHeld
                have hHeld:=hNew
                clear hNew
                try simp only [Act.put,zA,zB,zC]
                refine Top.wpAnyL_two (i:=3) (j:=5) (by kernel_rfl) (show _ = some { dst:=some 41,op:=Go.Op.call { callee:=Go.Callee.value (Go.Operand.func 32),args:=#[Go.Operand.tmp 40],argTypes:=#[52] },type:=52,pos:="law.go:44",after:=#[{ on:=2,ground:=Go.Ground.data },{ on:=1,ground:=Go.Ground.chain }],guard:=none } from rfl) (show _ = some { dst:=some 8,op:=Go.Op.alloc 52,type:=0,pos:="law.go:44",after:=#[],guard:=none } from rfl) (by decide) (by decide) (fun K hK=>?_) (fun K hK=>?_)
                · go_simp
                  refine (hbA.out y18 (V4.out.trans (BB.out.mono V4.out.size))).mono ?_
                  have BBo:=BB
                  rintro e y19 ⟨s2,rfl,ho,hb⟩
                  have BB:=Lib.hid (BB.out.trans (hb.mono BB.out.size))
                  have P1:=Lib.hid (P1.out.kept (w':=y19) fun k _ h2=>hb.block k h2)
                  have R3:=Lib.hid ((hb.block _ (Array.getElem?_eq_some_iff.1 R3.out).1).trans R3.out)
                  have P2:=Lib.hid (OwnOp.mono ho (base':=w.heap.size) (Below.size (V4.out.trans (BBo.out.mono V4.out.size))))
                  clear ho hb BBo
                  go_simp
                  refine hK.out _ _ ?_ (fun hNew=>?_)
                  · exact BB.out
                  clear hK K hHeld
                  have hHeld:=hNew
                  clear hNew
                  try simp only [Act.put,zA,zB,zC]
                  refine Top.wpAnyL_one (i:=5) (by kernel_rfl) rfl (by decide) (fun K hK=>?_)
                  go_simp
                  obtain ⟨x20,hX⟩:∃ Q9,Q9 = y19.alloc (.cells zero11 52):=⟨_,rfl⟩
                  have hX':x20 = y19.alloc (.cells #[.int .u8 0,.slice none 0 0,.int .i64 0,.slice none 0 0,.int .u64 0,.bool false,.string ⟨#[]⟩,.string ⟨#[]⟩,.string ⟨#[]⟩,.bool false,.slice none 0 0] 52):=hX
                  rw [← hX']
                  have hb:Below y19.heap.size y19 x20:=by rw [hX];exact (Below.refl _ _).alloc (Nat.le_refl _) _
                  have rn:x20.heap[y19.heap.size]? = some (.cells zero11 52 (0,0)):=by rw [hX];exact heap_alloc_new y19 _
                  have hne0:g3 ≠ y19.heap.size:=Nat.ne_of_lt (Array.getElem?_eq_some_iff.1 R3.out).1
                  have hge:u4.heap.size≤y19.heap.size:=BB.out.size
                  have BB:=Lib.hid (BB.out.trans (hb.mono BB.out.size))
                  have P1:=Lib.hid (P1.out.kept (w':=x20) fun k _ h2=>hb.block k h2)
                  have P2:=Lib.hid (P2.out.kept (w':=x20) fun k _ h2=>hb.block k h2)
                  have R3:=Lib.hid ((hb.block _ (Array.getElem?_eq_some_iff.1 R3.out).1).trans R3.out)
                  obtain ⟨g4,hg⟩:∃ g,g = y19.heap.size:=⟨_,rfl⟩
                  rw [← hg] at rn hge hne0 ⊢
                  have R4:=Lib.hid rn
                  have G4:=Lib.hid hge
                  have NE:=Lib.hid (show g3 ≠ g4 from hne0)
                  clear hne0
                  clear hX hX' hb rn hge hg
                  refine hK.out _ _ ?_ (fun hNew=>?_)
                  · exact BB.out
                  clear hK K hHeld
                  have hHeld:=hNew
                  clear hNew
                  try simp only [Act.put,zA,zB,zC]
                  have y3:=R3.out
                  unfold zero11 at y3
                  obtain ⟨q0,q1,q2,q3,q4,q5,q6,q7,q8,q9,q10,qf⟩:=eleven_cells y3
                  refine Top.wpAnyL_one (i:=6) (by kernel_rfl) rfl (by decide) (fun K hK=>?_)
                  try unfold opCells
                  go_simp
                  obtain ⟨X,hX,RX,-,ZX,KX⟩:=end_op (w:=u4) (o:=oB) (s:=s1) (r:=g3) G3.out BB.out (show x20.heap[g3]? = some (.cells #[.int .u8 0,.slice none 0 0,.int .i64 0,.slice none 0 0,.int .u64 0,.bool false,.string ⟨#[]⟩,.string ⟨#[]⟩,.string ⟨#[]⟩,.bool false,.slice none 0 0] _ (0,0)) from R3.out)
                  have BX:Below u4.heap.size u4 X:=by rw [hX];exact below_op BB.out G3.out
                  have hX':X = (((((((((((x20.setCell ⟨g3,0,none⟩ (.int .u8 (oB.kind:Int))).setCell ⟨g3,1,none⟩ (.slice s1.pA s1.pn s1.pc)).setCell ⟨g3,2,none⟩ (.int .i64 oB.at_)).setCell ⟨g3,3,none⟩ (.slice s1.tA s1.tn s1.tc)).setCell ⟨g3,4,none⟩ (.int .u64 (oB.id:Int))).setCell ⟨g3,5,none⟩ (.bool oB.leaf)).setCell ⟨g3,6,none⟩ (.string ⟨oB.label.toArray⟩)).setCell ⟨g3,7,none⟩ (.string ⟨oB.key.toArray⟩)).setCell ⟨g3,8,none⟩ (.string ⟨oB.value.toArray⟩)).setCell ⟨g3,9,none⟩ (.bool oB.gone)).setCell ⟨g3,10,none⟩ (.slice s1.qA s1.qn s1.qc)):=hX
                  rw [← hX']
                  clear q0 q1 q2 q3 q4 q5 q6 q7 q8 q9 q10 qf y3
                  refine hK.out _ _ ?_ (fun hNew=>?_)
                  · exact BX
                  clear hK K hHeld hX hX'
                  have hHeld:=hNew
                  clear hNew
                  try simp only [Act.put,zA,zB,zC]
                  have R4X:=(KX g4 (Ne.symm NE.out)).trans R4.out
                  have y3:=R4X
                  unfold zero11 at y3
                  obtain ⟨q0,q1,q2,q3,q4,q5,q6,q7,q8,q9,q10,qf⟩:=eleven_cells y3
                  refine Top.wpAnyL_last (by kernel_rfl) rfl (fun K hK=>?_)
                  try unfold opCells
                  go_simp
                  obtain ⟨Y,hY,RY,-,ZY,KY⟩:=end_op (w:=u4) (o:=oA) (s:=s2) (r:=g4) G4.out BX (show X.heap[g4]? = some (.cells #[.int .u8 0,.slice none 0 0,.int .i64 0,.slice none 0 0,.int .u64 0,.bool false,.string ⟨#[]⟩,.string ⟨#[]⟩,.string ⟨#[]⟩,.bool false,.slice none 0 0] _ (0,0)) from R4X)
                  have BY:Below u4.heap.size u4 Y:=by rw [hY];exact below_op BX G4.out
                  have hY':Y = (((((((((((X.setCell ⟨g4,0,none⟩ (.int .u8 (oA.kind:Int))).setCell ⟨g4,1,none⟩ (.slice s2.pA s2.pn s2.pc)).setCell ⟨g4,2,none⟩ (.int .i64 oA.at_)).setCell ⟨g4,3,none⟩ (.slice s2.tA s2.tn s2.tc)).setCell ⟨g4,4,none⟩ (.int .u64 (oA.id:Int))).setCell ⟨g4,5,none⟩ (.bool oA.leaf)).setCell ⟨g4,6,none⟩ (.string ⟨oA.label.toArray⟩)).setCell ⟨g4,7,none⟩ (.string ⟨oA.key.toArray⟩)).setCell ⟨g4,8,none⟩ (.string ⟨oA.value.toArray⟩)).setCell ⟨g4,9,none⟩ (.bool oA.gone)).setCell ⟨g4,10,none⟩ (.slice s2.qA s2.qn s2.qc)):=hY
                  rw [← hY']
                  clear q0 q1 q2 q3 q4 q5 q6 q7 q8 q9 q10 qf y3
                  refine hK _ _ ?_
                  clear hK K hY hY'
                  try simp only [Act.put,zA,zB,zC]
                  have F:=Lib.hid (show Y.heap[g3]? = some (.cells (opCells oB s1) 52 (0,0))∧Y.heap[g4]? = some (.cells (opCells oA s2) 52 (0,0))∧OwnOp w.heap.size Y oB s1∧OwnOp w.heap.size Y oA s2∧Below u4.heap.size u4 Y from ⟨(KY g3 NE.out).trans RX,RY,op_other (op_other P1.out R3.out KX) R4X KY,op_other (op_other P2.out R3.out KX) R4X KY,BY⟩)
                  refine wpAny_done (by kernel_rfl) ?_ _
                  refine hK0 _ _ ?_
                  clear hK0 RX RY KX KY ZX ZY BX BY R4X hHeld
                  go_meet
                  exact ⟨g3,g4,s1,s2,rfl,rfl,F.out⟩
                · go_simp
                  obtain ⟨x21,hX⟩:∃ Q9,Q9 = y18.alloc (.cells zero11 52):=⟨_,rfl⟩
                  have hX':x21 = y18.alloc (.cells #[.int .u8 0,.slice none 0 0,.int .i64 0,.slice none 0 0,.int .u64 0,.bool false,.string ⟨#[]⟩,.string ⟨#[]⟩,.string ⟨#[]⟩,.bool false,.slice none 0 0] 52):=hX
                  rw [← hX']
                  have hb:Below y18.heap.size y18 x21:=by rw [hX];exact (Below.refl _ _).alloc (Nat.le_refl _) _
                  have rn:x21.heap[y18.heap.size]? = some (.cells zero11 52 (0,0)):=by rw [hX];exact heap_alloc_new y18 _
                  have hne0:g3 ≠ y18.heap.size:=Nat.ne_of_lt (Array.getElem?_eq_some_iff.1 R3.out).1
                  have hge:u4.heap.size≤y18.heap.size:=BB.out.size
                  have BB:=Lib.hid (BB.out.trans (hb.mono BB.out.size))
                  have P1:=Lib.hid (P1.out.kept (w':=x21) fun k _ h2=>hb.block k h2)
                  have R3:=Lib.hid ((hb.block _ (Array.getElem?_eq_some_iff.1 R3.out).1).trans R3.out)
                  obtain ⟨g4,hg⟩:∃ g,g = y18.heap.size:=⟨_,rfl⟩
                  rw [← hg] at rn hge hne0 ⊢
                  have R4:=Lib.hid rn
                  have G4:=Lib.hid hge
                  have NE:=Lib.hid (show g3 ≠ g4 from hne0)
                  clear hne0
                  clear hX hX' hb rn hge hg
                  refine hK.out _ _ ?_ (fun hNew=>?_)
                  · exact BB.out
                  clear hK K hHeld
                  have hHeld:=hNew
                  clear hNew
                  try simp only [Act.put,zA,zB,zC]
                  refine Top.wpAnyL_one (i:=3) (by kernel_rfl) rfl (by decide) (fun K hK=>?_)
                  go_simp
                  refine (hbA.out x21 (V4.out.trans (BB.out.mono V4.out.size))).mono ?_
                  have BBo:=BB
                  rintro e y22 ⟨s2,rfl,ho,hb⟩
                  have BB:=Lib.hid (BB.out.trans (hb.mono BB.out.size))
                  have P1:=Lib.hid (P1.out.kept (w':=y22) fun k _ h2=>hb.block k h2)
                  have R3:=Lib.hid ((hb.block _ (Array.getElem?_eq_some_iff.1 R3.out).1).trans R3.out)
                  have R4:=Lib.hid ((hb.block _ (Array.getElem?_eq_some_iff.1 R4.out).1).trans R4.out)
                  have P2:=Lib.hid (OwnOp.mono ho (base':=w.heap.size) (Below.size (V4.out.trans (BBo.out.mono V4.out.size))))
                  clear ho hb BBo
                  go_simp
                  refine hK.out _ _ ?_ (fun hNew=>?_)
                  · exact BB.out
                  clear hK K hHeld
                  have hHeld:=hNew
                  clear hNew
                  try simp only [Act.put,zA,zB,zC]
                  have y3:=R3.out
                  unfold zero11 at y3
                  obtain ⟨q0,q1,q2,q3,q4,q5,q6,q7,q8,q9,q10,qf⟩:=eleven_cells y3
                  refine Top.wpAnyL_one (i:=6) (by kernel_rfl) rfl (by decide) (fun K hK=>?_)
                  try unfold opCells
                  go_simp
                  obtain ⟨X,hX,RX,-,ZX,KX⟩:=end_op (w:=u4) (o:=oB) (s:=s1) (r:=g3) G3.out BB.out (show y22.heap[g3]? = some (.cells #[.int .u8 0,.slice none 0 0,.int .i64 0,.slice none 0 0,.int .u64 0,.bool false,.string ⟨#[]⟩,.string ⟨#[]⟩,.string ⟨#[]⟩,.bool false,.slice none 0 0] _ (0,0)) from R3.out)
                  have BX:Below u4.heap.size u4 X:=by rw [hX];exact below_op BB.out G3.out
                  have hX':X = (((((((((((y22.setCell ⟨g3,0,none⟩ (.int .u8 (oB.kind:Int))).setCell ⟨g3,1,none⟩ (.slice s1.pA s1.pn s1.pc)).setCell ⟨g3,2,none⟩ (.int .i64 oB.at_)).setCell ⟨g3,3,none⟩ (.slice s1.tA s1.tn s1.tc)).setCell ⟨g3,4,none⟩ (.int .u64 (oB.id:Int))).setCell ⟨g3,5,none⟩ (.bool oB.leaf)).setCell ⟨g3,6,none⟩ (.string ⟨oB.label.toArray⟩)).setCell ⟨g3,7,none⟩ (.string ⟨oB.key.toArray⟩)).setCell ⟨g3,8,none⟩ (.string ⟨oB.value.toArray⟩)).setCell ⟨g3,9,none⟩ (.bool oB.gone)).setCell ⟨g3,10,none⟩ (.slice s1.qA s1.qn s1.qc)):=hX
                  rw [← hX']
                  clear q0 q1 q2 q3 q4 q5 q6 q7 q8 q9 q10 qf y3
                  refine hK.out _ _ ?_ (fun hNew=>?_)
                  · exact BX
                  clear hK K hHeld hX hX'
                  have hHeld:=hNew
                  clear hNew
                  try simp only [Act.put,zA,zB,zC]
                  have R4X:=(KX g4 (Ne.symm NE.out)).trans R4.out
                  have y3:=R4X
                  unfold zero11 at y3
                  obtain ⟨q0,q1,q2,q3,q4,q5,q6,q7,q8,q9,q10,qf⟩:=eleven_cells y3
                  refine Top.wpAnyL_last (by kernel_rfl) rfl (fun K hK=>?_)
                  try unfold opCells
                  go_simp
                  obtain ⟨Y,hY,RY,-,ZY,KY⟩:=end_op (w:=u4) (o:=oA) (s:=s2) (r:=g4) G4.out BX (show X.heap[g4]? = some (.cells #[.int .u8 0,.slice none 0 0,.int .i64 0,.slice none 0 0,.int .u64 0,.bool false,.string ⟨#[]⟩,.string ⟨#[]⟩,.string ⟨#[]⟩,.bool false,.slice none 0 0] _ (0,0)) from R4X)
                  have BY:Below u4.heap.size u4 Y:=by rw [hY];exact below_op BX G4.out
                  have hY':Y = (((((((((((X.setCell ⟨g4,0,none⟩ (.int .u8 (oA.kind:Int))).setCell ⟨g4,1,none⟩ (.slice s2.pA s2.pn s2.pc)).setCell ⟨g4,2,none⟩ (.int .i64 oA.at_)).setCell ⟨g4,3,none⟩ (.slice s2.tA s2.tn s2.tc)).setCell ⟨g4,4,none⟩ (.int .u64 (oA.id:Int))).setCell ⟨g4,5,none⟩ (.bool oA.leaf)).setCell ⟨g4,6,none⟩ (.string ⟨oA.label.toArray⟩)).setCell ⟨g4,7,none⟩ (.string ⟨oA.key.toArray⟩)).setCell ⟨g4,8,none⟩ (.string ⟨oA.value.toArray⟩)).setCell ⟨g4,9,none⟩ (.bool oA.gone)).setCell ⟨g4,10,none⟩ (.slice s2.qA s2.qn s2.qc)):=hY
                  rw [← hY']
                  clear q0 q1 q2 q3 q4 q5 q6 q7 q8 q9 q10 qf y3
                  refine hK _ _ ?_
                  clear hK K hY hY'
                  try simp only [Act.put,zA,zB,zC]
                  have F:=Lib.hid (show Y.heap[g3]? = some (.cells (opCells oB s1) 52 (0,0))∧Y.heap[g4]? = some (.cells (opCells oA s2) 52 (0,0))∧OwnOp w.heap.size Y oB s1∧OwnOp w.heap.size Y oA s2∧Below u4.heap.size u4 Y from ⟨(KY g3 NE.out).trans RX,RY,op_other (op_other P1.out R3.out KX) R4X KY,op_other (op_other P2.out R3.out KX) R4X KY,BY⟩)
                  refine wpAny_done (by kernel_rfl) ?_ _
                  refine hK0 _ _ ?_
                  clear hK0 RX RY KX KY ZX ZY BX BY R4X hHeld
                  go_meet
                  exact ⟨g3,g4,s1,s2,rfl,rfl,F.out⟩
              · go_simp
                obtain ⟨x23,hX⟩:∃ Q9,Q9 = x17.alloc (.cells zero11 52):=⟨_,rfl⟩
                have hX':x23 = x17.alloc (.cells #[.int .u8 0,.slice none 0 0,.int .i64 0,.slice none 0 0,.int .u64 0,.bool false,.string ⟨#[]⟩,.string ⟨#[]⟩,.string ⟨#[]⟩,.bool false,.slice none 0 0] 52):=hX
                rw [← hX']
                have hb:Below x17.heap.size x17 x23:=by rw [hX];exact (Below.refl _ _).alloc (Nat.le_refl _) _
                have rn:x23.heap[x17.heap.size]? = some (.cells zero11 52 (0,0)):=by rw [hX];exact heap_alloc_new x17 _
                have hne0:g3 ≠ x17.heap.size:=Nat.ne_of_lt (Array.getElem?_eq_some_iff.1 R3.out).1
                have hge:u4.heap.size≤x17.heap.size:=BB.out.size
                have BB:=Lib.hid (BB.out.trans (hb.mono BB.out.size))
                have R3:=Lib.hid ((hb.block _ (Array.getElem?_eq_some_iff.1 R3.out).1).trans R3.out)
                obtain ⟨g4,hg⟩:∃ g,g = x17.heap.size:=⟨_,rfl⟩
                rw [← hg] at rn hge hne0 ⊢
                have R4:=Lib.hid rn
                have G4:=Lib.hid hge
                have NE:=Lib.hid (show g3 ≠ g4 from hne0)
                clear hne0
                clear hX hX' hb rn hge hg
                refine hK.out _ _ ?_ (fun hNew=>?_)
                · exact BB.out
                clear hK K hHeld
                have hHeld:=hNew
                clear hNew
                try simp only [Act.put,zA,zB,zC]
                refine Top.wpAnyL_one (i:=1) (by kernel_rfl) rfl (by decide) (fun K hK=>?_)
                go_simp
                refine (hbB.out x23 (V4.out.trans (BB.out.mono V4.out.size))).mono ?_
                have BBo:=BB
                rintro e y24 ⟨s1,rfl,ho,hb⟩
                have BB:=Lib.hid (BB.out.trans (hb.mono BB.out.size))
                have R3:=Lib.hid ((hb.block _ (Array.getElem?_eq_some_iff.1 R3.out).1).trans R3.out)
                have R4:=Lib.hid ((hb.block _ (Array.getElem?_eq_some_iff.1 R4.out).1).trans R4.out)
                have P1:=Lib.hid (OwnOp.mono ho (base':=w.heap.size) (Below.size (V4.out.trans (BBo.out.mono V4.out.size))))
                clear ho hb BBo
                go_simp
                refine hK.out _ _ ?_ (fun hNew=>?_)
                · exact BB.out
                clear hK K hHeld
                have hHeld:=hNew
                clear hNew
                try simp only [Act.put,zA,zB,zC]
                refine Top.wpAnyL_one (i:=3) (by kernel_rfl) rfl (by decide) (fun K hK=>?_)
                go_simp
                refine (hbA.out y24 (V4.out.trans (BB.out.mono V4.out.size))).mono ?_
                have BBo:=BB
                rintro e y25 ⟨s2,rfl,ho,hb⟩
                have BB:=Lib.hid (BB.out.trans (hb.mono BB.out.size))
                have P1:=Lib.hid (P1.out.kept (w':=y25) fun k _ h2=>hb.block k h2)
                have R3:=Lib.hid ((hb.block _ (Array.getElem?_eq_some_iff.1 R3.out).1).trans R3.out)
                have R4:=Lib.hid ((hb.block _ (Array.getElem?_eq_some_iff.1 R4.out).1).trans R4.out)
                have P2:=Lib.hid (OwnOp.mono ho (base':=w.heap.size) (Below.size (V4.out.trans (BBo.out.mono V4.out.size))))
                clear ho hb BBo
                go_simp
                refine hK.out _ _ ?_ (fun hNew=>?_)
                · exact BB.out
                clear hK K hHeld
                have hHeld:=hNew
                clear hNew
                try simp only [Act.put,zA,zB,zC]
                have y3:=R3.out
                unfold zero11 at y3
                obtain ⟨q0,q1,q2,q3,q4,q5,q6,q7,q8,q9,q10,qf⟩:=eleven_cells y3
                refine Top.wpAnyL_one (i:=6) (by kernel_rfl) rfl (by decide) (fun K hK=>?_)
                try unfold opCells
                go_simp
                obtain ⟨X,hX,RX,-,ZX,KX⟩:=end_op (w:=u4) (o:=oB) (s:=s1) (r:=g3) G3.out BB.out (show y25.heap[g3]? = some (.cells #[.int .u8 0,.slice none 0 0,.int .i64 0,.slice none 0 0,.int .u64 0,.bool false,.string ⟨#[]⟩,.string ⟨#[]⟩,.string ⟨#[]⟩,.bool false,.slice none 0 0] _ (0,0)) from R3.out)
                have BX:Below u4.heap.size u4 X:=by rw [hX];exact below_op BB.out G3.out
                have hX':X = (((((((((((y25.setCell ⟨g3,0,none⟩ (.int .u8 (oB.kind:Int))).setCell ⟨g3,1,none⟩ (.slice s1.pA s1.pn s1.pc)).setCell ⟨g3,2,none⟩ (.int .i64 oB.at_)).setCell ⟨g3,3,none⟩ (.slice s1.tA s1.tn s1.tc)).setCell ⟨g3,4,none⟩ (.int .u64 (oB.id:Int))).setCell ⟨g3,5,none⟩ (.bool oB.leaf)).setCell ⟨g3,6,none⟩ (.string ⟨oB.label.toArray⟩)).setCell ⟨g3,7,none⟩ (.string ⟨oB.key.toArray⟩)).setCell ⟨g3,8,none⟩ (.string ⟨oB.value.toArray⟩)).setCell ⟨g3,9,none⟩ (.bool oB.gone)).setCell ⟨g3,10,none⟩ (.slice s1.qA s1.qn s1.qc)):=hX
                rw [← hX']
                clear q0 q1 q2 q3 q4 q5 q6 q7 q8 q9 q10 qf y3
                refine hK.out _ _ ?_ (fun hNew=>?_)
                · exact BX
                clear hK K hHeld hX hX'
                have hHeld:=hNew
                clear hNew
                try simp only [Act.put,zA,zB,zC]
                have R4X:=(KX g4 (Ne.symm NE.out)).trans R4.out
                have y3:=R4X
                unfold zero11 at y3
                obtain ⟨q0,q1,q2,q3,q4,q5,q6,q7,q8,q9,q10,qf⟩:=eleven_cells y3
                refine Top.wpAnyL_last (by kernel_rfl) rfl (fun K hK=>?_)
                try unfold opCells
                go_simp
                obtain ⟨Y,hY,RY,-,ZY,KY⟩:=end_op (w:=u4) (o:=oA) (s:=s2) (r:=g4) G4.out BX (show X.heap[g4]? = some (.cells #[.int .u8 0,.slice none 0 0,.int .i64 0,.slice none 0 0,.int .u64 0,.bool false,.string ⟨#[]⟩,.string ⟨#[]⟩,.string ⟨#[]⟩,.bool false,.slice none 0 0] _ (0,0)) from R4X)
                have BY:Below u4.heap.size u4 Y:=by rw [hY];exact below_op BX G4.out
                have hY':Y = (((((((((((X.setCell ⟨g4,0,none⟩ (.int .u8 (oA.kind:Int))).setCell ⟨g4,1,none⟩ (.slice s2.pA s2.pn s2.pc)).setCell ⟨g4,2,none⟩ (.int .i64 oA.at_)).setCell ⟨g4,3,none⟩ (.slice s2.tA s2.tn s2.tc)).setCell ⟨g4,4,none⟩ (.int .u64 (oA.id:Int))).setCell ⟨g4,5,none⟩ (.bool oA.leaf)).setCell ⟨g4,6,none⟩ (.string ⟨oA.label.toArray⟩)).setCell ⟨g4,7,none⟩ (.string ⟨oA.key.toArray⟩)).setCell ⟨g4,8,none⟩ (.string ⟨oA.value.toArray⟩)).setCell ⟨g4,9,none⟩ (.bool oA.gone)).setCell ⟨g4,10,none⟩ (.slice s2.qA s2.qn s2.qc)):=hY
                rw [← hY']
                clear q0 q1 q2 q3 q4 q5 q6 q7 q8 q9 q10 qf y3
                refine hK _ _ ?_
                clear hK K hY hY'
                try simp only [Act.put,zA,zB,zC]
                have F:=Lib.hid (show Y.heap[g3]? = some (.cells (opCells oB s1) 52 (0,0))∧Y.heap[g4]? = some (.cells (opCells oA s2) 52 (0,0))∧OwnOp w.heap.size Y oB s1∧OwnOp w.heap.size Y oA s2∧Below u4.heap.size u4 Y from ⟨(KY g3 NE.out).trans RX,RY,op_other (op_other P1.out R3.out KX) R4X KY,op_other (op_other P2.out R3.out KX) R4X KY,BY⟩)
                refine wpAny_done (by kernel_rfl) ?_ _
                refine hK0 _ _ ?_
                clear hK0 RX RY KX KY ZX ZY BX BY R4X hHeld
                go_meet
                exact ⟨g3,g4,s1,s2,rfl,rfl,F.out⟩
            · go_simp
              obtain ⟨x26,hX⟩:∃ Q9,Q9 = D.alloc (.cells zero11 52):=⟨_,rfl⟩
              have hX':x26 = D.alloc (.cells #[.int .u8 0,.slice none 0 0,.int .i64 0,.slice none 0 0,.int .u64 0,.bool false,.string ⟨#[]⟩,.string ⟨#[]⟩,.string ⟨#[]⟩,.bool false,.slice none 0 0] 52):=hX
              rw [← hX']
              have hb:Below D.heap.size D x26:=by rw [hX];exact (Below.refl _ _).alloc (Nat.le_refl _) _
              have rn:x26.heap[D.heap.size]? = some (.cells zero11 52 (0,0)):=by rw [hX];exact heap_alloc_new D _
              have hge:u4.heap.size≤D.heap.size:=BB.out.size
              have BB:=Lib.hid (BB.out.trans (hb.mono BB.out.size))
              obtain ⟨g4,hg⟩:∃ g,g = D.heap.size:=⟨_,rfl⟩
              rw [← hg] at rn hge ⊢
              have R4:=Lib.hid rn
              have G4:=Lib.hid hge
              clear hX hX' hb rn hge hg
              refine hK.out _ _ ?_ (fun hNew=>?_)
              · exact BB.out
              clear hK K hHeld
              have hHeld:=hNew
              clear hNew
              try simp only [Act.put,zA,zB,zC]
              refine Top.wpAnyL_two (i:=1) (j:=4) (by kernel_rfl) (show _ = some { dst:=some 39,op:=Go.Op.call { callee:=Go.Callee.value (Go.Operand.func 32),args:=#[Go.Operand.tmp 38],argTypes:=#[52] },type:=52,pos:="law.go:44",after:=#[{ on:=0,ground:=Go.Ground.data }],guard:=none } from rfl) (show _ = some { dst:=some 7,op:=Go.Op.alloc 52,type:=0,pos:="law.go:44",after:=#[],guard:=none } from rfl) (by decide) (by decide) (fun K hK=>?_) (fun K hK=>?_)
              · go_simp
                refine (hbB.out x26 (V4.out.trans (BB.out.mono V4.out.size))).mono ?_
                have BBo:=BB
                rintro e y27 ⟨s1,rfl,ho,hb⟩
                have BB:=Lib.hid (BB.out.trans (hb.mono BB.out.size))
                have R4:=Lib.hid ((hb.block _ (Array.getElem?_eq_some_iff.1 R4.out).1).trans R4.out)
                have P1:=Lib.hid (OwnOp.mono ho (base':=w.heap.size) (Below.size (V4.out.trans (BBo.out.mono V4.out.size))))
                clear ho hb BBo
                go_simp
                refine hK.out _ _ ?_ (fun hNew=>?_)
                · exact BB.out
                clear hK K hHeld
                have hHeld:=hNew
                clear hNew
                try simp only [Act.put,zA,zB,zC]
                refine Top.wpAnyL_two (i:=3) (j:=4) (by kernel_rfl) (show _ = some { dst:=some 41,op:=Go.Op.call { callee:=Go.Callee.value (Go.Operand.func 32),args:=#[Go.Operand.tmp 40],argTypes:=#[52] },type:=52,pos:="law.go:44",after:=#[{ on:=2,ground:=Go.Ground.data },{ on:=1,ground:=Go.Ground.chain }],guard:=none } from rfl) (show _ = some { dst:=some 7,op:=Go.Op.alloc 52,type:=0,pos:="law.go:44",after:=#[],guard:=none } from rfl) (by decide) (by decide) (fun K hK=>?_) (fun K hK=>?_)
                · go_simp
                  refine (hbA.out y27 (V4.out.trans (BB.out.mono V4.out.size))).mono ?_
                  have BBo:=BB
                  rintro e y28 ⟨s2,rfl,ho,hb⟩
                  have BB:=Lib.hid (BB.out.trans (hb.mono BB.out.size))
                  have P1:=Lib.hid (P1.out.kept (w':=y28) fun k _ h2=>hb.block k h2)
                  have R4:=Lib.hid ((hb.block _ (Array.getElem?_eq_some_iff.1 R4.out).1).trans R4.out)
                  have P2:=Lib.hid (OwnOp.mono ho (base':=w.heap.size) (Below.size (V4.out.trans (BBo.out.mono V4.out.size))))
                  clear ho hb BBo
                  go_simp
                  refine hK.out _ _ ?_ (fun hNew=>?_)
                  · exact BB.out
                  clear hK K hHeld
                  have hHeld:=hNew
                  clear hNew
                  try simp only [Act.put,zA,zB,zC]
                  refine Top.wpAnyL_one (i:=4) (by kernel_rfl) rfl (by decide) (fun K hK=>?_)
                  go_simp
                  obtain ⟨x29,hX⟩:∃ Q9,Q9 = y28.alloc (.cells zero11 52):=⟨_,rfl⟩
                  have hX':x29 = y28.alloc (.cells #[.int .u8 0,.slice none 0 0,.int .i64 0,.slice none 0 0,.int .u64 0,.bool false,.string ⟨#[]⟩,.string ⟨#[]⟩,.string ⟨#[]⟩,.bool false,.slice none 0 0] 52):=hX
                  rw [← hX']
                  have hb:Below y28.heap.size y28 x29:=by rw [hX];exact (Below.refl _ _).alloc (Nat.le_refl _) _
                  have rn:x29.heap[y28.heap.size]? = some (.cells zero11 52 (0,0)):=by rw [hX];exact heap_alloc_new y28 _
                  have hne0:g4 ≠ y28.heap.size:=Nat.ne_of_lt (Array.getElem?_eq_some_iff.1 R4.out).1
                  have hge:u4.heap.size≤y28.heap.size:=BB.out.size
                  have BB:=Lib.hid (BB.out.trans (hb.mono BB.out.size))
                  have P1:=Lib.hid (P1.out.kept (w':=x29) fun k _ h2=>hb.block k h2)
                  have P2:=Lib.hid (P2.out.kept (w':=x29) fun k _ h2=>hb.block k h2)
                  have R4:=Lib.hid ((hb.block _ (Array.getElem?_eq_some_iff.1 R4.out).1).trans R4.out)
                  obtain ⟨g3,hg⟩:∃ g,g = y28.heap.size:=⟨_,rfl⟩
                  rw [← hg] at rn hge hne0 ⊢
                  have R3:=Lib.hid rn
                  have G3:=Lib.hid hge
                  have NE:=Lib.hid (show g3 ≠ g4 from Ne.symm hne0)
                  clear hne0
                  clear hX hX' hb rn hge hg
                  refine hK.out _ _ ?_ (fun hNew=>?_)
                  · exact BB.out
                  clear hK K hHeld
                  have hHeld:=hNew
                  clear hNew
                  try simp only [Act.put,zA,zB,zC]
                  have y3:=R3.out
                  unfold zero11 at y3
                  obtain ⟨q0,q1,q2,q3,q4,q5,q6,q7,q8,q9,q10,qf⟩:=eleven_cells y3
                  refine Top.wpAnyL_one (i:=6) (by kernel_rfl) rfl (by decide) (fun K hK=>?_)
                  try unfold opCells
                  go_simp
                  obtain ⟨X,hX,RX,-,ZX,KX⟩:=end_op (w:=u4) (o:=oB) (s:=s1) (r:=g3) G3.out BB.out (show x29.heap[g3]? = some (.cells #[.int .u8 0,.slice none 0 0,.int .i64 0,.slice none 0 0,.int .u64 0,.bool false,.string ⟨#[]⟩,.string ⟨#[]⟩,.string ⟨#[]⟩,.bool false,.slice none 0 0] _ (0,0)) from R3.out)
                  have BX:Below u4.heap.size u4 X:=by rw [hX];exact below_op BB.out G3.out
                  have hX':X = (((((((((((x29.setCell ⟨g3,0,none⟩ (.int .u8 (oB.kind:Int))).setCell ⟨g3,1,none⟩ (.slice s1.pA s1.pn s1.pc)).setCell ⟨g3,2,none⟩ (.int .i64 oB.at_)).setCell ⟨g3,3,none⟩ (.slice s1.tA s1.tn s1.tc)).setCell ⟨g3,4,none⟩ (.int .u64 (oB.id:Int))).setCell ⟨g3,5,none⟩ (.bool oB.leaf)).setCell ⟨g3,6,none⟩ (.string ⟨oB.label.toArray⟩)).setCell ⟨g3,7,none⟩ (.string ⟨oB.key.toArray⟩)).setCell ⟨g3,8,none⟩ (.string ⟨oB.value.toArray⟩)).setCell ⟨g3,9,none⟩ (.bool oB.gone)).setCell ⟨g3,10,none⟩ (.slice s1.qA s1.qn s1.qc)):=hX
                  rw [← hX']
                  clear q0 q1 q2 q3 q4 q5 q6 q7 q8 q9 q10 qf y3
                  refine hK.out _ _ ?_ (fun hNew=>?_)
                  · exact BX
                  clear hK K hHeld hX hX'
                  have hHeld:=hNew
                  clear hNew
                  try simp only [Act.put,zA,zB,zC]
                  have R4X:=(KX g4 (Ne.symm NE.out)).trans R4.out
                  have y3:=R4X
                  unfold zero11 at y3
                  obtain ⟨q0,q1,q2,q3,q4,q5,q6,q7,q8,q9,q10,qf⟩:=eleven_cells y3
                  refine Top.wpAnyL_last (by kernel_rfl) rfl (fun K hK=>?_)
                  try unfold opCells
                  go_simp
                  obtain ⟨Y,hY,RY,-,ZY,KY⟩:=end_op (w:=u4) (o:=oA) (s:=s2) (r:=g4) G4.out BX (show X.heap[g4]? = some (.cells #[.int .u8 0,.slice none 0 0,.int .i64 0,.slice none 0 0,.int .u64 0,.bool false,.string ⟨#[]⟩,.string ⟨#[]⟩,.string ⟨#[]⟩,.bool false,.slice none 0 0] _ (0,0)) from R4X)
                  have BY:Below u4.heap.size u4 Y:=by rw [hY];exact below_op BX G4.out
                  have hY':Y = (((((((((((X.setCell ⟨g4,0,none⟩ (.int .u8 (oA.kind:Int))).setCell ⟨g4,1,none⟩ (.slice s2.pA s2.pn s2.pc)).setCell ⟨g4,2,none⟩ (.int .i64 oA.at_)).setCell ⟨g4,3,none⟩ (.slice s2.tA s2.tn s2.tc)).setCell ⟨g4,4,none⟩ (.int .u64 (oA.id:Int))).setCell ⟨g4,5,none⟩ (.bool oA.leaf)).setCell ⟨g4,6,none⟩ (.string ⟨oA.label.toArray⟩)).setCell ⟨g4,7,none⟩ (.string ⟨oA.key.toArray⟩)).setCell ⟨g4,8,none⟩ (.string ⟨oA.value.toArray⟩)).setCell ⟨g4,9,none⟩ (.bool oA.gone)).setCell ⟨g4,10,none⟩ (.slice s2.qA s2.qn s2.qc)):=hY
                  rw [← hY']
                  clear q0 q1 q2 q3 q4 q5 q6 q7 q8 q9 q10 qf y3
                  refine hK _ _ ?_
                  clear hK K hY hY'
                  try simp only [Act.put,zA,zB,zC]
                  have F:=Lib.hid (show Y.heap[g3]? = some (.cells (opCells oB s1) 52 (0,0))∧Y.heap[g4]? = some (.cells (opCells oA s2) 52 (0,0))∧OwnOp w.heap.size Y oB s1∧OwnOp w.heap.size Y oA s2∧Below u4.heap.size u4 Y from ⟨(KY g3 NE.out).trans RX,RY,op_other (op_other P1.out R3.out KX) R4X KY,op_other (op_other P2.out R3.out KX) R4X KY,BY⟩)
                  refine wpAny_done (by kernel_rfl) ?_ _
                  refine hK0 _ _ ?_
                  clear hK0 RX RY KX KY ZX ZY BX BY R4X hHeld
                  go_meet
                  exact ⟨g3,g4,s1,s2,rfl,rfl,F.out⟩
                · go_simp
                  obtain ⟨x30,hX⟩:∃ Q9,Q9 = y27.alloc (.cells zero11 52):=⟨_,rfl⟩
                  have hX':x30 = y27.alloc (.cells #[.int .u8 0,.slice none 0 0,.int .i64 0,.slice none 0 0,.int .u64 0,.bool false,.string ⟨#[]⟩,.string ⟨#[]⟩,.string ⟨#[]⟩,.bool false,.slice none 0 0] 52):=hX
                  rw [← hX']
                  have hb:Below y27.heap.size y27 x30:=by rw [hX];exact (Below.refl _ _).alloc (Nat.le_refl _) _
                  have rn:x30.heap[y27.heap.size]? = some (.cells zero11 52 (0,0)):=by rw [hX];exact heap_alloc_new y27 _
                  have hne0:g4 ≠ y27.heap.size:=Nat.ne_of_lt (Array.getElem?_eq_some_iff.1 R4.out).1
                  have hge:u4.heap.size≤y27.heap.size:=BB.out.size
                  have BB:=Lib.hid (BB.out.trans (hb.mono BB.out.size))
                  have P1:=Lib.hid (P1.out.kept (w':=x30) fun k _ h2=>hb.block k h2)
                  have R4:=Lib.hid ((hb.block _ (Array.getElem?_eq_some_iff.1 R4.out).1).trans R4.out)
                  obtain ⟨g3,hg⟩:∃ g,g = y27.heap.size:=⟨_,rfl⟩
                  rw [← hg] at rn hge hne0 ⊢
                  have R3:=Lib.hid rn
                  have G3:=Lib.hid hge
                  have NE:=Lib.hid (show g3 ≠ g4 from Ne.symm hne0)
                  clear hne0
                  clear hX hX' hb rn hge hg
                  refine hK.out _ _ ?_ (fun hNew=>?_)
                  · exact BB.out
                  clear hK K hHeld
                  have hHeld:=hNew
                  clear hNew
                  try simp only [Act.put,zA,zB,zC]
                  refine Top.wpAnyL_one (i:=3) (by kernel_rfl) rfl (by decide) (fun K hK=>?_)
                  go_simp
                  refine (hbA.out x30 (V4.out.trans (BB.out.mono V4.out.size))).mono ?_
                  have BBo:=BB
                  rintro e y31 ⟨s2,rfl,ho,hb⟩
                  have BB:=Lib.hid (BB.out.trans (hb.mono BB.out.size))
                  have P1:=Lib.hid (P1.out.kept (w':=y31) fun k _ h2=>hb.block k h2)
                  have R3:=Lib.hid ((hb.block _ (Array.getElem?_eq_some_iff.1 R3.out).1).trans R3.out)
                  have R4:=Lib.hid ((hb.block _ (Array.getElem?_eq_some_iff.1 R4.out).1).trans R4.out)
                  have P2:=Lib.hid (OwnOp.mono ho (base':=w.heap.size) (Below.size (V4.out.trans (BBo.out.mono V4.out.size))))
                  clear ho hb BBo
                  go_simp
                  refine hK.out _ _ ?_ (fun hNew=>?_)
                  · exact BB.out
                  clear hK K hHeld
                  have hHeld:=hNew
                  clear hNew
                  try simp only [Act.put,zA,zB,zC]
                  have y3:=R3.out
                  unfold zero11 at y3
                  obtain ⟨q0,q1,q2,q3,q4,q5,q6,q7,q8,q9,q10,qf⟩:=eleven_cells y3
                  refine Top.wpAnyL_one (i:=6) (by kernel_rfl) rfl (by decide) (fun K hK=>?_)
                  try unfold opCells
                  go_simp
                  obtain ⟨X,hX,RX,-,ZX,KX⟩:=end_op (w:=u4) (o:=oB) (s:=s1) (r:=g3) G3.out BB.out (show y31.heap[g3]? = some (.cells #[.int .u8 0,.slice none 0 0,.int .i64 0,.slice none 0 0,.int .u64 0,.bool false,.string ⟨#[]⟩,.string ⟨#[]⟩,.string ⟨#[]⟩,.bool false,.slice none 0 0] _ (0,0)) from R3.out)
                  have BX:Below u4.heap.size u4 X:=by rw [hX];exact below_op BB.out G3.out
                  have hX':X = (((((((((((y31.setCell ⟨g3,0,none⟩ (.int .u8 (oB.kind:Int))).setCell ⟨g3,1,none⟩ (.slice s1.pA s1.pn s1.pc)).setCell ⟨g3,2,none⟩ (.int .i64 oB.at_)).setCell ⟨g3,3,none⟩ (.slice s1.tA s1.tn s1.tc)).setCell ⟨g3,4,none⟩ (.int .u64 (oB.id:Int))).setCell ⟨g3,5,none⟩ (.bool oB.leaf)).setCell ⟨g3,6,none⟩ (.string ⟨oB.label.toArray⟩)).setCell ⟨g3,7,none⟩ (.string ⟨oB.key.toArray⟩)).setCell ⟨g3,8,none⟩ (.string ⟨oB.value.toArray⟩)).setCell ⟨g3,9,none⟩ (.bool oB.gone)).setCell ⟨g3,10,none⟩ (.slice s1.qA s1.qn s1.qc)):=hX
                  rw [← hX']
                  clear q0 q1 q2 q3 q4 q5 q6 q7 q8 q9 q10 qf y3
                  refine hK.out _ _ ?_ (fun hNew=>?_)
                  · exact BX
                  clear hK K hHeld hX hX'
                  have hHeld:=hNew
                  clear hNew
                  try simp only [Act.put,zA,zB,zC]
                  have R4X:=(KX g4 (Ne.symm NE.out)).trans R4.out
                  have y3:=R4X
                  unfold zero11 at y3
                  obtain ⟨q0,q1,q2,q3,q4,q5,q6,q7,q8,q9,q10,qf⟩:=eleven_cells y3
                  refine Top.wpAnyL_last (by kernel_rfl) rfl (fun K hK=>?_)
                  try unfold opCells
                  go_simp
                  obtain ⟨Y,hY,RY,-,ZY,KY⟩:=end_op (w:=u4) (o:=oA) (s:=s2) (r:=g4) G4.out BX (show X.heap[g4]? = some (.cells #[.int .u8 0,.slice none 0 0,.int .i64 0,.slice none 0 0,.int .u64 0,.bool false,.string ⟨#[]⟩,.string ⟨#[]⟩,.string ⟨#[]⟩,.bool false,.slice none 0 0] _ (0,0)) from R4X)
                  have BY:Below u4.heap.size u4 Y:=by rw [hY];exact below_op BX G4.out
                  have hY':Y = (((((((((((X.setCell ⟨g4,0,none⟩ (.int .u8 (oA.kind:Int))).setCell ⟨g4,1,none⟩ (.slice s2.pA s2.pn s2.pc)).setCell ⟨g4,2,none⟩ (.int .i64 oA.at_)).setCell ⟨g4,3,none⟩ (.slice s2.tA s2.tn s2.tc)).setCell ⟨g4,4,none⟩ (.int .u64 (oA.id:Int))).setCell ⟨g4,5,none⟩ (.bool oA.leaf)).setCell ⟨g4,6,none⟩ (.string ⟨oA.label.toArray⟩)).setCell ⟨g4,7,none⟩ (.string ⟨oA.key.toArray⟩)).setCell ⟨g4,8,none⟩ (.string ⟨oA.value.toArray⟩)).setCell ⟨g4,9,none⟩ (.bool oA.gone)).setCell ⟨g4,10,none⟩ (.slice s2.qA s2.qn s2.qc)):=hY
                  rw [← hY']
                  clear q0 q1 q2 q3 q4 q5 q6 q7 q8 q9 q10 qf y3
                  refine hK _ _ ?_
                  clear hK K hY hY'
                  try simp only [Act.put,zA,zB,zC]
                  have F:=Lib.hid (show Y.heap[g3]? = some (.cells (opCells oB s1) 52 (0,0))∧Y.heap[g4]? = some (.cells (opCells oA s2) 52 (0,0))∧OwnOp w.heap.size Y oB s1∧OwnOp w.heap.size Y oA s2∧Below u4.heap.size u4 Y from ⟨(KY g3 NE.out).trans RX,RY,op_other (op_other P1.out R3.out KX) R4X KY,op_other (op_other P2.out R3.out KX) R4X KY,BY⟩)
                  refine wpAny_done (by kernel_rfl) ?_ _
                  refine hK0 _ _ ?_
                  clear hK0 RX RY KX KY ZX ZY BX BY R4X hHeld
                  go_meet
                  exact ⟨g3,g4,s1,s2,rfl,rfl,F.out⟩
              · go_simp
                obtain ⟨x32,hX⟩:∃ Q9,Q9 = x26.alloc (.cells zero11 52):=⟨_,rfl⟩
                have hX':x32 = x26.alloc (.cells #[.int .u8 0,.slice none 0 0,.int .i64 0,.slice none 0 0,.int .u64 0,.bool false,.string ⟨#[]⟩,.string ⟨#[]⟩,.string ⟨#[]⟩,.bool false,.slice none 0 0] 52):=hX
                rw [← hX']
                have hb:Below x26.heap.size x26 x32:=by rw [hX];exact (Below.refl _ _).alloc (Nat.le_refl _) _
                have rn:x32.heap[x26.heap.size]? = some (.cells zero11 52 (0,0)):=by rw [hX];exact heap_alloc_new x26 _
                have hne0:g4 ≠ x26.heap.size:=Nat.ne_of_lt (Array.getElem?_eq_some_iff.1 R4.out).1
                have hge:u4.heap.size≤x26.heap.size:=BB.out.size
                have BB:=Lib.hid (BB.out.trans (hb.mono BB.out.size))
                have R4:=Lib.hid ((hb.block _ (Array.getElem?_eq_some_iff.1 R4.out).1).trans R4.out)
                obtain ⟨g3,hg⟩:∃ g,g = x26.heap.size:=⟨_,rfl⟩
                rw [← hg] at rn hge hne0 ⊢
                have R3:=Lib.hid rn
                have G3:=Lib.hid hge
                have NE:=Lib.hid (show g3 ≠ g4 from Ne.symm hne0)
                clear hne0
                clear hX hX' hb rn hge hg
                refine hK.out _ _ ?_ (fun hNew=>?_)
                · exact BB.out
                clear hK K hHeld
                have hHeld:=hNew
                clear hNew
                try simp only [Act.put,zA,zB,zC]
                refine Top.wpAnyL_one (i:=1) (by kernel_rfl) rfl (by decide) (fun K hK=>?_)
                go_simp
                refine (hbB.out x32 (V4.out.trans (BB.out.mono V4.out.size))).mono ?_
                have BBo:=BB
                rintro e y33 ⟨s1,rfl,ho,hb⟩
                have BB:=Lib.hid (BB.out.trans (hb.mono BB.out.size))
                have R3:=Lib.hid ((hb.block _ (Array.getElem?_eq_some_iff.1 R3.out).1).trans R3.out)
                have R4:=Lib.hid ((hb.block _ (Array.getElem?_eq_some_iff.1 R4.out).1).trans R4.out)
                have P1:=Lib.hid (OwnOp.mono ho (base':=w.heap.size) (Below.size (V4.out.trans (BBo.out.mono V4.out.size))))
                clear ho hb BBo
                go_simp
                refine hK.out _ _ ?_ (fun hNew=>?_)
                · exact BB.out
                clear hK K hHeld
                have hHeld:=hNew
                clear hNew
                try simp only [Act.put,zA,zB,zC]
                refine Top.wpAnyL_one (i:=3) (by kernel_rfl) rfl (by decide) (fun K hK=>?_)
                go_simp
                refine (hbA.out y33 (V4.out.trans (BB.out.mono V4.out.size))).mono ?_
                have BBo:=BB
                rintro e y34 ⟨s2,rfl,ho,hb⟩
                have BB:=Lib.hid (BB.out.trans (hb.mono BB.out.size))
                have P1:=Lib.hid (P1.out.kept (w':=y34) fun k _ h2=>hb.block k h2)
                have R3:=Lib.hid ((hb.block _ (Array.getElem?_eq_some_iff.1 R3.out).1).trans R3.out)
                have R4:=Lib.hid ((hb.block _ (Array.getElem?_eq_some_iff.1 R4.out).1).trans R4.out)
                have P2:=Lib.hid (OwnOp.mono ho (base':=w.heap.size) (Below.size (V4.out.trans (BBo.out.mono V4.out.size))))
                clear ho hb BBo
                go_simp
                refine hK.out _ _ ?_ (fun hNew=>?_)
                · exact BB.out
                clear hK K hHeld
                have hHeld:=hNew
                clear hNew
                try simp only [Act.put,zA,zB,zC]
                have y3:=R3.out
                unfold zero11 at y3
                obtain ⟨q0,q1,q2,q3,q4,q5,q6,q7,q8,q9,q10,qf⟩:=eleven_cells y3
                refine Top.wpAnyL_one (i:=6) (by kernel_rfl) rfl (by decide) (fun K hK=>?_)
                try unfold opCells
                go_simp
                obtain ⟨X,hX,RX,-,ZX,KX⟩:=end_op (w:=u4) (o:=oB) (s:=s1) (r:=g3) G3.out BB.out (show y34.heap[g3]? = some (.cells #[.int .u8 0,.slice none 0 0,.int .i64 0,.slice none 0 0,.int .u64 0,.bool false,.string ⟨#[]⟩,.string ⟨#[]⟩,.string ⟨#[]⟩,.bool false,.slice none 0 0] _ (0,0)) from R3.out)
                have BX:Below u4.heap.size u4 X:=by rw [hX];exact below_op BB.out G3.out
                have hX':X = (((((((((((y34.setCell ⟨g3,0,none⟩ (.int .u8 (oB.kind:Int))).setCell ⟨g3,1,none⟩ (.slice s1.pA s1.pn s1.pc)).setCell ⟨g3,2,none⟩ (.int .i64 oB.at_)).setCell ⟨g3,3,none⟩ (.slice s1.tA s1.tn s1.tc)).setCell ⟨g3,4,none⟩ (.int .u64 (oB.id:Int))).setCell ⟨g3,5,none⟩ (.bool oB.leaf)).setCell ⟨g3,6,none⟩ (.string ⟨oB.label.toArray⟩)).setCell ⟨g3,7,none⟩ (.string ⟨oB.key.toArray⟩)).setCell ⟨g3,8,none⟩ (.string ⟨oB.value.toArray⟩)).setCell ⟨g3,9,none⟩ (.bool oB.gone)).setCell ⟨g3,10,none⟩ (.slice s1.qA s1.qn s1.qc)):=hX
                rw [← hX']
                clear q0 q1 q2 q3 q4 q5 q6 q7 q8 q9 q10 qf y3
                refine hK.out _ _ ?_ (fun hNew=>?_)
                · exact BX
                clear hK K hHeld hX hX'
                have hHeld:=hNew
                clear hNew
                try simp only [Act.put,zA,zB,zC]
                have R4X:=(KX g4 (Ne.symm NE.out)).trans R4.out
                have y3:=R4X
                unfold zero11 at y3
                obtain ⟨q0,q1,q2,q3,q4,q5,q6,q7,q8,q9,q10,qf⟩:=eleven_cells y3
                refine Top.wpAnyL_last (by kernel_rfl) rfl (fun K hK=>?_)
                try unfold opCells
                go_simp
                obtain ⟨Y,hY,RY,-,ZY,KY⟩:=end_op (w:=u4) (o:=oA) (s:=s2) (r:=g4) G4.out BX (show X.heap[g4]? = some (.cells #[.int .u8 0,.slice none 0 0,.int .i64 0,.slice none 0 0,.int .u64 0,.bool false,.string ⟨#[]⟩,.string ⟨#[]⟩,.string ⟨#[]⟩,.bool false,.slice none 0 0] _ (0,0)) from R4X)
                have BY:Below u4.heap.size u4 Y:=by rw [hY];exact below_op BX G4.out
                have hY':Y = (((((((((((X.setCell ⟨g4,0,none⟩ (.int .u8 (oA.kind:Int))).setCell ⟨g4,1,none⟩ (.slice s2.pA s2.pn s2.pc)).setCell ⟨g4,2,none⟩ (.int .i64 oA.at_)).setCell ⟨g4,3,none⟩ (.slice s2.tA s2.tn s2.tc)).setCell ⟨g4,4,none⟩ (.int .u64 (oA.id:Int))).setCell ⟨g4,5,none⟩ (.bool oA.leaf)).setCell ⟨g4,6,none⟩ (.string ⟨oA.label.toArray⟩)).setCell ⟨g4,7,none⟩ (.string ⟨oA.key.toArray⟩)).setCell ⟨g4,8,none⟩ (.string ⟨oA.value.toArray⟩)).setCell ⟨g4,9,none⟩ (.bool oA.gone)).setCell ⟨g4,10,none⟩ (.slice s2.qA s2.qn s2.qc)):=hY
                rw [← hY']
                clear q0 q1 q2 q3 q4 q5 q6 q7 q8 q9 q10 qf y3
                refine hK _ _ ?_
                clear hK K hY hY'
                try simp only [Act.put,zA,zB,zC]
                have F:=Lib.hid (show Y.heap[g3]? = some (.cells (opCells oB s1) 52 (0,0))∧Y.heap[g4]? = some (.cells (opCells oA s2) 52 (0,0))∧OwnOp w.heap.size Y oB s1∧OwnOp w.heap.size Y oA s2∧Below u4.heap.size u4 Y from ⟨(KY g3 NE.out).trans RX,RY,op_other (op_other P1.out R3.out KX) R4X KY,op_other (op_other P2.out R3.out KX) R4X KY,BY⟩)
                refine wpAny_done (by kernel_rfl) ?_ _
                refine hK0 _ _ ?_
                clear hK0 RX RY KX KY ZX ZY BX BY R4X hHeld
                go_meet
                exact ⟨g3,g4,s1,s2,rfl,rfl,F.out⟩
          case rest =>
            obtain ⟨g3,g4,s1,s2,rfl,rfl,r3,r4,k1,k2,hB⟩:=hcut
            have EC:=Lib.hid (E4.out.trans (hB.mono E4.out.size))
            have VC:=Lib.hid (V4.out.trans (hB.mono V4.out.size))
            have hrc:=Lib.hid (fun (W:World) (hB:Below wc.heap.size wc W)=>And.intro ((hB.block g3 (Array.getElem?_eq_some_iff.1 r3).1).trans r3) ((hB.block g4 (Array.getElem?_eq_some_iff.1 r4).1).trans r4))
            have hIB:=Lib.hid (fun (W:World) (hB:Below wc.heap.size wc W)=>(k1.op hOb.out).below hB)
            have hIA:=Lib.hid (fun (W:World) (hB:Below wc.heap.size wc W)=>(k2.op hOa.out).below hB)
            have hp:=Lib.hid (by have h5:=(Both_any wc oB oA s1 s2 prior (hIB.out wc (Below.refl _ _)) (hIA.out wc (Below.refl _ _)) hTb.out.1 hTa.out.1 hTb.out.2 hTa.out.2);rw [HBB.out] at h5;exact h5)
            unfold opCells BothA at hp
            dsimp only at hp
            obtain ⟨p0,p1,p2,p3,p4,p5,p6,p7,p8,p9,p10⟩:=op_cells r3
            obtain ⟨m0,m1,m2,m3,m4,m5,m6,m7,m8,m9,m10⟩:=op_cells r4
            clear r3 r4 k1 k2 hB
            have hrow2:=Lib.hid (fun (W:World) (hB:Below wc.heap.size wc W)=>hrow.out W (EC.out.trans (hB.mono EC.out.size)))
            go_wp2_with (first | (go_at_call_of 55 B5;(refine (same_any w7 B5 B6 mb5 d5 mb6 d6 l5b l6b ((Y5.out.below F6.out).below F7.out) (Y6.out.below F7.out) (N5.out.trans N6.out.symm)).mono ?_;rintro e w8 ⟨rfl,hb9⟩;have F8:=Lib.hid hb9;clear hb9)) | (go_at_call_of 55 A5;(refine (same_any w6 A5 A6 n5 c5 n6 c6 l5 l6 (X5.out.below F6.out) X6.out (M5.out.trans M6.out.symm)).mono ?_;rintro e w7 ⟨rfl,hb9⟩;have F7:=Lib.hid hb9;clear hb9)) | (go_at_call 54;(refine (hq.out w5 (VC.out.trans (F5.out.mono VC.out.size))).mono ?_;rintro e w6 ⟨A6,n6,c6,l6,B6,mb6,d6,l6b,rfl,hm,hm2,hx,hx2,hb9⟩;have M6:=Lib.hid hm;have N6:=Lib.hid hm2;have X6:=Lib.hid hx;have Y6:=Lib.hid hx2;have F6:=Lib.hid hb9;clear hm hm2 hx hx2 hb9 o0 o1 o2 o3 o4 o5 o6 o7 o8 o9 o10 a0 a1 a2 a3 a4 a5 a6 a7 a8 a9 a10)) | (go_at_call 53;(refine hp.out.mono ?_;rintro e w5 ⟨v5,v5b,l5,l5b,rfl,hm,hm2,hx,hx2,hb9⟩;obtain ⟨A5,n5,c5,rfl,hr5⟩:=row_read hx.1 hx.2;obtain ⟨B5,mb5,d5,rfl,hr5b⟩:=row_read hx2.1 hx2.2;have M5:=Lib.hid hm;have N5:=Lib.hid hm2;have X5:=Lib.hid hr5;have Y5:=Lib.hid hr5b;have W5:=Lib.hid hx;have U5:=Lib.hid hx2;have F5:=Lib.hid hb9;clear hm hm2 hx hx2 hr5 hr5b hb9 p0 p1 p2 p3 p4 p5 p6 p7 p8 p9 p10 m0 m1 m2 m3 m4 m5 m6 m7 m8 m9 m10;obtain ⟨r1,r2⟩:=hrow2.out _ F5.out;obtain ⟨o0,o1,o2,o3,o4,o5,o6,o7,o8,o9,o10⟩:=op_cells r1;obtain ⟨a0,a1,a2,a3,a4,a5,a6,a7,a8,a9,a10⟩:=op_cells r2;clear r1 r2)))
            have F58:=Lib.hid (F6.out.trans ((F7.out.trans (F8.out.mono F7.out.size)).mono F6.out.size))
            have FC8:=Lib.hid (F5.out.trans (F58.out.mono F5.out.size))
            have hbc:wc.heap.size≤w8.heap.size:=FC8.out.size
            have HBC:=Lib.hid hbc
            clear hbc
            have L1:=Lib.hid (rows_kept W5.out F58.out)
            have L2:=Lib.hid (rows_kept U5.out F58.out)
            have Z0:=Lib.hid (Shp.refl (base:=wc.heap.size) (w:=w8))
            go_loopw [15] (fun v wr=>∃ q:Nat,q≤n5∧v = .int .i64 (q:Int)∧Shp wc.heap.size w8 wr) (fun v _=>n5 - (intOf v).toNat)
            case atStart=>exact ⟨0,Nat.zero_le _,rfl,Z0.out⟩
            case round =>
              obtain ⟨q,hq,rfl,hs⟩:=hrel
              have S15:=Lib.hid hs
              clear hs
              by_cases hqn:q < n5
              · have hqI:(q:Int) < (n5:Int):=by omega
                have e0_:(0:Int)≤(q:Int):=by omega
                obtain ⟨o9,t9,g,hA,hel,hsp,hm9⟩:=spoil_at L1.out S15.out HBC.out hqn
                subst hA
                have hadd:(⟨g,0,none⟩:Addr).add (q * 11) = ⟨g,q * 11,none⟩:=add_zero_off g (q * 11)
                obtain ⟨e0,e1,e2,e3,e4,e5,e6,e7,e8,e9,e10⟩:=hel
                dsimp only at e0 e1 e2 e3 e4 e5 e6 e7 e8 e9 e10
                have hnm:(n5:Int)≤9223372036854775807:=hm9.2
                have hspo:=Lib.hid (spoil_any wc.heap.size wr o9 t9 (Nat.le_trans HBC.out S15.out.bel.size) hsp hm9.1)
                unfold opCells at hspo
                clear hsp hm9
                go_wp2_with (go_at_call 56;(refine hspo.out.mono ?_;rintro e wz ⟨rfl,hz⟩;have SZ:=Lib.hid hz;clear hz))
                go_roundw
                case rel=>exact ⟨q + 1,by omega,by go_num,S15.out.trans SZ.out⟩
                case measure=>simp [intOf];omega
              · have hqI:¬ (q:Int) < (n5:Int):=by omega
                obtain ⟨wl15,hwl⟩:∃ Q9,Q9 = wr:=⟨_,rfl⟩
                subst hwl
                go_wp2_with fail
                clear hqI hq
                go_loopw [16] (fun v wr=>∃ q:Nat,q≤mb5∧v = .int .i64 (q:Int)∧Shp wc.heap.size w8 wr) (fun v _=>mb5 - (intOf v).toNat)
                case atStart=>exact ⟨0,Nat.zero_le _,rfl,S15.out⟩
                case round =>
                  obtain ⟨q,hq,rfl,hs⟩:=hrel
                  have S16:=Lib.hid hs
                  clear hs
                  by_cases hqn:q < mb5
                  · have hqI:(q:Int) < (mb5:Int):=by omega
                    have e0_:(0:Int)≤(q:Int):=by omega
                    obtain ⟨o9,t9,g,hA,hel,hsp,hm9⟩:=spoil_at L2.out S16.out HBC.out hqn
                    subst hA
                    have hadd:(⟨g,0,none⟩:Addr).add (q * 11) = ⟨g,q * 11,none⟩:=add_zero_off g (q * 11)
                    obtain ⟨e0,e1,e2,e3,e4,e5,e6,e7,e8,e9,e10⟩:=hel
                    dsimp only at e0 e1 e2 e3 e4 e5 e6 e7 e8 e9 e10
                    have hnm:(mb5:Int)≤9223372036854775807:=hm9.2
                    have hspo:=Lib.hid (spoil_any wc.heap.size wr o9 t9 (Nat.le_trans HBC.out S16.out.bel.size) hsp hm9.1)
                    unfold opCells at hspo
                    clear hsp hm9
                    go_wp2_with (go_at_call 56;(refine hspo.out.mono ?_;rintro e wz ⟨rfl,hz⟩;have SZ:=Lib.hid hz;clear hz))
                    go_roundw
                    case rel=>exact ⟨q + 1,by omega,by go_num,S16.out.trans SZ.out⟩
                    case measure=>simp [intOf];omega
                  · have hqI:¬ (q:Int) < (mb5:Int):=by omega
                    obtain ⟨wl16,hwl⟩:∃ Q9,Q9 = wr:=⟨_,rfl⟩
                    subst hwl
                    have FW:=Lib.hid (FC8.out.trans (S16.out.bel))
                    have VW:=Lib.hid (VC.out.trans (FW.out.mono VC.out.size))
                    obtain ⟨r3,r4⟩:=hrc.out _ FW.out
                    obtain ⟨r1,r2⟩:=hrow2.out _ FW.out
                    obtain ⟨o0,o1,o2,o3,o4,o5,o6,o7,o8,o9,o10⟩:=op_cells r1
                    obtain ⟨a0,a1,a2,a3,a4,a5,a6,a7,a8,a9,a10⟩:=op_cells r2
                    obtain ⟨p0,p1,p2,p3,p4,p5,p6,p7,p8,p9,p10⟩:=op_cells r3
                    obtain ⟨m0,m1,m2,m3,m4,m5,m6,m7,m8,m9,m10⟩:=op_cells r4
                    clear r1 r2 r3 r4 hqI hq
                    have hz1:=Lib.hid (by have h5:=rsame_any8 wl16 oB b s1 sb (hIB.out _ FW.out) (hIb.out _ VW.out);rw [← HOB.out,hsb2.out] at h5;exact h5)
                    have hz2:=Lib.hid (fun (W:World) (hB:Below wl16.heap.size wl16 W)=>by have h5:=rsame_any8 W oA a s2 sa (hIA.out W (FW.out.trans (hB.mono FW.out.size))) (hIa.out W (VW.out.trans (hB.mono VW.out.size)));rw [← HOA.out,hsa2.out] at h5;exact h5)
                    unfold opCells at hz1 hz2
                    go_wp2_with (first | (go_at_call 52;(refine (works_any _).mono ?_;rintro e wz ⟨rfl,hbz⟩;have BZ:=Lib.hid (Below.trans VB.out (hbz.mono (Below.size VB.out)));clear hbz)) | (go_at_call_of 36 s2.pA;(refine (hz2.out _ FA.out).mono ?_;rintro e wb ⟨rfl,hb9⟩;have VB:=Lib.hid (VW.out.trans (Below.mono (FA.out.trans (hb9.mono FA.out.size)) VW.out.size));clear hb9)) | (go_at_call_of 36 s1.pA;(refine hz1.out.mono ?_;rintro e wa ⟨rfl,hb9⟩;have FA:=Lib.hid hb9;clear hb9 o0 o1 o2 o3 o4 o5 o6 o7 o8 o9 o10 a0 a1 a2 a3 a4 a5 a6 a7 a8 a9 a10 p0 p1 p2 p3 p4 p5 p6 p7 p8 p9 p10 m0 m1 m2 m3 m4 m5 m6 m7 m8 m9 m10;obtain ⟨r3,r4⟩:=hrc.out _ (FW.out.trans (FA.out.mono FW.out.size));obtain ⟨r1,r2⟩:=hrow2.out _ (FW.out.trans (FA.out.mono FW.out.size));obtain ⟨o0,o1,o2,o3,o4,o5,o6,o7,o8,o9,o10⟩:=op_cells r1;obtain ⟨a0,a1,a2,a3,a4,a5,a6,a7,a8,a9,a10⟩:=op_cells r2;obtain ⟨p0,p1,p2,p3,p4,p5,p6,p7,p8,p9,p10⟩:=op_cells r3;obtain ⟨m0,m1,m2,m3,m4,m5,m6,m7,m8,m9,m10⟩:=op_cells r4;clear r1 r2 r3 r4)))
                    go_ret
                    exact ⟨rfl,BZ.out⟩

end Go.Proofs.Ytidimannfemnmaa.Sqr

