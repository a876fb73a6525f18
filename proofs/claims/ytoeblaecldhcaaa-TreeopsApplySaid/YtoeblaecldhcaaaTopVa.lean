/- The document's Valid. -/
import Derived.Test.YtoeblaecldhcaaaMgAM
import Derived.Test.YtoeblaecldhcaaaMgBA
import Derived.Test.YtoeblaecldhcaaaMgAI
namespace Go.Proofs.Ytoeblaecldhcaaa.Top
open Go.RowKit
set_option maxRecDepth 20000
set_option linter.unusedVariables false

theorem rinto_any (w:World) (y:Nd) (aA kA:Option Addr) (an ac kn kc:Nat) (hk:y.kids.length = kn) (i:Int):Calls Try.prog 50 #[.agg (val6 y aA an ac kA kn kc),.int .i64 i] w fun e w'=>e = .returned (.int .i64 (gapE y i))∧Below w.heap.size w w':=by
  have hal:=Lib.hid (fun o=>(Below.refl w.heap.size w).alloc (Nat.le_refl _) o)
  have hk':=Lib.hid hk
  clear hk
  unfold val6
  cases hl:y.leaf with
  | true =>
    have hv:=Lib.hid (show gapE y i = 83 by unfold gapE;rw [hl];rfl)
    clear hl
    go_enter Try.func50,Try.ntmps50
    go_wp2_with fail
    go_ret
    exact ⟨by rw [hv.out] <;> rfl,hal.out _⟩
  | false =>
    by_cases hg:(kn:Int) < i
    · have hv:=Lib.hid (show gapE y i = 81 by unfold gapE;rw [hl,hk'.out,if_pos hg];rfl)
      clear hl
      go_enter Try.func50,Try.ntmps50
      go_wp2_with fail
      go_ret
      exact ⟨by rw [hv.out] <;> rfl,hal.out _⟩
    · have hv:=Lib.hid (show gapE y i = 0 by unfold gapE;rw [hl,hk'.out,if_neg hg];rfl)
      clear hl
      go_enter Try.func50,Try.ntmps50
      go_wp2_with fail
      go_ret
      exact ⟨by rw [hv.out] <;> rfl,hal.out _⟩
set_option maxHeartbeats 4000000 in
theorem rv_c0 (w:World) (t:Nd) (aA kA:Option Addr) (an ac kn kc:Nat) (o:Ov) (s:OS) (h:NodeV (Old w) w aA an ac kA kn kc t) (ho:OpIn w o s) (hbig:weighV t≤100000) (hr:rightV ltB t = false) :
    Calls Try.prog 16 #[.agg (val6 t aA an ac kA kn kc),.agg (opCells o s)] w fun e w'=>e = .returned (.int .i64 2)∧Below w.heap.size w w':=by
  obtain ⟨W2,hW2⟩:∃ W2,W2 = (w.alloc (.cells (val6 t aA an ac kA kn kc) 33)).alloc (.cells (opCells o s) 26):=⟨_,rfl⟩
  have z1:W2.heap[w.heap.size]? = some (.cells (val6 t aA an ac kA kn kc) 33 (0,0)):=by rw [hW2];exact (Go.heap_alloc_old _ _ (by simp)).trans (heap_alloc_new w _)
  have z2:W2.heap[w.heap.size + 1]? = some (.cells (opCells o s) 26 (0,0)):=by rw [hW2];have h1:=heap_alloc_new (w.alloc (.cells (val6 t aA an ac kA kn kc) 33)) (.cells (opCells o s) 26);rw [World.size_alloc] at h1;exact h1
  have z4':=Lib.hid (show Below w.heap.size w W2 by rw [hW2];exact ((Below.refl _ _).alloc (Nat.le_refl _) _).alloc (by simp) _)
  have z5:W2.heap.size = w.heap.size + 1 + 1:=by rw [hW2];simp
  have hR:=Lib.hid (fun (W:World) (hb:Below w.heap.size w W)=>rRight_any W t aA kA an ac kn kc (h.below hb))
  have hF:=Lib.hid (fun (W:World) (hb:Below w.heap.size w W)=>rformed_any W o s (ho.below hb))
  have hA:=Lib.hid (fun (W:World) (hb:Below w.heap.size w W)=>rat_any W t aA kA an ac kn kc (h.below hb) s.pA s.pn s.pc o.path (ho.path.below hb) (Nat.le_trans ho.pnc ho.pcm))
  have hA2:=Lib.hid (fun (W:World) (hb:Below w.heap.size w W)=>rat_any W t aA kA an ac kn kc (h.below hb) s.tA s.tn s.tc o.to_ (ho.to_.below hb) (Nat.le_trans ho.tnc ho.tcm))
  have hWi:=Lib.hid (fun (W:World) (hb:Below w.heap.size w W)=>P4.refWithin_any W s.pA s.tA s.pn s.pc s.tn s.tc o.path o.to_ (its4 (ho.path.below hb)) (its4 (ho.to_.below hb)) (Nat.le_trans ho.pnc ho.pcm) (Nat.le_trans ho.tnc ho.tcm))
  have hop:=Lib.hid (fun (W:World) (hb:Below w.heap.size w W)=>ho.below hb)
  have hlen:=Lib.hid ho.path.1
  have hz1:=Lib.hid z1
  have hz2:=Lib.hid z2
  have hz5:=Lib.hid z5
  have hkr:=ho.kind
  have hbg:=Lib.hid hbig
  obtain ⟨o0,o1,o2,o3,o4,o5,o6,o7,o8,o9,o10⟩:=op_cells z2
  have z1u:=z1
  unfold val6 at z1u
  obtain ⟨p0,p1,p2,p3,p4,p5,pf⟩:=six_cells z1u
  clear h ho z1 z1u z2 z5 hbig
  rw [hW2] at o0 o1 o2 o3 o4 o5 o6 o7 o8 o9 o10 p0 p1 p2 p3 p4 p5 pf
  unfold opCells at hF
  unfold val6 at hR hA hA2
  unfold val6 opCells at hW2 o0 o1 o2 o3 o4 o5 o6 o7 o8 o9 o10 p0 p1 p2 p3 p4 p5
  unfold val6 opCells
  have hbx:=Lib.hid (fun (W:World) (hb:Below W2.heap.size W2 W)=>show W.heap[w.heap.size]? = some (.cells (val6 t aA an ac kA kn kc) 33 (0,0))∧W.heap[w.heap.size + 1]? = some (.cells (opCells o s) 26 (0,0)) from ⟨(hb.block _ (by have:=hz5.out;omega)).trans hz1.out,(hb.block _ (by have:=hz5.out;omega)).trans hz2.out⟩)
  have v1:=Lib.hid hr
  clear hr
  go_enter Try.func16,Try.ntmps16
  go_wp2_with (go_at_call 48;go_loud (refine (hR.out _ (by rw [← hW2];exact z4'.out)).mono ?_;rw [← hW2];rintro e w3 ⟨rfl,hb3⟩;rw [v1.out];have B3:=Lib.hid hb3;obtain ⟨r1,r2⟩:=hbx.out w3 hb3;clear o0 o1 o2 o3 o4 o5 o6 o7 o8 o9 o10 p0 p1 p2 p3 p4 p5 pf;obtain ⟨o0,o1,o2,o3,o4,o5,o6,o7,o8,o9,o10⟩:=op_cells r2;unfold val6 at r1;obtain ⟨p0,p1,p2,p3,p4,p5,pf⟩:=six_cells r1;clear hb3 r1 r2))
  go_ret
  exact ⟨rfl,z4'.out.trans (B3.out.mono z4'.out.size)⟩
set_option maxHeartbeats 4000000 in
theorem rv_c1 (w:World) (t:Nd) (aA kA:Option Addr) (an ac kn kc:Nat) (o:Ov) (s:OS) (h:NodeV (Old w) w aA an ac kA kn kc t) (ho:OpIn w o s) (hbig:weighV t≤100000) (hr:rightV ltB t = true) (hf:formedV o = false) :
    Calls Try.prog 16 #[.agg (val6 t aA an ac kA kn kc),.agg (opCells o s)] w fun e w'=>e = .returned (.int .i64 80)∧Below w.heap.size w w':=by
  obtain ⟨W2,hW2⟩:∃ W2,W2 = (w.alloc (.cells (val6 t aA an ac kA kn kc) 33)).alloc (.cells (opCells o s) 26):=⟨_,rfl⟩
  have z1:W2.heap[w.heap.size]? = some (.cells (val6 t aA an ac kA kn kc) 33 (0,0)):=by rw [hW2];exact (Go.heap_alloc_old _ _ (by simp)).trans (heap_alloc_new w _)
  have z2:W2.heap[w.heap.size + 1]? = some (.cells (opCells o s) 26 (0,0)):=by rw [hW2];have h1:=heap_alloc_new (w.alloc (.cells (val6 t aA an ac kA kn kc) 33)) (.cells (opCells o s) 26);rw [World.size_alloc] at h1;exact h1
  have z4':=Lib.hid (show Below w.heap.size w W2 by rw [hW2];exact ((Below.refl _ _).alloc (Nat.le_refl _) _).alloc (by simp) _)
  have z5:W2.heap.size = w.heap.size + 1 + 1:=by rw [hW2];simp
  have hR:=Lib.hid (fun (W:World) (hb:Below w.heap.size w W)=>rRight_any W t aA kA an ac kn kc (h.below hb))
  have hF:=Lib.hid (fun (W:World) (hb:Below w.heap.size w W)=>rformed_any W o s (ho.below hb))
  have hA:=Lib.hid (fun (W:World) (hb:Below w.heap.size w W)=>rat_any W t aA kA an ac kn kc (h.below hb) s.pA s.pn s.pc o.path (ho.path.below hb) (Nat.le_trans ho.pnc ho.pcm))
  have hA2:=Lib.hid (fun (W:World) (hb:Below w.heap.size w W)=>rat_any W t aA kA an ac kn kc (h.below hb) s.tA s.tn s.tc o.to_ (ho.to_.below hb) (Nat.le_trans ho.tnc ho.tcm))
  have hWi:=Lib.hid (fun (W:World) (hb:Below w.heap.size w W)=>P4.refWithin_any W s.pA s.tA s.pn s.pc s.tn s.tc o.path o.to_ (its4 (ho.path.below hb)) (its4 (ho.to_.below hb)) (Nat.le_trans ho.pnc ho.pcm) (Nat.le_trans ho.tnc ho.tcm))
  have hop:=Lib.hid (fun (W:World) (hb:Below w.heap.size w W)=>ho.below hb)
  have hlen:=Lib.hid ho.path.1
  have hz1:=Lib.hid z1
  have hz2:=Lib.hid z2
  have hz5:=Lib.hid z5
  have hkr:=ho.kind
  have hbg:=Lib.hid hbig
  obtain ⟨o0,o1,o2,o3,o4,o5,o6,o7,o8,o9,o10⟩:=op_cells z2
  have z1u:=z1
  unfold val6 at z1u
  obtain ⟨p0,p1,p2,p3,p4,p5,pf⟩:=six_cells z1u
  clear h ho z1 z1u z2 z5 hbig
  rw [hW2] at o0 o1 o2 o3 o4 o5 o6 o7 o8 o9 o10 p0 p1 p2 p3 p4 p5 pf
  unfold opCells at hF
  unfold val6 at hR hA hA2
  unfold val6 opCells at hW2 o0 o1 o2 o3 o4 o5 o6 o7 o8 o9 o10 p0 p1 p2 p3 p4 p5
  unfold val6 opCells
  have hbx:=Lib.hid (fun (W:World) (hb:Below W2.heap.size W2 W)=>show W.heap[w.heap.size]? = some (.cells (val6 t aA an ac kA kn kc) 33 (0,0))∧W.heap[w.heap.size + 1]? = some (.cells (opCells o s) 26 (0,0)) from ⟨(hb.block _ (by have:=hz5.out;omega)).trans hz1.out,(hb.block _ (by have:=hz5.out;omega)).trans hz2.out⟩)
  have v1:=Lib.hid hr
  clear hr
  have v2:=Lib.hid hf
  clear hf
  go_enter Try.func16,Try.ntmps16
  go_wp2_with (first
    | (go_at_call 48;go_loud (refine (hR.out _ (by rw [← hW2];exact z4'.out)).mono ?_;rw [← hW2];rintro e w3 ⟨rfl,hb3⟩;rw [v1.out];have B3:=Lib.hid hb3;obtain ⟨r1,r2⟩:=hbx.out w3 hb3;clear o0 o1 o2 o3 o4 o5 o6 o7 o8 o9 o10 p0 p1 p2 p3 p4 p5 pf;obtain ⟨o0,o1,o2,o3,o4,o5,o6,o7,o8,o9,o10⟩:=op_cells r2;unfold val6 at r1;obtain ⟨p0,p1,p2,p3,p4,p5,pf⟩:=six_cells r1;clear hb3 r1 r2))
    | (go_at_call 12;go_loud (refine (hF.out w3 (z4'.out.trans (B3.out.mono z4'.out.size))).mono ?_;rintro e w4 ⟨rfl,hb4⟩;rw [v2.out];have B4:=Lib.hid (B3.out.trans (hb4.mono B3.out.size));obtain ⟨r1,r2⟩:=hbx.out w4 B4.out;clear o0 o1 o2 o3 o4 o5 o6 o7 o8 o9 o10 p0 p1 p2 p3 p4 p5 pf;obtain ⟨o0,o1,o2,o3,o4,o5,o6,o7,o8,o9,o10⟩:=op_cells r2;unfold val6 at r1;obtain ⟨p0,p1,p2,p3,p4,p5,pf⟩:=six_cells r1;clear hb4 r1 r2)))
  go_ret
  exact ⟨rfl,z4'.out.trans (B4.out.mono z4'.out.size)⟩
set_option maxHeartbeats 4000000 in
theorem rv_c2_2 (w:World) (t:Nd) (aA kA:Option Addr) (an ac kn kc:Nat) (o:Ov) (s:OS) (h:NodeV (Old w) w aA an ac kA kn kc t) (ho:OpIn w o s) (hbig:weighV t≤100000) (hr:rightV ltB t = true) (hf:formedV o = true) (hk:o.kind = 2) (hp:o.path = []) :
    Calls Try.prog 16 #[.agg (val6 t aA an ac kA kn kc),.agg (opCells o s)] w fun e w'=>e = .returned (.int .i64 82)∧Below w.heap.size w w':=by
  obtain ⟨W2,hW2⟩:∃ W2,W2 = (w.alloc (.cells (val6 t aA an ac kA kn kc) 33)).alloc (.cells (opCells o s) 26):=⟨_,rfl⟩
  have z1:W2.heap[w.heap.size]? = some (.cells (val6 t aA an ac kA kn kc) 33 (0,0)):=by rw [hW2];exact (Go.heap_alloc_old _ _ (by simp)).trans (heap_alloc_new w _)
  have z2:W2.heap[w.heap.size + 1]? = some (.cells (opCells o s) 26 (0,0)):=by rw [hW2];have h1:=heap_alloc_new (w.alloc (.cells (val6 t aA an ac kA kn kc) 33)) (.cells (opCells o s) 26);rw [World.size_alloc] at h1;exact h1
  have z4':=Lib.hid (show Below w.heap.size w W2 by rw [hW2];exact ((Below.refl _ _).alloc (Nat.le_refl _) _).alloc (by simp) _)
  have z5:W2.heap.size = w.heap.size + 1 + 1:=by rw [hW2];simp
  have hR:=Lib.hid (fun (W:World) (hb:Below w.heap.size w W)=>rRight_any W t aA kA an ac kn kc (h.below hb))
  have hF:=Lib.hid (fun (W:World) (hb:Below w.heap.size w W)=>rformed_any W o s (ho.below hb))
  have hA:=Lib.hid (fun (W:World) (hb:Below w.heap.size w W)=>rat_any W t aA kA an ac kn kc (h.below hb) s.pA s.pn s.pc o.path (ho.path.below hb) (Nat.le_trans ho.pnc ho.pcm))
  have hA2:=Lib.hid (fun (W:World) (hb:Below w.heap.size w W)=>rat_any W t aA kA an ac kn kc (h.below hb) s.tA s.tn s.tc o.to_ (ho.to_.below hb) (Nat.le_trans ho.tnc ho.tcm))
  have hWi:=Lib.hid (fun (W:World) (hb:Below w.heap.size w W)=>P4.refWithin_any W s.pA s.tA s.pn s.pc s.tn s.tc o.path o.to_ (its4 (ho.path.below hb)) (its4 (ho.to_.below hb)) (Nat.le_trans ho.pnc ho.pcm) (Nat.le_trans ho.tnc ho.tcm))
  have hop:=Lib.hid (fun (W:World) (hb:Below w.heap.size w W)=>ho.below hb)
  have hlen:=Lib.hid ho.path.1
  have hz1:=Lib.hid z1
  have hz2:=Lib.hid z2
  have hz5:=Lib.hid z5
  have hkr:=ho.kind
  have hbg:=Lib.hid hbig
  obtain ⟨o0,o1,o2,o3,o4,o5,o6,o7,o8,o9,o10⟩:=op_cells z2
  have z1u:=z1
  unfold val6 at z1u
  obtain ⟨p0,p1,p2,p3,p4,p5,pf⟩:=six_cells z1u
  clear h ho z1 z1u z2 z5 hbig
  rw [hW2] at o0 o1 o2 o3 o4 o5 o6 o7 o8 o9 o10 p0 p1 p2 p3 p4 p5 pf
  unfold opCells at hF
  unfold val6 at hR hA hA2
  unfold val6 opCells at hW2 o0 o1 o2 o3 o4 o5 o6 o7 o8 o9 o10 p0 p1 p2 p3 p4 p5
  unfold val6 opCells
  have hbx:=Lib.hid (fun (W:World) (hb:Below W2.heap.size W2 W)=>show W.heap[w.heap.size]? = some (.cells (val6 t aA an ac kA kn kc) 33 (0,0))∧W.heap[w.heap.size + 1]? = some (.cells (opCells o s) 26 (0,0)) from ⟨(hb.block _ (by have:=hz5.out;omega)).trans hz1.out,(hb.block _ (by have:=hz5.out;omega)).trans hz2.out⟩)
  have v1:=Lib.hid hr
  clear hr
  have v2:=Lib.hid hf
  clear hf
  have b1:((o.kind:Int) == 1) = false:=by simp;omega
  have b2:((o.kind:Int) == 2) = true:=by simp;omega
  have b3:((o.kind:Int) == 3) = false:=by simp;omega
  have b6:((o.kind:Int) == 6) = false:=by simp;omega
  have hn:s.pn = 0:=by rw [← hlen.out,hp];rfl
  have hn1:((s.pn:Int) == 0) = true:=by simp;omega
  clear hn hk hp hkr
  go_enter Try.func16,Try.ntmps16
  go_wp2_with (first
    | (go_at_call 48;go_loud (refine (hR.out _ (by rw [← hW2];exact z4'.out)).mono ?_;rw [← hW2];rintro e w3 ⟨rfl,hb3⟩;rw [v1.out];have B3:=Lib.hid hb3;obtain ⟨r1,r2⟩:=hbx.out w3 hb3;clear o0 o1 o2 o3 o4 o5 o6 o7 o8 o9 o10 p0 p1 p2 p3 p4 p5 pf;obtain ⟨o0,o1,o2,o3,o4,o5,o6,o7,o8,o9,o10⟩:=op_cells r2;unfold val6 at r1;obtain ⟨p0,p1,p2,p3,p4,p5,pf⟩:=six_cells r1;clear hb3 r1 r2))
    | (go_at_call 12;go_loud (refine (hF.out w3 (z4'.out.trans (B3.out.mono z4'.out.size))).mono ?_;rintro e w4 ⟨rfl,hb4⟩;rw [v2.out];have B4:=Lib.hid (B3.out.trans (hb4.mono B3.out.size));obtain ⟨r1,r2⟩:=hbx.out w4 B4.out;clear o0 o1 o2 o3 o4 o5 o6 o7 o8 o9 o10 p0 p1 p2 p3 p4 p5 pf;obtain ⟨o0,o1,o2,o3,o4,o5,o6,o7,o8,o9,o10⟩:=op_cells r2;unfold val6 at r1;obtain ⟨p0,p1,p2,p3,p4,p5,pf⟩:=six_cells r1;clear hb4 r1 r2)))
  go_ret
  exact ⟨rfl,z4'.out.trans (B4.out.mono z4'.out.size)⟩
set_option maxHeartbeats 4000000 in
theorem rv_c2_3 (w:World) (t:Nd) (aA kA:Option Addr) (an ac kn kc:Nat) (o:Ov) (s:OS) (h:NodeV (Old w) w aA an ac kA kn kc t) (ho:OpIn w o s) (hbig:weighV t≤100000) (hr:rightV ltB t = true) (hf:formedV o = true) (hk:o.kind = 3) (hp:o.path = []) :
    Calls Try.prog 16 #[.agg (val6 t aA an ac kA kn kc),.agg (opCells o s)] w fun e w'=>e = .returned (.int .i64 82)∧Below w.heap.size w w':=by
  obtain ⟨W2,hW2⟩:∃ W2,W2 = (w.alloc (.cells (val6 t aA an ac kA kn kc) 33)).alloc (.cells (opCells o s) 26):=⟨_,rfl⟩
  have z1:W2.heap[w.heap.size]? = some (.cells (val6 t aA an ac kA kn kc) 33 (0,0)):=by rw [hW2];exact (Go.heap_alloc_old _ _ (by simp)).trans (heap_alloc_new w _)
  have z2:W2.heap[w.heap.size + 1]? = some (.cells (opCells o s) 26 (0,0)):=by rw [hW2];have h1:=heap_alloc_new (w.alloc (.cells (val6 t aA an ac kA kn kc) 33)) (.cells (opCells o s) 26);rw [World.size_alloc] at h1;exact h1
  have z4':=Lib.hid (show Below w.heap.size w W2 by rw [hW2];exact ((Below.refl _ _).alloc (Nat.le_refl _) _).alloc (by simp) _)
  have z5:W2.heap.size = w.heap.size + 1 + 1:=by rw [hW2];simp
  have hR:=Lib.hid (fun (W:World) (hb:Below w.heap.size w W)=>rRight_any W t aA kA an ac kn kc (h.below hb))
  have hF:=Lib.hid (fun (W:World) (hb:Below w.heap.size w W)=>rformed_any W o s (ho.below hb))
  have hA:=Lib.hid (fun (W:World) (hb:Below w.heap.size w W)=>rat_any W t aA kA an ac kn kc (h.below hb) s.pA s.pn s.pc o.path (ho.path.below hb) (Nat.le_trans ho.pnc ho.pcm))
  have hA2:=Lib.hid (fun (W:World) (hb:Below w.heap.size w W)=>rat_any W t aA kA an ac kn kc (h.below hb) s.tA s.tn s.tc o.to_ (ho.to_.below hb) (Nat.le_trans ho.tnc ho.tcm))
  have hWi:=Lib.hid (fun (W:World) (hb:Below w.heap.size w W)=>P4.refWithin_any W s.pA s.tA s.pn s.pc s.tn s.tc o.path o.to_ (its4 (ho.path.below hb)) (its4 (ho.to_.below hb)) (Nat.le_trans ho.pnc ho.pcm) (Nat.le_trans ho.tnc ho.tcm))
  have hop:=Lib.hid (fun (W:World) (hb:Below w.heap.size w W)=>ho.below hb)
  have hlen:=Lib.hid ho.path.1
  have hz1:=Lib.hid z1
  have hz2:=Lib.hid z2
  have hz5:=Lib.hid z5
  have hkr:=ho.kind
  have hbg:=Lib.hid hbig
  obtain ⟨o0,o1,o2,o3,o4,o5,o6,o7,o8,o9,o10⟩:=op_cells z2
  have z1u:=z1
  unfold val6 at z1u
  obtain ⟨p0,p1,p2,p3,p4,p5,pf⟩:=six_cells z1u
  clear h ho z1 z1u z2 z5 hbig
  rw [hW2] at o0 o1 o2 o3 o4 o5 o6 o7 o8 o9 o10 p0 p1 p2 p3 p4 p5 pf
  unfold opCells at hF
  unfold val6 at hR hA hA2
  unfold val6 opCells at hW2 o0 o1 o2 o3 o4 o5 o6 o7 o8 o9 o10 p0 p1 p2 p3 p4 p5
  unfold val6 opCells
  have hbx:=Lib.hid (fun (W:World) (hb:Below W2.heap.size W2 W)=>show W.heap[w.heap.size]? = some (.cells (val6 t aA an ac kA kn kc) 33 (0,0))∧W.heap[w.heap.size + 1]? = some (.cells (opCells o s) 26 (0,0)) from ⟨(hb.block _ (by have:=hz5.out;omega)).trans hz1.out,(hb.block _ (by have:=hz5.out;omega)).trans hz2.out⟩)
  have v1:=Lib.hid hr
  clear hr
  have v2:=Lib.hid hf
  clear hf
  have b1:((o.kind:Int) == 1) = false:=by simp;omega
  have b2:((o.kind:Int) == 2) = false:=by simp;omega
  have b3:((o.kind:Int) == 3) = true:=by simp;omega
  have b6:((o.kind:Int) == 6) = false:=by simp;omega
  have hn:s.pn = 0:=by rw [← hlen.out,hp];rfl
  have hn1:((s.pn:Int) == 0) = true:=by simp;omega
  clear hn hk hp hkr
  go_enter Try.func16,Try.ntmps16
  go_wp2_with (first
    | (go_at_call 48;go_loud (refine (hR.out _ (by rw [← hW2];exact z4'.out)).mono ?_;rw [← hW2];rintro e w3 ⟨rfl,hb3⟩;rw [v1.out];have B3:=Lib.hid hb3;obtain ⟨r1,r2⟩:=hbx.out w3 hb3;clear o0 o1 o2 o3 o4 o5 o6 o7 o8 o9 o10 p0 p1 p2 p3 p4 p5 pf;obtain ⟨o0,o1,o2,o3,o4,o5,o6,o7,o8,o9,o10⟩:=op_cells r2;unfold val6 at r1;obtain ⟨p0,p1,p2,p3,p4,p5,pf⟩:=six_cells r1;clear hb3 r1 r2))
    | (go_at_call 12;go_loud (refine (hF.out w3 (z4'.out.trans (B3.out.mono z4'.out.size))).mono ?_;rintro e w4 ⟨rfl,hb4⟩;rw [v2.out];have B4:=Lib.hid (B3.out.trans (hb4.mono B3.out.size));obtain ⟨r1,r2⟩:=hbx.out w4 B4.out;clear o0 o1 o2 o3 o4 o5 o6 o7 o8 o9 o10 p0 p1 p2 p3 p4 p5 pf;obtain ⟨o0,o1,o2,o3,o4,o5,o6,o7,o8,o9,o10⟩:=op_cells r2;unfold val6 at r1;obtain ⟨p0,p1,p2,p3,p4,p5,pf⟩:=six_cells r1;clear hb4 r1 r2)))
  go_ret
  exact ⟨rfl,z4'.out.trans (B4.out.mono z4'.out.size)⟩
set_option maxHeartbeats 4000000 in
theorem rv_n2 (w:World) (t:Nd) (aA kA:Option Addr) (an ac kn kc:Nat) (o:Ov) (s:OS) (h:NodeV (Old w) w aA an ac kA kn kc t) (ho:OpIn w o s) (hbig:weighV t≤100000) (hr:rightV ltB t = true) (hf:formedV o = true) (hk:o.kind = 2) (hp:o.path ≠ []) (hx:atV t o.path = none) :
    Calls Try.prog 16 #[.agg (val6 t aA an ac kA kn kc),.agg (opCells o s)] w fun e w'=>e = .returned (.int .i64 81)∧Below w.heap.size w w':=by
  obtain ⟨W2,hW2⟩:∃ W2,W2 = (w.alloc (.cells (val6 t aA an ac kA kn kc) 33)).alloc (.cells (opCells o s) 26):=⟨_,rfl⟩
  have z1:W2.heap[w.heap.size]? = some (.cells (val6 t aA an ac kA kn kc) 33 (0,0)):=by rw [hW2];exact (Go.heap_alloc_old _ _ (by simp)).trans (heap_alloc_new w _)
  have z2:W2.heap[w.heap.size + 1]? = some (.cells (opCells o s) 26 (0,0)):=by rw [hW2];have h1:=heap_alloc_new (w.alloc (.cells (val6 t aA an ac kA kn kc) 33)) (.cells (opCells o s) 26);rw [World.size_alloc] at h1;exact h1
  have z4':=Lib.hid (show Below w.heap.size w W2 by rw [hW2];exact ((Below.refl _ _).alloc (Nat.le_refl _) _).alloc (by simp) _)
  have z5:W2.heap.size = w.heap.size + 1 + 1:=by rw [hW2];simp
  have hR:=Lib.hid (fun (W:World) (hb:Below w.heap.size w W)=>rRight_any W t aA kA an ac kn kc (h.below hb))
  have hF:=Lib.hid (fun (W:World) (hb:Below w.heap.size w W)=>rformed_any W o s (ho.below hb))
  have hA:=Lib.hid (fun (W:World) (hb:Below w.heap.size w W)=>rat_any W t aA kA an ac kn kc (h.below hb) s.pA s.pn s.pc o.path (ho.path.below hb) (Nat.le_trans ho.pnc ho.pcm))
  have hA2:=Lib.hid (fun (W:World) (hb:Below w.heap.size w W)=>rat_any W t aA kA an ac kn kc (h.below hb) s.tA s.tn s.tc o.to_ (ho.to_.below hb) (Nat.le_trans ho.tnc ho.tcm))
  have hWi:=Lib.hid (fun (W:World) (hb:Below w.heap.size w W)=>P4.refWithin_any W s.pA s.tA s.pn s.pc s.tn s.tc o.path o.to_ (its4 (ho.path.below hb)) (its4 (ho.to_.below hb)) (Nat.le_trans ho.pnc ho.pcm) (Nat.le_trans ho.tnc ho.tcm))
  have hop:=Lib.hid (fun (W:World) (hb:Below w.heap.size w W)=>ho.below hb)
  have hlen:=Lib.hid ho.path.1
  have hz1:=Lib.hid z1
  have hz2:=Lib.hid z2
  have hz5:=Lib.hid z5
  have hkr:=ho.kind
  have hbg:=Lib.hid hbig
  obtain ⟨o0,o1,o2,o3,o4,o5,o6,o7,o8,o9,o10⟩:=op_cells z2
  have z1u:=z1
  unfold val6 at z1u
  obtain ⟨p0,p1,p2,p3,p4,p5,pf⟩:=six_cells z1u
  clear h ho z1 z1u z2 z5 hbig
  rw [hW2] at o0 o1 o2 o3 o4 o5 o6 o7 o8 o9 o10 p0 p1 p2 p3 p4 p5 pf
  unfold opCells at hF
  unfold val6 at hR hA hA2
  unfold val6 opCells at hW2 o0 o1 o2 o3 o4 o5 o6 o7 o8 o9 o10 p0 p1 p2 p3 p4 p5
  unfold val6 opCells
  have hbx:=Lib.hid (fun (W:World) (hb:Below W2.heap.size W2 W)=>show W.heap[w.heap.size]? = some (.cells (val6 t aA an ac kA kn kc) 33 (0,0))∧W.heap[w.heap.size + 1]? = some (.cells (opCells o s) 26 (0,0)) from ⟨(hb.block _ (by have:=hz5.out;omega)).trans hz1.out,(hb.block _ (by have:=hz5.out;omega)).trans hz2.out⟩)
  have v1:=Lib.hid hr
  clear hr
  have v2:=Lib.hid hf
  clear hf
  have v3:=Lib.hid hx
  clear hx
  have b1:((o.kind:Int) == 1) = false:=by simp;omega
  have b2:((o.kind:Int) == 2) = true:=by simp;omega
  have b3:((o.kind:Int) == 3) = false:=by simp;omega
  have b6:((o.kind:Int) == 6) = false:=by simp;omega
  have hn1:((s.pn:Int) == 0) = false:=by have:=hlen.out;have:o.path.length ≠ 0:=fun e=>hp (List.eq_nil_of_length_eq_zero e);simp;omega
  clear hk hp hkr
  go_enter Try.func16,Try.ntmps16
  go_wp2_with (first
    | (go_at_call 48;go_loud (refine (hR.out _ (by rw [← hW2];exact z4'.out)).mono ?_;rw [← hW2];rintro e w3 ⟨rfl,hb3⟩;rw [v1.out];have B3:=Lib.hid hb3;obtain ⟨r1,r2⟩:=hbx.out w3 hb3;clear o0 o1 o2 o3 o4 o5 o6 o7 o8 o9 o10 p0 p1 p2 p3 p4 p5 pf;obtain ⟨o0,o1,o2,o3,o4,o5,o6,o7,o8,o9,o10⟩:=op_cells r2;unfold val6 at r1;obtain ⟨p0,p1,p2,p3,p4,p5,pf⟩:=six_cells r1;clear hb3 r1 r2))
    | (go_at_call 12;go_loud (refine (hF.out w3 (z4'.out.trans (B3.out.mono z4'.out.size))).mono ?_;rintro e w4 ⟨rfl,hb4⟩;rw [v2.out];have B4:=Lib.hid (B3.out.trans (hb4.mono B3.out.size));obtain ⟨r1,r2⟩:=hbx.out w4 B4.out;clear o0 o1 o2 o3 o4 o5 o6 o7 o8 o9 o10 p0 p1 p2 p3 p4 p5 pf;obtain ⟨o0,o1,o2,o3,o4,o5,o6,o7,o8,o9,o10⟩:=op_cells r2;unfold val6 at r1;obtain ⟨p0,p1,p2,p3,p4,p5,pf⟩:=six_cells r1;clear hb4 r1 r2))
    | (go_at_call 49;go_loud (refine (hA.out w4 (z4'.out.trans (B4.out.mono z4'.out.size))).mono ?_;rintro e w5 ⟨xA,xn,xc,xK,xm,xd,rfl,hx5,hb5⟩;rw [v3.out] at hx5 ⊢;have B5:=Lib.hid (B4.out.trans (hb5.mono B4.out.size));obtain ⟨r1,r2⟩:=hbx.out w5 B5.out;have hs5:w.heap.size + 1 < w5.heap.size:=(by have:=B5.out.size;have:=hz5.out;omega);have hs6:w.heap.size < w5.heap.size:=(by omega);have hq1:w5.heap.size ≠ w.heap.size:=(by omega);have hq2:w5.heap.size ≠ w.heap.size + 1:=(by omega);clear o0 o1 o2 o3 o4 o5 o6 o7 o8 o9 o10 p0 p1 p2 p3 p4 p5 pf;obtain ⟨o0,o1,o2,o3,o4,o5,o6,o7,o8,o9,o10⟩:=op_cells r2;unfold val6 at r1;obtain ⟨p0,p1,p2,p3,p4,p5,pf⟩:=six_cells r1;have uu:=fun O j v (h:w5.cell? ⟨w.heap.size + 1,j,none⟩ = some v)=>(World.cell?_alloc_lt w5 O ⟨w.heap.size + 1,j,none⟩ hs5).trans h;have u0:=fun O=>uu O 0 _ o0;have u1:=fun O=>uu O 1 _ o1;have u2:=fun O=>uu O 2 _ o2;have u3:=fun O=>uu O 3 _ o3;have u10:=fun O=>uu O 10 _ o10;have vv:=fun O j v (h:w5.cell? ⟨w.heap.size,j,none⟩ = some v)=>(World.cell?_alloc_lt w5 O ⟨w.heap.size,j,none⟩ hs6).trans h;have v0':=fun O=>vv O 0 _ p0;have v1':=fun O=>vv O 1 _ p1;have v2':=fun O=>vv O 2 _ p2;have v3':=fun O=>vv O 3 _ p3;have v4':=fun O=>vv O 4 _ p4;have v5':=fun O=>vv O 5 _ p5;have hkl:=hx5.facts.kl;have hkl':=Lib.hid hkl;clear uu vv hb5 r1 r2 hx5 hkl;unfold val6)))
  go_ret
  exact ⟨rfl,(z4'.out.trans (B5.out.mono z4'.out.size)).alloc (by omega) _⟩
set_option maxHeartbeats 4000000 in
theorem rv_n3 (w:World) (t:Nd) (aA kA:Option Addr) (an ac kn kc:Nat) (o:Ov) (s:OS) (h:NodeV (Old w) w aA an ac kA kn kc t) (ho:OpIn w o s) (hbig:weighV t≤100000) (hr:rightV ltB t = true) (hf:formedV o = true) (hk:o.kind = 3) (hp:o.path ≠ []) (hx:atV t o.path = none) :
    Calls Try.prog 16 #[.agg (val6 t aA an ac kA kn kc),.agg (opCells o s)] w fun e w'=>e = .returned (.int .i64 81)∧Below w.heap.size w w':=by
  obtain ⟨W2,hW2⟩:∃ W2,W2 = (w.alloc (.cells (val6 t aA an ac kA kn kc) 33)).alloc (.cells (opCells o s) 26):=⟨_,rfl⟩
  have z1:W2.heap[w.heap.size]? = some (.cells (val6 t aA an ac kA kn kc) 33 (0,0)):=by rw [hW2];exact (Go.heap_alloc_old _ _ (by simp)).trans (heap_alloc_new w _)
  have z2:W2.heap[w.heap.size + 1]? = some (.cells (opCells o s) 26 (0,0)):=by rw [hW2];have h1:=heap_alloc_new (w.alloc (.cells (val6 t aA an ac kA kn kc) 33)) (.cells (opCells o s) 26);rw [World.size_alloc] at h1;exact h1
  have z4':=Lib.hid (show Below w.heap.size w W2 by rw [hW2];exact ((Below.refl _ _).alloc (Nat.le_refl _) _).alloc (by simp) _)
  have z5:W2.heap.size = w.heap.size + 1 + 1:=by rw [hW2];simp
  have hR:=Lib.hid (fun (W:World) (hb:Below w.heap.size w W)=>rRight_any W t aA kA an ac kn kc (h.below hb))
  have hF:=Lib.hid (fun (W:World) (hb:Below w.heap.size w W)=>rformed_any W o s (ho.below hb))
  have hA:=Lib.hid (fun (W:World) (hb:Below w.heap.size w W)=>rat_any W t aA kA an ac kn kc (h.below hb) s.pA s.pn s.pc o.path (ho.path.below hb) (Nat.le_trans ho.pnc ho.pcm))
  have hA2:=Lib.hid (fun (W:World) (hb:Below w.heap.size w W)=>rat_any W t aA kA an ac kn kc (h.below hb) s.tA s.tn s.tc o.to_ (ho.to_.below hb) (Nat.le_trans ho.tnc ho.tcm))
  have hWi:=Lib.hid (fun (W:World) (hb:Below w.heap.size w W)=>P4.refWithin_any W s.pA s.tA s.pn s.pc s.tn s.tc o.path o.to_ (its4 (ho.path.below hb)) (its4 (ho.to_.below hb)) (Nat.le_trans ho.pnc ho.pcm) (Nat.le_trans ho.tnc ho.tcm))
  have hop:=Lib.hid (fun (W:World) (hb:Below w.heap.size w W)=>ho.below hb)
  have hlen:=Lib.hid ho.path.1
  have hz1:=Lib.hid z1
  have hz2:=Lib.hid z2
  have hz5:=Lib.hid z5
  have hkr:=ho.kind
  have hbg:=Lib.hid hbig
  obtain ⟨o0,o1,o2,o3,o4,o5,o6,o7,o8,o9,o10⟩:=op_cells z2
  have z1u:=z1
  unfold val6 at z1u
  obtain ⟨p0,p1,p2,p3,p4,p5,pf⟩:=six_cells z1u
  clear h ho z1 z1u z2 z5 hbig
  rw [hW2] at o0 o1 o2 o3 o4 o5 o6 o7 o8 o9 o10 p0 p1 p2 p3 p4 p5 pf
  unfold opCells at hF
  unfold val6 at hR hA hA2
  unfold val6 opCells at hW2 o0 o1 o2 o3 o4 o5 o6 o7 o8 o9 o10 p0 p1 p2 p3 p4 p5
  unfold val6 opCells
  have hbx:=Lib.hid (fun (W:World) (hb:Below W2.heap.size W2 W)=>show W.heap[w.heap.size]? = some (.cells (val6 t aA an ac kA kn kc) 33 (0,0))∧W.heap[w.heap.size + 1]? = some (.cells (opCells o s) 26 (0,0)) from ⟨(hb.block _ (by have:=hz5.out;omega)).trans hz1.out,(hb.block _ (by have:=hz5.out;omega)).trans hz2.out⟩)
  have v1:=Lib.hid hr
  clear hr
  have v2:=Lib.hid hf
  clear hf
  have v3:=Lib.hid hx
  clear hx
  have b1:((o.kind:Int) == 1) = false:=by simp;omega
  have b2:((o.kind:Int) == 2) = false:=by simp;omega
  have b3:((o.kind:Int) == 3) = true:=by simp;omega
  have b6:((o.kind:Int) == 6) = false:=by simp;omega
  have hn1:((s.pn:Int) == 0) = false:=by have:=hlen.out;have:o.path.length ≠ 0:=fun e=>hp (List.eq_nil_of_length_eq_zero e);simp;omega
  clear hk hp hkr
  go_enter Try.func16,Try.ntmps16
  go_wp2_with (first
    | (go_at_call 48;go_loud (refine (hR.out _ (by rw [← hW2];exact z4'.out)).mono ?_;rw [← hW2];rintro e w3 ⟨rfl,hb3⟩;rw [v1.out];have B3:=Lib.hid hb3;obtain ⟨r1,r2⟩:=hbx.out w3 hb3;clear o0 o1 o2 o3 o4 o5 o6 o7 o8 o9 o10 p0 p1 p2 p3 p4 p5 pf;obtain ⟨o0,o1,o2,o3,o4,o5,o6,o7,o8,o9,o10⟩:=op_cells r2;unfold val6 at r1;obtain ⟨p0,p1,p2,p3,p4,p5,pf⟩:=six_cells r1;clear hb3 r1 r2))
    | (go_at_call 12;go_loud (refine (hF.out w3 (z4'.out.trans (B3.out.mono z4'.out.size))).mono ?_;rintro e w4 ⟨rfl,hb4⟩;rw [v2.out];have B4:=Lib.hid (B3.out.trans (hb4.mono B3.out.size));obtain ⟨r1,r2⟩:=hbx.out w4 B4.out;clear o0 o1 o2 o3 o4 o5 o6 o7 o8 o9 o10 p0 p1 p2 p3 p4 p5 pf;obtain ⟨o0,o1,o2,o3,o4,o5,o6,o7,o8,o9,o10⟩:=op_cells r2;unfold val6 at r1;obtain ⟨p0,p1,p2,p3,p4,p5,pf⟩:=six_cells r1;clear hb4 r1 r2))
    | (go_at_call 49;go_loud (refine (hA.out w4 (z4'.out.trans (B4.out.mono z4'.out.size))).mono ?_;rintro e w5 ⟨xA,xn,xc,xK,xm,xd,rfl,hx5,hb5⟩;rw [v3.out] at hx5 ⊢;have B5:=Lib.hid (B4.out.trans (hb5.mono B4.out.size));obtain ⟨r1,r2⟩:=hbx.out w5 B5.out;have hs5:w.heap.size + 1 < w5.heap.size:=(by have:=B5.out.size;have:=hz5.out;omega);have hs6:w.heap.size < w5.heap.size:=(by omega);have hq1:w5.heap.size ≠ w.heap.size:=(by omega);have hq2:w5.heap.size ≠ w.heap.size + 1:=(by omega);clear o0 o1 o2 o3 o4 o5 o6 o7 o8 o9 o10 p0 p1 p2 p3 p4 p5 pf;obtain ⟨o0,o1,o2,o3,o4,o5,o6,o7,o8,o9,o10⟩:=op_cells r2;unfold val6 at r1;obtain ⟨p0,p1,p2,p3,p4,p5,pf⟩:=six_cells r1;have uu:=fun O j v (h:w5.cell? ⟨w.heap.size + 1,j,none⟩ = some v)=>(World.cell?_alloc_lt w5 O ⟨w.heap.size + 1,j,none⟩ hs5).trans h;have u0:=fun O=>uu O 0 _ o0;have u1:=fun O=>uu O 1 _ o1;have u2:=fun O=>uu O 2 _ o2;have u3:=fun O=>uu O 3 _ o3;have u10:=fun O=>uu O 10 _ o10;have vv:=fun O j v (h:w5.cell? ⟨w.heap.size,j,none⟩ = some v)=>(World.cell?_alloc_lt w5 O ⟨w.heap.size,j,none⟩ hs6).trans h;have v0':=fun O=>vv O 0 _ p0;have v1':=fun O=>vv O 1 _ p1;have v2':=fun O=>vv O 2 _ p2;have v3':=fun O=>vv O 3 _ p3;have v4':=fun O=>vv O 4 _ p4;have v5':=fun O=>vv O 5 _ p5;have hkl:=hx5.facts.kl;have hkl':=Lib.hid hkl;clear uu vv hb5 r1 r2 hx5 hkl;unfold val6)))
  go_ret
  exact ⟨rfl,(z4'.out.trans (B5.out.mono z4'.out.size)).alloc (by omega) _⟩
set_option maxHeartbeats 4000000 in
theorem rv_no (w:World) (t:Nd) (aA kA:Option Addr) (an ac kn kc:Nat) (o:Ov) (s:OS) (h:NodeV (Old w) w aA an ac kA kn kc t) (ho:OpIn w o s) (hbig:weighV t≤100000) (hr:rightV ltB t = true) (hf:formedV o = true) (hk2:o.kind ≠ 2) (hk3:o.kind ≠ 3) (hx:atV t o.path = none) :
    Calls Try.prog 16 #[.agg (val6 t aA an ac kA kn kc),.agg (opCells o s)] w fun e w'=>e = .returned (.int .i64 81)∧Below w.heap.size w w':=by
  obtain ⟨W2,hW2⟩:∃ W2,W2 = (w.alloc (.cells (val6 t aA an ac kA kn kc) 33)).alloc (.cells (opCells o s) 26):=⟨_,rfl⟩
  have z1:W2.heap[w.heap.size]? = some (.cells (val6 t aA an ac kA kn kc) 33 (0,0)):=by rw [hW2];exact (Go.heap_alloc_old _ _ (by simp)).trans (heap_alloc_new w _)
  have z2:W2.heap[w.heap.size + 1]? = some (.cells (opCells o s) 26 (0,0)):=by rw [hW2];have h1:=heap_alloc_new (w.alloc (.cells (val6 t aA an ac kA kn kc) 33)) (.cells (opCells o s) 26);rw [World.size_alloc] at h1;exact h1
  have z4':=Lib.hid (show Below w.heap.size w W2 by rw [hW2];exact ((Below.refl _ _).alloc (Nat.le_refl _) _).alloc (by simp) _)
  have z5:W2.heap.size = w.heap.size + 1 + 1:=by rw [hW2];simp
  have hR:=Lib.hid (fun (W:World) (hb:Below w.heap.size w W)=>rRight_any W t aA kA an ac kn kc (h.below hb))
  have hF:=Lib.hid (fun (W:World) (hb:Below w.heap.size w W)=>rformed_any W o s (ho.below hb))
  have hA:=Lib.hid (fun (W:World) (hb:Below w.heap.size w W)=>rat_any W t aA kA an ac kn kc (h.below hb) s.pA s.pn s.pc o.path (ho.path.below hb) (Nat.le_trans ho.pnc ho.pcm))
  have hA2:=Lib.hid (fun (W:World) (hb:Below w.heap.size w W)=>rat_any W t aA kA an ac kn kc (h.below hb) s.tA s.tn s.tc o.to_ (ho.to_.below hb) (Nat.le_trans ho.tnc ho.tcm))
  have hWi:=Lib.hid (fun (W:World) (hb:Below w.heap.size w W)=>P4.refWithin_any W s.pA s.tA s.pn s.pc s.tn s.tc o.path o.to_ (its4 (ho.path.below hb)) (its4 (ho.to_.below hb)) (Nat.le_trans ho.pnc ho.pcm) (Nat.le_trans ho.tnc ho.tcm))
  have hop:=Lib.hid (fun (W:World) (hb:Below w.heap.size w W)=>ho.below hb)
  have hlen:=Lib.hid ho.path.1
  have hz1:=Lib.hid z1
  have hz2:=Lib.hid z2
  have hz5:=Lib.hid z5
  have hkr:=ho.kind
  have hbg:=Lib.hid hbig
  obtain ⟨o0,o1,o2,o3,o4,o5,o6,o7,o8,o9,o10⟩:=op_cells z2
  have z1u:=z1
  unfold val6 at z1u
  obtain ⟨p0,p1,p2,p3,p4,p5,pf⟩:=six_cells z1u
  clear h ho z1 z1u z2 z5 hbig
  rw [hW2] at o0 o1 o2 o3 o4 o5 o6 o7 o8 o9 o10 p0 p1 p2 p3 p4 p5 pf
  unfold opCells at hF
  unfold val6 at hR hA hA2
  unfold val6 opCells at hW2 o0 o1 o2 o3 o4 o5 o6 o7 o8 o9 o10 p0 p1 p2 p3 p4 p5
  unfold val6 opCells
  have hbx:=Lib.hid (fun (W:World) (hb:Below W2.heap.size W2 W)=>show W.heap[w.heap.size]? = some (.cells (val6 t aA an ac kA kn kc) 33 (0,0))∧W.heap[w.heap.size + 1]? = some (.cells (opCells o s) 26 (0,0)) from ⟨(hb.block _ (by have:=hz5.out;omega)).trans hz1.out,(hb.block _ (by have:=hz5.out;omega)).trans hz2.out⟩)
  have v1:=Lib.hid hr
  clear hr
  have v2:=Lib.hid hf
  clear hf
  have v3:=Lib.hid hx
  clear hx
  have b2:((o.kind:Int) == 2) = false:=by simp;omega
  have b3:((o.kind:Int) == 3) = false:=by simp;omega
  clear hk2 hk3 hkr
  go_enter Try.func16,Try.ntmps16
  go_wp2_with (first
    | (go_at_call 48;go_loud (refine (hR.out _ (by rw [← hW2];exact z4'.out)).mono ?_;rw [← hW2];rintro e w3 ⟨rfl,hb3⟩;rw [v1.out];have B3:=Lib.hid hb3;obtain ⟨r1,r2⟩:=hbx.out w3 hb3;clear o0 o1 o2 o3 o4 o5 o6 o7 o8 o9 o10 p0 p1 p2 p3 p4 p5 pf;obtain ⟨o0,o1,o2,o3,o4,o5,o6,o7,o8,o9,o10⟩:=op_cells r2;unfold val6 at r1;obtain ⟨p0,p1,p2,p3,p4,p5,pf⟩:=six_cells r1;clear hb3 r1 r2))
    | (go_at_call 12;go_loud (refine (hF.out w3 (z4'.out.trans (B3.out.mono z4'.out.size))).mono ?_;rintro e w4 ⟨rfl,hb4⟩;rw [v2.out];have B4:=Lib.hid (B3.out.trans (hb4.mono B3.out.size));obtain ⟨r1,r2⟩:=hbx.out w4 B4.out;clear o0 o1 o2 o3 o4 o5 o6 o7 o8 o9 o10 p0 p1 p2 p3 p4 p5 pf;obtain ⟨o0,o1,o2,o3,o4,o5,o6,o7,o8,o9,o10⟩:=op_cells r2;unfold val6 at r1;obtain ⟨p0,p1,p2,p3,p4,p5,pf⟩:=six_cells r1;clear hb4 r1 r2))
    | (go_at_call 49;go_loud (refine (hA.out w4 (z4'.out.trans (B4.out.mono z4'.out.size))).mono ?_;rintro e w5 ⟨xA,xn,xc,xK,xm,xd,rfl,hx5,hb5⟩;rw [v3.out] at hx5 ⊢;have B5:=Lib.hid (B4.out.trans (hb5.mono B4.out.size));obtain ⟨r1,r2⟩:=hbx.out w5 B5.out;have hs5:w.heap.size + 1 < w5.heap.size:=(by have:=B5.out.size;have:=hz5.out;omega);have hs6:w.heap.size < w5.heap.size:=(by omega);have hq1:w5.heap.size ≠ w.heap.size:=(by omega);have hq2:w5.heap.size ≠ w.heap.size + 1:=(by omega);clear o0 o1 o2 o3 o4 o5 o6 o7 o8 o9 o10 p0 p1 p2 p3 p4 p5 pf;obtain ⟨o0,o1,o2,o3,o4,o5,o6,o7,o8,o9,o10⟩:=op_cells r2;unfold val6 at r1;obtain ⟨p0,p1,p2,p3,p4,p5,pf⟩:=six_cells r1;have uu:=fun O j v (h:w5.cell? ⟨w.heap.size + 1,j,none⟩ = some v)=>(World.cell?_alloc_lt w5 O ⟨w.heap.size + 1,j,none⟩ hs5).trans h;have u0:=fun O=>uu O 0 _ o0;have u1:=fun O=>uu O 1 _ o1;have u2:=fun O=>uu O 2 _ o2;have u3:=fun O=>uu O 3 _ o3;have u10:=fun O=>uu O 10 _ o10;have vv:=fun O j v (h:w5.cell? ⟨w.heap.size,j,none⟩ = some v)=>(World.cell?_alloc_lt w5 O ⟨w.heap.size,j,none⟩ hs6).trans h;have v0':=fun O=>vv O 0 _ p0;have v1':=fun O=>vv O 1 _ p1;have v2':=fun O=>vv O 2 _ p2;have v3':=fun O=>vv O 3 _ p3;have v4':=fun O=>vv O 4 _ p4;have v5':=fun O=>vv O 5 _ p5;have hkl:=hx5.facts.kl;have hkl':=Lib.hid hkl;clear uu vv hb5 r1 r2 hx5 hkl;unfold val6)))
  go_ret
  exact ⟨rfl,(z4'.out.trans (B5.out.mono z4'.out.size)).alloc (by omega) _⟩
set_option maxHeartbeats 4000000 in
theorem rv_k1 (w:World) (t:Nd) (aA kA:Option Addr) (an ac kn kc:Nat) (o:Ov) (s:OS) (h:NodeV (Old w) w aA an ac kA kn kc t) (ho:OpIn w o s) (hbig:weighV t≤100000) (hr:rightV ltB t = true) (hf:formedV o = true) (hk:o.kind = 1) (x:Nd) (hx:atV t o.path = some x) :
    Calls Try.prog 16 #[.agg (val6 t aA an ac kA kn kc),.agg (opCells o s)] w fun e w'=>e = .returned (.int .i64 (gapE x o.at_))∧Below w.heap.size w w':=by
  obtain ⟨W2,hW2⟩:∃ W2,W2 = (w.alloc (.cells (val6 t aA an ac kA kn kc) 33)).alloc (.cells (opCells o s) 26):=⟨_,rfl⟩
  have z1:W2.heap[w.heap.size]? = some (.cells (val6 t aA an ac kA kn kc) 33 (0,0)):=by rw [hW2];exact (Go.heap_alloc_old _ _ (by simp)).trans (heap_alloc_new w _)
  have z2:W2.heap[w.heap.size + 1]? = some (.cells (opCells o s) 26 (0,0)):=by rw [hW2];have h1:=heap_alloc_new (w.alloc (.cells (val6 t aA an ac kA kn kc) 33)) (.cells (opCells o s) 26);rw [World.size_alloc] at h1;exact h1
  have z4':=Lib.hid (show Below w.heap.size w W2 by rw [hW2];exact ((Below.refl _ _).alloc (Nat.le_refl _) _).alloc (by simp) _)
  have z5:W2.heap.size = w.heap.size + 1 + 1:=by rw [hW2];simp
  have hR:=Lib.hid (fun (W:World) (hb:Below w.heap.size w W)=>rRight_any W t aA kA an ac kn kc (h.below hb))
  have hF:=Lib.hid (fun (W:World) (hb:Below w.heap.size w W)=>rformed_any W o s (ho.below hb))
  have hA:=Lib.hid (fun (W:World) (hb:Below w.heap.size w W)=>rat_any W t aA kA an ac kn kc (h.below hb) s.pA s.pn s.pc o.path (ho.path.below hb) (Nat.le_trans ho.pnc ho.pcm))
  have hA2:=Lib.hid (fun (W:World) (hb:Below w.heap.size w W)=>rat_any W t aA kA an ac kn kc (h.below hb) s.tA s.tn s.tc o.to_ (ho.to_.below hb) (Nat.le_trans ho.tnc ho.tcm))
  have hWi:=Lib.hid (fun (W:World) (hb:Below w.heap.size w W)=>P4.refWithin_any W s.pA s.tA s.pn s.pc s.tn s.tc o.path o.to_ (its4 (ho.path.below hb)) (its4 (ho.to_.below hb)) (Nat.le_trans ho.pnc ho.pcm) (Nat.le_trans ho.tnc ho.tcm))
  have hop:=Lib.hid (fun (W:World) (hb:Below w.heap.size w W)=>ho.below hb)
  have hlen:=Lib.hid ho.path.1
  have hz1:=Lib.hid z1
  have hz2:=Lib.hid z2
  have hz5:=Lib.hid z5
  have hkr:=ho.kind
  have hbg:=Lib.hid hbig
  obtain ⟨o0,o1,o2,o3,o4,o5,o6,o7,o8,o9,o10⟩:=op_cells z2
  have z1u:=z1
  unfold val6 at z1u
  obtain ⟨p0,p1,p2,p3,p4,p5,pf⟩:=six_cells z1u
  clear h ho z1 z1u z2 z5 hbig
  rw [hW2] at o0 o1 o2 o3 o4 o5 o6 o7 o8 o9 o10 p0 p1 p2 p3 p4 p5 pf
  unfold opCells at hF
  unfold val6 at hR hA hA2
  unfold val6 opCells at hW2 o0 o1 o2 o3 o4 o5 o6 o7 o8 o9 o10 p0 p1 p2 p3 p4 p5
  unfold val6 opCells
  have hbx:=Lib.hid (fun (W:World) (hb:Below W2.heap.size W2 W)=>show W.heap[w.heap.size]? = some (.cells (val6 t aA an ac kA kn kc) 33 (0,0))∧W.heap[w.heap.size + 1]? = some (.cells (opCells o s) 26 (0,0)) from ⟨(hb.block _ (by have:=hz5.out;omega)).trans hz1.out,(hb.block _ (by have:=hz5.out;omega)).trans hz2.out⟩)
  have v1:=Lib.hid hr
  clear hr
  have v2:=Lib.hid hf
  clear hf
  have v3:=Lib.hid hx
  clear hx
  have b1:((o.kind:Int) == 1) = true:=by simp;omega
  have b2:((o.kind:Int) == 2) = false:=by simp;omega
  have b3:((o.kind:Int) == 3) = false:=by simp;omega
  have b6:((o.kind:Int) == 6) = false:=by simp;omega
  clear hk hkr
  go_enter Try.func16,Try.ntmps16
  go_wp2_with (first
    | (go_at_call 48;go_loud (refine (hR.out _ (by rw [← hW2];exact z4'.out)).mono ?_;rw [← hW2];rintro e w3 ⟨rfl,hb3⟩;rw [v1.out];have B3:=Lib.hid hb3;obtain ⟨r1,r2⟩:=hbx.out w3 hb3;clear o0 o1 o2 o3 o4 o5 o6 o7 o8 o9 o10 p0 p1 p2 p3 p4 p5 pf;obtain ⟨o0,o1,o2,o3,o4,o5,o6,o7,o8,o9,o10⟩:=op_cells r2;unfold val6 at r1;obtain ⟨p0,p1,p2,p3,p4,p5,pf⟩:=six_cells r1;clear hb3 r1 r2))
    | (go_at_call 12;go_loud (refine (hF.out w3 (z4'.out.trans (B3.out.mono z4'.out.size))).mono ?_;rintro e w4 ⟨rfl,hb4⟩;rw [v2.out];have B4:=Lib.hid (B3.out.trans (hb4.mono B3.out.size));obtain ⟨r1,r2⟩:=hbx.out w4 B4.out;clear o0 o1 o2 o3 o4 o5 o6 o7 o8 o9 o10 p0 p1 p2 p3 p4 p5 pf;obtain ⟨o0,o1,o2,o3,o4,o5,o6,o7,o8,o9,o10⟩:=op_cells r2;unfold val6 at r1;obtain ⟨p0,p1,p2,p3,p4,p5,pf⟩:=six_cells r1;clear hb4 r1 r2))
    | (go_at_call 49;go_loud (refine (hA.out w4 (z4'.out.trans (B4.out.mono z4'.out.size))).mono ?_;rintro e w5 ⟨xA,xn,xc,xK,xm,xd,rfl,hx5,hb5⟩;rw [v3.out] at hx5 ⊢;have B5:=Lib.hid (B4.out.trans (hb5.mono B4.out.size));obtain ⟨r1,r2⟩:=hbx.out w5 B5.out;have hs5:w.heap.size + 1 < w5.heap.size:=(by have:=B5.out.size;have:=hz5.out;omega);have hs6:w.heap.size < w5.heap.size:=(by omega);have hq1:w5.heap.size ≠ w.heap.size:=(by omega);have hq2:w5.heap.size ≠ w.heap.size + 1:=(by omega);clear o0 o1 o2 o3 o4 o5 o6 o7 o8 o9 o10 p0 p1 p2 p3 p4 p5 pf;obtain ⟨o0,o1,o2,o3,o4,o5,o6,o7,o8,o9,o10⟩:=op_cells r2;unfold val6 at r1;obtain ⟨p0,p1,p2,p3,p4,p5,pf⟩:=six_cells r1;have uu:=fun O j v (h:w5.cell? ⟨w.heap.size + 1,j,none⟩ = some v)=>(World.cell?_alloc_lt w5 O ⟨w.heap.size + 1,j,none⟩ hs5).trans h;have u0:=fun O=>uu O 0 _ o0;have u1:=fun O=>uu O 1 _ o1;have u2:=fun O=>uu O 2 _ o2;have u3:=fun O=>uu O 3 _ o3;have u10:=fun O=>uu O 10 _ o10;have vv:=fun O j v (h:w5.cell? ⟨w.heap.size,j,none⟩ = some v)=>(World.cell?_alloc_lt w5 O ⟨w.heap.size,j,none⟩ hs6).trans h;have v0':=fun O=>vv O 0 _ p0;have v1':=fun O=>vv O 1 _ p1;have v2':=fun O=>vv O 2 _ p2;have v3':=fun O=>vv O 3 _ p3;have v4':=fun O=>vv O 4 _ p4;have v5':=fun O=>vv O 5 _ p5;have hkl:=hx5.facts.kl;have hkl':=Lib.hid hkl;clear uu vv hb5 r1 r2 hx5 hkl;unfold val6))
    | (go_at_call 50;go_loud (refine (rinto_any _ x xA xK xn xc xm xd hkl'.out o.at_).mono ?_;rintro e w6 ⟨rfl,hb6⟩;have B6:=Lib.hid ((z4'.out.trans (B5.out.mono z4'.out.size)).trans ((Below.refl w5.heap.size w5).alloc (Nat.le_refl _) _ |>.mono (z4'.out.trans (B5.out.mono z4'.out.size)).size) |>.trans (hb6.mono (by rw [World.size_alloc];omega)));clear hb6)))
  go_ret
  exact ⟨rfl,B6.out⟩
set_option maxHeartbeats 4000000 in
theorem rv_k2 (w:World) (t:Nd) (aA kA:Option Addr) (an ac kn kc:Nat) (o:Ov) (s:OS) (h:NodeV (Old w) w aA an ac kA kn kc t) (ho:OpIn w o s) (hbig:weighV t≤100000) (hr:rightV ltB t = true) (hf:formedV o = true) (hk:o.kind = 2) (hp:o.path ≠ []) (x:Nd) (hx:atV t o.path = some x) :
    Calls Try.prog 16 #[.agg (val6 t aA an ac kA kn kc),.agg (opCells o s)] w fun e w'=>e = .returned (.int .i64 0)∧Below w.heap.size w w':=by
  obtain ⟨W2,hW2⟩:∃ W2,W2 = (w.alloc (.cells (val6 t aA an ac kA kn kc) 33)).alloc (.cells (opCells o s) 26):=⟨_,rfl⟩
  have z1:W2.heap[w.heap.size]? = some (.cells (val6 t aA an ac kA kn kc) 33 (0,0)):=by rw [hW2];exact (Go.heap_alloc_old _ _ (by simp)).trans (heap_alloc_new w _)
  have z2:W2.heap[w.heap.size + 1]? = some (.cells (opCells o s) 26 (0,0)):=by rw [hW2];have h1:=heap_alloc_new (w.alloc (.cells (val6 t aA an ac kA kn kc) 33)) (.cells (opCells o s) 26);rw [World.size_alloc] at h1;exact h1
  have z4':=Lib.hid (show Below w.heap.size w W2 by rw [hW2];exact ((Below.refl _ _).alloc (Nat.le_refl _) _).alloc (by simp) _)
  have z5:W2.heap.size = w.heap.size + 1 + 1:=by rw [hW2];simp
  have hR:=Lib.hid (fun (W:World) (hb:Below w.heap.size w W)=>rRight_any W t aA kA an ac kn kc (h.below hb))
  have hF:=Lib.hid (fun (W:World) (hb:Below w.heap.size w W)=>rformed_any W o s (ho.below hb))
  have hA:=Lib.hid (fun (W:World) (hb:Below w.heap.size w W)=>rat_any W t aA kA an ac kn kc (h.below hb) s.pA s.pn s.pc o.path (ho.path.below hb) (Nat.le_trans ho.pnc ho.pcm))
  have hA2:=Lib.hid (fun (W:World) (hb:Below w.heap.size w W)=>rat_any W t aA kA an ac kn kc (h.below hb) s.tA s.tn s.tc o.to_ (ho.to_.below hb) (Nat.le_trans ho.tnc ho.tcm))
  have hWi:=Lib.hid (fun (W:World) (hb:Below w.heap.size w W)=>P4.refWithin_any W s.pA s.tA s.pn s.pc s.tn s.tc o.path o.to_ (its4 (ho.path.below hb)) (its4 (ho.to_.below hb)) (Nat.le_trans ho.pnc ho.pcm) (Nat.le_trans ho.tnc ho.tcm))
  have hop:=Lib.hid (fun (W:World) (hb:Below w.heap.size w W)=>ho.below hb)
  have hlen:=Lib.hid ho.path.1
  have hz1:=Lib.hid z1
  have hz2:=Lib.hid z2
  have hz5:=Lib.hid z5
  have hkr:=ho.kind
  have hbg:=Lib.hid hbig
  obtain ⟨o0,o1,o2,o3,o4,o5,o6,o7,o8,o9,o10⟩:=op_cells z2
  have z1u:=z1
  unfold val6 at z1u
  obtain ⟨p0,p1,p2,p3,p4,p5,pf⟩:=six_cells z1u
  clear h ho z1 z1u z2 z5 hbig
  rw [hW2] at o0 o1 o2 o3 o4 o5 o6 o7 o8 o9 o10 p0 p1 p2 p3 p4 p5 pf
  unfold opCells at hF
  unfold val6 at hR hA hA2
  unfold val6 opCells at hW2 o0 o1 o2 o3 o4 o5 o6 o7 o8 o9 o10 p0 p1 p2 p3 p4 p5
  unfold val6 opCells
  have hbx:=Lib.hid (fun (W:World) (hb:Below W2.heap.size W2 W)=>show W.heap[w.heap.size]? = some (.cells (val6 t aA an ac kA kn kc) 33 (0,0))∧W.heap[w.heap.size + 1]? = some (.cells (opCells o s) 26 (0,0)) from ⟨(hb.block _ (by have:=hz5.out;omega)).trans hz1.out,(hb.block _ (by have:=hz5.out;omega)).trans hz2.out⟩)
  have v1:=Lib.hid hr
  clear hr
  have v2:=Lib.hid hf
  clear hf
  have v3:=Lib.hid hx
  clear hx
  have b1:((o.kind:Int) == 1) = false:=by simp;omega
  have b2:((o.kind:Int) == 2) = true:=by simp;omega
  have b3:((o.kind:Int) == 3) = false:=by simp;omega
  have b6:((o.kind:Int) == 6) = false:=by simp;omega
  have hn1:((s.pn:Int) == 0) = false:=by have:=hlen.out;have:o.path.length ≠ 0:=fun e=>hp (List.eq_nil_of_length_eq_zero e);simp;omega
  clear hk hp hkr
  go_enter Try.func16,Try.ntmps16
  go_wp2_with (first
    | (go_at_call 48;go_loud (refine (hR.out _ (by rw [← hW2];exact z4'.out)).mono ?_;rw [← hW2];rintro e w3 ⟨rfl,hb3⟩;rw [v1.out];have B3:=Lib.hid hb3;obtain ⟨r1,r2⟩:=hbx.out w3 hb3;clear o0 o1 o2 o3 o4 o5 o6 o7 o8 o9 o10 p0 p1 p2 p3 p4 p5 pf;obtain ⟨o0,o1,o2,o3,o4,o5,o6,o7,o8,o9,o10⟩:=op_cells r2;unfold val6 at r1;obtain ⟨p0,p1,p2,p3,p4,p5,pf⟩:=six_cells r1;clear hb3 r1 r2))
    | (go_at_call 12;go_loud (refine (hF.out w3 (z4'.out.trans (B3.out.mono z4'.out.size))).mono ?_;rintro e w4 ⟨rfl,hb4⟩;rw [v2.out];have B4:=Lib.hid (B3.out.trans (hb4.mono B3.out.size));obtain ⟨r1,r2⟩:=hbx.out w4 B4.out;clear o0 o1 o2 o3 o4 o5 o6 o7 o8 o9 o10 p0 p1 p2 p3 p4 p5 pf;obtain ⟨o0,o1,o2,o3,o4,o5,o6,o7,o8,o9,o10⟩:=op_cells r2;unfold val6 at r1;obtain ⟨p0,p1,p2,p3,p4,p5,pf⟩:=six_cells r1;clear hb4 r1 r2))
    | (go_at_call 49;go_loud (refine (hA.out w4 (z4'.out.trans (B4.out.mono z4'.out.size))).mono ?_;rintro e w5 ⟨xA,xn,xc,xK,xm,xd,rfl,hx5,hb5⟩;rw [v3.out] at hx5 ⊢;have B5:=Lib.hid (B4.out.trans (hb5.mono B4.out.size));obtain ⟨r1,r2⟩:=hbx.out w5 B5.out;have hs5:w.heap.size + 1 < w5.heap.size:=(by have:=B5.out.size;have:=hz5.out;omega);have hs6:w.heap.size < w5.heap.size:=(by omega);have hq1:w5.heap.size ≠ w.heap.size:=(by omega);have hq2:w5.heap.size ≠ w.heap.size + 1:=(by omega);clear o0 o1 o2 o3 o4 o5 o6 o7 o8 o9 o10 p0 p1 p2 p3 p4 p5 pf;obtain ⟨o0,o1,o2,o3,o4,o5,o6,o7,o8,o9,o10⟩:=op_cells r2;unfold val6 at r1;obtain ⟨p0,p1,p2,p3,p4,p5,pf⟩:=six_cells r1;have uu:=fun O j v (h:w5.cell? ⟨w.heap.size + 1,j,none⟩ = some v)=>(World.cell?_alloc_lt w5 O ⟨w.heap.size + 1,j,none⟩ hs5).trans h;have u0:=fun O=>uu O 0 _ o0;have u1:=fun O=>uu O 1 _ o1;have u2:=fun O=>uu O 2 _ o2;have u3:=fun O=>uu O 3 _ o3;have u10:=fun O=>uu O 10 _ o10;have vv:=fun O j v (h:w5.cell? ⟨w.heap.size,j,none⟩ = some v)=>(World.cell?_alloc_lt w5 O ⟨w.heap.size,j,none⟩ hs6).trans h;have v0':=fun O=>vv O 0 _ p0;have v1':=fun O=>vv O 1 _ p1;have v2':=fun O=>vv O 2 _ p2;have v3':=fun O=>vv O 3 _ p3;have v4':=fun O=>vv O 4 _ p4;have v5':=fun O=>vv O 5 _ p5;have hkl:=hx5.facts.kl;have hkl':=Lib.hid hkl;clear uu vv hb5 r1 r2 hx5 hkl;unfold val6)))
  go_ret
  exact ⟨rfl,(z4'.out.trans (B5.out.mono z4'.out.size)).alloc (by omega) _⟩
set_option maxHeartbeats 4000000 in
theorem rv_k45 (w:World) (t:Nd) (aA kA:Option Addr) (an ac kn kc:Nat) (o:Ov) (s:OS) (h:NodeV (Old w) w aA an ac kA kn kc t) (ho:OpIn w o s) (hbig:weighV t≤100000) (hr:rightV ltB t = true) (hf:formedV o = true) (hk:o.kind = 4∨o.kind = 5) (x:Nd) (hx:atV t o.path = some x) :
    Calls Try.prog 16 #[.agg (val6 t aA an ac kA kn kc),.agg (opCells o s)] w fun e w'=>e = .returned (.int .i64 0)∧Below w.heap.size w w':=by
  obtain ⟨W2,hW2⟩:∃ W2,W2 = (w.alloc (.cells (val6 t aA an ac kA kn kc) 33)).alloc (.cells (opCells o s) 26):=⟨_,rfl⟩
  have z1:W2.heap[w.heap.size]? = some (.cells (val6 t aA an ac kA kn kc) 33 (0,0)):=by rw [hW2];exact (Go.heap_alloc_old _ _ (by simp)).trans (heap_alloc_new w _)
  have z2:W2.heap[w.heap.size + 1]? = some (.cells (opCells o s) 26 (0,0)):=by rw [hW2];have h1:=heap_alloc_new (w.alloc (.cells (val6 t aA an ac kA kn kc) 33)) (.cells (opCells o s) 26);rw [World.size_alloc] at h1;exact h1
  have z4':=Lib.hid (show Below w.heap.size w W2 by rw [hW2];exact ((Below.refl _ _).alloc (Nat.le_refl _) _).alloc (by simp) _)
  have z5:W2.heap.size = w.heap.size + 1 + 1:=by rw [hW2];simp
  have hR:=Lib.hid (fun (W:World) (hb:Below w.heap.size w W)=>rRight_any W t aA kA an ac kn kc (h.below hb))
  have hF:=Lib.hid (fun (W:World) (hb:Below w.heap.size w W)=>rformed_any W o s (ho.below hb))
  have hA:=Lib.hid (fun (W:World) (hb:Below w.heap.size w W)=>rat_any W t aA kA an ac kn kc (h.below hb) s.pA s.pn s.pc o.path (ho.path.below hb) (Nat.le_trans ho.pnc ho.pcm))
  have hA2:=Lib.hid (fun (W:World) (hb:Below w.heap.size w W)=>rat_any W t aA kA an ac kn kc (h.below hb) s.tA s.tn s.tc o.to_ (ho.to_.below hb) (Nat.le_trans ho.tnc ho.tcm))
  have hWi:=Lib.hid (fun (W:World) (hb:Below w.heap.size w W)=>P4.refWithin_any W s.pA s.tA s.pn s.pc s.tn s.tc o.path o.to_ (its4 (ho.path.below hb)) (its4 (ho.to_.below hb)) (Nat.le_trans ho.pnc ho.pcm) (Nat.le_trans ho.tnc ho.tcm))
  have hop:=Lib.hid (fun (W:World) (hb:Below w.heap.size w W)=>ho.below hb)
  have hlen:=Lib.hid ho.path.1
  have hz1:=Lib.hid z1
  have hz2:=Lib.hid z2
  have hz5:=Lib.hid z5
  have hkr:=ho.kind
  have hbg:=Lib.hid hbig
  obtain ⟨o0,o1,o2,o3,o4,o5,o6,o7,o8,o9,o10⟩:=op_cells z2
  have z1u:=z1
  unfold val6 at z1u
  obtain ⟨p0,p1,p2,p3,p4,p5,pf⟩:=six_cells z1u
  clear h ho z1 z1u z2 z5 hbig
  rw [hW2] at o0 o1 o2 o3 o4 o5 o6 o7 o8 o9 o10 p0 p1 p2 p3 p4 p5 pf
  unfold opCells at hF
  unfold val6 at hR hA hA2
  unfold val6 opCells at hW2 o0 o1 o2 o3 o4 o5 o6 o7 o8 o9 o10 p0 p1 p2 p3 p4 p5
  unfold val6 opCells
  have hbx:=Lib.hid (fun (W:World) (hb:Below W2.heap.size W2 W)=>show W.heap[w.heap.size]? = some (.cells (val6 t aA an ac kA kn kc) 33 (0,0))∧W.heap[w.heap.size + 1]? = some (.cells (opCells o s) 26 (0,0)) from ⟨(hb.block _ (by have:=hz5.out;omega)).trans hz1.out,(hb.block _ (by have:=hz5.out;omega)).trans hz2.out⟩)
  have v1:=Lib.hid hr
  clear hr
  have v2:=Lib.hid hf
  clear hf
  have v3:=Lib.hid hx
  clear hx
  have b1:((o.kind:Int) == 1) = false:=by simp;omega
  have b2:((o.kind:Int) == 2) = false:=by simp;omega
  have b3:((o.kind:Int) == 3) = false:=by simp;omega
  have b6:((o.kind:Int) == 6) = false:=by simp;omega
  clear hk hkr
  go_enter Try.func16,Try.ntmps16
  go_wp2_with (first
    | (go_at_call 48;go_loud (refine (hR.out _ (by rw [← hW2];exact z4'.out)).mono ?_;rw [← hW2];rintro e w3 ⟨rfl,hb3⟩;rw [v1.out];have B3:=Lib.hid hb3;obtain ⟨r1,r2⟩:=hbx.out w3 hb3;clear o0 o1 o2 o3 o4 o5 o6 o7 o8 o9 o10 p0 p1 p2 p3 p4 p5 pf;obtain ⟨o0,o1,o2,o3,o4,o5,o6,o7,o8,o9,o10⟩:=op_cells r2;unfold val6 at r1;obtain ⟨p0,p1,p2,p3,p4,p5,pf⟩:=six_cells r1;clear hb3 r1 r2))
    | (go_at_call 12;go_loud (refine (hF.out w3 (z4'.out.trans (B3.out.mono z4'.out.size))).mono ?_;rintro e w4 ⟨rfl,hb4⟩;rw [v2.out];have B4:=Lib.hid (B3.out.trans (hb4.mono B3.out.size));obtain ⟨r1,r2⟩:=hbx.out w4 B4.out;clear o0 o1 o2 o3 o4 o5 o6 o7 o8 o9 o10 p0 p1 p2 p3 p4 p5 pf;obtain ⟨o0,o1,o2,o3,o4,o5,o6,o7,o8,o9,o10⟩:=op_cells r2;unfold val6 at r1;obtain ⟨p0,p1,p2,p3,p4,p5,pf⟩:=six_cells r1;clear hb4 r1 r2))
    | (go_at_call 49;go_loud (refine (hA.out w4 (z4'.out.trans (B4.out.mono z4'.out.size))).mono ?_;rintro e w5 ⟨xA,xn,xc,xK,xm,xd,rfl,hx5,hb5⟩;rw [v3.out] at hx5 ⊢;have B5:=Lib.hid (B4.out.trans (hb5.mono B4.out.size));obtain ⟨r1,r2⟩:=hbx.out w5 B5.out;have hs5:w.heap.size + 1 < w5.heap.size:=(by have:=B5.out.size;have:=hz5.out;omega);have hs6:w.heap.size < w5.heap.size:=(by omega);have hq1:w5.heap.size ≠ w.heap.size:=(by omega);have hq2:w5.heap.size ≠ w.heap.size + 1:=(by omega);clear o0 o1 o2 o3 o4 o5 o6 o7 o8 o9 o10 p0 p1 p2 p3 p4 p5 pf;obtain ⟨o0,o1,o2,o3,o4,o5,o6,o7,o8,o9,o10⟩:=op_cells r2;unfold val6 at r1;obtain ⟨p0,p1,p2,p3,p4,p5,pf⟩:=six_cells r1;have uu:=fun O j v (h:w5.cell? ⟨w.heap.size + 1,j,none⟩ = some v)=>(World.cell?_alloc_lt w5 O ⟨w.heap.size + 1,j,none⟩ hs5).trans h;have u0:=fun O=>uu O 0 _ o0;have u1:=fun O=>uu O 1 _ o1;have u2:=fun O=>uu O 2 _ o2;have u3:=fun O=>uu O 3 _ o3;have u10:=fun O=>uu O 10 _ o10;have vv:=fun O j v (h:w5.cell? ⟨w.heap.size,j,none⟩ = some v)=>(World.cell?_alloc_lt w5 O ⟨w.heap.size,j,none⟩ hs6).trans h;have v0':=fun O=>vv O 0 _ p0;have v1':=fun O=>vv O 1 _ p1;have v2':=fun O=>vv O 2 _ p2;have v3':=fun O=>vv O 3 _ p3;have v4':=fun O=>vv O 4 _ p4;have v5':=fun O=>vv O 5 _ p5;have hkl:=hx5.facts.kl;have hkl':=Lib.hid hkl;clear uu vv hb5 r1 r2 hx5 hkl;unfold val6)))
  go_ret
  exact ⟨rfl,(z4'.out.trans (B5.out.mono z4'.out.size)).alloc (by omega) _⟩
set_option maxHeartbeats 4000000 in
theorem rv_k3a (w:World) (t:Nd) (aA kA:Option Addr) (an ac kn kc:Nat) (o:Ov) (s:OS) (h:NodeV (Old w) w aA an ac kA kn kc t) (ho:OpIn w o s) (hbig:weighV t≤100000) (hr:rightV ltB t = true) (hf:formedV o = true) (hk:o.kind = 3) (hp:o.path ≠ []) (x:Nd) (hx:atV t o.path = some x) (hw:P4.withinV o.path o.to_ = true) :
    Calls Try.prog 16 #[.agg (val6 t aA an ac kA kn kc),.agg (opCells o s)] w fun e w'=>e = .returned (.int .i64 84)∧Below w.heap.size w w':=by
  obtain ⟨W2,hW2⟩:∃ W2,W2 = (w.alloc (.cells (val6 t aA an ac kA kn kc) 33)).alloc (.cells (opCells o s) 26):=⟨_,rfl⟩
  have z1:W2.heap[w.heap.size]? = some (.cells (val6 t aA an ac kA kn kc) 33 (0,0)):=by rw [hW2];exact (Go.heap_alloc_old _ _ (by simp)).trans (heap_alloc_new w _)
  have z2:W2.heap[w.heap.size + 1]? = some (.cells (opCells o s) 26 (0,0)):=by rw [hW2];have h1:=heap_alloc_new (w.alloc (.cells (val6 t aA an ac kA kn kc) 33)) (.cells (opCells o s) 26);rw [World.size_alloc] at h1;exact h1
  have z4':=Lib.hid (show Below w.heap.size w W2 by rw [hW2];exact ((Below.refl _ _).alloc (Nat.le_refl _) _).alloc (by simp) _)
  have z5:W2.heap.size = w.heap.size + 1 + 1:=by rw [hW2];simp
  have hR:=Lib.hid (fun (W:World) (hb:Below w.heap.size w W)=>rRight_any W t aA kA an ac kn kc (h.below hb))
  have hF:=Lib.hid (fun (W:World) (hb:Below w.heap.size w W)=>rformed_any W o s (ho.below hb))
  have hA:=Lib.hid (fun (W:World) (hb:Below w.heap.size w W)=>rat_any W t aA kA an ac kn kc (h.below hb) s.pA s.pn s.pc o.path (ho.path.below hb) (Nat.le_trans ho.pnc ho.pcm))
  have hA2:=Lib.hid (fun (W:World) (hb:Below w.heap.size w W)=>rat_any W t aA kA an ac kn kc (h.below hb) s.tA s.tn s.tc o.to_ (ho.to_.below hb) (Nat.le_trans ho.tnc ho.tcm))
  have hWi:=Lib.hid (fun (W:World) (hb:Below w.heap.size w W)=>P4.refWithin_any W s.pA s.tA s.pn s.pc s.tn s.tc o.path o.to_ (its4 (ho.path.below hb)) (its4 (ho.to_.below hb)) (Nat.le_trans ho.pnc ho.pcm) (Nat.le_trans ho.tnc ho.tcm))
  have hop:=Lib.hid (fun (W:World) (hb:Below w.heap.size w W)=>ho.below hb)
  have hlen:=Lib.hid ho.path.1
  have hz1:=Lib.hid z1
  have hz2:=Lib.hid z2
  have hz5:=Lib.hid z5
  have hkr:=ho.kind
  have hbg:=Lib.hid hbig
  obtain ⟨o0,o1,o2,o3,o4,o5,o6,o7,o8,o9,o10⟩:=op_cells z2
  have z1u:=z1
  unfold val6 at z1u
  obtain ⟨p0,p1,p2,p3,p4,p5,pf⟩:=six_cells z1u
  clear h ho z1 z1u z2 z5 hbig
  rw [hW2] at o0 o1 o2 o3 o4 o5 o6 o7 o8 o9 o10 p0 p1 p2 p3 p4 p5 pf
  unfold opCells at hF
  unfold val6 at hR hA hA2
  unfold val6 opCells at hW2 o0 o1 o2 o3 o4 o5 o6 o7 o8 o9 o10 p0 p1 p2 p3 p4 p5
  unfold val6 opCells
  have hbx:=Lib.hid (fun (W:World) (hb:Below W2.heap.size W2 W)=>show W.heap[w.heap.size]? = some (.cells (val6 t aA an ac kA kn kc) 33 (0,0))∧W.heap[w.heap.size + 1]? = some (.cells (opCells o s) 26 (0,0)) from ⟨(hb.block _ (by have:=hz5.out;omega)).trans hz1.out,(hb.block _ (by have:=hz5.out;omega)).trans hz2.out⟩)
  have v1:=Lib.hid hr
  clear hr
  have v2:=Lib.hid hf
  clear hf
  have v3:=Lib.hid hx
  clear hx
  have b1:((o.kind:Int) == 1) = false:=by simp;omega
  have b2:((o.kind:Int) == 2) = false:=by simp;omega
  have b3:((o.kind:Int) == 3) = true:=by simp;omega
  have b6:((o.kind:Int) == 6) = false:=by simp;omega
  have hn1:((s.pn:Int) == 0) = false:=by have:=hlen.out;have:o.path.length ≠ 0:=fun e=>hp (List.eq_nil_of_length_eq_zero e);simp;omega
  have v4:=Lib.hid hw
  clear hk hp hkr hw
  go_enter Try.func16,Try.ntmps16
  go_wp2_with (first
    | (go_at_call 48;go_loud (refine (hR.out _ (by rw [← hW2];exact z4'.out)).mono ?_;rw [← hW2];rintro e w3 ⟨rfl,hb3⟩;rw [v1.out];have B3:=Lib.hid hb3;obtain ⟨r1,r2⟩:=hbx.out w3 hb3;clear o0 o1 o2 o3 o4 o5 o6 o7 o8 o9 o10 p0 p1 p2 p3 p4 p5 pf;obtain ⟨o0,o1,o2,o3,o4,o5,o6,o7,o8,o9,o10⟩:=op_cells r2;unfold val6 at r1;obtain ⟨p0,p1,p2,p3,p4,p5,pf⟩:=six_cells r1;clear hb3 r1 r2))
    | (go_at_call 12;go_loud (refine (hF.out w3 (z4'.out.trans (B3.out.mono z4'.out.size))).mono ?_;rintro e w4 ⟨rfl,hb4⟩;rw [v2.out];have B4:=Lib.hid (B3.out.trans (hb4.mono B3.out.size));obtain ⟨r1,r2⟩:=hbx.out w4 B4.out;clear o0 o1 o2 o3 o4 o5 o6 o7 o8 o9 o10 p0 p1 p2 p3 p4 p5 pf;obtain ⟨o0,o1,o2,o3,o4,o5,o6,o7,o8,o9,o10⟩:=op_cells r2;unfold val6 at r1;obtain ⟨p0,p1,p2,p3,p4,p5,pf⟩:=six_cells r1;clear hb4 r1 r2))
    | (go_at_call 49;go_loud (refine (hA.out w4 (z4'.out.trans (B4.out.mono z4'.out.size))).mono ?_;rintro e w5 ⟨xA,xn,xc,xK,xm,xd,rfl,hx5,hb5⟩;rw [v3.out] at hx5 ⊢;have B5:=Lib.hid (B4.out.trans (hb5.mono B4.out.size));obtain ⟨r1,r2⟩:=hbx.out w5 B5.out;have hs5:w.heap.size + 1 < w5.heap.size:=(by have:=B5.out.size;have:=hz5.out;omega);have hs6:w.heap.size < w5.heap.size:=(by omega);have hq1:w5.heap.size ≠ w.heap.size:=(by omega);have hq2:w5.heap.size ≠ w.heap.size + 1:=(by omega);clear o0 o1 o2 o3 o4 o5 o6 o7 o8 o9 o10 p0 p1 p2 p3 p4 p5 pf;obtain ⟨o0,o1,o2,o3,o4,o5,o6,o7,o8,o9,o10⟩:=op_cells r2;unfold val6 at r1;obtain ⟨p0,p1,p2,p3,p4,p5,pf⟩:=six_cells r1;have uu:=fun O j v (h:w5.cell? ⟨w.heap.size + 1,j,none⟩ = some v)=>(World.cell?_alloc_lt w5 O ⟨w.heap.size + 1,j,none⟩ hs5).trans h;have u0:=fun O=>uu O 0 _ o0;have u1:=fun O=>uu O 1 _ o1;have u2:=fun O=>uu O 2 _ o2;have u3:=fun O=>uu O 3 _ o3;have u10:=fun O=>uu O 10 _ o10;have vv:=fun O j v (h:w5.cell? ⟨w.heap.size,j,none⟩ = some v)=>(World.cell?_alloc_lt w5 O ⟨w.heap.size,j,none⟩ hs6).trans h;have v0':=fun O=>vv O 0 _ p0;have v1':=fun O=>vv O 1 _ p1;have v2':=fun O=>vv O 2 _ p2;have v3':=fun O=>vv O 3 _ p3;have v4':=fun O=>vv O 4 _ p4;have v5':=fun O=>vv O 5 _ p5;have hkl:=hx5.facts.kl;have hkl':=Lib.hid hkl;clear uu vv hb5 r1 r2 hx5 hkl;unfold val6))
    | (go_at_call 51;go_loud (refine (hWi.out _ ((z4'.out.trans (B5.out.mono z4'.out.size)).alloc (by omega) _)).mono ?_;rintro e w6 ⟨rfl,k6,hw6⟩;rw [v4.out];have B6:=Lib.hid (show Below w.heap.size w w6 from by rw [hw6];exact draws ((z4'.out.trans (B5.out.mono z4'.out.size)).alloc (by omega) _) _);have r1:=(show w6.heap[w.heap.size]? = some (.cells (val6 t aA an ac kA kn kc) 33 (0,0)) from by rw [hw6];exact (Go.heap_alloc_old _ _ hs6).trans (hbx.out w5 B5.out).1);have r2:=(show w6.heap[w.heap.size + 1]? = some (.cells (opCells o s) 26 (0,0)) from by rw [hw6];exact (Go.heap_alloc_old _ _ hs5).trans (hbx.out w5 B5.out).2);clear o0 o1 o2 o3 o4 o5 o6 o7 o8 o9 o10 p0 p1 p2 p3 p4 p5 pf;obtain ⟨o0,o1,o2,o3,o4,o5,o6,o7,o8,o9,o10⟩:=op_cells r2;unfold val6 at r1;obtain ⟨p0,p1,p2,p3,p4,p5,pf⟩:=six_cells r1;clear hw6 r1 r2 u0 u1 u2 u3 u10 v0' v1' v2' v3' v4' v5')))
  go_ret
  exact ⟨rfl,B6.out⟩
set_option maxHeartbeats 4000000 in
theorem rv_k3b (w:World) (t:Nd) (aA kA:Option Addr) (an ac kn kc:Nat) (o:Ov) (s:OS) (h:NodeV (Old w) w aA an ac kA kn kc t) (ho:OpIn w o s) (hbig:weighV t≤100000) (hr:rightV ltB t = true) (hf:formedV o = true) (hk:o.kind = 3) (hp:o.path ≠ []) (x:Nd) (hx:atV t o.path = some x) (hw:P4.withinV o.path o.to_ = false) (hy:atV t o.to_ = none) :
    Calls Try.prog 16 #[.agg (val6 t aA an ac kA kn kc),.agg (opCells o s)] w fun e w'=>e = .returned (.int .i64 81)∧Below w.heap.size w w':=by
  obtain ⟨W2,hW2⟩:∃ W2,W2 = (w.alloc (.cells (val6 t aA an ac kA kn kc) 33)).alloc (.cells (opCells o s) 26):=⟨_,rfl⟩
  have z1:W2.heap[w.heap.size]? = some (.cells (val6 t aA an ac kA kn kc) 33 (0,0)):=by rw [hW2];exact (Go.heap_alloc_old _ _ (by simp)).trans (heap_alloc_new w _)
  have z2:W2.heap[w.heap.size + 1]? = some (.cells (opCells o s) 26 (0,0)):=by rw [hW2];have h1:=heap_alloc_new (w.alloc (.cells (val6 t aA an ac kA kn kc) 33)) (.cells (opCells o s) 26);rw [World.size_alloc] at h1;exact h1
  have z4':=Lib.hid (show Below w.heap.size w W2 by rw [hW2];exact ((Below.refl _ _).alloc (Nat.le_refl _) _).alloc (by simp) _)
  have z5:W2.heap.size = w.heap.size + 1 + 1:=by rw [hW2];simp
  have hR:=Lib.hid (fun (W:World) (hb:Below w.heap.size w W)=>rRight_any W t aA kA an ac kn kc (h.below hb))
  have hF:=Lib.hid (fun (W:World) (hb:Below w.heap.size w W)=>rformed_any W o s (ho.below hb))
  have hA:=Lib.hid (fun (W:World) (hb:Below w.heap.size w W)=>rat_any W t aA kA an ac kn kc (h.below hb) s.pA s.pn s.pc o.path (ho.path.below hb) (Nat.le_trans ho.pnc ho.pcm))
  have hA2:=Lib.hid (fun (W:World) (hb:Below w.heap.size w W)=>rat_any W t aA kA an ac kn kc (h.below hb) s.tA s.tn s.tc o.to_ (ho.to_.below hb) (Nat.le_trans ho.tnc ho.tcm))
  have hWi:=Lib.hid (fun (W:World) (hb:Below w.heap.size w W)=>P4.refWithin_any W s.pA s.tA s.pn s.pc s.tn s.tc o.path o.to_ (its4 (ho.path.below hb)) (its4 (ho.to_.below hb)) (Nat.le_trans ho.pnc ho.pcm) (Nat.le_trans ho.tnc ho.tcm))
  have hop:=Lib.hid (fun (W:World) (hb:Below w.heap.size w W)=>ho.below hb)
  have hlen:=Lib.hid ho.path.1
  have hz1:=Lib.hid z1
  have hz2:=Lib.hid z2
  have hz5:=Lib.hid z5
  have hkr:=ho.kind
  have hbg:=Lib.hid hbig
  obtain ⟨o0,o1,o2,o3,o4,o5,o6,o7,o8,o9,o10⟩:=op_cells z2
  have z1u:=z1
  unfold val6 at z1u
  obtain ⟨p0,p1,p2,p3,p4,p5,pf⟩:=six_cells z1u
  clear h ho z1 z1u z2 z5 hbig
  rw [hW2] at o0 o1 o2 o3 o4 o5 o6 o7 o8 o9 o10 p0 p1 p2 p3 p4 p5 pf
  unfold opCells at hF
  unfold val6 at hR hA hA2
  unfold val6 opCells at hW2 o0 o1 o2 o3 o4 o5 o6 o7 o8 o9 o10 p0 p1 p2 p3 p4 p5
  unfold val6 opCells
  have hbx:=Lib.hid (fun (W:World) (hb:Below W2.heap.size W2 W)=>show W.heap[w.heap.size]? = some (.cells (val6 t aA an ac kA kn kc) 33 (0,0))∧W.heap[w.heap.size + 1]? = some (.cells (opCells o s) 26 (0,0)) from ⟨(hb.block _ (by have:=hz5.out;omega)).trans hz1.out,(hb.block _ (by have:=hz5.out;omega)).trans hz2.out⟩)
  have v1:=Lib.hid hr
  clear hr
  have v2:=Lib.hid hf
  clear hf
  have v3:=Lib.hid hx
  clear hx
  have b1:((o.kind:Int) == 1) = false:=by simp;omega
  have b2:((o.kind:Int) == 2) = false:=by simp;omega
  have b3:((o.kind:Int) == 3) = true:=by simp;omega
  have b6:((o.kind:Int) == 6) = false:=by simp;omega
  have hn1:((s.pn:Int) == 0) = false:=by have:=hlen.out;have:o.path.length ≠ 0:=fun e=>hp (List.eq_nil_of_length_eq_zero e);simp;omega
  have v4:=Lib.hid hw
  have v5:=Lib.hid hy
  clear hk hp hkr hw hy
  go_enter Try.func16,Try.ntmps16
  go_wp2_with (first
    | (go_at_call 48;go_loud (refine (hR.out _ (by rw [← hW2];exact z4'.out)).mono ?_;rw [← hW2];rintro e w3 ⟨rfl,hb3⟩;rw [v1.out];have B3:=Lib.hid hb3;obtain ⟨r1,r2⟩:=hbx.out w3 hb3;clear o0 o1 o2 o3 o4 o5 o6 o7 o8 o9 o10 p0 p1 p2 p3 p4 p5 pf;obtain ⟨o0,o1,o2,o3,o4,o5,o6,o7,o8,o9,o10⟩:=op_cells r2;unfold val6 at r1;obtain ⟨p0,p1,p2,p3,p4,p5,pf⟩:=six_cells r1;clear hb3 r1 r2))
    | (go_at_call 12;go_loud (refine (hF.out w3 (z4'.out.trans (B3.out.mono z4'.out.size))).mono ?_;rintro e w4 ⟨rfl,hb4⟩;rw [v2.out];have B4:=Lib.hid (B3.out.trans (hb4.mono B3.out.size));obtain ⟨r1,r2⟩:=hbx.out w4 B4.out;clear o0 o1 o2 o3 o4 o5 o6 o7 o8 o9 o10 p0 p1 p2 p3 p4 p5 pf;obtain ⟨o0,o1,o2,o3,o4,o5,o6,o7,o8,o9,o10⟩:=op_cells r2;unfold val6 at r1;obtain ⟨p0,p1,p2,p3,p4,p5,pf⟩:=six_cells r1;clear hb4 r1 r2))
    | (go_at_call 49;go_loud (refine (hA2.out w6 B6.out).mono ?_;rintro e w7 ⟨yA,yn,yc,yK,ym,yd,rfl,hy7,hb7⟩;rw [v5.out] at hy7 ⊢;have B7:=Lib.hid (B6.out.trans (hb7.mono B6.out.size));have hs7:w.heap.size + 1 < w7.heap.size:=(by have:=(World.block_lt_of_cell? _ _ o0);have:=hb7.size;dsimp only at *;omega);have o2':=(hb7.cell (p:=⟨w.heap.size + 1,2,none⟩) (World.block_lt_of_cell? _ _ o2)).trans o2;have u2:=fun O=>(World.cell?_alloc_lt w7 O ⟨w.heap.size + 1,2,none⟩ hs7).trans o2';have hkl:=hy7.facts.kl;have hkl':=Lib.hid hkl;clear hb7 hy7 hkl;unfold val6))
    | (go_at_call 49;go_loud (refine (hA.out w4 (z4'.out.trans (B4.out.mono z4'.out.size))).mono ?_;rintro e w5 ⟨xA,xn,xc,xK,xm,xd,rfl,hx5,hb5⟩;rw [v3.out] at hx5 ⊢;have B5:=Lib.hid (B4.out.trans (hb5.mono B4.out.size));obtain ⟨r1,r2⟩:=hbx.out w5 B5.out;have hs5:w.heap.size + 1 < w5.heap.size:=(by have:=B5.out.size;have:=hz5.out;omega);have hs6:w.heap.size < w5.heap.size:=(by omega);have hq1:w5.heap.size ≠ w.heap.size:=(by omega);have hq2:w5.heap.size ≠ w.heap.size + 1:=(by omega);clear o0 o1 o2 o3 o4 o5 o6 o7 o8 o9 o10 p0 p1 p2 p3 p4 p5 pf;obtain ⟨o0,o1,o2,o3,o4,o5,o6,o7,o8,o9,o10⟩:=op_cells r2;unfold val6 at r1;obtain ⟨p0,p1,p2,p3,p4,p5,pf⟩:=six_cells r1;have uu:=fun O j v (h:w5.cell? ⟨w.heap.size + 1,j,none⟩ = some v)=>(World.cell?_alloc_lt w5 O ⟨w.heap.size + 1,j,none⟩ hs5).trans h;have u0:=fun O=>uu O 0 _ o0;have u1:=fun O=>uu O 1 _ o1;have u2:=fun O=>uu O 2 _ o2;have u3:=fun O=>uu O 3 _ o3;have u10:=fun O=>uu O 10 _ o10;have vv:=fun O j v (h:w5.cell? ⟨w.heap.size,j,none⟩ = some v)=>(World.cell?_alloc_lt w5 O ⟨w.heap.size,j,none⟩ hs6).trans h;have v0':=fun O=>vv O 0 _ p0;have v1':=fun O=>vv O 1 _ p1;have v2':=fun O=>vv O 2 _ p2;have v3':=fun O=>vv O 3 _ p3;have v4':=fun O=>vv O 4 _ p4;have v5':=fun O=>vv O 5 _ p5;have hkl:=hx5.facts.kl;have hkl':=Lib.hid hkl;clear uu vv hb5 r1 r2 hx5 hkl;unfold val6))
    | (go_at_call 51;go_loud (refine (hWi.out _ ((z4'.out.trans (B5.out.mono z4'.out.size)).alloc (by omega) _)).mono ?_;rintro e w6 ⟨rfl,k6,hw6⟩;rw [v4.out];have B6:=Lib.hid (show Below w.heap.size w w6 from by rw [hw6];exact draws ((z4'.out.trans (B5.out.mono z4'.out.size)).alloc (by omega) _) _);have r1:=(show w6.heap[w.heap.size]? = some (.cells (val6 t aA an ac kA kn kc) 33 (0,0)) from by rw [hw6];exact (Go.heap_alloc_old _ _ hs6).trans (hbx.out w5 B5.out).1);have r2:=(show w6.heap[w.heap.size + 1]? = some (.cells (opCells o s) 26 (0,0)) from by rw [hw6];exact (Go.heap_alloc_old _ _ hs5).trans (hbx.out w5 B5.out).2);clear o0 o1 o2 o3 o4 o5 o6 o7 o8 o9 o10 p0 p1 p2 p3 p4 p5 pf;obtain ⟨o0,o1,o2,o3,o4,o5,o6,o7,o8,o9,o10⟩:=op_cells r2;unfold val6 at r1;obtain ⟨p0,p1,p2,p3,p4,p5,pf⟩:=six_cells r1;clear hw6 r1 r2 u0 u1 u2 u3 u10 v0' v1' v2' v3' v4' v5')))
  go_ret
  exact ⟨rfl,B7.out.alloc B7.out.size _⟩
set_option maxHeartbeats 4000000 in
theorem rv_k3c (w:World) (t:Nd) (aA kA:Option Addr) (an ac kn kc:Nat) (o:Ov) (s:OS) (h:NodeV (Old w) w aA an ac kA kn kc t) (ho:OpIn w o s) (hbig:weighV t≤100000) (hr:rightV ltB t = true) (hf:formedV o = true) (hk:o.kind = 3) (hp:o.path ≠ []) (x:Nd) (hx:atV t o.path = some x) (hw:P4.withinV o.path o.to_ = false) (y:Nd) (hy:atV t o.to_ = some y) :
    Calls Try.prog 16 #[.agg (val6 t aA an ac kA kn kc),.agg (opCells o s)] w fun e w'=>e = .returned (.int .i64 (gapE y o.at_))∧Below w.heap.size w w':=by
  obtain ⟨W2,hW2⟩:∃ W2,W2 = (w.alloc (.cells (val6 t aA an ac kA kn kc) 33)).alloc (.cells (opCells o s) 26):=⟨_,rfl⟩
  have z1:W2.heap[w.heap.size]? = some (.cells (val6 t aA an ac kA kn kc) 33 (0,0)):=by rw [hW2];exact (Go.heap_alloc_old _ _ (by simp)).trans (heap_alloc_new w _)
  have z2:W2.heap[w.heap.size + 1]? = some (.cells (opCells o s) 26 (0,0)):=by rw [hW2];have h1:=heap_alloc_new (w.alloc (.cells (val6 t aA an ac kA kn kc) 33)) (.cells (opCells o s) 26);rw [World.size_alloc] at h1;exact h1
  have z4':=Lib.hid (show Below w.heap.size w W2 by rw [hW2];exact ((Below.refl _ _).alloc (Nat.le_refl _) _).alloc (by simp) _)
  have z5:W2.heap.size = w.heap.size + 1 + 1:=by rw [hW2];simp
  have hR:=Lib.hid (fun (W:World) (hb:Below w.heap.size w W)=>rRight_any W t aA kA an ac kn kc (h.below hb))
  have hF:=Lib.hid (fun (W:World) (hb:Below w.heap.size w W)=>rformed_any W o s (ho.below hb))
  have hA:=Lib.hid (fun (W:World) (hb:Below w.heap.size w W)=>rat_any W t aA kA an ac kn kc (h.below hb) s.pA s.pn s.pc o.path (ho.path.below hb) (Nat.le_trans ho.pnc ho.pcm))
  have hA2:=Lib.hid (fun (W:World) (hb:Below w.heap.size w W)=>rat_any W t aA kA an ac kn kc (h.below hb) s.tA s.tn s.tc o.to_ (ho.to_.below hb) (Nat.le_trans ho.tnc ho.tcm))
  have hWi:=Lib.hid (fun (W:World) (hb:Below w.heap.size w W)=>P4.refWithin_any W s.pA s.tA s.pn s.pc s.tn s.tc o.path o.to_ (its4 (ho.path.below hb)) (its4 (ho.to_.below hb)) (Nat.le_trans ho.pnc ho.pcm) (Nat.le_trans ho.tnc ho.tcm))
  have hop:=Lib.hid (fun (W:World) (hb:Below w.heap.size w W)=>ho.below hb)
  have hlen:=Lib.hid ho.path.1
  have hz1:=Lib.hid z1
  have hz2:=Lib.hid z2
  have hz5:=Lib.hid z5
  have hkr:=ho.kind
  have hbg:=Lib.hid hbig
  obtain ⟨o0,o1,o2,o3,o4,o5,o6,o7,o8,o9,o10⟩:=op_cells z2
  have z1u:=z1
  unfold val6 at z1u
  obtain ⟨p0,p1,p2,p3,p4,p5,pf⟩:=six_cells z1u
  clear h ho z1 z1u z2 z5 hbig
  rw [hW2] at o0 o1 o2 o3 o4 o5 o6 o7 o8 o9 o10 p0 p1 p2 p3 p4 p5 pf
  unfold opCells at hF
  unfold val6 at hR hA hA2
  unfold val6 opCells at hW2 o0 o1 o2 o3 o4 o5 o6 o7 o8 o9 o10 p0 p1 p2 p3 p4 p5
  unfold val6 opCells
  have hbx:=Lib.hid (fun (W:World) (hb:Below W2.heap.size W2 W)=>show W.heap[w.heap.size]? = some (.cells (val6 t aA an ac kA kn kc) 33 (0,0))∧W.heap[w.heap.size + 1]? = some (.cells (opCells o s) 26 (0,0)) from ⟨(hb.block _ (by have:=hz5.out;omega)).trans hz1.out,(hb.block _ (by have:=hz5.out;omega)).trans hz2.out⟩)
  have v1:=Lib.hid hr
  clear hr
  have v2:=Lib.hid hf
  clear hf
  have v3:=Lib.hid hx
  clear hx
  have b1:((o.kind:Int) == 1) = false:=by simp;omega
  have b2:((o.kind:Int) == 2) = false:=by simp;omega
  have b3:((o.kind:Int) == 3) = true:=by simp;omega
  have b6:((o.kind:Int) == 6) = false:=by simp;omega
  have hn1:((s.pn:Int) == 0) = false:=by have:=hlen.out;have:o.path.length ≠ 0:=fun e=>hp (List.eq_nil_of_length_eq_zero e);simp;omega
  have v4:=Lib.hid hw
  have v5:=Lib.hid hy
  clear hk hp hkr hw hy
  go_enter Try.func16,Try.ntmps16
  go_wp2_with (first
    | (go_at_call 48;go_loud (refine (hR.out _ (by rw [← hW2];exact z4'.out)).mono ?_;rw [← hW2];rintro e w3 ⟨rfl,hb3⟩;rw [v1.out];have B3:=Lib.hid hb3;obtain ⟨r1,r2⟩:=hbx.out w3 hb3;clear o0 o1 o2 o3 o4 o5 o6 o7 o8 o9 o10 p0 p1 p2 p3 p4 p5 pf;obtain ⟨o0,o1,o2,o3,o4,o5,o6,o7,o8,o9,o10⟩:=op_cells r2;unfold val6 at r1;obtain ⟨p0,p1,p2,p3,p4,p5,pf⟩:=six_cells r1;clear hb3 r1 r2))
    | (go_at_call 12;go_loud (refine (hF.out w3 (z4'.out.trans (B3.out.mono z4'.out.size))).mono ?_;rintro e w4 ⟨rfl,hb4⟩;rw [v2.out];have B4:=Lib.hid (B3.out.trans (hb4.mono B3.out.size));obtain ⟨r1,r2⟩:=hbx.out w4 B4.out;clear o0 o1 o2 o3 o4 o5 o6 o7 o8 o9 o10 p0 p1 p2 p3 p4 p5 pf;obtain ⟨o0,o1,o2,o3,o4,o5,o6,o7,o8,o9,o10⟩:=op_cells r2;unfold val6 at r1;obtain ⟨p0,p1,p2,p3,p4,p5,pf⟩:=six_cells r1;clear hb4 r1 r2))
    | (go_at_call 49;go_loud (refine (hA2.out w6 B6.out).mono ?_;rintro e w7 ⟨yA,yn,yc,yK,ym,yd,rfl,hy7,hb7⟩;rw [v5.out] at hy7 ⊢;have B7:=Lib.hid (B6.out.trans (hb7.mono B6.out.size));have hs7:w.heap.size + 1 < w7.heap.size:=(by have:=(World.block_lt_of_cell? _ _ o0);have:=hb7.size;dsimp only at *;omega);have o2':=(hb7.cell (p:=⟨w.heap.size + 1,2,none⟩) (World.block_lt_of_cell? _ _ o2)).trans o2;have u2:=fun O=>(World.cell?_alloc_lt w7 O ⟨w.heap.size + 1,2,none⟩ hs7).trans o2';have hkl:=hy7.facts.kl;have hkl':=Lib.hid hkl;clear hb7 hy7 hkl;unfold val6))
    | (go_at_call 49;go_loud (refine (hA.out w4 (z4'.out.trans (B4.out.mono z4'.out.size))).mono ?_;rintro e w5 ⟨xA,xn,xc,xK,xm,xd,rfl,hx5,hb5⟩;rw [v3.out] at hx5 ⊢;have B5:=Lib.hid (B4.out.trans (hb5.mono B4.out.size));obtain ⟨r1,r2⟩:=hbx.out w5 B5.out;have hs5:w.heap.size + 1 < w5.heap.size:=(by have:=B5.out.size;have:=hz5.out;omega);have hs6:w.heap.size < w5.heap.size:=(by omega);have hq1:w5.heap.size ≠ w.heap.size:=(by omega);have hq2:w5.heap.size ≠ w.heap.size + 1:=(by omega);clear o0 o1 o2 o3 o4 o5 o6 o7 o8 o9 o10 p0 p1 p2 p3 p4 p5 pf;obtain ⟨o0,o1,o2,o3,o4,o5,o6,o7,o8,o9,o10⟩:=op_cells r2;unfold val6 at r1;obtain ⟨p0,p1,p2,p3,p4,p5,pf⟩:=six_cells r1;have uu:=fun O j v (h:w5.cell? ⟨w.heap.size + 1,j,none⟩ = some v)=>(World.cell?_alloc_lt w5 O ⟨w.heap.size + 1,j,none⟩ hs5).trans h;have u0:=fun O=>uu O 0 _ o0;have u1:=fun O=>uu O 1 _ o1;have u2:=fun O=>uu O 2 _ o2;have u3:=fun O=>uu O 3 _ o3;have u10:=fun O=>uu O 10 _ o10;have vv:=fun O j v (h:w5.cell? ⟨w.heap.size,j,none⟩ = some v)=>(World.cell?_alloc_lt w5 O ⟨w.heap.size,j,none⟩ hs6).trans h;have v0':=fun O=>vv O 0 _ p0;have v1':=fun O=>vv O 1 _ p1;have v2':=fun O=>vv O 2 _ p2;have v3':=fun O=>vv O 3 _ p3;have v4':=fun O=>vv O 4 _ p4;have v5':=fun O=>vv O 5 _ p5;have hkl:=hx5.facts.kl;have hkl':=Lib.hid hkl;clear uu vv hb5 r1 r2 hx5 hkl;unfold val6))
    | (go_at_call 51;go_loud (refine (hWi.out _ ((z4'.out.trans (B5.out.mono z4'.out.size)).alloc (by omega) _)).mono ?_;rintro e w6 ⟨rfl,k6,hw6⟩;rw [v4.out];have B6:=Lib.hid (show Below w.heap.size w w6 from by rw [hw6];exact draws ((z4'.out.trans (B5.out.mono z4'.out.size)).alloc (by omega) _) _);have r1:=(show w6.heap[w.heap.size]? = some (.cells (val6 t aA an ac kA kn kc) 33 (0,0)) from by rw [hw6];exact (Go.heap_alloc_old _ _ hs6).trans (hbx.out w5 B5.out).1);have r2:=(show w6.heap[w.heap.size + 1]? = some (.cells (opCells o s) 26 (0,0)) from by rw [hw6];exact (Go.heap_alloc_old _ _ hs5).trans (hbx.out w5 B5.out).2);clear o0 o1 o2 o3 o4 o5 o6 o7 o8 o9 o10 p0 p1 p2 p3 p4 p5 pf;obtain ⟨o0,o1,o2,o3,o4,o5,o6,o7,o8,o9,o10⟩:=op_cells r2;unfold val6 at r1;obtain ⟨p0,p1,p2,p3,p4,p5,pf⟩:=six_cells r1;clear hw6 r1 r2 u0 u1 u2 u3 u10 v0' v1' v2' v3' v4' v5'))
    | (go_at_call 50;go_loud (refine (rinto_any _ y yA yK yn yc ym yd hkl'.out o.at_).mono ?_;rintro e w8 ⟨rfl,hb8⟩;have B8:=Lib.hid ((B7.out.alloc B7.out.size _).trans (hb8.mono (by rw [World.size_alloc];have:=B7.out.size;omega)));clear hb8)))
  go_ret
  exact ⟨rfl,B8.out⟩
set_option maxHeartbeats 4000000 in
theorem rv_k6a (w:World) (t:Nd) (aA kA:Option Addr) (an ac kn kc:Nat) (o:Ov) (s:OS) (h:NodeV (Old w) w aA an ac kA kn kc t) (ho:OpIn w o s) (hbig:weighV t≤100000) (hr:rightV ltB t = true) (hf:formedV o = true) (hk:o.kind = 6) (x:Nd) (hx:atV t o.path = some x) (hl:x.leaf = false) :
    Calls Try.prog 16 #[.agg (val6 t aA an ac kA kn kc),.agg (opCells o s)] w fun e w'=>e = .returned (.int .i64 83)∧Below w.heap.size w w':=by
  obtain ⟨W2,hW2⟩:∃ W2,W2 = (w.alloc (.cells (val6 t aA an ac kA kn kc) 33)).alloc (.cells (opCells o s) 26):=⟨_,rfl⟩
  have z1:W2.heap[w.heap.size]? = some (.cells (val6 t aA an ac kA kn kc) 33 (0,0)):=by rw [hW2];exact (Go.heap_alloc_old _ _ (by simp)).trans (heap_alloc_new w _)
  have z2:W2.heap[w.heap.size + 1]? = some (.cells (opCells o s) 26 (0,0)):=by rw [hW2];have h1:=heap_alloc_new (w.alloc (.cells (val6 t aA an ac kA kn kc) 33)) (.cells (opCells o s) 26);rw [World.size_alloc] at h1;exact h1
  have z4':=Lib.hid (show Below w.heap.size w W2 by rw [hW2];exact ((Below.refl _ _).alloc (Nat.le_refl _) _).alloc (by simp) _)
  have z5:W2.heap.size = w.heap.size + 1 + 1:=by rw [hW2];simp
  have hR:=Lib.hid (fun (W:World) (hb:Below w.heap.size w W)=>rRight_any W t aA kA an ac kn kc (h.below hb))
  have hF:=Lib.hid (fun (W:World) (hb:Below w.heap.size w W)=>rformed_any W o s (ho.below hb))
  have hA:=Lib.hid (fun (W:World) (hb:Below w.heap.size w W)=>rat_any W t aA kA an ac kn kc (h.below hb) s.pA s.pn s.pc o.path (ho.path.below hb) (Nat.le_trans ho.pnc ho.pcm))
  have hA2:=Lib.hid (fun (W:World) (hb:Below w.heap.size w W)=>rat_any W t aA kA an ac kn kc (h.below hb) s.tA s.tn s.tc o.to_ (ho.to_.below hb) (Nat.le_trans ho.tnc ho.tcm))
  have hWi:=Lib.hid (fun (W:World) (hb:Below w.heap.size w W)=>P4.refWithin_any W s.pA s.tA s.pn s.pc s.tn s.tc o.path o.to_ (its4 (ho.path.below hb)) (its4 (ho.to_.below hb)) (Nat.le_trans ho.pnc ho.pcm) (Nat.le_trans ho.tnc ho.tcm))
  have hop:=Lib.hid (fun (W:World) (hb:Below w.heap.size w W)=>ho.below hb)
  have hlen:=Lib.hid ho.path.1
  have hz1:=Lib.hid z1
  have hz2:=Lib.hid z2
  have hz5:=Lib.hid z5
  have hkr:=ho.kind
  have hbg:=Lib.hid hbig
  obtain ⟨o0,o1,o2,o3,o4,o5,o6,o7,o8,o9,o10⟩:=op_cells z2
  have z1u:=z1
  unfold val6 at z1u
  obtain ⟨p0,p1,p2,p3,p4,p5,pf⟩:=six_cells z1u
  clear h ho z1 z1u z2 z5 hbig
  rw [hW2] at o0 o1 o2 o3 o4 o5 o6 o7 o8 o9 o10 p0 p1 p2 p3 p4 p5 pf
  unfold opCells at hF
  unfold val6 at hR hA hA2
  unfold val6 opCells at hW2 o0 o1 o2 o3 o4 o5 o6 o7 o8 o9 o10 p0 p1 p2 p3 p4 p5
  unfold val6 opCells
  have hbx:=Lib.hid (fun (W:World) (hb:Below W2.heap.size W2 W)=>show W.heap[w.heap.size]? = some (.cells (val6 t aA an ac kA kn kc) 33 (0,0))∧W.heap[w.heap.size + 1]? = some (.cells (opCells o s) 26 (0,0)) from ⟨(hb.block _ (by have:=hz5.out;omega)).trans hz1.out,(hb.block _ (by have:=hz5.out;omega)).trans hz2.out⟩)
  have v1:=Lib.hid hr
  clear hr
  have v2:=Lib.hid hf
  clear hf
  have v3:=Lib.hid hx
  clear hx
  have b1:((o.kind:Int) == 1) = false:=by simp;omega
  have b2:((o.kind:Int) == 2) = false:=by simp;omega
  have b3:((o.kind:Int) == 3) = false:=by simp;omega
  have b6:((o.kind:Int) == 6) = true:=by simp;omega
  clear hk hkr
  go_enter Try.func16,Try.ntmps16
  go_wp2_with (first
    | (go_at_call 48;go_loud (refine (hR.out _ (by rw [← hW2];exact z4'.out)).mono ?_;rw [← hW2];rintro e w3 ⟨rfl,hb3⟩;rw [v1.out];have B3:=Lib.hid hb3;obtain ⟨r1,r2⟩:=hbx.out w3 hb3;clear o0 o1 o2 o3 o4 o5 o6 o7 o8 o9 o10 p0 p1 p2 p3 p4 p5 pf;obtain ⟨o0,o1,o2,o3,o4,o5,o6,o7,o8,o9,o10⟩:=op_cells r2;unfold val6 at r1;obtain ⟨p0,p1,p2,p3,p4,p5,pf⟩:=six_cells r1;clear hb3 r1 r2))
    | (go_at_call 12;go_loud (refine (hF.out w3 (z4'.out.trans (B3.out.mono z4'.out.size))).mono ?_;rintro e w4 ⟨rfl,hb4⟩;rw [v2.out];have B4:=Lib.hid (B3.out.trans (hb4.mono B3.out.size));obtain ⟨r1,r2⟩:=hbx.out w4 B4.out;clear o0 o1 o2 o3 o4 o5 o6 o7 o8 o9 o10 p0 p1 p2 p3 p4 p5 pf;obtain ⟨o0,o1,o2,o3,o4,o5,o6,o7,o8,o9,o10⟩:=op_cells r2;unfold val6 at r1;obtain ⟨p0,p1,p2,p3,p4,p5,pf⟩:=six_cells r1;clear hb4 r1 r2))
    | (go_at_call 49;go_loud (refine (hA.out w4 (z4'.out.trans (B4.out.mono z4'.out.size))).mono ?_;rintro e w5 ⟨xA,xn,xc,xK,xm,xd,rfl,hx5,hb5⟩;rw [v3.out] at hx5 ⊢;have B5:=Lib.hid (B4.out.trans (hb5.mono B4.out.size));obtain ⟨r1,r2⟩:=hbx.out w5 B5.out;have hs5:w.heap.size + 1 < w5.heap.size:=(by have:=B5.out.size;have:=hz5.out;omega);have hs6:w.heap.size < w5.heap.size:=(by omega);have hq1:w5.heap.size ≠ w.heap.size:=(by omega);have hq2:w5.heap.size ≠ w.heap.size + 1:=(by omega);clear o0 o1 o2 o3 o4 o5 o6 o7 o8 o9 o10 p0 p1 p2 p3 p4 p5 pf;obtain ⟨o0,o1,o2,o3,o4,o5,o6,o7,o8,o9,o10⟩:=op_cells r2;unfold val6 at r1;obtain ⟨p0,p1,p2,p3,p4,p5,pf⟩:=six_cells r1;have uu:=fun O j v (h:w5.cell? ⟨w.heap.size + 1,j,none⟩ = some v)=>(World.cell?_alloc_lt w5 O ⟨w.heap.size + 1,j,none⟩ hs5).trans h;have u0:=fun O=>uu O 0 _ o0;have u1:=fun O=>uu O 1 _ o1;have u2:=fun O=>uu O 2 _ o2;have u3:=fun O=>uu O 3 _ o3;have u10:=fun O=>uu O 10 _ o10;have vv:=fun O j v (h:w5.cell? ⟨w.heap.size,j,none⟩ = some v)=>(World.cell?_alloc_lt w5 O ⟨w.heap.size,j,none⟩ hs6).trans h;have v0':=fun O=>vv O 0 _ p0;have v1':=fun O=>vv O 1 _ p1;have v2':=fun O=>vv O 2 _ p2;have v3':=fun O=>vv O 3 _ p3;have v4':=fun O=>vv O 4 _ p4;have v5':=fun O=>vv O 5 _ p5;have hkl:=hx5.facts.kl;have hkl':=Lib.hid hkl;clear uu vv hb5 r1 r2 hx5 hkl;unfold val6)))
  go_ret
  exact ⟨rfl,(z4'.out.trans (B5.out.mono z4'.out.size)).alloc (by omega) _⟩
set_option maxHeartbeats 4000000 in
theorem rv_k6b (w:World) (t:Nd) (aA kA:Option Addr) (an ac kn kc:Nat) (o:Ov) (s:OS) (h:NodeV (Old w) w aA an ac kA kn kc t) (ho:OpIn w o s) (hbig:weighV t≤100000) (hr:rightV ltB t = true) (hf:formedV o = true) (hk:o.kind = 6) (x:Nd) (hx:atV t o.path = some x) (hl:x.leaf = true) (hrp:P5.rightV o.pieces = true) (hft:Ltx.extent (pcs o.pieces)≤x.text.length) :
    Calls Try.prog 16 #[.agg (val6 t aA an ac kA kn kc),.agg (opCells o s)] w fun e w'=>e = .returned (.int .i64 0)∧Below w.heap.size w w':=by
  obtain ⟨W2,hW2⟩:∃ W2,W2 = (w.alloc (.cells (val6 t aA an ac kA kn kc) 33)).alloc (.cells (opCells o s) 26):=⟨_,rfl⟩
  have z1:W2.heap[w.heap.size]? = some (.cells (val6 t aA an ac kA kn kc) 33 (0,0)):=by rw [hW2];exact (Go.heap_alloc_old _ _ (by simp)).trans (heap_alloc_new w _)
  have z2:W2.heap[w.heap.size + 1]? = some (.cells (opCells o s) 26 (0,0)):=by rw [hW2];have h1:=heap_alloc_new (w.alloc (.cells (val6 t aA an ac kA kn kc) 33)) (.cells (opCells o s) 26);rw [World.size_alloc] at h1;exact h1
  have z4':=Lib.hid (show Below w.heap.size w W2 by rw [hW2];exact ((Below.refl _ _).alloc (Nat.le_refl _) _).alloc (by simp) _)
  have z5:W2.heap.size = w.heap.size + 1 + 1:=by rw [hW2];simp
  have hR:=Lib.hid (fun (W:World) (hb:Below w.heap.size w W)=>rRight_any W t aA kA an ac kn kc (h.below hb))
  have hF:=Lib.hid (fun (W:World) (hb:Below w.heap.size w W)=>rformed_any W o s (ho.below hb))
  have hA:=Lib.hid (fun (W:World) (hb:Below w.heap.size w W)=>rat_any W t aA kA an ac kn kc (h.below hb) s.pA s.pn s.pc o.path (ho.path.below hb) (Nat.le_trans ho.pnc ho.pcm))
  have hA2:=Lib.hid (fun (W:World) (hb:Below w.heap.size w W)=>rat_any W t aA kA an ac kn kc (h.below hb) s.tA s.tn s.tc o.to_ (ho.to_.below hb) (Nat.le_trans ho.tnc ho.tcm))
  have hWi:=Lib.hid (fun (W:World) (hb:Below w.heap.size w W)=>P4.refWithin_any W s.pA s.tA s.pn s.pc s.tn s.tc o.path o.to_ (its4 (ho.path.below hb)) (its4 (ho.to_.below hb)) (Nat.le_trans ho.pnc ho.pcm) (Nat.le_trans ho.tnc ho.tcm))
  have hop:=Lib.hid (fun (W:World) (hb:Below w.heap.size w W)=>ho.below hb)
  have hlen:=Lib.hid ho.path.1
  have hz1:=Lib.hid z1
  have hz2:=Lib.hid z2
  have hz5:=Lib.hid z5
  have hkr:=ho.kind
  have hbg:=Lib.hid hbig
  obtain ⟨o0,o1,o2,o3,o4,o5,o6,o7,o8,o9,o10⟩:=op_cells z2
  have z1u:=z1
  unfold val6 at z1u
  obtain ⟨p0,p1,p2,p3,p4,p5,pf⟩:=six_cells z1u
  clear h ho z1 z1u z2 z5 hbig
  rw [hW2] at o0 o1 o2 o3 o4 o5 o6 o7 o8 o9 o10 p0 p1 p2 p3 p4 p5 pf
  unfold opCells at hF
  unfold val6 at hR hA hA2
  unfold val6 opCells at hW2 o0 o1 o2 o3 o4 o5 o6 o7 o8 o9 o10 p0 p1 p2 p3 p4 p5
  unfold val6 opCells
  have hbx:=Lib.hid (fun (W:World) (hb:Below W2.heap.size W2 W)=>show W.heap[w.heap.size]? = some (.cells (val6 t aA an ac kA kn kc) 33 (0,0))∧W.heap[w.heap.size + 1]? = some (.cells (opCells o s) 26 (0,0)) from ⟨(hb.block _ (by have:=hz5.out;omega)).trans hz1.out,(hb.block _ (by have:=hz5.out;omega)).trans hz2.out⟩)
  have hpr:=pcs_right hrp
  have hxl:=at_text hx (show weighV t≤1000000 by have:=hbg.out;omega)
  have hap:=Lib.hid (fun (W:World) (hb:Below w.heap.size w W)=>P5.rapply_ok W x.text s.qA s.qn s.qc (pcs o.pieces) (by rw [hpr];exact (hop.out W hb).pieces) (Nat.le_trans (hop.out W hb).qnc (hop.out W hb).qcm) hxl (by rw [hpr];exact hrp) hft)
  clear hpr hrp hft hxl
  have v1:=Lib.hid hr
  clear hr
  have v2:=Lib.hid hf
  clear hf
  have v3:=Lib.hid hx
  clear hx
  have b1:((o.kind:Int) == 1) = false:=by simp;omega
  have b2:((o.kind:Int) == 2) = false:=by simp;omega
  have b3:((o.kind:Int) == 3) = false:=by simp;omega
  have b6:((o.kind:Int) == 6) = true:=by simp;omega
  clear hk hkr
  go_enter Try.func16,Try.ntmps16
  go_wp2_with (first
    | (go_at_call 48;go_loud (refine (hR.out _ (by rw [← hW2];exact z4'.out)).mono ?_;rw [← hW2];rintro e w3 ⟨rfl,hb3⟩;rw [v1.out];have B3:=Lib.hid hb3;obtain ⟨r1,r2⟩:=hbx.out w3 hb3;clear o0 o1 o2 o3 o4 o5 o6 o7 o8 o9 o10 p0 p1 p2 p3 p4 p5 pf;obtain ⟨o0,o1,o2,o3,o4,o5,o6,o7,o8,o9,o10⟩:=op_cells r2;unfold val6 at r1;obtain ⟨p0,p1,p2,p3,p4,p5,pf⟩:=six_cells r1;clear hb3 r1 r2))
    | (go_at_call 12;go_loud (refine (hF.out w3 (z4'.out.trans (B3.out.mono z4'.out.size))).mono ?_;rintro e w4 ⟨rfl,hb4⟩;rw [v2.out];have B4:=Lib.hid (B3.out.trans (hb4.mono B3.out.size));obtain ⟨r1,r2⟩:=hbx.out w4 B4.out;clear o0 o1 o2 o3 o4 o5 o6 o7 o8 o9 o10 p0 p1 p2 p3 p4 p5 pf;obtain ⟨o0,o1,o2,o3,o4,o5,o6,o7,o8,o9,o10⟩:=op_cells r2;unfold val6 at r1;obtain ⟨p0,p1,p2,p3,p4,p5,pf⟩:=six_cells r1;clear hb4 r1 r2))
    | (go_at_call 49;go_loud (refine (hA.out w4 (z4'.out.trans (B4.out.mono z4'.out.size))).mono ?_;rintro e w5 ⟨xA,xn,xc,xK,xm,xd,rfl,hx5,hb5⟩;rw [v3.out] at hx5 ⊢;have B5:=Lib.hid (B4.out.trans (hb5.mono B4.out.size));obtain ⟨r1,r2⟩:=hbx.out w5 B5.out;have hs5:w.heap.size + 1 < w5.heap.size:=(by have:=B5.out.size;have:=hz5.out;omega);have hs6:w.heap.size < w5.heap.size:=(by omega);have hq1:w5.heap.size ≠ w.heap.size:=(by omega);have hq2:w5.heap.size ≠ w.heap.size + 1:=(by omega);clear o0 o1 o2 o3 o4 o5 o6 o7 o8 o9 o10 p0 p1 p2 p3 p4 p5 pf;obtain ⟨o0,o1,o2,o3,o4,o5,o6,o7,o8,o9,o10⟩:=op_cells r2;unfold val6 at r1;obtain ⟨p0,p1,p2,p3,p4,p5,pf⟩:=six_cells r1;have uu:=fun O j v (h:w5.cell? ⟨w.heap.size + 1,j,none⟩ = some v)=>(World.cell?_alloc_lt w5 O ⟨w.heap.size + 1,j,none⟩ hs5).trans h;have u0:=fun O=>uu O 0 _ o0;have u1:=fun O=>uu O 1 _ o1;have u2:=fun O=>uu O 2 _ o2;have u3:=fun O=>uu O 3 _ o3;have u10:=fun O=>uu O 10 _ o10;have vv:=fun O j v (h:w5.cell? ⟨w.heap.size,j,none⟩ = some v)=>(World.cell?_alloc_lt w5 O ⟨w.heap.size,j,none⟩ hs6).trans h;have v0':=fun O=>vv O 0 _ p0;have v1':=fun O=>vv O 1 _ p1;have v2':=fun O=>vv O 2 _ p2;have v3':=fun O=>vv O 3 _ p3;have v4':=fun O=>vv O 4 _ p4;have v5':=fun O=>vv O 5 _ p5;have hkl:=hx5.facts.kl;have hkl':=Lib.hid hkl;clear uu vv hb5 r1 r2 hx5 hkl;unfold val6))
    | (go_at_call 52;go_loud (refine (hap.out _ ((z4'.out.trans (B5.out.mono z4'.out.size)).alloc (by omega) _)).mono ?_;rintro e w6 ⟨rfl,hb6⟩;have B6:=Lib.hid (((z4'.out.trans (B5.out.mono z4'.out.size)).alloc (by omega) _).trans (hb6.mono (by rw [World.size_alloc];omega)));clear hb6)))
  go_ret
  exact ⟨rfl,B6.out⟩
set_option maxHeartbeats 4000000 in
theorem rv_k6c (w:World) (t:Nd) (aA kA:Option Addr) (an ac kn kc:Nat) (o:Ov) (s:OS) (h:NodeV (Old w) w aA an ac kA kn kc t) (ho:OpIn w o s) (hbig:weighV t≤100000) (hr:rightV ltB t = true) (hf:formedV o = true) (hk:o.kind = 6) (x:Nd) (hx:atV t o.path = some x) (hl:x.leaf = true) (hrp:P5.rightV o.pieces = true) (hft:x.text.length < Ltx.extent (pcs o.pieces)) :
    Calls Try.prog 16 #[.agg (val6 t aA an ac kA kn kc),.agg (opCells o s)] w fun e w'=>e = .returned (.int .i64 50)∧Below w.heap.size w w':=by
  obtain ⟨W2,hW2⟩:∃ W2,W2 = (w.alloc (.cells (val6 t aA an ac kA kn kc) 33)).alloc (.cells (opCells o s) 26):=⟨_,rfl⟩
  have z1:W2.heap[w.heap.size]? = some (.cells (val6 t aA an ac kA kn kc) 33 (0,0)):=by rw [hW2];exact (Go.heap_alloc_old _ _ (by simp)).trans (heap_alloc_new w _)
  have z2:W2.heap[w.heap.size + 1]? = some (.cells (opCells o s) 26 (0,0)):=by rw [hW2];have h1:=heap_alloc_new (w.alloc (.cells (val6 t aA an ac kA kn kc) 33)) (.cells (opCells o s) 26);rw [World.size_alloc] at h1;exact h1
  have z4':=Lib.hid (show Below w.heap.size w W2 by rw [hW2];exact ((Below.refl _ _).alloc (Nat.le_refl _) _).alloc (by simp) _)
  have z5:W2.heap.size = w.heap.size + 1 + 1:=by rw [hW2];simp
  have hR:=Lib.hid (fun (W:World) (hb:Below w.heap.size w W)=>rRight_any W t aA kA an ac kn kc (h.below hb))
  have hF:=Lib.hid (fun (W:World) (hb:Below w.heap.size w W)=>rformed_any W o s (ho.below hb))
  have hA:=Lib.hid (fun (W:World) (hb:Below w.heap.size w W)=>rat_any W t aA kA an ac kn kc (h.below hb) s.pA s.pn s.pc o.path (ho.path.below hb) (Nat.le_trans ho.pnc ho.pcm))
  have hA2:=Lib.hid (fun (W:World) (hb:Below w.heap.size w W)=>rat_any W t aA kA an ac kn kc (h.below hb) s.tA s.tn s.tc o.to_ (ho.to_.below hb) (Nat.le_trans ho.tnc ho.tcm))
  have hWi:=Lib.hid (fun (W:World) (hb:Below w.heap.size w W)=>P4.refWithin_any W s.pA s.tA s.pn s.pc s.tn s.tc o.path o.to_ (its4 (ho.path.below hb)) (its4 (ho.to_.below hb)) (Nat.le_trans ho.pnc ho.pcm) (Nat.le_trans ho.tnc ho.tcm))
  have hop:=Lib.hid (fun (W:World) (hb:Below w.heap.size w W)=>ho.below hb)
  have hlen:=Lib.hid ho.path.1
  have hz1:=Lib.hid z1
  have hz2:=Lib.hid z2
  have hz5:=Lib.hid z5
  have hkr:=ho.kind
  have hbg:=Lib.hid hbig
  obtain ⟨o0,o1,o2,o3,o4,o5,o6,o7,o8,o9,o10⟩:=op_cells z2
  have z1u:=z1
  unfold val6 at z1u
  obtain ⟨p0,p1,p2,p3,p4,p5,pf⟩:=six_cells z1u
  clear h ho z1 z1u z2 z5 hbig
  rw [hW2] at o0 o1 o2 o3 o4 o5 o6 o7 o8 o9 o10 p0 p1 p2 p3 p4 p5 pf
  unfold opCells at hF
  unfold val6 at hR hA hA2
  unfold val6 opCells at hW2 o0 o1 o2 o3 o4 o5 o6 o7 o8 o9 o10 p0 p1 p2 p3 p4 p5
  unfold val6 opCells
  have hbx:=Lib.hid (fun (W:World) (hb:Below W2.heap.size W2 W)=>show W.heap[w.heap.size]? = some (.cells (val6 t aA an ac kA kn kc) 33 (0,0))∧W.heap[w.heap.size + 1]? = some (.cells (opCells o s) 26 (0,0)) from ⟨(hb.block _ (by have:=hz5.out;omega)).trans hz1.out,(hb.block _ (by have:=hz5.out;omega)).trans hz2.out⟩)
  have hpr:=pcs_right hrp
  have hxl:=at_text hx (show weighV t≤1000000 by have:=hbg.out;omega)
  have hap:=Lib.hid (fun (W:World) (hb:Below w.heap.size w W)=>P5.rapply_far W x.text s.qA s.qn s.qc (pcs o.pieces) (by rw [hpr];exact (hop.out W hb).pieces) (Nat.le_trans (hop.out W hb).qnc (hop.out W hb).qcm) hxl (by rw [hpr];exact hrp) hft)
  clear hpr hrp hft hxl
  have v1:=Lib.hid hr
  clear hr
  have v2:=Lib.hid hf
  clear hf
  have v3:=Lib.hid hx
  clear hx
  have b1:((o.kind:Int) == 1) = false:=by simp;omega
  have b2:((o.kind:Int) == 2) = false:=by simp;omega
  have b3:((o.kind:Int) == 3) = false:=by simp;omega
  have b6:((o.kind:Int) == 6) = true:=by simp;omega
  clear hk hkr
  go_enter Try.func16,Try.ntmps16
  go_wp2_with (first
    | (go_at_call 48;go_loud (refine (hR.out _ (by rw [← hW2];exact z4'.out)).mono ?_;rw [← hW2];rintro e w3 ⟨rfl,hb3⟩;rw [v1.out];have B3:=Lib.hid hb3;obtain ⟨r1,r2⟩:=hbx.out w3 hb3;clear o0 o1 o2 o3 o4 o5 o6 o7 o8 o9 o10 p0 p1 p2 p3 p4 p5 pf;obtain ⟨o0,o1,o2,o3,o4,o5,o6,o7,o8,o9,o10⟩:=op_cells r2;unfold val6 at r1;obtain ⟨p0,p1,p2,p3,p4,p5,pf⟩:=six_cells r1;clear hb3 r1 r2))
    | (go_at_call 12;go_loud (refine (hF.out w3 (z4'.out.trans (B3.out.mono z4'.out.size))).mono ?_;rintro e w4 ⟨rfl,hb4⟩;rw [v2.out];have B4:=Lib.hid (B3.out.trans (hb4.mono B3.out.size));obtain ⟨r1,r2⟩:=hbx.out w4 B4.out;clear o0 o1 o2 o3 o4 o5 o6 o7 o8 o9 o10 p0 p1 p2 p3 p4 p5 pf;obtain ⟨o0,o1,o2,o3,o4,o5,o6,o7,o8,o9,o10⟩:=op_cells r2;unfold val6 at r1;obtain ⟨p0,p1,p2,p3,p4,p5,pf⟩:=six_cells r1;clear hb4 r1 r2))
    | (go_at_call 49;go_loud (refine (hA.out w4 (z4'.out.trans (B4.out.mono z4'.out.size))).mono ?_;rintro e w5 ⟨xA,xn,xc,xK,xm,xd,rfl,hx5,hb5⟩;rw [v3.out] at hx5 ⊢;have B5:=Lib.hid (B4.out.trans (hb5.mono B4.out.size));obtain ⟨r1,r2⟩:=hbx.out w5 B5.out;have hs5:w.heap.size + 1 < w5.heap.size:=(by have:=B5.out.size;have:=hz5.out;omega);have hs6:w.heap.size < w5.heap.size:=(by omega);have hq1:w5.heap.size ≠ w.heap.size:=(by omega);have hq2:w5.heap.size ≠ w.heap.size + 1:=(by omega);clear o0 o1 o2 o3 o4 o5 o6 o7 o8 o9 o10 p0 p1 p2 p3 p4 p5 pf;obtain ⟨o0,o1,o2,o3,o4,o5,o6,o7,o8,o9,o10⟩:=op_cells r2;unfold val6 at r1;obtain ⟨p0,p1,p2,p3,p4,p5,pf⟩:=six_cells r1;have uu:=fun O j v (h:w5.cell? ⟨w.heap.size + 1,j,none⟩ = some v)=>(World.cell?_alloc_lt w5 O ⟨w.heap.size + 1,j,none⟩ hs5).trans h;have u0:=fun O=>uu O 0 _ o0;have u1:=fun O=>uu O 1 _ o1;have u2:=fun O=>uu O 2 _ o2;have u3:=fun O=>uu O 3 _ o3;have u10:=fun O=>uu O 10 _ o10;have vv:=fun O j v (h:w5.cell? ⟨w.heap.size,j,none⟩ = some v)=>(World.cell?_alloc_lt w5 O ⟨w.heap.size,j,none⟩ hs6).trans h;have v0':=fun O=>vv O 0 _ p0;have v1':=fun O=>vv O 1 _ p1;have v2':=fun O=>vv O 2 _ p2;have v3':=fun O=>vv O 3 _ p3;have v4':=fun O=>vv O 4 _ p4;have v5':=fun O=>vv O 5 _ p5;have hkl:=hx5.facts.kl;have hkl':=Lib.hid hkl;clear uu vv hb5 r1 r2 hx5 hkl;unfold val6))
    | (go_at_call 52;go_loud (refine (hap.out _ ((z4'.out.trans (B5.out.mono z4'.out.size)).alloc (by omega) _)).mono ?_;rintro e w6 ⟨rfl,hb6⟩;have B6:=Lib.hid (((z4'.out.trans (B5.out.mono z4'.out.size)).alloc (by omega) _).trans (hb6.mono (by rw [World.size_alloc];omega)));clear hb6)))
  go_ret
  exact ⟨rfl,B6.out⟩
theorem rvalid_any (w:World) (t:Nd) (aA kA:Option Addr) (an ac kn kc:Nat) (o:Ov) (s:OS) (h:NodeV (Old w) w aA an ac kA kn kc t) (ho:OpIn w o s) (hbig:weighV t≤100000) :
    Calls Try.prog 16 #[.agg (val6 t aA an ac kA kn kc),.agg (opCells o s)] w fun e w'=>e = .returned (.int .i64 (validV t o))∧Below w.heap.size w w':=by
  cases hr:rightV ltB t with
  | false =>
    rw [show validV t o = 2 by unfold validV;rw [hr];rfl]
    exact rv_c0 w t aA kA an ac kn kc o s h ho hbig hr
  | true =>
    rw [show validV t o = faultV t o by unfold validV;rw [hr];rfl]
    cases hf:formedV o with
    | false =>
      rw [show faultV t o = 80 by unfold faultV;rw [if_pos hf]]
      exact rv_c1 w t aA kA an ac kn kc o s h ho hbig hr hf
    | true =>
      have e0:¬ formedV o = false:=by rw [hf];decide
      by_cases hp:(o.kind = 2∨o.kind = 3)∧o.path = []
      · rw [show faultV t o = 82 by unfold faultV;rw [if_neg e0,if_pos hp]]
        rcases hp with ⟨hk | hk,hp⟩
        · exact rv_c2_2 w t aA kA an ac kn kc o s h ho hbig hr hf hk hp
        · exact rv_c2_3 w t aA kA an ac kn kc o s h ho hbig hr hf hk hp
      · cases hx:atV t o.path with
        | none =>
          rw [show faultV t o = 81 by unfold faultV;rw [if_neg e0,if_neg hp,hx]]
          by_cases k2:o.kind = 2
          · exact rv_n2 w t aA kA an ac kn kc o s h ho hbig hr hf k2 (fun e=>hp ⟨.inl k2,e⟩) hx
          · by_cases k3:o.kind = 3
            · exact rv_n3 w t aA kA an ac kn kc o s h ho hbig hr hf k3 (fun e=>hp ⟨.inr k3,e⟩) hx
            · exact rv_no w t aA kA an ac kn kc o s h ho hbig hr hf k2 k3 hx
        | some x =>
          have hv:faultV t o = if o.kind = 1 then gapE x o.at_ else if o.kind = 3 then (if P4.withinV o.path o.to_ then 84 else match atV t o.to_ with | none=>81 | some y=>gapE y o.at_) else if o.kind = 6 then editE x o.pieces else 0:=by
            unfold faultV
            rw [if_neg e0,if_neg hp,hx]
            rfl
          rw [hv]
          by_cases k1:o.kind = 1
          · rw [if_pos k1]
            exact rv_k1 w t aA kA an ac kn kc o s h ho hbig hr hf k1 x hx
          · rw [if_neg k1]
            by_cases k3:o.kind = 3
            · rw [if_pos k3]
              have hne:o.path ≠ []:=fun e=>hp ⟨.inr k3,e⟩
              cases hw:P4.withinV o.path o.to_ with
              | true=>exact rv_k3a w t aA kA an ac kn kc o s h ho hbig hr hf k3 hne x hx hw
              | false =>
                cases hy:atV t o.to_ with
                | none=>exact rv_k3b w t aA kA an ac kn kc o s h ho hbig hr hf k3 hne x hx hw hy
                | some y=>exact rv_k3c w t aA kA an ac kn kc o s h ho hbig hr hf k3 hne x hx hw y hy
            · rw [if_neg k3]
              by_cases k6:o.kind = 6
              · rw [if_pos k6]
                have hrp:P5.rightV o.pieces = true:=by
                  have hh:=hf
                  unfold formedV at hh
                  rw [if_neg k1,if_neg (by omega),if_neg k3,if_neg (by omega),if_neg (by omega),if_pos k6,Bool.and_eq_true] at hh
                  exact hh.2
                cases hl:x.leaf with
                | false =>
                  rw [show editE x o.pieces = 83 by unfold editE;rw [hl];rfl]
                  exact rv_k6a w t aA kA an ac kn kc o s h ho hbig hr hf k6 x hx hl
                | true =>
                  by_cases hft:Ltx.extent (pcs o.pieces)≤x.text.length
                  · rw [show editE x o.pieces = 0 by unfold editE fitE;rw [hl,if_pos hft];rfl]
                    exact rv_k6b w t aA kA an ac kn kc o s h ho hbig hr hf k6 x hx hl hrp hft
                  · rw [show editE x o.pieces = 50 by unfold editE fitE;rw [hl,if_neg hft];rfl]
                    exact rv_k6c w t aA kA an ac kn kc o s h ho hbig hr hf k6 x hx hl hrp (by omega)
              · rw [if_neg k6]
                by_cases k2:o.kind = 2
                · exact rv_k2 w t aA kA an ac kn kc o s h ho hbig hr hf k2 (fun e=>hp ⟨.inl k2,e⟩) x hx
                · exact rv_k45 w t aA kA an ac kn kc o s h ho hbig hr hf (by
                    by_cases k4:o.kind = 4
                    · exact .inl k4
                    · by_cases k5:o.kind = 5
                      · exact .inr k5
                      · exact absurd (form_kind hf k1 k2 k3 k4 k5) k6) x hx
end Go.Proofs.Ytoeblaecldhcaaa.Top
