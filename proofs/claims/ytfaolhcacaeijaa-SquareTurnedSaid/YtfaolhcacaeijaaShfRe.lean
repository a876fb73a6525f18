/- The document's: where a gap is. -/
import Derived.Test.YtfaolhcacaeijaaMgAO
set_option linter.all false
namespace Go.Proofs.Ytfaolhcacaeijaa.Shf
open Go.RowKit Top
set_option maxRecDepth 20000
set_option linter.unusedVariables false

theorem eqV_comm (a b:List Int):P4.eqV a b = P4.eqV b a:=by
  unfold P4.eqV
  by_cases h:a = b
  · subst h;rfl
  · rw [decide_eq_false h,decide_eq_false (fun e=>h e.symm)]
set_option maxHeartbeats 16000000 in
theorem rgap_gone (w:World) (o:Ov) (s:OS) (A:Option Addr) (n cp:Nat) (p:List Int) (i:Int) (first:Bool) (hg:nodeV (chV o) p = none) (hl:Slen o) (ho:OpIn w o s) (hA:Its w A n p) (hn:n≤cp) (hcp:cp≤maxLen) (hnil:A = none→cp = 0) (hfew:n≤400000):Calls Try.prog 125 #[.agg (opCells o s),.slice A n cp,.int .i64 i,.bool first] w (GapA w (nodeV (chV o) p) (gapV (chV o) p i first)):=by
  obtain ⟨W2,hW2⟩:∃ W2,W2 = w.alloc (.cells (opCells o s) 26):=⟨_,rfl⟩
  have z1:W2.heap[w.heap.size]? = some (.cells (opCells o s) 26 (0,0)):=by rw [hW2];exact heap_alloc_new w _
  have z4':=Lib.hid (show Below w.heap.size w W2 by rw [hW2];exact (Below.refl _ _).alloc (Nat.le_refl _) _)
  have z5':=Lib.hid (show W2.heap.size = w.heap.size + 1 by rw [hW2];simp)
  have z1':=Lib.hid z1
  have hnd:=Lib.hid (rNode_any W2 o s A n cp p (ho.below z4'.out) hl (hA.below z4'.out) hn hcp hnil hfew)
  have hmv:=Lib.hid (fun (W:World) (hb:Below w.heap.size w W)=>rmoves_any W o s (ho.below hb))
  obtain ⟨V,hV⟩:∃ V,V = nodeV (chV o) p:=⟨_,rfl⟩
  rw [← hV] at hnd ⊢
  have hg':V = none:=hV.trans hg
  subst hg'
  obtain ⟨o0,o1,o2,o3,o4,o5,o6,o7,o8,o9,o10⟩:=op_cells z1
  rw [hW2] at o0 o1 o2 o3 o4 o5 o6 o7 o8 o9 o10
  unfold opCells at hW2 hnd
  unfold opCells
  clear ho z1 hA hl hmv hg hV
  go_enter Try.func125,Try.ntmps125
  go_wp2_with (go_at_call 127;go_loud (rw [← hW2];refine hnd.out.mono ?_;rintro e w1 (⟨hr1,rfl,hb1⟩ | ⟨v,xs,hr1,rfl,hr3,hb1⟩);rotate_left 1;(exfalso;cases hr1);clear o0 o1 o2 o3 o4 o5 o6 o7 o8 o9 o10))
  go_ret3
  exact .inl ⟨rfl,rfl,z4'.out.trans (hb1.mono z4'.out.size)⟩
set_option maxHeartbeats 16000000 in
theorem rgap_still (w:World) (o:Ov) (s:OS) (A:Option Addr) (n cp:Nat) (p:List Int) (i:Int) (first:Bool) (hm:movesV o = false) (hs:∃ xs,nodeV (chV o) p = some xs) (hl:Slen o) (ho:OpIn w o s) (hA:Its w A n p) (hn:n≤cp) (hcp:cp≤maxLen) (hnil:A = none→cp = 0) (hfew:n≤400000):Calls Try.prog 125 #[.agg (opCells o s),.slice A n cp,.int .i64 i,.bool first] w (GapA w (nodeV (chV o) p) (gapV (chV o) p i first)):=by
  obtain ⟨W2,hW2⟩:∃ W2,W2 = w.alloc (.cells (opCells o s) 26):=⟨_,rfl⟩
  have z1:W2.heap[w.heap.size]? = some (.cells (opCells o s) 26 (0,0)):=by rw [hW2];exact heap_alloc_new w _
  have z4':=Lib.hid (show Below w.heap.size w W2 by rw [hW2];exact (Below.refl _ _).alloc (Nat.le_refl _) _)
  have z5':=Lib.hid (show W2.heap.size = w.heap.size + 1 by rw [hW2];simp)
  have z1':=Lib.hid z1
  have hnd:=Lib.hid (rNode_any W2 o s A n cp p (ho.below z4'.out) hl (hA.below z4'.out) hn hcp hnil hfew)
  have hmv:=Lib.hid (fun (W:World) (hb:Below w.heap.size w W)=>rmoves_any W o s (ho.below hb))
  simp only [hm] at hmv
  obtain ⟨V,hV⟩:∃ V,V = nodeV (chV o) p:=⟨_,rfl⟩
  rw [← hV] at hnd ⊢
  rw [← hV] at hs
  have hv:=Lib.hid (show gapV (chV o) p i first = i by rw [moves_no hm];rfl)
  obtain ⟨o0,o1,o2,o3,o4,o5,o6,o7,o8,o9,o10⟩:=op_cells z1
  rw [hW2] at o0 o1 o2 o3 o4 o5 o6 o7 o8 o9 o10
  unfold opCells at hW2 hmv hnd
  unfold opCells
  clear ho z1 hm hA hl hV
  go_enter Try.func125,Try.ntmps125
  go_wp2_with (first | (go_at_call 127;go_loud (rw [← hW2];refine hnd.out.mono ?_;rintro e w1 (⟨hr1,rfl,hb1⟩ | ⟨v,xs,hr1,rfl,hr3,hb1⟩);(exfalso;obtain ⟨xs,hx⟩:=hs;rw [hr1] at hx;cases hx);have B1:=Lib.hid (z4'.out.trans (hb1.mono z4'.out.size));have S1:=Lib.hid hb1.size;have Y1:=Lib.hid ((hb1.block w.heap.size (by have:=z5'.out;omega)).trans z1'.out);clear hb1 o0 o1 o2 o3 o4 o5 o6 o7 o8 o9 o10;obtain ⟨o0,o1,o2,o3,o4,o5,o6,o7,o8,o9,o10⟩:=op_cells Y1.out;skip)) | (go_at_call 184;go_loud (refine (hmv.out _ B1.out).mono ?_;rintro e w2 ⟨rfl,hb2⟩;have B2:=Lib.hid (B1.out.trans (hb2.mono B1.out.size));have R3:=Lib.hid (Top.own_kept hr3 fun k _ h2=>hb2.block k h2);have Y2:=Lib.hid ((hb2.block w.heap.size (Array.getElem?_eq_some_iff.1 Y1.out).1).trans Y1.out);clear hb2 o0 o1 o2 o3 o4 o5 o6 o7 o8 o9 o10;obtain ⟨o0,o1,o2,o3,o4,o5,o6,o7,o8,o9,o10⟩:=op_cells Y2.out;skip)))
  go_ret3
  exact .inr ⟨v,xs,hr1,by rw [hv.out] <;> rfl,own_mono (Top.own_kept (w':=_) R3.out fun k _ h2=>rfl) z4'.out.size,by first | exact B2.out | exact draws B2.out _⟩
set_option maxHeartbeats 16000000 in
theorem rgap_ins (w:World) (o:Ov) (s:OS) (A:Option Addr) (n cp:Nat) (p:List Int) (i:Int) (first:Bool) (hm:movesV o = true) (hk:o.kind = 1) (hs:∃ xs,nodeV (chV o) p = some xs) (hl:Slen o) (ho:OpIn w o s) (hA:Its w A n p) (hn:n≤cp) (hcp:cp≤maxLen) (hnil:A = none→cp = 0) (hfew:n≤400000):Calls Try.prog 125 #[.agg (opCells o s),.slice A n cp,.int .i64 i,.bool first] w (GapA w (nodeV (chV o) p) (gapV (chV o) p i first)):=by
  obtain ⟨W2,hW2⟩:∃ W2,W2 = w.alloc (.cells (opCells o s) 26):=⟨_,rfl⟩
  have z1:W2.heap[w.heap.size]? = some (.cells (opCells o s) 26 (0,0)):=by rw [hW2];exact heap_alloc_new w _
  have z4':=Lib.hid (show Below w.heap.size w W2 by rw [hW2];exact (Below.refl _ _).alloc (Nat.le_refl _) _)
  have z5':=Lib.hid (show W2.heap.size = w.heap.size + 1 by rw [hW2];simp)
  have z1':=Lib.hid z1
  have hnd:=Lib.hid (rNode_any W2 o s A n cp p (ho.below z4'.out) hl (hA.below z4'.out) hn hcp hnil hfew)
  have hmv:=Lib.hid (fun (W:World) (hb:Below w.heap.size w W)=>rmoves_any W o s (ho.below hb))
  simp only [hm] at hmv
  obtain ⟨V,hV⟩:∃ V,V = nodeV (chV o) p:=⟨_,rfl⟩
  rw [← hV] at hnd ⊢
  rw [← hV] at hs
  have hkI:=Lib.hid (show (o.kind:Int) = 1 by omega)
  obtain ⟨G,hG⟩:∃ G,G = gapV (chV o) p i first:=⟨_,rfl⟩
  rw [ch_one (formed_of hm) hk] at hG
  have hst:=Lib.hid (fun (W:World) (hb:Below w.heap.size w W)=>rsame_its W s.pA A s.pn s.pc n cp o.path p (ho.below hb).path (hA.below hb) (Nat.le_trans ho.pnc ho.pcm) (Nat.le_trans hn hcp))
  obtain ⟨b2,hb2⟩:∃ b,b = P4.eqV o.path p:=⟨_,rfl⟩
  rw [← hb2] at hst
  have hG1:=Lib.hid (show G = if (b2 && (decide (i > o.at_) || ((i == o.at_) && !first))) = true then IntKind.i64.wrap (i + 1) else i by rw [hG,hb2,eqV_comm o.path p];rfl)
  obtain ⟨o0,o1,o2,o3,o4,o5,o6,o7,o8,o9,o10⟩:=op_cells z1
  rw [hW2] at o0 o1 o2 o3 o4 o5 o6 o7 o8 o9 o10
  rw [hkI.out] at o0
  have hv0:gapV (chV o) p i first = G:=by rw [ch_one (formed_of hm) hk];exact hG.symm
  have hv1:=Lib.hid hv0
  unfold opCells at hW2 hmv hnd
  unfold opCells
  rw [hkI.out] at hW2 hmv hnd ⊢
  clear ho z1 hm hA hk hl hV hv0 hG hb2
  cases b2 with
  | false =>
    have hv:=Lib.hid (show gapV (chV o) p i first = i by rw [hv1.out,hG1.out];simp [IntWalk.i64_left])
    clear hG1 hv1
    go_enter Try.func125,Try.ntmps125
    go_wp2_with (first | (go_at_call 127;go_loud (rw [← hW2];refine hnd.out.mono ?_;rintro e w1 (⟨hr1,rfl,hb1⟩ | ⟨v,xs,hr1,rfl,hr3,hb1⟩);(exfalso;obtain ⟨xs,hx⟩:=hs;rw [hr1] at hx;cases hx);have B1:=Lib.hid (z4'.out.trans (hb1.mono z4'.out.size));have S1:=Lib.hid hb1.size;have Y1:=Lib.hid ((hb1.block w.heap.size (by have:=z5'.out;omega)).trans z1'.out);clear hb1 o0 o1 o2 o3 o4 o5 o6 o7 o8 o9 o10;obtain ⟨o0,o1,o2,o3,o4,o5,o6,o7,o8,o9,o10⟩:=op_cells Y1.out;rw [hkI.out] at o0)) | (go_at_call 184;go_loud (refine (hmv.out _ B1.out).mono ?_;rintro e w2 ⟨rfl,hb2⟩;have B2:=Lib.hid (B1.out.trans (hb2.mono B1.out.size));have R3:=Lib.hid (Top.own_kept hr3 fun k _ h2=>hb2.block k h2);have Y2:=Lib.hid ((hb2.block w.heap.size (Array.getElem?_eq_some_iff.1 Y1.out).1).trans Y1.out);clear hb2 o0 o1 o2 o3 o4 o5 o6 o7 o8 o9 o10;obtain ⟨o0,o1,o2,o3,o4,o5,o6,o7,o8,o9,o10⟩:=op_cells Y2.out;rw [hkI.out] at o0)) | (go_at_call 79;go_loud (refine (hst.out _ (by first | exact B2.out | exact draws B2.out _)).mono ?_;rintro e w3 ⟨rfl,j1,rfl⟩)))
    go_ret3
    exact .inr ⟨v,xs,hr1,by rw [hv.out] <;> rfl,own_mono (Top.own_kept (w':=_) R3.out fun k _ h2=>rfl) z4'.out.size,by first | exact B2.out | exact draws B2.out _⟩
  | true =>
    by_cases j2:o.at_ < i
    · skip
      have hv:=Lib.hid (show gapV (chV o) p i first = wrap64 (i + 1) by rw [hv1.out,hG1.out];simp [IntWalk.i64_left,j2])
      clear hG1 hv1
      go_enter Try.func125,Try.ntmps125
      go_wp2_with (first | (go_at_call 127;go_loud (rw [← hW2];refine hnd.out.mono ?_;rintro e w1 (⟨hr1,rfl,hb1⟩ | ⟨v,xs,hr1,rfl,hr3,hb1⟩);(exfalso;obtain ⟨xs,hx⟩:=hs;rw [hr1] at hx;cases hx);have B1:=Lib.hid (z4'.out.trans (hb1.mono z4'.out.size));have S1:=Lib.hid hb1.size;have Y1:=Lib.hid ((hb1.block w.heap.size (by have:=z5'.out;omega)).trans z1'.out);clear hb1 o0 o1 o2 o3 o4 o5 o6 o7 o8 o9 o10;obtain ⟨o0,o1,o2,o3,o4,o5,o6,o7,o8,o9,o10⟩:=op_cells Y1.out;rw [hkI.out] at o0)) | (go_at_call 184;go_loud (refine (hmv.out _ B1.out).mono ?_;rintro e w2 ⟨rfl,hb2⟩;have B2:=Lib.hid (B1.out.trans (hb2.mono B1.out.size));have R3:=Lib.hid (Top.own_kept hr3 fun k _ h2=>hb2.block k h2);have Y2:=Lib.hid ((hb2.block w.heap.size (Array.getElem?_eq_some_iff.1 Y1.out).1).trans Y1.out);clear hb2 o0 o1 o2 o3 o4 o5 o6 o7 o8 o9 o10;obtain ⟨o0,o1,o2,o3,o4,o5,o6,o7,o8,o9,o10⟩:=op_cells Y2.out;rw [hkI.out] at o0)) | (go_at_call 79;go_loud (refine (hst.out _ (by first | exact B2.out | exact draws B2.out _)).mono ?_;rintro e w3 ⟨rfl,j1,rfl⟩)))
      go_ret3
      exact .inr ⟨v,xs,hr1,by rw [hv.out] <;> rfl,own_mono (Top.own_kept (w':=_) R3.out fun k _ h2=>rfl) z4'.out.size,by first | exact B2.out | exact draws B2.out _⟩
    · cases j3:(i == o.at_) with
      | false =>
        have hv:=Lib.hid (show gapV (chV o) p i first = i by rw [hv1.out,hG1.out];simp [IntWalk.i64_left,j2,j3])
        clear hG1 hv1
        go_enter Try.func125,Try.ntmps125
        go_wp2_with (first | (go_at_call 127;go_loud (rw [← hW2];refine hnd.out.mono ?_;rintro e w1 (⟨hr1,rfl,hb1⟩ | ⟨v,xs,hr1,rfl,hr3,hb1⟩);(exfalso;obtain ⟨xs,hx⟩:=hs;rw [hr1] at hx;cases hx);have B1:=Lib.hid (z4'.out.trans (hb1.mono z4'.out.size));have S1:=Lib.hid hb1.size;have Y1:=Lib.hid ((hb1.block w.heap.size (by have:=z5'.out;omega)).trans z1'.out);clear hb1 o0 o1 o2 o3 o4 o5 o6 o7 o8 o9 o10;obtain ⟨o0,o1,o2,o3,o4,o5,o6,o7,o8,o9,o10⟩:=op_cells Y1.out;rw [hkI.out] at o0)) | (go_at_call 184;go_loud (refine (hmv.out _ B1.out).mono ?_;rintro e w2 ⟨rfl,hb2⟩;have B2:=Lib.hid (B1.out.trans (hb2.mono B1.out.size));have R3:=Lib.hid (Top.own_kept hr3 fun k _ h2=>hb2.block k h2);have Y2:=Lib.hid ((hb2.block w.heap.size (Array.getElem?_eq_some_iff.1 Y1.out).1).trans Y1.out);clear hb2 o0 o1 o2 o3 o4 o5 o6 o7 o8 o9 o10;obtain ⟨o0,o1,o2,o3,o4,o5,o6,o7,o8,o9,o10⟩:=op_cells Y2.out;rw [hkI.out] at o0)) | (go_at_call 79;go_loud (refine (hst.out _ (by first | exact B2.out | exact draws B2.out _)).mono ?_;rintro e w3 ⟨rfl,j1,rfl⟩)))
        go_ret3
        exact .inr ⟨v,xs,hr1,by rw [hv.out] <;> rfl,own_mono (Top.own_kept (w':=_) R3.out fun k _ h2=>rfl) z4'.out.size,by first | exact B2.out | exact draws B2.out _⟩
      | true =>
        cases first with
        | false =>
          have hv:=Lib.hid (show gapV (chV o) p i false = wrap64 (i + 1) by rw [hv1.out,hG1.out];simp [IntWalk.i64_left,j2,j3])
          clear hG1 hv1
          go_enter Try.func125,Try.ntmps125
          go_wp2_with (first | (go_at_call 127;go_loud (rw [← hW2];refine hnd.out.mono ?_;rintro e w1 (⟨hr1,rfl,hb1⟩ | ⟨v,xs,hr1,rfl,hr3,hb1⟩);(exfalso;obtain ⟨xs,hx⟩:=hs;rw [hr1] at hx;cases hx);have B1:=Lib.hid (z4'.out.trans (hb1.mono z4'.out.size));have S1:=Lib.hid hb1.size;have Y1:=Lib.hid ((hb1.block w.heap.size (by have:=z5'.out;omega)).trans z1'.out);clear hb1 o0 o1 o2 o3 o4 o5 o6 o7 o8 o9 o10;obtain ⟨o0,o1,o2,o3,o4,o5,o6,o7,o8,o9,o10⟩:=op_cells Y1.out;rw [hkI.out] at o0)) | (go_at_call 184;go_loud (refine (hmv.out _ B1.out).mono ?_;rintro e w2 ⟨rfl,hb2⟩;have B2:=Lib.hid (B1.out.trans (hb2.mono B1.out.size));have R3:=Lib.hid (Top.own_kept hr3 fun k _ h2=>hb2.block k h2);have Y2:=Lib.hid ((hb2.block w.heap.size (Array.getElem?_eq_some_iff.1 Y1.out).1).trans Y1.out);clear hb2 o0 o1 o2 o3 o4 o5 o6 o7 o8 o9 o10;obtain ⟨o0,o1,o2,o3,o4,o5,o6,o7,o8,o9,o10⟩:=op_cells Y2.out;rw [hkI.out] at o0)) | (go_at_call 79;go_loud (refine (hst.out _ (by first | exact B2.out | exact draws B2.out _)).mono ?_;rintro e w3 ⟨rfl,j1,rfl⟩)))
          go_ret3
          exact .inr ⟨v,xs,hr1,by rw [hv.out] <;> rfl,own_mono (Top.own_kept (w':=_) R3.out fun k _ h2=>rfl) z4'.out.size,by first | exact B2.out | exact draws B2.out _⟩
        | true =>
          have hv:=Lib.hid (show gapV (chV o) p i true = i by rw [hv1.out,hG1.out];simp [IntWalk.i64_left,j2,j3])
          clear hG1 hv1
          go_enter Try.func125,Try.ntmps125
          go_wp2_with (first | (go_at_call 127;go_loud (rw [← hW2];refine hnd.out.mono ?_;rintro e w1 (⟨hr1,rfl,hb1⟩ | ⟨v,xs,hr1,rfl,hr3,hb1⟩);(exfalso;obtain ⟨xs,hx⟩:=hs;rw [hr1] at hx;cases hx);have B1:=Lib.hid (z4'.out.trans (hb1.mono z4'.out.size));have S1:=Lib.hid hb1.size;have Y1:=Lib.hid ((hb1.block w.heap.size (by have:=z5'.out;omega)).trans z1'.out);clear hb1 o0 o1 o2 o3 o4 o5 o6 o7 o8 o9 o10;obtain ⟨o0,o1,o2,o3,o4,o5,o6,o7,o8,o9,o10⟩:=op_cells Y1.out;rw [hkI.out] at o0)) | (go_at_call 184;go_loud (refine (hmv.out _ B1.out).mono ?_;rintro e w2 ⟨rfl,hb2⟩;have B2:=Lib.hid (B1.out.trans (hb2.mono B1.out.size));have R3:=Lib.hid (Top.own_kept hr3 fun k _ h2=>hb2.block k h2);have Y2:=Lib.hid ((hb2.block w.heap.size (Array.getElem?_eq_some_iff.1 Y1.out).1).trans Y1.out);clear hb2 o0 o1 o2 o3 o4 o5 o6 o7 o8 o9 o10;obtain ⟨o0,o1,o2,o3,o4,o5,o6,o7,o8,o9,o10⟩:=op_cells Y2.out;rw [hkI.out] at o0)) | (go_at_call 79;go_loud (refine (hst.out _ (by first | exact B2.out | exact draws B2.out _)).mono ?_;rintro e w3 ⟨rfl,j1,rfl⟩)))
          go_ret3
          exact .inr ⟨v,xs,hr1,by rw [hv.out] <;> rfl,own_mono (Top.own_kept (w':=_) R3.out fun k _ h2=>rfl) z4'.out.size,by first | exact B2.out | exact draws B2.out _⟩
set_option maxHeartbeats 16000000 in
theorem rgap_del (w:World) (o:Ov) (s:OS) (A:Option Addr) (n cp:Nat) (p:List Int) (i:Int) (first:Bool) (hm:movesV o = true) (hk:o.kind = 2) (r:List Int) (d:Int) (hr:o.path = r ++ [d]) (hs:∃ xs,nodeV (chV o) p = some xs) (hl:Slen o) (ho:OpIn w o s) (hA:Its w A n p) (hn:n≤cp) (hcp:cp≤maxLen) (hnil:A = none→cp = 0) (hfew:n≤400000):Calls Try.prog 125 #[.agg (opCells o s),.slice A n cp,.int .i64 i,.bool first] w (GapA w (nodeV (chV o) p) (gapV (chV o) p i first)):=by
  obtain ⟨W2,hW2⟩:∃ W2,W2 = w.alloc (.cells (opCells o s) 26):=⟨_,rfl⟩
  have z1:W2.heap[w.heap.size]? = some (.cells (opCells o s) 26 (0,0)):=by rw [hW2];exact heap_alloc_new w _
  have z4':=Lib.hid (show Below w.heap.size w W2 by rw [hW2];exact (Below.refl _ _).alloc (Nat.le_refl _) _)
  have z5':=Lib.hid (show W2.heap.size = w.heap.size + 1 by rw [hW2];simp)
  have z1':=Lib.hid z1
  have hnd:=Lib.hid (rNode_any W2 o s A n cp p (ho.below z4'.out) hl (hA.below z4'.out) hn hcp hnil hfew)
  have hmv:=Lib.hid (fun (W:World) (hb:Below w.heap.size w W)=>rmoves_any W o s (ho.below hb))
  simp only [hm] at hmv
  obtain ⟨V,hV⟩:∃ V,V = nodeV (chV o) p:=⟨_,rfl⟩
  rw [← hV] at hnd ⊢
  rw [← hV] at hs
  have hkI:=Lib.hid (show (o.kind:Int) = 2 by omega)
  obtain ⟨G,hG⟩:∃ G,G = gapV (chV o) p i first:=⟨_,rfl⟩
  rw [ch_two (formed_of hm) hk hr] at hG
  have hpn:s.pn = r.length + 1:=by have h1:=ho.path.1;rw [hr] at h1;simp at h1;omega
  have hpar:=Lib.hid (fun (W:World) (hb:Below w.heap.size w W)=>rparent_any W s.pA r.length s.pc r d (by have h:=(ho.below hb).path;rw [hr,hpn] at h;exact h) (by have:=ho.pnc;omega) ho.pcm)
  have hsq:=Lib.hid (fun (W:World) (hb:Below w.heap.size w W)=>rsame_its W s.pA A r.length s.pc n cp r p (by
    have h:=P4.Its.upto (its4 (ho.below hb).path) (q:=r.length) (by omega)
    rw [hr,List.take_append_of_le_length (Nat.le_refl _),List.take_of_length_le (Nat.le_refl _)] at h
    exact h) (hA.below hb) (Nat.le_trans (show r.length≤s.pc by have:=ho.pnc;omega) ho.pcm) (Nat.le_trans hn hcp))
  obtain ⟨b1,hb1⟩:∃ b,b = P4.eqV r p:=⟨_,rfl⟩
  rw [← hb1] at hsq
  obtain ⟨m,hm9⟩:∃ m,m = r.length:=⟨_,rfl⟩
  rw [← hm9] at hpn hsq hpar
  clear hm9
  have hG1:=Lib.hid (show G = if (decide (i > d) && b1) = true then IntKind.i64.wrap (i - 1) else i by rw [hG,hb1,eqV_comm r p];rfl)
  obtain ⟨o0,o1,o2,o3,o4,o5,o6,o7,o8,o9,o10⟩:=op_cells z1
  rw [hpn] at o1
  rw [hW2] at o0 o1 o2 o3 o4 o5 o6 o7 o8 o9 o10
  rw [hkI.out] at o0
  have hv0:gapV (chV o) p i first = G:=by rw [ch_two (formed_of hm) hk hr];exact hG.symm
  have hv1:=Lib.hid hv0
  unfold opCells at hW2 hmv hnd
  unfold opCells
  rw [hkI.out] at hW2 hmv hnd ⊢
  rw [hpn] at hW2 hmv hnd ⊢
  clear ho z1 hm hA hk hl hV hv0 hG hb1
  cases b1 with
  | false =>
    have hv:=Lib.hid (show gapV (chV o) p i first = i by rw [hv1.out,hG1.out];simp [IntWalk.i64_left,Bool.and_false])
    clear hG1 hv1
    go_enter Try.func125,Try.ntmps125
    go_upto_region 11 with (first | (go_at_call 127;go_loud (rw [← hW2];refine hnd.out.mono ?_;rintro e w1 (⟨hr1,rfl,hb1⟩ | ⟨v,xs,hr1,rfl,hr3,hb1⟩);(exfalso;obtain ⟨xs,hx⟩:=hs;rw [hr1] at hx;cases hx);have B1:=Lib.hid (z4'.out.trans (hb1.mono z4'.out.size));have S1:=Lib.hid hb1.size;have Y1:=Lib.hid ((hb1.block w.heap.size (by have:=z5'.out;omega)).trans z1'.out);clear hb1 o0 o1 o2 o3 o4 o5 o6 o7 o8 o9 o10;obtain ⟨o0,o1,o2,o3,o4,o5,o6,o7,o8,o9,o10⟩:=op_cells Y1.out;rw [hkI.out] at o0;rw [hpn] at o1)) | (go_at_call 184;go_loud (refine (hmv.out _ B1.out).mono ?_;rintro e w2 ⟨rfl,hb2⟩;have B2:=Lib.hid (B1.out.trans (hb2.mono B1.out.size));have R3:=Lib.hid (Top.own_kept hr3 fun k _ h2=>hb2.block k h2);have Y2:=Lib.hid ((hb2.block w.heap.size (Array.getElem?_eq_some_iff.1 Y1.out).1).trans Y1.out);clear hb2 o0 o1 o2 o3 o4 o5 o6 o7 o8 o9 o10;obtain ⟨o0,o1,o2,o3,o4,o5,o6,o7,o8,o9,o10⟩:=op_cells Y2.out;rw [hkI.out] at o0;rw [hpn] at o1)) | (go_at_call 185;go_loud (refine (hpar.out _ B2.out).mono ?_;rintro e w3 ⟨rfl,⟨j1,rfl⟩,hi⟩;clear hi)) | (go_at_call 79;go_loud (refine (hsq.out _ (by first | exact B2.out | exact draws B2.out _)).mono ?_;rintro e w3 ⟨rfl,j1,rfl⟩)))
    go_wp2_with fail
    go_ret3
    exact .inr ⟨v,xs,hr1,by rw [hv.out] <;> rfl,own_mono (Top.own_kept (w':=_) R3.out fun k _ h2=>rfl) z4'.out.size,by first | exact B2.out | exact draws B2.out _⟩
  | true =>
    by_cases j1:d < i
    · skip
      have hv:=Lib.hid (show gapV (chV o) p i first = wrap64 (i - 1) by rw [hv1.out,hG1.out];simp [IntWalk.i64_left,j1])
      clear hG1 hv1
      go_enter Try.func125,Try.ntmps125
      go_upto_region 11 with (first | (go_at_call 127;go_loud (rw [← hW2];refine hnd.out.mono ?_;rintro e w1 (⟨hr1,rfl,hb1⟩ | ⟨v,xs,hr1,rfl,hr3,hb1⟩);(exfalso;obtain ⟨xs,hx⟩:=hs;rw [hr1] at hx;cases hx);have B1:=Lib.hid (z4'.out.trans (hb1.mono z4'.out.size));have S1:=Lib.hid hb1.size;have Y1:=Lib.hid ((hb1.block w.heap.size (by have:=z5'.out;omega)).trans z1'.out);clear hb1 o0 o1 o2 o3 o4 o5 o6 o7 o8 o9 o10;obtain ⟨o0,o1,o2,o3,o4,o5,o6,o7,o8,o9,o10⟩:=op_cells Y1.out;rw [hkI.out] at o0;rw [hpn] at o1)) | (go_at_call 184;go_loud (refine (hmv.out _ B1.out).mono ?_;rintro e w2 ⟨rfl,hb2⟩;have B2:=Lib.hid (B1.out.trans (hb2.mono B1.out.size));have R3:=Lib.hid (Top.own_kept hr3 fun k _ h2=>hb2.block k h2);have Y2:=Lib.hid ((hb2.block w.heap.size (Array.getElem?_eq_some_iff.1 Y1.out).1).trans Y1.out);clear hb2 o0 o1 o2 o3 o4 o5 o6 o7 o8 o9 o10;obtain ⟨o0,o1,o2,o3,o4,o5,o6,o7,o8,o9,o10⟩:=op_cells Y2.out;rw [hkI.out] at o0;rw [hpn] at o1)) | (go_at_call 185;go_loud (refine (hpar.out _ B2.out).mono ?_;rintro e w3 ⟨rfl,⟨j1,rfl⟩,hi⟩;clear hi)) | (go_at_call 79;go_loud (refine (hsq.out _ (by first | exact B2.out | exact draws B2.out _)).mono ?_;rintro e w3 ⟨rfl,j1,rfl⟩)))
      go_wp2_with fail
      go_ret3
      exact .inr ⟨v,xs,hr1,by rw [hv.out] <;> rfl,own_mono (Top.own_kept (w':=_) R3.out fun k _ h2=>rfl) z4'.out.size,by first | exact B2.out | exact draws B2.out _⟩
    · skip
      have hv:=Lib.hid (show gapV (chV o) p i first = i by rw [hv1.out,hG1.out];simp [IntWalk.i64_left,j1])
      clear hG1 hv1
      go_enter Try.func125,Try.ntmps125
      go_upto_region 11 with (first | (go_at_call 127;go_loud (rw [← hW2];refine hnd.out.mono ?_;rintro e w1 (⟨hr1,rfl,hb1⟩ | ⟨v,xs,hr1,rfl,hr3,hb1⟩);(exfalso;obtain ⟨xs,hx⟩:=hs;rw [hr1] at hx;cases hx);have B1:=Lib.hid (z4'.out.trans (hb1.mono z4'.out.size));have S1:=Lib.hid hb1.size;have Y1:=Lib.hid ((hb1.block w.heap.size (by have:=z5'.out;omega)).trans z1'.out);clear hb1 o0 o1 o2 o3 o4 o5 o6 o7 o8 o9 o10;obtain ⟨o0,o1,o2,o3,o4,o5,o6,o7,o8,o9,o10⟩:=op_cells Y1.out;rw [hkI.out] at o0;rw [hpn] at o1)) | (go_at_call 184;go_loud (refine (hmv.out _ B1.out).mono ?_;rintro e w2 ⟨rfl,hb2⟩;have B2:=Lib.hid (B1.out.trans (hb2.mono B1.out.size));have R3:=Lib.hid (Top.own_kept hr3 fun k _ h2=>hb2.block k h2);have Y2:=Lib.hid ((hb2.block w.heap.size (Array.getElem?_eq_some_iff.1 Y1.out).1).trans Y1.out);clear hb2 o0 o1 o2 o3 o4 o5 o6 o7 o8 o9 o10;obtain ⟨o0,o1,o2,o3,o4,o5,o6,o7,o8,o9,o10⟩:=op_cells Y2.out;rw [hkI.out] at o0;rw [hpn] at o1)) | (go_at_call 185;go_loud (refine (hpar.out _ B2.out).mono ?_;rintro e w3 ⟨rfl,⟨j1,rfl⟩,hi⟩;clear hi)) | (go_at_call 79;go_loud (refine (hsq.out _ (by first | exact B2.out | exact draws B2.out _)).mono ?_;rintro e w3 ⟨rfl,j1,rfl⟩)))
      go_wp2_with fail
      go_ret3
      exact .inr ⟨v,xs,hr1,by rw [hv.out] <;> rfl,own_mono (Top.own_kept (w':=_) R3.out fun k _ h2=>rfl) z4'.out.size,by first | exact B2.out | exact draws B2.out _⟩
set_option maxHeartbeats 16000000 in
theorem rgap_move (w:World) (o:Ov) (s:OS) (A:Option Addr) (n cp:Nat) (p:List Int) (i:Int) (first:Bool) (hm:movesV o = true) (hk:o.kind = 3) (r:List Int) (d:Int) (hr:o.path = r ++ [d]) (hw:P4.withinV o.path o.to_ = false) (hs:∃ xs,nodeV (chV o) p = some xs) (hl:Slen o) (ho:OpIn w o s) (hA:Its w A n p) (hn:n≤cp) (hcp:cp≤maxLen) (hnil:A = none→cp = 0) (hfew:n≤400000):Calls Try.prog 125 #[.agg (opCells o s),.slice A n cp,.int .i64 i,.bool first] w (GapA w (nodeV (chV o) p) (gapV (chV o) p i first)):=by
  obtain ⟨W2,hW2⟩:∃ W2,W2 = w.alloc (.cells (opCells o s) 26):=⟨_,rfl⟩
  have z1:W2.heap[w.heap.size]? = some (.cells (opCells o s) 26 (0,0)):=by rw [hW2];exact heap_alloc_new w _
  have z4':=Lib.hid (show Below w.heap.size w W2 by rw [hW2];exact (Below.refl _ _).alloc (Nat.le_refl _) _)
  have z5':=Lib.hid (show W2.heap.size = w.heap.size + 1 by rw [hW2];simp)
  have z1':=Lib.hid z1
  have hnd:=Lib.hid (rNode_any W2 o s A n cp p (ho.below z4'.out) hl (hA.below z4'.out) hn hcp hnil hfew)
  have hmv:=Lib.hid (fun (W:World) (hb:Below w.heap.size w W)=>rmoves_any W o s (ho.below hb))
  simp only [hm] at hmv
  obtain ⟨V,hV⟩:∃ V,V = nodeV (chV o) p:=⟨_,rfl⟩
  rw [← hV] at hnd ⊢
  rw [← hV] at hs
  have hkI:=Lib.hid (show (o.kind:Int) = 3 by omega)
  obtain ⟨G,hG⟩:∃ G,G = gapV (chV o) p i first:=⟨_,rfl⟩
  rw [ch_three (formed_of hm) hk hr hw] at hG
  have hpn:s.pn = r.length + 1:=by have h1:=ho.path.1;rw [hr] at h1;simp at h1;omega
  have hpar:=Lib.hid (fun (W:World) (hb:Below w.heap.size w W)=>rparent_any W s.pA r.length s.pc r d (by have h:=(ho.below hb).path;rw [hr,hpn] at h;exact h) (by have:=ho.pnc;omega) ho.pcm)
  have hsq:=Lib.hid (fun (W:World) (hb:Below w.heap.size w W)=>rsame_its W s.pA A r.length s.pc n cp r p (by
    have h:=P4.Its.upto (its4 (ho.below hb).path) (q:=r.length) (by omega)
    rw [hr,List.take_append_of_le_length (Nat.le_refl _),List.take_of_length_le (Nat.le_refl _)] at h
    exact h) (hA.below hb) (Nat.le_trans (show r.length≤s.pc by have:=ho.pnc;omega) ho.pcm) (Nat.le_trans hn hcp))
  obtain ⟨b1,hb1⟩:∃ b,b = P4.eqV r p:=⟨_,rfl⟩
  rw [← hb1] at hsq
  obtain ⟨m,hm9⟩:∃ m,m = r.length:=⟨_,rfl⟩
  rw [← hm9] at hpn hsq hpar
  clear hm9
  have hst:=Lib.hid (fun (W:World) (hb:Below w.heap.size w W)=>rsame_its W s.tA A s.tn s.tc n cp o.to_ p (ho.below hb).to_ (hA.below hb) (Nat.le_trans ho.tnc ho.tcm) (Nat.le_trans hn hcp))
  obtain ⟨b2,hb2⟩:∃ b,b = P4.eqV o.to_ p:=⟨_,rfl⟩
  rw [← hb2] at hst
  have hG1:=Lib.hid (show G = if (b2 && (decide (i > o.at_) || ((i == o.at_) && !first))) = true then IntKind.i64.wrap ((if (decide (i > d) && b1) = true then IntKind.i64.wrap (i - 1) else i) + 1) else (if (decide (i > d) && b1) = true then IntKind.i64.wrap (i - 1) else i) by rw [hG,hb2,hb1,eqV_comm o.to_ p,eqV_comm r p];rfl)
  obtain ⟨o0,o1,o2,o3,o4,o5,o6,o7,o8,o9,o10⟩:=op_cells z1
  rw [hpn] at o1
  rw [hW2] at o0 o1 o2 o3 o4 o5 o6 o7 o8 o9 o10
  rw [hkI.out] at o0
  have hv0:gapV (chV o) p i first = G:=by rw [ch_three (formed_of hm) hk hr hw];exact hG.symm
  have hv1:=Lib.hid hv0
  unfold opCells at hW2 hmv hnd
  unfold opCells
  rw [hkI.out] at hW2 hmv hnd ⊢
  rw [hpn] at hW2 hmv hnd ⊢
  clear ho z1 hm hA hk hl hV hv0 hG hb1 hb2
  cases b1 with
  | false =>
    cases b2 with
    | false =>
      have hv:=Lib.hid (show gapV (chV o) p i first = i by rw [hv1.out,hG1.out];simp [IntWalk.i64_left,Bool.and_false])
      clear hG1 hv1
      go_enter Try.func125,Try.ntmps125
      go_upto_region 11 with (first | (go_at_call 127;go_loud (rw [← hW2];refine hnd.out.mono ?_;rintro e w1 (⟨hr1,rfl,hb1⟩ | ⟨v,xs,hr1,rfl,hr3,hb1⟩);(exfalso;obtain ⟨xs,hx⟩:=hs;rw [hr1] at hx;cases hx);have B1:=Lib.hid (z4'.out.trans (hb1.mono z4'.out.size));have S1:=Lib.hid hb1.size;have Y1:=Lib.hid ((hb1.block w.heap.size (by have:=z5'.out;omega)).trans z1'.out);clear hb1 o0 o1 o2 o3 o4 o5 o6 o7 o8 o9 o10;obtain ⟨o0,o1,o2,o3,o4,o5,o6,o7,o8,o9,o10⟩:=op_cells Y1.out;rw [hkI.out] at o0;rw [hpn] at o1)) | (go_at_call 184;go_loud (refine (hmv.out _ B1.out).mono ?_;rintro e w2 ⟨rfl,hb2⟩;have B2:=Lib.hid (B1.out.trans (hb2.mono B1.out.size));have R3:=Lib.hid (Top.own_kept hr3 fun k _ h2=>hb2.block k h2);have Y2:=Lib.hid ((hb2.block w.heap.size (Array.getElem?_eq_some_iff.1 Y1.out).1).trans Y1.out);clear hb2 o0 o1 o2 o3 o4 o5 o6 o7 o8 o9 o10;obtain ⟨o0,o1,o2,o3,o4,o5,o6,o7,o8,o9,o10⟩:=op_cells Y2.out;rw [hkI.out] at o0;rw [hpn] at o1)) | (go_at_call 185;go_loud (refine (hpar.out _ B2.out).mono ?_;rintro e w3 ⟨rfl,⟨j1,rfl⟩,hi⟩;clear hi)) | (go_at_call 79;go_loud (refine (hsq.out _ (by first | exact B2.out | exact draws B2.out _)).mono ?_;rintro e w3 ⟨rfl,j1,rfl⟩)))
      go_wp2_with (first | (go_at_call 79;go_loud (refine (hst.out _ (by first | exact B2.out | exact draws B2.out _)).mono ?_;rintro e w3 ⟨rfl,j1,rfl⟩)))
      go_ret3
      exact .inr ⟨v,xs,hr1,by rw [hv.out] <;> rfl,own_mono (Top.own_kept (w':=_) R3.out fun k _ h2=>rfl) z4'.out.size,by first | exact B2.out | exact draws B2.out _⟩
    | true =>
      by_cases j2:o.at_ < i
      · skip
        have hv:=Lib.hid (show gapV (chV o) p i first = wrap64 (i + 1) by rw [hv1.out,hG1.out];simp [IntWalk.i64_left,Bool.and_false,j2])
        clear hG1 hv1
        go_enter Try.func125,Try.ntmps125
        go_upto_region 11 with (first | (go_at_call 127;go_loud (rw [← hW2];refine hnd.out.mono ?_;rintro e w1 (⟨hr1,rfl,hb1⟩ | ⟨v,xs,hr1,rfl,hr3,hb1⟩);(exfalso;obtain ⟨xs,hx⟩:=hs;rw [hr1] at hx;cases hx);have B1:=Lib.hid (z4'.out.trans (hb1.mono z4'.out.size));have S1:=Lib.hid hb1.size;have Y1:=Lib.hid ((hb1.block w.heap.size (by have:=z5'.out;omega)).trans z1'.out);clear hb1 o0 o1 o2 o3 o4 o5 o6 o7 o8 o9 o10;obtain ⟨o0,o1,o2,o3,o4,o5,o6,o7,o8,o9,o10⟩:=op_cells Y1.out;rw [hkI.out] at o0;rw [hpn] at o1)) | (go_at_call 184;go_loud (refine (hmv.out _ B1.out).mono ?_;rintro e w2 ⟨rfl,hb2⟩;have B2:=Lib.hid (B1.out.trans (hb2.mono B1.out.size));have R3:=Lib.hid (Top.own_kept hr3 fun k _ h2=>hb2.block k h2);have Y2:=Lib.hid ((hb2.block w.heap.size (Array.getElem?_eq_some_iff.1 Y1.out).1).trans Y1.out);clear hb2 o0 o1 o2 o3 o4 o5 o6 o7 o8 o9 o10;obtain ⟨o0,o1,o2,o3,o4,o5,o6,o7,o8,o9,o10⟩:=op_cells Y2.out;rw [hkI.out] at o0;rw [hpn] at o1)) | (go_at_call 185;go_loud (refine (hpar.out _ B2.out).mono ?_;rintro e w3 ⟨rfl,⟨j1,rfl⟩,hi⟩;clear hi)) | (go_at_call 79;go_loud (refine (hsq.out _ (by first | exact B2.out | exact draws B2.out _)).mono ?_;rintro e w3 ⟨rfl,j1,rfl⟩)))
        go_wp2_with (first | (go_at_call 79;go_loud (refine (hst.out _ (by first | exact B2.out | exact draws B2.out _)).mono ?_;rintro e w3 ⟨rfl,j1,rfl⟩)))
        go_ret3
        exact .inr ⟨v,xs,hr1,by rw [hv.out] <;> rfl,own_mono (Top.own_kept (w':=_) R3.out fun k _ h2=>rfl) z4'.out.size,by first | exact B2.out | exact draws B2.out _⟩
      · cases j3:(i == o.at_) with
        | false =>
          have hv:=Lib.hid (show gapV (chV o) p i first = i by rw [hv1.out,hG1.out];simp [IntWalk.i64_left,Bool.and_false,j2,j3])
          clear hG1 hv1
          go_enter Try.func125,Try.ntmps125
          go_upto_region 11 with (first | (go_at_call 127;go_loud (rw [← hW2];refine hnd.out.mono ?_;rintro e w1 (⟨hr1,rfl,hb1⟩ | ⟨v,xs,hr1,rfl,hr3,hb1⟩);(exfalso;obtain ⟨xs,hx⟩:=hs;rw [hr1] at hx;cases hx);have B1:=Lib.hid (z4'.out.trans (hb1.mono z4'.out.size));have S1:=Lib.hid hb1.size;have Y1:=Lib.hid ((hb1.block w.heap.size (by have:=z5'.out;omega)).trans z1'.out);clear hb1 o0 o1 o2 o3 o4 o5 o6 o7 o8 o9 o10;obtain ⟨o0,o1,o2,o3,o4,o5,o6,o7,o8,o9,o10⟩:=op_cells Y1.out;rw [hkI.out] at o0;rw [hpn] at o1)) | (go_at_call 184;go_loud (refine (hmv.out _ B1.out).mono ?_;rintro e w2 ⟨rfl,hb2⟩;have B2:=Lib.hid (B1.out.trans (hb2.mono B1.out.size));have R3:=Lib.hid (Top.own_kept hr3 fun k _ h2=>hb2.block k h2);have Y2:=Lib.hid ((hb2.block w.heap.size (Array.getElem?_eq_some_iff.1 Y1.out).1).trans Y1.out);clear hb2 o0 o1 o2 o3 o4 o5 o6 o7 o8 o9 o10;obtain ⟨o0,o1,o2,o3,o4,o5,o6,o7,o8,o9,o10⟩:=op_cells Y2.out;rw [hkI.out] at o0;rw [hpn] at o1)) | (go_at_call 185;go_loud (refine (hpar.out _ B2.out).mono ?_;rintro e w3 ⟨rfl,⟨j1,rfl⟩,hi⟩;clear hi)) | (go_at_call 79;go_loud (refine (hsq.out _ (by first | exact B2.out | exact draws B2.out _)).mono ?_;rintro e w3 ⟨rfl,j1,rfl⟩)))
          go_wp2_with (first | (go_at_call 79;go_loud (refine (hst.out _ (by first | exact B2.out | exact draws B2.out _)).mono ?_;rintro e w3 ⟨rfl,j1,rfl⟩)))
          go_ret3
          exact .inr ⟨v,xs,hr1,by rw [hv.out] <;> rfl,own_mono (Top.own_kept (w':=_) R3.out fun k _ h2=>rfl) z4'.out.size,by first | exact B2.out | exact draws B2.out _⟩
        | true =>
          cases first with
          | false =>
            have hv:=Lib.hid (show gapV (chV o) p i false = wrap64 (i + 1) by rw [hv1.out,hG1.out];simp [IntWalk.i64_left,Bool.and_false,j2,j3])
            clear hG1 hv1
            go_enter Try.func125,Try.ntmps125
            go_upto_region 11 with (first | (go_at_call 127;go_loud (rw [← hW2];refine hnd.out.mono ?_;rintro e w1 (⟨hr1,rfl,hb1⟩ | ⟨v,xs,hr1,rfl,hr3,hb1⟩);(exfalso;obtain ⟨xs,hx⟩:=hs;rw [hr1] at hx;cases hx);have B1:=Lib.hid (z4'.out.trans (hb1.mono z4'.out.size));have S1:=Lib.hid hb1.size;have Y1:=Lib.hid ((hb1.block w.heap.size (by have:=z5'.out;omega)).trans z1'.out);clear hb1 o0 o1 o2 o3 o4 o5 o6 o7 o8 o9 o10;obtain ⟨o0,o1,o2,o3,o4,o5,o6,o7,o8,o9,o10⟩:=op_cells Y1.out;rw [hkI.out] at o0;rw [hpn] at o1)) | (go_at_call 184;go_loud (refine (hmv.out _ B1.out).mono ?_;rintro e w2 ⟨rfl,hb2⟩;have B2:=Lib.hid (B1.out.trans (hb2.mono B1.out.size));have R3:=Lib.hid (Top.own_kept hr3 fun k _ h2=>hb2.block k h2);have Y2:=Lib.hid ((hb2.block w.heap.size (Array.getElem?_eq_some_iff.1 Y1.out).1).trans Y1.out);clear hb2 o0 o1 o2 o3 o4 o5 o6 o7 o8 o9 o10;obtain ⟨o0,o1,o2,o3,o4,o5,o6,o7,o8,o9,o10⟩:=op_cells Y2.out;rw [hkI.out] at o0;rw [hpn] at o1)) | (go_at_call 185;go_loud (refine (hpar.out _ B2.out).mono ?_;rintro e w3 ⟨rfl,⟨j1,rfl⟩,hi⟩;clear hi)) | (go_at_call 79;go_loud (refine (hsq.out _ (by first | exact B2.out | exact draws B2.out _)).mono ?_;rintro e w3 ⟨rfl,j1,rfl⟩)))
            go_wp2_with (first | (go_at_call 79;go_loud (refine (hst.out _ (by first | exact B2.out | exact draws B2.out _)).mono ?_;rintro e w3 ⟨rfl,j1,rfl⟩)))
            go_ret3
            exact .inr ⟨v,xs,hr1,by rw [hv.out] <;> rfl,own_mono (Top.own_kept (w':=_) R3.out fun k _ h2=>rfl) z4'.out.size,by first | exact B2.out | exact draws B2.out _⟩
          | true =>
            have hv:=Lib.hid (show gapV (chV o) p i true = i by rw [hv1.out,hG1.out];simp [IntWalk.i64_left,Bool.and_false,j2,j3])
            clear hG1 hv1
            go_enter Try.func125,Try.ntmps125
            go_upto_region 11 with (first | (go_at_call 127;go_loud (rw [← hW2];refine hnd.out.mono ?_;rintro e w1 (⟨hr1,rfl,hb1⟩ | ⟨v,xs,hr1,rfl,hr3,hb1⟩);(exfalso;obtain ⟨xs,hx⟩:=hs;rw [hr1] at hx;cases hx);have B1:=Lib.hid (z4'.out.trans (hb1.mono z4'.out.size));have S1:=Lib.hid hb1.size;have Y1:=Lib.hid ((hb1.block w.heap.size (by have:=z5'.out;omega)).trans z1'.out);clear hb1 o0 o1 o2 o3 o4 o5 o6 o7 o8 o9 o10;obtain ⟨o0,o1,o2,o3,o4,o5,o6,o7,o8,o9,o10⟩:=op_cells Y1.out;rw [hkI.out] at o0;rw [hpn] at o1)) | (go_at_call 184;go_loud (refine (hmv.out _ B1.out).mono ?_;rintro e w2 ⟨rfl,hb2⟩;have B2:=Lib.hid (B1.out.trans (hb2.mono B1.out.size));have R3:=Lib.hid (Top.own_kept hr3 fun k _ h2=>hb2.block k h2);have Y2:=Lib.hid ((hb2.block w.heap.size (Array.getElem?_eq_some_iff.1 Y1.out).1).trans Y1.out);clear hb2 o0 o1 o2 o3 o4 o5 o6 o7 o8 o9 o10;obtain ⟨o0,o1,o2,o3,o4,o5,o6,o7,o8,o9,o10⟩:=op_cells Y2.out;rw [hkI.out] at o0;rw [hpn] at o1)) | (go_at_call 185;go_loud (refine (hpar.out _ B2.out).mono ?_;rintro e w3 ⟨rfl,⟨j1,rfl⟩,hi⟩;clear hi)) | (go_at_call 79;go_loud (refine (hsq.out _ (by first | exact B2.out | exact draws B2.out _)).mono ?_;rintro e w3 ⟨rfl,j1,rfl⟩)))
            go_wp2_with (first | (go_at_call 79;go_loud (refine (hst.out _ (by first | exact B2.out | exact draws B2.out _)).mono ?_;rintro e w3 ⟨rfl,j1,rfl⟩)))
            go_ret3
            exact .inr ⟨v,xs,hr1,by rw [hv.out] <;> rfl,own_mono (Top.own_kept (w':=_) R3.out fun k _ h2=>rfl) z4'.out.size,by first | exact B2.out | exact draws B2.out _⟩
  | true =>
    by_cases j1:d < i
    · skip
      cases b2 with
      | false =>
        have hv:=Lib.hid (show gapV (chV o) p i first = wrap64 (i - 1) by rw [hv1.out,hG1.out];simp [IntWalk.i64_left,j1])
        clear hG1 hv1
        go_enter Try.func125,Try.ntmps125
        go_upto_region 11 with (first | (go_at_call 127;go_loud (rw [← hW2];refine hnd.out.mono ?_;rintro e w1 (⟨hr1,rfl,hb1⟩ | ⟨v,xs,hr1,rfl,hr3,hb1⟩);(exfalso;obtain ⟨xs,hx⟩:=hs;rw [hr1] at hx;cases hx);have B1:=Lib.hid (z4'.out.trans (hb1.mono z4'.out.size));have S1:=Lib.hid hb1.size;have Y1:=Lib.hid ((hb1.block w.heap.size (by have:=z5'.out;omega)).trans z1'.out);clear hb1 o0 o1 o2 o3 o4 o5 o6 o7 o8 o9 o10;obtain ⟨o0,o1,o2,o3,o4,o5,o6,o7,o8,o9,o10⟩:=op_cells Y1.out;rw [hkI.out] at o0;rw [hpn] at o1)) | (go_at_call 184;go_loud (refine (hmv.out _ B1.out).mono ?_;rintro e w2 ⟨rfl,hb2⟩;have B2:=Lib.hid (B1.out.trans (hb2.mono B1.out.size));have R3:=Lib.hid (Top.own_kept hr3 fun k _ h2=>hb2.block k h2);have Y2:=Lib.hid ((hb2.block w.heap.size (Array.getElem?_eq_some_iff.1 Y1.out).1).trans Y1.out);clear hb2 o0 o1 o2 o3 o4 o5 o6 o7 o8 o9 o10;obtain ⟨o0,o1,o2,o3,o4,o5,o6,o7,o8,o9,o10⟩:=op_cells Y2.out;rw [hkI.out] at o0;rw [hpn] at o1)) | (go_at_call 185;go_loud (refine (hpar.out _ B2.out).mono ?_;rintro e w3 ⟨rfl,⟨j1,rfl⟩,hi⟩;clear hi)) | (go_at_call 79;go_loud (refine (hsq.out _ (by first | exact B2.out | exact draws B2.out _)).mono ?_;rintro e w3 ⟨rfl,j1,rfl⟩)))
        go_wp2_with (first | (go_at_call 79;go_loud (refine (hst.out _ (by first | exact B2.out | exact draws B2.out _)).mono ?_;rintro e w3 ⟨rfl,j1,rfl⟩)))
        go_ret3
        exact .inr ⟨v,xs,hr1,by rw [hv.out] <;> rfl,own_mono (Top.own_kept (w':=_) R3.out fun k _ h2=>rfl) z4'.out.size,by first | exact B2.out | exact draws B2.out _⟩
      | true =>
        by_cases j2:o.at_ < i
        · skip
          have hv:=Lib.hid (show gapV (chV o) p i first = wrap64 (wrap64 (i - 1) + 1) by rw [hv1.out,hG1.out];simp [IntWalk.i64_left,j1,j2])
          clear hG1 hv1
          go_enter Try.func125,Try.ntmps125
          go_upto_region 11 with (first | (go_at_call 127;go_loud (rw [← hW2];refine hnd.out.mono ?_;rintro e w1 (⟨hr1,rfl,hb1⟩ | ⟨v,xs,hr1,rfl,hr3,hb1⟩);(exfalso;obtain ⟨xs,hx⟩:=hs;rw [hr1] at hx;cases hx);have B1:=Lib.hid (z4'.out.trans (hb1.mono z4'.out.size));have S1:=Lib.hid hb1.size;have Y1:=Lib.hid ((hb1.block w.heap.size (by have:=z5'.out;omega)).trans z1'.out);clear hb1 o0 o1 o2 o3 o4 o5 o6 o7 o8 o9 o10;obtain ⟨o0,o1,o2,o3,o4,o5,o6,o7,o8,o9,o10⟩:=op_cells Y1.out;rw [hkI.out] at o0;rw [hpn] at o1)) | (go_at_call 184;go_loud (refine (hmv.out _ B1.out).mono ?_;rintro e w2 ⟨rfl,hb2⟩;have B2:=Lib.hid (B1.out.trans (hb2.mono B1.out.size));have R3:=Lib.hid (Top.own_kept hr3 fun k _ h2=>hb2.block k h2);have Y2:=Lib.hid ((hb2.block w.heap.size (Array.getElem?_eq_some_iff.1 Y1.out).1).trans Y1.out);clear hb2 o0 o1 o2 o3 o4 o5 o6 o7 o8 o9 o10;obtain ⟨o0,o1,o2,o3,o4,o5,o6,o7,o8,o9,o10⟩:=op_cells Y2.out;rw [hkI.out] at o0;rw [hpn] at o1)) | (go_at_call 185;go_loud (refine (hpar.out _ B2.out).mono ?_;rintro e w3 ⟨rfl,⟨j1,rfl⟩,hi⟩;clear hi)) | (go_at_call 79;go_loud (refine (hsq.out _ (by first | exact B2.out | exact draws B2.out _)).mono ?_;rintro e w3 ⟨rfl,j1,rfl⟩)))
          go_wp2_with (first | (go_at_call 79;go_loud (refine (hst.out _ (by first | exact B2.out | exact draws B2.out _)).mono ?_;rintro e w3 ⟨rfl,j1,rfl⟩)))
          go_ret3
          exact .inr ⟨v,xs,hr1,by rw [hv.out] <;> rfl,own_mono (Top.own_kept (w':=_) R3.out fun k _ h2=>rfl) z4'.out.size,by first | exact B2.out | exact draws B2.out _⟩
        · cases j3:(i == o.at_) with
          | false =>
            have hv:=Lib.hid (show gapV (chV o) p i first = wrap64 (i - 1) by rw [hv1.out,hG1.out];simp [IntWalk.i64_left,j1,j2,j3])
            clear hG1 hv1
            go_enter Try.func125,Try.ntmps125
            go_upto_region 11 with (first | (go_at_call 127;go_loud (rw [← hW2];refine hnd.out.mono ?_;rintro e w1 (⟨hr1,rfl,hb1⟩ | ⟨v,xs,hr1,rfl,hr3,hb1⟩);(exfalso;obtain ⟨xs,hx⟩:=hs;rw [hr1] at hx;cases hx);have B1:=Lib.hid (z4'.out.trans (hb1.mono z4'.out.size));have S1:=Lib.hid hb1.size;have Y1:=Lib.hid ((hb1.block w.heap.size (by have:=z5'.out;omega)).trans z1'.out);clear hb1 o0 o1 o2 o3 o4 o5 o6 o7 o8 o9 o10;obtain ⟨o0,o1,o2,o3,o4,o5,o6,o7,o8,o9,o10⟩:=op_cells Y1.out;rw [hkI.out] at o0;rw [hpn] at o1)) | (go_at_call 184;go_loud (refine (hmv.out _ B1.out).mono ?_;rintro e w2 ⟨rfl,hb2⟩;have B2:=Lib.hid (B1.out.trans (hb2.mono B1.out.size));have R3:=Lib.hid (Top.own_kept hr3 fun k _ h2=>hb2.block k h2);have Y2:=Lib.hid ((hb2.block w.heap.size (Array.getElem?_eq_some_iff.1 Y1.out).1).trans Y1.out);clear hb2 o0 o1 o2 o3 o4 o5 o6 o7 o8 o9 o10;obtain ⟨o0,o1,o2,o3,o4,o5,o6,o7,o8,o9,o10⟩:=op_cells Y2.out;rw [hkI.out] at o0;rw [hpn] at o1)) | (go_at_call 185;go_loud (refine (hpar.out _ B2.out).mono ?_;rintro e w3 ⟨rfl,⟨j1,rfl⟩,hi⟩;clear hi)) | (go_at_call 79;go_loud (refine (hsq.out _ (by first | exact B2.out | exact draws B2.out _)).mono ?_;rintro e w3 ⟨rfl,j1,rfl⟩)))
            go_wp2_with (first | (go_at_call 79;go_loud (refine (hst.out _ (by first | exact B2.out | exact draws B2.out _)).mono ?_;rintro e w3 ⟨rfl,j1,rfl⟩)))
            go_ret3
            exact .inr ⟨v,xs,hr1,by rw [hv.out] <;> rfl,own_mono (Top.own_kept (w':=_) R3.out fun k _ h2=>rfl) z4'.out.size,by first | exact B2.out | exact draws B2.out _⟩
          | true =>
            cases first with
            | false =>
              have hv:=Lib.hid (show gapV (chV o) p i false = wrap64 (wrap64 (i - 1) + 1) by rw [hv1.out,hG1.out];simp [IntWalk.i64_left,j1,j2,j3])
              clear hG1 hv1
              go_enter Try.func125,Try.ntmps125
              go_upto_region 11 with (first | (go_at_call 127;go_loud (rw [← hW2];refine hnd.out.mono ?_;rintro e w1 (⟨hr1,rfl,hb1⟩ | ⟨v,xs,hr1,rfl,hr3,hb1⟩);(exfalso;obtain ⟨xs,hx⟩:=hs;rw [hr1] at hx;cases hx);have B1:=Lib.hid (z4'.out.trans (hb1.mono z4'.out.size));have S1:=Lib.hid hb1.size;have Y1:=Lib.hid ((hb1.block w.heap.size (by have:=z5'.out;omega)).trans z1'.out);clear hb1 o0 o1 o2 o3 o4 o5 o6 o7 o8 o9 o10;obtain ⟨o0,o1,o2,o3,o4,o5,o6,o7,o8,o9,o10⟩:=op_cells Y1.out;rw [hkI.out] at o0;rw [hpn] at o1)) | (go_at_call 184;go_loud (refine (hmv.out _ B1.out).mono ?_;rintro e w2 ⟨rfl,hb2⟩;have B2:=Lib.hid (B1.out.trans (hb2.mono B1.out.size));have R3:=Lib.hid (Top.own_kept hr3 fun k _ h2=>hb2.block k h2);have Y2:=Lib.hid ((hb2.block w.heap.size (Array.getElem?_eq_some_iff.1 Y1.out).1).trans Y1.out);clear hb2 o0 o1 o2 o3 o4 o5 o6 o7 o8 o9 o10;obtain ⟨o0,o1,o2,o3,o4,o5,o6,o7,o8,o9,o10⟩:=op_cells Y2.out;rw [hkI.out] at o0;rw [hpn] at o1)) | (go_at_call 185;go_loud (refine (hpar.out _ B2.out).mono ?_;rintro e w3 ⟨rfl,⟨j1,rfl⟩,hi⟩;clear hi)) | (go_at_call 79;go_loud (refine (hsq.out _ (by first | exact B2.out | exact draws B2.out _)).mono ?_;rintro e w3 ⟨rfl,j1,rfl⟩)))
              go_wp2_with (first | (go_at_call 79;go_loud (refine (hst.out _ (by first | exact B2.out | exact draws B2.out _)).mono ?_;rintro e w3 ⟨rfl,j1,rfl⟩)))
              go_ret3
              exact .inr ⟨v,xs,hr1,by rw [hv.out] <;> rfl,own_mono (Top.own_kept (w':=_) R3.out fun k _ h2=>rfl) z4'.out.size,by first | exact B2.out | exact draws B2.out _⟩
            | true =>
              have hv:=Lib.hid (show gapV (chV o) p i true = wrap64 (i - 1) by rw [hv1.out,hG1.out];simp [IntWalk.i64_left,j1,j2,j3])
              clear hG1 hv1
              go_enter Try.func125,Try.ntmps125
              go_upto_region 11 with (first | (go_at_call 127;go_loud (rw [← hW2];refine hnd.out.mono ?_;rintro e w1 (⟨hr1,rfl,hb1⟩ | ⟨v,xs,hr1,rfl,hr3,hb1⟩);(exfalso;obtain ⟨xs,hx⟩:=hs;rw [hr1] at hx;cases hx);have B1:=Lib.hid (z4'.out.trans (hb1.mono z4'.out.size));have S1:=Lib.hid hb1.size;have Y1:=Lib.hid ((hb1.block w.heap.size (by have:=z5'.out;omega)).trans z1'.out);clear hb1 o0 o1 o2 o3 o4 o5 o6 o7 o8 o9 o10;obtain ⟨o0,o1,o2,o3,o4,o5,o6,o7,o8,o9,o10⟩:=op_cells Y1.out;rw [hkI.out] at o0;rw [hpn] at o1)) | (go_at_call 184;go_loud (refine (hmv.out _ B1.out).mono ?_;rintro e w2 ⟨rfl,hb2⟩;have B2:=Lib.hid (B1.out.trans (hb2.mono B1.out.size));have R3:=Lib.hid (Top.own_kept hr3 fun k _ h2=>hb2.block k h2);have Y2:=Lib.hid ((hb2.block w.heap.size (Array.getElem?_eq_some_iff.1 Y1.out).1).trans Y1.out);clear hb2 o0 o1 o2 o3 o4 o5 o6 o7 o8 o9 o10;obtain ⟨o0,o1,o2,o3,o4,o5,o6,o7,o8,o9,o10⟩:=op_cells Y2.out;rw [hkI.out] at o0;rw [hpn] at o1)) | (go_at_call 185;go_loud (refine (hpar.out _ B2.out).mono ?_;rintro e w3 ⟨rfl,⟨j1,rfl⟩,hi⟩;clear hi)) | (go_at_call 79;go_loud (refine (hsq.out _ (by first | exact B2.out | exact draws B2.out _)).mono ?_;rintro e w3 ⟨rfl,j1,rfl⟩)))
              go_wp2_with (first | (go_at_call 79;go_loud (refine (hst.out _ (by first | exact B2.out | exact draws B2.out _)).mono ?_;rintro e w3 ⟨rfl,j1,rfl⟩)))
              go_ret3
              exact .inr ⟨v,xs,hr1,by rw [hv.out] <;> rfl,own_mono (Top.own_kept (w':=_) R3.out fun k _ h2=>rfl) z4'.out.size,by first | exact B2.out | exact draws B2.out _⟩
    · skip
      cases b2 with
      | false =>
        have hv:=Lib.hid (show gapV (chV o) p i first = i by rw [hv1.out,hG1.out];simp [IntWalk.i64_left,j1])
        clear hG1 hv1
        go_enter Try.func125,Try.ntmps125
        go_upto_region 11 with (first | (go_at_call 127;go_loud (rw [← hW2];refine hnd.out.mono ?_;rintro e w1 (⟨hr1,rfl,hb1⟩ | ⟨v,xs,hr1,rfl,hr3,hb1⟩);(exfalso;obtain ⟨xs,hx⟩:=hs;rw [hr1] at hx;cases hx);have B1:=Lib.hid (z4'.out.trans (hb1.mono z4'.out.size));have S1:=Lib.hid hb1.size;have Y1:=Lib.hid ((hb1.block w.heap.size (by have:=z5'.out;omega)).trans z1'.out);clear hb1 o0 o1 o2 o3 o4 o5 o6 o7 o8 o9 o10;obtain ⟨o0,o1,o2,o3,o4,o5,o6,o7,o8,o9,o10⟩:=op_cells Y1.out;rw [hkI.out] at o0;rw [hpn] at o1)) | (go_at_call 184;go_loud (refine (hmv.out _ B1.out).mono ?_;rintro e w2 ⟨rfl,hb2⟩;have B2:=Lib.hid (B1.out.trans (hb2.mono B1.out.size));have R3:=Lib.hid (Top.own_kept hr3 fun k _ h2=>hb2.block k h2);have Y2:=Lib.hid ((hb2.block w.heap.size (Array.getElem?_eq_some_iff.1 Y1.out).1).trans Y1.out);clear hb2 o0 o1 o2 o3 o4 o5 o6 o7 o8 o9 o10;obtain ⟨o0,o1,o2,o3,o4,o5,o6,o7,o8,o9,o10⟩:=op_cells Y2.out;rw [hkI.out] at o0;rw [hpn] at o1)) | (go_at_call 185;go_loud (refine (hpar.out _ B2.out).mono ?_;rintro e w3 ⟨rfl,⟨j1,rfl⟩,hi⟩;clear hi)) | (go_at_call 79;go_loud (refine (hsq.out _ (by first | exact B2.out | exact draws B2.out _)).mono ?_;rintro e w3 ⟨rfl,j1,rfl⟩)))
        go_wp2_with (first | (go_at_call 79;go_loud (refine (hst.out _ (by first | exact B2.out | exact draws B2.out _)).mono ?_;rintro e w3 ⟨rfl,j1,rfl⟩)))
        go_ret3
        exact .inr ⟨v,xs,hr1,by rw [hv.out] <;> rfl,own_mono (Top.own_kept (w':=_) R3.out fun k _ h2=>rfl) z4'.out.size,by first | exact B2.out | exact draws B2.out _⟩
      | true =>
        by_cases j2:o.at_ < i
        · skip
          have hv:=Lib.hid (show gapV (chV o) p i first = wrap64 (i + 1) by rw [hv1.out,hG1.out];simp [IntWalk.i64_left,j1,j2])
          clear hG1 hv1
          go_enter Try.func125,Try.ntmps125
          go_upto_region 11 with (first | (go_at_call 127;go_loud (rw [← hW2];refine hnd.out.mono ?_;rintro e w1 (⟨hr1,rfl,hb1⟩ | ⟨v,xs,hr1,rfl,hr3,hb1⟩);(exfalso;obtain ⟨xs,hx⟩:=hs;rw [hr1] at hx;cases hx);have B1:=Lib.hid (z4'.out.trans (hb1.mono z4'.out.size));have S1:=Lib.hid hb1.size;have Y1:=Lib.hid ((hb1.block w.heap.size (by have:=z5'.out;omega)).trans z1'.out);clear hb1 o0 o1 o2 o3 o4 o5 o6 o7 o8 o9 o10;obtain ⟨o0,o1,o2,o3,o4,o5,o6,o7,o8,o9,o10⟩:=op_cells Y1.out;rw [hkI.out] at o0;rw [hpn] at o1)) | (go_at_call 184;go_loud (refine (hmv.out _ B1.out).mono ?_;rintro e w2 ⟨rfl,hb2⟩;have B2:=Lib.hid (B1.out.trans (hb2.mono B1.out.size));have R3:=Lib.hid (Top.own_kept hr3 fun k _ h2=>hb2.block k h2);have Y2:=Lib.hid ((hb2.block w.heap.size (Array.getElem?_eq_some_iff.1 Y1.out).1).trans Y1.out);clear hb2 o0 o1 o2 o3 o4 o5 o6 o7 o8 o9 o10;obtain ⟨o0,o1,o2,o3,o4,o5,o6,o7,o8,o9,o10⟩:=op_cells Y2.out;rw [hkI.out] at o0;rw [hpn] at o1)) | (go_at_call 185;go_loud (refine (hpar.out _ B2.out).mono ?_;rintro e w3 ⟨rfl,⟨j1,rfl⟩,hi⟩;clear hi)) | (go_at_call 79;go_loud (refine (hsq.out _ (by first | exact B2.out | exact draws B2.out _)).mono ?_;rintro e w3 ⟨rfl,j1,rfl⟩)))
          go_wp2_with (first | (go_at_call 79;go_loud (refine (hst.out _ (by first | exact B2.out | exact draws B2.out _)).mono ?_;rintro e w3 ⟨rfl,j1,rfl⟩)))
          go_ret3
          exact .inr ⟨v,xs,hr1,by rw [hv.out] <;> rfl,own_mono (Top.own_kept (w':=_) R3.out fun k _ h2=>rfl) z4'.out.size,by first | exact B2.out | exact draws B2.out _⟩
        · cases j3:(i == o.at_) with
          | false =>
            have hv:=Lib.hid (show gapV (chV o) p i first = i by rw [hv1.out,hG1.out];simp [IntWalk.i64_left,j1,j2,j3])
            clear hG1 hv1
            go_enter Try.func125,Try.ntmps125
            go_upto_region 11 with (first | (go_at_call 127;go_loud (rw [← hW2];refine hnd.out.mono ?_;rintro e w1 (⟨hr1,rfl,hb1⟩ | ⟨v,xs,hr1,rfl,hr3,hb1⟩);(exfalso;obtain ⟨xs,hx⟩:=hs;rw [hr1] at hx;cases hx);have B1:=Lib.hid (z4'.out.trans (hb1.mono z4'.out.size));have S1:=Lib.hid hb1.size;have Y1:=Lib.hid ((hb1.block w.heap.size (by have:=z5'.out;omega)).trans z1'.out);clear hb1 o0 o1 o2 o3 o4 o5 o6 o7 o8 o9 o10;obtain ⟨o0,o1,o2,o3,o4,o5,o6,o7,o8,o9,o10⟩:=op_cells Y1.out;rw [hkI.out] at o0;rw [hpn] at o1)) | (go_at_call 184;go_loud (refine (hmv.out _ B1.out).mono ?_;rintro e w2 ⟨rfl,hb2⟩;have B2:=Lib.hid (B1.out.trans (hb2.mono B1.out.size));have R3:=Lib.hid (Top.own_kept hr3 fun k _ h2=>hb2.block k h2);have Y2:=Lib.hid ((hb2.block w.heap.size (Array.getElem?_eq_some_iff.1 Y1.out).1).trans Y1.out);clear hb2 o0 o1 o2 o3 o4 o5 o6 o7 o8 o9 o10;obtain ⟨o0,o1,o2,o3,o4,o5,o6,o7,o8,o9,o10⟩:=op_cells Y2.out;rw [hkI.out] at o0;rw [hpn] at o1)) | (go_at_call 185;go_loud (refine (hpar.out _ B2.out).mono ?_;rintro e w3 ⟨rfl,⟨j1,rfl⟩,hi⟩;clear hi)) | (go_at_call 79;go_loud (refine (hsq.out _ (by first | exact B2.out | exact draws B2.out _)).mono ?_;rintro e w3 ⟨rfl,j1,rfl⟩)))
            go_wp2_with (first | (go_at_call 79;go_loud (refine (hst.out _ (by first | exact B2.out | exact draws B2.out _)).mono ?_;rintro e w3 ⟨rfl,j1,rfl⟩)))
            go_ret3
            exact .inr ⟨v,xs,hr1,by rw [hv.out] <;> rfl,own_mono (Top.own_kept (w':=_) R3.out fun k _ h2=>rfl) z4'.out.size,by first | exact B2.out | exact draws B2.out _⟩
          | true =>
            cases first with
            | false =>
              have hv:=Lib.hid (show gapV (chV o) p i false = wrap64 (i + 1) by rw [hv1.out,hG1.out];simp [IntWalk.i64_left,j1,j2,j3])
              clear hG1 hv1
              go_enter Try.func125,Try.ntmps125
              go_upto_region 11 with (first | (go_at_call 127;go_loud (rw [← hW2];refine hnd.out.mono ?_;rintro e w1 (⟨hr1,rfl,hb1⟩ | ⟨v,xs,hr1,rfl,hr3,hb1⟩);(exfalso;obtain ⟨xs,hx⟩:=hs;rw [hr1] at hx;cases hx);have B1:=Lib.hid (z4'.out.trans (hb1.mono z4'.out.size));have S1:=Lib.hid hb1.size;have Y1:=Lib.hid ((hb1.block w.heap.size (by have:=z5'.out;omega)).trans z1'.out);clear hb1 o0 o1 o2 o3 o4 o5 o6 o7 o8 o9 o10;obtain ⟨o0,o1,o2,o3,o4,o5,o6,o7,o8,o9,o10⟩:=op_cells Y1.out;rw [hkI.out] at o0;rw [hpn] at o1)) | (go_at_call 184;go_loud (refine (hmv.out _ B1.out).mono ?_;rintro e w2 ⟨rfl,hb2⟩;have B2:=Lib.hid (B1.out.trans (hb2.mono B1.out.size));have R3:=Lib.hid (Top.own_kept hr3 fun k _ h2=>hb2.block k h2);have Y2:=Lib.hid ((hb2.block w.heap.size (Array.getElem?_eq_some_iff.1 Y1.out).1).trans Y1.out);clear hb2 o0 o1 o2 o3 o4 o5 o6 o7 o8 o9 o10;obtain ⟨o0,o1,o2,o3,o4,o5,o6,o7,o8,o9,o10⟩:=op_cells Y2.out;rw [hkI.out] at o0;rw [hpn] at o1)) | (go_at_call 185;go_loud (refine (hpar.out _ B2.out).mono ?_;rintro e w3 ⟨rfl,⟨j1,rfl⟩,hi⟩;clear hi)) | (go_at_call 79;go_loud (refine (hsq.out _ (by first | exact B2.out | exact draws B2.out _)).mono ?_;rintro e w3 ⟨rfl,j1,rfl⟩)))
              go_wp2_with (first | (go_at_call 79;go_loud (refine (hst.out _ (by first | exact B2.out | exact draws B2.out _)).mono ?_;rintro e w3 ⟨rfl,j1,rfl⟩)))
              go_ret3
              exact .inr ⟨v,xs,hr1,by rw [hv.out] <;> rfl,own_mono (Top.own_kept (w':=_) R3.out fun k _ h2=>rfl) z4'.out.size,by first | exact B2.out | exact draws B2.out _⟩
            | true =>
              have hv:=Lib.hid (show gapV (chV o) p i true = i by rw [hv1.out,hG1.out];simp [IntWalk.i64_left,j1,j2,j3])
              clear hG1 hv1
              go_enter Try.func125,Try.ntmps125
              go_upto_region 11 with (first | (go_at_call 127;go_loud (rw [← hW2];refine hnd.out.mono ?_;rintro e w1 (⟨hr1,rfl,hb1⟩ | ⟨v,xs,hr1,rfl,hr3,hb1⟩);(exfalso;obtain ⟨xs,hx⟩:=hs;rw [hr1] at hx;cases hx);have B1:=Lib.hid (z4'.out.trans (hb1.mono z4'.out.size));have S1:=Lib.hid hb1.size;have Y1:=Lib.hid ((hb1.block w.heap.size (by have:=z5'.out;omega)).trans z1'.out);clear hb1 o0 o1 o2 o3 o4 o5 o6 o7 o8 o9 o10;obtain ⟨o0,o1,o2,o3,o4,o5,o6,o7,o8,o9,o10⟩:=op_cells Y1.out;rw [hkI.out] at o0;rw [hpn] at o1)) | (go_at_call 184;go_loud (refine (hmv.out _ B1.out).mono ?_;rintro e w2 ⟨rfl,hb2⟩;have B2:=Lib.hid (B1.out.trans (hb2.mono B1.out.size));have R3:=Lib.hid (Top.own_kept hr3 fun k _ h2=>hb2.block k h2);have Y2:=Lib.hid ((hb2.block w.heap.size (Array.getElem?_eq_some_iff.1 Y1.out).1).trans Y1.out);clear hb2 o0 o1 o2 o3 o4 o5 o6 o7 o8 o9 o10;obtain ⟨o0,o1,o2,o3,o4,o5,o6,o7,o8,o9,o10⟩:=op_cells Y2.out;rw [hkI.out] at o0;rw [hpn] at o1)) | (go_at_call 185;go_loud (refine (hpar.out _ B2.out).mono ?_;rintro e w3 ⟨rfl,⟨j1,rfl⟩,hi⟩;clear hi)) | (go_at_call 79;go_loud (refine (hsq.out _ (by first | exact B2.out | exact draws B2.out _)).mono ?_;rintro e w3 ⟨rfl,j1,rfl⟩)))
              go_wp2_with (first | (go_at_call 79;go_loud (refine (hst.out _ (by first | exact B2.out | exact draws B2.out _)).mono ?_;rintro e w3 ⟨rfl,j1,rfl⟩)))
              go_ret3
              exact .inr ⟨v,xs,hr1,by rw [hv.out] <;> rfl,own_mono (Top.own_kept (w':=_) R3.out fun k _ h2=>rfl) z4'.out.size,by first | exact B2.out | exact draws B2.out _⟩
theorem rGap_any (w:World) (o:Ov) (s:OS) (A:Option Addr) (n cp:Nat) (p:List Int) (i:Int) (first:Bool) (hl:Slen o) (ho:OpIn w o s) (hA:Its w A n p) (hn:n≤cp) (hcp:cp≤maxLen) (hnil:A = none→cp = 0) (hfew:n≤400000):Calls Try.prog 125 #[.agg (opCells o s),.slice A n cp,.int .i64 i,.bool first] w (GapA w (nodeV (chV o) p) (gapV (chV o) p i first)):=by
  cases hn0:nodeV (chV o) p with
  | none=>rw [← hn0];exact rgap_gone w o s A n cp p i first hn0 hl ho hA hn hcp hnil hfew
  | some xs =>
    rw [← hn0]
    cases hm:movesV o with
    | false=>exact rgap_still w o s A n cp p i first hm ⟨xs,hn0⟩ hl ho hA hn hcp hnil hfew
    | true =>
      rcases move_kind hm with hk | ⟨hk,hpn⟩ | ⟨hk,hpn,hw⟩
      · exact rgap_ins w o s A n cp p i first hm hk ⟨xs,hn0⟩ hl ho hA hn hcp hnil hfew
      · obtain ⟨r,d,hr⟩:∃ r d,o.path = r ++ [d]:=by
          rcases snoc_cases o.path with h | h
          · exact absurd h hpn
          · exact h
        exact rgap_del w o s A n cp p i first hm hk r d hr ⟨xs,hn0⟩ hl ho hA hn hcp hnil hfew
      · obtain ⟨r,d,hr⟩:∃ r d,o.path = r ++ [d]:=by
          rcases snoc_cases o.path with h | h
          · exact absurd h hpn
          · exact h
        exact rgap_move w o s A n cp p i first hm hk r d hr hw ⟨xs,hn0⟩ hl ho hA hn hcp hnil hfew
end Go.Proofs.Ytfaolhcacaeijaa.Shf

