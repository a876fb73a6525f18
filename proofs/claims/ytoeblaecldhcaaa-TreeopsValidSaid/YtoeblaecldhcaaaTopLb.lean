/- Which operations are valid: the law. -/
import Derived.Test.YtoeblaecldhcaaaTopLi
import Derived.Test.YtoeblaecldhcaaaMgAM
import Derived.Test.YtoeblaecldhcaaaTopVa
namespace Go.Proofs.Ytoeblaecldhcaaa.Top
open Go.RowKit
set_option maxRecDepth 20000
set_option linter.unusedVariables false

set_option maxHeartbeats 8000000 in
theorem lawValid_any (w : World) (t : Nd) (aA kA : Option Addr) (an ac kn kc : Nat) (o : Ov) (s : OS) (h : NodeV (Old w) w aA an ac kA kn kc t) (hraw : OpRaw w o s) : Calls Try.prog 4 #[.agg (val6 t aA an ac kA kn kc), .agg (opCells o s)] w fun e w' => e = .returned (.bool true) ∧ Below w.heap.size w w' := by
  obtain ⟨W2, hW2⟩ : ∃ W2, W2 = (w.alloc (.cells (val6 t aA an ac kA kn kc) 33)).alloc (.cells (opCells o s) 26) := ⟨_, rfl⟩
  have z1 : W2.heap[w.heap.size]? = some (.cells (val6 t aA an ac kA kn kc) 33 (0, 0)) := by rw [hW2]; exact (Go.heap_alloc_old _ _ (by simp)).trans (heap_alloc_new w _)
  have z2 : W2.heap[w.heap.size + 1]? = some (.cells (opCells o s) 26 (0, 0)) := by rw [hW2]; have h1 := heap_alloc_new (w.alloc (.cells (val6 t aA an ac kA kn kc) 33)) (.cells (opCells o s) 26); rw [World.size_alloc] at h1; exact h1
  have z4' := Lib.hid (show Below w.heap.size w W2 by rw [hW2]; exact ((Below.refl _ _).alloc (Nat.le_refl _) _).alloc (by simp) _)
  have z5 := Lib.hid (show W2.heap.size = w.heap.size + 1 + 1 by rw [hW2]; simp)
  have hbx := Lib.hid (fun (W : World) (hb : Below W2.heap.size W2 W) => show W.heap[w.heap.size]? = some (.cells (val6 t aA an ac kA kn kc) 33 (0, 0)) ∧ W.heap[w.heap.size + 1]? = some (.cells (opCells o s) 26 (0, 0)) from ⟨(hb.block _ (by have := z5.out; omega)).trans z1, (hb.block _ (by have := z5.out; omega)).trans z2⟩)
  have hN := Lib.hid (fun (W : World) (hb : Below W2.heap.size W2 W) => (h.below z4'.out).below hb)
  have hO := Lib.hid (fun (W : World) (hb : Below W2.heap.size W2 W) => (hraw.below z4'.out).below hb)
  have hwt := Lib.hid (fun (W : World) (hb : Below W2.heap.size W2 W) => weight_any t W aA kA an ac kn kc 600 (hN.out W hb) (by decide))
  have hli := Lib.hid (fun (W : World) (hb : Below W2.heap.size W2 W) => light_any W o s (hO.out W hb) 500 (by decide))
  have hin := Lib.hid (fun (hl : lightB o 500 = true) (W : World) (hb : Below W2.heap.size W2 W) => (hO.out W hb).op (by have := (of_decide_eq_true hl).1; omega) (by have := (of_decide_eq_true hl).2.1; omega) (by have := (of_decide_eq_true hl).2.2.2.2.2.1; omega))
  have hsl := Lib.hid (fun (hl : lightB o 500 = true) => show Slim o from ⟨by have := (of_decide_eq_true hl).2.2.1; omega, by have := (of_decide_eq_true hl).2.2.2.1; omega, by have := (of_decide_eq_true hl).2.2.2.2.1; omega, by have := (of_decide_eq_true hl).2.2.2.2.2.2; omega⟩)
  obtain ⟨b, hb⟩ : ∃ b, b = lightB o 500 := ⟨_, rfl⟩
  rw [← hb] at hli hin hsl
  clear h hraw hb
  obtain ⟨o0, o1, o2, o3, o4, o5, o6, o7, o8, o9, o10⟩ := op_cells z2
  have z1u := z1
  unfold val6 at z1u
  obtain ⟨p0, p1, p2, p3, p4, p5, pf⟩ := six_cells z1u
  clear z1 z1u z2
  rw [hW2] at o0 o1 o2 o3 o4 o5 o6 o7 o8 o9 o10 p0 p1 p2 p3 p4 p5 pf
  unfold opCells at hli
  unfold val6 at hwt
  unfold val6 opCells at hW2 o0 o1 o2 o3 o4 o5 o6 o7 o8 o9 o10 p0 p1 p2 p3 p4 p5
  unfold val6 opCells
  go_enter Try.func4, Try.ntmps4
  go_wp2_with fail
  rw [← hW2]
  clear hW2 o0 o1 o2 o3 o4 o5 o6 o7 o8 o9 o10 p0 p1 p2 p3 p4 p5 pf
  refine (hwt.out W2 (Below.refl _ _)).mono ?_
  rintro e w1 ⟨x, rfl, hx3, hx, hb1⟩
  have B1 := Lib.hid hb1
  have hx' := Lib.hid hx
  obtain ⟨r1, r2⟩ := hbx.out w1 hb1
  obtain ⟨o0, o1, o2, o3, o4, o5, o6, o7, o8, o9, o10⟩ := op_cells r2
  unfold val6 at r1
  obtain ⟨p0, p1, p2, p3, p4, p5, pf⟩ := six_cells r1
  clear hb1 hx r1 r2 hwt
  by_cases g1 : x ≤ 600
  · have g1I : ¬ (600 : Int) < (x : Int) := by omega
    cases b with
    | false =>
      clear hin hsl
      go_wp2_with (first
        | (go_at_call 13; go_loud (refine (works_any _).mono ?_; rintro e w5 ⟨rfl, hb5⟩; have B5 := Lib.hid (B2.out.trans (hb5.mono B2.out.size)); clear hb5))
        | (go_at_call 10; go_loud (refine (hli.out w1 B1.out).mono ?_; rintro e w2 ⟨rfl, hb2⟩; have B2 := Lib.hid (B1.out.trans (hb2.mono B1.out.size)); obtain ⟨r1, r2⟩ := hbx.out w2 B2.out; clear o0 o1 o2 o3 o4 o5 o6 o7 o8 o9 o10 p0 p1 p2 p3 p4 p5 pf; obtain ⟨o0, o1, o2, o3, o4, o5, o6, o7, o8, o9, o10⟩ := op_cells r2; unfold val6 at r1; obtain ⟨p0, p1, p2, p3, p4, p5, pf⟩ := six_cells r1; clear hb2 r1 r2)))
      go_ret
      exact ⟨rfl, z4'.out.trans (B5.out.mono z4'.out.size)⟩
    | true =>
      have hin1 := Lib.hid (hin.out rfl)
      have hsl1 := Lib.hid (hsl.out rfl)
      clear hin hsl
      go_wp2_with (go_at_call 10; go_loud (refine (hli.out w1 B1.out).mono ?_; rintro e w2 ⟨rfl, hb2⟩; have B2 := Lib.hid (B1.out.trans (hb2.mono B1.out.size)); obtain ⟨r1, r2⟩ := hbx.out w2 B2.out; clear o0 o1 o2 o3 o4 o5 o6 o7 o8 o9 o10 p0 p1 p2 p3 p4 p5 pf; obtain ⟨o0, o1, o2, o3, o4, o5, o6, o7, o8, o9, o10⟩ := op_cells r2; unfold val6 at r1; obtain ⟨p0, p1, p2, p3, p4, p5, pf⟩ := six_cells r1; clear hb2 r1 r2))
      have hv1 := Lib.hid (fun (W : World) (hb : Below w2.heap.size w2 W) => valid_any W t aA kA an ac kn kc o s (hN.out W (B2.out.trans (hb.mono B2.out.size))) (hin1.out W (B2.out.trans (hb.mono B2.out.size))) (by have := hx'.out g1; omega))
      have hv2 := Lib.hid (fun (W : World) (hb : Below w2.heap.size w2 W) => rvalid_any W t aA kA an ac kn kc o s (hN.out W (B2.out.trans (hb.mono B2.out.size))) (hin1.out W (B2.out.trans (hb.mono B2.out.size))) (by have := hx'.out g1; omega))
      obtain ⟨vv, hvv⟩ : ∃ vv, vv = validV t o := ⟨_, rfl⟩
      rw [← hvv] at hv1 hv2
      have hrr : (vv == vv) = true := by simp
      clear hvv
      unfold val6 opCells at hv1 hv2
      rename_i K0 hK0
      refine Top.wp_region_L (fun W => Below w2.heap.size w2 W) 10 rfl ((Below.refl w2.heap.size w2).drew) (fun hHeld => ?_)
      refine Top.wpAnyL_take (i := 0) (oi := { dst := some 14, op := Go.Op.load 33 (Go.Operand.tmp 2), type := 33, pos := "law.go:24", after := #[], guard := none }) (v := ?_) rfl (by kernel_rfl) (by kernel_rfl) (by kernel_rfl) (by kernel_rfl) (fun _ _ _ h => h) (Or.inl ⟨by rfl, ?_⟩) hHeld ?_
      rotate_left 1
      · intro W hSw; obtain ⟨r1, r2⟩ := hbx.out W (B2.out.trans (hSw.mono B2.out.size)); obtain ⟨o0, o1, o2, o3, o4, o5, o6, o7, o8, o9, o10⟩ := op_cells r2; unfold val6 at r1; obtain ⟨p0, p1, p2, p3, p4, p5, pf⟩ := six_cells r1; go_simp; try with_reducible rfl
      try simp only [Act.put, List.setIfInBounds_toArray, List.set_cons_zero, List.set_cons_succ]
      refine Top.wpAnyL_take (i := 1) (oi := { dst := some 15, op := Go.Op.load 26 (Go.Operand.tmp 3), type := 26, pos := "law.go:24", after := #[], guard := none }) (v := ?_) rfl (by kernel_rfl) (by kernel_rfl) (by kernel_rfl) (by kernel_rfl) (fun _ _ _ h => h) (Or.inl ⟨by rfl, ?_⟩) hHeld ?_
      rotate_left 1
      · intro W hSw; obtain ⟨r1, r2⟩ := hbx.out W (B2.out.trans (hSw.mono B2.out.size)); obtain ⟨o0, o1, o2, o3, o4, o5, o6, o7, o8, o9, o10⟩ := op_cells r2; unfold val6 at r1; obtain ⟨p0, p1, p2, p3, p4, p5, pf⟩ := six_cells r1; go_simp; try with_reducible rfl
      try simp only [Act.put, List.setIfInBounds_toArray, List.set_cons_zero, List.set_cons_succ]
      refine Top.wpAnyL_take (i := 3) (oi := { dst := some 17, op := Go.Op.load 33 (Go.Operand.tmp 2), type := 33, pos := "law.go:24", after := #[], guard := none }) (v := ?_) rfl (by kernel_rfl) (by kernel_rfl) (by kernel_rfl) (by kernel_rfl) (fun _ _ _ h => h) (Or.inl ⟨by rfl, ?_⟩) hHeld ?_
      rotate_left 1
      · intro W hSw; obtain ⟨r1, r2⟩ := hbx.out W (B2.out.trans (hSw.mono B2.out.size)); obtain ⟨o0, o1, o2, o3, o4, o5, o6, o7, o8, o9, o10⟩ := op_cells r2; unfold val6 at r1; obtain ⟨p0, p1, p2, p3, p4, p5, pf⟩ := six_cells r1; go_simp; try with_reducible rfl
      try simp only [Act.put, List.setIfInBounds_toArray, List.set_cons_zero, List.set_cons_succ]
      refine Top.wpAnyL_take (i := 4) (oi := { dst := some 18, op := Go.Op.load 26 (Go.Operand.tmp 3), type := 26, pos := "law.go:24", after := #[], guard := none }) (v := ?_) rfl (by kernel_rfl) (by kernel_rfl) (by kernel_rfl) (by kernel_rfl) (fun _ _ _ h => h) (Or.inl ⟨by rfl, ?_⟩) hHeld ?_
      rotate_left 1
      · intro W hSw; obtain ⟨r1, r2⟩ := hbx.out W (B2.out.trans (hSw.mono B2.out.size)); obtain ⟨o0, o1, o2, o3, o4, o5, o6, o7, o8, o9, o10⟩ := op_cells r2; unfold val6 at r1; obtain ⟨p0, p1, p2, p3, p4, p5, pf⟩ := six_cells r1; go_simp; try with_reducible rfl
      try simp only [Act.put, List.setIfInBounds_toArray, List.set_cons_zero, List.set_cons_succ]
      refine Top.wpAnyL_one (i := 2) (o := { dst := some 16, op := Go.Op.call { callee := Go.Callee.value (Go.Operand.func 15), args := #[Go.Operand.tmp 14, Go.Operand.tmp 15], argTypes := #[33, 26] }, type := 35, pos := "law.go:24", after := #[{ on := 0, ground := Go.Ground.data }, { on := 1, ground := Go.Ground.data }], guard := none }) (by kernel_rfl) rfl (by decide) (fun K hK => ?_)
      go_simp
      refine (hv1.out _ hHeld).mono ?_
      rintro e w6 ⟨rfl, hb6⟩
      have h6 := Lib.hid (show Below w2.heap.size w2 w6 from hHeld.trans (hb6.mono hHeld.size))
      clear hb6
      go_simp
      refine hK.out _ _ ?_ (fun hNew => ?_)
      · exact h6.out
      clear hK K hHeld
      have hHeld := hNew
      clear hNew
      try simp only [Act.put, List.setIfInBounds_toArray, List.set_cons_zero, List.set_cons_succ]
      refine Top.wpAnyL_one (i := 5) (o := { dst := some 19, op := Go.Op.call { callee := Go.Callee.value (Go.Operand.func 16), args := #[Go.Operand.tmp 17, Go.Operand.tmp 18], argTypes := #[33, 26] }, type := 35, pos := "law.go:24", after := #[{ on := 3, ground := Go.Ground.data }, { on := 4, ground := Go.Ground.data }, { on := 2, ground := Go.Ground.chain }], guard := none }) (by kernel_rfl) rfl (by decide) (fun K hK => ?_)
      go_simp
      refine (hv2.out _ hHeld).mono ?_
      rintro e w7 ⟨rfl, hb7⟩
      have h7 := Lib.hid (show Below w2.heap.size w2 w7 from hHeld.trans (hb7.mono hHeld.size))
      clear hb7
      go_simp
      refine hK.out _ _ ?_ (fun hNew => ?_)
      · exact h7.out
      clear hK K hHeld
      have hHeld := hNew
      clear hNew
      try simp only [Act.put, List.setIfInBounds_toArray, List.set_cons_zero, List.set_cons_succ]
      refine Top.wpAnyL_take (i := 6) (oi := { dst := some 20, op := Go.Op.binOp Go.BinOp.eql 35 (Go.Operand.tmp 16) (Go.Operand.tmp 19) 35, type := 4, pos := "law.go:24", after := #[{ on := 2, ground := Go.Ground.data }, { on := 5, ground := Go.Ground.data }], guard := none }) (v := ?_) rfl (by kernel_rfl) (by kernel_rfl) (by kernel_rfl) (by kernel_rfl) (fun _ _ _ h => h) (Or.inl ⟨by rfl, ?_⟩) hHeld ?_
      rotate_left 1
      · intro W hSw; obtain ⟨r1, r2⟩ := hbx.out W (B2.out.trans (hSw.mono B2.out.size)); obtain ⟨o0, o1, o2, o3, o4, o5, o6, o7, o8, o9, o10⟩ := op_cells r2; unfold val6 at r1; obtain ⟨p0, p1, p2, p3, p4, p5, pf⟩ := six_cells r1; go_simp; try with_reducible rfl
      try simp only [Act.put, List.setIfInBounds_toArray, List.set_cons_zero, List.set_cons_succ]
      refine Top.wpAnyL_take (i := 7) (oi := { dst := some 21, op := Go.Op.move (Go.Operand.tmp 20), type := 4, pos := "law.go:24", after := #[{ on := 6, ground := Go.Ground.data }, { on := 5, ground := Go.Ground.chain }], guard := none }) (v := ?_) rfl (by kernel_rfl) (by kernel_rfl) (by kernel_rfl) (by kernel_rfl) (fun _ _ _ h => h) (Or.inl ⟨by rfl, ?_⟩) hHeld ?_
      rotate_left 1
      · intro W hSw; obtain ⟨r1, r2⟩ := hbx.out W (B2.out.trans (hSw.mono B2.out.size)); obtain ⟨o0, o1, o2, o3, o4, o5, o6, o7, o8, o9, o10⟩ := op_cells r2; unfold val6 at r1; obtain ⟨p0, p1, p2, p3, p4, p5, pf⟩ := six_cells r1; go_simp; try with_reducible rfl
      try simp only [Act.put, List.setIfInBounds_toArray, List.set_cons_zero, List.set_cons_succ]
      refine Top.wpAnyL_one (i := 8) (o := { dst := some 22, op := Go.Op.call { callee := Go.Callee.value (Go.Operand.func 13), args := #[], argTypes := #[] }, type := 4, pos := "law.go:24", after := #[{ on := 7, ground := Go.Ground.chain }, { on := 7, ground := Go.Ground.guard }], guard := some (7, true) }) (by kernel_rfl) rfl (by decide) (fun K hK => ?_)
      go_simp
      refine (works_any _).mono ?_
      rintro e w8 ⟨rfl, hb8⟩
      have h8 := Lib.hid (show Below w2.heap.size w2 w8 from hHeld.trans (hb8.mono hHeld.size))
      clear hb8
      go_simp
      refine hK.out _ _ ?_ (fun hNew => ?_)
      · exact h8.out
      clear hK K hHeld
      have hHeld := hNew
      clear hNew
      try simp only [Act.put, List.setIfInBounds_toArray, List.set_cons_zero, List.set_cons_succ]
      refine Top.wpAnyL_take (i := 9) (oi := { dst := some 23, op := Go.Op.pick (Go.Operand.tmp 21) (Go.Operand.tmp 22) (Go.Operand.const (Go.Value.bool false)), type := 4, pos := "law.go:24", after := #[{ on := 7, ground := Go.Ground.data }, { on := 8, ground := Go.Ground.data }], guard := none }) (v := ?_) rfl (by kernel_rfl) (by kernel_rfl) (by kernel_rfl) (by kernel_rfl) (fun _ _ _ h => h) (Or.inl ⟨by rfl, ?_⟩) hHeld ?_
      rotate_left 1
      · intro W hSw; obtain ⟨r1, r2⟩ := hbx.out W (B2.out.trans (hSw.mono B2.out.size)); obtain ⟨o0, o1, o2, o3, o4, o5, o6, o7, o8, o9, o10⟩ := op_cells r2; unfold val6 at r1; obtain ⟨p0, p1, p2, p3, p4, p5, pf⟩ := six_cells r1; go_simp; try with_reducible rfl
      try simp only [Act.put, List.setIfInBounds_toArray, List.set_cons_zero, List.set_cons_succ]
      refine Top.wpAnyL_last (o := { dst := some 4, op := Go.Op.assign (Go.Operand.tmp 23), type := 4, pos := "law.go:24", after := #[{ on := 9, ground := Go.Ground.data }, { on := 8, ground := Go.Ground.chain }, { on := 0, ground := Go.Ground.phase }, { on := 1, ground := Go.Ground.phase }, { on := 2, ground := Go.Ground.phase }, { on := 3, ground := Go.Ground.phase }, { on := 4, ground := Go.Ground.phase }, { on := 5, ground := Go.Ground.phase }, { on := 6, ground := Go.Ground.phase }, { on := 7, ground := Go.Ground.phase }, { on := 8, ground := Go.Ground.phase }, { on := 9, ground := Go.Ground.phase }], guard := none }) (by kernel_rfl) rfl (fun K hK => ?_)
      go_simp
      refine hK _ _ ?_
      clear hK K
      try simp only [Act.put, List.setIfInBounds_toArray, List.set_cons_zero, List.set_cons_succ]
      refine wpAny_done (by kernel_rfl) ?_ _
      refine hK0 _ _ ?_
      clear hK0
      go_wp2_with fail
      go_ret
      exact ⟨rfl, z4'.out.trans ((B2.out.trans (h8.out.mono B2.out.size)).mono z4'.out.size)⟩
  · have g1I : (600 : Int) < (x : Int) := by omega
    clear hin hsl hli
    go_wp2_with (go_at_call 13; go_loud (refine (works_any _).mono ?_; rintro e w5 ⟨rfl, hb5⟩; have B5 := Lib.hid (B1.out.trans (hb5.mono B1.out.size)); clear hb5))
    go_ret
    exact ⟨rfl, z4'.out.trans (B5.out.mono z4'.out.size)⟩
end Go.Proofs.Ytoeblaecldhcaaa.Top
