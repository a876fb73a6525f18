/- Which operations are formed: the law. -/
import Derived.Test.YtoeblaecldhcaaaTopLi
import Derived.Test.YtoeblaecldhcaaaMgAM
import Derived.Test.YtoeblaecldhcaaaMgAI
namespace Go.Proofs.Ytoeblaecldhcaaa.Top
open Go.RowKit
set_option maxRecDepth 20000
set_option linter.unusedVariables false

set_option maxHeartbeats 8000000 in
theorem lawFormed_any (w : World) (o : Ov) (s : OS) (h : OpRaw w o s) : Calls Try.prog 3 #[.agg (opCells o s)] w fun e w' => e = .returned (.bool true) ∧ Below w.heap.size w w' := by
  obtain ⟨W1, hW1⟩ : ∃ W1, W1 = w.alloc (.cells (opCells o s) 26) := ⟨_, rfl⟩
  have z1 := Lib.hid (show W1.heap[w.heap.size]? = some (.cells (opCells o s) 26 (0, 0)) by rw [hW1]; exact heap_alloc_new w _)
  have hb1 := Lib.hid (show Below w.heap.size w W1 by rw [hW1]; exact (Below.refl _ _).alloc (Nat.le_refl _) _)
  have hop := Lib.hid (fun (W : World) (hb : Below W1.heap.size W1 W) => op_cells ((hb.block w.heap.size (Array.getElem?_eq_some_iff.1 z1.out).1).trans z1.out))
  have hli := Lib.hid (fun (W : World) (hb : Below W1.heap.size W1 W) => light_any W o s ((h.below hb1.out).below hb) 500 (by decide))
  have hin := Lib.hid (fun (W : World) (hb : Below W1.heap.size W1 W) (hl : lightB o 500 = true) => ((h.below hb1.out).below hb).op (by have := (of_decide_eq_true hl).1; omega) (by have := (of_decide_eq_true hl).2.1; omega) (by have := (of_decide_eq_true hl).2.2.2.2.2.1; omega))
  have hf1 := Lib.hid (fun (hl : lightB o 500 = true) (W : World) (hb : Below W1.heap.size W1 W) => formed_any W o s (hin.out W hb hl))
  have hf2 := Lib.hid (fun (hl : lightB o 500 = true) (W : World) (hb : Below W1.heap.size W1 W) => rformed_any W o s (hin.out W hb hl))
  obtain ⟨b, hb⟩ : ∃ b, b = lightB o 500 := ⟨_, rfl⟩
  obtain ⟨f, hf⟩ : ∃ f, f = formedV o := ⟨_, rfl⟩
  rw [← hb] at hli hf1 hf2
  rw [← hf] at hf1 hf2
  clear h hin hb hf
  unfold opCells at hli hf1 hf2 hW1
  unfold opCells
  cases b with
  | true =>
    have hg1 := Lib.hid (hf1.out rfl)
    have hg2 := Lib.hid (hf2.out rfl)
    clear hf1 hf2
    have hrr : (f == f) = true := by simp
    go_enter Try.func3, Try.ntmps3
    go_wp2_with fail
    rw [← hW1]
    clear hW1
    rename_i K0 hK0
    refine Top.wp_region_L (fun W => Below W1.heap.size W1 W) 13 rfl ((Below.refl W1.heap.size W1).drew) (fun hHeld => ?_)
    refine Top.wpAnyL_take (i := 0) (oi := { dst := some 3, op := Go.Op.load 26 (Go.Operand.tmp 1), type := 26, pos := "law.go:16", after := #[], guard := none }) (v := ?_) rfl (by kernel_rfl) (by kernel_rfl) (by kernel_rfl) (by kernel_rfl) (fun _ _ _ h => h) (Or.inl ⟨by rfl, ?_⟩) hHeld ?_
    rotate_left 1
    · intro W hSw; obtain ⟨o0, o1, o2, o3, o4, o5, o6, o7, o8, o9, o10⟩ := hop.out W hSw; go_simp; try with_reducible rfl
    try simp only [Act.put, List.setIfInBounds_toArray, List.set_cons_zero, List.set_cons_succ]
    refine Top.wpAnyL_one (i := 1) (o := { dst := some 4, op := Go.Op.call { callee := Go.Callee.value (Go.Operand.func 10), args := #[Go.Operand.tmp 3, Go.Operand.const (Go.Value.int Go.IntKind.i64 500)], argTypes := #[26, 3] }, type := 4, pos := "law.go:16", after := #[{ on := 0, ground := Go.Ground.data }], guard := none }) (by kernel_rfl) rfl (by decide) (fun K hK => ?_)
    go_simp
    refine (hli.out _ hHeld).mono ?_
    rintro e w2 ⟨rfl, hb2⟩
    have h2 := Lib.hid (show Below W1.heap.size W1 w2 from hHeld.trans (hb2.mono hHeld.size))
    clear hb2
    go_simp
    refine hK.out _ _ ?_ (fun hNew => ?_)
    · exact h2.out
    clear hK K hHeld
    have hHeld := hNew
    clear hNew
    try simp only [Act.put, List.setIfInBounds_toArray, List.set_cons_zero, List.set_cons_succ]
    refine Top.wpAnyL_take (i := 2) (oi := { dst := some 5, op := Go.Op.unOp Go.UnOp.not 4 (Go.Operand.tmp 4), type := 4, pos := "law.go:16", after := #[{ on := 1, ground := Go.Ground.data }], guard := none }) (v := ?_) rfl (by kernel_rfl) (by kernel_rfl) (by kernel_rfl) (by kernel_rfl) (fun _ _ _ h => h) (Or.inl ⟨by rfl, ?_⟩) hHeld ?_
    rotate_left 1
    · intro W hSw; obtain ⟨o0, o1, o2, o3, o4, o5, o6, o7, o8, o9, o10⟩ := hop.out W hSw; go_simp; try with_reducible rfl
    try simp only [Act.put, List.setIfInBounds_toArray, List.set_cons_zero, List.set_cons_succ]
    refine Top.wpAnyL_take (i := 3) (oi := { dst := some 6, op := Go.Op.move (Go.Operand.tmp 5), type := 4, pos := "law.go:16", after := #[{ on := 2, ground := Go.Ground.data }, { on := 1, ground := Go.Ground.chain }], guard := none }) (v := ?_) rfl (by kernel_rfl) (by kernel_rfl) (by kernel_rfl) (by kernel_rfl) (fun _ _ _ h => h) (Or.inl ⟨by rfl, ?_⟩) hHeld ?_
    rotate_left 1
    · intro W hSw; obtain ⟨o0, o1, o2, o3, o4, o5, o6, o7, o8, o9, o10⟩ := hop.out W hSw; go_simp; try with_reducible rfl
    try simp only [Act.put, List.setIfInBounds_toArray, List.set_cons_zero, List.set_cons_succ]
    refine Top.wpAnyL_take (i := 4) (oi := { dst := some 7, op := Go.Op.load 26 (Go.Operand.tmp 1), type := 26, pos := "law.go:16", after := #[{ on := 3, ground := Go.Ground.guard }], guard := some (3, false) }) (v := ?_) rfl (by kernel_rfl) (by kernel_rfl) (by kernel_rfl) (by kernel_rfl) (fun _ _ _ h => h) (Or.inl ⟨by rfl, ?_⟩) hHeld ?_
    rotate_left 1
    · intro W hSw; obtain ⟨o0, o1, o2, o3, o4, o5, o6, o7, o8, o9, o10⟩ := hop.out W hSw; go_simp; try with_reducible rfl
    try simp only [Act.put, List.setIfInBounds_toArray, List.set_cons_zero, List.set_cons_succ]
    refine Top.wpAnyL_take (i := 6) (oi := { dst := some 9, op := Go.Op.load 26 (Go.Operand.tmp 1), type := 26, pos := "law.go:16", after := #[{ on := 3, ground := Go.Ground.guard }], guard := some (3, false) }) (v := ?_) rfl (by kernel_rfl) (by kernel_rfl) (by kernel_rfl) (by kernel_rfl) (fun _ _ _ h => h) (Or.inl ⟨by rfl, ?_⟩) hHeld ?_
    rotate_left 1
    · intro W hSw; obtain ⟨o0, o1, o2, o3, o4, o5, o6, o7, o8, o9, o10⟩ := hop.out W hSw; go_simp; try with_reducible rfl
    try simp only [Act.put, List.setIfInBounds_toArray, List.set_cons_zero, List.set_cons_succ]
    refine Top.wpAnyL_one (i := 5) (o := { dst := some 8, op := Go.Op.call { callee := Go.Callee.value (Go.Operand.func 11), args := #[Go.Operand.tmp 7], argTypes := #[26] }, type := 4, pos := "law.go:16", after := #[{ on := 4, ground := Go.Ground.data }, { on := 3, ground := Go.Ground.chain }, { on := 3, ground := Go.Ground.guard }], guard := some (3, false) }) (by kernel_rfl) rfl (by decide) (fun K hK => ?_)
    go_simp
    refine (hg1.out _ hHeld).mono ?_
    rintro e w3 ⟨rfl, hb3⟩
    have h3 := Lib.hid (show Below W1.heap.size W1 w3 from hHeld.trans (hb3.mono hHeld.size))
    clear hb3
    go_simp
    refine hK.out _ _ ?_ (fun hNew => ?_)
    · exact h3.out
    clear hK K hHeld
    have hHeld := hNew
    clear hNew
    try simp only [Act.put, List.setIfInBounds_toArray, List.set_cons_zero, List.set_cons_succ]
    refine Top.wpAnyL_one (i := 7) (o := { dst := some 10, op := Go.Op.call { callee := Go.Callee.value (Go.Operand.func 12), args := #[Go.Operand.tmp 9], argTypes := #[26] }, type := 4, pos := "law.go:16", after := #[{ on := 6, ground := Go.Ground.data }, { on := 5, ground := Go.Ground.chain }, { on := 3, ground := Go.Ground.guard }], guard := some (3, false) }) (by kernel_rfl) rfl (by decide) (fun K hK => ?_)
    go_simp
    refine (hg2.out _ hHeld).mono ?_
    rintro e w4 ⟨rfl, hb4⟩
    have h4 := Lib.hid (show Below W1.heap.size W1 w4 from hHeld.trans (hb4.mono hHeld.size))
    clear hb4
    go_simp
    refine hK.out _ _ ?_ (fun hNew => ?_)
    · exact h4.out
    clear hK K hHeld
    have hHeld := hNew
    clear hNew
    try simp only [Act.put, List.setIfInBounds_toArray, List.set_cons_zero, List.set_cons_succ]
    refine Top.wpAnyL_take (i := 8) (oi := { dst := some 11, op := Go.Op.binOp Go.BinOp.eql 4 (Go.Operand.tmp 8) (Go.Operand.tmp 10) 4, type := 4, pos := "law.go:16", after := #[{ on := 5, ground := Go.Ground.data }, { on := 7, ground := Go.Ground.data }, { on := 3, ground := Go.Ground.guard }], guard := some (3, false) }) (v := ?_) rfl (by kernel_rfl) (by kernel_rfl) (by kernel_rfl) (by kernel_rfl) (fun _ _ _ h => h) (Or.inl ⟨by rfl, ?_⟩) hHeld ?_
    rotate_left 1
    · intro W hSw; obtain ⟨o0, o1, o2, o3, o4, o5, o6, o7, o8, o9, o10⟩ := hop.out W hSw; go_simp; try with_reducible rfl
    try simp only [Act.put, List.setIfInBounds_toArray, List.set_cons_zero, List.set_cons_succ]
    refine Top.wpAnyL_take (i := 9) (oi := { dst := some 12, op := Go.Op.pick (Go.Operand.tmp 6) (Go.Operand.const (Go.Value.bool true)) (Go.Operand.tmp 11), type := 4, pos := "law.go:16", after := #[{ on := 3, ground := Go.Ground.data }, { on := 8, ground := Go.Ground.data }], guard := none }) (v := ?_) rfl (by kernel_rfl) (by kernel_rfl) (by kernel_rfl) (by kernel_rfl) (fun _ _ _ h => h) (Or.inl ⟨by rfl, ?_⟩) hHeld ?_
    rotate_left 1
    · intro W hSw; obtain ⟨o0, o1, o2, o3, o4, o5, o6, o7, o8, o9, o10⟩ := hop.out W hSw; go_simp; try with_reducible rfl
    try simp only [Act.put, List.setIfInBounds_toArray, List.set_cons_zero, List.set_cons_succ]
    refine Top.wpAnyL_take (i := 10) (oi := { dst := some 13, op := Go.Op.move (Go.Operand.tmp 12), type := 4, pos := "law.go:16", after := #[{ on := 9, ground := Go.Ground.data }, { on := 7, ground := Go.Ground.chain }], guard := none }) (v := ?_) rfl (by kernel_rfl) (by kernel_rfl) (by kernel_rfl) (by kernel_rfl) (fun _ _ _ h => h) (Or.inl ⟨by rfl, ?_⟩) hHeld ?_
    rotate_left 1
    · intro W hSw; obtain ⟨o0, o1, o2, o3, o4, o5, o6, o7, o8, o9, o10⟩ := hop.out W hSw; go_simp; try with_reducible rfl
    try simp only [Act.put, List.setIfInBounds_toArray, List.set_cons_zero, List.set_cons_succ]
    refine Top.wpAnyL_one (i := 11) (o := { dst := some 14, op := Go.Op.call { callee := Go.Callee.value (Go.Operand.func 13), args := #[], argTypes := #[] }, type := 4, pos := "law.go:16", after := #[{ on := 10, ground := Go.Ground.chain }, { on := 10, ground := Go.Ground.guard }], guard := some (10, true) }) (by kernel_rfl) rfl (by decide) (fun K hK => ?_)
    go_simp
    refine (works_any _).mono ?_
    rintro e w5 ⟨rfl, hb5⟩
    have h5 := Lib.hid (show Below W1.heap.size W1 w5 from hHeld.trans (hb5.mono hHeld.size))
    clear hb5
    go_simp
    refine hK.out _ _ ?_ (fun hNew => ?_)
    · exact h5.out
    clear hK K hHeld
    have hHeld := hNew
    clear hNew
    try simp only [Act.put, List.setIfInBounds_toArray, List.set_cons_zero, List.set_cons_succ]
    refine Top.wpAnyL_take (i := 12) (oi := { dst := some 15, op := Go.Op.pick (Go.Operand.tmp 13) (Go.Operand.tmp 14) (Go.Operand.const (Go.Value.bool false)), type := 4, pos := "law.go:16", after := #[{ on := 10, ground := Go.Ground.data }, { on := 11, ground := Go.Ground.data }], guard := none }) (v := ?_) rfl (by kernel_rfl) (by kernel_rfl) (by kernel_rfl) (by kernel_rfl) (fun _ _ _ h => h) (Or.inl ⟨by rfl, ?_⟩) hHeld ?_
    rotate_left 1
    · intro W hSw; obtain ⟨o0, o1, o2, o3, o4, o5, o6, o7, o8, o9, o10⟩ := hop.out W hSw; go_simp; try with_reducible rfl
    try simp only [Act.put, List.setIfInBounds_toArray, List.set_cons_zero, List.set_cons_succ]
    refine Top.wpAnyL_last (o := { dst := some 2, op := Go.Op.assign (Go.Operand.tmp 15), type := 4, pos := "law.go:16", after := #[{ on := 12, ground := Go.Ground.data }, { on := 11, ground := Go.Ground.chain }, { on := 0, ground := Go.Ground.phase }, { on := 1, ground := Go.Ground.phase }, { on := 2, ground := Go.Ground.phase }, { on := 3, ground := Go.Ground.phase }, { on := 4, ground := Go.Ground.phase }, { on := 5, ground := Go.Ground.phase }, { on := 6, ground := Go.Ground.phase }, { on := 7, ground := Go.Ground.phase }, { on := 8, ground := Go.Ground.phase }, { on := 9, ground := Go.Ground.phase }, { on := 10, ground := Go.Ground.phase }, { on := 11, ground := Go.Ground.phase }, { on := 12, ground := Go.Ground.phase }], guard := none }) (by kernel_rfl) rfl (fun K hK => ?_)
    go_simp
    refine hK _ _ ?_
    clear hK K
    try simp only [Act.put, List.setIfInBounds_toArray, List.set_cons_zero, List.set_cons_succ]
    refine wpAny_done (by kernel_rfl) ?_ _
    refine hK0 _ _ ?_
    clear hK0
    go_wp2_with fail
    go_ret
    exact ⟨rfl, hb1.out.trans (h5.out.mono hb1.out.size)⟩
  | false =>
    clear hf1 hf2
    go_enter Try.func3, Try.ntmps3
    go_wp2_with fail
    rw [← hW1]
    clear hW1
    rename_i K0 hK0
    refine Top.wp_region_L (fun W => Below W1.heap.size W1 W) 13 rfl ((Below.refl W1.heap.size W1).drew) (fun hHeld => ?_)
    refine Top.wpAnyL_take (i := 0) (oi := { dst := some 3, op := Go.Op.load 26 (Go.Operand.tmp 1), type := 26, pos := "law.go:16", after := #[], guard := none }) (v := ?_) rfl (by kernel_rfl) (by kernel_rfl) (by kernel_rfl) (by kernel_rfl) (fun _ _ _ h => h) (Or.inl ⟨by rfl, ?_⟩) hHeld ?_
    rotate_left 1
    · intro W hSw; obtain ⟨o0, o1, o2, o3, o4, o5, o6, o7, o8, o9, o10⟩ := hop.out W hSw; go_simp; try with_reducible rfl
    try simp only [Act.put, List.setIfInBounds_toArray, List.set_cons_zero, List.set_cons_succ]
    refine Top.wpAnyL_one (i := 1) (o := { dst := some 4, op := Go.Op.call { callee := Go.Callee.value (Go.Operand.func 10), args := #[Go.Operand.tmp 3, Go.Operand.const (Go.Value.int Go.IntKind.i64 500)], argTypes := #[26, 3] }, type := 4, pos := "law.go:16", after := #[{ on := 0, ground := Go.Ground.data }], guard := none }) (by kernel_rfl) rfl (by decide) (fun K hK => ?_)
    go_simp
    refine (hli.out _ hHeld).mono ?_
    rintro e w2 ⟨rfl, hb2⟩
    have h2 := Lib.hid (show Below W1.heap.size W1 w2 from hHeld.trans (hb2.mono hHeld.size))
    clear hb2
    go_simp
    refine hK.out _ _ ?_ (fun hNew => ?_)
    · exact h2.out
    clear hK K hHeld
    have hHeld := hNew
    clear hNew
    try simp only [Act.put, List.setIfInBounds_toArray, List.set_cons_zero, List.set_cons_succ]
    refine Top.wpAnyL_take (i := 2) (oi := { dst := some 5, op := Go.Op.unOp Go.UnOp.not 4 (Go.Operand.tmp 4), type := 4, pos := "law.go:16", after := #[{ on := 1, ground := Go.Ground.data }], guard := none }) (v := ?_) rfl (by kernel_rfl) (by kernel_rfl) (by kernel_rfl) (by kernel_rfl) (fun _ _ _ h => h) (Or.inl ⟨by rfl, ?_⟩) hHeld ?_
    rotate_left 1
    · intro W hSw; obtain ⟨o0, o1, o2, o3, o4, o5, o6, o7, o8, o9, o10⟩ := hop.out W hSw; go_simp; try with_reducible rfl
    try simp only [Act.put, List.setIfInBounds_toArray, List.set_cons_zero, List.set_cons_succ]
    refine Top.wpAnyL_take (i := 3) (oi := { dst := some 6, op := Go.Op.move (Go.Operand.tmp 5), type := 4, pos := "law.go:16", after := #[{ on := 2, ground := Go.Ground.data }, { on := 1, ground := Go.Ground.chain }], guard := none }) (v := ?_) rfl (by kernel_rfl) (by kernel_rfl) (by kernel_rfl) (by kernel_rfl) (fun _ _ _ h => h) (Or.inl ⟨by rfl, ?_⟩) hHeld ?_
    rotate_left 1
    · intro W hSw; obtain ⟨o0, o1, o2, o3, o4, o5, o6, o7, o8, o9, o10⟩ := hop.out W hSw; go_simp; try with_reducible rfl
    try simp only [Act.put, List.setIfInBounds_toArray, List.set_cons_zero, List.set_cons_succ]
    refine Top.wpAnyL_take (i := 4) (oi := { dst := some 7, op := Go.Op.load 26 (Go.Operand.tmp 1), type := 26, pos := "law.go:16", after := #[{ on := 3, ground := Go.Ground.guard }], guard := some (3, false) }) (v := undef) rfl (by kernel_rfl) (by kernel_rfl) (by kernel_rfl) (by kernel_rfl) (fun _ _ _ h => h) (Or.inr ⟨by rfl, rfl⟩) hHeld ?_
    try simp only [Act.put, List.setIfInBounds_toArray, List.set_cons_zero, List.set_cons_succ]
    refine Top.wpAnyL_take (i := 6) (oi := { dst := some 9, op := Go.Op.load 26 (Go.Operand.tmp 1), type := 26, pos := "law.go:16", after := #[{ on := 3, ground := Go.Ground.guard }], guard := some (3, false) }) (v := undef) rfl (by kernel_rfl) (by kernel_rfl) (by kernel_rfl) (by kernel_rfl) (fun _ _ _ h => h) (Or.inr ⟨by rfl, rfl⟩) hHeld ?_
    try simp only [Act.put, List.setIfInBounds_toArray, List.set_cons_zero, List.set_cons_succ]
    refine Top.wpAnyL_one (i := 5) (o := { dst := some 8, op := Go.Op.call { callee := Go.Callee.value (Go.Operand.func 11), args := #[Go.Operand.tmp 7], argTypes := #[26] }, type := 4, pos := "law.go:16", after := #[{ on := 4, ground := Go.Ground.data }, { on := 3, ground := Go.Ground.chain }, { on := 3, ground := Go.Ground.guard }], guard := some (3, false) }) (by kernel_rfl) rfl (by decide) (fun K hK => ?_)
    go_simp
    refine hK.out _ _ hHeld (fun hNew => ?_)
    clear hK K hHeld
    have hHeld := hNew
    clear hNew
    try simp only [Act.put, List.setIfInBounds_toArray, List.set_cons_zero, List.set_cons_succ]
    refine Top.wpAnyL_one (i := 7) (o := { dst := some 10, op := Go.Op.call { callee := Go.Callee.value (Go.Operand.func 12), args := #[Go.Operand.tmp 9], argTypes := #[26] }, type := 4, pos := "law.go:16", after := #[{ on := 6, ground := Go.Ground.data }, { on := 5, ground := Go.Ground.chain }, { on := 3, ground := Go.Ground.guard }], guard := some (3, false) }) (by kernel_rfl) rfl (by decide) (fun K hK => ?_)
    go_simp
    refine hK.out _ _ hHeld (fun hNew => ?_)
    clear hK K hHeld
    have hHeld := hNew
    clear hNew
    try simp only [Act.put, List.setIfInBounds_toArray, List.set_cons_zero, List.set_cons_succ]
    refine Top.wpAnyL_take (i := 8) (oi := { dst := some 11, op := Go.Op.binOp Go.BinOp.eql 4 (Go.Operand.tmp 8) (Go.Operand.tmp 10) 4, type := 4, pos := "law.go:16", after := #[{ on := 5, ground := Go.Ground.data }, { on := 7, ground := Go.Ground.data }, { on := 3, ground := Go.Ground.guard }], guard := some (3, false) }) (v := undef) rfl (by kernel_rfl) (by kernel_rfl) (by kernel_rfl) (by kernel_rfl) (fun _ _ _ h => h) (Or.inr ⟨by rfl, rfl⟩) hHeld ?_
    try simp only [Act.put, List.setIfInBounds_toArray, List.set_cons_zero, List.set_cons_succ]
    refine Top.wpAnyL_take (i := 9) (oi := { dst := some 12, op := Go.Op.pick (Go.Operand.tmp 6) (Go.Operand.const (Go.Value.bool true)) (Go.Operand.tmp 11), type := 4, pos := "law.go:16", after := #[{ on := 3, ground := Go.Ground.data }, { on := 8, ground := Go.Ground.data }], guard := none }) (v := ?_) rfl (by kernel_rfl) (by kernel_rfl) (by kernel_rfl) (by kernel_rfl) (fun _ _ _ h => h) (Or.inl ⟨by rfl, ?_⟩) hHeld ?_
    rotate_left 1
    · intro W hSw; obtain ⟨o0, o1, o2, o3, o4, o5, o6, o7, o8, o9, o10⟩ := hop.out W hSw; go_simp; try with_reducible rfl
    try simp only [Act.put, List.setIfInBounds_toArray, List.set_cons_zero, List.set_cons_succ]
    refine Top.wpAnyL_take (i := 10) (oi := { dst := some 13, op := Go.Op.move (Go.Operand.tmp 12), type := 4, pos := "law.go:16", after := #[{ on := 9, ground := Go.Ground.data }, { on := 7, ground := Go.Ground.chain }], guard := none }) (v := ?_) rfl (by kernel_rfl) (by kernel_rfl) (by kernel_rfl) (by kernel_rfl) (fun _ _ _ h => h) (Or.inl ⟨by rfl, ?_⟩) hHeld ?_
    rotate_left 1
    · intro W hSw; obtain ⟨o0, o1, o2, o3, o4, o5, o6, o7, o8, o9, o10⟩ := hop.out W hSw; go_simp; try with_reducible rfl
    try simp only [Act.put, List.setIfInBounds_toArray, List.set_cons_zero, List.set_cons_succ]
    refine Top.wpAnyL_one (i := 11) (o := { dst := some 14, op := Go.Op.call { callee := Go.Callee.value (Go.Operand.func 13), args := #[], argTypes := #[] }, type := 4, pos := "law.go:16", after := #[{ on := 10, ground := Go.Ground.chain }, { on := 10, ground := Go.Ground.guard }], guard := some (10, true) }) (by kernel_rfl) rfl (by decide) (fun K hK => ?_)
    go_simp
    refine (works_any _).mono ?_
    rintro e w5 ⟨rfl, hb5⟩
    have h5 := Lib.hid (show Below W1.heap.size W1 w5 from hHeld.trans (hb5.mono hHeld.size))
    clear hb5
    go_simp
    refine hK.out _ _ ?_ (fun hNew => ?_)
    · exact h5.out
    clear hK K hHeld
    have hHeld := hNew
    clear hNew
    try simp only [Act.put, List.setIfInBounds_toArray, List.set_cons_zero, List.set_cons_succ]
    refine Top.wpAnyL_take (i := 12) (oi := { dst := some 15, op := Go.Op.pick (Go.Operand.tmp 13) (Go.Operand.tmp 14) (Go.Operand.const (Go.Value.bool false)), type := 4, pos := "law.go:16", after := #[{ on := 10, ground := Go.Ground.data }, { on := 11, ground := Go.Ground.data }], guard := none }) (v := ?_) rfl (by kernel_rfl) (by kernel_rfl) (by kernel_rfl) (by kernel_rfl) (fun _ _ _ h => h) (Or.inl ⟨by rfl, ?_⟩) hHeld ?_
    rotate_left 1
    · intro W hSw; obtain ⟨o0, o1, o2, o3, o4, o5, o6, o7, o8, o9, o10⟩ := hop.out W hSw; go_simp; try with_reducible rfl
    try simp only [Act.put, List.setIfInBounds_toArray, List.set_cons_zero, List.set_cons_succ]
    refine Top.wpAnyL_last (o := { dst := some 2, op := Go.Op.assign (Go.Operand.tmp 15), type := 4, pos := "law.go:16", after := #[{ on := 12, ground := Go.Ground.data }, { on := 11, ground := Go.Ground.chain }, { on := 0, ground := Go.Ground.phase }, { on := 1, ground := Go.Ground.phase }, { on := 2, ground := Go.Ground.phase }, { on := 3, ground := Go.Ground.phase }, { on := 4, ground := Go.Ground.phase }, { on := 5, ground := Go.Ground.phase }, { on := 6, ground := Go.Ground.phase }, { on := 7, ground := Go.Ground.phase }, { on := 8, ground := Go.Ground.phase }, { on := 9, ground := Go.Ground.phase }, { on := 10, ground := Go.Ground.phase }, { on := 11, ground := Go.Ground.phase }, { on := 12, ground := Go.Ground.phase }], guard := none }) (by kernel_rfl) rfl (fun K hK => ?_)
    go_simp
    refine hK _ _ ?_
    clear hK K
    try simp only [Act.put, List.setIfInBounds_toArray, List.set_cons_zero, List.set_cons_succ]
    refine wpAny_done (by kernel_rfl) ?_ _
    refine hK0 _ _ ?_
    clear hK0
    go_wp2_with fail
    go_ret
    exact ⟨rfl, hb1.out.trans (h5.out.mono hb1.out.size)⟩
end Go.Proofs.Ytoeblaecldhcaaa.Top
