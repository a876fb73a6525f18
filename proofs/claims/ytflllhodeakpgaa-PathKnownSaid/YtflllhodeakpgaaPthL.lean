/- works: the chapter's examples. -/
import Derived.Test.YtflllhodeakpgaaPthK
import Derived.Great.BuildSlice
import Derived.Great.FillDense
namespace Go.Proofs.Ytflllhodeakpgaa
open Go.RowKit
set_option maxRecDepth 20000

section
variable {ops : Array Oper} {rest : List Oper} {o : Oper} {a : Act} {w : World} {Q : Exit → Act → World → Prop}
/-- a slice of numbers that stands in the text -/
theorem wpList_ints (hgd : Region.wanted o (yielded ops a.tmps) = true) (n : Nat) (parts : Array (Nat × Operand)) (xs : List Int) (ho : o.op = .buildSlice 22 n parts) (hn : xs.length = n) (h0 : 0 < n) (h1 : n ≤ 1000)
    (hp : parts.toList.map (fun p => (p.1, a.eval p.2)) = ((xs.map intV).zipIdx 0).map fun x => (x.2, x.1))
    (h : ∀ w1 : World, Its w1 (some ⟨w.heap.size, 0, none⟩) n xs → Below w.heap.size w w1 → wpList Try.prog ops Q rest (a.put o.dst (.slice (some ⟨w.heap.size, 0, none⟩) n n)) w1) : wpList Try.prog ops Q (o :: rest) a w := by
  obtain ⟨i0, hi, hz0, hz1, hz2⟩ := info_parts Try.info3
  refine BigFrame.wpList_want hgd fun _ hK => wp_buildSlice 22 3 n parts ho (xs.map intV).toArray i0 (.int .i64 0) Try.underlying22 hi hz0 (by rw [hz1]; omega) (by rw [hz1]; omega) (by rw [hz1, show (parts.map fun (i, x) => (i, a.eval x)).toList = ((xs.map intV).zipIdx 0).map fun x => (x.2, x.1) from (by rw [← hp]; simp)]; exact Great.fill_flat _ _ (fun v hv => by obtain ⟨_, _, rfl⟩ := List.mem_map.1 hv; rfl) (by simp; omega)) ?_
  exact hK _ _ (h _ (Its.of_block (heap_alloc_new w _) hn rfl) ((Below.refl _ _).alloc (Nat.le_refl _) _))
/-- a slice of complex numbers that stands in the text -/
theorem wpList_cpls (hgd : Region.wanted o (yielded ops a.tmps) = true) (n : Nat) (parts : Array (Nat × Operand)) (xs : List (Nat × Nat)) (ho : o.op = .buildSlice 38 n parts) (hn : xs.length = n) (h0 : 0 < n) (h1 : n ≤ 1000)
    (hp : parts.toList.map (fun p => (p.1, a.eval p.2)) = ((xs.map cV).zipIdx 0).map fun x => (x.2, x.1))
    (h : ∀ w1 : World, ItsC w1 (some ⟨w.heap.size, 0, none⟩) n xs → Below w.heap.size w w1 → wpList Try.prog ops Q rest (a.put o.dst (.slice (some ⟨w.heap.size, 0, none⟩) n n)) w1) : wpList Try.prog ops Q (o :: rest) a w := by
  obtain ⟨i0, hi, hz0, hz1, hz2⟩ := info_parts Try.info33
  refine BigFrame.wpList_want hgd fun _ hK => wp_buildSlice 38 33 n parts ho (xs.map cV).toArray i0 (.complex .f64 0 0) Try.underlying38 hi hz0 (by rw [hz1]; omega) (by rw [hz1]; omega) (by rw [hz1, show (parts.map fun (i, x) => (i, a.eval x)).toList = ((xs.map cV).zipIdx 0).map fun x => (x.2, x.1) from (by rw [← hp]; simp)]; exact Great.fill_flat _ _ (fun v hv => by obtain ⟨_, _, rfl⟩ := List.mem_map.1 hv; rfl) (by simp; omega)) ?_
  exact hK _ _ (h _ (ItsC.of_block (heap_alloc_new w _) hn rfl) ((Below.refl _ _).alloc (Nat.le_refl _) _))
end
/-- an answer in a world that drew -/
theorem below_draws {P : Program} {f : FuncId} {args : Array Value} {w : World} {v : Value} (h : Calls P f args w fun e w' => e = .returned v ∧ ∃ k, w' = w.drewN k) :
    Calls P f args w fun e w' => e = .returned v ∧ Below w.heap.size w w' := h.mono fun _ _ ⟨h1, k, h2⟩ => ⟨h1, by rw [h2]; exact draws (Below.refl _ _) k⟩

def m2 : Nat := 13835058055282163712
def p1 : Nat := 4607182418800017408
def p2 : Nat := 4611686018427387904
def p3 : Nat := 4613937818241073152
def n1 : Nat := 13830554455654793216
theorem f1 : fineS 13835058055282163712 4607182418800017408 = true := by kernel_rfl
theorem s1 : shiftV [4, 7, 1] 13835058055282163712 4607182418800017408 = (0, [4, 5, 1]) := by kernel_rfl
theorem b1 : betR [4, 7, 1] [4, 5, 1] = .tuple #[.complex .f64 13835058055282163712 4607182418800017408, .bool true] := by kernel_rfl
theorem f2 : fineL [(4607182418800017408, 0), (4611686018427387904, 4613937818241073152), (13830554455654793216, 0)] = true := by kernel_rfl
theorem s2 : sumsV [(4607182418800017408, 0), (4611686018427387904, 4613937818241073152), (13830554455654793216, 0)] = (0, [(4611686018427387904, 4613937818241073152)]) := by kernel_rfl
theorem q1 : (FloatKind.f64.format.order 13835058055282163712 13835058055282163712 == some .eq) = true := by kernel_rfl
theorem q2 : (FloatKind.f64.format.order 4607182418800017408 4607182418800017408 == some .eq) = true := by kernel_rfl
theorem q3 : (FloatKind.f64.format.order 4611686018427387904 4611686018427387904 == some .eq) = true := by kernel_rfl
theorem q4 : (FloatKind.f64.format.order 4613937818241073152 4613937818241073152 == some .eq) = true := by kernel_rfl

set_option maxHeartbeats 3200000 in
theorem works_any (w : World) : Calls Try.prog 11 #[] w fun e w' => e = .returned (.bool true) ∧ Below w.heap.size w w' := by
  have hW := Below.refl w.heap.size w
  have e1 := q1
  have e2 := q2
  have e3 := q3
  have e4 := q4
  go_enter Try.func11, Try.ntmps11
  go_wp2_with (first
    | (refine wpList_ints rfl 3 _ [4, 7, 1] rfl rfl (by omega) (by omega) rfl ?_; intro wk hP471 hb; (try (have hP02 := hP02.below hb)); (try (have hP029 := hP029.below hb)); (try (have hP1 := hP1.below hb)); have hW := hW.trans (hb.mono hW.size); (try (have hA1 := hA1.below hb)); (try (have hC := (hb.cell hClt).trans hC; have hClt := Nat.lt_of_lt_of_le hClt hb.size)))
    | (refine wpList_ints rfl 3 _ [4, 5, 1] rfl rfl (by omega) (by omega) rfl ?_; intro wk hP451 hb; (try (have hP02 := hP02.below hb)); (try (have hP029 := hP029.below hb)); (try (have hP1 := hP1.below hb)); (try (have hP471 := hP471.below hb)); have hW := hW.trans (hb.mono hW.size); (try (have hA1 := hA1.below hb)); (try (have hC := (hb.cell hClt).trans hC; have hClt := Nat.lt_of_lt_of_le hClt hb.size)))
    | (refine wpList_ints rfl 2 _ [0, 2] rfl rfl (by omega) (by omega) rfl ?_; intro wk hP02 hb; (try (have hP029 := hP029.below hb)); (try (have hP1 := hP1.below hb)); (try (have hP471 := hP471.below hb)); have hW := hW.trans (hb.mono hW.size); (try (have hA1 := hA1.below hb)); (try (have hC := (hb.cell hClt).trans hC; have hClt := Nat.lt_of_lt_of_le hClt hb.size)))
    | (refine wpList_ints rfl 3 _ [0, 2, 1] rfl rfl (by omega) (by omega) rfl ?_; intro wk hP021 hb; (try (have hP02 := hP02.below hb)); (try (have hP029 := hP029.below hb)); (try (have hP1 := hP1.below hb)); (try (have hP471 := hP471.below hb)); have hW := hW.trans (hb.mono hW.size); (try (have hA1 := hA1.below hb)); (try (have hC := (hb.cell hClt).trans hC; have hClt := Nat.lt_of_lt_of_le hClt hb.size)))
    | (refine wpList_ints rfl 3 _ [0, 2, 9] rfl rfl (by omega) (by omega) rfl ?_; intro wk hP029 hb; (try (have hP02 := hP02.below hb)); (try (have hP1 := hP1.below hb)); (try (have hP471 := hP471.below hb)); have hW := hW.trans (hb.mono hW.size); (try (have hA1 := hA1.below hb)); (try (have hC := (hb.cell hClt).trans hC; have hClt := Nat.lt_of_lt_of_le hClt hb.size)))
    | (refine wpList_ints rfl 2 _ [0, 3] rfl rfl (by omega) (by omega) rfl ?_; intro wk hP03 hb; (try (have hP02 := hP02.below hb)); (try (have hP029 := hP029.below hb)); (try (have hP1 := hP1.below hb)); (try (have hP471 := hP471.below hb)); have hW := hW.trans (hb.mono hW.size); (try (have hA1 := hA1.below hb)); (try (have hC := (hb.cell hClt).trans hC; have hClt := Nat.lt_of_lt_of_le hClt hb.size)))
    | (refine wpList_ints rfl 1 _ [1] rfl rfl (by omega) (by omega) rfl ?_; intro wk hP1 hb; (try (have hP02 := hP02.below hb)); (try (have hP029 := hP029.below hb)); (try (have hP471 := hP471.below hb)); have hW := hW.trans (hb.mono hW.size); (try (have hA1 := hA1.below hb)); (try (have hC := (hb.cell hClt).trans hC; have hClt := Nat.lt_of_lt_of_le hClt hb.size)))
    | (refine wpList_ints rfl 2 _ [0, 5] rfl rfl (by omega) (by omega) rfl ?_; intro wk hP05 hb; (try (have hP02 := hP02.below hb)); (try (have hP029 := hP029.below hb)); (try (have hP1 := hP1.below hb)); (try (have hP471 := hP471.below hb)); have hW := hW.trans (hb.mono hW.size); (try (have hA1 := hA1.below hb)); (try (have hC := (hb.cell hClt).trans hC; have hClt := Nat.lt_of_lt_of_le hClt hb.size)))
    | (go_at_call 31; refine (shift_any _ _ 3 3 [4, 7, 1] hP471 (by intro e; cases e) (by omega) _ _ f1).mono ?_; rw [s1]; rintro e wk ⟨v1, rfl, ho1, hb⟩; have hW := hW.trans (hb.mono hW.size); obtain ⟨A1, n1, c1, rfl, hn1, hnc1, hcm1, hA1, hnil1⟩ := ho1.shape; obtain rfl : n1 = 3 := hn1; clear ho1)
    | (go_at_call 25; refine (below_draws (between_any _ _ _ 3 3 3 3 [4, 7, 1] [4, 5, 1] hP471 hP451 (by unfold maxLen; omega) (by unfold maxLen; omega) (by omega) (by unfold maxLen; omega) (by omega) (by unfold maxLen; omega))).mono ?_; rw [show betR [4, 7, 1] [4, 5, 1] = _ from b1]; rintro e wk ⟨rfl, hb⟩; (try (have hP02 := hP02.below hb)); (try (have hP029 := hP029.below hb)); (try (have hP1 := hP1.below hb)); (try (have hP471 := hP471.below hb)); have hW := hW.trans (hb.mono hW.size); (try (have hA1 := hA1.below hb)); (try (have hC := (hb.cell hClt).trans hC; have hClt := Nat.lt_of_lt_of_le hClt hb.size)))
    | (refine wpList_cpls rfl 3 _ [(4607182418800017408, 0), (4611686018427387904, 4613937818241073152), (13830554455654793216, 0)] rfl rfl (by omega) (by omega) rfl ?_; intro wk hPc hb; (try (have hP02 := hP02.below hb)); (try (have hP029 := hP029.below hb)); (try (have hP1 := hP1.below hb)); (try (have hP471 := hP471.below hb)); have hW := hW.trans (hb.mono hW.size); (try (have hA1 := hA1.below hb)); (try (have hC := (hb.cell hClt).trans hC; have hClt := Nat.lt_of_lt_of_le hClt hb.size)))
    | (go_at_call 32; refine (sum_any _ _ 3 3 _ hPc (by unfold maxLen; omega) f2).mono ?_; rw [s2]; rintro e wk ⟨v2, rfl, ho2, hb⟩; (try (have hP02 := hP02.below hb)); (try (have hP029 := hP029.below hb)); (try (have hP1 := hP1.below hb)); (try (have hP471 := hP471.below hb)); have hW := hW.trans (hb.mono hW.size); (try (have hA1 := hA1.below hb)); (try (have hC := (hb.cell hClt).trans hC; have hClt := Nat.lt_of_lt_of_le hClt hb.size)); obtain ⟨A2, n2, c2, rfl, hn2, hnc2, hcm2, hC2, hnil2⟩ := ho2.shape; obtain rfl : n2 = 1 := hn2; clear ho2; obtain ⟨ad2, re2, im2, rfl, hz2, hC⟩ := hC2.at_ (show 0 < 1 by omega); cases hz2; rw [show ad2.add 0 = ad2 from rfl] at hC; have hClt := World.block_lt_of_cell? _ _ hC; clear hC2)
    | (go_at_call 23; refine (below_draws (sameInts_any _ _ _ 3 _ 3 3 [4, 5, 1] [4, 5, 1] hA1 hP451 (by unfold maxLen; omega))).mono ?_; rw [show eqV [4, 5, 1] [4, 5, 1] = true from rfl]; rintro e wk ⟨rfl, hb⟩; (try (have hP02 := hP02.below hb)); (try (have hP029 := hP029.below hb)); (try (have hP1 := hP1.below hb)); (try (have hP471 := hP471.below hb)); have hW := hW.trans (hb.mono hW.size); (try (have hA1 := hA1.below hb)); (try (have hC := (hb.cell hClt).trans hC; have hClt := Nat.lt_of_lt_of_le hClt hb.size)))
    | (go_at_call 18; refine (compare_any _ _ _ 2 2 3 3 [0, 2] [0, 2, 1] hP02 hP021 (by unfold maxLen; omega)).mono ?_; rw [show cmpV [0, 2] [0, 2, 1] = -1 from rfl]; rintro e wk ⟨rfl, rfl⟩)
    | (go_at_call 18; refine (compare_any _ _ _ 3 3 2 2 [0, 2, 9] [0, 3] hP029 hP03 (by unfold maxLen; omega)).mono ?_; rw [show cmpV [0, 2, 9] [0, 3] = -1 from rfl]; rintro e wk ⟨rfl, rfl⟩)
    | (go_at_call 18; refine (compare_any _ _ _ 1 1 2 2 [1] [0, 5] hP1 hP05 (by unfold maxLen; omega)).mono ?_; rw [show cmpV [1] [0, 5] = 1 from rfl]; rintro e wk ⟨rfl, rfl⟩)
    | (go_at_call 14; refine (below_draws (within_any _ _ _ 2 2 3 3 [0, 2] [0, 2, 1] hP02 hP021 (by unfold maxLen; omega) (by unfold maxLen; omega))).mono ?_; rw [show withinV [0, 2] [0, 2, 1] = true from rfl]; rintro e wk ⟨rfl, hb⟩; (try (have hP02 := hP02.below hb)); (try (have hP029 := hP029.below hb)); (try (have hP1 := hP1.below hb)); (try (have hP471 := hP471.below hb)); have hW := hW.trans (hb.mono hW.size); (try (have hA1 := hA1.below hb)); (try (have hC := (hb.cell hClt).trans hC; have hClt := Nat.lt_of_lt_of_le hClt hb.size)))
    | (go_at_call 14; refine (below_draws (within_any _ _ _ 2 2 2 2 [0, 2] [0, 3] hP02 hP03 (by unfold maxLen; omega) (by unfold maxLen; omega))).mono ?_; rw [show withinV [0, 2] [0, 3] = false from rfl]; rintro e wk ⟨rfl, hb⟩; (try (have hP02 := hP02.below hb)); (try (have hP029 := hP029.below hb)); (try (have hP1 := hP1.below hb)); (try (have hP471 := hP471.below hb)); have hW := hW.trans (hb.mono hW.size); (try (have hA1 := hA1.below hb)); (try (have hC := (hb.cell hClt).trans hC; have hClt := Nat.lt_of_lt_of_le hClt hb.size)))
    | (go_at_call 9; refine (may_any _ none 0 0 [] (Its.none_ _) (by unfold maxLen; omega)).mono ?_; rw [show mayV [] = true from rfl]; rintro e wk ⟨rfl, rfl⟩))
  go_ret
  exact ⟨rfl, hW⟩
end Go.Proofs.Ytflllhodeakpgaa
