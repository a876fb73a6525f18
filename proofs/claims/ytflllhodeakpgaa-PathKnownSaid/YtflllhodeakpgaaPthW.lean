/- No number, as a number's bits; the closed law's shifts. -/
import Derived.Test.YtflllhodeakpgaaPthV
import Derived.Laws.OwnMore
namespace Go.Proofs.Ytflllhodeakpgaa
open Go.RowKit
set_option maxRecDepth 20000

/-- v is no number -/
def Nan (v : Nat) : Prop := 9218868437227405312 < v % 9223372036854775808
theorem nan_order {v : Nat} (h : Nan v) (x : Nat) : ordF v x = none := by
  have hr : ∃ s t, FloatKind.f64.format.read v = .nan s t := by
    refine ⟨v / FloatKind.f64.format.signWeight % 2 == 1, v % FloatKind.f64.format.signWeight - FloatKind.f64.format.infRung, ?_⟩
    have h1 : FloatKind.f64.format.signWeight = 9223372036854775808 := by kernel_rfl
    have h2 : FloatKind.f64.format.infRung = 9218868437227405312 := by kernel_rfl
    have h3 : FloatKind.f64.format.binade = 4503599627370496 := by kernel_rfl
    unfold Nan at h
    unfold Ieee.Format.read
    dsimp only
    rw [h1, h2, h3, if_neg (by omega), if_neg (by omega), if_neg (by omega)]
  obtain ⟨s, t, hr⟩ := hr
  unfold ordF Ieee.Format.order
  rw [hr]
  rfl
theorem nan_neg {v : Nat} (h : Nan v) : Nan (negF v) := by
  unfold Nan at h ⊢
  have e : negF v = v ^^^ 9223372036854775808 := by unfold negF Op.negFloat; rfl
  have h2 : (v ^^^ 9223372036854775808) % 2 ^ 63 = v % 2 ^ 63 := by
    rw [Nat.xor_mod_two_pow]
    have : 9223372036854775808 % 2 ^ 63 = 0 := by decide
    rw [this, Nat.xor_zero]
  rw [e]
  have h3 : (2 : Nat) ^ 63 = 9223372036854775808 := by decide
  rw [h3] at h2
  rw [h2]
  exact h
theorem nan_in {v : Nat} (h : Nan v) (lo hi : Int) : inF v lo hi = false := by
  unfold inF
  rw [nan_order h]
  rfl
theorem nan_whole {v : Nat} (h : Nan v) (lo hi : Int) : wholeV v lo hi = none := by
  unfold wholeV
  rw [nan_in h]
  rfl
theorem nan_fine {v : Nat} (h : Nan v) (lo hi : Int) : fineF v lo hi = true := by
  unfold fineF
  rw [nan_in h]
  rfl
theorem parts_nan1 {v im : Nat} (h : Nan v) : partsV v im = none := by
  unfold partsV
  rw [nan_whole h]
  split
  · rename_i h2; cases h2
  · rfl
theorem parts_nan2 {v re : Nat} (h : Nan v) : partsV re v = none := by
  unfold partsV
  rw [nan_whole h]
theorem fineS_of {re im : Nat} (h1 : fineF im 0 63 = true) (h2 : fineF re (-1048575) 1048575 = true) (h3 : partsV re im = none) : fineS re im = true := by
  unfold fineS fineP
  rw [h1, h2, h3]
  rfl
theorem good_of {re im : Nat} (h1 : fineS re im = true) (h2 : fineS (negF re) im = true) (h3 : partsV re im = none) : goodZ re im = true := by
  unfold goodZ
  rw [h1, h2, h3]
  rfl
theorem pair_of1 {im re2 im2 re : Nat} (h : partsV re im = none) : pairZ im re2 im2 re = true := by
  unfold pairZ
  rw [h, Bool.or_true]
theorem pair_of2 {im re2 im2 re : Nat} (h : partsV re2 im2 = none) : pairZ im re2 im2 re = true := by
  unfold pairZ
  rw [h]
  split
  · rename_i h2; cases h2
  · rw [Bool.or_true]
theorem okRef_of {re im : Nat} (h : inF im 0 63 = false ∨ inF re (-1048575) 1048575 = false) : okRef re im = true := by
  unfold okRef
  rcases h with h | h
  · rw [h]; rfl
  · rw [h, Bool.and_false]; rfl
/-- the shifts that are closed -/
def zs0 : List (Nat × Nat) := [(0, 0), (4607182418800017408, 0), (13830554455654793216, 0), (0, 4607182418800017408), (13830554455654793216, 4607182418800017408), (4607182418800017408, 4607182418800017408), (13835058055282163712, 4607182418800017408), (4602678819172646912, 0), (0, 4602678819172646912), (0, 13830554455654793216), (0, 4634063279075885056), (0, 4634204016564240384), (4697254402757492736, 0), (4697254411347427328, 0), (13920626439612268544, 0), (13920626448202203136, 0), (9094988921128908188, 0)]
def zs1 : List (Nat × Nat) := [(9218868437227405312, 0), (0, 9218868437227405312), (4607182418800017408, 4611686018427387904), (4697254359807819776, 4607182418800017408)]
def zsK (v : Nat) : List (Nat × Nat) := zs0 ++ [(v, 0), (0, v)] ++ zs1
/-- what is asked of a shift -/
def AskZ (z : Nat × Nat) : Prop := goodZ z.1 z.2 = true ∧ okRef z.1 z.2 = true
theorem ask_closed : ((zs0 ++ zs1).all fun z => goodZ z.1 z.2 && okRef z.1 z.2) = true := by kernel_rfl
theorem pair_closed : ((zs0 ++ zs1).all fun z => (zs0 ++ zs1).all fun y => pairZ z.2 y.1 y.2 z.1) = true := by kernel_rfl
theorem zsK_mem {v : Nat} {z : Nat × Nat} (h : z ∈ zsK v) : z ∈ zs0 ++ zs1 ∨ z = (v, 0) ∨ z = (0, v) := by
  unfold zsK at h
  rw [List.mem_append, List.mem_append] at h
  rw [List.mem_append]
  rcases h with (h | h) | h
  · exact .inl (.inl h)
  · rcases List.mem_cons.1 h with rfl | h
    · exact .inr (.inl rfl)
    · exact .inr (.inr (List.mem_singleton.1 h))
  · exact .inl (.inr h)
theorem fine00 : fineF 0 0 63 = true ∧ fineF 0 (-1048575) 1048575 = true ∧ fineF (negF 0) (-1048575) 1048575 = true := ⟨by kernel_rfl, by kernel_rfl, by kernel_rfl⟩
theorem ask_all {v : Nat} (hv : Nan v) {z : Nat × Nat} (h : z ∈ zsK v) : AskZ z := by
  rcases zsK_mem h with h | rfl | rfl
  · have := List.all_eq_true.1 ask_closed z h
    simpa [AskZ] using this
  · exact ⟨good_of (fineS_of fine00.1 (nan_fine hv _ _) (parts_nan1 hv)) (fineS_of fine00.1 (nan_fine (nan_neg hv) _ _) (parts_nan1 (nan_neg hv))) (parts_nan1 hv), okRef_of (.inr (nan_in hv _ _))⟩
  · exact ⟨good_of (fineS_of (nan_fine hv _ _) fine00.2.1 (parts_nan2 hv)) (fineS_of (nan_fine hv _ _) fine00.2.2 (parts_nan2 hv)) (parts_nan2 hv), okRef_of (.inl (nan_in hv _ _))⟩
theorem pair_all {v : Nat} (hv : Nan v) {z y : Nat × Nat} (h : z ∈ zsK v) (h2 : y ∈ zsK v) : pairZ z.2 y.1 y.2 z.1 = true := by
  rcases zsK_mem h with h | rfl | rfl
  · rcases zsK_mem h2 with h2 | rfl | rfl
    · exact List.all_eq_true.1 (List.all_eq_true.1 pair_closed z h) y h2
    · exact pair_of2 (parts_nan1 hv)
    · exact pair_of2 (parts_nan2 hv)
  · exact pair_of1 (parts_nan1 hv)
  · exact pair_of1 (parts_nan2 hv)
theorem zsK_len (v : Nat) : (zsK v).length = 23 := rfl
/-- a row of four, as the closed law has it -/
theorem four_fine {v : Nat} (hv : Nan v) {z y : Nat × Nat} (h : z ∈ zsK v) (h2 : y ∈ zsK v) : fineL [z, y, (4607182418800017408, 0), (13830554455654793216, 4613937818241073152)] = true ∧ okL [z, y, (4607182418800017408, 0), (13830554455654793216, 4613937818241073152)] = true := by
  have a := ask_all hv h
  have b := ask_all hv h2
  have c1 : fineS 4607182418800017408 0 = true := by kernel_rfl
  have c2 : fineS 13830554455654793216 4613937818241073152 = true := by kernel_rfl
  have c3 : okRef 4607182418800017408 0 = true := by kernel_rfl
  have c4 : okRef 13830554455654793216 4613937818241073152 = true := by kernel_rfl
  constructor
  · unfold fineL
    simp only [List.all_cons, List.all_nil, (good_fine a.1).1, (good_fine b.1).1, c1, c2]
    rfl
  · unfold okL
    simp only [List.all_cons, List.all_nil, a.2, b.2, c3, c4]
    rfl
section
variable {ops : Array Oper} {rest : List Oper} {o : Oper} {a : Act} {w : World} {Q : Exit → Act → World → Prop}
/-- 0 / 0 -/
theorem wpList_nan (hgd : o.guard = none) (x y : Operand) (ho : o.op = .binOp .quo 37 x y 37) (hx : a.eval x = .float .f64 0) (hy : a.eval y = .float .f64 0)
    (h : ∀ v w', Nan v → Below w.heap.size w w' → w'.heap.size = w.heap.size → wpList Try.prog ops Q rest (a.put o.dst (.float .f64 v)) w') : wpList Try.prog ops Q (o :: rest) a w := by
  refine wpList_plain hgd fun _ hK => ?_
  have hd : FloatKind.f64.format.div 0 0 = none := by kernel_rfl
  unfold Oper.wp execOp
  simp only [ho, hx, hy]
  simp [binOp, Op.floatArith, hd, Result.andThen, Question.forced]
  refine hK _ _ (h _ _ ?_ (Below.drew (Below.refl _ _)) rfl)
  unfold Nan Question.cut
  dsimp only
  generalize w.tape _ _ = t
  have hr : t / 2 % (2 ^ 52 - 1) < 2 ^ 52 - 1 := Nat.mod_lt _ (by decide)
  generalize t / 2 % (2 ^ 52 - 1) = r at *
  rcases Nat.mod_two_eq_zero_or_one t with h2 | h2
  · rw [h2, Nat.mod_eq_of_lt (by omega)]; omega
  · rw [h2, show 1 * 2 ^ 63 + 9218868437227405312 + 1 + r = 9223372036854775808 + (9218868437227405312 + 1 + r) by omega, Nat.add_mod_left, Nat.mod_eq_of_lt (by omega)]; omega
end
/-- the row of rows, its cells -/
def rowsC (f : Nat → Value) : List Value := .slice none 0 0 :: (List.range 15).map f
theorem Try.info22 : (Try.prog.info? 22).map (fun i => (i.zero, i.size, i.bytes)) = some (some (.slice none 0 0), 1, 24) := by kernel_rfl
theorem wp_rows_all {o : Oper} {a : Act} {w : World} {K : Act → World → Prop} {Q : Exit → Act → World → Prop} (parts : Array (Nat × Operand)) (ho : o.op = .buildSlice 36 16 parts) (f : Nat → Value)
    (hp : parts.toList.map (fun p => (p.1, a.eval p.2)) = ((rowsC f).zipIdx 0).map fun x => (x.2, x.1)) (hcell : ∀ v ∈ rowsC f, v.cells = #[v])
    (h : K (a.put o.dst (.slice (some ⟨w.heap.size, 0, none⟩) 16 16)) (w.alloc (.cells (rowsC f).toArray 22))) : o.wp Try.prog a w K Q := by
  obtain ⟨i0, hi0, hz0, hz1, hz2⟩ := info_parts Try.info22
  refine wp_buildSlice 36 22 16 parts ho (rowsC f).toArray i0 (.slice none 0 0) Try.underlying36 hi0 hz0 (by rw [hz1]; omega) (by rw [hz1]; omega) (by rw [hz1, show (parts.map fun (i, x) => (i, a.eval x)).toList = ((rowsC f).zipIdx 0).map fun x => (x.2, x.1) from (by rw [← hp]; simp)]; exact Great.fill_flat _ _ hcell (by simp [rowsC])) ?_
  exact h
/-- the row of rows, at g -/
def Rows16 (w : World) (g : Nat) : Prop := ∀ k, k < 16 → ∃ (A : Option Addr) (n : Nat) (xs : List Int), w.cell? ⟨g, k, none⟩ = some (.slice A n n) ∧ Its w A n xs ∧ (A = none → n = 0) ∧ n ≤ 65
theorem Rows16.below {w w' : World} {g : Nat} (h : Rows16 w g) (hb : Below w.heap.size w w') : Rows16 w' g := fun k hk => by
  obtain ⟨A, n, xs, h1, h2, h3, h4⟩ := h k hk
  exact ⟨A, n, xs, (hb.cell (p := ⟨g, k, none⟩) (World.block_lt_of_cell? w _ h1)).trans h1, h2.below hb, h3, h4⟩
theorem rows_made {w : World} {f : Nat → Value} (hl : ∀ i, i < 15 → Lit w i (f i)) : Rows16 (w.alloc (.cells (rowsC f).toArray 22)) w.heap.size := fun k hk => by
  have hb : Below w.heap.size w (w.alloc (.cells (rowsC f).toArray 22)) := (Below.refl _ _).alloc (Nat.le_refl _) _
  have hc := cell_of_row (w.alloc (.cells (rowsC f).toArray 22)) w.heap.size k _ _ _ (heap_alloc_new w (.cells (rowsC f).toArray 22))
  cases k with
  | zero => exact ⟨none, 0, [], by rw [hc]; rfl, Its.none_ _, fun _ => rfl, by omega⟩
  | succ j =>
    obtain ⟨g, e, hI⟩ := hl j (by omega)
    refine ⟨some ⟨g, 0, none⟩, litN j, litX j, ?_, hI.below hb, fun h => (by cases h), ?_⟩
    · rw [hc]
      unfold rowsC
      simp only [List.getElem?_toArray, List.getElem?_cons_succ, List.getElem?_map]
      rw [List.getElem?_range (by omega)]
      simp [e]
    · obtain rfl | rfl | rfl | rfl | rfl | rfl | rfl | rfl | rfl | rfl | rfl | rfl | rfl | rfl | rfl : j = 0 ∨ j = 1 ∨ j = 2 ∨ j = 3 ∨ j = 4 ∨ j = 5 ∨ j = 6 ∨ j = 7 ∨ j = 8 ∨ j = 9 ∨ j = 10 ∨ j = 11 ∨ j = 12 ∨ j = 13 ∨ j = 14 := by omega
      all_goals decide
theorem run_inf (w : World) : (binOp .quo 37 (.float .f64 4607182418800017408) (.float .f64 0)).run Try.prog w = .ok (.float .f64 9218868437227405312) w := run_float_arith w .quo _ .f64 _ _ _ (by kernel_rfl)
theorem itsC_at {w : World} {q n k : Nat} {zs : List (Nat × Nat)} (h : ItsC w (some ⟨q, 0, none⟩) n zs) (hk : k < n) : ∃ re im, zs[k]? = some (re, im) ∧ w.cell? ⟨q, k, none⟩ = some (.complex .f64 re im) := by
  obtain ⟨ad, re, im, e, h1, h2⟩ := h.at_ hk
  obtain rfl := Option.some.inj e
  have hadd : (⟨q, 0, none⟩ : Addr).add k = ⟨q, k, none⟩ := by unfold Addr.add; split <;> simp_all
  rw [hadd] at h2
  exact ⟨re, im, h1, h2⟩
/-- make([]complex128, n) -/
theorem wpList_mk0 {ops : Array Oper} {rest : List Oper} {o : Oper} {a : Act} {w : World} {Q : Exit → Act → World → Prop} (hgd : Region.wanted o (yielded ops a.tmps) = true) (n : Nat) (ho : o.op = .makeSlice 38 (.const (.int .i64 (n : Int))) (.const (.int .i64 (n : Int)))) (h1 : n ≤ 1000)
    (h : ∀ w1 : World, ItsC w1 (some ⟨w.heap.size, 0, none⟩) n (List.replicate n (0, 0)) → Below w.heap.size w w1 → wpList Try.prog ops Q rest (a.put o.dst (.slice (some ⟨w.heap.size, 0, none⟩) n n)) w1) : wpList Try.prog ops Q (o :: rest) a w := by
  obtain ⟨i0, hi, hz0, hz1, hz2⟩ := info_parts Try.info33
  have hr := run_make (P := Try.prog) w 38 33 i0 (.complex .f64 0 0) Try.underlying38 hi hz0 .i64 .i64 (n : Int) (n : Int) (by omega) (by omega) (by rw [hz2]; omega) (by omega)
  have hcells : (madeCells (Value.complex .f64 0 0).cells ((n : Int).toNat * i0.size)) = ((List.replicate n ((0, 0) : Nat × Nat)).map cV).toArray := by
    rw [hz1]
    apply Array.toList_inj.1
    rw [show (Value.complex .f64 0 0).cells = #[Value.complex .f64 0 0] from rfl, toList_madeCells_one]
    simp [cV]
  rw [hcells] at hr
  refine BigFrame.wpList_want hgd fun _ hK => ?_
  unfold Oper.wp execOp
  simp only [ho, Act.eval, Sem.run_bind, hr, Result.andThen_ok, Int.toNat_natCast, Sem.run_pure]
  exact hK _ _ (h _ (ItsC.of_block (heap_alloc_new w _) List.length_replicate rfl) ((Below.refl _ _).alloc (Nat.le_refl _) _))
end Go.Proofs.Ytflllhodeakpgaa
