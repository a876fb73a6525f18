/- The rows of the closed law, made in whatever order. -/
import Derived.Test.YtflllhodeakpgaaPthU
import Derived.Laws.MakeOwn
import Derived.RegionTactic
namespace Go.Proofs.Ytflllhodeakpgaa
open Go.RowKit
set_option maxRecDepth 20000

/-- the rows, but for the first, which is nothing -/
def litX : Nat → List Int
  | 0 => [0] | 1 => [1] | 2 => [0, 0] | 3 => [0, 2] | 4 => [0, 2, 1] | 5 => [0, 3] | 6 => [-1] | 7 => [1048575] | 8 => [1048576] | 9 => [0, 4611686018427387904]
  | 10 => [4, 7, 1] | 11 => [4, 5, 1] | 12 => [4, 5, 2] | 13 => List.replicate 64 0 | _ => List.replicate 65 0
def litN : Nat → Nat
  | 0 => 1 | 1 => 1 | 2 => 2 | 3 => 2 | 4 => 3 | 5 => 2 | 6 => 1 | 7 => 1 | 8 => 1 | 9 => 2 | 10 => 3 | 11 => 3 | 12 => 3 | 13 => 64 | _ => 65
/-- v is a slice of that row -/
def Lit (w : World) (i : Nat) (v : Value) : Prop := ∃ g, v = .slice (some ⟨g, 0, none⟩) (litN i) (litN i) ∧ Its w (some ⟨g, 0, none⟩) (litN i) (litX i)
theorem Lit.below {w w' : World} {i : Nat} {v : Value} (h : Lit w i v) (hb : Below w.heap.size w w') : Lit w' i v := by
  obtain ⟨g, e, hI⟩ := h
  exact ⟨g, e, hI.below hb⟩
def updV (f : Nat → Value) (i : Nat) (v : Value) : Nat → Value := fun j => if j = i then v else f j
/-- the frame, the rows' slots by f -/
def frV (f : Nat → Value) : Act := { tmps := List.toArray (.bool false :: undef :: undef :: undef :: undef :: undef :: undef :: undef :: undef :: f 0 :: f 1 :: f 2 :: f 3 :: f 4 :: f 5 :: f 6 :: f 7 :: f 8 :: f 9 :: f 10 :: f 11 :: f 12 :: f 13 :: f 14 :: undef :: undef :: undef :: undef :: undef :: undef :: undef :: undef :: undef :: undef :: undef :: undef :: undef :: undef :: undef :: undef :: undef :: undef :: undef :: undef :: undef :: undef :: undef :: undef :: undef :: undef :: undef :: undef :: undef :: undef :: undef :: undef :: undef :: undef :: undef :: undef :: undef :: undef :: undef :: undef :: undef :: undef :: undef :: undef :: undef :: undef :: undef :: undef :: undef :: undef :: undef :: undef :: undef :: undef :: undef :: undef :: undef :: undef :: undef :: undef :: undef :: undef :: undef :: undef :: undef :: undef :: undef :: undef :: undef :: undef :: undef :: undef :: undef :: undef :: undef :: undef :: undef :: undef :: undef :: undef :: undef :: undef :: undef :: undef :: undef :: undef :: undef :: undef :: undef :: undef :: undef :: undef :: undef :: undef :: undef :: undef :: undef :: undef :: undef :: undef :: undef :: undef :: undef :: undef :: undef :: undef :: undef :: undef :: undef :: undef :: undef :: undef :: undef :: undef :: undef :: undef :: undef :: undef :: undef :: undef :: undef :: undef :: undef :: undef :: undef :: undef :: undef :: undef :: undef :: undef :: undef :: undef :: undef :: undef :: undef :: undef :: undef :: undef :: []), defers := [] }
theorem frV_put (f : Nat → Value) (i : Nat) (hi : i < 15) (v : Value) : (frV f).put (some (9 + i)) v = frV (updV f i v) := by
  obtain rfl | rfl | rfl | rfl | rfl | rfl | rfl | rfl | rfl | rfl | rfl | rfl | rfl | rfl | rfl : i = 0 ∨ i = 1 ∨ i = 2 ∨ i = 3 ∨ i = 4 ∨ i = 5 ∨ i = 6 ∨ i = 7 ∨ i = 8 ∨ i = 9 ∨ i = 10 ∨ i = 11 ∨ i = 12 ∨ i = 13 ∨ i = 14 := by omega
  all_goals rfl
/-- one of the operations that make the rows -/
theorem lit_op (ops : Array Oper) (o : Oper) (i : Nat) (hi : i < 15) (ho : (o.op = .makeSlice 22 (.const (.int .i64 (litN i : Int))) (.const (.int .i64 (litN i : Int))) ∧ (i = 13 ∨ i = 14)) ∨ (∃ parts, o.op = .buildSlice 22 (litN i) parts ∧ i < 13 ∧ ∀ a : Act, parts.toList.map (fun p => (p.1, a.eval p.2)) = (((litX i).map intV).zipIdx 0).map fun x => (x.2, x.1)))
    (hd : o.dst = some (9 + i)) (a : Act) (w : World) (K : Act → World → Prop) (Q : Exit → Act → World → Prop) (h : ∀ v w', Lit w' i v → Below w.heap.size w w' → K (a.put (some (9 + i)) v) w') : o.wp Try.prog a w K Q := by
  obtain ⟨i0, hi0, hz0, hz1, hz2⟩ := info_parts Try.info3
  have hlen : (litX i).length = litN i := by
    obtain rfl | rfl | rfl | rfl | rfl | rfl | rfl | rfl | rfl | rfl | rfl | rfl | rfl | rfl | rfl : i = 0 ∨ i = 1 ∨ i = 2 ∨ i = 3 ∨ i = 4 ∨ i = 5 ∨ i = 6 ∨ i = 7 ∨ i = 8 ∨ i = 9 ∨ i = 10 ∨ i = 11 ∨ i = 12 ∨ i = 13 ∨ i = 14 := by omega
    all_goals rfl
  have hpos : 0 < litN i ∧ litN i ≤ 65 := by
    obtain rfl | rfl | rfl | rfl | rfl | rfl | rfl | rfl | rfl | rfl | rfl | rfl | rfl | rfl | rfl : i = 0 ∨ i = 1 ∨ i = 2 ∨ i = 3 ∨ i = 4 ∨ i = 5 ∨ i = 6 ∨ i = 7 ∨ i = 8 ∨ i = 9 ∨ i = 10 ∨ i = 11 ∨ i = 12 ∨ i = 13 ∨ i = 14 := by omega
    all_goals decide
  rcases ho with ⟨ho, h13⟩ | ⟨parts, ho, _, hp⟩
  · have hr := run_make (P := Try.prog) w 22 3 i0 (.int .i64 0) Try.underlying22 hi0 hz0 .i64 .i64 (litN i) (litN i) (by omega) (by omega) (by rw [hz2]; omega) (by omega)
    have hcells : (madeCells (Value.int .i64 0).cells ((litN i : Int).toNat * i0.size)) = ((litX i).map intV).toArray := by
      rw [hz1]
      rcases h13 with rfl | rfl
      · kernel_rfl
      · kernel_rfl
    rw [hcells] at hr
    unfold Oper.wp execOp
    simp only [ho, Act.eval, Sem.run_bind, hr, Result.andThen_ok, Int.toNat_natCast, Sem.run_pure]
    show K (a.put o.dst _) _
    rw [hd]
    exact h _ _ ⟨w.heap.size, rfl, Its.of_block (heap_alloc_new w _) hlen rfl⟩ ((Below.refl _ _).alloc (Nat.le_refl _) _)
  · refine wp_buildSlice 22 3 (litN i) parts ho ((litX i).map intV).toArray i0 (.int .i64 0) Try.underlying22 hi0 hz0 (by rw [hz1]; omega) (by rw [hz1]; omega) (by rw [hz1, show (parts.map fun (i, x) => (i, a.eval x)).toList = (((litX i).map intV).zipIdx 0).map fun x => (x.2, x.1) from (by rw [← hp a]; simp)]; exact Great.fill_flat _ _ (fun v hv => by obtain ⟨_, _, rfl⟩ := List.mem_map.1 hv; rfl) (by simp; omega)) ?_
    rw [hd]
    exact h _ _ ⟨w.heap.size, rfl, Its.of_block (heap_alloc_new w _) hlen rfl⟩ ((Below.refl _ _).alloc (Nat.le_refl _) _)

theorem count_lt {p q : Nat → Bool} : ∀ {l : List Nat} {y : Nat}, (∀ x ∈ l, q x = true → p x = true) → y ∈ l → p y = true → q y = false → l.countP q < l.countP p
  | [], y, _, hy, _, _ => by cases hy
  | x :: l, y, h, hy, hp, hq => by
    have hle : l.countP q ≤ l.countP p := List.countP_mono_left fun x hx => h x (List.mem_cons_of_mem _ hx)
    rw [List.countP_cons, List.countP_cons]
    rcases List.mem_cons.1 hy with rfl | hy
    · rw [hp, hq]
      simp only [if_true]
      simp
      omega
    · have := count_lt (fun x hx => h x (List.mem_cons_of_mem _ hx)) hy hp hq
      have hx := h x List.mem_cons_self
      cases hqx : q x with
      | false => simp; split <;> omega
      | true => rw [hx hqx]; simp; omega
/-- how many of the rows are not made yet -/
def missing (listed : Array Bool) : Nat := (List.range 15).countP fun i => !listed.getD i false
def allListed : Array Bool := #[true, true, true, true, true, true, true, true, true, true, true, true, true, true, true, false, false]
theorem listed_all {listed : Array Bool} (hs : listed.size = 17) (h15 : listed.getD 15 false = false) (h16 : listed.getD 16 false = false) (h : ∀ j, j < 15 → listed.getD j false = true) : listed = allListed := by
  apply Array.ext
  · rw [hs]; rfl
  · intro i h1 h2
    have hg : listed.getD i false = listed[i] := by simp [Array.getD, h1]
    rw [← hg]
    have hi : i < 17 := by rw [← hs]; exact h1
    by_cases hi15 : i < 15
    · rw [h i hi15]
      obtain rfl | rfl | rfl | rfl | rfl | rfl | rfl | rfl | rfl | rfl | rfl | rfl | rfl | rfl | rfl : i = 0 ∨ i = 1 ∨ i = 2 ∨ i = 3 ∨ i = 4 ∨ i = 5 ∨ i = 6 ∨ i = 7 ∨ i = 8 ∨ i = 9 ∨ i = 10 ∨ i = 11 ∨ i = 12 ∨ i = 13 ∨ i = 14 := by omega
      all_goals rfl
    · obtain rfl | rfl : i = 15 ∨ i = 16 := by omega
      · rw [h15]; rfl
      · rw [h16]; rfl
theorem missing_zero {listed : Array Bool} (h : missing listed = 0) : ∀ j, j < 15 → listed.getD j false = true := fun j hj => by
  unfold missing at h
  rw [List.countP_eq_zero] at h
  have := h j (List.mem_range.2 hj)
  simpa using this
theorem missing_pos {listed : Array Bool} (h : ¬ missing listed = 0) : ∃ j, j < 15 ∧ listed.getD j false = false := by
  unfold missing at h
  obtain ⟨j, hj, hp⟩ := List.countP_pos_iff.1 (Nat.pos_of_ne_zero h)
  exact ⟨j, List.mem_range.1 hj, by simpa using hp⟩
theorem getD_set (listed : Array Bool) (i j : Nat) (hi : i < listed.size) : (listed.setIfInBounds i true).getD j false = if i = j then true else listed.getD j false := by
  simp only [Array.getD_eq_getD_getElem?, Array.getElem?_setIfInBounds]
  split
  · subst_vars; simp [hi]
  · rfl
theorem missing_set {listed : Array Bool} {i : Nat} (hs : listed.size = 17) (hi : i < 15) (hf : listed.getD i false = false) : missing (listed.setIfInBounds i true) < missing listed := by
  unfold missing
  refine count_lt (fun x _ hx => ?_) (List.mem_range.2 hi) (by rw [hf]; rfl) (by rw [getD_set _ _ _ (by omega), if_pos rfl]; rfl)
  rw [getD_set _ _ _ (by omega)] at hx
  split at hx
  · cases hx
  · exact hx
/-- the fifteen rows made in whatever order -/
theorem lits_any (ops : Array Oper) (Q : Exit → Act → World → Prop) (w0 : World)
    (H1 : ∀ i, i < 15 → ∃ o, ops[i]? = some o ∧ o.guard = none ∧ o.after = #[] ∧ o.dst = some (9 + i) ∧ ((o.op = .makeSlice 22 (.const (.int .i64 (litN i : Int))) (.const (.int .i64 (litN i : Int))) ∧ (i = 13 ∨ i = 14)) ∨ (∃ parts, o.op = .buildSlice 22 (litN i) parts ∧ i < 13 ∧ ∀ a : Act, parts.toList.map (fun p => (p.1, a.eval p.2)) = (((litX i).map intV).zipIdx 0).map fun x => (x.2, x.1))))
    (hsz : ops.size = 17) (H15 : ∀ listed, 15 ∈ Region.ready .any ops listed → ∀ j, j < 15 → listed.getD j false = true) (H16 : ∀ listed, 16 ∈ Region.ready .any ops listed → listed.getD 15 false = true)
    (hQ : ∀ f w, (∀ i, i < 15 → Lit w i (f i)) → Below w0.heap.size w0 w → ∀ fuel, wpAny Try.prog .any ops Q (fuel + 2) allListed (frV f) w) :
    ∀ (m : Nat) (fuel : Nat) (listed : Array Bool) (f : Nat → Value) (w : World), listed.size = 17 → listed.getD 15 false = false → listed.getD 16 false = false → missing listed ≤ m → (∀ i, i < 15 → listed.getD i false = true → Lit w i (f i)) → Below w0.heap.size w0 w → m + 2 ≤ fuel →
      wpAny Try.prog .any ops Q fuel listed (frV f) w := by
  intro m
  induction m with
  | zero =>
    intro fuel listed f w hs h15 h16 hm hl hb hf
    have hall := missing_zero (Nat.le_zero.1 hm)
    obtain ⟨k, rfl⟩ : ∃ k, fuel = k + 2 := ⟨fuel - 2, by omega⟩
    rw [listed_all hs h15 h16 hall]
    exact hQ f w (fun i hi => hl i hi (hall i hi)) hb k
  | succ m ih =>
    intro fuel listed f w hs h15 h16 hm hl hb hf
    by_cases h0 : missing listed = 0
    · have hall := missing_zero h0
      obtain ⟨k, rfl⟩ : ∃ k, fuel = k + 2 := ⟨fuel - 2, by omega⟩
      rw [listed_all hs h15 h16 hall]
      exact hQ f w (fun i hi => hl i hi (hall i hi)) hb k
    · obtain ⟨k, rfl⟩ : ∃ k, fuel = k + 1 := ⟨fuel - 1, by omega⟩
      have hready : ∀ i ∈ Region.ready .any ops listed, i < 17 ∧ listed.getD i true = false := fun i hi => by
        unfold Region.ready at hi
        rw [List.mem_filter, List.mem_range, hsz] at hi
        simp only [Bool.and_eq_true, Bool.not_eq_true'] at hi
        exact ⟨hi.1, hi.2.1⟩
      refine ⟨fun he => ?_, fun i hi => ?_⟩
      · exfalso
        obtain ⟨j, hj, hjf⟩ := missing_pos h0
        obtain ⟨o, ho, _, ha, _⟩ := H1 j hj
        have : j ∈ Region.ready .any ops listed := by
          unfold Region.ready
          rw [List.mem_filter, List.mem_range, hsz]
          refine ⟨by omega, ?_⟩
          have hjt : listed.getD j true = false := by
            simp only [Array.getD_eq_getD_getElem?] at hjf ⊢
            rw [Array.getElem?_eq_getElem (by omega)] at hjf ⊢
            exact hjf
          rw [hjt, ho, Option.map_some, ha]
          simp
        rw [he] at this
        cases this
      · obtain ⟨h17, hif⟩ := hready i hi
        have hif' : listed.getD i false = false := by
          simp only [Array.getD_eq_getD_getElem?] at hif ⊢
          rw [Array.getElem?_eq_getElem (by omega)] at hif ⊢
          exact hif
        by_cases hi15 : i < 15
        · obtain ⟨o, ho, hg, ha, hd, hform⟩ := H1 i hi15
          refine wpOp_step ho fun K' hK => ?_
          rw [if_pos (by simp [Region.wanted, hg])]
          refine lit_op ops o i hi15 hform hd _ _ _ _ fun v w' hv hb' => hK _ _ ?_
          rw [frV_put _ _ hi15]
          refine ih k _ _ _ (by rw [Array.size_setIfInBounds]; exact hs) (by rw [getD_set _ _ _ (by omega), if_neg (by omega)]; exact h15) (by rw [getD_set _ _ _ (by omega), if_neg (by omega)]; exact h16) (by have := missing_set hs hi15 hif'; omega) (fun j hj hjl => ?_) (hb.trans (hb'.mono hb.size)) (by omega)
          unfold updV
          split
          · rename_i e; subst e; exact hv
          · rename_i e
            rw [getD_set _ _ _ (by omega), if_neg (fun h => e h.symm)] at hjl
            exact (hl j hj hjl).below hb'
        · exfalso
          obtain rfl | rfl : i = 15 ∨ i = 16 := by omega
          · obtain ⟨j, hj, hjf⟩ := missing_pos h0
            rw [H15 listed hi j hj] at hjf
            cases hjf
          · rw [H16 listed hi] at h15
            cases h15
end Go.Proofs.Ytflllhodeakpgaa
