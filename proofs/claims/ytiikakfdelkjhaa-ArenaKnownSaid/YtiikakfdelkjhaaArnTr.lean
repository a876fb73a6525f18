/- ArenaTree: how often a slot is met as a child, or as a free one; the words for the law's row of numbers. -/
import Derived.Test.YtiikakfdelkjhaaArnLf
namespace Go.Proofs.Ytiikakfdelkjhaa.Arn
open Go.RowKit
set_option maxRecDepth 20000
set_option linter.unusedVariables false

theorem not_taken {l : List Nat} {i y : Nat} (hn : l.Nodup) (h : l[i]? = some y) : y ∉ l.take i := by
  intro hm
  obtain ⟨j, hj⟩ := List.mem_iff_getElem?.1 hm
  rw [List.getElem?_take] at hj
  split at hj
  · rename_i hjq
    exact nodup_idx hn h j hjq hj
  · cases hj
theorem taken_one {l : List Nat} {i y : Nat} (h : l[i]? = some y) : l.take (i + 1) = l.take i ++ [y] := by rw [List.take_add_one, h]; rfl
def seen1 (a : Av) (x i : Nat) (j : Nat) : Nat := if (a.live j = true ∧ 0 ≤ a.par j ∧ a.par j < (x : Int)) ∨ j ∈ (a.kids x).take i then 1 else 0
def seen2 (a : Av) (n i : Nat) (j : Nat) : Nat := if (a.live j = true ∧ 0 ≤ a.par j ∧ a.par j < (n : Int)) ∨ j ∈ a.free.take i then 1 else 0
section
variable {a : Av}
theorem seen1_start (hw : WF a) (j : Nat) : 0 = seen1 a 0 0 j := by
  unfold seen1
  rw [if_neg]
  rintro (⟨-, h1, h2⟩ | h)
  · omega
  · simp at h
theorem seen1_at (hw : WF a) {x i y : Nat} (h : (a.kids x)[i]? = some y) : seen1 a x i y = 0 := by
  unfold seen1
  rw [if_neg]
  have hk := (hw.kid (List.mem_of_getElem? h)).2
  rintro (⟨-, h1, h2⟩ | h3)
  · omega
  · exact not_taken (hw.nd x) h h3
theorem seen1_step (hw : WF a) {x i y : Nat} (h : (a.kids x)[i]? = some y) (j : Nat) : seen1 a x (i + 1) j = if j = y then 1 else seen1 a x i j := by
  unfold seen1
  rw [taken_one h]
  by_cases e : j = y
  · rw [if_pos (.inr (by rw [e]; simp)), if_pos e]
  · rw [if_neg e]
    simp only [List.mem_append, List.mem_singleton, e, or_false]
theorem seen1_next (hw : WF a) (x : Nat) (j : Nat) : seen1 a (x + 1) 0 j = seen1 a x (a.kids x).length j := by
  unfold seen1
  rw [List.take_length, List.take_zero]
  by_cases h : (a.live j = true ∧ 0 ≤ a.par j ∧ a.par j < ((x + 1 : Nat) : Int)) ∨ j ∈ ([] : List Nat)
  · rw [if_pos h]
    rcases h with ⟨h1, h2, h3⟩ | h
    · by_cases e : a.par j = (x : Int)
      · rw [if_pos (.inr ((hw.kids_iff h1).2 e))]
      · rw [if_pos (.inl ⟨h1, h2, by omega⟩)]
    · cases h
  · rw [if_neg h, if_neg]
    rintro (⟨h1, h2, h3⟩ | h3)
    · exact h (.inl ⟨h1, h2, by omega⟩)
    · have := hw.kid h3
      exact h (.inl ⟨this.1, by omega, by omega⟩)
theorem seen2_start (hw : WF a) (n : Nat) (j : Nat) : seen2 a n 0 j = seen1 a n 0 j := by
  unfold seen1 seen2
  rw [List.take_zero, List.take_zero]
theorem seen2_at (hw : WF a) {i y : Nat} (h : a.free[i]? = some y) : seen2 a a.cnt i y = 0 := by
  unfold seen2
  rw [if_neg]
  have hk := (hw.fmem.1 (List.mem_of_getElem? h)).2
  rintro (⟨h1, -, -⟩ | h3)
  · rw [hk] at h1; cases h1
  · exact not_taken hw.fnd h h3
theorem seen2_step (hw : WF a) {n i y : Nat} (h : a.free[i]? = some y) (j : Nat) : seen2 a n (i + 1) j = if j = y then 1 else seen2 a n i j := by
  unfold seen2
  rw [taken_one h]
  by_cases e : j = y
  · rw [if_pos (.inr (by rw [e]; simp)), if_pos e]
  · rw [if_neg e]
    simp only [List.mem_append, List.mem_singleton, e, or_false]
theorem seen2_one (hw : WF a) {x : Nat} (h0 : 0 < x) (h : x < a.cnt) : seen2 a a.cnt a.free.length x = 1 := by
  unfold seen2
  rw [if_pos]
  cases hl : a.live x with
  | true =>
    obtain ⟨p, h1, h2, h3⟩ := hw.par_live hl (by omega)
    have := hw.lt h3
    exact .inl ⟨rfl, by omega, by omega⟩
  | false =>
    right
    rw [List.take_length]
    exact hw.fmem.2 ⟨h, hl⟩
theorem seen2_root (hw : WF a) : seen2 a a.cnt a.free.length 0 = 0 := by
  unfold seen2
  rw [if_neg]
  have h0 := hw.par0
  rintro (⟨-, h1, -⟩ | h)
  · omega
  · rw [List.take_length] at h
    have := (hw.fmem.1 h).2
    rw [hw.root] at this
    cases this
theorem kidsI_nat (hw : WF a) (x : Nat) : kidsI a (x : Int) = a.kids x := by
  unfold kidsI liveI
  cases hl : a.live x with
  | true => simp [hl]
  | false => simp [hl, hw.dead hl]
theorem kid_facts (hw : WF a) {x i y : Nat} (h : (a.kids x)[i]? = some y) : 0 < y ∧ y < a.cnt ∧ parI a (y : Int) = (x : Int) := by
  have hm := List.mem_of_getElem? h
  have h1 := hw.kid hm
  refine ⟨Nat.pos_of_ne_zero (hw.kid_ne hm), hw.lt h1.1, ?_⟩
  unfold parI liveI
  simp [h1.1, h1.2]
theorem free_facts (hw : WF a) {i y : Nat} (h : a.free[i]? = some y) : 0 < y ∧ y < a.cnt := by
  have h1 := hw.fmem.1 (List.mem_of_getElem? h)
  refine ⟨Nat.pos_of_ne_zero fun e => ?_, h1.1⟩
  rw [e, hw.root] at h1
  cases h1.2
/-- how far below the root a live slot is -/
theorem deep_facts (hw : WF a) {x : Nat} (h : a.live x = true) : ∃ d, Dp a.par x d ∧ d < a.cnt := by
  obtain ⟨d, hd⟩ := (hw.top h).depth
  obtain ⟨c, h1, h2, h3⟩ := hw.chain hd h
  have := nodup_le a.cnt c h2 fun y hy => (h3 y hy).1
  exact ⟨d, hd, by omega⟩
theorem up_facts (hw : WF a) {u d : Nat} (h : a.live u = true) (hd : Dp a.par u d) (h0 : 0 < u) : ∃ p d', d = d' + 1 ∧ parI a (u : Int) = ((p : Nat) : Int) ∧ a.live p = true ∧ Dp a.par p d' := by
  obtain ⟨p, h1, h2, h3⟩ := hw.par_live h (by omega)
  cases hd with
  | zero => omega
  | @step _ p' n hp hn =>
    have : p' = p := by omega
    subst this
    refine ⟨p', n, rfl, ?_, h3, hn⟩
    unfold parI liveI
    simp [h, hp]
end

/-! ### a row of numbers of the call's own, made at once -/
theorem Try.infoInt : (Try.prog.info? 3).map (fun i => (i.zero, i.size, i.bytes)) = some (some (.int .i64 0), 1, 8) := by kernel_rfl
theorem mk_int (N : Nat) (h : N ≤ 1000000) (u : World) : (Instr.makeSlice 33 (.int .i64 (N : Int)) (.int .i64 (N : Int))).run Try.prog u = .ok (.slice (some ⟨u.heap.size, 0, none⟩) N N) (u.alloc (.cells (madeCells #[.int .i64 0] N) 3)) :=
  run_make_row' 33 3 (.int .i64 0) 8 Try.underlying33 Try.infoInt rfl .i64 .i64 N (by omega) (by omega) u
def Cnt (w : World) (g N : Nat) (f : Nat → Nat) : Prop := ∃ cs, w.heap[g]? = some (.cells cs 3 (0, 0)) ∧ cs.size = N ∧ ∀ j, j < N → cs[j]? = some (.int .i64 (f j : Int))
section
variable {w w' : World} {g N i : Nat} {f : Nat → Nat}
theorem Cnt.new (w : World) (N : Nat) : Cnt (w.alloc (.cells (madeCells #[.int .i64 0] N) 3)) w.heap.size N fun _ => 0 :=
  ⟨_, heap_alloc_new w _, by simp [size_madeCells], fun j hj => by simp [madeCells, hj, Nat.mod_one]⟩
theorem Cnt.at_ (h : Cnt w g N f) (hi : i < N) : w.cell? ⟨g, i, none⟩ = some (.int .i64 (f i : Int)) ∧ w.frozen? ⟨g, i, none⟩ = false := by
  obtain ⟨cs, h1, h2, h3⟩ := h
  exact ⟨(cell_of_row w g i _ _ _ h1).trans (h3 i hi), frozen_of_row w g i _ _ h1⟩
theorem Cnt.put (h : Cnt w g N f) (hi : i < N) : Cnt (w.setCell ⟨g, i, none⟩ (.int .i64 1)) g N fun j => if j = i then 1 else f j := by
  obtain ⟨cs, b1, b2, b3⟩ := h
  refine ⟨_, heap_setCell_same w g i _ _ _ b1, by simp [b2], fun j hj => ?_⟩
  show _ = some (Value.int .i64 ((if j = i then 1 else f j : Nat) : Int))
  by_cases h : j = i
  · subst h
    rw [if_pos rfl, Array.getElem?_setIfInBounds_self_of_lt (by omega)]
    rfl
  · rw [if_neg h, Array.getElem?_setIfInBounds_ne (fun e => h e.symm)]
    exact b3 j hj
theorem Cnt.eq {f' : Nat → Nat} (h : Cnt w g N f) (e : ∀ j, f' j = f j) : Cnt w g N f' := by
  obtain ⟨cs, b1, b2, b3⟩ := h
  exact ⟨cs, b1, b2, fun j hj => by rw [e j]; exact b3 j hj⟩
theorem Cnt.kept (h : Cnt w g N f) (hk : w'.heap[g]? = w.heap[g]?) : Cnt w' g N f := by
  obtain ⟨cs, b1, b2⟩ := h
  exact ⟨cs, hk.trans b1, b2⟩
theorem Cnt.lt (h : Cnt w g N f) : g < w.heap.size := by
  obtain ⟨cs, b1, b2⟩ := h
  exact (Array.getElem?_eq_some_iff.1 b1).1
end
theorem Run.below {w0 w w' : World} {P R : Nat} {a : Av} {q : Nat} (h : Run w0 w P R a q) (hb : Below w.heap.size w w') : Run w0 w' P R a q := by
  obtain ⟨⟨ow, hB, ho⟩, h2, h3, h4⟩ := h
  exact ⟨⟨ow, hB.below hb, ho⟩, h2, h3, h4.trans (hb.mono h4.size)⟩
/-- a row of numbers beside the one that is written -/
theorem OwnN.beside {w : World} {A : Option Addr} {n c g i : Nat} {l : List Nat} {v : Value} (h : OwnN w (.slice A n c) l) (hA : ∀ ad, A = some ad → ad.block ≠ g) : OwnN (w.setCell ⟨g, i, none⟩ v) (.slice A n c) l :=
  own_kept h fun k e => by
    cases A with
    | none => cases e
    | some ad =>
      have e' : ad.block = k := by simpa [Value.ownBlock] using e
      have := hA ad rfl
      exact heap_setCell_other w ⟨g, i, none⟩ k v (by intro e2; rw [e'] at this; exact this e2)
end Go.Proofs.Ytiikakfdelkjhaa.Arn
