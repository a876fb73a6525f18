/- An arena that is not there. -/
import Derived.Test.YtiikakfdelkjhaaArnS
namespace Go.Proofs.Ytiikakfdelkjhaa.Arn
open Go.RowKit
set_option maxRecDepth 20000

theorem addFault_nil (w : World) (i j : Int) : Calls Try.prog 44 #[.pointer none, .int .i64 i, .int .i64 j] w fun e w' => e = .returned (.int .i64 1) ∧ w = w' := by
  go_enter Try.func44, Try.ntmps44
  go_wp2_with fail
  go_ret
  exact ⟨rfl, rfl⟩
theorem removeFault_nil (w : World) (i : Int) : Calls Try.prog 46 #[.pointer none, .int .i64 i] w fun e w' => e = .returned (.int .i64 1) ∧ w = w' := by
  go_enter Try.func46, Try.ntmps46
  go_wp2_with fail
  go_ret
  exact ⟨rfl, rfl⟩
theorem moveFault_nil (w : World) (i j k : Int) : Calls Try.prog 48 #[.pointer none, .int .i64 i, .int .i64 j, .int .i64 k] w fun e w' => e = .returned (.int .i64 1) ∧ w = w' := by
  go_enter Try.func48, Try.ntmps48
  go_wp2_with fail
  go_ret
  exact ⟨rfl, rfl⟩
theorem setFault_nil (w : World) (i : Int) (d : Dt) (dA : Option Addr) (dn dc : Nat) : Calls Try.prog 49 #[.pointer none, .int .i64 i, datV d dA dn dc] w fun e w' => e = .returned (.int .i64 1) ∧ Below w.heap.size w w' := by
  unfold datV
  have hal : ∀ o, Below w.heap.size w (w.alloc o) := fun o => (Below.refl _ _).alloc (Nat.le_refl _) _
  have hal' := Lib.hid hal
  clear hal
  go_enter Try.func49, Try.ntmps49
  go_wp2_with fail
  go_ret
  exact ⟨rfl, hal'.out _⟩
theorem add_nil (w : World) (i j : Int) (d : Dt) (dA : Option Addr) (dn dc : Nat) : Calls Try.prog 23 #[.pointer none, .int .i64 i, .int .i64 j, datV d dA dn dc] w fun e w' => e = .returned (.tuple #[.int .i64 (-1), .int .i64 1]) ∧ Below w.heap.size w w' := by
  unfold datV
  have hal : ∀ o, Below w.heap.size w (w.alloc o) := fun o => (Below.refl _ _).alloc (Nat.le_refl _) _
  have hal' := Lib.hid hal
  clear hal
  go_enter Try.func23, Try.ntmps23
  go_wp2_with (refine (addFault_nil _ i j).mono ?_; rintro e w7 ⟨rfl, rfl⟩)
  exact bodyPost_ret (v := .tuple #[.int .i64 (-1), .int .i64 1]) (by simp [results, Try.results23, go_sem]) rfl ⟨rfl, hal'.out _⟩
theorem remove_nil (w : World) (i : Int) : Calls Try.prog 24 #[.pointer none, .int .i64 i] w fun e w' => e = .returned (.int .i64 1) ∧ w = w' := by
  go_enter Try.func24, Try.ntmps24
  go_wp2_with (refine (removeFault_nil _ i).mono ?_; rintro e w7 ⟨rfl, rfl⟩)
  go_ret
  exact ⟨rfl, rfl⟩
theorem move_nil (w : World) (i j k : Int) : Calls Try.prog 25 #[.pointer none, .int .i64 i, .int .i64 j, .int .i64 k] w fun e w' => e = .returned (.int .i64 1) ∧ w = w' := by
  go_enter Try.func25, Try.ntmps25
  go_wp2_with (refine (moveFault_nil _ i j k).mono ?_; rintro e w7 ⟨rfl, rfl⟩)
  go_ret
  exact ⟨rfl, rfl⟩
theorem set_nil (w : World) (i : Int) (d : Dt) (dA : Option Addr) (dn dc : Nat) : Calls Try.prog 26 #[.pointer none, .int .i64 i, datV d dA dn dc] w fun e w' => e = .returned (.int .i64 1) ∧ Below w.heap.size w w' := by
  have hal : ∀ o, Below w.heap.size w (w.alloc o) := fun o => (Below.refl _ _).alloc (Nat.le_refl _) _
  have hal' := Lib.hid hal
  clear hal
  have hv : ∀ W, Calls Try.prog 49 #[.pointer none, .int .i64 i, .agg #[.int .u64 (d.id : Int), .bool d.leaf, .string ⟨d.label.toArray⟩, .slice dA dn dc, .string ⟨d.text.toArray⟩]] W fun e w' => e = .returned (.int .i64 1) ∧ Below W.heap.size W w' := fun W => setFault_nil W i d dA dn dc
  unfold datV
  go_enter Try.func26, Try.ntmps26
  go_wp2_with (refine (hv _).mono ?_; rintro e w7 ⟨rfl, hb⟩; have hb' := Lib.hid hb; clear hb)
  go_ret
  exact ⟨rfl, (hal'.out _).trans (hb'.out.mono (by simp))⟩
theorem get_nil (w : World) (i : Int) (hi : -9223372036854775808 ≤ i ∧ i ≤ 9223372036854775807) : Calls Try.prog 22 #[.pointer none, .int .i64 i] w fun e w' => e = .returned (.tuple #[datV Dt.zero none 0 0, .bool false]) ∧ Below w.heap.size w w' := by
  go_enter Try.func22, Try.ntmps22
  go_wp2_with (refine (isLive_nil _ i hi).mono ?_; rintro e w7 ⟨rfl, rfl⟩)
  exact bodyPost_ret (v := .tuple #[.agg #[.int .u64 0, .bool false, .string ⟨#[]⟩, .slice none 0 0, .string ⟨#[]⟩], .bool false]) (by simp [results, Try.results22, go_sem]) rfl ⟨rfl, (Below.refl _ _).alloc (Nat.le_refl _) _⟩
theorem kids_nil (w : World) (i : Int) (hi : -9223372036854775808 ≤ i ∧ i ≤ 9223372036854775807) : Calls Try.prog 19 #[.pointer none, .int .i64 i] w fun e w' => e = .returned (.slice none 0 0) ∧ w = w' := by
  go_enter Try.func19, Try.ntmps19
  go_wp2_with (refine (isLive_nil _ i hi).mono ?_; rintro e w7 ⟨rfl, rfl⟩)
  go_ret
  exact ⟨rfl, rfl⟩
theorem parent_nil (w : World) (i : Int) (hi : -9223372036854775808 ≤ i ∧ i ≤ 9223372036854775807) : Calls Try.prog 20 #[.pointer none, .int .i64 i] w fun e w' => e = .returned (.int .i64 (-1)) ∧ w = w' := by
  go_enter Try.func20, Try.ntmps20
  go_wp2_with (refine (isLive_nil _ i hi).mono ?_; rintro e w7 ⟨rfl, rfl⟩)
  go_ret
  exact ⟨rfl, rfl⟩
theorem free_nil (w : World) : Calls Try.prog 21 #[.pointer none] w fun e w' => e = .returned (.slice none 0 0) ∧ w = w' := by
  go_enter Try.func21, Try.ntmps21
  go_wp2_with fail
  go_ret
  exact ⟨rfl, rfl⟩
theorem walk_nil (w : World) (A : Option Addr) (n c : Nat) : Calls Try.prog 15 #[.pointer none, .slice A n c] w fun e w' => e = .returned (.tuple #[.int .i64 (-1), .bool false]) ∧ w = w' := by
  go_enter Try.func15, Try.ntmps15
  go_wp2_with (refine (isLive_nil _ 0 (by decide)).mono ?_; rintro e w7 ⟨rfl, rfl⟩)
  exact bodyPost_ret (v := .tuple #[.int .i64 (-1), .bool false]) (by simp [results, Try.results15, go_sem]) rfl ⟨rfl, rfl⟩
theorem whole_nil (w : World) : Calls Try.prog 17 #[.pointer none] w fun e w' => e = .returned (.bool false) ∧ Below w.heap.size w w' := by
  go_enter Try.func17, Try.ntmps17
  go_wp2_with fail
  go_quiet ((go_at_call 38; exact Calls.quiet_of_same ((isLive_nil _ 0 (by decide)).mono fun e w' h => ⟨h.1, h.2.symm⟩)))
  go_wp2_with fail
  go_ret
  exact ⟨rfl, draws (Below.refl _ _) _⟩
set_option maxHeartbeats 8000000 in
theorem lawNone_any (w : World) (i j k : Int) (hi : -9223372036854775808 ≤ i ∧ i ≤ 9223372036854775807) (d : Dt) (dA : Option Addr) (dn dc : Nat) :
    Calls Try.prog 6 #[.int .i64 i, .int .i64 j, .int .i64 k, .agg #[.int .u64 (d.id : Int), .bool d.leaf, .string ⟨d.label.toArray⟩, .slice dA dn dc, .string ⟨d.text.toArray⟩]] w fun e w' => e = .returned (.bool true) ∧ Below w.heap.size w w' := by
  have hv : ∀ W, Calls Try.prog 26 #[.pointer none, .int .i64 i, .agg #[.int .u64 (d.id : Int), .bool d.leaf, .string ⟨d.label.toArray⟩, .slice dA dn dc, .string ⟨d.text.toArray⟩]] W fun e w' => e = .returned (.int .i64 1) ∧ Below W.heap.size W w' := fun W => set_nil W i d dA dn dc
  have ha : ∀ W, Calls Try.prog 23 #[.pointer none, .int .i64 i, .int .i64 k, .agg #[.int .u64 (d.id : Int), .bool d.leaf, .string ⟨d.label.toArray⟩, .slice dA dn dc, .string ⟨d.text.toArray⟩]] W fun e w' => e = .returned (.tuple #[.int .i64 (-1), .int .i64 1]) ∧ Below W.heap.size W w' := fun W => add_nil W i k d dA dn dc
  have hv' := Lib.hid hv
  have ha' := Lib.hid ha
  clear hv ha
  generalize d.id = id at *
  generalize d.leaf = leaf at *
  generalize d.label = lb at *
  generalize d.text = tx at *
  go_enter Try.func6, Try.ntmps6
  go_wp2_with fail
  obtain ⟨W0, hW0⟩ : ∃ W0, W0 = w.alloc (.cells #[.int .u64 (id : Int), .bool leaf, .string ⟨lb.toArray⟩, .slice dA dn dc, .string ⟨tx.toArray⟩] 25) := ⟨_, rfl⟩
  have hb0 := Lib.hid (show Below w.heap.size w W0 by rw [hW0]; exact (Below.refl _ _).alloc (Nat.le_refl _) _)
  have hx0 := Lib.hid (show W0.heap[w.heap.size]? = some (.cells #[.int .u64 (id : Int), .bool leaf, .string ⟨lb.toArray⟩, .slice dA dn dc, .string ⟨tx.toArray⟩] 25 (0, 0)) by rw [hW0]; exact heap_alloc_new w _)
  rw [← hW0]
  clear hW0
  refine (ha'.out W0).mono ?_
  rintro e w1 ⟨rfl, hb1⟩
  have hb1' := Lib.hid (hb0.out.trans (hb1.mono hb0.out.size))
  have hx1 := Lib.hid ((hb1.block w.heap.size (Array.getElem?_eq_some_iff.1 hx0.out).1).trans hx0.out)
  clear hb1 hb0 hx0
  go_wp2_with fail
  refine (get_nil w1 i hi).mono ?_
  rintro e w2 ⟨rfl, hb2⟩
  rw [show datV Dt.zero none 0 0 = .agg #[.int .u64 0, .bool false, .string ⟨#[]⟩, .slice none 0 0, .string ⟨#[]⟩] from rfl]
  have hb2' := Lib.hid (hb1'.out.trans (hb2.mono hb1'.out.size))
  have hx2 := (hb2.block w.heap.size (Array.getElem?_eq_some_iff.1 hx1.out).1).trans hx1.out
  obtain ⟨y0, y1, y2, y3, y4, yf⟩ := five_cells hx2
  have hlt := (Array.getElem?_eq_some_iff.1 hx2).1
  have hx2' := Lib.hid hx2
  clear hb2 hb1' hx1 hx2
  have hca := fun (o1 o2 : Obj) (q : Nat) => (World.cell?_of_block (w := w2) (w' := (w2.alloc o1).alloc o2) (a := ⟨w.heap.size, q, none⟩) (two_new o1 o2 _ hlt))
  have h0 := fun o1 o2 => (hca o1 o2 0).trans y0
  have h1 := fun o1 o2 => (hca o1 o2 1).trans y1
  have h2 := fun o1 o2 => (hca o1 o2 2).trans y2
  have h3 := fun o1 o2 => (hca o1 o2 3).trans y3
  have h4 := fun o1 o2 => (hca o1 o2 4).trans y4
  have hab := Lib.hid (fun (o1 o2 : Obj) => show Below w.heap.size w ((w2.alloc o1).alloc o2) from (hb2'.out.alloc hb2'.out.size _).alloc (by have := hb2'.out.size; simp; omega) _)
  clear hca
  go_wp2_with (first
    | (refine (walk_nil _ _ _ _).mono ?_; rintro e w7 ⟨rfl, rfl⟩)
    | (refine (remove_nil _ _).mono ?_; rintro e w7 ⟨rfl, rfl⟩)
    | (refine (move_nil _ _ _ _).mono ?_; rintro e w7 ⟨rfl, rfl⟩)
    | (refine (hv'.out _).mono ?_; rintro e w3 ⟨rfl, hb3⟩; have hb3' := Lib.hid ((hab.out _ _).trans (hb3.mono (hab.out _ _).size)); clear hb3)
    | (refine (kids_nil _ _ hi).mono ?_; rintro e w7 ⟨rfl, rfl⟩)
    | (refine (parent_nil _ _ hi).mono ?_; rintro e w7 ⟨rfl, rfl⟩)
    | (refine (slots_nil _).mono ?_; rintro e w7 ⟨rfl, rfl⟩)
    | (refine (free_nil _).mono ?_; rintro e w7 ⟨rfl, rfl⟩)
    | (refine (whole_nil _).mono ?_; rintro e w4 ⟨rfl, hb4⟩; have hb4' := Lib.hid (hb3'.out.trans (hb4.mono hb3'.out.size)); clear hb4)
    | (refine (works_any _).mono ?_; rintro e w5 ⟨rfl, hb5⟩; have hb5' := Lib.hid (hb4'.out.trans (hb5.mono hb4'.out.size)); clear hb5))
  go_ret
  exact ⟨rfl, hb5'.out⟩
end Go.Proofs.Ytiikakfdelkjhaa.Arn
