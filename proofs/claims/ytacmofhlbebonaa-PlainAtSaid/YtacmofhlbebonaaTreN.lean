/- works: the chapter's examples. -/
import Derived.Test.YtacmofhlbebonaaTreL
import Derived.Test.YtacmofhlbebonaaTreM
namespace Go.Proofs.Ytacmofhlbebonaa
open Go.RowKit
set_option maxRecDepth 20000

def xN : Nd := .mk 0 true [120] [] [104, 105] []
def aN : Nd := .mk 0 false [97] [] [] [xN]
def bN : Nd := .mk 0 false [98] [] [] []
def rN : Nd := .mk 0 false [114] [] [] [aN, bN]
/-- the example lies at B -/
structure Wk (w0 w : World) : Prop where
  bel : Below w0.heap.size w0 w
  size : w0.heap.size + 3 ≤ w.heap.size
  h1 : w.heap[w0.heap.size]? = some (.cells #[.int .u64 0, .bool true, .string ⟨#[120]⟩, .slice none 0 0, .string ⟨#[104, 105]⟩, .slice none 0 0] 26 (0, 0))
  h2 : w.heap[w0.heap.size + 1]? = some (.cells #[.int .u64 0, .bool false, .string ⟨#[97]⟩, .slice none 0 0, .string ⟨#[]⟩, .slice (some ⟨w0.heap.size, 0, none⟩) 1 1, .int .u64 0, .bool false, .string ⟨#[98]⟩, .slice none 0 0, .string ⟨#[]⟩, .slice none 0 0] 26 (0, 0))
  h3 : w.heap[w0.heap.size + 2]? = some (.cells #[.int .u64 0, .bool false, .string ⟨#[114]⟩, .slice none 0 0, .string ⟨#[]⟩, .slice (some ⟨w0.heap.size + 1, 0, none⟩) 2 2] 26 (0, 0))
section
variable {w0 w w' : World}
theorem Wk.below (h : Wk w0 w) (hb : Below w.heap.size w w') : Wk w0 w' :=
  have hs := h.size
  ⟨h.bel.trans (hb.mono (by omega)), Nat.le_trans h.size hb.size, (hb.block _ (by omega)).trans h.h1, (hb.block _ (by omega)).trans h.h2, (hb.block _ (by omega)).trans h.h3⟩
theorem ats_nil (T : Nat → Prop) (w : World) : AtsIn T w none 0 [] := ⟨rfl, fun q x h => by simp at h⟩
theorem Wk.node (h : Wk w0 w) : NodeV (Old w) w none 0 0 (some ⟨w0.heap.size + 1, 0, none⟩) 2 2 rN := by
  have hs := h.size
  have c1 := fun i => cell_of_row w w0.heap.size i _ _ _ h.h1
  have c2 := fun i => cell_of_row w (w0.heap.size + 1) i _ _ _ h.h2
  have hX : NodeV (Old w) w none 0 0 none 0 0 xN := NFacts.node ⟨by decide, by decide, by decide, ats_nil _ _, Nat.le_refl _, Nat.zero_le _, fun _ => rfl, rfl, Nat.le_refl _, Nat.zero_le _, fun _ => rfl, by simp [xN, Nd.kids, RowAt]⟩
  have hB : NodeV (Old w) w none 0 0 none 0 0 bN := NFacts.node ⟨by decide, by decide, by decide, ats_nil _ _, Nat.le_refl _, Nat.zero_le _, fun _ => rfl, rfl, Nat.le_refl _, Nat.zero_le _, fun _ => rfl, by simp [bN, Nd.kids, RowAt]⟩
  have hA : NodeV (Old w) w none 0 0 (some ⟨w0.heap.size, 0, none⟩) 1 1 aN := NFacts.node ⟨by decide, by decide, by decide, ats_nil _ _, Nat.le_refl _, Nat.zero_le _, fun _ => rfl, rfl, Nat.le_refl _, by decide, (fun h => by cases h), by
    show RowAt (Old w) w (some ⟨w0.heap.size, 0, none⟩) 0 [xN]
    simp only [RowAt, and_true]
    refine ⟨⟨w0.heap.size, 0, none⟩, none, 0, 0, none, 0, 0, rfl, (by show w0.heap.size < _; omega), ?_, hX⟩
    rw [add_zero_off]
    exact ⟨c1 0, c1 1, c1 2, c1 3, c1 4, c1 5⟩⟩
  refine NFacts.node ⟨by decide, by decide, by decide, ats_nil _ _, Nat.le_refl _, Nat.zero_le _, fun _ => rfl, rfl, Nat.le_refl _, by decide, (fun h => by cases h), ?_⟩
  show RowAt (Old w) w (some ⟨w0.heap.size + 1, 0, none⟩) 0 [aN, bN]
  simp only [RowAt, and_true]
  refine ⟨⟨⟨w0.heap.size + 1, 0, none⟩, none, 0, 0, (some ⟨w0.heap.size, 0, none⟩), 1, 1, rfl, (by show w0.heap.size + 1 < _; omega), ?_, hA⟩, ⟨w0.heap.size + 1, 0, none⟩, none, 0, 0, none, 0, 0, rfl, (by show w0.heap.size + 1 < _; omega), ?_, hB⟩
  · rw [add_zero_off]
    exact ⟨c2 0, c2 1, c2 2, c2 3, c2 4, c2 5⟩
  · rw [add_zero_off]
    exact ⟨c2 6, c2 7, c2 8, c2 9, c2 10, c2 11⟩
theorem Wk.alloc (h : Wk w0 w) (o : Obj) : Wk w0 (w.alloc o) := h.below ((Below.refl _ _).alloc (Nat.le_refl _) _)
theorem Wk.count (h : Wk w0 w) : Calls Try.prog 22 #[.agg #[.int .u64 0, .bool false, .string ⟨#[114]⟩, .slice none 0 0, .string ⟨#[]⟩, .slice (some ⟨w0.heap.size + 1, 0, none⟩) 2 2]] w fun e w' => e = .returned (.int .i64 4) ∧ Below w.heap.size w w' :=
  (count_any w rN none _ 0 0 2 2 h.node (by decide)).mono (by rintro e w' ⟨rfl, hb⟩; exact ⟨rfl, hb⟩)
theorem Wk.depth (h : Wk w0 w) : Calls Try.prog 24 #[.agg #[.int .u64 0, .bool false, .string ⟨#[114]⟩, .slice none 0 0, .string ⟨#[]⟩, .slice (some ⟨w0.heap.size + 1, 0, none⟩) 2 2]] w fun e w' => e = .returned (.int .i64 2) ∧ Below w.heap.size w w' :=
  (depth_any w rN none _ 0 0 2 2 h.node (by decide)).mono (by rintro e w' ⟨rfl, hb⟩; exact ⟨rfl, hb⟩)
theorem Wk.long (h : Wk w0 w) : Calls Try.prog 26 #[.agg #[.int .u64 0, .bool false, .string ⟨#[114]⟩, .slice none 0 0, .string ⟨#[]⟩, .slice (some ⟨w0.heap.size + 1, 0, none⟩) 2 2]] w fun e w' => e = .returned (.int .i64 2) ∧ Below w.heap.size w w' :=
  (long_all w rN none _ 0 0 2 2 h.node (by decide) (by decide)).mono (by rintro e w' ⟨rfl, hb⟩; exact ⟨rfl, hb⟩)
theorem Wk.right (h : Wk w0 w) : Calls Try.prog 12 #[.agg #[.int .u64 0, .bool false, .string ⟨#[114]⟩, .slice none 0 0, .string ⟨#[]⟩, .slice (some ⟨w0.heap.size + 1, 0, none⟩) 2 2]] w fun e w' => e = .returned (.bool true) ∧ Below w.heap.size w w' :=
  (right_any w rN none _ 0 0 2 2 h.node (by decide)).mono (by rintro e w' ⟨rfl, hb⟩; exact ⟨rfl, hb⟩)
theorem OwnId.len {base : Nat} {v : Value} {is : List Nat} (h : OwnId base w v is) : ∃ A c, v = .slice A is.length c ∧ is.length ≤ c := by
  obtain ⟨A, c, rfl, h1, -⟩ := own_form h
  exact ⟨A, c, rfl, h1⟩
theorem Wk.ids (h : Wk w0 w) : Calls Try.prog 20 #[.agg #[.int .u64 0, .bool false, .string ⟨#[114]⟩, .slice none 0 0, .string ⟨#[]⟩, .slice (some ⟨w0.heap.size + 1, 0, none⟩) 2 2]] w fun e w' => (∃ A c, e = .returned (.slice A 4 c)) ∧ Below w.heap.size w w' :=
  (ids_any w rN none _ 0 0 2 2 h.node (by decide)).mono (by
    rintro e w' ⟨v, rfl, ho, hb⟩
    obtain ⟨A, c, rfl, -⟩ := ho.len
    exact ⟨⟨A, c, rfl⟩, hb⟩)
theorem its_lit {g : Nat} {xs : List Int} {t : TypeId} (h : w.heap[g]? = some (.cells (xs.map fun x => Value.int .i64 x).toArray t (0, 0))) : Its w (some ⟨g, 0, none⟩) xs.length xs := Its.of_block h rfl rfl
theorem Wk.at_ (h : Wk w0 w) (p : List Int) (hp : p.length ≤ maxLen) {t : TypeId} {c : Nat} :
    Calls Try.prog 29 #[.agg #[.int .u64 0, .bool false, .string ⟨#[114]⟩, .slice none 0 0, .string ⟨#[]⟩, .slice (some ⟨w0.heap.size + 1, 0, none⟩) 2 2], .slice (some ⟨w.heap.size, 0, none⟩) p.length c] (w.alloc (.cells (p.map fun x => Value.int .i64 x).toArray t)) fun e w' =>
      (∃ aA an ac kA kn kc, e = .returned (.tuple #[.agg (val6 ((atV rN p).getD Nd.zero) aA an ac kA kn kc), .bool (atV rN p).isSome])) ∧ Below w.heap.size w w' :=
  (at_any _ rN none _ 0 0 2 2 (h.alloc _).node (some ⟨w.heap.size, 0, none⟩) p.length c p (its_lit (heap_alloc_new w _)) hp (by decide)).mono (by
    rintro e w' ⟨aA, an, ac, kA, kn, kc, rfl, -, hb⟩
    exact ⟨⟨aA, an, ac, kA, kn, kc, rfl⟩, (((Below.refl _ _).alloc (Nat.le_refl _) _).trans (hb.mono (by simp)))⟩)
theorem Wk.at1 (h : Wk w0 w) : Calls Try.prog 29 #[.agg #[.int .u64 0, .bool false, .string ⟨#[114]⟩, .slice none 0 0, .string ⟨#[]⟩, .slice (some ⟨w0.heap.size + 1, 0, none⟩) 2 2], .slice (some ⟨w.heap.size, 0, none⟩) 2 2] (w.alloc (.cells #[.int .i64 0, .int .i64 0] 3)) fun e w' =>
    (∃ aA an ac kA kn kc, e = .returned (.tuple #[.agg #[.int .u64 0, .bool true, .string ⟨#[120]⟩, .slice aA an ac, .string ⟨#[104, 105]⟩, .slice kA kn kc], .bool true])) ∧ Below w.heap.size w w' := h.at_ [0, 0] (by decide)
theorem Wk.at2 (h : Wk w0 w) : Calls Try.prog 29 #[.agg #[.int .u64 0, .bool false, .string ⟨#[114]⟩, .slice none 0 0, .string ⟨#[]⟩, .slice (some ⟨w0.heap.size + 1, 0, none⟩) 2 2], .slice (some ⟨w.heap.size, 0, none⟩) 1 1] (w.alloc (.cells #[.int .i64 2] 3)) fun e w' =>
    (∃ aA an ac kA kn kc, e = .returned (.tuple #[.agg #[.int .u64 0, .bool false, .string ⟨#[]⟩, .slice aA an ac, .string ⟨#[]⟩, .slice kA kn kc], .bool false])) ∧ Below w.heap.size w w' := h.at_ [2] (by decide)
theorem Wk.at3 (h : Wk w0 w) : Calls Try.prog 29 #[.agg #[.int .u64 0, .bool false, .string ⟨#[114]⟩, .slice none 0 0, .string ⟨#[]⟩, .slice (some ⟨w0.heap.size + 1, 0, none⟩) 2 2], .slice (some ⟨w.heap.size, 0, none⟩) 3 3] (w.alloc (.cells #[.int .i64 0, .int .i64 0, .int .i64 0] 3)) fun e w' =>
    (∃ aA an ac kA kn kc, e = .returned (.tuple #[.agg #[.int .u64 0, .bool false, .string ⟨#[]⟩, .slice aA an ac, .string ⟨#[]⟩, .slice kA kn kc], .bool false])) ∧ Below w.heap.size w w' := h.at_ [0, 0, 0] (by decide)
theorem Wk.key (h : Wk w0 w) : Calls Try.prog 14 #[.string ⟨#[107]⟩] w fun e w' => e = .returned (.bool true) ∧ Below w.heap.size w w' :=
  (key_any [107] w (by decide)).mono (by rintro e w' ⟨rfl, rfl⟩; exact ⟨rfl, Below.refl _ _⟩)
/-- the label of x, in later worlds -/
structure Lab (bx : Nat) (w : World) : Prop where
  lt : bx < w.heap.size
  cell : w.cell? ⟨bx, 2, none⟩ = some (.string ⟨#[120]⟩)
theorem Lab.below {bx : Nat} (h : Lab bx w) (hb : Below w.heap.size w w') : Lab bx w' := ⟨Nat.lt_of_lt_of_le h.lt hb.size, (hb.cell (p := ⟨bx, 2, none⟩) h.lt).trans h.cell⟩
structure Wx (w0 : World) (bx : Nat) (w : World) : Prop where
  wk : Wk w0 w
  lab : Lab bx w
theorem Wx.alloc {bx : Nat} (h : Wx w0 bx w) (o : Obj) : Wx w0 bx (w.alloc o) := ⟨h.wk.alloc o, h.lab.below ((Below.refl _ _).alloc (Nat.le_refl _) _)⟩
end
set_option maxHeartbeats 4000000 in
theorem works_any (w : World) : Calls Try.prog 11 #[] w fun e w' => e = .returned (.bool true) ∧ Below w.heap.size w w' := by
  go_enter Try.func11, Try.ntmps11
  go_wp2_with fail
  obtain ⟨W3, hW3⟩ : ∃ W3, W3 = (((w.alloc (.cells #[.int .u64 0, .bool true, .string ⟨#[120]⟩, .slice none 0 0, .string ⟨#[104, 105]⟩, .slice none 0 0] 26)).alloc (.cells #[.int .u64 0, .bool false, .string ⟨#[97]⟩, .slice none 0 0, .string ⟨#[]⟩, .slice (some ⟨w.heap.size, 0, none⟩) 1 1, .int .u64 0, .bool false, .string ⟨#[98]⟩, .slice none 0 0, .string ⟨#[]⟩, .slice none 0 0] 26)).alloc (.cells #[.int .u64 0, .bool false, .string ⟨#[114]⟩, .slice none 0 0, .string ⟨#[]⟩, .slice (some ⟨w.heap.size + 1, 0, none⟩) 2 2] 26)) := ⟨_, rfl⟩
  have hz3 : W3.heap.size = w.heap.size + 1 + 1 + 1 := by rw [hW3]; simp
  have hk0 : Wk w W3 := by
    rw [hW3]
    obtain ⟨n1, n2, n3⟩ := three_new w (.cells #[.int .u64 0, .bool true, .string ⟨#[120]⟩, .slice none 0 0, .string ⟨#[104, 105]⟩, .slice none 0 0] 26) (.cells #[.int .u64 0, .bool false, .string ⟨#[97]⟩, .slice none 0 0, .string ⟨#[]⟩, .slice (some ⟨w.heap.size, 0, none⟩) 1 1, .int .u64 0, .bool false, .string ⟨#[98]⟩, .slice none 0 0, .string ⟨#[]⟩, .slice none 0 0] 26) (.cells #[.int .u64 0, .bool false, .string ⟨#[114]⟩, .slice none 0 0, .string ⟨#[]⟩, .slice (some ⟨w.heap.size + 1, 0, none⟩) 2 2] 26)
    exact ⟨(((Below.refl w.heap.size w).alloc (Nat.le_refl _) _).alloc (by simp) _).alloc (by simp; omega) _, by simp, n1, n2, n3⟩
  rw [← hW3]
  have hc := hk0.at1
  rw [hz3] at hc
  clear hW3
  refine hc.mono ?_
  rintro e w1 ⟨⟨aA, an, ac, kA, kn, kc, rfl⟩, hb1⟩
  have hk1 := Lib.hid (hk0.below (by rw [hz3]; exact hb1))
  clear hc hk0 hb1 hz3 W3
  have hx1 := Lib.hid (show Wx w w1.heap.size (w1.alloc (.cells #[.int .u64 0, .bool true, .string ⟨#[120]⟩, .slice aA an ac, .string ⟨#[104, 105]⟩, .slice kA kn kc] 26)) from ⟨hk1.out.alloc _, by simp, cell_of_row _ _ 2 _ _ _ (heap_alloc_new w1 _)⟩)
  obtain ⟨c0, c1, c2, c3, c4, c5, -⟩ := six_cells (hk1.out.alloc (.cells #[.int .u64 0, .bool true, .string ⟨#[120]⟩, .slice aA an ac, .string ⟨#[104, 105]⟩, .slice kA kn kc] 26)).h3
  go_wp2_with fail
  have hc := hx1.out.wk.at2
  rw [World.size_alloc] at hc
  refine hc.mono ?_
  rintro e w2 ⟨⟨aA2, an2, ac2, kA2, kn2, kc2, rfl⟩, hb2⟩
  have hx2 := Lib.hid (show Wx w w1.heap.size w2 from ⟨hx1.out.wk.below (by rw [World.size_alloc]; exact hb2), hx1.out.lab.below (by rw [World.size_alloc]; exact hb2)⟩)
  clear hc hb2 hx1 hk1 c0 c1 c2 c3 c4 c5
  obtain ⟨bx, hbx⟩ : ∃ bx, bx = w1.heap.size := ⟨_, rfl⟩
  rw [← hbx] at hx2
  rw [← hbx]
  clear hbx
  obtain ⟨c0, c1, c2, c3, c4, c5, -⟩ := six_cells (hx2.out.wk.alloc (.cells #[.int .u64 0, .bool false, .string ⟨#[]⟩, .slice aA2 an2 ac2, .string ⟨#[]⟩, .slice kA2 kn2 kc2] 26)).h3
  go_wp2_with fail
  have hc := (hx2.out.wk.alloc (.cells #[.int .u64 0, .bool false, .string ⟨#[]⟩, .slice aA2 an2 ac2, .string ⟨#[]⟩, .slice kA2 kn2 kc2] 26)).at3
  rw [World.size_alloc] at hc
  refine hc.mono ?_
  rintro e w3 ⟨⟨aA3, an3, ac3, kA3, kn3, kc3, rfl⟩, hb3⟩
  have hx3 := Lib.hid (show Wx w bx (w3.alloc (.cells #[.int .u64 0, .bool false, .string ⟨#[]⟩, .slice aA3 an3 ac3, .string ⟨#[]⟩, .slice kA3 kn3 kc3] 26)) from Wx.alloc ⟨(hx2.out.wk.alloc _).below (by rw [World.size_alloc]; exact hb3), (hx2.out.alloc _).lab.below (by rw [World.size_alloc]; exact hb3)⟩ _)
  clear hc hb3 hx2 c0 c1 c2 c3 c4 c5
  obtain ⟨c0, c1, c2, c3, c4, c5, -⟩ := six_cells hx3.out.wk.h3
  have cl := hx3.out.lab.cell
  go_wp2_with fail
  refine (hx3.out.wk.count).mono ?_
  rintro e w4 ⟨rfl, hb4⟩
  have hx4 := Lib.hid (show Wx w bx w4 from ⟨hx3.out.wk.below hb4, hx3.out.lab.below hb4⟩)
  clear hb4 hx3 c0 c1 c2 c3 c4 c5 cl
  obtain ⟨c0, c1, c2, c3, c4, c5, -⟩ := six_cells hx4.out.wk.h3
  have cl := hx4.out.lab.cell
  go_wp2_with fail
  refine (hx4.out.wk.depth).mono ?_
  rintro e w5 ⟨rfl, hb5⟩
  have hx5 := Lib.hid (show Wx w bx w5 from ⟨hx4.out.wk.below hb5, hx4.out.lab.below hb5⟩)
  clear hb5 hx4 c0 c1 c2 c3 c4 c5 cl
  obtain ⟨c0, c1, c2, c3, c4, c5, -⟩ := six_cells hx5.out.wk.h3
  have cl := hx5.out.lab.cell
  go_wp2_with fail
  refine (hx5.out.wk.long).mono ?_
  rintro e w6 ⟨rfl, hb6⟩
  have hx6 := Lib.hid (show Wx w bx w6 from ⟨hx5.out.wk.below hb6, hx5.out.lab.below hb6⟩)
  clear hb6 hx5 c0 c1 c2 c3 c4 c5 cl
  obtain ⟨c0, c1, c2, c3, c4, c5, -⟩ := six_cells hx6.out.wk.h3
  have cl := hx6.out.lab.cell
  go_wp2_with fail
  refine (hx6.out.wk.right).mono ?_
  rintro e w7 ⟨rfl, hb7⟩
  have hx7 := Lib.hid (show Wx w bx w7 from ⟨hx6.out.wk.below hb7, hx6.out.lab.below hb7⟩)
  clear hb7 hx6 c0 c1 c2 c3 c4 c5 cl
  obtain ⟨c0, c1, c2, c3, c4, c5, -⟩ := six_cells hx7.out.wk.h3
  have cl := hx7.out.lab.cell
  go_wp2_with fail
  refine (hx7.out.wk.key).mono ?_
  rintro e w8 ⟨rfl, hb8⟩
  have hx8 := Lib.hid (show Wx w bx w8 from ⟨hx7.out.wk.below hb8, hx7.out.lab.below hb8⟩)
  clear hb8 hx7 c0 c1 c2 c3 c4 c5 cl
  obtain ⟨c0, c1, c2, c3, c4, c5, -⟩ := six_cells hx8.out.wk.h3
  have cl := hx8.out.lab.cell
  go_wp2_with fail
  refine (hx8.out.wk.ids).mono ?_
  rintro e w9 ⟨⟨A9, c9, rfl⟩, hb9⟩
  have hx9 := Lib.hid (show Wx w bx w9 from ⟨hx8.out.wk.below hb9, hx8.out.lab.below hb9⟩)
  clear hb9 hx8 c0 c1 c2 c3 c4 c5 cl
  go_wp2_with fail
  go_ret
  exact ⟨rfl, hx9.out.wk.bel⟩
end Go.Proofs.Ytacmofhlbebonaa
