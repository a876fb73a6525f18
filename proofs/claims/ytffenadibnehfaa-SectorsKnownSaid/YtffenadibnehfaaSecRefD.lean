/- Fail, Crash and On of the document's disk. -/
import Derived.Test.YtffenadibnehfaaSecRefC
namespace Go.Proofs.Ytffenadibnehfaa
open Go.RowKit

/-- the disk's block has been turned, its rows have not -/
theorem RefAt.turned {w w' : World} {B p : Nat} {d : RD} (h : RefAt w B p d) (armed : Bool) (left : Int) (gone : Bool) (hl : armed = true → 0 ≤ left) (hf : Fr [52] B w w')
    (hp : ∀ bv lv : Value, w.heap[p]? = some (.cells #[bv, lv, .bool d.armed, .int .i64 d.left, .bool d.gone] 52 (0, 0)) → w'.heap[p]? = some (.cells #[bv, lv, .bool armed, .int .i64 left, .bool gone] 52 (0, 0))) :
    RefAt w' B p { d with armed := armed, left := left, gone := gone } := by
  obtain ⟨hB, _, bv, lv, hh, hb, hw⟩ := h
  exact ⟨hB, hl, bv, lv, hp bv lv hh, hf.owns hb (by decide), hf.owns hw (by decide)⟩
theorem disk_ref : 52 ∈ ([52] : List TypeId) := by decide

/-- two stores into the disk's block -/
theorem two_stores {w : World} {B p : Nat} {cs : Array Value} (hp : w.heap[p]? = some (.cells cs 52 (0, 0))) (hB : B ≤ p) (i j : Nat) (u v : Value) :
    ((w.setCell ⟨p, i, none⟩ u).setCell ⟨p, j, none⟩ v).heap[p]? = some (.cells ((cs.setIfInBounds i u).setIfInBounds j v) 52 (0, 0)) ∧ Fr [52] B w ((w.setCell ⟨p, i, none⟩ u).setCell ⟨p, j, none⟩ v) := by
  have h1 := heap_setCell_same w p i cs _ u hp
  exact ⟨heap_setCell_same _ p j _ _ v h1, (Fr.setCell hp hB disk_ref).trans (Fr.setCell h1 hB disk_ref)⟩

set_option maxHeartbeats 400000 in
theorem fail_any (w : World) (B p : Nat) (d : RD) (n : Int) (h : RefAt w B p d) :
    Calls Try.prog 30 #[.pointer (some ⟨p, 0, none⟩), .int .i64 n] w fun e w' => e = .returned (.tuple #[]) ∧ RefAt w' B p { d with armed := decide (0 ≤ n), left := n } ∧ Fr [52] B w w' ∧ baseOf w' p = baseOf w p := by
  have h' := Lib.hid h
  obtain ⟨hB, _, bv, lv, hp, _, _⟩ := h
  have c2 := cell_of_row w p 2 _ _ _ hp
  have c3 := cell_of_row w p 3 _ _ _ hp
  have f2 := frozen_of_row w p 2 _ _ hp
  have f3 := frozen_of_row w p 3 _ _ hp
  simp at c2 c3
  have hp' := Lib.hid hp
  clear hp
  go_enter Try.func30, Try.ntmps30
  go_wp2_with fail
  go_end0
  have hs := two_stores hp'.out hB 2 3 (.bool (decide (0 ≤ n))) (.int .i64 n)
  exact ⟨rfl, h'.out.turned _ _ d.gone (fun e => of_decide_eq_true e) hs.2 (fun bv' lv' e => by
    rw [hp'.out] at e
    injection e with e
    injection e with e _ _
    rw [hs.1]
    simp at e
    simp [e.1, e.2]), hs.2, (baseOf_row (v := bv) hs.1 (by simp)).trans (baseOf_row (v := bv) hp'.out rfl).symm⟩

set_option maxHeartbeats 400000 in
theorem crash_any (w : World) (B p : Nat) (d : RD) (h : RefAt w B p d) :
    Calls Try.prog 31 #[.pointer (some ⟨p, 0, none⟩)] w fun e w' => e = .returned (.tuple #[]) ∧ RefAt w' B p { d with armed := false, left := d.left, gone := true } ∧ Fr [52] B w w' ∧ baseOf w' p = baseOf w p := by
  have h' := Lib.hid h
  obtain ⟨hB, _, bv, lv, hp, _, _⟩ := h
  have c2 := cell_of_row w p 2 _ _ _ hp
  have c4 := cell_of_row w p 4 _ _ _ hp
  have f2 := frozen_of_row w p 2 _ _ hp
  have f4 := frozen_of_row w p 4 _ _ hp
  simp at c2 c4
  have hp' := Lib.hid hp
  clear hp
  go_enter Try.func31, Try.ntmps31
  go_wp2_with fail
  go_end0
  have hs := two_stores hp'.out hB 4 2 (.bool true) (.bool false)
  exact ⟨rfl, h'.out.turned false d.left true (fun e => by cases e) hs.2 (fun bv' lv' e => by
    rw [hp'.out] at e
    injection e with e
    injection e with e _ _
    rw [hs.1]
    simp at e
    simp [e.1, e.2]), hs.2, (baseOf_row (v := bv) hs.1 (by simp)).trans (baseOf_row (v := bv) hp'.out rfl).symm⟩

set_option maxHeartbeats 400000 in
theorem on_any (w : World) (B p : Nat) (d : RD) (h : RefAt w B p d) :
    Calls Try.prog 32 #[.pointer (some ⟨p, 0, none⟩)] w fun e w' => e = .returned (.tuple #[]) ∧ RefAt w' B p { d with armed := false, left := d.left, gone := false } ∧ Fr [52] B w w' ∧ baseOf w' p = baseOf w p := by
  have h' := Lib.hid h
  obtain ⟨hB, _, bv, lv, hp, _, _⟩ := h
  have c2 := cell_of_row w p 2 _ _ _ hp
  have c4 := cell_of_row w p 4 _ _ _ hp
  have f2 := frozen_of_row w p 2 _ _ hp
  have f4 := frozen_of_row w p 4 _ _ hp
  simp at c2 c4
  have hp' := Lib.hid hp
  clear hp
  go_enter Try.func32, Try.ntmps32
  go_wp2_with fail
  go_end0
  have hs := two_stores hp'.out hB 4 2 (.bool false) (.bool false)
  exact ⟨rfl, h'.out.turned false d.left false (fun e => by cases e) hs.2 (fun bv' lv' e => by
    rw [hp'.out] at e
    injection e with e
    injection e with e _ _
    rw [hs.1]
    simp at e
    simp [e.1, e.2]), hs.2, (baseOf_row (v := bv) hs.1 (by simp)).trans (baseOf_row (v := bv) hp'.out rfl).symm⟩
end Go.Proofs.Ytffenadibnehfaa
