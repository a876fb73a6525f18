/- The document's disk in memory, and what its calls answer that change no rows. -/
import Derived.Test.YtffenadibnehfaaSecRefA
import Derived.Test.YtffenadibnehfaaBaseOwn
namespace Go.Proofs.Ytffenadibnehfaa
open Go.RowKit

/-- the document's disk -/
structure RD where
  base : List (List UInt8)
  wr : List (Nat × List UInt8)
  armed : Bool
  left : Int
  gone : Bool
def strV (b : List UInt8) : Value := .string ⟨b.toArray⟩
def wrCells : List (Nat × List UInt8) → List Value
  | [] => []
  | x :: r => .int .i64 (x.1 : Int) :: strV x.2 :: wrCells r
theorem wrCells_at : ∀ (l : List (Nat × List UInt8)) (k : Nat) (x : Nat × List UInt8), l[k]? = some x → (wrCells l)[k * 2]? = some (.int .i64 (x.1 : Int)) ∧ (wrCells l)[k * 2 + 1]? = some (strV x.2)
  | [], k, x, h => by simp at h
  | y :: r, 0, x, h => by
    simp at h
    subst h
    exact ⟨rfl, rfl⟩
  | y :: r, k + 1, x, h => by
    have ih := wrCells_at r k x (by simpa using h)
    rw [show (k + 1) * 2 = k * 2 + 1 + 1 by omega]
    exact ih
theorem wrCells_append : ∀ (l m : List (Nat × List UInt8)), wrCells (l ++ m) = wrCells l ++ wrCells m
  | [], _ => rfl
  | x :: l, m => by simp [wrCells, wrCells_append l m]
theorem wrCells_len : ∀ l : List (Nat × List UInt8), (wrCells l).length = l.length * 2
  | [] => rfl
  | x :: l => by simp [wrCells, wrCells_len l]; omega

/-- block p is the disk d; what it owns lies from B on -/
def RefAt (w : World) (B p : Nat) (d : RD) : Prop :=
  B ≤ p ∧ (d.armed = true → 0 ≤ d.left) ∧ ∃ bv lv : Value, w.heap[p]? = some (.cells #[bv, lv, .bool d.armed, .int .i64 d.left, .bool d.gone] 52 (0, 0)) ∧
    w.ownsRow B 9 1 bv d.base.length (d.base.map strV) ∧ w.ownsRow B 67 2 lv d.wr.length (wrCells d.wr)
/-- the types of the rows that the document's disk turns -/
def refTs : List TypeId := [52, 67]
theorem RefAt.kept {w w' : World} {B C p : Nat} {d : RD} {ts : List TypeId} (h : RefAt w B p d) (hf : Fr ts C w w') (h1 : 52 ∉ ts) (h2 : 67 ∉ ts) (h3 : 9 ∉ ts) : RefAt w' B p d := by
  obtain ⟨hB, hl, bv, lv, hp, hb, hw⟩ := h
  exact ⟨hB, hl, bv, lv, hf.same hp (.inr h1), hf.owns hb h3, hf.owns hw h2⟩
theorem RefAt.below {w w' : World} {B p : Nat} {d : RD} (h : RefAt w B p d) (hb : Below w.heap.size w w') : RefAt w' B p d :=
  h.kept (ts := []) (C := 0) (Fr.of_below hb) (by simp) (by simp) (by simp)

/-- the block of a disk's base -/
def baseOf (w : World) (p : Nat) : Option Nat := (w.cell? ⟨p, 0, none⟩).bind Value.ownBlock
theorem baseOf_row {w : World} {p : Nat} {v : Value} {cs : Array Value} {t : TypeId} {fr : Nat × Nat} (h : w.heap[p]? = some (.cells cs t fr)) (h0 : cs[0]? = some v) : baseOf w p = v.ownBlock := by
  unfold baseOf
  rw [cell_of_row w p 0 cs t fr h, h0]
  rfl

def askedV (d : RD) (i : Int) : Int := if d.gone then 20 else if i < 0 ∨ (d.base.length : Int) ≤ i then 2 else 0

set_option maxHeartbeats 400000 in
theorem asked_any (w : World) (B p : Nat) (d : RD) (i : Int) (h : RefAt w B p d) :
    Calls Try.prog 38 #[.pointer (some ⟨p, 0, none⟩), .int .i64 i] w fun e w' => e = .returned (.int .i64 (askedV d i)) ∧ w = w' := by
  obtain ⟨_, _, bv, lv, hp, hb, _⟩ := h
  have c0 := cell_of_row w p 0 _ _ _ hp
  have c4 := cell_of_row w p 4 _ _ _ hp
  obtain ⟨A, c, rfl, _⟩ := own_form hb
  clear hp hb
  unfold askedV
  cases hg : d.gone with
  | true =>
    rw [hg] at c4
    simp at c4
    clear hg
    go_enter Try.func38, Try.ntmps38
    go_wp2_with fail
    go_ret
    exact ⟨rfl, rfl⟩
  | false =>
    rw [hg] at c4
    simp at c0 c4
    clear hg
    by_cases h1 : i < 0
    · go_enter Try.func38, Try.ntmps38
      go_wp2_with fail
      go_ret
      exact ⟨by simp, rfl⟩
    · by_cases h2 : (d.base.length : Int) ≤ i
      · go_enter Try.func38, Try.ntmps38
        go_wp2_with fail
        go_ret
        exact ⟨by simp, rfl⟩
      · go_enter Try.func38, Try.ntmps38
        go_wp2_with fail
        go_ret
        exact ⟨by simp, rfl⟩
end Go.Proofs.Ytffenadibnehfaa
