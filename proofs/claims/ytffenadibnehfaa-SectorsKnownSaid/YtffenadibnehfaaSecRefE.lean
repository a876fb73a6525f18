/- Write of the document's disk. -/
import Derived.Test.YtffenadibnehfaaSecRefD
import Derived.Deep.RegionLaw
import Derived.Deep.AppendLies
namespace Go.Proofs.Ytffenadibnehfaa
open Go.RowKit

theorem Try.info67 : (Try.prog.info? 67).map (fun i => (i.zero, i.size, i.bytes)) = some (some (.agg #[.int .i64 0, .string ⟨#[]⟩]), 2, 24) := by kernel_rfl

/-- a write that is done -/
def wrote (d : RD) (i : Nat) (b : List UInt8) : RD := { d with wr := d.wr ++ [(i, secL b)] }
def takenIn (d : RD) : RD := if d.armed then { d with left := d.left - 1 } else d
/-- what Write answers, and the disk behind it -/
def writeV (d : RD) (i : Int) (b : List UInt8) : Int × RD :=
  if askedV d i = 0 then
    if 128 < b.length then (3, d)
    else if d.armed = true ∧ d.left = 0 then (20, { d with armed := false, gone := true })
    else (0, wrote (takenIn d) i.toNat b)
  else (askedV d i, d)

/-- the disk behind a write that is done, out of what the walk leaves -/
theorem wrote_at {W w2 w3 : World} {B p g cap : Nat} {d : RD} {i : Nat} {b : List UInt8} {bv lv : Value} (hB : B ≤ p) (hl : d.armed = true → 0 ≤ d.left)
    (hp : W.heap[p]? = some (.cells #[bv, lv, .bool d.armed, .int .i64 d.left, .bool d.gone] 52 (0, 0)))
    (hbo : W.ownsRow B 9 1 bv d.base.length (d.base.map strV)) (hwo : w2.ownsRow B 67 2 lv d.wr.length (wrCells d.wr))
    (hb2 : Below W.heap.size W w2) (hg3 : w2.grownBy w3 lv.ownBlock)
    (ho3 : w3.ownsRow B 67 2 (.slice (some ⟨g, 0, none⟩) (d.wr.length + 1) cap) (d.wr.length + 1) (wrCells d.wr ++ [.int .i64 (i : Int), strV (secL b)])) :
    w3.heap[p]? = some (.cells #[bv, lv, .bool d.armed, .int .i64 d.left, .bool d.gone] 52 (0, 0)) ∧
    RefAt (w3.setCell ⟨p, 1, none⟩ (.slice (some ⟨g, 0, none⟩) (d.wr.length + 1) cap)) B p (wrote d i b) ∧ Fr refTs B W (w3.setCell ⟨p, 1, none⟩ (.slice (some ⟨g, 0, none⟩) (d.wr.length + 1) cap)) ∧ baseOf (w3.setCell ⟨p, 1, none⟩ (.slice (some ⟨g, 0, none⟩) (d.wr.length + 1) cap)) p = bv.ownBlock := by
  have hlt : p < W.heap.size := (Array.getElem?_eq_some_iff.1 hp).1
  have hp2 := (hb2.block p hlt).trans hp
  have f2 : Fr [67] B w2 w3 := Fr.of_grown hwo hg3 (Nat.le_refl _) (by decide)
  have hp3 := f2.same hp2 (.inr (by decide))
  have f3 : Fr [52] B w3 (w3.setCell ⟨p, 1, none⟩ (.slice (some ⟨g, 0, none⟩) (d.wr.length + 1) cap)) := Fr.setCell hp3 hB disk_ref
  have h4 := heap_setCell_same w3 p 1 _ _ (.slice (some ⟨g, 0, none⟩) (d.wr.length + 1) cap) hp3
  have f0 : Fr refTs B W w2 := Fr.of_below hb2
  refine ⟨hp3, ⟨hB, hl, bv, .slice (some ⟨g, 0, none⟩) (d.wr.length + 1) cap, ?_, ?_, ?_⟩, (f0.trans (f2.widen (by decide) (Nat.le_refl _))).trans (f3.widen (by decide) (Nat.le_refl _)), baseOf_row (v := bv) h4 (by simp)⟩
  · rw [h4]
    rfl
  · exact f3.owns (f2.owns ((Fr.of_below (ts := []) (B := 0) hb2).owns hbo (by decide)) (by decide)) (by decide)
  · have e1 : (wrote d i b).wr.length = d.wr.length + 1 := by simp [wrote]
    have e2 : wrCells (wrote d i b).wr = wrCells d.wr ++ [.int .i64 (i : Int), strV (secL b)] := by simp [wrote, wrCells_append, wrCells]
    rw [e1, e2]
    exact f3.owns ho3 (by decide)

/-- the element that is laid down -/
theorem alloc_below {W w2 : World} (h : Below W.heap.size W w2) (o : Obj) : Below W.heap.size W (w2.alloc o) := h.alloc h.size o

set_option maxHeartbeats 1600000 in
theorem write_ok (w : World) (B p : Nat) (d : RD) (i : Nat) (b : List UInt8) (h : RefAt w B p d) (h0 : askedV d (i : Int) = 0) (hb : b.length ≤ 128) (hwl : d.wr.length ≤ 100000) (hna : ¬ (d.armed = true ∧ d.left = 0)) (h63 : d.left ≤ 9223372036854775807) (hBw : B ≤ w.heap.size) :
    Calls Try.prog 34 #[.pointer (some ⟨p, 0, none⟩), .int .i64 (i : Int), .string ⟨b.toArray⟩] w fun e w' => e = .returned (.int .i64 0) ∧ RefAt w' B p (wrote (takenIn d) i b) ∧ Fr refTs B w w' ∧ baseOf w' p = baseOf w p := by
  have h' := Lib.hid h
  obtain ⟨i0, hi, hz0, hz1, hz2⟩ := info_parts Try.info67
  have hi' := Lib.hid hi
  have hz0' := Lib.hid hz0
  have hz1' := Lib.hid hz1
  have hz2' := Lib.hid hz2
  have h0' := Lib.hid h0
  have hsz : ¬ (128 : Int) < ((b.length : Nat) : Int) := by omega
  clear hi hz0 hz1 hz2 h0
  obtain ⟨hB, hl, bv, lv, hp, hbo, hwo⟩ := h
  have hlt : p < w.heap.size := (Array.getElem?_eq_some_iff.1 hp).1
  have c1 := cell_of_row w p 1 _ _ _ hp
  have c2 := cell_of_row w p 2 _ _ _ hp
  have c3 := cell_of_row w p 3 _ _ _ hp
  have f1 := frozen_of_row w p 1 _ _ hp
  have f3 := frozen_of_row w p 3 _ _ hp
  have hbb := Lib.hid (baseOf_row (v := bv) hp rfl)
  have hp' := Lib.hid hp
  have hbo' := Lib.hid hbo
  have hwo' := Lib.hid hwo
  have hl' := Lib.hid hl
  clear hp hbo hwo hl
  cases ha : d.armed with
  | false =>
    rw [ha] at c2
    simp at c1 c2
    have hd : takenIn d = d := by unfold takenIn; rw [ha]; rfl
    have hd' := Lib.hid hd
    clear hd ha c3 f3 hna h63
    go_enter Try.func34, Try.ntmps34
    go_wp2_with fail
    refine (asked_any w B p d _ h'.out).mono ?_
    rintro e w' ⟨rfl, rfl⟩
    rw [h0'.out]
    go_wp2_with fail
    go_region_law (first
      | (go_simp; go_at_call 25; refine (sector_any b w.drew hb).mono ?_; rintro e w2 ⟨rfl, hb2'⟩; have hb2 : Below w.heap.size w w2 := ⟨hb2'.os, hb2'.tape, hb2'.output, hb2'.size, hb2'.block⟩; clear hb2'; have hlt2 : p < w2.heap.size := Nat.lt_of_lt_of_le hlt hb2.size; have c12 := (hb2.cell (p := ⟨p, 1, none⟩) hlt).trans c1; have f12 := (hb2.frozen (p := ⟨p, 1, none⟩) hlt).trans f1)
      | ((refine step_append_lies _ (by rfl) (.tmp 46) (.tmp 51) 50 (by rfl) B 67 i0 _ 2 24 Try.underlying50 hi'.out hz0'.out hz1'.out hz2'.out rfl (by decide) lv d.wr.length (wrCells d.wr) (by rfl) ((Fr.of_below (ts := []) (B := 0) (alloc_below hb2 _)).owns hwo'.out (by decide))
            ⟨w2.heap.size, 0, none⟩ 1 1 [.int .i64 (i : Int), .string ⟨(secL b).toArray⟩] (by rfl) (by rfl) (World.news_of_block (cs := #[.int .i64 (i : Int), .string ⟨(secL b).toArray⟩]) (t := 67) (fr := (0, 0)) (heap_alloc_new w2 _)) (by simp [Value.oneCell'])
            (by decide) (by unfold maxLen; omega) (by omega) (Nat.le_trans hBw (alloc_below hb2 _).size) _ rfl ?_); intro g cap w3 ho3 hg3 hat hlt3; have hr3 := wrote_at (d := d) hB hl'.out hp'.out hbo'.out ((Fr.of_below (ts := []) (B := 0) (alloc_below hb2 _)).owns hwo'.out (by decide)) (alloc_below hb2 _) hg3 ho3; have c13 := cell_of_row w3 p 1 _ _ _ hr3.1; have f13 := frozen_of_row w3 p 1 _ _ hr3.1; clear ho3 hg3 hat; have hr4 := Lib.hid hr3.2; clear hr3))
    all_goals
      clear c1 f1 c13 f13 c12 f12
      go_wp2
      go_ret
      exact ⟨rfl, by rw [hd'.out]; exact hr4.out.1, hr4.out.2.1, hr4.out.2.2.trans hbb.out.symm⟩
  | true =>
    have h1 : 1 ≤ d.left := by
      have := hl'.out ha
      have : d.left ≠ 0 := fun e => hna ⟨ha, e⟩
      omega
    have hd : takenIn d = { d with left := d.left - 1 } := by unfold takenIn; rw [ha]; rfl
    have hd' := Lib.hid hd
    have hs := heap_setCell_same w p 3 _ _ (.int .i64 (d.left - 1)) hp'.out
    have hF : Fr [52] B w (w.setCell ⟨p, 3, none⟩ (.int .i64 (d.left - 1))) := Fr.setCell hp'.out hB disk_ref
    have c1' := cell_of_row _ p 1 _ _ _ hs
    have f1' := frozen_of_row _ p 1 _ _ hs
    have hbo2 := Lib.hid (hF.owns hbo'.out (by decide))
    have hwo2 := Lib.hid (hF.owns hwo'.out (by decide))
    have hs' := Lib.hid hs
    have hlt2 : p < (w.setCell ⟨p, 3, none⟩ (.int .i64 (d.left - 1))).heap.size := Nat.lt_of_lt_of_le hlt hF.size
    have hBw2 : B ≤ (w.setCell ⟨p, 3, none⟩ (.int .i64 (d.left - 1))).heap.size := Nat.le_trans hBw hF.size
    have hl2 := Lib.hid (show ({ d with left := d.left - 1 } : RD).armed = true → 0 ≤ ({ d with left := d.left - 1 } : RD).left from fun _ => by show 0 ≤ d.left - 1; omega)
    rw [ha] at c2
    simp at c1 c2 c3 c1'
    have hF' := Lib.hid hF
    have t1 : (d.left == 0) = false := by rw [beq_eq_false_iff_ne]; omega
    clear hd ha hs hF hna hbo' hwo' hp' hl'
    go_enter Try.func34, Try.ntmps34
    go_wp2_with fail
    refine (asked_any w B p d _ h'.out).mono ?_
    rintro e w' ⟨rfl, rfl⟩
    rw [h0'.out]
    go_wp2_with fail
    clear c1 c2 c3 f1 f3 hlt hBw
    generalize w.setCell ⟨p, 3, none⟩ (.int .i64 (d.left - 1)) = W at *
    have hp' := hs'
    have hbo' := hbo2
    have hwo' := hwo2
    have hl' := hl2
    have hlt := hlt2
    have hBw := hBw2
    have c1 := c1'
    have f1 := f1'
    clear hs' hbo2 hwo2 hl2 hlt2 hBw2 c1' f1'
    go_region_law (first
      | (go_simp; go_at_call 25; refine (sector_any b W.drew hb).mono ?_; rintro e w2 ⟨rfl, hb2'⟩; have hb2 : Below W.heap.size W w2 := ⟨hb2'.os, hb2'.tape, hb2'.output, hb2'.size, hb2'.block⟩; clear hb2'; have hlt2 : p < w2.heap.size := Nat.lt_of_lt_of_le hlt hb2.size; have c12 := (hb2.cell (p := ⟨p, 1, none⟩) hlt).trans c1; have f12 := (hb2.frozen (p := ⟨p, 1, none⟩) hlt).trans f1)
      | ((refine step_append_lies _ (by rfl) (.tmp 46) (.tmp 51) 50 (by rfl) B 67 i0 _ 2 24 Try.underlying50 hi'.out hz0'.out hz1'.out hz2'.out rfl (by decide) lv d.wr.length (wrCells d.wr) (by rfl) ((Fr.of_below (ts := []) (B := 0) (alloc_below hb2 _)).owns hwo'.out (by decide))
            ⟨w2.heap.size, 0, none⟩ 1 1 [.int .i64 (i : Int), .string ⟨(secL b).toArray⟩] (by rfl) (by rfl) (World.news_of_block (cs := #[.int .i64 (i : Int), .string ⟨(secL b).toArray⟩]) (t := 67) (fr := (0, 0)) (heap_alloc_new w2 _)) (by simp [Value.oneCell'])
            (by decide) (by unfold maxLen; omega) (by omega) (Nat.le_trans hBw (alloc_below hb2 _).size) _ rfl ?_); intro g cap w3 ho3 hg3 hat hlt3; have hr3 := wrote_at (d := { d with left := d.left - 1 }) hB hl'.out hp'.out hbo'.out ((Fr.of_below (ts := []) (B := 0) (alloc_below hb2 _)).owns hwo'.out (by decide)) (alloc_below hb2 _) hg3 ho3; have c13 := cell_of_row w3 p 1 _ _ _ hr3.1; have f13 := frozen_of_row w3 p 1 _ _ hr3.1; clear ho3 hg3 hat; have hr4 := Lib.hid hr3.2; clear hr3))
    all_goals
      clear c1 f1 c13 f13 c12 f12
      go_wp2
      go_ret
      exact ⟨rfl, by rw [hd'.out]; exact hr4.out.1, (hF'.out.widen (by decide) (Nat.le_refl _)).trans hr4.out.2.1, hr4.out.2.2.trans hbb.out.symm⟩
end Go.Proofs.Ytffenadibnehfaa
