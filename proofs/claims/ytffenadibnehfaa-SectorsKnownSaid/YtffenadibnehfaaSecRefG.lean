/- Cut of the document's disk: a new disk. -/
import Derived.Test.YtffenadibnehfaaSecRefF
namespace Go.Proofs.Ytffenadibnehfaa
open Go.RowKit

theorem Try.info9 : (Try.prog.info? 9).map (fun i => (i.zero, i.size, i.bytes)) = some (some (.string ⟨#[]⟩), 1, 16) := by kernel_rfl

/-- how many writes a cut keeps -/
def kept (d : RD) (k : Int) : Nat := (max 0 (min (d.wr.length : Int) k)).toNat
def atsV (d : RD) (m n : Nat) : List (List UInt8) := (List.range n).map fun i => atV d.base d.wr i m
def cutV (d : RD) (k : Int) : RD := { base := atsV d (kept d k) d.base.length, wr := [], armed := false, left := 0, gone := false }
theorem atsV_len (d : RD) (m n : Nat) : (atsV d m n).length = n := by simp [atsV]
theorem atsV_succ (d : RD) (m n : Nat) : (atsV d m (n + 1)).map strV = (atsV d m n).map strV ++ [strV (atV d.base d.wr n m)] := by simp [atsV, List.range_succ]
/-- the types of the rows of a disk that is being made -/
def newTs : List TypeId := [52, 9]

/-- one sector more -/
theorem more_base {W wr w2 w3 : World} {B X q g cap : Nat} {v bv : Value} {xs : List Value} (hB : B ≤ X)
    (hp : wr.heap[X]? = some (.cells #[bv, .slice none 0 0, .bool false, .int .i64 0, .bool false] 52 (0, 0)))
    (hbo : w2.ownsRow B 9 1 bv q xs) (hF : Fr newTs B W wr) (hb2 : Below wr.heap.size wr w2) (hg3 : w2.grownBy w3 bv.ownBlock)
    (ho3 : w3.ownsRow B 9 1 (.slice (some ⟨g, 0, none⟩) (q + 1) cap) (q + 1) (xs ++ [v])) :
    w3.heap[X]? = some (.cells #[bv, .slice none 0 0, .bool false, .int .i64 0, .bool false] 52 (0, 0)) ∧
    (w3.setCell ⟨X, 0, none⟩ (.slice (some ⟨g, 0, none⟩) (q + 1) cap)).heap[X]? = some (.cells #[.slice (some ⟨g, 0, none⟩) (q + 1) cap, .slice none 0 0, .bool false, .int .i64 0, .bool false] 52 (0, 0)) ∧
    (w3.setCell ⟨X, 0, none⟩ (.slice (some ⟨g, 0, none⟩) (q + 1) cap)).ownsRow B 9 1 (.slice (some ⟨g, 0, none⟩) (q + 1) cap) (q + 1) (xs ++ [v]) ∧
    Fr newTs B W (w3.setCell ⟨X, 0, none⟩ (.slice (some ⟨g, 0, none⟩) (q + 1) cap)) := by
  have hlt : X < wr.heap.size := (Array.getElem?_eq_some_iff.1 hp).1
  have hp2 := (hb2.block X hlt).trans hp
  have f2 : Fr [9] B w2 w3 := Fr.of_grown hbo hg3 (Nat.le_refl _) (by decide)
  have hp3 := f2.same hp2 (.inr (by decide))
  have f3 : Fr [52] B w3 (w3.setCell ⟨X, 0, none⟩ (.slice (some ⟨g, 0, none⟩) (q + 1) cap)) := Fr.setCell hp3 hB disk_ref
  have h4 := heap_setCell_same w3 X 0 _ _ (.slice (some ⟨g, 0, none⟩) (q + 1) cap) hp3
  refine ⟨hp3, ?_, f3.owns ho3 (by decide), ((hF.trans (Fr.of_below hb2)).trans (f2.widen (by decide) (Nat.le_refl _))).trans (f3.widen (by decide) (Nat.le_refl _))⟩
  rw [h4]
  rfl

theorem kept_cases (d : RD) (k : Int) : ∃ m : Nat, kept d k = m ∧ m ≤ d.wr.length ∧ ((k < (d.wr.length : Int) ∧ 0 < k ∧ k = (m : Int)) ∨ (k < (d.wr.length : Int) ∧ ¬ 0 < k ∧ m = 0) ∨ (¬ k < (d.wr.length : Int) ∧ 0 < (d.wr.length : Int) ∧ m = d.wr.length) ∨ (¬ k < (d.wr.length : Int) ∧ ¬ 0 < (d.wr.length : Int) ∧ m = 0)) := by
  refine ⟨kept d k, rfl, ?_, ?_⟩
  · unfold kept; omega
  · unfold kept; omega

set_option maxHeartbeats 3200000 in
theorem cut_any (w : World) (B p : Nat) (d : RD) (k : Int) (h : RefAt w B p d) (hbl : d.base.length ≤ 100000) (hwl : d.wr.length ≤ 100000) :
    Calls Try.prog 11 #[.pointer (some ⟨p, 0, none⟩), .int .i64 k] w fun e w' => ∃ X, e = .returned (.pointer (some ⟨X, 0, none⟩)) ∧ RefAt w' w.heap.size X (cutV d k) ∧ Below w.heap.size w w' := by
  have h' := Lib.hid h
  obtain ⟨i0, hi, hz0, hz1, hz2⟩ := info_parts Try.info9
  have hi' := Lib.hid hi
  have hz0' := Lib.hid hz0
  have hz1' := Lib.hid hz1
  have hz2' := Lib.hid hz2
  clear hi hz0 hz1 hz2
  obtain ⟨hB, hl, bv, lv, hp, hbo, hwo⟩ := h
  have hlt : p < w.heap.size := (Array.getElem?_eq_some_iff.1 hp).1
  have c0 := cell_of_row w p 0 _ _ _ hp
  have c1 := cell_of_row w p 1 _ _ _ hp
  obtain ⟨A, c, rfl, _⟩ := own_form hbo
  obtain ⟨A2, c2, rfl, _⟩ := own_form hwo
  simp at c0 c1
  clear hp hbo hwo hl
  obtain ⟨m, hm, hmw, hcases⟩ := kept_cases d k
  have hm' := Lib.hid hm
  clear hm
  obtain ⟨n, hn⟩ : ∃ n, n = d.base.length := ⟨_, rfl⟩
  rw [← hn] at c0 hbl
  have hn' := Lib.hid hn
  clear hn
  rcases hcases with ⟨k1, k2, rfl⟩ | ⟨k1, k2, rfl⟩ | ⟨k1, k2, rfl⟩ | ⟨k1, k2, rfl⟩
  · go_enter Try.func11, Try.ntmps11
    go_wp2_with fail
    clear k1 k2 c1
    have hs0 := Lib.hid (heap_alloc_new w (.cells #[.slice none 0 0, .slice none 0 0, .bool false, .int .i64 0, .bool false] 52 (0, 0)))
    go_loopw [6] (fun v wr => ∃ q : Nat, q ≤ n ∧ v = .int .i64 (q : Int) ∧ ∃ bv, wr.heap[w.heap.size]? = some (.cells #[bv, .slice none 0 0, .bool false, .int .i64 0, .bool false] 52 (0, 0)) ∧
      wr.ownsRow w.heap.size 9 1 bv q ((atsV d m q).map strV) ∧ Fr newTs w.heap.size w wr) (fun v _ => n - (intOf v).toNat)
    case atStart => exact ⟨0, Nat.zero_le _, rfl, .slice none 0 0, hs0.out, World.ownsRow_nil _ _ _ _, Fr.of_below ((Below.refl _ _).alloc (Nat.le_refl _) _)⟩
    case round =>
      obtain ⟨q, hq, rfl, bv, hX, hown, hF⟩ := hrel
      clear hs0
      have hbel : Below w.heap.size w wr := by have := hF.below; rwa [Nat.min_self] at this
      have hR := Lib.hid (h'.out.below hbel)
      have d0 := (hbel.cell (p := ⟨p, 0, none⟩) hlt).trans c0
      have x0 := cell_of_row wr w.heap.size 0 _ _ _ hX
      have g0 := frozen_of_row wr w.heap.size 0 _ _ hX
      have hXl : w.heap.size < wr.heap.size := (Array.getElem?_eq_some_iff.1 hX).1
      have hX' := Lib.hid hX
      have hown' := Lib.hid hown
      have hF' := Lib.hid hF
      simp at x0
      clear hX hown hF hbel c0
      by_cases h1 : (q : Int) < (n : Int)
      · go_wp2_with fail
        go_region_law (first
          | (go_simp; go_at_call 28; refine (at_any wr.drew B p d q m hR.out (by rw [← hn'.out]; omega) (by rw [← hn'.out]; omega) (by omega) (by omega)).mono ?_; rintro e w2 ⟨rfl, rfl⟩; unfold strV)
          | ((refine step_append_lies _ (by rfl) (.tmp 30) (.tmp 35) 37 (by rfl) w.heap.size 9 i0 _ 1 16 Try.underlying37 hi'.out hz0'.out hz1'.out hz2'.out rfl (by decide) bv q ((atsV d m q).map strV) (by rfl) ((Fr.of_below (ts := []) (B := 0) ((alloc_below (Below.refl _ wr) _).drew)).owns hown'.out (by decide))
                ⟨wr.heap.size, 0, none⟩ 1 1 [strV (atV d.base d.wr q m)] (by rfl) (by rfl) (World.news_of_block (cs := #[strV (atV d.base d.wr q m)]) (t := 9) (fr := (0, 0)) (heap_alloc_new wr _)) (by simp [Value.oneCell', strV])
                (by decide) (by unfold maxLen; omega) (by omega) (Nat.le_trans (Nat.le_of_lt hXl) (alloc_below (Below.refl _ wr) _).size) _ rfl ?_); intro g cap w3 ho3 hg3 hat hlt3; have hr3 := more_base (Nat.le_refl _) hX'.out ((Fr.of_below (ts := []) (B := 0) ((alloc_below (Below.refl _ wr) _).drew)).owns hown'.out (by decide)) hF'.out ((alloc_below (Below.refl _ wr) _).drew) hg3 ho3; have x3 := cell_of_row w3 w.heap.size 0 _ _ _ hr3.1; have g3 := frozen_of_row w3 w.heap.size 0 _ _ hr3.1; clear ho3 hg3 hat; have hr4 := Lib.hid hr3.2; clear hr3))
        all_goals
          clear x0 g0 x3 g3
          go_wp2
          go_roundw
          case rel => exact ⟨q + 1, by omega, by go_num, _, hr4.out.1, by rw [atsV_succ]; exact hr4.out.2.1, hr4.out.2.2⟩
          case measure => simp [intOf]; omega
      · have hqn : q = n := by omega
        have hfin : RefAt wr w.heap.size w.heap.size (cutV d (m : Int)) := by
          have hb := hown'.out
          rw [hqn, hn'.out] at hb
          refine ⟨Nat.le_refl _, fun e => (by cases e), bv, .slice none 0 0, hX'.out, ?_, World.ownsRow_nil _ _ _ _⟩
          unfold cutV
          rw [hm'.out]
          show wr.ownsRow w.heap.size 9 1 bv (atsV d m d.base.length).length ((atsV d m d.base.length).map strV)
          rw [atsV_len]
          exact hb
        have hfb : Below w.heap.size w wr := by have := hF'.out.below; rwa [Nat.min_self] at this
        have hfin' := Lib.hid hfin
        have hfb' := Lib.hid hfb
        clear hfin hfb hqn
        go_wp2_with fail
        go_ret
        exact ⟨_, rfl, hfin'.out, hfb'.out⟩
  · go_enter Try.func11, Try.ntmps11
    go_wp2_with fail
    clear k1 k2 c1
    have hs0 := Lib.hid (heap_alloc_new w (.cells #[.slice none 0 0, .slice none 0 0, .bool false, .int .i64 0, .bool false] 52 (0, 0)))
    go_loopw [6] (fun v wr => ∃ q : Nat, q ≤ n ∧ v = .int .i64 (q : Int) ∧ ∃ bv, wr.heap[w.heap.size]? = some (.cells #[bv, .slice none 0 0, .bool false, .int .i64 0, .bool false] 52 (0, 0)) ∧
      wr.ownsRow w.heap.size 9 1 bv q ((atsV d 0 q).map strV) ∧ Fr newTs w.heap.size w wr) (fun v _ => n - (intOf v).toNat)
    case atStart => exact ⟨0, Nat.zero_le _, rfl, .slice none 0 0, hs0.out, World.ownsRow_nil _ _ _ _, Fr.of_below ((Below.refl _ _).alloc (Nat.le_refl _) _)⟩
    case round =>
      obtain ⟨q, hq, rfl, bv, hX, hown, hF⟩ := hrel
      clear hs0
      have hbel : Below w.heap.size w wr := by have := hF.below; rwa [Nat.min_self] at this
      have hR := Lib.hid (h'.out.below hbel)
      have d0 := (hbel.cell (p := ⟨p, 0, none⟩) hlt).trans c0
      have x0 := cell_of_row wr w.heap.size 0 _ _ _ hX
      have g0 := frozen_of_row wr w.heap.size 0 _ _ hX
      have hXl : w.heap.size < wr.heap.size := (Array.getElem?_eq_some_iff.1 hX).1
      have hX' := Lib.hid hX
      have hown' := Lib.hid hown
      have hF' := Lib.hid hF
      simp at x0
      clear hX hown hF hbel c0
      by_cases h1 : (q : Int) < (n : Int)
      · go_wp2_with fail
        go_region_law (first
          | (go_simp; go_at_call 28; refine (at_any wr.drew B p d q 0 hR.out (by rw [← hn'.out]; omega) (by rw [← hn'.out]; omega) (by omega) (by omega)).mono ?_; rintro e w2 ⟨rfl, rfl⟩; unfold strV)
          | ((refine step_append_lies _ (by rfl) (.tmp 30) (.tmp 35) 37 (by rfl) w.heap.size 9 i0 _ 1 16 Try.underlying37 hi'.out hz0'.out hz1'.out hz2'.out rfl (by decide) bv q ((atsV d 0 q).map strV) (by rfl) ((Fr.of_below (ts := []) (B := 0) ((alloc_below (Below.refl _ wr) _).drew)).owns hown'.out (by decide))
                ⟨wr.heap.size, 0, none⟩ 1 1 [strV (atV d.base d.wr q 0)] (by rfl) (by rfl) (World.news_of_block (cs := #[strV (atV d.base d.wr q 0)]) (t := 9) (fr := (0, 0)) (heap_alloc_new wr _)) (by simp [Value.oneCell', strV])
                (by decide) (by unfold maxLen; omega) (by omega) (Nat.le_trans (Nat.le_of_lt hXl) (alloc_below (Below.refl _ wr) _).size) _ rfl ?_); intro g cap w3 ho3 hg3 hat hlt3; have hr3 := more_base (Nat.le_refl _) hX'.out ((Fr.of_below (ts := []) (B := 0) ((alloc_below (Below.refl _ wr) _).drew)).owns hown'.out (by decide)) hF'.out ((alloc_below (Below.refl _ wr) _).drew) hg3 ho3; have x3 := cell_of_row w3 w.heap.size 0 _ _ _ hr3.1; have g3 := frozen_of_row w3 w.heap.size 0 _ _ hr3.1; clear ho3 hg3 hat; have hr4 := Lib.hid hr3.2; clear hr3))
        all_goals
          clear x0 g0 x3 g3
          go_wp2
          go_roundw
          case rel => exact ⟨q + 1, by omega, by go_num, _, hr4.out.1, by rw [atsV_succ]; exact hr4.out.2.1, hr4.out.2.2⟩
          case measure => simp [intOf]; omega
      · have hqn : q = n := by omega
        have hfin : RefAt wr w.heap.size w.heap.size (cutV d k) := by
          have hb := hown'.out
          rw [hqn, hn'.out] at hb
          refine ⟨Nat.le_refl _, fun e => (by cases e), bv, .slice none 0 0, hX'.out, ?_, World.ownsRow_nil _ _ _ _⟩
          unfold cutV
          rw [hm'.out]
          show wr.ownsRow w.heap.size 9 1 bv (atsV d 0 d.base.length).length ((atsV d 0 d.base.length).map strV)
          rw [atsV_len]
          exact hb
        have hfb : Below w.heap.size w wr := by have := hF'.out.below; rwa [Nat.min_self] at this
        have hfin' := Lib.hid hfin
        have hfb' := Lib.hid hfb
        clear hfin hfb hqn
        go_wp2_with fail
        go_ret
        exact ⟨_, rfl, hfin'.out, hfb'.out⟩
  · go_enter Try.func11, Try.ntmps11
    go_wp2_with fail
    clear k1 k2 c1
    have hs0 := Lib.hid (heap_alloc_new w (.cells #[.slice none 0 0, .slice none 0 0, .bool false, .int .i64 0, .bool false] 52 (0, 0)))
    go_loopw [6] (fun v wr => ∃ q : Nat, q ≤ n ∧ v = .int .i64 (q : Int) ∧ ∃ bv, wr.heap[w.heap.size]? = some (.cells #[bv, .slice none 0 0, .bool false, .int .i64 0, .bool false] 52 (0, 0)) ∧
      wr.ownsRow w.heap.size 9 1 bv q ((atsV d d.wr.length q).map strV) ∧ Fr newTs w.heap.size w wr) (fun v _ => n - (intOf v).toNat)
    case atStart => exact ⟨0, Nat.zero_le _, rfl, .slice none 0 0, hs0.out, World.ownsRow_nil _ _ _ _, Fr.of_below ((Below.refl _ _).alloc (Nat.le_refl _) _)⟩
    case round =>
      obtain ⟨q, hq, rfl, bv, hX, hown, hF⟩ := hrel
      clear hs0
      have hbel : Below w.heap.size w wr := by have := hF.below; rwa [Nat.min_self] at this
      have hR := Lib.hid (h'.out.below hbel)
      have d0 := (hbel.cell (p := ⟨p, 0, none⟩) hlt).trans c0
      have x0 := cell_of_row wr w.heap.size 0 _ _ _ hX
      have g0 := frozen_of_row wr w.heap.size 0 _ _ hX
      have hXl : w.heap.size < wr.heap.size := (Array.getElem?_eq_some_iff.1 hX).1
      have hX' := Lib.hid hX
      have hown' := Lib.hid hown
      have hF' := Lib.hid hF
      simp at x0
      clear hX hown hF hbel c0
      by_cases h1 : (q : Int) < (n : Int)
      · go_wp2_with fail
        go_region_law (first
          | (go_simp; go_at_call 28; refine (at_any wr.drew B p d q (d.wr.length) hR.out (by rw [← hn'.out]; omega) (by rw [← hn'.out]; omega) (by omega) (by omega)).mono ?_; rintro e w2 ⟨rfl, rfl⟩; unfold strV)
          | ((refine step_append_lies _ (by rfl) (.tmp 30) (.tmp 35) 37 (by rfl) w.heap.size 9 i0 _ 1 16 Try.underlying37 hi'.out hz0'.out hz1'.out hz2'.out rfl (by decide) bv q ((atsV d (d.wr.length) q).map strV) (by rfl) ((Fr.of_below (ts := []) (B := 0) ((alloc_below (Below.refl _ wr) _).drew)).owns hown'.out (by decide))
                ⟨wr.heap.size, 0, none⟩ 1 1 [strV (atV d.base d.wr q (d.wr.length))] (by rfl) (by rfl) (World.news_of_block (cs := #[strV (atV d.base d.wr q (d.wr.length))]) (t := 9) (fr := (0, 0)) (heap_alloc_new wr _)) (by simp [Value.oneCell', strV])
                (by decide) (by unfold maxLen; omega) (by omega) (Nat.le_trans (Nat.le_of_lt hXl) (alloc_below (Below.refl _ wr) _).size) _ rfl ?_); intro g cap w3 ho3 hg3 hat hlt3; have hr3 := more_base (Nat.le_refl _) hX'.out ((Fr.of_below (ts := []) (B := 0) ((alloc_below (Below.refl _ wr) _).drew)).owns hown'.out (by decide)) hF'.out ((alloc_below (Below.refl _ wr) _).drew) hg3 ho3; have x3 := cell_of_row w3 w.heap.size 0 _ _ _ hr3.1; have g3 := frozen_of_row w3 w.heap.size 0 _ _ hr3.1; clear ho3 hg3 hat; have hr4 := Lib.hid hr3.2; clear hr3))
        all_goals
          clear x0 g0 x3 g3
          go_wp2
          go_roundw
          case rel => exact ⟨q + 1, by omega, by go_num, _, hr4.out.1, by rw [atsV_succ]; exact hr4.out.2.1, hr4.out.2.2⟩
          case measure => simp [intOf]; omega
      · have hqn : q = n := by omega
        have hfin : RefAt wr w.heap.size w.heap.size (cutV d k) := by
          have hb := hown'.out
          rw [hqn, hn'.out] at hb
          refine ⟨Nat.le_refl _, fun e => (by cases e), bv, .slice none 0 0, hX'.out, ?_, World.ownsRow_nil _ _ _ _⟩
          unfold cutV
          rw [hm'.out]
          show wr.ownsRow w.heap.size 9 1 bv (atsV d (d.wr.length) d.base.length).length ((atsV d (d.wr.length) d.base.length).map strV)
          rw [atsV_len]
          exact hb
        have hfb : Below w.heap.size w wr := by have := hF'.out.below; rwa [Nat.min_self] at this
        have hfin' := Lib.hid hfin
        have hfb' := Lib.hid hfb
        clear hfin hfb hqn
        go_wp2_with fail
        go_ret
        exact ⟨_, rfl, hfin'.out, hfb'.out⟩
  · go_enter Try.func11, Try.ntmps11
    go_wp2_with fail
    clear k1 k2 c1
    have hs0 := Lib.hid (heap_alloc_new w (.cells #[.slice none 0 0, .slice none 0 0, .bool false, .int .i64 0, .bool false] 52 (0, 0)))
    go_loopw [6] (fun v wr => ∃ q : Nat, q ≤ n ∧ v = .int .i64 (q : Int) ∧ ∃ bv, wr.heap[w.heap.size]? = some (.cells #[bv, .slice none 0 0, .bool false, .int .i64 0, .bool false] 52 (0, 0)) ∧
      wr.ownsRow w.heap.size 9 1 bv q ((atsV d 0 q).map strV) ∧ Fr newTs w.heap.size w wr) (fun v _ => n - (intOf v).toNat)
    case atStart => exact ⟨0, Nat.zero_le _, rfl, .slice none 0 0, hs0.out, World.ownsRow_nil _ _ _ _, Fr.of_below ((Below.refl _ _).alloc (Nat.le_refl _) _)⟩
    case round =>
      obtain ⟨q, hq, rfl, bv, hX, hown, hF⟩ := hrel
      clear hs0
      have hbel : Below w.heap.size w wr := by have := hF.below; rwa [Nat.min_self] at this
      have hR := Lib.hid (h'.out.below hbel)
      have d0 := (hbel.cell (p := ⟨p, 0, none⟩) hlt).trans c0
      have x0 := cell_of_row wr w.heap.size 0 _ _ _ hX
      have g0 := frozen_of_row wr w.heap.size 0 _ _ hX
      have hXl : w.heap.size < wr.heap.size := (Array.getElem?_eq_some_iff.1 hX).1
      have hX' := Lib.hid hX
      have hown' := Lib.hid hown
      have hF' := Lib.hid hF
      simp at x0
      clear hX hown hF hbel c0
      by_cases h1 : (q : Int) < (n : Int)
      · go_wp2_with fail
        go_region_law (first
          | (go_simp; go_at_call 28; refine (at_any wr.drew B p d q 0 hR.out (by rw [← hn'.out]; omega) (by rw [← hn'.out]; omega) (by omega) (by omega)).mono ?_; rintro e w2 ⟨rfl, rfl⟩; unfold strV)
          | ((refine step_append_lies _ (by rfl) (.tmp 30) (.tmp 35) 37 (by rfl) w.heap.size 9 i0 _ 1 16 Try.underlying37 hi'.out hz0'.out hz1'.out hz2'.out rfl (by decide) bv q ((atsV d 0 q).map strV) (by rfl) ((Fr.of_below (ts := []) (B := 0) ((alloc_below (Below.refl _ wr) _).drew)).owns hown'.out (by decide))
                ⟨wr.heap.size, 0, none⟩ 1 1 [strV (atV d.base d.wr q 0)] (by rfl) (by rfl) (World.news_of_block (cs := #[strV (atV d.base d.wr q 0)]) (t := 9) (fr := (0, 0)) (heap_alloc_new wr _)) (by simp [Value.oneCell', strV])
                (by decide) (by unfold maxLen; omega) (by omega) (Nat.le_trans (Nat.le_of_lt hXl) (alloc_below (Below.refl _ wr) _).size) _ rfl ?_); intro g cap w3 ho3 hg3 hat hlt3; have hr3 := more_base (Nat.le_refl _) hX'.out ((Fr.of_below (ts := []) (B := 0) ((alloc_below (Below.refl _ wr) _).drew)).owns hown'.out (by decide)) hF'.out ((alloc_below (Below.refl _ wr) _).drew) hg3 ho3; have x3 := cell_of_row w3 w.heap.size 0 _ _ _ hr3.1; have g3 := frozen_of_row w3 w.heap.size 0 _ _ hr3.1; clear ho3 hg3 hat; have hr4 := Lib.hid hr3.2; clear hr3))
        all_goals
          clear x0 g0 x3 g3
          go_wp2
          go_roundw
          case rel => exact ⟨q + 1, by omega, by go_num, _, hr4.out.1, by rw [atsV_succ]; exact hr4.out.2.1, hr4.out.2.2⟩
          case measure => simp [intOf]; omega
      · have hqn : q = n := by omega
        have hfin : RefAt wr w.heap.size w.heap.size (cutV d k) := by
          have hb := hown'.out
          rw [hqn, hn'.out] at hb
          refine ⟨Nat.le_refl _, fun e => (by cases e), bv, .slice none 0 0, hX'.out, ?_, World.ownsRow_nil _ _ _ _⟩
          unfold cutV
          rw [hm'.out]
          show wr.ownsRow w.heap.size 9 1 bv (atsV d 0 d.base.length).length ((atsV d 0 d.base.length).map strV)
          rw [atsV_len]
          exact hb
        have hfb : Below w.heap.size w wr := by have := hF'.out.below; rwa [Nat.min_self] at this
        have hfin' := Lib.hid hfin
        have hfb' := Lib.hid hfb
        clear hfin hfb hqn
        go_wp2_with fail
        go_ret
        exact ⟨_, rfl, hfin'.out, hfb'.out⟩
end Go.Proofs.Ytffenadibnehfaa
