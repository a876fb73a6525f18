/- CrcTurns: on any two rows of bytes and any width the law returns true, and turns nothing that was there. -/
import Derived.Test.YtkfggbafgjephaaCrcUnlikes
import Derived.Deep.QuietTactic
import Derived.BigQuiet
namespace Go.Proofs.Ytkfggbafgjephaa
open Go.RowKit

theorem OwnB.shape_n {base : Nat} {w : World} {v : Value} {bs : List UInt8} (h : OwnB base w v bs) (hm : bs.length ≤ maxLen) :
    ∃ (A : Option Addr) (n c : Nat), v = .slice A n c ∧ n = bs.length ∧ n ≤ c ∧ c ≤ maxLen ∧ Bts w A n bs ∧ (A = none → c = 0) := by
  obtain ⟨A, c, h1, h2, h3, h4, h5⟩ := h.shape hm
  exact ⟨A, _, c, h1, rfl, h2, h3, h4, h5⟩
theorem u8_in {a : Int} (h : (Lit.int .u8 a).wf = true) : ∃ x : Nat, a = (x : Int) ∧ x < 256 := by
  have hb : 0 ≤ a ∧ a ≤ 255 := by simpa [Lit.wf, IntKind.min, IntKind.max, IntKind.signed, IntKind.bits] using h
  exact ⟨a.toNat, by omega, by omega⟩
theorem OwnB.reads {base : Nat} {w : World} {A : Option Addr} {n c : Nat} {bs : List UInt8} (h : OwnB base w (.slice A n c) bs) (hm : bs.length ≤ maxLen) : Bts w A n bs := by
  obtain ⟨A', n', c', e, _, _, _, h4, _⟩ := h.shape_n hm
  injection e with e1 e2 e3
  subst e1 e2 e3
  exact h4
theorem far_win (xs row : List UInt8) (j q : Nat) : ((xs ++ row).drop (xs.length + j)).take q = (row.drop j).take q := by
  rw [← List.drop_drop, List.drop_left]
theorem round_at (bs : List UInt8) (i : Nat) (h : i < 2 * bs.length) : (bs ++ bs ++ bs)[i + bs.length]? = (bs ++ bs ++ bs)[i]? := by
  rw [List.append_assoc]
  rw [List.getElem?_append_right (by omega : bs.length ≤ i + bs.length), Nat.add_sub_cancel]
  by_cases h1 : i < bs.length
  · rw [List.getElem?_append_left h1, List.getElem?_append_left h1]
  · rw [List.getElem?_append_right (by omega : bs.length ≤ i), List.getElem?_append_right (by omega : bs.length ≤ i), List.getElem?_append_left (by omega)]
theorem round_win (bs : List UInt8) (j q : Nat) (hj : bs.length ≤ j) (hq : j + q ≤ 3 * bs.length) : ((bs ++ bs ++ bs).drop (j - bs.length)).take q = ((bs ++ bs ++ bs).drop j).take q := by
  apply List.ext_getElem?
  intro i
  rw [List.getElem?_take, List.getElem?_take]
  by_cases hi : i < q
  · rw [if_pos hi, if_pos hi, List.getElem?_drop, List.getElem?_drop, ← round_at bs (j - bs.length + i) (by omega)]
    congr 1
    omega
  · rw [if_neg hi, if_neg hi]
theorem Nums.below {w w' : World} {g n : Nat} {f : Nat → Nat} (h : Nums w g n f) (hb : Below w.heap.size w w') : Nums w' g n f := by
  obtain ⟨d, h1, h2, h3⟩ := h
  exact ⟨d, h1, h2, (hb.block g (Array.getElem?_eq_some_iff.1 h3).1).trans h3⟩
theorem Nums.at_ {w : World} {g n : Nat} {f : Nat → Nat} (h : Nums w g n f) {j : Nat} (hj : j < n) : w.cell? ⟨g, j, none⟩ = some (.int .u32 (f j : Int)) := by
  obtain ⟨d, _, h2, h3⟩ := h
  exact (cell_of_row w g j d _ _ h3).trans (h2 j hj)

set_option maxHeartbeats 1000000 in
theorem turns_any (A1 A2 : Option Addr) (n1 c1 n2 c2 wd : Nat) (bs xs : List UInt8) (w : World) (hB : Bts w A1 n1 bs) (hA : Bts w A2 n2 xs) (hn1 : A1 = none → c1 = 0) (hn2 : A2 = none → c2 = 0) (hw : wd < 256) :
    Calls Try.prog 8 #[.slice A1 n1 c1, .slice A2 n2 c2, .int .u8 (wd : Int)] w fun e w' => e = .returned (.bool true) ∧ Below w.heap.size w w' := by
  have t0 : ((n1 : Int) == 0) = decide (n1 = 0) := by
    rw [Bool.eq_iff_iff, beq_iff_eq, decide_eq_true_iff]
    omega
  by_cases h0 : n1 = 0
  · have t1 : ((n1 : Int) == 0) = true := by rw [t0, decide_eq_true h0]
    clear hA hB hn1 hn2 t0 h0
    go_enter Try.func8, Try.ntmps8
    go_wp2_with (go_at_call 10; refine (works_any _).mono ?_; rintro e w' ⟨rfl, hb⟩)
    go_ret
    exact ⟨rfl, hb⟩
  have t1 : ((n1 : Int) == 0) = false := by rw [t0, decide_eq_false h0]
  have hpos : 0 < n1 := by omega
  clear t0 h0
  by_cases hbig : (40 : Int) < (n1 : Int)
  · clear hA hB hn1 hn2
    go_enter Try.func8, Try.ntmps8
    go_wp2_with (go_at_call 10; refine (works_any _).mono ?_; rintro e w' ⟨rfl, hb⟩)
    go_ret
    exact ⟨rfl, hb⟩
  by_cases hbig2 : (100 : Int) < (n2 : Int)
  · clear hA hB hn1 hn2
    go_enter Try.func8, Try.ntmps8
    go_wp2_with (go_at_call 10; refine (works_any _).mono ?_; rintro e w' ⟨rfl, hb⟩)
    go_ret
    exact ⟨rfl, hb⟩
  have l1 := Lib.hid hB.1
  have l2 := Lib.hid hA.1
  obtain ⟨q, hq⟩ : ∃ q, q = 1 + wd % (2 * n1) := ⟨_, rfl⟩
  have hqe := Lib.hid (show 1 + (wd : Int) % (2 * (n1 : Int)) = (q : Int) by rw [hq, Int.natCast_add, Int.natCast_emod, Int.natCast_mul]; rfl)
  have hq1 : 1 ≤ q := by omega
  have hq2 : q ≤ 2 * n1 := by
    have := Nat.mod_lt wd (show 0 < 2 * n1 by omega)
    omega
  have hA' := Lib.hid hA
  have hB' := Lib.hid hB
  have hn1' := Lib.hid hn1
  have hn2' := Lib.hid hn2
  clear hA hB hn1 hn2 hq
  have hpi : (0 : Int) < 2 * (n1 : Int) := by omega
  have hr1 := Int.emod_nonneg (wd : Int) (show (2 * (n1 : Int)) ≠ 0 by omega)
  have hr2 := Int.emod_lt_of_pos (wd : Int) hpi
  go_enter Try.func8, Try.ntmps8
  go_wp2_with (first
    | (at_builtin; refine wpList_append_bytes rfl (.tmp 27) (.tmp 28) rfl w.heap.size _ [] bs rfl (OwnB.nil_ _ _) A1 _ c1 rfl hB'.out hn1'.out (by have := l1.out; simp; omega) (Nat.le_refl _) ?_; intro v1 w1 ho1 hg1 hat1; have hb1 := Below.grown (Below.refl _ _) hg1 (Nat.le_refl _) (fun k hk => (World.ownsRow.lt (OwnB.nil_ w.heap.size w) k hk).1))
    | (at_builtin; refine wpList_append_bytes rfl (.tmp 29) (.tmp 30) rfl w.heap.size _ bs bs rfl ho1 A1 _ c1 rfl (hB'.out.below hb1) hn1'.out (by have := l1.out; omega) hb1.size ?_; intro v2 w2 ho2 hg2 hat2; have hb2 := Below.grown hb1 hg2 hb1.size (fun k hk => (World.ownsRow.lt ho1 k hk).1))
    | (at_builtin; refine wpList_append_bytes rfl (.tmp 31) (.tmp 32) rfl w.heap.size _ (bs ++ bs) bs rfl ho2 A1 _ c1 rfl (hB'.out.below hb2) hn1'.out (by have := l1.out; rw [List.length_append]; omega) hb2.size ?_; intro v3 w3 ho3 hg3 hat3; have hb3 := Below.grown hb2 hg3 hb2.size (fun k hk => (World.ownsRow.lt ho2 k hk).1); obtain ⟨A3, N, c3, rfl, hN, hNc, hcm, hC, hn3⟩ := ho3.shape_n (by have := l1.out; unfold maxLen; rw [List.length_append, List.length_append]; omega); have hN' := Lib.hid hN; clear hN)
    | (at_builtin; refine wpList_append_bytes rfl (.tmp 34) (.tmp 35) rfl w.heap.size _ [] xs rfl (OwnB.nil_ _ _) A2 _ c2 rfl (hA'.out.below hb3) hn2'.out (by have := l2.out; simp; omega) hb3.size ?_; intro v4 w4 ho4 hg4 hat4; have hT4 := Two.swap (Two.first (q := .slice A3 N c3) (ys := bs ++ bs ++ bs) (p := .slice none 0 0) (xs := []) ⟨OwnB.nil_ _ _, ho3, .inl rfl⟩ ho4 hg4 hat4); have hb4 := Below.grown hb3 hg4 hb3.size (fun k hk => (World.ownsRow.lt (OwnB.nil_ w.heap.size w3) k hk).1))
    | (at_builtin; refine wpList_append_bytes rfl (.tmp 36) (.tmp 37) rfl w.heap.size _ xs (bs ++ bs ++ bs) rfl ho4 A3 N c3 rfl (hC.below (Below.grown (Below.refl _ _) hg4 (Nat.le_refl _) (fun k hk => by cases hk))) hn3 (by have := l1.out; have := l2.out; rw [List.length_append, List.length_append]; omega) hb4.size ?_; intro v5 w5 ho5 hg5 hat5; have hT5 := Two.swap (Two.first hT4.swap ho5 hg5 hat5); have hb5 := Below.grown hb4 hg5 hb4.size (fun k hk => (World.ownsRow.lt ho4 k hk).1); obtain ⟨A4, M, c4, rfl, hM, hMc, hcm4, hD, _⟩ := ho5.shape_n (by have := l1.out; have := l2.out; unfold maxLen; rw [List.length_append, List.length_append, List.length_append]; omega); have hM' := Lib.hid hM; clear hM))
  have hC5 : Bts w5 A3 N (bs ++ bs ++ bs) := OwnB.reads hT5.1 (by have := l1.out; unfold maxLen; rw [List.length_append, List.length_append]; omega)
  have hNv : N = 3 * n1 := by rw [hN'.out, List.length_append, List.length_append, l1.out]; omega
  have hMv : M = n2 + 3 * n1 := by rw [hM'.out, List.length_append, List.length_append, List.length_append, l1.out, l2.out]; omega
  obtain ⟨L, hL⟩ : ∃ L, L = N - q + 1 := ⟨_, rfl⟩
  obtain ⟨K, hK⟩ : ∃ K, K = M - q + 1 := ⟨_, rfl⟩
  rw [hqe.out]
  refine (windows_yes A3 N c3 q _ w5 hC5 (by omega) hNc hcm hq1 (by omega)).mono ?_
  rintro e w6 ⟨g1, he, hgl, hN1, hb6⟩
  rw [← hL] at he hN1
  subst he
  have hD6 : Bts w6 A4 M (xs ++ (bs ++ bs ++ bs)) := hD.below hb6
  have e1 := Lib.hid hL
  have e2 := Lib.hid hK
  have e3 := Lib.hid hNv
  have e4 := Lib.hid hMv
  have i1 : (N : Int) ≤ 120 := by omega
  have i2 : (M : Int) ≤ 220 := by omega
  have i3 : (L : Int) ≤ 120 := by omega
  have i4 : (K : Int) ≤ 220 := by omega
  have i5 : (q : Int) ≤ (N : Int) := by omega
  have i6 : (q : Int) ≤ (M : Int) := by omega
  clear hL hK hNv hMv
  clear ho1 ho2 ho3 ho4 ho5 hg1 hg2 hg3 hg4 hg5 hat1 hat2 hat3 hat4 hat5 hT4 hT5 hC hD hC5 hb1 hb2 hb3 hb4
  go_wp2_with fail
  refine (windows_yes A4 M c4 q _ w6 hD6 (by omega) hMc hcm4 hq1 (by omega)).mono ?_
  rintro e w7 ⟨g2, he, hgl2, hN2, hb7⟩
  rw [← e2.out] at he hN2
  subst he
  have b1 : ((L : Int) != (N : Int) - (q : Int) + 1) = false := by
    have := e1.out
    rw [bne_eq_false_iff_eq]
    omega
  have b2 : ((K : Int) != (M : Int) - (q : Int) + 1) = false := by
    have := e2.out
    rw [bne_eq_false_iff_eq]
    omega
  have hN1' := Lib.hid (hN1.below hb7)
  have hN2' := Lib.hid hN2
  clear hN1 hN2 hD6
  go_wp2_with fail
  have hbw : Below w.heap.size w w7 := (hb5.trans (hb6.mono hb5.size)).trans (hb7.mono (Nat.le_trans hb5.size hb6.size))
  clear hb6 hb7 hb5 hgl hgl2
  go_loopw [12] (fun i wr => ∃ k : Nat, k ≤ L ∧ i = .int .i64 (k : Int) ∧ ∃ nd, wr = w7.drewN nd) (fun i _ => L - (intOf i).toNat)
  case atStart => exact ⟨0, Nat.zero_le _, rfl, 0, rfl⟩
  case round =>
    obtain ⟨k, hk, rfl, nd, rfl⟩ := hrel
    by_cases hlt : k < L
    · obtain ⟨s, hs⟩ : ∃ s, s = sumV (((bs ++ bs ++ bs).drop k).take q) := ⟨_, rfl⟩
      have hkK : n2 + k < K := by have := e1.out; have := e2.out; have := e3.out; have := e4.out; omega
      have c1 : w7.cell? ⟨g1, k, none⟩ = some (.int .u32 (s : Int)) := by rw [hs]; exact hN1'.out.at_ hlt
      have c2 : w7.cell? ⟨g2, n2 + k, none⟩ = some (.int .u32 (s : Int)) := by
        have h := hN2'.out.at_ hkK
        have hw := far_win xs (bs ++ bs ++ bs) k q
        rw [l2.out] at hw
        rw [hw, ← hs] at h
        exact h
      have c3 : n1 ≤ k → w7.cell? ⟨g1, k - n1, none⟩ = some (.int .u32 (s : Int)) := by
        intro h1
        have h := hN1'.out.at_ (show k - n1 < L by omega)
        have hw := round_win bs k q (by rw [l1.out]; exact h1) (by rw [l1.out]; have := e1.out; have := e3.out; omega)
        rw [l1.out] at hw
        rw [hw, ← hs] at h
        exact h
      have c3' := Lib.hid c3
      clear c3 hs
      have j1 : (0 : Int) ≤ (k : Int) := by omega
      have j2 : (k : Int) < (L : Int) := by omega
      have j3 : (0 : Int) ≤ (n2 : Int) + (k : Int) := by omega
      have j4 : (n2 : Int) + (k : Int) < (K : Int) := by omega
      have j5 : IntKind.i64.wrap ((n2 : Int) + (k : Int)) = (n2 : Int) + (k : Int) := IntWalk.i64_in _ (by omega)
      have j6 : ((n2 : Int) + (k : Int)).toNat = n2 + k := by omega
      by_cases h1 : n1 ≤ k
      · have c3 := c3'.out h1
        have d1 : decide ((n1 : Int) ≤ (k : Int)) = true := decide_eq_true (by omega)
        have j7 : IntKind.i64.wrap ((k : Int) - (n1 : Int)) = (k : Int) - (n1 : Int) := IntWalk.i64_in _ (by omega)
        have j8 : ((k : Int) - (n1 : Int)).toNat = k - n1 := by omega
        have j9 : (0 : Int) ≤ (k : Int) - (n1 : Int) := by omega
        have j10 : (k : Int) - (n1 : Int) < (L : Int) := by omega
        go_wp2_with fail
        go_quiet (fail)
        go_wp2_with fail
        go_roundw
        case rel => exact ⟨k + 1, by omega, by go_num, _, rfl⟩
        case measure => simp [intOf]; omega
      · have d1 : decide ((n1 : Int) ≤ (k : Int)) = false := decide_eq_false (by omega)
        go_wp2_with fail
        go_quiet (fail)
        go_wp2_with fail
        go_roundw
        case rel => exact ⟨k + 1, by omega, by go_num, _, rfl⟩
        case measure => simp [intOf]; omega
    · obtain rfl : k = L := by omega
      go_wp2_with fail
      refine (works_any _).mono ?_
      rintro e w8 ⟨rfl, hb8⟩
      go_wp2_with fail
      go_ret
      exact ⟨rfl, (draws hbw nd).trans (hb8.mono hbw.size)⟩
end Go.Proofs.Ytkfggbafgjephaa
