/- CrcWindows: on any row of bytes and any width the law returns true, and turns nothing that was there. -/
import Derived.Test.YtkfggbafgjephaaCrcRefW
namespace Go.Proofs.Ytkfggbafgjephaa
open Go.RowKit

theorem turned {d : Array Value} {f : Nat → Nat} {k L : Nat} {v : Value} (h : ∀ j, k ≤ j → j < L → d[j]? = some (.int .u32 (f j : Int))) : ∀ j, k + 1 ≤ j → j < L → (d.setIfInBounds k v)[j]? = some (.int .u32 (f j : Int)) := by
  intro j h1 h2
  rw [Array.getElem?_setIfInBounds, if_neg (by omega)]
  exact h j (by omega) h2
theorem cntW_le (n : Nat) (x : Int) : cntW n x ≤ n := by
  unfold cntW
  split <;> omega
theorem Nums.numsAt {w : World} {A : Option Addr} {g L : Nat} {f : Nat → Nat} (h : 0 < L → A = some ⟨g, 0, none⟩ ∧ Nums w g L f) : NumsAt w A g L f := fun hL => by
  obtain ⟨h1, d, h2, h3, h4⟩ := h hL
  exact ⟨h1, (Array.getElem?_eq_some_iff.1 h4).1, fun j hj => (cell_of_row w g j d _ _ h4).trans (h3 j hj)⟩

set_option maxHeartbeats 1000000 in
theorem windowsLaw_any (A : Option Addr) (n c : Nat) (x : Int) (bs : List UInt8) (w : World) (hB : Bts w A n bs) (hnc : n ≤ c) (hc : c ≤ maxLen) (hx63 : x ≤ 9223372036854775807) :
    Calls Try.prog 4 #[.slice A n c, .int .i64 x] w fun e w' => e = .returned (.bool true) ∧ Below w.heap.size w w' := by
  by_cases hbig : (300 : Int) < (n : Int)
  · clear hB hx63
    go_enter Try.func4, Try.ntmps4
    go_wp2_with (go_at_call 10; refine (works_any _).mono ?_; rintro e w' ⟨rfl, hb⟩)
    go_ret
    exact ⟨rfl, hb⟩
  obtain rfl := hB.1
  have hx' := Lib.hid hx63
  clear hx63
  have hs1 := run_str w A _ c bs hB
  obtain ⟨k0, w1, hs2, hO, hb1, hz1, hk1, hk2⟩ := run_own w bs (by unfold maxLen; omega)
  have hB1 := Lib.hid (hB.below hb1)
  have hO1 := Lib.hid hO
  generalize hst : (⟨bs.toArray⟩ : ByteArray) = st at *
  have hst' := Lib.hid hst
  have hcl := cntW_le bs.length x
  have hcl' := Lib.hid hcl
  clear hst hz1 hB hO hcl
  go_enter Try.func4, Try.ntmps4
  go_wp2_with fail
  refine (refWindows_all A bs.length c x bs w1 hB1.out (by omega) hnc hc hx'.out).mono ?_
  rintro e w2 ⟨A2, g2, c2, rfl, hN2, hb2⟩
  obtain ⟨L, hL⟩ : ∃ L, L = cntW bs.length x := ⟨_, rfl⟩
  rw [← hL] at hN2 ⊢
  have hL' := Lib.hid hL
  have hN2' := Lib.hid hN2
  have hB2 := Lib.hid (hB1.out.below hb2)
  have hO2 := Lib.hid (hO1.out.below hb2)
  have hb02 : Below w.heap.size w w2 := hb1.trans (hb2.mono hb1.size)
  have hLn : (L : Int) ≤ 300 := by have := hcl'.out; omega
  clear hN2 hL hb2 hs1 hs2 hb1
  go_wp2_with fail
  go_loopw [7] (fun i wr => ∃ t : Nat, t ≤ 2 ∧ i = .int .i64 (t : Int) ∧ Below w2.heap.size w2 wr) (fun i _ => 2 - (intOf i).toNat)
  case atStart => exact ⟨0, by omega, rfl, Below.refl _ _⟩
  case round =>
    obtain ⟨t, ht, rfl, hbel⟩ := hrel
    by_cases hlt : t < 2
    · have hz2 := hbel.size
      go_wp2_with fail
      refine (windows_all _ bs.length k0 x bs wr (hO2.out.below hbel) (by omega) hk1 hk2).mono ?_
      rintro e w3 ⟨A1, g1, rfl, hg1, hN1, hb3⟩
      rw [← hL'.out] at hN1 ⊢
      have hb23 : Below w2.heap.size w2 w3 := hbel.trans (hb3.mono hz2)
      have hN1' := Lib.hid hN1
      clear hN1
      go_wp2_with fail
      refine (same_yes A1 A2 g1 g2 L L c2 (winF bs x) w3 (Nums.numsAt hN1'.out) (hN2'.out.below hb23) (by omega)).mono ?_
      rintro e w4 ⟨rfl, nd, hw4⟩
      have hb34 : Below w3.heap.size w3 w4 := by rw [hw4]; exact draws (Below.refl _ _) nd
      have hb24 := hb23.trans (hb34.mono hb23.size)
      have hs3 := run_str w4 _ _ k0 bs (hO2.out.below hb24)
      have hs4 := run_str w4 A _ c bs (hB2.out.below hb24)
      rw [hst'.out] at hs3 hs4
      have hD : Hid (0 < L → A1 = some ⟨g1, 0, none⟩ ∧ ∃ d : Array Value, d.size = L ∧ w4.heap[g1]? = some (.cells d 22 (0, 0)) ∧ ∀ j, 0 ≤ j → j < L → d[j]? = some (.int .u32 (winF bs x j : Int))) := Lib.hid fun h => by
        obtain ⟨h1, d, h2, h3, h4⟩ := hN1'.out h
        exact ⟨h1, d, h2, by rw [hw4]; exact h4, fun j _ hj => h3 j hj⟩
      clear hw4 hb34 hb3 hb23
      go_wp2_with fail
      have hg12 : w2.heap.size ≤ g1 := Nat.le_trans hz2 hg1
      clear hg1 hz2 hbel hs3 hs4 hN1'
      go_loopw [9] (fun i wr => ∃ k : Nat, k ≤ L ∧ i = .int .i64 (k : Int) ∧ (0 < L → A1 = some ⟨g1, 0, none⟩ ∧ ∃ d : Array Value, d.size = L ∧ wr.heap[g1]? = some (.cells d 22 (0, 0)) ∧ ∀ j, k ≤ j → j < L → d[j]? = some (.int .u32 (winF bs x j : Int))) ∧ Below w2.heap.size w2 wr) (fun i _ => L - (intOf i).toNat)
      case atStart => exact ⟨0, Nat.zero_le _, rfl, hD.out, hb24⟩
      case round =>
        obtain ⟨k, hk, rfl, hd, hbel⟩ := hrel
        by_cases hk2 : k < L
        · obtain ⟨rfl, d, hds, hG, hrow⟩ := hd (by omega)
          have d1 : wr.cell? ⟨g1, k, none⟩ = some (.int .u32 (winF bs x k : Int)) := (cell_of_row wr g1 k d _ _ hG).trans (hrow k (Nat.le_refl _) hk2)
          have d2 : wr.frozen? ⟨g1, k, none⟩ = false := frozen_of_row wr g1 k d _ hG
          have hrow' := Lib.hid (fun v => turned (v := v) hrow)
          have hG' := Lib.hid hG
          have hds' := Lib.hid hds
          have hsg := u32_plain
          clear hd hG hrow hds
          go_wp2_with fail
          go_roundw
          case rel => exact ⟨k + 1, by omega, by go_num, fun _ => ⟨trivial, _, by rw [Array.size_setIfInBounds]; exact hds'.out, heap_setCell_same _ _ _ _ _ _ hG'.out, hrow'.out _⟩, hbel.setCell hg12 _⟩
          case measure => simp [intOf]; omega
        · obtain rfl : L = k := by omega
          clear hd
          go_wp2_with fail
          go_roundw
          case rel => exact ⟨t + 1, by omega, by go_num, hbel⟩
          case measure => simp [intOf]; omega
    · obtain rfl : t = 2 := by omega
      go_wp2_with fail
      refine (works_any _).mono ?_
      rintro e w9 ⟨rfl, hb9⟩
      go_wp2_with fail
      go_ret
      exact ⟨rfl, (hb02.trans (hbel.mono hb02.size)).trans (hb9.mono (Nat.le_trans hb02.size hbel.size))⟩
end Go.Proofs.Ytkfggbafgjephaa
