/- Sum, as the document has it. -/
import Derived.Test.YtflllhodeakpgaaPthQ
namespace Go.Proofs.Ytflllhodeakpgaa
open Go.RowKit
set_option maxRecDepth 20000

theorem OwnC.mono {base base' : Nat} {w : World} {v : Value} {xs : List (Nat × Nat)} (h : OwnC base w v xs) (hb : base' ≤ base) : OwnC base' w v xs :=
  ⟨h.1, h.2.imp id fun ⟨g, cap, cur, e, h1, r⟩ => ⟨g, cap, cur, e, Nat.le_trans hb h1, r⟩⟩
def okL (zs : List (Nat × Nat)) : Bool := zs.all fun z => okRef z.1 z.2
theorem ok_at {zs : List (Nat × Nat)} {k : Nat} {re im : Nat} (h : zs[k]? = some (re, im)) (hf : okL zs = true) : okRef re im = true := by
  unfold okL at hf
  have h2 := List.all_eq_true.1 hf (re, im) (List.mem_of_getElem? h)
  dsimp only at h2
  exact h2
theorem SumR.none_ {w w' : World} {x : Int × List (Nat × Nat)} {k : Int} (h : x = (k, [])) (hb : Below w.heap.size w w') : SumR w x (.returned (.tuple #[.slice none 0 0, .int .i64 k])) w' := by
  subst h
  exact ⟨_, rfl, OwnC.nil_ _ _, hb⟩

set_option maxHeartbeats 1600000 in
theorem refSum_any (w : World) (A : Option Addr) (n c : Nat) (zs : List (Nat × Nat)) (hA : ItsC w A n zs) (hn : n ≤ maxLen) (hf : fineL zs = true) (hk : okL zs = true) :
    Calls Try.prog 38 #[.slice A n c] w (SumR w (sumsV zs)) := by
  have hA' := Lib.hid hA
  have hl := Lib.hid hA.1
  have hf' := Lib.hid hf
  have hk' := Lib.hid hk
  unfold maxLen at hn
  clear hA hf hk
  by_cases hbig : (64 : Int) < (n : Int)
  · have hv := Lib.hid (sums_out (zs := zs) (fun h => by have := hl.out; omega))
    go_enter Try.func38, Try.ntmps38
    go_wp2_with fail
    go_ret2
    exact SumR.none_ hv.out (Below.refl _ _)
  · have h64 := Lib.hid (show zs.length ≤ 64 by have := hl.out; omega)
    go_enter Try.func38, Try.ntmps38
    go_wp2_with (refine wpList_alloc_arr_to rfl rfl w.heap.size rfl ?_; intro w1 hz1 hs1 hb1)
    go_loopw [5] (fun i wr => ∃ k : Nat, k ≤ n ∧ i = .int .i64 (k : Int) ∧ wr.heap[w.heap.size]? = some (.cells (arrI (sumL (zs.take k))) 51 (0, 0)) ∧ Near (sumL (zs.take k)) k ∧ allParts (zs.take k) = true ∧ Below w.heap.size w wr ∧ w.heap.size + 1 ≤ wr.heap.size) (fun i _ => n - (intOf i).toNat)
    case atStart => exact ⟨0, Nat.zero_le _, rfl, hz1, near_zeros, rfl, hb1, by omega⟩
    case round =>
      obtain ⟨k, hk, rfl, hr, hN, hall, hbel, hsz⟩ := hrel
      have hN' := Lib.hid hN
      have hall' := Lib.hid hall
      have hbel' := Lib.hid hbel
      clear hall hbel hz1
      by_cases hlt : k < n
      · obtain ⟨ad, re, im, rfl, hzk, hcell0⟩ := hA'.out.at_ hlt
        have hcell := (hbel'.out.cell (p := ad.add k) (World.block_lt_of_cell? w _ hcell0)).trans hcell0
        have hfs := fine_at hzk hf'.out
        have hfp' := Lib.hid (ok_at hzk hk'.out)
        cases hp : partsV re im with
        | none =>
          have r1 := Lib.hid (show partsR re im = .returned (.tuple #[.int .i64 0, .int .i64 0, .bool false]) by unfold partsR; rw [hp])
          have hv := Lib.hid (sums_out (zs := zs) fun h => by rw [all_not hzk hp] at h; exact absurd h.2 (by decide))
          clear hN hfs hp hzk hr hcell0
          go_wp2_with (go_at_call 42; refine (refParts_any _ re im hfp'.out).mono ?_; rw [r1.out]; rintro e w9 ⟨rfl, rfl⟩)
          go_ret2
          exact SumR.none_ hv.out hbel'.out
        | some ab =>
          obtain ⟨a, b⟩ := ab
          obtain ⟨_, b1, b2, b3, b4⟩ := fineS_parts hfs hp
          obtain ⟨p, rfl⟩ : ∃ p : Nat, a = (p : Int) := ⟨a.toNat, by omega⟩
          have r1 := Lib.hid (show partsR re im = .returned (.tuple #[.int .i64 p, .int .i64 b, .bool true]) by unfold partsR; rw [hp])
          obtain ⟨x, hx, hxd, x1, x2⟩ := hN.at_ (show p < 64 by omega)
          have hxc := Near.cell hr hx
          have hfr := frozen_of_row wr w.heap.size p _ _ hr
          have hnx := Lib.hid (sumL_take hzk hp)
          have hal := Lib.hid (all_take hzk hall'.out (by rw [hp]; rfl))
          have hN2 := Lib.hid (hN.set hx b3 b4)
          have hset := Lib.hid (arr_set hr (k := p) (x + b))
          rw [hxd] at hnx
          have p0 : (0 : Int) ≤ (p : Int) := by omega
          have p1 : (p : Int) < 64 := by omega
          have f1 : -9223372036854775808 ≤ x + b := by have := hn; omega
          have f2 : x + b ≤ 9223372036854775807 := by omega
          clear hN hfs hp hzk hr hx hxd hcell0 b1 b2 b3 b4 x1 x2
          go_wp2_with (go_at_call 42; refine (refParts_any _ re im hfp'.out).mono ?_; rw [r1.out]; rintro e w9 ⟨rfl, rfl⟩)
          go_roundw
          case rel =>
            refine ⟨k + 1, by omega, by go_num, ?_, ?_, hal.out, hbel'.out.setCell (by exact Nat.le_refl _) _, by simp; omega⟩
            · rw [hnx.out]; exact hset.out
            · rw [hnx.out]; exact hN2.out
          case measure => simp [intOf]; omega
      · obtain rfl : k = n := by omega
        have hzt : zs.take k = zs := List.take_of_length_le (by rw [hl.out]; exact Nat.le_refl _)
        rw [hzt] at hr hN' hall'
        clear hN
        have hsv := Lib.hid (sums_in ⟨h64.out, hall'.out⟩)
        have hN64 := Lib.hid (hN'.out.weak (n := 64) (by have := h64.out; have := hl.out; omega))
        clear hN'
        generalize hL : sumL zs = L at *
        clear hL
        obtain ⟨wa, hwa⟩ : ∃ wa, wa = wr := ⟨_, rfl⟩
        subst hwa
        go_wp2_with fail
        go_loopw [9, 10] (fun v i wr => ∃ k : Nat, k ≤ 64 ∧ i = .int .i64 (k : Int) ∧ OwnC (w.heap.size + 1) wr v (picks L k) ∧ okTo L k ∧ Below w.heap.size w wr ∧ wr.heap[w.heap.size]? = some (.cells (arrI L) 51 (0, 0)) ∧ w.heap.size + 1 ≤ wr.heap.size) (fun _ i _ => 64 - (intOf i).toNat)
        case atStart => exact ⟨0, Nat.zero_le _, rfl, OwnC.nil_ _ _, fun j hj => by omega, hbel'.out, hr, hsz⟩
        case round =>
          obtain ⟨k, hk, rfl, hown, hok, hbel, hr, hsz⟩ := hrel
          have hown' := Lib.hid hown
          have hok' := Lib.hid hok
          have hbel' := Lib.hid hbel
          have hr' := Lib.hid hr
          clear hown hok hbel
          by_cases hlt : k < 64
          · obtain ⟨x, hx, hxd, x1, x2⟩ := hN64.out.at_ hlt
            have hxc := Near.cell hr hx
            have hx' := Lib.hid hx
            have hxd' := Lib.hid hxd
            have j0 : (0 : Int) ≤ (k : Int) := by omega
            have j1 : (k : Int) < 64 := by omega
            clear hx hxd hr
            by_cases hlo : x < -1048575
            · have hv := Lib.hid (hsv.out.trans (sums_no hlt (by rw [hxd'.out]; exact decide_eq_false (by omega))))
              clear x1 x2
              go_wp2_with fail
              go_ret2
              exact SumR.none_ hv.out hbel'.out
            · by_cases hhi : 1048575 < x
              · have hv := Lib.hid (hsv.out.trans (sums_no hlt (by rw [hxd'.out]; exact decide_eq_false (by omega))))
                clear x1 x2
                go_wp2_with fail
                go_ret2
                exact SumR.none_ hv.out hbel'.out
              · have hin := Lib.hid (show inB (L.getD k 0) = true by rw [hxd'.out]; exact decide_eq_true (by omega))
                clear x1 x2
                by_cases h0 : x = 0
                · have hpk := Lib.hid (picks_0 hxd'.out h0)
                  have he0 : (x != 0) = false := by rw [h0]; rfl
                  clear h0
                  go_wp2_with fail
                  go_roundw
                  case rel => exact ⟨k + 1, by omega, by go_num, by rw [hpk.out]; exact hown'.out, hok'.out.next hin.out, hbel'.out, hr'.out, hsz⟩
                  case measure => simp [intOf]; omega
                · have he0 : (x != 0) = true := bne_iff_ne.2 h0
                  have hp1 := Lib.hid (picks_1 hxd'.out h0)
                  have hlen' := Lib.hid (picks_len L k)
                  clear h0
                  go_wp2_with (at_builtin; refine wpList_append_itsC rfl (.tmp 56) (.tmp 64) rfl (w.heap.size + 1) _ (picks L k) [(fOf x, fOf (k : Int))] rfl (World.ownsRow.alloc hown'.out _) _ 1 1 rfl (ItsC.of_block (heap_alloc_new _ _) rfl rfl) (by intro e; cases e) (by have := hlen'.out; simp; omega) (by simp; omega) ?_; intro v2 w2 ho2 hg2 hat2)
                  have hbw : Below (w.heap.size + 1) wr w2 := Below.grown ((Below.refl _ _).alloc hsz (.cells #[.complex .f64 (fOf x) (fOf (k : Int))] 33)) hg2 (by simp; omega) (fun j hj => (World.ownsRow.lt (World.ownsRow.alloc hown'.out (.cells #[.complex .f64 (fOf x) (fOf (k : Int))] 33)) j hj).1)
                  exact ⟨⟨k + 1, by omega, by go_num, by rw [hp1.out]; exact ho2, hok'.out.next hin.out, hbel'.out.trans (hbw.mono (by omega)), heap_kept hbw (by omega) hr'.out, Nat.le_trans hsz hbw.size⟩, by simp [intOf]; omega⟩
          · obtain rfl : k = 64 := by omega
            have hv := Lib.hid (hsv.out.trans (sums_ok hok'.out))
            clear hr
            go_wp2_with fail
            go_ret2
            exact ⟨_, by rw [hv.out]; rfl, by rw [hv.out]; exact hown'.out.mono (by omega), hbel'.out⟩
end Go.Proofs.Ytflllhodeakpgaa
