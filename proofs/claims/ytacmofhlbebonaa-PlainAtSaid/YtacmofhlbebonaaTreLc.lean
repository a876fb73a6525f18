/- The law of sizes. -/
import Derived.Deep.RegionHeld3
import Derived.Test.YtacmofhlbebonaaTreN
import Derived.Test.YtacmofhlbebonaaTreR
namespace Go.Proofs.Ytacmofhlbebonaa
open Go.RowKit
set_option maxRecDepth 20000

theorem OwnId.at_ {base : Nat} {w : World} {A : Option Addr} {n c q : Nat} {is : List Nat} (h : OwnId base w (.slice A n c) is) (hl : is.length = n) (hq : q < n) :
    ∃ (g i : Nat), A = some ⟨g, 0, none⟩ ∧ base ≤ g ∧ g < w.heap.size ∧ is[q]? = some i ∧ w.cell? ⟨g, q, none⟩ = some (.int .u64 (i : Int)) := by
  obtain ⟨A', c', e, -, -, -, hc⟩ := own_form h
  cases e
  obtain ⟨g, rfl, hb, hlt, hcell⟩ := hc (by omega)
  have hg : is[q]? = some is[q] := List.getElem?_eq_getElem (by omega)
  exact ⟨g, _, rfl, hb, hlt, hg, hcell q _ (by rw [List.getElem?_map, hg]; rfl)⟩
set_option maxHeartbeats 8000000 in
theorem lawSizes_any (w : World) (t : Nd) (aA kA : Option Addr) (an ac kn kc : Nat) (h : NodeV (Old w) w aA an ac kA kn kc t) :
    Calls Try.prog 5 #[.agg (val6 t aA an ac kA kn kc)] w fun e w' => e = .returned (.bool true) ∧ Below w.heap.size w w' := by
  have h0 := Lib.hid (h.below ((Below.refl _ w).alloc (Nat.le_refl _) (.cells (val6 t aA an ac kA kn kc) 26)))
  clear h
  have hbx := Lib.hid (heap_alloc_new w (.cells (val6 t aA an ac kA kn kc) 26))
  have hb0 := Lib.hid (show Below w.heap.size w (w.alloc (.cells (val6 t aA an ac kA kn kc) 26)) from (Below.refl _ w).alloc (Nat.le_refl _) _)
  have hsz := Lib.hid (show w.heap.size < (w.alloc (.cells (val6 t aA an ac kA kn kc) 26)).heap.size by simp)
  unfold val6
  go_enter Try.func5, Try.ntmps5
  go_wp2_with fail
  obtain ⟨W0, hW0⟩ : ∃ W0, W0 = w.alloc (.cells (val6 t aA an ac kA kn kc) 26) := ⟨_, rfl⟩
  rw [← hW0] at h0 hbx hb0 hsz
  unfold val6 at hW0
  rw [← hW0]
  clear hW0
  refine (weight_any t W0 aA kA an ac kn kc 1000 h0.out (by decide)).mono ?_
  rintro e w1 ⟨x, rfl, hx3, hx, hb1⟩
  have hx' := Lib.hid hx
  have hB1 := Lib.hid ((hb1.block _ hsz.out).trans hbx.out)
  have hN1 := Lib.hid (h0.out.below hb1)
  have hbl1 := Lib.hid (hb0.out.trans (hb1.mono hb0.out.size))
  have hsz1 := Lib.hid (Nat.lt_of_lt_of_le hsz.out hb1.size)
  clear hx hb1 h0 hbx hb0 hsz
  by_cases g1 : x ≤ 1000
  · have g1I : ¬ (1000 : Int) < (x : Int) := by omega
    have hwt := Lib.hid (show weighV t ≤ 1000000 by have := hx'.out g1; omega)
    have hcnt := Lib.hid (show countV t ≤ 100000 by have := count_le t; have := hx'.out g1; omega)
    have hlng := Lib.hid (show longV t ≤ 1000000000 by have := long_le t; have := hx'.out g1; omega)
    have hil := Lib.hid (ids_count t)
    obtain ⟨cn, hcn⟩ : ∃ cn, cn = countV t := ⟨_, rfl⟩
    obtain ⟨dp, hdp⟩ : ∃ dp, dp = depthV t := ⟨_, rfl⟩
    obtain ⟨lg, hlg⟩ : ∃ lg, lg = longV t := ⟨_, rfl⟩
    have hc1 : Hid (∀ W, Below w1.heap.size w1 W → Calls Try.prog 20 #[.agg (val6 t aA an ac kA kn kc)] W fun e w' => (∃ A c, e = .returned (.slice A cn c) ∧ OwnId W.heap.size w' (.slice A cn c) (idsV t)) ∧ Below W.heap.size W w') := fun W hb => (ids_any W t aA kA an ac kn kc (hN1.out.below hb) hcnt.out).mono (by
      rintro e w' ⟨v, rfl, ho, hb⟩
      obtain ⟨A, c, rfl, -⟩ := ho.len
      rw [hcn, ← hil.out]
      exact ⟨⟨A, c, rfl, ho⟩, hb⟩)
    have hc2 : Hid (∀ W, Below w1.heap.size w1 W → Calls Try.prog 21 #[.agg (val6 t aA an ac kA kn kc)] W fun e w' => (∃ A c, e = .returned (.slice A cn c) ∧ OwnId W.heap.size w' (.slice A cn c) (idsV t)) ∧ Below W.heap.size W w') := fun W hb => (rids_any t W aA kA an ac kn kc (hN1.out.below hb) hwt.out).mono (by
      rintro e w' ⟨v, rfl, ho, hb⟩
      obtain ⟨A, c, rfl, -⟩ := ho.len
      rw [hcn, ← hil.out]
      exact ⟨⟨A, c, rfl, ho⟩, hb⟩)
    have hc3 : Hid (∀ W, Below w1.heap.size w1 W → Calls Try.prog 22 #[.agg (val6 t aA an ac kA kn kc)] W fun e w' => e = .returned (.int .i64 (cn : Int)) ∧ Below W.heap.size W w') := fun W hb => by rw [hcn]; exact count_any W t aA kA an ac kn kc (hN1.out.below hb) hcnt.out
    have hc4 : Hid (∀ W, Below w1.heap.size w1 W → Calls Try.prog 23 #[.agg (val6 t aA an ac kA kn kc)] W fun e w' => e = .returned (.int .i64 (cn : Int)) ∧ Below W.heap.size W w') := fun W hb => by rw [hcn]; exact rcount_any t W aA kA an ac kn kc (hN1.out.below hb) hwt.out
    have hc5 : Hid (∀ W, Below w1.heap.size w1 W → Calls Try.prog 24 #[.agg (val6 t aA an ac kA kn kc)] W fun e w' => e = .returned (.int .i64 (dp : Int)) ∧ Below W.heap.size W w') := fun W hb => by rw [hdp]; exact depth_any W t aA kA an ac kn kc (hN1.out.below hb) hcnt.out
    have hc6 : Hid (∀ W, Below w1.heap.size w1 W → Calls Try.prog 25 #[.agg (val6 t aA an ac kA kn kc)] W fun e w' => e = .returned (.int .i64 (dp : Int)) ∧ Below W.heap.size W w') := fun W hb => by rw [hdp]; exact rdepth_any t W aA kA an ac kn kc (hN1.out.below hb) hwt.out
    have hc7 : Hid (∀ W, Below w1.heap.size w1 W → Calls Try.prog 26 #[.agg (val6 t aA an ac kA kn kc)] W fun e w' => e = .returned (.int .i64 (lg : Int)) ∧ Below W.heap.size W w') := fun W hb => by rw [hlg]; exact long_all W t aA kA an ac kn kc (hN1.out.below hb) hcnt.out hlng.out
    have hc8 : Hid (∀ W, Below w1.heap.size w1 W → Calls Try.prog 27 #[.agg (val6 t aA an ac kA kn kc)] W fun e w' => e = .returned (.int .i64 (lg : Int)) ∧ Below W.heap.size W w') := fun W hb => by rw [hlg]; exact rlong_any t W aA kA an ac kn kc (hN1.out.below hb) hwt.out
    unfold val6 at hc1 hc2 hc3 hc4 hc5 hc6 hc7 hc8
    have hilc := Lib.hid (show (idsV t).length = cn by rw [hil.out, hcn])
    have hcb : cn ≤ 1000000 := by rw [hcn]; have := hcnt.out; omega
    generalize idsV t = is at hc1 hc2 hilc
    clear hcn hdp hlg hil
    have hS : Hid (∀ w' : World, Below w1.heap.size w1 w' → Below w1.heap.size w1 w' ∧ w'.cell? ⟨w.heap.size, 0, none⟩ = some (.int .u64 (t.id : Int)) ∧ w'.cell? ⟨w.heap.size, 1, none⟩ = some (.bool t.leaf) ∧ w'.cell? ⟨w.heap.size, 2, none⟩ = some (.string ⟨t.label.toArray⟩) ∧ w'.cell? ⟨w.heap.size, 3, none⟩ = some (.slice aA an ac) ∧ w'.cell? ⟨w.heap.size, 4, none⟩ = some (.string ⟨t.text.toArray⟩) ∧ w'.cell? ⟨w.heap.size, 5, none⟩ = some (.slice kA kn kc)) := fun w' hb => by
      obtain ⟨c0, c1, c2, c3, c4, c5, -⟩ := six_cells ((hb.block _ hsz1.out).trans hB1.out)
      exact ⟨hb, c0, c1, c2, c3, c4, c5⟩
    have hd := hS.out w1.drew (Below.refl w1.heap.size w1).drew
    obtain ⟨c0, c1, c2, c3, c4, c5, -⟩ := six_cells hB1.out
    go_wp2_with fail
    clear c0 c1 c2 c3 c4 c5
    go_region_held3 (fun w' => Below w1.heap.size w1 w' ∧ w'.cell? ⟨w.heap.size, 0, none⟩ = some (.int .u64 (t.id : Int)) ∧ w'.cell? ⟨w.heap.size, 1, none⟩ = some (.bool t.leaf) ∧ w'.cell? ⟨w.heap.size, 2, none⟩ = some (.string ⟨t.label.toArray⟩) ∧ w'.cell? ⟨w.heap.size, 3, none⟩ = some (.slice aA an ac) ∧ w'.cell? ⟨w.heap.size, 4, none⟩ = some (.string ⟨t.text.toArray⟩) ∧ w'.cell? ⟨w.heap.size, 5, none⟩ = some (.slice kA kn kc))
      (first | exact hd3 | exact hd2 | exact hd)
      (first
          | (go_at_call 21; refine (hc2.out _ hd2.1).mono ?_; rintro e w11 ⟨⟨A2, p2, rfl, ho2⟩, hb11⟩; have hd3 := hS.out _ (hd2.1.trans (hb11.mono hd2.1.size)); have ho2' := Lib.hid ho2; clear ho2)
          | (go_at_call 20; refine (hc1.out _ hd.1).mono ?_; rintro e w10 ⟨⟨A1, p1, rfl, ho1⟩, hb10⟩; have hd2 := hS.out _ (hd.1.trans (hb10.mono hd.1.size)); have ho1' := Lib.hid ho1; clear ho1))
    have hr1 := Lib.hid (show OwnId w1.drew.heap.size w11 (.slice A1 cn p1) is from own_kept ho1'.out fun k hk => hb11.block k (World.ownsRow.lt ho1'.out k hk).2)
    have hbl11 := Lib.hid hd3.1
    clear hd hd2 hd3 hb10 hb11 ho1'
    go_wp2_with fail
    go_loopw [5] (fun k wr => ∃ q : Nat, q ≤ cn ∧ k = .int .i64 (q : Int) ∧ Below w11.heap.size w11 wr) (fun k _ => cn - (intOf k).toNat)
    case atStart => exact ⟨0, Nat.zero_le _, rfl, Below.refl _ _⟩
    case round =>
      obtain ⟨q, hq, rfl, hbel⟩ := hrel
      have hbel' := Lib.hid hbel
      clear hbel
      by_cases m1 : q < cn
      · have m1I : (q : Int) < (cn : Int) := by omega
        obtain ⟨ga, i, rfl, -, ga1, hi1, ca⟩ := hr1.out.at_ hilc.out m1
        obtain ⟨gb, j, rfl, -, gb1, hi2, cb⟩ := ho2'.out.at_ hilc.out m1
        obtain rfl : i = j := by rw [hi1] at hi2; injection hi2
        have ca' := (hbel'.out.cell (p := ⟨ga, q, none⟩) ga1).trans ca
        have cb' := (hbel'.out.cell (p := ⟨gb, q, none⟩) gb1).trans cb
        clear ca cb hi1 hi2
        go_wp2_with fail
        go_quiet (fail)
        go_wp2_with fail
        go_roundw
        case rel => exact ⟨q + 1, by omega, by go_num, draws hbel'.out _⟩
        case measure => simp [intOf]; omega
      · have m1I : ¬ (q : Int) < (cn : Int) := by omega
        have hbw := Lib.hid (hbl11.out.trans (hbel'.out.mono hbl11.out.size))
        have hd := hS.out wr.drew hbw.out.drew
        go_wp2_with fail
        go_region_held3 (fun w' => Below w1.heap.size w1 w' ∧ w'.cell? ⟨w.heap.size, 0, none⟩ = some (.int .u64 (t.id : Int)) ∧ w'.cell? ⟨w.heap.size, 1, none⟩ = some (.bool t.leaf) ∧ w'.cell? ⟨w.heap.size, 2, none⟩ = some (.string ⟨t.label.toArray⟩) ∧ w'.cell? ⟨w.heap.size, 3, none⟩ = some (.slice aA an ac) ∧ w'.cell? ⟨w.heap.size, 4, none⟩ = some (.string ⟨t.text.toArray⟩) ∧ w'.cell? ⟨w.heap.size, 5, none⟩ = some (.slice kA kn kc))
          (first | exact hd9 | exact hd8 | exact hd7 | exact hd6 | exact hd5 | exact hd4 | exact hd3 | exact hd2 | exact hd)
          (first
              | (go_at_call 11; refine (works_any _).mono ?_; rintro e w27 ⟨rfl, hb27⟩; have hd9 := hS.out _ (hd8.1.trans (hb27.mono hd8.1.size)))
              | (go_at_call 27; refine (hc8.out _ hd7.1).mono ?_; rintro e w26 ⟨rfl, hb26⟩; have hd8 := hS.out _ (hd7.1.trans (hb26.mono hd7.1.size)))
              | (go_at_call 26; refine (hc7.out _ hd6.1).mono ?_; rintro e w25 ⟨rfl, hb25⟩; have hd7 := hS.out _ (hd6.1.trans (hb25.mono hd6.1.size)))
              | (go_at_call 25; refine (hc6.out _ hd5.1).mono ?_; rintro e w24 ⟨rfl, hb24⟩; have hd6 := hS.out _ (hd5.1.trans (hb24.mono hd5.1.size)))
              | (go_at_call 24; refine (hc5.out _ hd4.1).mono ?_; rintro e w23 ⟨rfl, hb23⟩; have hd5 := hS.out _ (hd4.1.trans (hb23.mono hd4.1.size)))
              | (go_at_call 22; refine (hc3.out _ hd3.1).mono ?_; rintro e w22 ⟨rfl, hb22⟩; have hd4 := hS.out _ (hd3.1.trans (hb22.mono hd3.1.size)))
              | (go_at_call 23; refine (hc4.out _ hd2.1).mono ?_; rintro e w21 ⟨rfl, hb21⟩; have hd3 := hS.out _ (hd2.1.trans (hb21.mono hd2.1.size)))
              | (go_at_call 22; refine (hc3.out _ hd.1).mono ?_; rintro e w20 ⟨rfl, hb20⟩; have hd2 := hS.out _ (hd.1.trans (hb20.mono hd.1.size))))
        go_wp2_with fail
        go_ret
        exact ⟨rfl, hbl1.out.trans (hd9.1.mono hbl1.out.size)⟩
  · have g1I : (1000 : Int) < (x : Int) := by omega
    go_wp2_with fail
    refine (works_any _).mono ?_
    rintro e w2 ⟨rfl, hb2⟩
    have hbl2 := Lib.hid (hbl1.out.trans (hb2.mono hbl1.out.size))
    clear hb2
    go_wp2_with fail
    go_ret
    exact ⟨rfl, hbl2.out⟩
end Go.Proofs.Ytacmofhlbebonaa
