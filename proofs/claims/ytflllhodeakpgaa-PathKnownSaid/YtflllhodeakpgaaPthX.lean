/- The law PathKnown. -/
import Derived.Test.YtflllhodeakpgaaPthW
import Derived.Deep.RegionHeld3
import Derived.Test.YtflllhodeakpgaaPthO
namespace Go.Proofs.Ytflllhodeakpgaa
open Go.RowKit
set_option maxRecDepth 100000

set_option maxHeartbeats 3200000 in
theorem knownLaw_any (w : World) : Calls Try.prog 8 #[] w (Held w) := by
  go_enter Try.func8, Try.ntmps8
  go_wp2_with fail
  rename_i K0 hK0
  refine wp_region_any rfl ?_
  refine lits_any _ _ w ?H1 ?Hsz ?H15 ?H16 ?HQ 15 _ _ (fun _ => undef) _ ?Hs ?H150 ?H160 ?Hm ?Hl ?Hb ?Hf
  case Hsz => rfl
  case Hs => rfl
  case H150 => rfl
  case H160 => rfl
  case Hm => decide
  case Hl => intro i hi h; exfalso; simp [Array.getD] at h
  case Hb => exact Below.drew (Below.refl _ _)
  case Hf => decide
  case H1 =>
    intro i hi
    obtain rfl | rfl | rfl | rfl | rfl | rfl | rfl | rfl | rfl | rfl | rfl | rfl | rfl | rfl | rfl : i = 0 ∨ i = 1 ∨ i = 2 ∨ i = 3 ∨ i = 4 ∨ i = 5 ∨ i = 6 ∨ i = 7 ∨ i = 8 ∨ i = 9 ∨ i = 10 ∨ i = 11 ∨ i = 12 ∨ i = 13 ∨ i = 14 := by omega
    · exact ⟨_, rfl, rfl, rfl, rfl, .inr ⟨_, rfl, by decide, fun a => rfl⟩⟩
    · exact ⟨_, rfl, rfl, rfl, rfl, .inr ⟨_, rfl, by decide, fun a => rfl⟩⟩
    · exact ⟨_, rfl, rfl, rfl, rfl, .inr ⟨_, rfl, by decide, fun a => rfl⟩⟩
    · exact ⟨_, rfl, rfl, rfl, rfl, .inr ⟨_, rfl, by decide, fun a => rfl⟩⟩
    · exact ⟨_, rfl, rfl, rfl, rfl, .inr ⟨_, rfl, by decide, fun a => rfl⟩⟩
    · exact ⟨_, rfl, rfl, rfl, rfl, .inr ⟨_, rfl, by decide, fun a => rfl⟩⟩
    · exact ⟨_, rfl, rfl, rfl, rfl, .inr ⟨_, rfl, by decide, fun a => rfl⟩⟩
    · exact ⟨_, rfl, rfl, rfl, rfl, .inr ⟨_, rfl, by decide, fun a => rfl⟩⟩
    · exact ⟨_, rfl, rfl, rfl, rfl, .inr ⟨_, rfl, by decide, fun a => rfl⟩⟩
    · exact ⟨_, rfl, rfl, rfl, rfl, .inr ⟨_, rfl, by decide, fun a => rfl⟩⟩
    · exact ⟨_, rfl, rfl, rfl, rfl, .inr ⟨_, rfl, by decide, fun a => rfl⟩⟩
    · exact ⟨_, rfl, rfl, rfl, rfl, .inr ⟨_, rfl, by decide, fun a => rfl⟩⟩
    · exact ⟨_, rfl, rfl, rfl, rfl, .inr ⟨_, rfl, by decide, fun a => rfl⟩⟩
    · exact ⟨_, rfl, rfl, rfl, rfl, .inl ⟨rfl, .inl rfl⟩⟩
    · exact ⟨_, rfl, rfl, rfl, rfl, .inl ⟨rfl, .inr rfl⟩⟩
  case H15 =>
    intro listed h
    unfold Region.ready at h
    rw [List.mem_filter] at h
    have h2 := h.2
    simp [Region.binds] at h2
    intro j hj
    rw [Array.getD_eq_getD_getElem?]
    obtain rfl | rfl | rfl | rfl | rfl | rfl | rfl | rfl | rfl | rfl | rfl | rfl | rfl | rfl | rfl : j = 0 ∨ j = 1 ∨ j = 2 ∨ j = 3 ∨ j = 4 ∨ j = 5 ∨ j = 6 ∨ j = 7 ∨ j = 8 ∨ j = 9 ∨ j = 10 ∨ j = 11 ∨ j = 12 ∨ j = 13 ∨ j = 14 := by omega
    all_goals simp [h2]
  case H16 =>
    intro listed h
    unfold Region.ready at h
    rw [List.mem_filter] at h
    have h2 := h.2
    simp [Region.binds] at h2
    rw [Array.getD_eq_getD_getElem?]
    exact h2.2.1
  case HQ =>
    intro f wx hl hb fuel
    unfold frV
    refine wpAny_ready (rs := [15]) (by kernel_rfl) (by simp) ?_
    refine AllReady.cons rfl (fun K hK => ?_) AllReady.nil
    refine Eq.mpr (if_pos (by rfl)) ?_
    refine wp_rows_all _ rfl f rfl (fun v hv => ?_) ?_
    · rcases List.mem_cons.1 hv with rfl | hv
      · rfl
      · obtain ⟨j, hj, rfl⟩ := List.mem_map.1 hv
        obtain ⟨g, e, _⟩ := hl j (List.mem_range.1 hj)
        rw [e]
        rfl
    refine hK _ _ ?_
    clear hK K
    simp only [Act.put, List.setIfInBounds_toArray, List.set_cons_zero, List.set_cons_succ]
    refine wpAny_ready (rs := [16]) (by kernel_rfl) (by simp) ?_
    refine AllReady.cons rfl (fun K hK => ?_) AllReady.nil
    refine Eq.mpr (if_pos (by rfl)) ?_
    go_simp
    refine hK _ _ ?_
    clear hK K
    try simp only [Act.put, List.setIfInBounds_toArray, List.set_cons_zero, List.set_cons_succ]
    refine wpAny_done (by kernel_rfl) ?_ _
    refine hK0 _ _ ?_
    clear hK0 K0
    have hR := Lib.hid (rows_made hl)
    have hb1 := Lib.hid (hb.alloc hb.size (.cells (rowsC f).toArray 22))
    clear hl hb fuel
    obtain ⟨g, hg⟩ : ∃ g, wx.heap.size = g := ⟨_, rfl⟩
    rw [hg] at hR ⊢
    generalize wx.alloc (.cells (rowsC f).toArray 22) = w1 at *
    clear hg wx
    generalize f 0 = f0
    have hinf := run_inf
    go_wp2_with (first
      | (refine wpList_nan rfl (.tmp 25) (.tmp 26) rfl rfl rfl ?_; intro v w2 hv hb hz; have hR := Lib.hid (hR.out.below (hb.mono (Nat.le_refl _))); have hb1 := Lib.hid (hb1.out.trans (hb.mono hb1.out.size)); have hv := Lib.hid hv; clear hb hz)
      | (refine wpList_cpls rfl 23 _ (zsK v) rfl rfl (by omega) (by omega) rfl ?_; intro w3 hZ hb; have hZ := Lib.hid hZ; have hR := Lib.hid (hR.out.below hb); have hb1 := Lib.hid (hb1.out.trans (hb.mono hb1.out.size)); clear hb))
    obtain ⟨q, hq⟩ : ∃ q, w2.heap.size = q := ⟨_, rfl⟩
    rw [hq] at hZ ⊢
    clear hq hinf
    go_loopw [5] (fun i wr => ∃ k : Nat, k ≤ 16 ∧ i = .int .i64 (k : Int) ∧ Below w3.heap.size w3 wr) (fun i _ => 16 - (intOf i).toNat)
    case atStart => exact ⟨0, by omega, rfl, Below.refl _ _⟩
    case round =>
      obtain ⟨i, hi, rfl, hbel⟩ := hrel
      obtain ⟨wi, hwi⟩ : ∃ wi, wi = wr := ⟨_, rfl⟩
      subst hwi
      have hbel' := Lib.hid hbel
      by_cases hlt : i < 16
      · obtain ⟨A, n, xs, hc3, hI, hn0, hn65⟩ := hR.out i hlt
        have hc := (hbel.cell (p := ⟨g, i, none⟩) (World.block_lt_of_cell? w3 _ hc3)).trans hc3
        have hI' := Lib.hid hI
        have hn0' := Lib.hid hn0
        have hnm' := Lib.hid (show n ≤ maxLen by unfold maxLen; omega)
        have j0 : (0 : Int) ≤ (i : Int) := by omega
        have j1 : (i : Int) < 16 := by omega
        clear hI hn0 hn65 hc3 hbel
        go_wp2_with (first
          | (go_at_call 3; refine (mayLaw_any _ A n n xs (hI'.out.below hbel'.out) hnm'.out).mono ?_; rintro e wa ⟨rfl, hb⟩; have hbel' := Lib.hid (hbel'.out.trans (hb.mono hbel'.out.size)); clear hb)
          | (go_at_call 6; refine (parentLaw_any _ A n n (i : Int) xs (hI'.out.below hbel'.out) hn0'.out (Nat.le_refl _) hnm'.out).mono ?_; rintro e wb ⟨rfl, hb⟩; have hbel' := Lib.hid (hbel'.out.trans (hb.mono hbel'.out.size)); clear hb))
        go_loopw [7] (fun i wr => ∃ k : Nat, k ≤ 16 ∧ i = .int .i64 (k : Int) ∧ Below w3.heap.size w3 wr) (fun i _ => 16 - (intOf i).toNat)
        case atStart => exact ⟨0, by omega, rfl, hbel'.out⟩
        case round =>
          obtain ⟨k, hk, rfl, hbel⟩ := hrel
          by_cases hlk : k < 16
          · obtain ⟨B, m, ys, hcB, hIB, hm0, hm65⟩ := hR.out k hlk
            obtain ⟨C, l, zs, hcC, hIC, hl0, hl65⟩ := hR.out ((i + k) % 16) (by omega)
            have k0 : (0 : Int) ≤ (k : Int) := by omega
            have k1 : (k : Int) < 16 := by omega
            have k2 : IntKind.i64.wrap ((i : Int) + (k : Int)) = (i : Int) + (k : Int) := IntWalk.i64_in _ (by omega)
            have k3 : ((i : Int) + (k : Int)).tmod 16 = ((i : Int) + (k : Int)) % 16 := Int.tmod_eq_emod_of_nonneg (by omega)
            have k4 : (0 : Int) ≤ ((i : Int) + (k : Int)) % 16 := by omega
            have k5 : ((i : Int) + (k : Int)) % 16 < 16 := by omega
            have k6 : (((i : Int) + (k : Int)) % 16).toNat = (i + k) % 16 := by omega
            have hIB' := Lib.hid hIB
            have hIC' := Lib.hid hIC
            have hm0' := Lib.hid (show m ≤ maxLen by unfold maxLen; omega)
            have hl0' := Lib.hid (show l ≤ maxLen by unfold maxLen; omega)
            have hS : Hid (∀ w' : World, Below w3.heap.size w3 w' → Below w3.heap.size w3 w' ∧ w'.cell? ⟨g, k, none⟩ = some (.slice B m m) ∧ w'.cell? ⟨g, (i + k) % 16, none⟩ = some (.slice C l l)) :=
              fun w' hb => ⟨hb, (hb.cell (p := ⟨g, k, none⟩) (World.block_lt_of_cell? w3 _ hcB)).trans hcB, (hb.cell (p := ⟨g, (i + k) % 16, none⟩) (World.block_lt_of_cell? w3 _ hcC)).trans hcC⟩
            have hd := hS.out wr.drew hbel.drew
            clear hIB hIC hm0 hl0 hm65 hl65 hcB hcC hc
            go_wp2_with fail
            go_region_held3 (fun w' => Below w3.heap.size w3 w' ∧ w'.cell? ⟨g, k, none⟩ = some (.slice B m m) ∧ w'.cell? ⟨g, (i + k) % 16, none⟩ = some (.slice C l l))
              (first | exact hd | exact hd2 | exact hd3 | exact hd4)
              (first
                | (go_at_call 4; refine (twoLaw_any _ A B n n m m xs ys (hI'.out.below hd.1) (hIB'.out.below hd.1) hnm'.out hm0'.out).mono ?_; rintro e w4 ⟨rfl, hb4⟩; have hd2 := hS.out _ (hd.1.trans (hb4.mono hd.1.size)))
                | (go_at_call 7; refine (betweenLaw_any _ A B n n m m xs ys (hI'.out.below hd2.1) (hIB'.out.below hd2.1) hnm'.out hm0'.out (Nat.le_refl _) hnm'.out (Nat.le_refl _) hm0'.out).mono ?_; rintro e w5 ⟨rfl, hb5⟩; have hd3 := hS.out _ (hd2.1.trans (hb5.mono hd2.1.size)))
                | (go_at_call 5; refine (orderLaw_any _ A B C n n m m l l xs ys zs (hI'.out.below hd3.1) (hIB'.out.below hd3.1) (hIC'.out.below hd3.1) hnm'.out hm0'.out hl0'.out).mono ?_; rintro e w6 ⟨rfl, hb6⟩; have hd4 := hS.out _ (hd3.1.trans (hb6.mono hd3.1.size))))
            go_wp2_with fail
            go_roundw
            case rel => exact ⟨k + 1, by omega, by go_num, hd4.1⟩
            case measure => simp [intOf]; omega
          · clear hk
            obtain ⟨wj, hwj⟩ : ∃ wj, wj = wr := ⟨_, rfl⟩
            subst hwj
            go_wp2_with fail
            go_loopw [8] (fun i wr => ∃ k : Nat, k ≤ 23 ∧ i = .int .i64 (k : Int) ∧ Below w3.heap.size w3 wr) (fun i _ => 23 - (intOf i).toNat)
            case atStart => exact ⟨0, by omega, rfl, hbel⟩
            case round =>
              obtain ⟨k, hk, rfl, hbel⟩ := hrel
              by_cases hlk : k < 23
              · obtain ⟨re, im, hz1, hc1⟩ := itsC_at hZ.out hlk
                obtain ⟨re2, im2, hz2, hc2⟩ := itsC_at hZ.out (show (i + k) % 23 < 23 by omega)
                obtain ⟨rei, imi, hz3, hc3⟩ := itsC_at hZ.out (show i < 23 by omega)
                have a1 := Lib.hid (ask_all hv.out (List.mem_of_getElem? hz1))
                have a2 := Lib.hid (ask_all hv.out (List.mem_of_getElem? hz2))
                have a3 := Lib.hid (pair_all hv.out (List.mem_of_getElem? hz1) (List.mem_of_getElem? hz2))
                have a4 := Lib.hid (four_fine hv.out (List.mem_of_getElem? hz1) (List.mem_of_getElem? hz3))
                have k0 : (0 : Int) ≤ (k : Int) := by omega
                have k1 : (k : Int) < 23 := by omega
                have k2 : IntKind.i64.wrap ((i : Int) + (k : Int)) = (i : Int) + (k : Int) := IntWalk.i64_in _ (by omega)
                have k3 : ((i : Int) + (k : Int)).tmod 23 = ((i : Int) + (k : Int)) % 23 := Int.tmod_eq_emod_of_nonneg (by omega)
                have k4 : (0 : Int) ≤ ((i : Int) + (k : Int)) % 23 := by omega
                have k5 : ((i : Int) + (k : Int)) % 23 < 23 := by omega
                have k6 : (((i : Int) + (k : Int)) % 23).toNat = (i + k) % 23 := by omega
                have k7 : (i : Int) < 23 := by omega
                have hS : Hid (∀ w' : World, Below w3.heap.size w3 w' → Below w3.heap.size w3 w' ∧ w'.cell? ⟨q, k, none⟩ = some (.complex .f64 re im) ∧ w'.cell? ⟨q, (i + k) % 23, none⟩ = some (.complex .f64 re2 im2) ∧ w'.cell? ⟨q, i, none⟩ = some (.complex .f64 rei imi)) :=
                  fun w' hb => ⟨hb, (hb.cell (p := ⟨q, k, none⟩) (World.block_lt_of_cell? w3 _ hc1)).trans hc1, (hb.cell (p := ⟨q, (i + k) % 23, none⟩) (World.block_lt_of_cell? w3 _ hc2)).trans hc2, (hb.cell (p := ⟨q, i, none⟩) (World.block_lt_of_cell? w3 _ hc3)).trans hc3⟩
                have hd := hS.out wr.drew hbel.drew
                clear hz1 hz2 hz3 hc1 hc2 hc3
                go_wp2_with fail
                go_region_held3 (fun w' => Below w3.heap.size w3 w' ∧ w'.cell? ⟨q, k, none⟩ = some (.complex .f64 re im) ∧ w'.cell? ⟨q, (i + k) % 23, none⟩ = some (.complex .f64 re2 im2) ∧ w'.cell? ⟨q, i, none⟩ = some (.complex .f64 rei imi))
                  (first | exact hd | exact hd2 | exact hd3 | exact hd4 | exact hS.out _ (hd3.1.alloc hd3.1.size _))
                  (first
                    | (go_at_call 27; refine (shiftLaw_any _ A n n xs (hI'.out.below hd.1) hn0'.out re im (good_fine a1.out.1).1 a1.out.2).mono ?_; rintro e w4 ⟨rfl, hb4⟩; have hd2 := hS.out _ (hd.1.trans (hb4.mono hd.1.size)))
                    | (go_at_call 28; refine (backLaw_any _ A n n xs (hI'.out.below hd2.1) hn0'.out (Nat.le_refl _) hnm'.out re im re2 im2 a1.out.1 (good_fine a2.out.1).1 a3.out).mono ?_; rintro e w5 ⟨rfl, hb5⟩; have hd3 := hS.out _ (hd2.1.trans (hb5.mono hd2.1.size)))
                    | (go_at_call 29; refine (sumLaw_any _ _ 4 4 [(re, im), (rei, imi), (4607182418800017408, 0), (13830554455654793216, 4613937818241073152)] (by exact ItsC.of_block (heap_alloc_new _ _) rfl rfl) a4.out.1 a4.out.2).mono ?_; rintro e w6 ⟨rfl, hb6⟩; have hd4 := hS.out _ ((hd3.1.alloc hd3.1.size _).trans (hb6.mono (hd3.1.alloc hd3.1.size _).size))))
                go_wp2_with fail
                go_roundw
                case rel => exact ⟨k + 1, by omega, by go_num, hd4.1⟩
                case measure => simp [intOf]; omega
              · clear hk
                go_wp2_with fail
                go_roundw
                case rel => exact ⟨i + 1, by omega, by go_num, hbel⟩
                case measure => simp [intOf]; omega
      · clear hi
        have hx1 : Hid (fineL (List.replicate 64 (0, 0)) = true ∧ okL (List.replicate 64 (0, 0)) = true) := ⟨by kernel_rfl, by kernel_rfl⟩
        have hx2 : Hid (fineL (List.replicate 65 (0, 0)) = true ∧ okL (List.replicate 65 (0, 0)) = true) := ⟨by kernel_rfl, by kernel_rfl⟩
        have hx3 : Hid (fineL [] = true ∧ okL [] = true) := ⟨rfl, rfl⟩
        have hx4 : Hid (fineL [(4697254402757492736, 0), (4607182418800017408, 0)] = true ∧ okL [(4697254402757492736, 0), (4607182418800017408, 0)] = true) := ⟨by kernel_rfl, by kernel_rfl⟩
        have hx5 : Hid (fineL [(4697254402757492736, 0), (4607182418800017408, 0), (13830554455654793216, 0)] = true ∧ okL [(4697254402757492736, 0), (4607182418800017408, 0), (13830554455654793216, 0)] = true) := ⟨by kernel_rfl, by kernel_rfl⟩
        have hT := Lib.hid (hb1.out.trans (hbel.mono hb1.out.size))
        clear hbel hbel'
        go_wp2_with (first
          | (refine wpList_mk0 rfl 64 rfl (by omega) ?_; intro wa h64 hb; have hT := Lib.hid (hT.out.trans (hb.mono hT.out.size)); clear hb)
          | (refine wpList_mk0 rfl 65 rfl (by omega) ?_; intro wa h65 hb; have hT := Lib.hid (hT.out.trans (hb.mono hT.out.size)); clear hb)
          | (refine wpList_cpls rfl 2 _ [(4697254402757492736, 0), (4607182418800017408, 0)] rfl rfl (by omega) (by omega) rfl ?_; intro wa h2 hb; have hT := Lib.hid (hT.out.trans (hb.mono hT.out.size)); clear hb)
          | (refine wpList_cpls rfl 3 _ [(4697254402757492736, 0), (4607182418800017408, 0), (13830554455654793216, 0)] rfl rfl (by omega) (by omega) rfl ?_; intro wa h3 hb; have hT := Lib.hid (hT.out.trans (hb.mono hT.out.size)); clear hb)
          | (go_at_call 29; first
              | (refine (sumLaw_any _ _ 64 64 _ h64 hx1.out.1 hx1.out.2).mono ?_; rintro e wb ⟨rfl, hb⟩; clear h64; have hT := Lib.hid (hT.out.trans (hb.mono hT.out.size)); clear hb)
              | (refine (sumLaw_any _ _ 65 65 _ h65 hx2.out.1 hx2.out.2).mono ?_; rintro e wb ⟨rfl, hb⟩; clear h65; have hT := Lib.hid (hT.out.trans (hb.mono hT.out.size)); clear hb)
              | (refine (sumLaw_any _ _ 2 2 _ h2 hx4.out.1 hx4.out.2).mono ?_; rintro e wb ⟨rfl, hb⟩; clear h2; have hT := Lib.hid (hT.out.trans (hb.mono hT.out.size)); clear hb)
              | (refine (sumLaw_any _ _ 3 3 _ h3 hx5.out.1 hx5.out.2).mono ?_; rintro e wb ⟨rfl, hb⟩; clear h3; have hT := Lib.hid (hT.out.trans (hb.mono hT.out.size)); clear hb)
              | (refine (sumLaw_any _ none 0 0 [] (ItsC.none_ _) hx3.out.1 hx3.out.2).mono ?_; rintro e wb ⟨rfl, hb⟩; have hT := Lib.hid (hT.out.trans (hb.mono hT.out.size)); clear hb))
          | (go_at_call 11; refine (works_any _).mono ?_; rintro e wb ⟨rfl, hb⟩; have hT := Lib.hid (hT.out.trans (hb.mono hT.out.size)); clear hb))
        go_ret
        exact ⟨rfl, hT.out⟩
end Go.Proofs.Ytflllhodeakpgaa
