/- CrcSlides: on any row of bytes and any width the law returns true, and turns nothing that was there. -/
import Derived.Test.YtkfggbafgjephaaCrcNums
import Derived.Deep.RegionHeld3
namespace Go.Proofs.Ytkfggbafgjephaa
open Go.RowKit

theorem u16_in {a : Int} (h : (Lit.int .u16 a).wf = true) : ∃ x : Nat, a = (x : Int) ∧ x < 65536 := by
  have hb : 0 ≤ a ∧ a ≤ 65535 := by simpa [Lit.wf, IntKind.min, IntKind.max, IntKind.signed, IntKind.bits] using h
  exact ⟨a.toNat, by omega, by omega⟩
/-- the Sums of the row up to each place, as far as the k-th -/
def uptoL (bs : List UInt8) (k : Nat) : List Nat := (List.range (k + 1)).map fun j => sumV (bs.take j)
theorem uptoL_len (bs : List UInt8) (k : Nat) : (uptoL bs k).length = k + 1 := by simp [uptoL]
theorem uptoL_at (bs : List UInt8) (k j : Nat) (hj : j ≤ k) : (uptoL bs k)[j]? = some (sumV (bs.take j)) := by
  unfold uptoL
  rw [List.getElem?_map, List.getElem?_range (by omega)]
  rfl
theorem uptoL_succ (bs : List UInt8) (k : Nat) : uptoL bs (k + 1) = uptoL bs k ++ [sumV (bs.take (k + 1))] := by
  unfold uptoL
  rw [List.range_succ (n := k + 1), List.map_append]
  rfl

theorem more_q (x : Nat) (A : Option Addr) (n c : Nat) (bs : List UInt8) (w : World) (hx : x < 4294967296) (hB : Bts w A n bs) (hn : n ≤ maxLen) :
    Calls Try.prog 13 #[.int .u32 (x : Int), .slice A n c] w fun e w' => e = .returned (.int .u32 (moreV x bs : Int)) ∧ w' = w :=
  (more_any x A n c bs w hx hB hn).mono fun _ _ h => ⟨h.1, h.2.symm⟩
theorem less_q (x : Nat) (A : Option Addr) (n c : Nat) (bs : List UInt8) (w : World) (hx : x < 4294967296) (hB : Bts w A n bs) (hn : n ≤ maxLen) :
    Calls Try.prog 15 #[.int .u32 (x : Int), .slice A n c] w fun e w' => e = .returned (.int .u32 (lessV x bs : Int)) ∧ w' = w :=
  (less_any x A n c bs w hx hB hn).mono fun _ _ h => ⟨h.1, h.2.symm⟩

theorem made_zeros (q : Nat) : (madeCells (Value.int .u8 0).cells (q * 1)).toList = (List.replicate q (0 : UInt8)).map byteV := by
  have hv : (Value.int .u8 0).cells = #[.int .u8 0] := rfl
  rw [hv]
  unfold madeCells
  apply List.ext_getElem
  · simp
  · intro i h1 h2
    simp [byteV, Nat.mod_one]
theorem own_zeros {base : Nat} {w : World} {v : Value} {q : Nat} (h : w.ownsRow base 5 1 v q (madeCells (Value.int .u8 0).cells (q * 1)).toList) : OwnB base w v (List.replicate q (0 : UInt8)) := by
  unfold OwnB
  rw [made_zeros] at h
  rw [List.length_replicate]
  exact h

/-- a window's Sum, told by the row's Sums at both its ends -/
theorem slide_told (bs : List UInt8) (k q : Nat) (hq : q ≤ (bs.drop k).length) :
    bits .xor .u32 (sumV (bs.take (k + q)) : Int) (Nt (moreV (Nt (sumV (bs.take k))) (List.replicate q 0)) : Int) = (sumV ((bs.drop k).take q) : Int) := by
  have hl : ((bs.drop k).take q).length = q := by rw [List.length_take]; omega
  have h := window_sum (bs.take k) ((bs.drop k).take q)
  rw [hl, ← take_more] at h
  rw [noughts, xor_u _ _ (sumV_lt _) (itH_lt _ (sumV_lt _)), ← h]

set_option maxHeartbeats 1000000 in
theorem slides_any (A : Option Addr) (n c wd : Nat) (bs : List UInt8) (w : World) (hB : Bts w A n bs) (hnc : n ≤ c) (hc : c ≤ maxLen) (hw : wd < 65536) :
    Calls Try.prog 5 #[.slice A n c, .int .u16 (wd : Int)] w fun e w' => e = .returned (.bool true) ∧ Below w.heap.size w w' := by
  have t0 : ((n : Int) == 0) = decide (n = 0) := by
    rw [Bool.eq_iff_iff, beq_iff_eq, decide_eq_true_iff]
    omega
  by_cases h0 : n = 0
  · have t1 : ((n : Int) == 0) = true := by rw [t0, decide_eq_true h0]
    clear hB t0 h0
    go_enter Try.func5, Try.ntmps5
    go_wp2_with (go_at_call 10; refine (works_any _).mono ?_; rintro e w' ⟨rfl, hb⟩)
    go_ret
    exact ⟨rfl, hb⟩
  have t1 : ((n : Int) == 0) = false := by rw [t0, decide_eq_false h0]
  have hpos : 0 < n := by omega
  clear t0 h0
  by_cases hbig : (600 : Int) < (n : Int)
  · clear hB
    go_enter Try.func5, Try.ntmps5
    go_wp2_with (go_at_call 10; refine (works_any _).mono ?_; rintro e w' ⟨rfl, hb⟩)
    go_ret
    exact ⟨rfl, hb⟩
  have l1 := Lib.hid hB.1
  obtain ⟨q, hq⟩ : ∃ q, q = 1 + wd % n := ⟨_, rfl⟩
  have hqe := Lib.hid (show 1 + (wd : Int) % (n : Int) = (q : Int) by rw [hq, Int.natCast_add, Int.natCast_emod]; rfl)
  have hq1 : 1 ≤ q := by omega
  have hq2 : q ≤ n := by
    have := Nat.mod_lt wd hpos
    omega
  have hB' := Lib.hid hB
  clear hB hq
  have hpi : (0 : Int) < (n : Int) := by omega
  have hr1 := Int.emod_nonneg (wd : Int) (show (n : Int) ≠ 0 by omega)
  have hr2 := Int.emod_lt_of_pos (wd : Int) hpi
  have hsg := u32_plain
  obtain ⟨i0, hi, hz0, hz1, hz2⟩ := info_parts Try.info5
  have hi' := Lib.hid hi
  have hz0' := Lib.hid hz0
  have hz1' := Lib.hid hz1
  have hz2' := Lib.hid hz2
  clear hi hz0 hz1 hz2
  go_enter Try.func5, Try.ntmps5
  go_wp2_with (at_make; rw [hqe.out]; refine wpList_make_full _ rfl (.tmp 27) (.tmp 27) 23 rfl w.heap.size 5 i0 (.int .u8 0) 1 Try.underlying23 hi'.out hz0'.out hz1'.out .i64 .i64 (q : Int) (q : Int) q rfl rfl rfl rfl (by rw [hz2'.out]; omega) (by unfold maxLen; omega) (Nat.le_refl _) ?_; intro w1 ho1 hg1)
  have hb1 : Below w.heap.size w w1 := Below.grown (Below.refl _ _) hg1 (Nat.le_refl _) (fun k hk => by cases hk)
  have hZ := Lib.hid (OwnB.reads (own_zeros ho1) (by rw [List.length_replicate]; unfold maxLen; omega))
  have hz1 : w.heap.size ≤ w1.heap.size := hb1.size
  have hB1 := Lib.hid (hB'.out.below hb1)
  clear ho1 hg1
  refine (sum_any none 0 0 [] w1 (Bts.none_ _) (by unfold maxLen; omega)).mono ?_
  rintro e w' ⟨rfl, rfl⟩
  go_wp2_with fail
  go_loopw [7, 8] (fun v i wr => ∃ k : Nat, k ≤ n ∧ i = .int .i64 (k : Int) ∧ OwnU w1.heap.size wr v (uptoL bs k) ∧ Below w1.heap.size w1 wr) (fun _ i _ => n - (intOf i).toNat)
  case atStart => exact ⟨0, by omega, rfl, OwnU.one _ w1 (sumV []) (Nat.le_refl _), (Below.refl _ _).alloc (Nat.le_refl _) _⟩
  case round =>
    obtain ⟨k, hk, rfl, hown, hbel⟩ := hrel
    obtain ⟨g, L, cc, rfl, hL, hLc, hgb, hgl, hcell⟩ := hown.shape (by rw [uptoL_len]; omega)
    have hLk : L = k + 1 := by rw [hL, uptoL_len]
    by_cases hlt : k < n
    · have c1 : wr.cell? ⟨g, k, none⟩ = some (.int .u32 ((sumV (bs.take k) : Nat) : Int)) := hcell k _ (uptoL_at bs k k (Nat.le_refl _))
      have hBr := Lib.hid (hB1.out.below hbel)
      have hs1 := sumV_lt (bs.take k)
      have hm1 := Lib.hid (more_take bs k 1)
      have hU := Lib.hid (uptoL_succ bs k)
      have hown' := Lib.hid hown
      have hul := Lib.hid (uptoL_len bs k)
      have j1 : (0 : Int) ≤ (k : Int) := by omega
      have j2 : (k : Int) < (L : Int) := by omega
      have j3 : (k : Int) + 1 ≤ (c : Int) := by omega
      have j4 : IntKind.i64.wrap ((k : Int) + 1) = (k : Int) + 1 := IntWalk.i64_in _ (by unfold maxLen at hc; omega)
      have j5 : ((k : Int) + 1).toNat = k + 1 := by omega
      have j6 : (0 : Int) ≤ (k : Int) + 1 := by omega
      have j7 : (k : Int) ≤ (k : Int) + 1 := by omega
      have hck : ¬ c = k := by omega
      clear hcell hown hL
      go_wp2_with fail
      go_quiet ((go_at_call 13; exact Calls.quiet_of_same (more_q _ _ 1 _ _ _ hs1 (hBr.out.cut (by omega)) (by unfold maxLen; omega))))
      rw [hm1.out]
      have hz2 := hbel.size
      go_wp2_with (at_builtin; refine wpList_append_num (w := wr.drewN nq) rfl (.tmp 47) (.tmp 49) rfl w1.heap.size _ (uptoL bs k) (sumV (bs.take (k + 1))) rfl hown'.out rfl (by rw [hul.out]; omega) hz2 ?_; intro v2 w2 ho2 hg2)
      have hb2 : Below w1.heap.size w1 w2 := Below.grown ((draws hbel nq).alloc hz2 _) hg2 (by simp; omega) (fun j hj => (OwnU.lt hown'.out j hj).1)
      go_roundw
      case rel => exact ⟨k + 1, by omega, by go_num, by rw [hU.out]; exact ho2, hb2⟩
      case measure => simp [intOf]; omega
    · obtain rfl : n = k := by omega
      have hBr := hB1.out.below hbel
      obtain ⟨K, hK⟩ : ∃ K, K = n - q + 1 := ⟨_, rfl⟩
      have hK' := Lib.hid hK
      have hcell' := Lib.hid hcell
      have hLk' := Lib.hid hLk
      clear hown hL hK hcell hLk
      go_wp2_with fail
      refine (windows_yes A n c q bs wr hBr (by omega) hnc hc hq1 hq2).mono ?_
      rintro e w3 ⟨g1, he, hgl1, hN1, hb3⟩
      rw [← hK'.out] at he hN1
      subst he
      have b1 : ((K : Int) != (n : Int) - (q : Int) + 1) = false := by
        have := hK'.out
        rw [bne_eq_false_iff_eq]
        omega
      have hN1' := Lib.hid hN1
      have hb13 : Below w1.heap.size w1 w3 := hbel.trans (hb3.mono hbel.size)
      have hU : Hid (∀ j, j ≤ n → w3.cell? ⟨g, j, none⟩ = some (.int .u32 ((sumV (bs.take j) : Nat) : Int))) := Lib.hid fun j hj => (hb3.cell (p := ⟨g, j, none⟩) hgl).trans (hcell'.out j _ (uptoL_at bs n j hj))
      have hZ3 := Lib.hid (hZ.out.below hb13)
      have hB3 := Lib.hid (hB1.out.below hb13)
      have hb03 : Below w.heap.size w w3 := hb1.trans (hb13.mono hz1)
      have i1 : (K : Int) ≤ 600 := by have := hK'.out; omega
      clear hN1 hb3 hb13 hBr hgl1 hgl hgb hbel
      go_wp2_with fail
      go_loopw [11] (fun i wr => ∃ k : Nat, k ≤ K ∧ i = .int .i64 (k : Int) ∧ ∃ nd, wr = w3.drewN nd) (fun i _ => K - (intOf i).toNat)
      case atStart => exact ⟨0, Nat.zero_le _, rfl, 0, rfl⟩
      case round =>
        obtain ⟨k, hk, rfl, nd, hwr⟩ := hrel
        have hwr' := Lib.hid hwr
        by_cases hlt : k < K
        · have hkq : k + q ≤ n := by have := hK'.out; omega
          have hlen := l1.out
          have c1 : wr.cell? ⟨g1, k, none⟩ = some (.int .u32 ((sumV ((bs.drop k).take q) : Nat) : Int)) := by rw [hwr]; exact hN1'.out.at_ hlt
          have c2 : wr.cell? ⟨g, k + q, none⟩ = some (.int .u32 ((sumV (bs.take (k + q)) : Nat) : Int)) := by rw [hwr]; exact hU.out (k + q) hkq
          have c3 : wr.cell? ⟨g, k, none⟩ = some (.int .u32 ((sumV (bs.take k) : Nat) : Int)) := by rw [hwr]; exact hU.out k (by omega)
          have hZr : Hid (Bts wr (some ⟨w.heap.size, 0, none⟩) q (List.replicate q 0)) := Lib.hid (by rw [hwr]; exact hZ3.out)
          have hBr : Hid (Bts wr A n bs) := Lib.hid (by rw [hwr]; exact hB3.out)
          clear hwr
          have x1 := slide_told bs k q (by rw [List.length_drop, hlen]; omega)
          have x2 := not_u (sumV (bs.take k)) (sumV_lt _)
          have hs1 := Nt_lt (sumV_lt (bs.take k))
          have x3 := not_u (moreV (Nt (sumV (bs.take k))) (List.replicate q 0)) (moreV_lt _ hs1)
          have hs2 := sumV_lt ((bs.drop k).take q)
          have x4 := less_more (bs.drop k) hs2
          have hs3 := moreV_lt (bs.drop k) hs2
          have hR : Hid (Bts wr (A.map fun x => x.add k) (n - k) (bs.drop k)) := Lib.hid (by
            have h := hBr.out.cut (lo := k) (m := n - k) (by omega)
            rwa [List.take_of_length_le (by rw [List.length_drop, hlen]; omega)] at h)
          clear hlen
          generalize sumV ((bs.drop k).take q) = F at *
          generalize sumV (bs.take (k + q)) = U1 at *
          generalize sumV (bs.take k) = U0 at *
          generalize bs.drop k = R at *
          have j1 : (0 : Int) ≤ (k : Int) := by omega
          have j2 : (k : Int) < (K : Int) := by omega
          have j3 : (0 : Int) ≤ (k : Int) + (q : Int) := by omega
          have j4 : (k : Int) + (q : Int) < (L : Int) := by have := hLk'.out; omega
          have j5 : IntKind.i64.wrap ((k : Int) + (q : Int)) = (k : Int) + (q : Int) := IntWalk.i64_in _ (by omega)
          have j6 : ((k : Int) + (q : Int)).toNat = k + q := by omega
          have j7 : (k : Int) < (L : Int) := by omega
          have j8 : (k : Int) ≤ (n : Int) := by omega
          have j9 : (k : Int) ≤ (c : Int) := by omega
          have hck : ¬ c = k := by omega
          have m7 : (k : Int).tmod 7 = (k : Int) % 7 := Int.tmod_eq_emod_of_nonneg j1
          by_cases h7 : k % 7 = 0
          · have d7 : ((k : Int) % 7 == 0) = true := by rw [beq_iff_eq]; omega
            clear h7
            go_wp2_with fail
            go_quiet (first
              | (go_at_call_of 13 (Value.int .u32 (Nt U0 : Int)); exact Calls.quiet_of_same (more_q _ _ _ _ (List.replicate q 0) _ hs1 hZr.out (by unfold maxLen; omega)))
              | (go_at_call 13; exact Calls.quiet_of_same (more_q _ _ _ _ R _ hs2 hR.out (by unfold maxLen; omega)))
              | (go_at_call 15; exact Calls.quiet_of_same (less_q _ _ _ _ R _ hs3 hR.out (by unfold maxLen; omega))))
            go_wp2_with fail
            go_roundw
            case rel => exact ⟨k + 1, by omega, by go_num, _, by rw [hwr'.out, World.drewN_drewN]⟩
            case measure => simp [intOf]; omega
          · have d7 : ((k : Int) % 7 == 0) = false := by rw [beq_eq_false_iff_ne]; omega
            clear h7
            go_wp2_with fail
            go_quiet (first
              | (go_at_call 13; exact Calls.quiet_of_same (more_q _ _ _ _ R _ hs2 hR.out (by unfold maxLen; omega)))
              | (go_at_call 15; exact Calls.quiet_of_same (less_q _ _ _ _ R _ hs3 hR.out (by unfold maxLen; omega))))
            go_wp2_with fail
            go_roundw
            case rel => exact ⟨k + 1, by omega, by go_num, _, by rw [hwr'.out, World.drewN_drewN]⟩
            case measure => simp [intOf]; omega
        · obtain rfl : k = K := by omega
          have c4 : wr.cell? ⟨g, n, none⟩ = some (.int .u32 ((sumV bs : Nat) : Int)) := by
            rw [hwr]
            have h := hU.out n (Nat.le_refl _)
            rwa [List.take_of_length_le (by rw [l1.out]; exact Nat.le_refl _)] at h
          have hBr : Hid (Bts wr A n bs) := Lib.hid (by rw [hwr]; exact hB3.out)
          have hbw : Below w.heap.size w wr := by rw [hwr]; exact draws hb03 nd
          clear hwr
          have j7 : (n : Int) < (L : Int) := by have := hLk'.out; omega
          have j8 : (0 : Int) ≤ (n : Int) := by omega
          go_wp2_with fail
          have hgw := World.block_lt_of_cell? wr _ c4
          have hmax : n ≤ maxLen := Nat.le_trans hnc hc
          go_region_held3 (fun w' => w'.cell? ⟨g, n, none⟩ = some (.int .u32 ((sumV bs : Nat) : Int)) ∧ Bts w' A n bs ∧ Below w.heap.size w w')
            (first | exact ⟨c4, hBr.out, hbw.drew⟩ | exact ⟨(hb9.cell (p := ⟨g, n, none⟩) hgw).trans c4, Bts.below (w := wr.drew) hBr.out hb9, hbw.drew.trans (hb9.mono hbw.size)⟩)
            (first
              | (go_at_call 11; refine (sum_any A n c bs _ (by exact hBr.out) hmax).mono ?_; rintro e w8 ⟨rfl, rfl⟩)
              | (go_at_call 10; refine (works_any _).mono ?_; rintro e w9 ⟨rfl, hb9⟩))
          go_wp2_with fail
          go_ret
          exact ⟨rfl, hbw.drew.trans (hb9.mono hbw.size)⟩
end Go.Proofs.Ytkfggbafgjephaa
