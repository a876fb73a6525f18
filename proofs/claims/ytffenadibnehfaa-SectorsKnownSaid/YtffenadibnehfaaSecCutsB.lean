/- SectorsCuts, over any disk of the program's. -/
import Derived.Test.YtffenadibnehfaaSecCutsA
import Derived.StillTailTactics
import Derived.Deep.RegionHeld3
namespace Go.Proofs.Ytffenadibnehfaa
open Go.RowKit

theorem Try.info3 : (Try.prog.info? 3).map (fun i => (i.zero, i.size, i.bytes)) = some (some (.int .i64 0), 1, 8) := by kernel_rfl
set_option maxRecDepth 20000 in
set_option maxHeartbeats 64000000 in
theorem cuts_any (Y : Sys) (hworks : ∀ w, Calls Try.prog 7 #[] w fun e w' => e = .returned (.bool true) ∧ Below w.heap.size w w') (A0 : Option Addr) (n0 c0 : Nat) (xs0 : List CX) (A1 : Option Addr) (n1 c1 : Nat) (xs1 : List CX) (w : World)
    (hx0 : CallsIn w A0 n0 xs0) (hn0 : n0 ≤ maxLen) (hx1 : CallsIn w A1 n1 xs1) (hn1 : n1 ≤ maxLen) :
    Calls Try.prog 4 #[.slice A0 n0 c0, .slice A1 n1 c1] w fun e w' => e = .returned (.bool true) ∧ Below w.heap.size w w' := by
  have hx0' := Lib.hid hx0
  have hx1' := Lib.hid hx1
  have hlen0 := hx0.1
  have hlen1 := hx1.1
  have hw' := Lib.hid hworks
  obtain ⟨i3, hi3, hz30, hz31, hz32⟩ := info_parts Try.info3
  have hi3' := Lib.hid hi3
  have hz30' := Lib.hid hz30
  have hz31' := Lib.hid hz31
  have hz32' := Lib.hid hz32
  clear hi3 hz30 hz31 hz32
  have hla0 := Lib.hid (large_any w A0 n0 c0 xs0 hx0 hn0)
  have hla1 := Lib.hid (large_any w A1 n1 c1 xs1 hx1 hn1)
  clear hx0 hx1 hworks
  cases hl0 : largeV xs0 with
  | true =>
    rw [hl0] at hla0
    go_enter Try.func4, Try.ntmps4
    go_wp2_with fail
    refine hla0.out.mono ?_
    rintro e w' ⟨rfl, rfl⟩
    go_wp2_with fail
    refine (hw'.out _).mono ?_
    rintro e w' ⟨rfl, hb⟩
    go_wp2_with fail
    go_ret
    exact ⟨rfl, hb⟩
  | false =>
    have h60 : n0 ≤ 60 := by
      unfold largeV at hl0
      rw [hlen0] at hl0
      simp at hl0
      omega
    rw [hl0] at hla0
    cases hl1 : largeV xs1 with
    | true =>
      rw [hl1] at hla1
      go_enter Try.func4, Try.ntmps4
      go_wp2_with fail
      refine hla0.out.mono ?_
      rintro e w' ⟨rfl, rfl⟩
      go_wp2_with fail
      refine hla1.out.mono ?_
      rintro e w' ⟨rfl, rfl⟩
      go_wp2_with fail
      refine (hw'.out _).mono ?_
      rintro e w' ⟨rfl, hb⟩
      go_wp2_with fail
      go_ret
      exact ⟨rfl, hb⟩
    | false =>
      have h61 : n1 ≤ 60 := by
        unfold largeV at hl1
        rw [hlen1] at hl1
        simp at hl1
        omega
      rw [hl1] at hla1
      clear hl0 hl1
      go_enter Try.func4, Try.ntmps4
      go_wp2_with fail
      refine hla0.out.mono ?_
      rintro e w' ⟨rfl, rfl⟩
      go_wp2_with fail
      refine hla1.out.mono ?_
      rintro e w' ⟨rfl, rfl⟩
      go_wp2_with fail
      refine (Y.new_ w 8).mono ?_
      rintro e wn ⟨X, Sn, rfl, hAn, hSn, hbn⟩
      have hAn' := Lib.hid hAn
      have hbn' := Lib.hid hbn
      clear hAn hSn hbn hla0 hla1
      go_wp2_with fail
      go_loopw [6] (fun k wr => ∃ q : Nat, q ≤ n0 ∧ k = .int .i64 (q : Int) ∧ (∃ S, Y.At wr S w.heap.size X (runV (newV 8) (xs0.take q))) ∧ Below w.heap.size w wr) (fun k _ => n0 - (intOf k).toNat)
      case atStart => exact ⟨0, Nat.zero_le _, rfl, ⟨Sn, hAn'.out⟩, hbn'.out⟩
      case round =>
        obtain ⟨q, hq, rfl, ⟨S, hA⟩, hbel⟩ := hrel
        clear hAn' hbn'
        have hA' := Lib.hid hA
        have hbel' := Lib.hid hbel
        have hcalm := Lib.hid ((run_calm new_calm (xs0.take q)).1.mono (m := 60) (by rw [List.length_take]; omega))
        clear hA hbel
        by_cases h1 : q < n0
        · have hxq : xs0[q]? = some xs0[q] := List.getElem?_eq_getElem (by omega)
          obtain ⟨ad, rfl, hadl, _, hi0, hi1, _, e1, A3, n3, c3, e2, hB3, hn3, hc3, hA3⟩ := hx0'.out.2 q _ hxq
          generalize xs0[q] = x at *
          have hadl' : (ad.add (q * 3)).block < w.heap.size := by rw [block_add]; exact hadl
          have f1 := (hbel'.out.cell (p := ⟨(ad.add (q * 3)).block, (ad.add (q * 3)).off + 1, none⟩) hadl').trans e1
          have f2 := (hbel'.out.cell (p := ⟨(ad.add (q * 3)).block, (ad.add (q * 3)).off + 2, none⟩) hadl').trans e2
          have hia := ix_and x
          have hqI : (q : Int) < (n0 : Int) := by omega
          have hq0 : (0 : Int) ≤ (q : Int) := Int.natCast_nonneg _
          have hBr := Lib.hid (hB3.below hbel'.out)
          have hxq' := Lib.hid hxq
          have hA3' := Lib.hid hA3
          clear e1 e2 hxq hadl' hB3 hA3
          go_wp2_with fail
          go_still_tail 12, (by kernel_rfl)
          change wpList _ _ _ _ _ wr.drew
          go_wp2_with fail
          refine (Y.write (Y.below hA'.out (draws (Below.refl _ _) 1)) (hcalm.out.lim (by omega)) (ixV x : Int) A3 n3 c3 x.b hBr.out hn3 hc3 hA3'.out).mono ?_
          rintro e w2 ⟨rfl, S2, hA2, _, hF2⟩
          have hA4 := Lib.hid (show Y.At w2 S2 w.heap.size X (runV (newV 8) (xs0.take (q + 1))) by rw [runV_succ _ _ _ _ hxq'.out]; exact hA2)
          have hb4 := Lib.hid (frs_trans (show Below w.heap.size w (wr.drewN 1) from draws hbel'.out 1) hF2)
          clear hA2 hF2 f1 f2 hia
          go_wp2_with fail
          go_roundw
          case rel => exact ⟨q + 1, by omega, by go_num, ⟨S2, hA4.out⟩, hb4.out⟩
          case measure => simp [intOf]; omega
        · have hqI : ¬ (q : Int) < (n0 : Int) := by omega
          go_wp2_with fail
          refine (Y.settle hA'.out (hcalm.out.lim (by omega))).mono ?_
          rintro e w3 ⟨rfl, S3, hA3, _, hF3⟩
          have hA3' := Lib.hid hA3
          have hb3 := Lib.hid (frs_trans hbel'.out hF3)
          have hcalm1 := Lib.hid (settle_calm hcalm.out)
          clear hA3 hF3 h1 hqI hq
          generalize settleV (runV (newV 8) (xs0.take q)) = D1 at *
          clear hcalm hA' hbel'
          go_wp2_with fail
          refine (tell_any Y hA3'.out (hcalm1.out.lim (by omega)) hcalm1.out.gone).mono ?_
          rintro e w4 ⟨vf, rfl, hvf, hb4⟩
          have hst0 := Lib.hid (show CutSt Y w w4 S3 X D1 (ixs D1) vf (.slice none 0 0) ((tellV D1 8).map strV) from
            ⟨Y.below hA3'.out hb4, by have h := own_base hvf hb3.out.size; rw [hcalm1.out.base] at h; exact h, by rw [show ixs D1 = [] by unfold ixs; rw [List.eq_nil_of_length_eq_zero (Nat.le_zero.1 hcalm1.out.wr)]; rfl]; exact World.ownsRow_nil _ _ _ _,
             (fun k hk e => by have h1 := Y.lt hA3'.out k hk; have h2 := (World.ownsRow.lt hvf k e).1; omega), (fun k hk e => by cases e), (fun k e e2 => by cases e2), hb3.out.trans (hb4.mono hb3.out.size)⟩)
          have hfs := Lib.hid (show Strs w4 vf (tellV D1 8) from strs_own (tellV_len _ _) (by have h := hvf; rw [hcalm1.out.base] at h; exact h))
          clear hvf hb4 hb3
          go_wp2_with fail
          clear hA3'
          go_loopw [8, 9] (fun va k wr => ∃ q : Nat, q ≤ n1 ∧ k = .int .i64 (q : Int) ∧ ∃ S, CutSt Y w wr S X (runV D1 (xs1.take q)) (ixs (runV D1 (xs1.take q))) vf va ((tellV D1 8).map strV)) (fun _ k _ => n1 - (intOf k).toNat)
          case atStart => exact ⟨0, Nat.zero_le _, rfl, S3, hst0.out⟩
          case round =>
            obtain ⟨q, hq, rfl, S, hst⟩ := hrel
            clear hst0
            have hst' := Lib.hid hst
            have hcalm := Lib.hid ((run_calm hcalm1.out (xs1.take q)).1.mono (m := 60) (by rw [List.length_take]; omega))
            have hbase := Lib.hid ((run_calm hcalm1.out (xs1.take q)).2)
            clear hst
            by_cases h1 : q < n1
            · have hxq : xs1[q]? = some xs1[q] := List.getElem?_eq_getElem (by omega)
              obtain ⟨ad, rfl, hadl, _, hi0, hi1, _, e1, A3, n3, c3, e2, hB3, hn3, hc3, hA3⟩ := hx1'.out.2 q _ hxq
              have hsucc := Lib.hid (runV_succ D1 xs1 q _ hxq)
              generalize xs1[q] = x at *
              generalize hd : runV D1 (xs1.take q) = d at *
              have hadl' : (ad.add (q * 3)).block < w.heap.size := by rw [block_add]; exact hadl
              have f1 := (hst'.out.below.cell (p := ⟨(ad.add (q * 3)).block, (ad.add (q * 3)).off + 1, none⟩) hadl').trans e1
              have f2 := (hst'.out.below.cell (p := ⟨(ad.add (q * 3)).block, (ad.add (q * 3)).off + 2, none⟩) hadl').trans e2
              have hia := ix_and x
              have hqI : (q : Int) < (n1 : Int) := by omega
              have hq0 : (0 : Int) ≤ (q : Int) := Int.natCast_nonneg _
              have hBr := Lib.hid (hB3.below hst'.out.below)
              have hA3' := Lib.hid hA3
              have e1' := Lib.hid e1
              clear e1 e2 hxq hB3 hA3 hd
              rcases step_cases hcalm.out x with ⟨hlong, hv⟩ | ⟨hshort, hv⟩
              · have hv' := Lib.hid hv
                clear hv hlong
                go_wp2_with fail
                go_still_tail 12, (by kernel_rfl)
                change wpList _ _ _ _ _ wr.drew
                go_wp2_with fail
                refine (Y.write (Y.below hst'.out.at_ (draws (Below.refl _ _) 1)) (hcalm.out.lim (by omega)) (ixV x : Int) A3 n3 c3 x.b hBr.out hn3 hc3 hA3'.out).mono ?_
                rintro e w5 ⟨rfl, S5, hA5, hs5, hF5⟩
                rw [hv'.out] at hA5 ⊢
                have hst5 := Lib.hid (hst'.out.wrote hA5 hs5 (show FrS S w.heap.size wr w5 from ⟨hF5.os, hF5.tape, hF5.output, hF5.size, hF5.block⟩))
                have hrun := Lib.hid (show runV D1 (xs1.take (q + 1)) = d by rw [hsucc.out]; unfold stepV; rw [hv'.out])
                clear hA5 hs5 hF5 f1 f2 hia
                go_wp2_with fail
                go_roundw
                case rel => exact ⟨q + 1, by omega, by go_num, S5, by rw [hrun.out]; exact hst5.out⟩
                case measure => simp [intOf]; omega
              · have hv' := Lib.hid hv
                clear hv hshort
                go_wp2_with fail
                go_still_tail 12, (by kernel_rfl)
                change wpList _ _ _ _ _ wr.drew
                go_wp2_with fail
                refine (Y.write (Y.below hst'.out.at_ (draws (Below.refl _ _) 1)) (hcalm.out.lim (by omega)) (ixV x : Int) A3 n3 c3 x.b hBr.out hn3 hc3 hA3'.out).mono ?_
                rintro e w5 ⟨rfl, S5, hA5, hs5, hF5⟩
                rw [hv'.out] at hA5 ⊢
                have hst5 := Lib.hid (hst'.out.wrote hA5 hs5 (show FrS S w.heap.size wr w5 from ⟨hF5.os, hF5.tape, hF5.output, hF5.size, hF5.block⟩))
                have hrun := Lib.hid (show runV D1 (xs1.take (q + 1)) = wrote d (ixV x) x.b by rw [hsucc.out]; unfold stepV; rw [hv'.out])
                have g1 := (hst5.out.below.cell (p := ⟨(ad.add (q * 3)).block, (ad.add (q * 3)).off + 1, none⟩) hadl').trans e1'.out
                clear hA5 hs5 hF5 f1 f2
                have hixl : (ixs d).length ≤ 60 := by rw [ixs_len]; exact hcalm.out.wr
                go_wp2_with (first
                  | (refine wpList_append_lies _ rfl (.tmp 62) (.tmp 69) 39 rfl w.heap.size 3 i3 _ 1 8 Try.underlying39 hi3'.out hz30'.out hz31'.out hz32'.out rfl (by decide) u8 (ixs d).length (ixs d) rfl (hst5.out.row.alloc _) ⟨w5.heap.size, 0, none⟩ 1 1 [.int .i64 (ixV x : Int)] rfl rfl (World.news_of_block (cs := #[.int .i64 (ixV x : Int)]) (t := 3) (fr := (0, 0)) (heap_alloc_new w5 _)) (by simp [Value.oneCell']) (by decide) (by unfold maxLen; omega) (by omega) (by have := hst5.out.below.size; simp; omega) _ rfl ?_; intro g cap w6 ho6 hg6 hat hlt6)
                  | go_in)
                have hst6 := Lib.hid (show CutSt Y w w6 S5 X (wrote d (ixV x) x.b) (ixs (wrote d (ixV x) x.b)) vf (.slice (some ⟨g, 0, none⟩) ((ixs d).length + 1) cap) ((tellV D1 8).map strV) from by
                  rw [show ixs (wrote d (ixV x) x.b) = ixs d ++ [.int .i64 (ixV x : Int)] by simp [ixs, wrote]]
                  exact hst5.out.more ((Below.refl _ _).alloc (Nat.le_refl _) _) _ rfl ho6 hg6 hat)
                clear ho6 hg6 hat g1 hia
                go_roundw
                case rel => exact ⟨q + 1, by omega, by go_num, S5, by rw [hrun.out]; exact hst6.out⟩
                case measure => simp [intOf]; omega
            · have hqI : ¬ (q : Int) < (n1 : Int) := by omega
              obtain ⟨w0, hw0⟩ : ∃ w0 : World, w0 = wr := ⟨_, rfl⟩
              subst hw0
              generalize hd : runV D1 (xs1.take q) = d at *
              have hdb := Lib.hid (show d.base = D1.base from hbase.out)
              have hL : d.wr.length ≤ 60 := hcalm.out.wr
              obtain ⟨A5, c5, hsh, _, _, _, hA5⟩ := own_form hst'.out.row
              rw [ixs_len] at hsh hA5
              subst hsh
              have hA5' := Lib.hid hA5
              obtain ⟨L, hLe⟩ : ∃ L, L = d.wr.length := ⟨_, rfl⟩
              rw [← hLe] at hL ⊢
              have hLe' := Lib.hid hLe
              have hq1 : ∀ W, Below w0.heap.size w0 W → Calls Try.prog 17 #[.pointer (some ⟨X, 0, none⟩)] W fun e w' => e = .returned (.int .i64 (L : Int)) ∧ W = w' := fun W hb => by rw [hLe]; exact Y.writes (Y.below hst'.out.at_ hb) (hcalm.out.lim (by omega))
              have hq1' := Lib.hid hq1
              have hlim := Lib.hid (hcalm.out.lim (by omega))
              clear hq1 h1 hd hbase hLe hA5
              go_wp2_with fail
              refine (hq1'.out w0 (Below.refl _ _)).mono ?_
              rintro e wz ⟨rfl, rfl⟩
              go_wp2_with fail
              refine (Y.cut hst'.out.at_ hlim.out 0).mono ?_
              rintro e w5 ⟨X5, S5, rfl, hAc, _, hb5⟩
              have hAc' := Lib.hid hAc
              have hb5' := Lib.hid hb5
              clear hAc hb5
              go_wp2_with fail
              refine (tell_any Y hAc'.out ((cut_calm hcalm.out 0).lim (by omega)) rfl).mono ?_
              rintro e w6 ⟨v6, rfl, hv6, hb6⟩
              rw [(cut_calm hcalm.out 0).base] at hv6
              have hv6' := Lib.hid (strs_own (tellV_len _ _) hv6)
              have hb6' := Lib.hid (hb5'.out.trans (hb6.mono hb5'.out.size))
              clear hv6 hb6
              go_wp2_with fail
              refine (like_any w6 v6 vf (tellV (cutV d 0) 8) (tellV D1 8) (-1) hv6'.out (strs_own (tellV_len _ _) (own_below hst'.out.first hb6'.out)) (tellV_len _ _) (tellV_len _ _) (by omega) (by omega) (cut_none hcalm1.out hcalm.out hdb.out)).mono ?_
              rintro e w7 ⟨rfl, hb7⟩
              have hb7' := Lib.hid (hb6'.out.trans (hb7.mono hb6'.out.size))
              clear hb7
              go_wp2_with fail
              refine (Y.cut (Y.below hst'.out.at_ hb7'.out) hlim.out (L : Int)).mono ?_
              rintro e w8 ⟨X8, S8, rfl, hA8, _, hb8⟩
              have hA8' := Lib.hid hA8
              have hb8' := Lib.hid (hb7'.out.trans (hb8.mono hb7'.out.size))
              clear hA8 hb8
              go_wp2_with fail
              refine (tell_any Y hA8'.out ((cut_calm hcalm.out (L : Int)).lim (by omega)) rfl).mono ?_
              rintro e w9 ⟨v9, rfl, hv9, hb9⟩
              rw [(cut_calm hcalm.out (L : Int)).base] at hv9
              have hv9' := Lib.hid hv9
              have hb9' := Lib.hid (hb8'.out.trans (hb9.mono hb8'.out.size))
              clear hv9 hb9
              go_wp2_with fail
              refine (tell_any Y (Y.below hst'.out.at_ hb9'.out) hlim.out hcalm.out.gone).mono ?_
              rintro e w10 ⟨v10, rfl, hv10, hb10⟩
              rw [hcalm.out.base] at hv10
              have hv10' := Lib.hid (strs_own (tellV_len _ _) hv10)
              have hv11' := Lib.hid (strs_own (tellV_len _ _) (own_below hv9'.out hb10))
              have hb10' := Lib.hid (hb9'.out.trans (hb10.mono hb9'.out.size))
              clear hv10 hb10
              go_wp2_with fail
              refine (like_any w10 v9 v10 (tellV (cutV d (L : Int)) 8) (tellV d 8) (-1) hv11'.out hv10'.out (tellV_len _ _) (tellV_len _ _) (by omega) (by omega) (by rw [hLe'.out]; exact cut_all hcalm.out)).mono ?_
              rintro e w11 ⟨rfl, hb11⟩
              have hb11' := Lib.hid (hb10'.out.trans (hb11.mono hb10'.out.size))
              clear hb11
              go_wp2_with fail
              go_loopw [10] (fun k wi => ∃ j : Nat, j ≤ L ∧ k = .int .i64 (j : Int) ∧ Below w0.heap.size w0 wi) (fun k _ => L - (intOf k).toNat)
              case atStart => exact ⟨0, Nat.zero_le _, rfl, hb11'.out⟩
              case round =>
                obtain ⟨j, hj, rfl, hbi⟩ := hrel
                have hbi' := Lib.hid hbi
                clear hbi
                by_cases h2 : j < L
                · have hjd : j < d.wr.length := by rw [← hLe'.out]; exact h2
                  have hxj : d.wr[j]? = some d.wr[j] := List.getElem?_eq_getElem hjd
                  obtain ⟨g, rfl, hg0, hgl, hcg⟩ := hA5'.out (by rw [← hLe'.out]; omega)
                  have hcj := hcg j _ (show (ixs d)[j]? = some (.int .i64 ((d.wr[j]).1 : Int)) by unfold ixs; rw [List.getElem?_map, hxj]; rfl)
                  have hxj' := Lib.hid hxj
                  generalize d.wr[j] = x at *
                  have hcK := Lib.hid (show ∀ W, Below w0.heap.size w0 W → W.cell? ⟨g, j, none⟩ = some (.int .i64 (x.1 : Int)) from fun W hb => (hb.cell (p := ⟨g, j, none⟩) hgl).trans hcj)
                  have hjI : (j : Int) < (L : Int) := by omega
                  have hj0 : (0 : Int) ≤ (j : Int) := Int.natCast_nonneg _
                  have hx8 : x.1 < 8 := hcalm.out.ix x (List.mem_of_getElem? hxj'.out)
                  clear hcg hcj hxj hjd
                  have hwj := Lib.hid (show IntKind.i64.wrap ((j : Int) + 1) = (j : Int) + 1 from by rw [IntKind.wrap_i64]; omega)
                  have hAi := Lib.hid (Y.below hst'.out.at_ (show Below w0.heap.size w0 wr.drew from draws hbi'.out 1))
                  go_wp2_with fail
                  go_region_held3 (fun w' => w'.cell? ⟨g, j, none⟩ = some (.int .i64 (x.1 : Int)))
                    (first
                      | exact hcK.out V5 hV5.out
                      | exact hcK.out V4 hV4.out
                      | exact hcK.out V3 hV3.out
                      | exact hcK.out V2 hV2.out
                      | exact hcK.out V1 hV1.out
                      | exact hcK.out wr.drew (draws hbi'.out 1))
                    (first
                      | (go_at_call 18; refine (like_any V4 u2 u4 (tellV (cutV d (j : Int)) 8) (tellV (cutV d ((j : Int) + 1)) 8) (x.1 : Int) hu4.out hu5.out (tellV_len _ _) (tellV_len _ _) (by omega) (by omega) (cut_next hcalm.out hxj'.out)).mono ?_; rintro e V5 ⟨rfl, hb⟩; have hV5 := Lib.hid (hV4.out.trans (hb.mono hV4.out.size)); clear hb)
                      | (go_at_call 16; refine (tell_any Y hA3'.out ((cut_calm hcalm.out ((j : Int) + 1)).lim (by omega)) rfl).mono ?_; rintro e V4 ⟨u4, rfl, hu, hb⟩; rw [(cut_calm hcalm.out ((j : Int) + 1)).base] at hu; have hV4 := Lib.hid (hV3.out.trans (hb.mono hV3.out.size)); have hu5 := Lib.hid (strs_own (tellV_len _ _) hu); have hu4 := Lib.hid (strs_own (tellV_len _ _) (own_below hu3.out hb)); clear hu hb)
                      | (go_at_call 10; rw [hwj.out]; refine (Y.cut (Y.below hst'.out.at_ hV2.out) hlim.out ((j : Int) + 1)).mono ?_; rintro e V3 ⟨X3, S3, rfl, hA3, _, hb⟩; have hA3' := Lib.hid hA3; have hV3 := Lib.hid (hV2.out.trans (hb.mono hV2.out.size)); have hu3 := Lib.hid (own_below hu2.out hb); clear hA3 hb)
                      | (go_at_call 16; refine (tell_any Y hA1'.out ((cut_calm hcalm.out (j : Int)).lim (by omega)) rfl).mono ?_; rintro e V2 ⟨u2, rfl, hu, hb⟩; rw [(cut_calm hcalm.out (j : Int)).base] at hu; have hV2 := Lib.hid (hV1.out.trans (hb.mono hV1.out.size)); have hu2 := Lib.hid hu; clear hu hb)
                      | (go_at_call 10; refine (Y.cut hAi.out hlim.out (j : Int)).mono ?_; rintro e V1 ⟨X1, S1, rfl, hA1, _, hb⟩; have hA1' := Lib.hid hA1; have hV1 := Lib.hid (show Below w0.heap.size w0 V1 from (show Below w0.heap.size w0 wr.drew from draws hbi'.out 1).trans (hb.mono (show w0.heap.size ≤ wr.drew.heap.size from hbi'.out.size))); clear hA1 hb))
                  all_goals
                    go_wp2_with fail
                    go_roundw
                    case rel => exact ⟨j + 1, by omega, by go_num, hV5.out⟩
                    case measure => simp [intOf]; omega
                · have hjI : ¬ (j : Int) < (L : Int) := by omega
                  go_wp2_with fail
                  refine (hw'.out _).mono ?_
                  rintro e w' ⟨rfl, hb⟩
                  have hfin := Lib.hid (show Below w.heap.size w w' from hst'.out.below.trans ((hbi'.out.trans (hb.mono hbi'.out.size)).mono hst'.out.below.size))
                  clear hb
                  go_wp2_with fail
                  go_ret
                  exact ⟨rfl, hfin.out⟩
end Go.Proofs.Ytffenadibnehfaa
