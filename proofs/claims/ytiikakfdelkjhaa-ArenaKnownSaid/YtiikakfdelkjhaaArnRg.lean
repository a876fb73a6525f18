/- Remove: the document's. -/
import Derived.Test.YtiikakfdelkjhaaArnRf
import Derived.Deep.RegionLaw
namespace Go.Proofs.Ytiikakfdelkjhaa.Arn
open Go.RowKit
set_option maxRecDepth 20000
set_option linter.unusedVariables false

theorem WF.cut_lv {a : Av} (h : WF a) (q k : Nat) : Lv (cutV a q k) := ⟨fun _ hi => h.lt hi, fun i j hj => by
  rcases cut_kids a q k i with ⟨rfl, e⟩ | ⟨_, e⟩
  · rw [e] at hj
    refine (h.kid (i := i) ?_).1
    unfold cutL at hj
    rcases List.mem_append.1 hj with hj | hj
    · exact List.mem_of_mem_take hj
    · exact List.mem_of_mem_drop hj
  · rw [e] at hj
    exact (h.kid hj).1⟩
section
variable {w : World} {ow : Nat → Role} {P : Nat} {a : Av}
set_option maxHeartbeats 4000000 in
theorem rremove_any (h : RAr w ow P a) (hw : WF a) (hc : a.cnt < 100000) (s : Int) :
    Calls Try.prog 34 #[.pointer (some ⟨P, 0, none⟩), .int .i64 s] w fun e w' => e = .returned (.int .i64 (removeE a s)) ∧ RDid w w' ow P (removeR a s) := by
  have hD := Lib.hid (RDid.refl h)
  obtain ⟨g, sv, sc, fA, fc, h1⟩ := h
  have hw' := Lib.hid hw
  have h1' := Lib.hid h1
  cases hlv : liveI a s with
  | false =>
    have hE := Lib.hid (show removeE a s = 5 by unfold removeE; rw [hlv]; rfl)
    have hR := Lib.hid (show removeR a s = a by unfold removeR; rw [if_neg (by rw [hE.out]; decide)])
    have hlv' := Lib.hid hlv
    clear h1 hw hlv
    go_enter Try.func34, Try.ntmps34
    go_wp2_with (refine (rlive_any h1'.out hw'.out s).mono ?_; rintro e w7 ⟨rfl, rfl⟩; rw [hlv'.out])
    go_ret
    rw [hE.out, hR.out]
    exact ⟨rfl, hD.out⟩
  | true =>
    obtain ⟨x, rfl, hx⟩ := liveI_nat hlv
    have hlv' := Lib.hid hlv
    by_cases hx0 : x = 0
    · subst hx0
      have hE := Lib.hid (show removeE a ((0 : Nat) : Int) = 82 by unfold removeE; rw [hlv]; rfl)
      have hR := Lib.hid (show removeR a ((0 : Nat) : Int) = a by unfold removeR; rw [if_neg (by rw [hE.out]; decide)])
      clear h1 hw hlv hx
      go_enter Try.func34, Try.ntmps34
      go_wp2_with (refine (rlive_any h1'.out hw'.out ((0 : Nat) : Int)).mono ?_; rintro e w7 ⟨rfl, rfl⟩; rw [hlv'.out])
      go_ret
      rw [hE.out, hR.out]
      exact ⟨rfl, hD.out⟩
    · have h0 : removeE a (x : Int) = 0 := by unfold removeE; rw [hlv]; simp [hx0]
      obtain ⟨x', q, k, hxx, -, -, hq, hlq, hidx, hR⟩ := removeE_ok hw h0
      obtain rfl : x' = x := by omega
      have hE' := Lib.hid h0
      have hR' := Lib.hid hR
      have hq' := Lib.hid hq
      have hlq' := Lib.hid hlq
      have hx' := Lib.hid hx
      have hi' := Lib.hid hidx
      have hpre := preV_spec hw hx
      have hp1 := Lib.hid (hw.pre_cut (i := k) hx hq hpre).1
      have hll := hw.pre_len hpre hx
      have hmem := Lib.hid (fun y (hy : y ∈ preV a x') => hw.lt ((hw.pre_iff hpre hx y).1 hy).1)
      have hwr := Lib.hid (hw.remove hx hx0 hidx hpre).free_len
      have hlvc := Lib.hid (hw.cut_lv q k)
      obtain ⟨l, hl⟩ : ∃ l, l = preV a x' := ⟨_, rfl⟩
      rw [← hl] at hp1 hll hmem hR' hwr
      have hc' := Lib.hid hc
      have hll3 := Lib.hid (show l.length ≤ 100000 by omega)
      have hx0I : ((x' : Int) == 0) = false := by simpa using hx0
      clear h1 hR hw h0 hx hx0 hq hlq hidx hpre hll hl hc hlv hxx
      go_enter Try.func34, Try.ntmps34
      go_wp2_with (first
        | (go_at_call 31; refine (rlive_any h1'.out hw'.out (x' : Int)).mono ?_; rintro e w7 ⟨rfl, rfl⟩; rw [hlv'.out])
        | (go_at_call 50; refine (unlink_any h1'.out hw'.out hx'.out hlq'.out hq'.out hi'.out).mono ?_; rintro e w1 ⟨rfl, ow1, ⟨g1, sv1, sc1, fA1, fc1, h2⟩, hr1, hf1⟩; have h2' := Lib.hid h2; have hr1' := Lib.hid hr1; have hf1' := Lib.hid hf1; clear h2 hr1 hf1)
        | (go_at_call 51; refine (rsubtree_any h2'.out hlvc.out (show (cutV a q k).live x' = true from hx'.out) hp1.out hll3.out).mono ?_; rintro e w2 ⟨gA, gc, rfl, hn2⟩; have h3' := Lib.hid (h2'.out.below hn2.bel); have hn2' := Lib.hid hn2; clear hn2))
      obtain ⟨n, hn⟩ : ∃ n, n = l.length := ⟨_, rfl⟩
      have hn' := Lib.hid hn
      rw [← hn] at hn2' hll3
      rw [← hn]
      have hgcap := hn2'.out.own.blk.2.1
      have hgcm := hn2'.out.own.blk.2.2.1
      have hn3 := hll3.out
      clear hn
      have hrow0 := Lib.hid hn2'.out.own
      have hoff := Lib.hid (fun ad (e : gA = some ad) => show ow1 ad.block = .off from by
        cases h : ow1 ad.block with
        | off => rfl
        | _ => have h5 := h2'.out.low ad.block (by rw [h]; simp); have h6 := hn2'.out.new ad e; omega)
      have hgl := Lib.hid (fun ad (e : gA = some ad) => show ad.block < w2.heap.size from by subst e; exact (World.ownsRow.lt hrow0.out ad.block rfl).2)
      have hst : Hid (RDid w2 w2 ow1 P (freeV (deadsV (cutV a q k) (l.take 0)) (l.take 0))) := Lib.hid (by
        have e : freeV (deadsV (cutV a q k) (l.take 0)) (l.take 0) = cutV a q k := by unfold freeV deadsV; simp
        rw [e]
        exact RDid.refl ⟨_, _, _, _, _, h3'.out⟩)
      have hflen : Hid (∀ j y, j < n → (deadV (freeV (deadsV (cutV a q k) (l.take j)) (l.take j)) y).free.length < 100000) := Lib.hid (fun j y hj => by
        have e1 : (deadsV (cutV a q k) (l.take j)).free = a.free := (deads_at (l.take j) (cutV a q k) 0).2.2.2
        have e2 : (deadV (freeV (deadsV (cutV a q k) (l.take j)) (l.take j)) y).free = (deadsV (cutV a q k) (l.take j)).free ++ l.take j := rfl
        have e3 : (removeV a q k l).free = (deadsV (cutV a q k) l).free ++ l := rfl
        have e4 : (deadsV (cutV a q k) l).free = a.free := (deads_at l (cutV a q k) 0).2.2.2
        have e5 : (removeV a q k l).cnt = a.cnt := (deads_at l (cutV a q k) 0).2.2.1
        have h9 := hwr.out
        rw [e3, e4, e5, List.length_append] at h9
        rw [e2, e1, List.length_append, List.length_take]
        have := hn'.out
        have := hc'.out
        omega)
      go_loopw [6] (fun i wr => ∃ j : Nat, j ≤ n ∧ i = .int .i64 (j : Int) ∧ RDid w2 wr ow1 P (freeV (deadsV (cutV a q k) (l.take j)) (l.take j)) ∧ OwnN wr (.slice gA n gc) l) (fun i _ => n - (intOf i).toNat)
      case atStart => exact ⟨0, Nat.zero_le _, rfl, hst.out, hrow0.out⟩
      case round =>
        obtain ⟨j, hj, rfl, hDj, hrow⟩ := hrel
        have hDj' := Lib.hid hDj
        have hrow' := Lib.hid hrow
        clear hDj hrow
        by_cases hjn : j < n
        · obtain ⟨y, hy⟩ : ∃ y, l[j]? = some y := ⟨_, List.getElem?_eq_getElem (by have := hn'.out; omega)⟩
          obtain ⟨gl, hg, hgc⟩ := hrow'.out.at_ hy
          subst hg
          unfold natV at hgc
          obtain ⟨ow2, ⟨g2, sv2, sc2, fA2, fc2, h4⟩, hr2, hf2⟩ := hDj'.out
          have hcnt : (freeV (deadsV (cutV a q k) (l.take j)) (l.take j)).cnt = a.cnt := (deads_at (l.take j) (cutV a q k) 0).2.2.1
          have hyc : y < (freeV (deadsV (cutV a q k) (l.take j)) (l.take j)).cnt := by rw [hcnt]; exact hmem.out y (List.mem_of_getElem? hy)
          have hD5 := Lib.hid (rdead h4 hyc)
          have hstep := Lib.hid (show l.take (j + 1) = l.take j ++ [y] by rw [List.take_add_one, hy]; rfl)
          have hfl := Lib.hid (hflen.out j y hjn)
          obtain ⟨b, hb⟩ : ∃ b, b = freeV (deadsV (cutV a q k) (l.take j)) (l.take j) := ⟨_, rfl⟩
          rw [← hb] at h4 hyc hD5 hfl
          have hb' := Lib.hid hb
          obtain ⟨c0, -, -⟩ := h4.head_cells
          obtain ⟨z0, z1, z2, z3, z4, z5, z6, z7⟩ := h4.eight hyc
          have zf := h4.frz
          have hcap2 := h4.cap
          have hcm2 := h4.capm
          have hsm2 := h4.small
          have h4' := Lib.hid h4
          have hr2' := Lib.hid hr2
          have hf2' := Lib.hid hf2
          have hjI : (j : Int) < (n : Int) := by omega
          have hyI : (y : Int) < (b.cnt : Int) := by omega
          clear h4 hr2 hf2 hcnt hy hb
          go_wp2_with fail
          rename_i K1 hK1
          go_region
          refine hK1 _ _ ?_
          clear hK1
          clear c0 z0 z1 z2 z3 z4 z5 z6 z7 zf
          obtain ⟨W5, hW5⟩ : ∃ W5, W5 = (eight wr g2 (y * 8) (.bool false) (.int .u64 0) (.bool false) (.string ⟨#[]⟩) (.slice none 0 0) (.string ⟨#[]⟩) (.int .i64 0) (.slice none 0 0)).drew := ⟨_, rfl⟩
          have hW5' := hW5
          unfold eight at hW5'
          rw [← hW5']
          rw [← hW5] at hD5
          clear hW5 hW5'
          obtain ⟨ow5, ⟨g5, sv5, sc5, fA5, fc5, h5⟩, hr5, hf5⟩ := hD5.out
          obtain ⟨i0, hi0, hz0, hz1, hz2⟩ := info_parts Try.info3
          have hi0' := Lib.hid hi0
          have hz0' := Lib.hid hz0
          have hz1' := Lib.hid hz1
          have hz2' := Lib.hid hz2
          have hglt : gl < w2.heap.size := hgl.out _ rfl
          have hrow5 := Lib.hid (hrow'.out.kept (w' := W5) fun ad e => hf5.block _ (Nat.lt_of_lt_of_le (hgl.out ad e) hf2'.out.size) fun hp => by
            rw [hr2'.out _ (hgl.out ad e), hoff.out ad e] at hp
            exact hp)
          have hgc5 : W5.cell? ⟨gl, j, none⟩ = some (.int .i64 (y : Int)) := (World.cell?_of_block (w := wr) (w' := W5) (a := ⟨gl, j, none⟩) (hf5.block gl (Nat.lt_of_lt_of_le hglt hf2'.out.size) fun hp => by
            rw [hr2'.out _ hglt, hoff.out _ rfl] at hp
            exact hp)).trans hgc
          clear hgc
          obtain ⟨-, c1, cf⟩ := h5.head_cells
          have hown5 := Lib.hid h5.free
          obtain ⟨N, hN⟩ : ∃ N, N = (deadV b y).free.length := ⟨_, rfl⟩
          have hfl5 := hfl.out
          rw [← hN] at c1 hown5 hfl5
          have hN' := Lib.hid hN
          have h5' := Lib.hid h5
          have hr5' := Lib.hid hr5
          have hf5' := Lib.hid hf5
          have hbd := Lib.hid (show N + 1 ≤ maxLen ∧ (N + 1) * 8 ≤ 140737488355328 by unfold maxLen; omega)
          have hrow2 := Lib.hid (fun o => (show ((W5.alloc o).drew).ownsRow 0 3 1 (.slice fA5 N fc5) N (nums (deadV b y).free) from by have := World.ownsRow.alloc hown5.out o; rw [hN'.out]; rw [hN'.out] at this; exact this))
          have hnews := Lib.hid (show ∀ (j : Nat) (u : Value), [Value.int .i64 (y : Int)][j]? = some u → ((W5.alloc (.cells #[.int .i64 (y : Int)] 3)).drew).cell? ((⟨W5.heap.size, 0, none⟩ : Addr).add j) = some u from fun j u hj => cell_one_new W5 _ _ j u hj)
          have hone := Lib.hid (show ∀ u ∈ [Value.int .i64 (y : Int)], u.oneCell' = true by intro u hu; simp at hu; subst hu; rfl)
          have kkeep := Lib.hid (show ∀ (w4 : World) o, ((W5.alloc o).drew).grownBy w4 (Value.slice fA5 N fc5).ownBlock → w4.cell? ⟨P, 1, none⟩ = some (.slice fA5 N fc5) ∧ (∀ o, w4.frozen? ⟨P, o, none⟩ = false) ∧ w4.cell? ⟨gl, j, none⟩ = some (.int .i64 (y : Int)) from fun w4 o hg4 => by
            have hPl : P < W5.heap.size := (Array.getElem?_eq_some_iff.1 h5'.out.head).1
            have hP4 := (hg4.block P (by simp; omega) (fun e => by
              obtain ⟨ad, e1, e2⟩ := own_block e.symm
              have := h5'.out.rFree ad e1
              rw [← e2, h5'.out.rP] at this
              cases this)).trans ((Go.heap_alloc_old W5 o hPl).trans h5'.out.head)
            have hgl5 : gl < W5.heap.size := Nat.lt_of_lt_of_le (Nat.lt_of_lt_of_le hglt hf2'.out.size) hf5'.out.size
            refine ⟨by rw [hN'.out]; exact cell_of_row w4 P 1 _ _ _ hP4, fun o => frozen_of_row w4 P o _ _ hP4, (World.cell?_of_block (w := W5) (w' := w4) (a := ⟨gl, j, none⟩) ((hg4.block gl (by simp; omega) (fun e => by
              obtain ⟨ad, e1, e2⟩ := own_block e.symm
              have h8 := h5'.out.rFree ad e1
              rw [← e2, hr5'.out _ (Nat.lt_of_lt_of_le hglt hf2'.out.size), hr2'.out _ hglt, hoff.out _ rfl] at h8
              cases h8)).trans (Go.heap_alloc_old W5 o hgl5))).trans hgc5⟩)
          have hP5 : P < W5.heap.size := (Array.getElem?_eq_some_iff.1 h5.head).1
          clear hi0 hz0 hz1 hz2 h5 hr5 hf5 hN
          rename_i K2 hK2
          have C1 : (W5.alloc (.cells #[.int .i64 (y : Int)] 3)).cell? ⟨P, 1, none⟩ = some (.slice fA5 N fc5) := (((Below.refl W5.heap.size W5).alloc (Nat.le_refl _) _).cell (p := ⟨P, 1, none⟩) hP5).trans c1
          go_region_law
            ((refine step_append_lies _ (by rfl) (.tmp 39) (.tmp 44) 33 (by rfl) 0 3 i0 (.int .i64 0) 1 8 Try.underlying33 hi0'.out hz0'.out hz1'.out hz2'.out rfl (by decide) (.slice fA5 N fc5) N (nums (deadV b y).free) (by rfl) (hrow2.out _)
                ⟨W5.heap.size, 0, none⟩ 1 1 [.int .i64 (y : Int)] (by rfl) (by rfl) hnews.out hone.out
                (by decide) hbd.out.1 hbd.out.2 (Nat.zero_le _) (W5.heap.size + 1) (by simp) ?_; intro g9 cap9 w4 ho4 hg4 hat hlt4; have q1 := kkeep.out w4 _ hg4; have c4 := q1.1; have f4 := q1.2.1; have ho4' := Lib.hid ho4; have hg4' := Lib.hid hg4; have hat' := Lib.hid hat; have hlt4' := Lib.hid hlt4; clear ho4 hg4 hat hlt4 q1))
          all_goals (
            refine hK2 _ _ ?_
            clear hK2 c1 cf C1 hgc5
            go_wp2_with fail
            have hE6 := rfree_grown h5'.out (y := y) (by rw [← hN'.out]; exact hfl5) (w4 := w4) (g' := g9) (cap := cap9) (by rw [← hN'.out]; exact ho4'.out) (by rw [← hN'.out]; exact hg4'.out) (by rw [← hN'.out]; exact hat'.out) hlt4'.out
            rw [← hN'.out] at hE6
            have hE7 := Lib.hid (RDid.after hr2'.out hf2'.out (RDid.after hr5'.out hf5'.out hE6.2.2))
            obtain ⟨W6, hW6⟩ : ∃ W6, W6 = w4.setCell ⟨P, 1, none⟩ (.slice (some ⟨g9, 0, none⟩) (N + 1) cap9) := ⟨_, rfl⟩
            rw [← hW6] at hE7 ⊢
            clear hE6 hW6
            go_roundw
            case rel =>
              refine ⟨j + 1, by omega, by go_num, ?_, ?_⟩
              · rw [hstep.out, ← dead_free, ← hb'.out]
                exact hE7.out
              · obtain ⟨ow7, _, hr7, hf7⟩ := hE7.out
                refine hrow0.out.kept fun ad e => hf7.block _ (hgl.out ad e) fun hp => ?_
                rw [hoff.out ad e] at hp
                exact hp
            case measure => simp [intOf]; omega)
        · have hjI : ¬ (j : Int) < (n : Int) := by omega
          have hjn' : n ≤ j := by omega
          have hall : Hid (RDid w2 wr ow1 P (removeV a q k l)) := Lib.hid (by have := hDj'.out; rw [List.take_of_length_le (by have := hn'.out; omega)] at this; exact this)
          clear hjn
          go_wp2_with fail
          go_ret
          rw [hE'.out, hR'.out]
          exact ⟨rfl, RDid.after hr1'.out hf1'.out (RDid.after (fun k _ => rfl) (FrX.of_below hn2'.out.bel) hall.out)⟩
end
end Go.Proofs.Ytiikakfdelkjhaa.Arn
