/- Move, all of it; the way down a path: the document's. -/
import Derived.Test.YtiikakfdelkjhaaArnRm
namespace Go.Proofs.Ytiikakfdelkjhaa.Arn
open Go.RowKit
set_option maxRecDepth 20000
set_option linter.unusedVariables false

section
variable {w : World} {ow : Nat → Role} {P : Nat} {a : Av}
theorem gapE_ok {a : Av} {p : Nat} {i : Int} (h : gapE a p i = 0) : (a.dat p).leaf = false := by
  unfold gapE at h
  cases e : (a.dat p).leaf with
  | false => rfl
  | true => rw [e] at h; simp at h
theorem moveE_leaf {a : Av} {s p i : Int} (h : moveE a s p i = 0) : (a.dat p.toNat).leaf = false := by
  unfold moveE at h
  split at h
  · split at h
    · exact absurd h (by decide)
    · split at h
      · exact absurd h (by decide)
      · exact gapE_ok h
  · exact absurd h (by decide)
set_option maxHeartbeats 1000000 in
theorem rmove_any (h : RAr w ow P a) (hw : WF a) (hc : a.cnt < 100000) (s p i : Int) :
    Calls Try.prog 35 #[.pointer (some ⟨P, 0, none⟩), .int .i64 s, .int .i64 p, .int .i64 i] w fun e w' => e = .returned (.int .i64 (moveE a s p i)) ∧ RDid w w' ow P (moveR a s p i) := by
  have hD := Lib.hid (RDid.refl h)
  obtain ⟨g, sv, sc, fA, fc, h1⟩ := h
  by_cases h0 : moveE a s p i = 0
  · obtain ⟨x, q, k, y, j, rfl, rfl, rfl, hok, hR⟩ := moveE_ok hw h0
    have hlf := moveE_leaf h0
    rw [Int.toNat_natCast] at hlf
    rw [h0, hR]
    by_cases hqy : q = y
    · by_cases hkj : k < j
      · obtain ⟨j1, rfl⟩ : ∃ j1, j = j1 + 1 := ⟨j - 1, by omega⟩
        exact rmove_early h1 hw hc hok hlf hqy hkj
      · exact rmove_late h1 hw hc hok hlf hqy hkj
    · exact rmove_apart h1 hw hc hok hlf hqy
  · have hR := Lib.hid (show moveR a s p i = a by unfold moveR; rw [if_neg h0])
    have hw' := Lib.hid hw
    have h1' := Lib.hid h1
    rw [hR.out]
    cases hls : liveI a s with
    | false =>
      have hv := Lib.hid (moveE_dead (a := a) (s := s) (p := p) (i := i) fun e => by rw [hls] at e; exact absurd e.1 (by decide))
      have hls' := Lib.hid hls
      rw [hv.out]
      clear h1 hw hc h0 hls hR
      go_enter Try.func35, Try.ntmps35
      go_wp2_with (go_at_call 31; refine (rlive_any h1'.out hw'.out _).mono ?_; rintro e w7 ⟨rfl, rfl⟩; rw [hls'.out])
      go_ret
      exact ⟨rfl, hD.out⟩
    | true =>
      cases hlp : liveI a p with
      | false =>
        have hv := Lib.hid (moveE_dead (a := a) (s := s) (p := p) (i := i) fun e => by rw [hlp] at e; exact absurd e.2 (by decide))
        have hls' := Lib.hid hls
        have hlp' := Lib.hid hlp
        rw [hv.out]
        clear h1 hw hc h0 hls hlp hR
        go_enter Try.func35, Try.ntmps35
        go_wp2_with (go_at_call 31; refine (rlive_any h1'.out hw'.out _).mono ?_; rintro e w7 ⟨rfl, rfl⟩; first | rw [hls'.out] | rw [hlp'.out])
        go_ret
        exact ⟨rfl, hD.out⟩
      | true =>
        obtain ⟨x, rfl, hx⟩ := liveI_nat hls
        obtain ⟨y, rfl, hy⟩ := liveI_nat hlp
        by_cases hx0 : x = 0
        · subst hx0
          have hv := Lib.hid (moveE_root (a := a) (s := ((0 : Nat) : Int)) (p := (y : Int)) (i := i) ⟨hls, hlp⟩ rfl)
          have hls' := Lib.hid (show liveI a 0 = true from hls)
          have hlp' := Lib.hid hlp
          rw [hv.out]
          clear h1 hw hc h0 hls hlp hR hx hy
          go_enter Try.func35, Try.ntmps35
          go_wp2_with (go_at_call 31; refine (rlive_any h1'.out hw'.out _).mono ?_; rintro e w7 ⟨rfl, rfl⟩; first | rw [hls'.out] | rw [hlp'.out])
          go_ret
          exact ⟨rfl, hD.out⟩
        · have hx0I : ((x : Int) == 0) = false := by simpa using hx0
          have hls' := Lib.hid hls
          have hlp' := Lib.hid hlp
          have hpre := preV_spec hw hx
          have hll := Lib.hid (Nat.le_trans (hw.pre_len hpre hx) h1.small)
          have hsub := Lib.hid (fun W (hbw : Below w.heap.size w W) => rsubtree_any (h1.below hbw) hw.lv hx hpre hll.out)
          have hyl := hw.lt hy
          have hF := Lib.hid (fun W (hbw : Below w.heap.size w W) => And.intro (h1.below hbw).head_cells.1 (And.intro ((h1.below hbw).eight hyl).2.2.1 ((h1.below hbw).eight hyl).2.2.2.2.2.2.2))
          by_cases hd : Dn a.par x y
          · have hv := Lib.hid (moveE_cycle (a := a) (s := x) (p := y) (i := i) ⟨hls, hlp⟩ hx0 hd)
            have hym := (hw.pre_iff hpre hx y).2 ⟨hy, hd⟩
            obtain ⟨k, hk⟩ := List.mem_iff_getElem?.1 hym
            have hk' := Lib.hid hk
            have hnk := Lib.hid (nodup_idx (hw.nodup1 hpre hx) hk)
            obtain ⟨l, hl⟩ : ∃ l, l = preV a x := ⟨_, rfl⟩
            rw [← hl] at hll hsub hk' hnk
            have hkI : (0 : Int) ≤ (k : Int) := by omega
            rw [hv.out]
            clear h1 hw hc h0 hls hlp hR hx hy hpre hd hl hym hk hx0
            go_enter Try.func35, Try.ntmps35
            go_wp2_with (first
              | (go_at_call 31; refine (rlive_any h1'.out hw'.out _).mono ?_; rintro e w7 ⟨rfl, rfl⟩; first | rw [hls'.out] | rw [hlp'.out])
              | (go_at_call 51; refine (hsub.out _ (Below.refl _ _)).mono ?_; rintro e w2 ⟨gA, gc, rfl, hn2⟩; have hn2' := Lib.hid hn2; clear hn2)
              | (go_at_call 52; refine (place_in _ gA l.length gc l y k hn2'.out.own.ns (by have := hll.out; omega) hk'.out hnk.out).mono ?_; rintro e w7 ⟨rfl, rfl⟩))
            go_ret
            exact ⟨rfl, hD.out.then_ hn2'.out.bel⟩
          · have hv := Lib.hid (moveE_gap (a := a) (s := x) (p := y) (i := i) ⟨hls, hlp⟩ hx0 hd)
            have hnot := Lib.hid (show y ∉ preV a x from fun hm => hd ((hw.pre_iff hpre hx y).1 hm).2)
            obtain ⟨l, hl⟩ : ∃ l, l = preV a x := ⟨_, rfl⟩
            rw [← hl] at hll hsub hnot
            have hcap := h1.cap
            have hcm := h1.capm
            have hsm := h1.small
            have hkl := h1.ksmall y
            have hyI : (y : Int) < (a.cnt : Int) := by omega
            obtain ⟨m, hm⟩ : ∃ m, m = (a.kids y).length := ⟨_, rfl⟩
            have hm' := Lib.hid hm
            rw [← hm] at hkl
            rw [hv.out]
            rw [hv.out] at h0
            cases hlf : (a.dat y).leaf with
            | true =>
              have hg := Lib.hid (show gapE a y i = 83 by unfold gapE; rw [hlf]; rfl)
              have hlf' := Lib.hid hlf
              rw [hg.out]
              clear h1 hw hc h0 hls hlp hR hx hy hpre hd hl hlf hx0 hv hm
              go_enter Try.func35, Try.ntmps35
              go_wp2_with (first
                | (go_at_call 31; refine (rlive_any h1'.out hw'.out _).mono ?_; rintro e w7 ⟨rfl, rfl⟩; first | rw [hls'.out] | rw [hlp'.out])
                | (go_at_call 51; refine (hsub.out _ (Below.refl _ _)).mono ?_; rintro e w2 ⟨gA, gc, rfl, hn2⟩; obtain ⟨c0, c2, c7⟩ := hF.out _ hn2.bel; rw [hlf'.out] at c2; rw [← hm'.out] at c7; have hn2' := Lib.hid hn2; clear hn2)
                | (go_at_call 52; refine (place_none _ gA l.length gc l y hn2'.out.own.ns (by have := hll.out; omega) hnot.out).mono ?_; rintro e w7 ⟨rfl, rfl⟩))
              go_ret
              exact ⟨rfl, hD.out.then_ hn2'.out.bel⟩
            | false =>
              have hlf' := Lib.hid hlf
              by_cases hi : i < 0
              · have hg := Lib.hid (show gapE a y i = 81 by unfold gapE; rw [hlf]; simp [hi])
                rw [hg.out]
                clear h1 hw hc h0 hls hlp hR hx hy hpre hd hl hlf hx0 hv hm
                go_enter Try.func35, Try.ntmps35
                go_wp2_with (first
                  | (go_at_call 31; refine (rlive_any h1'.out hw'.out _).mono ?_; rintro e w7 ⟨rfl, rfl⟩; first | rw [hls'.out] | rw [hlp'.out])
                  | (go_at_call 51; refine (hsub.out _ (Below.refl _ _)).mono ?_; rintro e w2 ⟨gA, gc, rfl, hn2⟩; obtain ⟨c0, c2, c7⟩ := hF.out _ hn2.bel; rw [hlf'.out] at c2; rw [← hm'.out] at c7; have hn2' := Lib.hid hn2; clear hn2)
                  | (go_at_call 52; refine (place_none _ gA l.length gc l y hn2'.out.own.ns (by have := hll.out; omega) hnot.out).mono ?_; rintro e w7 ⟨rfl, rfl⟩))
                go_ret
                exact ⟨rfl, hD.out.then_ hn2'.out.bel⟩
              · have hi2 : (m : Int) < i := by
                  rcases Int.lt_or_le (m : Int) i with e | e
                  · exact e
                  · exfalso
                    apply h0
                    unfold gapE
                    rw [hlf, ← hm]
                    simp [hi]
                    omega
                have hg := Lib.hid (show gapE a y i = 81 by unfold gapE; rw [hlf, ← hm]; simp [hi2])
                rw [hg.out]
                clear h1 hw hc h0 hls hlp hR hx hy hpre hd hl hlf hx0 hv hm
                go_enter Try.func35, Try.ntmps35
                go_wp2_with (first
                  | (go_at_call 31; refine (rlive_any h1'.out hw'.out _).mono ?_; rintro e w7 ⟨rfl, rfl⟩; first | rw [hls'.out] | rw [hlp'.out])
                  | (go_at_call 51; refine (hsub.out _ (Below.refl _ _)).mono ?_; rintro e w2 ⟨gA, gc, rfl, hn2⟩; obtain ⟨c0, c2, c7⟩ := hF.out _ hn2.bel; rw [hlf'.out] at c2; rw [← hm'.out] at c7; have hn2' := Lib.hid hn2; clear hn2)
                  | (go_at_call 52; refine (place_none _ gA l.length gc l y hn2'.out.own.ns (by have := hll.out; omega) hnot.out).mono ?_; rintro e w7 ⟨rfl, rfl⟩))
                go_ret
                exact ⟨rfl, hD.out.then_ hn2'.out.bel⟩
end
end Go.Proofs.Ytiikakfdelkjhaa.Arn
