/- SectorsPlays, over any disk of the program's. -/
import Derived.Test.YtffenadibnehfaaSecLawE
import Derived.Deep.RegionLaw
import Derived.Deep.CutRange
import Derived.Deep.RegionHeld3
namespace Go.Proofs.Ytffenadibnehfaa
open Go.RowKit

/-- how far a disk has gone behind so many calls -/
structure Far (d : RD) (k : Nat) : Prop where
  base : d.base.length ≤ 20000
  wr : d.wr.length ≤ k
  low : -9223372036854775808 ≤ d.left
  high : d.left ≤ 9223372036854775807
  armed : d.armed = true → 0 ≤ d.left
theorem Far.lim {d : RD} {k : Nat} (h : Far d k) (hk : k ≤ 1000) : Lim d := ⟨h.base, by have := h.wr; omega, h.low, h.high⟩
theorem writeV_far {d : RD} {k : Nat} (h : Far d k) (i : Int) (b : List UInt8) : Far (writeV d i b).2 (k + 1) := by
  have h1 : Far d (k + 1) := ⟨h.base, by have := h.wr; omega, h.low, h.high, h.armed⟩
  unfold writeV
  split
  · split
    · exact h1
    · split
      · exact ⟨h1.base, h1.wr, h1.low, h1.high, fun e => by cases e⟩
      · rename_i hn
        have hw := h.wr
        unfold takenIn
        split
        · rename_i ha
          have h0 := h.armed ha
          have hne : d.left ≠ 0 := fun e => hn ⟨ha, e⟩
          have hh := h.high
          refine ⟨h.base, ?_, ?_, ?_, fun _ => ?_⟩
          · simp [wrote]; exact hw
          · show _ ≤ d.left - 1; omega
          · show d.left - 1 ≤ _; omega
          · show 0 ≤ d.left - 1; omega
        · refine ⟨h.base, ?_, h.low, h.high, h.armed⟩
          simp [wrote]; exact hw
  · exact h1
theorem doV_far {d : RD} {k : Nat} (h : Far d k) (x : CX) (h0 : -9223372036854775808 ≤ x.i) (h1 : x.i ≤ 9223372036854775807) : Far (doV d x) (k + 1) := by
  have hk : Far d (k + 1) := ⟨h.base, by have := h.wr; omega, h.low, h.high, h.armed⟩
  unfold doV
  split
  · exact hk
  · split
    · exact ⟨hk.base, hk.wr, h0, h1, fun e => of_decide_eq_true e⟩
    · split
      · exact ⟨hk.base, hk.wr, hk.low, hk.high, fun e => by cases e⟩
      · split
        · exact ⟨hk.base, hk.wr, hk.low, hk.high, fun e => by cases e⟩
        · split
          · refine ⟨?_, Nat.zero_le _, hk.low, hk.high, hk.armed⟩
            show (atsV d d.wr.length d.base.length).length ≤ 20000
            rw [atsV_len]
            exact h.base
          · exact writeV_far h x.i x.b
theorem cutV_far {d : RD} {k : Nat} (h : Far d k) (j : Int) : Far (cutV d j) k := by
  refine ⟨?_, Nat.zero_le _, by show (-9223372036854775808 : Int) ≤ 0; omega, by show (0 : Int) ≤ 9223372036854775807; omega, fun e => by cases e⟩
  show (atsV d (kept d j) d.base.length).length ≤ 20000
  rw [atsV_len]
  exact h.base
theorem newV_far (s : Int) (k : Nat) : Far (newV s) k := by
  refine ⟨?_, Nat.zero_le _, by show (-9223372036854775808 : Int) ≤ 0; omega, by show (0 : Int) ≤ 9223372036854775807; omega, fun e => by cases e⟩
  show (List.replicate (newN s) (secL [])).length ≤ 20000
  rw [List.length_replicate]
  unfold newN
  omega

section
variable {Y : Sys} {w W1 W : World} {S S1 : Nat → Prop} {B p B2 m X X2 : Nat} {d : RD} {i : Int}
/-- both cut, the program's first -/
theorem both_cut (ha : Y.At W1 S1 w.heap.size X (cutV d i)) (hr : RefAt W W1.heap.size X2 (cutV d i)) (hb : Below W1.heap.size W1 W) : Both Y W S1 w.heap.size X (cutV d i) W1.heap.size X2 (cutV d i) :=
  ⟨Y.kept ha fun k hk => hb.block k (Y.lt ha k hk), hr, fun k hk e => by have := Y.lt ha k hk; have := (baseOf_lt hr e).1; omega⟩
/-- both cut, the document's first -/
theorem both_cut' (hr : RefAt W1 w.heap.size X2 (cutV d i)) (ha : Y.At W S1 W1.heap.size X (cutV d i)) (hs : ∀ k, S1 k → k < w.heap.size ∨ W1.heap.size ≤ k) (hb : Below W1.heap.size W1 W) : Both Y W S1 W1.heap.size X (cutV d i) w.heap.size X2 (cutV d i) := by
  refine ⟨ha, hr.below hb, fun k hk e => ?_⟩
  rw [baseOf_kept (hb.block X2 hr.lt)] at e
  have := baseOf_lt hr e
  rcases hs k hk with h | h <;> omega
end

/-- where the law stands behind q calls -/
def Stand (Y : Sys) (w wr : World) (q : Nat) (vp vq : Value) : Prop :=
  ∃ (S : Nat → Prop) (B p B2 m : Nat) (d : RD), vp = .pointer (some ⟨p, 0, none⟩) ∧ vq = .pointer (some ⟨m, 0, none⟩) ∧ Both Y wr S B p d B2 m d ∧ Far d q ∧ w.heap.size ≤ B ∧ w.heap.size ≤ B2 ∧ B ≤ wr.heap.size ∧ B2 ≤ wr.heap.size ∧ Below w.heap.size w wr

set_option maxRecDepth 20000 in
set_option maxHeartbeats 64000000 in
theorem plays_any (Y : Sys) (hworks : ∀ w, Calls Try.prog 7 #[] w fun e w' => e = .returned (.bool true) ∧ Below w.heap.size w w') (s : Int) (A : Option Addr) (n c : Nat) (xs : List CX) (w : World) (hx : CallsIn w A n xs) (hnm : n ≤ maxLen) :
    Calls Try.prog 3 #[.int .i64 s, .slice A n c] w fun e w' => e = .returned (.bool true) ∧ Below w.heap.size w w' := by
  have hx' := Lib.hid hx
  have hlen := hx.1
  have hw' := Lib.hid hworks
  clear hx hworks
  cases hlg : largeV xs with
  | true =>
    have hla := Lib.hid (large_any w A n c xs hx'.out hnm)
    go_enter Try.func3, Try.ntmps3
    go_wp2_with fail
    refine hla.out.mono ?_
    rintro e w' ⟨rfl, rfl⟩
    rw [hlg]
    go_wp2_with fail
    refine (hw'.out _).mono ?_
    rintro e w' ⟨rfl, hb⟩
    go_wp2_with fail
    go_ret
    exact ⟨rfl, hb⟩
  | false =>
    have hla := Lib.hid (large_any w A n c xs hx'.out hnm)
    have hn60 : n ≤ 60 := by
      unfold largeV at hlg
      rw [hlen] at hlg
      simp at hlg
      omega
    by_cases hs : (30 : Int) < s
    · go_enter Try.func3, Try.ntmps3
      go_wp2_with fail
      refine hla.out.mono ?_
      rintro e w' ⟨rfl, rfl⟩
      rw [hlg]
      go_wp2_with fail
      refine (hw'.out _).mono ?_
      rintro e w' ⟨rfl, hb⟩
      go_wp2_with fail
      go_ret
      exact ⟨rfl, hb⟩
    · go_enter Try.func3, Try.ntmps3
      go_wp2_with fail
      refine hla.out.mono ?_
      rintro e w' ⟨rfl, rfl⟩
      rw [hlg]
      go_wp2_with fail
      refine (Y.new_ w s).mono ?_
      rintro e w1 ⟨p, S, rfl, hat, hS, hb1⟩
      go_wp2_with fail
      refine (new_any w1 s).mono ?_
      rintro e w2 ⟨m, rfl, href, hb2⟩
      have hst := Lib.hid (show Stand Y w w2 0 (.pointer (some ⟨p, 0, none⟩)) (.pointer (some ⟨m, 0, none⟩)) from
        ⟨S, w.heap.size, p, w1.heap.size, m, newV s, rfl, rfl, ⟨Y.kept hat fun k hk => hb2.block k (Y.lt hat k hk), href, fun k hk e => by have := Y.lt hat k hk; have := (baseOf_lt href e).1; omega⟩, newV_far s 0, Nat.le_refl _, hb1.size, Nat.le_trans hb1.size hb2.size, hb2.size, hb1.trans (hb2.mono hb1.size)⟩)
      clear hat hS href hla
      go_wp2_with fail
      go_loopw [5, 6, 7] (fun vp vq k wr => ∃ q : Nat, q ≤ n ∧ k = .int .i64 (q : Int) ∧ Stand Y w wr q vp vq) (fun _ _ k _ => n - (intOf k).toNat)
      case atStart => exact ⟨0, Nat.zero_le _, rfl, hst.out⟩
      case round =>
        obtain ⟨q, hq, rfl, S, B, p, B2, m, d, rfl, rfl, hBo, hFa, hB0, hB20, hBr, hB2r, hbel⟩ := hrel
        clear hst hb1 hb2
        have hBo' := Lib.hid hBo
        have hFa' := Lib.hid hFa
        have hbel' := Lib.hid hbel
        clear hBo hFa hbel
        by_cases h1 : q < n
        · have hlt : q < xs.length := by omega
          have hxq : xs[q]? = some xs[q] := List.getElem?_eq_getElem hlt
          obtain ⟨ad, rfl, hadl, hk8, hi0, hi1, e0, e1, A3, n3, c3, e2, hB3, hn3, hc3, hA3⟩ := hx'.out.2 q _ hxq
          generalize xs[q] = x at *
          have hadl' : (ad.add (q * 3)).block < w.heap.size := by rw [block_add]; exact hadl
          have hqI : (q : Int) < (n : Int) := by omega
          have hq0 : (0 : Int) ≤ (q : Int) := Int.natCast_nonneg _
          obtain ⟨r, hr⟩ : ∃ r, x.kind % 18 = r := ⟨_, rfl⟩
          have m18 : (x.kind : Int).tmod 18 = (r : Int) := by rw [Int.tmod_eq_emod_of_nonneg (by omega)]; omega
          have hb3' := Lib.hid hB3
          have hA' : ∀ ad', A3 = some ad' → 0 < n3 → ad'.block < w.heap.size := fun ad' ea h0 => by
            obtain ⟨a9, c9, e9, _, h9⟩ := hB3.at_ h0
            have hl9 := World.block_lt_of_cell? w _ h9
            rw [e9] at ea
            injection ea with ea
            subst ea
            rwa [block_add] at hl9
          have hA'' := Lib.hid hA'
          -- the cells of the call, wherever nothing that came in has been turned
          have eK := Lib.hid (show ∀ W, Below w.heap.size w W → W.cell? (ad.add (q * 3)) = some (.int .u8 (x.kind : Int)) ∧ W.cell? ⟨(ad.add (q * 3)).block, (ad.add (q * 3)).off + 1, none⟩ = some (.int .i64 x.i) ∧ W.cell? ⟨(ad.add (q * 3)).block, (ad.add (q * 3)).off + 2, none⟩ = some (.slice A3 n3 c3) from
            fun W hb => ⟨(hb.cell (p := ad.add (q * 3)) hadl').trans e0, (hb.cell (p := ⟨(ad.add (q * 3)).block, (ad.add (q * 3)).off + 1, none⟩) hadl').trans e1, (hb.cell (p := ⟨(ad.add (q * 3)).block, (ad.add (q * 3)).off + 2, none⟩) hadl').trans e2⟩)
          clear e0 e1 e2 hB3 hA' hxq hlt
          obtain ⟨e0, e1, e2⟩ := eK.out wr hbel'.out
          have hFl := hFa'.out.lim (by omega)
          by_cases h9 : 9 ≤ r
          · have h9I : (9 : Int) ≤ (r : Int) := by omega
            go_wp2_with fail
            have hBD := Lib.hid (hBo'.out.below (Below.refl wr.heap.size wr).drew)
            have hFc := Lib.hid (cutV_far hFa'.out x.i)
            obtain ⟨kq, hkq⟩ : ∃ kq : Nat, kq = x.kind / 18 := ⟨_, rfl⟩
            have hkq8 : kq < 256 := by omega
            have hwq := Lib.hid (show IntKind.u8.wrap ((x.kind : Int) / 18) = (kq : Int) from by simp only [IntKind.wrap, IntKind.signed, IntKind.bits]; simp; omega)
            clear hkq
            have hFn := Lib.hid (doV_far (cutV_far hFa'.out x.i) ⟨kq, x.i, x.b⟩ hi0 hi1)
            have hbD := Lib.hid ((Below.refl wr.heap.size wr).drew)
            have hlS := Lib.hid (Y.lt hBo'.out.at_)
            go_cut [5, 6] from 21 to 96 (fun v5 v6 wc => ∃ (S1 : Nat → Prop) (B' B2' X X2 : Nat), v5 = .pointer (some ⟨X, 0, none⟩) ∧ v6 = .pointer (some ⟨X2, 0, none⟩) ∧ Both Y wc S1 B' X (cutV d x.i) B2' X2 (cutV d x.i) ∧ wr.heap.size ≤ B' ∧ wr.heap.size ≤ B2' ∧ B' ≤ wc.heap.size ∧ B2' ≤ wc.heap.size ∧ Below wr.heap.size wr wc)
            case first =>
              go_region_law (first
                | (go_simp; go_at_call 10; refine (Y.cut hBD.out.at_ hFl x.i).mono ?_; rintro e W1 ⟨X, S1, rfl, ha, hs, hb⟩; have hbP := Lib.hid (show Below wr.heap.size wr W1 from ⟨hb.os, hb.tape, hb.output, hb.size, hb.block⟩); have haP := Lib.hid (show Y.At W1 S1 wr.heap.size X (cutV d x.i) from ha); clear ha hs hb; obtain ⟨e10, e11, e12⟩ := eK.out W1 (hbel'.out.trans (hbP.out.mono hbel'.out.size)))
                | (go_simp; go_at_call 11; refine (cut_any wr.drew B2 m d x.i hBD.out.ref (by have := hFl.base; omega) hFl.wr).mono ?_; rintro e W1 ⟨X2, rfl, hr2, hb⟩; have hbE := Lib.hid (show Below wr.heap.size wr W1 from ⟨hb.os, hb.tape, hb.output, hb.size, hb.block⟩); have hrE := Lib.hid (show RefAt W1 wr.heap.size X2 (cutV d x.i) from hr2); clear hr2 hb; obtain ⟨e10, e11, e12⟩ := eK.out W1 (hbel'.out.trans (hbE.out.mono hbel'.out.size)))
                | (go_simp; go_at_call 11; refine (cut_any W1 B2 m d x.i (hBo'.out.below hbP.out).ref (by have := hFl.base; omega) hFl.wr).mono ?_; rintro e W ⟨X2, rfl, hr2, hb⟩; have hN := Lib.hid (both_cut haP.out hr2 hb); have hbW := Lib.hid (hbP.out.trans (hb.mono hbP.out.size)); have hz1 : w.heap.size ≤ wr.heap.size := hbel'.out.size; have hz2 : wr.heap.size ≤ W1.heap.size := hbP.out.size; have hz3 : W1.heap.size ≤ W.heap.size := hb.size; clear hr2 hb)
                | (go_simp; go_at_call 10; refine (Y.cut (hBo'.out.below hbE.out).at_ hFl x.i).mono ?_; rintro e W ⟨X, S1, rfl, ha, hs, hb⟩; have hN := Lib.hid (both_cut' hrE.out ha (fun k hk => (hs k hk).imp (hlS.out k) id) hb); have hbW := Lib.hid (hbE.out.trans (hb.mono hbE.out.size)); have hz1 : w.heap.size ≤ wr.heap.size := hbel'.out.size; have hz2 : wr.heap.size ≤ W1.heap.size := hbE.out.size; have hz3 : W1.heap.size ≤ W.heap.size := hb.size; clear ha hs hb))
              all_goals
                go_wp2_with fail
                go_meet
                case rel => exact ⟨S1, _, _, X, X2, rfl, rfl, hN.out, by omega, by omega, by omega, by omega, hbW.out⟩
            case rest =>
              obtain ⟨S1, B', B2', X, X2, rfl, rfl, hN', hb1, hb2, hb3, hb4, hbW0⟩ := hcut
              have hbW := Lib.hid hbW0
              have hND := Lib.hid (hN'.below (Below.refl wc.heap.size wc).drew)
              have hwW := Lib.hid (hbel'.out.trans (hbW.out.mono hbel'.out.size))
              have hwz := hbel'.out.size
              have hwc := hbW.out.size
              clear hN' hbW0 e0 e1 e2
              go_wp2_with fail
              go_region_held3 (fun w' => w'.cell? (ad.add (q * 3)) = some (.int .u8 (x.kind : Int)) ∧ w'.cell? ⟨(ad.add (q * 3)).block, (ad.add (q * 3)).off + 1, none⟩ = some (.int .i64 x.i) ∧ w'.cell? ⟨(ad.add (q * 3)).block, (ad.add (q * 3)).off + 2, none⟩ = some (.slice A3 n3 c3))
                (first
                  | exact eK.out T hT.out
                  | exact eK.out U (hbel'.out.trans (hU.out.mono hbel'.out.size))
                  | exact eK.out V hwV.out
                  | exact eK.out wc.drew ⟨hwW.out.os, hwW.out.tape, hwW.out.output, hwW.out.size, hwW.out.block⟩)
                (first
                  | (go_at_call 12; refine (same_any Y U S B p B2 m d (hBo'.out.below hU.out) hFl).mono ?_; rintro e T ⟨rfl, hbT⟩; have hT := Lib.hid (show Below w.heap.size w T from (hbel'.out.trans (hU.out.mono hbel'.out.size)).trans (hbT.mono (by have := hU.out.size; omega))); have hSt := Lib.hid (show Stand Y w T (q + 1) (.pointer (some ⟨X, 0, none⟩)) (.pointer (some ⟨X2, 0, none⟩)) from ⟨S2, B', X, B2', X2, _, rfl, rfl, hb5'.out.below hbT, hFn.out, by omega, by omega, by have := hbT.size; omega, by have := hbT.size; omega, hT.out⟩); clear hbT)
                  | (go_at_call 13; rw [hwq.out]; refine (does_any Y V S1 B' X B2' X2 (cutV d x.i) ⟨kq, x.i, x.b⟩ A3 n3 c3 hNV.out (hFc.out.lim (by omega)) hkq8 (hb3'.out.below hwV.out) hn3 hc3 (fun ad' ea h0 => ⟨Nat.lt_of_lt_of_le (hA''.out ad' ea h0) (by omega), Nat.lt_of_lt_of_le (hA''.out ad' ea h0) hwV.out.size⟩) (by omega) (by omega)).mono ?_; rintro e U ⟨rfl, ⟨S2, hb5⟩, hbU⟩; have hb5' := Lib.hid hb5; have hU := Lib.hid (show Below wr.heap.size wr U from (hbW.out.trans (hbV'.out.mono hbW.out.size)).trans (hbU.mono (by omega))); have hUz := hbU.size; clear hb5 hbU)
                  | (go_at_call 12; refine (same_any Y wc.drew S1 B' X B2' X2 (cutV d x.i) hND.out (hFc.out.lim (by omega))).mono ?_; rintro e V ⟨rfl, hbV⟩; have hbV' := Lib.hid (show Below wc.heap.size wc V from ⟨hbV.os, hbV.tape, hbV.output, hbV.size, hbV.block⟩); have hNV := Lib.hid (hND.out.below hbV); have hwV := Lib.hid (hwW.out.trans (hbV'.out.mono hwW.out.size)); have hVz := hbV'.out.size; clear hbV))
              all_goals
                go_wp2_with fail
                go_roundw
                case rel => exact ⟨q + 1, by omega, by go_num, hSt.out⟩
                case measure => simp [intOf]; omega
          · have h9I : ¬ (9 : Int) ≤ (r : Int) := by omega
            have hFn := Lib.hid (doV_far hFa'.out x hi0 hi1)
            go_wp2_with fail
            refine (does_any Y wr S B p B2 m d x A3 n3 c3 hBo'.out hFl hk8 (hb3'.out.below hbel'.out) hn3 hc3 (fun ad' ea h0 => ⟨Nat.lt_of_lt_of_le (hA''.out ad' ea h0) (by omega), Nat.lt_of_lt_of_le (hA''.out ad' ea h0) hbel'.out.size⟩) hBr hB2r).mono ?_
            rintro e W1 ⟨rfl, ⟨S1, hb1⟩, hbl1⟩
            have hb1' := Lib.hid hb1
            have hbl2 := Lib.hid (show Below w.heap.size w W1 from hbel'.out.trans (hbl1.mono (by omega)))
            have hbl3 := hbl1.size
            clear hb1 hbl1 e0 e1 e2
            go_wp2_with fail
            refine (same_any Y W1 S1 B p B2 m _ hb1'.out (hFn.out.lim (by omega))).mono ?_
            rintro e W ⟨rfl, hbW⟩
            have hSt := Lib.hid (show Stand Y w W (q + 1) (.pointer (some ⟨p, 0, none⟩)) (.pointer (some ⟨m, 0, none⟩)) from ⟨S1, B, p, B2, m, _, rfl, rfl, hb1'.out.below hbW, hFn.out, hB0, hB20, Nat.le_trans hBr (Nat.le_trans hbl3 hbW.size), Nat.le_trans hB2r (Nat.le_trans hbl3 hbW.size), hbl2.out.trans (hbW.mono hbl2.out.size)⟩)
            clear hbW
            go_wp2_with fail
            go_roundw
            case rel => exact ⟨q + 1, by omega, by go_num, hSt.out⟩
            case measure => simp [intOf]; omega
        · have hqI : ¬ (q : Int) < (n : Int) := by omega
          go_wp2_with fail
          refine (hw'.out _).mono ?_
          rintro e w' ⟨rfl, hb⟩
          go_wp2_with fail
          go_ret
          exact ⟨rfl, hbel'.out.trans (hb.mono hbel'.out.size)⟩
end Go.Proofs.Ytffenadibnehfaa
