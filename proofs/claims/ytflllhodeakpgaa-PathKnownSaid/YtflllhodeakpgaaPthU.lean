/- The law PathBack, at numbers that a test admits. -/
import Derived.Test.YtflllhodeakpgaaPthT
namespace Go.Proofs.Ytflllhodeakpgaa
open Go.RowKit
set_option maxRecDepth 20000

/-- Shift, by its value -/
theorem shift_val (w : World) (A : Option Addr) (n c : Nat) (xs : List Int) (hA : Its w A n xs) (hnil : A = none → c = 0) (hn : n ≤ 500000) (re im : Nat) (hf : fineS re im = true) {t : Int} {L : List Int} {m : Nat} (hx : shiftV xs re im = (t, L)) (hm : L.length = m) :
    Calls Try.prog 31 #[.slice A n c, .complex .f64 re im] w fun e w' => ∃ A1 c1, e = .returned (.tuple #[.slice A1 m c1, .int .i64 t]) ∧ m ≤ c1 ∧ c1 ≤ maxLen ∧ (A1 = none → c1 = 0) ∧ Its w' A1 m L ∧ Below w.heap.size w w' := by
  refine (shift_any w A n c xs hA hnil hn re im hf).mono ?_
  intro e w' hr
  rw [hx] at hr
  obtain ⟨A1, c1, e, h1, h2, h3, ho, hb⟩ := hr.shape
  rw [hm] at e h1 ho
  exact ⟨A1, c1, e, h1, h2, h3, Its.at_own ho, hb⟩

set_option maxHeartbeats 6400000 in
theorem backLaw_any (w : World) (A : Option Addr) (n c : Nat) (xs : List Int) (hA : Its w A n xs) (hnil : A = none → c = 0) (hnc : n ≤ c) (hcm : c ≤ maxLen) (re im re2 im2 : Nat) (hg : goodZ re im = true) (hf2 : fineS re2 im2 = true) (hpz : pairZ im re2 im2 re = true) :
    Calls Try.prog 28 #[.slice A n c, .complex .f64 re im, .complex .f64 re2 im2] w (Held w) := by
  by_cases h5 : (200 : Int) < (n : Int)
  · clear hA hnil
    go_enter Try.func28, Try.ntmps28
    go_wp2_with (go_at_call 11; refine (works_any _).mono ?_; rintro e w1 ⟨rfl, hb⟩)
    go_ret
    exact ⟨rfl, hb⟩
  · have hW := Lib.hid (Below.refl w.heap.size w)
    have hA := Lib.hid hA
    have hnil' := Lib.hid hnil
    have hnc' := Lib.hid hnc
    have hcm' := Lib.hid hcm
    have hn5' := Lib.hid (show n ≤ 500000 by omega)
    have hnm' := Lib.hid (show n ≤ maxLen by unfold maxLen; omega)
    have f1 := Lib.hid (good_fine hg).1
    have f2 := Lib.hid (show fineS (Op.negFloat .f64 re) im = true from (good_fine hg).2)
    have f3 := Lib.hid hf2
    have hneg : ∀ w : World, (Op.unary UnOp.neg (Value.float .f64 re)).run Try.prog w = .ok (Value.float .f64 (Op.negFloat .f64 re)) w := fun _ => rfl
    obtain ⟨t, L, hx⟩ : ∃ t L, shiftV xs re im = (t, L) := ⟨_, _, rfl⟩
    have hx' := Lib.hid hx
    by_cases ht : t = 0
    · subst ht
      obtain ⟨hlen, hback, hbet⟩ := back_values hg hx
      have hlen' := Lib.hid (hlen.trans hA.out.1)
      have hxl := Lib.hid hA.out.1
      have hback' := Lib.hid (show shiftV L (Op.negFloat .f64 re) im = (0, xs) from hback)
      obtain ⟨t2, C, hC⟩ : ∃ t C, shiftV L re2 im2 = (t, C) := ⟨_, _, rfl⟩
      obtain ⟨t3, D, hD⟩ : ∃ t D, shiftV xs re2 im2 = (t, D) := ⟨_, _, rfl⟩
      obtain ⟨mc, hmc⟩ : ∃ m, C.length = m := ⟨_, rfl⟩
      obtain ⟨md, hmd⟩ : ∃ m, D.length = m := ⟨_, rfl⟩
      have hC' := Lib.hid hC
      have hD' := Lib.hid hD
      have hmc' := Lib.hid hmc
      have hmd' := Lib.hid hmd
      obtain ⟨br, bi, bo, hv, ho1, ho2⟩ : ∃ (br bi : Nat) (bo : Bool), betR xs L = .tuple #[.complex .f64 br bi, .bool bo] ∧ (FloatKind.f64.format.order re 0 != some .eq) = bo ∧ (bo = true → (FloatKind.f64.format.order br re == some .eq) = true ∧ (FloatKind.f64.format.order bi im == some .eq) = true) := by
        rcases hbet with ⟨h1, h2⟩ | ⟨p, q, h1, h2, h3, h4⟩
        · exact ⟨0, 0, false, h1, by unfold ordF at h2; rw [bne, h2]; rfl, fun h => by cases h⟩
        · exact ⟨p, q, true, h1, by unfold ordF at h2; rw [bne, h2]; rfl, fun _ => ⟨h3, h4⟩⟩
      have hv' := Lib.hid hv
      generalize hei : (FloatKind.f64.format.order im im2 == some .eq) = ei at *
      have hei2 := Lib.hid hei
      have hboth : Hid (ei = false → t2 = 0 → t3 = 0 → shiftV D re im = (0, C) ∧ mc = n ∧ md = n) := fun h1 h2 h3 => by
        subst h1 h2 h3
        obtain ⟨_, _, _, _, _, _, _, e1⟩ := shift_inv hf2 hC
        obtain ⟨_, _, _, _, _, _, _, e2⟩ := shift_inv hf2 hD
        refine ⟨both_values (good_fine hg).1 hf2 hpz hei2.out hx hC hD, ?_, ?_⟩
        · rw [← hmc, e1, List.length_set]; exact hlen'.out
        · rw [← hmd, e2, List.length_set]; exact hxl.out
      clear hx hg hf2 hpz hnil hnc hcm hC hD hmc hmd hv hbet hback hlen hei2
      by_cases h20 : t2 = 0
      · by_cases h30 : t3 = 0
        · subst h20 h30
          cases ei
          · obtain ⟨hbv, hmn, hdn⟩ := hboth.out rfl rfl rfl
            have e1 : n = mc := hmn.symm
            have e2 : n = md := hdn.symm
            subst e1 e2
            have hbv' := Lib.hid hbv
            clear hboth hbv
            cases bo
            · clear ho2
              go_enter Try.func28, Try.ntmps28
              go_wp2_with (first
                | (go_at_call_of 31 (Value.slice A n c); go_at_call_of 31 (Value.complex .f64 re im); refine (shift_val _ A n c xs hA.out hnil'.out hn5'.out re im f1.out hx'.out hlen'.out).mono ?_; rintro e wa ⟨Aa, ca, rfl, h1, h2, h3, hi, hb⟩; have ka := Lib.hid h1; have ma := Lib.hid h2; have za := Lib.hid h3; have hA := Lib.hid (hA.out.below hb); have ia := Lib.hid hi; have hW := Lib.hid (hW.out.trans (hb.mono hW.out.size)); clear h1 h2 h3 hi hb)
                | (go_at_call_of 31 (Value.slice Aa n ca); go_at_call_of 31 (Value.complex .f64 (Op.negFloat .f64 re) im); refine (shift_val _ Aa n ca L ia.out za.out hn5'.out (Op.negFloat .f64 re) im f2.out hback'.out hxl.out).mono ?_; rintro e wb ⟨Ab, cb, rfl, h1, h2, h3, hi, hb⟩; have kb := Lib.hid h1; have mb := Lib.hid h2; have zb := Lib.hid h3; have hA := Lib.hid (hA.out.below hb); have ia := Lib.hid (ia.out.below hb); have ib := Lib.hid hi; have hW := Lib.hid (hW.out.trans (hb.mono hW.out.size)); clear h1 h2 h3 hi hb)
                | (go_at_call 25; (refine (below_draws (between_any _ A Aa n c n ca xs L hA.out ia.out hnm'.out hnm'.out hnc'.out hcm'.out ka.out ma.out)).mono ?_; rw [hv'.out]; rintro e wy ⟨rfl, hb⟩; have hA := Lib.hid (hA.out.below hb); have ia := Lib.hid (ia.out.below hb); have ib := Lib.hid (ib.out.below hb); have hW := Lib.hid (hW.out.trans (hb.mono hW.out.size)); clear hb))
                | (go_at_call_of 23 (Value.slice Ab n cb); refine (same_yes _ Ab A n cb n c xs ib.out hA.out hnm'.out).mono ?_; rintro e ws ⟨rfl, hb⟩; have hA := Lib.hid (hA.out.below hb); have ia := Lib.hid (ia.out.below hb); have hW := Lib.hid (hW.out.trans (hb.mono hW.out.size)); clear hb)
                | (go_at_call_of 31 (Value.slice Aa n ca); go_at_call_of 31 (Value.complex .f64 re2 im2); refine (shift_val _ Aa n ca L ia.out za.out hn5'.out re2 im2 f3.out hC'.out hmc'.out).mono ?_; rintro e wcc ⟨Acc, ccc, rfl, h1, h2, h3, hi, hb⟩; have kcc := Lib.hid h1; have mcc := Lib.hid h2; have zcc := Lib.hid h3; have hA := Lib.hid (hA.out.below hb); have ia := Lib.hid (ia.out.below hb); have icc := Lib.hid hi; have hW := Lib.hid (hW.out.trans (hb.mono hW.out.size)); clear h1 h2 h3 hi hb)
                | (go_at_call_of 31 (Value.slice A n c); go_at_call_of 31 (Value.complex .f64 re2 im2); refine (shift_val _ A n c xs hA.out hnil'.out hn5'.out re2 im2 f3.out hD'.out hmd'.out).mono ?_; rintro e wd ⟨Ad, cd, rfl, h1, h2, h3, hi, hb⟩; have kd := Lib.hid h1; have md := Lib.hid h2; have zd := Lib.hid h3; have hA := Lib.hid (hA.out.below hb); have icc := Lib.hid (icc.out.below hb); have id_ := Lib.hid hi; have hW := Lib.hid (hW.out.trans (hb.mono hW.out.size)); clear h1 h2 h3 hi hb)
                | (go_at_call_of 31 (Value.slice Ad n cd); go_at_call_of 31 (Value.complex .f64 re im); refine (shift_val _ Ad n cd D id_.out zd.out hn5'.out re im f1.out hbv'.out hmc'.out).mono ?_; rintro e wx ⟨Ax, cx, rfl, h1, h2, h3, hi, hb⟩; have kx := Lib.hid h1; have mx := Lib.hid h2; have zx := Lib.hid h3; have icc := Lib.hid (icc.out.below hb); have ix := Lib.hid hi; have hW := Lib.hid (hW.out.trans (hb.mono hW.out.size)); clear h1 h2 h3 hi hb)
                | (go_at_call_of 23 (Value.slice Acc n ccc); refine (same_yes _ Acc Ax n ccc n cx C icc.out ix.out hnm'.out).mono ?_; rintro e ws ⟨rfl, hb⟩; have hW := Lib.hid (hW.out.trans (hb.mono hW.out.size)); clear hb)
                | (go_at_call 11; refine (works_any _).mono ?_; rintro e wg ⟨rfl, hb⟩; have hW := Lib.hid (hW.out.trans (hb.mono hW.out.size))))
              go_ret
              exact ⟨rfl, hW.out⟩
            · obtain ⟨o1, o2⟩ := ho2 rfl
              clear ho2
              go_enter Try.func28, Try.ntmps28
              go_wp2_with (first
                | (go_at_call_of 31 (Value.slice A n c); go_at_call_of 31 (Value.complex .f64 re im); refine (shift_val _ A n c xs hA.out hnil'.out hn5'.out re im f1.out hx'.out hlen'.out).mono ?_; rintro e wa ⟨Aa, ca, rfl, h1, h2, h3, hi, hb⟩; have ka := Lib.hid h1; have ma := Lib.hid h2; have za := Lib.hid h3; have hA := Lib.hid (hA.out.below hb); have ia := Lib.hid hi; have hW := Lib.hid (hW.out.trans (hb.mono hW.out.size)); clear h1 h2 h3 hi hb)
                | (go_at_call_of 31 (Value.slice Aa n ca); go_at_call_of 31 (Value.complex .f64 (Op.negFloat .f64 re) im); refine (shift_val _ Aa n ca L ia.out za.out hn5'.out (Op.negFloat .f64 re) im f2.out hback'.out hxl.out).mono ?_; rintro e wb ⟨Ab, cb, rfl, h1, h2, h3, hi, hb⟩; have kb := Lib.hid h1; have mb := Lib.hid h2; have zb := Lib.hid h3; have hA := Lib.hid (hA.out.below hb); have ia := Lib.hid (ia.out.below hb); have ib := Lib.hid hi; have hW := Lib.hid (hW.out.trans (hb.mono hW.out.size)); clear h1 h2 h3 hi hb)
                | (go_at_call 25; (refine (below_draws (between_any _ A Aa n c n ca xs L hA.out ia.out hnm'.out hnm'.out hnc'.out hcm'.out ka.out ma.out)).mono ?_; rw [hv'.out]; rintro e wy ⟨rfl, hb⟩; have hA := Lib.hid (hA.out.below hb); have ia := Lib.hid (ia.out.below hb); have ib := Lib.hid (ib.out.below hb); have hW := Lib.hid (hW.out.trans (hb.mono hW.out.size)); clear hb))
                | (go_at_call_of 23 (Value.slice Ab n cb); refine (same_yes _ Ab A n cb n c xs ib.out hA.out hnm'.out).mono ?_; rintro e ws ⟨rfl, hb⟩; have hA := Lib.hid (hA.out.below hb); have ia := Lib.hid (ia.out.below hb); have hW := Lib.hid (hW.out.trans (hb.mono hW.out.size)); clear hb)
                | (go_at_call_of 31 (Value.slice Aa n ca); go_at_call_of 31 (Value.complex .f64 re2 im2); refine (shift_val _ Aa n ca L ia.out za.out hn5'.out re2 im2 f3.out hC'.out hmc'.out).mono ?_; rintro e wcc ⟨Acc, ccc, rfl, h1, h2, h3, hi, hb⟩; have kcc := Lib.hid h1; have mcc := Lib.hid h2; have zcc := Lib.hid h3; have hA := Lib.hid (hA.out.below hb); have ia := Lib.hid (ia.out.below hb); have icc := Lib.hid hi; have hW := Lib.hid (hW.out.trans (hb.mono hW.out.size)); clear h1 h2 h3 hi hb)
                | (go_at_call_of 31 (Value.slice A n c); go_at_call_of 31 (Value.complex .f64 re2 im2); refine (shift_val _ A n c xs hA.out hnil'.out hn5'.out re2 im2 f3.out hD'.out hmd'.out).mono ?_; rintro e wd ⟨Ad, cd, rfl, h1, h2, h3, hi, hb⟩; have kd := Lib.hid h1; have md := Lib.hid h2; have zd := Lib.hid h3; have hA := Lib.hid (hA.out.below hb); have icc := Lib.hid (icc.out.below hb); have id_ := Lib.hid hi; have hW := Lib.hid (hW.out.trans (hb.mono hW.out.size)); clear h1 h2 h3 hi hb)
                | (go_at_call_of 31 (Value.slice Ad n cd); go_at_call_of 31 (Value.complex .f64 re im); refine (shift_val _ Ad n cd D id_.out zd.out hn5'.out re im f1.out hbv'.out hmc'.out).mono ?_; rintro e wx ⟨Ax, cx, rfl, h1, h2, h3, hi, hb⟩; have kx := Lib.hid h1; have mx := Lib.hid h2; have zx := Lib.hid h3; have icc := Lib.hid (icc.out.below hb); have ix := Lib.hid hi; have hW := Lib.hid (hW.out.trans (hb.mono hW.out.size)); clear h1 h2 h3 hi hb)
                | (go_at_call_of 23 (Value.slice Acc n ccc); refine (same_yes _ Acc Ax n ccc n cx C icc.out ix.out hnm'.out).mono ?_; rintro e ws ⟨rfl, hb⟩; have hW := Lib.hid (hW.out.trans (hb.mono hW.out.size)); clear hb)
                | (go_at_call 11; refine (works_any _).mono ?_; rintro e wg ⟨rfl, hb⟩; have hW := Lib.hid (hW.out.trans (hb.mono hW.out.size))))
              go_ret
              exact ⟨rfl, hW.out⟩
          · clear hboth
            cases bo
            · clear ho2
              go_enter Try.func28, Try.ntmps28
              go_wp2_with (first
                | (go_at_call_of 31 (Value.slice A n c); go_at_call_of 31 (Value.complex .f64 re im); refine (shift_val _ A n c xs hA.out hnil'.out hn5'.out re im f1.out hx'.out hlen'.out).mono ?_; rintro e wa ⟨Aa, ca, rfl, h1, h2, h3, hi, hb⟩; have ka := Lib.hid h1; have ma := Lib.hid h2; have za := Lib.hid h3; have hA := Lib.hid (hA.out.below hb); have ia := Lib.hid hi; have hW := Lib.hid (hW.out.trans (hb.mono hW.out.size)); clear h1 h2 h3 hi hb)
                | (go_at_call_of 31 (Value.slice Aa n ca); go_at_call_of 31 (Value.complex .f64 (Op.negFloat .f64 re) im); refine (shift_val _ Aa n ca L ia.out za.out hn5'.out (Op.negFloat .f64 re) im f2.out hback'.out hxl.out).mono ?_; rintro e wb ⟨Ab, cb, rfl, h1, h2, h3, hi, hb⟩; have kb := Lib.hid h1; have mb := Lib.hid h2; have zb := Lib.hid h3; have hA := Lib.hid (hA.out.below hb); have ia := Lib.hid (ia.out.below hb); have ib := Lib.hid hi; have hW := Lib.hid (hW.out.trans (hb.mono hW.out.size)); clear h1 h2 h3 hi hb)
                | (go_at_call 25; (refine (below_draws (between_any _ A Aa n c n ca xs L hA.out ia.out hnm'.out hnm'.out hnc'.out hcm'.out ka.out ma.out)).mono ?_; rw [hv'.out]; rintro e wy ⟨rfl, hb⟩; have hA := Lib.hid (hA.out.below hb); have ia := Lib.hid (ia.out.below hb); have ib := Lib.hid (ib.out.below hb); have hW := Lib.hid (hW.out.trans (hb.mono hW.out.size)); clear hb))
                | (go_at_call_of 23 (Value.slice Ab n cb); refine (same_yes _ Ab A n cb n c xs ib.out hA.out hnm'.out).mono ?_; rintro e ws ⟨rfl, hb⟩; have hA := Lib.hid (hA.out.below hb); have ia := Lib.hid (ia.out.below hb); have hW := Lib.hid (hW.out.trans (hb.mono hW.out.size)); clear hb)
                | (go_at_call_of 31 (Value.slice Aa n ca); go_at_call_of 31 (Value.complex .f64 re2 im2); refine (shift_val _ Aa n ca L ia.out za.out hn5'.out re2 im2 f3.out hC'.out hmc'.out).mono ?_; rintro e wcc ⟨Acc, ccc, rfl, h1, h2, h3, hi, hb⟩; have kcc := Lib.hid h1; have mcc := Lib.hid h2; have zcc := Lib.hid h3; have hA := Lib.hid (hA.out.below hb); have ia := Lib.hid (ia.out.below hb); have icc := Lib.hid hi; have hW := Lib.hid (hW.out.trans (hb.mono hW.out.size)); clear h1 h2 h3 hi hb)
                | (go_at_call_of 31 (Value.slice A n c); go_at_call_of 31 (Value.complex .f64 re2 im2); refine (shift_val _ A n c xs hA.out hnil'.out hn5'.out re2 im2 f3.out hD'.out hmd'.out).mono ?_; rintro e wd ⟨Ad, cd, rfl, h1, h2, h3, hi, hb⟩; have kd := Lib.hid h1; have md := Lib.hid h2; have zd := Lib.hid h3; have hA := Lib.hid (hA.out.below hb); have icc := Lib.hid (icc.out.below hb); have id_ := Lib.hid hi; have hW := Lib.hid (hW.out.trans (hb.mono hW.out.size)); clear h1 h2 h3 hi hb)
                | (go_at_call 11; refine (works_any _).mono ?_; rintro e wg ⟨rfl, hb⟩; have hW := Lib.hid (hW.out.trans (hb.mono hW.out.size))))
              go_ret
              exact ⟨rfl, hW.out⟩
            · obtain ⟨o1, o2⟩ := ho2 rfl
              clear ho2
              go_enter Try.func28, Try.ntmps28
              go_wp2_with (first
                | (go_at_call_of 31 (Value.slice A n c); go_at_call_of 31 (Value.complex .f64 re im); refine (shift_val _ A n c xs hA.out hnil'.out hn5'.out re im f1.out hx'.out hlen'.out).mono ?_; rintro e wa ⟨Aa, ca, rfl, h1, h2, h3, hi, hb⟩; have ka := Lib.hid h1; have ma := Lib.hid h2; have za := Lib.hid h3; have hA := Lib.hid (hA.out.below hb); have ia := Lib.hid hi; have hW := Lib.hid (hW.out.trans (hb.mono hW.out.size)); clear h1 h2 h3 hi hb)
                | (go_at_call_of 31 (Value.slice Aa n ca); go_at_call_of 31 (Value.complex .f64 (Op.negFloat .f64 re) im); refine (shift_val _ Aa n ca L ia.out za.out hn5'.out (Op.negFloat .f64 re) im f2.out hback'.out hxl.out).mono ?_; rintro e wb ⟨Ab, cb, rfl, h1, h2, h3, hi, hb⟩; have kb := Lib.hid h1; have mb := Lib.hid h2; have zb := Lib.hid h3; have hA := Lib.hid (hA.out.below hb); have ia := Lib.hid (ia.out.below hb); have ib := Lib.hid hi; have hW := Lib.hid (hW.out.trans (hb.mono hW.out.size)); clear h1 h2 h3 hi hb)
                | (go_at_call 25; (refine (below_draws (between_any _ A Aa n c n ca xs L hA.out ia.out hnm'.out hnm'.out hnc'.out hcm'.out ka.out ma.out)).mono ?_; rw [hv'.out]; rintro e wy ⟨rfl, hb⟩; have hA := Lib.hid (hA.out.below hb); have ia := Lib.hid (ia.out.below hb); have ib := Lib.hid (ib.out.below hb); have hW := Lib.hid (hW.out.trans (hb.mono hW.out.size)); clear hb))
                | (go_at_call_of 23 (Value.slice Ab n cb); refine (same_yes _ Ab A n cb n c xs ib.out hA.out hnm'.out).mono ?_; rintro e ws ⟨rfl, hb⟩; have hA := Lib.hid (hA.out.below hb); have ia := Lib.hid (ia.out.below hb); have hW := Lib.hid (hW.out.trans (hb.mono hW.out.size)); clear hb)
                | (go_at_call_of 31 (Value.slice Aa n ca); go_at_call_of 31 (Value.complex .f64 re2 im2); refine (shift_val _ Aa n ca L ia.out za.out hn5'.out re2 im2 f3.out hC'.out hmc'.out).mono ?_; rintro e wcc ⟨Acc, ccc, rfl, h1, h2, h3, hi, hb⟩; have kcc := Lib.hid h1; have mcc := Lib.hid h2; have zcc := Lib.hid h3; have hA := Lib.hid (hA.out.below hb); have ia := Lib.hid (ia.out.below hb); have icc := Lib.hid hi; have hW := Lib.hid (hW.out.trans (hb.mono hW.out.size)); clear h1 h2 h3 hi hb)
                | (go_at_call_of 31 (Value.slice A n c); go_at_call_of 31 (Value.complex .f64 re2 im2); refine (shift_val _ A n c xs hA.out hnil'.out hn5'.out re2 im2 f3.out hD'.out hmd'.out).mono ?_; rintro e wd ⟨Ad, cd, rfl, h1, h2, h3, hi, hb⟩; have kd := Lib.hid h1; have md := Lib.hid h2; have zd := Lib.hid h3; have hA := Lib.hid (hA.out.below hb); have icc := Lib.hid (icc.out.below hb); have id_ := Lib.hid hi; have hW := Lib.hid (hW.out.trans (hb.mono hW.out.size)); clear h1 h2 h3 hi hb)
                | (go_at_call 11; refine (works_any _).mono ?_; rintro e wg ⟨rfl, hb⟩; have hW := Lib.hid (hW.out.trans (hb.mono hW.out.size))))
              go_ret
              exact ⟨rfl, hW.out⟩
        · have hne3 : (t3 == 0) = false := beq_eq_false_iff_ne.2 h30
          have hne3' : (t3 != 0) = true := bne_iff_ne.2 h30
          subst h20
          clear hboth
          cases ei <;> cases bo
          all_goals
            first | (obtain ⟨o1, o2⟩ := ho2 rfl; clear ho2) | clear ho2
            go_enter Try.func28, Try.ntmps28
            go_wp2_with (first
              | (go_at_call_of 31 (Value.slice A n c); go_at_call_of 31 (Value.complex .f64 re im); refine (shift_val _ A n c xs hA.out hnil'.out hn5'.out re im f1.out hx'.out hlen'.out).mono ?_; rintro e wa ⟨Aa, ca, rfl, h1, h2, h3, hi, hb⟩; have ka := Lib.hid h1; have ma := Lib.hid h2; have za := Lib.hid h3; have hA := Lib.hid (hA.out.below hb); have ia := Lib.hid hi; have hW := Lib.hid (hW.out.trans (hb.mono hW.out.size)); clear h1 h2 h3 hi hb)
              | (go_at_call_of 31 (Value.slice Aa n ca); go_at_call_of 31 (Value.complex .f64 (Op.negFloat .f64 re) im); refine (shift_val _ Aa n ca L ia.out za.out hn5'.out (Op.negFloat .f64 re) im f2.out hback'.out hxl.out).mono ?_; rintro e wb ⟨Ab, cb, rfl, h1, h2, h3, hi, hb⟩; have kb := Lib.hid h1; have mb := Lib.hid h2; have zb := Lib.hid h3; have hA := Lib.hid (hA.out.below hb); have ia := Lib.hid (ia.out.below hb); have ib := Lib.hid hi; have hW := Lib.hid (hW.out.trans (hb.mono hW.out.size)); clear h1 h2 h3 hi hb)
              | (go_at_call 25; (refine (below_draws (between_any _ A Aa n c n ca xs L hA.out ia.out hnm'.out hnm'.out hnc'.out hcm'.out ka.out ma.out)).mono ?_; rw [hv'.out]; rintro e wy ⟨rfl, hb⟩; have hA := Lib.hid (hA.out.below hb); have ia := Lib.hid (ia.out.below hb); have ib := Lib.hid (ib.out.below hb); have hW := Lib.hid (hW.out.trans (hb.mono hW.out.size)); clear hb))
              | (go_at_call_of 23 (Value.slice Ab n cb); refine (same_yes _ Ab A n cb n c xs ib.out hA.out hnm'.out).mono ?_; rintro e ws ⟨rfl, hb⟩; have hA := Lib.hid (hA.out.below hb); have ia := Lib.hid (ia.out.below hb); have hW := Lib.hid (hW.out.trans (hb.mono hW.out.size)); clear hb)
              | (go_at_call_of 31 (Value.slice Aa n ca); go_at_call_of 31 (Value.complex .f64 re2 im2); refine (shift_val _ Aa n ca L ia.out za.out hn5'.out re2 im2 f3.out hC'.out hmc'.out).mono ?_; rintro e wcc ⟨Acc, ccc, rfl, h1, h2, h3, hi, hb⟩; have kcc := Lib.hid h1; have mcc := Lib.hid h2; have zcc := Lib.hid h3; have hA := Lib.hid (hA.out.below hb); have ia := Lib.hid (ia.out.below hb); have icc := Lib.hid hi; have hW := Lib.hid (hW.out.trans (hb.mono hW.out.size)); clear h1 h2 h3 hi hb)
              | (go_at_call_of 31 (Value.slice A n c); go_at_call_of 31 (Value.complex .f64 re2 im2); refine (shift_val _ A n c xs hA.out hnil'.out hn5'.out re2 im2 f3.out hD'.out hmd'.out).mono ?_; rintro e wd ⟨Ad, cd, rfl, h1, h2, h3, hi, hb⟩; have kd := Lib.hid h1; have md := Lib.hid h2; have zd := Lib.hid h3; have hA := Lib.hid (hA.out.below hb); have icc := Lib.hid (icc.out.below hb); have id_ := Lib.hid hi; have hW := Lib.hid (hW.out.trans (hb.mono hW.out.size)); clear h1 h2 h3 hi hb)
              | (go_at_call 11; refine (works_any _).mono ?_; rintro e wg ⟨rfl, hb⟩; have hW := Lib.hid (hW.out.trans (hb.mono hW.out.size))))
            go_ret
            exact ⟨rfl, hW.out⟩
      · have hne2 : (t2 == 0) = false := beq_eq_false_iff_ne.2 h20
        have hne2' : (t2 != 0) = true := bne_iff_ne.2 h20
        clear hboth
        cases ei <;> cases bo
        all_goals
          first | (obtain ⟨o1, o2⟩ := ho2 rfl; clear ho2) | clear ho2
          go_enter Try.func28, Try.ntmps28
          go_wp2_with (first
            | (go_at_call_of 31 (Value.slice A n c); go_at_call_of 31 (Value.complex .f64 re im); refine (shift_val _ A n c xs hA.out hnil'.out hn5'.out re im f1.out hx'.out hlen'.out).mono ?_; rintro e wa ⟨Aa, ca, rfl, h1, h2, h3, hi, hb⟩; have ka := Lib.hid h1; have ma := Lib.hid h2; have za := Lib.hid h3; have hA := Lib.hid (hA.out.below hb); have ia := Lib.hid hi; have hW := Lib.hid (hW.out.trans (hb.mono hW.out.size)); clear h1 h2 h3 hi hb)
            | (go_at_call_of 31 (Value.slice Aa n ca); go_at_call_of 31 (Value.complex .f64 (Op.negFloat .f64 re) im); refine (shift_val _ Aa n ca L ia.out za.out hn5'.out (Op.negFloat .f64 re) im f2.out hback'.out hxl.out).mono ?_; rintro e wb ⟨Ab, cb, rfl, h1, h2, h3, hi, hb⟩; have kb := Lib.hid h1; have mb := Lib.hid h2; have zb := Lib.hid h3; have hA := Lib.hid (hA.out.below hb); have ia := Lib.hid (ia.out.below hb); have ib := Lib.hid hi; have hW := Lib.hid (hW.out.trans (hb.mono hW.out.size)); clear h1 h2 h3 hi hb)
            | (go_at_call 25; (refine (below_draws (between_any _ A Aa n c n ca xs L hA.out ia.out hnm'.out hnm'.out hnc'.out hcm'.out ka.out ma.out)).mono ?_; rw [hv'.out]; rintro e wy ⟨rfl, hb⟩; have hA := Lib.hid (hA.out.below hb); have ia := Lib.hid (ia.out.below hb); have ib := Lib.hid (ib.out.below hb); have hW := Lib.hid (hW.out.trans (hb.mono hW.out.size)); clear hb))
            | (go_at_call_of 23 (Value.slice Ab n cb); refine (same_yes _ Ab A n cb n c xs ib.out hA.out hnm'.out).mono ?_; rintro e ws ⟨rfl, hb⟩; have hA := Lib.hid (hA.out.below hb); have ia := Lib.hid (ia.out.below hb); have hW := Lib.hid (hW.out.trans (hb.mono hW.out.size)); clear hb)
            | (go_at_call_of 31 (Value.slice Aa n ca); go_at_call_of 31 (Value.complex .f64 re2 im2); refine (shift_val _ Aa n ca L ia.out za.out hn5'.out re2 im2 f3.out hC'.out hmc'.out).mono ?_; rintro e wcc ⟨Acc, ccc, rfl, h1, h2, h3, hi, hb⟩; have kcc := Lib.hid h1; have mcc := Lib.hid h2; have zcc := Lib.hid h3; have hA := Lib.hid (hA.out.below hb); have ia := Lib.hid (ia.out.below hb); have icc := Lib.hid hi; have hW := Lib.hid (hW.out.trans (hb.mono hW.out.size)); clear h1 h2 h3 hi hb)
            | (go_at_call_of 31 (Value.slice A n c); go_at_call_of 31 (Value.complex .f64 re2 im2); refine (shift_val _ A n c xs hA.out hnil'.out hn5'.out re2 im2 f3.out hD'.out hmd'.out).mono ?_; rintro e wd ⟨Ad, cd, rfl, h1, h2, h3, hi, hb⟩; have kd := Lib.hid h1; have md := Lib.hid h2; have zd := Lib.hid h3; have hA := Lib.hid (hA.out.below hb); have icc := Lib.hid (icc.out.below hb); have id_ := Lib.hid hi; have hW := Lib.hid (hW.out.trans (hb.mono hW.out.size)); clear h1 h2 h3 hi hb)
            | (go_at_call 11; refine (works_any _).mono ?_; rintro e wg ⟨rfl, hb⟩; have hW := Lib.hid (hW.out.trans (hb.mono hW.out.size))))
          go_ret
          exact ⟨rfl, hW.out⟩
    · have hL := shift_err hx ht
      subst hL
      have hne : (t == 0) = false := beq_eq_false_iff_ne.2 ht
      have hne' : (t != 0) = true := bne_iff_ne.2 ht
      have h0l := Lib.hid (show ([] : List Int).length = 0 from rfl)
      clear hx hg hf2 hpz hnil hnc hcm
      go_enter Try.func28, Try.ntmps28
      go_wp2_with (first
        | (go_at_call_of 31 (Value.slice A n c); go_at_call_of 31 (Value.complex .f64 re im); refine (shift_val _ A n c xs hA.out hnil'.out hn5'.out re im f1.out hx'.out h0l.out).mono ?_; rintro e wa ⟨Aa, ca, rfl, h1, h2, h3, hi, hb⟩; have ka := Lib.hid h1; have ma := Lib.hid h2; have za := Lib.hid h3; have hA := Lib.hid (hA.out.below hb); have ia := Lib.hid hi; have hW := Lib.hid (hW.out.trans (hb.mono hW.out.size)); clear h1 h2 h3 hi hb)
        | (go_at_call 11; refine (works_any _).mono ?_; rintro e wg ⟨rfl, hb⟩; have hW := Lib.hid (hW.out.trans (hb.mono hW.out.size))))
      go_ret
      exact ⟨rfl, hW.out⟩
end Go.Proofs.Ytflllhodeakpgaa
