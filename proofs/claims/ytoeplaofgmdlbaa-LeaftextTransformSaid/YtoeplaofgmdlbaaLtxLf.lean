/- The law Transform. -/
import Derived.Test.YtoeplaofgmdlbaaLtxLb
import Derived.Test.YtoeplaofgmdlbaaLtxRt
namespace Go.Proofs.Ytoeplaofgmdlbaa
open Go.RowKit
set_option maxRecDepth 20000
open Ltx (Pc)

def transL (xa xb : List IP) (p : Bool) : List Pc := if rightV xa = true ∧ rightV xb = true then Ltx.trans (Ltx.norm (xa.map unip)) (Ltx.norm (xb.map unip)) p else []
theorem transL_ok {la lb : List Pc} {p : Bool} (h1 : rightV (la.map ipc) = true) (h2 : rightV (lb.map ipc) = true) : transL (la.map ipc) (lb.map ipc) p = Ltx.trans (Ltx.norm la) (Ltx.norm lb) p := by
  unfold transL
  rw [if_pos ⟨h1, h2⟩, unip_ipc, unip_ipc]
theorem transL_not {xa xb : List IP} {p : Bool} (h : ¬ (rightV xa = true ∧ rightV xb = true)) : transL xa xb p = [] := by unfold transL; rw [if_neg h]
theorem transL_fine {xa xb : List IP} {p : Bool} (hsa : smallV xa 300 = true) (hsb : smallV xb 300 = true) : Ltx.Fine (transL xa xb p) := by
  by_cases h : rightV xa = true ∧ rightV xb = true
  · obtain ⟨hra, hrb⟩ := h
    obtain ⟨la, rfl⟩ := right_pcs hra
    obtain ⟨lb, rfl⟩ := right_pcs hrb
    have h1 := small_pcs hsa
    have h2 := small_pcs hsb
    have h3 := totP_norm la
    have h4 := totP_norm lb
    rw [transL_ok hra hrb]
    exact Ltx.trans_fine (n := 2000) (Nat.le_refl _) _ (show totP _ ≤ 2000 by omega) (show totP _ ≤ 2000 by omega)
  · rw [transL_not h]
    exact ⟨Nat.zero_le _, (fun p hp => by cases hp), Nat.zero_le _⟩
theorem transform_all (w : World) (A B : Option Addr) (n c m k : Nat) (xa xb : List IP) (p : Bool) (hx : PcsIn w A n xa) (hy : PcsIn w B m xb) (hn : n ≤ maxLen) (hm : m ≤ maxLen) (hsa : smallV xa 300 = true) (hsb : smallV xb 300 = true) :
    Calls Try.prog 20 #[.slice A n c, .slice B m k, .bool p] w fun e w' => ∃ v1 v2, e = .returned (.tuple #[v1, v2, .int .i64 (if rightV xa = true ∧ rightV xb = true then 0 else 2)]) ∧ OwnP w.heap.size w' v1 (transL xa xb p) ∧ OwnP w.heap.size w' v2 (transL xb xa (!p)) ∧ Below w.heap.size w w' := by
  by_cases h : rightV xa = true ∧ rightV xb = true
  · obtain ⟨hra, hrb⟩ := h
    obtain ⟨la, rfl⟩ := right_pcs hra
    obtain ⟨lb, rfl⟩ := right_pcs hrb
    have h1 := small_pcs hsa
    have h2 := small_pcs hsb
    have h3 := hx.1
    have h4 := hy.1
    rw [List.length_map] at h3 h4
    rw [if_pos ⟨hra, hrb⟩, transL_ok hra hrb, transL_ok hrb hra]
    exact transform_ok w A B n c m k la lb p hx hy (by omega) (by omega) (by omega) (by omega) hra hrb
  · rw [if_neg h, transL_not h, transL_not (fun e => h ⟨e.2, e.1⟩)]
    refine (transform_not w A B n c m k xa xb p hx hy hn hm ?_).mono fun e w' ⟨h1, h2⟩ => ⟨_, _, h1, OwnP.nil_ _ _, OwnP.nil_ _ _, h2⟩
    cases e1 : rightV xa with
    | false => exact .inl rfl
    | true => cases e2 : rightV xb with
      | false => exact .inr rfl
      | true => exact absurd ⟨e1, e2⟩ h
theorem rtransform_all (w : World) (A B : Option Addr) (n c m k : Nat) (xa xb : List IP) (p : Bool) (hx : PcsIn w A n xa) (hy : PcsIn w B m xb) (hn : n ≤ maxLen) (hm : m ≤ maxLen) (hsa : smallV xa 300 = true) (hsb : smallV xb 300 = true) :
    Calls Try.prog 21 #[.slice A n c, .slice B m k, .bool p] w fun e w' => ∃ v1 v2, e = .returned (.tuple #[v1, v2, .int .i64 (if rightV xa = true ∧ rightV xb = true then 0 else 2)]) ∧ OwnP w.heap.size w' v1 (transL xa xb p) ∧ OwnP w.heap.size w' v2 (transL xb xa (!p)) ∧ Below w.heap.size w w' := by
  by_cases h : rightV xa = true ∧ rightV xb = true
  · obtain ⟨hra, hrb⟩ := h
    obtain ⟨la, rfl⟩ := right_pcs hra
    obtain ⟨lb, rfl⟩ := right_pcs hrb
    have h1 := small_pcs hsa
    have h2 := small_pcs hsb
    have h3 := hx.1
    have h4 := hy.1
    rw [List.length_map] at h3 h4
    rw [if_pos ⟨hra, hrb⟩, transL_ok hra hrb, transL_ok hrb hra]
    exact rtransform_ok w A B n c m k la lb p hx hy (by omega) (by omega) (by omega) (by omega) hra hrb
  · rw [if_neg h, transL_not h, transL_not (fun e => h ⟨e.2, e.1⟩)]
    refine (rtransform_not w A B n c m k xa xb p hx hy hn hm ?_).mono fun e w' ⟨h1, h2⟩ => ⟨_, _, h1, OwnP.nil_ _ _, OwnP.nil_ _ _, h2⟩
    cases e1 : rightV xa with
    | false => exact .inl rfl
    | true => cases e2 : rightV xb with
      | false => exact .inr rfl
      | true => exact absurd ⟨e1, e2⟩ h
set_option maxHeartbeats 2400000 in
theorem lawTransform_any (w : World) (A B : Option Addr) (n c m k : Nat) (xa xb : List IP) (p : Bool) (hx : PcsIn w A n xa) (hy : PcsIn w B m xb) (hn : n ≤ maxLen) (hm : m ≤ maxLen) :
    Calls Try.prog 6 #[.slice A n c, .slice B m k, .bool p] w fun e w' => e = .returned (.bool true) ∧ Below w.heap.size w w' := by
  have hx0 := Lib.hid hx
  have hy0 := Lib.hid hy
  have hbl0 := Lib.hid (Below.refl w.heap.size w)
  clear hx hy
  rcases Bool.eq_false_or_eq_true (smallV xa 300) with hsa | hsa
  · rcases Bool.eq_false_or_eq_true (smallV xb 300) with hsb | hsb
    · have hlow' : Hid (∀ X : List Pc, Ltx.Fine X → Low X) := fun X hfX q hq => by
        have h1 := hfX.2.1 q hq
        have h2 := (Ltx.mem_sizes hq).2
        have h3 := hfX.2.2
        exact ⟨by omega, by omega, by omega⟩
      obtain ⟨z, hz⟩ : ∃ z : Int, z = if rightV xa = true ∧ rightV xb = true then 0 else 2 := ⟨_, rfl⟩
      have htr := Lib.hid (fun W (h : PcsIn W A n xa) (h2 : PcsIn W B m xb) => show Calls Try.prog 20 #[.slice A n c, .slice B m k, .bool p] W fun e w' => ∃ v1 v2, e = .returned (.tuple #[v1, v2, .int .i64 z]) ∧ OwnP W.heap.size w' v1 (transL xa xb p) ∧ OwnP W.heap.size w' v2 (transL xb xa (!p)) ∧ Below W.heap.size W w' by rw [hz]; exact transform_all W A B n c m k xa xb p h h2 hn hm hsa hsb)
      have hrt := Lib.hid (fun W (h : PcsIn W A n xa) (h2 : PcsIn W B m xb) => show Calls Try.prog 21 #[.slice A n c, .slice B m k, .bool p] W fun e w' => ∃ v1 v2, e = .returned (.tuple #[v1, v2, .int .i64 z]) ∧ OwnP W.heap.size w' v1 (transL xa xb p) ∧ OwnP W.heap.size w' v2 (transL xb xa (!p)) ∧ Below W.heap.size W w' by rw [hz]; exact rtransform_all W A B n c m k xa xb p h h2 hn hm hsa hsb)
      have hf1 := Lib.hid (transL_fine (p := p) hsa hsb)
      have hf2 := Lib.hid (transL_fine (p := !p) hsb hsa)
      obtain ⟨X, hX⟩ : ∃ X, X = transL xa xb p := ⟨_, rfl⟩
      obtain ⟨Y, hY⟩ : ∃ Y, Y = transL xb xa (!p) := ⟨_, rfl⟩
      rw [← hX] at hf1 htr hrt
      rw [← hY] at hf2 htr hrt
      have hsa' := Lib.hid hsa
      have hsb' := Lib.hid hsb
      clear hsa hsb hz hX hY
      go_enter Try.func6, Try.ntmps6
      go_wp2_with fail
      refine (small_any w A n c _ hx0.out hn 300 (by omega)).mono ?_
      rw [hsa'.out]
      rintro e w1 ⟨rfl, hb1⟩
      have hx1 := Lib.hid (hx0.out.below hb1)
      have hy1 := Lib.hid (hy0.out.below hb1)
      have hbl1 := Lib.hid (hbl0.out.trans (hb1.mono hbl0.out.size))
      clear hb1
      go_wp2_with fail
      refine (small_any w1 B m k _ hy1.out hm 300 (by omega)).mono ?_
      rw [hsb'.out]
      rintro e w2 ⟨rfl, hb2⟩
      have hx2 := Lib.hid (hx1.out.below hb2)
      have hy2 := Lib.hid (hy1.out.below hb2)
      have hbl2 := Lib.hid (hbl1.out.trans (hb2.mono hbl1.out.size))
      clear hb2
      go_wp2_with fail
      refine (htr.out w2 hx2.out hy2.out).mono ?_
      rintro e w3 ⟨v, v', rfl, hv, hv', hb3⟩
      have hx3 := Lib.hid (hx2.out.below hb3)
      have hy3 := Lib.hid (hy2.out.below hb3)
      have hbl3 := Lib.hid (hbl2.out.trans (hb3.mono hbl2.out.size))
      obtain ⟨AX, nX, cX, rfl, hnX, hncX, hcmX, hPX, -⟩ := hv.shape (hlow'.out _ hf1.out)
      have hnmX := Lib.hid (Nat.le_trans hncX hcmX)
      have hX3 := Lib.hid hPX
      clear hv hnX hncX hcmX hPX
      obtain ⟨AY, nY, cY, rfl, hnY, hncY, hcmY, hPY, -⟩ := hv'.shape (hlow'.out _ hf2.out)
      have hnmY := Lib.hid (Nat.le_trans hncY hcmY)
      have hY3 := Lib.hid hPY
      clear hv' hnY hncY hcmY hPY
      clear hb3
      go_wp2_with fail
      refine (hrt.out w3 hx3.out hy3.out).mono ?_
      rintro e w4 ⟨v, v', rfl, hv, hv', hb4⟩
      have hX4 := Lib.hid (hX3.out.below hb4)
      have hY4 := Lib.hid (hY3.out.below hb4)
      have hbl4 := Lib.hid (hbl3.out.trans (hb4.mono hbl3.out.size))
      obtain ⟨AU, nU, cU, rfl, hnU, hncU, hcmU, hPU, -⟩ := hv.shape (hlow'.out _ hf1.out)
      have hnmU := Lib.hid (Nat.le_trans hncU hcmU)
      have hU4 := Lib.hid hPU
      clear hv hnU hncU hcmU hPU
      obtain ⟨AV, nV, cV, rfl, hnV, hncV, hcmV, hPV, -⟩ := hv'.shape (hlow'.out _ hf2.out)
      have hnmV := Lib.hid (Nat.le_trans hncV hcmV)
      have hV4 := Lib.hid hPV
      clear hv' hnV hncV hcmV hPV
      clear hb4
      go_wp2_with fail
      refine (same_any w4 AX AU nX cX nU cU _ _ hX4.out hU4.out hnmX.out hnmU.out).mono ?_
      rw [sameP_iff.2 rfl]
      rintro e w5 ⟨rfl, hb5⟩
      have hY5 := Lib.hid (hY4.out.below hb5)
      have hV5 := Lib.hid (hV4.out.below hb5)
      have hbl5 := Lib.hid (hbl4.out.trans (hb5.mono hbl4.out.size))
      clear hb5
      go_wp2_with fail
      refine (same_any w5 AY AV nY cY nV cV _ _ hY5.out hV5.out hnmY.out hnmV.out).mono ?_
      rw [sameP_iff.2 rfl]
      rintro e w6 ⟨rfl, hb6⟩
      have hbl6 := Lib.hid (hbl5.out.trans (hb6.mono hbl5.out.size))
      clear hb6
      go_wp2_with fail
      refine (works_any _).mono ?_
      rintro e w7 ⟨rfl, hb7⟩
      have hbl7 := Lib.hid (hbl6.out.trans (hb7.mono hbl6.out.size))
      clear hb7
      go_wp2_with fail
      go_ret
      exact ⟨rfl, hbl7.out⟩
    · have hsa' := Lib.hid hsa
      have hsb' := Lib.hid hsb
      clear hsa hsb
      go_enter Try.func6, Try.ntmps6
      go_wp2_with fail
      refine (small_any w A n c _ hx0.out hn 300 (by omega)).mono ?_
      rw [hsa'.out]
      rintro e w1 ⟨rfl, hb1⟩
      have hx1 := Lib.hid (hx0.out.below hb1)
      have hy1 := Lib.hid (hy0.out.below hb1)
      have hbl1 := Lib.hid (hbl0.out.trans (hb1.mono hbl0.out.size))
      clear hb1
      go_wp2_with fail
      refine (small_any w1 B m k _ hy1.out hm 300 (by omega)).mono ?_
      rw [hsb'.out]
      rintro e w2 ⟨rfl, hb2⟩
      have hx2 := Lib.hid (hx1.out.below hb2)
      have hy2 := Lib.hid (hy1.out.below hb2)
      have hbl2 := Lib.hid (hbl1.out.trans (hb2.mono hbl1.out.size))
      clear hb2
      go_wp2_with fail
      refine (works_any _).mono ?_
      rintro e w3 ⟨rfl, hb3⟩
      have hbl3 := Lib.hid (hbl2.out.trans (hb3.mono hbl2.out.size))
      clear hb3
      go_wp2_with fail
      go_ret
      exact ⟨rfl, hbl3.out⟩
  · have hsa' := Lib.hid hsa
    clear hsa
    go_enter Try.func6, Try.ntmps6
    go_wp2_with fail
    refine (small_any w A n c _ hx0.out hn 300 (by omega)).mono ?_
    rw [hsa'.out]
    rintro e w1 ⟨rfl, hb1⟩
    have hbl1 := Lib.hid (hbl0.out.trans (hb1.mono hbl0.out.size))
    clear hb1
    go_wp2_with fail
    refine (works_any _).mono ?_
    rintro e w2 ⟨rfl, hb2⟩
    have hbl2 := Lib.hid (hbl1.out.trans (hb2.mono hbl1.out.size))
    clear hb2
    go_wp2_with fail
    go_ret
    exact ⟨rfl, hbl2.out⟩
end Go.Proofs.Ytoeplaofgmdlbaa
