/- The law Square. -/
import Derived.Test.YtoeplaofgmdlbaaLtxLb
namespace Go.Proofs.Ytoeplaofgmdlbaa
open Go.RowKit
set_option maxRecDepth 20000
open Ltx (Pc)

set_option maxHeartbeats 2400000 in
theorem lawSquare_any (w : World) (t : List UInt8) (A B : Option Addr) (n c m k : Nat) (xa xb : List IP) (p : Bool) (ht : t.length ≤ maxLen) (hx : PcsIn w A n xa) (hy : PcsIn w B m xb) (hn : n ≤ maxLen) (hm : m ≤ maxLen) :
    Calls Try.prog 7 #[.string ⟨t.toArray⟩, .slice A n c, .slice B m k, .bool p] w fun e w' => e = .returned (.bool true) ∧ Below w.heap.size w w' := by
  have hx0 := Lib.hid hx
  have hy0 := Lib.hid hy
  have hbl0 := Lib.hid (Below.refl w.heap.size w)
  clear hx hy
  by_cases h1 : 600 < t.length
  · have h1I : (600 : Int) < (t.length : Int) := by omega
    go_enter Try.func7, Try.ntmps7
    go_wp2_with fail
    refine (works_any _).mono ?_
    rintro e w1 ⟨rfl, hb1⟩
    have hbl1 := Lib.hid (hbl0.out.trans (hb1.mono hbl0.out.size))
    clear hb1
    go_wp2_with fail
    go_ret
    exact ⟨rfl, hbl1.out⟩
  · have h1I : ¬ (600 : Int) < (t.length : Int) := by omega
    have ht' : t.length ≤ 10000000 := by omega
    rcases Bool.eq_false_or_eq_true (smallV xa 300) with hsa | hsa
    · have hsa' := Lib.hid hsa
      clear hsa
      rcases Bool.eq_false_or_eq_true (smallV xb 300) with hsb | hsb
      · have hsb' := Lib.hid hsb
        clear hsb
        obtain ⟨r, hr⟩ : ∃ r, r = (applyV t xa).1 := ⟨_, rfl⟩
        obtain ⟨z, hz⟩ : ∃ z, z = (applyV t xa).2 := ⟨_, rfl⟩
        obtain ⟨r2, hr2⟩ : ∃ r, r = (applyV t xb).1 := ⟨_, rfl⟩
        obtain ⟨z2, hz2⟩ : ∃ z, z = (applyV t xb).2 := ⟨_, rfl⟩
        have hap := Lib.hid (fun W (h : PcsIn W A n xa) => show Calls Try.prog 18 #[.string ⟨t.toArray⟩, .slice A n c] W fun e w' => e = .returned (.tuple #[.string ⟨r.toArray⟩, .int .i64 z]) ∧ Below W.heap.size W w' by rw [hr, hz]; exact apply_all W t A n c xa h hn ht')
        have hbp := Lib.hid (fun W (h : PcsIn W B m xb) => show Calls Try.prog 18 #[.string ⟨t.toArray⟩, .slice B m k] W fun e w' => e = .returned (.tuple #[.string ⟨r2.toArray⟩, .int .i64 z2]) ∧ Below W.heap.size W w' by rw [hr2, hz2]; exact apply_all W t B m k xb h hm ht')
        have hrH := Lib.hid hr
        have hzH := Lib.hid hz
        have hr2H := Lib.hid hr2
        have hz2H := Lib.hid hz2
        clear hr hz hr2 hz2
        by_cases hz0 : z = 0
        · by_cases hz20 : z2 = 0
          · obtain ⟨la, rfl, hra, hfa, hva⟩ := applyV_inv (hzH.out.symm.trans hz0)
            obtain ⟨lb, rfl, hrb, hfb, hvb⟩ := applyV_inv (hz2H.out.symm.trans hz20)
            have hna := small_pcs hsa'.out
            have hnb := small_pcs hsb'.out
            have hla := (hx0.out).1
            have hlb := (hy0.out).1
            rw [List.length_map] at hla hlb
            have hn5 : n ≤ 100000 := by omega
            have hm5 : m ≤ 100000 := by omega
            have hta := totP_norm la
            have htb := totP_norm lb
            obtain ⟨X, hX⟩ : ∃ X, X = Ltx.trans (Ltx.norm la) (Ltx.norm lb) p := ⟨_, rfl⟩
            obtain ⟨Y, hY⟩ : ∃ Y, Y = Ltx.trans (Ltx.norm lb) (Ltx.norm la) (!p) := ⟨_, rfl⟩
            have hfX : Ltx.Fine X := by rw [hX]; exact Ltx.trans_fine (n := 2000) (Nat.le_refl _) _ (show totP _ ≤ 2000 by omega) (show totP _ ≤ 2000 by omega)
            have hfY : Ltx.Fine Y := by rw [hY]; exact Ltx.trans_fine (n := 2000) (Nat.le_refl _) _ (show totP _ ≤ 2000 by omega) (show totP _ ≤ 2000 by omega)
            have ena := Ltx.extent_norm la
            have enb := Ltx.extent_norm lb
            have hfitX : Ltx.extent X ≤ (Ltx.apply t (Ltx.norm lb)).length := by rw [hX]; exact Ltx.trans_fits _ _ p t (by omega) (by omega)
            have hfitY : Ltx.extent Y ≤ (Ltx.apply t (Ltx.norm la)).length := by rw [hY]; exact Ltx.trans_fits _ _ (!p) t (by omega) (by omega)
            have hsq := Ltx.square (Ltx.norm la) (Ltx.norm lb) p t (by omega) (by omega)
            rw [← hX, ← hY] at hsq
            rw [Ltx.apply_norm] at hfitX hfitY
            rw [Ltx.apply_norm, Ltx.apply_norm] at hsq
            obtain ⟨u, hu⟩ : ∃ u, u = Ltx.apply (Ltx.apply t la) Y := ⟨_, rfl⟩
            rw [← hu] at hsq
            have eY := Lib.hid (show applyV r (Y.map ipc) = (u, 0) by rw [hrH.out, hva, applyV_ok (right_fine hfY) hfitY, hu])
            have eX := Lib.hid (show applyV r2 (X.map ipc) = (u, 0) by rw [hr2H.out, hvb, applyV_ok (right_fine hfX) hfitX, hsq])
            have hrl : r.length ≤ 10000000 := by
              have h7 := Ltx.apply_len la t
              have h8 : totP la = Ltx.extent la + Ltx.puts la := rfl
              rw [hrH.out, hva]
              omega
            have hrl2 : r2.length ≤ 10000000 := by
              have h7 := Ltx.apply_len lb t
              have h8 : totP lb = Ltx.extent lb + Ltx.puts lb := rfl
              rw [hr2H.out, hvb]
              omega
            have hlowX := Lib.hid (show Low X from fun q hq => by
              have h1 := hfX.2.1 q hq
              have h2 := (Ltx.mem_sizes hq).2
              have h3 := hfX.2.2
              exact ⟨by omega, by omega, by omega⟩)
            have hlowY := Lib.hid (show Low Y from fun q hq => by
              have h1 := hfY.2.1 q hq
              have h2 := (Ltx.mem_sizes hq).2
              have h3 := hfY.2.2
              exact ⟨by omega, by omega, by omega⟩)
            have hsa2 : totP la ≤ 2000 := by omega
            have hsb2 : totP lb ≤ 2000 := by omega
            have htr := Lib.hid (fun W (h : PcsIn W A n (la.map ipc)) (h2 : PcsIn W B m (lb.map ipc)) => show Calls Try.prog 20 #[.slice A n c, .slice B m k, .bool p] W fun e w' => ∃ v1 v2, e = .returned (.tuple #[v1, v2, .int .i64 0]) ∧ OwnP W.heap.size w' v1 X ∧ OwnP W.heap.size w' v2 Y ∧ Below W.heap.size W w' by
              rw [hX, hY]; exact transform_ok W A B n c m k la lb p h h2 hn5 hm5 hsa2 hsb2 hra hrb)
            have htr2 := Lib.hid (fun W (h : PcsIn W A n (la.map ipc)) (h2 : PcsIn W B m (lb.map ipc)) => show Calls Try.prog 20 #[.slice B m k, .slice A n c, .bool (!p)] W fun e w' => ∃ v1 v2, e = .returned (.tuple #[v1, v2, .int .i64 0]) ∧ OwnP W.heap.size w' v1 Y ∧ OwnP W.heap.size w' v2 X ∧ Below W.heap.size W w' by
              have h := transform_ok W B A m k n c lb la (!p) h2 h hm5 hn5 hsb2 hsa2 hrb hra
              rw [Bool.not_not] at h
              rw [hX, hY]; exact h)
            subst hz0
            subst hz20
            clear hva hvb hna hnb hla hlb hta htb hX hY hfX hfY ena enb hfitX hfitY hsq hu hra hrb hfa hfb hrH hr2H hzH hz2H hsa2 hsb2
            go_enter Try.func7, Try.ntmps7
            go_wp2_with fail
            refine (small_any w A n c _ hx0.out hn 300 (by omega)).mono ?_
            rw [hsa'.out]
            rintro e w1 ⟨rfl, hb1⟩
            have hx1 := Lib.hid (hx0.out.below hb1)
            have hy1 := Lib.hid (hy0.out.below hb1)
            have hbl1 := Lib.hid (hbl0.out.trans (hb1.mono hbl0.out.size))
            clear hb1
            go_wp2_with fail
            refine (small_any w1 B m k _ hy1.out hm 300 (by omega)).mono ?_
            rw [hsb'.out]
            rintro e w2 ⟨rfl, hb2⟩
            have hx2 := Lib.hid (hx1.out.below hb2)
            have hy2 := Lib.hid (hy1.out.below hb2)
            have hbl2 := Lib.hid (hbl1.out.trans (hb2.mono hbl1.out.size))
            clear hb2
            go_wp2_with fail
            refine (hap.out w2 hx2.out).mono ?_
            rintro e w3 ⟨rfl, hb3⟩
            have hx3 := Lib.hid (hx2.out.below hb3)
            have hy3 := Lib.hid (hy2.out.below hb3)
            have hbl3 := Lib.hid (hbl2.out.trans (hb3.mono hbl2.out.size))
            clear hb3
            go_wp2_with fail
            refine (hbp.out w3 hy3.out).mono ?_
            rintro e w4 ⟨rfl, hb4⟩
            have hx4 := Lib.hid (hx3.out.below hb4)
            have hy4 := Lib.hid (hy3.out.below hb4)
            have hbl4 := Lib.hid (hbl3.out.trans (hb4.mono hbl3.out.size))
            clear hb4
            go_wp2_with fail
            refine (htr.out w4 hx4.out hy4.out).mono ?_
            rintro e w5 ⟨v, v', rfl, hv, hv', hb5⟩
            have hx5 := Lib.hid (hx4.out.below hb5)
            have hy5 := Lib.hid (hy4.out.below hb5)
            have hbl5 := Lib.hid (hbl4.out.trans (hb5.mono hbl4.out.size))
            obtain ⟨AX, nX, cX, rfl, hnX, hncX, hcmX, hPX, -⟩ := hv.shape hlowX.out
            have hnmX := Lib.hid (Nat.le_trans hncX hcmX)
            clear hv hnX hncX hcmX
            obtain ⟨AY, nY, cY, rfl, hnY, hncY, hcmY, hPY, -⟩ := hv'.shape hlowY.out
            have hnmY := Lib.hid (Nat.le_trans hncY hcmY)
            clear hv' hnY hncY hcmY
            have hX5 := Lib.hid hPX
            have hY5 := Lib.hid hPY
            clear hPX hPY
            clear hb5
            go_wp2_with fail
            refine (apply_all w5 r AY nY cY _ hY5.out hnmY.out hrl).mono ?_
            rw [eY.out]
            rintro e w6 ⟨rfl, hb6⟩
            have hx6 := Lib.hid (hx5.out.below hb6)
            have hy6 := Lib.hid (hy5.out.below hb6)
            have hX6 := Lib.hid (hX5.out.below hb6)
            have hY6 := Lib.hid (hY5.out.below hb6)
            have hbl6 := Lib.hid (hbl5.out.trans (hb6.mono hbl5.out.size))
            clear hb6
            go_wp2_with fail
            refine (apply_all w6 r2 AX nX cX _ hX6.out hnmX.out hrl2).mono ?_
            rw [eX.out]
            rintro e w7 ⟨rfl, hb7⟩
            have hx7 := Lib.hid (hx6.out.below hb7)
            have hy7 := Lib.hid (hy6.out.below hb7)
            have hX7 := Lib.hid (hX6.out.below hb7)
            have hY7 := Lib.hid (hY6.out.below hb7)
            have hbl7 := Lib.hid (hbl6.out.trans (hb7.mono hbl6.out.size))
            clear hb7
            go_wp2_with fail
            refine (htr2.out w7 hx7.out hy7.out).mono ?_
            rintro e w8 ⟨v, v', rfl, hv, hv', hb8⟩
            have hX8 := Lib.hid (hX7.out.below hb8)
            have hY8 := Lib.hid (hY7.out.below hb8)
            have hbl8 := Lib.hid (hbl7.out.trans (hb8.mono hbl7.out.size))
            obtain ⟨AU, nU, cU, rfl, hnU, hncU, hcmU, hPU, -⟩ := hv.shape hlowY.out
            have hnmU := Lib.hid (Nat.le_trans hncU hcmU)
            clear hv hnU hncU hcmU
            obtain ⟨AV, nV, cV, rfl, hnV, hncV, hcmV, hPV, -⟩ := hv'.shape hlowX.out
            have hnmV := Lib.hid (Nat.le_trans hncV hcmV)
            clear hv' hnV hncV hcmV
            have hU8 := Lib.hid hPU
            have hV8 := Lib.hid hPV
            clear hPU hPV
            clear hb8
            go_wp2_with fail
            refine (same_any w8 AU AY nU cU nY cY _ _ hU8.out hY8.out hnmU.out hnmY.out).mono ?_
            rw [sameP_iff.2 rfl]
            rintro e w9 ⟨rfl, hb9⟩
            have hX9 := Lib.hid (hX8.out.below hb9)
            have hV9 := Lib.hid (hV8.out.below hb9)
            have hbl9 := Lib.hid (hbl8.out.trans (hb9.mono hbl8.out.size))
            clear hb9
            go_wp2_with fail
            refine (same_any w9 AV AX nV cV nX cX _ _ hV9.out hX9.out hnmV.out hnmX.out).mono ?_
            rw [sameP_iff.2 rfl]
            rintro e w10 ⟨rfl, hb10⟩
            have hbl10 := Lib.hid (hbl9.out.trans (hb10.mono hbl9.out.size))
            clear hb10
            go_wp2_with fail
            refine (works_any _).mono ?_
            rintro e w11 ⟨rfl, hb11⟩
            have hbl11 := Lib.hid (hbl10.out.trans (hb11.mono hbl10.out.size))
            clear hb11
            go_wp2_with fail
            go_ret
            exact ⟨rfl, hbl11.out⟩
          · have hz1 : ¬ z2 = 0 := hz20
            subst hz0
            go_enter Try.func7, Try.ntmps7
            go_wp2_with fail
            refine (small_any w A n c _ hx0.out hn 300 (by omega)).mono ?_
            rw [hsa'.out]
            rintro e w1 ⟨rfl, hb1⟩
            have hx1 := Lib.hid (hx0.out.below hb1)
            have hy1 := Lib.hid (hy0.out.below hb1)
            have hbl1 := Lib.hid (hbl0.out.trans (hb1.mono hbl0.out.size))
            clear hb1
            go_wp2_with fail
            refine (small_any w1 B m k _ hy1.out hm 300 (by omega)).mono ?_
            rw [hsb'.out]
            rintro e w2 ⟨rfl, hb2⟩
            have hx2 := Lib.hid (hx1.out.below hb2)
            have hy2 := Lib.hid (hy1.out.below hb2)
            have hbl2 := Lib.hid (hbl1.out.trans (hb2.mono hbl1.out.size))
            clear hb2
            go_wp2_with fail
            refine (hap.out w2 hx2.out).mono ?_
            rintro e w3 ⟨rfl, hb3⟩
            have hx3 := Lib.hid (hx2.out.below hb3)
            have hy3 := Lib.hid (hy2.out.below hb3)
            have hbl3 := Lib.hid (hbl2.out.trans (hb3.mono hbl2.out.size))
            clear hb3
            go_wp2_with fail
            refine (hbp.out w3 hy3.out).mono ?_
            rintro e w4 ⟨rfl, hb4⟩
            have hx4 := Lib.hid (hx3.out.below hb4)
            have hy4 := Lib.hid (hy3.out.below hb4)
            have hbl4 := Lib.hid (hbl3.out.trans (hb4.mono hbl3.out.size))
            clear hb4
            go_wp2_with fail
            refine (works_any _).mono ?_
            rintro e w5 ⟨rfl, hb5⟩
            have hbl5 := Lib.hid (hbl4.out.trans (hb5.mono hbl4.out.size))
            clear hb5
            go_wp2_with fail
            go_ret
            exact ⟨rfl, hbl5.out⟩
        · have hz1 : ¬ z = 0 := hz0
          go_enter Try.func7, Try.ntmps7
          go_wp2_with fail
          refine (small_any w A n c _ hx0.out hn 300 (by omega)).mono ?_
          rw [hsa'.out]
          rintro e w1 ⟨rfl, hb1⟩
          have hx1 := Lib.hid (hx0.out.below hb1)
          have hy1 := Lib.hid (hy0.out.below hb1)
          have hbl1 := Lib.hid (hbl0.out.trans (hb1.mono hbl0.out.size))
          clear hb1
          go_wp2_with fail
          refine (small_any w1 B m k _ hy1.out hm 300 (by omega)).mono ?_
          rw [hsb'.out]
          rintro e w2 ⟨rfl, hb2⟩
          have hx2 := Lib.hid (hx1.out.below hb2)
          have hy2 := Lib.hid (hy1.out.below hb2)
          have hbl2 := Lib.hid (hbl1.out.trans (hb2.mono hbl1.out.size))
          clear hb2
          go_wp2_with fail
          refine (hap.out w2 hx2.out).mono ?_
          rintro e w3 ⟨rfl, hb3⟩
          have hx3 := Lib.hid (hx2.out.below hb3)
          have hy3 := Lib.hid (hy2.out.below hb3)
          have hbl3 := Lib.hid (hbl2.out.trans (hb3.mono hbl2.out.size))
          clear hb3
          go_wp2_with fail
          refine (hbp.out w3 hy3.out).mono ?_
          rintro e w4 ⟨rfl, hb4⟩
          have hx4 := Lib.hid (hx3.out.below hb4)
          have hy4 := Lib.hid (hy3.out.below hb4)
          have hbl4 := Lib.hid (hbl3.out.trans (hb4.mono hbl3.out.size))
          clear hb4
          go_wp2_with fail
          refine (works_any _).mono ?_
          rintro e w5 ⟨rfl, hb5⟩
          have hbl5 := Lib.hid (hbl4.out.trans (hb5.mono hbl4.out.size))
          clear hb5
          go_wp2_with fail
          go_ret
          exact ⟨rfl, hbl5.out⟩
      · have hsb' := Lib.hid hsb
        clear hsb
        go_enter Try.func7, Try.ntmps7
        go_wp2_with fail
        refine (small_any w A n c _ hx0.out hn 300 (by omega)).mono ?_
        rw [hsa'.out]
        rintro e w1 ⟨rfl, hb1⟩
        have hx1 := Lib.hid (hx0.out.below hb1)
        have hy1 := Lib.hid (hy0.out.below hb1)
        have hbl1 := Lib.hid (hbl0.out.trans (hb1.mono hbl0.out.size))
        clear hb1
        go_wp2_with fail
        refine (small_any w1 B m k _ hy1.out hm 300 (by omega)).mono ?_
        rw [hsb'.out]
        rintro e w2 ⟨rfl, hb2⟩
        have hx2 := Lib.hid (hx1.out.below hb2)
        have hy2 := Lib.hid (hy1.out.below hb2)
        have hbl2 := Lib.hid (hbl1.out.trans (hb2.mono hbl1.out.size))
        clear hb2
        go_wp2_with fail
        refine (works_any _).mono ?_
        rintro e w3 ⟨rfl, hb3⟩
        have hbl3 := Lib.hid (hbl2.out.trans (hb3.mono hbl2.out.size))
        clear hb3
        go_wp2_with fail
        go_ret
        exact ⟨rfl, hbl3.out⟩
    · have hsa' := Lib.hid hsa
      clear hsa
      go_enter Try.func7, Try.ntmps7
      go_wp2_with fail
      refine (small_any w A n c _ hx0.out hn 300 (by omega)).mono ?_
      rw [hsa'.out]
      rintro e w1 ⟨rfl, hb1⟩
      have hbl1 := Lib.hid (hbl0.out.trans (hb1.mono hbl0.out.size))
      clear hb1
      go_wp2_with fail
      refine (works_any _).mono ?_
      rintro e w2 ⟨rfl, hb2⟩
      have hbl2 := Lib.hid (hbl1.out.trans (hb2.mono hbl1.out.size))
      clear hb2
      go_wp2_with fail
      go_ret
      exact ⟨rfl, hbl2.out⟩
end Go.Proofs.Ytoeplaofgmdlbaa
