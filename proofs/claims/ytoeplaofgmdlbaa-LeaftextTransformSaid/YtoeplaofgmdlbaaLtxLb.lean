/- The law Apply. -/
import Derived.Test.YtoeplaofgmdlbaaLtxLa
namespace Go.Proofs.Ytoeplaofgmdlbaa
open Go.RowKit
set_option maxRecDepth 20000
open Ltx (Pc)

theorem fine_norm {l : List Pc} (h : totP l ≤ 4000) : Ltx.Fine (Ltx.norm l) := by
  have h1 := totP_norm l
  have h2 := normal_tot (Ltx.norm_normal l)
  have h3 := Ltx.extent_two (Ltx.norm l)
  unfold totP at *
  exact Ltx.fine_of (by omega) (by omega) (by omega)
theorem small_tot {xs : List IP} {top : Nat} (h : smallV xs top = true) (hr : rightV xs = true) : ∃ l : List Pc, xs = l.map ipc ∧ totP l ≤ top := by
  obtain ⟨l, rfl⟩ := right_pcs hr
  exact ⟨l, rfl, (small_pcs h).1⟩
set_option maxHeartbeats 1600000 in
theorem lawApply_any (w : World) (t : List UInt8) (A : Option Addr) (n c : Nat) (xs : List IP) (ht : t.length ≤ maxLen) (hx : PcsIn w A n xs) (hn : n ≤ maxLen) :
    Calls Try.prog 5 #[.string ⟨t.toArray⟩, .slice A n c] w fun e w' => e = .returned (.bool true) ∧ Below w.heap.size w w' := by
  have hx0 := Lib.hid hx
  have hbl0 := Lib.hid (Below.refl w.heap.size w)
  clear hx
  by_cases h1 : 1000 < t.length
  · have h1I : (1000 : Int) < (t.length : Int) := by omega
    go_enter Try.func5, Try.ntmps5
    go_wp2_with fail
    refine (works_any _).mono ?_
    rintro e w1 ⟨rfl, hb1⟩
    have hb1' := Lib.hid hb1
    clear hb1
    go_wp2_with fail
    go_ret
    exact ⟨rfl, hb1'.out⟩
  · have h1I : ¬ (1000 : Int) < (t.length : Int) := by omega
    have ht' : t.length ≤ 10000000 := by omega
    rcases Bool.eq_false_or_eq_true (smallV xs 400) with hs | hs
    · have hs' := Lib.hid hs
      clear hs
      obtain ⟨r, hr⟩ : ∃ r, r = (applyV t xs).1 := ⟨_, rfl⟩
      obtain ⟨z, hz⟩ : ∃ z, z = (applyV t xs).2 := ⟨_, rfl⟩
      have hap := Lib.hid (fun W (h : PcsIn W A n xs) => show Calls Try.prog 18 #[.string ⟨t.toArray⟩, .slice A n c] W fun e w' => e = .returned (.tuple #[.string ⟨r.toArray⟩, .int .i64 z]) ∧ Below W.heap.size W w' by rw [hr, hz]; exact apply_all W t A n c xs h hn ht')
      have hrp := Lib.hid (fun W (h : PcsIn W A n xs) => show Calls Try.prog 19 #[.string ⟨t.toArray⟩, .slice A n c] W fun e w' => e = .returned (.tuple #[.string ⟨r.toArray⟩, .int .i64 z]) ∧ Below W.heap.size W w' by rw [hr, hz]; exact rapply_all W t A n c xs h hn ht')
      have hrH := Lib.hid hr
      have hzH := Lib.hid hz
      clear hr hz
      by_cases hz0 : z = 0
      · have hinv := Lib.hid (applyV_inv (hzH.out.symm.trans hz0))
        subst hz0
        obtain ⟨l, rfl, hrt, hf, hva⟩ := hinv.out
        have htot := (small_pcs hs'.out).1
        have hfn := Lib.hid (fine_norm (l := l) (by omega))
        have hen := Ltx.extent_norm l
        have hap2 := Lib.hid (applyV_ok (t := t) (right_fine hfn.out) (by omega))
        have hrv := Lib.hid (hrH.out.trans hva)
        clear hva hf hrH hinv hzH
        have hrt' := Lib.hid hrt
        clear hrt
        go_enter Try.func5, Try.ntmps5
        go_wp2_with fail
        refine (small_any w A n c _ hx0.out hn 400 (by omega)).mono ?_
        rw [hs'.out]
        rintro e w1 ⟨rfl, hb1⟩
        have hx1 := Lib.hid (hx0.out.below hb1)
        have hbl1 := Lib.hid (hbl0.out.trans (hb1.mono hbl0.out.size))
        clear hb1
        go_wp2_with fail
        refine (hap.out w1 hx1.out).mono ?_
        rintro e w2 ⟨rfl, hb2⟩
        have hx2 := Lib.hid (hx1.out.below hb2)
        have hbl2 := Lib.hid (hbl1.out.trans (hb2.mono hbl1.out.size))
        clear hb2
        go_wp2_with fail
        refine (hrp.out w2 hx2.out).mono ?_
        rintro e w3 ⟨rfl, hb3⟩
        have hx3 := Lib.hid (hx2.out.below hb3)
        have hbl3 := Lib.hid (hbl2.out.trans (hb3.mono hbl2.out.size))
        clear hb3
        go_wp2_with fail
        refine (norm_right w3 A n c l hx3.out hn (by omega) hrt'.out).mono ?_
        rintro e w4 ⟨v, rfl, hv, hb4⟩
        have hx4 := Lib.hid (hx3.out.below hb4)
        have hbl4 := Lib.hid (hbl3.out.trans (hb4.mono hbl3.out.size))
        obtain ⟨A4, n4, c4, rfl, hn4, hnc4, hcm4, hP4, -⟩ := hv.shape (low_of (Nat.le_trans (totP_norm l) (by omega)))
        have hy4 := Lib.hid hP4
        have hnm4 := Lib.hid (Nat.le_trans hnc4 hcm4)
        clear hv hn4 hP4 hnc4 hcm4
        clear hb4
        go_wp2_with fail
        refine (apply_all w4 t A4 n4 c4 _ hy4.out hnm4.out ht').mono ?_
        rw [hap2.out, Ltx.apply_norm, ← hrv.out]
        rintro e w5 ⟨rfl, hb5⟩
        have hbl5 := Lib.hid (hbl4.out.trans (hb5.mono hbl4.out.size))
        clear hb5
        go_wp2_with fail
        refine (works_any _).mono ?_
        rintro e w6 ⟨rfl, hb6⟩
        have hbl6 := Lib.hid (hbl5.out.trans (hb6.mono hbl5.out.size))
        clear hb6
        go_wp2_with fail
        go_ret
        exact ⟨rfl, hbl6.out⟩
      · have hz1 : ¬ z = 0 := hz0
        go_enter Try.func5, Try.ntmps5
        go_wp2_with fail
        refine (small_any w A n c _ hx0.out hn 400 (by omega)).mono ?_
        rw [hs'.out]
        rintro e w1 ⟨rfl, hb1⟩
        have hx1 := Lib.hid (hx0.out.below hb1)
        have hbl1 := Lib.hid (hbl0.out.trans (hb1.mono hbl0.out.size))
        clear hb1
        go_wp2_with fail
        refine (hap.out w1 hx1.out).mono ?_
        rintro e w2 ⟨rfl, hb2⟩
        have hx2 := Lib.hid (hx1.out.below hb2)
        have hbl2 := Lib.hid (hbl1.out.trans (hb2.mono hbl1.out.size))
        clear hb2
        go_wp2_with fail
        refine (hrp.out w2 hx2.out).mono ?_
        rintro e w3 ⟨rfl, hb3⟩
        have hx3 := Lib.hid (hx2.out.below hb3)
        have hbl3 := Lib.hid (hbl2.out.trans (hb3.mono hbl2.out.size))
        clear hb3
        go_wp2_with fail
        refine (works_any _).mono ?_
        rintro e w4 ⟨rfl, hb4⟩
        have hbl4 := Lib.hid (hbl3.out.trans (hb4.mono hbl3.out.size))
        clear hb4
        go_wp2_with fail
        go_ret
        exact ⟨rfl, hbl4.out⟩
    · have hs' := Lib.hid hs
      clear hs
      go_enter Try.func5, Try.ntmps5
      go_wp2_with fail
      refine (small_any w A n c _ hx0.out hn 400 (by omega)).mono ?_
      rw [hs'.out]
      rintro e w1 ⟨rfl, hb1⟩
      have hbl1 := Lib.hid (hbl0.out.trans (hb1.mono hbl0.out.size))
      clear hb1
      go_wp2_with fail
      refine (works_any _).mono ?_
      rintro e w2 ⟨rfl, hb2⟩
      have hbl2 := Lib.hid (hbl1.out.trans (hb2.mono hbl1.out.size))
      clear hb2
      go_wp2_with fail
      go_ret
      exact ⟨rfl, hbl2.out⟩
end Go.Proofs.Ytoeplaofgmdlbaa
