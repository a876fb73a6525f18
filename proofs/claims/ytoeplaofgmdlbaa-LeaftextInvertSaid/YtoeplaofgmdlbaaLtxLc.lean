/- The law Invert. -/
import Derived.Test.YtoeplaofgmdlbaaLtxLb
namespace Go.Proofs.Ytoeplaofgmdlbaa
open Go.RowKit
set_option maxRecDepth 20000
open Ltx (Pc)

/-- what undoes the edit; nothing, where it is refused -/
def invL (t : List UInt8) (xs : List IP) : List Pc := if (applyV t xs).2 = 0 then Ltx.norm (Ltx.inv t (xs.map unip)) else []
theorem invL_ok {t : List UInt8} {l : List Pc} (h : rightV (l.map ipc) = true) (hf : Ltx.extent l ≤ t.length) : invL t (l.map ipc) = Ltx.norm (Ltx.inv t l) := by
  unfold invL
  rw [applyV_ok h hf, if_pos rfl, unip_ipc]
theorem invL_not {t : List UInt8} {xs : List IP} (h : (applyV t xs).2 ≠ 0) : invL t xs = [] := by unfold invL; rw [if_neg h]
theorem invL_tot {t : List UInt8} {xs : List IP} {top : Nat} (hs : smallV xs top = true) : totP (invL t xs) ≤ top := by
  by_cases h : (applyV t xs).2 = 0
  · obtain ⟨l, rfl, hr, hf, _⟩ := applyV_inv h
    rw [invL_ok hr hf]
    exact Nat.le_trans (totP_norm _) (Nat.le_trans (inv_tot l t) (small_pcs hs).1)
  · rw [invL_not h]
    exact Nat.zero_le _
theorem invert_all (w : World) (t : List UInt8) (A : Option Addr) (n c : Nat) (xs : List IP) (hx : PcsIn w A n xs) (hn : n ≤ maxLen) (ht : t.length ≤ 10000000) (hs : smallV xs 300 = true) :
    Calls Try.prog 24 #[.string ⟨t.toArray⟩, .slice A n c] w fun e w' => ∃ v, e = .returned (.tuple #[v, .int .i64 (applyV t xs).2]) ∧ OwnP w.heap.size w' v (invL t xs) ∧ Below w.heap.size w w' := by
  rcases Bool.eq_false_or_eq_true (rightV xs) with hr | hr
  · obtain ⟨l, rfl⟩ := right_pcs hr
    have htot := (small_pcs hs).1
    rcases Nat.lt_or_ge t.length (Ltx.extent l) with hf | hf
    · have e := applyV_far hr hf
      rw [e, invL_not (by rw [e]; decide)]
      exact (invert_far w t A n c l hx hn ht hr hf).mono fun e w' ⟨h1, h2⟩ => ⟨_, h1, OwnP.nil_ _ _, h2⟩
    · rw [applyV_ok hr hf, invL_ok hr hf]; exact invert_ok w t A n c l hx hn ht hr hf (by omega)
  · have e := applyV_not (t := t) hr
    rw [e, invL_not (by rw [e]; decide)]
    exact (invert_not w t A n c xs hx hn hr).mono fun e w' ⟨h1, h2⟩ => ⟨_, h1, OwnP.nil_ _ _, h2⟩
theorem rinvert_all (w : World) (t : List UInt8) (A : Option Addr) (n c : Nat) (xs : List IP) (hx : PcsIn w A n xs) (hn : n ≤ maxLen) (ht : t.length ≤ 10000000) (hs : smallV xs 300 = true) :
    Calls Try.prog 25 #[.string ⟨t.toArray⟩, .slice A n c] w fun e w' => ∃ v, e = .returned (.tuple #[v, .int .i64 (applyV t xs).2]) ∧ OwnP w.heap.size w' v (invL t xs) ∧ Below w.heap.size w w' := by
  rcases Bool.eq_false_or_eq_true (rightV xs) with hr | hr
  · obtain ⟨l, rfl⟩ := right_pcs hr
    have htot := (small_pcs hs).1
    rcases Nat.lt_or_ge t.length (Ltx.extent l) with hf | hf
    · have e := applyV_far hr hf
      rw [e, invL_not (by rw [e]; decide)]
      exact (rinvert_far w t A n c l hx hn ht hr hf).mono fun e w' ⟨h1, h2⟩ => ⟨_, h1, OwnP.nil_ _ _, h2⟩
    · rw [applyV_ok hr hf, invL_ok hr hf]; exact rinvert_ok w t A n c l hx hn ht hr hf (by omega)
  · have e := applyV_not (t := t) hr
    rw [e, invL_not (by rw [e]; decide)]
    exact (rinvert_not w t A n c xs hx hn hr).mono fun e w' ⟨h1, h2⟩ => ⟨_, h1, OwnP.nil_ _ _, h2⟩
set_option maxHeartbeats 1600000 in
theorem lawInvert_any (w : World) (t : List UInt8) (A : Option Addr) (n c : Nat) (xs : List IP) (ht : t.length ≤ maxLen) (hx : PcsIn w A n xs) (hn : n ≤ maxLen) :
    Calls Try.prog 9 #[.string ⟨t.toArray⟩, .slice A n c] w fun e w' => e = .returned (.bool true) ∧ Below w.heap.size w w' := by
  have hx0 := Lib.hid hx
  have hbl0 := Lib.hid (Below.refl w.heap.size w)
  clear hx
  by_cases h1 : 600 < t.length
  · have h1I : (600 : Int) < (t.length : Int) := by omega
    go_enter Try.func9, Try.ntmps9
    go_wp2_with fail
    refine (works_any _).mono ?_
    rintro e w1 ⟨rfl, hb1⟩
    have hbl1 := Lib.hid (hbl0.out.trans (hb1.mono hbl0.out.size))
    clear hb1
    go_wp2_with fail
    go_ret
    exact ⟨rfl, hbl1.out⟩
  · have h1I : ¬ (600 : Int) < (t.length : Int) := by omega
    have ht' : t.length ≤ 10000000 := by omega
    rcases Bool.eq_false_or_eq_true (smallV xs 300) with hs | hs
    · have hs' := Lib.hid hs
      have htot := Lib.hid (invL_tot (t := t) hs)
      obtain ⟨l2, hl2⟩ : ∃ l, l = invL t xs := ⟨_, rfl⟩
      obtain ⟨r, hr⟩ : ∃ r, r = (applyV t xs).1 := ⟨_, rfl⟩
      obtain ⟨z, hz⟩ : ∃ z, z = (applyV t xs).2 := ⟨_, rfl⟩
      rw [← hl2] at htot
      have hap := Lib.hid (fun W (h : PcsIn W A n xs) => show Calls Try.prog 18 #[.string ⟨t.toArray⟩, .slice A n c] W fun e w' => e = .returned (.tuple #[.string ⟨r.toArray⟩, .int .i64 z]) ∧ Below W.heap.size W w' by rw [hr, hz]; exact apply_all W t A n c xs h hn ht')
      have hiv := Lib.hid (fun W (h : PcsIn W A n xs) => show Calls Try.prog 24 #[.string ⟨t.toArray⟩, .slice A n c] W fun e w' => ∃ v, e = .returned (.tuple #[v, .int .i64 z]) ∧ OwnP W.heap.size w' v l2 ∧ Below W.heap.size W w' by rw [hz, hl2]; exact invert_all W t A n c xs h hn ht' hs)
      have hri := Lib.hid (fun W (h : PcsIn W A n xs) => show Calls Try.prog 25 #[.string ⟨t.toArray⟩, .slice A n c] W fun e w' => ∃ v, e = .returned (.tuple #[v, .int .i64 z]) ∧ OwnP W.heap.size w' v l2 ∧ Below W.heap.size W w' by rw [hz, hl2]; exact rinvert_all W t A n c xs h hn ht' hs)
      have hrH := Lib.hid hr
      have hzH := Lib.hid hz
      have hlH := Lib.hid hl2
      clear hs hr hz hl2
      by_cases hz0 : z = 0
      · have hinv := Lib.hid (applyV_inv (hzH.out.symm.trans hz0))
        have hlast := Lib.hid (show applyV r (l2.map ipc) = (t, 0) by
          obtain ⟨l, rfl, hrt, hf, hva⟩ := hinv.out
          have h2 : l2 = Ltx.norm (Ltx.inv t l) := by rw [hlH.out, invL_ok hrt hf]
          have h3 := inv_tot l t
          have h4 := (small_pcs hs'.out).1
          have h6 := Ltx.extent_norm (Ltx.inv t l)
          have h7 := Ltx.inv_extent l t hf
          rw [hrH.out, hva, h2, applyV_ok (right_fine (fine_tot (by omega))) (by omega), Ltx.apply_norm, Ltx.inv_back l t hf])
        have hrl : r.length ≤ 10000000 := by
          obtain ⟨l, rfl, hrt, hf, hva⟩ := hinv.out
          have h4 := (small_pcs hs'.out).1
          have h7 := Ltx.apply_len l t
          have h8 := Ltx.extent_two l
          unfold totP at h4
          rw [hrH.out, hva]
          omega
        subst hz0
        clear hinv
        go_enter Try.func9, Try.ntmps9
        go_wp2_with fail
        refine (small_any w A n c _ hx0.out hn 300 (by omega)).mono ?_
        rw [hs'.out]
        rintro e w1 ⟨rfl, hb1⟩
        have hx1 := Lib.hid (hx0.out.below hb1)
        have hbl1 := Lib.hid (hbl0.out.trans (hb1.mono hbl0.out.size))
        clear hb1
        go_wp2_with fail
        refine (hiv.out w1 hx1.out).mono ?_
        rintro e w2 ⟨v, rfl, hv, hb2⟩
        have hx2 := Lib.hid (hx1.out.below hb2)
        have hbl2 := Lib.hid (hbl1.out.trans (hb2.mono hbl1.out.size))
        obtain ⟨A2, n2, c2, rfl, hn2, hnc2, hcm2, hP2, -⟩ := hv.shape (low_of (by have := htot.out; omega))
        have hP2' := Lib.hid hP2
        have hnm2 := Lib.hid (Nat.le_trans hnc2 hcm2)
        clear hv hn2 hP2 hnc2 hcm2
        clear hb2
        go_wp2_with fail
        refine (hri.out w2 hx2.out).mono ?_
        rintro e w3 ⟨v, rfl, hv, hb3⟩
        have hx3 := Lib.hid (hx2.out.below hb3)
        have hbl3 := Lib.hid (hbl2.out.trans (hb3.mono hbl2.out.size))
        have hP3 := hP2'.out.below hb3
        have hPa := Lib.hid hP3
        clear hP3
        obtain ⟨A3, n3, c3, rfl, hn3, hnc3, hcm3, hP3, -⟩ := hv.shape (low_of (by have := htot.out; omega))
        have hP3' := Lib.hid hP3
        have hnm3 := Lib.hid (Nat.le_trans hnc3 hcm3)
        clear hv hn3 hP3 hnc3 hcm3
        clear hb3
        go_wp2_with fail
        refine (same_any w3 A2 A3 n2 c2 n3 c3 _ _ hPa.out hP3'.out hnm2.out hnm3.out).mono ?_
        rw [sameP_iff.2 rfl]
        rintro e w4 ⟨rfl, hb4⟩
        have hx4 := Lib.hid (hx3.out.below hb4)
        have hbl4 := Lib.hid (hbl3.out.trans (hb4.mono hbl3.out.size))
        have hPb := Lib.hid (hPa.out.below hb4)
        clear hb4
        go_wp2_with fail
        refine (hap.out w4 hx4.out).mono ?_
        rintro e w5 ⟨rfl, hb5⟩
        have hx5 := Lib.hid (hx4.out.below hb5)
        have hbl5 := Lib.hid (hbl4.out.trans (hb5.mono hbl4.out.size))
        have hPc := Lib.hid (hPb.out.below hb5)
        clear hb5
        go_wp2_with fail
        refine (apply_all w5 r A2 n2 c2 _ hPc.out hnm2.out hrl).mono ?_
        rw [hlast.out]
        rintro e w6 ⟨rfl, hb6⟩
        have hbl6 := Lib.hid (hbl5.out.trans (hb6.mono hbl5.out.size))
        clear hb6
        go_wp2_with fail
        refine (works_any _).mono ?_
        rintro e w7 ⟨rfl, hb7⟩
        have hbl7 := Lib.hid (hbl6.out.trans (hb7.mono hbl6.out.size))
        clear hb7
        go_wp2_with fail
        go_ret
        exact ⟨rfl, hbl7.out⟩
      · have hz1 : ¬ z = 0 := hz0
        go_enter Try.func9, Try.ntmps9
        go_wp2_with fail
        refine (small_any w A n c _ hx0.out hn 300 (by omega)).mono ?_
        rw [hs'.out]
        rintro e w1 ⟨rfl, hb1⟩
        have hx1 := Lib.hid (hx0.out.below hb1)
        have hbl1 := Lib.hid (hbl0.out.trans (hb1.mono hbl0.out.size))
        clear hb1
        go_wp2_with fail
        refine (hiv.out w1 hx1.out).mono ?_
        rintro e w2 ⟨v, rfl, hv, hb2⟩
        have hx2 := Lib.hid (hx1.out.below hb2)
        have hbl2 := Lib.hid (hbl1.out.trans (hb2.mono hbl1.out.size))
        obtain ⟨A2, n2, c2, rfl, hn2, hnc2, hcm2, hP2, -⟩ := hv.shape (low_of (by have := htot.out; omega))
        have hP2' := Lib.hid hP2
        have hnm2 := Lib.hid (Nat.le_trans hnc2 hcm2)
        clear hv hn2 hP2 hnc2 hcm2
        clear hb2
        go_wp2_with fail
        refine (hri.out w2 hx2.out).mono ?_
        rintro e w3 ⟨v, rfl, hv, hb3⟩
        have hx3 := Lib.hid (hx2.out.below hb3)
        have hbl3 := Lib.hid (hbl2.out.trans (hb3.mono hbl2.out.size))
        have hP3 := hP2'.out.below hb3
        have hPa := Lib.hid hP3
        clear hP3
        obtain ⟨A3, n3, c3, rfl, hn3, hnc3, hcm3, hP3, -⟩ := hv.shape (low_of (by have := htot.out; omega))
        have hP3' := Lib.hid hP3
        have hnm3 := Lib.hid (Nat.le_trans hnc3 hcm3)
        clear hv hn3 hP3 hnc3 hcm3
        clear hb3
        go_wp2_with fail
        refine (same_any w3 A2 A3 n2 c2 n3 c3 _ _ hPa.out hP3'.out hnm2.out hnm3.out).mono ?_
        rw [sameP_iff.2 rfl]
        rintro e w4 ⟨rfl, hb4⟩
        have hx4 := Lib.hid (hx3.out.below hb4)
        have hbl4 := Lib.hid (hbl3.out.trans (hb4.mono hbl3.out.size))
        have hPb := Lib.hid (hPa.out.below hb4)
        clear hb4
        go_wp2_with fail
        refine (hap.out w4 hx4.out).mono ?_
        rintro e w5 ⟨rfl, hb5⟩
        have hx5 := Lib.hid (hx4.out.below hb5)
        have hbl5 := Lib.hid (hbl4.out.trans (hb5.mono hbl4.out.size))
        have hPc := Lib.hid (hPb.out.below hb5)
        clear hb5
        go_wp2_with fail
        refine (works_any _).mono ?_
        rintro e w6 ⟨rfl, hb6⟩
        have hbl6 := Lib.hid (hbl5.out.trans (hb6.mono hbl5.out.size))
        clear hb6
        go_wp2_with fail
        go_ret
        exact ⟨rfl, hbl6.out⟩
    · have hs' := Lib.hid hs
      clear hs
      go_enter Try.func9, Try.ntmps9
      go_wp2_with fail
      refine (small_any w A n c _ hx0.out hn 300 (by omega)).mono ?_
      rw [hs'.out]
      rintro e w1 ⟨rfl, hb1⟩
      have hbl1 := Lib.hid (hbl0.out.trans (hb1.mono hbl0.out.size))
      clear hb1
      go_wp2_with fail
      refine (works_any _).mono ?_
      rintro e w2 ⟨rfl, hb2⟩
      have hbl2 := Lib.hid (hbl1.out.trans (hb2.mono hbl1.out.size))
      clear hb2
      go_wp2_with fail
      go_ret
      exact ⟨rfl, hbl2.out⟩
end Go.Proofs.Ytoeplaofgmdlbaa
