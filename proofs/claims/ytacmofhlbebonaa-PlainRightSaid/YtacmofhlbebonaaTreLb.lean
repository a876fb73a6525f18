/- The law of right trees. -/
import Derived.Deep.RegionHeld3
import Derived.Test.YtacmofhlbebonaaTreN
import Derived.Test.YtacmofhlbebonaaTreS
namespace Go.Proofs.Ytacmofhlbebonaa
open Go.RowKit
set_option maxRecDepth 20000

set_option maxHeartbeats 2000000 in
theorem rRight_any (w : World) (t : Nd) (aA kA : Option Addr) (an ac kn kc : Nat) (h : NodeV (Old w) w aA an ac kA kn kc t) :
    Calls Try.prog 13 #[.agg (val6 t aA an ac kA kn kc)] w fun e w' => e = .returned (.bool (rightV ltB t)) ∧ Below w.heap.size w w' := by
  have h0 := Lib.hid (rright_any t _ aA kA an ac kn kc (h.below ((Below.refl _ w).alloc (Nat.le_refl _) (.cells (val6 t aA an ac kA kn kc) 26))))
  clear h
  unfold val6 at h0
  unfold val6
  cases hlf : t.leaf with
  | true =>
    have hv := Lib.hid (show rightV ltB t = false by unfold rightV; rw [hlf]; rfl)
    clear h0
    go_enter Try.func13, Try.ntmps13
    go_wp2_with fail
    go_ret
    exact ⟨by rw [hv.out]; rfl, (Below.refl _ _).alloc (Nat.le_refl _) _⟩
  | false =>
    have hv := Lib.hid (show rightV ltB t = rightsV ltB t by unfold rightV; rw [hlf]; rfl)
    rw [hlf] at h0
    go_enter Try.func13, Try.ntmps13
    go_wp2_with fail
    refine h0.out.mono ?_
    rintro e w1 ⟨rfl, hb1⟩
    have hb1' := Lib.hid hb1
    clear hb1 h0
    go_wp2_with fail
    go_ret
    exact ⟨by rw [hv.out]; rfl, ((Below.refl _ w).alloc (Nat.le_refl _) _).trans (hb1'.out.mono (by simp))⟩
set_option maxHeartbeats 8000000 in
theorem lawRight_any (w : World) (t : Nd) (aA kA : Option Addr) (an ac kn kc : Nat) (h : NodeV (Old w) w aA an ac kA kn kc t) (s : Txt) (hs : s.length ≤ maxLen) :
    Calls Try.prog 3 #[.agg (val6 t aA an ac kA kn kc), .string ⟨s.toArray⟩] w fun e w' => e = .returned (.bool true) ∧ Below w.heap.size w w' := by
  have h0 := Lib.hid (h.below ((Below.refl _ w).alloc (Nat.le_refl _) (.cells (val6 t aA an ac kA kn kc) 26)))
  clear h
  have hs' := Lib.hid hs
  unfold maxLen at hs
  have hbx := Lib.hid (heap_alloc_new w (.cells (val6 t aA an ac kA kn kc) 26))
  have hb0 := Lib.hid (show Below w.heap.size w (w.alloc (.cells (val6 t aA an ac kA kn kc) 26)) from (Below.refl _ w).alloc (Nat.le_refl _) _)
  have hsz := Lib.hid (show w.heap.size < (w.alloc (.cells (val6 t aA an ac kA kn kc) 26)).heap.size by simp)
  unfold val6
  go_enter Try.func3, Try.ntmps3
  go_wp2_with fail
  obtain ⟨W0, hW0⟩ : ∃ W0, W0 = w.alloc (.cells (val6 t aA an ac kA kn kc) 26) := ⟨_, rfl⟩
  rw [← hW0] at h0 hbx hb0 hsz
  unfold val6 at hW0
  rw [← hW0]
  clear hW0
  refine (weight_any t W0 aA kA an ac kn kc 1000 h0.out (by decide)).mono ?_
  rintro e w1 ⟨x, rfl, hx3, hx, hb1⟩
  have hx' := Lib.hid hx
  have hB1 := Lib.hid ((hb1.block _ hsz.out).trans hbx.out)
  have hN1 := Lib.hid (h0.out.below hb1)
  have hbl1 := Lib.hid (hb0.out.trans (hb1.mono hb0.out.size))
  have hsz1 := Lib.hid (Nat.lt_of_lt_of_le hsz.out hb1.size)
  clear hx hb1 h0 hbx hb0 hsz
  by_cases g1 : x ≤ 1000
  · have g1I : ¬ (1000 : Int) < (x : Int) := by omega
    by_cases g2 : s.length ≤ 500
    · have g2I : ¬ (500 : Int) < (s.length : Int) := by omega
      have hcnt := Lib.hid (show countV t ≤ 100000 by have := count_le t; have := hx'.out g1; omega)
      obtain ⟨r, hr⟩ : ∃ r, r = rightV ltB t := ⟨_, rfl⟩
      obtain ⟨ke, hke⟩ : ∃ ke, ke = keyB s := ⟨_, rfl⟩
      have hc1 : Hid (∀ W, Below w1.heap.size w1 W → Calls Try.prog 12 #[.agg (val6 t aA an ac kA kn kc)] W fun e w' => e = .returned (.bool r) ∧ Below W.heap.size W w') := fun W hb => by rw [hr]; exact right_any W t aA kA an ac kn kc (hN1.out.below hb) hcnt.out
      have hc2 : Hid (∀ W, Below w1.heap.size w1 W → Calls Try.prog 13 #[.agg (val6 t aA an ac kA kn kc)] W fun e w' => e = .returned (.bool r) ∧ Below W.heap.size W w') := fun W hb => by rw [hr]; exact rRight_any W t aA kA an ac kn kc (hN1.out.below hb)
      have hc3 : Hid (∀ W, Calls Try.prog 14 #[.string ⟨s.toArray⟩] W fun e w' => e = .returned (.bool ke) ∧ Below W.heap.size W w') := fun W => (key_any s W hs'.out).mono (by rw [hke]; rintro e w' ⟨rfl, rfl⟩; exact ⟨rfl, Below.refl _ _⟩)
      have hc4 : Hid (∀ W, Calls Try.prog 15 #[.string ⟨s.toArray⟩] W fun e w' => e = .returned (.bool ke) ∧ Below W.heap.size W w') := fun W => (rkey_any s W hs'.out).mono (by rw [hke]; rintro e w' ⟨rfl, rfl⟩; exact ⟨rfl, Below.refl _ _⟩)
      unfold val6 at hc1 hc2
      clear hr hke
      have hS : Hid (∀ w' : World, Below w1.heap.size w1 w' → Below w1.heap.size w1 w' ∧ w'.cell? ⟨w.heap.size, 0, none⟩ = some (.int .u64 (t.id : Int)) ∧ w'.cell? ⟨w.heap.size, 1, none⟩ = some (.bool t.leaf) ∧ w'.cell? ⟨w.heap.size, 2, none⟩ = some (.string ⟨t.label.toArray⟩) ∧ w'.cell? ⟨w.heap.size, 3, none⟩ = some (.slice aA an ac) ∧ w'.cell? ⟨w.heap.size, 4, none⟩ = some (.string ⟨t.text.toArray⟩) ∧ w'.cell? ⟨w.heap.size, 5, none⟩ = some (.slice kA kn kc)) := fun w' hb => by
        obtain ⟨c0, c1, c2, c3, c4, c5, -⟩ := six_cells ((hb.block _ hsz1.out).trans hB1.out)
        exact ⟨hb, c0, c1, c2, c3, c4, c5⟩
      have hd := hS.out w1.drew (Below.refl w1.heap.size w1).drew
      obtain ⟨c0, c1, c2, c3, c4, c5, -⟩ := six_cells hB1.out
      have hrr : (r == r) = true := by simp
      have hkk : (ke == ke) = true := by simp
      go_wp2_with fail
      clear c0 c1 c2 c3 c4 c5
      go_region_held3 (fun w' => Below w1.heap.size w1 w' ∧ w'.cell? ⟨w.heap.size, 0, none⟩ = some (.int .u64 (t.id : Int)) ∧ w'.cell? ⟨w.heap.size, 1, none⟩ = some (.bool t.leaf) ∧ w'.cell? ⟨w.heap.size, 2, none⟩ = some (.string ⟨t.label.toArray⟩) ∧ w'.cell? ⟨w.heap.size, 3, none⟩ = some (.slice aA an ac) ∧ w'.cell? ⟨w.heap.size, 4, none⟩ = some (.string ⟨t.text.toArray⟩) ∧ w'.cell? ⟨w.heap.size, 5, none⟩ = some (.slice kA kn kc))
        (first | exact hd6 | exact hd5 | exact hd4 | exact hd3 | exact hd2 | exact hd)
        (first
            | (go_at_call 11; refine (works_any _).mono ?_; rintro e w14 ⟨rfl, hb14⟩; have hd6 := hS.out _ (hd5.1.trans (hb14.mono hd5.1.size)))
            | (go_at_call 15; refine (hc4.out _).mono ?_; rintro e w13 ⟨rfl, hb13⟩; have hd5 := hS.out _ (hd4.1.trans (hb13.mono hd4.1.size)))
            | (go_at_call 14; refine (hc3.out _).mono ?_; rintro e w12 ⟨rfl, hb12⟩; have hd4 := hS.out _ (hd3.1.trans (hb12.mono hd3.1.size)))
            | (go_at_call 13; refine (hc2.out _ hd2.1).mono ?_; rintro e w11 ⟨rfl, hb11⟩; have hd3 := hS.out _ (hd2.1.trans (hb11.mono hd2.1.size)))
            | (go_at_call 12; refine (hc1.out _ hd.1).mono ?_; rintro e w10 ⟨rfl, hb10⟩; have hd2 := hS.out _ (hd.1.trans (hb10.mono hd.1.size))))
      go_wp2_with fail
      go_ret
      exact ⟨rfl, hbl1.out.trans (hd6.1.mono hbl1.out.size)⟩
    · have g2I : (500 : Int) < (s.length : Int) := by omega
      go_wp2_with fail
      refine (works_any _).mono ?_
      rintro e w2 ⟨rfl, hb2⟩
      have hbl2 := Lib.hid (hbl1.out.trans (hb2.mono hbl1.out.size))
      clear hb2
      go_wp2_with fail
      go_ret
      exact ⟨rfl, hbl2.out⟩
  · have g1I : (1000 : Int) < (x : Int) := by omega
    go_wp2_with fail
    refine (works_any _).mono ?_
    rintro e w2 ⟨rfl, hb2⟩
    have hbl2 := Lib.hid (hbl1.out.trans (hb2.mono hbl1.out.size))
    clear hb2
    go_wp2_with fail
    go_ret
    exact ⟨rfl, hbl2.out⟩
end Go.Proofs.Ytacmofhlbebonaa
