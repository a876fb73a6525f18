/- The law of attributes. -/
import Derived.Test.YtacmofhlbebonaaTreN
import Derived.Test.YtacmofhlbebonaaTreP
namespace Go.Proofs.Ytacmofhlbebonaa
open Go.RowKit
set_option maxRecDepth 20000

set_option maxHeartbeats 4000000 in
theorem lawAttr_any (w : World) (t : Nd) (aA kA : Option Addr) (an ac kn kc : Nat) (h : NodeV (Old w) w aA an ac kA kn kc t) (key : Txt) (hkey : key.length ≤ maxLen) :
    Calls Try.prog 8 #[.agg (val6 t aA an ac kA kn kc), .string ⟨key.toArray⟩] w fun e w' => e = .returned (.bool true) ∧ Below w.heap.size w w' := by
  have h0 := Lib.hid (h.below ((Below.refl _ w).alloc (Nat.le_refl _) (.cells (val6 t aA an ac kA kn kc) 26)))
  clear h
  unfold maxLen at hkey
  have hbx := Lib.hid (heap_alloc_new w (.cells (val6 t aA an ac kA kn kc) 26))
  have hb0 := Lib.hid (show Below w.heap.size w (w.alloc (.cells (val6 t aA an ac kA kn kc) 26)) from (Below.refl _ w).alloc (Nat.le_refl _) _)
  have hsz := Lib.hid (show w.heap.size < (w.alloc (.cells (val6 t aA an ac kA kn kc) 26)).heap.size by simp)
  unfold val6
  go_enter Try.func8, Try.ntmps8
  go_wp2_with fail
  obtain ⟨W0, hW0⟩ : ∃ W0, W0 = w.alloc (.cells (val6 t aA an ac kA kn kc) 26) := ⟨_, rfl⟩
  rw [← hW0] at h0 hbx hb0 hsz
  unfold val6 at hW0
  rw [← hW0]
  clear hW0
  refine (weight_any t W0 aA kA an ac kn kc 1000 h0.out (by decide)).mono ?_
  rintro e w1 ⟨x, rfl, hx3, hx, hb1⟩
  have hx' := Lib.hid hx
  have hB1 := Lib.hid ((hb1.block _ hsz.out).trans hbx.out)
  have hN1 := Lib.hid (h0.out.below hb1)
  have hbl1 := Lib.hid (hb0.out.trans (hb1.mono hb0.out.size))
  have hsz1 := Lib.hid (Nat.lt_of_lt_of_le hsz.out hb1.size)
  clear hx hb1 h0 hbx hb0 hsz
  by_cases g1 : x ≤ 1000
  · have g1I : ¬ (1000 : Int) < (x : Int) := by omega
    by_cases g2 : key.length ≤ 100
    · have g2I : ¬ (100 : Int) < (key.length : Int) := by omega
      obtain ⟨c0, c1, c2, c3, c4, c5, -⟩ := six_cells hB1.out
      go_wp2_with fail
      refine (attr_any w1 t aA kA an ac kn kc hN1.out key).mono ?_
      rintro e w2 ⟨rfl, hb2⟩
      have hB2 := Lib.hid ((hb2.block _ hsz1.out).trans hB1.out)
      have hN2 := Lib.hid (hN1.out.below hb2)
      have hbl2 := Lib.hid (hbl1.out.trans (hb2.mono hbl1.out.size))
      clear hb2 c0 c1 c2 c3 c4 c5
      obtain ⟨c0, c1, c2, c3, c4, c5, -⟩ := six_cells hB2.out
      generalize hv : (attrV t.attrs key).getD [] = va
      generalize hs : (attrV t.attrs key).isSome = sm
      go_wp2_with fail
      have hr := rattr_any w2 t aA kA an ac kn kc hN2.out key
      unfold AttrAns at hr
      rw [hv, hs] at hr
      refine hr.mono ?_
      rintro e w3 ⟨rfl, hb3⟩
      have hbl3 := Lib.hid (hbl2.out.trans (hb3.mono hbl2.out.size))
      clear hb3 hr
      go_wp2_with fail
      refine (works_any _).mono ?_
      rintro e w4 ⟨rfl, hb4⟩
      have hbl4 := Lib.hid (hbl3.out.trans (hb4.mono hbl3.out.size))
      clear hb4
      go_wp2_with fail
      go_ret
      exact ⟨rfl, hbl4.out⟩
    · have g2I : (100 : Int) < (key.length : Int) := by omega
      go_wp2_with fail
      refine (works_any _).mono ?_
      rintro e w2 ⟨rfl, hb2⟩
      have hbl2 := Lib.hid (hbl1.out.trans (hb2.mono hbl1.out.size))
      clear hb2
      go_wp2_with fail
      go_ret
      exact ⟨rfl, hbl2.out⟩
  · have g1I : (1000 : Int) < (x : Int) := by omega
    go_wp2_with fail
    refine (works_any _).mono ?_
    rintro e w2 ⟨rfl, hb2⟩
    have hbl2 := Lib.hid (hbl1.out.trans (hb2.mono hbl1.out.size))
    clear hb2
    go_wp2_with fail
    go_ret
    exact ⟨rfl, hbl2.out⟩
end Go.Proofs.Ytacmofhlbebonaa
