/- Write of the document's disk, whole. -/
import Derived.Test.YtffenadibnehfaaSecRefE
namespace Go.Proofs.Ytffenadibnehfaa
open Go.RowKit

set_option maxHeartbeats 800000 in
theorem write_any (w : World) (B p : Nat) (d : RD) (i : Int) (b : List UInt8) (h : RefAt w B p d) (hb : b.length ≤ 9223372036854775807) (hwl : d.wr.length ≤ 100000) (h63 : d.left ≤ 9223372036854775807) (hBw : B ≤ w.heap.size) :
    Calls Try.prog 34 #[.pointer (some ⟨p, 0, none⟩), .int .i64 i, .string ⟨b.toArray⟩] w fun e w' => e = .returned (.int .i64 (writeV d i b).1) ∧ RefAt w' B p (writeV d i b).2 ∧ Fr refTs B w w' ∧ baseOf w' p = baseOf w p := by
  have h' := Lib.hid h
  by_cases h0 : askedV d i = 0
  · obtain ⟨hg, hi0, hi1⟩ := asked_ok h0
    obtain ⟨j, rfl⟩ := Int.eq_ofNat_of_zero_le hi0
    by_cases h1 : 128 < b.length
    · have hv : writeV d (j : Int) b = (3, d) := by unfold writeV; rw [if_pos h0, if_pos h1]
      have hv' := Lib.hid hv
      have h0' := Lib.hid h0
      have hI : (128 : Int) < ((b.length : Nat) : Int) := by omega
      clear hv h0 h h1
      go_enter Try.func34, Try.ntmps34
      go_wp2_with fail
      refine (asked_any w B p d _ h'.out).mono ?_
      rintro e w' ⟨rfl, rfl⟩
      rw [h0'.out]
      go_wp2_with fail
      go_ret
      exact ⟨by rw [hv'.out]; rfl, by rw [hv'.out]; exact h'.out, Fr.refl _ _ _, rfl⟩
    · by_cases h2 : d.armed = true ∧ d.left = 0
      · have hv : writeV d (j : Int) b = (20, { d with armed := false, gone := true }) := by unfold writeV; rw [if_pos h0, if_neg h1, if_pos h2]
        have hv' := Lib.hid hv
        have h0' := Lib.hid h0
        have hI : ¬ (128 : Int) < ((b.length : Nat) : Int) := by omega
        obtain ⟨_, _, bv, lv, hp, _, _⟩ := h
        have c2 := cell_of_row w p 2 _ _ _ hp
        have c3 := cell_of_row w p 3 _ _ _ hp
        rw [h2.1] at c2
        rw [h2.2] at c3
        simp at c2 c3
        clear hv h0 h1 hp h2
        go_enter Try.func34, Try.ntmps34
        go_wp2_with fail
        refine (asked_any w B p d _ h'.out).mono ?_
        rintro e w' ⟨rfl, rfl⟩
        rw [h0'.out]
        go_wp2_with fail
        refine (crash_any w B p d h'.out).mono ?_
        rintro e w' ⟨rfl, hR, hF, hbb⟩
        go_wp2_with fail
        go_ret
        exact ⟨by rw [hv'.out]; rfl, by rw [hv'.out]; exact hR, hF.widen (by decide) (Nat.le_refl _), hbb⟩
      · have hv : writeV d (j : Int) b = (0, wrote (takenIn d) j b) := by unfold writeV; rw [if_pos h0, if_neg h1, if_neg h2]; rfl
        rw [hv]
        exact write_ok w B p d j b h h0 (by omega) hwl h2 h63 hBw
  · have hv : writeV d i b = (askedV d i, d) := by unfold writeV; rw [if_neg h0]
    have hv' := Lib.hid hv
    have t1 : (askedV d i != 0) = true := by rw [bne_iff_ne]; exact h0
    clear hv h0 h
    generalize hq : askedV d i = q at *
    have hq' := Lib.hid hq
    go_enter Try.func34, Try.ntmps34
    go_wp2_with fail
    refine (asked_any w B p d _ h'.out).mono ?_
    rintro e w' ⟨rfl, rfl⟩
    rw [hq'.out]
    clear hq
    go_wp2_with fail
    go_ret
    exact ⟨by rw [hv'.out]; rfl, by rw [hv'.out]; exact h'.out, Fr.refl _ _ _, rfl⟩
end Go.Proofs.Ytffenadibnehfaa
