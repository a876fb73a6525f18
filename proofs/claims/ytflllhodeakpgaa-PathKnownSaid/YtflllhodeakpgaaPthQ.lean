/- A shift's parts and Shift, as the document has them. -/
import Derived.Test.YtflllhodeakpgaaPthP
namespace Go.Proofs.Ytflllhodeakpgaa
open Go.RowKit
set_option maxRecDepth 20000

theorem fOf0 : fOf 0 = 0 := by kernel_rfl
theorem fOf63 : fOf 63 = 4634063279075885056 := by kernel_rfl
theorem fOfLo : fOf (-1048575) = 13920626439612268544 := by kernel_rfl
theorem fOfHi : fOf 1048575 = 4697254402757492736 := by kernel_rfl
/-- the document's parts of a number: a test in which it turns the sides about -/
def turnF (b : Nat) : Bool := match floatToIntVal .f64 b .i64 with
  | some n => (ordF (fOf n) b == some .eq) == (ordF b (fOf n) == some .eq)
  | none => false
def okRef (re im : Nat) : Bool := !(inF im 0 63 && inF re (-1048575) 1048575) || (turnF im && turnF re)
theorem parts_bad {re im : Nat} (h : inF im 0 63 = false ∨ inF re (-1048575) 1048575 = false) : partsR re im = .returned (.tuple #[.int .i64 0, .int .i64 0, .bool false]) := by
  have : partsV re im = none := by
    unfold partsV
    rcases h with h | h
    · rw [show wholeV im 0 63 = none by unfold wholeV; rw [h]; rfl]
    · rw [show wholeV re (-1048575) 1048575 = none by unfold wholeV; rw [h]; rfl]
      split
      · rename_i h2; cases h2
      · rfl
  unfold partsR
  rw [this]
theorem whole_of {b : Nat} {lo hi n : Int} (h : inF b lo hi = true) (hn : floatToIntVal .f64 b .i64 = some n) : wholeV b lo hi = if ordF b (fOf n) == some .eq then some n else none := by
  unfold wholeV
  rw [h, hn]
  rfl
set_option maxHeartbeats 1600000 in
theorem refParts_any (w : World) (re im : Nat) (hf : okRef re im = true) :
    Calls Try.prog 42 #[.complex .f64 re im] w fun e w' => e = partsR re im ∧ w = w' := by
  generalize g1 : (ordF im (fOf 0) == some .gt || ordF im (fOf 0) == some .eq) = b1
  generalize g2 : (ordF im (fOf 63) == some .lt || ordF im (fOf 63) == some .eq) = b2
  generalize g3 : (ordF re (fOf (-1048575)) == some .gt || ordF re (fOf (-1048575)) == some .eq) = b3
  generalize g4 : (ordF re (fOf 1048575) == some .lt || ordF re (fOf 1048575) == some .eq) = b4
  have hi1 : inF im 0 63 = (b1 && b2) := by unfold inF; rw [g1, g2]
  have hi2 : inF re (-1048575) 1048575 = (b3 && b4) := by unfold inF; rw [g3, g4]
  rw [fOf0] at g1
  rw [fOf63] at g2
  rw [fOfLo] at g3
  rw [fOfHi] at g4
  unfold ordF at g1 g2 g3 g4
  by_cases hall : (b1 && b2) = true ∧ (b3 && b4) = true
  · obtain ⟨ha, hb⟩ := hall
    rw [ha] at hi1
    rw [hb] at hi2
    simp at ha hb
    obtain ⟨rfl, rfl⟩ := ha
    obtain ⟨rfl, rfl⟩ := hb
    unfold okRef at hf
    rw [hi1, hi2] at hf
    simp only [Bool.and_self, Bool.not_true, Bool.false_or, Bool.and_eq_true] at hf
    obtain ⟨t1, t2⟩ := hf
    unfold turnF at t1 t2
    cases hn1 : floatToIntVal .f64 im .i64 with
    | none => rw [hn1] at t1; cases t1
    | some a =>
      cases hn2 : floatToIntVal .f64 re .i64 with
      | none => rw [hn2] at t2; cases t2
      | some b =>
        rw [hn1] at t1
        rw [hn2] at t2
        simp only [beq_iff_eq] at t1 t2
        have w1 := whole_of hi1 hn1
        have w2 := whole_of hi2 hn2
        have c1 := run_convert_float_int (P := Try.prog) w 37 3 .f64 .i64 im a (by rw [Try.underlying37]; rfl) Try.underlying3 hn1
        have c2 := run_convert_float_int (P := Try.prog) w 37 3 .f64 .i64 re b (by rw [Try.underlying37]; rfl) Try.underlying3 hn2
        generalize e1 : (ordF im (fOf a) == some .eq) = d1 at *
        generalize e2 : (ordF re (fOf b) == some .eq) = d2 at *
        have u1 : (FloatKind.f64.format.order (floatOfInt .f64 a) im == some .eq) = d1 := t1
        have u2 : (FloatKind.f64.format.order (floatOfInt .f64 b) re == some .eq) = d2 := t2
        have v1 : (FloatKind.f64.format.order (floatOfInt .f64 a) im != some .eq) = !d1 := by rw [bne, u1]
        have v2 : (FloatKind.f64.format.order (floatOfInt .f64 b) re != some .eq) = !d2 := by rw [bne, u2]
        have hv := Lib.hid (show partsR re im = if d1 && d2 then .returned (.tuple #[.int .i64 a, .int .i64 b, .bool true]) else .returned (.tuple #[.int .i64 0, .int .i64 0, .bool false]) by
          unfold partsR partsV
          rw [w1, w2]
          cases d1 <;> cases d2 <;> rfl)
        clear hi1 hi2 t1 t2 hn1 hn2 w1 w2 e1 e2
        cases d1 <;> cases d2
        all_goals
          go_enter Try.func42, Try.ntmps42
          go_wp2_with fail
          go_ret3
          exact ⟨by rw [hv.out]; rfl, rfl⟩
  · have hv := Lib.hid (parts_bad (re := re) (im := im) (by
      rw [hi1, hi2]
      revert hall
      cases b1 <;> cases b2 <;> cases b3 <;> cases b4 <;> simp))
    clear hi1 hi2 hf
    cases b1 <;> cases b2 <;> cases b3 <;> cases b4
    all_goals first
      | (exfalso; exact hall ⟨rfl, rfl⟩)
      | (clear hall
         go_enter Try.func42, Try.ntmps42
         go_wp2_with fail
         go_ret3
         exact ⟨by rw [hv.out]; rfl, rfl⟩)

set_option maxHeartbeats 1600000 in
theorem refShift_any (w : World) (A : Option Addr) (n c : Nat) (xs : List Int) (hA : Its w A n xs) (hnil : A = none → c = 0) (hn : n ≤ 500000) (re im : Nat) (hf : fineS re im = true) (hk : okRef re im = true) :
    Calls Try.prog 37 #[.slice A n c, .complex .f64 re im] w (ShiftR w (shiftV xs re im)) := by
  have hA' := Lib.hid hA
  have hl := Lib.hid hA.1
  have hn' := Lib.hid hnil
  have hm : n ≤ maxLen := by unfold maxLen; omega
  have hm' := Lib.hid hm
  have hn5 := Lib.hid hn
  have hp0' := Lib.hid hk
  clear hA hnil hk
  cases hp : partsV re im with
  | none =>
    have r1 := Lib.hid (show partsR re im = .returned (.tuple #[.int .i64 0, .int .i64 0, .bool false]) by unfold partsR; rw [hp])
    have hv := Lib.hid (show shiftV xs re im = (2, []) by unfold shiftV; rw [hp])
    clear hf hp hm hn
    go_enter Try.func37, Try.ntmps37
    go_wp2_with (go_at_call 42; refine (refParts_any _ re im hp0'.out).mono ?_; rw [r1.out]; rintro e w' ⟨rfl, rfl⟩)
    go_ret2
    exact ShiftR.none_ hv.out
  | some ab =>
    obtain ⟨a, b⟩ := ab
    obtain ⟨_, b1, b2, b3, b4⟩ := fineS_parts hf hp
    have r1 := Lib.hid (show partsR re im = .returned (.tuple #[.int .i64 a, .int .i64 b, .bool true]) by unfold partsR; rw [hp])
    obtain ⟨k, rfl⟩ : ∃ k : Nat, a = (k : Int) := ⟨a.toNat, by omega⟩
    cases hmay : mayV xs with
    | false =>
      have hv := Lib.hid (show shiftV xs re im = (2, []) by unfold shiftV; rw [hp]; simp [hmay])
      have hmay' := Lib.hid hmay
      clear hf hp hm hn b1 b2 b3 b4 hmay
      go_enter Try.func37, Try.ntmps37
      go_wp2_with (first
        | (go_at_call 42; refine (refParts_any _ re im hp0'.out).mono ?_; rw [r1.out]; rintro e w' ⟨rfl, rfl⟩)
        | (go_at_call 10; refine (refMay_any _ A n c xs hA'.out hm'.out).mono ?_; rw [hmay'.out]; rintro e w' ⟨rfl, rfl⟩))
      go_ret2
      exact ShiftR.none_ hv.out
    | true =>
      have hmay' := Lib.hid hmay
      by_cases hk : k < n
      · obtain ⟨ad, x, rfl, hkx, hcell⟩ := hA'.out.at_ hk
        have hx := of_decide_eq_true hmay
        have hx1 := hx.2 x (List.mem_of_getElem? hkx)
        have hgd : xs.getD k 0 = x := by rw [List.getD_eq_getElem?_getD, hkx]; rfl
        have k1 : (k : Int) < (n : Int) := by omega
        have k2 : ¬ (n : Int) ≤ (k : Int) := by omega
        have k0 : (0 : Int) ≤ (k : Int) := by omega
        have f1 : -9223372036854775808 ≤ x + b := by omega
        have f2 : x + b ≤ 9223372036854775807 := by omega
        have hsv := show shiftV xs re im = if stands (x + b) then (0, xs.set k (x + b)) else (3, []) by
          unfold shiftV
          rw [hp]
          simp only [hmay, Bool.true_and, Int.toNat_natCast, hgd]
          rw [if_pos (decide_eq_true (by have := hl.out; omega))]
        by_cases hlo : x + b < 0
        · have hv := Lib.hid (show shiftV xs re im = (3, []) by rw [hsv, show stands (x + b) = false from decide_eq_false (by omega)]; rfl)
          clear hf hp hm hn b1 b2 b3 b4 hmay hx hx1 hgd hkx hsv hk
          go_enter Try.func37, Try.ntmps37
          go_wp2_with (first
            | (go_at_call 42; refine (refParts_any _ re im hp0'.out).mono ?_; rw [r1.out]; rintro e w' ⟨rfl, rfl⟩)
            | (go_at_call 10; refine (refMay_any _ (some ad) n c xs hA'.out hm'.out).mono ?_; rw [hmay'.out]; rintro e w' ⟨rfl, rfl⟩))
          go_ret2
          exact ShiftR.none_ hv.out
        · by_cases hhi : 1048576 ≤ x + b
          · have hv := Lib.hid (show shiftV xs re im = (3, []) by rw [hsv, show stands (x + b) = false from decide_eq_false (by omega)]; rfl)
            clear hf hp hm hn b1 b2 b3 b4 hmay hx hx1 hgd hkx hsv hk
            go_enter Try.func37, Try.ntmps37
            go_wp2_with (first
              | (go_at_call 42; refine (refParts_any _ re im hp0'.out).mono ?_; rw [r1.out]; rintro e w' ⟨rfl, rfl⟩)
              | (go_at_call 10; refine (refMay_any _ (some ad) n c xs hA'.out hm'.out).mono ?_; rw [hmay'.out]; rintro e w' ⟨rfl, rfl⟩))
            go_ret2
            exact ShiftR.none_ hv.out
          · have hv := Lib.hid (show shiftV xs re im = (0, xs.set k (x + b)) by rw [hsv, show stands (x + b) = true from decide_eq_true (by omega)]; rfl)
            have hk' := Lib.hid hk
            have hkx' := Lib.hid hkx
            clear hf hp hm hn b1 b2 b3 b4 hmay hx hx1 hgd hkx hsv hk
            go_enter Try.func37, Try.ntmps37
            go_wp2_with (first
              | (go_at_call 42; refine (refParts_any _ re im hp0'.out).mono ?_; rw [r1.out]; rintro e w' ⟨rfl, rfl⟩)
              | (go_at_call 10; refine (refMay_any _ (some ad) n c xs hA'.out hm'.out).mono ?_; rw [hmay'.out]; rintro e w' ⟨rfl, rfl⟩)
              | (go_at_call 20; refine (refCopied_any _ (some ad) n c xs hA'.out hn'.out hn5.out).mono ?_; rintro e w1 ⟨v1, rfl, ho1, hb1⟩; obtain ⟨g, c1, rfl, hg1, hg2, hc1, hc2, hcs, hfr⟩ := ho1.block (by have := hk'.out; have := hl.out; omega); have hlen := hl.out; rw [hlen] at hc1; rw [hlen]; have hcell1 := hcs k x hkx'.out; have hfr1 := hfr k; have hb1' := Lib.hid hb1; have ho1' := Lib.hid ho1; have hcs' := Lib.hid hcs; have hfr' := Lib.hid hfr; clear hb1 ho1 hcs hfr hlen))
            go_ret2
            have hst1 := ho1'.out.stored k (x + b)
            rw [hl.out] at hst1
            exact ⟨.slice (some ⟨g, 0, none⟩) n c1, by rw [hv.out]; rfl, by rw [hv.out]; exact hst1, hb1'.out.setCell (by exact hg1) _⟩
      · have k2 : (n : Int) ≤ (k : Int) := by omega
        have hv := Lib.hid (show shiftV xs re im = (2, []) by
          unfold shiftV
          rw [hp]
          simp only [hmay, Bool.true_and, Int.toNat_natCast]
          rw [if_neg (by rw [decide_eq_true_iff]; have := hl.out; omega)])
        clear hf hp hm hn b1 b2 b3 b4 hmay hk
        go_enter Try.func37, Try.ntmps37
        go_wp2_with (first
          | (go_at_call 42; refine (refParts_any _ re im hp0'.out).mono ?_; rw [r1.out]; rintro e w' ⟨rfl, rfl⟩)
          | (go_at_call 10; refine (refMay_any _ A n c xs hA'.out hm'.out).mono ?_; rw [hmay'.out]; rintro e w' ⟨rfl, rfl⟩))
        go_ret2
        exact ShiftR.none_ hv.out
end Go.Proofs.Ytflllhodeakpgaa
