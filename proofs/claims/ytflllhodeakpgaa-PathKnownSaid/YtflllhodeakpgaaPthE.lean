/- A shift's parts, as the program takes them out of a complex number; a shift made of its parts; Between. -/
import Derived.Test.YtflllhodeakpgaaPthD
import Derived.Laws.FloatArith
import Derived.Laws.Cover2
import Derived.Laws.Cover3
namespace Go.Proofs.Ytflllhodeakpgaa
open Go.RowKit
set_option maxRecDepth 20000

def ordF (a b : Nat) : Option Ordering := FloatKind.f64.format.order a b
def fOf (n : Int) : Nat := floatOfInt .f64 n
/-- b is from lo to hi -/
def inF (b : Nat) (lo hi : Int) : Bool := (ordF b (fOf lo) == some .gt || ordF b (fOf lo) == some .eq) && (ordF b (fOf hi) == some .lt || ordF b (fOf hi) == some .eq)
/-- the whole number that b is, if it is one from lo to hi -/
def wholeV (b : Nat) (lo hi : Int) : Option Int :=
  if inF b lo hi then match floatToIntVal .f64 b .i64 with
    | some n => if ordF b (fOf n) == some .eq then some n else none
    | none => none
  else none
/-- where b is in its bounds, it can be made an integer -/
def fineF (b : Nat) (lo hi : Int) : Bool := !inF b lo hi || (floatToIntVal .f64 b .i64).isSome

def wholeR (b : Nat) (lo hi : Int) : Ending :=
  match wholeV b lo hi with
  | some n => .returned (.tuple #[.int .i64 n, .bool true])
  | none => .returned (.tuple #[.int .i64 0, .bool false])
set_option maxHeartbeats 800000 in
theorem whole_any (w : World) (b : Nat) (lo hi : Int) (hf : fineF b lo hi = true) :
    Calls Try.prog 43 #[.float .f64 b, .int .i64 lo, .int .i64 hi] w fun e w' => e = wholeR b lo hi ∧ w = w' := by
  generalize h1 : (ordF b (fOf lo) == some .gt || ordF b (fOf lo) == some .eq) = g1
  have k1 : (FloatKind.f64.format.order b (floatOfInt .f64 lo) == some .gt || FloatKind.f64.format.order b (floatOfInt .f64 lo) == some .eq) = g1 := h1
  have h1' := Lib.hid h1
  cases g1 with
  | false =>
    have hv := Lib.hid (show wholeR b lo hi = .returned (.tuple #[.int .i64 0, .bool false]) by unfold wholeR wholeV inF; rw [h1'.out]; rfl)
    clear hf h1
    go_enter Try.func43, Try.ntmps43
    go_wp2_with fail
    go_ret2
    exact ⟨by rw [hv.out]; rfl, rfl⟩
  | true =>
    generalize h2 : (ordF b (fOf hi) == some .lt || ordF b (fOf hi) == some .eq) = g2
    have k2 : (FloatKind.f64.format.order b (floatOfInt .f64 hi) == some .lt || FloatKind.f64.format.order b (floatOfInt .f64 hi) == some .eq) = g2 := h2
    have h2' := Lib.hid h2
    cases g2 with
    | false =>
      have hv := Lib.hid (show wholeR b lo hi = .returned (.tuple #[.int .i64 0, .bool false]) by unfold wholeR wholeV inF; rw [h1'.out, h2'.out]; rfl)
      clear hf h1 h2
      go_enter Try.func43, Try.ntmps43
      go_wp2_with fail
      go_ret2
      exact ⟨by rw [hv.out]; rfl, rfl⟩
    | true =>
      have hin : inF b lo hi = true := by unfold inF; rw [h1, h2]; rfl
      obtain ⟨n, hn⟩ : ∃ n, floatToIntVal .f64 b .i64 = some n := by
        unfold fineF at hf
        rw [hin] at hf
        exact Option.isSome_iff_exists.1 (by simpa using hf)
      have hcv := run_convert_float_int (P := Try.prog) w 37 3 .f64 .i64 b n (by rw [Try.underlying37]; rfl) Try.underlying3 hn
      generalize h3 : (ordF b (fOf n) == some .eq) = g3
      have k3 : (FloatKind.f64.format.order b (floatOfInt .f64 n) == some .eq) = g3 := h3
      have h3' := Lib.hid h3
      have hin' := Lib.hid hin
      have hn' := Lib.hid hn
      cases g3 with
      | false =>
        have hv := Lib.hid (show wholeR b lo hi = .returned (.tuple #[.int .i64 0, .bool false]) by unfold wholeR wholeV; rw [hin'.out, hn'.out]; simp [h3'.out])
        clear hf h1 h2 h3 hin hn
        go_enter Try.func43, Try.ntmps43
        go_wp2_with fail
        go_ret2
        exact ⟨by rw [hv.out]; rfl, rfl⟩
      | true =>
        have hv := Lib.hid (show wholeR b lo hi = .returned (.tuple #[.int .i64 n, .bool true]) by unfold wholeR wholeV; rw [hin'.out, hn'.out]; simp [h3'.out])
        clear hf h1 h2 h3 hin hn
        go_enter Try.func43, Try.ntmps43
        go_wp2_with fail
        go_ret2
        exact ⟨by rw [hv.out]; rfl, rfl⟩

def partsV (re im : Nat) : Option (Int × Int) :=
  match wholeV im 0 63, wholeV re (-1048575) 1048575 with
  | some a, some b => some (a, b)
  | _, _ => none
def fineP (re im : Nat) : Bool := fineF im 0 63 && fineF re (-1048575) 1048575
def partsR (re im : Nat) : Ending :=
  match partsV re im with
  | some x => .returned (.tuple #[.int .i64 x.1, .int .i64 x.2, .bool true])
  | none => .returned (.tuple #[.int .i64 0, .int .i64 0, .bool false])
set_option maxHeartbeats 800000 in
theorem parts_any (w : World) (re im : Nat) (hf : fineP re im = true) :
    Calls Try.prog 39 #[.complex .f64 re im] w fun e w' => e = partsR re im ∧ w = w' := by
  have hf' : fineF im 0 63 = true ∧ fineF re (-1048575) 1048575 = true := by simpa [fineP] using hf
  obtain ⟨f1, f2⟩ := hf'
  have f1' := Lib.hid f1
  have f2' := Lib.hid f2
  cases h1 : wholeV im 0 63 with
  | none =>
    have r1 := Lib.hid (show wholeR im 0 63 = .returned (.tuple #[.int .i64 0, .bool false]) by unfold wholeR; rw [h1])
    cases h2 : wholeV re (-1048575) 1048575 with
    | none =>
      have r2 := Lib.hid (show wholeR re (-1048575) 1048575 = .returned (.tuple #[.int .i64 0, .bool false]) by unfold wholeR; rw [h2])
      have hv := Lib.hid (show partsR re im = .returned (.tuple #[.int .i64 0, .int .i64 0, .bool false]) by unfold partsR partsV; rw [h1, h2])
      clear hf f1 f2 h1 h2
      go_enter Try.func39, Try.ntmps39
      go_wp2_with (first
        | (go_at_call_of 43 (Value.float .f64 im); refine (whole_any w im 0 63 f1'.out).mono ?_; rw [r1.out]; rintro e w' ⟨rfl, rfl⟩)
        | (go_at_call_of 43 (Value.float .f64 re); refine (whole_any w re (-1048575) 1048575 f2'.out).mono ?_; rw [r2.out]; rintro e w' ⟨rfl, rfl⟩))
      go_ret3
      exact ⟨by rw [hv.out]; rfl, rfl⟩
    | some y =>
      have r2 := Lib.hid (show wholeR re (-1048575) 1048575 = .returned (.tuple #[.int .i64 y, .bool true]) by unfold wholeR; rw [h2])
      have hv := Lib.hid (show partsR re im = .returned (.tuple #[.int .i64 0, .int .i64 0, .bool false]) by unfold partsR partsV; rw [h1, h2])
      clear hf f1 f2 h1 h2
      go_enter Try.func39, Try.ntmps39
      go_wp2_with (first
        | (go_at_call_of 43 (Value.float .f64 im); refine (whole_any w im 0 63 f1'.out).mono ?_; rw [r1.out]; rintro e w' ⟨rfl, rfl⟩)
        | (go_at_call_of 43 (Value.float .f64 re); refine (whole_any w re (-1048575) 1048575 f2'.out).mono ?_; rw [r2.out]; rintro e w' ⟨rfl, rfl⟩))
      go_ret3
      exact ⟨by rw [hv.out]; rfl, rfl⟩
  | some x =>
    have r1 := Lib.hid (show wholeR im 0 63 = .returned (.tuple #[.int .i64 x, .bool true]) by unfold wholeR; rw [h1])
    cases h2 : wholeV re (-1048575) 1048575 with
    | none =>
      have r2 := Lib.hid (show wholeR re (-1048575) 1048575 = .returned (.tuple #[.int .i64 0, .bool false]) by unfold wholeR; rw [h2])
      have hv := Lib.hid (show partsR re im = .returned (.tuple #[.int .i64 0, .int .i64 0, .bool false]) by unfold partsR partsV; rw [h1, h2])
      clear hf f1 f2 h1 h2
      go_enter Try.func39, Try.ntmps39
      go_wp2_with (first
        | (go_at_call_of 43 (Value.float .f64 im); refine (whole_any w im 0 63 f1'.out).mono ?_; rw [r1.out]; rintro e w' ⟨rfl, rfl⟩)
        | (go_at_call_of 43 (Value.float .f64 re); refine (whole_any w re (-1048575) 1048575 f2'.out).mono ?_; rw [r2.out]; rintro e w' ⟨rfl, rfl⟩))
      go_ret3
      exact ⟨by rw [hv.out]; rfl, rfl⟩
    | some y =>
      have r2 := Lib.hid (show wholeR re (-1048575) 1048575 = .returned (.tuple #[.int .i64 y, .bool true]) by unfold wholeR; rw [h2])
      have hv := Lib.hid (show partsR re im = .returned (.tuple #[.int .i64 x, .int .i64 y, .bool true]) by unfold partsR partsV; rw [h1, h2])
      clear hf f1 f2 h1 h2
      go_enter Try.func39, Try.ntmps39
      go_wp2_with (first
        | (go_at_call_of 43 (Value.float .f64 im); refine (whole_any w im 0 63 f1'.out).mono ?_; rw [r1.out]; rintro e w' ⟨rfl, rfl⟩)
        | (go_at_call_of 43 (Value.float .f64 re); refine (whole_any w re (-1048575) 1048575 f2'.out).mono ?_; rw [r2.out]; rintro e w' ⟨rfl, rfl⟩))
      go_ret3
      exact ⟨by rw [hv.out]; rfl, rfl⟩
end Go.Proofs.Ytflllhodeakpgaa
