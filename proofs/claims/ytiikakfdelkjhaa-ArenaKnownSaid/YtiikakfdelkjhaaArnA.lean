/- Where a slot's node is; how many there are; is one live: the program's. -/
import Derived.Test.YtiikakfdelkjhaaArnPa
import Derived.IntWalk
namespace Go.Proofs.Ytiikakfdelkjhaa.Arn
open Go.RowKit
set_option maxRecDepth 20000

section
variable {w w' : World} {ow ow' : Nat → Role} {P : Nat} {a : Av} {B : Nat → Nat} {m : Nat} {sv : Nat → SV} {sA : Option Addr} {sc : Nat} {fA : Option Addr} {fc : Nat}
theorem node_any (h : PA w ow P a B m sv sA sc fA fc) {s : Nat} (hs : s < m * 16) :
    Calls Try.prog 39 #[.pointer (some ⟨P, 0, none⟩), .int .i64 (s : Int)] w fun e w' => e = .returned (.pointer (some ⟨B (s / 16), s % 16 * 8, none⟩)) ∧ w = w' := by
  obtain ⟨g, rfl, hm, hc, hg⟩ := h.slab_at (q := s / 16) (by omega)
  have h0 := h.head_cells.1
  have hsm := h.small
  have ht := h.tight
  clear h
  have q1 : (s : Int) / 16 < (m : Int) := by omega
  have q2 : ((s : Int) / 16).toNat = s / 16 := by omega
  have q3 : ((s : Int) % 16).toNat = s % 16 := by omega
  have q4 : 0 ≤ (s : Int) / 16 := by omega
  go_enter Try.func39, Try.ntmps39
  go_wp2_with fail
  go_ret
  exact ⟨rfl, rfl⟩
theorem slots_any (h : PA w ow P a B m sv sA sc fA fc) : Calls Try.prog 18 #[.pointer (some ⟨P, 0, none⟩)] w fun e w' => e = .returned (.int .i64 (a.cnt : Int)) ∧ w = w' := by
  have h1 := h.head_cells.2.1
  clear h
  go_enter Try.func18, Try.ntmps18
  go_wp2_with fail
  go_ret
  exact ⟨rfl, rfl⟩
theorem slots_nil (w : World) : Calls Try.prog 18 #[.pointer none] w fun e w' => e = .returned (.int .i64 0) ∧ w = w' := by
  go_enter Try.func18, Try.ntmps18
  go_wp2_with fail
  go_ret
  exact ⟨rfl, rfl⟩
/-- the eight cells of a slot -/
theorem PA.eight (h : PA w ow P a B m sv sA sc fA fc) {s : Nat} (hs : s < m * 16) : w.cell? ⟨B (s / 16), s % 16 * 8, none⟩ = some (.bool (a.live s)) ∧ w.cell? ⟨B (s / 16), s % 16 * 8 + 1, none⟩ = some (.int .i64 (a.par s)) ∧
    w.cell? ⟨B (s / 16), s % 16 * 8 + 2, none⟩ = some (.slice (sv s).kA (sv s).kn (sv s).kc) ∧ w.cell? ⟨B (s / 16), s % 16 * 8 + 3, none⟩ = some (.int .u64 ((a.dat s).id : Int)) ∧ w.cell? ⟨B (s / 16), s % 16 * 8 + 4, none⟩ = some (.bool (a.dat s).leaf) ∧
    w.cell? ⟨B (s / 16), s % 16 * 8 + 5, none⟩ = some (.string ⟨(a.dat s).label.toArray⟩) ∧ w.cell? ⟨B (s / 16), s % 16 * 8 + 6, none⟩ = some (.slice (sv s).aA (sv s).an (sv s).ac) ∧ w.cell? ⟨B (s / 16), s % 16 * 8 + 7, none⟩ = some (.string ⟨(a.dat s).text.toArray⟩) :=
  ⟨h.cells s hs 0 _ rfl, h.cells s hs 1 _ rfl, h.cells s hs 2 _ rfl, h.cells s hs 3 _ rfl, h.cells s hs 4 _ rfl, h.cells s hs 5 _ rfl, h.cells s hs 6 _ rfl, h.cells s hs 7 _ rfl⟩
/-- is a number a live slot's? -/
def liveI (a : Av) (i : Int) : Bool := decide (0 ≤ i) && a.live i.toNat
theorem liveI_nat {a : Av} {i : Int} (h : liveI a i = true) : ∃ n : Nat, i = (n : Int) ∧ a.live n = true := by
  unfold liveI at h
  rw [Bool.and_eq_true, decide_eq_true_eq] at h
  exact ⟨i.toNat, by omega, h.2⟩
theorem isLive_any (h : PA w ow P a B m sv sA sc fA fc) (i : Int) : Calls Try.prog 38 #[.pointer (some ⟨P, 0, none⟩), .int .i64 i] w fun e w' => e = .returned (.bool (liveI a i)) ∧ w = w' := by
  have h' := Lib.hid h
  by_cases h0 : 0 ≤ i
  · obtain ⟨s, rfl⟩ := Int.eq_ofNat_of_zero_le h0
    have hv := Lib.hid (show liveI a (s : Int) = a.live s by unfold liveI; simp)
    by_cases hs : s < a.cnt
    · have c0 := (h.eight (s := s) (by have := h.room; omega)).1
      have hm : s < m * 16 := by have := h.room; omega
      have hsI : (s : Int) < (a.cnt : Int) := by omega
      clear h
      go_enter Try.func38, Try.ntmps38
      go_wp2_with (first
        | (refine (slots_any h'.out).mono ?_; rintro e w7 ⟨rfl, rfl⟩)
        | (refine (node_any h'.out hm).mono ?_; rintro e w7 ⟨rfl, rfl⟩))
      go_ret
      exact ⟨by rw [hv.out]; rfl, rfl⟩
    · have hz := (h.zero s (by omega)).1
      have hv2 := Lib.hid (hv.out.trans hz)
      have hsI : ¬ (s : Int) < (a.cnt : Int) := by omega
      clear h hz
      go_enter Try.func38, Try.ntmps38
      go_wp2_with (refine (slots_any h'.out).mono ?_; rintro e w7 ⟨rfl, rfl⟩)
      go_ret
      exact ⟨by rw [hv2.out]; rfl, rfl⟩
  · have hv := Lib.hid (show liveI a i = false by unfold liveI; simp [h0])
    clear h
    go_enter Try.func38, Try.ntmps38
    go_wp2_with fail
    go_ret
    exact ⟨by rw [hv.out]; rfl, rfl⟩
theorem isLive_nil (w : World) (i : Int) (hi : -9223372036854775808 ≤ i ∧ i ≤ 9223372036854775807) : Calls Try.prog 38 #[.pointer none, .int .i64 i] w fun e w' => e = .returned (.bool false) ∧ w = w' := by
  by_cases h0 : 0 ≤ i
  · have h1 : ¬ i < 0 := by omega
    go_enter Try.func38, Try.ntmps38
    go_wp2_with (refine (slots_nil w).mono ?_; rintro e w7 ⟨rfl, rfl⟩)
    go_ret
    exact ⟨rfl, rfl⟩
  · go_enter Try.func38, Try.ntmps38
    go_wp2_with fail
    go_ret
    exact ⟨rfl, rfl⟩
end
end Go.Proofs.Ytiikakfdelkjhaa.Arn
