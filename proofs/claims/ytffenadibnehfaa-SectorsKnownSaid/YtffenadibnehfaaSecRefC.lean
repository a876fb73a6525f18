/- What a sector of the document's disk holds behind so many writes; Read, Fail, Crash, On. -/
import Derived.Test.YtffenadibnehfaaSecRefB
namespace Go.Proofs.Ytffenadibnehfaa
open Go.RowKit

def atV (base : List (List UInt8)) (wr : List (Nat × List UInt8)) (i : Nat) : Nat → List UInt8
  | 0 => base.getD i []
  | n + 1 => match wr[n]? with
    | some x => if x.1 = i then x.2 else atV base wr i n
    | none => atV base wr i n
theorem atV_hit {base : List (List UInt8)} {wr : List (Nat × List UInt8)} {i n : Nat} {x : Nat × List UInt8} (h : wr[n]? = some x) (hx : x.1 = i) : atV base wr i (n + 1) = x.2 := by
  rw [atV, h]
  exact if_pos hx
theorem atV_miss {base : List (List UInt8)} {wr : List (Nat × List UInt8)} {i n : Nat} {x : Nat × List UInt8} (h : wr[n]? = some x) (hx : x.1 ≠ i) : atV base wr i (n + 1) = atV base wr i n := by
  rw [atV, h]
  exact if_neg hx

set_option maxHeartbeats 400000 in
theorem at_any (w : World) (B p : Nat) (d : RD) (i m : Nat) (h : RefAt w B p d) (hi : i < d.base.length) (hbl : d.base.length ≤ 1000000) (hm : m ≤ d.wr.length) (hwl : d.wr.length ≤ 1000000) :
    Calls Try.prog 28 #[.pointer (some ⟨p, 0, none⟩), .int .i64 (i : Int), .int .i64 (m : Int)] w fun e w' => e = .returned (strV (atV d.base d.wr i m)) ∧ w = w' := by
  obtain ⟨_, _, bv, lv, hp, hb, hw⟩ := h
  have c0 := cell_of_row w p 0 _ _ _ hp
  have c1 := cell_of_row w p 1 _ _ _ hp
  obtain ⟨A, c, rfl, _, _, _, hA⟩ := own_form hb
  obtain ⟨A2, c2, rfl, _, _, _, hA2⟩ := own_form hw
  simp at c0 c1
  obtain ⟨g, rfl, _, _, hcb⟩ := hA (by omega)
  obtain ⟨b0, hb0⟩ : ∃ b0, b0 = d.base.getD i [] := ⟨_, rfl⟩
  have hb0' := Lib.hid hb0
  have hbase : w.cell? ⟨g, i, none⟩ = some (.string ⟨b0.toArray⟩) := hcb i _ (by rw [List.getElem?_map, List.getElem?_eq_getElem hi, hb0, List.getD_eq_getElem?_getD, List.getElem?_eq_getElem hi]; rfl)
  have hA2' := Lib.hid hA2
  clear hp hb hw hA hA2 hcb hb0
  have hiI : (i : Int) < (d.base.length : Int) := by omega
  go_enter Try.func28, Try.ntmps28
  go_wp2_with fail
  go_loop [7] (fun k => ∃ q : Nat, q ≤ m ∧ k = .int .i64 ((q : Int) - 1) ∧ atV d.base d.wr i m = atV d.base d.wr i q) (fun k => (intOf k + 1).toNat)
  case atStart => exact ⟨m, Nat.le_refl _, rfl, rfl⟩
  case round =>
    obtain ⟨q, hq, rfl, hv⟩ := hrel
    have hv' := Lib.hid hv
    clear hv
    rcases Nat.eq_zero_or_pos q with h0 | h0
    · subst h0
      go_wp2_with fail
      go_ret
      exact ⟨by rw [hv'.out, show atV d.base d.wr i 0 = b0 from hb0'.out.symm]; rfl, rfl⟩
    · obtain ⟨r, rfl⟩ : ∃ r, q = r + 1 := ⟨q - 1, by omega⟩
      obtain ⟨g2, rfl, _, _, hcw⟩ := hA2'.out (by omega)
      have hr : d.wr[r]? = some d.wr[r] := List.getElem?_eq_getElem (by omega)
      have hat := wrCells_at d.wr r _ hr
      have d1 := hcw _ _ hat.1
      have d2 : w.cell? ⟨g2, r * 2 + 1, none⟩ = some (.string ⟨(d.wr[r]).2.toArray⟩) := hcw _ _ hat.2
      have hr' := Lib.hid hr
      generalize d.wr[r] = x at *
      have hrI : (r : Int) < (d.wr.length : Int) := by omega
      clear hat hcw hr
      by_cases hx : x.1 = i
      · have t1 : ((x.1 : Int) == (i : Int)) = true := by rw [beq_iff_eq]; omega
        have hfin := Lib.hid (atV_hit (base := d.base) hr'.out hx)
        clear hx
        go_wp2_with fail
        go_ret
        exact ⟨by rw [hv'.out, hfin.out]; rfl, rfl⟩
      · have t1 : ((x.1 : Int) == (i : Int)) = false := by rw [beq_eq_false_iff_ne]; omega
        have hfin := Lib.hid (atV_miss (base := d.base) hr'.out hx)
        clear hx
        go_wp2_with fail
        go_round
        case rel => exact ⟨r, by omega, by go_num, by rw [hv'.out, hfin.out]⟩
        case measure => simp [intOf]

def readV (d : RD) (i : Int) : List UInt8 := if askedV d i = 0 then atV d.base d.wr i.toNat d.wr.length else []
theorem asked_ok {d : RD} {i : Int} (h : askedV d i = 0) : d.gone = false ∧ 0 ≤ i ∧ i < (d.base.length : Int) := by
  unfold askedV at h
  cases hg : d.gone with
  | true => rw [hg] at h; simp at h
  | false =>
    rw [hg] at h
    by_cases h1 : i < 0 ∨ (d.base.length : Int) ≤ i
    · simp [h1] at h
    · exact ⟨rfl, by omega, by omega⟩

set_option maxHeartbeats 400000 in
theorem read_any (w : World) (B p : Nat) (d : RD) (i : Int) (h : RefAt w B p d) (hbl : d.base.length ≤ 1000000) (hwl : d.wr.length ≤ 1000000) :
    Calls Try.prog 29 #[.pointer (some ⟨p, 0, none⟩), .int .i64 i] w fun e w' => e = .returned (.tuple #[strV (readV d i), .int .i64 (askedV d i)]) ∧ w = w' := by
  have h' := Lib.hid h
  by_cases h0 : askedV d i = 0
  · obtain ⟨_, hi0, hi1⟩ := asked_ok h0
    obtain ⟨j, rfl⟩ := Int.eq_ofNat_of_zero_le hi0
    have hr : readV d (j : Int) = atV d.base d.wr j d.wr.length := if_pos h0
    have hr' := Lib.hid hr
    have h0' := Lib.hid h0
    obtain ⟨_, _, bv, lv, hp, _, hw⟩ := h
    have c1 := cell_of_row w p 1 _ _ _ hp
    obtain ⟨A2, c2, rfl, _⟩ := own_form hw
    simp at c1
    clear hp hw hr h0
    go_enter Try.func29, Try.ntmps29
    go_wp2_with fail
    refine (asked_any w B p d _ h'.out).mono ?_
    rintro e w' ⟨rfl, rfl⟩
    rw [h0'.out]
    go_wp2_with fail
    refine (at_any w B p d j _ h'.out (by omega) hbl (Nat.le_refl _) hwl).mono ?_
    rintro e w' ⟨rfl, rfl⟩
    unfold strV
    go_wp2_with fail
    go_ret2
    exact ⟨by rw [hr'.out, h0'.out]; rfl, rfl⟩
  · have hr : readV d i = [] := if_neg h0
    have hr' := Lib.hid hr
    have t1 : (askedV d i != 0) = true := by rw [bne_iff_ne]; exact h0
    clear hr h0 h
    generalize hq : askedV d i = q at *
    have hq' := Lib.hid hq
    go_enter Try.func29, Try.ntmps29
    go_wp2_with fail
    refine (asked_any w B p d _ h'.out).mono ?_
    rintro e w' ⟨rfl, rfl⟩
    rw [hq'.out]
    clear hq
    go_wp2_with fail
    go_ret2
    exact ⟨by rw [hr'.out]; rfl, rfl⟩
end Go.Proofs.Ytffenadibnehfaa
