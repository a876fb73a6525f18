/- Shift, the program's and the document's. -/
import Derived.Test.YtflllhodeakpgaaPthE
import Derived.Laws.OwnMore
namespace Go.Proofs.Ytflllhodeakpgaa
open Go.RowKit
set_option maxRecDepth 20000

/-- what Shift tells: an error, and a path -/
def shiftV (xs : List Int) (re im : Nat) : Int × List Int :=
  match partsV re im with
  | none => (2, [])
  | some (a, b) => if mayV xs && decide (a.toNat < xs.length) then if stands (xs.getD a.toNat 0 + b) then (0, xs.set a.toNat (xs.getD a.toNat 0 + b)) else (3, []) else (2, [])
def fineS (re im : Nat) : Bool := fineP re im && match partsV re im with
  | some (a, b) => decide (0 ≤ a ∧ a ≤ 63 ∧ -1048575 ≤ b ∧ b ≤ 1048575)
  | none => true
def ShiftR (w : World) (x : Int × List Int) (e : Ending) (w' : World) : Prop := ∃ v, e = .returned (.tuple #[v, .int .i64 x.1]) ∧ OwnI w.heap.size w' v x.2 ∧ Below w.heap.size w w'
theorem ShiftR.none_ {w : World} {x : Int × List Int} {k : Int} (h : x = (k, [])) : ShiftR w x (.returned (.tuple #[.slice none 0 0, .int .i64 k])) w := by
  subst h
  exact ⟨_, rfl, OwnI.nil_ _ _, Below.refl _ _⟩
theorem fineS_parts {re im : Nat} (h : fineS re im = true) {a b : Int} (hp : partsV re im = some (a, b)) : fineP re im = true ∧ 0 ≤ a ∧ a ≤ 63 ∧ -1048575 ≤ b ∧ b ≤ 1048575 := by
  unfold fineS at h
  rw [hp] at h
  simpa using h
/-- a store into a row of the call's own -/
theorem OwnI.stored {base g n c : Nat} {w : World} {xs : List Int} (h : OwnI base w (.slice (some ⟨g, 0, none⟩) n c) xs) (k : Nat) (y : Int) :
    OwnI base (w.setCell ⟨g, k, none⟩ (.int .i64 y)) (.slice (some ⟨g, 0, none⟩) n c) (xs.set k y) := by
  have hn : n = xs.length := by
    rcases h.2 with ⟨e, _⟩ | ⟨g', cap, cur, e, _⟩
    · cases e
    · injection e
  have h' := (World.ownsRow.stored (show w.ownsRow base 3 1 (.slice (some ⟨g, 0, none⟩) n c) n (xs.map intV) by rw [hn] at h ⊢; exact h) k (.int .i64 y)).1
  unfold OwnI
  rw [List.length_set, ← hn, List.map_set]
  exact h'
/-- its block -/
theorem OwnI.block {base : Nat} {w : World} {v : Value} {xs : List Int} (h : OwnI base w v xs) (h0 : 0 < xs.length) :
    ∃ g c, v = .slice (some ⟨g, 0, none⟩) xs.length c ∧ base ≤ g ∧ g < w.heap.size ∧ xs.length ≤ c ∧ c ≤ maxLen ∧ (∀ k x, xs[k]? = some x → w.cell? ⟨g, k, none⟩ = some (.int .i64 x)) ∧ ∀ k, w.frozen? ⟨g, k, none⟩ = false := by
  rcases h.2 with ⟨_, e⟩ | ⟨g, cap, cur, rfl, hb, hg, hnc, hcm, _⟩
  · omega
  · have hlt : g < w.heap.size := (Array.getElem?_eq_some_iff.1 hg).1
    refine ⟨g, cap, rfl, hb, hlt, hnc, hcm, fun k x hk => ?_, fun k => World.ownsRow.frozenAt h k⟩
    have := h.cells (g := g) rfl k (.int .i64 x) (by rw [List.getElem?_map, hk]; rfl)
    have hadd : (⟨g, 0, none⟩ : Addr).add k = ⟨g, k, none⟩ := by unfold Addr.add; split <;> simp_all
    rwa [hadd] at this

set_option maxHeartbeats 1600000 in
theorem shift_any (w : World) (A : Option Addr) (n c : Nat) (xs : List Int) (hA : Its w A n xs) (hnil : A = none → c = 0) (hn : n ≤ 500000) (re im : Nat) (hf : fineS re im = true) :
    Calls Try.prog 31 #[.slice A n c, .complex .f64 re im] w (ShiftR w (shiftV xs re im)) := by
  have hA' := Lib.hid hA
  have hl := Lib.hid hA.1
  have hn' := Lib.hid hnil
  have hm : n ≤ maxLen := by unfold maxLen; omega
  have hm' := Lib.hid hm
  have hn5 := Lib.hid hn
  have hp0 : fineP re im = true := by
    unfold fineS at hf
    simp at hf
    exact hf.1
  have hp0' := Lib.hid hp0
  clear hA hnil hp0
  cases hp : partsV re im with
  | none =>
    have r1 := Lib.hid (show partsR re im = .returned (.tuple #[.int .i64 0, .int .i64 0, .bool false]) by unfold partsR; rw [hp])
    have hv := Lib.hid (show shiftV xs re im = (2, []) by unfold shiftV; rw [hp])
    clear hf hp hm hn
    go_enter Try.func31, Try.ntmps31
    go_wp2_with (go_at_call 39; refine (parts_any w re im hp0'.out).mono ?_; rw [r1.out]; rintro e w' ⟨rfl, rfl⟩)
    go_ret2
    exact ShiftR.none_ hv.out
  | some ab =>
    obtain ⟨a, b⟩ := ab
    obtain ⟨_, b1, b2, b3, b4⟩ := fineS_parts hf hp
    have r1 := Lib.hid (show partsR re im = .returned (.tuple #[.int .i64 a, .int .i64 b, .bool true]) by unfold partsR; rw [hp])
    obtain ⟨k, rfl⟩ : ∃ k : Nat, a = (k : Int) := ⟨a.toNat, by omega⟩
    cases hmay : mayV xs with
    | false =>
      have hv := Lib.hid (show shiftV xs re im = (2, []) by unfold shiftV; rw [hp]; simp [hmay])
      have hmay' := Lib.hid hmay
      clear hf hp hm hn b1 b2 b3 b4 hmay
      go_enter Try.func31, Try.ntmps31
      go_wp2_with (first
        | (go_at_call 39; refine (parts_any w re im hp0'.out).mono ?_; rw [r1.out]; rintro e w' ⟨rfl, rfl⟩)
        | (go_at_call 9; refine (may_any w A n c xs hA'.out hm'.out).mono ?_; rw [hmay'.out]; rintro e w' ⟨rfl, rfl⟩))
      go_ret2
      exact ShiftR.none_ hv.out
    | true =>
      have hmay' := Lib.hid hmay
      by_cases hk : k < n
      · obtain ⟨ad, x, rfl, hkx, hcell⟩ := hA'.out.at_ hk
        have hx := of_decide_eq_true hmay
        have hx1 := hx.2 x (List.mem_of_getElem? hkx)
        have hgd : xs.getD k 0 = x := by rw [List.getD_eq_getElem?_getD, hkx]; rfl
        have k1 : (k : Int) < (n : Int) := by omega
        have k2 : ¬ (n : Int) ≤ (k : Int) := by omega
        have k0 : (0 : Int) ≤ (k : Int) := by omega
        have f1 : -9223372036854775808 ≤ x + b := by omega
        have f2 : x + b ≤ 9223372036854775807 := by omega
        have hsv := show shiftV xs re im = if stands (x + b) then (0, xs.set k (x + b)) else (3, []) by
          unfold shiftV
          rw [hp]
          simp only [hmay, Bool.true_and, Int.toNat_natCast, hgd]
          rw [if_pos (decide_eq_true (by have := hl.out; omega))]
        cases hst : stands (x + b) with
        | false =>
          have hv := Lib.hid (show shiftV xs re im = (3, []) by rw [hsv, hst]; rfl)
          have hst' := Lib.hid hst
          clear hf hp hm hn b1 b2 b3 b4 hmay hx hx1 hgd hkx hsv hst hk
          go_enter Try.func31, Try.ntmps31
          go_wp2_with (first
            | (go_at_call 39; refine (parts_any w re im hp0'.out).mono ?_; rw [r1.out]; rintro e w' ⟨rfl, rfl⟩)
            | (go_at_call 9; refine (may_any w (some ad) n c xs hA'.out hm'.out).mono ?_; rw [hmay'.out]; rintro e w' ⟨rfl, rfl⟩)
            | (go_at_call 30; refine (stands_any _ _).mono ?_; rw [hst'.out]; rintro e w' ⟨rfl, rfl⟩))
          go_ret2
          exact ShiftR.none_ hv.out
        | true =>
          have hv := Lib.hid (show shiftV xs re im = (0, xs.set k (x + b)) by rw [hsv, hst]; rfl)
          have hst' := Lib.hid hst
          have hk' := Lib.hid hk
          have hkx' := Lib.hid hkx
          clear hf hp hm hn b1 b2 b3 b4 hmay hx hx1 hgd hkx hsv hst hk
          go_enter Try.func31, Try.ntmps31
          go_wp2_with (first
            | (go_at_call 39; refine (parts_any w re im hp0'.out).mono ?_; rw [r1.out]; rintro e w' ⟨rfl, rfl⟩)
            | (go_at_call 9; refine (may_any w (some ad) n c xs hA'.out hm'.out).mono ?_; rw [hmay'.out]; rintro e w' ⟨rfl, rfl⟩)
            | (go_at_call 30; refine (stands_any _ _).mono ?_; rw [hst'.out]; rintro e w' ⟨rfl, rfl⟩)
            | (go_at_call 35; refine (copied_any _ (some ad) n c xs hA'.out hn'.out hn5.out).mono ?_; rintro e w1 ⟨v1, rfl, ho1, hb1⟩; obtain ⟨g, c1, rfl, hg1, hg2, hc1, hc2, hcs, hfr⟩ := ho1.block (by have := hk'.out; have := hl.out; omega); have hlen := hl.out; rw [hlen] at hc1; rw [hlen]; have hcell1 := hcs k x hkx'.out; have hfr1 := hfr k; have hb1' := Lib.hid hb1; have ho1' := Lib.hid ho1; have hcs' := Lib.hid hcs; have hfr' := Lib.hid hfr; clear hb1 ho1 hcs hfr hlen))
          go_ret2
          have hst1 := ho1'.out.stored k (x + b)
          rw [hl.out] at hst1
          exact ⟨.slice (some ⟨g, 0, none⟩) n c1, by rw [hv.out]; rfl, by rw [hv.out]; exact hst1, hb1'.out.setCell (by exact hg1) _⟩
      · have k2 : (n : Int) ≤ (k : Int) := by omega
        have hv := Lib.hid (show shiftV xs re im = (2, []) by
          unfold shiftV
          rw [hp]
          simp only [hmay, Bool.true_and, Int.toNat_natCast]
          rw [if_neg (by rw [decide_eq_true_iff]; have := hl.out; omega)])
        clear hf hp hm hn b1 b2 b3 b4 hmay hk
        go_enter Try.func31, Try.ntmps31
        go_wp2_with (first
          | (go_at_call 39; refine (parts_any w re im hp0'.out).mono ?_; rw [r1.out]; rintro e w' ⟨rfl, rfl⟩)
          | (go_at_call 9; refine (may_any w A n c xs hA'.out hm'.out).mono ?_; rw [hmay'.out]; rintro e w' ⟨rfl, rfl⟩))
        go_ret2
        exact ShiftR.none_ hv.out

/-- the document's parts -/
def refIn (re im : Nat) : Bool := inF im 0 63 && inF re (-1048575) 1048575
/-- what it says is what the program says; where the bounds hold, both can be made integers -/
def refFine (re im : Nat) : Bool :=
  match floatToIntVal .f64 im .i64, floatToIntVal .f64 re .i64 with
  | some _, some _ => true
  | _, _ => !refIn re im
end Go.Proofs.Ytflllhodeakpgaa
