/- The laws Right, Apply. -/
import Derived.Test.YtoeplaofgmdlbaaLtxWo
namespace Go.Proofs.Ytoeplaofgmdlbaa
open Go.RowKit
set_option maxRecDepth 20000
open Ltx (Pc)

set_option maxHeartbeats 1000000 in
theorem lawRight_any (w : World) (A : Option Addr) (n c : Nat) (xs : List IP) (hx : PcsIn w A n xs) (hn : n ≤ maxLen) :
    Calls Try.prog 3 #[.slice A n c] w fun e w' => e = .returned (.bool true) ∧ Below w.heap.size w w' := by
  have hx' := Lib.hid hx
  have hn' : (n : Int) ≤ 9223372036854775807 := by unfold maxLen at hn; omega
  clear hx
  by_cases h1 : 5000 < n
  · have h1I : (5000 : Int) < (n : Int) := by omega
    go_enter Try.func3, Try.ntmps3
    go_wp2_with fail
    refine (works_any _).mono ?_
    rintro e w1 ⟨rfl, hb1⟩
    have hb1' := Lib.hid hb1
    clear hb1
    go_wp2_with fail
    go_ret
    exact ⟨rfl, hb1'.out⟩
  · have h1I : ¬ (5000 : Int) < (n : Int) := by omega
    obtain ⟨b, hb⟩ : ∃ b, b = rightV xs := ⟨_, rfl⟩
    have hbH := Lib.hid hb
    clear hb
    go_enter Try.func3, Try.ntmps3
    go_wp2_with fail
    refine (right_any w A n c xs hx'.out hn).mono ?_
    rw [← hbH.out]
    rintro e w1 ⟨rfl, hb1⟩
    have hb1' := Lib.hid hb1
    clear hb1
    go_wp2_with fail
    refine (rright_any w1 A n c xs (hx'.out.below hb1'.out) hn).mono ?_
    rw [← hbH.out]
    rintro e w2 ⟨rfl, hb2⟩
    have hb2' := Lib.hid hb2
    clear hb2
    go_wp2_with fail
    refine (works_any _).mono ?_
    rintro e w3 ⟨rfl, hb3⟩
    have hb3' := Lib.hid hb3
    clear hb3
    go_wp2_with fail
    go_ret
    refine ⟨rfl, (hb1'.out.trans (hb2'.out.mono hb1'.out.size)).trans (hb3'.out.mono ?_)⟩
    have := hb1'.out.size
    have := hb2'.out.size
    omega
/-- the fault of an edit of a text: what both answer -/
def applyV (t : List UInt8) (xs : List IP) : List UInt8 × Int := 
  if rightV xs = false then ([], 2) else if t.length < Ltx.extent (xs.map fun x => ⟨x.keep.toNat, x.drop.toNat, x.put⟩) then ([], 50) else (Ltx.apply t (xs.map fun x => ⟨x.keep.toNat, x.drop.toNat, x.put⟩), 0)
def unip (x : IP) : Pc := ⟨x.keep.toNat, x.drop.toNat, x.put⟩
theorem unip_ipc (l : List Pc) : (l.map ipc).map unip = l := by
  rw [List.map_map]
  conv => rhs; rw [← List.map_id l]
  rfl
theorem applyV_not {t : List UInt8} {xs : List IP} (h : rightV xs = false) : applyV t xs = ([], 2) := by unfold applyV; rw [if_pos h]
theorem applyV_far {t : List UInt8} {l : List Pc} (h : rightV (l.map ipc) = true) (hf : t.length < Ltx.extent l) : applyV t (l.map ipc) = ([], 50) := by
  unfold applyV
  rw [if_neg (by rw [h]; simp)]
  have := unip_ipc l
  unfold unip at this
  rw [this, if_pos hf]
theorem applyV_ok {t : List UInt8} {l : List Pc} (h : rightV (l.map ipc) = true) (hf : Ltx.extent l ≤ t.length) : applyV t (l.map ipc) = (Ltx.apply t l, 0) := by
  unfold applyV
  rw [if_neg (by rw [h]; simp)]
  have := unip_ipc l
  unfold unip at this
  rw [this, if_neg (by omega)]
theorem apply_all (w : World) (t : List UInt8) (A : Option Addr) (n c : Nat) (xs : List IP) (hx : PcsIn w A n xs) (hn : n ≤ maxLen) (ht : t.length ≤ 10000000) :
    Calls Try.prog 18 #[.string ⟨t.toArray⟩, .slice A n c] w fun e w' => e = .returned (.tuple #[.string ⟨(applyV t xs).1.toArray⟩, .int .i64 (applyV t xs).2]) ∧ Below w.heap.size w w' := by
  rcases Bool.eq_false_or_eq_true (rightV xs) with hr | hr
  · obtain ⟨l, rfl⟩ := right_pcs hr
    rcases Nat.lt_or_ge t.length (Ltx.extent l) with hf | hf
    · rw [applyV_far hr hf]; exact apply_far w t A n c l hx hn ht hr hf
    · rw [applyV_ok hr hf]; exact apply_ok w t A n c l hx hn ht hr hf
  · rw [applyV_not hr]; exact apply_not w t A n c xs hx hn hr
theorem rapply_all (w : World) (t : List UInt8) (A : Option Addr) (n c : Nat) (xs : List IP) (hx : PcsIn w A n xs) (hn : n ≤ maxLen) (ht : t.length ≤ 10000000) :
    Calls Try.prog 19 #[.string ⟨t.toArray⟩, .slice A n c] w fun e w' => e = .returned (.tuple #[.string ⟨(applyV t xs).1.toArray⟩, .int .i64 (applyV t xs).2]) ∧ Below w.heap.size w w' := by
  rcases Bool.eq_false_or_eq_true (rightV xs) with hr | hr
  · obtain ⟨l, rfl⟩ := right_pcs hr
    rcases Nat.lt_or_ge t.length (Ltx.extent l) with hf | hf
    · rw [applyV_far hr hf]; exact rapply_far w t A n c l hx hn ht hr hf
    · rw [applyV_ok hr hf]; exact rapply_ok w t A n c l hx hn ht hr hf
  · rw [applyV_not hr]; exact rapply_not w t A n c xs hx hn hr
theorem applyV_e {t : List UInt8} {xs : List IP} : (applyV t xs).2 = 0 ∨ ((applyV t xs).2 = 2 ∨ (applyV t xs).2 = 50) := by
  unfold applyV
  split
  · exact .inr (.inl rfl)
  · split
    · exact .inr (.inr rfl)
    · exact .inl rfl
theorem applyV_inv {t : List UInt8} {xs : List IP} (h : (applyV t xs).2 = 0) : ∃ l : List Pc, xs = l.map ipc ∧ rightV (l.map ipc) = true ∧ Ltx.extent l ≤ t.length ∧ (applyV t xs).1 = Ltx.apply t l := by
  rcases Bool.eq_false_or_eq_true (rightV xs) with hr | hr
  · obtain ⟨l, rfl⟩ := right_pcs hr
    rcases Nat.lt_or_ge t.length (Ltx.extent l) with hf | hf
    · rw [applyV_far hr hf] at h; cases h
    · exact ⟨l, rfl, hr, hf, by rw [applyV_ok hr hf]⟩
  · rw [applyV_not hr] at h; cases h
end Go.Proofs.Ytoeplaofgmdlbaa
