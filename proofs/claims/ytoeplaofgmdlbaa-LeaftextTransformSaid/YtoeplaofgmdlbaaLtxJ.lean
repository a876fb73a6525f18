/- The document's Norm; the program's fault; shells of the calls that draw nothing else. -/
import Derived.Test.YtoeplaofgmdlbaaLtxI
namespace Go.Proofs.Ytoeplaofgmdlbaa
open Go.RowKit
set_option maxRecDepth 20000
open Ltx (Pc)

set_option maxHeartbeats 1000000 in
theorem rnorm_right (w : World) (A : Option Addr) (n c : Nat) (l : List Pc) (hx : PcsIn w A n (l.map ipc)) (hn : n ≤ maxLen) (hsm : totP l ≤ 100000) (hr : rightV (l.map ipc) = true) :
    Calls Try.prog 16 #[.slice A n c] w fun e w' => ∃ v, e = .returned v ∧ OwnP w.heap.size w' v (Ltx.norm l) ∧ Below w.heap.size w w' := by
  have hx' := Lib.hid hx
  have hr' := Lib.hid hr
  have hlow := Lib.hid (low_of (l := Ltx.norm l) (Nat.le_trans (totP_norm l) (by omega)))
  have hll := Lib.hid (show l.length ≤ 1000000 by
    unfold rightV at hr
    simp only [Bool.and_eq_true, decide_eq_true_eq, List.length_map] at hr
    omega)
  clear hx hr
  go_enter Try.func16, Try.ntmps16
  go_wp2_with (first
    | (go_at_call 12; have hh := rright_any w A n c _ hx'.out hn; rw [hr'.out] at hh; refine hh.mono ?_; clear hh; rintro e w2 ⟨rfl, hb2⟩; have hb2' := Lib.hid hb2; have hs2 := hb2.size; clear hb2)
    | (go_at_call 29; refine (rnorm_any w2 A n c l (hx'.out.below hb2'.out) hn (by omega) hll.out).mono ?_; rintro e w3 ⟨v, rfl, hv, hb3⟩; obtain ⟨A1, n1, k1, rfl, -, -, -, -, -⟩ := hv.shape hlow.out; have hv' := Lib.hid hv; have hb3' := Lib.hid hb3; clear hv hb3))
  go_ret
  exact ⟨_, rfl, own_base hv'.out hs2, hb2'.out.trans (hb3'.out.mono hs2)⟩
theorem rnorm_not (w : World) (A : Option Addr) (n c : Nat) (xs : List IP) (hx : PcsIn w A n xs) (hn : n ≤ maxLen) (hr : rightV xs = false) :
    Calls Try.prog 16 #[.slice A n c] w fun e w' => e = .returned (.slice none 0 0) ∧ Below w.heap.size w w' := by
  have hx' := Lib.hid hx
  have hr' := Lib.hid hr
  clear hx hr
  go_enter Try.func16, Try.ntmps16
  go_wp2_with (go_at_call 12; have hh := rright_any w A n c _ hx'.out hn; rw [hr'.out] at hh; refine hh.mono ?_; clear hh; rintro e w2 ⟨rfl, hb2⟩; have hb2' := Lib.hid hb2; clear hb2)
  go_ret
  exact ⟨rfl, hb2'.out⟩
/-- what is wrong with an edit of a text of m bytes -/
def faultV (m : Nat) (xs : List IP) (l : List Pc) : Nat := if rightV xs = false then 2 else if m < Ltx.extent l then 50 else 0
theorem right_extent {l : List Pc} (h : rightV (l.map ipc) = true) : Ltx.extent l ≤ 10000000000 ∧ l.length ≤ 4096 := by
  unfold rightV at h
  simp only [Bool.and_eq_true, decide_eq_true_eq, List.length_map] at h
  obtain ⟨⟨h1, h2⟩, _⟩ := h
  have hall : ∀ p ∈ l, p.keep ≤ 1048576 ∧ p.drop ≤ 1048576 := fun p hp => by
    rw [List.all_eq_true] at h2
    have := h2 (ipc p) (List.mem_map_of_mem hp)
    unfold okB mayB ipc at this
    simp at this
    omega
  have hsum : ∀ l : List Pc, (∀ p ∈ l, p.keep ≤ 1048576 ∧ p.drop ≤ 1048576) → Ltx.extent l ≤ 2097152 * l.length := by
    intro l
    induction l with
    | nil => intro _; simp [Ltx.extent]
    | cons p r ih =>
      intro h
      have h1 := h p List.mem_cons_self
      have h2 := ih fun q hq => h q (List.mem_cons_of_mem _ hq)
      simp only [Ltx.extent, List.length_cons]
      omega
  have := hsum l hall
  exact ⟨by omega, h1⟩
set_option maxHeartbeats 2000000 in
theorem fault_any (w : World) (t : List UInt8) (A : Option Addr) (n c : Nat) (l : List Pc) (hx : PcsIn w A n (l.map ipc)) (hn : n ≤ maxLen) (ht : t.length ≤ 1000000000000) (hr : rightV (l.map ipc) = true) :
    Calls Try.prog 30 #[.string ⟨t.toArray⟩, .slice A n c] w fun e w' => e = .returned (.int .i64 (if t.length < Ltx.extent l then 50 else 0)) ∧ Below w.heap.size w w' := by
  have hx' := Lib.hid hx
  have hr' := Lib.hid hr
  have hlen := Lib.hid (show l.length = n by have := hx.1; simpa using this)
  have hex := (right_extent hr).1
  clear hx hr
  have hn' : (n : Int) ≤ 9223372036854775807 := by unfold maxLen at hn; omega
  go_enter Try.func30, Try.ntmps30
  go_wp2_with (go_at_call 11; have hh := right_any w A n c _ hx'.out hn; rw [hr'.out] at hh; refine hh.mono ?_; clear hh; rintro e w2 ⟨rfl, hb2⟩; have hb2' := Lib.hid hb2; clear hb2)
  go_loopw [5, 15] (fun s k wr => ∃ q : Nat, q ≤ n ∧ k = .int .i64 (q : Int) ∧ s = .int .i64 ((t.length : Int) - (Ltx.extent (l.take q) : Int)) ∧ Ltx.extent (l.take q) ≤ t.length ∧ Below w.heap.size w wr) (fun _ k _ => n - (intOf k).toNat)
  case atStart => exact ⟨0, Nat.zero_le _, rfl, by simp [Ltx.extent], by simp [Ltx.extent], hb2'.out⟩
  case round =>
    obtain ⟨q, hq, rfl, rfl, hs, hbel⟩ := hrel
    by_cases h1 : q < n
    · have h1I : (q : Int) < (n : Int) := by omega
      obtain ⟨ad, p, rfl, hpq, hlt, hp⟩ := (hx'.out.below hbel).pc h1
      obtain ⟨x1, x2, x3, x4, x5, x6, x7, x8⟩ := hp
      have hst := extent_take l q p hpq
      have hle := extent_le l (q + 1)
      obtain ⟨kp, dr, pu⟩ := p
      simp only [ipc] at *
      unfold maxLen at x5
      generalize Ltx.extent (l.take q) = s at *
      have hst' := Lib.hid hst
      have hle' := Lib.hid hle
      have hbel' := Lib.hid hbel
      have hb1 : s + kp + dr ≤ 10000000000 := by omega
      by_cases hf : s + kp + dr ≤ t.length
      · have hI : ¬ (t.length : Int) - (s : Int) - ((kp : Int) + (dr : Int)) < 0 := by omega
        clear hst hle hbel hpq
        go_wp2_with fail
        go_roundw
        case rel => exact ⟨q + 1, by omega, by go_num, congrArg (Value.int .i64) (by rw [hst'.out]; omega), by rw [hst'.out]; exact hf, hbel'.out.alloc hbel'.out.size _⟩
        case measure => simp [intOf]; omega
      · have hI : (t.length : Int) - (s : Int) - ((kp : Int) + (dr : Int)) < 0 := by omega
        have hv := Lib.hid (show t.length < Ltx.extent l by omega)
        clear hst hle hbel hpq
        go_wp2_with fail
        go_ret
        exact ⟨by first | rfl | (rw [if_pos hv.out]; rfl), hbel'.out.alloc hbel'.out.size _⟩
    · have hqn : q = n := by omega
      have h1I : ¬ (q : Int) < (n : Int) := by omega
      have hv := Lib.hid (show ¬ t.length < Ltx.extent l by rw [hqn, ← hlen.out, List.take_length] at hs; omega)
      have hbel' := Lib.hid hbel
      clear hs hbel hqn h1
      go_wp2_with fail
      go_ret
      exact ⟨by first | rfl | (rw [if_neg hv.out]; rfl), hbel'.out⟩
theorem fault_not (w : World) (t : List UInt8) (A : Option Addr) (n c : Nat) (xs : List IP) (hx : PcsIn w A n xs) (hn : n ≤ maxLen) (hr : rightV xs = false) :
    Calls Try.prog 30 #[.string ⟨t.toArray⟩, .slice A n c] w fun e w' => e = .returned (.int .i64 2) ∧ Below w.heap.size w w' := by
  have hx' := Lib.hid hx
  have hr' := Lib.hid hr
  clear hx hr
  go_enter Try.func30, Try.ntmps30
  go_wp2_with (go_at_call 11; have hh := right_any w A n c _ hx'.out hn; rw [hr'.out] at hh; refine hh.mono ?_; clear hh; rintro e w2 ⟨rfl, hb2⟩; have hb2' := Lib.hid hb2; clear hb2)
  go_ret
  exact ⟨rfl, hb2'.out⟩
end Go.Proofs.Ytoeplaofgmdlbaa
