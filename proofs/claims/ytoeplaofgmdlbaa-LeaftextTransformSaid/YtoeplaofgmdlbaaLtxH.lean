/- The document's: is an edit right, how far does it reach. -/
import Derived.Test.YtoeplaofgmdlbaaLtxG
namespace Go.Proofs.Ytoeplaofgmdlbaa
open Go.RowKit
set_option maxRecDepth 20000
open Ltx (Pc)

set_option maxHeartbeats 2000000 in
theorem rright_any (w : World) (A : Option Addr) (n c : Nat) (xs : List IP) (hx : PcsIn w A n xs) (hn : n ≤ maxLen) :
    Calls Try.prog 12 #[.slice A n c] w fun e w' => e = .returned (.bool (rightV xs)) ∧ Below w.heap.size w w' := by
  have hx' := Lib.hid hx
  have hlen := hx.1
  clear hx
  have hn' : (n : Int) ≤ 9223372036854775807 := by unfold maxLen at hn; omega
  by_cases h60 : 4096 < n
  · have hv := Lib.hid (not_right_len (xs := xs) (by omega))
    have hI : (4096 : Int) < (n : Int) := by omega
    clear h60 hlen
    go_enter Try.func12, Try.ntmps12
    go_wp2_with fail
    go_ret
    exact ⟨by rw [hv.out]; rfl, Below.refl _ _⟩
  · have hI : ¬ (4096 : Int) < (n : Int) := by omega
    go_enter Try.func12, Try.ntmps12
    go_wp2_with fail
    go_loopw [3, 4] (fun s k wr => ∃ q : Nat, q ≤ n ∧ k = .int .i64 (q : Int) ∧ s = .int .i64 (putsI (xs.take q) : Int) ∧ putsI (xs.take q) ≤ 1048576 ∧ (xs.take q).all okB = true ∧ Below w.heap.size w wr) (fun _ k _ => n - (intOf k).toNat)
    case atStart => exact ⟨0, Nat.zero_le _, rfl, by simp [putsI], by simp [putsI], rfl, Below.refl _ _⟩
    case round =>
      obtain ⟨q, hq, rfl, rfl, hs, hall, hbel⟩ := hrel
      by_cases h1 : q < n
      · have h1I : (q : Int) < (n : Int) := by omega
        obtain ⟨ad, x, rfl, hxq, hlt, hp⟩ := (hx'.out.below hbel).at_ h1
        obtain ⟨x1, x2, x3, x4, x5, x6, x7, x8⟩ := hp
        have hst := putsI_take xs q x hxq
        have hle := putsI_le xs (q + 1)
        obtain ⟨kp, dr, pu⟩ := x
        simp only at *
        unfold maxLen at x5
        generalize hS : putsI (xs.take q) = s at *
        have hmem : (⟨kp, dr, pu⟩ : IP) ∈ xs := List.mem_of_getElem? hxq
        have hbel' := Lib.hid hbel
        by_cases hok : (0 ≤ kp ∧ kp ≤ 1048576 ∧ 0 ≤ dr ∧ dr ≤ 1048576) ∧ s + pu.length ≤ 1048576
        · obtain ⟨⟨a1, a2, a3, a4⟩, a5⟩ := hok
          have hokx : okB ⟨kp, dr, pu⟩ = true := by unfold okB mayB; simp; omega
          have hall' := Lib.hid (all_take_succ hxq hall hokx)
          have b1 : ¬ kp < 0 := by omega
          have b2 : ¬ (1048576 : Int) < kp := by omega
          have b3 : ¬ dr < 0 := by omega
          have b4 : ¬ (1048576 : Int) < dr := by omega
          have b5 : ¬ (1048576 : Int) - (s : Int) < (pu.length : Int) := by omega
          have hst' := Lib.hid hst
          clear hS hst hle hall hokx hbel hxq hmem hlen
          go_wp2_with fail
          go_roundw
          case rel => exact ⟨q + 1, by omega, by go_num, by rw [hst'.out]; go_num, by rw [hst'.out]; exact a5, hall'.out, hbel'.out⟩
          case measure => simp [intOf]; omega
        · have hv : rightV xs = false := by
            by_cases hp : 1048576 < s + pu.length
            · exact not_right_puts (by omega)
            · refine not_right_of hmem ?_
              unfold okB mayB
              simp
              omega
          have hv' := Lib.hid hv
          have hcs : kp < 0 ∨ (¬ kp < 0 ∧ (1048576 : Int) < kp) ∨ (¬ kp < 0 ∧ ¬ (1048576 : Int) < kp ∧ dr < 0) ∨ (¬ kp < 0 ∧ ¬ (1048576 : Int) < kp ∧ ¬ dr < 0 ∧ (1048576 : Int) < dr) ∨ (¬ kp < 0 ∧ ¬ (1048576 : Int) < kp ∧ ¬ dr < 0 ∧ ¬ (1048576 : Int) < dr ∧ (1048576 : Int) - (s : Int) < (pu.length : Int)) := by omega
          clear hS hst hle hall hbel hxq hmem hlen hok hv
          rcases hcs with b1 | ⟨b1, b2⟩ | ⟨b1, b2, b3⟩ | ⟨b1, b2, b3, b4⟩ | ⟨b1, b2, b3, b4, b5⟩
          all_goals
            go_wp2_with fail
            go_ret
            exact ⟨by rw [hv'.out]; rfl, hbel'.out⟩
      · have hqn : q = n := by omega
        have h1I : ¬ (q : Int) < (n : Int) := by omega
        have hv := Lib.hid (right_of (xs := xs) (by omega) (by rw [hqn, ← hlen, List.take_length] at hall; exact hall) (by rw [hqn, ← hlen, List.take_length] at hs; exact hs))
        have hbel' := Lib.hid hbel
        clear hlen hs hall hbel hqn h1
        go_wp2_with fail
        go_ret
        exact ⟨by rw [hv.out]; rfl, hbel'.out⟩
theorem extent_take (l : List Pc) (q : Nat) (p : Pc) (h : l[q]? = some p) : Ltx.extent (l.take (q + 1)) = Ltx.extent (l.take q) + p.keep + p.drop := by
  rw [List.take_add_one, h, Ltx.extent_append]
  simp [Ltx.extent]
  omega
theorem extent_le (l : List Pc) (q : Nat) : Ltx.extent (l.take q) ≤ Ltx.extent l := by
  conv => rhs; rw [← List.take_append_drop q l, Ltx.extent_append]
  omega
/-- what stands at q, of pieces whose numbers are none below 0 -/
theorem PcsIn.pc {w : World} {A : Option Addr} {n q : Nat} {l : List Pc} (h : PcsIn w A n (l.map ipc)) (hq : q < n) : ∃ ad p, A = some ad ∧ l[q]? = some p ∧ ad.block < w.heap.size ∧ PieceAt w (ad.add (q * 3)) (ipc p) := by
  obtain ⟨ad, x, e, hx, hl, hp⟩ := h.at_ hq
  rw [List.getElem?_map] at hx
  cases hpq : l[q]? with
  | none => rw [hpq] at hx; cases hx
  | some p =>
    rw [hpq] at hx
    injection hx with hx
    subst hx
    exact ⟨ad, p, e, rfl, hl, hp⟩
set_option maxHeartbeats 2000000 in
theorem extent_any (w : World) (A : Option Addr) (n c : Nat) (l : List Pc) (hx : PcsIn w A n (l.map ipc)) (hn : n ≤ maxLen) (hb : Ltx.extent l ≤ 100000000000) :
    Calls Try.prog 33 #[.slice A n c] w fun e w' => e = .returned (.int .i64 (Ltx.extent l : Int)) ∧ Below w.heap.size w w' := by
  have hx' := Lib.hid hx
  have hlen := Lib.hid (show l.length = n by have := hx.1; simpa using this)
  clear hx
  have hn' : (n : Int) ≤ 9223372036854775807 := by unfold maxLen at hn; omega
  go_enter Try.func33, Try.ntmps33
  go_wp2_with fail
  go_loopw [3, 4] (fun s k wr => ∃ q : Nat, q ≤ n ∧ k = .int .i64 (q : Int) ∧ s = .int .i64 (Ltx.extent (l.take q) : Int) ∧ Below w.heap.size w wr) (fun _ k _ => n - (intOf k).toNat)
  case atStart => exact ⟨0, Nat.zero_le _, rfl, by simp [Ltx.extent], Below.refl _ _⟩
  case round =>
    obtain ⟨q, hq, rfl, rfl, hbel⟩ := hrel
    by_cases h1 : q < n
    · have h1I : (q : Int) < (n : Int) := by omega
      obtain ⟨ad, p, rfl, hpq, hlt, hp⟩ := (hx'.out.below hbel).pc h1
      obtain ⟨x1, x2, x3, x4, x5, x6, x7, x8⟩ := hp
      have hst := extent_take l q p hpq
      have hle := extent_le l (q + 1)
      obtain ⟨kp, dr, pu⟩ := p
      simp only [ipc] at *
      generalize Ltx.extent (l.take q) = s at *
      have hst' := Lib.hid hst
      have hbel' := Lib.hid hbel
      have hb1 : s + kp + dr ≤ 100000000000 := by omega
      clear hst hle hbel hpq
      go_wp2_with fail
      go_quiet (fail)
      go_wp2_with fail
      go_roundw
      case rel => exact ⟨q + 1, by omega, by go_num, by rw [hst'.out]; go_num, draws hbel'.out _⟩
      case measure => simp [intOf]; omega
    · have hqn : q = n := by omega
      have h1I : ¬ (q : Int) < (n : Int) := by omega
      have hbel' := Lib.hid hbel
      have he := Lib.hid (show Ltx.extent (l.take q) = Ltx.extent l by rw [hqn, ← hlen.out, List.take_length])
      clear hbel hqn h1
      generalize Ltx.extent (l.take q) = s at *
      go_wp2_with fail
      go_ret
      exact ⟨by rw [← he.out]; rfl, hbel'.out⟩
end Go.Proofs.Ytoeplaofgmdlbaa
