import Derived.Test.YtkfggbafgjephaaCrcWalkA
import Derived.Test.YtkfggbafgjephaaCrcWords
namespace Go.Proofs.Ytkfggbafgjephaa
open Go.RowKit

theorem u32max : IntKind.u32.max = ((ones : Nat) : Int) := by decide
theorem Nt_def (x : Nat) : Nt x = ones ^^^ x := rfl
theorem not_u (x : Nat) (hx : x < 4294967296) : bits .xor .u32 IntKind.u32.max (x : Int) = (Nt x : Int) := by
  rw [u32max, u32_xor_nat ones x ones_lt hx, Nt_def]
theorem u32_plain : IntKind.u32.signed = false := rfl

set_option maxHeartbeats 400000 in
theorem more_any (x : Nat) (A : Option Addr) (n c : Nat) (bs : List UInt8) (w : World) (hx : x < 4294967296) (hB : Bts w A n bs) (hn : n ≤ maxLen) :
    Calls Try.prog 13 #[.int .u32 (x : Int), .slice A n c] w fun e w' => e = .returned (.int .u32 (moreV x bs : Int)) ∧ w = w' := by
  unfold maxLen at hn
  have hNx := Nt_lt hx
  have hsg := u32_plain
  go_enter Try.func13, Try.ntmps13
  go_wp2_with fail
  go_loop [5, 12] (fun r i => ∃ k : Nat, k ≤ n ∧ i = .int .i64 (k : Int) ∧ r = .int .u32 (F (Nt x) (bs.take k) : Int)) (fun _ i => n - (intOf i).toNat)
  case atStart => exact ⟨0, Nat.zero_le _, rfl, congrArg (Value.int .u32) (not_u x hx)⟩
  case round =>
    obtain ⟨k, hk, rfl, rfl⟩ := hrel
    have hF := F_lt (bs.take k) hNx
    by_cases hlt : k < n
    · obtain ⟨ad, cc, rfl, hkc, hcell⟩ := hB.at_ hlt
      have hc := byte_lt cc
      have hS := Lib.hid (F_step (Nt x) hkc)
      clear hkc hB
      go_wp2_with (go_at_call 20; refine (into_any _ _ _ hF hc).mono ?_; rintro e w' ⟨rfl, rfl⟩)
      go_round
      case rel => exact ⟨k + 1, by omega, by go_num, by rw [hS.out]⟩
      case measure => simp [intOf]; omega
    · have hT := Lib.hid (show bs.take k = bs from List.take_of_length_le (by rw [hB.1]; omega))
      clear hB
      go_wp2_with fail
      go_ret
      exact ⟨ret_u32 (by rw [not_u _ hF, hT.out]; rfl), rfl⟩

set_option maxHeartbeats 400000 in
theorem less_any (x : Nat) (A : Option Addr) (n c : Nat) (bs : List UInt8) (w : World) (hx : x < 4294967296) (hB : Bts w A n bs) (hn : n ≤ maxLen) :
    Calls Try.prog 15 #[.int .u32 (x : Int), .slice A n c] w fun e w' => e = .returned (.int .u32 (lessV x bs : Int)) ∧ w = w' := by
  unfold maxLen at hn
  have hNx := Nt_lt hx
  have hsg := u32_plain
  have hT := Lib.hid (show bs.drop n = [] from List.drop_of_length_le (by rw [hB.1]; omega))
  go_enter Try.func15, Try.ntmps15
  go_wp2_with fail
  go_loop [5, 6] (fun r i => ∃ k : Nat, k ≤ n ∧ i = .int .i64 ((k : Int) - 1) ∧ r = .int .u32 (G (Nt x) (bs.drop k) : Int)) (fun _ i => (intOf i + 1).toNat)
  case atStart => exact ⟨n, Nat.le_refl _, rfl, by rw [hT.out]; exact congrArg (Value.int .u32) (not_u x hx)⟩
  case round =>
    obtain ⟨k, hk, rfl, rfl⟩ := hrel
    have hF := G_lt (bs.drop k) hNx
    rcases Nat.eq_zero_or_pos k with h0 | h0
    · subst h0
      clear hB
      go_wp2_with fail
      go_ret
      exact ⟨ret_u32 (not_u (G (Nt x) bs) (G_lt bs hNx)), rfl⟩
    · obtain ⟨m, rfl⟩ : ∃ m, k = m + 1 := ⟨k - 1, by omega⟩
      obtain ⟨ad, cc, rfl, hkc, hcell⟩ := hB.at_ (show m < n by omega)
      have hc := byte_lt cc
      have hS := Lib.hid (G_step (Nt x) hkc)
      clear hkc hB
      go_wp2_with (go_at_call 22; refine (outOf_any _ _ _ hF hc).mono ?_; rintro e w' ⟨rfl, rfl⟩)
      go_round
      case rel => exact ⟨m, by omega, by go_num, by rw [hS.out]⟩
      case measure => simp [intOf]

set_option maxHeartbeats 400000 in
theorem sum_any (A : Option Addr) (n c : Nat) (bs : List UInt8) (w : World) (hB : Bts w A n bs) (hn : n ≤ maxLen) :
    Calls Try.prog 11 #[.slice A n c] w fun e w' => e = .returned (.int .u32 (sumV bs : Int)) ∧ w = w' := by
  go_enter Try.func11, Try.ntmps11
  go_wp2_with fail
  refine (more_any 0 A n c bs w (by omega) hB hn).mono ?_
  rintro e w' ⟨rfl, rfl⟩
  go_wp2
  go_ret
  exact ⟨rfl, rfl⟩

set_option maxHeartbeats 400000 in
theorem refMore_any (x : Nat) (A : Option Addr) (n c : Nat) (bs : List UInt8) (w : World) (hx : x < 4294967296) (hB : Bts w A n bs) (hn : n ≤ maxLen) :
    Calls Try.prog 14 #[.int .u32 (x : Int), .slice A n c] w fun e w' => e = .returned (.int .u32 (moreV x bs : Int)) ∧ w = w' := by
  unfold maxLen at hn
  have hNx := Nt_lt hx
  have hsg := u32_plain
  go_enter Try.func14, Try.ntmps14
  go_wp2_with fail
  go_loop [5, 6] (fun r i => ∃ k : Nat, k ≤ n ∧ i = .int .i64 (k : Int) ∧ r = .int .u32 (F (Nt x) (bs.take k) : Int)) (fun _ i => n - (intOf i).toNat)
  case atStart => exact ⟨0, Nat.zero_le _, rfl, congrArg (Value.int .u32) (not_u x hx)⟩
  case round =>
    obtain ⟨k, hk, rfl, rfl⟩ := hrel
    have hF := F_lt (bs.take k) hNx
    by_cases hlt : k < n
    · obtain ⟨ad, cc, rfl, hkc, hcell⟩ := hB.at_ hlt
      have hc := byte_lt cc
      have hS := Lib.hid (F_step (Nt x) hkc)
      clear hkc hB
      have hX := Lib.hid (xor_u _ _ hF (show cc.toNat < 4294967296 by omega))
      have hXl := xor_small hF (show cc.toNat < 4294967296 by omega)
      go_wp2_with fail
      go_loop [5, 7] (fun r i => ∃ j : Nat, j ≤ 8 ∧ i = .int .i64 (j : Int) ∧ r = .int .u32 (it j H (F (Nt x) (bs.take k) ^^^ cc.toNat) : Int)) (fun _ i => 8 - (intOf i).toNat)
      case atStart => exact ⟨0, by omega, rfl, by rw [hX.out]; rfl⟩
      case round =>
        obtain ⟨j, hj, rfl, rfl⟩ := hrel
        have hG := itH_lt j hXl
        by_cases hj8 : j < 8
        · have hI := Lib.hid (it_succ j H (F (Nt x) (bs.take k) ^^^ cc.toNat))
          go_wp2_with (go_at_call 21; refine (halved_any _ _ hG).mono ?_; rintro e w' ⟨rfl, rfl⟩)
          go_round
          case rel => exact ⟨j + 1, by omega, by go_num, by rw [hI.out]⟩
          case measure => simp [intOf]; omega
        · obtain rfl : j = 8 := by omega
          go_wp2_with fail
          go_round
          case rel => exact ⟨k + 1, by omega, by go_num, by rw [hS.out]; rfl⟩
          case measure => simp [intOf]; omega
    · have hT := Lib.hid (show bs.take k = bs from List.take_of_length_le (by rw [hB.1]; omega))
      clear hB
      go_wp2_with fail
      go_ret
      exact ⟨ret_u32 (by rw [not_u _ hF, hT.out]; rfl), rfl⟩

set_option maxHeartbeats 400000 in
theorem refLess_any (x : Nat) (A : Option Addr) (n c : Nat) (bs : List UInt8) (w : World) (hx : x < 4294967296) (hB : Bts w A n bs) (hn : n ≤ maxLen) :
    Calls Try.prog 16 #[.int .u32 (x : Int), .slice A n c] w fun e w' => e = .returned (.int .u32 (lessV x bs : Int)) ∧ w = w' := by
  unfold maxLen at hn
  have hNx := Nt_lt hx
  have hsg := u32_plain
  have hT := Lib.hid (show bs.drop n = [] from List.drop_of_length_le (by rw [hB.1]; omega))
  go_enter Try.func16, Try.ntmps16
  go_wp2_with fail
  go_loop [5, 6] (fun r i => ∃ k : Nat, k ≤ n ∧ i = .int .i64 ((k : Int) - 1) ∧ r = .int .u32 (G (Nt x) (bs.drop k) : Int)) (fun _ i => (intOf i + 1).toNat)
  case atStart => exact ⟨n, Nat.le_refl _, rfl, by rw [hT.out]; exact congrArg (Value.int .u32) (not_u x hx)⟩
  case round =>
    obtain ⟨k, hk, rfl, rfl⟩ := hrel
    have hF := G_lt (bs.drop k) hNx
    rcases Nat.eq_zero_or_pos k with h0 | h0
    · subst h0
      clear hB
      go_wp2_with fail
      go_ret
      exact ⟨ret_u32 (not_u (G (Nt x) bs) (G_lt bs hNx)), rfl⟩
    · obtain ⟨m, rfl⟩ : ∃ m, k = m + 1 := ⟨k - 1, by omega⟩
      obtain ⟨ad, cc, rfl, hkc, hcell⟩ := hB.at_ (show m < n by omega)
      have hc := byte_lt cc
      have hS := Lib.hid (G_step (Nt x) hkc)
      clear hkc hB
      go_wp2_with fail
      go_loop [5, 7] (fun r i => ∃ j : Nat, j ≤ 8 ∧ i = .int .i64 (j : Int) ∧ r = .int .u32 (it j D (G (Nt x) (bs.drop (m + 1))) : Int)) (fun _ i => 8 - (intOf i).toNat)
      case atStart => exact ⟨0, by omega, rfl, rfl⟩
      case round =>
        obtain ⟨j, hj, rfl, rfl⟩ := hrel
        have hG := itD_lt j hF
        by_cases hj8 : j < 8
        · have hI := Lib.hid (it_succ j D (G (Nt x) (bs.drop (m + 1))))
          go_wp2_with (go_at_call 23; refine (doubled_any _ _ hG).mono ?_; rintro e w' ⟨rfl, rfl⟩)
          go_round
          case rel => exact ⟨j + 1, by omega, by go_num, by rw [hI.out]⟩
          case measure => simp [intOf]; omega
        · obtain rfl : j = 8 := by omega
          have hX := Lib.hid (xor_u _ _ hG (show cc.toNat < 4294967296 by omega))
          go_wp2_with fail
          go_round
          case rel => exact ⟨m, by omega, by go_num, by rw [hS.out, hX.out]; rfl⟩
          case measure => simp [intOf]

set_option maxHeartbeats 400000 in
theorem refSum_any (A : Option Addr) (n c : Nat) (bs : List UInt8) (w : World) (hB : Bts w A n bs) (hn : n ≤ maxLen) :
    Calls Try.prog 12 #[.slice A n c] w fun e w' => e = .returned (.int .u32 (sumV bs : Int)) ∧ w = w' := by
  go_enter Try.func12, Try.ntmps12
  go_wp2_with fail
  refine (refMore_any 0 A n c bs w (by omega) hB hn).mono ?_
  rintro e w' ⟨rfl, rfl⟩
  go_wp2
  go_ret
  exact ⟨rfl, rfl⟩
end Go.Proofs.Ytkfggbafgjephaa
