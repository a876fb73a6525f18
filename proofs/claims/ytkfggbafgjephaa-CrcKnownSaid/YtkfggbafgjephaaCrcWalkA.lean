import Derived.Test.YtkfggbafgjephaaProg
import Derived.Test.YtkfggbafgjephaaCrcMath
import Derived.WalkKit
import Derived.WalkMore
import Derived.ScopeJumps
import Derived.Laws.BitsAllLaws
import Derived.Laws.BitsLemmas
import Derived.WalkLawsBesides
import Derived.WalkSpells
import Derived.Outline
import Derived.Lib.Hide
namespace Go.Proofs.Ytkfggbafgjephaa
open Go.RowKit

theorem ret_u32 {a b : Int} (h : a = b) : Ending.returned (.int .u32 a) = .returned (.int .u32 b) := by rw [h]

theorem and1 (x : Nat) (hx : x < 4294967296) : bits .and .u32 (x : Int) 1 = ((x % 2 : Nat) : Int) := by
  rw [show (1 : Int) = ((1 : Nat) : Int) from rfl, u32_and_nat x 1 hx (by omega), nat_mask1]
theorem xorP (x : Nat) (hx : x < 4294967296) : bits .xor .u32 (x : Int) 2197175160 = ((x ^^^ 2197175160 : Nat) : Int) := by
  rw [show (2197175160 : Int) = ((2197175160 : Nat) : Int) from rfl, u32_xor_nat x _ hx (by omega)]

theorem halve_end1 (x : Nat) (hx : x < 4294967296) (h : (bits .and .u32 (x : Int) 1 == 1) = true) : bits .xor .u32 ((x : Int) / 2) 2197175160 = (H x : Int) := by
  rw [and1 x hx, beq_iff_eq] at h
  rw [show (x : Int) / 2 = ((x / 2 : Nat) : Int) from by omega, xorP _ (by omega)]
  unfold H
  rw [if_pos (by omega)]
theorem halve_end2 (x : Nat) (hx : x < 4294967296) (h : (bits .and .u32 (x : Int) 1 == 1) = false) : (x : Int) / 2 = (H x : Int) := by
  rw [and1 x hx, beq_eq_false_iff_ne] at h
  unfold H
  rw [if_neg (by omega)]
  omega
set_option maxHeartbeats 400000 in
theorem halve_any (x : Nat) (w : World) (hx : x < 4294967296) :
    Calls Try.prog 27 #[.int .u32 (x : Int)] w fun e w' => e = .returned (.int .u32 (H x : Int)) ∧ w = w' := by
  go_enter Try.func27, Try.ntmps27
  go_wp2
  all_goals go_ret
  · exact ⟨ret_u32 (halve_end1 x hx ‹_›), rfl⟩
  · exact ⟨ret_u32 (halve_end2 x hx ‹_›), rfl⟩


theorem halved_end (x : Nat) (hx : x < 4294967296) (h : ((x : Int) % 2 == 1) = true) : bits .xor .u32 ((x : Int) / 2) 2197175160 = (H x : Int) := by
  rw [beq_iff_eq] at h
  rw [show (x : Int) / 2 = ((x / 2 : Nat) : Int) from by omega, xorP _ (by omega)]
  unfold H
  rw [if_pos (by omega)]
theorem halved_end2 (x : Nat) (h : ((x : Int) % 2 == 1) = false) : (x : Int) / 2 = (H x : Int) := by
  rw [beq_eq_false_iff_ne] at h
  unfold H
  rw [if_neg (by omega)]
  omega
set_option maxHeartbeats 400000 in
theorem halved_any (x : Nat) (w : World) (hx : x < 4294967296) :
    Calls Try.prog 21 #[.int .u32 (x : Int)] w fun e w' => e = .returned (.int .u32 (H x : Int)) ∧ w = w' := by
  go_enter Try.func21, Try.ntmps21
  go_wp2
  all_goals go_ret
  · exact ⟨ret_u32 (halved_end x hx ‹_›), rfl⟩
  · exact ⟨ret_u32 (halved_end2 x ‹_›), rfl⟩

theorem top_bit (x : Nat) (hx : x < 4294967296) : bits .and .u32 (x : Int) 2147483648 = if 2147483648 ≤ x then 2147483648 else 0 := by
  rw [show (2147483648 : Int) = ((2147483648 : Nat) : Int) from rfl, u32_and_nat x _ hx (by omega), show (2147483648 : Nat) = 2 ^ 31 from rfl, nat_bit]
  by_cases h : 2 ^ 31 ≤ x
  · rw [if_pos h, show x / 2 ^ 31 % 2 = 1 from by omega, Nat.one_mul]
  · rw [if_neg h, show x / 2 ^ 31 % 2 = 0 from by omega, Nat.zero_mul]; rfl
theorem or_one (x : Nat) (hx : x < 2147483648) : bits .or .u32 ((x * 2 : Nat) : Int) 1 = ((x * 2 + 1 : Nat) : Int) := by
  rw [show (1 : Int) = ((1 : Nat) : Int) from rfl, u32_or_nat _ 1 (by omega) (by omega), nat_join 1 _ _ (by omega) (by omega)]
theorem double_end (x : Nat) (hx : x < 4294967296) (h : (bits .and .u32 (x : Int) 2147483648 != 0) = true) :
    bits .or .u32 (bits .xor .u32 (x : Int) 2197175160 * 2 % 4294967296) 1 = (D x : Int) := by
  rw [top_bit x hx] at h
  have hh : 2147483648 ≤ x := by
    by_cases g : 2147483648 ≤ x
    · exact g
    · rw [if_neg g] at h; simp at h
  have ht := top_xor hh hx
  rw [xorP x hx]
  unfold D
  rw [if_pos hh]
  generalize x ^^^ 2197175160 = y at *
  rw [show (y : Int) * 2 % 4294967296 = ((y * 2 : Nat) : Int) from by omega, or_one y ht]
theorem double_end2 (x : Nat) (hx : x < 4294967296) (h : (bits .and .u32 (x : Int) 2147483648 != 0) = false) : (x : Int) * 2 % 4294967296 = (D x : Int) := by
  rw [top_bit x hx] at h
  have hh : ¬ 2147483648 ≤ x := by
    intro g
    rw [if_pos g] at h; simp at h
  unfold D
  rw [if_neg hh]
  omega
set_option maxHeartbeats 400000 in
theorem double_any (x : Nat) (w : World) (hx : x < 4294967296) :
    Calls Try.prog 28 #[.int .u32 (x : Int)] w fun e w' => e = .returned (.int .u32 (D x : Int)) ∧ w = w' := by
  go_enter Try.func28, Try.ntmps28
  go_wp2
  all_goals go_ret
  · exact ⟨ret_u32 (double_end x hx ‹_›), rfl⟩
  · exact ⟨ret_u32 (double_end2 x hx ‹_›), rfl⟩

/-- the reference's doubling: of the two that moving up may make, the one that is halved to this one -/
theorem H_up_yes {x : Nat} (h : x < 2147483648) : H (x * 2 % 4294967296) = x := by
  rw [show x * 2 % 4294967296 = x * 2 from by omega, H_even (by omega)]; omega
theorem H_up_no {x : Nat} (h : 2147483648 ≤ x) (hx : x < 4294967296) : H (x * 2 % 4294967296) ≠ x := by
  rw [H_even (by omega)]; omega
theorem doubled_ends (x : Nat) (hx : x < 4294967296) (h : ((H (x * 2 % 4294967296) : Int) == (x : Int)) = true) : (x : Int) * 2 % 4294967296 = (D x : Int) := by
  rw [beq_iff_eq] at h
  have hh : ¬ 2147483648 ≤ x := fun g => H_up_no g hx (by omega)
  unfold D
  rw [if_neg hh]
  omega
theorem doubled_ends2 (x : Nat) (hx : x < 4294967296) (h : ((H (x * 2 % 4294967296) : Int) == (x : Int)) = false) :
    bits .xor .u32 (x : Int) 2197175160 * 2 % 4294967296 + 1 = (D x : Int) := by
  rw [beq_eq_false_iff_ne] at h
  have hh : 2147483648 ≤ x := by
    apply Decidable.byContradiction
    intro g
    exact h (by rw [H_up_yes (by omega)])
  have ht := top_xor hh hx
  rw [xorP x hx]
  unfold D
  rw [if_pos hh]
  generalize x ^^^ 2197175160 = y at *
  omega
set_option maxHeartbeats 400000 in
theorem doubled_any (x : Nat) (w : World) (hx : x < 4294967296) :
    Calls Try.prog 23 #[.int .u32 (x : Int)] w fun e w' => e = .returned (.int .u32 (D x : Int)) ∧ w = w' := by
  have e1 : (x : Int) * 2 % 4294967296 = ((x * 2 % 4294967296 : Nat) : Int) := by omega
  have E1 := Lib.hid e1
  clear e1
  go_enter Try.func23, Try.ntmps23
  go_wp2_with fail
  rw [E1.out]
  refine (halved_any _ _ (by omega)).mono ?_
  rintro e w' ⟨rfl, rfl⟩
  go_wp2
  all_goals go_ret
  · exact ⟨ret_u32 (doubled_ends x hx ‹_›), rfl⟩
  · exact ⟨ret_u32 (doubled_ends2 x hx ‹_›), rfl⟩

set_option maxHeartbeats 400000 in
theorem eight_halve (x : Nat) (w : World) (hx : x < 4294967296) :
    Calls Try.prog 26 #[.int .u32 (x : Int), .func (.func 27) #[] #[]] w fun e w' => e = .returned (.int .u32 (it 8 H x : Int)) ∧ w = w' := by
  go_enter Try.func26, Try.ntmps26
  go_wp2_with fail
  refine wp_scope_jumps 0 (fun a' w' => w' = w ∧ ∃ (j k : Nat) (u6 u7 u8 u9 u10 u11 u12 u13 : Value), j + k = 8 ∧ 0 < k ∧ a' = { tmps := #[.int .u32 (it j H x : Int), .func (.func 27) #[] #[], undef, undef, .int .u32 0, .int .i64 (k : Int), u6, u7, u8, u9, u10, u11, u12, u13], defers := [] }) (fun a' _ => (intOf (a'.tmps.getD 5 undef)).toNat) rfl ?_ ?_
  · go_wp2_with fail
    go_step3
    go_wp2_with (go_at_call 27; refine (halve_any _ _ hx).mono ?_; rintro e w' ⟨rfl, rfl⟩)
    go_step3
    exact ⟨rfl, rfl, 1, 7, _, _, _, _, _, _, _, _, rfl, by omega, rfl⟩
  · rintro a' w' ⟨rfl, j, k, u6, u7, u8, u9, u10, u11, u12, u13, hjk, hk, rfl⟩
    have hb := itH_lt j hx
    obtain ⟨m, rfl⟩ : ∃ m, k = m + 1 := ⟨k - 1, by omega⟩
    rcases Nat.eq_zero_or_pos m with hm | hm
    · subst hm
      obtain rfl : j = 7 := by omega
      go_wp2_with (go_at_call 27; refine (halve_any _ _ hb).mono ?_; rintro e w' ⟨rfl, rfl⟩)
      simp only [Exit.jump]
      go_ret
      exact ⟨ret_u32 (congrArg (fun n : Nat => (n : Int)) (it_succ 7 H x).symm), rfl⟩
    · go_wp2_with (go_at_call 27; refine (halve_any _ _ hb).mono ?_; rintro e w' ⟨rfl, rfl⟩)
      go_step3
      rw [← it_succ j H x]
      exact ⟨rfl, ⟨rfl, j + 1, m, _, _, _, _, _, _, _, _, by omega, hm, rfl⟩, by simp [intOf]⟩
set_option maxHeartbeats 400000 in
theorem eight_double (x : Nat) (w : World) (hx : x < 4294967296) :
    Calls Try.prog 26 #[.int .u32 (x : Int), .func (.func 28) #[] #[]] w fun e w' => e = .returned (.int .u32 (it 8 D x : Int)) ∧ w = w' := by
  go_enter Try.func26, Try.ntmps26
  go_wp2_with fail
  refine wp_scope_jumps 0 (fun a' w' => w' = w ∧ ∃ (j k : Nat) (u6 u7 u8 u9 u10 u11 u12 u13 : Value), j + k = 8 ∧ 0 < k ∧ a' = { tmps := #[.int .u32 (it j D x : Int), .func (.func 28) #[] #[], undef, undef, .int .u32 0, .int .i64 (k : Int), u6, u7, u8, u9, u10, u11, u12, u13], defers := [] }) (fun a' _ => (intOf (a'.tmps.getD 5 undef)).toNat) rfl ?_ ?_
  · go_wp2_with fail
    go_step3
    go_wp2_with (go_at_call 28; refine (double_any _ _ hx).mono ?_; rintro e w' ⟨rfl, rfl⟩)
    go_step3
    exact ⟨rfl, rfl, 1, 7, _, _, _, _, _, _, _, _, rfl, by omega, rfl⟩
  · rintro a' w' ⟨rfl, j, k, u6, u7, u8, u9, u10, u11, u12, u13, hjk, hk, rfl⟩
    have hb := itD_lt j hx
    obtain ⟨m, rfl⟩ : ∃ m, k = m + 1 := ⟨k - 1, by omega⟩
    rcases Nat.eq_zero_or_pos m with hm | hm
    · subst hm
      obtain rfl : j = 7 := by omega
      go_wp2_with (go_at_call 28; refine (double_any _ _ hb).mono ?_; rintro e w' ⟨rfl, rfl⟩)
      simp only [Exit.jump]
      go_ret
      exact ⟨ret_u32 (congrArg (fun n : Nat => (n : Int)) (it_succ 7 D x).symm), rfl⟩
    · go_wp2_with (go_at_call 28; refine (double_any _ _ hb).mono ?_; rintro e w' ⟨rfl, rfl⟩)
      go_step3
      rw [← it_succ j D x]
      exact ⟨rfl, ⟨rfl, j + 1, m, _, _, _, _, _, _, _, _, by omega, hm, rfl⟩, by simp [intOf]⟩

theorem xor_u (a b : Nat) (ha : a < 4294967296) (hb : b < 4294967296) : bits .xor .u32 (a : Int) (b : Int) = ((a ^^^ b : Nat) : Int) := u32_xor_nat a b ha hb
set_option maxHeartbeats 400000 in
theorem into_any (x c : Nat) (w : World) (hx : x < 4294967296) (hc : c < 256) :
    Calls Try.prog 20 #[.int .u32 (x : Int), .int .u8 (c : Int)] w fun e w' => e = .returned (.int .u32 (goIn x c : Int)) ∧ w = w' := by
  have hx' := xor_small hx (show c < 4294967296 by omega)
  have e1 := Lib.hid (xor_u x c hx (by omega))
  go_enter Try.func20, Try.ntmps20
  go_wp2_with fail
  rw [e1.out]
  refine (eight_halve _ _ hx').mono ?_
  rintro e w' ⟨rfl, rfl⟩
  go_wp2
  go_ret
  exact ⟨rfl, rfl⟩
set_option maxHeartbeats 400000 in
theorem outOf_any (x c : Nat) (w : World) (hx : x < 4294967296) (hc : c < 256) :
    Calls Try.prog 22 #[.int .u32 (x : Int), .int .u8 (c : Int)] w fun e w' => e = .returned (.int .u32 (goOut x c : Int)) ∧ w = w' := by
  have hx' := itD_lt 8 hx
  go_enter Try.func22, Try.ntmps22
  go_wp2_with fail
  refine (eight_double _ _ hx).mono ?_
  rintro e w' ⟨rfl, rfl⟩
  go_wp2
  go_ret
  exact ⟨ret_u32 (xor_u _ c hx' (by omega)), rfl⟩
end Go.Proofs.Ytkfggbafgjephaa
