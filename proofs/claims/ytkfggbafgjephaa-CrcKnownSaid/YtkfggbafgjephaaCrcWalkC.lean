import Derived.Test.YtkfggbafgjephaaCrcWalkB
import Derived.Laws.CopyOwn
namespace Go.Proofs.Ytkfggbafgjephaa
open Go.RowKit

theorem Try.size41 : (Try.prog.info? 41).map (·.size) = some 32 := by kernel_rfl
theorem Try.info22 : (Try.prog.info? 22).map (fun i => (i.zero, i.size, i.bytes)) = some (some (.int .u32 0), 1, 4) := by kernel_rfl

theorem run_index_arr {P : Program} (ty e : TypeId) (n : Nat) (i : TypeInfo) (hu : P.underlying ty = some (.array n e)) (hi : P.info? e = some i) (hs : i.size = 1) (kd : IntKind) (he : P.underlying e = some (.int kd))
    (cs : Array Value) (k : Nat) (v : Value) (hk : k < n) (hv : cs[k]? = some v) (w : World) : (Instr.index ty (.agg cs) (.int .i64 (k : Int))).run P w = .ok v w := by
  simp [Instr.index, asIntOf, run_underlying hu, run_underlying he, sizeOf, typeInfo, hi, hs, part, isAgg, hk, hv]

/-- of the bits of x below k those that are 1: what stands for them, put together -/
def car (f : Nat → Nat) (x : Nat) : Nat → Nat
  | 0 => 0
  | k + 1 => if x / 2 ^ k % 2 = 1 then car f x k ^^^ f k else car f x k

theorem car_lt {f : Nat → Nat} (x k : Nat) (hf : ∀ i, i < k → f i < 4294967296) : car f x k < 4294967296 := by
  induction k with
  | zero => exact (by omega : 0 < 4294967296)
  | succ k ih =>
    have h := ih fun i hi => hf i (by omega)
    unfold car
    split
    · exact xor_small h (hf k (by omega))
    · exact h
theorem bit_test (x k : Nat) (hx : x < 4294967296) : bits .and .u32 ((x : Int) / 2 ^ k) 1 = ((x / 2 ^ k % 2 : Nat) : Int) := by
  have e : (x : Int) / 2 ^ k = ((x / 2 ^ k : Nat) : Int) := by rw [Int.natCast_ediv, Int.natCast_pow]; rfl
  have hl : x / 2 ^ k < 4294967296 := Nat.lt_of_le_of_lt (Nat.div_le_self _ _) hx
  rw [e, and1 _ hl]
theorem car_yes {f : Nat → Nat} {x k : Nat} (hx : x < 4294967296) (h1 : car f x k < 4294967296) (h2 : f k < 4294967296) (h : (bits .and .u32 ((x : Int) / 2 ^ k) 1 == 1) = true) :
    bits .xor .u32 (car f x k : Int) (f k : Int) = (car f x (k + 1) : Int) := by
  rw [bit_test x k hx, beq_iff_eq] at h
  rw [xor_u _ _ h1 h2]
  conv => rhs; unfold car
  rw [if_pos (by omega)]
theorem car_no {f : Nat → Nat} {x k : Nat} (hx : x < 4294967296) (h : (bits .and .u32 ((x : Int) / 2 ^ k) 1 == 1) = false) : car f x k = car f x (k + 1) := by
  rw [bit_test x k hx, beq_eq_false_iff_ne] at h
  conv => rhs; unfold car
  rw [if_neg (by omega)]

set_option maxHeartbeats 400000 in
theorem carry_any (cs : Array Value) (f : Nat → Nat) (x : Nat) (w : World) (hs : cs.size = 32) (hf : ∀ k, k < 32 → cs[k]? = some (.int .u32 (f k : Int))) (hfl : ∀ k, k < 32 → f k < 4294967296) (hx : x < 4294967296) :
    Calls Try.prog 25 #[.agg cs, .int .u32 (x : Int)] w fun e w' => e = .returned (.int .u32 (car f x 32 : Int)) ∧ Below w.heap.size w w' := by
  obtain ⟨i0, hi, hz0, hz1, hz2⟩ := info_parts Try.info22
  have hS := Lib.hid (show (Try.prog.info? 41).map (·.size) = some cs.size by rw [hs]; exact Try.size41)
  have hI : Hid (∀ k : Nat, k < 32 → ∀ w, (Instr.index 41 (.agg cs) (.int .i64 (k : Int))).run Try.prog w = .ok (.int .u32 (f k : Int)) w) :=
    Lib.hid fun k hk w => run_index_arr _ _ _ i0 Try.underlying41 hi hz1 .u32 Try.underlying22 cs k _ hk (hf k hk) w
  have hL := Lib.hid hfl
  clear hfl hf hi hz0 hz1 hz2 hs
  go_enter Try.func25, Try.ntmps25
  go_wp2_with (with_reducible refine wpList_load_row rfl 41 _ rfl w.heap.size rfl 41 cs (0, 0) _ (heap_alloc_new w _) Try.underlying41 rfl hS.out ?_)
  go_loop [5, 9] (fun r i => ∃ k : Nat, k ≤ 32 ∧ i = .int .i64 (k : Int) ∧ r = .int .u32 (car f x k : Int)) (fun _ i => 32 - (intOf i).toNat)
  case atStart => exact ⟨0, by omega, rfl, rfl⟩
  case round =>
    obtain ⟨k, hk, rfl, rfl⟩ := hrel
    by_cases hlt : k < 32
    · have hi := hI.out k hlt
      have h1 := car_lt x k fun i hi => hL.out i (by omega)
      go_wp2
      · go_round
        case rel => exact ⟨k + 1, by omega, by go_num, congrArg (Value.int .u32) (car_yes hx h1 (hL.out k hlt) ‹_›)⟩
        case measure => simp [intOf]; omega
      · go_round
        case rel => exact ⟨k + 1, by omega, by go_num, congrArg (fun n : Nat => Value.int .u32 (n : Int)) (car_no hx ‹_›)⟩
        case measure => simp [intOf]; omega
    · obtain rfl : k = 32 := by omega
      go_wp2
      go_ret
      exact ⟨rfl, (Below.refl _ _).alloc (Nat.le_refl _) _⟩

theorem pow_top (n i : Nat) (hi : i ≤ 31) : it (8 * n + (31 - i)) H 2147483648 = it (8 * n) H (2 ^ i) := by
  have h : (2147483648 : Nat) = 2 ^ i * 2 ^ (31 - i) := by rw [← Nat.pow_add, show i + (31 - i) = 31 from by omega]
  rw [Nat.add_comm, it_add, h, itH_shift]
theorem col_set {c : Array Value} {n m : Nat} (hc : c.size = 32) (hm : m < 32) (h : ∀ i, m + 1 ≤ i → i < 32 → c[i]? = some (.int .u32 (it (8 * n) H (2 ^ i) : Int))) :
    ∀ i, m ≤ i → i < 32 → (c.setIfInBounds m (.int .u32 (it (8 * n + (31 - m)) H 2147483648 : Int)))[i]? = some (.int .u32 (it (8 * n) H (2 ^ i) : Int)) := by
  intro i h1 h2
  rw [Array.getElem?_setIfInBounds]
  by_cases e : m = i
  · subst e
    rw [if_pos rfl, if_pos (by omega), pow_top n m (by omega)]
  · rw [if_neg e]
    exact h i (by omega) h2

theorem col_one {d : Array Value} {f : Nat → Nat} (hd : d.size = 32) (h : ∀ i, i < 32 → d[i]? = some (.int .u32 (f i : Int))) : d.all (·.oneCell') = true := by
  rw [Array.all_eq_true]
  intro i hi
  have h1 := h i (by omega)
  rw [Array.getElem?_eq_getElem hi] at h1
  injection h1 with h1
  rw [h1]; rfl

set_option maxHeartbeats 800000 in
theorem columns_any (n : Nat) (w : World) (hn : n ≤ maxLen) :
    Calls Try.prog 24 #[.int .i64 (n : Int)] w fun e w' => (∃ cs, e = .returned (.agg cs) ∧ cs.size = 32 ∧ ∀ i, i < 32 → cs[i]? = some (.int .u32 (it (8 * n) H (2 ^ i) : Int))) ∧ Below w.heap.size w w' := by
  unfold maxLen at hn
  have hT : 2147483648 < 4294967296 := by omega
  go_enter Try.func24, Try.ntmps24
  go_wp2_with fail
  go_loopw [4, 7] (fun r i wr => ∃ (k : Nat) (Z c : Array Value), k ≤ n ∧ i = .int .i64 (k : Int) ∧ r = .int .u32 (it (8 * k) H 2147483648 : Int) ∧ Z.size = 32 ∧ c.size = 32 ∧ wr = (w.alloc (.cells Z 41)).alloc (.cells c 41)) (fun _ i _ => n - (intOf i).toNat)
  case atStart => exact ⟨0, _, _, Nat.zero_le _, rfl, rfl, rfl, rfl, rfl⟩
  case round =>
    obtain ⟨k, Z, c, hk, rfl, rfl, hZ, hc, rfl⟩ := hrel
    have hb := itH_lt (8 * k) hT
    by_cases hlt : k < n
    · have hS := Lib.hid (show goIn (it (8 * k) H 2147483648) 0 = it (8 * (k + 1)) H 2147483648 by
        unfold goIn
        rw [Nat.xor_zero, ← it_add, Nat.mul_add, Nat.mul_one])
      have hZ' := Lib.hid hZ
      have hc' := Lib.hid hc
      clear hZ hc
      go_wp2_with (go_at_call 20; refine (into_any _ 0 _ hb (by omega)).mono ?_; rintro e w' ⟨rfl, rfl⟩)
      go_roundw
      case rel => exact ⟨k + 1, Z, c, by omega, by go_num, by rw [hS.out], hZ'.out, hc'.out, rfl⟩
      case measure => simp [intOf]; omega
    · obtain rfl : k = n := by omega
      have hZ' := Lib.hid hZ
      have hc' := Lib.hid hc
      clear hZ hc
      go_wp2_with fail
      go_loopw [4, 5] (fun r i wr => ∃ (m : Nat) (d : Array Value), m ≤ 32 ∧ i = .int .i64 ((m : Int) - 1) ∧ r = .int .u32 (it (8 * k + (32 - m)) H 2147483648 : Int) ∧ d.size = 32 ∧ (∀ j, m ≤ j → j < 32 → d[j]? = some (.int .u32 (it (8 * k) H (2 ^ j) : Int))) ∧ wr = (w.alloc (.cells Z 41)).alloc (.cells d 41)) (fun _ i _ => (intOf i + 1).toNat)
      case atStart => exact ⟨32, c, Nat.le_refl _, rfl, rfl, hc'.out, fun j h1 h2 => absurd h1 (by omega), rfl⟩
      case round =>
        obtain ⟨m, d, hm, rfl, rfl, hd, hrow, rfl⟩ := hrel
        have hg := itH_lt (8 * k + (32 - m)) hT
        rcases Nat.eq_zero_or_pos m with h0 | h0
        · subst h0
          have hO := Lib.hid (col_one hd fun i hi => hrow i (Nat.zero_le _) hi)
          have hE := Lib.hid (show Z.size = d.size by rw [hZ'.out, hd])
          have hS := Lib.hid (show (Try.prog.info? 41).map (·.size) = some d.size by rw [hd]; exact Try.size41)
          have hd' := Lib.hid hd
          have hrow' := Lib.hid hrow
          clear hd hrow
          go_wp2_with (first
            | (with_reducible refine wpList_load_row rfl 41 (.tmp 3) rfl (w.heap.size + 1) rfl 41 d (0, 0) _ (heap_alloc2_new w _ _) Try.underlying41 rfl hS.out ?_)
            | (with_reducible refine wpList_store_row rfl 41 (.tmp 2) (.tmp 21) rfl w.heap.size d rfl rfl 41 Z (heap_alloc2_old w _ _) hS.out hE.out hO.out ?_))
          refine bodyPost_ret (v := .agg d) (results_cell_row rfl _ _ w.heap.size 41 d (0, 0) _ rfl (setRow_heap _ _ Z d _ _ (heap_alloc2_old w _ _)) Try.underlying41 rfl hS.out) rfl ?_
          exact ⟨⟨d, rfl, hd'.out, fun i hi => hrow'.out i (Nat.zero_le _) hi⟩, below_setRow (((Below.refl _ _).alloc (Nat.le_refl _) _).alloc (by simp) _) (Nat.le_refl _) _⟩
        · obtain ⟨q, rfl⟩ : ∃ q, m = q + 1 := ⟨m - 1, by omega⟩
          obtain ⟨old, hq⟩ : ∃ v, d[q]? = some v := ⟨_, Array.getElem?_eq_getElem (by omega)⟩
          have hrow' := Lib.hid (col_set hd (by omega) hrow)
          have hS := Lib.hid (it_succ (8 * k + (31 - q)) H 2147483648)
          have hd' := Lib.hid hd
          have e1 : 8 * k + (32 - (q + 1)) = 8 * k + (31 - q) := by omega
          rw [e1] at hg ⊢
          clear hrow hd e1
          go_wp2_with (go_at_call 27; refine (halve_any _ _ hg).mono ?_; rintro e w' ⟨rfl, rfl⟩)
          go_roundw
          case rel => exact ⟨q, _, by omega, by go_num, by rw [← hS.out, show 8 * k + (32 - q) = 8 * k + (31 - q) + 1 from by omega], by rw [Array.size_setIfInBounds]; exact hd'.out, hrow'.out, rfl⟩
          case measure => simp [intOf]
end Go.Proofs.Ytkfggbafgjephaa
