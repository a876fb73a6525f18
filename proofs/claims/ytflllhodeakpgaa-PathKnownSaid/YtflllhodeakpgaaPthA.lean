/- The program's and the document's May; Common, Same, Within, Compare. -/
import Derived.Test.YtflllhodeakpgaaPthVal
import Derived.ScopeJumps
namespace Go.Proofs.Ytflllhodeakpgaa
open Go.RowKit
set_option maxRecDepth 20000

def stands (x : Int) : Bool := decide (0 ≤ x ∧ x < 1048576)
theorem stands_any (x : Int) (w : World) : Calls Try.prog 30 #[.int .i64 x] w fun e w' => e = .returned (.bool (stands x)) ∧ w = w' := by
  by_cases h0 : (0 : Int) ≤ x
  · by_cases h1 : x < (1048576 : Int)
    · have hv := Lib.hid (show stands x = true from decide_eq_true ⟨h0, h1⟩)
      go_enter Try.func30, Try.ntmps30
      go_wp2_with fail
      go_ret
      exact ⟨by rw [hv.out]; rfl, rfl⟩
    · have hv := Lib.hid (show stands x = false from decide_eq_false fun h => h1 h.2)
      go_enter Try.func30, Try.ntmps30
      go_wp2_with fail
      go_ret
      exact ⟨by rw [hv.out]; rfl, rfl⟩
  · have hv := Lib.hid (show stands x = false from decide_eq_false fun h => h0 h.1)
    go_enter Try.func30, Try.ntmps30
    go_wp2_with fail
    go_ret
    exact ⟨by rw [hv.out]; rfl, rfl⟩

theorem may_yes {xs : List Int} (hl : xs.length ≤ 64) (h : ∀ (j : Nat) (x : Int), xs[j]? = some x → stands x = true) : mayV xs = true :=
  decide_eq_true ⟨hl, fun x hx => by
    obtain ⟨j, hj⟩ := List.getElem?_of_mem hx
    exact of_decide_eq_true (h j x hj)⟩
theorem may_no {xs : List Int} {j : Nat} {x : Int} (hj : xs[j]? = some x) (h : stands x = false) : mayV xs = false :=
  decide_eq_false fun e => of_decide_eq_false h (e.2 x (List.mem_of_getElem? hj))
theorem may_long {xs : List Int} (h : 64 < xs.length) : mayV xs = false := decide_eq_false fun e => by have := e.1; omega

set_option maxHeartbeats 400000 in
theorem may_any (w : World) (A : Option Addr) (n c : Nat) (xs : List Int) (hB : Its w A n xs) (hn : n ≤ maxLen) :
    Calls Try.prog 9 #[.slice A n c] w fun e w' => e = .returned (.bool (mayV xs)) ∧ w' = w := by
  unfold maxLen at hn
  have hl := hB.1
  have hB' := Lib.hid hB
  clear hB
  go_enter Try.func9, Try.ntmps9
  go_wp2_with fail
  refine wp_scope_jumps 0 (fun a' w' => w' = w ∧ mayV xs = false ∧ ∃ (u1 u2 u3 u4 u5 u6 u7 u8 u9 u10 u11 u12 u13 u14 u15 u16 u17 : Value), a' = { tmps := #[.slice A n c, u1, u2, u3, u4, u5, u6, u7, u8, u9, u10, u11, u12, u13, u14, u15, u16, u17], defers := [] }) (fun _ _ => 0) rfl ?_ ?_
  · by_cases hbig : (64 : Int) < (n : Int)
    · have hv := Lib.hid (show mayV xs = false from may_long (by omega))
      clear hl
      go_wp2_with fail
      simp only [Exit.jump]
      go_ret
      exact ⟨by rw [hv.out]; rfl, rfl⟩
    · have hl' := Lib.hid hl
      clear hl
      go_wp2_with fail
      go_loop [10] (fun i => ∃ k : Nat, k ≤ n ∧ i = .int .i64 (k : Int) ∧ ∀ (j : Nat) (x : Int), j < k → xs[j]? = some x → stands x = true) (fun i => n - (intOf i).toNat)
      case atStart => exact ⟨0, Nat.zero_le _, rfl, fun j x h => by omega⟩
      case round =>
        obtain ⟨k, hk, rfl, hall⟩ := hrel
        have hall' := Lib.hid hall
        clear hall
        by_cases hlt : k < n
        · obtain ⟨ad, x, rfl, hkx, hcell⟩ := hB'.out.at_ hlt
          have hkx' := Lib.hid hkx
          clear hkx
          rcases Bool.eq_false_or_eq_true (stands x) with hb | hb
          · have hb' := Lib.hid hb
            clear hb
            go_wp2_with (go_at_call 30; refine (stands_any _ _).mono ?_; rw [hb'.out]; rintro e w' ⟨rfl, rfl⟩)
            go_round
            case rel => exact ⟨k + 1, by omega, by go_num, fun j y hj hy => by
              rcases Nat.lt_or_ge j k with h | h
              · exact hall'.out j y h hy
              · obtain rfl : j = k := by omega
                rw [hkx'.out] at hy
                injection hy with hy
                subst hy
                exact hb'.out⟩
            case measure => simp [intOf]; omega
          · have hb' := Lib.hid hb
            clear hb
            have hv := Lib.hid (show mayV xs = false from may_no hkx'.out hb'.out)
            go_wp2_with (go_at_call 30; refine (stands_any _ _).mono ?_; rw [hb'.out]; rintro e w' ⟨rfl, rfl⟩)
            go_step3
            exact ⟨rfl, rfl, hv.out, _, _, _, _, _, _, _, _, _, _, _, _, _, _, _, _, _, rfl⟩
        · have hv := Lib.hid (show mayV xs = true from may_yes (by have := hl'.out; omega) fun j x hj => hall'.out j x (by have := (List.getElem?_eq_some_iff.1 hj).1; have := hl'.out; omega) hj)
          go_wp2_with fail
          simp only [Exit.jump]
          go_ret
          exact ⟨by rw [hv.out]; rfl, rfl⟩
  · rintro a' w' ⟨rfl, hv, u1, u2, u3, u4, u5, u6, u7, u8, u9, u10, u11, u12, u13, u14, u15, u16, u17, rfl⟩
    have hv' := Lib.hid hv
    clear hv
    go_wp2_with fail
    simp only [Exit.jump]
    go_ret
    exact ⟨by rw [hv'.out]; rfl, rfl⟩

set_option maxHeartbeats 400000 in
theorem refMay_any (w : World) (A : Option Addr) (n c : Nat) (xs : List Int) (hB : Its w A n xs) (hn : n ≤ maxLen) :
    Calls Try.prog 10 #[.slice A n c] w fun e w' => e = .returned (.bool (mayV xs)) ∧ w' = w := by
  unfold maxLen at hn
  have hl := Lib.hid hB.1
  have hB' := Lib.hid hB
  clear hB
  go_enter Try.func10, Try.ntmps10
  go_wp2_with fail
  go_loop [3] (fun i => ∃ k : Nat, k ≤ n ∧ k ≤ 64 ∧ i = .int .i64 (k : Int) ∧ (∀ (j : Nat) (x : Int), j < k → xs[j]? = some x → stands x = true)) (fun i => n - (intOf i).toNat)
  case atStart => exact ⟨0, Nat.zero_le _, by omega, rfl, (fun j x h => by omega)⟩
  case round =>
    obtain ⟨k, hk, hk64, rfl, hall⟩ := hrel
    have hall' := Lib.hid hall
    clear hall
    by_cases hlt : k < n
    · by_cases h64 : (64 : Int) ≤ (k : Int)
      · have hv := Lib.hid (show mayV xs = false from may_long (by have := hl.out; omega))
        go_wp2_with fail
        go_ret
        exact ⟨by rw [hv.out]; rfl, rfl⟩
      · obtain ⟨ad, x, rfl, hkx, hcell⟩ := hB'.out.at_ hlt
        have hkx' := Lib.hid hkx
        clear hkx
        by_cases hx0 : x < 0
        · have hv := Lib.hid (show mayV xs = false from may_no hkx'.out (decide_eq_false fun h => by omega))
          go_wp2_with fail
          go_ret
          exact ⟨by rw [hv.out]; rfl, rfl⟩
        · by_cases hx1 : (1048576 : Int) ≤ x
          · have hv := Lib.hid (show mayV xs = false from may_no hkx'.out (decide_eq_false fun h => by omega))
            go_wp2_with fail
            go_ret
            exact ⟨by rw [hv.out]; rfl, rfl⟩
          · have hs := Lib.hid (show stands x = true from decide_eq_true ⟨by omega, by omega⟩)
            go_wp2_with fail
            go_round
            case rel => exact ⟨k + 1, by omega, by omega, by go_num, fun j y hj hy => by
              rcases Nat.lt_or_ge j k with h | h
              · exact hall'.out j y h hy
              · obtain rfl : j = k := by omega
                rw [hkx'.out] at hy
                injection hy with hy
                subst hy
                exact hs.out⟩
            case measure => simp [intOf]; omega
    · have hv := Lib.hid (show mayV xs = true from may_yes (by have := hl.out; omega) fun j x hj => hall'.out j x (by have := (List.getElem?_eq_some_iff.1 hj).1; have := hl.out; omega) hj)
      go_wp2_with fail
      go_ret
      exact ⟨by rw [hv.out]; rfl, rfl⟩
end Go.Proofs.Ytflllhodeakpgaa
