/- Keys; attributes compared: the program's, the document's. -/
import Derived.Test.YtacmofhlbebonaaTreBase
import Derived.Deep.RegionHeld3
import Derived.Deep.RegionWith
import Derived.Laws.StructEq
namespace Go.Proofs.Ytacmofhlbebonaa
open Go.RowKit
set_option maxRecDepth 20000

theorem keyB_yes {s : Txt} (h1 : 1 ≤ s.length) (h2 : s.length ≤ 64) : keyB s = true := by unfold keyB; exact decide_eq_true ⟨h1, h2⟩
theorem keyB_no1 {s : Txt} (h1 : s.length < 1) : keyB s = false := by unfold keyB; exact decide_eq_false (fun h => by omega)
theorem keyB_no2 {s : Txt} (h1 : 64 < s.length) : keyB s = false := by unfold keyB; exact decide_eq_false (fun h => by omega)
theorem key_any (s : Txt) (w : World) (hs : s.length ≤ maxLen) : Calls Try.prog 14 #[.string ⟨s.toArray⟩] w fun e w' => e = .returned (.bool (keyB s)) ∧ w = w' := by
  unfold maxLen at hs
  by_cases h1 : 1 ≤ s.length
  · by_cases h2 : s.length ≤ 64
    · have hk := Lib.hid (keyB_yes h1 h2)
      have i1 : (1 : Int) ≤ (s.length : Int) := by omega
      have i2 : (s.length : Int) ≤ 64 := by omega
      go_enter Try.func14, Try.ntmps14
      go_wp2_with fail
      go_ret
      exact ⟨by rw [hk.out]; rfl, rfl⟩
    · have hk := Lib.hid (keyB_no2 (s := s) (by omega))
      have i1 : (1 : Int) ≤ (s.length : Int) := by omega
      have i2 : ¬ (s.length : Int) ≤ 64 := by omega
      go_enter Try.func14, Try.ntmps14
      go_wp2_with fail
      go_ret
      exact ⟨by rw [hk.out]; rfl, rfl⟩
  · have hk := Lib.hid (keyB_no1 (s := s) (by omega))
    have i1 : ¬ (1 : Int) ≤ (s.length : Int) := by omega
    go_enter Try.func14, Try.ntmps14
    go_wp2_with fail
    go_ret
    exact ⟨by rw [hk.out]; rfl, rfl⟩
theorem rkey_any (s : Txt) (w : World) (hs : s.length ≤ maxLen) : Calls Try.prog 15 #[.string ⟨s.toArray⟩] w fun e w' => e = .returned (.bool (keyB s)) ∧ w = w' := by
  unfold maxLen at hs
  by_cases h1 : 1 ≤ s.length
  · by_cases h2 : s.length ≤ 64
    · have hk := Lib.hid (keyB_yes h1 h2)
      have i1 : (1 : Int) ≤ (s.length : Int) := by omega
      have i2 : (s.length : Int) ≤ 64 := by omega
      go_enter Try.func15, Try.ntmps15
      go_wp2_with fail
      go_ret
      exact ⟨by rw [hk.out]; rfl, rfl⟩
    · have hk := Lib.hid (keyB_no2 (s := s) (by omega))
      have i1 : (1 : Int) ≤ (s.length : Int) := by omega
      have i2 : ¬ (s.length : Int) ≤ 64 := by omega
      go_enter Try.func15, Try.ntmps15
      go_wp2_with fail
      go_ret
      exact ⟨by rw [hk.out]; rfl, rfl⟩
  · have hk := Lib.hid (keyB_no1 (s := s) (by omega))
    have i1 : ¬ (1 : Int) ≤ (s.length : Int) := by omega
    go_enter Try.func15, Try.ntmps15
    go_wp2_with fail
    go_ret
    exact ⟨by rw [hk.out]; rfl, rfl⟩

/-! ### rows of attributes compared -/
theorem beq_take {α : Type} [BEq α] [LawfulBEq α] {l m : List α} {q : Nat} {x y : α} (hx : l[q]? = some x) (hy : m[q]? = some y) (h : l.take q = m.take q) (e : x = y) : l.take (q + 1) = m.take (q + 1) := by
  rw [List.take_add_one, List.take_add_one, h, hx, hy, e]
theorem ne_at {α : Type} [BEq α] [LawfulBEq α] {l m : List α} {q : Nat} {x y : α} (hx : l[q]? = some x) (hy : m[q]? = some y) (e : x ≠ y) : (l == m) = false := by
  rw [beq_eq_false_iff_ne]
  intro h
  subst h
  rw [hx] at hy
  injection hy with hy
  exact e hy
theorem ne_len {α : Type} [BEq α] [LawfulBEq α] {l m : List α} (e : l.length ≠ m.length) : (l == m) = false := by
  rw [beq_eq_false_iff_ne]
  intro h
  subst h
  exact e rfl
theorem eq_full {α : Type} [BEq α] [LawfulBEq α] {l m : List α} {n : Nat} (hl : l.length = n) (hm : m.length = n) (h : l.take n = m.take n) : (l == m) = true := by
  rw [List.take_of_length_le (by omega), List.take_of_length_le (by omega)] at h
  simp [h]
theorem part_str (w : World) (cs : Array Value) (o : Nat) (v : Value) (h : cs[o]? = some v) : (part 9 cs o).run Try.prog w = .ok v w := by
  simp [part, isAgg, run_underlying Try.underlying9, h]
def atE (x y : Txt × Txt) : Bool := decide (x.1 = y.1 ∧ x.2 = y.2)
theorem atE_iff {x y : Txt × Txt} : atE x y = true ↔ x = y := by
  obtain ⟨a, b⟩ := x
  obtain ⟨a', b'⟩ := y
  simp [atE]
theorem run_neq_attr (w : World) (a b a' b' : Txt) :
    (binOp .neq 48 (.agg #[.string ⟨a.toArray⟩, .string ⟨b.toArray⟩]) (.agg #[.string ⟨a'.toArray⟩, .string ⟨b'.toArray⟩])).run Try.prog w = .ok (.bool (!(atE (a, b) (a', b')))) w := by
  rw [run_neq_struct, run_equalIn_agg w 9999 48 _ _ (by kernel_rfl) (by kernel_rfl)]
  simp only [Program.fieldsOf, Try.underlying48, Op.eqFields]
  have e0 : "Key" ≠ "_" := by decide
  have e1 : "Value" ≠ "_" := by decide
  rw [if_pos e0]
  simp only [Sem.run_bind]
  rw [part_str w #[Value.string { data := a.toArray }, Value.string { data := b.toArray }] 0 (.string ⟨a.toArray⟩) rfl]
  simp only [Result.andThen_ok]
  rw [part_str w #[Value.string { data := a'.toArray }, Value.string { data := b'.toArray }] 0 (.string ⟨a'.toArray⟩) rfl]
  simp only [Result.andThen_ok]
  rw [show (Op.equalIn 9999 9 (.string ⟨a.toArray⟩) (.string ⟨a'.toArray⟩)).run Try.prog w = _ from run_equalIn_string w 9998 9 _ _ Try.underlying9]
  simp only [Result.andThen_ok, ByteArray.toList_eq]
  by_cases ha : a = a'
  · subst ha
    simp only [BEq.rfl, Bool.not_true, Bool.false_eq_true, if_false]
    rw [if_pos e1]
    simp only [Sem.run_bind]
    rw [part_str w #[Value.string { data := a.toArray }, Value.string { data := b.toArray }] 1 (.string ⟨b.toArray⟩) rfl]
    simp only [Result.andThen_ok]
    rw [part_str w #[Value.string { data := a.toArray }, Value.string { data := b'.toArray }] 1 (.string ⟨b'.toArray⟩) rfl]
    simp only [Result.andThen_ok]
    rw [show (Op.equalIn 9999 9 (.string ⟨b.toArray⟩) (.string ⟨b'.toArray⟩)).run Try.prog w = _ from run_equalIn_string w 9998 9 _ _ Try.underlying9]
    simp only [Result.andThen_ok, ByteArray.toList_eq]
    by_cases hc : b = b'
    · subst hc; simp [atE]
    · simp [atE, hc]
  · simp [atE, ha]
theorem drewN_two (w : World) (a b : Nat) : (w.drewN a).drewN b = w.drewN (a + b) := World.drewN_drewN ..
set_option maxHeartbeats 2000000 in
theorem atsEq_any (w : World) (T T2 : Nat → Prop) (A A2 : Option Addr) (n c n2 c2 : Nat) (xs ys : List (Txt × Txt)) (hx : AtsIn T w A n xs) (hy : AtsIn T2 w A2 n2 ys) (hT : ∀ k, T k → k < w.heap.size) (hT2 : ∀ k, T2 k → k < w.heap.size) (hn : n ≤ maxLen) (hn2 : n2 ≤ maxLen) :
    Calls Try.prog 49 #[.slice A n c, .slice A2 n2 c2] w fun e w' => e = .returned (.bool (xs == ys)) ∧ ∃ d, w' = w.drewN d := by
  have hx' := Lib.hid hx
  have hy' := Lib.hid hy
  have hlx := Lib.hid hx.1
  have hly := Lib.hid hy.1
  clear hx hy
  have hn' : (n : Int) ≤ 9223372036854775807 := by unfold maxLen at hn; omega
  have hn2' : (n2 : Int) ≤ 9223372036854775807 := by unfold maxLen at hn2; omega
  have hneq := run_neq_attr
  by_cases hl : n = n2
  · subst hl
    go_enter Try.func49, Try.ntmps49
    go_wp2_with fail
    go_loopw [13] (fun k wr => ∃ q : Nat, q ≤ n ∧ k = .int .i64 (q : Int) ∧ xs.take q = ys.take q ∧ ∃ d, wr = w.drewN d) (fun k _ => n - (intOf k).toNat)
    case atStart => exact ⟨0, Nat.zero_le _, rfl, rfl, 0, rfl⟩
    case round =>
      obtain ⟨q, hq, rfl, hs, d, rfl⟩ := hrel
      by_cases h1 : q < n
      · have h1I : (q : Int) < (n : Int) := by omega
        obtain ⟨ad, x, rfl, hxq, hlt, x1, x2, x3, x4⟩ := hx'.out.at_ h1
        obtain ⟨ad2, y, rfl, hyq, hlt2, y1, y2, y3, y4⟩ := hy'.out.at_ h1
        obtain ⟨k1, v1⟩ := x
        obtain ⟨k2, v2⟩ := y
        simp only at *
        have hs' := Lib.hid hs
        clear hs
        cases he : atE (k1, v1) (k2, v2) with
        | true =>
          have e := atE_iff.1 he
          have hs2 := Lib.hid (show xs.take (q + 1) = ys.take (q + 1) by rw [List.take_add_one, List.take_add_one, hs'.out, hxq, hyq, e])
          clear hxq hyq e
          go_wp2_with fail
          go_quiet (fail)
          go_wp2_with fail
          go_roundw
          case rel => exact ⟨q + 1, by omega, by go_num, hs2.out, _, by first | rfl | exact drewN_two _ _ _⟩
          case measure => simp [intOf]; omega
        | false =>
          have hv := Lib.hid (ne_at hxq hyq (fun e => by rw [atE_iff.2 e] at he; cases he))
          clear hxq hyq
          go_wp2_with fail
          go_quiet (fail)
          go_wp2_with fail
          go_ret
          exact ⟨by rw [hv.out]; rfl, _, by first | rfl | exact drewN_two _ _ _⟩
      · have hqn : q = n := by omega
        have h1I : ¬ (q : Int) < (n : Int) := by omega
        have hv := Lib.hid (show (xs == ys) = true from eq_full hlx.out hly.out (by rw [hqn] at hs; exact hs))
        clear hs hqn h1
        go_wp2_with fail
        go_ret
        exact ⟨by rw [hv.out]; rfl, _, rfl⟩
  · have hv := Lib.hid (show (xs == ys) = false from ne_len (by rw [hlx.out, hly.out]; exact hl))
    have hlI : ((n : Int) == (n2 : Int)) = false := by simp; omega
    have hlJ : ((n : Int) != (n2 : Int)) = true := by simp; omega
    clear hl
    go_enter Try.func49, Try.ntmps49
    go_wp2_with fail
    go_ret
    exact ⟨by rw [hv.out]; rfl, 0, rfl⟩
set_option maxHeartbeats 2000000 in
theorem ratsEq_any (w : World) (T T2 : Nat → Prop) (A A2 : Option Addr) (n c n2 c2 : Nat) (xs ys : List (Txt × Txt)) (hx : AtsIn T w A n xs) (hy : AtsIn T2 w A2 n2 ys) (hT : ∀ k, T k → k < w.heap.size) (hT2 : ∀ k, T2 k → k < w.heap.size) (hn : n ≤ maxLen) (hn2 : n2 ≤ maxLen) :
    Calls Try.prog 41 #[.slice A n c, .slice A2 n2 c2] w fun e w' => e = .returned (.bool (xs == ys)) ∧ ∃ d, w' = w.drewN d := by
  have hx' := Lib.hid hx
  have hy' := Lib.hid hy
  have hlx := Lib.hid hx.1
  have hly := Lib.hid hy.1
  clear hx hy
  have hn' : (n : Int) ≤ 9223372036854775807 := by unfold maxLen at hn; omega
  have hn2' : (n2 : Int) ≤ 9223372036854775807 := by unfold maxLen at hn2; omega
  have hneq := run_neq_attr
  by_cases hl : n = n2
  · subst hl
    go_enter Try.func41, Try.ntmps41
    go_wp2_with fail
    go_loopw [5] (fun k wr => ∃ q : Nat, q ≤ n ∧ k = .int .i64 (q : Int) ∧ xs.take q = ys.take q ∧ ∃ d, wr = w.drewN d) (fun k _ => n - (intOf k).toNat)
    case atStart => exact ⟨0, Nat.zero_le _, rfl, rfl, 0, rfl⟩
    case round =>
      obtain ⟨q, hq, rfl, hs, d, rfl⟩ := hrel
      by_cases h1 : q < n
      · have h1I : (q : Int) < (n : Int) := by omega
        obtain ⟨ad, x, rfl, hxq, hlt, x1, x2, x3, x4⟩ := hx'.out.at_ h1
        obtain ⟨ad2, y, rfl, hyq, hlt2, y1, y2, y3, y4⟩ := hy'.out.at_ h1
        obtain ⟨k1, v1⟩ := x
        obtain ⟨k2, v2⟩ := y
        simp only at *
        have hs' := Lib.hid hs
        clear hs
        cases he : atE (k1, v1) (k2, v2) with
        | true =>
          have e := atE_iff.1 he
          have hs2 := Lib.hid (show xs.take (q + 1) = ys.take (q + 1) by rw [List.take_add_one, List.take_add_one, hs'.out, hxq, hyq, e])
          clear hxq hyq e
          go_wp2_with fail
          go_quiet (fail)
          go_wp2_with fail
          go_roundw
          case rel => exact ⟨q + 1, by omega, by go_num, hs2.out, _, by first | rfl | exact drewN_two _ _ _⟩
          case measure => simp [intOf]; omega
        | false =>
          have hv := Lib.hid (ne_at hxq hyq (fun e => by rw [atE_iff.2 e] at he; cases he))
          clear hxq hyq
          go_wp2_with fail
          go_quiet (fail)
          go_wp2_with fail
          go_ret
          exact ⟨by rw [hv.out]; rfl, _, by first | rfl | exact drewN_two _ _ _⟩
      · have hqn : q = n := by omega
        have h1I : ¬ (q : Int) < (n : Int) := by omega
        have hv := Lib.hid (show (xs == ys) = true from eq_full hlx.out hly.out (by rw [hqn] at hs; exact hs))
        clear hs hqn h1
        go_wp2_with fail
        go_ret
        exact ⟨by rw [hv.out]; rfl, _, rfl⟩
  · have hv := Lib.hid (show (xs == ys) = false from ne_len (by rw [hlx.out, hly.out]; exact hl))
    have hlI : ((n : Int) == (n2 : Int)) = false := by simp; omega
    have hlJ : ((n : Int) != (n2 : Int)) = true := by simp; omega
    clear hl
    go_enter Try.func41, Try.ntmps41
    go_wp2_with fail
    go_ret
    exact ⟨by rw [hv.out]; rfl, 0, rfl⟩
end Go.Proofs.Ytacmofhlbebonaa
