/- The law's rows of calls, as they came in; is a row large? -/
import Derived.Test.YtffenadibnehfaaBaseOwn
namespace Go.Proofs.Ytffenadibnehfaa
open Go.RowKit

/-- a call, as the law has it -/
structure CX where
  kind : Nat
  i : Int
  b : List UInt8
/-- what stands at E is the call x -/
def CallAt (w : World) (E : Addr) (x : CX) : Prop :=
  x.kind < 256 ∧ -9223372036854775808 ≤ x.i ∧ x.i ≤ 9223372036854775807 ∧ w.cell? E = some (.int .u8 (x.kind : Int)) ∧ w.cell? ⟨E.block, E.off + 1, none⟩ = some (.int .i64 x.i) ∧
    ∃ (A : Option Addr) (n c : Nat), w.cell? ⟨E.block, E.off + 2, none⟩ = some (.slice A n c) ∧ Bts w A n x.b ∧ n ≤ c ∧ c ≤ maxLen ∧ (A = none → c = 0)
/-- a slice of n calls reads as xs -/
def CallsIn (w : World) (A : Option Addr) (n : Nat) (xs : List CX) : Prop := xs.length = n ∧ ∀ q x, xs[q]? = some x → ∃ ad, A = some ad ∧ ad.block < w.heap.size ∧ CallAt w (ad.add (q * 3)) x
theorem CallAt.below {w w' : World} {E : Addr} {x : CX} (h : CallAt w E x) (hl : E.block < w.heap.size) (hb : Below w.heap.size w w') : CallAt w' E x := by
  obtain ⟨h1, h2, h3, h4, h5, A, n, c, h6, h7, h8⟩ := h
  exact ⟨h1, h2, h3, (hb.cell (p := E) hl).trans h4, (hb.cell (p := ⟨E.block, E.off + 1, none⟩) hl).trans h5, A, n, c, (hb.cell (p := ⟨E.block, E.off + 2, none⟩) hl).trans h6, h7.below hb, h8⟩
theorem CallsIn.below {w w' : World} {A : Option Addr} {n : Nat} {xs : List CX} (h : CallsIn w A n xs) (hb : Below w.heap.size w w') : CallsIn w' A n xs := by
  refine ⟨h.1, fun q x hx => ?_⟩
  obtain ⟨ad, e, hl, hc⟩ := h.2 q x hx
  exact ⟨ad, e, Nat.lt_of_lt_of_le hl hb.size, hc.below (by rw [block_add]; exact hl) hb⟩

/-- is one of them past what is left? -/
def sumV : List CX → Nat
  | [] => 0
  | x :: r => x.b.length + sumV r
def largeV (xs : List CX) : Bool := decide (60 < xs.length) || decide (5000 < sumV xs)
theorem sumV_take : ∀ (xs : List CX) (q : Nat) (x : CX), xs[q]? = some x → sumV (xs.take (q + 1)) = sumV (xs.take q) + x.b.length
  | [], q, x, h => by simp at h
  | y :: r, 0, x, h => by
    simp at h
    subst h
    simp [sumV]
  | y :: r, q + 1, x, h => by
    have ih := sumV_take r q x (by simpa using h)
    rw [List.take_succ_cons, List.take_succ_cons, sumV, sumV, ih]
    omega
theorem sumV_le : ∀ (xs : List CX) (q : Nat), sumV (xs.take q) ≤ sumV xs
  | [], q => by simp
  | y :: r, 0 => by simp [sumV]
  | y :: r, q + 1 => by
    have ih := sumV_le r q
    rw [List.take_succ_cons, sumV, sumV]
    omega

set_option maxHeartbeats 800000 in
theorem large_any (w : World) (A : Option Addr) (n c : Nat) (xs : List CX) (hx : CallsIn w A n xs) (hn : n ≤ maxLen) :
    Calls Try.prog 6 #[.slice A n c] w fun e w' => e = .returned (.bool (largeV xs)) ∧ w = w' := by
  have hx' := Lib.hid hx
  have hlen := hx.1
  clear hx
  have hn' : (n : Int) ≤ 9223372036854775807 := by unfold maxLen at hn; omega
  by_cases h60 : 60 < n
  · have hv : largeV xs = true := by unfold largeV; rw [hlen]; simp [h60]
    have hv' := Lib.hid hv
    have hI : (60 : Int) < (n : Int) := by omega
    clear hv h60 hlen
    go_enter Try.func6, Try.ntmps6
    go_wp2_with fail
    go_ret
    exact ⟨by rw [hv'.out]; rfl, rfl⟩
  · have hI : ¬ (60 : Int) < (n : Int) := by omega
    go_enter Try.func6, Try.ntmps6
    go_wp2_with fail
    go_loop [3, 4] (fun s k => ∃ q : Nat, q ≤ n ∧ k = .int .i64 (q : Int) ∧ s = .int .i64 (sumV (xs.take q) : Int) ∧ sumV (xs.take q) ≤ 5000) (fun s k => n - (intOf k).toNat)
    case atStart => exact ⟨0, Nat.zero_le _, rfl, by simp [sumV], by simp [sumV]⟩
    case round =>
      obtain ⟨q, hq, rfl, rfl, hs⟩ := hrel
      by_cases h1 : q < n
      · have hlt : q < xs.length := by omega
        have hxq : xs[q]? = some xs[q] := List.getElem?_eq_getElem hlt
        obtain ⟨ad, rfl, _, _, _, _, _, _, A3, n3, c3, hc3, hB3, hn3, hc3m, _⟩ := hx'.out.2 q _ hxq
        have hst := sumV_take xs q _ hxq
        have hle := sumV_le xs (q + 1)
        generalize xs[q] = x at *
        generalize sumV (xs.take q) = s at *
        have hbl := hB3.1
        have h1I : (q : Int) < (n : Int) := by omega
        have hmm : n3 ≤ maxLen := Nat.le_trans hn3 hc3m
        unfold maxLen at hmm
        clear hn hn3 hc3m hxq hlt
        by_cases h2 : (5000 : Int) - (s : Int) < (n3 : Int)
        · have hv : largeV xs = true := by
            unfold largeV
            have : 5000 < sumV xs := by omega
            simp [this]
          have hv' := Lib.hid hv
          clear hv hst hle hlen h60 hmm hbl
          go_wp2_with fail
          go_ret
          exact ⟨by rw [hv'.out]; rfl, rfl⟩
        · have hs2 : s + n3 ≤ 5000 := by omega
          have hst' := Lib.hid hst
          clear hst hle hlen h60 hmm
          go_wp2_with fail
          go_round
          case rel => exact ⟨q + 1, by omega, by go_num, by rw [hst'.out, hbl]; go_num, by rw [hst'.out, hbl]; exact hs2⟩
          case measure => simp [intOf]; omega
      · have hqn : q = n := by omega
        have hv : largeV xs = false := by
          unfold largeV
          rw [hqn, ← hlen, List.take_length] at hs
          have h5 : ¬ 5000 < sumV xs := by omega
          have h6 : ¬ 60 < xs.length := by omega
          simp [h5, h6]
        have hv' := Lib.hid hv
        have h1I : ¬ (q : Int) < (n : Int) := by omega
        clear hv hlen h60 hs hqn h1
        go_wp2_with fail
        go_ret
        exact ⟨by rw [hv'.out]; rfl, rfl⟩
end Go.Proofs.Ytffenadibnehfaa
