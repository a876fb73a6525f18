/- A number put into a row, taken out of one, looked for in one: the document's. -/
import Derived.Test.YtiikakfdelkjhaaArnRa
namespace Go.Proofs.Ytiikakfdelkjhaa.Arn
open Go.RowKit
set_option maxRecDepth 20000
set_option linter.unusedVariables false

theorem NewN.nil_ {w0 w : World} (h : Below w0.heap.size w0 w) : NewN w0 w none 0 0 [] := ⟨OwnN.nil_ _, fun ad e => (by cases e), h⟩
theorem NewN.alloc {w0 w : World} {A : Option Addr} {n c : Nat} {l : List Nat} (h : NewN w0 w A n c l) (o : Obj) : NewN w0 (w.alloc o) A n c l :=
  ⟨World.ownsRow.alloc h.own _, h.new, h.bel.alloc h.bel.size o⟩
theorem NewN.drew {w0 w : World} {A : Option Addr} {n c : Nat} {l : List Nat} (h : NewN w0 w A n c l) : NewN w0 w.drew A n c l := ⟨h.own, h.new, h.bel.drew⟩
/-- a row grows by what came in -/
theorem wpList_append_new {w0 w : World} {ops : Array Oper} {rest : List Oper} {o : Oper} {a : Act} {Q : Exit → Act → World → Prop} (hgd : o.guard = none) (s x : Operand)
    (ho : o.op = .call { callee := .builtin .append, args := #[s, x], argTypes := #[33, 33] })
    (A0 : Option Addr) (n0 c0 : Nat) (xs ys : List Nat) (hs : a.eval s = .slice A0 n0 c0) (hN : NewN w0 w A0 n0 c0 xs)
    (A : Option Addr) (m c : Nat) (hx : a.eval x = .slice A m c) (hB : Ns w A m ys) (hnil : A = none → c = 0) (hlen : n0 + m ≤ 1000000)
    (h : ∀ A' c' w', NewN w0 w' A' (n0 + m) c' (xs ++ ys) → wpList Try.prog ops Q rest (a.put o.dst (.slice A' (n0 + m) c')) w') :
    wpList Try.prog ops Q (o :: rest) a w := by
  refine wpList_append_ns hgd s x ho A0 n0 c0 xs ys hs hN.own A m c hx hB hnil hlen ?_
  intro A' c' w' g1 g2 g3 g4 g5 g6
  have hb := hN.bel
  refine h A' c' w' ⟨g1, fun ad e => ?_, ⟨g2.os.trans hb.os, g2.tape.trans hb.tape, g2.output.trans hb.output, Nat.le_trans hb.size g2.size, fun k hk => (g2.block k (Nat.lt_of_lt_of_le hk hb.size) fun ⟨ad, e, e2⟩ => ?_).trans (hb.block k hk)⟩⟩
  · rcases g3 ad e with e2 | e2
    · exact hN.new ad e2
    · rw [e2]; exact hb.size
  · have := hN.new ad e
    omega
theorem ins_eq {l : List Nat} {i x : Nat} : ((l.take i) ++ [x]) ++ l.drop i = ins l i x := by unfold ins; simp
theorem Ns.zero_ (w : World) (A : Option Addr) : Ns w A 0 [] := ⟨rfl, fun k x h => by simp at h⟩
theorem rput_some (w : World) (ad : Addr) (n c : Nat) (l : List Nat) (hl : Ns w (some ad) n l) (hc : n ≤ c) (hm : c ≤ maxLen) (hn : n ≤ 200000) (i x : Nat) (hi : i ≤ n) (hlt : i < c) :
    Calls Try.prog 53 #[.slice (some ad) n c, .int .i64 (i : Int), .int .i64 (x : Int)] w fun e w' => ∃ A' c', e = .returned (.slice A' (n + 1) c') ∧ NewN w w' A' (n + 1) c' (ins l i x) := by
  have h1 := Lib.hid (hl.upto hi)
  have h2 := Lib.hid (hl.from_ hi)
  have h3 := Lib.hid (NewN.nil_ (Below.refl w.heap.size w))
  have hi2 : i ≤ c := by omega
  have hne : ¬ c = i := by omega
  have hne2 : ¬ i = c := by omega
  have hne3 : ¬ c - i = 0 := by omega
  have hiI : (i : Int) ≤ (n : Int) := by omega
  have e0 := Lib.hid (show i + 1 + (n - i) = n + 1 by omega)
  clear hl hlt
  go_enter Try.func53, Try.ntmps53
  go_wp2_with (first
    | (at_builtin; refine wpList_append_new rfl _ _ rfl none 0 0 [] (l.take i) rfl h3.out (some ad) i c rfl h1.out (fun e => by cases e) (by omega) ?_; intro A1 c1 w1 g1; rw [Nat.zero_add] at g1 ⊢; have G1 := Lib.hid g1; clear g1)
    | (at_builtin; refine wpList_append_new rfl _ _ rfl A1 i c1 (l.take i) [x] rfl (G1.out.alloc _) (some ⟨w1.heap.size, 0, none⟩) 1 1 rfl Ns.one (fun e => by cases e) (by omega) ?_; intro A2 c2 w2 g2; have G2 := Lib.hid g2; clear g2)
    | (at_builtin; refine wpList_append_new rfl _ _ rfl A2 (i + 1) c2 (l.take i ++ [x]) (l.drop i) rfl G2.out _ _ _ rfl (h2.out.below G2.out.bel) (fun e => by cases e) (by omega) ?_; intro A3 c3 w3 g3; have G3 := Lib.hid g3; clear g3))
  go_ret
  rw [e0.out]
  refine ⟨A3, c3, rfl, ?_⟩
  have := G3.out
  rw [e0.out, ins_eq] at this
  exact this
theorem rput_end (w : World) (A : Option Addr) (n : Nat) (l : List Nat) (hl : Ns w A n l) (hA : A = none → n = 0) (hm : n ≤ maxLen) (hn : n ≤ 200000) (x : Nat) :
    Calls Try.prog 53 #[.slice A n n, .int .i64 (n : Int), .int .i64 (x : Int)] w fun e w' => ∃ A' c', e = .returned (.slice A' (n + 1) c') ∧ NewN w w' A' (n + 1) c' (ins l n x) := by
  have h1 := Lib.hid hl
  have h3 := Lib.hid (NewN.nil_ (Below.refl w.heap.size w))
  have hv := Lib.hid (show ins l n x = (([] ++ l) ++ [x]) ++ [] by unfold ins; rw [List.take_of_length_le (by rw [hl.1]; exact Nat.le_refl _), List.drop_of_length_le (by rw [hl.1]; exact Nat.le_refl _)]; simp)
  cases A with
  | none =>
    obtain rfl := hA rfl
    obtain rfl : l = [] := List.length_eq_zero_iff.1 hl.1
    clear hl hA
    go_enter Try.func53, Try.ntmps53
    go_wp2_with (first
      | (at_builtin; refine wpList_append_new rfl _ _ rfl none 0 0 [] [] rfl h3.out none 0 0 rfl h1.out (fun e => rfl) (by omega) ?_; intro A1 c1 w1 g1; rw [Nat.zero_add] at g1 ⊢; have G1 := Lib.hid g1; clear g1)
      | (at_builtin; refine wpList_append_new rfl _ _ rfl A1 0 c1 [] [x] rfl (G1.out.alloc _) (some ⟨w1.heap.size, 0, none⟩) 1 1 rfl Ns.one (fun e => by cases e) (by omega) ?_; intro A2 c2 w2 g2; have G2 := Lib.hid g2; clear g2)
      | (at_builtin; refine wpList_append_new rfl _ _ rfl A2 (0 + 1) c2 [x] [] rfl G2.out _ 0 _ rfl (Ns.zero_ _ _) (fun e => rfl) (by omega) ?_; intro A3 c3 w3 g3; have G3 := Lib.hid g3; clear g3))
    go_ret
    exact ⟨A3, c3, rfl, by rw [hv.out]; exact G3.out⟩
  | some ad =>
    clear hl hA
    go_enter Try.func53, Try.ntmps53
    go_wp2_with (first
      | (at_builtin; refine wpList_append_new rfl _ _ rfl none 0 0 [] l rfl h3.out (some ad) n n rfl h1.out (fun e => by cases e) (by omega) ?_; intro A1 c1 w1 g1; rw [Nat.zero_add] at g1 ⊢; have G1 := Lib.hid g1; clear g1)
      | (at_builtin; refine wpList_append_new rfl _ _ rfl A1 n c1 ([] ++ l) [x] rfl (G1.out.alloc _) (some ⟨w1.heap.size, 0, none⟩) 1 1 rfl Ns.one (fun e => by cases e) (by omega) ?_; intro A2 c2 w2 g2; have G2 := Lib.hid g2; clear g2)
      | (at_builtin; refine wpList_append_new rfl _ _ rfl A2 (n + 1) c2 (([] ++ l) ++ [x]) [] rfl G2.out _ 0 _ rfl (Ns.zero_ _ _) (fun e => by cases e) (by omega) ?_; intro A3 c3 w3 g3; have G3 := Lib.hid g3; clear g3))
    go_ret
    exact ⟨A3, c3, rfl, by rw [hv.out]; exact G3.out⟩
theorem rput_any (w : World) (A : Option Addr) (n c : Nat) (l : List Nat) (hl : Ns w A n l) (hc : n ≤ c) (hm : c ≤ maxLen) (hA : A = none → c = 0) (hn : n ≤ 200000) (i x : Nat) (hi : i ≤ n) :
    Calls Try.prog 53 #[.slice A n c, .int .i64 (i : Int), .int .i64 (x : Int)] w fun e w' => ∃ A' c', e = .returned (.slice A' (n + 1) c') ∧ NewN w w' A' (n + 1) c' (ins l i x) := by
  by_cases hlt : i < c
  · cases A with
    | none => have := hA rfl; omega
    | some ad => exact rput_some w ad n c l hl hc hm hn i x hi hlt
  · have h1 : c = n := by omega
    have h2 : i = n := by omega
    subst h1 h2
    exact rput_end w A _ l hl hA hm hn x
theorem rdrop_any (w : World) (A : Option Addr) (n c : Nat) (l : List Nat) (hl : Ns w A n l) (hc : n ≤ c) (hm : c ≤ maxLen) (hA : A = none → c = 0) (hn : n ≤ 200000) (i : Nat) (hi : i < n) :
    Calls Try.prog 54 #[.slice A n c, .int .i64 (i : Int)] w fun e w' => ∃ A' c', e = .returned (.slice A' (n - 1) c') ∧ NewN w w' A' (n - 1) c' (cutL l i) := by
  cases A with
  | none => have := hA rfl; omega
  | some ad =>
    have h1 := Lib.hid (hl.upto (q := i) (by omega))
    have h3 := Lib.hid (NewN.nil_ (Below.refl w.heap.size w))
    have e0 := Lib.hid (show i + (n - (i + 1)) = n - 1 by omega)
    have hll := hl.1
    clear hA
    by_cases hlt : i + 1 < c
    · have h2 := Lib.hid (hl.from_ (q := i + 1) (by omega))
      have hi2 : i ≤ c := by omega
      have hne : ¬ c = i + 1 := by omega
      have hne2 : ¬ i + 1 = c := by omega
      have hne3 : ¬ c - (i + 1) = 0 := by omega
      have hiI : (i : Int) + 1 ≤ (n : Int) := by omega
      clear hl hlt hll
      go_enter Try.func54, Try.ntmps54
      go_wp2_with (first
        | (at_builtin; refine wpList_append_new rfl _ _ rfl none 0 0 [] (l.take i) rfl h3.out (some ad) i c rfl h1.out (fun e => by cases e) (by omega) ?_; intro A1 c1 w1 g1; rw [Nat.zero_add] at g1 ⊢; have G1 := Lib.hid g1; clear g1)
        | (at_builtin; refine wpList_append_new rfl _ _ rfl A1 i c1 ([] ++ l.take i) (l.drop (i + 1)) rfl G1.out _ _ _ rfl (h2.out.below G1.out.bel) (fun e => by cases e) (by omega) ?_; intro A3 c3 w3 g3; have G3 := Lib.hid g3; clear g3))
      go_ret
      rw [e0.out]
      refine ⟨A3, c3, rfl, ?_⟩
      have := G3.out
      rw [e0.out, List.nil_append] at this
      exact this
    · have hc1 : c = i + 1 := by omega
      have hn1 : n = i + 1 := by omega
      subst hc1 hn1
      have hv := Lib.hid (show cutL l i = ([] ++ l.take i) ++ [] by unfold cutL; rw [List.drop_of_length_le (by omega)]; simp)
      clear hl hlt e0 hll hc hi
      go_enter Try.func54, Try.ntmps54
      go_wp2_with (first
        | (at_builtin; refine wpList_append_new rfl _ _ rfl none 0 0 [] (l.take i) rfl h3.out (some ad) i (i + 1) rfl h1.out (fun e => by cases e) (by omega) ?_; intro A1 c1 w1 g1; rw [Nat.zero_add] at g1 ⊢; have G1 := Lib.hid g1; clear g1)
        | (at_builtin; refine wpList_append_new rfl _ _ rfl A1 i c1 ([] ++ l.take i) [] rfl G1.out _ 0 _ rfl (Ns.zero_ _ _) (fun e => by cases e) (by omega) ?_; intro A3 c3 w3 g3; have G3 := Lib.hid g3; clear g3))
      go_ret
      exact ⟨A3, c3, rfl, by rw [hv.out]; exact G3.out⟩
/-! ### where a number stands -/
theorem place_in (w : World) (A : Option Addr) (n c : Nat) (l : List Nat) (x k : Nat) (hl : Ns w A n l) (hn : n ≤ 200000) (hk : l[k]? = some x) (hf : ∀ j, j < k → l[j]? ≠ some x) :
    Calls Try.prog 52 #[.slice A n c, .int .i64 (x : Int)] w fun e w' => e = .returned (.int .i64 (k : Int)) ∧ w' = w := by
  have hl' := Lib.hid hl
  have hf' := Lib.hid hf
  have hk' := Lib.hid hk
  have hkn : k < n := by have := (List.getElem?_eq_some_iff.1 hk).1; rw [hl.1] at this; exact this
  clear hl hf hk
  go_enter Try.func52, Try.ntmps52
  go_wp2_with fail
  go_loopw [5] (fun i wr => ∃ q : Nat, q ≤ k ∧ i = .int .i64 (q : Int) ∧ wr = w) (fun i _ => n - (intOf i).toNat)
  case atStart => exact ⟨0, Nat.zero_le _, rfl, rfl⟩
  case round =>
    obtain ⟨q, hq, rfl, rfl⟩ := hrel
    obtain ⟨y, hy⟩ : ∃ y, l[q]? = some y := ⟨_, List.getElem?_eq_getElem (by have := hl'.out.1; omega)⟩
    obtain ⟨ad, hA, -, hc⟩ := hl'.out.2 q y hy
    have hy' := Lib.hid hy
    clear hy
    have hqI : (q : Int) < (n : Int) := by omega
    subst hA
    unfold natV at hc
    by_cases hqk : q < k
    · have hxy : ((y : Int) == (x : Int)) = false := by
        have h1 := hf'.out q hqk
        have : y ≠ x := fun e => h1 (by rw [← e]; exact hy'.out)
        simp; omega
      go_wp2_with fail
      go_roundw
      case rel => exact ⟨q + 1, by omega, by go_num, trivial⟩
      case measure => simp [intOf]; omega
    · have hqk2' := Lib.hid (show q = k by omega)
      have hqk2 := hqk2'.out
      have hxy : ((y : Int) == (x : Int)) = true := by
        have h1 := hk'.out
        rw [← hqk2, hy'.out] at h1
        injection h1 with h1
        rw [h1]
        simp
      clear hqk2
      go_wp2_with fail
      go_ret
      exact ⟨by rw [hqk2'.out]; rfl, rfl⟩
theorem place_none (w : World) (A : Option Addr) (n c : Nat) (l : List Nat) (x : Nat) (hl : Ns w A n l) (hn : n ≤ 200000) (hf : x ∉ l) :
    Calls Try.prog 52 #[.slice A n c, .int .i64 (x : Int)] w fun e w' => e = .returned (.int .i64 (-1)) ∧ w' = w := by
  have hl' := Lib.hid hl
  have hf' := Lib.hid hf
  clear hl hf
  go_enter Try.func52, Try.ntmps52
  go_wp2_with fail
  go_loopw [5] (fun i wr => ∃ q : Nat, q ≤ n ∧ i = .int .i64 (q : Int) ∧ wr = w) (fun i _ => n - (intOf i).toNat)
  case atStart => exact ⟨0, Nat.zero_le _, rfl, rfl⟩
  case round =>
    obtain ⟨q, hq, rfl, rfl⟩ := hrel
    by_cases hqn : q < n
    · obtain ⟨y, hy⟩ : ∃ y, l[q]? = some y := ⟨_, List.getElem?_eq_getElem (by have := hl'.out.1; omega)⟩
      obtain ⟨ad, hA, -, hc⟩ := hl'.out.2 q y hy
      have hmem := List.mem_of_getElem? hy
      have hxy : ((y : Int) == (x : Int)) = false := by
        have : y ≠ x := fun e => hf'.out (by rw [← e]; exact hmem)
        simp; omega
      clear hy hmem
      have hqI : (q : Int) < (n : Int) := by omega
      subst hA
      unfold natV at hc
      go_wp2_with fail
      go_roundw
      case rel => exact ⟨q + 1, by omega, by go_num, trivial⟩
      case measure => simp [intOf]; omega
    · have hqI : ¬ (q : Int) < (n : Int) := by omega
      go_wp2_with fail
      go_ret
      exact ⟨rfl, rfl⟩
end Go.Proofs.Ytiikakfdelkjhaa.Arn
