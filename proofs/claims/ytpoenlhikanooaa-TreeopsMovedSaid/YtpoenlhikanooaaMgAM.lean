/- MgAM: TreFr LtxFr -/
import Derived.Test.YtpoenlhikanooaaMgAC
import Derived.Test.YtpoenlhikanooaaRows
import Derived.Deep.Slices
import Derived.Deep.Fields
import Derived.ChangeSame
import Derived.ShutString
set_option linter.all false
/- What the frame tells of a tree that came in. -/
namespace Go.Proofs.Ytpoenlhikanooaa
set_option linter.unusedVariables false
open Go.RowKit Go.ChangeShapes Go.WideShapes Go.Deep
set_option maxRecDepth 20000

theorem node_cells : Try.prog.cellsOf 42 = 6 := by kernel_rfl
theorem attr_cells : Try.prog.cellsOf 88 = 2 := by kernel_rfl
theorem one_cell {t : TypeId} (h : Try.prog.cellsOf t = 1 := by kernel_rfl) : Try.prog.cellsOf t = 1 := h
theorem node_fields : ∃ f0 f1 f2 f3 f4 f5 : Field, Try.prog.underlying 42 = some (.struct #[f0, f1, f2, f3, f4, f5]) ∧ (f0.type = 23 ∧ f0.offset = 0) ∧ (f1.type = 4 ∧ f1.offset = 1) ∧ (f2.type = 9 ∧ f2.offset = 2) ∧
    (f3.type = 39 ∧ f3.offset = 3) ∧ (f4.type = 9 ∧ f4.offset = 4) ∧ f5.type = 40 ∧ f5.offset = 5 :=
  ⟨_, _, _, _, _, _, Try.underlying42, ⟨rfl, rfl⟩, ⟨rfl, rfl⟩, ⟨rfl, rfl⟩, ⟨rfl, rfl⟩, ⟨rfl, rfl⟩, rfl, rfl⟩
theorem attr_fields : ∃ f0 f1 : Field, Try.prog.underlying 88 = some (.struct #[f0, f1]) ∧ (f0.type = 9 ∧ f0.offset = 0) ∧ f1.type = 9 ∧ f1.offset = 1 :=
  ⟨_, _, Try.underlying88, ⟨rfl, rfl⟩, rfl, rfl⟩
/-- a list of what there is at each place -/
theorem list_of {α : Type} {R : Nat → α → Prop} : ∀ n : Nat, (∀ i, i < n → ∃ y, R i y) → ∃ xs : List α, xs.length = n ∧ ∀ q y, xs[q]? = some y → R q y
  | 0, _ => ⟨[], rfl, fun q y h => by simp at h⟩
  | n + 1, h => by
    obtain ⟨xs, hl, hx⟩ := list_of n (fun i hi => h i (by omega))
    obtain ⟨y, hy⟩ := h n (by omega)
    refine ⟨xs ++ [y], by simp [hl], fun q z hz => ?_⟩
    rw [List.getElem?_append] at hz
    split at hz
    · exact hx q z hz
    · have hq : q = n := by
        rcases Nat.lt_or_ge n q with hlt | hle
        · rw [List.getElem?_eq_none (by simp; omega)] at hz
          cases hz
        · omega
      subst hq
      rw [hl, Nat.sub_self] at hz
      simp at hz
      subst hz
      exact hy
section
variable {H : Type} {enc : TypeId × Value → H} {W : World} {b0 : Nat}
theorem add_block_lt {E : Addr} {i : Nat} {v : Value} (h : W.cell? (E.add i) = some v) : E.block < W.heap.size := by
  have hb := World.block_lt_of_cell? W _ h
  rwa [block_add] at hb
theorem attr_in {fuel : Nat} {E : Addr} {cs : List Value} {x : DataW H × List MemPlace} (hc : W.cells? b0 E 2 = some cs) (h : DataW.trod enc Try.prog W b0 (fun _ => true) true fuel 88 cs = some x) :
    ∃ y : Txt × Txt, y.1.length ≤ maxLen ∧ y.2.length ≤ maxLen ∧ W.cell? (E.add 0) = some (.string ⟨y.1.toArray⟩) ∧ W.cell? (E.add 1) = some (.string ⟨y.2.toArray⟩) := by
  obtain ⟨f0, f1, hu, ⟨t0, o0⟩, t1, o1⟩ := attr_fields
  obtain ⟨ys, n, -, -, hlen, hyl, hf⟩ := DataW.trod_struct hu h
  obtain ⟨-, hcl, hat⟩ := World.cells?_some hc
  obtain ⟨v0, v1, rfl⟩ : ∃ v0 v1, cs = [v0, v1] := by
    match cs, hcl with
    | [a, b], _ => exact ⟨a, b, rfl⟩
  have g0 := hf 0 f0 rfl
  have g1 := hf 1 f1 rfl
  rw [t0, o0, one_cell] at g0
  rw [t1, o1, one_cell] at g1
  have hys : ∀ i, i < 2 → ∃ y, ys[i]? = some y := fun i hi => ⟨_, List.getElem?_eq_getElem (by rw [hyl]; exact hi)⟩
  obtain ⟨y0, e0⟩ := hys 0 (by omega)
  obtain ⟨y1, e1⟩ := hys 1 (by omega)
  obtain ⟨s0, hs0, -, w0⟩ := DataW.trod_string Try.underlying9 (g0.trans e0)
  obtain ⟨s1, hs1, -, w1⟩ := DataW.trod_string Try.underlying9 (g1.trans e1)
  have a0 := hat 0 (by omega)
  have a1 := hat 1 (by omega)
  simp at hs0 hs1 a0 a1
  subst hs0 hs1
  exact ⟨(s0.data.toList, s1.data.toList), by rw [Array.length_toList]; exact w0, by rw [Array.length_toList]; exact w1, a0, a1⟩
theorem attrs_in {fuel : Nat} {v : Value} {x : DataW H × List MemPlace} (h : DataW.trod enc Try.prog W b0 (fun _ => true) true fuel 39 [v] = some x) :
    ∃ (A : Option Addr) (n c : Nat) (l : List (Txt × Txt)), v = .slice A n c ∧ AtsIn (Old W) W A n l ∧ n ≤ c ∧ c ≤ maxLen ∧ (A = none → c = 0) := by
  rcases DataW.trod_slice Try.underlying39 h with ⟨hcs, -⟩ | ⟨a, len, cap, elems, rest, n, -, hcs, -, -, hl, hm, hel, hi, -⟩
  · simp at hcs
    exact ⟨none, 0, 0, [], hcs, ⟨rfl, fun q x h => by simp at h⟩, Nat.le_refl _, Nat.zero_le _, fun _ => rfl⟩
  · simp at hcs
    rw [attr_cells] at hi
    obtain ⟨xs, hxl, hx⟩ := list_of (R := fun i (y : Txt × Txt) => y.1.length ≤ maxLen ∧ y.2.length ≤ maxLen ∧ W.cell? ((a.add (i * 2)).add 0) = some (.string ⟨y.1.toArray⟩) ∧ W.cell? ((a.add (i * 2)).add 1) = some (.string ⟨y.2.toArray⟩)) len fun i hil => by
      have key := hi i hil
      rw [List.getElem?_eq_getElem (by omega)] at key
      obtain ⟨cs', h1, h2⟩ := Option.bind_eq_some_iff.1 key
      exact attr_in h1 h2
    refine ⟨some a, len, cap, xs, hcs, ⟨hxl, fun q y hq => ?_⟩, hl, hm, fun e => by cases e⟩
    obtain ⟨l1, l2, c1, c2⟩ := hx q y hq
    refine ⟨a, rfl, ?_, l1, l2, ?_, ?_⟩
    · have hb := add_block_lt c1
      rwa [block_add] at hb
    · unfold Addr.add at c1 ⊢
      simpa using c1
    · have : (a.add (q * 2)).add 1 = ⟨(a.add (q * 2)).block, (a.add (q * 2)).off + 1, none⟩ := by unfold Addr.add; simp
      rw [← this]
      exact c2
/-- a tree -/
theorem node_in : ∀ (fuel : Nat) (cs : List Value) (x : DataW H × List MemPlace), DataW.trod enc Try.prog W b0 (fun _ => true) true fuel 42 cs = some x →
    ∃ (t : Nd) (aA : Option Addr) (an ac : Nat) (kA : Option Addr) (kn kc : Nat), cs = (val6 t aA an ac kA kn kc).toList ∧ NodeV (Old W) W aA an ac kA kn kc t := by
  intro fuel
  induction fuel using Nat.strongRecOn with
  | _ fuel ih =>
  intro cs x h
  obtain ⟨f0, f1, f2, f3, f4, f5, hu, ⟨t0, o0⟩, ⟨t1, o1⟩, ⟨t2, o2⟩, ⟨t3, o3⟩, ⟨t4, o4⟩, t5, o5⟩ := node_fields
  obtain ⟨ys, n, hn, -, hlen, hyl, hf⟩ := DataW.trod_struct hu h
  rw [node_cells] at hlen
  obtain ⟨v0, v1, v2, v3, v4, v5, rfl⟩ : ∃ v0 v1 v2 v3 v4 v5, cs = [v0, v1, v2, v3, v4, v5] := by
    match cs, hlen with
    | [a, b, c, d, e, f], _ => exact ⟨a, b, c, d, e, f, rfl⟩
  have g0 := hf 0 f0 rfl
  have g1 := hf 1 f1 rfl
  have g2 := hf 2 f2 rfl
  have g3 := hf 3 f3 rfl
  have g4 := hf 4 f4 rfl
  have g5 := hf 5 f5 rfl
  rw [t0, o0, one_cell] at g0
  rw [t1, o1, one_cell] at g1
  rw [t2, o2, one_cell] at g2
  rw [t3, o3, one_cell] at g3
  rw [t4, o4, one_cell] at g4
  rw [t5, o5, one_cell] at g5
  have hys : ∀ i, i < 6 → ∃ y, ys[i]? = some y := fun i hi => ⟨_, List.getElem?_eq_getElem (by rw [hyl]; exact hi)⟩
  obtain ⟨y0, e0⟩ := hys 0 (by omega)
  obtain ⟨y1, e1⟩ := hys 1 (by omega)
  obtain ⟨y2, e2⟩ := hys 2 (by omega)
  obtain ⟨y3, e3⟩ := hys 3 (by omega)
  obtain ⟨y4, e4⟩ := hys 4 (by omega)
  obtain ⟨y5, e5⟩ := hys 5 (by omega)
  obtain ⟨i, hi, -, wi⟩ := DataW.trod_int Try.underlying23 (g0.trans e0)
  obtain ⟨lf, hlf, -⟩ := DataW.trod_bool Try.underlying4 (g1.trans e1)
  obtain ⟨s2, hs2, -, w2⟩ := DataW.trod_string Try.underlying9 (g2.trans e2)
  obtain ⟨s4, hs4, -, w4⟩ := DataW.trod_string Try.underlying9 (g4.trans e4)
  have hib : 0 ≤ i ∧ i ≤ 18446744073709551615 := by simpa [Lit.wf, IntKind.min, IntKind.max, IntKind.signed, IntKind.bits] using wi
  obtain ⟨iN, rfl⟩ : ∃ iN : Nat, i = (iN : Int) := ⟨i.toNat, by omega⟩
  obtain ⟨aA, an, ac, l, ha, hA, hac, ham, hanil⟩ := attrs_in (g3.trans e3)
  have hk := g5.trans e5
  simp at hi hlf hs2 hs4 ha
  subst hi hlf hs2 hs4 ha
  rcases DataW.trod_slice Try.underlying40 hk with ⟨hcs, -⟩ | ⟨a, len, cap, elems, rest, m, hm1, hcs, -, -, hl, hm, hel, hi, -⟩
  · simp at hcs
    subst hcs
    refine ⟨.mk iN lf s2.data.toList l s4.data.toList [], aA, an, ac, none, 0, 0, rfl, NFacts.node ⟨by show iN < _; omega, by show s2.data.toList.length ≤ _; rw [Array.length_toList]; exact w2, by show s4.data.toList.length ≤ _; rw [Array.length_toList]; exact w4, hA, hac, ham, hanil, rfl, Nat.le_refl _, Nat.zero_le _, fun _ => rfl, ?_⟩⟩
    show RowAt (Old W) W none 0 []
    simp [RowAt]
  · simp at hcs
    subst hcs
    rw [node_cells] at hi
    obtain ⟨xs, hxl, hx⟩ := list_of (R := fun i (y : Nd) => NodeAt (Old W) W (a.add (i * 6)) y) len fun i hil => by
      have key := hi i hil
      rw [List.getElem?_eq_getElem (by omega)] at key
      obtain ⟨cs', h1, h2⟩ := Option.bind_eq_some_iff.1 key
      obtain ⟨t, bA, bn, bc, kA, kn, kc, rfl, hv⟩ := ih m (by omega) _ _ h2
      obtain ⟨-, hcl, hat⟩ := World.cells?_some h1
      have a0 := hat 0 (by omega)
      have a1 := hat 1 (by omega)
      have a2 := hat 2 (by omega)
      have a3 := hat 3 (by omega)
      have a4 := hat 4 (by omega)
      have a5 := hat 5 (by omega)
      have hz : (a.add (i * 6)).add 0 = a.add (i * 6) := by unfold Addr.add; simp
      have hs : ∀ j, 0 < j → (a.add (i * 6)).add j = ⟨(a.add (i * 6)).block, (a.add (i * 6)).off + j, none⟩ := fun j hj => by
        generalize a.add (i * 6) = b
        unfold Addr.add
        rw [if_neg (by omega)]
      rw [hz] at a0
      rw [hs _ (by omega)] at a1 a2 a3 a4 a5
      have hlt := World.block_lt_of_cell? W _ a0
      exact ⟨t, hlt, bA, bn, bc, kA, kn, kc, ⟨a0, a1, a2, a3, a4, a5⟩, hv⟩
    refine ⟨.mk iN lf s2.data.toList l s4.data.toList xs, aA, an, ac, some a, len, cap, rfl, NFacts.node ⟨by show iN < _; omega, by show s2.data.toList.length ≤ _; rw [Array.length_toList]; exact w2, by show s4.data.toList.length ≤ _; rw [Array.length_toList]; exact w4, hA, hac, ham, hanil, hxl, hl, hm, (fun e => by cases e), ?_⟩⟩
    exact RowAt.of xs 0 fun q t hq => ⟨a, rfl, by rw [Nat.zero_add]; exact hx q t hq⟩
/-- a row of numbers -/
theorem ints_in {fuel : Nat} {v : Value} {x : DataW H × List MemPlace} (h : DataW.trod enc Try.prog W b0 (fun _ => true) true fuel 22 [v] = some x) :
    ∃ (A : Option Addr) (n c : Nat) (l : List Int), v = .slice A n c ∧ Its W A n l ∧ n ≤ c ∧ c ≤ maxLen ∧ Fit l := by
  rcases DataW.trod_slice Try.underlying22 h with ⟨hcs, -⟩ | ⟨a, len, cap, elems, rest, n, -, hcs, -, -, hl, hm, hel, hi, -⟩
  · simp at hcs
    exact ⟨none, 0, 0, [], hcs, Its.none_ W, Nat.le_refl _, Nat.zero_le _, fun x hx => by cases hx⟩
  · simp at hcs
    rw [one_cell (t := 3)] at hi
    obtain ⟨xs, hxl, hx⟩ := list_of (R := fun i (y : Int) => (-9223372036854775808 ≤ y ∧ y ≤ 9223372036854775807) ∧ W.cell? (a.add i) = some (.int .i64 y)) len fun i hil => by
      have key := hi i hil
      rw [List.getElem?_eq_getElem (by omega)] at key
      obtain ⟨cs', h1, h2⟩ := Option.bind_eq_some_iff.1 key
      obtain ⟨k, rfl, -, wk⟩ := DataW.trod_int Try.underlying3 h2
      obtain ⟨-, hcl, hat⟩ := World.cells?_some h1
      have a0 := hat 0 (by omega)
      have hz : (a.add (i * 1)).add 0 = a.add i := by rw [Nat.mul_one]; unfold Addr.add; simp
      rw [hz] at a0
      exact ⟨k, by simpa [Lit.wf, IntKind.min, IntKind.max, IntKind.signed, IntKind.bits] using wk, a0⟩
    refine ⟨some a, len, cap, xs, hcs, ⟨hxl, fun q y hq => ?_⟩, hl, hm, fun y hy => ?_⟩
    · have hc := (hx q y hq).2
      exact ⟨a, rfl, add_block_lt hc, hc⟩
    · obtain ⟨q, hq⟩ := List.getElem?_of_mem hy
      exact (hx q y hq).1
end
end Go.Proofs.Ytpoenlhikanooaa
/- What the frame tells of a row of pieces that came in. -/
namespace Go.Proofs.Ytpoenlhikanooaa.P5
set_option linter.unusedVariables false
open Go.RowKit Go.ChangeShapes Go.WideShapes Go.Deep
set_option maxRecDepth 20000

section
variable {H : Type} {enc : TypeId × Value → H} {W : World} {b0 : Nat}
end
end Go.Proofs.Ytpoenlhikanooaa.P5
