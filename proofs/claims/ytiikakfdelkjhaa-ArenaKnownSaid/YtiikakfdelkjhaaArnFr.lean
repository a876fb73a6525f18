/- What the frame tells of data, calls, paths that came in. -/
import Derived.Test.YtiikakfdelkjhaaArnC
import Derived.Test.YtiikakfdelkjhaaRows
import Derived.Deep.Slices
import Derived.Deep.Fields
import Derived.ChangeSame
import Derived.ShutString
namespace Go.Proofs.Ytiikakfdelkjhaa.Arn
open Go.RowKit Go.ChangeShapes Go.WideShapes Go.Deep

/-- the blocks that are there -/
def Old (w : World) (k : Nat) : Prop := k < w.heap.size
/-- data that came in -/
structure DatIn (T : Nat → Prop) (w : World) (d : Dt) (aA : Option Addr) (an ac : Nat) : Prop where
  id : d.id < 18446744073709551616
  label : d.label.length ≤ maxLen
  text : d.text.length ≤ maxLen
  ats : AtsIn T w aA an d.attrs
  anc : an ≤ ac
  acm : ac ≤ maxLen
  anil : aA = none → ac = 0
theorem DatIn.ok {T : Nat → Prop} {w : World} {d : Dt} {aA : Option Addr} {an ac : Nat} (h : DatIn T w d aA an ac) (hn : an ≤ 1000000) : DatOk T w d aA an ac := ⟨h.id, h.label, h.text, h.ats, h.anc, h.acm, h.anil, hn⟩
theorem DatIn.kept {T T' : Nat → Prop} {w w' : World} {d : Dt} {aA : Option Addr} {an ac : Nat} (hT : ∀ k, T k → T' k) (hk : ∀ k, T k → w'.heap[k]? = w.heap[k]?) (h : DatIn T w d aA an ac) : DatIn T' w' d aA an ac :=
  ⟨h.id, h.label, h.text, h.ats.kept hT hk, h.anc, h.acm, h.anil⟩
theorem data_cells : Try.prog.cellsOf 25 = 5 := by kernel_rfl
theorem call_cells : Try.prog.cellsOf 40 = 9 := by kernel_rfl
theorem attr_cells : Try.prog.cellsOf 61 = 2 := by kernel_rfl
theorem one_cell {t : TypeId} (h : Try.prog.cellsOf t = 1 := by kernel_rfl) : Try.prog.cellsOf t = 1 := h
theorem data_fields : ∃ f0 f1 f2 f3 f4 : Field, Try.prog.underlying 25 = some (.struct #[f0, f1, f2, f3, f4]) ∧ (f0.type = 22 ∧ f0.offset = 0) ∧ (f1.type = 4 ∧ f1.offset = 1) ∧ (f2.type = 9 ∧ f2.offset = 2) ∧
    (f3.type = 23 ∧ f3.offset = 3) ∧ f4.type = 9 ∧ f4.offset = 4 :=
  ⟨_, _, _, _, _, Try.underlying25, ⟨rfl, rfl⟩, ⟨rfl, rfl⟩, ⟨rfl, rfl⟩, ⟨rfl, rfl⟩, rfl, rfl⟩
theorem call_fields : ∃ f0 f1 f2 f3 f4 : Field, Try.prog.underlying 40 = some (.struct #[f0, f1, f2, f3, f4]) ∧ (f0.type = 3 ∧ f0.offset = 0) ∧ (f1.type = 3 ∧ f1.offset = 1) ∧ (f2.type = 3 ∧ f2.offset = 2) ∧
    (f3.type = 3 ∧ f3.offset = 3) ∧ f4.type = 25 ∧ f4.offset = 4 :=
  ⟨_, _, _, _, _, Try.underlying40, ⟨rfl, rfl⟩, ⟨rfl, rfl⟩, ⟨rfl, rfl⟩, ⟨rfl, rfl⟩, rfl, rfl⟩
theorem attr_fields : ∃ f0 f1 : Field, Try.prog.underlying 61 = some (.struct #[f0, f1]) ∧ (f0.type = 9 ∧ f0.offset = 0) ∧ f1.type = 9 ∧ f1.offset = 1 :=
  ⟨_, _, Try.underlying61, ⟨rfl, rfl⟩, rfl, rfl⟩
/-- a list of what there is at each place -/
theorem list_of {α : Type} {R : Nat → α → Prop} : ∀ n : Nat, (∀ i, i < n → ∃ y, R i y) → ∃ xs : List α, xs.length = n ∧ ∀ q y, xs[q]? = some y → R q y
  | 0, _ => ⟨[], rfl, fun q y h => by simp at h⟩
  | n + 1, h => by
    obtain ⟨xs, hl, hx⟩ := list_of n (fun i hi => h i (by omega))
    obtain ⟨y, hy⟩ := h n (by omega)
    refine ⟨xs ++ [y], by simp [hl], fun q z hz => ?_⟩
    rw [List.getElem?_append] at hz
    split at hz
    · exact hx q z hz
    · have hq : q = n := by
        rcases Nat.lt_or_ge n q with hlt | hle
        · rw [List.getElem?_eq_none (by simp; omega)] at hz
          cases hz
        · omega
      subst hq
      rw [hl, Nat.sub_self] at hz
      simp at hz
      subst hz
      exact hy
section
variable {H : Type} {enc : TypeId × Value → H} {W : World} {b0 : Nat}
theorem add_block_lt {E : Addr} {i : Nat} {v : Value} (h : W.cell? (E.add i) = some v) : E.block < W.heap.size := by
  have hb := World.block_lt_of_cell? W _ h
  rwa [block_add] at hb
theorem attr_in {fuel : Nat} {E : Addr} {cs : List Value} {x : DataW H × List MemPlace} (hc : W.cells? b0 E 2 = some cs) (h : DataW.trod enc Try.prog W b0 (fun _ => true) true fuel 61 cs = some x) :
    ∃ y : Txt × Txt, y.1.length ≤ maxLen ∧ y.2.length ≤ maxLen ∧ W.cell? (E.add 0) = some (.string ⟨y.1.toArray⟩) ∧ W.cell? (E.add 1) = some (.string ⟨y.2.toArray⟩) := by
  obtain ⟨f0, f1, hu, ⟨t0, o0⟩, t1, o1⟩ := attr_fields
  obtain ⟨ys, n, -, -, hlen, hyl, hf⟩ := DataW.trod_struct hu h
  obtain ⟨-, hcl, hat⟩ := World.cells?_some hc
  obtain ⟨v0, v1, rfl⟩ : ∃ v0 v1, cs = [v0, v1] := by
    match cs, hcl with
    | [a, b], _ => exact ⟨a, b, rfl⟩
  have g0 := hf 0 f0 rfl
  have g1 := hf 1 f1 rfl
  rw [t0, o0, one_cell] at g0
  rw [t1, o1, one_cell] at g1
  have hys : ∀ i, i < 2 → ∃ y, ys[i]? = some y := fun i hi => ⟨_, List.getElem?_eq_getElem (by rw [hyl]; exact hi)⟩
  obtain ⟨y0, e0⟩ := hys 0 (by omega)
  obtain ⟨y1, e1⟩ := hys 1 (by omega)
  obtain ⟨s0, hs0, -, w0⟩ := DataW.trod_string Try.underlying9 (g0.trans e0)
  obtain ⟨s1, hs1, -, w1⟩ := DataW.trod_string Try.underlying9 (g1.trans e1)
  have a0 := hat 0 (by omega)
  have a1 := hat 1 (by omega)
  simp at hs0 hs1 a0 a1
  subst hs0 hs1
  exact ⟨(s0.data.toList, s1.data.toList), by rw [Array.length_toList]; exact w0, by rw [Array.length_toList]; exact w1, a0, a1⟩
theorem attrs_in {fuel : Nat} {v : Value} {x : DataW H × List MemPlace} (h : DataW.trod enc Try.prog W b0 (fun _ => true) true fuel 23 [v] = some x) :
    ∃ (A : Option Addr) (n c : Nat) (l : List (Txt × Txt)), v = .slice A n c ∧ AtsIn (Old W) W A n l ∧ n ≤ c ∧ c ≤ maxLen ∧ (A = none → c = 0) := by
  rcases DataW.trod_slice Try.underlying23 h with ⟨hcs, -⟩ | ⟨a, len, cap, elems, rest, n, -, hcs, -, -, hl, hm, hel, hi, -⟩
  · simp at hcs
    exact ⟨none, 0, 0, [], hcs, ⟨rfl, fun q x h => by simp at h⟩, Nat.le_refl _, Nat.zero_le _, fun _ => rfl⟩
  · simp at hcs
    rw [attr_cells] at hi
    obtain ⟨xs, hxl, hx⟩ := list_of (R := fun i (y : Txt × Txt) => y.1.length ≤ maxLen ∧ y.2.length ≤ maxLen ∧ W.cell? ((a.add (i * 2)).add 0) = some (.string ⟨y.1.toArray⟩) ∧ W.cell? ((a.add (i * 2)).add 1) = some (.string ⟨y.2.toArray⟩)) len fun i hil => by
      have key := hi i hil
      rw [List.getElem?_eq_getElem (by omega)] at key
      obtain ⟨cs', h1, h2⟩ := Option.bind_eq_some_iff.1 key
      exact attr_in h1 h2
    refine ⟨some a, len, cap, xs, hcs, ⟨hxl, fun q y hq => ?_⟩, hl, hm, fun e => by cases e⟩
    obtain ⟨l1, l2, c1, c2⟩ := hx q y hq
    refine ⟨a, rfl, ?_, l1, l2, ?_, ?_⟩
    · have hb := add_block_lt c1
      rwa [block_add] at hb
    · unfold Addr.add at c1 ⊢
      simpa using c1
    · have : (a.add (q * 2)).add 1 = ⟨(a.add (q * 2)).block, (a.add (q * 2)).off + 1, none⟩ := by unfold Addr.add; simp
      rw [← this]
      exact c2
/-- data -/
theorem data_in {fuel : Nat} {cs : List Value} {x : DataW H × List MemPlace} (h : DataW.trod enc Try.prog W b0 (fun _ => true) true fuel 25 cs = some x) :
    ∃ (d : Dt) (aA : Option Addr) (an ac : Nat), cs = datCells d aA an ac ∧ DatIn (Old W) W d aA an ac := by
  obtain ⟨f0, f1, f2, f3, f4, hu, ⟨t0, o0⟩, ⟨t1, o1⟩, ⟨t2, o2⟩, ⟨t3, o3⟩, t4, o4⟩ := data_fields
  obtain ⟨ys, n, hn, -, hlen, hyl, hf⟩ := DataW.trod_struct hu h
  rw [data_cells] at hlen
  obtain ⟨v0, v1, v2, v3, v4, rfl⟩ : ∃ v0 v1 v2 v3 v4, cs = [v0, v1, v2, v3, v4] := by
    match cs, hlen with
    | [a, b, c, d, e], _ => exact ⟨a, b, c, d, e, rfl⟩
  have g0 := hf 0 f0 rfl
  have g1 := hf 1 f1 rfl
  have g2 := hf 2 f2 rfl
  have g3 := hf 3 f3 rfl
  have g4 := hf 4 f4 rfl
  rw [t0, o0, one_cell] at g0
  rw [t1, o1, one_cell] at g1
  rw [t2, o2, one_cell] at g2
  rw [t3, o3, one_cell] at g3
  rw [t4, o4, one_cell] at g4
  have hys : ∀ i, i < 5 → ∃ y, ys[i]? = some y := fun i hi => ⟨_, List.getElem?_eq_getElem (by rw [hyl]; exact hi)⟩
  obtain ⟨y0, e0⟩ := hys 0 (by omega)
  obtain ⟨y1, e1⟩ := hys 1 (by omega)
  obtain ⟨y2, e2⟩ := hys 2 (by omega)
  obtain ⟨y3, e3⟩ := hys 3 (by omega)
  obtain ⟨y4, e4⟩ := hys 4 (by omega)
  obtain ⟨i, hi, -, wi⟩ := DataW.trod_int Try.underlying22 (g0.trans e0)
  obtain ⟨lf, hlf, -⟩ := DataW.trod_bool Try.underlying4 (g1.trans e1)
  obtain ⟨s2, hs2, -, w2⟩ := DataW.trod_string Try.underlying9 (g2.trans e2)
  obtain ⟨s4, hs4, -, w4⟩ := DataW.trod_string Try.underlying9 (g4.trans e4)
  have hib : 0 ≤ i ∧ i ≤ 18446744073709551615 := by simpa [Lit.wf, IntKind.min, IntKind.max, IntKind.signed, IntKind.bits] using wi
  obtain ⟨iN, rfl⟩ : ∃ iN : Nat, i = (iN : Int) := ⟨i.toNat, by omega⟩
  obtain ⟨aA, an, ac, l, ha, hA, hac, ham, hanil⟩ := attrs_in (g3.trans e3)
  simp at hi hlf hs2 hs4 ha
  subst hi hlf hs2 hs4 ha
  exact ⟨⟨iN, lf, s2.data.toList, l, s4.data.toList⟩, aA, an, ac, rfl, ⟨by show iN < _; omega, by show s2.data.toList.length ≤ _; rw [Array.length_toList]; exact w2, by show s4.data.toList.length ≤ _; rw [Array.length_toList]; exact w4, hA, hac, ham, hanil⟩⟩
/-- a number of 64 bits -/
def I64 (i : Int) : Prop := -9223372036854775808 ≤ i ∧ i ≤ 9223372036854775807
theorem int_in {fuel : Nat} {v : Value} {x : DataW H × List MemPlace} (h : DataW.trod enc Try.prog W b0 (fun _ => true) true fuel 3 [v] = some x) : ∃ i : Int, v = .int .i64 i ∧ I64 i := by
  obtain ⟨i, hi, -, wi⟩ := DataW.trod_int Try.underlying3 h
  simp at hi
  exact ⟨i, hi, by unfold I64; simpa [Lit.wf, IntKind.min, IntKind.max, IntKind.signed, IntKind.bits] using wi⟩
/-- a call -/
structure Cl where
  kind : Int
  a : Int
  b : Int
  at_ : Int
  d : Dt
  aA : Option Addr
  an : Nat
  ac : Nat
def Cl.cells (c : Cl) : List Value := .int .i64 c.kind :: .int .i64 c.a :: .int .i64 c.b :: .int .i64 c.at_ :: datCells c.d c.aA c.an c.ac
structure Cl.Ok (T : Nat → Prop) (w : World) (c : Cl) : Prop where
  kind : I64 c.kind
  a : I64 c.a
  b : I64 c.b
  at_ : I64 c.at_
  d : DatIn T w c.d c.aA c.an c.ac
theorem Cl.cells_len (c : Cl) : c.cells.length = 9 := rfl
theorem call_in {fuel : Nat} {cs : List Value} {x : DataW H × List MemPlace} (h : DataW.trod enc Try.prog W b0 (fun _ => true) true fuel 40 cs = some x) : ∃ c : Cl, cs = c.cells ∧ c.Ok (Old W) W := by
  obtain ⟨f0, f1, f2, f3, f4, hu, ⟨t0, o0⟩, ⟨t1, o1⟩, ⟨t2, o2⟩, ⟨t3, o3⟩, t4, o4⟩ := call_fields
  obtain ⟨ys, n, hn, -, hlen, hyl, hf⟩ := DataW.trod_struct hu h
  rw [call_cells] at hlen
  obtain ⟨v0, v1, v2, v3, v4, v5, v6, v7, v8, rfl⟩ : ∃ v0 v1 v2 v3 v4 v5 v6 v7 v8, cs = [v0, v1, v2, v3, v4, v5, v6, v7, v8] := by
    match cs, hlen with
    | [a, b, c, d, e, f, g, h, i], _ => exact ⟨a, b, c, d, e, f, g, h, i, rfl⟩
  have g0 := hf 0 f0 rfl
  have g1 := hf 1 f1 rfl
  have g2 := hf 2 f2 rfl
  have g3 := hf 3 f3 rfl
  have g4 := hf 4 f4 rfl
  rw [t0, o0, one_cell] at g0
  rw [t1, o1, one_cell] at g1
  rw [t2, o2, one_cell] at g2
  rw [t3, o3, one_cell] at g3
  rw [t4, o4, data_cells] at g4
  have hys : ∀ i, i < 5 → ∃ y, ys[i]? = some y := fun i hi => ⟨_, List.getElem?_eq_getElem (by rw [hyl]; exact hi)⟩
  obtain ⟨y0, e0⟩ := hys 0 (by omega)
  obtain ⟨y1, e1⟩ := hys 1 (by omega)
  obtain ⟨y2, e2⟩ := hys 2 (by omega)
  obtain ⟨y3, e3⟩ := hys 3 (by omega)
  obtain ⟨y4, e4⟩ := hys 4 (by omega)
  obtain ⟨i0, rfl, w0⟩ := int_in (g0.trans e0)
  obtain ⟨i1, rfl, w1⟩ := int_in (g1.trans e1)
  obtain ⟨i2, rfl, w2⟩ := int_in (g2.trans e2)
  obtain ⟨i3, rfl, w3⟩ := int_in (g3.trans e3)
  obtain ⟨d, aA, an, ac, hd, hdat⟩ := data_in (g4.trans e4)
  refine ⟨⟨i0, i1, i2, i3, d, aA, an, ac⟩, ?_, w0, w1, w2, w3, hdat⟩
  have hd' : [v4, v5, v6, v7, v8] = datCells d aA an ac := hd
  show _ = _ :: _ :: _ :: _ :: datCells d aA an ac
  rw [← hd']
/-- a row of calls at A reads as these -/
def ClsIn (T : Nat → Prop) (w : World) (A : Option Addr) (n : Nat) (l : List Cl) : Prop :=
  l.length = n ∧ ∀ q c, l[q]? = some c → ∃ ad, A = some ad ∧ T ad.block ∧ c.Ok T w ∧ ∀ j u, c.cells[j]? = some u → w.cell? ((ad.add (q * 9)).add j) = some u
theorem ClsIn.kept {T T' : Nat → Prop} {w w' : World} {A : Option Addr} {n : Nat} {l : List Cl} (hT : ∀ k, T k → T' k) (hk : ∀ k, T k → w'.heap[k]? = w.heap[k]?) (h : ClsIn T w A n l) : ClsIn T' w' A n l := by
  refine ⟨h.1, fun q c hq => ?_⟩
  obtain ⟨ad, e, ht, ho, hc⟩ := h.2 q c hq
  refine ⟨ad, e, hT _ ht, ⟨ho.kind, ho.a, ho.b, ho.at_, ho.d.kept hT hk⟩, fun j u hj => ?_⟩
  exact (World.cell?_of_block (w := w) (w' := w') (a := (ad.add (q * 9)).add j) (by rw [block_add, block_add]; exact hk _ ht)).trans (hc j u hj)
theorem calls_in {fuel : Nat} {v : Value} {x : DataW H × List MemPlace} (h : DataW.trod enc Try.prog W b0 (fun _ => true) true fuel 26 [v] = some x) :
    ∃ (A : Option Addr) (n c : Nat) (l : List Cl), v = .slice A n c ∧ ClsIn (Old W) W A n l ∧ n ≤ c ∧ c ≤ maxLen ∧ (A = none → c = 0) := by
  rcases DataW.trod_slice Try.underlying26 h with ⟨hcs, -⟩ | ⟨a, len, cap, elems, rest, n, -, hcs, -, -, hl, hm, hel, hi, -⟩
  · simp at hcs
    exact ⟨none, 0, 0, [], hcs, ⟨rfl, fun q x h => by simp at h⟩, Nat.le_refl _, Nat.zero_le _, fun _ => rfl⟩
  · simp at hcs
    rw [call_cells] at hi
    obtain ⟨xs, hxl, hx⟩ := list_of (R := fun i (y : Cl) => y.Ok (Old W) W ∧ ∀ j u, y.cells[j]? = some u → W.cell? ((a.add (i * 9)).add j) = some u) len fun i hil => by
      have key := hi i hil
      rw [List.getElem?_eq_getElem (by omega)] at key
      obtain ⟨cs', h1, h2⟩ := Option.bind_eq_some_iff.1 key
      obtain ⟨c, rfl, hok⟩ := call_in h2
      obtain ⟨-, hcl, hat⟩ := World.cells?_some h1
      refine ⟨c, hok, fun j u hj => ?_⟩
      have hj9 : j < 9 := by have := (List.getElem?_eq_some_iff.1 hj).1; rw [Cl.cells_len] at this; exact this
      exact (hat j hj9).trans hj
    refine ⟨some a, len, cap, xs, hcs, ⟨hxl, fun q y hq => ?_⟩, hl, hm, fun e => by cases e⟩
    obtain ⟨h1, h2⟩ := hx q y hq
    have c0 := h2 0 _ rfl
    refine ⟨a, rfl, ?_, h1, h2⟩
    have hb := add_block_lt c0
    rwa [block_add] at hb
/-- a row of numbers -/
theorem ints_in {fuel : Nat} {v : Value} {x : DataW H × List MemPlace} (h : DataW.trod enc Try.prog W b0 (fun _ => true) true fuel 33 [v] = some x) :
    ∃ (A : Option Addr) (n c : Nat) (l : List Int), v = .slice A n c ∧ Its W A n l ∧ n ≤ c ∧ c ≤ maxLen ∧ Fit l := by
  rcases DataW.trod_slice Try.underlying33 h with ⟨hcs, -⟩ | ⟨a, len, cap, elems, rest, n, -, hcs, -, -, hl, hm, hel, hi, -⟩
  · simp at hcs
    exact ⟨none, 0, 0, [], hcs, Its.none_ W, Nat.le_refl _, Nat.zero_le _, fun x hx => by cases hx⟩
  · simp at hcs
    rw [one_cell (t := 3)] at hi
    obtain ⟨xs, hxl, hx⟩ := list_of (R := fun i (y : Int) => (-9223372036854775808 ≤ y ∧ y ≤ 9223372036854775807) ∧ W.cell? (a.add i) = some (.int .i64 y)) len fun i hil => by
      have key := hi i hil
      rw [List.getElem?_eq_getElem (by omega)] at key
      obtain ⟨cs', h1, h2⟩ := Option.bind_eq_some_iff.1 key
      obtain ⟨k, rfl, -, wk⟩ := DataW.trod_int Try.underlying3 h2
      obtain ⟨-, hcl, hat⟩ := World.cells?_some h1
      have a0 := hat 0 (by omega)
      have hz : (a.add (i * 1)).add 0 = a.add i := by rw [Nat.mul_one]; unfold Addr.add; simp
      rw [hz] at a0
      exact ⟨k, by simpa [Lit.wf, IntKind.min, IntKind.max, IntKind.signed, IntKind.bits] using wk, a0⟩
    refine ⟨some a, len, cap, xs, hcs, ⟨hxl, fun q y hq => ?_⟩, hl, hm, fun y hy => ?_⟩
    · have hc := (hx q y hq).2
      exact ⟨a, rfl, add_block_lt hc, hc⟩
    · obtain ⟨q, hq⟩ := List.getElem?_of_mem hy
      exact (hx q y hq).1
/-- rows of numbers -/
def PthIn (T : Nat → Prop) (w : World) (A : Option Addr) (n : Nat) (l : List (List Int)) : Prop :=
  l.length = n ∧ ∀ q p, l[q]? = some p → ∃ ad B m c, A = some ad ∧ T ad.block ∧ w.cell? (ad.add q) = some (.slice B m c) ∧ Its w B m p ∧ m ≤ c ∧ c ≤ maxLen ∧ Fit p
theorem paths_in {fuel : Nat} {v : Value} {x : DataW H × List MemPlace} (h : DataW.trod enc Try.prog W b0 (fun _ => true) true fuel 42 [v] = some x) :
    ∃ (A : Option Addr) (n c : Nat) (l : List (List Int)), v = .slice A n c ∧ PthIn (Old W) W A n l ∧ n ≤ c ∧ c ≤ maxLen := by
  rcases DataW.trod_slice Try.underlying42 h with ⟨hcs, -⟩ | ⟨a, len, cap, elems, rest, n, -, hcs, -, -, hl, hm, hel, hi, -⟩
  · simp at hcs
    exact ⟨none, 0, 0, [], hcs, ⟨rfl, fun q x h => by simp at h⟩, Nat.le_refl _, Nat.zero_le _⟩
  · simp at hcs
    rw [one_cell (t := 33)] at hi
    obtain ⟨xs, hxl, hx⟩ := list_of (R := fun i (p : List Int) => ∃ B m c, W.cell? (a.add i) = some (.slice B m c) ∧ Its W B m p ∧ m ≤ c ∧ c ≤ maxLen ∧ Fit p) len fun i hil => by
      have key := hi i hil
      rw [List.getElem?_eq_getElem (by omega)] at key
      obtain ⟨cs', h1, h2⟩ := Option.bind_eq_some_iff.1 key
      obtain ⟨-, hcl, hat⟩ := World.cells?_some h1
      have a0 := hat 0 (by omega)
      have hz : (a.add (i * 1)).add 0 = a.add i := by rw [Nat.mul_one]; unfold Addr.add; simp
      rw [hz] at a0
      obtain ⟨u, rfl⟩ : ∃ u, cs' = [u] := by
        match cs', hcl with
        | [u], _ => exact ⟨u, rfl⟩
      obtain ⟨B, m, c, p, rfl, h3, h4, h5, h6⟩ := ints_in h2
      exact ⟨p, B, m, c, a0, h3, h4, h5, h6⟩
    refine ⟨some a, len, cap, xs, hcs, ⟨hxl, fun q p hq => ?_⟩, hl, hm⟩
    obtain ⟨B, m, c, h1, h2, h3, h4, h5⟩ := hx q p hq
    exact ⟨a, B, m, c, rfl, add_block_lt h1, h1, h2, h3, h4, h5⟩
end
end Go.Proofs.Ytiikakfdelkjhaa.Arn
