/- What the frame tells of a row of calls that came in. -/
import Derived.Test.YtffenadibnehfaaSecLawA
import Derived.Deep.Slices
import Derived.Deep.Fields
import Derived.ChangeSame
namespace Go.Proofs.Ytffenadibnehfaa
open Go.RowKit Go.ChangeShapes Go.WideShapes Go.Deep

theorem call_cells : Try.prog.cellsOf 31 = 3 := by kernel_rfl
theorem call_fields : ∃ f0 f1 f2 : Field, Try.prog.underlying 31 = some (.struct #[f0, f1, f2]) ∧ (f0.type = 5 ∧ f0.offset = 0) ∧ (f1.type = 3 ∧ f1.offset = 1) ∧ f2.type = 29 ∧ f2.offset = 2 :=
  ⟨_, _, _, Try.underlying31, ⟨rfl, rfl⟩, ⟨rfl, rfl⟩, rfl, rfl⟩
theorem byte_cells : Try.prog.cellsOf 5 = 1 := by kernel_rfl
theorem int_cells : Try.prog.cellsOf 3 = 1 := by kernel_rfl
theorem bytes_cells : Try.prog.cellsOf 29 = 1 := by kernel_rfl

section
variable {H : Type} {enc : TypeId × Value → H} {W : World} {b0 : Nat}
/-- a slice of bytes -/
theorem bytes_in {fuel : Nat} {v : Value} {x : DataW H × List MemPlace} (h : DataW.trod enc Try.prog W b0 (fun _ => true) true fuel 29 [v] = some x) :
    ∃ (A : Option Addr) (n c : Nat) (bs : List UInt8), v = .slice A n c ∧ Bts W A n bs ∧ n ≤ c ∧ c ≤ maxLen ∧ (A = none → c = 0) := by
  rcases open_ints Try.underlying29 Try.underlying5 (by kernel_rfl) h with ⟨hcs, _⟩ | ⟨y, l, c, zs, hcs, _, hl, hm, hz, _, hcell, hwz⟩
  · simp at hcs
    exact ⟨none, 0, 0, [], hcs, Bts.none_ W, Nat.le_refl _, Nat.zero_le _, fun _ => rfl⟩
  · simp at hcs
    obtain ⟨bs, hB, h1, h2, h3⟩ := bts_row (w := W) (a := some y) (len := l) (cap := c) (zs := zs) (.inr ⟨_, rfl, hl, hm, by simpa using hz, hcell, hwz⟩)
    exact ⟨some y, l, c, bs, hcs, hB, h1, h2, h3⟩
/-- one call -/
theorem call_in {fuel : Nat} {E : Addr} {cs : List Value} {x : DataW H × List MemPlace} (hc : W.cells? b0 E 3 = some cs) (h : DataW.trod enc Try.prog W b0 (fun _ => true) true fuel 31 cs = some x) : ∃ y, CallAt W E y := by
  obtain ⟨f0, f1, f2, hu, ⟨t0, o0⟩, ⟨t1, o1⟩, t2, o2⟩ := call_fields
  obtain ⟨ys, n, _, _, hlen, _, hf⟩ := DataW.trod_struct hu h
  obtain ⟨_, hcl, hat⟩ := World.cells?_some hc
  obtain ⟨v0, v1, v2, rfl⟩ : ∃ v0 v1 v2, cs = [v0, v1, v2] := by
    match cs, hcl with
    | [a, b, c], _ => exact ⟨a, b, c, rfl⟩
  have g0 := hf 0 f0 rfl
  have g1 := hf 1 f1 rfl
  have g2 := hf 2 f2 rfl
  rw [t0, o0, byte_cells] at g0
  rw [t1, o1, int_cells] at g1
  rw [t2, o2, bytes_cells] at g2
  have hys : ∀ i (f : Field), #[f0, f1, f2][i]? = some f → ∃ y, ys[i]? = some y := fun i f hi => by
    have hi3 : i < 3 := (Array.getElem?_eq_some_iff.1 hi).1
    have hyl : ys.length = 3 := by assumption
    exact ⟨_, List.getElem?_eq_getElem (by omega)⟩
  obtain ⟨y0, e0⟩ := hys 0 f0 rfl
  obtain ⟨y1, e1⟩ := hys 1 f1 rfl
  obtain ⟨y2, e2⟩ := hys 2 f2 rfl
  obtain ⟨k, hk, _, wk⟩ := DataW.trod_int Try.underlying5 (g0.trans e0)
  obtain ⟨i, hi, _, wi⟩ := DataW.trod_int Try.underlying3 (g1.trans e1)
  obtain ⟨A, m, c, bs, hb, hB, h1, h2, h3⟩ := bytes_in (g2.trans e2)
  obtain ⟨kn, rfl, hk2⟩ := u8_in wk
  have hib : -9223372036854775808 ≤ i ∧ i ≤ 9223372036854775807 := by simpa [Lit.wf, IntKind.min, IntKind.max, IntKind.signed, IntKind.bits] using wi
  have a0 := hat 0 (by omega)
  have a1 := hat 1 (by omega)
  have a2 := hat 2 (by omega)
  simp at hk hi a0 a1 a2
  subst hk hi hb
  exact ⟨⟨kn, i, bs⟩, hk2, hib.1, hib.2, a0, a1, A, m, c, a2, hB, h1, h2, h3⟩
/-- a row of them -/
theorem calls_in {fuel : Nat} {v : Value} {x : DataW H × List MemPlace} (h : DataW.trod enc Try.prog W b0 (fun _ => true) true fuel 22 [v] = some x) :
    ∃ (A : Option Addr) (n c : Nat) (xs : List CX), v = .slice A n c ∧ CallsIn W A n xs ∧ n ≤ c ∧ c ≤ maxLen ∧ (A = none → c = 0) := by
  rcases open_slice Try.underlying22 h with ⟨hcs, _⟩ | ⟨a, len, cap, m, n, D, Pl, hcs, _, hl, hm, hmm, _, hi⟩
  · simp at hcs
    exact ⟨none, 0, 0, [], hcs, ⟨rfl, fun q x h => by simp at h⟩, Nat.le_refl _, Nat.zero_le _, fun _ => rfl⟩
  · simp at hcs
    rw [call_cells] at hi
    have hex : ∀ i, i < len → ∃ y, CallAt W (a.add (i * 3)) y := fun i hil => by
      obtain ⟨cs', hc, ht⟩ := hi i (by rw [hmm]; simp; omega)
      exact call_in hc ht
    have hrow : ∀ k, k ≤ len → ∃ xs : List CX, xs.length = k ∧ ∀ q y, xs[q]? = some y → CallAt W (a.add (q * 3)) y := by
      intro k
      induction k with
      | zero => exact fun _ => ⟨[], rfl, fun q y h => by simp at h⟩
      | succ k ih =>
        intro hk
        obtain ⟨xs, hxl, hx⟩ := ih (by omega)
        obtain ⟨y, hy⟩ := hex k (by omega)
        refine ⟨xs ++ [y], by simp [hxl], fun q z hz => ?_⟩
        rw [List.getElem?_append] at hz
        split at hz
        · exact hx q z hz
        · rename_i hge
          have hq : q = k := by
            rcases Nat.lt_or_ge k q with hlt | hle
            · rw [List.getElem?_eq_none (by simp; omega)] at hz
              cases hz
            · omega
          subst hq
          rw [hxl, Nat.sub_self] at hz
          simp at hz
          subst hz
          exact hy
    obtain ⟨xs, hxl, hx⟩ := hrow len (Nat.le_refl _)
    refine ⟨some a, len, cap, xs, hcs, ⟨hxl, fun q y hq => ⟨a, rfl, ?_, hx q y hq⟩⟩, hl, hm, fun e => by cases e⟩
    have hb := World.block_lt_of_cell? W _ (hx q y hq).2.2.2.1
    rwa [block_add] at hb
end
end Go.Proofs.Ytffenadibnehfaa
