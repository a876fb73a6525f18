/- A slot's node is written; the head is written: what the arena is then. -/
import Derived.Test.YtiikakfdelkjhaaArnE
namespace Go.Proofs.Ytiikakfdelkjhaa.Arn
open Go.RowKit
set_option maxRecDepth 20000

theorem slotCells_len (a : Av) (s : SV) (i : Nat) : (slotCells a s i).length = 8 := rfl
section
variable {w w9 : World} {ow ow9 : Nat → Role} {P : Nat} {a a9 : Av} {B : Nat → Nat} {m : Nat} {sv : Nat → SV} {sA : Option Addr} {sc : Nat} {fA : Option Addr} {fc : Nat}
theorem PA.slab_inj (h : PA w ow P a B m sv sA sc fA fc) {i j : Nat} (hi : i < m) (hj : j < m) (e : B i = B j) : i = j := by
  have h1 := (h.slab i hi).1
  rw [e, (h.slab j hj).1] at h1
  injection h1 with h1
  exact h1.symm
theorem PA.put (h : PA w ow P a B m sv sA sc fA fc) {s : Nat} (hs : s < a.cnt) {sv9 : SV} (hc : a9.cnt = a.cnt) (hf : a9.free = a.free)
    (hn : ∀ i, i ≠ s → a9.live i = a.live i ∧ a9.par i = a.par i ∧ a9.kids i = a.kids i ∧ a9.dat i = a.dat i)
    (hr : ∀ k, k < w.heap.size → ow9 k = ow k) (hl : ∀ k, ow9 k ≠ .off → k < w9.heap.size)
    (hk : ∀ k, (ow k).used → k ≠ B (s / 16) → ow k ≠ .akids s → w9.heap[k]? = w.heap[k]?)
    (hb : ∃ cs t, w9.heap[B (s / 16)]? = some (.cells cs t (0, 0)) ∧ cs.size = 128)
    (ho : ∀ o, (o < s % 16 * 8 ∨ s % 16 * 8 + 8 ≤ o) → w9.cell? ⟨B (s / 16), o, none⟩ = w.cell? ⟨B (s / 16), o, none⟩)
    (hi : ∀ j u, (slotCells a9 sv9 s)[j]? = some u → w9.cell? ⟨B (s / 16), s % 16 * 8 + j, none⟩ = some u)
    (hkids : KidsOk ow9 w9 s (a9.kids s) sv9) (hks : (a9.kids s).length ≤ 100000) (hdat : DatOk (fun k => ow9 k = .imm) w9 (a9.dat s) sv9.aA sv9.an sv9.ac) (hpar : -1 ≤ a9.par s ∧ a9.par s ≤ 100000) :
    PA w9 ow9 P a9 B m (upd sv s sv9) sA sc fA fc := by
  have lt : ∀ k r, ow k = r → r ≠ .off → k < w.heap.size := fun k r e hn => h.low k (by rw [e]; exact hn)
  have same : ∀ k r, ow k = r → r ≠ .off → ow9 k = r := fun k r e hn => (hr k (lt k r e hn)).trans e
  have hsm : s < m * 16 := by have := h.room; omega
  have hB := (h.slab (s / 16) (by omega)).1
  have hk' : ∀ k r, ow k = r → r.used → (∀ i, r ≠ .aslab i) → r ≠ .akids s → w9.heap[k]? = w.heap[k]? := fun k r e hu hne hne2 =>
    hk k (by rw [e]; exact hu) (fun e2 => hne (s / 16) (by rw [← e, e2]; exact hB)) (by rw [e]; exact hne2)
  refine { head := ?_, rP := same _ _ h.rP (by simp), row := ?_, rRow := fun ad e => same _ _ (h.rRow ad e) (by simp), free := ?_, rFree := fun ad e => same _ _ (h.rFree ad e) (by simp),
           room := by rw [hc]; exact h.room, tight := by rw [hc]; exact h.tight, small := by rw [hc]; exact h.small, fsmall := by rw [hf]; exact h.fsmall, slab := ?_, cells := ?_, kids := ?_, ksmall := ?_, dat := ?_, low := hl, zero := ?_, pars := ?_ }
  · rw [hc, hf]
    exact (hk' P _ h.rP trivial (by simp) (by simp)).trans h.head
  · refine own_kept h.row fun k e => ?_
    obtain ⟨ad, rfl, rfl⟩ := own_block e
    exact hk' _ _ (h.rRow ad rfl) trivial (by simp) (by simp)
  · rw [hf]
    refine own_kept h.free fun k e => ?_
    obtain ⟨ad, rfl, rfl⟩ := own_block e
    exact hk' _ _ (h.rFree ad rfl) trivial (by simp) (by simp)
  · intro i him
    obtain ⟨h1, cs, t, h2, h3⟩ := h.slab i him
    refine ⟨same _ _ h1 (by simp), ?_⟩
    by_cases e : i = s / 16
    · subst e; exact hb
    · exact ⟨cs, t, (hk _ (by rw [h1]; trivial) (fun e2 => e (h.slab_inj him (by omega) e2)) (by rw [h1]; simp)).trans h2, h3⟩
  · intro i him j u hj
    by_cases e : i = s
    · subst e
      rw [upd_same] at hj
      exact hi j u hj
    · rw [upd_ne _ _ e] at hj
      have hj8 : j < 8 := by have := (List.getElem?_eq_some_iff.1 hj).1; rw [slotCells_len] at this; exact this
      have hj' : (slotCells a (sv i) i)[j]? = some u := by
        obtain ⟨e1, e2, e3, e4⟩ := hn i e
        rw [← hj]
        unfold slotCells
        rw [e1, e2, e4]
      have hold := h.cells i him j u hj'
      by_cases e2 : i / 16 = s / 16
      · rw [e2] at hold ⊢
        rw [ho _ (by omega)]
        exact hold
      · have h1 := (h.slab (i / 16) (by omega)).1
        exact (World.cell?_of_block (w := w) (w' := w9) (a := ⟨B (i / 16), i % 16 * 8 + j, none⟩) (hk _ (by rw [h1]; trivial) (fun e3 => e2 (h.slab_inj (by omega) (by omega) e3)) (by rw [h1]; simp))).trans hold
  · intro i him
    by_cases e : i = s
    · subst e; rw [upd_same]; exact hkids
    · rw [upd_ne _ _ e, (hn i e).2.2.1]
      have hki := h.kids i him
      refine ⟨own_kept hki.own fun k e2 => ?_, hki.len, fun ad e2 => same _ _ (hki.role ad e2) (by simp)⟩
      obtain ⟨ad, e3, rfl⟩ := own_block e2
      exact hk' _ _ (hki.role ad e3) trivial (by simp) (by intro e4; injection e4 with e4; exact e e4)
  · intro i
    by_cases e : i = s
    · subst e; exact hks
    · rw [(hn i e).2.2.1]; exact h.ksmall i
  · intro i him
    by_cases e : i = s
    · subst e; rw [upd_same]; exact hdat
    · rw [upd_ne _ _ e, (hn i e).2.2.2]
      exact (h.dat i him).kept (fun k e => same k _ e (by simp)) (fun k e => hk' k _ e trivial (by simp) (by simp))
  · intro i him
    rw [hc] at him
    have e : i ≠ s := by omega
    obtain ⟨e1, e2, e3, e4⟩ := hn i e
    rw [e1, e2, e3, e4]
    exact h.zero i him
  · intro i
    by_cases e : i = s
    · subst e; exact hpar
    · rw [(hn i e).2.1]; exact h.pars i
/-- another row of free ones -/
theorem PA.freed (h : PA w ow P a B m sv sA sc fA fc) {l : List Nat} {gA : Option Addr} {gc : Nat} (ha : a9 = { a with free := l }) (hl2 : l.length ≤ 100000)
    (hr : ∀ k, k < w.heap.size → ow9 k = ow k) (hl : ∀ k, ow9 k ≠ .off → k < w9.heap.size)
    (hk : ∀ k, (ow k).used → k ≠ P → ow k ≠ .afree → w9.heap[k]? = w.heap[k]?)
    (hh : w9.heap[P]? = some (.cells #[.slice sA m sc, .int .i64 (a.cnt : Int), .slice gA l.length gc] 65 (0, 0)))
    (hf : OwnN w9 (.slice gA l.length gc) l) (hrf : ∀ ad, gA = some ad → ow9 ad.block = .afree) : PA w9 ow9 P a9 B m sv sA sc gA gc := by
  subst ha
  have lt : ∀ k r, ow k = r → r ≠ .off → k < w.heap.size := fun k r e hn => h.low k (by rw [e]; exact hn)
  have same : ∀ k r, ow k = r → r ≠ .off → ow9 k = r := fun k r e hn => (hr k (lt k r e hn)).trans e
  have hk' : ∀ k r, ow k = r → r.used → r ≠ .ahead → r ≠ .afree → w9.heap[k]? = w.heap[k]? := fun k r e hu hne hne2 =>
    hk k (by rw [e]; exact hu) (fun e2 => hne (by rw [← e, e2]; exact h.rP)) (by rw [e]; exact hne2)
  refine { head := hh, rP := same _ _ h.rP (by simp), row := ?_, rRow := fun ad e => same _ _ (h.rRow ad e) (by simp), free := hf, rFree := hrf,
           room := h.room, tight := h.tight, small := h.small, fsmall := hl2, slab := ?_, cells := ?_, kids := ?_, ksmall := h.ksmall, dat := ?_, low := hl, zero := h.zero, pars := h.pars }
  · refine own_kept h.row fun k e => ?_
    obtain ⟨ad, rfl, rfl⟩ := own_block e
    exact hk' _ _ (h.rRow ad rfl) trivial (by simp) (by simp)
  · intro i him
    obtain ⟨h1, cs, t, h2, h3⟩ := h.slab i him
    exact ⟨same _ _ h1 (by simp), cs, t, (hk' _ _ h1 trivial (by simp) (by simp)).trans h2, h3⟩
  · intro i him j u hj
    have h1 := (h.slab (i / 16) (by omega)).1
    exact (World.cell?_of_block (w := w) (w' := w9) (a := ⟨B (i / 16), i % 16 * 8 + j, none⟩) (hk' _ _ h1 trivial (by simp) (by simp))).trans (h.cells i him j u hj)
  · intro i him
    have hki := h.kids i him
    refine ⟨own_kept hki.own fun k e2 => ?_, hki.len, fun ad e2 => same _ _ (hki.role ad e2) (by simp)⟩
    obtain ⟨ad, e3, rfl⟩ := own_block e2
    exact hk' _ _ (hki.role ad e3) trivial (by simp) (by simp)
  · intro i him
    exact (h.dat i him).kept (fun k e => same k _ e (by simp)) (fun k e => hk' k _ e trivial (by simp) (by simp))
/-- one slot more, in a slab that is there -/
theorem PA.counted (h : PA w ow P a B m sv sA sc fA fc) (ha : a9 = { a with cnt := a.cnt + 1 }) (hroom : a.cnt < m * 16) (hsm : a.cnt < 100000)
    (hsz : w.heap.size ≤ w9.heap.size) (hk : ∀ k, k ≠ P → w9.heap[k]? = w.heap[k]?)
    (hh : w9.heap[P]? = some (.cells #[.slice sA m sc, .int .i64 ((a.cnt : Int) + 1), .slice fA a.free.length fc] 65 (0, 0))) : PA w9 ow P a9 B m sv sA sc fA fc := by
  subst ha
  have hk' : ∀ k r, ow k = r → r ≠ .ahead → w9.heap[k]? = w.heap[k]? := fun k r e hne => hk k fun e2 => hne (by rw [← e, e2]; exact h.rP)
  refine { head := by rw [hh]; rfl, rP := h.rP, row := ?_, rRow := h.rRow, free := ?_, rFree := h.rFree,
           room := by show a.cnt + 1 ≤ _; omega, tight := by show _ < a.cnt + 1 + 16; have := h.tight; omega, small := by show a.cnt + 1 ≤ _; omega, fsmall := h.fsmall, slab := ?_, cells := ?_, kids := ?_, ksmall := h.ksmall, dat := ?_, low := fun k hk => Nat.lt_of_lt_of_le (h.low k hk) hsz, zero := fun i hi => h.zero i (by have hi' : a.cnt + 1 ≤ i := hi; omega), pars := h.pars }
  · refine own_kept h.row fun k e => ?_
    obtain ⟨ad, rfl, rfl⟩ := own_block e
    exact hk' _ _ (h.rRow ad rfl) (by simp)
  · refine own_kept h.free fun k e => ?_
    obtain ⟨ad, rfl, rfl⟩ := own_block e
    exact hk' _ _ (h.rFree ad rfl) (by simp)
  · intro i him
    obtain ⟨h1, cs, t, h2, h3⟩ := h.slab i him
    exact ⟨h1, cs, t, (hk' _ _ h1 (by simp)).trans h2, h3⟩
  · intro i him j u hj
    have h1 := (h.slab (i / 16) (by omega)).1
    exact (World.cell?_of_block (w := w) (w' := w9) (a := ⟨B (i / 16), i % 16 * 8 + j, none⟩) (hk' _ _ h1 (by simp))).trans (h.cells i him j u hj)
  · intro i him
    have hki := h.kids i him
    refine ⟨own_kept hki.own fun k e2 => ?_, hki.len, hki.role⟩
    obtain ⟨ad, e3, rfl⟩ := own_block e2
    exact hk' _ _ (hki.role ad e3) (by simp)
  · intro i him
    exact (h.dat i him).kept (fun k e => e) (fun k e => hk' k _ e (by simp))
end
/-- eight cells are written at ⟨g, e⟩ -/
def eight (w : World) (g e : Nat) (b0 b1 b2 b3 b4 b5 b6 b7 : Value) : World :=
  (((((((w.setCell ⟨g, e, none⟩ b0).setCell ⟨g, e + 1, none⟩ b1).setCell ⟨g, e + 2, none⟩ b2).setCell ⟨g, e + 3, none⟩ b3).setCell ⟨g, e + 4, none⟩ b4).setCell ⟨g, e + 5, none⟩ b5).setCell ⟨g, e + 6, none⟩ b6).setCell ⟨g, e + 7, none⟩ b7
theorem eight_cells (w : World) (g e : Nat) (b0 b1 b2 b3 b4 b5 b6 b7 : Value) : eight w g e b0 b1 b2 b3 b4 b5 b6 b7 = w.setCells g e [b0, b1, b2, b3, b4, b5, b6, b7] := by
  simp only [World.setCells, eight, Nat.add_assoc]
/-- what writing a row of cells at a place of a block does -/
theorem put_row {w : World} {g o : Nat} {t : TypeId} {cs : Array Value} (vs : List Value) (h : w.heap[g]? = some (.cells cs t (0, 0))) (hl : o + vs.length ≤ cs.size) :
    ∃ W, W = w.setCells g o vs ∧ (∃ cs', W.heap[g]? = some (.cells cs' t (0, 0)) ∧ cs'.size = cs.size) ∧ (∀ k, k ≠ g → W.heap[k]? = w.heap[k]?) ∧ W.heap.size = w.heap.size ∧
      (∀ q, (q < o ∨ o + vs.length ≤ q) → W.cell? ⟨g, q, none⟩ = w.cell? ⟨g, q, none⟩) ∧ (∀ j u, vs[j]? = some u → W.cell? ⟨g, o + j, none⟩ = some u) ∧ (∀ S, S g → FrX S w W) := by
  obtain ⟨i1, i2, i3, i4, i5, i6⟩ := setCells_heap vs o w cs h hl
  have hlen : cs.toList.length = cs.size := Array.length_toList
  refine ⟨_, rfl, ⟨_, i1, ?_⟩, i2, i3, fun q hq => ?_, fun j u hj => ?_, fun S hS => ⟨i4, i5, i6, by rw [i3]; exact Nat.le_refl _, fun k _ hn => i2 k fun e => hn (e ▸ hS)⟩⟩
  · simp; omega
  · rw [cell_of_row _ g q _ _ _ i1, cell_of_row w g q _ _ _ h, List.getElem?_toArray, splice_get (by omega), ← Array.getElem?_toList]
    rcases hq with hq | hq
    · rw [if_pos hq]
    · rw [if_neg (by omega), if_neg (by omega)]
  · have := (List.getElem?_eq_some_iff.1 hj).1
    rw [cell_of_row _ g _ _ _ _ i1, List.getElem?_toArray, splice_get (by omega), if_neg (by omega), if_pos (by omega), show o + j - o = j by omega]
    exact hj
end Go.Proofs.Ytiikakfdelkjhaa.Arn
