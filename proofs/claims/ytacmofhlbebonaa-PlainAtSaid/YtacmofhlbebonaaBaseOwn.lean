/- Words for rows of any element, and for what a call may turn: blocks from B on, of certain element types. -/
import Derived.Test.YtacmofhlbebonaaBaseBytes
namespace Go.Proofs.Ytacmofhlbebonaa
open Go.RowKit
set_option maxRecDepth 20000

/-- the shape of what is owned, and its cells -/
theorem own_form {w : World} {base : Nat} {e : TypeId} {size : Nat} {v : Value} {n : Nat} {xs : List Value} (h : w.ownsRow base e size v n xs) :
    ∃ (A : Option Addr) (c : Nat), v = .slice A n c ∧ n ≤ c ∧ c ≤ maxLen ∧ (A = none → c = 0) ∧ (0 < n → ∃ g : Nat, A = some ⟨g, 0, none⟩ ∧ base ≤ g ∧ g < w.heap.size ∧ ∀ j u, xs[j]? = some u → w.cell? ⟨g, j, none⟩ = some u) := by
  have h' := h
  rcases h.2 with ⟨rfl, h0⟩ | ⟨g, cap, cur, rfl, hb, hg, hnc, hcm, _⟩
  · subst h0
    exact ⟨none, 0, rfl, Nat.le_refl _, Nat.zero_le _, fun _ => rfl, fun h => by omega⟩
  · refine ⟨_, cap, rfl, hnc, hcm, (fun e => by cases e), fun _ => ⟨g, rfl, hb, (Array.getElem?_eq_some_iff.1 hg).1, fun j u hj => ?_⟩⟩
    have hadd : (⟨g, 0, none⟩ : Addr).add j = ⟨g, j, none⟩ := by unfold Addr.add; split <;> simp_all
    rw [← hadd]
    exact h'.cells (g := g) rfl j u hj

/-- block k is a row of an element type among ts -/
def Typed (ts : List TypeId) (w : World) (k : Nat) : Prop := ∃ cs t fr, w.heap[k]? = some (.cells cs t fr) ∧ t ∈ ts
/-- what a call may turn: new blocks apart, those from B on whose element type is among ts -/
structure Fr (ts : List TypeId) (B : Nat) (w w' : World) : Prop where
  os : w'.os = w.os
  tape : w'.tape = w.tape
  output : w'.output = w.output
  size : w.heap.size ≤ w'.heap.size
  block : ∀ k, k < w.heap.size → w'.heap[k]? = w.heap[k]? ∨ (B ≤ k ∧ Typed ts w k)
section
variable {ts us : List TypeId} {B C : Nat} {w w' w'' : World}
theorem Fr.refl (ts : List TypeId) (B : Nat) (w : World) : Fr ts B w w := ⟨rfl, rfl, rfl, Nat.le_refl _, fun _ _ => .inl rfl⟩
theorem Fr.of_below (h : Below w.heap.size w w') : Fr ts B w w' := ⟨h.os, h.tape, h.output, h.size, fun k hk => .inl (h.block k hk)⟩
theorem Fr.trans (h : Fr ts B w w') (k : Fr ts B w' w'') : Fr ts B w w'' :=
  ⟨k.os.trans h.os, k.tape.trans h.tape, k.output.trans h.output, Nat.le_trans h.size k.size, fun i hi => by
    rcases h.block i hi with e | e
    · rcases k.block i (Nat.lt_of_lt_of_le hi h.size) with e2 | ⟨hb, cs, t, fr, hh, ht⟩
      · exact .inl (e2.trans e)
      · exact .inr ⟨hb, cs, t, fr, e.symm.trans hh, ht⟩
    · exact .inr e⟩
theorem Fr.below (h : Fr ts B w w') : Below (min B w.heap.size) w w' := ⟨h.os, h.tape, h.output, h.size, fun k hk => by
  rcases h.block k (by omega) with e | e
  · exact e
  · omega⟩
theorem Fr.widen (h : Fr ts B w w') (hs : ∀ t ∈ ts, t ∈ us) (hC : C ≤ B) : Fr us C w w' := ⟨h.os, h.tape, h.output, h.size, fun k hk => by
  rcases h.block k hk with e | ⟨hb, cs, t, fr, hh, ht⟩
  · exact .inl e
  · exact .inr ⟨by omega, cs, t, fr, hh, hs t ht⟩⟩
/-- a block that may not be turned -/
theorem Fr.same (h : Fr ts B w w') {k : Nat} {cs : Array Value} {t : TypeId} {fr : Nat × Nat} (hk : w.heap[k]? = some (.cells cs t fr)) (hn : k < B ∨ t ∉ ts) : w'.heap[k]? = some (.cells cs t fr) := by
  have hlt : k < w.heap.size := (Array.getElem?_eq_some_iff.1 hk).1
  rcases h.block k hlt with e | ⟨hb, cs', t', fr', hh, ht⟩
  · rw [e, hk]
  · rw [hk] at hh
    injection hh with hh
    injection hh with _ h2 _
    subst h2
    rcases hn with hn | hn
    · omega
    · exact absurd ht hn
theorem Fr.owns (h : Fr ts B w w') {base : Nat} {e : TypeId} {size : Nat} {v : Value} {n : Nat} {xs : List Value} (ho : w.ownsRow base e size v n xs) (hn : e ∉ ts) : w'.ownsRow base e size v n xs := by
  refine ⟨ho.1, ?_⟩
  rcases ho.2 with h0 | ⟨g, cap, cur, rfl, hb, hg, rest⟩
  · exact .inl h0
  · exact .inr ⟨g, cap, cur, rfl, hb, h.same hg (.inr hn), rest⟩
/-- an owned row that a call has turned, or moved -/
theorem Fr.of_grown {base : Nat} {e : TypeId} {size : Nat} {v : Value} {n : Nat} {xs : List Value} (ho : w.ownsRow base e size v n xs) (hg : w.grownBy w' v.ownBlock) (hB : B ≤ base) (he : e ∈ ts) : Fr ts B w w' :=
  ⟨hg.os, hg.tape, hg.output, hg.size, fun k hk => by
    by_cases hv : v.ownBlock = some k
    · rcases ho.2 with ⟨rfl, _⟩ | ⟨g, cap, cur, rfl, hb, hgg, _⟩
      · cases hv
      · have : g = k := by simpa [Value.ownBlock] using hv
        subst this
        exact .inr ⟨by omega, cur, e, (0, 0), hgg, he⟩
    · exact .inl (hg.block k hk (fun e2 => hv e2.symm))⟩
/-- a store into a block that may be turned -/
theorem Fr.setCell {g i : Nat} {v : Value} {cs : Array Value} {t : TypeId} {fr : Nat × Nat} (hg : w.heap[g]? = some (.cells cs t fr)) (hB : B ≤ g) (ht : t ∈ ts) : Fr ts B w (w.setCell ⟨g, i, none⟩ v) :=
  ⟨rfl, rfl, rfl, by simp [World.setCell], fun k _ => by
    by_cases e : k = g
    · subst e; exact .inr ⟨hB, cs, t, fr, hg, ht⟩
    · exact .inl (heap_setCell_other w _ k v e)⟩
end
end Go.Proofs.Ytacmofhlbebonaa
