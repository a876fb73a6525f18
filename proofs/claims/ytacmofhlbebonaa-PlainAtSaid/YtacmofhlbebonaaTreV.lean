/- A tree with a hole: what a node comes to that is put into it. -/
import Derived.Test.YtacmofhlbebonaaTreM
import Derived.Test.YtacmofhlbebonaaTreO
namespace Go.Proofs.Ytacmofhlbebonaa
open Go.RowKit
set_option maxRecDepth 20000

/-- all blocks but the one of the answer -/
def Ex (b0 : Nat) (W : World) (k : Nat) : Prop := k < W.heap.size ∧ k ≠ b0 + 1 + 1
/-- whatever comes to lie at ⟨eb, eo⟩: what then lies at the block b0 -/
def Hole (b0 : Nat) (W : World) (eb eo : Nat) (f : Nd → Nd) : Prop :=
  ∀ (W' : World) (z : Nd), W.heap.size ≤ W'.heap.size → (∀ k, k < W.heap.size → k ≠ eb → W'.heap[k]? = W.heap[k]?) → (∀ o, (o < eo ∨ eo + 5 < o) → W'.cell? ⟨eb, o, none⟩ = W.cell? ⟨eb, o, none⟩) →
    NodeAt (Ex b0 W') W' ⟨eb, eo, none⟩ z → NodeAt (Ex b0 W') W' ⟨b0, 0, none⟩ (f z)
/-- six cells are written at ⟨g, e⟩ -/
def six (w : World) (g e : Nat) (b0 b1 b2 b3 b4 b5 : Value) : World :=
  (((((w.setCell ⟨g, e, none⟩ b0).setCell ⟨g, e + 1, none⟩ b1).setCell ⟨g, e + 2, none⟩ b2).setCell ⟨g, e + 3, none⟩ b3).setCell ⟨g, e + 4, none⟩ b4).setCell ⟨g, e + 5, none⟩ b5
section
variable {w : World} {g e : Nat} {b0 b1 b2 b3 b4 b5 : Value} {cs : Array Value} {ty : TypeId}
theorem six_row (h : w.heap[g]? = some (.cells cs ty (0, 0))) : (six w g e b0 b1 b2 b3 b4 b5).heap[g]? = some (.cells ((((((cs.setIfInBounds e b0).setIfInBounds (e + 1) b1).setIfInBounds (e + 2) b2).setIfInBounds (e + 3) b3).setIfInBounds (e + 4) b4).setIfInBounds (e + 5) b5) ty (0, 0)) := by
  unfold six
  have e0 := heap_setCell_same w g e _ _ b0 h
  have e1 := heap_setCell_same _ g (e + 1) _ _ b1 e0
  have e2 := heap_setCell_same _ g (e + 2) _ _ b2 e1
  have e3 := heap_setCell_same _ g (e + 3) _ _ b3 e2
  have e4 := heap_setCell_same _ g (e + 4) _ _ b4 e3
  exact heap_setCell_same _ g (e + 5) _ _ b5 e4
theorem six_other {k : Nat} (h : k ≠ g) : (six w g e b0 b1 b2 b3 b4 b5).heap[k]? = w.heap[k]? := by
  unfold six
  exact (heap_setCell_other _ _ k _ h).trans ((heap_setCell_other _ _ k _ h).trans ((heap_setCell_other _ _ k _ h).trans ((heap_setCell_other _ _ k _ h).trans ((heap_setCell_other _ _ k _ h).trans (heap_setCell_other _ _ k _ h)))))
theorem six_size : (six w g e b0 b1 b2 b3 b4 b5).heap.size = w.heap.size := by unfold six; simp
theorem six_below {B : Nat} {v : World} (h : Below B v w) (hg : B ≤ g) : Below B v (six w g e b0 b1 b2 b3 b4 b5) := by
  unfold six
  exact (((((h.setCell hg _).setCell hg _).setCell hg _).setCell hg _).setCell hg _).setCell hg _
theorem six_out (h : w.heap[g]? = some (.cells cs ty (0, 0))) {o : Nat} (ho : o < e ∨ e + 5 < o) : (six w g e b0 b1 b2 b3 b4 b5).cell? ⟨g, o, none⟩ = w.cell? ⟨g, o, none⟩ := by
  rw [cell_of_row _ g o _ _ _ (six_row h), cell_of_row w g o _ _ _ h]
  rw [Array.getElem?_setIfInBounds_ne (by omega), Array.getElem?_setIfInBounds_ne (by omega), Array.getElem?_setIfInBounds_ne (by omega), Array.getElem?_setIfInBounds_ne (by omega), Array.getElem?_setIfInBounds_ne (by omega), Array.getElem?_setIfInBounds_ne (by omega)]
theorem six_in (h : w.heap[g]? = some (.cells cs ty (0, 0))) (hs : e + 5 < cs.size) :
    let W := six w g e b0 b1 b2 b3 b4 b5
    W.cell? ⟨g, e, none⟩ = some b0 ∧ W.cell? ⟨g, e + 1, none⟩ = some b1 ∧ W.cell? ⟨g, e + 2, none⟩ = some b2 ∧ W.cell? ⟨g, e + 3, none⟩ = some b3 ∧ W.cell? ⟨g, e + 4, none⟩ = some b4 ∧ W.cell? ⟨g, e + 5, none⟩ = some b5 := by
  have c := fun o => cell_of_row _ g o _ _ _ (six_row (e := e) (b0 := b0) (b1 := b1) (b2 := b2) (b3 := b3) (b4 := b4) (b5 := b5) h)
  refine ⟨?_, ?_, ?_, ?_, ?_, ?_⟩
  all_goals rw [c]
  all_goals simp only [Array.getElem?_setIfInBounds, Array.size_setIfInBounds]
  · rw [if_neg (by omega), if_neg (by omega), if_neg (by omega), if_neg (by omega), if_neg (by omega), if_pos trivial, if_pos (by omega)]
  · rw [if_neg (by omega), if_neg (by omega), if_neg (by omega), if_neg (by omega), if_pos trivial, if_pos (by omega)]
  · rw [if_neg (by omega), if_neg (by omega), if_neg (by omega), if_pos trivial, if_pos (by omega)]
  · rw [if_neg (by omega), if_neg (by omega), if_pos trivial, if_pos (by omega)]
  · rw [if_neg (by omega), if_pos trivial, if_pos (by omega)]
  · rw [if_pos trivial, if_pos (by omega)]
end
theorem six_with (w : World) (E : Addr) (t : Nd) (l : List Nd) (aA kA : Option Addr) (an ac kn kc : Nat) : Six w E (t.withKids l) aA an ac kA kn kc ↔ Six w E t aA an ac kA kn kc := by cases t; exact Iff.rfl
theorem hole_step {w W W1 W2 : World} {b0 eb eo : Nat} {f : Nd → Nd} {s : Nd} {sA skA aA kA : Option Addr} {sn sc skn skc an ac kn kc gA j : Nat} {ks : List KV} (hb : Below w.heap.size w W) (hb0 : b0 = w.heap.size) (hr : b0 + 1 + 1 < W.heap.size) (hre : eb ≠ b0 + 1 + 1) (hole : Hole b0 W eb eo f) (heb : eb < W.heap.size) (hew : w.heap.size ≤ eb)
    (hO : Owned W W1 (Old w) s aA an ac kA kn kc gA ks) (hv : NodeV (Old w) W sA sn sc skA skn skc s) (s1 : W2.heap.size = W1.heap.size) (s2 : ∀ k, k ≠ eb → W2.heap[k]? = W1.heap[k]?) (s3 : ∀ o, (o < eo ∨ eo + 5 < o) → W2.cell? ⟨eb, o, none⟩ = W1.cell? ⟨eb, o, none⟩)
    (s4 : Six W2 ⟨eb, eo, none⟩ s aA an ac kA kn kc) (hj : j < kn) :
    ∃ g kv cur, kA = some ⟨g, 0, none⟩ ∧ W.heap.size ≤ g ∧ g < W1.heap.size ∧ Hole b0 W2 g (j * 6) (fun z => f (s.withKids (s.kids.set j z))) ∧ ks[j]? = some kv ∧ s.kids[j]? = some kv.t ∧ kv.six W2 ⟨g, j * 6, none⟩ ∧ kv.ok (Old w) W ∧ W2.heap[g]? = some (.cells cur 26 (0, 0)) ∧ j * 6 + 5 < cur.size := by
  have hlen := hO.len
  have hbel := hO.bel
  have hz := hbel.size
  obtain ⟨A, n, c, e, hn, hnc, -, -, hq⟩ := hO.row.shape
  injection e with e1 e2 e3
  subst e1 e2 e3
  obtain ⟨kv, hkv⟩ : ∃ kv, ks[j]? = some kv := ⟨ks[j]'(by omega), List.getElem?_eq_getElem _⟩
  obtain ⟨g, rfl, hg1, hg2, hgs⟩ := hq j kv hkv
  have hge : g ≠ eb := by omega
  obtain ⟨cur, hcur, hcsz⟩ : ∃ cur, W1.heap[g]? = some (.cells cur 26 (0, 0)) ∧ j * 6 + 5 < cur.size := by
    rcases hO.row.2 with ⟨h0, h1⟩ | ⟨g', cap, cur, e, -, hg, hcap, -, hsz, -⟩
    · cases h0
    · injection e with e1 e2 e3
      injection e1 with e1
      injection e1 with e1
      subst e1
      exact ⟨cur, hg, by rw [hsz]; omega⟩
  have hgn : g ≠ gA := hO.ne _ rfl
  have hkt : ∀ (q : Nat) (v : KV), ks[q]? = some v → s.kids[q]? = some v.t := fun q v h => by rw [← hO.map, List.getElem?_map, h]; rfl
  have b12 : ∀ k, k ≠ eb → k < W1.heap.size → W2.heap[k]? = W1.heap[k]? := fun k h _ => s2 k h
  refine ⟨g, kv, cur, rfl, hg1, hg2, ?_, hkv, hkt j kv hkv, hgs.kept (b12 g hge hg2), hO.ok kv (List.mem_of_getElem? hkv), (s2 g hge).trans hcur, hcsz⟩
  intro W' z hzs hother hcell hN
  have hbe : W'.heap[eb]? = W2.heap[eb]? := hother eb (by omega) (fun e => hge e.symm)
  refine hole W' (s.withKids (s.kids.set j z)) (by omega) (fun k hk hne => (hother k (by omega) (by omega)).trans ((s2 k hne).trans (hbel.block k hk))) (fun o ho => ?_) ?_
  · exact (World.cell?_of_block (a := ⟨eb, o, none⟩) hbe).trans ((s3 o ho).trans (World.cell?_of_block (a := ⟨eb, o, none⟩) (hbel.block eb heb)))
  · refine ⟨⟨by show eb < _; omega, hre⟩, aA, an, ac, some ⟨g, 0, none⟩, kn, kc, (six_with ..).2 (s4.kept hbe), ?_⟩
    have hf := hv.facts
    have hga := hO.ga
    have hat : AtsIn (Ex b0 W') W' aA an s.attrs := hO.ats.kept (fun k hk => by subst hk; exact ⟨by omega, by omega⟩) (fun k hk => by subst hk; exact (hother k (by omega) (fun e => hgn e.symm)).trans (s2 k (by omega)))
    have hrow : RowAt (Ex b0 W') W' (some ⟨g, 0, none⟩) 0 (s.kids.set j z) := by
      refine RowAt.of _ 0 fun q t hqt => ⟨_, rfl, ?_⟩
      rw [Nat.zero_add, add_zero_off]
      by_cases hqj : q = j
      · subst hqj
        rw [List.getElem?_set_self (by have := hf.kl; have := (List.getElem?_eq_some_iff.1 (hkt q kv hkv)).1; omega)] at hqt
        injection hqt with hqt
        subst hqt
        exact hN
      · rw [List.getElem?_set_ne (fun e => hqj e.symm)] at hqt
        obtain ⟨v, hvq⟩ : ∃ v, ks[q]? = some v := by
          have := (List.getElem?_eq_some_iff.1 hqt).1
          have hm : ks.length = s.kids.length := by rw [← hO.map, List.length_map]
          exact ⟨ks[q]'(by omega), List.getElem?_eq_getElem _⟩
        have hvt := hkt q v hvq
        rw [hqt] at hvt
        injection hvt with hvt
        subst hvt
        obtain ⟨g', eg, -, -, h6⟩ := hq q v hvq
        injection eg with eg
        injection eg with eg
        subst eg
        have hc6 : ∀ o, o < q * 6 + 6 → q * 6 ≤ o → W'.cell? ⟨g, o, none⟩ = W1.cell? ⟨g, o, none⟩ := fun o h1 h2 => (hcell o (by omega)).trans (World.cell?_of_block (a := ⟨g, o, none⟩) (s2 g hge))
        obtain ⟨t0, t1, t2, t3, t4, t5⟩ := h6
        refine ⟨⟨by show g < _; omega, by show g ≠ _; omega⟩, v.aA, v.an, v.ac, v.kA, v.kn, v.kc, ⟨(hc6 (q * 6) (by omega) (by omega)).trans t0, (hc6 (q * 6 + 1) (by omega) (by omega)).trans t1, (hc6 (q * 6 + 2) (by omega) (by omega)).trans t2, (hc6 (q * 6 + 3) (by omega) (by omega)).trans t3, (hc6 (q * 6 + 4) (by omega) (by omega)).trans t4, (hc6 (q * 6 + 5) (by omega) (by omega)).trans t5⟩, ?_⟩
        refine NodeV.kept (T := Old w) (w := W) (fun k hk => ?_) (fun k hk => ?_) _ _ _ _ _ _ _ (hO.ok v (List.mem_of_getElem? hvq))
        · have hk' : k < w.heap.size := hk
          exact ⟨by omega, by omega⟩
        · have hk' : k < w.heap.size := hk
          exact (hother k (by omega) (by omega)).trans ((s2 k (by omega)).trans (hbel.block k (by omega)))
    have hkl : (s.kids.set j z).length = kn := by
      rw [List.length_set, ← hO.map, List.length_map]
      exact hlen
    have hfi := hf.id
    have hfl := hf.label
    have hft := hf.text
    cases s
    exact NFacts.node ⟨hfi, hfl, hft, hat, hO.anc, hO.acm, hO.anil, hkl, hO.knc, hO.kcm, hO.knil, hrow⟩
end Go.Proofs.Ytacmofhlbebonaa
