/- MgAC: TreBase LtxBase LtxA LtxC LtxD LtxB -/
import Derived.Test.YtpoenlhikanooaaMgAA
import Derived.Test.YtpoenlhikanooaaMgAB
import Derived.Lib.AppendStr
import Derived.Laws.StructEq
set_option linter.all false
/- Words for memory that holds trees; what a call may turn. -/
namespace Go.Proofs.Ytpoenlhikanooaa
set_option linter.unusedVariables false
open Go.RowKit
set_option maxRecDepth 20000

/-- what a call may turn: of the blocks that are there those of S alone -/
structure FrX (S : Nat → Prop) (w w' : World) : Prop where
  os : w'.os = w.os
  tape : w'.tape = w.tape
  output : w'.output = w.output
  size : w.heap.size ≤ w'.heap.size
  block : ∀ k, k < w.heap.size → ¬ S k → w'.heap[k]? = w.heap[k]?
section
variable {S S' : Nat → Prop} {w w' w'' : World}
theorem FrX.refl (S : Nat → Prop) (w : World) : FrX S w w := ⟨rfl, rfl, rfl, Nat.le_refl _, fun _ _ _ => rfl⟩
theorem FrX.of_below (h : Below w.heap.size w w') : FrX S w w' := ⟨h.os, h.tape, h.output, h.size, fun k hk _ => h.block k hk⟩
theorem FrX.trans (h : FrX S w w') (h2 : FrX S' w' w'') (hs : ∀ k, S' k → S k ∨ w.heap.size ≤ k) : FrX S w w'' :=
  ⟨h2.os.trans h.os, h2.tape.trans h.tape, h2.output.trans h.output, Nat.le_trans h.size h2.size, fun k hk hn => (h2.block k (Nat.lt_of_lt_of_le hk h.size) (fun e => by rcases hs k e with e | e; exact hn e; omega)).trans (h.block k hk hn)⟩
theorem FrX.mono (h : FrX S w w') (hs : ∀ k, k < w.heap.size → S k → S' k) : FrX S' w w' := ⟨h.os, h.tape, h.output, h.size, fun k hk hn => h.block k hk (fun e => hn (hs k hk e))⟩
theorem FrX.below {B : Nat} (h : FrX S w w') (hB : ∀ k, S k → B ≤ k) (hb : B ≤ w.heap.size) : Below B w w' := ⟨h.os, h.tape, h.output, h.size, fun k hk => h.block k (by omega) (fun e => by have := hB k e; omega)⟩
theorem FrX.setCell {g i : Nat} {v : Value} (h : FrX S w w') (hg : S g) : FrX S w (w'.setCell ⟨g, i, none⟩ v) :=
  ⟨h.os, h.tape, h.output, by have := h.size; simpa using this, fun k hk hn => (heap_setCell_other w' ⟨g, i, none⟩ k v (fun e => hn (e ▸ hg))).trans (h.block k hk hn)⟩
theorem FrX.alloc (h : FrX S w w') (o : Obj) : FrX S w (w'.alloc o) :=
  ⟨h.os, h.tape, h.output, by have := h.size; simp; omega, fun k hk hn => (Go.heap_alloc_old w' _ (Nat.lt_of_lt_of_le hk h.size)).trans (h.block k hk hn)⟩
theorem FrX.of_grown {row : Option Nat} (h : w.grownBy w' row) (hs : ∀ k, row = some k → S k) : FrX S w w' :=
  ⟨h.os, h.tape, h.output, h.size, fun k hk hn => h.block k hk (fun e => hn (hs k e.symm))⟩
theorem FrX.drew (h : FrX S w w') : FrX S w w'.drew := ⟨h.os, h.tape, h.output, h.size, h.block⟩
theorem FrX.drewN (h : FrX S w w') (n : Nat) : FrX S w (w'.drewN n) := ⟨h.os, h.tape, h.output, h.size, h.block⟩
end
theorem own_kept {w w' : World} {base : Nat} {e : TypeId} {size : Nat} {v : Value} {n : Nat} {xs : List Value} (h : w.ownsRow base e size v n xs) (hk : ∀ k, v.ownBlock = some k → w'.heap[k]? = w.heap[k]?) : w'.ownsRow base e size v n xs := by
  refine ⟨h.1, ?_⟩
  rcases h.2 with h0 | ⟨g, cap, cur, rfl, hb, hg, rest⟩
  · exact .inl h0
  · exact .inr ⟨g, cap, cur, rfl, hb, (hk g rfl).trans hg, rest⟩
theorem own_typed {w : World} {base : Nat} {e : TypeId} {size : Nat} {v : Value} {n : Nat} {xs : List Value} (h : w.ownsRow base e size v n xs) : ∀ k, v.ownBlock = some k → ∃ cs fr, w.heap[k]? = some (.cells cs e fr) := by
  intro k hk
  rcases h.2 with ⟨rfl, _⟩ | ⟨g, cap, cur, rfl, _, hg, _⟩
  · cases hk
  · have : g = k := by simpa [Value.ownBlock] using hk
    subst this
    exact ⟨cur, (0, 0), hg⟩
/-- a row's block is none of another element type -/
theorem own_ne {w : World} {base p : Nat} {e t : TypeId} {size n : Nat} {v : Value} {xs : List Value} {cs : Array Value} {fr : Nat × Nat} (h : w.ownsRow base e size v n xs) (hp : w.heap[p]? = some (.cells cs t fr)) (hne : e ≠ t) : v.ownBlock ≠ some p := by
  intro hk
  obtain ⟨cs', fr', hh⟩ := own_typed h p hk
  rw [hp] at hh
  injection hh with hh
  injection hh with _ h2 _
  exact hne h2.symm

/-! ### numbers -/
/-- a slice of n numbers at A reads as xs -/
def Its (w : World) (A : Option Addr) (n : Nat) (xs : List Int) : Prop :=
  xs.length = n ∧ ∀ k x, xs[k]? = some x → ∃ ad : Addr, A = some ad ∧ ad.block < w.heap.size ∧ w.cell? (ad.add k) = some (.int .i64 x)
/-- numbers of 64 bits -/
def Fit (xs : List Int) : Prop := ∀ x ∈ xs, -9223372036854775808 ≤ x ∧ x ≤ 9223372036854775807
theorem Its.below {w w' : World} {A : Option Addr} {n : Nat} {xs : List Int} (h : Its w A n xs) (hb : Below w.heap.size w w') : Its w' A n xs := by
  refine ⟨h.1, fun k c hk => ?_⟩
  obtain ⟨ad, e, hlt, hc⟩ := h.2 k c hk
  exact ⟨ad, e, Nat.lt_of_lt_of_le hlt hb.size, (hb.cell (p := ad.add k) (by rw [block_add]; exact hlt)).trans hc⟩
theorem Its.at_ {w : World} {A : Option Addr} {n k : Nat} {xs : List Int} (h : Its w A n xs) (hk : k < n) :
    ∃ (ad : Addr) (x : Int), A = some ad ∧ xs[k]? = some x ∧ w.cell? (ad.add k) = some (.int .i64 x) := by
  have hl : k < xs.length := by rw [h.1]; exact hk
  have hg : xs[k]? = some xs[k] := List.getElem?_eq_getElem hl
  obtain ⟨ad, e, _, hc⟩ := h.2 k _ hg
  exact ⟨ad, _, e, hg, hc⟩
theorem Its.none_ (w : World) : Its w none 0 [] := ⟨rfl, fun k c h => by simp at h⟩
theorem Its.none_nil {w : World} {n : Nat} {xs : List Int} (h : Its w none n xs) : xs = [] := by
  cases xs with
  | nil => rfl
  | cons c r =>
    obtain ⟨ad, e, _⟩ := h.2 0 c rfl
    cases e
theorem Its.from_ {w : World} {A : Option Addr} {n lo m : Nat} {xs : List Int} (h : Its w A n xs) (hlm : lo + m = n) : Its w (A.map fun x => x.add lo) m (xs.drop lo) := by
  refine ⟨by rw [List.length_drop, h.1]; omega, fun k c hk => ?_⟩
  rw [List.getElem?_drop] at hk
  obtain ⟨ad, rfl, hb, hc⟩ := h.2 _ _ hk
  exact ⟨ad.add lo, rfl, by rw [block_add]; exact hb, by rw [add_add]; exact hc⟩
/-- a block of numbers reads as them -/
theorem Its.of_block {w : World} {g n : Nat} {cs : Array Value} {t : TypeId} {fr : Nat × Nat} {xs : List Int} (h : w.heap[g]? = some (.cells cs t fr)) (hn : xs.length = n)
    (hc : cs = (xs.map fun x => Value.int .i64 x).toArray) : Its w (some ⟨g, 0, none⟩) n xs := by
  refine ⟨hn, fun k c hk => ?_⟩
  have hlt : g < w.heap.size := (Array.getElem?_eq_some_iff.1 h).1
  have hadd : (⟨g, 0, none⟩ : Addr).add k = ⟨g, k, none⟩ := by unfold Addr.add; split <;> simp_all
  exact ⟨⟨g, 0, none⟩, rfl, hlt, by rw [hadd, cell_of_row w g k cs t fr h, hc]; simp [hk]⟩
theorem Fit.at_ {xs : List Int} (h : Fit xs) {k : Nat} {x : Int} (hk : xs[k]? = some x) : -9223372036854775808 ≤ x ∧ x ≤ 9223372036854775807 := h x (List.mem_of_getElem? hk)

/-- a slice of n attributes at A reads as l; it lies in blocks of T -/
def AtsIn (T : Nat → Prop) (w : World) (A : Option Addr) (n : Nat) (l : List (Txt × Txt)) : Prop :=
  l.length = n ∧ ∀ q x, l[q]? = some x → ∃ ad, A = some ad ∧ T ad.block ∧ x.1.length ≤ maxLen ∧ x.2.length ≤ maxLen ∧
    w.cell? (ad.add (q * 2)) = some (.string ⟨x.1.toArray⟩) ∧ w.cell? ⟨(ad.add (q * 2)).block, (ad.add (q * 2)).off + 1, none⟩ = some (.string ⟨x.2.toArray⟩)
/-- the six cells of a node -/
def Six (w : World) (E : Addr) (t : Nd) (aA : Option Addr) (an ac : Nat) (kA : Option Addr) (kn kc : Nat) : Prop :=
  w.cell? E = some (.int .u64 (t.id : Int)) ∧ w.cell? ⟨E.block, E.off + 1, none⟩ = some (.bool t.leaf) ∧ w.cell? ⟨E.block, E.off + 2, none⟩ = some (.string ⟨t.label.toArray⟩) ∧
    w.cell? ⟨E.block, E.off + 3, none⟩ = some (.slice aA an ac) ∧ w.cell? ⟨E.block, E.off + 4, none⟩ = some (.string ⟨t.text.toArray⟩) ∧ w.cell? ⟨E.block, E.off + 5, none⟩ = some (.slice kA kn kc)
mutual
/-- what a node's two slices lead to is that of the tree -/
def NodeV (T : Nat → Prop) (w : World) (aA : Option Addr) (an ac : Nat) (kA : Option Addr) (kn kc : Nat) : Nd → Prop
  | .mk i _ b ps x ks => i < 18446744073709551616 ∧ b.length ≤ maxLen ∧ x.length ≤ maxLen ∧ AtsIn T w aA an ps ∧ an ≤ ac ∧ ac ≤ maxLen ∧ (aA = none → ac = 0) ∧
    ks.length = kn ∧ kn ≤ kc ∧ kc ≤ maxLen ∧ (kA = none → kc = 0) ∧ RowAt T w kA 0 ks
/-- from the q-th element on, a row of nodes at A reads as these -/
def RowAt (T : Nat → Prop) (w : World) (A : Option Addr) : Nat → List Nd → Prop
  | _, [] => True
  | q, t :: r => (∃ ad aA an ac kA kn kc, A = some ad ∧ T ad.block ∧ Six w (ad.add (q * 6)) t aA an ac kA kn kc ∧ NodeV T w aA an ac kA kn kc t) ∧ RowAt T w A (q + 1) r
end
/-- a node lies at E -/
def NodeAt (T : Nat → Prop) (w : World) (E : Addr) (t : Nd) : Prop := T E.block ∧ ∃ aA an ac kA kn kc, Six w E t aA an ac kA kn kc ∧ NodeV T w aA an ac kA kn kc t
structure NFacts (T : Nat → Prop) (w : World) (aA : Option Addr) (an ac : Nat) (kA : Option Addr) (kn kc : Nat) (t : Nd) : Prop where
  id : t.id < 18446744073709551616
  label : t.label.length ≤ maxLen
  text : t.text.length ≤ maxLen
  ats : AtsIn T w aA an t.attrs
  anc : an ≤ ac
  acm : ac ≤ maxLen
  anil : aA = none → ac = 0
  kl : t.kids.length = kn
  knc : kn ≤ kc
  kcm : kc ≤ maxLen
  knil : kA = none → kc = 0
  row : RowAt T w kA 0 t.kids
section
variable {T T' : Nat → Prop} {w w' : World} {aA kA A : Option Addr} {an ac kn kc : Nat} {t : Nd}
theorem NodeV.facts (h : NodeV T w aA an ac kA kn kc t) : NFacts T w aA an ac kA kn kc t := by
  cases t
  simp only [NodeV] at h
  obtain ⟨h1, h2, h3, h4, h5, h6, h7, h8, h9, h10, h11, h12⟩ := h
  exact ⟨h1, h2, h3, h4, h5, h6, h7, h8, h9, h10, h11, h12⟩
theorem NFacts.node (h : NFacts T w aA an ac kA kn kc t) : NodeV T w aA an ac kA kn kc t := by
  cases t
  simp only [NodeV]
  obtain ⟨h1, h2, h3, h4, h5, h6, h7, h8, h9, h10, h11, h12⟩ := h
  exact ⟨h1, h2, h3, h4, h5, h6, h7, h8, h9, h10, h11, h12⟩
theorem RowAt.at_ : ∀ {l : List Nd} {q0 q : Nat} {t : Nd}, RowAt T w A q0 l → l[q]? = some t → ∃ ad, A = some ad ∧ NodeAt T w (ad.add ((q0 + q) * 6)) t
  | [], q0, q, t, _, h => by simp at h
  | k :: r, q0, 0, t, h, hq => by
    simp only [RowAt] at h
    simp at hq
    subst hq
    obtain ⟨⟨ad, aA, an, ac, kA, kn, kc, e, hT, h6, hv⟩, _⟩ := h
    exact ⟨ad, e, by rw [block_add]; exact hT, aA, an, ac, kA, kn, kc, h6, hv⟩
  | k :: r, q0, q + 1, t, h, hq => by
    simp only [RowAt] at h
    obtain ⟨ad, e, hn⟩ := h.2.at_ (q := q) (by simpa using hq)
    exact ⟨ad, e, by rw [show q0 + (q + 1) = q0 + 1 + q by omega]; exact hn⟩
theorem RowAt.of : ∀ (l : List Nd) (q0 : Nat), (∀ q t, l[q]? = some t → ∃ ad, A = some ad ∧ NodeAt T w (ad.add ((q0 + q) * 6)) t) → RowAt T w A q0 l
  | [], q0, _ => by simp [RowAt]
  | k :: r, q0, h => by
    simp only [RowAt]
    obtain ⟨ad, e, hT, aA, an, ac, kA, kn, kc, h6, hv⟩ := h 0 k rfl
    rw [block_add] at hT
    exact ⟨⟨ad, aA, an, ac, kA, kn, kc, e, hT, h6, hv⟩, RowAt.of r (q0 + 1) fun q t hq => by
      obtain ⟨ad, e, hn⟩ := h (q + 1) t (by simpa using hq)
      exact ⟨ad, e, by rw [show q0 + 1 + q = q0 + (q + 1) by omega]; exact hn⟩⟩
theorem Six.kept {E : Addr} (h : Six w E t aA an ac kA kn kc) (hb : w'.heap[E.block]? = w.heap[E.block]?) : Six w' E t aA an ac kA kn kc := by
  obtain ⟨h1, h2, h3, h4, h5, h6⟩ := h
  have c : ∀ o, w'.cell? ⟨E.block, o, none⟩ = w.cell? ⟨E.block, o, none⟩ := fun o => World.cell?_of_block (w := w) (w' := w') (a := ⟨E.block, o, none⟩) hb
  exact ⟨(World.cell?_of_block (w := w) (w' := w') (a := E) hb).trans h1, (c _).trans h2, (c _).trans h3, (c _).trans h4, (c _).trans h5, (c _).trans h6⟩
theorem AtsIn.kept {n : Nat} {l : List (Txt × Txt)} (hT : ∀ k, T k → T' k) (hk : ∀ k, T k → w'.heap[k]? = w.heap[k]?) (h : AtsIn T w A n l) : AtsIn T' w' A n l := by
  refine ⟨h.1, fun q x hx => ?_⟩
  obtain ⟨ad, e, ht, l1, l2, c1, c2⟩ := h.2 q x hx
  have hb : w'.heap[(ad.add (q * 2)).block]? = w.heap[(ad.add (q * 2)).block]? := by rw [block_add]; exact hk _ ht
  exact ⟨ad, e, hT _ ht, l1, l2, (World.cell?_of_block (w := w) (w' := w') (a := ad.add (q * 2)) hb).trans c1, (World.cell?_of_block (w := w) (w' := w') (a := ⟨(ad.add (q * 2)).block, (ad.add (q * 2)).off + 1, none⟩) hb).trans c2⟩
mutual
theorem NodeV.kept (hT : ∀ k, T k → T' k) (hk : ∀ k, T k → w'.heap[k]? = w.heap[k]?) : ∀ (t : Nd) (aA : Option Addr) (an ac : Nat) (kA : Option Addr) (kn kc : Nat), NodeV T w aA an ac kA kn kc t → NodeV T' w' aA an ac kA kn kc t
  | .mk i l b ps x ks, aA, an, ac, kA, kn, kc, h => by
    simp only [NodeV] at h ⊢
    obtain ⟨h1, h2, h3, h4, h5, h6, h7, h8, h9, h10, h11, h12⟩ := h
    exact ⟨h1, h2, h3, h4.kept hT hk, h5, h6, h7, h8, h9, h10, h11, RowAt.kept hT hk ks kA 0 h12⟩
theorem RowAt.kept (hT : ∀ k, T k → T' k) (hk : ∀ k, T k → w'.heap[k]? = w.heap[k]?) : ∀ (l : List Nd) (A : Option Addr) (q : Nat), RowAt T w A q l → RowAt T' w' A q l
  | [], _, _, _ => by simp [RowAt]
  | t :: r, A, q, h => by
    simp only [RowAt] at h ⊢
    obtain ⟨⟨ad, aA, an, ac, kA, kn, kc, e, ht, h6, hv⟩, hr⟩ := h
    exact ⟨⟨ad, aA, an, ac, kA, kn, kc, e, hT _ ht, h6.kept (by rw [block_add]; exact hk _ ht), NodeV.kept hT hk t aA an ac kA kn kc hv⟩, RowAt.kept hT hk r A (q + 1) hr⟩
end
theorem NodeAt.kept {E : Addr} (hT : ∀ k, T k → T' k) (hk : ∀ k, T k → w'.heap[k]? = w.heap[k]?) (h : NodeAt T w E t) : NodeAt T' w' E t := by
  obtain ⟨ht, aA, an, ac, kA, kn, kc, h6, hv⟩ := h
  exact ⟨hT _ ht, aA, an, ac, kA, kn, kc, h6.kept (hk _ ht), NodeV.kept hT hk t aA an ac kA kn kc hv⟩
/-- the rest of a row -/
theorem RowAt.from_ {ad : Addr} (lo : Nat) : ∀ (l : List Nd) (q : Nat), RowAt T w (some ad) (lo + q) l → RowAt T w (some (ad.add (lo * 6))) q l
  | [], _, _ => by simp [RowAt]
  | t :: r, q, h => by
    simp only [RowAt] at h ⊢
    obtain ⟨⟨ad', aA, an, ac, kA, kn, kc, e, ht, h6, hv⟩, hr⟩ := h
    injection e with e
    subst e
    exact ⟨⟨_, aA, an, ac, kA, kn, kc, rfl, by rw [block_add]; exact ht, by rw [add_add, show lo * 6 + q * 6 = (lo + q) * 6 by omega]; exact h6, hv⟩, RowAt.from_ lo r (q + 1) hr⟩
theorem RowAt.none_nil {q : Nat} {l : List Nd} (h : RowAt T w none q l) : l = [] := by
  cases l with
  | nil => rfl
  | cons t r =>
    simp only [RowAt] at h
    obtain ⟨⟨ad, _, _, _, _, _, _, e, _⟩, _⟩ := h
    cases e
theorem zero_node : NodeV T w none 0 0 none 0 0 Nd.zero := by
  refine NFacts.node ⟨by decide, Nat.zero_le _, Nat.zero_le _, ⟨rfl, fun q x h => by simp [Nd.zero, Nd.attrs] at h⟩, Nat.le_refl _, Nat.zero_le _, fun _ => rfl, rfl, Nat.le_refl _, Nat.zero_le _, fun _ => rfl, ?_⟩
  simp [Nd.zero, Nd.kids, RowAt]
theorem AtsIn.at_ {n q : Nat} {l : List (Txt × Txt)} (h : AtsIn T w A n l) (hq : q < n) : ∃ ad x, A = some ad ∧ l[q]? = some x ∧ T ad.block ∧ x.1.length ≤ maxLen ∧ x.2.length ≤ maxLen ∧
    w.cell? (ad.add (q * 2)) = some (.string ⟨x.1.toArray⟩) ∧ w.cell? ⟨(ad.add (q * 2)).block, (ad.add (q * 2)).off + 1, none⟩ = some (.string ⟨x.2.toArray⟩) := by
  have hl : q < l.length := by rw [h.1]; exact hq
  have hg : l[q]? = some l[q] := List.getElem?_eq_getElem hl
  obtain ⟨ad, e, hb, hc⟩ := h.2 q _ hg
  exact ⟨ad, _, e, hg, hb, hc⟩
end
/-- a node's value -/
def val6 (t : Nd) (aA : Option Addr) (an ac : Nat) (kA : Option Addr) (kn kc : Nat) : Array Value :=
  #[.int .u64 (t.id : Int), .bool t.leaf, .string ⟨t.label.toArray⟩, .slice aA an ac, .string ⟨t.text.toArray⟩, .slice kA kn kc]
/-- the blocks that are there -/
def Old (w : World) (k : Nat) : Prop := k < w.heap.size
theorem old_below {w w' : World} (h : Below w.heap.size w w') : (∀ k, Old w k → Old w' k) ∧ ∀ k, Old w k → w'.heap[k]? = w.heap[k]? := ⟨fun _ hk => Nat.lt_of_lt_of_le hk h.size, fun k hk => h.block k hk⟩
theorem NodeV.below {w w' : World} {t : Nd} {aA kA : Option Addr} {an ac kn kc : Nat} (h : NodeV (Old w) w aA an ac kA kn kc t) (hb : Below w.heap.size w w') : NodeV (Old w') w' aA an ac kA kn kc t := h.kept (old_below hb).1 (old_below hb).2
theorem NodeAt.below {w w' : World} {t : Nd} {E : Addr} (h : NodeAt (Old w) w E t) (hb : Below w.heap.size w w') : NodeAt (Old w') w' E t := h.kept (old_below hb).1 (old_below hb).2
end Go.Proofs.Ytpoenlhikanooaa
/- Words for memory that holds edits: a slice reads as pieces, a row of pieces of the call's own. -/
namespace Go.Proofs.Ytpoenlhikanooaa.P5
set_option linter.unusedVariables false
open Go.RowKit
set_option maxRecDepth 20000

/-- a piece as it came in -/
structure IP where
  keep : Int
  drop : Int
  put : List UInt8
def tx (l : List UInt8) : Value := .string ⟨l.toArray⟩
/-- what stands at E is the piece x -/
def PieceAt (w : World) (E : Addr) (x : IP) : Prop :=
  -9223372036854775808 ≤ x.keep ∧ x.keep ≤ 9223372036854775807 ∧ -9223372036854775808 ≤ x.drop ∧ x.drop ≤ 9223372036854775807 ∧ x.put.length ≤ maxLen ∧
    w.cell? E = some (.int .i64 x.keep) ∧ w.cell? ⟨E.block, E.off + 1, none⟩ = some (.int .i64 x.drop) ∧ w.cell? ⟨E.block, E.off + 2, none⟩ = some (.string ⟨x.put.toArray⟩)
/-- a slice of n pieces reads as xs -/
def PcsIn (w : World) (A : Option Addr) (n : Nat) (xs : List IP) : Prop := xs.length = n ∧ ∀ q x, xs[q]? = some x → ∃ ad, A = some ad ∧ ad.block < w.heap.size ∧ PieceAt w (ad.add (q * 3)) x
theorem PieceAt.where_ {w w' : World} {E : Addr} {x : IP} (h : PieceAt w E x) (hb : w'.heap[E.block]? = w.heap[E.block]?) : PieceAt w' E x := by
  obtain ⟨h1, h2, h3, h4, h5, h6, h7, h8⟩ := h
  exact ⟨h1, h2, h3, h4, h5, (World.cell?_of_block (w := w) (w' := w') (a := E) hb).trans h6, (World.cell?_of_block (w := w) (w' := w') (a := ⟨E.block, E.off + 1, none⟩) hb).trans h7, (World.cell?_of_block (w := w) (w' := w') (a := ⟨E.block, E.off + 2, none⟩) hb).trans h8⟩
theorem PcsIn.where_ {w w' : World} {A : Option Addr} {n : Nat} {xs : List IP} (h : PcsIn w A n xs) (hs : w.heap.size ≤ w'.heap.size) (hk : ∀ ad, A = some ad → 0 < n → w'.heap[ad.block]? = w.heap[ad.block]?) : PcsIn w' A n xs := by
  refine ⟨h.1, fun q x hx => ?_⟩
  obtain ⟨ad, e, hl, hc⟩ := h.2 q x hx
  refine ⟨ad, e, Nat.lt_of_lt_of_le hl hs, hc.where_ ?_⟩
  rw [block_add]
  have h0 := (List.getElem?_eq_some_iff.1 hx).1
  have := h.1
  exact hk ad e (by omega)
theorem PcsIn.below {w w' : World} {A : Option Addr} {n : Nat} {xs : List IP} (h : PcsIn w A n xs) (hb : Below w.heap.size w w') : PcsIn w' A n xs := by
  refine ⟨h.1, fun q x hx => ?_⟩
  obtain ⟨ad, e, hl, hc⟩ := h.2 q x hx
  exact ⟨ad, e, Nat.lt_of_lt_of_le hl hb.size, hc.where_ (hb.block _ (by rw [block_add]; exact hl))⟩
theorem PcsIn.nil (w : World) : PcsIn w none 0 [] := ⟨rfl, fun q x h => by simp at h⟩
theorem PcsIn.none_nil {w : World} {n : Nat} {xs : List IP} (h : PcsIn w none n xs) : xs = [] := by
  cases xs with
  | nil => rfl
  | cons c r =>
    obtain ⟨ad, e, _⟩ := h.2 0 c rfl
    cases e
theorem PcsIn.at_ {w : World} {A : Option Addr} {n q : Nat} {xs : List IP} (h : PcsIn w A n xs) (hq : q < n) : ∃ ad x, A = some ad ∧ xs[q]? = some x ∧ ad.block < w.heap.size ∧ PieceAt w (ad.add (q * 3)) x := by
  have hl : q < xs.length := by rw [h.1]; exact hq
  have hg : xs[q]? = some xs[q] := List.getElem?_eq_getElem hl
  obtain ⟨ad, e, hb, hc⟩ := h.2 q _ hg
  exact ⟨ad, _, e, hg, hb, hc⟩

/-! ### pieces as values -/
def ipc (p : Ltx.Pc) : IP := ⟨(p.keep : Int), (p.drop : Int), p.put⟩
def cellsOf (p : Ltx.Pc) : List Value := [.int .i64 (p.keep : Int), .int .i64 (p.drop : Int), .string ⟨p.put.toArray⟩]
theorem cells_len (l : List Ltx.Pc) : (l.flatMap cellsOf).length = l.length * 3 := by
  induction l with
  | nil => rfl
  | cons p r ih => rw [List.flatMap_cons, List.length_append, ih]; simp [cellsOf]; omega
theorem cells_at : ∀ (l : List Ltx.Pc) (q : Nat) (p : Ltx.Pc), l[q]? = some p → ∀ j v, (cellsOf p)[j]? = some v → (l.flatMap cellsOf)[q * 3 + j]? = some v
  | a :: r, 0, p, h, j, v, hj => by
    simp at h
    subst h
    have hjl := (List.getElem?_eq_some_iff.1 hj).1
    rw [List.flatMap_cons, Nat.zero_mul, Nat.zero_add, List.getElem?_append_left hjl, hj]
  | a :: r, q + 1, p, h, j, v, hj => by
    have ih := cells_at r q p (by simpa using h) j v hj
    rw [List.flatMap_cons, List.getElem?_append_right (by simp [cellsOf]; omega)]
    rw [show (q + 1) * 3 + j - (cellsOf a).length = q * 3 + j by simp [cellsOf]; omega]
    exact ih
/-- pieces whose numbers int holds -/
def Low (l : List Ltx.Pc) : Prop := ∀ p ∈ l, p.keep ≤ 4000000000 ∧ p.drop ≤ 4000000000 ∧ p.put.length ≤ 4000000000
/-- the slice value v owns the pieces l -/
def OwnP (base : Nat) (w : World) (v : Value) (l : List Ltx.Pc) : Prop := w.ownsRow base 66 3 v l.length (l.flatMap cellsOf)
theorem OwnP.nil_ (base : Nat) (w : World) : OwnP base w (.slice none 0 0) [] := World.ownsRow_nil w base _ _
theorem Try.infoP : (Try.prog.info? 66).map (fun i => (i.zero, i.size, i.bytes)) = some (some (.agg #[.int .i64 0, .int .i64 0, .string ⟨#[]⟩]), 3, 32) := by kernel_rfl
/-- its shape, and that it reads as those pieces -/
theorem OwnP.shape {base : Nat} {w : World} {v : Value} {l : List Ltx.Pc} (h : OwnP base w v l) (hl : Low l) : ∃ (A : Option Addr) (n c : Nat), v = .slice A n c ∧ n = l.length ∧ n ≤ c ∧ c ≤ maxLen ∧ PcsIn w A n (l.map ipc) ∧ (A = none → c = 0) := by
  obtain ⟨A, c, rfl, h1, h2, h3, h4⟩ := own_form h
  refine ⟨A, _, c, rfl, rfl, h1, h2, ⟨by simp, fun q x hx => ?_⟩, h3⟩
  rw [List.getElem?_map] at hx
  cases hp : l[q]? with
  | none => rw [hp] at hx; cases hx
  | some p =>
    rw [hp] at hx
    simp only [Option.map_some, Option.some.injEq] at hx
    subst hx
    have hq := (List.getElem?_eq_some_iff.1 hp).1
    obtain ⟨g, rfl, hb, hlt, hc⟩ := h4 (by omega)
    have hm := hl p (List.mem_of_getElem? hp)
    have c0 := hc _ _ (cells_at l q p hp 0 _ rfl)
    have c1 := hc _ _ (cells_at l q p hp 1 _ rfl)
    have c2 := hc _ _ (cells_at l q p hp 2 _ rfl)
    have hadd : (⟨g, 0, none⟩ : Addr).add (q * 3) = ⟨g, q * 3, none⟩ := by unfold Addr.add; split <;> simp_all
    refine ⟨_, rfl, hlt, ?_⟩
    rw [hadd]
    refine ⟨?_, ?_, ?_, ?_, ?_, c0, c1, c2⟩
    · show -9223372036854775808 ≤ (p.keep : Int); omega
    · show (p.keep : Int) ≤ 9223372036854775807; omega
    · show -9223372036854775808 ≤ (p.drop : Int); omega
    · show (p.drop : Int) ≤ 9223372036854775807; omega
    · show p.put.length ≤ maxLen; unfold maxLen; omega
end Go.Proofs.Ytpoenlhikanooaa.P5
/- Is an edit right, is it small, are two the same: the program's, the document's, the law's. -/
namespace Go.Proofs.Ytpoenlhikanooaa.P5
set_option linter.unusedVariables false
open Go.RowKit
set_option maxRecDepth 20000

def mayB (z : Int) : Bool := decide (0 ≤ z ∧ z ≤ 1048576)
def okB (x : IP) : Bool := mayB x.keep && mayB x.drop
def putsI : List IP → Nat
  | [] => 0
  | x :: r => x.put.length + putsI r
def rightV (xs : List IP) : Bool := decide (xs.length ≤ 4096) && xs.all okB && decide (putsI xs ≤ 1048576)
theorem putsI_take : ∀ (xs : List IP) (q : Nat) (x : IP), xs[q]? = some x → putsI (xs.take (q + 1)) = putsI (xs.take q) + x.put.length
  | [], q, x, h => by simp at h
  | y :: r, 0, x, h => by
    simp at h
    subst h
    simp [putsI]
  | y :: r, q + 1, x, h => by
    have ih := putsI_take r q x (by simpa using h)
    rw [List.take_succ_cons, List.take_succ_cons, putsI, putsI, ih]
    omega
theorem putsI_le : ∀ (xs : List IP) (q : Nat), putsI (xs.take q) ≤ putsI xs
  | [], q => by simp
  | y :: r, 0 => by simp [putsI]
  | y :: r, q + 1 => by
    have ih := putsI_le r q
    rw [List.take_succ_cons, putsI, putsI]
    omega
theorem all_take_succ {f : IP → Bool} {xs : List IP} {q : Nat} {x : IP} (h : xs[q]? = some x) (h1 : (xs.take q).all f = true) (h2 : f x = true) : (xs.take (q + 1)).all f = true := by
  rw [List.take_add_one, List.all_append, h1, h]
  simp [h2]
theorem not_right_of {xs : List IP} {x : IP} (h : x ∈ xs) (hx : okB x = false) : rightV xs = false := by
  unfold rightV
  have : xs.all okB = false := by
    rw [List.all_eq_false]
    exact ⟨x, h, by simp [hx]⟩
  rw [this]
  simp
theorem not_right_puts {xs : List IP} (h : 1048576 < putsI xs) : rightV xs = false := by
  unfold rightV
  have : decide (putsI xs ≤ 1048576) = false := decide_eq_false (by omega)
  rw [this, Bool.and_false]
theorem not_right_len {xs : List IP} (h : 4096 < xs.length) : rightV xs = false := by
  unfold rightV
  have : decide (xs.length ≤ 4096) = false := decide_eq_false (by omega)
  rw [this]
  simp
theorem right_of {xs : List IP} (h1 : xs.length ≤ 4096) (h2 : xs.all okB = true) (h3 : putsI xs ≤ 1048576) : rightV xs = true := by
  unfold rightV
  rw [decide_eq_true h1, h2, decide_eq_true h3]
  rfl

theorem may_yes (z : Int) (w : World) (h : mayB z = true) : Calls Try.prog 155 #[.int .i64 z] w fun e w' => e = .returned (.bool true) ∧ w = w' := by
  have hz : 0 ≤ z ∧ z ≤ 1048576 := by simpa [mayB] using h
  obtain ⟨h1, h2⟩ := hz
  clear h
  go_enter Try.func155, Try.ntmps155
  go_wp2
  go_ret
  exact ⟨rfl, rfl⟩
theorem may_no (z : Int) (w : World) (h : mayB z = false) : Calls Try.prog 155 #[.int .i64 z] w fun e w' => e = .returned (.bool false) ∧ w = w' := by
  have hz : ¬ (0 ≤ z ∧ z ≤ 1048576) := by simpa [mayB] using h
  clear h
  by_cases h1 : 0 ≤ z
  · have h2 : 1048576 < z := by omega
    have h2' : ¬ z ≤ 1048576 := by omega
    clear hz
    go_enter Try.func155, Try.ntmps155
    go_wp2
    go_ret
    exact ⟨rfl, rfl⟩
  · clear hz
    go_enter Try.func155, Try.ntmps155
    go_wp2
    go_ret
    exact ⟨rfl, rfl⟩
set_option maxHeartbeats 2000000 in
theorem right_any (w : World) (A : Option Addr) (n c : Nat) (xs : List IP) (hx : PcsIn w A n xs) (hn : n ≤ maxLen) :
    Calls Try.prog 119 #[.slice A n c] w fun e w' => e = .returned (.bool (rightV xs)) ∧ Below w.heap.size w w' := by
  have hx' := Lib.hid hx
  have hlen := hx.1
  clear hx
  have hn' : (n : Int) ≤ 9223372036854775807 := by unfold maxLen at hn; omega
  by_cases h60 : 4096 < n
  · have hv := Lib.hid (not_right_len (xs := xs) (by omega))
    have hI : (4096 : Int) < (n : Int) := by omega
    clear h60 hlen
    go_enter Try.func119, Try.ntmps119
    go_wp2_with fail
    go_ret
    exact ⟨by rw [hv.out]; rfl, Below.refl _ _⟩
  · have hI : ¬ (4096 : Int) < (n : Int) := by omega
    go_enter Try.func119, Try.ntmps119
    go_wp2_with fail
    go_loopw [3, 11] (fun s k wr => ∃ q : Nat, q ≤ n ∧ k = .int .i64 (q : Int) ∧ s = .int .i64 (1048576 - (putsI (xs.take q) : Int)) ∧ putsI (xs.take q) ≤ 1048576 ∧ (xs.take q).all okB = true ∧ Below w.heap.size w wr) (fun s k _ => n - (intOf k).toNat)
    case atStart => exact ⟨0, Nat.zero_le _, rfl, by simp [putsI], by simp [putsI], rfl, Below.refl _ _⟩
    case round =>
      obtain ⟨q, hq, rfl, rfl, hs, hall, hbel⟩ := hrel
      by_cases h1 : q < n
      · have h1I : (q : Int) < (n : Int) := by omega
        obtain ⟨ad, x, rfl, hxq, hlt, hp⟩ := (hx'.out.below hbel).at_ h1
        obtain ⟨x1, x2, x3, x4, x5, x6, x7, x8⟩ := hp
        have hst := putsI_take xs q x hxq
        have hle := putsI_le xs (q + 1)
        obtain ⟨kp, dr, pu⟩ := x
        simp only at *
        unfold maxLen at x5
        generalize hS : putsI (xs.take q) = s at *
        have hmem : (⟨kp, dr, pu⟩ : IP) ∈ xs := List.mem_of_getElem? hxq
        by_cases hok : mayB kp = true ∧ mayB dr = true
        · obtain ⟨hk, hd⟩ := hok
          have hokx : okB ⟨kp, dr, pu⟩ = true := by unfold okB; rw [hk, hd]; rfl
          have hall' := Lib.hid (all_take_succ hxq hall hokx)
          have hbel' := Lib.hid hbel
          by_cases hroom : s + pu.length ≤ 1048576
          · have hI : ¬ (1048576 : Int) - (s : Int) - (pu.length : Int) < 0 := by omega
            have hst' := Lib.hid hst
            clear hS hst hle hall hokx hbel hxq hmem hlen
            go_wp2_with (go_at_call 155; first | (refine (may_yes _ _ hk).mono ?_; rintro e w' ⟨rfl, rfl⟩) | (refine (may_yes _ _ hd).mono ?_; rintro e w' ⟨rfl, rfl⟩))
            go_roundw
            case rel => exact ⟨q + 1, by omega, by go_num, by rw [hst'.out]; go_num, by rw [hst'.out]; exact hroom, hall'.out, hbel'.out.alloc hbel'.out.size _⟩
            case measure => simp [intOf]; omega
          · have hI : (1048576 : Int) - (s : Int) - (pu.length : Int) < 0 := by omega
            have hv := Lib.hid (not_right_puts (xs := xs) (by omega))
            clear hS hst hle hall hokx hbel hxq hmem hlen hall'
            go_wp2_with (go_at_call 155; first | (refine (may_yes _ _ hk).mono ?_; rintro e w' ⟨rfl, rfl⟩) | (refine (may_yes _ _ hd).mono ?_; rintro e w' ⟨rfl, rfl⟩))
            go_ret
            exact ⟨by rw [hv.out]; rfl, hbel'.out.alloc hbel'.out.size _⟩
        · have hokx : okB ⟨kp, dr, pu⟩ = false := by
            unfold okB
            cases hk : mayB kp <;> cases hd : mayB dr <;> simp_all
          have hv := Lib.hid (not_right_of hmem hokx)
          have hbel' := Lib.hid hbel
          clear hS hst hle hall hokx hbel hxq hmem hlen
          cases hk : mayB kp with
          | false =>
            clear hok
            go_wp2_with (go_at_call 155; refine (may_no _ _ hk).mono ?_; rintro e w' ⟨rfl, rfl⟩)
            go_ret
            exact ⟨by rw [hv.out]; rfl, hbel'.out.alloc hbel'.out.size _⟩
          | true =>
            have hd : mayB dr = false := by
              cases hd : mayB dr with
              | false => rfl
              | true => exact absurd ⟨hk, hd⟩ hok
            clear hok
            go_wp2_with (go_at_call 155; first | (refine (may_yes _ _ hk).mono ?_; rintro e w' ⟨rfl, rfl⟩) | (refine (may_no _ _ hd).mono ?_; rintro e w' ⟨rfl, rfl⟩))
            go_ret
            exact ⟨by rw [hv.out]; rfl, hbel'.out.alloc hbel'.out.size _⟩
      · have hqn : q = n := by omega
        have h1I : ¬ (q : Int) < (n : Int) := by omega
        have hv := Lib.hid (right_of (xs := xs) (by omega) (by rw [hqn, ← hlen, List.take_length] at hall; exact hall) (by rw [hqn, ← hlen, List.take_length] at hs; exact hs))
        have hbel' := Lib.hid hbel
        clear hlen hs hall hbel hqn h1
        go_wp2_with fail
        go_ret
        exact ⟨by rw [hv.out]; rfl, hbel'.out⟩
end Go.Proofs.Ytpoenlhikanooaa.P5
/- The program's draft: words. -/
namespace Go.Proofs.Ytpoenlhikanooaa.P5
set_option linter.unusedVariables false
open Go.RowKit
set_option maxRecDepth 20000
open Ltx (Pc)

/-- the two lists have the same gaps, and keep as much -/
def Eqv (l m : List Pc) : Prop := Ltx.keeps l = Ltx.keeps m ∧ ∀ j, Ltx.gap l j = Ltx.gap m j
theorem Eqv.refl (l : List Pc) : Eqv l l := ⟨rfl, fun _ => rfl⟩
theorem Eqv.symm {l m : List Pc} (h : Eqv l m) : Eqv m l := ⟨h.1.symm, fun j => (h.2 j).symm⟩
theorem Eqv.trans {l m k : List Pc} (h : Eqv l m) (h2 : Eqv m k) : Eqv l k := ⟨h.1.trans h2.1, fun j => (h.2 j).trans (h2.2 j)⟩
theorem Eqv.app {l m l' m' : List Pc} (h : Eqv l m) (h2 : Eqv l' m') : Eqv (l ++ l') (m ++ m') := by
  refine ⟨by rw [Ltx.keeps_append, Ltx.keeps_append, h.1, h2.1], fun j => ?_⟩
  rw [Ltx.gap_append, Ltx.gap_append, h.1, h.2 j, h2.2 0, h2.2 (j - Ltx.keeps m)]
theorem gap_one (k d : Nat) (t : List UInt8) (j : Nat) : Ltx.gap [⟨k, d, t⟩] j = if j = k then (t, d) else ([], 0) := by
  unfold Ltx.gap
  dsimp only
  split
  · rw [if_neg (by omega)]
  · split
    · simp [Ltx.gap]
    · rfl
/-- put, then drop: one piece -/
theorem eqv_one {k d k' d' : Nat} {t t' : List UInt8} (h : k' = 0) : Eqv [⟨k, d, t⟩, ⟨k', d', t'⟩] [⟨k, d + d', t ++ t'⟩] := by
  subst h
  refine ⟨by simp [Ltx.keeps], fun j => ?_⟩
  have hk : Ltx.keeps [(⟨k, d, t⟩ : Pc)] = k := by simp [Ltx.keeps]
  rw [show ([⟨k, d, t⟩, ⟨0, d', t'⟩] : List Pc) = [⟨k, d, t⟩] ++ [⟨0, d', t'⟩] from rfl, Ltx.gap_append, hk, gap_one, gap_one, gap_one, gap_one]
  by_cases h1 : j < k
  · have h2 : ¬ j = k := by omega
    simp [h1, h2]
  · by_cases h2 : j = k
    · simp [h2]
    · have h3 : ¬ j - k = 0 := by omega
      simp [h1, h2, h3]
/-- a piece that neither puts nor drops, kept with the next one -/
theorem eqv_keep {k k' d : Nat} {t : List UInt8} : Eqv [⟨k, 0, []⟩, ⟨k', d, t⟩] [⟨k + k', d, t⟩] := by
  refine ⟨by simp [Ltx.keeps], fun j => ?_⟩
  have hk : Ltx.keeps [(⟨k, 0, []⟩ : Pc)] = k := by simp [Ltx.keeps]
  rw [show ([⟨k, 0, []⟩, ⟨k', d, t⟩] : List Pc) = [⟨k, 0, []⟩] ++ [⟨k', d, t⟩] from rfl, Ltx.gap_append, hk, gap_one, gap_one, gap_one, gap_one]
  by_cases h1 : j < k
  · have h2 : ¬ j = k := by omega
    have h3 : ¬ j = k + k' := by omega
    simp [h1, h2, h3]
  · by_cases h2 : j = k
    · subst h2
      by_cases h3 : k' = 0
      · subst h3; simp
      · have h4 : ¬ 0 = k' := fun e => h3 e.symm
        simp [h3, h4]
    · by_cases h3 : j - k = k'
      · have h4 : j = k + k' := by omega
        rw [if_neg h1, if_neg h2, if_pos h3, if_pos h4]
      · have h4 : ¬ j = k + k' := by omega
        rw [if_neg h1, if_neg h2, if_neg h3, if_neg h4]
theorem eqv_nil : Eqv [⟨0, 0, []⟩] [] := ⟨rfl, fun j => by rw [gap_one]; split <;> rfl⟩
/-- a draft, as a value: what is done, and the piece that it is at -/
structure DV where
  done : List Pc
  kept : Nat
  text : List UInt8
  gone : Nat
def DV.last (d : DV) : Pc := ⟨d.kept, d.gone, d.text⟩
/-- it stands for what was put, dropped and kept up to now -/
structure DV.For (d : DV) (raw : List Pc) : Prop where
  eqv : Eqv (d.done ++ [d.last]) raw
  nm : Ltx.Normal d.done
  at_ : d.done = [] ∨ d.kept ≠ 0
def DV.fresh : DV := ⟨[], 0, [], 0⟩
theorem DV.For.fresh : DV.For DV.fresh [] := ⟨eqv_nil, trivial, .inl rfl⟩
theorem DV.For.put {d : DV} {raw : List Pc} (h : d.For raw) (t : List UInt8) : DV.For { d with text := d.text ++ t } (raw ++ [⟨0, 0, t⟩]) := by
  refine ⟨Eqv.trans ?_ (h.eqv.app (Eqv.refl _)), h.nm, h.at_⟩
  rw [List.append_assoc]
  exact (Eqv.refl _).app (eqv_one rfl).symm
theorem DV.For.drop {d : DV} {raw : List Pc} (h : d.For raw) (n : Nat) : DV.For { d with gone := d.gone + n } (raw ++ [⟨0, n, []⟩]) := by
  refine ⟨Eqv.trans ?_ (h.eqv.app (Eqv.refl _)), h.nm, h.at_⟩
  rw [List.append_assoc]
  have := (eqv_one (k := d.kept) (d := d.gone) (t := d.text) (k' := 0) (d' := n) (t' := []) rfl).symm
  rw [List.append_nil] at this
  exact (Eqv.refl _).app this
def DV.fin (d : DV) : DV := if d.text = [] ∧ d.gone = 0 then d else ⟨d.done ++ [d.last], 0, [], 0⟩
theorem DV.For.keep {d : DV} {raw : List Pc} (h : d.For raw) (n : Nat) (hn : 0 < n) : DV.For { d.fin with kept := d.fin.kept + n } (raw ++ [⟨n, 0, []⟩]) := by
  unfold DV.fin
  by_cases hi : d.text = [] ∧ d.gone = 0
  · rw [if_pos hi]
    refine ⟨Eqv.trans ?_ (h.eqv.app (Eqv.refl _)), h.nm, .inr (by show d.kept + n ≠ 0; omega)⟩
    rw [List.append_assoc]
    refine (Eqv.refl _).app ?_
    unfold DV.last
    dsimp only
    rw [hi.1, hi.2]
    exact eqv_keep.symm
  · rw [if_neg hi]
    refine ⟨?_, ?_, .inr (by show 0 + n ≠ 0; omega)⟩
    · show Eqv ((d.done ++ [d.last]) ++ [⟨0 + n, 0, []⟩]) _
      rw [Nat.zero_add]
      exact h.eqv.app (Eqv.refl _)
    · show Ltx.Normal (d.done ++ [d.last])
      refine Ltx.normal_snoc h.nm ?_ h.at_
      unfold Ltx.idle DV.last
      cases ht : d.text with
      | nil =>
        have : d.gone ≠ 0 := fun e => hi ⟨ht, e⟩
        simp [this]
      | cons a b => simp
end Go.Proofs.Ytpoenlhikanooaa.P5
/- The program's draft: put, drop. -/
namespace Go.Proofs.Ytpoenlhikanooaa.P5
set_option linter.unusedVariables false
open Go.RowKit
set_option maxRecDepth 20000
open Ltx (Pc)

/-- what a call may turn: of the blocks that are there those of S alone -/
structure FrX (S : Nat → Prop) (w w' : World) : Prop where
  os : w'.os = w.os
  tape : w'.tape = w.tape
  output : w'.output = w.output
  size : w.heap.size ≤ w'.heap.size
  block : ∀ k, k < w.heap.size → ¬ S k → w'.heap[k]? = w.heap[k]?
section
variable {S S' : Nat → Prop} {w w' w'' : World}
theorem FrX.refl (S : Nat → Prop) (w : World) : FrX S w w := ⟨rfl, rfl, rfl, Nat.le_refl _, fun _ _ _ => rfl⟩
theorem FrX.of_below (h : Below w.heap.size w w') : FrX S w w' := ⟨h.os, h.tape, h.output, h.size, fun k hk _ => h.block k hk⟩
theorem FrX.trans (h : FrX S w w') (h2 : FrX S' w' w'') (hs : ∀ k, S' k → S k ∨ w.heap.size ≤ k) : FrX S w w'' :=
  ⟨h2.os.trans h.os, h2.tape.trans h.tape, h2.output.trans h.output, Nat.le_trans h.size h2.size, fun k hk hn => (h2.block k (Nat.lt_of_lt_of_le hk h.size) (fun e => by rcases hs k e with e | e; exact hn e; omega)).trans (h.block k hk hn)⟩
theorem FrX.mono (h : FrX S w w') (hs : ∀ k, k < w.heap.size → S k → S' k) : FrX S' w w' := ⟨h.os, h.tape, h.output, h.size, fun k hk hn => h.block k hk (fun e => hn (hs k hk e))⟩
theorem FrX.below {B : Nat} (h : FrX S w w') (hB : ∀ k, S k → B ≤ k) (hb : B ≤ w.heap.size) : Below B w w' := ⟨h.os, h.tape, h.output, h.size, fun k hk => h.block k (by omega) (fun e => by have := hB k e; omega)⟩
theorem FrX.setCell {g i : Nat} {v : Value} (h : FrX S w w') (hg : S g) : FrX S w (w'.setCell ⟨g, i, none⟩ v) :=
  ⟨h.os, h.tape, h.output, by have := h.size; simpa using this, fun k hk hn => (heap_setCell_other w' ⟨g, i, none⟩ k v (fun e => hn (e ▸ hg))).trans (h.block k hk hn)⟩
theorem FrX.alloc (h : FrX S w w') (o : Obj) : FrX S w (w'.alloc o) :=
  ⟨h.os, h.tape, h.output, by have := h.size; simp; omega, fun k hk hn => (Go.heap_alloc_old w' _ (Nat.lt_of_lt_of_le hk h.size)).trans (h.block k hk hn)⟩
theorem FrX.of_grown {row : Option Nat} (h : w.grownBy w' row) (hs : ∀ k, row = some k → S k) : FrX S w w' :=
  ⟨h.os, h.tape, h.output, h.size, fun k hk hn => h.block k hk (fun e => hn (hs k e.symm))⟩
theorem FrX.drew (h : FrX S w w') (n : Nat) : FrX S w (w'.drewN n) := ⟨h.os, h.tape, h.output, h.size, h.block⟩
end
theorem own_kept {w w' : World} {base : Nat} {e : TypeId} {size : Nat} {v : Value} {n : Nat} {xs : List Value} (h : w.ownsRow base e size v n xs) (hk : ∀ k, v.ownBlock = some k → w'.heap[k]? = w.heap[k]?) : w'.ownsRow base e size v n xs := by
  refine ⟨h.1, ?_⟩
  rcases h.2 with h0 | ⟨g, cap, cur, rfl, hb, hg, rest⟩
  · exact .inl h0
  · exact .inr ⟨g, cap, cur, rfl, hb, (hk g rfl).trans hg, rest⟩
theorem own_typed {w : World} {base : Nat} {e : TypeId} {size : Nat} {v : Value} {n : Nat} {xs : List Value} (h : w.ownsRow base e size v n xs) : ∀ k, v.ownBlock = some k → ∃ cs fr, w.heap[k]? = some (.cells cs e fr) := by
  intro k hk
  rcases h.2 with ⟨rfl, _⟩ | ⟨g, cap, cur, rfl, _, hg, _⟩
  · cases hk
  · have : g = k := by simpa [Value.ownBlock] using hk
    subst this
    exact ⟨cur, (0, 0), hg⟩
/-- a row's block is none of another element type -/
theorem own_ne {w : World} {base p : Nat} {e t : TypeId} {size n : Nat} {v : Value} {xs : List Value} {cs : Array Value} {fr : Nat × Nat} (h : w.ownsRow base e size v n xs) (hp : w.heap[p]? = some (.cells cs t fr)) (hne : e ≠ t) : v.ownBlock ≠ some p := by
  intro hk
  obtain ⟨cs', fr', hh⟩ := own_typed h p hk
  rw [hp] at hh
  injection hh with hh
  injection hh with _ h2 _
  exact hne h2.symm
/-- append(v, s..), v a row of bytes of the call's own, s a text: and where what is answered lies -/
theorem run_append_str {P : Program} (w : World) (base : Nat) (t u ty e : TypeId) (i : TypeInfo) (ht : P.underlying t = some (.slice e)) (hu : P.underlying u = some .string) (hi : P.info? e = some i) (hz : i.zero = some (.int .u8 0))
    (hsize : i.size = 1) (hby : i.bytes = 1)
    (v : Value) (n : Nat) (xs : List Value) (hown : w.ownsRow base e 1 v n xs) (s : ByteArray)
    (h63 : n + s.size ≤ maxLen) (hbytes : n + s.size ≤ 140737488355328) (hbase : base ≤ w.heap.size) :
    ∃ v' w', (Builtin.append_ #[t, u] ty #[v, .string s]).run P w = .ok v' w' ∧ w'.ownsRow base e 1 v' (n + s.size) (xs ++ Lib.strCells s) ∧ w.grownBy w' v.ownBlock ∧ (v'.ownBlock = v.ownBlock ∨ v'.ownBlock = some w.heap.size) := by
  obtain ⟨v', w', hr, h2, h3, h4⟩ := Lib.run_append_own_string (P := P) w base t u ty e i ht hu hi hz hsize hby v n xs hown s h63 hbytes hbase
  refine ⟨v', w', hr, h2, h3, ?_⟩
  unfold maxLen at h63
  rcases hown.2 with ⟨rfl, rfl⟩ | ⟨g, cap, cur, rfl, hbg, hg, hnc, hcm, hcs, htake⟩
  · by_cases hm : s.size = 0
    · rw [h4.2 ⟨rfl, hm⟩]
      exact .inl rfl
    · have hr2 := run_append_nil_string (P := P) w t u ty e i (.int .u8 0) ht hu hi hz s (by omega) (by omega) (by rw [hby]; omega)
      rw [hr] at hr2
      injection hr2 with e1 _
      rw [e1]
      exact .inr rfl
  · have hcs' : cur.size = cap := by simpa using hcs
    by_cases hroom : n + s.size ≤ cap
    · have hr2 := Lib.run_append_room_string (P := P) w t u ty e i ht hu hi hsize g n cap cur hg s hroom (by omega)
      rw [hr] at hr2
      injection hr2 with e1 _
      rw [e1]
      exact .inl rfl
    · have holds : ∀ j u, xs[j]? = some u → w.cell? ((⟨g, 0, none⟩ : Addr).add j) = some u := hown.cells (g := g) rfl
      have hr2 := Lib.run_append_grow_string (P := P) w t u ty e i (.int .u8 0) ht hu hi hz ⟨g, 0, none⟩ n cap xs (by rw [hsize]; exact hown.1) holds s (by omega) (by omega) (by rw [hby]; exact growslice_fits (by omega) (by omega))
      rw [hr] at hr2
      injection hr2 with e1 _
      rw [e1]
      exact .inr rfl
/-- .. for the walk -/
theorem wpList_append_text {w : World} {ops : Array Oper} {rest : List Oper} {o : Oper} {a : Act} {Q : Exit → Act → World → Prop} (hgd : o.guard = none) (sl x : Operand)
    (ho : o.op = .call { callee := .builtin .append, args := #[sl, x], argTypes := #[75, 9] })
    (base : Nat) (v : Value) (bs t : List UInt8) (hs : a.eval sl = v) (hown : OwnB base w v bs) (hx : a.eval x = .string ⟨t.toArray⟩)
    (hlen : bs.length + t.length ≤ 100000000) (hbase : base ≤ w.heap.size)
    (h : ∀ v' w', OwnB base w' v' (bs ++ t) → w.grownBy w' v.ownBlock → (v'.ownBlock = v.ownBlock ∨ v'.ownBlock = some w.heap.size) → wpList Try.prog ops Q rest (a.put o.dst v') w') : wpList Try.prog ops Q (o :: rest) a w := by
  obtain ⟨i0, hi, hz0, hz1, hz2⟩ := info_parts Try.info5
  have hsz : (⟨t.toArray⟩ : ByteArray).size = t.length := rfl
  refine wpList_plain hgd fun K hK => ?_
  obtain ⟨v', w', hr, h2, h3, h4⟩ := run_append_str (P := Try.prog) w base 75 9 o.type 5 i0 Try.underlying75 Try.underlying9 hi hz0 hz1 hz2 v bs.length (bs.map byteV) hown ⟨t.toArray⟩ (by rw [hsz]; unfold maxLen; omega) (by rw [hsz]; omega) hbase
  unfold Oper.wp execOp
  simp only [ho, resolve, invoke, builtin, Sem.run_bind, Sem.run_pure, Result.andThen_ok, List.map_toArray, List.map_cons, List.map_nil, hs, hx, hr]
  refine hK _ _ (h v' w' ?_ h3 h4)
  unfold OwnB
  rw [List.length_append, List.map_append]
  exact h2

/-- the draft at block p is d; it stands on blocks of S -/
structure DraftAt (w : World) (S : Nat → Prop) (base p : Nat) (d : DV) : Prop where
  own : ∀ k, S k → base ≤ k ∧ k < w.heap.size
  here : S p
  dat : ∃ (v1 v2 : Value), w.heap[p]? = some (.cells #[v1, .int .i64 (d.kept : Int), v2, .int .i64 (d.gone : Int)] 134 (0, 0)) ∧ OwnP base w v1 d.done ∧ OwnB base w v2 d.text ∧ (∀ k, v1.ownBlock = some k → S k) ∧ ∀ k, v2.ownBlock = some k → S k
theorem DraftAt.kept {w w' : World} {S : Nat → Prop} {base p : Nat} {d : DV} (h : DraftAt w S base p d) (hs : w.heap.size ≤ w'.heap.size) (hk : ∀ k, S k → w'.heap[k]? = w.heap[k]?) : DraftAt w' S base p d := by
  obtain ⟨h1, h2, v1, v2, hp, hd, ht, s1, s2⟩ := h
  exact ⟨fun k hS => ⟨(h1 k hS).1, Nat.lt_of_lt_of_le (h1 k hS).2 hs⟩, h2, v1, v2, (hk p h2).trans hp, own_kept hd fun k hk' => hk k (s1 k hk'), own_kept ht fun k hk' => hk k (s2 k hk'), s1, s2⟩
def Also (S : Nat → Prop) (w w' : World) (k : Nat) : Prop := S k ∨ (w.heap.size ≤ k ∧ k < w'.heap.size)
end Go.Proofs.Ytpoenlhikanooaa.P5
/- The law's: are two edits the same, is one small. -/
namespace Go.Proofs.Ytpoenlhikanooaa.P5
set_option linter.unusedVariables false
open Go.RowKit
set_option maxRecDepth 20000

theorem part_str (w : World) (cs : Array Value) (o : Nat) (v : Value) (h : cs[o]? = some v) : (part 9 cs o).run Try.prog w = .ok v w := by
  simp [part, isAgg, run_underlying Try.underlying9, h]
end Go.Proofs.Ytpoenlhikanooaa.P5
