/- Rows of nodes and of attributes of a call's own; copied. -/
import Derived.Test.YtacmofhlbebonaaTreC
import Derived.Maps.AppendAt
import Derived.Laws.AppendOwnNone
namespace Go.Proofs.Ytacmofhlbebonaa
open Go.RowKit
set_option maxRecDepth 20000

/-! ### chunks -/
theorem chunk_len {α : Type} (f : α → List Value) (S : Nat) (hf : ∀ x, (f x).length = S) (l : List α) : (l.flatMap f).length = l.length * S := by
  induction l with
  | nil => simp
  | cons p r ih => rw [List.flatMap_cons, List.length_append, ih, hf, List.length_cons, Nat.succ_mul]; omega
theorem chunk_at {α : Type} (f : α → List Value) (S : Nat) (hf : ∀ x, (f x).length = S) (hS : 0 < S) : ∀ (l : List α) (j : Nat) (u : Value), (l.flatMap f)[j]? = some u → ∃ q i x, j = q * S + i ∧ i < S ∧ l[q]? = some x ∧ (f x)[i]? = some u
  | [], j, u, h => by simp at h
  | a :: r, j, u, h => by
    rw [List.flatMap_cons] at h
    rcases Nat.lt_or_ge j S with hj | hj
    · rw [List.getElem?_append_left (by rw [hf]; exact hj)] at h
      exact ⟨0, j, a, by omega, hj, rfl, h⟩
    · rw [List.getElem?_append_right (by rw [hf]; exact hj), hf] at h
      obtain ⟨q, i, x, h1, h2, h3, h4⟩ := chunk_at f S hf hS r _ u h
      exact ⟨q + 1, i, x, by rw [Nat.succ_mul]; omega, h2, by simpa using h3, h4⟩
theorem chunk_of {α : Type} (f : α → List Value) (S : Nat) (hf : ∀ x, (f x).length = S) : ∀ (l : List α) (q i : Nat) (x : α) (u : Value), l[q]? = some x → (f x)[i]? = some u → (l.flatMap f)[q * S + i]? = some u
  | a :: r, 0, i, x, u, h, hi => by
    simp at h
    subst h
    have hil := (List.getElem?_eq_some_iff.1 hi).1
    rw [List.flatMap_cons, Nat.zero_mul, Nat.zero_add, List.getElem?_append_left hil]
    exact hi
  | a :: r, q + 1, i, x, u, h, hi => by
    have ih := chunk_of f S hf r q i x u (by simpa using h) hi
    rw [List.flatMap_cons, List.getElem?_append_right (by rw [hf, Nat.succ_mul]; omega), hf]
    rw [show (q + 1) * S + i - S = q * S + i by rw [Nat.succ_mul]; omega]
    exact ih
theorem add_off (ad : Addr) (j : Nat) (h : 0 < j) : ad.add j = ⟨ad.block, ad.off + j, none⟩ := by
  unfold Addr.add
  rw [if_neg (by omega)]
theorem add_zero_off (g k : Nat) : (⟨g, 0, none⟩ : Addr).add k = ⟨g, k, none⟩ := by unfold Addr.add; split <;> simp_all

/-! ### nodes with their slices -/
structure KV where
  t : Nd
  aA : Option Addr
  an : Nat
  ac : Nat
  kA : Option Addr
  kn : Nat
  kc : Nat
def KV.cells (k : KV) : List Value := [.int .u64 (k.t.id : Int), .bool k.t.leaf, .string ⟨k.t.label.toArray⟩, .slice k.aA k.an k.ac, .string ⟨k.t.text.toArray⟩, .slice k.kA k.kn k.kc]
def KV.ok (T : Nat → Prop) (w : World) (k : KV) : Prop := NodeV T w k.aA k.an k.ac k.kA k.kn k.kc k.t
def KV.six (w : World) (E : Addr) (k : KV) : Prop := Six w E k.t k.aA k.an k.ac k.kA k.kn k.kc
theorem KV.cells_len (k : KV) : k.cells.length = 6 := rfl
theorem KV.cell {w : World} {E : Addr} {k : KV} (h : k.six w E) (i : Nat) (u : Value) (hi : k.cells[i]? = some u) : w.cell? (E.add i) = some u := by
  obtain ⟨h0, h1, h2, h3, h4, h5⟩ := h
  match i, hi with
  | 0, hi => injection hi with hi; rw [← hi]; exact h0
  | 1, hi => injection hi with hi; rw [← hi]; exact h1
  | 2, hi => injection hi with hi; rw [← hi]; exact h2
  | 3, hi => injection hi with hi; rw [← hi]; exact h3
  | 4, hi => injection hi with hi; rw [← hi]; exact h4
  | 5, hi => injection hi with hi; rw [← hi]; exact h5
theorem KV.six_of {w : World} {E : Addr} {k : KV} (h : ∀ i u, k.cells[i]? = some u → w.cell? (E.add i) = some u) : k.six w E :=
  ⟨h 0 _ rfl, h 1 _ rfl, h 2 _ rfl, h 3 _ rfl, h 4 _ rfl, h 5 _ rfl⟩
theorem KV.one (ks : List KV) : ∀ u ∈ ks.flatMap KV.cells, u.oneCell' = true := by
  intro u hu
  obtain ⟨x, -, hx⟩ := List.mem_flatMap.1 hu
  simp only [KV.cells, List.mem_cons, List.not_mem_nil, or_false] at hx
  rcases hx with rfl | rfl | rfl | rfl | rfl | rfl <;> rfl
/-- a row of nodes, with their slices -/
theorem RowAt.kvs {T : Nat → Prop} {w : World} {A : Option Addr} : ∀ (l : List Nd) (q0 : Nat), RowAt T w A q0 l → ∃ ks : List KV, ks.map KV.t = l ∧ (∀ k ∈ ks, k.ok T w) ∧ ∀ (q : Nat) (k : KV), ks[q]? = some k → ∃ ad, A = some ad ∧ T ad.block ∧ k.six w (ad.add ((q0 + q) * 6))
  | [], _, _ => ⟨[], rfl, by simp, by simp⟩
  | t :: r, q0, h => by
    simp only [RowAt] at h
    obtain ⟨⟨ad, aA, an, ac, kA, kn, kc, e, hT, h6, hv⟩, hr⟩ := h
    obtain ⟨ks, k1, k2, k3⟩ := RowAt.kvs r (q0 + 1) hr
    refine ⟨⟨t, aA, an, ac, kA, kn, kc⟩ :: ks, by simp [k1], ?_, ?_⟩
    · intro k hk
      rcases List.mem_cons.1 hk with rfl | hk
      · exact hv
      · exact k2 k hk
    · intro q k hk
      match q, hk with
      | 0, hk =>
        simp at hk
        subst hk
        exact ⟨ad, e, hT, h6⟩
      | q + 1, hk =>
        obtain ⟨ad', e', hT', hs⟩ := k3 q k (by simpa using hk)
        exact ⟨ad', e', hT', by rw [show q0 + (q + 1) = q0 + 1 + q by omega]; exact hs⟩
theorem RowAt.of_kvs {T : Nat → Prop} {w : World} {A : Option Addr} (ks : List KV) (hok : ∀ k ∈ ks, k.ok T w) (h : ∀ (q : Nat) (k : KV), ks[q]? = some k → ∃ ad, A = some ad ∧ T ad.block ∧ k.six w (ad.add (q * 6))) : RowAt T w A 0 (ks.map KV.t) := by
  refine RowAt.of _ _ fun q t ht => ?_
  rw [List.getElem?_map] at ht
  cases hk : ks[q]? with
  | none => rw [hk] at ht; cases ht
  | some k =>
    rw [hk] at ht
    simp at ht
    subst ht
    obtain ⟨ad, e, hT, hs⟩ := h q k hk
    refine ⟨ad, e, by rw [block_add]; exact hT, k.aA, k.an, k.ac, k.kA, k.kn, k.kc, ?_, hok k (List.mem_of_getElem? hk)⟩
    rw [Nat.zero_add]
    exact hs
theorem KV.ok_kept {T T' : Nat → Prop} {w w' : World} {k : KV} (hT : ∀ k, T k → T' k) (hk : ∀ k, T k → w'.heap[k]? = w.heap[k]?) (h : k.ok T w) : k.ok T' w' := NodeV.kept hT hk _ _ _ _ _ _ _ h
theorem kvs_news {w : World} {ad : Addr} {ks : List KV} (h : ∀ (q : Nat) (k : KV), ks[q]? = some k → k.six w (ad.add (q * 6))) : ∀ (j : Nat) (u : Value), (ks.flatMap KV.cells)[j]? = some u → w.cell? (ad.add j) = some u := by
  intro j u hj
  obtain ⟨q, i, x, rfl, -, h3, h4⟩ := chunk_at KV.cells 6 KV.cells_len (by omega) ks j u hj
  rw [← add_add]
  exact KV.cell (h q x h3) i u h4
theorem Try.infoN : (Try.prog.info? 26).map (fun i => (i.zero, i.size, i.bytes)) = some (some (.agg #[.int .u64 0, .bool false, .string ⟨#[]⟩, .slice none 0 0, .string ⟨#[]⟩, .slice none 0 0]), 6, 96) := by kernel_rfl
theorem Try.infoA : (Try.prog.info? 48).map (fun i => (i.zero, i.size, i.bytes)) = some (some (.agg #[.string ⟨#[]⟩, .string ⟨#[]⟩]), 2, 32) := by kernel_rfl
/-- the slice value v owns a row of nodes -/
def OwnK (base : Nat) (w : World) (v : Value) (ks : List KV) : Prop := w.ownsRow base 26 6 v ks.length (ks.flatMap KV.cells)
theorem OwnK.shape {base : Nat} {w : World} {v : Value} {ks : List KV} (h : OwnK base w v ks) : ∃ (A : Option Addr) (n c : Nat), v = .slice A n c ∧ n = ks.length ∧ n ≤ c ∧ c ≤ maxLen ∧ (A = none → c = 0) ∧
    ∀ (q : Nat) (k : KV), ks[q]? = some k → ∃ g, A = some ⟨g, 0, none⟩ ∧ base ≤ g ∧ g < w.heap.size ∧ k.six w (⟨g, q * 6, none⟩ : Addr) := by
  obtain ⟨A, c, rfl, h1, h2, h3, h4⟩ := own_form h
  refine ⟨A, _, c, rfl, rfl, h1, h2, h3, fun q k hk => ?_⟩
  have hq := (List.getElem?_eq_some_iff.1 hk).1
  obtain ⟨g, rfl, hb, hlt, hc⟩ := h4 (by omega)
  refine ⟨g, rfl, hb, hlt, KV.six_of fun i u hi => ?_⟩
  rw [← add_zero_off, add_add, add_zero_off]
  exact hc _ _ (chunk_of KV.cells 6 KV.cells_len ks q i k u hk hi)
/-- append(nil, kids..) -/
theorem wpList_append_kids {w : World} {ops : Array Oper} {rest : List Oper} {o : Oper} {a : Act} {Q : Exit → Act → World → Prop} (hgd : o.guard = none) (sl x : Operand)
    (ho : o.op = .call { callee := .builtin .append, args := #[sl, x], argTypes := #[24, 24] }) (T : Nat → Prop) (A : Option Addr) (n c : Nat) (ts : List Nd) (hs : a.eval sl = .slice none 0 0) (hx : a.eval x = .slice A n c) (hl : ts.length = n) (hP : RowAt T w A 0 ts) (hnil : A = none → c = 0) (hnc : n ≤ c) (hn : n ≤ 1000000)
    (h : ∀ A1 c1 w' ks, ks.map KV.t = ts → (∀ k ∈ ks, k.ok T w) → OwnK w.heap.size w' (.slice A1 n c1) ks → n ≤ c1 → c1 ≤ maxLen → (A1 = none → c1 = 0) → Below w.heap.size w w' → wpList Try.prog ops Q rest (a.put o.dst (.slice A1 n c1)) w') : wpList Try.prog ops Q (o :: rest) a w := by
  obtain ⟨i0, hi0, hz0, hz1, hz2⟩ := info_parts Try.infoN
  obtain ⟨ks, k1, k2, k3⟩ := RowAt.kvs ts 0 hP
  have hkl : ks.length = n := by rw [← hl, ← k1, List.length_map]
  cases A with
  | none =>
    obtain rfl := hnil rfl
    obtain rfl : n = 0 := by omega
    have hks : ks = [] := List.length_eq_zero_iff.1 hkl
    subst hks
    refine wpList_append_own_none hgd sl x 24 ho w.heap.size 26 i0 6 Try.underlying24 hi0 (.slice none 0 0) 0 [] hs (World.ownsRow_nil _ _ _ _) hx ?_
    exact h none 0 w [] k1 (by simp) (World.ownsRow_nil _ _ _ _) (Nat.le_refl _) (Nat.zero_le _) (fun _ => rfl) (Below.refl _ _)
  | some ad =>
    have k3' : ∀ (q : Nat) (k : KV), ks[q]? = some k → k.six w (ad.add (q * 6)) := fun q k hk => by
      obtain ⟨ad', e, _, hs⟩ := k3 q k hk
      injection e with e
      subst e
      rw [Nat.zero_add] at hs
      exact hs
    refine wpList_append_own_at _ hgd sl x 24 ho w.heap.size 26 i0 _ 6 96 Try.underlying24 hi0 hz0 hz1 hz2 rfl (by decide) (.slice none 0 0) 0 [] hs (World.ownsRow_nil _ _ _ _) ad n c (ks.flatMap KV.cells) hx (by rw [chunk_len KV.cells 6 KV.cells_len, hkl]) (kvs_news k3') (KV.one ks) (by unfold maxLen; omega) (by omega) (Nat.le_refl _) ?_
    intro v' w' hown hg _ _
    have hown2 : OwnK w.heap.size w' v' ks := by
      unfold OwnK
      rw [Nat.zero_add, List.nil_append] at hown
      rw [hkl]
      exact hown
    obtain ⟨A1, n1, c1, rfl, e1, h1, h2, h3, h4⟩ := hown2.shape
    obtain rfl : n1 = n := by omega
    exact h A1 c1 w' ks k1 k2 hown2 h1 h2 h3 ((Below.refl w.heap.size w).grown hg (Nat.le_refl _) (fun k hk => by cases hk))

/-! ### attributes -/
def atc (x : Txt × Txt) : List Value := [.string ⟨x.1.toArray⟩, .string ⟨x.2.toArray⟩]
theorem atc_len (x : Txt × Txt) : (atc x).length = 2 := rfl
theorem atc_one (xs : List (Txt × Txt)) : ∀ u ∈ xs.flatMap atc, u.oneCell' = true := by
  intro u hu
  obtain ⟨x, -, hx⟩ := List.mem_flatMap.1 hu
  simp only [atc, List.mem_cons, List.not_mem_nil, or_false] at hx
  rcases hx with rfl | rfl <;> rfl
theorem AtsIn.news {T : Nat → Prop} {w : World} {ad : Addr} {n : Nat} {xs : List (Txt × Txt)} (h : AtsIn T w (some ad) n xs) : ∀ j u, (xs.flatMap atc)[j]? = some u → w.cell? (ad.add j) = some u := by
  intro j u hj
  obtain ⟨q, i, x, rfl, -, h3, h4⟩ := chunk_at atc 2 atc_len (by omega) xs j u hj
  obtain ⟨ad', e, -, -, -, c1, c2⟩ := h.2 q x h3
  injection e with e
  subst e
  rw [← add_add]
  match i, h4 with
  | 0, h4 => injection h4 with h4; rw [← h4]; exact c1
  | 1, h4 => injection h4 with h4; rw [← h4]; exact c2
/-- append(nil, attrs..): where the new row lies -/
theorem wpList_append_ats {w : World} {ops : Array Oper} {rest : List Oper} {o : Oper} {a : Act} {Q : Exit → Act → World → Prop} (hgd : o.guard = none) (sl x : Operand)
    (ho : o.op = .call { callee := .builtin .append, args := #[sl, x], argTypes := #[23, 23] }) (T : Nat → Prop) (A : Option Addr) (n c : Nat) (xs : List (Txt × Txt)) (hs : a.eval sl = .slice none 0 0) (hx : a.eval x = .slice A n c) (hP : AtsIn T w A n xs) (hnil : A = none → c = 0) (hnc : n ≤ c) (hn : n ≤ 1000000)
    (h : ∀ A1 c1 w', AtsIn (fun k => k = w.heap.size ∧ k < w'.heap.size) w' A1 n xs → n ≤ c1 → c1 ≤ maxLen → (A1 = none → c1 = 0) → Below w.heap.size w w' → wpList Try.prog ops Q rest (a.put o.dst (.slice A1 n c1)) w') : wpList Try.prog ops Q (o :: rest) a w := by
  obtain ⟨i0, hi0, hz0, hz1, hz2⟩ := info_parts Try.infoA
  have hl := hP.1
  cases A with
  | none =>
    obtain rfl := hnil rfl
    obtain rfl : n = 0 := by omega
    have hxs : xs = [] := List.length_eq_zero_iff.1 hl
    subst hxs
    refine wpList_append_own_none hgd sl x 23 ho w.heap.size 48 i0 2 Try.underlying23 hi0 (.slice none 0 0) 0 [] hs (World.ownsRow_nil _ _ _ _) hx ?_
    exact h none 0 w ⟨rfl, fun q x hx => by simp at hx⟩ (Nat.le_refl _) (Nat.zero_le _) (fun _ => rfl) (Below.refl _ _)
  | some ad =>
    refine wpList_append_own_at _ hgd sl x 23 ho w.heap.size 48 i0 _ 2 32 Try.underlying23 hi0 hz0 hz1 hz2 rfl (by decide) (.slice none 0 0) 0 [] hs (World.ownsRow_nil _ _ _ _) ad n c (xs.flatMap atc) hx (by rw [chunk_len atc 2 atc_len, hl]) hP.news (atc_one xs) (by unfold maxLen; omega) (by omega) (Nat.le_refl _) ?_
    intro v' w' hown hg _ hat
    rw [Nat.zero_add, List.nil_append] at hown
    obtain ⟨A1, c1, rfl, h1, h2, h3, h4⟩ := own_form hown
    refine h A1 c1 w' ⟨hl, fun q x hx => ?_⟩ h1 h2 h3 ((Below.refl w.heap.size w).grown hg (Nat.le_refl _) (fun k hk => by cases hk))
    have hq := (List.getElem?_eq_some_iff.1 hx).1
    obtain ⟨g, rfl, hb, hlt, hc⟩ := h4 (by omega)
    obtain ⟨ad', -, -, l1, l2, -, -⟩ := hP.2 q x hx
    have hgw : g = w.heap.size := by
      rcases hat with e | e
      · cases e
      · simpa [Value.ownBlock] using e
    refine ⟨_, rfl, ⟨hgw, hlt⟩, l1, l2, ?_, ?_⟩
    · rw [add_zero_off]
      exact hc _ _ (chunk_of atc 2 atc_len xs q 0 x _ hx rfl)
    · rw [add_zero_off]
      exact hc _ _ (chunk_of atc 2 atc_len xs q 1 x _ hx rfl)
end Go.Proofs.Ytacmofhlbebonaa
