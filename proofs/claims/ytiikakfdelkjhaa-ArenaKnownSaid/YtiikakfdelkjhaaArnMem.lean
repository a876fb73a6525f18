/- Words for memory: what a call may turn; numbers; attributes. (As in wip/plain, for this layer.) -/
import Derived.Test.YtiikakfdelkjhaaProg
import Derived.WalkKit
import Derived.WalkMore
import Derived.WalkLawsBesides
import Derived.WalkSpells
import Derived.Outline
import Derived.Lib.Hide
import Derived.Laws.CopyOwn
import Derived.Lib.BufferRead
import Derived.Laws.IdiomStrings
import Derived.Maps.AppendAt
import Derived.Laws.AppendOwnNone
import Derived.Deep.QuietTactic
import Derived.BigQuiet
import Derived.Test.YtiikakfdelkjhaaArnOps
import Derived.Maps.AppendAt
import Derived.Laws.AppendOwnNone
namespace Go.Proofs.Ytiikakfdelkjhaa.Arn
open Go.RowKit
set_option maxRecDepth 20000

theorem block_add (a : Addr) (k : Nat) : (a.add k).block = a.block := by unfold Addr.add; split <;> rfl
theorem draws {B : Nat} {a w : World} (h : Below B a w) (n : Nat) : Below B a (w.drewN n) := ⟨h.os, h.tape, h.output, h.size, h.block⟩
theorem add_add (a : Addr) (i j : Nat) : (a.add i).add j = a.add (i + j) := by
  unfold Addr.add
  by_cases hi : i = 0
  · simp [hi]
  · by_cases hj : j = 0
    · simp [hi, hj]
    · simp [hi, hj, Nat.add_assoc]
theorem wpList_store_row_to {P : Program} {ops : Array Oper} {rest : List Oper} {o : Oper} {a : Act} {w : World} {Q : Exit → Act → World → Prop} (hgd : o.guard = none) (ty : TypeId) (x y : Operand) (ho : o.op = .store ty x y)
    (g : Nat) (cells : Array Value) (hx : a.eval x = .pointer (some ⟨g, 0, none⟩)) (hy : a.eval y = .agg cells)
    (t : TypeId) (old : Array Value) (hg : w.heap[g]? = some (.cells old t (0, 0))) (hi : (P.info? ty).map (·.size) = some cells.size)
    (hold : old.size = cells.size) (h1 : cells.all (·.oneCell') = true)
    (h : ∀ W : World, W.heap[g]? = some (.cells cells t (0, 0)) → Below g w W → W.heap.size = w.heap.size → wpList P ops Q rest (a.put o.dst undef) W) : wpList P ops Q (o :: rest) a w :=
  wpList_store_row hgd ty x y ho g cells hx hy t old hg hi hold h1 (h _ (setRow_heap _ _ old cells _ _ hg) (below_setRow (Below.refl _ _) (Nat.le_refl _) _) (size_setRow _ _ _))
theorem abs_call {P : Program} {f : FuncId} {args : Array Value} {W : World} {v : Value} (S : World → Prop) (hS : S W) (h : Calls P f args W fun e w' => e = .returned v ∧ W = w') :
    Calls P f args W fun e w' => e = .returned v ∧ S w' := h.mono fun _ _ ⟨h1, h2⟩ => ⟨h1, h2 ▸ hS⟩
/-- the shape of what is owned, and its cells -/
theorem own_form {w : World} {base : Nat} {e : TypeId} {size : Nat} {v : Value} {n : Nat} {xs : List Value} (h : w.ownsRow base e size v n xs) :
    ∃ (A : Option Addr) (c : Nat), v = .slice A n c ∧ n ≤ c ∧ c ≤ maxLen ∧ (A = none → c = 0) ∧ (0 < n → ∃ g : Nat, A = some ⟨g, 0, none⟩ ∧ base ≤ g ∧ g < w.heap.size ∧ ∀ j u, xs[j]? = some u → w.cell? ⟨g, j, none⟩ = some u) := by
  have h' := h
  rcases h.2 with ⟨rfl, h0⟩ | ⟨g, cap, cur, rfl, hb, hg, hnc, hcm, _⟩
  · subst h0
    exact ⟨none, 0, rfl, Nat.le_refl _, Nat.zero_le _, fun _ => rfl, fun h => by omega⟩
  · refine ⟨_, cap, rfl, hnc, hcm, (fun e => by cases e), fun _ => ⟨g, rfl, hb, (Array.getElem?_eq_some_iff.1 hg).1, fun j u hj => ?_⟩⟩
    have hadd : (⟨g, 0, none⟩ : Addr).add j = ⟨g, j, none⟩ := by unfold Addr.add; split <;> simp_all
    rw [← hadd]
    exact h'.cells (g := g) rfl j u hj

/-- what a call may turn: of the blocks that are there those of S alone -/
structure FrX (S : Nat → Prop) (w w' : World) : Prop where
  os : w'.os = w.os
  tape : w'.tape = w.tape
  output : w'.output = w.output
  size : w.heap.size ≤ w'.heap.size
  block : ∀ k, k < w.heap.size → ¬ S k → w'.heap[k]? = w.heap[k]?
section
variable {S S' : Nat → Prop} {w w' w'' : World}
theorem FrX.refl (S : Nat → Prop) (w : World) : FrX S w w := ⟨rfl, rfl, rfl, Nat.le_refl _, fun _ _ _ => rfl⟩
theorem FrX.of_below (h : Below w.heap.size w w') : FrX S w w' := ⟨h.os, h.tape, h.output, h.size, fun k hk _ => h.block k hk⟩
theorem FrX.trans (h : FrX S w w') (h2 : FrX S' w' w'') (hs : ∀ k, S' k → S k ∨ w.heap.size ≤ k) : FrX S w w'' :=
  ⟨h2.os.trans h.os, h2.tape.trans h.tape, h2.output.trans h.output, Nat.le_trans h.size h2.size, fun k hk hn => (h2.block k (Nat.lt_of_lt_of_le hk h.size) (fun e => by rcases hs k e with e | e; exact hn e; omega)).trans (h.block k hk hn)⟩
theorem FrX.mono (h : FrX S w w') (hs : ∀ k, k < w.heap.size → S k → S' k) : FrX S' w w' := ⟨h.os, h.tape, h.output, h.size, fun k hk hn => h.block k hk (fun e => hn (hs k hk e))⟩
theorem FrX.below {B : Nat} (h : FrX S w w') (hB : ∀ k, S k → B ≤ k) (hb : B ≤ w.heap.size) : Below B w w' := ⟨h.os, h.tape, h.output, h.size, fun k hk => h.block k (by omega) (fun e => by have := hB k e; omega)⟩
theorem FrX.setCell {g i : Nat} {v : Value} (h : FrX S w w') (hg : S g) : FrX S w (w'.setCell ⟨g, i, none⟩ v) :=
  ⟨h.os, h.tape, h.output, by have := h.size; simpa using this, fun k hk hn => (heap_setCell_other w' ⟨g, i, none⟩ k v (fun e => hn (e ▸ hg))).trans (h.block k hk hn)⟩
theorem FrX.alloc (h : FrX S w w') (o : Obj) : FrX S w (w'.alloc o) :=
  ⟨h.os, h.tape, h.output, by have := h.size; simp; omega, fun k hk hn => (Go.heap_alloc_old w' _ (Nat.lt_of_lt_of_le hk h.size)).trans (h.block k hk hn)⟩
theorem FrX.of_grown {row : Option Nat} (h : w.grownBy w' row) (hs : ∀ k, row = some k → S k) : FrX S w w' :=
  ⟨h.os, h.tape, h.output, h.size, fun k hk hn => h.block k hk (fun e => hn (hs k e.symm))⟩
theorem FrX.drew (h : FrX S w w') : FrX S w w'.drew := ⟨h.os, h.tape, h.output, h.size, h.block⟩
theorem FrX.drewN (h : FrX S w w') (n : Nat) : FrX S w (w'.drewN n) := ⟨h.os, h.tape, h.output, h.size, h.block⟩
end
theorem own_kept {w w' : World} {base : Nat} {e : TypeId} {size : Nat} {v : Value} {n : Nat} {xs : List Value} (h : w.ownsRow base e size v n xs) (hk : ∀ k, v.ownBlock = some k → w'.heap[k]? = w.heap[k]?) : w'.ownsRow base e size v n xs := by
  refine ⟨h.1, ?_⟩
  rcases h.2 with h0 | ⟨g, cap, cur, rfl, hb, hg, rest⟩
  · exact .inl h0
  · exact .inr ⟨g, cap, cur, rfl, hb, (hk g rfl).trans hg, rest⟩
theorem own_typed {w : World} {base : Nat} {e : TypeId} {size : Nat} {v : Value} {n : Nat} {xs : List Value} (h : w.ownsRow base e size v n xs) : ∀ k, v.ownBlock = some k → ∃ cs fr, w.heap[k]? = some (.cells cs e fr) := by
  intro k hk
  rcases h.2 with ⟨rfl, _⟩ | ⟨g, cap, cur, rfl, _, hg, _⟩
  · cases hk
  · have : g = k := by simpa [Value.ownBlock] using hk
    subst this
    exact ⟨cur, (0, 0), hg⟩
/-- a row's block is none of another element type -/
theorem own_ne {w : World} {base p : Nat} {e t : TypeId} {size n : Nat} {v : Value} {xs : List Value} {cs : Array Value} {fr : Nat × Nat} (h : w.ownsRow base e size v n xs) (hp : w.heap[p]? = some (.cells cs t fr)) (hne : e ≠ t) : v.ownBlock ≠ some p := by
  intro hk
  obtain ⟨cs', fr', hh⟩ := own_typed h p hk
  rw [hp] at hh
  injection hh with hh
  injection hh with _ h2 _
  exact hne h2.symm

/-! ### numbers -/
/-- a slice of n numbers at A reads as xs -/
def Its (w : World) (A : Option Addr) (n : Nat) (xs : List Int) : Prop :=
  xs.length = n ∧ ∀ k x, xs[k]? = some x → ∃ ad : Addr, A = some ad ∧ ad.block < w.heap.size ∧ w.cell? (ad.add k) = some (.int .i64 x)
/-- numbers of 64 bits -/
def Fit (xs : List Int) : Prop := ∀ x ∈ xs, -9223372036854775808 ≤ x ∧ x ≤ 9223372036854775807
theorem Its.below {w w' : World} {A : Option Addr} {n : Nat} {xs : List Int} (h : Its w A n xs) (hb : Below w.heap.size w w') : Its w' A n xs := by
  refine ⟨h.1, fun k c hk => ?_⟩
  obtain ⟨ad, e, hlt, hc⟩ := h.2 k c hk
  exact ⟨ad, e, Nat.lt_of_lt_of_le hlt hb.size, (hb.cell (p := ad.add k) (by rw [block_add]; exact hlt)).trans hc⟩
theorem Its.at_ {w : World} {A : Option Addr} {n k : Nat} {xs : List Int} (h : Its w A n xs) (hk : k < n) :
    ∃ (ad : Addr) (x : Int), A = some ad ∧ xs[k]? = some x ∧ w.cell? (ad.add k) = some (.int .i64 x) := by
  have hl : k < xs.length := by rw [h.1]; exact hk
  have hg : xs[k]? = some xs[k] := List.getElem?_eq_getElem hl
  obtain ⟨ad, e, _, hc⟩ := h.2 k _ hg
  exact ⟨ad, _, e, hg, hc⟩
theorem Its.none_ (w : World) : Its w none 0 [] := ⟨rfl, fun k c h => by simp at h⟩
theorem Its.none_nil {w : World} {n : Nat} {xs : List Int} (h : Its w none n xs) : xs = [] := by
  cases xs with
  | nil => rfl
  | cons c r =>
    obtain ⟨ad, e, _⟩ := h.2 0 c rfl
    cases e
theorem Its.from_ {w : World} {A : Option Addr} {n lo m : Nat} {xs : List Int} (h : Its w A n xs) (hlm : lo + m = n) : Its w (A.map fun x => x.add lo) m (xs.drop lo) := by
  refine ⟨by rw [List.length_drop, h.1]; omega, fun k c hk => ?_⟩
  rw [List.getElem?_drop] at hk
  obtain ⟨ad, rfl, hb, hc⟩ := h.2 _ _ hk
  exact ⟨ad.add lo, rfl, by rw [block_add]; exact hb, by rw [add_add]; exact hc⟩
/-- a block of numbers reads as them -/
theorem Its.of_block {w : World} {g n : Nat} {cs : Array Value} {t : TypeId} {fr : Nat × Nat} {xs : List Int} (h : w.heap[g]? = some (.cells cs t fr)) (hn : xs.length = n)
    (hc : cs = (xs.map fun x => Value.int .i64 x).toArray) : Its w (some ⟨g, 0, none⟩) n xs := by
  refine ⟨hn, fun k c hk => ?_⟩
  have hlt : g < w.heap.size := (Array.getElem?_eq_some_iff.1 h).1
  have hadd : (⟨g, 0, none⟩ : Addr).add k = ⟨g, k, none⟩ := by unfold Addr.add; split <;> simp_all
  exact ⟨⟨g, 0, none⟩, rfl, hlt, by rw [hadd, cell_of_row w g k cs t fr h, hc]; simp [hk]⟩
theorem Fit.at_ {xs : List Int} (h : Fit xs) {k : Nat} {x : Int} (hk : xs[k]? = some x) : -9223372036854775808 ≤ x ∧ x ≤ 9223372036854775807 := h x (List.mem_of_getElem? hk)

/-! ### attributes -/
/-- a slice of n attributes at A reads as l; it lies in blocks of T -/
def AtsIn (T : Nat → Prop) (w : World) (A : Option Addr) (n : Nat) (l : List (Txt × Txt)) : Prop :=
  l.length = n ∧ ∀ q x, l[q]? = some x → ∃ ad, A = some ad ∧ T ad.block ∧ x.1.length ≤ maxLen ∧ x.2.length ≤ maxLen ∧
    w.cell? (ad.add (q * 2)) = some (.string ⟨x.1.toArray⟩) ∧ w.cell? ⟨(ad.add (q * 2)).block, (ad.add (q * 2)).off + 1, none⟩ = some (.string ⟨x.2.toArray⟩)
section
variable {T T' : Nat → Prop} {w w' : World} {A : Option Addr}
theorem AtsIn.kept {n : Nat} {l : List (Txt × Txt)} (hT : ∀ k, T k → T' k) (hk : ∀ k, T k → w'.heap[k]? = w.heap[k]?) (h : AtsIn T w A n l) : AtsIn T' w' A n l := by
  refine ⟨h.1, fun q x hx => ?_⟩
  obtain ⟨ad, e, ht, l1, l2, c1, c2⟩ := h.2 q x hx
  have hb : w'.heap[(ad.add (q * 2)).block]? = w.heap[(ad.add (q * 2)).block]? := by rw [block_add]; exact hk _ ht
  exact ⟨ad, e, hT _ ht, l1, l2, (World.cell?_of_block (w := w) (w' := w') (a := ad.add (q * 2)) hb).trans c1, (World.cell?_of_block (w := w) (w' := w') (a := ⟨(ad.add (q * 2)).block, (ad.add (q * 2)).off + 1, none⟩) hb).trans c2⟩
theorem AtsIn.at_ {n q : Nat} {l : List (Txt × Txt)} (h : AtsIn T w A n l) (hq : q < n) : ∃ ad x, A = some ad ∧ l[q]? = some x ∧ T ad.block ∧ x.1.length ≤ maxLen ∧ x.2.length ≤ maxLen ∧
    w.cell? (ad.add (q * 2)) = some (.string ⟨x.1.toArray⟩) ∧ w.cell? ⟨(ad.add (q * 2)).block, (ad.add (q * 2)).off + 1, none⟩ = some (.string ⟨x.2.toArray⟩) := by
  have hl : q < l.length := by rw [h.1]; exact hq
  have hg : l[q]? = some l[q] := List.getElem?_eq_getElem hl
  obtain ⟨ad, e, hb, hc⟩ := h.2 q _ hg
  exact ⟨ad, _, e, hg, hb, hc⟩
end
/-! ### chunks -/
theorem chunk_len {α : Type} (f : α → List Value) (S : Nat) (hf : ∀ x, (f x).length = S) (l : List α) : (l.flatMap f).length = l.length * S := by
  induction l with
  | nil => simp
  | cons p r ih => rw [List.flatMap_cons, List.length_append, ih, hf, List.length_cons, Nat.succ_mul]; omega
theorem chunk_at {α : Type} (f : α → List Value) (S : Nat) (hf : ∀ x, (f x).length = S) (hS : 0 < S) : ∀ (l : List α) (j : Nat) (u : Value), (l.flatMap f)[j]? = some u → ∃ q i x, j = q * S + i ∧ i < S ∧ l[q]? = some x ∧ (f x)[i]? = some u
  | [], j, u, h => by simp at h
  | a :: r, j, u, h => by
    rw [List.flatMap_cons] at h
    rcases Nat.lt_or_ge j S with hj | hj
    · rw [List.getElem?_append_left (by rw [hf]; exact hj)] at h
      exact ⟨0, j, a, by omega, hj, rfl, h⟩
    · rw [List.getElem?_append_right (by rw [hf]; exact hj), hf] at h
      obtain ⟨q, i, x, h1, h2, h3, h4⟩ := chunk_at f S hf hS r _ u h
      exact ⟨q + 1, i, x, by rw [Nat.succ_mul]; omega, h2, by simpa using h3, h4⟩
theorem chunk_of {α : Type} (f : α → List Value) (S : Nat) (hf : ∀ x, (f x).length = S) : ∀ (l : List α) (q i : Nat) (x : α) (u : Value), l[q]? = some x → (f x)[i]? = some u → (l.flatMap f)[q * S + i]? = some u
  | a :: r, 0, i, x, u, h, hi => by
    simp at h
    subst h
    have hil := (List.getElem?_eq_some_iff.1 hi).1
    rw [List.flatMap_cons, Nat.zero_mul, Nat.zero_add, List.getElem?_append_left hil]
    exact hi
  | a :: r, q + 1, i, x, u, h, hi => by
    have ih := chunk_of f S hf r q i x u (by simpa using h) hi
    rw [List.flatMap_cons, List.getElem?_append_right (by rw [hf, Nat.succ_mul]; omega), hf]
    rw [show (q + 1) * S + i - S = q * S + i by rw [Nat.succ_mul]; omega]
    exact ih
theorem add_off (ad : Addr) (j : Nat) (h : 0 < j) : ad.add j = ⟨ad.block, ad.off + j, none⟩ := by
  unfold Addr.add
  rw [if_neg (by omega)]
theorem add_zero_off (g k : Nat) : (⟨g, 0, none⟩ : Addr).add k = ⟨g, k, none⟩ := by unfold Addr.add; split <;> simp_all

theorem Try.infoA : (Try.prog.info? 61).map (fun i => (i.zero, i.size, i.bytes)) = some (some (.agg #[.string ⟨#[]⟩, .string ⟨#[]⟩]), 2, 32) := by kernel_rfl
def atc (x : Txt × Txt) : List Value := [.string ⟨x.1.toArray⟩, .string ⟨x.2.toArray⟩]
theorem atc_len (x : Txt × Txt) : (atc x).length = 2 := rfl
theorem atc_one (xs : List (Txt × Txt)) : ∀ u ∈ xs.flatMap atc, u.oneCell' = true := by
  intro u hu
  obtain ⟨x, -, hx⟩ := List.mem_flatMap.1 hu
  simp only [atc, List.mem_cons, List.not_mem_nil, or_false] at hx
  rcases hx with rfl | rfl <;> rfl
theorem AtsIn.news {T : Nat → Prop} {w : World} {ad : Addr} {n : Nat} {xs : List (Txt × Txt)} (h : AtsIn T w (some ad) n xs) : ∀ j u, (xs.flatMap atc)[j]? = some u → w.cell? (ad.add j) = some u := by
  intro j u hj
  obtain ⟨q, i, x, rfl, -, h3, h4⟩ := chunk_at atc 2 atc_len (by omega) xs j u hj
  obtain ⟨ad', e, -, -, -, c1, c2⟩ := h.2 q x h3
  injection e with e
  subst e
  rw [← add_add]
  match i, h4 with
  | 0, h4 => injection h4 with h4; rw [← h4]; exact c1
  | 1, h4 => injection h4 with h4; rw [← h4]; exact c2
/-- append(nil, attrs..): where the new row lies -/
theorem wpList_append_ats {w : World} {ops : Array Oper} {rest : List Oper} {o : Oper} {a : Act} {Q : Exit → Act → World → Prop} (hgd : o.guard = none) (sl x : Operand)
    (ho : o.op = .call { callee := .builtin .append, args := #[sl, x], argTypes := #[23, 23] }) (T : Nat → Prop) (A : Option Addr) (n c : Nat) (xs : List (Txt × Txt)) (hs : a.eval sl = .slice none 0 0) (hx : a.eval x = .slice A n c) (hP : AtsIn T w A n xs) (hnil : A = none → c = 0) (hnc : n ≤ c) (hn : n ≤ 1000000)
    (h : ∀ A1 c1 w', AtsIn (fun k => k = w.heap.size ∧ k < w'.heap.size) w' A1 n xs → n ≤ c1 → c1 ≤ maxLen → (A1 = none → c1 = 0) → Below w.heap.size w w' → wpList Try.prog ops Q rest (a.put o.dst (.slice A1 n c1)) w') : wpList Try.prog ops Q (o :: rest) a w := by
  obtain ⟨i0, hi0, hz0, hz1, hz2⟩ := info_parts Try.infoA
  have hl := hP.1
  cases A with
  | none =>
    obtain rfl := hnil rfl
    obtain rfl : n = 0 := by omega
    have hxs : xs = [] := List.length_eq_zero_iff.1 hl
    subst hxs
    refine wpList_append_own_none hgd sl x 23 ho w.heap.size 61 i0 2 Try.underlying23 hi0 (.slice none 0 0) 0 [] hs (World.ownsRow_nil _ _ _ _) hx ?_
    exact h none 0 w ⟨rfl, fun q x hx => by simp at hx⟩ (Nat.le_refl _) (Nat.zero_le _) (fun _ => rfl) (Below.refl _ _)
  | some ad =>
    refine wpList_append_own_at _ hgd sl x 23 ho w.heap.size 61 i0 _ 2 32 Try.underlying23 hi0 hz0 hz1 hz2 rfl (by decide) (.slice none 0 0) 0 [] hs (World.ownsRow_nil _ _ _ _) ad n c (xs.flatMap atc) hx (by rw [chunk_len atc 2 atc_len, hl]) hP.news (atc_one xs) (by unfold maxLen; omega) (by omega) (Nat.le_refl _) ?_
    intro v' w' hown hg _ hat
    rw [Nat.zero_add, List.nil_append] at hown
    obtain ⟨A1, c1, rfl, h1, h2, h3, h4⟩ := own_form hown
    refine h A1 c1 w' ⟨hl, fun q x hx => ?_⟩ h1 h2 h3 ((Below.refl w.heap.size w).grown hg (Nat.le_refl _) (fun k hk => by cases hk))
    have hq := (List.getElem?_eq_some_iff.1 hx).1
    obtain ⟨g, rfl, hb, hlt, hc⟩ := h4 (by omega)
    obtain ⟨ad', -, -, l1, l2, -, -⟩ := hP.2 q x hx
    have hgw : g = w.heap.size := by
      rcases hat with e | e
      · cases e
      · simpa [Value.ownBlock] using e
    refine ⟨_, rfl, ⟨hgw, hlt⟩, l1, l2, ?_, ?_⟩
    · rw [add_zero_off]
      exact hc _ _ (chunk_of atc 2 atc_len xs q 0 x _ hx rfl)
    · rw [add_zero_off]
      exact hc _ _ (chunk_of atc 2 atc_len xs q 1 x _ hx rfl)
end Go.Proofs.Ytiikakfdelkjhaa.Arn
