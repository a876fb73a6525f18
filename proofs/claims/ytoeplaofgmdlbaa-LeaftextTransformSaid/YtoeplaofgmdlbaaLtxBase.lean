/- Words for memory that holds edits: a slice reads as pieces, a row of pieces of the call's own. -/
import Derived.Test.YtoeplaofgmdlbaaBaseOwn
import Derived.Test.YtoeplaofgmdlbaaLtxComp
namespace Go.Proofs.Ytoeplaofgmdlbaa
open Go.RowKit
set_option maxRecDepth 20000

/-- a piece as it came in -/
structure IP where
  keep : Int
  drop : Int
  put : List UInt8
def tx (l : List UInt8) : Value := .string ⟨l.toArray⟩
/-- what stands at E is the piece x -/
def PieceAt (w : World) (E : Addr) (x : IP) : Prop :=
  -9223372036854775808 ≤ x.keep ∧ x.keep ≤ 9223372036854775807 ∧ -9223372036854775808 ≤ x.drop ∧ x.drop ≤ 9223372036854775807 ∧ x.put.length ≤ maxLen ∧
    w.cell? E = some (.int .i64 x.keep) ∧ w.cell? ⟨E.block, E.off + 1, none⟩ = some (.int .i64 x.drop) ∧ w.cell? ⟨E.block, E.off + 2, none⟩ = some (.string ⟨x.put.toArray⟩)
/-- a slice of n pieces reads as xs -/
def PcsIn (w : World) (A : Option Addr) (n : Nat) (xs : List IP) : Prop := xs.length = n ∧ ∀ q x, xs[q]? = some x → ∃ ad, A = some ad ∧ ad.block < w.heap.size ∧ PieceAt w (ad.add (q * 3)) x
theorem PieceAt.where_ {w w' : World} {E : Addr} {x : IP} (h : PieceAt w E x) (hb : w'.heap[E.block]? = w.heap[E.block]?) : PieceAt w' E x := by
  obtain ⟨h1, h2, h3, h4, h5, h6, h7, h8⟩ := h
  exact ⟨h1, h2, h3, h4, h5, (World.cell?_of_block (w := w) (w' := w') (a := E) hb).trans h6, (World.cell?_of_block (w := w) (w' := w') (a := ⟨E.block, E.off + 1, none⟩) hb).trans h7, (World.cell?_of_block (w := w) (w' := w') (a := ⟨E.block, E.off + 2, none⟩) hb).trans h8⟩
theorem PcsIn.where_ {w w' : World} {A : Option Addr} {n : Nat} {xs : List IP} (h : PcsIn w A n xs) (hs : w.heap.size ≤ w'.heap.size) (hk : ∀ ad, A = some ad → 0 < n → w'.heap[ad.block]? = w.heap[ad.block]?) : PcsIn w' A n xs := by
  refine ⟨h.1, fun q x hx => ?_⟩
  obtain ⟨ad, e, hl, hc⟩ := h.2 q x hx
  refine ⟨ad, e, Nat.lt_of_lt_of_le hl hs, hc.where_ ?_⟩
  rw [block_add]
  have h0 := (List.getElem?_eq_some_iff.1 hx).1
  have := h.1
  exact hk ad e (by omega)
theorem PcsIn.below {w w' : World} {A : Option Addr} {n : Nat} {xs : List IP} (h : PcsIn w A n xs) (hb : Below w.heap.size w w') : PcsIn w' A n xs := by
  refine ⟨h.1, fun q x hx => ?_⟩
  obtain ⟨ad, e, hl, hc⟩ := h.2 q x hx
  exact ⟨ad, e, Nat.lt_of_lt_of_le hl hb.size, hc.where_ (hb.block _ (by rw [block_add]; exact hl))⟩
theorem PcsIn.nil (w : World) : PcsIn w none 0 [] := ⟨rfl, fun q x h => by simp at h⟩
theorem PcsIn.none_nil {w : World} {n : Nat} {xs : List IP} (h : PcsIn w none n xs) : xs = [] := by
  cases xs with
  | nil => rfl
  | cons c r =>
    obtain ⟨ad, e, _⟩ := h.2 0 c rfl
    cases e
theorem PcsIn.at_ {w : World} {A : Option Addr} {n q : Nat} {xs : List IP} (h : PcsIn w A n xs) (hq : q < n) : ∃ ad x, A = some ad ∧ xs[q]? = some x ∧ ad.block < w.heap.size ∧ PieceAt w (ad.add (q * 3)) x := by
  have hl : q < xs.length := by rw [h.1]; exact hq
  have hg : xs[q]? = some xs[q] := List.getElem?_eq_getElem hl
  obtain ⟨ad, e, hb, hc⟩ := h.2 q _ hg
  exact ⟨ad, _, e, hg, hb, hc⟩

/-! ### pieces as values -/
def ipc (p : Ltx.Pc) : IP := ⟨(p.keep : Int), (p.drop : Int), p.put⟩
def cellsOf (p : Ltx.Pc) : List Value := [.int .i64 (p.keep : Int), .int .i64 (p.drop : Int), .string ⟨p.put.toArray⟩]
theorem cells_len (l : List Ltx.Pc) : (l.flatMap cellsOf).length = l.length * 3 := by
  induction l with
  | nil => rfl
  | cons p r ih => rw [List.flatMap_cons, List.length_append, ih]; simp [cellsOf]; omega
theorem cells_at : ∀ (l : List Ltx.Pc) (q : Nat) (p : Ltx.Pc), l[q]? = some p → ∀ j v, (cellsOf p)[j]? = some v → (l.flatMap cellsOf)[q * 3 + j]? = some v
  | a :: r, 0, p, h, j, v, hj => by
    simp at h
    subst h
    have hjl := (List.getElem?_eq_some_iff.1 hj).1
    rw [List.flatMap_cons, Nat.zero_mul, Nat.zero_add, List.getElem?_append_left hjl, hj]
  | a :: r, q + 1, p, h, j, v, hj => by
    have ih := cells_at r q p (by simpa using h) j v hj
    rw [List.flatMap_cons, List.getElem?_append_right (by simp [cellsOf]; omega)]
    rw [show (q + 1) * 3 + j - (cellsOf a).length = q * 3 + j by simp [cellsOf]; omega]
    exact ih
/-- pieces whose numbers int holds -/
def Low (l : List Ltx.Pc) : Prop := ∀ p ∈ l, p.keep ≤ 4000000000 ∧ p.drop ≤ 4000000000 ∧ p.put.length ≤ 4000000000
/-- the slice value v owns the pieces l -/
def OwnP (base : Nat) (w : World) (v : Value) (l : List Ltx.Pc) : Prop := w.ownsRow base 29 3 v l.length (l.flatMap cellsOf)
theorem OwnP.nil_ (base : Nat) (w : World) : OwnP base w (.slice none 0 0) [] := World.ownsRow_nil w base _ _
theorem Try.infoP : (Try.prog.info? 29).map (fun i => (i.zero, i.size, i.bytes)) = some (some (.agg #[.int .i64 0, .int .i64 0, .string ⟨#[]⟩]), 3, 32) := by kernel_rfl
/-- its shape, and that it reads as those pieces -/
theorem OwnP.shape {base : Nat} {w : World} {v : Value} {l : List Ltx.Pc} (h : OwnP base w v l) (hl : Low l) : ∃ (A : Option Addr) (n c : Nat), v = .slice A n c ∧ n = l.length ∧ n ≤ c ∧ c ≤ maxLen ∧ PcsIn w A n (l.map ipc) ∧ (A = none → c = 0) := by
  obtain ⟨A, c, rfl, h1, h2, h3, h4⟩ := own_form h
  refine ⟨A, _, c, rfl, rfl, h1, h2, ⟨by simp, fun q x hx => ?_⟩, h3⟩
  rw [List.getElem?_map] at hx
  cases hp : l[q]? with
  | none => rw [hp] at hx; cases hx
  | some p =>
    rw [hp] at hx
    simp only [Option.map_some, Option.some.injEq] at hx
    subst hx
    have hq := (List.getElem?_eq_some_iff.1 hp).1
    obtain ⟨g, rfl, hb, hlt, hc⟩ := h4 (by omega)
    have hm := hl p (List.mem_of_getElem? hp)
    have c0 := hc _ _ (cells_at l q p hp 0 _ rfl)
    have c1 := hc _ _ (cells_at l q p hp 1 _ rfl)
    have c2 := hc _ _ (cells_at l q p hp 2 _ rfl)
    have hadd : (⟨g, 0, none⟩ : Addr).add (q * 3) = ⟨g, q * 3, none⟩ := by unfold Addr.add; split <;> simp_all
    refine ⟨_, rfl, hlt, ?_⟩
    rw [hadd]
    refine ⟨?_, ?_, ?_, ?_, ?_, c0, c1, c2⟩
    · show -9223372036854775808 ≤ (p.keep : Int); omega
    · show (p.keep : Int) ≤ 9223372036854775807; omega
    · show -9223372036854775808 ≤ (p.drop : Int); omega
    · show (p.drop : Int) ≤ 9223372036854775807; omega
    · show p.put.length ≤ maxLen; unfold maxLen; omega
end Go.Proofs.Ytoeplaofgmdlbaa
