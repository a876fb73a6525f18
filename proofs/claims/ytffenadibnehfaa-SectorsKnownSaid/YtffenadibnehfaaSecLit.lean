/- The law's own row of calls, laid down. -/
import Derived.Test.YtffenadibnehfaaSecLawB
namespace Go.Proofs.Ytffenadibnehfaa
open Go.RowKit

theorem heap_old : ∀ (os : List Obj) (w : World) (j : Nat), j < w.heap.size → (os.foldl World.alloc w).heap[j]? = w.heap[j]?
  | [], _, _, _ => rfl
  | o :: r, w, j, h => by
    have e := heap_old r (w.alloc o) j (by simp; omega)
    exact e.trans (heap_alloc_old w o h)
theorem heap_new : ∀ (os : List Obj) (w : World) (k : Nat) (o : Obj), os[k]? = some o → (os.foldl World.alloc w).heap[w.heap.size + k]? = some o
  | [], _, _, _, h => by simp at h
  | o :: r, w, 0, o', h => by
    simp at h
    subst h
    have e := heap_old r (w.alloc o) w.heap.size (by simp)
    exact e.trans (heap_alloc_new w o)
  | o :: r, w, k + 1, o', h => by
    have e := heap_new r (w.alloc o) k o' (by simpa using h)
    rw [show (w.alloc o).heap.size + k = w.heap.size + (k + 1) by simp; omega] at e
    exact e
theorem allocs_below : ∀ (os : List Obj) (w w0 : World) (B : Nat), Below B w0 w → B ≤ w.heap.size → Below B w0 (os.foldl World.alloc w)
  | [], _, _, _, h, _ => h
  | o :: r, w, w0, B, h, hB => allocs_below r (w.alloc o) w0 B (h.alloc hB o) (by simp; omega)

/-- a call of the literal: its kind, its number, where its bytes are, and they -/
structure LC where
  kind : Nat
  i : Int
  A : Option Addr
  b : List UInt8
def LC.cells (x : LC) : List Value := [.int .u8 (x.kind : Int), .int .i64 x.i, .slice x.A x.b.length x.b.length]
def LC.call (x : LC) : CX := ⟨x.kind, x.i, x.b⟩
def lcCells : List LC → List Value
  | [] => []
  | x :: r => .int .u8 (x.kind : Int) :: .int .i64 x.i :: .slice x.A x.b.length x.b.length :: lcCells r
theorem lc_at : ∀ (l : List LC) (q : Nat) (x : LC), l[q]? = some x → (lcCells l)[q * 3]? = some (.int .u8 (x.kind : Int)) ∧ (lcCells l)[q * 3 + 1]? = some (.int .i64 x.i) ∧ (lcCells l)[q * 3 + 2]? = some (.slice x.A x.b.length x.b.length)
  | [], q, x, h => by simp at h
  | y :: r, 0, x, h => by
    simp at h
    subst h
    exact ⟨rfl, rfl, rfl⟩
  | y :: r, q + 1, x, h => by
    have ih := lc_at r q x (by simpa using h)
    rw [show (q + 1) * 3 = q * 3 + 3 by omega]
    exact ih
/-- what such a call asks -/
def LC.ok (w : World) (x : LC) : Prop := x.kind < 256 ∧ -9223372036854775808 ≤ x.i ∧ x.i ≤ 9223372036854775807 ∧ Bts w x.A x.b.length x.b ∧ x.b.length ≤ maxLen ∧ (x.A = none → x.b.length = 0)
theorem calls_lit {w : World} {N n : Nat} {l : List LC} {t : TypeId} {fr : Nat × Nat} (hn : l.length = n) (hN : w.heap[N]? = some (.cells (lcCells l).toArray t fr)) (hok : ∀ x ∈ l, x.ok w) : CallsIn w (some ⟨N, 0, none⟩) n (l.map LC.call) := by
  refine ⟨by rw [List.length_map, hn], fun q x hx => ⟨⟨N, 0, none⟩, rfl, (Array.getElem?_eq_some_iff.1 hN).1, ?_⟩⟩
  rw [List.getElem?_map] at hx
  cases hy : l[q]? with
  | none => rw [hy] at hx; cases hx
  | some y =>
    rw [hy] at hx
    simp only [Option.map_some, Option.some.injEq] at hx
    subst hx
    obtain ⟨h1, h2, h3, h4, h5, h6⟩ := hok y (List.mem_of_getElem? hy)
    obtain ⟨a0, a1, a2⟩ := lc_at l q y hy
    have hadd : (⟨N, 0, none⟩ : Addr).add (q * 3) = ⟨N, q * 3, none⟩ := by unfold Addr.add; split <;> simp_all
    rw [hadd]
    have hc : ∀ j, w.cell? ⟨N, j, none⟩ = (lcCells l)[j]? := fun j => by rw [cell_of_row w N j _ _ _ hN]; simp
    exact ⟨h1, h2, h3, (hc _).trans a0, (hc _).trans a1, y.A, _, _, (hc _).trans a2, h4, Nat.le_refl _, h5, h6⟩

/-- the literal's calls -/
def litCalls (N : Nat) : List LC :=
  [⟨0, 0, some ⟨N + 1, 0, none⟩, [97, 98]⟩, ⟨1, 1, some ⟨N, 0, none⟩, List.replicate 129 0⟩, ⟨2, 1, some ⟨N, 1, none⟩, List.replicate 128 0⟩, ⟨0, -1, none, []⟩, ⟨0, 3, none, []⟩,
   ⟨9, 1, some ⟨N + 1 + 1, 0, none⟩, [120]⟩, ⟨3, 2, some ⟨N + 1 + 1 + 1, 0, none⟩, [99]⟩, ⟨5, 1, none, []⟩, ⟨0, 0, some ⟨N + 1 + 1 + 1 + 1, 0, none⟩, [100]⟩, ⟨0, 0, some ⟨N + 1 + 1 + 1 + 1 + 1, 0, none⟩, [101]⟩,
   ⟨0, 0, some ⟨N + 1 + 1 + 1 + 1 + 1 + 1, 0, none⟩, [102]⟩, ⟨4, 0, none, []⟩, ⟨27, 0, none, []⟩, ⟨7, 0, none, []⟩, ⟨0, 0, none, []⟩, ⟨8, 0, none, []⟩, ⟨9, -4, some ⟨N + 1 + 1 + 1 + 1 + 1 + 1 + 1, 0, none⟩, [121]⟩,
   ⟨0, 1, some ⟨N + 1 + 1 + 1 + 1 + 1 + 1 + 1 + 1, 0, none⟩, [103]⟩, ⟨9, 99, none, []⟩, ⟨5, -1, none, []⟩, ⟨6, 0, none, []⟩, ⟨9, 5, some ⟨N + 1 + 1 + 1 + 1 + 1 + 1 + 1 + 1 + 1, 0, none⟩, [122]⟩]
def litObjs (N : Nat) (ll : Array Value) : List Obj :=
  [.cells ll 5 (0, 0), .cells #[.int .u8 97, .int .u8 98] 5 (2, 3), .cells #[.int .u8 120] 5 (1, 2), .cells #[.int .u8 99] 5 (1, 2), .cells #[.int .u8 100] 5 (1, 2), .cells #[.int .u8 101] 5 (1, 2),
   .cells #[.int .u8 102] 5 (1, 2), .cells #[.int .u8 121] 5 (1, 2), .cells #[.int .u8 103] 5 (1, 2), .cells #[.int .u8 122] 5 (1, 2), .cells (lcCells (litCalls N)).toArray 31 (0, 0)]
theorem lit_in (w : World) (ll : Array Value) (hll : ll = (List.replicate 129 (Value.int .u8 0)).toArray) :
    CallsIn ((litObjs w.heap.size ll).foldl World.alloc w) (some ⟨w.heap.size + 1 + 1 + 1 + 1 + 1 + 1 + 1 + 1 + 1 + 1, 0, none⟩) 22 ((litCalls w.heap.size).map LC.call) := by
  have hb : ∀ k o, (litObjs w.heap.size ll)[k]? = some o → ((litObjs w.heap.size ll).foldl World.alloc w).heap[w.heap.size + k]? = some o := fun k o h => heap_new _ w k o h
  have hL : Bts ((litObjs w.heap.size ll).foldl World.alloc w) (some ⟨w.heap.size, 0, none⟩) 129 (List.replicate 129 0) := Bts.of_block (hb 0 _ rfl) List.length_replicate (by rw [hll, List.map_replicate]; rfl)
  have hone : ∀ (k : Nat) (c : UInt8), (litObjs w.heap.size ll)[k]? = some (.cells #[.int .u8 (c.toNat : Int)] 5 (1, 2)) → Bts ((litObjs w.heap.size ll).foldl World.alloc w) (some ⟨w.heap.size + k, 0, none⟩) 1 [c] := fun k c h => Bts.of_block (hb k _ h) rfl rfl
  refine calls_lit rfl (hb 10 _ rfl) ?_
  generalize hW : (litObjs w.heap.size ll).foldl World.alloc w = W at *
  have small : ∀ (kind : Nat) (i : Int) (A : Option Addr) (b : List UInt8), kind < 256 → -9223372036854775808 ≤ i → i ≤ 9223372036854775807 → Bts W A b.length b → b.length ≤ 200 → (A = none → b.length = 0) → LC.ok W ⟨kind, i, A, b⟩ :=
    fun kind i A b h1 h2 h3 h4 h5 h6 => ⟨h1, h2, h3, h4, by show b.length ≤ maxLen; unfold maxLen; omega, h6⟩
  have none_ : ∀ (kind : Nat) (i : Int), kind < 256 → -9223372036854775808 ≤ i → i ≤ 9223372036854775807 → LC.ok W ⟨kind, i, none, []⟩ := fun kind i h1 h2 h3 => small kind i none [] h1 h2 h3 (Bts.none_ W) (by decide) (fun _ => rfl)
  unfold litCalls
  simp only [List.forall_mem_cons]
  refine ⟨small 0 0 _ _ (by decide) (by decide) (by decide) (Bts.of_block (hb 1 _ rfl) rfl rfl) (by decide) (fun e => by cases e), ?_, ?_, none_ _ _ (by decide) (by decide) (by decide), none_ _ _ (by decide) (by decide) (by decide),
    small _ _ _ _ (by decide) (by decide) (by decide) (hone 2 120 rfl) (by decide) (fun e => by cases e), small _ _ _ _ (by decide) (by decide) (by decide) (hone 3 99 rfl) (by decide) (fun e => by cases e), none_ _ _ (by decide) (by decide) (by decide),
    small _ _ _ _ (by decide) (by decide) (by decide) (hone 4 100 rfl) (by decide) (fun e => by cases e), small _ _ _ _ (by decide) (by decide) (by decide) (hone 5 101 rfl) (by decide) (fun e => by cases e),
    small _ _ _ _ (by decide) (by decide) (by decide) (hone 6 102 rfl) (by decide) (fun e => by cases e), none_ _ _ (by decide) (by decide) (by decide), none_ _ _ (by decide) (by decide) (by decide), none_ _ _ (by decide) (by decide) (by decide),
    none_ _ _ (by decide) (by decide) (by decide), none_ _ _ (by decide) (by decide) (by decide), small _ _ _ _ (by decide) (by decide) (by decide) (hone 7 121 rfl) (by decide) (fun e => by cases e),
    small _ _ _ _ (by decide) (by decide) (by decide) (hone 8 103 rfl) (by decide) (fun e => by cases e), none_ _ _ (by decide) (by decide) (by decide), none_ _ _ (by decide) (by decide) (by decide), none_ _ _ (by decide) (by decide) (by decide),
    small _ _ _ _ (by decide) (by decide) (by decide) (hone 9 122 rfl) (by decide) (fun e => by cases e), fun _ h => by cases h⟩
  · refine small _ _ _ _ (by decide) (by decide) (by decide) ?_ (by rw [List.length_replicate]; decide) (fun e => by cases e)
    rw [List.length_replicate]
    exact hL
  · refine small _ _ _ _ (by decide) (by decide) (by decide) ?_ (by rw [List.length_replicate]; decide) (fun e => by cases e)
    rw [List.length_replicate]
    have h := hL.cut (lo := 1) (m := 128) (by decide)
    rw [List.drop_replicate, List.take_replicate] at h
    exact h
theorem lit_below (w : World) (ll : Array Value) : Below w.heap.size w ((litObjs w.heap.size ll).foldl World.alloc w) := allocs_below _ w w _ (Below.refl _ _) (Nat.le_refl _)
end Go.Proofs.Ytffenadibnehfaa
