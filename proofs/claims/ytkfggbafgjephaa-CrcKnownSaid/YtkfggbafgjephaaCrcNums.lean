/- Numbers of 32 bits appended, one by one, to a row of the call's own. -/
import Derived.Test.YtkfggbafgjephaaCrcTurns
namespace Go.Proofs.Ytkfggbafgjephaa
open Go.RowKit

def numV (x : Nat) : Value := .int .u32 (x : Int)
/-- the slice value v owns the numbers xs -/
def OwnU (base : Nat) (w : World) (v : Value) (xs : List Nat) : Prop := w.ownsRow base 22 1 v xs.length (xs.map numV)

theorem OwnU.nil_ (base : Nat) (w : World) : OwnU base w (.slice none 0 0) [] := World.ownsRow_nil w base _ _
theorem OwnU.one (base : Nat) (w : World) (x : Nat) (hb : base ≤ w.heap.size) : OwnU base (w.alloc (.cells #[.int .u32 (x : Int)] 22)) (.slice (some ⟨w.heap.size, 0, none⟩) 1 1) [x] :=
  World.ownsRow_lit w #[.int .u32 (x : Int)] 1 hb (by unfold maxLen; omega) rfl
/-- its shape, where it owns something, and the cells -/
theorem OwnU.shape {base : Nat} {w : World} {v : Value} {xs : List Nat} (h : OwnU base w v xs) (hp : 0 < xs.length) :
    ∃ g n c : Nat, v = .slice (some ⟨g, 0, none⟩) n c ∧ n = xs.length ∧ n ≤ c ∧ base ≤ g ∧ g < w.heap.size ∧ ∀ (j x : Nat), xs[j]? = some x → w.cell? ⟨g, j, none⟩ = some (.int .u32 (x : Int)) := by
  have h' := h
  rcases h.2 with ⟨rfl, h0⟩ | ⟨g, cap, cur, rfl, hb, hg, hnc, hcm, _⟩
  · omega
  · have hlt : g < w.heap.size := (Array.getElem?_eq_some_iff.1 hg).1
    refine ⟨g, _, cap, rfl, rfl, hnc, hb, hlt, fun j x hj => ?_⟩
    have hadd : (⟨g, 0, none⟩ : Addr).add j = ⟨g, j, none⟩ := by unfold Addr.add; split <;> simp_all
    rw [← hadd]
    exact h'.cells (g := g) rfl j _ (by rw [List.getElem?_map, hj]; rfl)
theorem OwnU.lt {base : Nat} {w : World} {v : Value} {xs : List Nat} (h : OwnU base w v xs) : ∀ k, v.ownBlock = some k → base ≤ k ∧ k < w.heap.size := World.ownsRow.lt h

/-- append(v, x), v the call's own -/
theorem wpList_append_num {w : World} {ops : Array Oper} {rest : List Oper} {o : Oper} {a : Act} {Q : Exit → Act → World → Prop} (hgd : o.guard = none) (s y : Operand)
    (ho : o.op = .call { callee := .builtin .append, args := #[s, y], argTypes := #[28, 28] })
    (base : Nat) (v : Value) (xs : List Nat) (x : Nat) (hs : a.eval s = v) (hown : OwnU base w v xs)
    (hx : a.eval y = .slice (some ⟨w.heap.size, 0, none⟩) 1 1) (hlen : xs.length ≤ 100000) (hbase : base ≤ w.heap.size)
    (h : ∀ v' w', OwnU base w' v' (xs ++ [x]) → (w.alloc (.cells #[.int .u32 (x : Int)] 22)).grownBy w' v.ownBlock → wpList Try.prog ops Q rest (a.put o.dst v') w') :
    wpList Try.prog ops Q (o :: rest) a (w.alloc (.cells #[.int .u32 (x : Int)] 22)) := by
  obtain ⟨i0, hi, hz0, hz1, hz2⟩ := info_parts Try.info22
  refine wpList_append_own_at (w.alloc _) hgd s y _ ho base 22 i0 (.int .u32 0) 1 4 Try.underlying28 hi hz0 hz1 hz2 rfl (by omega) v xs.length (xs.map numV) hs (World.ownsRow.alloc hown _) ⟨w.heap.size, 0, none⟩ 1 1 [.int .u32 (x : Int)] hx rfl
    (cell_one_new w _ _) (by intro u hu; simp at hu; subst hu; rfl) (by unfold maxLen; omega) (by omega) (by simp; omega) ?_
  intro v' w' hown' hgrow _ _
  refine h v' w' ?_ hgrow
  unfold OwnU
  rw [List.length_append, List.map_append]
  exact hown'
end Go.Proofs.Ytkfggbafgjephaa
