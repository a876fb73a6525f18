/- A slot and all below it are taken out: the document's. -/
import Derived.Test.YtiikakfdelkjhaaArnRe
import Derived.Test.YtiikakfdelkjhaaArnO
import Derived.Deep.RegionHeld3
import Derived.Deep.AppendLies
namespace Go.Proofs.Ytiikakfdelkjhaa.Arn
open Go.RowKit
set_option maxRecDepth 20000
set_option linter.unusedVariables false

theorem RDid.after {w w1 w2 : World} {ow ow1 : Nat → Role} {P : Nat} {a2 : Av} (hr : ∀ k, k < w.heap.size → ow1 k = ow k) (hf : FrX (fun k => (ow k).ref) w w1) (h : RDid w1 w2 ow1 P a2) : RDid w w2 ow P a2 := by
  obtain ⟨ow2, p2, e2, f2⟩ := h
  refine ⟨ow2, p2, fun k hk => (e2 k (Nat.lt_of_lt_of_le hk hf.size)).trans (hr k hk), hf.trans f2 fun k hk => ?_⟩
  by_cases hlt : k < w.heap.size
  · left; rw [← hr k hlt]; exact hk
  · right; omega
section
variable {w : World} {ow : Nat → Role} {P g : Nat} {a : Av} {sv : Nat → SV} {sc : Nat} {fA : Option Addr} {fc : Nat}
/-- one more free one -/
theorem rfree_grown (h : RA w ow P g a sv sc fA fc) {y : Nat} (hlen : a.free.length < 100000) {w4 : World} {g' cap : Nat}
    (ho : w4.ownsRow 0 3 1 (.slice (some ⟨g', 0, none⟩) (a.free.length + 1) cap) (a.free.length + 1) (nums a.free ++ [.int .i64 (y : Int)]))
    (hg : ((w.alloc (.cells #[.int .i64 (y : Int)] 3)).drew).grownBy w4 (Value.slice fA a.free.length fc).ownBlock) (hat : (Value.slice fA a.free.length fc).ownBlock = some g' ∨ g' = w.heap.size + 1) (hlt : g' < w4.heap.size) :
    w4.cell? ⟨P, 1, none⟩ = some (.slice fA a.free.length fc) ∧ (∀ o, w4.frozen? ⟨P, o, none⟩ = false) ∧ RDid w (w4.setCell ⟨P, 1, none⟩ (.slice (some ⟨g', 0, none⟩) (a.free.length + 1) cap)) ow P { a with free := a.free ++ [y] } := by
  have hb : FrX (Lies fA) w w4 := (FrX.of_below (S := Lies fA) ((Below.refl w.heap.size w).alloc (Nat.le_refl _) _).drew).trans (FrX.of_grown (S := Lies fA) hg fun k e => own_block e) fun k hk => .inl hk
  have hPl : P < w.heap.size := (Array.getElem?_eq_some_iff.1 h.head).1
  have hP4 := (hb.block P hPl fun ⟨ad, e1, e2⟩ => by have := h.rFree ad e1; rw [← e2, h.rP] at this; cases this).trans h.head
  have hl : (a.free ++ [y]).length = a.free.length + 1 := by simp
  have hown : OwnN w4 (.slice (some ⟨g', 0, none⟩) (a.free ++ [y]).length cap) (a.free ++ [y]) := by
    unfold OwnN
    rw [nums_app, hl]
    exact ho
  refine ⟨cell_of_row w4 P 1 _ _ _ hP4, fun o => frozen_of_row w4 P o _ _ hP4, ?_⟩
  have := rfreed h (l := a.free ++ [y]) (gA := some ⟨g', 0, none⟩) (gc := cap) (by rw [hl]; omega) hb hown fun ad e => ?_
  · rw [hl] at this
    exact this
  · injection e with e
    subst e
    rcases hat with e2 | e2
    · left
      obtain ⟨ad, e3, e4⟩ := own_block e2
      obtain ⟨-, -, -, -, h5⟩ := h.free.blk
      obtain ⟨g2, cur, rfl, _⟩ := h5 ad e3
      rw [e3]
      have e5 : g' = g2 := e4
      rw [e5]
    · right
      exact ⟨by show w.heap.size ≤ g'; omega, hlt⟩
/-- a slot is nothing -/
theorem rdead (h : RA w ow P g a sv sc fA fc) {y : Nat} (hy : y < a.cnt) : RDid w (eight w g (y * 8) (.bool false) (.int .u64 0) (.bool false) (.string ⟨#[]⟩) (.slice none 0 0) (.string ⟨#[]⟩) (.int .i64 0) (.slice none 0 0)).drew ow P (deadV a y) := by
  rw [eight_cells]
  refine RDid.then_ ?_ (Below.refl _ _).drew
  have e1 : (deadV a y).live y = false := upd_same _ _ _
  have e2 : (deadV a y).par y = 0 := upd_same _ _ _
  have e3 : (deadV a y).kids y = [] := upd_same _ _ _
  have e4 : (deadV a y).dat y = Dt.zero := upd_same _ _ _
  have := rstored h hy (w7 := w) (Below.refl _ _) (a9 := deadV a y) SV.zero rfl rfl (fun i hi => ⟨upd_ne _ _ hi, upd_ne _ _ hi, upd_ne _ _ hi, upd_ne _ _ hi⟩) (by rw [e3]; exact ImmN.nil_ _ _) (by rw [e3]; exact Nat.zero_le _) (by rw [e4]; exact DatOk.zero_ _ _) (by rw [e2]; decide)
  unfold refCells at this
  rw [e1, e2, e4] at this
  exact this
theorem dead_free (a : Av) (l : List Nat) (y : Nat) : ({ deadV (freeV (deadsV a l) l) y with free := (deadV (freeV (deadsV a l) l) y).free ++ [y] } : Av) = freeV (deadsV a (l ++ [y])) (l ++ [y]) := by
  unfold deadsV
  rw [List.foldl_append]
  unfold freeV deadV
  simp
end
end Go.Proofs.Ytiikakfdelkjhaa.Arn
