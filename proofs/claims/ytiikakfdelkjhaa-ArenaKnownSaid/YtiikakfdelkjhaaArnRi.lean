/- A new arena: the document's. -/
import Derived.Test.YtiikakfdelkjhaaArnRh
namespace Go.Proofs.Ytiikakfdelkjhaa.Arn
open Go.RowKit
set_option maxRecDepth 20000
set_option linter.unusedVariables false

theorem RA.fresh {w : World} {ow : Nat → Role} {P g : Nat} {d : Dt} {A : Option Addr} {dn c : Nat} (hh : w.heap[P]? = some (.cells #[.slice (some ⟨g, 0, none⟩) 1 1, .slice none 0 0] 70 (0, 0))) (hP : ow P = .rhead)
    (hg : w.heap[g]? = some (.cells #[.bool true, .int .u64 (d.id : Int), .bool false, .string ⟨d.label.toArray⟩, .slice A dn c, .string ⟨d.text.toArray⟩, .int .i64 (-1), .slice none 0 0] 35 (0, 0))) (hR : ow g = .rrow)
    (hd : DatOk (fun k => ow k = .imm) w d A dn c) (hl : ∀ k, ow k ≠ .off → k < w.heap.size) : RA w ow P g (newV d) (fun _ => ⟨none, 0, 0, A, dn, c⟩) 1 none 0 := by
  refine { head := hh, rP := hP, row := ⟨_, hg, rfl⟩, rRow := hR, cap := Nat.le_refl _, capm := by decide, free := OwnN.nil_ _, rFree := fun ad e => (by cases e), small := (by decide : (1 : Nat) ≤ 100000), fsmall := Nat.zero_le _, cells := fun i hi j u hj => ?_, kids := fun i hi => ImmN.nil_ _ _, ksmall := fun i => Nat.zero_le _, dat := fun i hi => ?_, low := hl, pars := fun i => ?_ }
  · have hi : i = 0 := by have hi' : i < 1 := hi; omega
    subst hi
    rw [Nat.zero_mul, Nat.zero_add, cell_of_row w g j _ _ _ hg, ← hj]
    unfold refCells newV
    rw [← Array.getElem?_toList]
    rfl
  · have hi : i = 0 := by have hi' : i < 1 := hi; omega
    subst hi
    exact ⟨hd.id, hd.label, hd.text, hd.ats, hd.anc, hd.acm, hd.anil, hd.few⟩
  · show -1 ≤ (if i = 0 then (-1 : Int) else 0) ∧ (if i = 0 then (-1 : Int) else 0) ≤ 100000
    split <;> decide
set_option maxHeartbeats 400000 in
theorem rnew_any (w : World) (ow : Nat → Role) (hlow : ∀ k, ow k ≠ .off → k < w.heap.size) (T : Nat → Prop) (d : Dt) (dA : Option Addr) (dn dc : Nat) (hd : DatOk T w d dA dn dc) (hT : ∀ k, T k → k < w.heap.size) :
    Calls Try.prog 11 #[plV d dA dn dc] w fun e w' => ∃ P ow', e = .returned (.pointer (some ⟨P, 0, none⟩)) ∧ RAr w' ow' P (newV d) ∧ (∀ k, k < w.heap.size → ow' k = ow k) ∧ Below w.heap.size w w' := by
  have hlow' := Lib.hid hlow
  obtain ⟨id, leaf, lb, at_, tx⟩ := d
  have hal := Lib.hid (fun o => (Below.refl w.heap.size w).alloc (Nat.le_refl _) o)
  have hC := Lib.hid (fun W (hb : Below w.heap.size w W) => rcopied_any W T false ⟨id, leaf, lb, at_, tx⟩ dA dn dc 0 none 0 0 (hd.kept (fun _ h => h) fun k hk => hb.block k (hT k hk)) fun k hk => Nat.lt_of_lt_of_le (hT k hk) hb.size)
  clear hlow hd hT
  unfold plV sltV
  unfold sltV at hC
  dsimp only at hC ⊢
  go_enter Try.func11, Try.ntmps11
  go_wp2_with (go_at_call 30; refine (hC.out _ (hal.out _)).mono ?_; rintro e w2 ⟨A, c, rfl, hdat, hb⟩; have hdat' := Lib.hid hdat; have hb' := Lib.hid ((hal.out _).trans (hb.mono (hal.out _).size)); clear hdat hb)
  go_ret
  have hz := hb'.out.size
  obtain ⟨W, hW, hWz, hWo, hWg, hWP⟩ : ∃ W, W = ((w2.alloc (.cells #[.bool true, .int .u64 (id : Int), .bool false, .string ⟨lb.toArray⟩, .slice A dn c, .string ⟨tx.toArray⟩, .int .i64 (-1), .slice none 0 0] 35)).alloc (.cells #[.bool true, .int .u64 (id : Int), .bool false, .string ⟨lb.toArray⟩, .slice A dn c, .string ⟨tx.toArray⟩, .int .i64 (-1), .slice none 0 0] 35)).alloc (.cells #[.slice (some ⟨w2.heap.size + 1, 0, none⟩) 1 1, .slice none 0 0] 70) ∧
      W.heap.size = w2.heap.size + 3 ∧ (∀ k, k < w2.heap.size → W.heap[k]? = w2.heap[k]?) ∧
      W.heap[w2.heap.size + 1]? = some (.cells #[.bool true, .int .u64 (id : Int), .bool false, .string ⟨lb.toArray⟩, .slice A dn c, .string ⟨tx.toArray⟩, .int .i64 (-1), .slice none 0 0] 35 (0, 0)) ∧
      W.heap[w2.heap.size + 1 + 1]? = some (.cells #[.slice (some ⟨w2.heap.size + 1, 0, none⟩) 1 1, .slice none 0 0] 70 (0, 0)) := by
    refine ⟨_, rfl, by simp, fun k hk => ?_, ?_, ?_⟩
    · exact (Go.heap_alloc_old _ _ (by simp; omega)).trans ((Go.heap_alloc_old _ _ (by simp; omega)).trans (Go.heap_alloc_old _ _ hk))
    · refine (Go.heap_alloc_old _ _ (by simp)).trans ?_
      have := heap_alloc_new (w2.alloc (.cells #[.bool true, .int .u64 (id : Int), .bool false, .string ⟨lb.toArray⟩, .slice A dn c, .string ⟨tx.toArray⟩, .int .i64 (-1), .slice none 0 0] 35)) (.cells #[.bool true, .int .u64 (id : Int), .bool false, .string ⟨lb.toArray⟩, .slice A dn c, .string ⟨tx.toArray⟩, .int .i64 (-1), .slice none 0 0] 35)
      rw [World.size_alloc] at this
      exact this
    · have := heap_alloc_new ((w2.alloc (.cells #[.bool true, .int .u64 (id : Int), .bool false, .string ⟨lb.toArray⟩, .slice A dn c, .string ⟨tx.toArray⟩, .int .i64 (-1), .slice none 0 0] 35)).alloc (.cells #[.bool true, .int .u64 (id : Int), .bool false, .string ⟨lb.toArray⟩, .slice A dn c, .string ⟨tx.toArray⟩, .int .i64 (-1), .slice none 0 0] 35)) (.cells #[.slice (some ⟨w2.heap.size + 1, 0, none⟩) 1 1, .slice none 0 0] 70)
      rw [World.size_alloc, World.size_alloc] at this
      exact this
  have hbW : Below w.heap.size w W := by
    rw [hW]
    exact ((hb'.out.alloc hz _).alloc (by simp; omega) _).alloc (by simp; omega) _
  rw [← hW]
  clear hW
  let ow9 : Nat → Role := fun k => if k = w2.heap.size + 1 + 1 then .rhead else if k = w2.heap.size + 1 then .rrow else if w.heap.size ≤ k ∧ k < w2.heap.size then .imm else ow k
  have hd := hdat'.out
  refine ⟨w2.heap.size + 1 + 1, ow9, rfl, ⟨w2.heap.size + 1, _, _, _, _, RA.fresh (A := A) (dn := dn) (c := c) (d := ⟨id, leaf, lb, at_, tx⟩) hWP (if_pos rfl) hWg ?_ (hd.kept (fun k hk => ?_) fun k hk => hWo k hk.2) fun k hk => ?_⟩, fun k hk => ?_, hbW⟩
  · show (if w2.heap.size + 1 = w2.heap.size + 1 + 1 then Role.rhead else if w2.heap.size + 1 = w2.heap.size + 1 then .rrow else _) = _
    rw [if_neg (by omega), if_pos rfl]
  · show (if k = w2.heap.size + 1 + 1 then Role.rhead else if k = w2.heap.size + 1 then .rrow else if w.heap.size ≤ k ∧ k < w2.heap.size then .imm else ow k) = _
    have h1 := hk.2
    have h2 := Nat.le_trans (hal.out _).size hk.1
    rw [if_neg (by omega), if_neg (by omega), if_pos ⟨h2, h1⟩]
  · rw [hWz]
    by_cases e1 : k < w2.heap.size + 3
    · exact e1
    · exfalso
      have hk2 : (if k = w2.heap.size + 1 + 1 then Role.rhead else if k = w2.heap.size + 1 then .rrow else if w.heap.size ≤ k ∧ k < w2.heap.size then .imm else ow k) ≠ .off := hk
      rw [if_neg (by omega), if_neg (by omega), if_neg (by omega)] at hk2
      have := hlow'.out k hk2
      omega
  · show (if k = w2.heap.size + 1 + 1 then Role.rhead else if k = w2.heap.size + 1 then .rrow else if w.heap.size ≤ k ∧ k < w2.heap.size then .imm else ow k) = _
    rw [if_neg (by omega), if_neg (by omega), if_neg (by omega)]
end Go.Proofs.Ytiikakfdelkjhaa.Arn
