/- A slot is settled: the program's. -/
import Derived.Test.YtiikakfdelkjhaaArnF
import Derived.Deep.RegionWith
import Derived.Deep.RegionHeld3
namespace Go.Proofs.Ytiikakfdelkjhaa.Arn
open Go.RowKit
set_option maxRecDepth 20000

/-- what a call that writes leaves -/
def Did (w w' : World) (ow : Nat → Role) (P : Nat) (a : Av) : Prop := ∃ ow', PAr w' ow' P a ∧ (∀ k, k < w.heap.size → ow' k = ow k) ∧ FrX (fun k => (ow k).prg) w w'
theorem Did.trans {w w1 w2 : World} {ow : Nat → Role} {P : Nat} {a1 a2 : Av} (h : Did w w1 ow P a1) (h2 : ∀ ow1, PAr w1 ow1 P a1 → Did w1 w2 ow1 P a2) : Did w w2 ow P a2 := by
  obtain ⟨ow1, p1, e1, f1⟩ := h
  obtain ⟨ow2, p2, e2, f2⟩ := h2 ow1 p1
  refine ⟨ow2, p2, fun k hk => (e2 k (Nat.lt_of_lt_of_le hk f1.size)).trans (e1 k hk), f1.trans f2 fun k hk => ?_⟩
  by_cases hlt : k < w.heap.size
  · left; rw [← e1 k hlt]; exact hk
  · right; omega
theorem Did.refl {w : World} {ow : Nat → Role} {P : Nat} {a : Av} (h : PAr w ow P a) : Did w w ow P a := ⟨ow, h, fun _ _ => rfl, FrX.refl _ _⟩
theorem Did.below {w w' : World} {ow : Nat → Role} {P : Nat} {a : Av} (h : PAr w ow P a) (hb : Below w.heap.size w w') : Did w w' ow P a := ⟨ow, h.below hb, fun _ _ => rfl, FrX.of_below hb⟩
section
variable {w : World} {ow : Nat → Role} {P : Nat} {a : Av} {B : Nat → Nat} {m : Nat} {sv : Nat → SV} {sA : Option Addr} {sc : Nat} {fA : Option Addr} {fc : Nat}
theorem settled (h : PA w ow P a B m sv sA sc fA fc) {s : Nat} (hs : s < a.cnt) {p : Int} (hp : -1 ≤ p ∧ p ≤ 100000) {w7 : World} (hb : Below w.heap.size w w7) {d : Dt} {A : Option Addr} {dn c : Nat} (hd : DatOk (New w w7) w7 d A dn c) :
    Did w (eight w7 (B (s / 16)) (s % 16 * 8) (.bool true) (.int .i64 p) (.slice none 0 0) (.int .u64 (d.id : Int)) (.bool d.leaf) (.string ⟨d.label.toArray⟩) (.slice A dn c) (.string ⟨d.text.toArray⟩)) ow P (settleV a s p d) := by
  have hsm : s < m * 16 := by have := h.room; omega
  obtain ⟨hB, cs, t, hcs, hcz⟩ := h.slab (s / 16) (by omega)
  have hBl : B (s / 16) < w.heap.size := (Array.getElem?_eq_some_iff.1 hcs).1
  have hcs7 := (hb.block _ hBl).trans hcs
  rw [eight_cells]
  obtain ⟨W, hW, h1, h2, h3, h4, h5, h6⟩ := put_row (w := w7) (g := B (s / 16)) (o := s % 16 * 8) [.bool true, .int .i64 p, .slice none 0 0, .int .u64 (d.id : Int), .bool d.leaf, .string ⟨d.label.toArray⟩, .slice A dn c, .string ⟨d.text.toArray⟩] hcs7 (by simp; omega)
  rw [← hW]
  clear hW
  have hz := hb.size
  refine ⟨fun k => if w.heap.size ≤ k ∧ k < w7.heap.size then .imm else ow k, ⟨B, m, _, sA, sc, fA, fc, h.put (s := s) (a9 := settleV a s p d) (sv9 := ⟨none, 0, 0, A, dn, c⟩) hs rfl rfl (fun i hi => ⟨upd_ne _ _ hi, upd_ne _ _ hi, upd_ne _ _ hi, upd_ne _ _ hi⟩) (fun k hk => if_neg (by omega)) (fun k hk => ?_) (fun k hu hk hk2 => ?_) ?_ (fun o ho => ?_) (fun j u hj => ?_) ?_ ?_ ?_ ?_⟩, fun k hk => if_neg (by omega), ?_⟩
  · rw [h3]
    by_cases e : w.heap.size ≤ k ∧ k < w7.heap.size
    · exact e.2
    · have hk' : ow k ≠ .off := by simpa [e] using hk
      have := h.low k hk'
      omega
  · have hkl : k < w.heap.size := h.low k (by intro e; rw [e] at hu; exact hu)
    exact (h2 k hk).trans (hb.block k hkl)
  · obtain ⟨cs', e1, e2⟩ := h1
    exact ⟨cs', t, e1, by rw [e2, hcz]⟩
  · rw [h4 o (by simpa using ho)]
    exact hb.cell (p := ⟨B (s / 16), o, none⟩) hBl
  · refine h5 j u ?_
    rw [← hj]
    unfold slotCells settleV datCells
    simp only [upd_same]
  · have e0 : (settleV a s p d).kids s = [] := upd_same _ _ _
    rw [e0]
    exact ⟨OwnN.nil_ _, rfl, fun ad e => by cases e⟩
  · have e0 : (settleV a s p d).kids s = [] := upd_same _ _ _
    rw [e0]
    exact Nat.zero_le _
  · have e0 : (settleV a s p d).dat s = d := upd_same _ _ _
    rw [e0]
    refine hd.kept (fun k hk => if_pos hk) fun k hk => h2 k ?_
    have := hk.1
    omega
  · have e0 : (settleV a s p d).par s = p := upd_same _ _ _
    rw [e0]
    exact hp
  · exact (FrX.of_below hb).trans (h6 (fun k => k = B (s / 16)) rfl) fun k hk => .inl (by subst hk; rw [hB]; trivial)
set_option maxHeartbeats 4000000 in
theorem settle_any (h : PA w ow P a B m sv sA sc fA fc) {s : Nat} (hs : s < a.cnt) {p : Int} (hp : -1 ≤ p ∧ p ≤ 100000) (T : Nat → Prop) (d : Dt) (dA : Option Addr) (dn dc : Nat) (hd : DatOk T w d dA dn dc) (hT : ∀ k, T k → k < w.heap.size) :
    Calls Try.prog 28 #[.pointer (some ⟨P, 0, none⟩), .int .i64 (s : Int), .int .i64 p, datV d dA dn dc] w fun e w' => e = .returned (.tuple #[]) ∧ Did w w' ow P (settleV a s p d) := by
  have h' := Lib.hid h
  have hd' := Lib.hid hd
  have hT' := Lib.hid hT
  have hsm := Lib.hid (show s < m * 16 by have := h.room; omega)
  have hK := Lib.hid (fun W (hb : Below w.heap.size w W) => h.below hb)
  have hC := Lib.hid (fun W (hb : Below w.heap.size w W) => copied_any W T d dA dn dc (hd.kept (fun _ h => h) fun k hk => hb.block k (hT k hk)) fun k hk => Nat.lt_of_lt_of_le (hT k hk) hb.size)
  have hal := Lib.hid (fun o => ((Below.refl w.heap.size w).alloc (Nat.le_refl _) o).drew)
  obtain ⟨cs, t, hcs, hcz⟩ := (h.slab (s / 16) (by have := hsm.out; omega)).2
  clear h hd hT
  unfold datV
  go_enter Try.func28, Try.ntmps28
  go_wp2_with fail
  have hcs' := Lib.hid hcs
  clear hcs
  go_region_with (first
    | (refine (node_any (s := s) (hK.out _ (hal.out _)) hsm.out).mono ?_; rintro e w7 ⟨rfl, rfl⟩)
    | (refine (hC.out _ (hal.out _)).mono ?_; rintro e w7 ⟨A, c, rfl, hdat, hb⟩; have hb7 := Lib.hid ((hal.out _).trans (hb.mono (by simp))); have hdat' := Lib.hid hdat; have hbb := Lib.hid hb; clear hb hdat; obtain ⟨z0, z1, z2, z3, z4, z5, z6, z7⟩ := (hK.out _ hb7.out).eight hsm.out; have zh := (hb7.out.block _ (Array.getElem?_eq_some_iff.1 hcs'.out).1).trans hcs'.out; have zf := fun o => frozen_of_row w7 _ o _ _ zh; clear zh; rw [show datV d A dn c = .agg #[.int .u64 (d.id : Int), .bool d.leaf, .string ⟨d.label.toArray⟩, .slice A dn c, .string ⟨d.text.toArray⟩] from rfl]))
  all_goals (
    go_end0
    refine ⟨rfl, settled h'.out hs hp hb7.out (hdat'.out.kept (fun k hk => ⟨?_, hk.2⟩) fun _ _ => rfl)⟩
    have := hk.1
    simp at this
    omega)
end
end Go.Proofs.Ytiikakfdelkjhaa.Arn
