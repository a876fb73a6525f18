/- Data told by both sides are the same: the law's sameData. -/
import Derived.Test.YtiikakfdelkjhaaArnPl
namespace Go.Proofs.Ytiikakfdelkjhaa.Arn
open Go.RowKit
set_option maxRecDepth 20000
set_option linter.unusedVariables false

theorem part_str (w : World) (cs : Array Value) (o : Nat) (v : Value) (h : cs[o]? = some v) : (part 9 cs o).run Try.prog w = .ok v w := by
  simp [part, isAgg, run_underlying Try.underlying9, h]
def atE (x y : Txt × Txt) : Bool := decide (x.1 = y.1 ∧ x.2 = y.2)
theorem atE_iff {x y : Txt × Txt} : atE x y = true ↔ x = y := by
  obtain ⟨a, b⟩ := x
  obtain ⟨a', b'⟩ := y
  simp [atE]
theorem run_neq_attr (w : World) (a b a' b' : Txt) :
    (binOp .neq 61 (.agg #[.string ⟨a.toArray⟩, .string ⟨b.toArray⟩]) (.agg #[.string ⟨a'.toArray⟩, .string ⟨b'.toArray⟩])).run Try.prog w = .ok (.bool (!(atE (a, b) (a', b')))) w := by
  rw [run_neq_struct, run_equalIn_agg w 9999 61 _ _ (by kernel_rfl) (by kernel_rfl)]
  simp only [Program.fieldsOf, Try.underlying61, Op.eqFields]
  have e0 : "Key" ≠ "_" := by decide
  have e1 : "Value" ≠ "_" := by decide
  rw [if_pos e0]
  simp only [Sem.run_bind]
  rw [part_str w #[Value.string { data := a.toArray }, Value.string { data := b.toArray }] 0 (.string ⟨a.toArray⟩) rfl]
  simp only [Result.andThen_ok]
  rw [part_str w #[Value.string { data := a'.toArray }, Value.string { data := b'.toArray }] 0 (.string ⟨a'.toArray⟩) rfl]
  simp only [Result.andThen_ok]
  rw [show (Op.equalIn 9999 9 (.string ⟨a.toArray⟩) (.string ⟨a'.toArray⟩)).run Try.prog w = _ from run_equalIn_string w 9998 9 _ _ Try.underlying9]
  simp only [Result.andThen_ok, ByteArray.toList_eq]
  by_cases ha : a = a'
  · subst ha
    simp only [BEq.rfl, Bool.not_true, Bool.false_eq_true, if_false]
    rw [if_pos e1]
    simp only [Sem.run_bind]
    rw [part_str w #[Value.string { data := a.toArray }, Value.string { data := b.toArray }] 1 (.string ⟨b.toArray⟩) rfl]
    simp only [Result.andThen_ok]
    rw [part_str w #[Value.string { data := a.toArray }, Value.string { data := b'.toArray }] 1 (.string ⟨b'.toArray⟩) rfl]
    simp only [Result.andThen_ok]
    rw [show (Op.equalIn 9999 9 (.string ⟨b.toArray⟩) (.string ⟨b'.toArray⟩)).run Try.prog w = _ from run_equalIn_string w 9998 9 _ _ Try.underlying9]
    simp only [Result.andThen_ok, ByteArray.toList_eq]
    by_cases hc : b = b'
    · subst hc; simp [atE]
    · simp [atE, hc]
  · simp [atE, ha]
theorem run_neq_attr_self (w : World) (a b : Txt) :
    (binOp .neq 61 (.agg #[.string ⟨a.toArray⟩, .string ⟨b.toArray⟩]) (.agg #[.string ⟨a.toArray⟩, .string ⟨b.toArray⟩])).run Try.prog w = .ok (.bool false) w := by
  rw [run_neq_attr, atE_iff.2 rfl]
  rfl
/-- the block of an address -/
def At1 (A : Option Addr) (k : Nat) : Prop := ∃ ad, A = some ad ∧ ad.block = k
/-- from the q-th on, a row of attributes in its block reads as these -/
def RowFrom (w : World) (A : Option Addr) (n q : Nat) (l : List (Txt × Txt)) : Prop := ∀ ad, A = some ad → ∃ cur, w.heap[ad.block]? = some (.cells cur 61 (0, 0)) ∧ n * 2 ≤ cur.size ∧ ∀ j x, q ≤ j → l[j]? = some x → cur[j * 2]? = some (.string ⟨x.1.toArray⟩) ∧ cur[j * 2 + 1]? = some (.string ⟨x.2.toArray⟩)
theorem RowFrom.kept {w w' : World} {A : Option Addr} {n q : Nat} {l : List (Txt × Txt)} (h : RowFrom w A n q l) (hk : ∀ ad, A = some ad → w'.heap[ad.block]? = w.heap[ad.block]?) : RowFrom w' A n q l := fun ad e => by
  obtain ⟨cur, h1, h2, h3⟩ := h ad e
  exact ⟨cur, (hk ad e).trans h1, h2, h3⟩
theorem RowFrom.put {w W : World} {g n q : Nat} {l : List (Txt × Txt)} {v : Value} (h : RowFrom w (some ⟨g, 0, none⟩) n q l) (hq : q < n) (hW : W.heap = w.heap) : RowFrom (W.setCell ⟨g, q * 2 + 1, none⟩ v) (some ⟨g, 0, none⟩) n (q + 1) l := fun ad e => by
  injection e with e
  subst e
  obtain ⟨cur, h1, h2, h3⟩ := h _ rfl
  refine ⟨_, heap_setCell_same W g (q * 2 + 1) _ _ _ (by rw [hW]; exact h1), by simpa using h2, fun j x hj hx => ?_⟩
  obtain ⟨i1, i2⟩ := h3 j x (by omega) hx
  rw [Array.getElem?_setIfInBounds_ne (by omega), Array.getElem?_setIfInBounds_ne (by omega)]
  exact ⟨i1, i2⟩
set_option maxHeartbeats 2000000 in
theorem sameData_any (w : World) (b : Nat) (d : Dt) (dA : Option Addr) (dn dc : Nat) (sA : Option Addr) (sn sc : Nat) (lv : Bool) (par : Int) (kA : Option Addr) (kn kc : Nat) (hb : b ≤ w.heap.size)
    (hd : DatOk (fun k => b ≤ k ∧ k < w.heap.size) w d dA dn dc) (hrow : RowA b w dA dn) (hs : DatOk (fun k => k < b) w d sA sn sc) :
    Calls Try.prog 32 #[datV d dA dn dc, sltV lv d sA sn sc par kA kn kc] w fun e w' => e = .returned (.bool true) ∧ FrX (At1 dA) w w' := by
  obtain rfl : sn = dn := by have := hd.ats.1; have := hs.ats.1; omega
  obtain ⟨id, leaf, lb, at_, tx⟩ := d
  have hs' := Lib.hid hs.ats
  have f1 := Lib.hid hs.anil
  have f2 := hs.anc
  have f3 := hs.acm
  have f4 := hd.anc
  have f5 := hd.acm
  have hnil := Lib.hid hd.anil
  have f6 := hd.few
  have hlen := Lib.hid hd.ats.1
  have hblk := Lib.hid (show ∀ ad, dA = some ad → b ≤ ad.block ∧ ad.block < w.heap.size ∧ ad = ⟨ad.block, 0, none⟩ from fun ad e => by
    obtain ⟨g, cur, rfl, h2, h3, h4⟩ := hrow ad e
    exact ⟨h2, (Array.getElem?_eq_some_iff.1 h3).1, rfl⟩)
  have hstart := Lib.hid (show RowFrom w dA sn 0 at_ from fun ad e => by
    obtain ⟨g, cur, rfl, h2, h3, h4⟩ := hrow ad e
    refine ⟨cur, h3, h4, fun j x _ hx => ?_⟩
    obtain ⟨ad', e', -, -, -, c1, c2⟩ := hd.ats.2 j x hx
    rw [e] at e'
    injection e' with e'
    subst e'
    rw [add_zero_off] at c1 c2
    exact ⟨(cell_of_row w g _ _ _ _ h3).symm.trans c1, (cell_of_row w g _ _ _ _ h3).symm.trans c2⟩)
  have hneq := run_neq_attr_self
  clear hd hs hrow
  unfold maxLen at f3 f5
  unfold datV sltV
  dsimp only at hs' hlen hstart ⊢
  go_enter Try.func32, Try.ntmps32
  go_wp2_with fail
  have z1 := two_first w (.cells #[.int .u64 (id : Int), .bool leaf, .string ⟨lb.toArray⟩, .slice dA sn dc, .string ⟨tx.toArray⟩] 25) (.cells #[.bool lv, .int .u64 (id : Int), .bool leaf, .string ⟨lb.toArray⟩, .slice sA sn sc, .string ⟨tx.toArray⟩, .int .i64 par, .slice kA kn kc] 35)
  have z2 := two_second w (.cells #[.int .u64 (id : Int), .bool leaf, .string ⟨lb.toArray⟩, .slice dA sn dc, .string ⟨tx.toArray⟩] 25) (.cells #[.bool lv, .int .u64 (id : Int), .bool leaf, .string ⟨lb.toArray⟩, .slice sA sn sc, .string ⟨tx.toArray⟩, .int .i64 par, .slice kA kn kc] 35)
  have z3 := Lib.hid (((FrX.refl (At1 dA) w).alloc (.cells #[.int .u64 (id : Int), .bool leaf, .string ⟨lb.toArray⟩, .slice dA sn dc, .string ⟨tx.toArray⟩] 25)).alloc (.cells #[.bool lv, .int .u64 (id : Int), .bool leaf, .string ⟨lb.toArray⟩, .slice sA sn sc, .string ⟨tx.toArray⟩, .int .i64 par, .slice kA kn kc] 35))
  have z1' := Lib.hid z1
  have z2' := Lib.hid z2
  clear z1 z2
  go_loopw [5] (fun i wr => ∃ q : Nat, q ≤ sn ∧ i = .int .i64 (q : Int) ∧ wr.heap[w.heap.size]? = some (.cells #[.int .u64 (id : Int), .bool leaf, .string ⟨lb.toArray⟩, .slice dA sn dc, .string ⟨tx.toArray⟩] 25 (0, 0)) ∧ wr.heap[w.heap.size + 1]? = some (.cells #[.bool lv, .int .u64 (id : Int), .bool leaf, .string ⟨lb.toArray⟩, .slice sA sn sc, .string ⟨tx.toArray⟩, .int .i64 par, .slice kA kn kc] 35 (0, 0)) ∧
    FrX (At1 dA) w wr ∧ RowFrom wr dA sn q at_) (fun i _ => sn - (intOf i).toNat)
  case atStart => exact ⟨0, Nat.zero_le _, rfl, z1'.out, z2'.out, z3.out, hstart.out.kept fun ad e => two_new _ _ _ (hblk.out ad e).2.1⟩
  case round =>
    obtain ⟨q, hq, rfl, g1, g2, g3, g4⟩ := hrel
    have g1' := Lib.hid g1
    have g2' := Lib.hid g2
    have g3' := Lib.hid g3
    have g4' := Lib.hid g4
    obtain ⟨y0, y1, y2, y3, y4, yf⟩ := five_cells g1
    obtain ⟨r0, r1, r2, r3, r4, r5, r6, r7, rf⟩ := eight_of g2
    clear g1 g2 g3 g4
    by_cases hqn : q < sn
    · have hqI : (q : Int) < (sn : Int) := by omega
      obtain ⟨x, hx⟩ : ∃ x, at_[q]? = some x := ⟨_, List.getElem?_eq_getElem (by have := hlen.out; omega)⟩
      cases dA with
      | none => exfalso; have := hnil.out rfl; omega
      | some ad =>
        obtain ⟨hb1, hb2, hb3⟩ := hblk.out ad rfl
        obtain ⟨cur, k1, k2, k3⟩ := g4'.out ad rfl
        obtain ⟨i1, i2⟩ := k3 q x (Nat.le_refl _) hx
        obtain ⟨ad2, rfl, ht, -, -, c1, c2⟩ := hs'.out.2 q x hx
        obtain ⟨gb, hgb⟩ : ∃ gb, gb = ad.block := ⟨_, rfl⟩
        rw [← hgb] at hb1 hb2 hb3 k1
        subst hb3
        have m1 := (cell_of_row wr gb (q * 2) _ _ _ k1).trans i1
        have m2 := (cell_of_row wr gb (q * 2 + 1) _ _ _ k1).trans i2
        have mf := frozen_of_row wr gb (q * 2 + 1) _ _ k1
        have hkb : wr.heap[(ad2.add (q * 2)).block]? = w.heap[(ad2.add (q * 2)).block]? := by
          rw [block_add]
          exact g3'.out.block _ (by have : ad2.block < b := ht; omega) (fun ⟨ad3, e3, e4⟩ => by injection e3 with e3; subst e3; have : ad2.block < b := ht; dsimp only at e4; omega)
        have c1' := (World.cell?_of_block (w := w) (w' := wr) (a := ad2.add (q * 2)) hkb).trans c1
        have c2' := (World.cell?_of_block (w := w) (w' := wr) (a := ⟨(ad2.add (q * 2)).block, (ad2.add (q * 2)).off + 1, none⟩) hkb).trans c2
        obtain ⟨ka, va⟩ := x
        dsimp only at m1 m2 c1' c2'
        clear k1 k2 k3 i1 i2 c1 c2 hkb hx hgb ht
        go_wp2_with fail
        go_quiet (fail)
        go_wp2_with fail
        go_roundw
        case rel =>
          exact ⟨q + 1, by omega, by go_num, (heap_setCell_other _ ⟨gb, q * 2 + 1, none⟩ _ _ (show w.heap.size ≠ gb by omega)).trans g1'.out, (heap_setCell_other _ ⟨gb, q * 2 + 1, none⟩ _ _ (show w.heap.size + 1 ≠ gb by omega)).trans g2'.out, (g3'.out.drewN _).setCell ⟨_, rfl, rfl⟩, g4'.out.put hqn rfl⟩
        case measure => simp [intOf]; omega
    · have hqI : ¬ (q : Int) < (sn : Int) := by omega
      go_wp2_with fail
      go_ret
      exact ⟨rfl, g3'.out⟩
end Go.Proofs.Ytiikakfdelkjhaa.Arn
