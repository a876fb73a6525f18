/- A call of both: Add. -/
import Derived.Test.YtiikakfdelkjhaaArnLd
namespace Go.Proofs.Ytiikakfdelkjhaa.Arn
open Go.RowKit
set_option maxRecDepth 20000
set_option linter.unusedVariables false

section
variable {w : World} {ow : Nat → Role} {P R : Nat} {a : Av}
set_option maxHeartbeats 2000000 in
theorem does_add0 (h : Both w ow P R a) (hw : WF a) (hc : a.cnt < 100000) (T : Nat → Prop) (c : Cl) (hok : c.Ok T w) (hT : ∀ k, T k → k < w.heap.size ∧ ow k = .off) (hfew : c.an ≤ 30) (hk : pickV c.kind = 0) :
    Calls Try.prog 14 #[.pointer (some ⟨P, 0, none⟩), .pointer (some ⟨R, 0, none⟩), callV c] w fun e w' => e = .returned (.bool true) ∧ BDid w w' ow P R (doesV a c) := by
  obtain ⟨kd, ca, cb, cat, ⟨id, leaf, lb, at_, tx⟩, aA, an, ac⟩ := c
  have h' := Lib.hid h
  have hw' := Lib.hid hw
  have hc' := Lib.hid hc
  have hok' := Lib.hid hok
  have hT' := Lib.hid hT
  have f2 := Lib.hid hok.d.anil
  have f3 := hok.d.anc
  have f1 := Lib.hid hok.d.ats
  have hkd := hok.kind
  unfold callV
  dsimp only at hfew hk f1 f2 f3 hkd ⊢
  have hk' := Lib.hid hk
  clear h hw hc hok hT hk
  go_enter Try.func14, Try.ntmps14
  go_upto_region 6 with (first
    | (at_builtin; refine wpList_append_ats2 rfl _ _ rfl T aA an ac at_ rfl rfl (AtsIn.kept (w := w) (fun _ h => h) (fun k hk => two_new _ _ _ (hT'.out k hk).1) f1.out) f2.out f3 (by omega) ?_; intro A1 c1 w1 hat hc hm hz hb hrow; have BC := (hb.block w.heap.size (by simp; omega)).trans (two_first w _ _); have BD := (hb.block (w.heap.size + 1) (by simp)).trans (two_second w _ _); have BC' := Lib.hid BC; have BD' := Lib.hid BD; have x0 := cell_of_row w1 w.heap.size 0 _ _ _ BC; have x1 := cell_of_row w1 w.heap.size 1 _ _ _ BC; obtain ⟨d0, d1, d2, d3, d4, df⟩ := five_cells BD; have H1 := Lib.hid hat; have H2 := Lib.hid hc; have H3 := Lib.hid hm; have H4 := Lib.hid hz; have H5 := Lib.hid hb; have H6 := Lib.hid hrow; clear hat hc hm hz hb hrow BC BD)
    | (go_at_call 33; refine (pick_any _ kd hkd).mono ?_; rintro e w7 ⟨rfl, rfl⟩; rw [hk'.out]))
  obtain ⟨W3, hW3⟩ : ∃ W3, W3 = w1.setCell ⟨w.heap.size + 1, 3, none⟩ (.slice A1 an c1) := ⟨_, rfl⟩
  rw [← hW3]
  have B3 : Below w.heap.size w W3 := by
    rw [hW3]
    exact ((((Below.refl w.heap.size w).alloc (Nat.le_refl _) _).alloc (by simp) _).trans (H5.out.mono (by simp; omega))).setCell (by simp) _
  have o3 : ∀ k, k ≠ w.heap.size + 1 → W3.heap[k]? = w1.heap[k]? := fun k hk => by rw [hW3]; exact heap_setCell_other w1 ⟨w.heap.size + 1, 3, none⟩ k _ hk
  have z3 : W3.heap.size = w1.heap.size := by rw [hW3]; simp
  have z1 : w.heap.size + 2 ≤ w1.heap.size := by have := H5.out.size; simpa using this
  have RD := Lib.hid (show W3.heap[w.heap.size + 1]? = some (.cells #[.int .u64 (id : Int), .bool leaf, .string ⟨lb.toArray⟩, .slice A1 an c1, .string ⟨tx.toArray⟩] 25 (0, 0)) by rw [hW3, heap_setCell_same w1 (w.heap.size + 1) 3 _ _ _ BD'.out]; rfl)
  have RC := Lib.hid ((o3 w.heap.size (by omega)).trans BC'.out)
  have hrow3 := Lib.hid (show ∀ ad, A1 = some ad → ad = ⟨w.heap.size + 2, 0, none⟩ ∧ ∃ cur, W3.heap[w.heap.size + 2]? = some (.cells cur 61 (0, 0)) ∧ an * 2 ≤ cur.size from fun ad e => by
    have := H6.out ad e
    rw [size2] at this
    obtain ⟨e1, cur, e2, e3⟩ := this
    exact ⟨e1, cur, (o3 _ (by omega)).trans e2, e3⟩)
  clear hW3 x0 x1 d0 d1 d2 d3 d4 df BC' BD'
  have x1 := cell_of_row W3 w.heap.size 1 _ _ _ RC.out
  have x3 := cell_of_row W3 w.heap.size 3 _ _ _ RC.out
  have x4 := cell_of_row W3 w.heap.size 4 _ _ _ RC.out
  have x5 := cell_of_row W3 w.heap.size 5 _ _ _ RC.out
  have x6 := cell_of_row W3 w.heap.size 6 _ _ _ RC.out
  have x7 := cell_of_row W3 w.heap.size 7 _ _ _ RC.out
  have x8 := cell_of_row W3 w.heap.size 8 _ _ _ RC.out
  have y0 := cell_of_row W3 (w.heap.size + 1) 0 _ _ _ RD.out
  have y1 := cell_of_row W3 (w.heap.size + 1) 1 _ _ _ RD.out
  have y2 := cell_of_row W3 (w.heap.size + 1) 2 _ _ _ RD.out
  have y3 := cell_of_row W3 (w.heap.size + 1) 3 _ _ _ RD.out
  have y4 := cell_of_row W3 (w.heap.size + 1) 4 _ _ _ RD.out
  have hdat3 := Lib.hid (show DatOk (fun k => k = w.heap.size + 2 ∧ k < W3.heap.size) W3 ⟨id, leaf, lb, at_, tx⟩ A1 an c1 from ⟨hok'.out.d.id, hok'.out.d.label, hok'.out.d.text, AtsIn.kept (w := w1) (w' := W3) (fun k hk => by rw [size2] at hk; exact ⟨hk.1, by show k < W3.heap.size; rw [z3]; exact hk.2⟩) (fun k hk => by rw [size2] at hk; exact o3 k (by omega)) H1.out, H2.out, H3.out, H4.out, by show an ≤ 1000000; omega⟩)
  have hoff := Lib.hid (show ∀ k, w.heap.size ≤ k → ow k = .off from fun k hk => by
    cases h : ow k with
    | off => rfl
    | _ => have := h'.out.p.low k (by rw [h]; simp); omega)
  have b3 := Lib.hid (h'.out.below B3)
  have B3' := Lib.hid B3
  have hz3 := Lib.hid (show w.heap.size + 2 ≤ W3.heap.size by omega)
  clear o3 z3 z1 B3
  go_upto_region 7 with (go_at_call 23; refine (add_any b3.out.p hw'.out hc'.out ca cat (fun k => k = w.heap.size + 2 ∧ k < W3.heap.size) ⟨id, leaf, lb, at_, tx⟩ A1 an c1 hdat3.out (fun k hk => hk.2) (fun k hk => by show ¬ (ow k).prg; rw [hk.1, hoff.out _ (by omega)]; exact fun e => e)).mono ?_; rintro e w5 ⟨rfl, hd5⟩; obtain ⟨ow5, p5, r5, hr5, hf5⟩ := b3.out.r.did hd5; have RC5 := Lib.hid ((hf5.block w.heap.size (show w.heap.size < W3.heap.size by show _ < W3.heap.size; have := hz3.out; omega) (by rw [hoff.out _ (Nat.le_refl _)]; exact fun e => e)).trans RC.out); have RD5 := Lib.hid ((hf5.block (w.heap.size + 1) (show w.heap.size + 1 < W3.heap.size by show _ < W3.heap.size; have := hz3.out; omega) (by rw [hoff.out _ (by omega)]; exact fun e => e)).trans RD.out); have hzz5 := hf5.size; have xa1 := cell_of_row w5 w.heap.size 1 _ _ _ RC5.out; have xa3 := cell_of_row w5 w.heap.size 3 _ _ _ RC5.out; have xa4 := cell_of_row w5 w.heap.size 4 _ _ _ RC5.out; have xa5 := cell_of_row w5 w.heap.size 5 _ _ _ RC5.out; have xa6 := cell_of_row w5 w.heap.size 6 _ _ _ RC5.out; have xa7 := cell_of_row w5 w.heap.size 7 _ _ _ RC5.out; have xa8 := cell_of_row w5 w.heap.size 8 _ _ _ RC5.out; have ya0 := cell_of_row w5 (w.heap.size + 1) 0 _ _ _ RD5.out; have ya1 := cell_of_row w5 (w.heap.size + 1) 1 _ _ _ RD5.out; have ya2 := cell_of_row w5 (w.heap.size + 1) 2 _ _ _ RD5.out; have ya3 := cell_of_row w5 (w.heap.size + 1) 3 _ _ _ RD5.out; have ya4 := cell_of_row w5 (w.heap.size + 1) 4 _ _ _ RD5.out; have p5' := Lib.hid p5; have r5' := Lib.hid r5; have hr5' := Lib.hid hr5; have hf5' := Lib.hid hf5; clear hd5 p5 r5 hr5 hf5)
  rename_i K hK
  go_region_held3 (fun w' => w'.cell? ⟨w.heap.size, 1, none⟩ = some (.int .i64 ca) ∧ w'.cell? ⟨w.heap.size, 3, none⟩ = some (.int .i64 cat) ∧ w'.cell? ⟨w.heap.size, 4, none⟩ = some (.int .u64 (id : Int)) ∧ w'.cell? ⟨w.heap.size, 5, none⟩ = some (.bool leaf) ∧ w'.cell? ⟨w.heap.size, 6, none⟩ = some (.string ⟨lb.toArray⟩) ∧ w'.cell? ⟨w.heap.size, 7, none⟩ = some (.slice aA an ac) ∧ w'.cell? ⟨w.heap.size, 8, none⟩ = some (.string ⟨tx.toArray⟩) ∧ w'.cell? ⟨w.heap.size + 1, 0, none⟩ = some (.int .u64 (id : Int)) ∧ w'.cell? ⟨w.heap.size + 1, 1, none⟩ = some (.bool leaf) ∧ w'.cell? ⟨w.heap.size + 1, 2, none⟩ = some (.string ⟨lb.toArray⟩) ∧ w'.cell? ⟨w.heap.size + 1, 3, none⟩ = some (.slice A1 an c1) ∧ w'.cell? ⟨w.heap.size + 1, 4, none⟩ = some (.string ⟨tx.toArray⟩))
    (first
      | go_keep
      | ((repeat' apply And.intro) <;> assumption))
    (first
      | (go_at_call 12; refine (plain_any w5.drew ⟨id, leaf, lb, at_, tx⟩ aA an ac).mono ?_; rintro e w7 ⟨rfl, hb70⟩; have hb7 : Below w5.heap.size w5 w7 := (Below.refl w5.heap.size w5).drew.trans hb70; clear hb70; have hl0 : w.heap.size + 2 ≤ w5.heap.size := Nat.le_trans hz3.out hzz5; have RC7 := (hb7.block w.heap.size (by omega)).trans RC5.out; have RD7 := (hb7.block (w.heap.size + 1) (by omega)).trans RD5.out; have xb1 := cell_of_row w7 w.heap.size 1 _ _ _ RC7; have xb3 := cell_of_row w7 w.heap.size 3 _ _ _ RC7; have xb4 := cell_of_row w7 w.heap.size 4 _ _ _ RC7; have xb5 := cell_of_row w7 w.heap.size 5 _ _ _ RC7; have xb6 := cell_of_row w7 w.heap.size 6 _ _ _ RC7; have xb7 := cell_of_row w7 w.heap.size 7 _ _ _ RC7; have xb8 := cell_of_row w7 w.heap.size 8 _ _ _ RC7; have yb0 := cell_of_row w7 (w.heap.size + 1) 0 _ _ _ RD7; have yb1 := cell_of_row w7 (w.heap.size + 1) 1 _ _ _ RD7; have yb2 := cell_of_row w7 (w.heap.size + 1) 2 _ _ _ RD7; have yb3 := cell_of_row w7 (w.heap.size + 1) 3 _ _ _ RD7; have yb4 := cell_of_row w7 (w.heap.size + 1) 4 _ _ _ RD7; have p7' := Lib.hid (p5'.out.below hb7); have r7' := Lib.hid (r5'.out.below hb7); have hf7' := Lib.hid (show FrX (fun k => (ow k).prg) W3 w7 from hf5'.out.trans (FrX.of_below (S := fun _ => False) hb7) fun k e => e.elim); have hdT := Lib.hid (show DatOk T w7 ⟨id, leaf, lb, at_, tx⟩ aA an ac from (hok'.out.d.ok (by show an ≤ 1000000; omega)).kept (fun _ h => h) fun k hk => (hf7'.out.block k (Nat.lt_of_lt_of_le (hT'.out k hk).1 B3'.out.size) (by show ¬ (ow k).prg; rw [(hT'.out k hk).2]; exact fun e => e)).trans (B3'.out.block k (hT'.out k hk).1)); have hTl := Lib.hid (show ∀ k, T k → k < w7.heap.size from fun k hk => Nat.lt_of_lt_of_le (Nat.lt_of_lt_of_le (hT'.out k hk).1 B3'.out.size) hf7'.out.size); clear hb7 RC7 RD7 hl0)
      | (go_at_call 37; refine (radd_any r7'.out hw'.out hc'.out ca cat T ⟨id, leaf, lb, at_, tx⟩ aA an ac hdT.out hTl.out).mono ?_; rintro e w6 ⟨rfl, hd6⟩; have D6 := both_did (w := W3) p7'.out hr5'.out hf7'.out hd6; have RC6 := (D6.keeps (k := w.heap.size) (show w.heap.size < W3.heap.size by show _ < W3.heap.size; have := hz3.out; omega) (hoff.out _ (Nat.le_refl _))).trans RC.out; have RD6 := (D6.keeps (k := w.heap.size + 1) (show w.heap.size + 1 < W3.heap.size by show _ < W3.heap.size; have := hz3.out; omega) (hoff.out _ (by omega))).trans RD.out; have xc1 := cell_of_row w6 w.heap.size 1 _ _ _ RC6; have xc3 := cell_of_row w6 w.heap.size 3 _ _ _ RC6; have xc4 := cell_of_row w6 w.heap.size 4 _ _ _ RC6; have xc5 := cell_of_row w6 w.heap.size 5 _ _ _ RC6; have xc6 := cell_of_row w6 w.heap.size 6 _ _ _ RC6; have xc7 := cell_of_row w6 w.heap.size 7 _ _ _ RC6; have xc8 := cell_of_row w6 w.heap.size 8 _ _ _ RC6; have yc0 := cell_of_row w6 (w.heap.size + 1) 0 _ _ _ RD6; have yc1 := cell_of_row w6 (w.heap.size + 1) 1 _ _ _ RD6; have yc2 := cell_of_row w6 (w.heap.size + 1) 2 _ _ _ RD6; have yc3 := cell_of_row w6 (w.heap.size + 1) 3 _ _ _ RD6; have yc4 := cell_of_row w6 (w.heap.size + 1) 4 _ _ _ RD6; have D6' := Lib.hid D6; clear D6 hd6 RC6 RD6))
  refine hK _ _ ?_
  clear hK x1 x3 x4 x5 x6 x7 x8 y0 y1 y2 y3 y4
  have hV := Lib.hid (show doesV a ⟨kd, ca, cb, cat, ⟨id, leaf, lb, at_, tx⟩, aA, an, ac⟩ = (addR a ca cat ⟨id, leaf, lb, at_, tx⟩).2 by unfold doesV; rw [if_neg (by rw [hk'.out]; decide), if_neg (by rw [hk'.out]; decide), if_neg (by rw [hk'.out]; decide)])
  have R6 := Lib.hid ((D6'.out.keeps (k := w.heap.size + 1) (show w.heap.size + 1 < W3.heap.size by have := hz3.out; omega) (hoff.out _ (by omega))).trans RD.out)
  have hrow6 := Lib.hid (show ∀ ad, A1 = some ad → ad = ⟨w.heap.size + 2, 0, none⟩ ∧ ∃ cur, w6.heap[w.heap.size + 2]? = some (.cells cur 61 (0, 0)) ∧ an * 2 ≤ cur.size from fun ad e => by
    obtain ⟨e1, cur, e2, e3⟩ := hrow3.out ad e
    have hlt : w.heap.size + 2 < W3.heap.size := (Array.getElem?_eq_some_iff.1 e2).1
    exact ⟨e1, cur, (D6'.out.keeps (k := w.heap.size + 2) hlt (hoff.out _ (by omega))).trans e2, e3⟩)
  obtain ⟨b1, hb1⟩ : ∃ b1, b1 = w.heap.size + 1 := ⟨_, rfl⟩
  obtain ⟨b2, hb2⟩ : ∃ b2, b2 = w.heap.size + 2 := ⟨_, rfl⟩
  rw [← hb1] at R6 ⊢
  rw [← hb2] at hrow6
  have hb1' := Lib.hid hb1
  have hb2' := Lib.hid hb2
  have hcc := H2.out
  have hcm := H3.out
  clear hb1 hb2
  go_wp2_with fail
  go_loopw [14] (fun i wr => ∃ q : Nat, q ≤ an ∧ i = .int .i64 (q : Int) ∧ FrX (fun k => k = b2 ∧ b2 < W3.heap.size) w6 wr ∧ ∀ ad, A1 = some ad → ∃ cur, wr.heap[b2]? = some (.cells cur 61 (0, 0)) ∧ an * 2 ≤ cur.size) (fun i _ => an - (intOf i).toNat)
  case atStart => exact ⟨0, Nat.zero_le _, rfl, FrX.refl _ _, fun ad e => (hrow6.out ad e).2⟩
  case round =>
    obtain ⟨q, hq, rfl, hF, hrow⟩ := hrel
    have hF' := Lib.hid hF
    have d3 : wr.cell? ⟨b1, 3, none⟩ = some (.slice A1 an c1) := cell_of_row wr b1 3 _ _ _ ((hF.block b1 (Array.getElem?_eq_some_iff.1 R6.out).1 (fun e => by have := e.1; have := hb1'.out; have := hb2'.out; omega)).trans R6.out)
    clear hF
    by_cases hqn : q < an
    · cases A1 with
      | none => exfalso; have := H4.out rfl; omega
      | some ad =>
        obtain ⟨cur, hcur, hsz⟩ := hrow ad rfl
        obtain ⟨rfl, -⟩ := hrow6.out ad rfl
        have hrw' := Lib.hid hcur
        have hlt3 : b2 < W3.heap.size := by
          obtain ⟨-, cur3, e2, -⟩ := hrow3.out _ rfl
          rw [hb2'.out]
          exact (Array.getElem?_eq_some_iff.1 e2).1
        have hcell := cell_of_row wr b2 (q * 2) _ _ _ hcur
        rw [Array.getElem?_eq_getElem (by omega)] at hcell
        have hfz := frozen_of_row wr b2 (q * 2) _ _ hcur
        have hqI : (q : Int) < (an : Int) := by omega
        clear hrow hcur
        go_wp2_with fail
        go_roundw
        case rel =>
          refine ⟨q + 1, by omega, by go_num, hF'.out.setCell ⟨rfl, hlt3⟩, fun ad e => ⟨_, heap_setCell_same wr b2 (q * 2) _ _ _ hrw'.out, by simpa using hsz⟩⟩
        case measure => simp [intOf]; omega
    · have hqI : ¬ (q : Int) < (an : Int) := by omega
      go_wp2_with fail
      go_ret
      rw [hV.out]
      exact ⟨rfl, BDid.fin B3'.out D6'.out hF'.out (by have := hb2'.out; omega) (hoff.out _ (by have := hb2'.out; omega))⟩
set_option maxHeartbeats 2000000 in
theorem does_add1 (h : Both w ow P R a) (hw : WF a) (hc : a.cnt < 100000) (T : Nat → Prop) (c : Cl) (hok : c.Ok T w) (hT : ∀ k, T k → k < w.heap.size ∧ ow k = .off) (hfew : c.an ≤ 30) (hk : pickV c.kind = 1) :
    Calls Try.prog 14 #[.pointer (some ⟨P, 0, none⟩), .pointer (some ⟨R, 0, none⟩), callV c] w fun e w' => e = .returned (.bool true) ∧ BDid w w' ow P R (doesV a c) := by
  obtain ⟨kd, ca, cb, cat, ⟨id, leaf, lb, at_, tx⟩, aA, an, ac⟩ := c
  have h' := Lib.hid h
  have hw' := Lib.hid hw
  have hc' := Lib.hid hc
  have hok' := Lib.hid hok
  have hT' := Lib.hid hT
  have f2 := Lib.hid hok.d.anil
  have f3 := hok.d.anc
  have f1 := Lib.hid hok.d.ats
  have hkd := hok.kind
  unfold callV
  dsimp only at hfew hk f1 f2 f3 hkd ⊢
  have hk' := Lib.hid hk
  clear h hw hc hok hT hk
  go_enter Try.func14, Try.ntmps14
  go_upto_region 6 with (first
    | (at_builtin; refine wpList_append_ats2 rfl _ _ rfl T aA an ac at_ rfl rfl (AtsIn.kept (w := w) (fun _ h => h) (fun k hk => two_new _ _ _ (hT'.out k hk).1) f1.out) f2.out f3 (by omega) ?_; intro A1 c1 w1 hat hc hm hz hb hrow; have BC := (hb.block w.heap.size (by simp; omega)).trans (two_first w _ _); have BD := (hb.block (w.heap.size + 1) (by simp)).trans (two_second w _ _); have BC' := Lib.hid BC; have BD' := Lib.hid BD; have x0 := cell_of_row w1 w.heap.size 0 _ _ _ BC; have x1 := cell_of_row w1 w.heap.size 1 _ _ _ BC; obtain ⟨d0, d1, d2, d3, d4, df⟩ := five_cells BD; have H1 := Lib.hid hat; have H2 := Lib.hid hc; have H3 := Lib.hid hm; have H4 := Lib.hid hz; have H5 := Lib.hid hb; have H6 := Lib.hid hrow; clear hat hc hm hz hb hrow BC BD)
    | (go_at_call 33; refine (pick_any _ kd hkd).mono ?_; rintro e w7 ⟨rfl, rfl⟩; rw [hk'.out]))
  obtain ⟨W3, hW3⟩ : ∃ W3, W3 = w1.setCell ⟨w.heap.size + 1, 3, none⟩ (.slice A1 an c1) := ⟨_, rfl⟩
  rw [← hW3]
  have B3 : Below w.heap.size w W3 := by
    rw [hW3]
    exact ((((Below.refl w.heap.size w).alloc (Nat.le_refl _) _).alloc (by simp) _).trans (H5.out.mono (by simp; omega))).setCell (by simp) _
  have o3 : ∀ k, k ≠ w.heap.size + 1 → W3.heap[k]? = w1.heap[k]? := fun k hk => by rw [hW3]; exact heap_setCell_other w1 ⟨w.heap.size + 1, 3, none⟩ k _ hk
  have z3 : W3.heap.size = w1.heap.size := by rw [hW3]; simp
  have z1 : w.heap.size + 2 ≤ w1.heap.size := by have := H5.out.size; simpa using this
  have RD := Lib.hid (show W3.heap[w.heap.size + 1]? = some (.cells #[.int .u64 (id : Int), .bool leaf, .string ⟨lb.toArray⟩, .slice A1 an c1, .string ⟨tx.toArray⟩] 25 (0, 0)) by rw [hW3, heap_setCell_same w1 (w.heap.size + 1) 3 _ _ _ BD'.out]; rfl)
  have RC := Lib.hid ((o3 w.heap.size (by omega)).trans BC'.out)
  have hrow3 := Lib.hid (show ∀ ad, A1 = some ad → ad = ⟨w.heap.size + 2, 0, none⟩ ∧ ∃ cur, W3.heap[w.heap.size + 2]? = some (.cells cur 61 (0, 0)) ∧ an * 2 ≤ cur.size from fun ad e => by
    have := H6.out ad e
    rw [size2] at this
    obtain ⟨e1, cur, e2, e3⟩ := this
    exact ⟨e1, cur, (o3 _ (by omega)).trans e2, e3⟩)
  clear hW3 x0 x1 d0 d1 d2 d3 d4 df BC' BD'
  have x1 := cell_of_row W3 w.heap.size 1 _ _ _ RC.out
  have x3 := cell_of_row W3 w.heap.size 3 _ _ _ RC.out
  have x4 := cell_of_row W3 w.heap.size 4 _ _ _ RC.out
  have x5 := cell_of_row W3 w.heap.size 5 _ _ _ RC.out
  have x6 := cell_of_row W3 w.heap.size 6 _ _ _ RC.out
  have x7 := cell_of_row W3 w.heap.size 7 _ _ _ RC.out
  have x8 := cell_of_row W3 w.heap.size 8 _ _ _ RC.out
  have y0 := cell_of_row W3 (w.heap.size + 1) 0 _ _ _ RD.out
  have y1 := cell_of_row W3 (w.heap.size + 1) 1 _ _ _ RD.out
  have y2 := cell_of_row W3 (w.heap.size + 1) 2 _ _ _ RD.out
  have y3 := cell_of_row W3 (w.heap.size + 1) 3 _ _ _ RD.out
  have y4 := cell_of_row W3 (w.heap.size + 1) 4 _ _ _ RD.out
  have hdat3 := Lib.hid (show DatOk (fun k => k = w.heap.size + 2 ∧ k < W3.heap.size) W3 ⟨id, leaf, lb, at_, tx⟩ A1 an c1 from ⟨hok'.out.d.id, hok'.out.d.label, hok'.out.d.text, AtsIn.kept (w := w1) (w' := W3) (fun k hk => by rw [size2] at hk; exact ⟨hk.1, by show k < W3.heap.size; rw [z3]; exact hk.2⟩) (fun k hk => by rw [size2] at hk; exact o3 k (by omega)) H1.out, H2.out, H3.out, H4.out, by show an ≤ 1000000; omega⟩)
  have hoff := Lib.hid (show ∀ k, w.heap.size ≤ k → ow k = .off from fun k hk => by
    cases h : ow k with
    | off => rfl
    | _ => have := h'.out.p.low k (by rw [h]; simp); omega)
  have b3 := Lib.hid (h'.out.below B3)
  have B3' := Lib.hid B3
  have hz3 := Lib.hid (show w.heap.size + 2 ≤ W3.heap.size by omega)
  clear o3 z3 z1 B3
  go_upto_region 7 with (go_at_call 23; refine (add_any b3.out.p hw'.out hc'.out ca cat (fun k => k = w.heap.size + 2 ∧ k < W3.heap.size) ⟨id, leaf, lb, at_, tx⟩ A1 an c1 hdat3.out (fun k hk => hk.2) (fun k hk => by show ¬ (ow k).prg; rw [hk.1, hoff.out _ (by omega)]; exact fun e => e)).mono ?_; rintro e w5 ⟨rfl, hd5⟩; obtain ⟨ow5, p5, r5, hr5, hf5⟩ := b3.out.r.did hd5; have RC5 := Lib.hid ((hf5.block w.heap.size (show w.heap.size < W3.heap.size by show _ < W3.heap.size; have := hz3.out; omega) (by rw [hoff.out _ (Nat.le_refl _)]; exact fun e => e)).trans RC.out); have RD5 := Lib.hid ((hf5.block (w.heap.size + 1) (show w.heap.size + 1 < W3.heap.size by show _ < W3.heap.size; have := hz3.out; omega) (by rw [hoff.out _ (by omega)]; exact fun e => e)).trans RD.out); have hzz5 := hf5.size; have xa1 := cell_of_row w5 w.heap.size 1 _ _ _ RC5.out; have xa3 := cell_of_row w5 w.heap.size 3 _ _ _ RC5.out; have xa4 := cell_of_row w5 w.heap.size 4 _ _ _ RC5.out; have xa5 := cell_of_row w5 w.heap.size 5 _ _ _ RC5.out; have xa6 := cell_of_row w5 w.heap.size 6 _ _ _ RC5.out; have xa7 := cell_of_row w5 w.heap.size 7 _ _ _ RC5.out; have xa8 := cell_of_row w5 w.heap.size 8 _ _ _ RC5.out; have ya0 := cell_of_row w5 (w.heap.size + 1) 0 _ _ _ RD5.out; have ya1 := cell_of_row w5 (w.heap.size + 1) 1 _ _ _ RD5.out; have ya2 := cell_of_row w5 (w.heap.size + 1) 2 _ _ _ RD5.out; have ya3 := cell_of_row w5 (w.heap.size + 1) 3 _ _ _ RD5.out; have ya4 := cell_of_row w5 (w.heap.size + 1) 4 _ _ _ RD5.out; have p5' := Lib.hid p5; have r5' := Lib.hid r5; have hr5' := Lib.hid hr5; have hf5' := Lib.hid hf5; clear hd5 p5 r5 hr5 hf5)
  rename_i K hK
  go_region_held3 (fun w' => w'.cell? ⟨w.heap.size, 1, none⟩ = some (.int .i64 ca) ∧ w'.cell? ⟨w.heap.size, 3, none⟩ = some (.int .i64 cat) ∧ w'.cell? ⟨w.heap.size, 4, none⟩ = some (.int .u64 (id : Int)) ∧ w'.cell? ⟨w.heap.size, 5, none⟩ = some (.bool leaf) ∧ w'.cell? ⟨w.heap.size, 6, none⟩ = some (.string ⟨lb.toArray⟩) ∧ w'.cell? ⟨w.heap.size, 7, none⟩ = some (.slice aA an ac) ∧ w'.cell? ⟨w.heap.size, 8, none⟩ = some (.string ⟨tx.toArray⟩) ∧ w'.cell? ⟨w.heap.size + 1, 0, none⟩ = some (.int .u64 (id : Int)) ∧ w'.cell? ⟨w.heap.size + 1, 1, none⟩ = some (.bool leaf) ∧ w'.cell? ⟨w.heap.size + 1, 2, none⟩ = some (.string ⟨lb.toArray⟩) ∧ w'.cell? ⟨w.heap.size + 1, 3, none⟩ = some (.slice A1 an c1) ∧ w'.cell? ⟨w.heap.size + 1, 4, none⟩ = some (.string ⟨tx.toArray⟩))
    (first
      | go_keep
      | ((repeat' apply And.intro) <;> assumption))
    (first
      | (go_at_call 12; refine (plain_any w5.drew ⟨id, leaf, lb, at_, tx⟩ aA an ac).mono ?_; rintro e w7 ⟨rfl, hb70⟩; have hb7 : Below w5.heap.size w5 w7 := (Below.refl w5.heap.size w5).drew.trans hb70; clear hb70; have hl0 : w.heap.size + 2 ≤ w5.heap.size := Nat.le_trans hz3.out hzz5; have RC7 := (hb7.block w.heap.size (by omega)).trans RC5.out; have RD7 := (hb7.block (w.heap.size + 1) (by omega)).trans RD5.out; have xb1 := cell_of_row w7 w.heap.size 1 _ _ _ RC7; have xb3 := cell_of_row w7 w.heap.size 3 _ _ _ RC7; have xb4 := cell_of_row w7 w.heap.size 4 _ _ _ RC7; have xb5 := cell_of_row w7 w.heap.size 5 _ _ _ RC7; have xb6 := cell_of_row w7 w.heap.size 6 _ _ _ RC7; have xb7 := cell_of_row w7 w.heap.size 7 _ _ _ RC7; have xb8 := cell_of_row w7 w.heap.size 8 _ _ _ RC7; have yb0 := cell_of_row w7 (w.heap.size + 1) 0 _ _ _ RD7; have yb1 := cell_of_row w7 (w.heap.size + 1) 1 _ _ _ RD7; have yb2 := cell_of_row w7 (w.heap.size + 1) 2 _ _ _ RD7; have yb3 := cell_of_row w7 (w.heap.size + 1) 3 _ _ _ RD7; have yb4 := cell_of_row w7 (w.heap.size + 1) 4 _ _ _ RD7; have p7' := Lib.hid (p5'.out.below hb7); have r7' := Lib.hid (r5'.out.below hb7); have hf7' := Lib.hid (show FrX (fun k => (ow k).prg) W3 w7 from hf5'.out.trans (FrX.of_below (S := fun _ => False) hb7) fun k e => e.elim); have hdT := Lib.hid (show DatOk T w7 ⟨id, leaf, lb, at_, tx⟩ aA an ac from (hok'.out.d.ok (by show an ≤ 1000000; omega)).kept (fun _ h => h) fun k hk => (hf7'.out.block k (Nat.lt_of_lt_of_le (hT'.out k hk).1 B3'.out.size) (by show ¬ (ow k).prg; rw [(hT'.out k hk).2]; exact fun e => e)).trans (B3'.out.block k (hT'.out k hk).1)); have hTl := Lib.hid (show ∀ k, T k → k < w7.heap.size from fun k hk => Nat.lt_of_lt_of_le (Nat.lt_of_lt_of_le (hT'.out k hk).1 B3'.out.size) hf7'.out.size); clear hb7 RC7 RD7 hl0)
      | (go_at_call 37; refine (radd_any r7'.out hw'.out hc'.out ca cat T ⟨id, leaf, lb, at_, tx⟩ aA an ac hdT.out hTl.out).mono ?_; rintro e w6 ⟨rfl, hd6⟩; have D6 := both_did (w := W3) p7'.out hr5'.out hf7'.out hd6; have RC6 := (D6.keeps (k := w.heap.size) (show w.heap.size < W3.heap.size by show _ < W3.heap.size; have := hz3.out; omega) (hoff.out _ (Nat.le_refl _))).trans RC.out; have RD6 := (D6.keeps (k := w.heap.size + 1) (show w.heap.size + 1 < W3.heap.size by show _ < W3.heap.size; have := hz3.out; omega) (hoff.out _ (by omega))).trans RD.out; have xc1 := cell_of_row w6 w.heap.size 1 _ _ _ RC6; have xc3 := cell_of_row w6 w.heap.size 3 _ _ _ RC6; have xc4 := cell_of_row w6 w.heap.size 4 _ _ _ RC6; have xc5 := cell_of_row w6 w.heap.size 5 _ _ _ RC6; have xc6 := cell_of_row w6 w.heap.size 6 _ _ _ RC6; have xc7 := cell_of_row w6 w.heap.size 7 _ _ _ RC6; have xc8 := cell_of_row w6 w.heap.size 8 _ _ _ RC6; have yc0 := cell_of_row w6 (w.heap.size + 1) 0 _ _ _ RD6; have yc1 := cell_of_row w6 (w.heap.size + 1) 1 _ _ _ RD6; have yc2 := cell_of_row w6 (w.heap.size + 1) 2 _ _ _ RD6; have yc3 := cell_of_row w6 (w.heap.size + 1) 3 _ _ _ RD6; have yc4 := cell_of_row w6 (w.heap.size + 1) 4 _ _ _ RD6; have D6' := Lib.hid D6; clear D6 hd6 RC6 RD6))
  refine hK _ _ ?_
  clear hK x1 x3 x4 x5 x6 x7 x8 y0 y1 y2 y3 y4
  have hV := Lib.hid (show doesV a ⟨kd, ca, cb, cat, ⟨id, leaf, lb, at_, tx⟩, aA, an, ac⟩ = (addR a ca cat ⟨id, leaf, lb, at_, tx⟩).2 by unfold doesV; rw [if_neg (by rw [hk'.out]; decide), if_neg (by rw [hk'.out]; decide), if_neg (by rw [hk'.out]; decide)])
  have R6 := Lib.hid ((D6'.out.keeps (k := w.heap.size + 1) (show w.heap.size + 1 < W3.heap.size by have := hz3.out; omega) (hoff.out _ (by omega))).trans RD.out)
  have hrow6 := Lib.hid (show ∀ ad, A1 = some ad → ad = ⟨w.heap.size + 2, 0, none⟩ ∧ ∃ cur, w6.heap[w.heap.size + 2]? = some (.cells cur 61 (0, 0)) ∧ an * 2 ≤ cur.size from fun ad e => by
    obtain ⟨e1, cur, e2, e3⟩ := hrow3.out ad e
    have hlt : w.heap.size + 2 < W3.heap.size := (Array.getElem?_eq_some_iff.1 e2).1
    exact ⟨e1, cur, (D6'.out.keeps (k := w.heap.size + 2) hlt (hoff.out _ (by omega))).trans e2, e3⟩)
  obtain ⟨b1, hb1⟩ : ∃ b1, b1 = w.heap.size + 1 := ⟨_, rfl⟩
  obtain ⟨b2, hb2⟩ : ∃ b2, b2 = w.heap.size + 2 := ⟨_, rfl⟩
  rw [← hb1] at R6 ⊢
  rw [← hb2] at hrow6
  have hb1' := Lib.hid hb1
  have hb2' := Lib.hid hb2
  have hcc := H2.out
  have hcm := H3.out
  clear hb1 hb2
  go_wp2_with fail
  go_loopw [14] (fun i wr => ∃ q : Nat, q ≤ an ∧ i = .int .i64 (q : Int) ∧ FrX (fun k => k = b2 ∧ b2 < W3.heap.size) w6 wr ∧ ∀ ad, A1 = some ad → ∃ cur, wr.heap[b2]? = some (.cells cur 61 (0, 0)) ∧ an * 2 ≤ cur.size) (fun i _ => an - (intOf i).toNat)
  case atStart => exact ⟨0, Nat.zero_le _, rfl, FrX.refl _ _, fun ad e => (hrow6.out ad e).2⟩
  case round =>
    obtain ⟨q, hq, rfl, hF, hrow⟩ := hrel
    have hF' := Lib.hid hF
    have d3 : wr.cell? ⟨b1, 3, none⟩ = some (.slice A1 an c1) := cell_of_row wr b1 3 _ _ _ ((hF.block b1 (Array.getElem?_eq_some_iff.1 R6.out).1 (fun e => by have := e.1; have := hb1'.out; have := hb2'.out; omega)).trans R6.out)
    clear hF
    by_cases hqn : q < an
    · cases A1 with
      | none => exfalso; have := H4.out rfl; omega
      | some ad =>
        obtain ⟨cur, hcur, hsz⟩ := hrow ad rfl
        obtain ⟨rfl, -⟩ := hrow6.out ad rfl
        have hrw' := Lib.hid hcur
        have hlt3 : b2 < W3.heap.size := by
          obtain ⟨-, cur3, e2, -⟩ := hrow3.out _ rfl
          rw [hb2'.out]
          exact (Array.getElem?_eq_some_iff.1 e2).1
        have hcell := cell_of_row wr b2 (q * 2) _ _ _ hcur
        rw [Array.getElem?_eq_getElem (by omega)] at hcell
        have hfz := frozen_of_row wr b2 (q * 2) _ _ hcur
        have hqI : (q : Int) < (an : Int) := by omega
        clear hrow hcur
        go_wp2_with fail
        go_roundw
        case rel =>
          refine ⟨q + 1, by omega, by go_num, hF'.out.setCell ⟨rfl, hlt3⟩, fun ad e => ⟨_, heap_setCell_same wr b2 (q * 2) _ _ _ hrw'.out, by simpa using hsz⟩⟩
        case measure => simp [intOf]; omega
    · have hqI : ¬ (q : Int) < (an : Int) := by omega
      go_wp2_with fail
      go_ret
      rw [hV.out]
      exact ⟨rfl, BDid.fin B3'.out D6'.out hF'.out (by have := hb2'.out; omega) (hoff.out _ (by have := hb2'.out; omega))⟩
end
end Go.Proofs.Ytiikakfdelkjhaa.Arn
