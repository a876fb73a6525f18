/- A call of both: the law's. -/
import Derived.Test.YtiikakfdelkjhaaArnLa
import Derived.Deep.RegionHeld3
namespace Go.Proofs.Ytiikakfdelkjhaa.Arn
open Go.RowKit
set_option maxRecDepth 20000
set_option linter.unusedVariables false

open Classical in
/-- what a call makes of an arena -/
noncomputable def doesV (a : Av) (c : Cl) : Av :=
  if pickV c.kind = 2 then removeR a c.a else if pickV c.kind = 3 ∨ pickV c.kind = 4 then moveR a c.a c.b c.at_ else if pickV c.kind = 5 then setR a c.a c.d else (addR a c.a c.at_ c.d).2
/-- append(nil, attrs..): where the new row lies, and that it may be written -/
theorem wpList_append_ats2 {w : World} {ops : Array Oper} {rest : List Oper} {o : Oper} {a : Act} {Q : Exit → Act → World → Prop} (hgd : o.guard = none) (sl x : Operand)
    (ho : o.op = .call { callee := .builtin .append, args := #[sl, x], argTypes := #[23, 23] }) (T : Nat → Prop) (A : Option Addr) (n c : Nat) (xs : List (Txt × Txt)) (hs : a.eval sl = .slice none 0 0) (hx : a.eval x = .slice A n c) (hP : AtsIn T w A n xs) (hnil : A = none → c = 0) (hnc : n ≤ c) (hn : n ≤ 1000000)
    (h : ∀ A1 c1 w', AtsIn (fun k => k = w.heap.size ∧ k < w'.heap.size) w' A1 n xs → n ≤ c1 → c1 ≤ maxLen → (A1 = none → c1 = 0) → Below w.heap.size w w' → (∀ ad, A1 = some ad → ad = ⟨w.heap.size, 0, none⟩ ∧ ∃ cur, w'.heap[w.heap.size]? = some (.cells cur 61 (0, 0)) ∧ n * 2 ≤ cur.size) → wpList Try.prog ops Q rest (a.put o.dst (.slice A1 n c1)) w') : wpList Try.prog ops Q (o :: rest) a w := by
  obtain ⟨i0, hi0, hz0, hz1, hz2⟩ := info_parts Try.infoA
  have hl := hP.1
  cases A with
  | none =>
    obtain rfl := hnil rfl
    obtain rfl : n = 0 := by omega
    have hxs : xs = [] := List.length_eq_zero_iff.1 hl
    subst hxs
    refine wpList_append_own_none hgd sl x 23 ho w.heap.size 61 i0 2 Try.underlying23 hi0 (.slice none 0 0) 0 [] hs (World.ownsRow_nil _ _ _ _) hx ?_
    exact h none 0 w ⟨rfl, fun q x hx => by simp at hx⟩ (Nat.le_refl _) (Nat.zero_le _) (fun _ => rfl) (Below.refl _ _) fun ad e => by cases e
  | some ad =>
    refine wpList_append_own_at _ hgd sl x 23 ho w.heap.size 61 i0 _ 2 32 Try.underlying23 hi0 hz0 hz1 hz2 rfl (by decide) (.slice none 0 0) 0 [] hs (World.ownsRow_nil _ _ _ _) ad n c (xs.flatMap atc) hx (by rw [chunk_len atc 2 atc_len, hl]) hP.news (atc_one xs) (by unfold maxLen; omega) (by omega) (Nat.le_refl _) ?_
    intro v' w' hown hg _ hat
    rw [Nat.zero_add, List.nil_append] at hown
    have hown2 := hown
    obtain ⟨A1, c1, rfl, h1, h2, h3, h4⟩ := own_form hown
    have hblk : ∀ ad, A1 = some ad → ad = ⟨w.heap.size, 0, none⟩ ∧ ∃ cur, w'.heap[w.heap.size]? = some (.cells cur 61 (0, 0)) ∧ n * 2 ≤ cur.size := by
      intro ad2 e2
      subst e2
      rcases hown2.2 with ⟨e, _⟩ | ⟨g, cap, cur, e, _, hg2, hnc2, _, hcs, _⟩
      · cases e
      · injection e with e1 e3 e4
        injection e1 with e1
        subst e1 e4
        have hgw : g = w.heap.size := by
          rcases hat with e | e
          · cases e
          · simpa [Value.ownBlock] using e
        subst hgw
        exact ⟨rfl, cur, hg2, by omega⟩
    refine h A1 c1 w' ⟨hl, fun q x hx => ?_⟩ h1 h2 h3 ((Below.refl w.heap.size w).grown hg (Nat.le_refl _) (fun k hk => by cases hk)) hblk
    have hq := (List.getElem?_eq_some_iff.1 hx).1
    obtain ⟨g, rfl, hb, hlt, hc⟩ := h4 (by omega)
    obtain ⟨ad', -, -, l1, l2, -, -⟩ := hP.2 q x hx
    have hgw : g = w.heap.size := by
      rcases hat with e | e
      · cases e
      · simpa [Value.ownBlock] using e
    refine ⟨_, rfl, ⟨hgw, hlt⟩, l1, l2, ?_, ?_⟩
    · rw [add_zero_off]
      exact hc _ _ (chunk_of atc 2 atc_len xs q 0 x _ hx rfl)
    · rw [add_zero_off]
      exact hc _ _ (chunk_of atc 2 atc_len xs q 1 x _ hx rfl)
theorem BDid.keeps {w w' : World} {ow : Nat → Role} {P R : Nat} {a : Av} {k : Nat} (h : BDid w w' ow P R a) (hk : k < w.heap.size) (ho : ow k = .off) : w'.heap[k]? = w.heap[k]? := by
  obtain ⟨ow6, -, hr6, hf6⟩ := h
  refine hf6.block k hk fun e => ?_
  have e : (ow k).own := e
  rw [ho] at e
  rcases e with e | e
  · exact e
  · exact e
theorem BDid.fin {w W3 w6 wr : World} {ow : Nat → Role} {P R g : Nat} {a : Av} (hB : Below w.heap.size w W3) (D : BDid W3 w6 ow P R a) (F : FrX (fun k => k = g ∧ g < W3.heap.size) w6 wr) (hg2 : w.heap.size ≤ g) (ho : ow g = .off) : BDid w wr ow P R a := by
  obtain ⟨ow6, b6, hr6, hf6⟩ := D
  have hlow : ∀ k, ow6 k ≠ .off → k < wr.heap.size := fun k hk => Nat.lt_of_lt_of_le (b6.p.low k hk) F.size
  have ne : ∀ k, ow6 k ≠ .off → wr.heap[k]? = w6.heap[k]? := fun k hk => F.block k (b6.p.low k hk) fun ⟨e, hg⟩ => hk (by rw [e]; exact (hr6 g hg).trans ho)
  refine ⟨ow6, ⟨b6.p.kept F.size (fun _ _ => rfl) hlow fun k hk => ne k fun e => by rw [e] at hk; exact hk, b6.r.kept F.size (fun _ _ => rfl) hlow fun k hk => ne k fun e => by rw [e] at hk; exact hk⟩, fun k hk => hr6 k (Nat.lt_of_lt_of_le hk hB.size), ?_⟩
  refine ((FrX.of_below hB).trans hf6 fun k hk => ?_).trans F fun k hk => .inr (by rw [hk.1]; exact hg2)
  by_cases hlt : k < w.heap.size
  · exact .inl hk
  · exact .inr (by omega)
section
variable {w : World} {ow : Nat → Role} {P R : Nat} {a : Av}
def callV (c : Cl) : Value := .agg #[.int .i64 c.kind, .int .i64 c.a, .int .i64 c.b, .int .i64 c.at_, .int .u64 (c.d.id : Int), .bool c.d.leaf, .string ⟨c.d.label.toArray⟩, .slice c.aA c.an c.ac, .string ⟨c.d.text.toArray⟩]
set_option maxHeartbeats 1000000 in
theorem does_remove (h : Both w ow P R a) (hw : WF a) (hc : a.cnt < 100000) (T : Nat → Prop) (c : Cl) (hok : c.Ok T w) (hT : ∀ k, T k → k < w.heap.size ∧ ow k = .off) (hfew : c.an ≤ 30) (hk : pickV c.kind = 2) :
    Calls Try.prog 14 #[.pointer (some ⟨P, 0, none⟩), .pointer (some ⟨R, 0, none⟩), callV c] w fun e w' => e = .returned (.bool true) ∧ BDid w w' ow P R (doesV a c) := by
  obtain ⟨kd, ca, cb, cat, ⟨id, leaf, lb, at_, tx⟩, aA, an, ac⟩ := c
  have h' := Lib.hid h
  have hw' := Lib.hid hw
  have hc' := Lib.hid hc
  have hok' := Lib.hid hok
  have hT' := Lib.hid hT
  have f2 := Lib.hid hok.d.anil
  have f3 := hok.d.anc
  have f1 := Lib.hid hok.d.ats
  have hkd := hok.kind
  unfold callV
  dsimp only at hfew hk f1 f2 f3 hkd ⊢
  have hk' := Lib.hid hk
  clear h hw hc hok hT hk
  go_enter Try.func14, Try.ntmps14
  go_upto_region 10 with (first
    | (at_builtin; refine wpList_append_ats2 rfl _ _ rfl T aA an ac at_ rfl rfl (AtsIn.kept (w := w) (fun _ h => h) (fun k hk => two_new _ _ _ (hT'.out k hk).1) f1.out) f2.out f3 (by omega) ?_; intro A1 c1 w1 hat hc hm hz hb hrow; have BC := (hb.block w.heap.size (by simp; omega)).trans (two_first w _ _); have BD := (hb.block (w.heap.size + 1) (by simp)).trans (two_second w _ _); have BC' := Lib.hid BC; have BD' := Lib.hid BD; have x0 := cell_of_row w1 w.heap.size 0 _ _ _ BC; have x1 := cell_of_row w1 w.heap.size 1 _ _ _ BC; obtain ⟨d0, d1, d2, d3, d4, df⟩ := five_cells BD; have H1 := Lib.hid hat; have H2 := Lib.hid hc; have H3 := Lib.hid hm; have H4 := Lib.hid hz; have H5 := Lib.hid hb; have H6 := Lib.hid hrow; clear hat hc hm hz hb hrow BC BD)
    | (go_at_call 33; refine (pick_any _ kd hkd).mono ?_; rintro e w7 ⟨rfl, rfl⟩; rw [hk'.out]))
  rename_i K hK
  obtain ⟨W3, hW3⟩ : ∃ W3, W3 = w1.setCell ⟨w.heap.size + 1, 3, none⟩ (.slice A1 an c1) := ⟨_, rfl⟩
  rw [← hW3]
  have B3 : Below w.heap.size w W3 := by
    rw [hW3]
    exact ((((Below.refl w.heap.size w).alloc (Nat.le_refl _) _).alloc (by simp) _).trans (H5.out.mono (by simp; omega))).setCell (by simp) _
  have o3 : ∀ k, k ≠ w.heap.size + 1 → W3.heap[k]? = w1.heap[k]? := fun k hk => by rw [hW3]; exact heap_setCell_other w1 ⟨w.heap.size + 1, 3, none⟩ k _ hk
  have z3 : W3.heap.size = w1.heap.size := by rw [hW3]; simp
  have z1 : w.heap.size + 2 ≤ w1.heap.size := by have := H5.out.size; simpa using this
  have RD := Lib.hid (show W3.heap[w.heap.size + 1]? = some (.cells #[.int .u64 (id : Int), .bool leaf, .string ⟨lb.toArray⟩, .slice A1 an c1, .string ⟨tx.toArray⟩] 25 (0, 0)) by rw [hW3, heap_setCell_same w1 (w.heap.size + 1) 3 _ _ _ BD'.out]; rfl)
  have RC := Lib.hid ((o3 w.heap.size (by omega)).trans BC'.out)
  have hrow3 := Lib.hid (show ∀ ad, A1 = some ad → ad = ⟨w.heap.size + 2, 0, none⟩ ∧ ∃ cur, W3.heap[w.heap.size + 2]? = some (.cells cur 61 (0, 0)) ∧ an * 2 ≤ cur.size from fun ad e => by
    have := H6.out ad e
    rw [size2] at this
    obtain ⟨e1, cur, e2, e3⟩ := this
    exact ⟨e1, cur, (o3 _ (by omega)).trans e2, e3⟩)
  clear hW3 x0 x1 d0 d1 d2 d3 d4 df BC' BD'
  have x1 : W3.cell? ⟨w.heap.size, 1, none⟩ = some (.int .i64 ca) := cell_of_row W3 w.heap.size 1 _ _ _ RC.out
  have hoff := Lib.hid (show ∀ k, w.heap.size ≤ k → ow k = .off from fun k hk => by
    cases h : ow k with
    | off => rfl
    | _ => have := h'.out.p.low k (by rw [h]; simp); omega)
  have b3 := Lib.hid (h'.out.below B3.drew)
  have B3' := Lib.hid B3
  have hz3 := Lib.hid (show w.heap.size + 2 ≤ W3.heap.size by omega)
  clear o3 z3 z1 B3
  go_region_held3 (fun w' => w'.cell? ⟨w.heap.size, 1, none⟩ = some (.int .i64 ca))
    (first
      | go_keep
      | assumption)
    (first
      | (go_at_call 24; refine (remove_any b3.out.p hw'.out hc'.out ca).mono ?_; rintro e w5 ⟨rfl, hd5⟩; obtain ⟨ow5, p5, r5, hr5, hf5⟩ := b3.out.r.did hd5; have x5 : w5.cell? ⟨w.heap.size, 1, none⟩ = some (.int .i64 ca) := (World.cell?_of_block (w := W3.drew) (w' := w5) (a := ⟨w.heap.size, 1, none⟩) (hf5.block w.heap.size (by show _ < W3.heap.size; have := hz3.out; omega) (by rw [hoff.out _ (Nat.le_refl _)]; exact fun e => e))).trans x1; have p5' := Lib.hid p5; have r5' := Lib.hid r5; have hr5' := Lib.hid hr5; have hf5' := Lib.hid hf5; clear hd5 p5 r5 hr5 hf5)
      | (go_at_call 34; refine (rremove_any r5'.out hw'.out hc'.out ca).mono ?_; rintro e w6 ⟨rfl, hd6⟩; have D6 := both_did (w := W3.drew) p5'.out hr5'.out hf5'.out hd6; have x6 : w6.cell? ⟨w.heap.size, 1, none⟩ = some (.int .i64 ca) := (World.cell?_of_block (w := W3.drew) (w' := w6) (a := ⟨w.heap.size, 1, none⟩) (D6.keeps (k := w.heap.size) (show w.heap.size < W3.heap.size by have := hz3.out; omega) (hoff.out _ (Nat.le_refl _)))).trans x1; have D6' := Lib.hid D6; clear D6 hd6))
  refine hK _ _ ?_
  clear hK x1
  have hV := Lib.hid (show doesV a ⟨kd, ca, cb, cat, ⟨id, leaf, lb, at_, tx⟩, aA, an, ac⟩ = removeR a ca by unfold doesV; rw [if_pos hk'.out])
  have R6 := Lib.hid ((D6'.out.keeps (k := w.heap.size + 1) (show w.heap.size + 1 < W3.heap.size by have := hz3.out; omega) (hoff.out _ (by omega))).trans RD.out)
  have hrow6 := Lib.hid (show ∀ ad, A1 = some ad → ad = ⟨w.heap.size + 2, 0, none⟩ ∧ ∃ cur, w6.heap[w.heap.size + 2]? = some (.cells cur 61 (0, 0)) ∧ an * 2 ≤ cur.size from fun ad e => by
    obtain ⟨e1, cur, e2, e3⟩ := hrow3.out ad e
    have hlt : w.heap.size + 2 < W3.heap.size := (Array.getElem?_eq_some_iff.1 e2).1
    exact ⟨e1, cur, (D6'.out.keeps (k := w.heap.size + 2) hlt (hoff.out _ (by omega))).trans e2, e3⟩)
  obtain ⟨b1, hb1⟩ : ∃ b1, b1 = w.heap.size + 1 := ⟨_, rfl⟩
  obtain ⟨b2, hb2⟩ : ∃ b2, b2 = w.heap.size + 2 := ⟨_, rfl⟩
  rw [← hb1] at R6 ⊢
  rw [← hb2] at hrow6
  have hb1' := Lib.hid hb1
  have hb2' := Lib.hid hb2
  have hcc := H2.out
  have hcm := H3.out
  clear hb1 hb2
  go_wp2_with fail
  go_loopw [14] (fun i wr => ∃ q : Nat, q ≤ an ∧ i = .int .i64 (q : Int) ∧ FrX (fun k => k = b2 ∧ b2 < W3.drew.heap.size) w6 wr ∧ ∀ ad, A1 = some ad → ∃ cur, wr.heap[b2]? = some (.cells cur 61 (0, 0)) ∧ an * 2 ≤ cur.size) (fun i _ => an - (intOf i).toNat)
  case atStart => exact ⟨0, Nat.zero_le _, rfl, FrX.refl _ _, fun ad e => (hrow6.out ad e).2⟩
  case round =>
    obtain ⟨q, hq, rfl, hF, hrow⟩ := hrel
    have hF' := Lib.hid hF
    have d3 : wr.cell? ⟨b1, 3, none⟩ = some (.slice A1 an c1) := cell_of_row wr b1 3 _ _ _ ((hF.block b1 (Array.getElem?_eq_some_iff.1 R6.out).1 (fun e => by have := e.1; have := hb1'.out; have := hb2'.out; omega)).trans R6.out)
    clear hF
    by_cases hqn : q < an
    · cases A1 with
      | none => exfalso; have := H4.out rfl; omega
      | some ad =>
        obtain ⟨cur, hcur, hsz⟩ := hrow ad rfl
        obtain ⟨rfl, -⟩ := hrow6.out ad rfl
        have hrw' := Lib.hid hcur
        have hlt3 : b2 < W3.drew.heap.size := by
          obtain ⟨-, cur3, e2, -⟩ := hrow3.out _ rfl
          rw [hb2'.out]
          exact (Array.getElem?_eq_some_iff.1 e2).1
        have hcell := cell_of_row wr b2 (q * 2) _ _ _ hcur
        rw [Array.getElem?_eq_getElem (by omega)] at hcell
        have hfz := frozen_of_row wr b2 (q * 2) _ _ hcur
        have hqI : (q : Int) < (an : Int) := by omega
        clear hrow hcur
        go_wp2_with fail
        go_roundw
        case rel =>
          refine ⟨q + 1, by omega, by go_num, hF'.out.setCell ⟨rfl, hlt3⟩, fun ad e => ⟨_, heap_setCell_same wr b2 (q * 2) _ _ _ hrw'.out, by simpa using hsz⟩⟩
        case measure => simp [intOf]; omega
    · have hqI : ¬ (q : Int) < (an : Int) := by omega
      go_wp2_with fail
      go_ret
      rw [hV.out]
      exact ⟨rfl, BDid.fin B3'.out.drew D6'.out hF'.out (by have := hb2'.out; omega) (hoff.out _ (by have := hb2'.out; omega))⟩
end
end Go.Proofs.Ytiikakfdelkjhaa.Arn
