/- The law Norm. -/
import Derived.Test.YtoeplaofgmdlbaaLtxLb
import Derived.Laws.AppendOwnNone
namespace Go.Proofs.Ytoeplaofgmdlbaa
open Go.RowKit
set_option maxRecDepth 20000
open Ltx (Pc)

def normL (xs : List IP) : List Pc := if rightV xs = true then Ltx.norm (xs.map unip) else []
theorem normL_ok {l : List Pc} (h : rightV (l.map ipc) = true) : normL (l.map ipc) = Ltx.norm l := by unfold normL; rw [if_pos h, unip_ipc]
theorem normL_not {xs : List IP} (h : rightV xs = false) : normL xs = [] := by unfold normL; rw [if_neg (by rw [h]; simp)]
theorem normL_tot {xs : List IP} {top : Nat} (hs : smallV xs top = true) : totP (normL xs) ≤ top := by
  rcases Bool.eq_false_or_eq_true (rightV xs) with hr | hr
  · obtain ⟨l, rfl⟩ := right_pcs hr
    rw [normL_ok hr]
    exact Nat.le_trans (totP_norm _) (small_pcs hs).1
  · rw [normL_not hr]
    exact Nat.zero_le _
theorem norm_all (w : World) (A : Option Addr) (n c : Nat) (xs : List IP) (hx : PcsIn w A n xs) (hn : n ≤ maxLen) (hs : smallV xs 400 = true) :
    Calls Try.prog 15 #[.slice A n c] w fun e w' => ∃ v, e = .returned v ∧ OwnP w.heap.size w' v (normL xs) ∧ Below w.heap.size w w' := by
  rcases Bool.eq_false_or_eq_true (rightV xs) with hr | hr
  · obtain ⟨l, rfl⟩ := right_pcs hr
    have htot := (small_pcs hs).1
    rw [normL_ok hr]
    exact norm_right w A n c l hx hn (by omega) hr
  · rw [normL_not hr]
    exact (norm_not w A n c xs hx hn hr).mono fun e w' ⟨h1, h2⟩ => ⟨_, h1, OwnP.nil_ _ _, h2⟩
theorem rnorm_all (w : World) (A : Option Addr) (n c : Nat) (xs : List IP) (hx : PcsIn w A n xs) (hn : n ≤ maxLen) (hs : smallV xs 400 = true) :
    Calls Try.prog 16 #[.slice A n c] w fun e w' => ∃ v, e = .returned v ∧ OwnP w.heap.size w' v (normL xs) ∧ Below w.heap.size w w' := by
  rcases Bool.eq_false_or_eq_true (rightV xs) with hr | hr
  · obtain ⟨l, rfl⟩ := right_pcs hr
    have htot := (small_pcs hs).1
    rw [normL_ok hr]
    exact rnorm_right w A n c l hx hn (by omega) hr
  · rw [normL_not hr]
    exact (rnorm_not w A n c xs hx hn hr).mono fun e w' ⟨h1, h2⟩ => ⟨_, h1, OwnP.nil_ _ _, h2⟩

/-! ### a row of any pieces -/
def icells (x : IP) : List Value := [.int .i64 x.keep, .int .i64 x.drop, .string ⟨x.put.toArray⟩]
theorem icells_len (l : List IP) : (l.flatMap icells).length = l.length * 3 := by
  induction l with
  | nil => rfl
  | cons p r ih => rw [List.flatMap_cons, List.length_append, ih]; simp [icells]; omega
theorem icells_at : ∀ (l : List IP) (j : Nat) (u : Value), (l.flatMap icells)[j]? = some u → ∃ q i x, j = q * 3 + i ∧ i < 3 ∧ l[q]? = some x ∧ (icells x)[i]? = some u
  | [], j, u, h => by simp at h
  | a :: r, j, u, h => by
    rw [List.flatMap_cons] at h
    rcases Nat.lt_or_ge j 3 with hj | hj
    · rw [List.getElem?_append_left (by simpa [icells] using hj)] at h
      exact ⟨0, j, a, by omega, hj, rfl, h⟩
    · rw [List.getElem?_append_right (by simpa [icells] using hj)] at h
      obtain ⟨q, i, x, h1, h2, h3, h4⟩ := icells_at r _ u h
      have hl : (icells a).length = 3 := rfl
      rw [hl] at h1
      exact ⟨q + 1, i, x, by omega, h2, by simpa using h3, h4⟩
theorem icells_of : ∀ (l : List IP) (q i : Nat) (x : IP) (u : Value), l[q]? = some x → (icells x)[i]? = some u → (l.flatMap icells)[q * 3 + i]? = some u
  | a :: r, 0, i, x, u, h, hi => by
    simp at h
    subst h
    have hil := (List.getElem?_eq_some_iff.1 hi).1
    rw [List.flatMap_cons, Nat.zero_mul, Nat.zero_add, List.getElem?_append_left hil]
    exact hi
  | a :: r, q + 1, i, x, u, h, hi => by
    have ih := icells_of r q i x u (by simpa using h) hi
    rw [List.flatMap_cons, List.getElem?_append_right (by simp [icells]; omega)]
    rw [show (q + 1) * 3 + i - (icells a).length = q * 3 + i by simp [icells]; omega]
    exact ih
theorem add3 (ad : Addr) (q i : Nat) : (ad.add (q * 3)).add i = ad.add (q * 3 + i) := by
  unfold Addr.add
  by_cases hi : i = 0
  · rw [if_pos hi, hi, Nat.add_zero]
  · rw [if_neg hi, if_neg (show ¬ q * 3 + i = 0 by omega)]
    by_cases hq : q * 3 = 0
    · rw [if_pos hq, hq, Nat.zero_add]
    · rw [if_neg hq]
      simp only [Nat.add_assoc]
theorem PieceAt.cells {w : World} {E : Addr} {x : IP} (h : PieceAt w E x) (i : Nat) (u : Value) (hi : (icells x)[i]? = some u) : w.cell? (E.add i) = some u := by
  obtain ⟨-, -, -, -, -, h6, h7, h8⟩ := h
  match i, hi with
  | 0, hi => injection hi with hi; rw [← hi]; exact h6
  | 1, hi => injection hi with hi; rw [← hi]; exact h7
  | 2, hi => injection hi with hi; rw [← hi]; exact h8
theorem icells_one (xs : List IP) : ∀ u ∈ xs.flatMap icells, u.oneCell' = true := by
  intro u hu
  obtain ⟨x, -, hx⟩ := List.mem_flatMap.1 hu
  simp only [icells, List.mem_cons, List.not_mem_nil, or_false] at hx
  rcases hx with rfl | rfl | rfl <;> rfl
/-- what a slice of pieces reads as, cell by cell -/
theorem PcsIn.news {w : World} {ad : Addr} {n : Nat} {xs : List IP} (h : PcsIn w (some ad) n xs) : ∀ j u, (xs.flatMap icells)[j]? = some u → w.cell? (ad.add j) = some u := by
  intro j u hj
  obtain ⟨q, i, x, rfl, -, h3, h4⟩ := icells_at xs j u hj
  obtain ⟨ad', e, -, hp⟩ := h.2 q x h3
  injection e with e
  subst e
  rw [← add3]
  exact hp.cells i u h4
def OwnI (base : Nat) (w : World) (v : Value) (xs : List IP) : Prop := w.ownsRow base 29 3 v xs.length (xs.flatMap icells)
/-- a row of the call's own that was copied reads as what it was copied from -/
theorem OwnI.shape {w w0 : World} {base n : Nat} {A : Option Addr} {v : Value} {xs : List IP} (h : OwnI base w v xs) (h0 : PcsIn w0 A n xs) : ∃ (A1 : Option Addr) (c1 : Nat), v = .slice A1 n c1 ∧ n ≤ c1 ∧ c1 ≤ maxLen ∧ PcsIn w A1 n xs := by
  obtain ⟨A1, c1, rfl, h1, h2, h3, h4⟩ := own_form h
  have hl := h0.1
  rw [hl] at h1 h4
  refine ⟨A1, c1, by rw [hl], h1, h2, hl, fun q x hx => ?_⟩
  have hq := (List.getElem?_eq_some_iff.1 hx).1
  obtain ⟨g, rfl, hb, hlt, hc⟩ := h4 (by omega)
  obtain ⟨ad', -, -, hp⟩ := h0.2 q x hx
  have hadd : (⟨g, 0, none⟩ : Addr).add (q * 3) = ⟨g, q * 3, none⟩ := by unfold Addr.add; split <;> simp_all
  refine ⟨_, rfl, hlt, hp.1, hp.2.1, hp.2.2.1, hp.2.2.2.1, hp.2.2.2.2.1, ?_, ?_, ?_⟩
  · rw [hadd]; exact hc _ _ (icells_of xs q 0 x _ hx rfl)
  · rw [hadd]; exact hc _ _ (icells_of xs q 1 x _ hx rfl)
  · rw [hadd]; exact hc _ _ (icells_of xs q 2 x _ hx rfl)
theorem wpList_append_pieces {w : World} {ops : Array Oper} {rest : List Oper} {o : Oper} {a : Act} {Q : Exit → Act → World → Prop} (hgd : o.guard = none) (sl x : Operand)
    (ho : o.op = .call { callee := .builtin .append, args := #[sl, x], argTypes := #[22, 22] }) (A : Option Addr) (n c : Nat) (xs : List IP) (hs : a.eval sl = .slice none 0 0) (hx : a.eval x = .slice A n c) (hP : PcsIn w A n xs) (hnil : A = none → c = 0) (hn : n ≤ 400)
    (h : ∀ A1 c1 w', PcsIn w' A1 n xs → n ≤ c1 → c1 ≤ maxLen → Below w.heap.size w w' → wpList Try.prog ops Q rest (a.put o.dst (.slice A1 n c1)) w') : wpList Try.prog ops Q (o :: rest) a w := by
  obtain ⟨i0, hi0, hz0, hz1, hz2⟩ := info_parts Try.infoP
  have hl := hP.1
  cases A with
  | none =>
    obtain rfl := hnil rfl
    have hxs := hP.none_nil
    subst hxs
    obtain rfl : n = 0 := hl.symm
    refine wpList_append_own_none hgd sl x 22 ho w.heap.size 29 i0 3 Try.underlying22 hi0 (.slice none 0 0) 0 [] hs (World.ownsRow_nil _ _ _ _) hx ?_
    exact h none 0 w (PcsIn.nil w) (Nat.le_refl _) (Nat.zero_le _) (Below.refl _ _)
  | some ad =>
    refine wpList_append_own_at _ hgd sl x 22 ho w.heap.size 29 i0 _ 3 32 Try.underlying22 hi0 hz0 hz1 hz2 rfl (by decide) (.slice none 0 0) 0 [] hs (World.ownsRow_nil _ _ _ _) ad n c (xs.flatMap icells) hx (by rw [icells_len, hl]) hP.news (icells_one xs) (by unfold maxLen; omega) (by omega) (Nat.le_refl _) ?_
    intro v' w' hown hg _ _
    have hown2 : OwnI w.heap.size w' v' xs := by
      unfold OwnI
      rw [Nat.zero_add, List.nil_append, ← hl] at hown
      exact hown
    obtain ⟨A1, c1, rfl, h1, h2, h3⟩ := hown2.shape hP
    exact h A1 c1 w' h3 h1 h2 ((Below.refl w.heap.size w).grown hg (Nat.le_refl _) (fun k hk => by cases hk))
theorem PcsIn.blk {w : World} {A : Option Addr} {n : Nat} {xs : List IP} (h : PcsIn w A n xs) : ∀ ad, A = some ad → 0 < n → ad.block < w.heap.size := by
  intro ad e hn
  have hl : 0 < xs.length := by rw [h.1]; exact hn
  obtain ⟨ad', e', hb, -⟩ := h.2 0 xs[0] (List.getElem?_eq_getElem hl)
  rw [e] at e'
  injection e' with e'
  rw [e']
  exact hb
theorem OwnP.row {base : Nat} {w : World} {A : Option Addr} {n c : Nat} {l : List Pc} (h : OwnP base w (.slice A n c) l) : l.length = 0 ∨ ∃ g cur, A = some ⟨g, 0, none⟩ ∧ base ≤ g ∧ w.heap[g]? = some (.cells cur 29 (0, 0)) ∧ l.length * 3 ≤ cur.size := by
  rcases h.2 with ⟨-, h0⟩ | ⟨g, cap, cur, e, hgb, hgg, hnc, hcm, hcs, htk⟩
  · exact .inl h0
  · injection e with e1 e2 e3
    refine .inr ⟨g, cur, e1, hgb, hgg, ?_⟩
    have h2 := congrArg List.length htk
    rw [cells_len, List.length_take, Array.length_toList] at h2
    omega
theorem setCell_row {w : World} {g o : Nat} {cur : Array Value} {T : TypeId} {v : Value} (h : w.heap[g]? = some (.cells cur T (0, 0))) : ∃ cur', (w.setCell ⟨g, o, none⟩ v).heap[g]? = some (.cells cur' T (0, 0)) ∧ cur'.size = cur.size :=
  ⟨cur.setIfInBounds o v, heap_setCell_same w g o _ _ _ h, by simp⟩
set_option maxHeartbeats 2400000 in
theorem lawNorm_any (w : World) (A : Option Addr) (n c : Nat) (xs : List IP) (hx : PcsIn w A n xs) (hn : n ≤ maxLen) (hnil : A = none → c = 0) :
    Calls Try.prog 4 #[.slice A n c] w fun e w' => e = .returned (.bool true) ∧ Below w.heap.size w w' := by
  have hx0 := Lib.hid hx
  have hbl0 := Lib.hid (Below.refl w.heap.size w)
  have hnl := hx.1
  clear hx
  rcases Bool.eq_false_or_eq_true (smallV xs 400) with hs | hs
  · have hs' := Lib.hid hs
    have hnx : n ≤ 400 := by
      have h := hs
      unfold smallV at h
      simp only [Bool.and_eq_true, decide_eq_true_eq] at h
      omega
    have htot := Lib.hid (normL_tot hs)
    clear hs
    have hnil' := Lib.hid hnil
    clear hnl hnil
    go_enter Try.func4, Try.ntmps4
    go_wp2_with fail
    refine (small_any w A n c _ hx0.out hn 400 (by omega)).mono ?_
    rw [hs'.out]
    rintro e w1 ⟨rfl, hb1⟩
    have hx1 := Lib.hid (hx0.out.below hb1)
    have hbl1 := Lib.hid (hbl0.out.trans (hb1.mono hbl0.out.size))
    clear hb1
    go_wp2_with (at_builtin; refine wpList_append_pieces rfl (.tmp 11) (.tmp 12) rfl A n c xs rfl rfl hx1.out hnil'.out hnx ?_; intro A1 c1 w2 hP2 hc1 hc2 hb2; have hP2' := Lib.hid hP2; have hcm1 := Lib.hid (Nat.le_trans hc1 hc2); have hx2 := Lib.hid (hx1.out.below hb2); have hbl2 := Lib.hid (hbl1.out.trans (hb2.mono hbl1.out.size)); clear hP2 hc1 hc2 hb2)
    go_wp2_with fail
    refine (norm_all w2 A1 n c1 xs hP2'.out hn hs'.out).mono ?_
    rintro e w3 ⟨v, rfl, hv, hb3⟩
    have hx3 := Lib.hid (hx2.out.below hb3)
    have hbl3 := Lib.hid (hbl2.out.trans (hb3.mono hbl2.out.size))
    have hOw := Lib.hid hv
    obtain ⟨A3, n3, c3, rfl, hn3, hnc3, hcm3, hP3, -⟩ := hv.shape (low_of (by have := htot.out; omega))
    have hP3' := Lib.hid hP3
    have hnm3 := Lib.hid (Nat.le_trans hnc3 hcm3)
    have hQ3 := Lib.hid (hP2'.out.below hb3)
    have hn3' := Lib.hid hn3
    clear hv hn3 hP3 hnc3 hcm3
    clear hb3
    go_wp2_with fail
    refine (rnorm_all w3 A n c xs hx3.out hn hs'.out).mono ?_
    rintro e w4 ⟨v, rfl, hv, hb4⟩
    have hx4 := Lib.hid (hx3.out.below hb4)
    have hbl4 := Lib.hid (hbl3.out.trans (hb4.mono hbl3.out.size))
    have hOw4 := Lib.hid hv
    obtain ⟨A4, n4, c4, rfl, hn4, hnc4, hcm4, hP4, -⟩ := hv.shape (low_of (by have := htot.out; omega))
    have hP4' := Lib.hid hP4
    have hnm4 := Lib.hid (Nat.le_trans hnc4 hcm4)
    have hQ4 := Lib.hid (hQ3.out.below hb4)
    have hR4 := Lib.hid (hP3'.out.below hb4)
    have hb4' := Lib.hid hb4
    clear hv hn4 hP4 hnc4 hcm4
    clear hb4
    go_wp2_with fail
    refine (same_any w4 A3 A4 n3 c3 n4 c4 _ _ hR4.out hP4'.out hnm3.out hnm4.out).mono ?_
    rw [sameP_iff.2 rfl]
    rintro e w5 ⟨rfl, hb5⟩
    have hx5 := Lib.hid (hx4.out.below hb5)
    have hbl5 := Lib.hid (hbl4.out.trans (hb5.mono hbl4.out.size))
    have hQ5 := Lib.hid (hQ4.out.below hb5)
    have hP5 := Lib.hid (hP4'.out.below hb5)
    have hb5' := Lib.hid hb5
    clear hb5
    have hrow := Lib.hid (show n3 = 0 ∨ ∃ g cur, A3 = some ⟨g, 0, none⟩ ∧ w2.heap.size ≤ g ∧ g < w3.heap.size ∧ w5.heap[g]? = some (.cells cur 29 (0, 0)) ∧ n3 * 3 ≤ cur.size from by
      rw [hn3'.out]
      rcases hOw.out.row with h | ⟨g, cur, h1, h2, h3, h4⟩
      · exact .inl h
      · have hg := (Array.getElem?_eq_some_iff.1 h3).1
        exact .inr ⟨g, cur, h1, h2, hg, (hb5'.out.block g (by have := hb4'.out.size; omega)).trans ((hb4'.out.block g hg).trans h3), h4⟩)
    have hn3I : (n3 : Int) ≤ 9223372036854775807 := by have := hnm3.out; unfold maxLen at this; omega
    go_wp2_with fail
    go_loopw [6] (fun k wr => ∃ i : Nat, i ≤ n3 ∧ k = .int .i64 (i : Int) ∧ FrX (fun k => w2.heap.size ≤ k ∧ k < w3.heap.size) w5 wr ∧ (n3 = 0 ∨ ∃ g cur, A3 = some ⟨g, 0, none⟩ ∧ w2.heap.size ≤ g ∧ g < w3.heap.size ∧ wr.heap[g]? = some (.cells cur 29 (0, 0)) ∧ n3 * 3 ≤ cur.size)) (fun k _ => n3 - (intOf k).toNat)
    case atStart => exact ⟨0, Nat.zero_le _, rfl, FrX.refl _ _, hrow.out⟩
    case round =>
      obtain ⟨i, hi, rfl, hF, hr⟩ := hrel
      have hF' := Lib.hid hF
      clear hF
      by_cases h1 : i < n3
      · have h1I : (i : Int) < (n3 : Int) := by omega
        obtain ⟨g, cur, hA3, hg1, hg2, hgc, hcs⟩ := hr.resolve_left (by omega)
        obtain ⟨ad, had⟩ : ∃ ad : Addr, ad = ⟨g, 0, none⟩ := ⟨_, rfl⟩
        rw [← had] at hA3
        subst hA3
        have hadd : ad.add (i * 3) = ⟨g, i * 3, none⟩ := by rw [had]; unfold Addr.add; split <;> simp_all
        have q0 : wr.cell? (ad.add (i * 3)) = some cur[i * 3] := by rw [hadd, cell_of_row wr g (i * 3) _ _ _ hgc]; exact Array.getElem?_eq_getElem (by omega)
        have q1 : wr.cell? ⟨(ad.add (i * 3)).block, (ad.add (i * 3)).off + 1, none⟩ = some cur[i * 3 + 1] := by rw [hadd]; dsimp only; rw [cell_of_row wr g (i * 3 + 1) _ _ _ hgc]; exact Array.getElem?_eq_getElem (by omega)
        have q2 : wr.cell? ⟨(ad.add (i * 3)).block, (ad.add (i * 3)).off + 2, none⟩ = some cur[i * 3 + 2] := by rw [hadd]; dsimp only; rw [cell_of_row wr g (i * 3 + 2) _ _ _ hgc]; exact Array.getElem?_eq_getElem (by omega)
        have f0 : wr.frozen? (ad.add (i * 3)) = false := by rw [hadd]; exact frozen_of_row wr g (i * 3) _ _ hgc
        have f1 : wr.frozen? ⟨(ad.add (i * 3)).block, (ad.add (i * 3)).off + 1, none⟩ = false := by rw [hadd]; exact frozen_of_row wr g (i * 3 + 1) _ _ hgc
        have f2 : wr.frozen? ⟨(ad.add (i * 3)).block, (ad.add (i * 3)).off + 2, none⟩ = false := by rw [hadd]; exact frozen_of_row wr g (i * 3 + 2) _ _ hgc
        have q1' : ∀ v, (wr.setCell (ad.add (i * 3)) v).cell? ⟨(ad.add (i * 3)).block, (ad.add (i * 3)).off + 1, none⟩ = some cur[i * 3 + 1] := fun v => (World.cell?_setCell_other wr (ad.add (i * 3)) _ v (by rw [hadd]; simp)).trans q1
        have q2' : ∀ v v', ((wr.setCell (ad.add (i * 3)) v).setCell ⟨(ad.add (i * 3)).block, (ad.add (i * 3)).off + 1, none⟩ v').cell? ⟨(ad.add (i * 3)).block, (ad.add (i * 3)).off + 2, none⟩ = some cur[i * 3 + 2] := fun v v' => (World.cell?_setCell_other _ _ _ v' (by rw [hadd]; simp)).trans ((World.cell?_setCell_other wr (ad.add (i * 3)) _ v (by rw [hadd]; simp)).trans q2)
        have hgc' := Lib.hid hgc
        have hadd' := Lib.hid hadd
        have had' := Lib.hid had
        clear hgc hadd had hr
        go_wp2_with fail
        rw [hadd'.out]
        dsimp only
        obtain ⟨u1, e1, z1⟩ := setCell_row (o := i * 3) (v := .int .i64 (-1)) hgc'.out
        obtain ⟨u2, e2, z2⟩ := setCell_row (o := i * 3 + 1) (v := .int .i64 0) e1
        obtain ⟨u3, e3, z3⟩ := setCell_row (o := i * 3 + 2) (v := .string ⟨#[]⟩) e2
        refine ⟨⟨i + 1, by omega, rfl, ((hF'.out.setCell ⟨hg1, hg2⟩).setCell ⟨hg1, hg2⟩).setCell ⟨hg1, hg2⟩, .inr ⟨g, u3, by rw [had'.out], hg1, hg2, e3, by omega⟩⟩, ?_⟩
        simp only [intOf]
        omega
      · have h1I : ¬ (i : Int) < (n3 : Int) := by omega
        have hs2 := (hb4'.out.size)
        have hs3 := (hb5'.out.size)
        have hxr := Lib.hid (hx5.out.where_ hF'.out.size fun ad e h0 => hF'.out.block _ (hx5.out.blk ad e h0) (fun e2 => by have := hx2.out.blk ad e h0; omega))
        have hQr := Lib.hid (hQ5.out.where_ hF'.out.size fun ad e h0 => hF'.out.block _ (hQ5.out.blk ad e h0) (fun e2 => by have := hP2'.out.blk ad e h0; omega))
        have hPr := Lib.hid (hP5.out.where_ hF'.out.size fun ad e h0 => hF'.out.block _ (hP5.out.blk ad e h0) (fun e2 => by
          obtain ⟨A', c', e3, -, -, -, h4⟩ := own_form hOw4.out
          injection e3 with e4 e5 e6
          subst e4
          obtain ⟨g, e7, hg, -⟩ := h4 (by omega)
          rw [e] at e7
          injection e7 with e7
          rw [e7] at e2
          have e8 : g < w3.heap.size := e2.2
          omega))
        have hblr := Lib.hid (hbl5.out.trans (hF'.out.below (B := w.heap.size) (fun k hk => by have := hbl2.out.size; omega) hbl5.out.size))
        clear hr hF' hs2 hs3
        go_wp2_with fail
        refine (same_any wr A1 A n c1 n c _ _ hQr.out hxr.out hcm1.out hn).mono ?_
        rw [sameP_iff.2 rfl]
        rintro e w6 ⟨rfl, hb6⟩
        have hx6 := Lib.hid (hxr.out.below hb6)
        have hP6 := Lib.hid (hPr.out.below hb6)
        have hbl6 := Lib.hid (hblr.out.trans (hb6.mono hblr.out.size))
        clear hb6
        go_wp2_with fail
        refine (norm_all w6 A n c xs hx6.out hn hs'.out).mono ?_
        rintro e w7 ⟨v, rfl, hv, hb7⟩
        have hP7 := Lib.hid (hP6.out.below hb7)
        have hbl7 := Lib.hid (hbl6.out.trans (hb7.mono hbl6.out.size))
        obtain ⟨A7, n7, c7, rfl, hn7, hnc7, hcm7, hP7', -⟩ := hv.shape (low_of (by have := htot.out; omega))
        have hR7 := Lib.hid hP7'
        have hnm7 := Lib.hid (Nat.le_trans hnc7 hcm7)
        clear hv hn7 hP7' hnc7 hcm7
        clear hb7
        go_wp2_with fail
        refine (same_any w7 A7 A4 n7 c7 n4 c4 _ _ hR7.out hP7.out hnm7.out hnm4.out).mono ?_
        rw [sameP_iff.2 rfl]
        rintro e w8 ⟨rfl, hb8⟩
        have hbl8 := Lib.hid (hbl7.out.trans (hb8.mono hbl7.out.size))
        clear hb8
        go_wp2_with fail
        refine (works_any _).mono ?_
        rintro e w9 ⟨rfl, hb9⟩
        have hbl9 := Lib.hid (hbl8.out.trans (hb9.mono hbl8.out.size))
        clear hb9
        go_wp2_with fail
        go_ret
        exact ⟨rfl, hbl9.out⟩
  · have hs' := Lib.hid hs
    clear hs
    go_enter Try.func4, Try.ntmps4
    go_wp2_with fail
    refine (small_any w A n c _ hx0.out hn 400 (by omega)).mono ?_
    rw [hs'.out]
    rintro e w1 ⟨rfl, hb1⟩
    have hbl1 := Lib.hid (hbl0.out.trans (hb1.mono hbl0.out.size))
    clear hb1
    go_wp2_with fail
    refine (works_any _).mono ?_
    rintro e w2 ⟨rfl, hb2⟩
    have hbl2 := Lib.hid (hbl1.out.trans (hb2.mono hbl1.out.size))
    clear hb2
    go_wp2_with fail
    go_ret
    exact ⟨rfl, hbl2.out⟩
end Go.Proofs.Ytoeplaofgmdlbaa
