/- Other data; a new arena: the program's. -/
import Derived.Test.YtiikakfdelkjhaaArnK
namespace Go.Proofs.Ytiikakfdelkjhaa.Arn
open Go.RowKit
set_option maxRecDepth 20000

theorem setE_ok {a : Av} {s : Int} {l : Bool} (h : setE a s l = 0) : ∃ x : Nat, s = (x : Int) ∧ a.live x = true := by
  unfold setE at h
  cases hlv : liveI a s with
  | false => rw [hlv] at h; simp at h
  | true => exact liveI_nat hlv
section
variable {w : World} {ow : Nat → Role} {P : Nat} {a : Av} {B : Nat → Nat} {m : Nat} {sv : Nat → SV} {sA : Option Addr} {sc : Nat} {fA : Option Addr} {fc : Nat}
theorem datPut (h : PA w ow P a B m sv sA sc fA fc) {s : Nat} (hs : s < a.cnt) {w7 : World} (hb : Below w.heap.size w w7) {d : Dt} {A : Option Addr} {dn c : Nat} (hd : DatOk (New w w7) w7 d A dn c) :
    Did w (w7.setCells (B (s / 16)) (s % 16 * 8 + 3) [.int .u64 (d.id : Int), .bool d.leaf, .string ⟨d.label.toArray⟩, .slice A dn c, .string ⟨d.text.toArray⟩]) ow P (setV a s d) := by
  have hsm : s < m * 16 := by have := h.room; omega
  obtain ⟨hB, cs, t, hcs, hcz⟩ := h.slab (s / 16) (by omega)
  have hBl : B (s / 16) < w.heap.size := (Array.getElem?_eq_some_iff.1 hcs).1
  have hcs7 := (hb.block _ hBl).trans hcs
  obtain ⟨W, hW, h1, h2, h3, h4, h5, h6⟩ := put_row (w := w7) (g := B (s / 16)) (o := s % 16 * 8 + 3) [.int .u64 (d.id : Int), .bool d.leaf, .string ⟨d.label.toArray⟩, .slice A dn c, .string ⟨d.text.toArray⟩] hcs7 (by simp; omega)
  rw [← hW]
  clear hW
  have hz := hb.size
  have hki := h.kids s hsm
  have e0 : (setV a s d).dat s = d := upd_same _ _ _
  refine ⟨fun k => if w.heap.size ≤ k ∧ k < w7.heap.size then .imm else ow k, ⟨B, m, _, sA, sc, fA, fc, h.put (s := s) (a9 := setV a s d) (sv9 := ⟨(sv s).kA, (sv s).kn, (sv s).kc, A, dn, c⟩) hs rfl rfl (fun i hi => ⟨rfl, rfl, rfl, upd_ne _ _ hi⟩) (fun k hk => if_neg (by omega)) (fun k hk => ?_) (fun k hu hk hk2 => ?_) ?_ (fun o ho => ?_) (fun j u hj => ?_) ⟨hki.own.kept fun ad e => ?_, hki.len, fun ad e => ?_⟩ (h.ksmall s) ?_ (h.pars s)⟩, fun k hk => if_neg (by omega), ?_⟩
  · rw [h3]
    by_cases e : w.heap.size ≤ k ∧ k < w7.heap.size
    · exact e.2
    · have hk' : ow k ≠ .off := by simpa [e] using hk
      have := h.low k hk'
      omega
  · have hkl : k < w.heap.size := h.low k (by intro e; rw [e] at hu; exact hu)
    exact (h2 k hk).trans (hb.block k hkl)
  · obtain ⟨cs', e1, e2⟩ := h1
    exact ⟨cs', t, e1, by rw [e2, hcz]⟩
  · rw [h4 o (by simp; omega)]
    exact hb.cell (p := ⟨B (s / 16), o, none⟩) hBl
  · have hj8 : j < 8 := by have := (List.getElem?_eq_some_iff.1 hj).1; rw [slotCells_len] at this; exact this
    by_cases e : j < 3
    · rw [h4 _ (by simp; omega), show w7.cell? ⟨B (s / 16), s % 16 * 8 + j, none⟩ = w.cell? ⟨B (s / 16), s % 16 * 8 + j, none⟩ from hb.cell (p := ⟨B (s / 16), s % 16 * 8 + j, none⟩) hBl]
      refine h.cells s hsm j u ?_
      rw [← hj]
      match j, e with
      | 0, _ => rfl
      | 1, _ => rfl
      | 2, _ => rfl
    · have := h5 (j - 3) u (by
        rw [← hj]
        unfold slotCells
        rw [e0]
        rw [show j = (j - 3) + 3 by omega]
        rfl)
      rw [show s % 16 * 8 + 3 + (j - 3) = s % 16 * 8 + j by omega] at this
      exact this
  · have hr := hki.role ad e
    have hl := h.low ad.block (by rw [hr]; simp)
    exact (h2 _ (fun e2 => by rw [e2, hB] at hr; cases hr)).trans (hb.block _ hl)
  · have hr := hki.role ad e
    have hl := h.low ad.block (by rw [hr]; simp)
    exact (if_neg (by omega)).trans hr
  · rw [e0]
    refine hd.kept (fun k hk => if_pos hk) fun k hk => h2 k ?_
    have := hk.1
    omega
  · exact (FrX.of_below hb).trans (h6 (fun k => k = B (s / 16)) rfl) fun k hk => .inl (by subst hk; rw [hB]; trivial)
set_option maxHeartbeats 4000000 in
theorem set_any (h : PAr w ow P a) (s : Int) (T : Nat → Prop) (d : Dt) (dA : Option Addr) (dn dc : Nat) (hd : DatOk T w d dA dn dc) (hT : ∀ k, T k → k < w.heap.size) :
    Calls Try.prog 26 #[.pointer (some ⟨P, 0, none⟩), .int .i64 s, datV d dA dn dc] w fun e w' => e = .returned (.int .i64 (setE a s d.leaf)) ∧ Did w w' ow P (setR a s d) := by
  obtain ⟨B, m, sv, sA, sc, fA, fc, h1⟩ := h
  have hal : ∀ o, Below w.heap.size w (w.alloc o) := fun o => (Below.refl _ _).alloc (Nat.le_refl _) _
  have hal' := Lib.hid hal
  have hd' := Lib.hid hd
  have hT' := Lib.hid hT
  have h1' := Lib.hid h1
  clear hal hd hT
  obtain ⟨E, hE⟩ : ∃ E, E = setE a s d.leaf := ⟨_, rfl⟩
  rw [← hE]
  by_cases h0 : E = 0
  · obtain ⟨x, rfl, hx⟩ := setE_ok (hE.symm.trans h0)
    have hR := Lib.hid (show setR a (x : Int) d = setV a x d by unfold setR; rw [if_pos (hE.symm.trans h0)]; rfl)
    have hE' := Lib.hid (hE.symm.trans h0)
    have hxm := Lib.hid (h1.live_lt hx)
    rw [h0]
    obtain ⟨-, cs, t, hcs, -⟩ := h1.slab (x / 16) (by have := hxm.out.2; omega)
    have hcs' := Lib.hid hcs
    clear h1 hE hx h0 hcs
    unfold datV
    go_enter Try.func26, Try.ntmps26
    go_wp2_with fail
    refine (setFault_any (h1'.out.below (hal'.out _)) (x : Int) d dA dn dc).mono ?_
    rintro e w1 ⟨rfl, hb1⟩
    rw [hE'.out]
    have zh := (hb1.block w.heap.size (by simp)).trans (heap_alloc_new w _)
    obtain ⟨y0, y1, y2, y3, y4, yf⟩ := five_cells zh
    have hb1' := Lib.hid ((hal'.out _).trans (hb1.mono (by simp)))
    have hC := Lib.hid (fun W (hb : Below w.heap.size w W) => copied_any W T d dA dn dc (hd'.out.kept (fun _ h => h) fun k hk => hb.block k (hT'.out k hk)) fun k hk => Nat.lt_of_lt_of_le (hT'.out k hk) hb.size)
    clear hb1 zh
    go_wp2_with fail
    rename_i K hK
    go_region_with (first
      | (refine (node_any (s := x) (h1'.out.below hb1'.out.drew) hxm.out.2).mono ?_; rintro e w7 ⟨rfl, rfl⟩)
      | (refine (hC.out _ hb1'.out.drew).mono ?_; rintro e w7 ⟨A, c, rfl, hdat, hb⟩; have hb7 := Lib.hid (hb1'.out.drew.trans (hb.mono hb1'.out.drew.size)); have hdat' := Lib.hid hdat; have hbs := Lib.hid hb1'.out.drew.size; clear hb hdat; obtain ⟨z0, z1, z2, z3, z4, z5, z6, z7⟩ := (h1'.out.below hb7.out).eight hxm.out.2; have zh := (hb7.out.block _ (Array.getElem?_eq_some_iff.1 hcs'.out).1).trans hcs'.out; have zf := fun o => frozen_of_row w7 _ o _ _ zh; clear zh; rw [show datV d A dn c = .agg #[.int .u64 (d.id : Int), .bool d.leaf, .string ⟨d.label.toArray⟩, .slice A dn c, .string ⟨d.text.toArray⟩] from rfl]))
    all_goals (
      refine hK _ _ ?_
      go_wp2_with fail
      go_ret
      rw [hR.out]
      refine ⟨rfl, datPut h1'.out hxm.out.1 hb7.out (hdat'.out.kept (fun k hk => ⟨Nat.le_trans hbs.out hk.1, hk.2⟩) fun _ _ => rfl)⟩)
  · have hR := Lib.hid (show setR a s d = a by unfold setR; rw [if_neg (by rw [← hE]; exact h0)])
    have hE' := Lib.hid hE
    have hEb : (E != 0) = true := by simpa using h0
    clear h1 hE h0
    unfold datV
    go_enter Try.func26, Try.ntmps26
    go_wp2_with (refine (setFault_any (h1'.out.below (hal'.out _)) s d dA dn dc).mono ?_; rintro e w1 ⟨rfl, hb1⟩; rw [← hE'.out]; have hb1' := Lib.hid ((hal'.out _).trans (hb1.mono (by simp))); clear hb1)
    go_ret
    rw [hR.out]
    exact ⟨rfl, Did.below ⟨B, m, sv, sA, sc, fA, fc, h1'.out⟩ hb1'.out⟩
def emptyV : Av := ⟨0, fun _ => false, fun _ => 0, fun _ => [], fun _ => Dt.zero, []⟩
theorem new_eq (d : Dt) : settleV (takeV emptyV) (slotV emptyV) (-1) { d with leaf := false } = newV d := by
  have e1 : upd (fun _ : Nat => false) 0 true = fun k => k == 0 := by
    funext k
    unfold upd
    by_cases h : k = 0 <;> simp [h]
  have e2 : upd (fun _ : Nat => (0 : Int)) 0 (-1) = fun k => if k = 0 then -1 else 0 := rfl
  have e3 : upd (fun _ : Nat => ([] : List Nat)) 0 [] = fun _ => [] := by
    funext k
    unfold upd
    split <;> rfl
  have e4 : upd (fun _ : Nat => Dt.zero) 0 { d with leaf := false } = fun k => if k = 0 then { d with leaf := false } else Dt.zero := rfl
  show (⟨1, upd (fun _ => false) 0 true, upd (fun _ => 0) 0 (-1), upd (fun _ => []) 0 [], upd (fun _ => Dt.zero) 0 { d with leaf := false }, []⟩ : Av) = _
  rw [e1, e2, e3, e4]
  rfl
theorem pa_empty {w : World} {ow : Nat → Role} {P : Nat} (h : w.heap[P]? = some (.cells #[.slice none 0 0, .int .i64 0, .slice none 0 0] 65 (0, 0))) (hP : ow P = .ahead) (hl : ∀ k, ow k ≠ .off → k < w.heap.size) : PA w ow P emptyV (fun _ => 0) 0 (fun _ => SV.zero) none 0 none 0 :=
  { head := h, rP := hP, row := World.ownsRow_nil _ _ _ _, rRow := fun ad e => (by cases e), free := OwnN.nil_ _, rFree := fun ad e => (by cases e), room := Nat.le_refl _, tight := by decide, small := by decide, fsmall := Nat.zero_le _,
    slab := fun i hi => (by omega), cells := fun i hi => (by omega), kids := fun i hi => (by omega), ksmall := fun _ => Nat.zero_le _, dat := fun i hi => (by omega), low := hl, zero := fun _ _ => ⟨rfl, rfl, rfl, rfl⟩, pars := fun i => (by show (-1 : Int) ≤ 0 ∧ (0 : Int) ≤ 100000; decide) }
set_option maxHeartbeats 4000000 in
theorem new_any (w : World) (ow : Nat → Role) (hlow : ∀ k, ow k ≠ .off → k < w.heap.size) (hnp : ∀ k, ¬ (ow k).prg) (T : Nat → Prop) (d : Dt) (dA : Option Addr) (dn dc : Nat) (hd : DatOk T w d dA dn dc) (hT : ∀ k, T k → k < w.heap.size) :
    Calls Try.prog 10 #[datV d dA dn dc] w fun e w' => ∃ P ow', e = .returned (.pointer (some ⟨P, 0, none⟩)) ∧ PAr w' ow' P (newV d) ∧ (∀ k, k < w.heap.size → ow' k = ow k) ∧ Below w.heap.size w w' := by
  have hd' := Lib.hid hd
  have hT' := Lib.hid hT
  have hlow' := Lib.hid hlow
  clear hd hT hlow
  unfold datV
  go_enter Try.func10, Try.ntmps10
  go_wp2_with fail
  rename_i K hK
  obtain ⟨W0, hW0⟩ : ∃ W0, W0 = (w.alloc (.cells #[.int .u64 (d.id : Int), .bool false, .string ⟨d.label.toArray⟩, .slice dA dn dc, .string ⟨d.text.toArray⟩] 25)).alloc (.cells #[.slice none 0 0, .int .i64 0, .slice none 0 0] 65) := ⟨_, rfl⟩
  rw [← hW0]
  have hb0 : Below w.heap.size w W0 := by rw [hW0]; exact ((Below.refl _ _).alloc (Nat.le_refl _) _).alloc (by simp) _
  have hz0 : W0.heap.size = w.heap.size + 2 := by rw [hW0]; simp
  have hbox : W0.heap[w.heap.size]? = some (.cells #[.int .u64 (d.id : Int), .bool false, .string ⟨d.label.toArray⟩, .slice dA dn dc, .string ⟨d.text.toArray⟩] 25 (0, 0)) := by rw [hW0]; exact two_first w _ _
  have hhead : W0.heap[w.heap.size + 1]? = some (.cells #[.slice none 0 0, .int .i64 0, .slice none 0 0] 65 (0, 0)) := by rw [hW0]; exact two_second w _ _
  clear hW0
  obtain ⟨x0, x1, x2, x3, x4, xf⟩ := five_cells hbox
  have hbox' := Lib.hid hbox
  obtain ⟨ow0, how⟩ : ∃ ow0 : Nat → Role, ow0 = fun k => if k = w.heap.size + 1 then .ahead else ow k := ⟨_, rfl⟩
  have hsame : ∀ k, k < w.heap.size → ow0 k = ow k := fun k hk => by rw [how]; exact if_neg (by omega)
  have hprg : ∀ k, (ow0 k).prg → k = w.heap.size + 1 := fun k hk => by
    rw [how] at hk
    by_cases e : k = w.heap.size + 1
    · exact e
    · simp only [if_neg e] at hk; exact absurd hk (hnp k)
  have h0 := Lib.hid (pa_empty (w := W0.drew) (ow := ow0) (P := w.heap.size + 1) hhead (by rw [how]; exact if_pos rfl) (fun k hk => by
    show k < W0.heap.size
    rw [how] at hk
    by_cases e : k = w.heap.size + 1
    · omega
    · simp only [if_neg e] at hk; have := hlow'.out k hk; omega))
  have hb0' := Lib.hid hb0
  have hsame' := Lib.hid hsame
  have hprg' := Lib.hid hprg
  have hz0' := Lib.hid hz0
  clear hhead hbox how hb0 hsame hprg hz0
  go_region_with (first
    | (refine (take_any h0.out (by decide)).mono ?_; rintro e w1 ⟨rfl, ow1, ⟨B1, m1, sv1, sA1, sc1, fA1, fc1, h1⟩, hr1, hf1⟩; rw [show ((slotV emptyV : Nat) : Int) = 0 from rfl]; have zb := (hf1.block w.heap.size (by show _ < W0.heap.size; have := hz0'.out; omega) (fun e => by have := hprg'.out _ e; omega)).trans hbox'.out; obtain ⟨y0, y1, y2, y3, y4, yf⟩ := five_cells zb; have h1' := Lib.hid h1; have hr1' := Lib.hid hr1; have hf1' := Lib.hid hf1; clear h1 hr1 hf1 zb)
    | (refine (settle_any (s := 0) h1'.out (show 0 < 1 by omega) (p := -1) (by decide) T { d with leaf := false } dA dn dc ⟨hd'.out.id, hd'.out.label, hd'.out.text, hd'.out.ats.kept (fun _ h => h) (fun k hk => (hf1'.out.block k (by show _ < W0.heap.size; have := hT'.out k hk; have := hz0'.out; omega) (fun e => by have := hprg'.out _ e; have := hT'.out k hk; omega)).trans (hb0'.out.block k (hT'.out k hk))), hd'.out.anc, hd'.out.acm, hd'.out.anil, hd'.out.few⟩ (fun k hk => by have h1 := hT'.out k hk; have h2 : W0.heap.size ≤ w1.heap.size := hf1'.out.size; have := hz0'.out; omega)).mono ?_; rintro e w2 ⟨rfl, D2⟩; have D2' := Lib.hid D2; clear D2))
  all_goals (
    refine hK _ _ ?_
    go_wp2_with fail
    go_ret
    obtain ⟨ow2, hp2, hr2, hf2⟩ := Did.after hr1'.out hf1'.out D2'.out
    rw [show takeV emptyV = takeV emptyV from rfl] at hp2
    have hnew := new_eq d
    rw [show (slotV emptyV) = 0 from rfl] at hnew
    rw [hnew] at hp2
    refine ⟨w.heap.size + 1, ow2, rfl, hp2, fun k hk => (hr2 k (by show _ < W0.heap.size; have := hz0'.out; omega)).trans (hsame'.out k hk), ?_⟩
    have hb := hf2.below (B := w.heap.size) (fun k hk => by have := hprg'.out k hk; omega) (by show _ ≤ W0.heap.size; have := hz0'.out; omega)
    exact (hb0'.out.drew).trans hb)
end
end Go.Proofs.Ytiikakfdelkjhaa.Arn
