/- A slot is written, the free ones are written: what the document's arena is then; a copied slot: the document's. -/
import Derived.Test.YtiikakfdelkjhaaArnRb
namespace Go.Proofs.Ytiikakfdelkjhaa.Arn
open Go.RowKit
set_option maxRecDepth 20000
set_option linter.unusedVariables false

def RDid (w w' : World) (ow : Nat → Role) (P : Nat) (a : Av) : Prop := ∃ ow', RAr w' ow' P a ∧ (∀ k, k < w.heap.size → ow' k = ow k) ∧ FrX (fun k => (ow k).ref) w w'
theorem RDid.trans {w w1 w2 : World} {ow : Nat → Role} {P : Nat} {a1 a2 : Av} (h : RDid w w1 ow P a1) (h2 : ∀ ow1, RAr w1 ow1 P a1 → RDid w1 w2 ow1 P a2) : RDid w w2 ow P a2 := by
  obtain ⟨ow1, p1, e1, f1⟩ := h
  obtain ⟨ow2, p2, e2, f2⟩ := h2 ow1 p1
  refine ⟨ow2, p2, fun k hk => (e2 k (Nat.lt_of_lt_of_le hk f1.size)).trans (e1 k hk), f1.trans f2 fun k hk => ?_⟩
  by_cases hlt : k < w.heap.size
  · left; rw [← e1 k hlt]; exact hk
  · right; omega
theorem RDid.refl {w : World} {ow : Nat → Role} {P : Nat} {a : Av} (h : RAr w ow P a) : RDid w w ow P a := ⟨ow, h, fun _ _ => rfl, FrX.refl _ _⟩
theorem RDid.below {w w' : World} {ow : Nat → Role} {P : Nat} {a : Av} (h : RAr w ow P a) (hb : Below w.heap.size w w') : RDid w w' ow P a := ⟨ow, h.below hb, fun _ _ => rfl, FrX.of_below hb⟩
theorem RDid.then_ {w w1 w2 : World} {ow : Nat → Role} {P : Nat} {a : Av} (h : RDid w w1 ow P a) (hb : Below w1.heap.size w1 w2) : RDid w w2 ow P a := h.trans fun _ p => .below p hb
theorem refCells_len (a : Av) (s : SV) (i : Nat) : (refCells a s i).length = 8 := rfl
section
variable {w w7 w9 : World} {ow ow9 : Nat → Role} {P g : Nat} {a a9 : Av} {sv : Nat → SV} {sc : Nat} {fA : Option Addr} {fc : Nat}
theorem RA.put (h : RA w ow P g a sv sc fA fc) {s : Nat} (hs : s < a.cnt) {sv9 : SV} (hc : a9.cnt = a.cnt) (hf : a9.free = a.free)
    (hn : ∀ i, i ≠ s → a9.live i = a.live i ∧ a9.par i = a.par i ∧ a9.kids i = a.kids i ∧ a9.dat i = a.dat i)
    (hsz : w.heap.size ≤ w9.heap.size) (hr : ∀ k, k < w.heap.size → ow9 k = ow k) (hl : ∀ k, ow9 k ≠ .off → k < w9.heap.size)
    (hk : ∀ k, (ow k).rused → k ≠ g → w9.heap[k]? = w.heap[k]?)
    (hb : ∃ cs, w9.heap[g]? = some (.cells cs 35 (0, 0)) ∧ cs.size = sc * 8)
    (ho : ∀ o, (o < s * 8 ∨ s * 8 + 8 ≤ o) → w9.cell? ⟨g, o, none⟩ = w.cell? ⟨g, o, none⟩)
    (hi : ∀ j u, (refCells a9 sv9 s)[j]? = some u → w9.cell? ⟨g, s * 8 + j, none⟩ = some u)
    (hkids : ImmN (fun k => ow9 k = .imm) w9 sv9.kA sv9.kn sv9.kc (a9.kids s)) (hks : (a9.kids s).length ≤ 100000) (hdat : DatOk (fun k => ow9 k = .imm) w9 (a9.dat s) sv9.aA sv9.an sv9.ac) (hpar : -1 ≤ a9.par s ∧ a9.par s ≤ 100000) :
    RA w9 ow9 P g a9 (upd sv s sv9) sc fA fc := by
  have lt : ∀ k r, ow k = r → r ≠ .off → k < w.heap.size := fun k r e hn => h.low k (by rw [e]; exact hn)
  have same : ∀ k r, ow k = r → r ≠ .off → ow9 k = r := fun k r e hn => (hr k (lt k r e hn)).trans e
  have hk' : ∀ k r, ow k = r → r.rused → r ≠ .rrow → w9.heap[k]? = w.heap[k]? := fun k r e hu hne =>
    hk k (by rw [e]; exact hu) (fun e2 => hne (by rw [← e, e2]; exact h.rRow))
  refine { head := ?_, rP := same _ _ h.rP (by simp), row := hb, rRow := same _ _ h.rRow (by simp), cap := by rw [hc]; exact h.cap, capm := h.capm, free := ?_, rFree := fun ad e => same _ _ (h.rFree ad e) (by simp),
           small := by rw [hc]; exact h.small, fsmall := by rw [hf]; exact h.fsmall, cells := ?_, kids := ?_, ksmall := ?_, dat := ?_, low := hl, pars := ?_ }
  · rw [hc, hf]
    exact (hk' P _ h.rP trivial (by simp)).trans h.head
  · rw [hf]
    exact h.free.kept fun ad e => hk' _ _ (h.rFree ad e) trivial (by simp)
  · intro i him j u hj
    rw [hc] at him
    by_cases e : i = s
    · subst e
      rw [upd_same] at hj
      exact hi j u hj
    · rw [upd_ne _ _ e] at hj
      have hj8 : j < 8 := by have := (List.getElem?_eq_some_iff.1 hj).1; rw [refCells_len] at this; exact this
      have hj' : (refCells a (sv i) i)[j]? = some u := by
        obtain ⟨e1, e2, e3, e4⟩ := hn i e
        rw [← hj]
        unfold refCells
        rw [e1, e2, e4]
      rw [ho _ (by omega)]
      exact h.cells i him j u hj'
  · intro i him
    rw [hc] at him
    by_cases e : i = s
    · subst e; rw [upd_same]; exact hkids
    · rw [upd_ne _ _ e, (hn i e).2.2.1]
      exact (h.kids i him).kept hsz (fun k e => same k _ e (by simp)) (fun k e => hk' k _ e trivial (by simp))
  · intro i
    by_cases e : i = s
    · subst e; exact hks
    · rw [(hn i e).2.2.1]; exact h.ksmall i
  · intro i him
    rw [hc] at him
    by_cases e : i = s
    · subst e; rw [upd_same]; exact hdat
    · rw [upd_ne _ _ e, (hn i e).2.2.2]
      exact (h.dat i him).kept (fun k e => same k _ e (by simp)) (fun k e => hk' k _ e trivial (by simp))
  · intro i
    by_cases e : i = s
    · subst e; exact hpar
    · rw [(hn i e).2.1]; exact h.pars i
/-- what may lie below a slot: what was there, or what is new -/
def ImmOr (w w7 : World) (ow : Nat → Role) (k : Nat) : Prop := ow k = .imm ∨ New w w7 k
theorem rstored (h : RA w ow P g a sv sc fA fc) {s : Nat} (hs : s < a.cnt) (hb : Below w.heap.size w w7) (sv9 : SV) (hc : a9.cnt = a.cnt) (hf : a9.free = a.free)
    (hn : ∀ i, i ≠ s → a9.live i = a.live i ∧ a9.par i = a.par i ∧ a9.kids i = a.kids i ∧ a9.dat i = a.dat i)
    (hkids : ImmN (ImmOr w w7 ow) w7 sv9.kA sv9.kn sv9.kc (a9.kids s)) (hks : (a9.kids s).length ≤ 100000) (hdat : DatOk (ImmOr w w7 ow) w7 (a9.dat s) sv9.aA sv9.an sv9.ac) (hpar : -1 ≤ a9.par s ∧ a9.par s ≤ 100000) :
    RDid w (w7.setCells g (s * 8) (refCells a9 sv9 s)) ow P a9 := by
  obtain ⟨cs, hcs, hcz⟩ := h.row
  have hgl : g < w.heap.size := (Array.getElem?_eq_some_iff.1 hcs).1
  have hcs7 := (hb.block _ hgl).trans hcs
  have hcap := h.cap
  obtain ⟨W, hW, h1, h2, h3, h4, h5, h6⟩ := put_row (w := w7) (g := g) (o := s * 8) (refCells a9 sv9 s) hcs7 (by rw [refCells_len]; omega)
  rw [← hW]
  clear hW
  rw [refCells_len] at h4
  have hz := hb.size
  have himm : ∀ k, ImmOr w w7 ow k → (if w.heap.size ≤ k ∧ k < w7.heap.size then Role.imm else ow k) = .imm := fun k hk => by
    rcases hk with hk | hk
    · have := h.low k (by rw [hk]; simp)
      rw [if_neg (by omega)]
      exact hk
    · exact if_pos hk
  have hng : ∀ k, ImmOr w w7 ow k → k ≠ g := fun k hk e => by
    rcases hk with hk | hk
    · rw [e, h.rRow] at hk; cases hk
    · have := hk.1; omega
  refine ⟨fun k => if w.heap.size ≤ k ∧ k < w7.heap.size then .imm else ow k, ⟨g, _, sc, fA, fc, h.put (s := s) (a9 := a9) (sv9 := sv9) hs hc hf hn (by rw [h3]; exact hz) (fun k hk => if_neg (by omega)) (fun k hk => ?_) (fun k hu hk => ?_) ?_ (fun o ho => ?_) h5 (hkids.kept (by rw [h3]; exact Nat.le_refl _) himm fun k hk => h2 k (hng k hk)) hks (hdat.kept himm fun k hk => h2 k (hng k hk)) hpar⟩, fun k hk => if_neg (by omega), ?_⟩
  · rw [h3]
    by_cases e : w.heap.size ≤ k ∧ k < w7.heap.size
    · exact e.2
    · have hk' : ow k ≠ .off := by simpa [e] using hk
      have := h.low k hk'
      omega
  · have hkl : k < w.heap.size := h.low k (by intro e; rw [e] at hu; exact hu)
    exact (h2 k hk).trans (hb.block k hkl)
  · obtain ⟨cs', e1, e2⟩ := h1
    exact ⟨cs', e1, by rw [e2, hcz]⟩
  · rw [h4 o ho]
    exact hb.cell (p := ⟨g, o, none⟩) hgl
  · exact (FrX.of_below hb).trans (h6 (fun k => k = g) rfl) fun k hk => .inl (by subst hk; rw [h.rRow]; trivial)
/-- the free ones are others -/
theorem rfreed (h : RA w ow P g a sv sc fA fc) {l : List Nat} {gA : Option Addr} {gc : Nat} (hl2 : l.length ≤ 100000) (hb : FrX (Lies fA) w w7)
    (hf : OwnN w7 (.slice gA l.length gc) l) (hrf : ∀ ad, gA = some ad → fA = some ad ∨ New w w7 ad.block) : RDid w (w7.setCell ⟨P, 1, none⟩ (.slice gA l.length gc)) ow P { a with free := l } := by
  have hPl : P < w.heap.size := (Array.getElem?_eq_some_iff.1 h.head).1
  have hz := hb.size
  have hnf : ∀ k r, ow k = r → r.rused → r ≠ .rfree → w7.heap[k]? = w.heap[k]? := fun k r e hu hne => hb.block k (h.low k (by rw [e]; intro e2; rw [e2] at hu; exact hu)) fun ⟨ad, e1, e2⟩ => hne (by rw [← e, e2]; exact h.rFree ad e1)
  have hP7 := (hnf P _ h.rP trivial (by simp)).trans h.head
  have lt : ∀ k r, ow k = r → r ≠ .off → k < w.heap.size := fun k r e hn => h.low k (by rw [e]; exact hn)
  let ow9 : Nat → Role := fun k => if w.heap.size ≤ k ∧ k < w7.heap.size then .rfree else ow k
  have same : ∀ k r, ow k = r → r ≠ .off → ow9 k = r := fun k r e hn => (if_neg (by have := lt k r e hn; omega)).trans e
  have oth : ∀ k, k ≠ P → (w7.setCell ⟨P, 1, none⟩ (.slice gA l.length gc)).heap[k]? = w7.heap[k]? := fun k hk => heap_setCell_other w7 ⟨P, 1, none⟩ k _ hk
  have hk' : ∀ k r, ow k = r → r.rused → r ≠ .rfree → r ≠ .rhead → (w7.setCell ⟨P, 1, none⟩ (.slice gA l.length gc)).heap[k]? = w.heap[k]? := fun k r e hu hne hne2 =>
    (oth k fun e2 => hne2 (by rw [← e, e2]; exact h.rP)).trans (hnf k r e hu hne)
  have hgr : ∀ ad, gA = some ad → ow9 ad.block = .rfree := fun ad e => by
    rcases hrf ad e with e2 | e2
    · exact same _ _ (h.rFree ad e2) (by simp)
    · exact if_pos e2
  refine ⟨ow9, ⟨g, sv, sc, gA, gc, ?_⟩, fun k hk => if_neg (by omega), ?fr⟩
  refine { head := ?_, rP := same _ _ h.rP (by simp), row := ?_, rRow := same _ _ h.rRow (by simp), cap := h.cap, capm := h.capm, free := ?_, rFree := hgr, small := h.small, fsmall := hl2, cells := ?_, kids := ?_, ksmall := h.ksmall, dat := ?_, low := fun k hk => ?_, pars := h.pars }
  · rw [heap_setCell_same w7 P 1 _ _ _ hP7]
    rfl
  · obtain ⟨cs, e1, e2⟩ := h.row
    exact ⟨cs, (hk' _ _ h.rRow trivial (by simp) (by simp)).trans e1, e2⟩
  · refine hf.kept fun ad e => oth _ fun e2 => ?_
    have h1 := hgr ad e
    rw [e2, same _ _ h.rP (by simp)] at h1
    cases h1
  · intro i hi j u hj
    exact (World.cell?_of_block (w := w) (w' := w7.setCell ⟨P, 1, none⟩ (.slice gA l.length gc)) (a := ⟨g, i * 8 + j, none⟩) (hk' _ _ h.rRow trivial (by simp) (by simp))).trans (h.cells i hi j u hj)
  · intro i hi
    exact (h.kids i hi).kept (by simpa using hz) (fun k e => same k _ e (by simp)) (fun k e => hk' k _ e trivial (by simp) (by simp))
  · intro i hi
    exact (h.dat i hi).kept (fun k e => same k _ e (by simp)) (fun k e => hk' k _ e trivial (by simp) (by simp))
  · show k < _
    by_cases e : w.heap.size ≤ k ∧ k < w7.heap.size
    · simpa using e.2
    · have hk2 : ow k ≠ .off := by simpa [ow9, e] using hk
      have := h.low k hk2
      simp
      omega
  case fr =>
    refine FrX.setCell (hb.mono fun k _ ⟨ad, e1, e2⟩ => ?_) ?_
    · show (ow k).ref
      rw [e2, h.rFree ad e1]
      trivial
    · show (ow P).ref
      rw [h.rP]
      trivial
end
/-! ### a slot as a value -/
def sltV (lv : Bool) (d : Dt) (aA : Option Addr) (an ac : Nat) (p : Int) (kA : Option Addr) (kn kc : Nat) : Value :=
  .agg #[.bool lv, .int .u64 (d.id : Int), .bool d.leaf, .string ⟨d.label.toArray⟩, .slice aA an ac, .string ⟨d.text.toArray⟩, .int .i64 p, .slice kA kn kc]
theorem eight_of {w : World} {g : Nat} {a0 a1 a2 a3 a4 a5 a6 a7 : Value} {t : TypeId} (h : w.heap[g]? = some (.cells #[a0, a1, a2, a3, a4, a5, a6, a7] t (0, 0))) :
    w.cell? ⟨g, 0, none⟩ = some a0 ∧ w.cell? ⟨g, 1, none⟩ = some a1 ∧ w.cell? ⟨g, 2, none⟩ = some a2 ∧ w.cell? ⟨g, 3, none⟩ = some a3 ∧ w.cell? ⟨g, 4, none⟩ = some a4 ∧ w.cell? ⟨g, 5, none⟩ = some a5 ∧ w.cell? ⟨g, 6, none⟩ = some a6 ∧ w.cell? ⟨g, 7, none⟩ = some a7 ∧ ∀ o, w.frozen? ⟨g, o, none⟩ = false :=
  ⟨cell_of_row w g 0 _ _ _ h, cell_of_row w g 1 _ _ _ h, cell_of_row w g 2 _ _ _ h, cell_of_row w g 3 _ _ _ h, cell_of_row w g 4 _ _ _ h, cell_of_row w g 5 _ _ _ h, cell_of_row w g 6 _ _ _ h, cell_of_row w g 7 _ _ _ h, fun o => frozen_of_row w g o _ _ h⟩
theorem size2 {w : World} {o1 o2 : Obj} : ((w.alloc o1).alloc o2).heap.size = w.heap.size + 2 := by simp
set_option maxHeartbeats 4000000 in
theorem rcopied_any (w : World) (T : Nat → Prop) (lv : Bool) (d : Dt) (aA : Option Addr) (an ac : Nat) (p : Int) (kA : Option Addr) (kn kc : Nat) (h : DatOk T w d aA an ac) (hT : ∀ k, T k → k < w.heap.size) :
    Calls Try.prog 30 #[sltV lv d aA an ac p kA kn kc] w fun e w' => ∃ A c, e = .returned (sltV lv d A an c p kA kn kc) ∧ DatOk (New w w') w' d A an c ∧ Below w.heap.size w w' := by
  have h' := Lib.hid h
  have hT' := Lib.hid hT
  have f2 := Lib.hid h.anil
  have f3 := h.anc
  have hn := h.few
  clear h hT
  unfold sltV
  obtain ⟨d0, hd⟩ : ∃ d0, d0 = d := ⟨_, rfl⟩
  have hd' := Lib.hid hd
  have f1 := Lib.hid h'.out.ats
  rw [← hd] at h' f1
  clear hd
  generalize hid : d.id = id
  generalize hlf : d.leaf = leaf
  generalize hlb : d.label = b
  generalize htx : d.text = x
  clear hid hlf hlb htx
  go_enter Try.func30, Try.ntmps30
  go_wp2_with (at_builtin; refine wpList_append_ats rfl (.tmp 4) (.tmp 6) rfl T aA an ac d0.attrs rfl rfl (AtsIn.kept (w := w) (fun _ h => h) (fun k hk => two_new _ _ _ (hT'.out k hk)) f1.out) f2.out f3 hn ?_; intro A1 c1 w1 hat hc hm hz hb; have B1 := (hb.block w.heap.size (by simp; omega)).trans (two_first w _ _); have R1 := (hb.block (w.heap.size + 1) (by simp)).trans (two_second w _ _); obtain ⟨d0, d1, d2, d3, d4, d5, d6, d7, df⟩ := eight_of B1; obtain ⟨r0, r1, r2, r3, r4, r5, r6, r7, rf⟩ := eight_of R1; have B1' := Lib.hid B1; have R1' := Lib.hid R1; clear B1 R1; have hs1 : w.heap.size + 1 < w1.heap.size := (by have := hb.size; simp at this; omega); have H1 := Lib.hid hat; have H2 := Lib.hid hc; have H3 := Lib.hid hm; have H4 := Lib.hid hz; have H5 := Lib.hid hb; clear hat hc hm hz hb)
  refine bodyPost_ret (v := .agg #[.bool lv, .int .u64 (id : Int), .bool leaf, .string ⟨b.toArray⟩, .slice A1 an c1, .string ⟨x.toArray⟩, .int .i64 p, .slice kA kn kc]) (by simp [results, Try.results30, go_sem, r0, r1, r2, r3, r4, r5, r6, r7]) rfl ?_
  rw [show ((((((((w1.setCell ⟨w.heap.size, 4, none⟩ (.slice A1 an c1)).setCell ⟨w.heap.size + 1, 0, none⟩ (.bool lv)).setCell ⟨w.heap.size + 1, 1, none⟩ (.int .u64 (id : Int))).setCell ⟨w.heap.size + 1, 2, none⟩ (.bool leaf)).setCell ⟨w.heap.size + 1, 3, none⟩ (.string ⟨b.toArray⟩)).setCell ⟨w.heap.size + 1, 4, none⟩ (.slice A1 an c1)).setCell ⟨w.heap.size + 1, 5, none⟩ (.string ⟨x.toArray⟩)).setCell ⟨w.heap.size + 1, 6, none⟩ (.int .i64 p)).setCell ⟨w.heap.size + 1, 7, none⟩ (.slice kA kn kc) =
    eight (w1.setCell ⟨w.heap.size, 4, none⟩ (.slice A1 an c1)) (w.heap.size + 1) 0 (.bool lv) (.int .u64 (id : Int)) (.bool leaf) (.string ⟨b.toArray⟩) (.slice A1 an c1) (.string ⟨x.toArray⟩) (.int .i64 p) (.slice kA kn kc) from rfl, eight_cells]
  obtain ⟨W7, hW7, -, o7, z7, -, -, -⟩ := put_row (w := w1.setCell ⟨w.heap.size, 4, none⟩ (.slice A1 an c1)) (g := w.heap.size + 1) (o := 0) [.bool lv, .int .u64 (id : Int), .bool leaf, .string ⟨b.toArray⟩, .slice A1 an c1, .string ⟨x.toArray⟩, .int .i64 p, .slice kA kn kc] ((heap_setCell_other w1 ⟨w.heap.size, 4, none⟩ _ _ (by simp)).trans R1'.out) (by simp)
  have b1 : Below w.heap.size w w1 := (((Below.refl w.heap.size w).alloc (Nat.le_refl _) _).alloc (by simp) _).trans (H5.out.mono (by simp; omega))
  have b7 : Below w.heap.size w W7 := by
    rw [hW7, ← eight_cells]
    exact ((((((((b1.setCell (Nat.le_refl _) _).setCell (by simp) _).setCell (by simp) _).setCell (by simp) _).setCell (by simp) _).setCell (by simp) _).setCell (by simp) _).setCell (by simp) _).setCell (by simp) _
  rw [← hW7]
  clear hW7
  have z7' : W7.heap.size = w1.heap.size := by rw [z7]; simp
  have o7' : ∀ k, k ≠ w.heap.size → k ≠ w.heap.size + 1 → W7.heap[k]? = w1.heap[k]? := fun k n1 n2 => (o7 k n2).trans (heap_setCell_other _ _ k _ n1)
  have g1 := H1.out
  rw [size2] at g1
  have hdat := h'.out
  rw [← hd'.out]
  exact ⟨A1, c1, rfl, ⟨hdat.id, hdat.label, hdat.text, AtsIn.kept (w := w1) (fun k hk => ⟨by omega, by rw [z7']; exact hk.2⟩) (fun k hk => o7' k (by omega) (by omega)) g1, H2.out, H3.out, H4.out, hn⟩, b7⟩
end Go.Proofs.Ytiikakfdelkjhaa.Arn
