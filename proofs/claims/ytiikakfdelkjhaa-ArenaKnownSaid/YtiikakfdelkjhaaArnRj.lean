/- Other kids; one slot more: what the document's arena is then. -/
import Derived.Test.YtiikakfdelkjhaaArnRi
namespace Go.Proofs.Ytiikakfdelkjhaa.Arn
open Go.RowKit
set_option maxRecDepth 20000
set_option linter.unusedVariables false

section
variable {w : World} {ow : Nat → Role} {P g : Nat} {a : Av} {sv : Nat → SV} {sc : Nat} {fA : Option Addr} {fc : Nat}
theorem rkids_fin (h : RA w ow P g a sv sc fA fc) {q b : Nat} (hql : q < a.cnt) {W1 W2 W3 : World} (B1 : Below w.heap.size w W1) {kA : Option Addr} {kn kc : Nat}
    (R1 : W1.heap[b]? = some (.cells #[.bool (a.live q), .int .u64 ((a.dat q).id : Int), .bool (a.dat q).leaf, .string ⟨(a.dat q).label.toArray⟩, .slice (sv q).aA (sv q).an (sv q).ac, .string ⟨(a.dat q).text.toArray⟩, .int .i64 (a.par q), .slice kA kn kc] 35 (0, 0)))
    (hsw : w.heap.size ≤ b) {A : Option Addr} {n c : Nat} {l' : List Nat} (hn : NewN W1 W2 A n c l') (hl : l'.length ≤ 100000) (h3 : W3 = W2.setCell ⟨b, 7, none⟩ (.slice A n c)) :
    W3.heap[b]? = some (.cells #[.bool (a.live q), .int .u64 ((a.dat q).id : Int), .bool (a.dat q).leaf, .string ⟨(a.dat q).label.toArray⟩, .slice (sv q).aA (sv q).an (sv q).ac, .string ⟨(a.dat q).text.toArray⟩, .int .i64 (a.par q), .slice A n c] 35 (0, 0)) ∧ Below w.heap.size w W3 ∧
      RDid w (eight W3 g (q * 8) (.bool (a.live q)) (.int .u64 ((a.dat q).id : Int)) (.bool (a.dat q).leaf) (.string ⟨(a.dat q).label.toArray⟩) (.slice (sv q).aA (sv q).an (sv q).ac) (.string ⟨(a.dat q).text.toArray⟩) (.int .i64 (a.par q)) (.slice A n c)).drew ow P { a with kids := upd a.kids q l' } := by
  have hbl : b < W1.heap.size := (Array.getElem?_eq_some_iff.1 R1).1
  have R2 := (hn.bel.block b hbl).trans R1
  have b2 := B1.trans (hn.bel.mono B1.size)
  have b3 : Below w.heap.size w W3 := by rw [h3]; exact b2.setCell hsw _
  have z3 : W3.heap.size = W2.heap.size := by rw [h3]; simp
  refine ⟨by rw [h3, heap_setCell_same W2 b 7 _ _ _ R2]; rfl, b3, ?_⟩
  have kept : ∀ k, k ≠ b → W3.heap[k]? = W2.heap[k]? := fun k hk => by rw [h3]; exact heap_setCell_other W2 ⟨b, 7, none⟩ k _ hk
  have hput : ({ a with kids := upd a.kids q l' } : Av).kids q = l' := upd_same _ _ _
  have himm := hn.imm
  rw [eight_cells]
  refine RDid.then_ ?_ (Below.refl _ _).drew
  refine rstored h hql (w7 := W3) b3 (a9 := { a with kids := upd a.kids q l' }) ⟨A, n, c, (sv q).aA, (sv q).an, (sv q).ac⟩ rfl rfl (fun i hi => ⟨rfl, rfl, upd_ne _ _ hi, rfl⟩) ?_ ?_ ?_ (h.pars q)
  · rw [hput]
    refine himm.kept (by rw [z3]; exact Nat.le_refl _) (fun j hj => .inr ⟨Nat.le_trans B1.size hj.1, by rw [z3]; exact hj.2⟩) fun j hj => kept j ?_
    have := hj.1
    omega
  · rw [hput]; exact hl
  · refine (h.dat q hql).kept (fun k hk => .inl hk) fun j hj => b3.block j (h.low j (by rw [hj]; simp))
/-- the row of slots as one's own -/
theorem RA.owns (h : RA w ow P g a sv sc fA fc) : ∃ xs, w.ownsRow 0 35 8 (.slice (some ⟨g, 0, none⟩) a.cnt sc) a.cnt xs := by
  obtain ⟨cur, hg, hs⟩ := h.row
  have hc := h.cap
  have hl : cur.toList.length = cur.size := Array.length_toList
  exact ⟨cur.toList.take (a.cnt * 8), by rw [List.length_take]; omega, .inr ⟨g, sc, cur, rfl, Nat.zero_le _, hg, hc, h.capm, hs, rfl⟩⟩
/-- one slot more -/
theorem rgrown (h : RA w ow P g a sv sc fA fc) (hw : WF a) (hfree : a.free = []) {x : Nat} (hx : a.live x = true) (hsm : a.cnt < 100000) {w7 : World} (hb : Below w.heap.size w w7) {d : Dt} {A : Option Addr} {dn c : Nat} (hd : DatOk (New w w7) w7 d A dn c)
    {xs : List Value} (hxs : w.ownsRow 0 35 8 (.slice (some ⟨g, 0, none⟩) a.cnt sc) a.cnt xs) {o : Obj} {w4 : World} {g' cap : Nat}
    (ho : w4.ownsRow 0 35 8 (.slice (some ⟨g', 0, none⟩) (a.cnt + 1) cap) (a.cnt + 1) (xs ++ [.bool true, .int .u64 (d.id : Int), .bool d.leaf, .string ⟨d.label.toArray⟩, .slice A dn c, .string ⟨d.text.toArray⟩, .int .i64 (x : Int), .slice none 0 0]))
    (hg : ((w7.alloc o).drew).grownBy w4 (some g)) (hat : g = g' ∨ g' = w7.heap.size + 1) (hlt : g' < w4.heap.size) :
    w4.cell? ⟨P, 0, none⟩ = some (.slice (some ⟨g, 0, none⟩) a.cnt sc) ∧ (∀ o, w4.frozen? ⟨P, o, none⟩ = false) ∧ RDid w (w4.setCell ⟨P, 0, none⟩ (.slice (some ⟨g', 0, none⟩) (a.cnt + 1) cap)) ow P (settleV (takeV a) (slotV a) (x : Int) d) := by
  have hz := hb.size
  have hslot : slotV a = a.cnt := by unfold slotV; rw [hfree]; rfl
  have htk : takeV a = { a with cnt := a.cnt + 1 } := by unfold takeV; rw [hfree]; rfl
  have hgl : g < w.heap.size := h.low g (by rw [h.rRow]; simp)
  have hbf : FrX (fun k => k = g) w w4 := (FrX.of_below (S := fun k => k = g) (hb.alloc hz o).drew).trans (FrX.of_grown (S := fun k => k = g) hg fun k e => by injection e with e; exact e.symm) fun k hk => .inl hk
  have hz4 : w7.heap.size + 1 ≤ w4.heap.size := by have := hg.size; simpa using this
  have hPg : P ≠ g := fun e => by have := h.rP; rw [e, h.rRow] at this; cases this
  have hP4 := (hbf.block P (h.low P (by rw [h.rP]; simp)) hPg).trans h.head
  refine ⟨cell_of_row w4 P 0 _ _ _ hP4, fun o => frozen_of_row w4 P o _ _ hP4, ?_⟩
  let ow9 : Nat → Role := fun k => if k = g' then .rrow else if w.heap.size ≤ k ∧ k < w7.heap.size then .imm else ow k
  have hold : ∀ k, k < w.heap.size → ow9 k = ow k := fun k hk => by
    show (if k = g' then Role.rrow else if w.heap.size ≤ k ∧ k < w7.heap.size then .imm else ow k) = ow k
    by_cases e : k = g'
    · rcases hat with e2 | e2
      · rw [if_pos e, e, ← e2, h.rRow]
      · omega
    · rw [if_neg e, if_neg (by omega)]
  have same : ∀ k r, ow k = r → r ≠ .off → ow9 k = r := fun k r e hn => (hold k (h.low k (by rw [e]; exact hn))).trans e
  obtain ⟨W, hW⟩ : ∃ W, W = w4.setCell ⟨P, 0, none⟩ (.slice (some ⟨g', 0, none⟩) (a.cnt + 1) cap) := ⟨_, rfl⟩
  rw [← hW]
  have hWo : ∀ k, k ≠ P → W.heap[k]? = w4.heap[k]? := fun k hk => by rw [hW]; exact heap_setCell_other w4 ⟨P, 0, none⟩ k _ hk
  have hWz : W.heap.size = w4.heap.size := by rw [hW]; simp
  have hWP : W.heap[P]? = some (.cells #[.slice (some ⟨g', 0, none⟩) (a.cnt + 1) cap, .slice fA a.free.length fc] 70 (0, 0)) := by rw [hW, heap_setCell_same w4 P 0 _ _ _ hP4]; rfl
  have hk' : ∀ k r, ow k = r → r.rused → r ≠ .rrow → r ≠ .rhead → W.heap[k]? = w.heap[k]? := fun k r e hu h1 h2 =>
    (hWo k fun e2 => h2 (by rw [← e, e2]; exact h.rP)).trans (hbf.block k (h.low k (by rw [e]; intro e2; rw [e2] at hu; exact hu)) fun e2 => h1 (by rw [← e, e2]; exact h.rRow))
  have hg'P : g' ≠ P := fun e => by
    rcases hat with e2 | e2
    · exact hPg (by rw [← e, ← e2])
    · have := h.low P (by rw [h.rP]; simp); omega
  have hf : FrX (fun k => (ow k).ref) w W := by
    rw [hW]
    exact (hbf.mono fun k _ e => by show (ow k).ref; rw [e, h.rRow]; trivial).setCell (by show (ow P).ref; rw [h.rP]; trivial)
  clear hW
  -- the new row, cell by cell
  obtain ⟨g2, cap2, cur, e, -, hcur, hnc, hcm, hcs, ht⟩ := ho.2.resolve_left (fun e => by have := e.2; omega)
  injection e with e1 e2 e3
  injection e1 with e1
  injection e1 with e1
  subst e1 e3
  have hxl : xs.length = a.cnt * 8 := hxs.1
  have hcell : ∀ i u, i < (a.cnt + 1) * 8 → (xs ++ [.bool true, .int .u64 (d.id : Int), .bool d.leaf, .string ⟨d.label.toArray⟩, .slice A dn c, .string ⟨d.text.toArray⟩, .int .i64 (x : Int), .slice none 0 0])[i]? = some u → W.cell? ⟨g', i, none⟩ = some u := fun i u hi hu => by
    refine (World.cell?_of_block (w := w4) (w' := W) (a := ⟨g', i, none⟩) (hWo g' hg'P)).trans ?_
    rw [cell_of_row w4 g' i _ _ _ hcur, ← Array.getElem?_toList, ← hu, ← ht, List.getElem?_take, if_pos hi]
  have holdc : ∀ i u, i < a.cnt * 8 → w.cell? ⟨g, i, none⟩ = some u → xs[i]? = some u := fun i u hi hu => by
    obtain ⟨i1, rfl⟩ : ∃ i1, i1 = i := ⟨_, rfl⟩
    have := hxs.cells (g := g) rfl i1 (xs[i1]'(by omega)) (List.getElem?_eq_getElem _)
    rw [add_zero_off, hu] at this
    rw [List.getElem?_eq_getElem (by omega)]
    exact this.symm
  rw [htk, hslot]
  refine ⟨ow9, ⟨g', fun i => if i = a.cnt then ⟨none, 0, 0, A, dn, c⟩ else sv i, cap, fA, fc, ?_⟩, hold, hf⟩
  have hzero : ∀ {i}, i ≠ a.cnt → (settleV { a with cnt := a.cnt + 1 } a.cnt (x : Int) d).live i = a.live i ∧ (settleV { a with cnt := a.cnt + 1 } a.cnt (x : Int) d).par i = a.par i ∧ (settleV { a with cnt := a.cnt + 1 } a.cnt (x : Int) d).kids i = a.kids i ∧ (settleV { a with cnt := a.cnt + 1 } a.cnt (x : Int) d).dat i = a.dat i :=
    fun hi => ⟨upd_ne _ _ hi, upd_ne _ _ hi, upd_ne _ _ hi, upd_ne _ _ hi⟩
  have e1 : (settleV { a with cnt := a.cnt + 1 } a.cnt (x : Int) d).live a.cnt = true := upd_same _ _ _
  have e2 : (settleV { a with cnt := a.cnt + 1 } a.cnt (x : Int) d).par a.cnt = (x : Int) := upd_same _ _ _
  have e3 : (settleV { a with cnt := a.cnt + 1 } a.cnt (x : Int) d).kids a.cnt = [] := upd_same _ _ _
  have e4 : (settleV { a with cnt := a.cnt + 1 } a.cnt (x : Int) d).dat a.cnt = d := upd_same _ _ _
  have hxc := hw.lt hx
  refine { head := hWP, rP := same _ _ h.rP (by simp), row := ⟨cur, (hWo g' hg'P).trans hcur, hcs⟩, rRow := if_pos rfl, cap := hnc, capm := hcm, free := h.free.kept fun ad e => hk' _ _ (h.rFree ad e) trivial (by simp) (by simp), rFree := fun ad e => same _ _ (h.rFree ad e) (by simp), small := (by show a.cnt + 1 ≤ _; omega), fsmall := h.fsmall, cells := fun i hi j u hj => ?_, kids := fun i hi => ?_, ksmall := fun i => ?_, dat := fun i hi => ?_, low := fun k hk => ?_, pars := fun i => ?_ }
  · have hi : i < a.cnt + 1 := hi
    have hj8 : j < 8 := by have := (List.getElem?_eq_some_iff.1 hj).1; rw [refCells_len] at this; exact this
    by_cases e : i = a.cnt
    · subst e
      simp only [if_pos] at hj
      unfold refCells at hj
      rw [e1, e2, e4] at hj
      refine hcell _ u (by omega) ?_
      rw [List.getElem?_append_right (by omega), hxl, show a.cnt * 8 + j - a.cnt * 8 = j by omega]
      exact hj
    · simp only [if_neg e] at hj
      have hj' : (refCells a (sv i) i)[j]? = some u := by
        obtain ⟨f1, f2, f3, f4⟩ := hzero e
        rw [← hj]
        unfold refCells
        rw [f1, f2, f4]
      refine hcell _ u (by omega) ?_
      rw [List.getElem?_append_left (by omega)]
      exact holdc _ u (by omega) (h.cells i (by omega) j u hj')
  · have hi : i < a.cnt + 1 := hi
    by_cases e : i = a.cnt
    · subst e
      rw [e3]
      simp only [if_pos]
      exact ImmN.nil_ _ _
    · rw [(hzero e).2.2.1]
      simp only [if_neg e]
      exact (h.kids i (by omega)).kept hf.size (fun k e => same k _ e (by simp)) (fun k e => hk' k _ e trivial (by simp) (by simp))
  · by_cases e : i = a.cnt
    · subst e; rw [e3]; exact Nat.zero_le _
    · rw [(hzero e).2.2.1]; exact h.ksmall i
  · have hi : i < a.cnt + 1 := hi
    by_cases e : i = a.cnt
    · subst e
      rw [e4]
      simp only [if_pos]
      refine hd.kept (fun k hk => ?_) fun k hk => ?_
      · show (if k = g' then Role.rrow else if w.heap.size ≤ k ∧ k < w7.heap.size then .imm else ow k) = _
        have h1 := hk.1
        have h2 := hk.2
        rw [if_neg (by rcases hat with e | e <;> omega), if_pos ⟨h1, h2⟩]
      · have h1 := hk.1
        have h2 := hk.2
        have hPl := h.low P (by rw [h.rP]; simp)
        refine (hWo k (by omega)).trans ((hg.block k (by simp; omega) (fun e => by injection e with e; omega)).trans (Go.heap_alloc_old w7 o h2))
    · rw [(hzero e).2.2.2]
      simp only [if_neg e]
      exact (h.dat i (by omega)).kept (fun k e => same k _ e (by simp)) (fun k e => hk' k _ e trivial (by simp) (by simp))
  · rw [hWz]
    by_cases h1 : k < w4.heap.size
    · exact h1
    · exfalso
      have hk2 : (if k = g' then Role.rrow else if w.heap.size ≤ k ∧ k < w7.heap.size then .imm else ow k) ≠ .off := hk
      rw [if_neg (by omega), if_neg (by omega)] at hk2
      have := h.low k hk2
      omega
  · by_cases e : i = a.cnt
    · subst e; rw [e2]; have := h.small; omega
    · rw [(hzero e).2.1]; exact h.pars i
end
end Go.Proofs.Ytiikakfdelkjhaa.Arn
