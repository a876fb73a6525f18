/- A slot is no child any more: the document's. -/
import Derived.Test.YtiikakfdelkjhaaArnRc
namespace Go.Proofs.Ytiikakfdelkjhaa.Arn
open Go.RowKit
set_option maxRecDepth 20000
set_option linter.unusedVariables false

/-- a slot's block, new -/
def slot0 : Obj := .cells #[.bool false, .int .u64 0, .bool false, .string ⟨#[]⟩, .slice none 0 0, .string ⟨#[]⟩, .int .i64 0, .slice none 0 0] 35
section
variable {w : World} {ow : Nat → Role} {P g : Nat} {a : Av} {sv : Nat → SV} {sc : Nat} {fA : Option Addr} {fc : Nat}
set_option maxHeartbeats 4000000 in
theorem unlink_any (h : RA w ow P g a sv sc fA fc) (hw : WF a) {s q k : Nat} (hs : a.live s = true) (hq : a.live q = true) (hp : a.par s = (q : Int)) (hk : (a.kids q)[k]? = some s) :
    Calls Try.prog 50 #[.pointer (some ⟨P, 0, none⟩), .int .i64 (s : Int)] w fun e w' => e = .returned (.int .i64 (k : Int)) ∧ RDid w w' ow P (cutV a q k) := by
  have h' := Lib.hid h
  have hw' := Lib.hid hw
  have hsl := hw.lt hs
  have hql := hw.lt hq
  have hcap := h.cap
  have hcm := h.capm
  have hsm := h.small
  have hk' := Lib.hid hk
  have hp' := Lib.hid hp
  obtain ⟨c0, -, -⟩ := h.head_cells
  obtain ⟨-, -, -, -, -, -, c6, -⟩ := h.eight hsl
  rw [hp] at c6
  obtain ⟨z0, z1, z2, z3, z4, z5, z6, z7⟩ := h.eight hql
  have zf := h.frz
  have hB : RA (w.alloc slot0) ow P g a sv sc fA fc := h.below ((Below.refl _ _).alloc (Nat.le_refl _) _)
  obtain ⟨C0, -, -⟩ := hB.head_cells
  obtain ⟨-, -, -, -, -, -, C6, -⟩ := hB.eight hsl
  rw [hp] at C6
  obtain ⟨Z0, Z1, Z2, Z3, Z4, Z5, Z6, Z7⟩ := hB.eight hql
  clear hB
  unfold slot0 at C0 C6 Z0 Z1 Z2 Z3 Z4 Z5 Z6 Z7
  have hqI : (q : Int) < (a.cnt : Int) := by omega
  have hsI : (s : Int) < (a.cnt : Int) := by omega
  clear h hw hp hk hs hq
  go_enter Try.func50, Try.ntmps50
  go_wp2_with fail
  rename_i K hK
  go_region
  refine hK _ _ ?_
  clear hK c0 c6 z0 z1 z2 z3 z4 z5 z6 z7 zf C0 C6 Z0 Z1 Z2 Z3 Z4 Z5 Z6 Z7
  obtain ⟨b, hb⟩ : ∃ b, b = w.heap.size := ⟨_, rfl⟩
  rw [← hb]
  obtain ⟨W1, hW1, R1, B1⟩ : ∃ W1, W1 = (w.alloc (.cells #[.bool (a.live q), .int .u64 ((a.dat q).id : Int), .bool (a.dat q).leaf, .string ⟨(a.dat q).label.toArray⟩, .slice (sv q).aA (sv q).an (sv q).ac, .string ⟨(a.dat q).text.toArray⟩, .int .i64 (a.par q), .slice (sv q).kA (a.kids q).length (sv q).kc] 35)).drew ∧
      W1.heap[b]? = some (.cells #[.bool (a.live q), .int .u64 ((a.dat q).id : Int), .bool (a.dat q).leaf, .string ⟨(a.dat q).label.toArray⟩, .slice (sv q).aA (sv q).an (sv q).ac, .string ⟨(a.dat q).text.toArray⟩, .int .i64 (a.par q), .slice (sv q).kA (a.kids q).length (sv q).kc] 35 (0, 0)) ∧ Below w.heap.size w W1 :=
    ⟨_, rfl, by rw [hb]; exact heap_alloc_new w _, ((Below.refl _ _).alloc (Nat.le_refl _) _).drew⟩
  rw [← hW1]
  have hN : Ns w (sv q).kA (a.kids q).length (a.kids q) ∧ (a.kids q).length ≤ (sv q).kc := by
    have := h'.out.kids q hql
    rw [this.ns.1]
    exact ⟨this.ns, this.knc⟩
  have hN' := Lib.hid hN
  have hki := Lib.hid (h'.out.kids q hql)
  have hks := Lib.hid (h'.out.ksmall q)
  have hkl := Lib.hid (show k < (a.kids q).length from (List.getElem?_eq_some_iff.1 hk'.out).1)
  have hbl := Lib.hid (show b < W1.heap.size from (Array.getElem?_eq_some_iff.1 R1).1)
  have B1' := Lib.hid B1
  have R1' := Lib.hid R1
  have hb' := Lib.hid hb
  have hsw := Lib.hid (show w.heap.size ≤ b from by rw [hb]; exact Nat.le_refl _)
  obtain ⟨y0, y1, y2, y3, y4, y5, y6, y7, yf⟩ := eight_of R1
  clear hW1 hN B1 R1 hb
  have hfin : Hid (∀ (W2 W3 : World) (A : Option Addr) (c : Nat), NewN W1 W2 A ((a.kids q).length - 1) c (cutL (a.kids q) k) → W3 = W2.setCell ⟨b, 7, none⟩ (.slice A ((a.kids q).length - 1) c) →
      W3.heap[b]? = some (.cells #[.bool (a.live q), .int .u64 ((a.dat q).id : Int), .bool (a.dat q).leaf, .string ⟨(a.dat q).label.toArray⟩, .slice (sv q).aA (sv q).an (sv q).ac, .string ⟨(a.dat q).text.toArray⟩, .int .i64 (a.par q), .slice A ((a.kids q).length - 1) c] 35 (0, 0)) ∧ Below w.heap.size w W3 ∧
      RDid w (eight W3 g (q * 8) (.bool (a.live q)) (.int .u64 ((a.dat q).id : Int)) (.bool (a.dat q).leaf) (.string ⟨(a.dat q).label.toArray⟩) (.slice (sv q).aA (sv q).an (sv q).ac) (.string ⟨(a.dat q).text.toArray⟩) (.int .i64 (a.par q)) (.slice A ((a.kids q).length - 1) c)).drew ow P (cutV a q k)) := Lib.hid (by
    intro W2 W3 A c hn h3
    have R2 := (hn.bel.block b hbl.out).trans R1'.out
    have b2 := B1'.out.trans (hn.bel.mono B1'.out.size)
    have b3 : Below w.heap.size w W3 := by rw [h3]; exact b2.setCell hsw.out _
    have z3 : W3.heap.size = W2.heap.size := by rw [h3]; simp
    refine ⟨by rw [h3, heap_setCell_same W2 b 7 _ _ _ R2]; rfl, b3, ?_⟩
    have hnb := b2.size
    have kept : ∀ k, k ≠ b → W3.heap[k]? = W2.heap[k]? := fun k hk => by rw [h3]; exact heap_setCell_other W2 ⟨b, 7, none⟩ k _ hk
    have hcut : (cutV a q k).kids q = cutL (a.kids q) k := upd_same _ _ _
    have hlen := cut_len (l := a.kids q) hk'.out
    have himm := hn.imm
    rw [eight_cells]
    refine RDid.then_ ?_ (Below.refl _ _).drew
    refine rstored h'.out hql (w7 := W3) b3 (a9 := cutV a q k) ⟨A, (a.kids q).length - 1, c, (sv q).aA, (sv q).an, (sv q).ac⟩ rfl rfl (fun i hi => ⟨rfl, rfl, upd_ne _ _ hi, rfl⟩) ?_ ?_ ?_ (h'.out.pars q)
    · rw [hcut]
      refine himm.kept (by rw [show W3.heap.size = W3.heap.size from rfl, z3]; exact Nat.le_refl _) (fun j hj => .inr ⟨Nat.le_trans B1'.out.size hj.1, by rw [show W3.heap.size = W3.heap.size from rfl, z3]; exact hj.2⟩) fun j hj => kept j ?_
      have := hj.1
      have := hbl.out
      omega
    · rw [hcut]; have := hks.out; omega
    · refine (h'.out.dat q hql).kept (fun k hk => .inl hk) fun j hj => b3.block j (h'.out.low j (by rw [hj]; simp)))
  go_wp2_with (first
    | (refine (place_in _ (sv q).kA (a.kids q).length (sv q).kc (a.kids q) s k (hN'.out.1.below B1'.out) (by have := hks.out; omega) hk'.out (nodup_idx (hw'.out.nd q) hk'.out)).mono ?_; rintro e w7 ⟨rfl, rfl⟩)
    | (refine (rdrop_any _ (sv q).kA (a.kids q).length (sv q).kc (a.kids q) (hN'.out.1.below B1'.out) hN'.out.2 hki.out.kcm hki.out.knil (by have := hks.out; omega) k hkl.out).mono ?_; rintro e w2 ⟨A2, c2, rfl, hn2⟩; have hn2' := Lib.hid hn2; have R2 := (hn2.bel.block b hbl.out).trans R1'.out; clear hn2 y0 y1 y2 y3 y4 y5 y6 y7 yf; obtain ⟨y0, y1, y2, y3, y4, y5, y6, y7, yf⟩ := eight_of R2; clear R2))
  rename_i K2 hK2
  clear y0 y1 y2 y3 y4 y5 y6 y7 yf
  obtain ⟨W3, hW3⟩ : ∃ W3, W3 = w2.setCell ⟨b, 7, none⟩ (.slice A2 ((a.kids q).length - 1) c2) := ⟨_, rfl⟩
  rw [← hW3]
  obtain ⟨R3, B3, D3⟩ := hfin.out w2 W3 A2 c2 hn2'.out hW3
  clear hfin hn2' R1' B1' hbl hW3
  have D3' := Lib.hid D3
  obtain ⟨y0, y1, y2, y3, y4, y5, y6, y7, yf⟩ := eight_of R3
  have h3 := h'.out.below B3
  obtain ⟨c0, -, -⟩ := h3.head_cells
  obtain ⟨-, -, -, -, -, -, c6, -⟩ := h3.eight hsl
  rw [hp'.out] at c6
  obtain ⟨z0, z1, z2, z3, z4, z5, z6, z7⟩ := h3.eight hql
  have zf := h3.frz
  clear h3 R3 B3 D3
  go_region
  refine hK2 _ _ ?_
  clear hK2
  go_wp2_with fail
  go_ret
  exact ⟨rfl, D3'.out⟩
end
end Go.Proofs.Ytiikakfdelkjhaa.Arn
