/- A slot's data, told once more: the row of attributes that is answered may be written. -/
import Derived.Test.YtiikakfdelkjhaaArnLf
namespace Go.Proofs.Ytiikakfdelkjhaa.Arn
open Go.RowKit
set_option maxRecDepth 20000
set_option linter.unusedVariables false

/-- a row of attributes, new, that may be written -/
def RowA (b : Nat) (w : World) (A : Option Addr) (n : Nat) : Prop := ∀ ad, A = some ad → ∃ g cur, ad = ⟨g, 0, none⟩ ∧ b ≤ g ∧ w.heap[g]? = some (.cells cur 61 (0, 0)) ∧ n * 2 ≤ cur.size
set_option maxHeartbeats 4000000 in
theorem copied2_any (w : World) (T : Nat → Prop) (d : Dt) (aA : Option Addr) (an ac : Nat) (h : DatOk T w d aA an ac) (hT : ∀ k, T k → k < w.heap.size) :
    Calls Try.prog 43 #[datV d aA an ac] w fun e w' => ∃ A c, e = .returned (datV d A an c) ∧ DatOk (New w w') w' d A an c ∧ Below w.heap.size w w' ∧ RowA w.heap.size w' A an := by
  have h' := Lib.hid h
  have hT' := Lib.hid hT
  have f2 := Lib.hid h.anil
  have f3 := h.anc
  have hn := h.few
  clear h hT
  unfold datV
  obtain ⟨d0, hd⟩ : ∃ d0, d0 = d := ⟨_, rfl⟩
  have hd' := Lib.hid hd
  have f1 := Lib.hid h'.out.ats
  rw [← hd] at h' f1
  clear hd
  generalize hid : d.id = id
  generalize hlf : d.leaf = leaf
  generalize hlb : d.label = b
  generalize htx : d.text = x
  clear hid hlf hlb htx
  go_enter Try.func43, Try.ntmps43
  go_wp2_with (at_builtin; refine wpList_append_ats2 rfl (.const (.slice none 0 0)) (.tmp 4) rfl T aA an ac d0.attrs rfl rfl (AtsIn.kept (w := w) (fun _ h => h) (fun k hk => two_new _ _ _ (hT'.out k hk)) f1.out) f2.out f3 hn ?_; intro A1 c1 w1 hat hc hm hz hb hrow; have B1 := (hb.block w.heap.size (by simp; omega)).trans (two_first w _ _); have R1 := (hb.block (w.heap.size + 1) (by simp)).trans (two_second w _ _); obtain ⟨d0, d1, d2, d3, d4, df⟩ := five_cells B1; obtain ⟨r0, r1, r2, r3, r4, rf⟩ := five_cells R1; have B1' := Lib.hid B1; have R1' := Lib.hid R1; clear B1 R1; have hs1 : w.heap.size + 1 < w1.heap.size := (by have := hb.size; simp at this; omega); have H1 := Lib.hid hat; have H2 := Lib.hid hc; have H3 := Lib.hid hm; have H4 := Lib.hid hz; have H5 := Lib.hid hb; have H6 := Lib.hid hrow; clear hat hc hm hz hb hrow)
  refine bodyPost_ret (v := .agg #[.int .u64 (id : Int), .bool leaf, .string ⟨b.toArray⟩, .slice A1 an c1, .string ⟨x.toArray⟩]) (by simp [results, Try.results43, go_sem, r0, r1, r2, r3, r4]) rfl ?_
  obtain ⟨W7, hW7⟩ : ∃ W7, W7 = ((((((w1.setCell ⟨w.heap.size, 3, none⟩ (.slice A1 an c1)).setCell ⟨w.heap.size + 1, 0, none⟩ (.int .u64 (id : Int))).setCell ⟨w.heap.size + 1, 1, none⟩ (.bool leaf)).setCell ⟨w.heap.size + 1, 2, none⟩ (.string ⟨b.toArray⟩)).setCell ⟨w.heap.size + 1, 3, none⟩ (.slice A1 an c1)).setCell ⟨w.heap.size + 1, 4, none⟩ (.string ⟨x.toArray⟩)) := ⟨_, rfl⟩
  rw [← hW7]
  have z7 : W7.heap.size = w1.heap.size := by rw [hW7]; simp
  have o7 : ∀ k, k ≠ w.heap.size → k ≠ w.heap.size + 1 → W7.heap[k]? = w1.heap[k]? := fun k n1 n2 => by
    rw [hW7]
    exact (heap_setCell_other _ _ k _ n2).trans ((heap_setCell_other _ _ k _ n2).trans ((heap_setCell_other _ _ k _ n2).trans ((heap_setCell_other _ _ k _ n2).trans ((heap_setCell_other _ _ k _ n2).trans (heap_setCell_other _ _ k _ n1)))))
  have b7 : Below w.heap.size w W7 := by
    rw [hW7]
    have b1 : Below w.heap.size w w1 := (((Below.refl w.heap.size w).alloc (Nat.le_refl _) _).alloc (by simp) _).trans (H5.out.mono (by simp; omega))
    exact (((((b1.setCell (Nat.le_refl _) _).setCell (by simp) _).setCell (by simp) _).setCell (by simp) _).setCell (by simp) _).setCell (by simp) _
  clear hW7
  have g1 := H1.out
  have hW0 : ((w.alloc (.cells #[.int .u64 (id : Int), .bool leaf, .string ⟨b.toArray⟩, .slice aA an ac, .string ⟨x.toArray⟩] 25)).alloc (.cells #[.int .u64 0, .bool false, .string ⟨#[]⟩, .slice none 0 0, .string ⟨#[]⟩] 25)).heap.size = w.heap.size + 2 := by simp
  have g6 := H6.out
  rw [hW0] at g1 g6
  have hdat := h'.out
  rw [← hd'.out]
  exact ⟨A1, c1, rfl, ⟨hdat.id, hdat.label, hdat.text, AtsIn.kept (w := w1) (fun k hk => ⟨by omega, by rw [z7]; exact hk.2⟩) (fun k hk => o7 k (by omega) (by omega)) g1, H2.out, H3.out, H4.out, hn⟩, b7, fun ad e => by
    obtain ⟨e1, cur, e2, e3⟩ := g6 ad e
    exact ⟨_, cur, e1, by omega, (o7 _ (by omega) (by omega)).trans e2, e3⟩⟩
section
variable {w : World} {ow : Nat → Role} {P : Nat} {a : Av} {B : Nat → Nat} {m : Nat} {sv : Nat → SV} {sA : Option Addr} {sc : Nat} {fA : Option Addr} {fc : Nat}
set_option maxHeartbeats 1000000 in
theorem get2_any (h : PA w ow P a B m sv sA sc fA fc) (i : Int) : Calls Try.prog 22 #[.pointer (some ⟨P, 0, none⟩), .int .i64 i] w fun e w' => ∃ A n c, e = .returned (.tuple #[datV (datI a i) A n c, .bool (liveI a i)]) ∧ DatOk (New w w') w' (datI a i) A n c ∧ Below w.heap.size w w' ∧ RowA w.heap.size w' A n := by
  have h' := Lib.hid h
  have hal : ∀ o, Below w.heap.size w (w.alloc o) := fun o => (Below.refl _ _).alloc (Nat.le_refl _) _
  have hal' := Lib.hid hal
  have h2 := Lib.hid (fun W hb => h.below (w' := W) hb)
  clear hal
  cases hlv : liveI a i with
  | false =>
    have hv := Lib.hid (show datI a i = Dt.zero by unfold datI; rw [hlv]; rfl)
    have hlv' := Lib.hid hlv
    clear h hlv
    go_enter Try.func22, Try.ntmps22
    go_wp2_with (refine (isLive_any (h2.out _ (hal'.out _)) i).mono ?_; rintro e w7 ⟨rfl, rfl⟩; rw [hlv'.out])
    refine bodyPost_ret (v := .tuple #[.agg #[.int .u64 0, .bool false, .string ⟨#[]⟩, .slice none 0 0, .string ⟨#[]⟩], .bool false]) (by simp [results, Try.results22, go_sem]) rfl ?_
    rw [hv.out]
    exact ⟨none, 0, 0, rfl, DatOk.zero_ _ _, hal'.out _, fun ad e => by cases e⟩
  | true =>
    obtain ⟨s, rfl, hs⟩ := liveI_nat hlv
    have hm := (h.live_lt hs).2
    have hv := Lib.hid (show datI a (s : Int) = a.dat s by unfold datI; rw [hlv]; rfl)
    have hlv' := Lib.hid hlv
    have hm' := Lib.hid hm
    have e8 := fun W hb => (h2.out W hb).eight hm
    have e3 := Lib.hid (fun o => (e8 _ (hal'.out o)).2.2.2)
    have hlow := Lib.hid h.low
    clear h hlv hm hs e8
    go_enter Try.func22, Try.ntmps22
    go_wp2_with (first
      | (refine (isLive_any (h2.out _ (hal'.out _)) (s : Int)).mono ?_; rintro e w7 ⟨rfl, rfl⟩; rw [hlv'.out])
      | (refine (node_any (h2.out _ (hal'.out _)) hm'.out).mono ?_; rintro e w7 ⟨rfl, rfl⟩; obtain ⟨q3, q4, q5, q6, q7⟩ := e3.out (.cells #[.int .u64 0, .bool false, .string ⟨#[]⟩, .slice none 0 0, .string ⟨#[]⟩] 25))
      | (refine (copied2_any _ (fun k => ow k = .imm) (a.dat s) _ _ _ ((h2.out _ (hal'.out _)).dat s hm'.out) (fun k hk => (h2.out _ (hal'.out _)).low k (by rw [hk]; simp))).mono ?_; rintro e w7 ⟨A, c, rfl, hdat, hb, hrow⟩; have hrow' := Lib.hid hrow; have zh := (hb.block w.heap.size (by simp)).trans (heap_alloc_new w _); obtain ⟨y0, y1, y2, y3, y4, yf⟩ := five_cells zh; have hdat' := Lib.hid hdat; have hb' := Lib.hid hb; clear hdat hb zh hrow; rw [show datV (a.dat s) A (sv s).an c = .agg #[.int .u64 ((a.dat s).id : Int), .bool (a.dat s).leaf, .string ⟨(a.dat s).label.toArray⟩, .slice A (sv s).an c, .string ⟨(a.dat s).text.toArray⟩] from rfl]))
    refine bodyPost_ret (v := .tuple #[.agg #[.int .u64 ((a.dat s).id : Int), .bool (a.dat s).leaf, .string ⟨(a.dat s).label.toArray⟩, .slice A (sv s).an c, .string ⟨(a.dat s).text.toArray⟩], .bool true]) (by simp [results, Try.results22, go_sem, y0, y1, y2, y3, y4]) rfl ?_
    rw [hv.out]
    obtain ⟨z1, z2, z3⟩ := five_set w7 w.heap.size (.int .u64 ((a.dat s).id : Int)) (.bool (a.dat s).leaf) (.string ⟨(a.dat s).label.toArray⟩) (.slice A (sv s).an c) (.string ⟨(a.dat s).text.toArray⟩)
    refine ⟨A, (sv s).an, c, rfl, hdat'.out.kept (fun k hk => ?_) fun k hk => z2 k ?_, z3 ((hal'.out _).trans (hb'.out.mono (by simp))) (Nat.le_refl _), fun ad e => ?_⟩
    · obtain ⟨k1, k2⟩ := hk
      simp at k1
      refine ⟨by omega, by rw [z1]; exact k2⟩
    · obtain ⟨k1, k2⟩ := hk
      simp at k1
      omega
    · obtain ⟨g, cur, e1, e2, e3, e4⟩ := hrow'.out ad e
      simp at e2
      exact ⟨g, cur, e1, by omega, (z2 g (by omega)).trans e3, e4⟩
end
end Go.Proofs.Ytiikakfdelkjhaa.Arn
