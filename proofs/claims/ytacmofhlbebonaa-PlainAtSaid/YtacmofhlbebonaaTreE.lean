/- A node with rows of its own; has it that child; an attribute: the program's. -/
import Derived.Test.YtacmofhlbebonaaTreD
namespace Go.Proofs.Ytacmofhlbebonaa
open Go.RowKit
set_option maxRecDepth 20000

def hasB (kn : Nat) (i : Int) : Bool := decide (0 ≤ i ∧ i < (kn : Int))
theorem hasChild_any (w : World) (id : Int) (leaf : Bool) (b x : Txt) (aA kA : Option Addr) (an ac kn kc : Nat) (i : Int) (hk : kn ≤ maxLen) :
    Calls Try.prog 44 #[.agg #[.int .u64 id, .bool leaf, .string ⟨b.toArray⟩, .slice aA an ac, .string ⟨x.toArray⟩, .slice kA kn kc], .int .i64 i] w fun e w' => e = .returned (.bool (hasB kn i)) ∧ Below w.heap.size w w' := by
  unfold maxLen at hk
  by_cases h1 : 0 ≤ i
  · by_cases h2 : i < (kn : Int)
    · have hv := Lib.hid (show hasB kn i = true from decide_eq_true ⟨h1, h2⟩)
      go_enter Try.func44, Try.ntmps44
      go_wp2_with fail
      go_ret
      exact ⟨by rw [hv.out]; rfl, (Below.refl _ _).alloc (Nat.le_refl _) _⟩
    · have hv := Lib.hid (show hasB kn i = false from decide_eq_false (fun h => h2 h.2))
      go_enter Try.func44, Try.ntmps44
      go_wp2_with fail
      go_ret
      exact ⟨by rw [hv.out]; rfl, (Below.refl _ _).alloc (Nat.le_refl _) _⟩
  · have hv := Lib.hid (show hasB kn i = false from decide_eq_false (fun h => h1 h.1))
    go_enter Try.func44, Try.ntmps44
    go_wp2_with fail
    go_ret
    exact ⟨by rw [hv.out]; rfl, (Below.refl _ _).alloc (Nat.le_refl _) _⟩

/-- a copy of a node: its rows are new, its children as they were -/
structure Owned (w w' : World) (T : Nat → Prop) (t : Nd) (aA : Option Addr) (an ac : Nat) (kA : Option Addr) (kn kc : Nat) (gA : Nat) (ks : List KV) : Prop where
  ats : AtsIn (fun k => k = gA) w' aA an t.attrs
  anc : an ≤ ac
  acm : ac ≤ maxLen
  anil : aA = none → ac = 0
  ga : w.heap.size ≤ gA ∧ gA < w'.heap.size
  map : ks.map KV.t = t.kids
  ok : ∀ k ∈ ks, k.ok T w
  row : OwnK w.heap.size w' (.slice kA kn kc) ks
  len : ks.length = kn
  knc : kn ≤ kc
  kcm : kc ≤ maxLen
  knil : kA = none → kc = 0
  ne : ∀ ad, kA = some ad → ad.block ≠ gA
  bel : Below w.heap.size w w'
theorem two_new {w : World} (o1 o2 : Obj) (k : Nat) (h : k < w.heap.size) : ((w.alloc o1).alloc o2).heap[k]? = w.heap[k]? :=
  (Go.heap_alloc_old _ _ (by simp; omega)).trans (Go.heap_alloc_old _ _ h)
theorem bel_cells {W w1 : World} (hb : Below W.heap.size W w1) : (∀ b o, b < W.heap.size → w1.cell? ⟨b, o, none⟩ = W.cell? ⟨b, o, none⟩) ∧ (∀ b o, b < W.heap.size → w1.frozen? ⟨b, o, none⟩ = W.frozen? ⟨b, o, none⟩) :=
  ⟨fun b o h => hb.cell (p := ⟨b, o, none⟩) h, fun b o h => hb.frozen (p := ⟨b, o, none⟩) h⟩
theorem own_base {w : World} {b base : Nat} {e : TypeId} {size : Nat} {v : Value} {n : Nat} {xs : List Value} (h : w.ownsRow base e size v n xs) (hb : b ≤ base) : w.ownsRow b e size v n xs := by
  refine ⟨h.1, ?_⟩
  rcases h.2 with h0 | ⟨g, cap, cur, rfl, hg, rest⟩
  · exact .inl h0
  · exact .inr ⟨g, cap, cur, rfl, by omega, rest⟩
theorem two_first (w : World) (o1 o2 : Obj) : ((w.alloc o1).alloc o2).heap[w.heap.size]? = some o1 := (Go.heap_alloc_old _ _ (by simp)).trans (heap_alloc_new w o1)
theorem two_second (w : World) (o1 o2 : Obj) : ((w.alloc o1).alloc o2).heap[w.heap.size + 1]? = some o2 := by
  have h := heap_alloc_new (w.alloc o1) o2
  rw [World.size_alloc] at h
  exact h
theorem six_cells {w : World} {g : Nat} {a0 a1 a2 a3 a4 a5 : Value} {t : TypeId} (h : w.heap[g]? = some (.cells #[a0, a1, a2, a3, a4, a5] t (0, 0))) :
    w.cell? ⟨g, 0, none⟩ = some a0 ∧ w.cell? ⟨g, 1, none⟩ = some a1 ∧ w.cell? ⟨g, 2, none⟩ = some a2 ∧ w.cell? ⟨g, 3, none⟩ = some a3 ∧ w.cell? ⟨g, 4, none⟩ = some a4 ∧ w.cell? ⟨g, 5, none⟩ = some a5 ∧ ∀ o, w.frozen? ⟨g, o, none⟩ = false :=
  ⟨cell_of_row w g 0 _ _ _ h, cell_of_row w g 1 _ _ _ h, cell_of_row w g 2 _ _ _ h, cell_of_row w g 3 _ _ _ h, cell_of_row w g 4 _ _ _ h, cell_of_row w g 5 _ _ _ h, fun o => frozen_of_row w g o _ _ h⟩
set_option maxHeartbeats 4000000 in
theorem owned_any (w : World) (T : Nat → Prop) (t : Nd) (aA kA : Option Addr) (an ac kn kc : Nat) (h : NodeV T w aA an ac kA kn kc t) (hT : ∀ k, T k → k < w.heap.size) (hn : an ≤ 1000000) (hkn : kn ≤ 1000000) :
    Calls Try.prog 45 #[.agg #[.int .u64 (t.id : Int), .bool t.leaf, .string ⟨t.label.toArray⟩, .slice aA an ac, .string ⟨t.text.toArray⟩, .slice kA kn kc]] w fun e w' => ∃ aA' ac' kA' kc' gA ks,
      e = .returned (.agg #[.int .u64 (t.id : Int), .bool t.leaf, .string ⟨t.label.toArray⟩, .slice aA' an ac', .string ⟨t.text.toArray⟩, .slice kA' kn kc']) ∧ Owned w w' T t aA' an ac' kA' kn kc' gA ks := by
  have hf := h.facts
  have f1 := Lib.hid hf.ats
  have f2 := Lib.hid hf.anil
  have f3 := hf.anc
  have f4 := Lib.hid hf.row
  have f5 := Lib.hid hf.knil
  have f6 := hf.knc
  have f7 := Lib.hid hf.kl
  have h' := Lib.hid h
  have hT' := Lib.hid hT
  clear hf h hT
  generalize hid : t.id = id
  generalize hlf : t.leaf = leaf
  generalize hlb : t.label = b
  generalize htx : t.text = x
  clear hid hlf hlb htx
  go_enter Try.func45, Try.ntmps45
  go_wp2_with (first
    | (at_builtin; refine wpList_append_ats rfl (.const (.slice none 0 0)) (.tmp 4) rfl T aA an ac t.attrs rfl rfl (AtsIn.kept (w := w) (fun _ h => h) (fun k hk => two_new _ _ _ (hT'.out k hk)) f1.out) f2.out f3 hn ?_; intro A1 c1 w1 hat hc hm hz hb; have B1 := (hb.block w.heap.size (by simp; omega)).trans (two_first w _ _); have R1 := (hb.block (w.heap.size + 1) (by simp)).trans (two_second w _ _); obtain ⟨d0, d1, d2, d3, d4, d5, df⟩ := six_cells B1; have B1' := Lib.hid B1; have R1' := Lib.hid R1; clear B1 R1; have hs1 : w.heap.size + 1 < w1.heap.size := (by have := hb.size; simp at this; omega); have H1 := Lib.hid hat; have H2 := Lib.hid hc; have H3 := Lib.hid hm; have H4 := Lib.hid hz; have H5 := Lib.hid hb; have K1 := Lib.hid (fun k (hk : k < w.heap.size) => (hb.block k (by simp; omega)).trans (two_new _ _ k hk)); clear hat hc hm hz hb)
    | (at_builtin; refine wpList_append_kids rfl (.const (.slice none 0 0)) (.tmp 8) rfl T kA kn kc t.kids rfl rfl f7.out (RowAt.kept (w := w) (fun _ h => h) (fun k hk => (heap_setCell_other w1 ⟨w.heap.size, 3, none⟩ k _ (by have := hT'.out k hk; simp; omega)).trans (K1.out k (hT'.out k hk))) _ _ _ f4.out) f5.out f6 hkn ?_; intro A2 c2 w2 ks e1 e2 e3 e4 e5 e6 hb2; have B2 := (hb2.block w.heap.size (by simp; omega)).trans (heap_setCell_same w1 w.heap.size 3 _ _ (.slice A1 an c1) B1'.out); simp at B2; have R2 := (hb2.block (w.heap.size + 1) (by simp; omega)).trans ((heap_setCell_other w1 ⟨w.heap.size, 3, none⟩ (w.heap.size + 1) (.slice A1 an c1) (by simp)).trans R1'.out); obtain ⟨g0, g1, g2, g3, g4, g5, gf⟩ := six_cells B2; obtain ⟨r0, r1, r2, r3, r4, r5, rf⟩ := six_cells R2; have B2' := Lib.hid B2; have R2' := Lib.hid R2; clear B2 R2; have hs2 : w.heap.size + 1 < w2.heap.size := (by have := hb2.size; simp at this; omega); have E1 := Lib.hid e1; have E2 := Lib.hid e2; have E3 := Lib.hid e3; have E4 := Lib.hid e4; have E5 := Lib.hid e5; have E6 := Lib.hid e6; have E7 := Lib.hid hb2; clear e1 e2 e3 e4 e5 e6 hb2))
  refine bodyPost_ret (v := .agg #[.int .u64 (id : Int), .bool leaf, .string ⟨b.toArray⟩, .slice A1 an c1, .string ⟨x.toArray⟩, .slice A2 kn c2]) (by simp [results, Try.results45, go_sem, r0, r1, r2, r3, r4, r5]) rfl ?_
  have hz : (w1.setCell ⟨w.heap.size, 3, none⟩ (.slice A1 an c1)).heap.size = w1.heap.size := by simp
  rw [hz] at E3 E7
  obtain ⟨W7, hW7⟩ : ∃ W7, W7 = (((((((w2.setCell ⟨w.heap.size, 5, none⟩ (.slice A2 kn c2)).setCell ⟨w.heap.size + 1, 0, none⟩ (.int .u64 (id : Int))).setCell ⟨w.heap.size + 1, 1, none⟩ (.bool leaf)).setCell ⟨w.heap.size + 1, 2, none⟩ (.string ⟨b.toArray⟩)).setCell ⟨w.heap.size + 1, 3, none⟩ (.slice A1 an c1)).setCell ⟨w.heap.size + 1, 4, none⟩ (.string ⟨x.toArray⟩)).setCell ⟨w.heap.size + 1, 5, none⟩ (.slice A2 kn c2)) := ⟨_, rfl⟩
  rw [← hW7]
  have z7 : W7.heap.size = w2.heap.size := by rw [hW7]; simp
  have o7 : ∀ k, k ≠ w.heap.size → k ≠ w.heap.size + 1 → W7.heap[k]? = w2.heap[k]? := fun k n1 n2 => by
    rw [hW7]
    refine (heap_setCell_other _ _ k _ n2).trans ((heap_setCell_other _ _ k _ n2).trans ((heap_setCell_other _ _ k _ n2).trans ((heap_setCell_other _ _ k _ n2).trans ((heap_setCell_other _ _ k _ n2).trans ((heap_setCell_other _ _ k _ n2).trans (heap_setCell_other _ _ k _ n1))))))
  have b1 : Below w.heap.size w (w1.setCell ⟨w.heap.size, 3, none⟩ (.slice A1 an c1)) := ((((Below.refl w.heap.size w).alloc (Nat.le_refl _) _).alloc (by simp) _).trans (H5.out.mono (by simp; omega))).setCell (Nat.le_refl _) _
  have b7 : Below w.heap.size w W7 := by
    rw [hW7]
    exact (((((((b1.trans (E7.out.mono (by omega))).setCell (Nat.le_refl _) _).setCell (by simp) _).setCell (by simp) _).setCell (by simp) _).setCell (by simp) _).setCell (by simp) _).setCell (by simp) _
  clear hW7
  have hW0 : ((w.alloc (.cells #[.int .u64 (id : Int), .bool leaf, .string ⟨b.toArray⟩, .slice aA an ac, .string ⟨x.toArray⟩, .slice kA kn kc] 26)).alloc (.cells #[.int .u64 0, .bool false, .string ⟨#[]⟩, .slice none 0 0, .string ⟨#[]⟩, .slice none 0 0] 26)).heap.size = w.heap.size + 2 := by simp
  have g1 := H1.out
  rw [hW0] at g1
  have hrow : OwnK w.heap.size W7 (.slice A2 kn c2) ks := own_kept (own_base E3.out (by omega)) fun k hk => by
    have := (World.ownsRow.lt E3.out k hk).1
    exact o7 k (by omega) (by omega)
  have hkl : ks.length = kn := by rw [← f7.out, ← E1.out, List.length_map]
  obtain ⟨gA, ga1, ga2, ga3, ga4⟩ : ∃ gA, w.heap.size ≤ gA ∧ gA < w1.heap.size ∧ gA < W7.heap.size ∧ AtsIn (fun k => k = gA) W7 A1 an t.attrs := by
    have h2 := E7.out.size
    rw [hz] at h2
    by_cases h0 : an = 0
    · subst h0
      have hnil : t.attrs = [] := List.length_eq_zero_iff.1 g1.1
      refine ⟨w.heap.size, Nat.le_refl _, by omega, by omega, ?_⟩
      rw [hnil]
      exact ⟨rfl, fun q x hx => by simp at hx⟩
    · obtain ⟨ad, y, -, -, ht, -⟩ := g1.at_ (q := 0) (by omega)
      refine ⟨w.heap.size + 2, by omega, by omega, by omega, AtsIn.kept (w := w1) (fun k hk => hk.1) (fun k hk => ?_) g1⟩
      obtain ⟨rfl, hk2⟩ := hk
      exact (o7 _ (by omega) (by omega)).trans ((E7.out.block _ (by omega)).trans (heap_setCell_other w1 ⟨w.heap.size, 3, none⟩ _ _ (by simp)))
  refine ⟨A1, c1, A2, c2, gA, ks, rfl, ga4, H2.out, H3.out, H4.out, ⟨ga1, ga3⟩, E1.out, fun k hk => ?_, hrow, hkl, E4.out, E5.out, E6.out, fun ad e => ?_, b7⟩
  · exact KV.ok_kept (fun _ h => h) (fun j hj => (b1.block j (hT'.out j hj)).symm) (E2.out k hk)
  · have hl := World.ownsRow.lt E3.out ad.block (by rw [e]; rfl)
    omega
end Go.Proofs.Ytacmofhlbebonaa
