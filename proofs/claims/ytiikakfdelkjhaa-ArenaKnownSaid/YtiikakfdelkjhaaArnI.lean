/- A child is put in, is taken out; a new arena; a node more: the program's. -/
import Derived.Test.YtiikakfdelkjhaaArnH
namespace Go.Proofs.Ytiikakfdelkjhaa.Arn
open Go.RowKit
set_option maxRecDepth 20000

section
variable {w : World} {ow : Nat → Role} {P : Nat} {a : Av} {B : Nat → Nat} {m : Nat} {sv : Nat → SV} {sA : Option Addr} {sc : Nat} {fA : Option Addr} {fc : Nat}
/-- other children -/
theorem kidsPut (h : PA w ow P a B m sv sA sc fA fc) {p : Nat} (hp : p < a.cnt) {l : List Nat} (hl : l.length ≤ 100000) {w0 w1 : World} (hb : Below w.heap.size w w0) (hf : FrX (Lies (sv p).kA) w0 w1) {A : Option Addr} {n c : Nat}
    (hown : OwnN w1 (.slice A n c) l) (hA : ∀ ad, A = some ad → (sv p).kA = some ad ∨ w.heap.size ≤ ad.block) :
    Did w (w1.setCell ⟨B (p / 16), p % 16 * 8 + 2, none⟩ (.slice A n c)) ow P { a with kids := upd a.kids p l } := by
  have hpm : p < m * 16 := by have := h.room; omega
  obtain ⟨hB, cs, t, hcs, hcz⟩ := h.slab (p / 16) (by omega)
  have hBl : B (p / 16) < w.heap.size := (Array.getElem?_eq_some_iff.1 hcs).1
  have hz0 := hb.size
  have hz1 := hf.size
  have hkr := (h.kids p hpm).role
  have hlies : ∀ k, Lies (sv p).kA k → ow k = .akids p := fun k ⟨ad, e, e2⟩ => by rw [e2]; exact hkr ad e
  have hbl : ∀ k, k < w.heap.size → ow k ≠ .akids p → w1.heap[k]? = w.heap[k]? := fun k hk hne => (hf.block k (by omega) (fun e => hne (hlies k e))).trans (hb.block k hk)
  have hcs1 := (hbl _ hBl (by rw [hB]; simp)).trans hcs
  have hset : w1.setCell ⟨B (p / 16), p % 16 * 8 + 2, none⟩ (.slice A n c) = w1.setCells (B (p / 16)) (p % 16 * 8 + 2) [.slice A n c] := rfl
  rw [hset]
  obtain ⟨W, hW, h1, h2, h3, h4, h5, h6⟩ := put_row (w := w1) (g := B (p / 16)) (o := p % 16 * 8 + 2) [.slice A n c] hcs1 (by simp; omega)
  rw [← hW]
  clear hW hset
  have hn := hown.blk.1
  have hAne : ∀ ad, A = some ad → ad.block ≠ B (p / 16) := fun ad e e2 => by
    rcases hA ad e with e3 | e3
    · have := hkr ad e3
      rw [e2, hB] at this
      cases this
    · omega
  have hAlt : ∀ ad, A = some ad → ad.block < w1.heap.size := fun ad e => by
    subst e
    exact (World.ownsRow.lt hown ad.block rfl).2
  refine ⟨fun k => if w.heap.size ≤ k ∧ k < w1.heap.size then .akids p else ow k, ⟨B, m, _, sA, sc, fA, fc, h.put (s := p) (a9 := { a with kids := upd a.kids p l }) (sv9 := ⟨A, n, c, (sv p).aA, (sv p).an, (sv p).ac⟩) hp rfl rfl (fun i hi => ⟨rfl, rfl, upd_ne _ _ hi, rfl⟩) (fun k hk => if_neg (by omega)) (fun k hk => ?_) (fun k hu hk hk2 => ?_) ?_ (fun o ho => ?_) (fun j u hj => ?_) ?_ ?_ ?_ ?_⟩, fun k hk => if_neg (by omega), ?_⟩
  · rw [h3]
    by_cases e : w.heap.size ≤ k ∧ k < w1.heap.size
    · exact e.2
    · have hk' : ow k ≠ .off := by simpa [e] using hk
      have := h.low k hk'
      omega
  · have hkl : k < w.heap.size := h.low k (by intro e; rw [e] at hu; exact hu)
    exact (h2 k hk).trans (hbl k hkl hk2)
  · obtain ⟨cs', e1, e2⟩ := h1
    exact ⟨cs', t, e1, by rw [e2, hcz]⟩
  · rw [h4 o (by simp; omega)]
    exact World.cell?_of_block (w := w) (w' := w1) (a := ⟨B (p / 16), o, none⟩) (hbl _ hBl (by rw [hB]; simp))
  · have hj8 : j < 8 := by have := (List.getElem?_eq_some_iff.1 hj).1; rw [slotCells_len] at this; exact this
    by_cases e : j = 2
    · subst e
      have := h5 0 (.slice A n c) rfl
      rw [show p % 16 * 8 + 2 + 0 = p % 16 * 8 + 2 by omega] at this
      rw [this, ← hj]
      rfl
    · rw [h4 _ (by simp; omega), World.cell?_of_block (w := w) (w' := w1) (a := ⟨B (p / 16), p % 16 * 8 + j, none⟩) (hbl _ hBl (by rw [hB]; simp))]
      refine h.cells p hpm j u ?_
      rw [← hj]
      match j, e, hj8 with
      | 0, _, _ => rfl
      | 1, _, _ => rfl
      | 3, _, _ => rfl
      | 4, _, _ => rfl
      | 5, _, _ => rfl
      | 6, _, _ => rfl
      | 7, _, _ => rfl
  · have e0 : ({ a with kids := upd a.kids p l } : Av).kids p = l := upd_same _ _ _
    rw [e0]
    refine ⟨hown.kept fun ad e => h2 _ (hAne ad e), hn, fun ad e => ?_⟩
    rcases hA ad e with e3 | e3
    · have := hkr ad e3
      by_cases e4 : w.heap.size ≤ ad.block ∧ ad.block < w1.heap.size
      · exact if_pos e4
      · exact (if_neg e4).trans this
    · exact if_pos ⟨e3, hAlt ad e⟩
  · have e0 : ({ a with kids := upd a.kids p l } : Av).kids p = l := upd_same _ _ _
    rw [e0]
    exact hl
  · refine (h.dat p hpm).kept (fun k hk => ?_) fun k hk => ?_
    · have hkl : k < w.heap.size := h.low k (by rw [hk]; simp)
      exact (if_neg (by omega)).trans hk
    · have hkl : k < w.heap.size := h.low k (by rw [hk]; simp)
      exact (h2 k (fun e => by rw [e, hB] at hk; cases hk)).trans (hbl k hkl (by rw [hk]; simp))
  · exact h.pars p
  · refine ((FrX.of_below hb).trans hf fun k hk => .inl ?_).trans (h6 (fun k => k = B (p / 16)) rfl) fun k hk => .inl ?_
    · show (ow k).prg
      rw [hlies k hk]
      trivial
    · show (ow k).prg
      subst hk
      rw [hB]
      trivial
set_option maxHeartbeats 1000000 in
theorem putIn_any (h : PA w ow P a B m sv sA sc fA fc) {s p i : Nat} (hp : p < a.cnt) (hi : i ≤ (a.kids p).length) (hl : (a.kids p).length < 100000) (hs : s ≤ 1000000) :
    Calls Try.prog 45 #[.pointer (some ⟨P, 0, none⟩), .int .i64 (s : Int), .int .i64 (p : Int), .int .i64 (i : Int)] w fun e w' => e = .returned (.tuple #[]) ∧ Did w w' ow P (putInV a s p i) := by
  have h' := Lib.hid h
  have hpm := Lib.hid (show p < m * 16 by have := h.room; omega)
  have hki := Lib.hid (h.kids p hpm.out)
  obtain ⟨-, -, c2, -⟩ := h.eight hpm.out
  obtain ⟨hB, cs, t, hcs, hcz⟩ := h.slab (p / 16) (by have := hpm.out; omega)
  have hcs' := Lib.hid hcs
  have hB' := Lib.hid hB
  have hlen := hki.out.len
  rw [hlen] at c2
  have hi' := Lib.hid hi
  have hl' := Lib.hid hl
  have hp' := Lib.hid hp
  obtain ⟨n, hn⟩ : ∃ n, n = (a.kids p).length := ⟨_, rfl⟩
  have hn' := Lib.hid hn
  rw [← hn] at c2 hi hl hlen
  have hrow := Lib.hid (show ∀ w0 : World, Below w.heap.size w w0 → OwnN w0 (.slice (sv p).kA n (sv p).kc) (a.kids p) from fun w0 hb => by
    rw [← hlen]
    exact hki.out.own.kept fun ad e => hb.block _ (h.low _ (by rw [hki.out.role ad e]; simp)))
  have hlow := Lib.hid h.low
  clear h hn hcs hB hp hlen
  have hal : ∀ o, Below w.heap.size w (w.alloc o) := fun o => (Below.refl _ _).alloc (Nat.le_refl _) _
  have hal' := Lib.hid hal
  clear hal
  go_enter Try.func45, Try.ntmps45
  go_wp2_with (first
    | (refine (node_any h'.out hpm.out).mono ?_; rintro e w7 ⟨rfl, rfl⟩)
    | (refine (insert_any (i := i) (x := s) (vb := w.heap.size) (hrow.out _ (hal'.out _)) hi (by omega) (heap_alloc_new w _) (fun ⟨ad, e, e2⟩ => by have := hlow.out ad.block (by rw [hki.out.role ad e]; simp); omega)).mono ?_; rintro e w7 ⟨A1, c1, rfl, hown, hf, hA⟩; have zh := (hf.block (B (p / 16)) (by have := (Array.getElem?_eq_some_iff.1 hcs'.out).1; simp; omega) (fun ⟨ad, e, e2⟩ => by have := hki.out.role ad e; rw [← e2, hB'.out] at this; cases this)).trans (((hal'.out _).block _ (Array.getElem?_eq_some_iff.1 hcs'.out).1).trans hcs'.out); have zf := fun o => frozen_of_row w7 _ o _ _ zh; have z2 := (World.cell?_of_block (w := w) (w' := w7) (a := ⟨B (p / 16), p % 16 * 8 + 2, none⟩) (zh.trans hcs'.out.symm)).trans c2; have hown' := Lib.hid hown; have hf' := Lib.hid hf; have hA' := Lib.hid hA; clear hown hf hA zh))
  go_end0
  refine ⟨rfl, kidsPut h'.out hp'.out (l := ins (a.kids p) i s) (by rw [ins_len]; have := hl'.out; omega) (hal'.out _) hf'.out hown'.out fun ad e => ?_⟩
  rcases hA'.out ad e with e | e
  · exact .inl e
  · right; simp at e; omega
set_option maxHeartbeats 1000000 in
theorem takeOut_any (h : PA w ow P a B m sv sA sc fA fc) {s p i : Nat} (hs : s < a.cnt) (hpar : a.par s = (p : Int)) (hp : p < a.cnt) (hi : (a.kids p)[i]? = some s) (hne : ∀ j, j < i → (a.kids p)[j]? ≠ some s) :
    Calls Try.prog 47 #[.pointer (some ⟨P, 0, none⟩), .int .i64 (s : Int)] w fun e w' => e = .returned (.tuple #[.int .i64 (p : Int), .int .i64 (i : Int)]) ∧ Did w w' ow P (cutV a p i) := by
  have h' := Lib.hid h
  have hpm := Lib.hid (show p < m * 16 by have := h.room; omega)
  have hsm := Lib.hid (show s < m * 16 by have := h.room; omega)
  have hki := Lib.hid (h.kids p hpm.out)
  obtain ⟨-, -, c2, -⟩ := h.eight hpm.out
  obtain ⟨-, e1, -⟩ := h.eight hsm.out
  rw [hpar] at e1
  obtain ⟨hB, cs, t, hcs, hcz⟩ := h.slab (p / 16) (by have := hpm.out; omega)
  have hcs' := Lib.hid hcs
  have hB' := Lib.hid hB
  have hp' := Lib.hid hp
  have hi' := Lib.hid hi
  have hne' := Lib.hid hne
  have hil := (List.getElem?_eq_some_iff.1 hi).1
  have hlk := h.ksmall p
  have hi3 : (i : Int) ≤ 100000 := by omega
  have hks := Lib.hid hlk
  clear h hcs hB hp hi hne hpar hil hlk
  generalize hkA : (sv p).kA = kA at c2
  generalize hkn : (sv p).kn = kn at c2
  generalize hkc : (sv p).kc = kc at c2
  have hrow := Lib.hid (show OwnN w (.slice kA kn kc) (a.kids p) by rw [← hkA, ← hkn, ← hkc]; exact hki.out.own)
  have hkA' := Lib.hid hkA
  clear hkA hkn hkc
  go_enter Try.func47, Try.ntmps47
  go_wp2_with (first
    | (refine (index_any hrow.out hi'.out hne'.out).mono ?_; rintro e w7 ⟨rfl, rfl⟩)
    | (refine (delete_any hrow.out hi'.out).mono ?_; rintro e w7 ⟨rfl, hown, hf⟩; have zh := (hf.block (B (p / 16)) (Array.getElem?_eq_some_iff.1 hcs'.out).1 (fun ⟨ad, e, e2⟩ => by have := hki.out.role ad (hkA'.out.trans e); rw [← e2, hB'.out] at this; cases this)).trans hcs'.out; have zf := fun o => frozen_of_row w7 _ o _ _ zh; have z2 := (World.cell?_of_block (w := w) (w' := w7) (a := ⟨B (p / 16), p % 16 * 8 + 2, none⟩) (zh.trans hcs'.out.symm)).trans c2; have hown' := Lib.hid hown; have hf' := Lib.hid hf; clear hown hf zh)
    | (go_at_call_of 39 s; refine (node_any h'.out hsm.out).mono ?_; rintro e w7 ⟨rfl, rfl⟩)
    | (refine (node_any h'.out hpm.out).mono ?_; rintro e w7 ⟨rfl, rfl⟩))
  refine bodyPost_ret (v := .tuple #[.int .i64 (p : Int), .int .i64 (i : Int)]) (by simp [results, Try.results47, go_sem]) rfl ⟨rfl, ?_⟩
  have hcl := cut_len hi'.out
  exact kidsPut h'.out hp'.out (l := cutL (a.kids p) i) (by have := hks.out; omega) (Below.refl _ _) (by rw [hkA'.out]; exact hf'.out) hown'.out fun ad e => .inl (hkA'.out.trans e)
end
end Go.Proofs.Ytiikakfdelkjhaa.Arn
