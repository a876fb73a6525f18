/- A slot is taken: the program's. -/
import Derived.Test.YtiikakfdelkjhaaArnG
namespace Go.Proofs.Ytiikakfdelkjhaa.Arn
open Go.RowKit
set_option maxRecDepth 20000

theorem OwnN.upto {w : World} {A : Option Addr} {n c : Nat} {l : List Nat} (h : OwnN w (.slice A n c) l) {q : Nat} (hq : q ≤ n) : OwnN w (.slice A q c) (l.take q) := by
  obtain ⟨h1, h2, h3, h4, h5⟩ := h.blk
  have hl : (l.take q).length = q := by rw [List.length_take]; omega
  cases A with
  | none =>
    have := h4 rfl
    have q0 : q = 0 := by omega
    subst this
    subst q0
    rw [List.take_zero]
    exact OwnN.nil_ w
  | some ad =>
    obtain ⟨g, cur, rfl, hg, hs, ht⟩ := h5 ad rfl
    refine own_of hg hl.symm hs (by omega) h3 ?_
    unfold nums at ht ⊢
    rw [List.map_take, ← ht, List.take_take, Nat.min_eq_left hq]
section
variable {w : World} {ow : Nat → Role} {P : Nat} {a : Av} {B : Nat → Nat} {m : Nat} {sv : Nat → SV} {sA : Option Addr} {sc : Nat} {fA : Option Addr} {fc : Nat}
theorem take_free_any (h : PA w ow P a B m sv sA sc fA fc) (hne : a.free ≠ []) : Calls Try.prog 29 #[.pointer (some ⟨P, 0, none⟩)] w fun e w' => e = .returned (.int .i64 (slotV a : Int)) ∧ Did w w' ow P (takeV a) := by
  obtain ⟨s, hs⟩ : ∃ s, a.free.getLast? = some s := ⟨_, List.getLast?_eq_some_getLast hne⟩
  have hsl : slotV a = s := by unfold slotV; rw [hs]
  have htk : takeV a = { a with free := a.free.dropLast } := by unfold takeV; rw [hs]
  obtain ⟨n, hn⟩ : ∃ n, n + 1 = a.free.length := ⟨a.free.length - 1, by have := List.length_pos_iff.2 hne; omega⟩
  have hget : a.free[n]? = some s := by rw [List.getLast?_eq_getElem?] at hs; rw [← hs]; congr 1; omega
  obtain ⟨g, hg, hgc⟩ := h.free.at_ hget
  obtain ⟨c0, c1, c2, cf⟩ := h.head_cells
  have hcap := h.free.blk.2.1
  have hcm := h.free.blk.2.2.1
  have hfs := h.fsmall
  have hfin : Hid (Did w (w.setCell ⟨P, 2, none⟩ (.slice fA n fc)) ow P (takeV a)) := Lib.hid (by
    rw [htk]
    have hdl : a.free.dropLast.length = n := by rw [List.length_dropLast]; omega
    have hPl := (Array.getElem?_eq_some_iff.1 h.head).1
    refine ⟨ow, ⟨B, m, sv, sA, sc, fA, fc, h.freed rfl (by omega) (fun _ _ => rfl) (fun k hk => by have := h.low k hk; simpa using this) (fun k _ hk _ => heap_setCell_other w ⟨P, 2, none⟩ k _ hk) ?_ ?_ h.rFree⟩, fun _ _ => rfl, (FrX.refl _ _).setCell (by show (ow P).prg; rw [h.rP]; trivial)⟩
    · rw [heap_setCell_same w P 2 _ _ _ h.head, hdl]
      rfl
    · have := h.free.upto (q := n) (by omega)
      rw [hdl, List.dropLast_eq_take, show a.free.length - 1 = n by omega]
      refine this.kept fun ad e => heap_setCell_other w ⟨P, 2, none⟩ _ _ fun e2 => ?_
      have h1 := h.rFree ad e
      rw [show ad.block = P from e2, h.rP] at h1
      cases h1)
  rw [hsl]
  rw [← hn] at c2 hcap hfs
  rw [hg] at c2 hfin
  unfold natV at hgc
  have hn1 : ((n : Int) + 1) - 1 = (n : Int) := by omega
  have hnI : (n : Int) < (n : Int) + 1 := by omega
  clear h hs hsl htk hget hg c0 c1 hne hn
  go_enter Try.func29, Try.ntmps29
  go_wp2_with fail
  go_ret
  exact ⟨rfl, hfin.out⟩
theorem take_more_any (h : PA w ow P a B m sv sA sc fA fc) (hne : a.free = []) (hroom : a.cnt ≠ m * 16) (hsm : a.cnt < 100000) : Calls Try.prog 29 #[.pointer (some ⟨P, 0, none⟩)] w fun e w' => e = .returned (.int .i64 (slotV a : Int)) ∧ Did w w' ow P (takeV a) := by
  have hsl : slotV a = a.cnt := by unfold slotV; rw [hne]; rfl
  have htk : takeV a = { a with cnt := a.cnt + 1 } := by unfold takeV; rw [hne]; rfl
  obtain ⟨c0, c1, c2, cf⟩ := h.head_cells
  have hro := h.room
  have htg := h.tight
  have hfin : ∀ q, Did w ((w.drewN q).setCell ⟨P, 1, none⟩ (.int .i64 ((a.cnt : Int) + 1))) ow P (takeV a) := fun q => by
    rw [htk]
    have hh : (w.drewN q).heap[P]? = _ := h.head
    refine ⟨ow, ⟨B, m, sv, sA, sc, fA, fc, h.counted rfl (by omega) hsm (by simp) (fun k hk => heap_setCell_other (w.drewN q) ⟨P, 1, none⟩ k _ hk) ?_⟩, fun _ _ => rfl, ((FrX.refl _ _).drewN q).setCell (by show (ow P).prg; rw [h.rP]; trivial)⟩
    rw [heap_setCell_same (w.drewN q) P 1 _ _ _ hh]
    rfl
  have hfin' := Lib.hid hfin
  rw [hsl]
  rw [hne] at c2
  generalize a.cnt = n at *
  have hnm : ((n : Int) == (m : Int) * 16) = false := by simp; omega
  have hm1 : (m : Int) ≤ 100000 := by omega
  have hn1 : ((n : Int) + 1) - 1 = (n : Int) := by omega
  clear h hne hsl htk hfin
  go_enter Try.func29, Try.ntmps29
  go_wp2_with fail
  go_quiet (fail)
  go_wp2_with fail
  go_ret
  exact ⟨rfl, hfin'.out _⟩
theorem Try.infoSlab : (Try.prog.info? 85).map (fun i => (i.zero, i.size, i.bytes)) = some (some (.pointer none), 1, 8) := by kernel_rfl
def zeros8 : List Value := [.bool false, .int .i64 0, .slice none 0 0, .int .u64 0, .bool false, .string ⟨#[]⟩, .slice none 0 0, .string ⟨#[]⟩]
def zeros16 : List Value := (List.replicate 16 ()).flatMap fun _ => zeros8
theorem slab_zero : Try.zeroCells87 = zeros16.toArray := by kernel_rfl
theorem slab_at {i j : Nat} {u : Value} (hi : i < 16) (hu : zeros8[j]? = some u) : zeros16[i * 8 + j]? = some u :=
  chunk_of (fun _ : Unit => zeros8) 8 (fun _ => rfl) (List.replicate 16 ()) i j () u (by rw [List.getElem?_replicate, if_pos hi]) hu
theorem wpList_append_slab {ops : Array Oper} {rest : List Oper} {o : Oper} {a : Act} {Q : Exit → Act → World → Prop} (hgd : o.guard = none) (s x : Operand)
    (ho : o.op = .call { callee := .builtin .append, args := #[s, x], argTypes := #[63, 63] }) (w0 : World) (z : Obj) (sA : Option Addr) (m sc : Nat) (xs : List Value)
    (hs : a.eval s = .slice sA m sc) (hown : w0.ownsRow 0 85 1 (.slice sA m sc) m xs) (hx : a.eval x = .slice (some ⟨w0.heap.size + 1, 0, none⟩) 1 1) (hm : m ≤ 100001)
    (h : ∀ v c w', w'.ownsRow 0 85 1 (.slice v (m + 1) c) (m + 1) (xs ++ [.pointer (some ⟨w0.heap.size, 0, none⟩)]) → ((w0.alloc z).alloc (.cells #[.pointer (some ⟨w0.heap.size, 0, none⟩)] 85)).grownBy w' (Value.slice sA m sc).ownBlock →
      ((Value.slice v (m + 1) c).ownBlock = (Value.slice sA m sc).ownBlock ∨ (Value.slice v (m + 1) c).ownBlock = some (w0.heap.size + 2)) → wpList Try.prog ops Q rest (a.put o.dst (.slice v (m + 1) c)) w') :
    wpList Try.prog ops Q (o :: rest) a ((w0.alloc z).alloc (.cells #[.pointer (some ⟨w0.heap.size, 0, none⟩)] 85)) := by
  obtain ⟨i0, hi, hz0, hz1, hz2⟩ := info_parts Try.infoSlab
  have hcell := cell_one_new (w0.alloc z) (.pointer (some ⟨w0.heap.size, 0, none⟩)) 85
  have hz : (w0.alloc z).heap.size = w0.heap.size + 1 := by simp
  rw [hz] at hcell
  refine wpList_append_own_at _ hgd _ _ _ ho 0 85 i0 (.pointer none) 1 8 Try.underlying63 hi hz0 hz1 hz2 rfl (by omega) _ m _ hs (World.ownsRow.alloc (World.ownsRow.alloc hown _) _) ⟨w0.heap.size + 1, 0, none⟩ 1 1 [.pointer (some ⟨w0.heap.size, 0, none⟩)] hx rfl hcell (by intro u hu; simp at hu; subst hu; rfl) (by unfold maxLen; omega) (by omega) (Nat.zero_le _) ?_
  intro v' w1 hown1 hgrow _ hat
  obtain ⟨A', c', rfl, hcc, -, -, -⟩ := own_form hown1
  have h2 : ((w0.alloc z).alloc (.cells #[.pointer (some ⟨w0.heap.size, 0, none⟩)] 85)).heap.size = w0.heap.size + 2 := by simp
  rw [h2] at hat
  exact h A' c' w1 hown1 hgrow hat
/-- a slab more -/
theorem slabbed (h : PA w ow P a B m sv sA sc fA fc) (hroom : a.cnt = m * 16) (hsm : a.cnt < 100000) {q : Nat} {w1 : World} {v : Option Addr} {c : Nat} {row : Array Value}
    (hown : w1.ownsRow 0 85 1 (.slice v (m + 1) c) (m + 1) (((List.range m).map fun i => (Value.pointer (some ⟨B i, 0, none⟩))) ++ [.pointer (some ⟨w.heap.size, 0, none⟩)]))
    (hg : (((w.drewN q).alloc (.cells Try.zeroCells87 87)).alloc (.cells row 85)).grownBy w1 (Value.slice sA m sc).ownBlock)
    (hat : (Value.slice v (m + 1) c).ownBlock = (Value.slice sA m sc).ownBlock ∨ (Value.slice v (m + 1) c).ownBlock = some (w.heap.size + 2)) :
    Did w ((w1.setCell ⟨P, 0, none⟩ (.slice v (m + 1) c)).setCell ⟨P, 1, none⟩ (.int .i64 ((a.cnt : Int) + 1))) ow P { a with cnt := a.cnt + 1 } := by
  have hz1 := hg.size
  have hz1' : w.heap.size + 2 ≤ w1.heap.size := by simpa using hz1
  have hnew : ∀ k, k < w.heap.size → some k ≠ (Value.slice sA m sc).ownBlock → w1.heap[k]? = w.heap[k]? := fun k hk hne =>
    (hg.block k (by simp; omega) hne).trans ((Go.heap_alloc_old _ _ (by simp; omega)).trans (Go.heap_alloc_old (w.drewN q) _ hk))
  have hblkrow : ∀ k, (Value.slice sA m sc).ownBlock = some k → ow k = .arow ∧ k < w.heap.size := fun k hk => by
    obtain ⟨ad, e, rfl⟩ := own_block hk
    have := h.rRow ad e
    exact ⟨this, h.low _ (by rw [this]; simp)⟩
  have hslab : w1.heap[w.heap.size]? = some (.cells Try.zeroCells87 87 (0, 0)) := by
    refine (hg.block w.heap.size (by simp; omega) (fun e => ?_)).trans ((Go.heap_alloc_old _ _ (by simp)).trans (heap_alloc_new (w.drewN q) _))
    have := (hblkrow _ e.symm).2
    omega
  have hPl : P < w.heap.size := (Array.getElem?_eq_some_iff.1 h.head).1
  have hP1 : w1.heap[P]? = some (.cells #[.slice sA m sc, .int .i64 (a.cnt : Int), .slice fA a.free.length fc] 65 (0, 0)) := (hnew P hPl (fun e => by have := (hblkrow _ e.symm).1; rw [h.rP] at this; cases this)).trans h.head
  obtain ⟨W, hW⟩ : ∃ W, W = (w1.setCell ⟨P, 0, none⟩ (.slice v (m + 1) c)).setCell ⟨P, 1, none⟩ (.int .i64 ((a.cnt : Int) + 1)) := ⟨_, rfl⟩
  rw [← hW]
  have hWo : ∀ k, k ≠ P → W.heap[k]? = w1.heap[k]? := fun k hk => by rw [hW]; exact (heap_setCell_other _ ⟨P, 1, none⟩ k _ hk).trans (heap_setCell_other _ ⟨P, 0, none⟩ k _ hk)
  have hWz : W.heap.size = w1.heap.size := by rw [hW]; simp
  have hWP : W.heap[P]? = some (.cells #[.slice v (m + 1) c, .int .i64 ((a.cnt : Int) + 1), .slice fA a.free.length fc] 65 (0, 0)) := by
    rw [hW, heap_setCell_same _ P 1 _ _ _ (heap_setCell_same w1 P 0 _ _ _ hP1)]
    rfl
  have hWf : FrX (fun k => (ow k).prg) w W := by
    rw [hW]
    refine FrX.setCell (FrX.setCell ⟨hg.os, hg.tape, hg.output, by omega, fun k hk hn => hnew k hk (fun e => hn ?_)⟩ ?_) ?_
    · rw [(hblkrow k e.symm).1]; trivial
    · show (ow P).prg
      rw [h.rP]; trivial
    · show (ow P).prg
      rw [h.rP]; trivial
  clear hW
  have lt : ∀ k r, ow k = r → r ≠ .off → k < w.heap.size := fun k r e hn => h.low k (by rw [e]; exact hn)
  obtain ⟨ow9, how⟩ : ∃ ow9 : Nat → Role, ow9 = fun k => if k < w.heap.size then ow k else if k = w.heap.size then .aslab m else if k = w.heap.size + 2 ∧ k < W.heap.size then .arow else .off := ⟨_, rfl⟩
  have hold : ∀ k, k < w.heap.size → ow9 k = ow k := fun k hk => by rw [how]; exact if_pos hk
  have hsame : ∀ k r, ow k = r → r ≠ .off → ow9 k = r := fun k r e hn => (hold k (lt k r e hn)).trans e
  have hkk : ∀ k r, ow k = r → r.used → r ≠ .ahead → r ≠ .arow → W.heap[k]? = w.heap[k]? := fun k r e hu h1 h2 => by
    have hkl := lt k r e (by intro e2; rw [e2] at hu; exact hu)
    refine (hWo k fun e2 => h1 (by rw [← e, e2]; exact h.rP)).trans (hnew k hkl fun e2 => h2 (by rw [← e]; exact (hblkrow k e2.symm).1))
  have hslabW : W.heap[w.heap.size]? = some (.cells Try.zeroCells87 87 (0, 0)) := (hWo _ (by omega)).trans hslab
  refine ⟨ow9, ⟨fun i => if i = m then w.heap.size else B i, m + 1, fun i => if i < m * 16 then sv i else SV.zero, v, c, fA, fc, ?_⟩, hold, hWf⟩
  have hB' : ∀ i, i < m → (if i = m then w.heap.size else B i) = B i := fun i hi => if_neg (by omega)
  have hv9 : ∀ ad, v = some ad → ow9 ad.block = .arow := fun ad e => by
    subst e
    rcases hat with e | e
    · obtain ⟨ad2, e2, e3⟩ := own_block e.symm
      have e3' : ad.block = ad2.block := e3
      rw [e3']
      exact hsame _ _ (h.rRow ad2 e2) (by simp)
    · injection e with e
      have hlt := (World.ownsRow.lt hown ad.block rfl).2
      rw [how]
      simp only []
      rw [if_neg (by omega), if_neg (by omega), if_pos ⟨e, by omega⟩]
  refine { head := by rw [hWP]; rfl, rP := hsame _ _ h.rP (by simp), row := ?_, rRow := hv9, free := ?_, rFree := fun ad e => hsame _ _ (h.rFree ad e) (by simp),
           room := by show a.cnt + 1 ≤ _; omega, tight := by show _ < a.cnt + 1 + 16; omega, small := by show a.cnt + 1 ≤ _; omega, fsmall := h.fsmall, slab := ?_, cells := ?_, kids := ?_, ksmall := h.ksmall, dat := ?_, low := ?_, zero := fun i hi => h.zero i (by have hi' : a.cnt + 1 ≤ i := hi; omega), pars := h.pars }
  · have hm : ((List.range (m + 1)).map fun i => (Value.pointer (some ⟨if i = m then w.heap.size else B i, 0, none⟩))) = ((List.range m).map fun i => (Value.pointer (some ⟨B i, 0, none⟩))) ++ [.pointer (some ⟨w.heap.size, 0, none⟩)] := by
      rw [List.range_succ, List.map_append]
      congr 1
      · refine List.map_congr_left fun i hi => ?_
        rw [hB' i (List.mem_range.1 hi)]
      · simp
    rw [hm]
    refine own_kept hown fun k e => hWo k fun e2 => ?_
    obtain ⟨ad, e3, e4⟩ := own_block e
    have h1 := hv9 ad e3
    rw [← e4, e2, hsame _ _ h.rP (by simp)] at h1
    cases h1
  · refine own_kept h.free fun k e => ?_
    obtain ⟨ad, rfl, rfl⟩ := own_block e
    exact hkk _ _ (h.rFree ad rfl) trivial (by simp) (by simp)
  · intro i hi
    by_cases e : i = m
    · subst e
      refine ⟨?_, Try.zeroCells87, 87, ?_, ?_⟩
      · simp only [if_pos]
        rw [how]
        simp
      · simp only [if_pos]
        exact hslabW
      · rw [slab_zero]; rfl
    · have e' := hB' i (by omega)
      rw [e']
      obtain ⟨h1, cs, t, h2, h3⟩ := h.slab i (by omega)
      exact ⟨hsame _ _ h1 (by simp), cs, t, (hkk _ _ h1 trivial (by simp) (by simp)).trans h2, h3⟩
  · intro i hi j u hj
    by_cases e : i < m * 16
    · simp only [if_pos e] at hj
      rw [hB' (i / 16) (by omega)]
      have h1 := (h.slab (i / 16) (by omega)).1
      exact (World.cell?_of_block (w := w) (w' := W) (a := ⟨B (i / 16), i % 16 * 8 + j, none⟩) (hkk _ _ h1 trivial (by simp) (by simp))).trans (h.cells i e j u hj)
    · simp only [if_neg e] at hj
      rw [if_pos (show i / 16 = m by omega), cell_of_row _ _ _ _ _ _ hslabW, slab_zero, List.getElem?_toArray]
      refine slab_at (by omega) ?_
      rw [← hj]
      obtain ⟨z1, z2, z3, z4⟩ := h.zero i (by omega)
      show zeros8[j]? = (slotCells { a with cnt := a.cnt + 1 } SV.zero i)[j]?
      unfold slotCells datCells SV.zero
      simp only [z1, z2, z4]
      rfl
  · intro i hi
    by_cases e : i < m * 16
    · simp only [if_pos e]
      have hki := h.kids i e
      refine ⟨own_kept hki.own fun k e2 => ?_, hki.len, fun ad e2 => hsame _ _ (hki.role ad e2) (by simp)⟩
      obtain ⟨ad, e3, rfl⟩ := own_block e2
      exact hkk _ _ (hki.role ad e3) trivial (by simp) (by simp)
    · simp only [if_neg e]
      rw [show ({ a with cnt := a.cnt + 1 } : Av).kids i = [] from (h.zero i (by omega)).2.2.1]
      exact ⟨OwnN.nil_ _, rfl, fun ad e => by cases e⟩
  · intro i hi
    by_cases e : i < m * 16
    · simp only [if_pos e]
      exact (h.dat i e).kept (fun k e => hsame k _ e (by simp)) (fun k e => hkk k _ e trivial (by simp) (by simp))
    · simp only [if_neg e]
      rw [show ({ a with cnt := a.cnt + 1 } : Av).dat i = Dt.zero from (h.zero i (by omega)).2.2.2]
      exact DatOk.zero_ _ _
  · intro k hk
    rw [hWz]
    rw [how] at hk
    simp only [] at hk
    by_cases h1 : k < w.heap.size
    · omega
    · rw [if_neg h1] at hk
      by_cases h2 : k = w.heap.size
      · omega
      · rw [if_neg h2] at hk
        by_cases h3 : k = w.heap.size + 2 ∧ k < W.heap.size
        · omega
        · rw [if_neg h3] at hk
          exact absurd rfl hk
theorem take_slab_any (h : PA w ow P a B m sv sA sc fA fc) (hne : a.free = []) (hroom : a.cnt = m * 16) (hsm : a.cnt < 100000) : Calls Try.prog 29 #[.pointer (some ⟨P, 0, none⟩)] w fun e w' => e = .returned (.int .i64 (slotV a : Int)) ∧ Did w w' ow P (takeV a) := by
  have hsl : slotV a = a.cnt := by unfold slotV; rw [hne]; rfl
  obtain ⟨c0, c1, c2, cf⟩ := h.head_cells
  rw [hsl]
  rw [hne] at c2
  rw [hroom] at c1 hsm ⊢
  have hm1 : (m : Int) ≤ 100000 := by omega
  have hnm : (((m * 16 : Nat) : Int) == (m : Int) * 16) = true := by simp
  have hn1 : (((m * 16 : Nat) : Int) + 1) - 1 = ((m * 16 : Nat) : Int) := by omega
  have htk : takeV a = { a with cnt := a.cnt + 1 } := by unfold takeV; rw [hne]; rfl
  rw [htk, hroom]
  have hfin := Lib.hid (fun (q : Nat) (w1 : World) (v : Option Addr) (c : Nat) (row : Array Value) => slabbed h hroom (by omega) (q := q) (w1 := w1) (v := v) (c := c) (row := row))
  rw [hroom] at hfin
  have hrow := Lib.hid h.row
  have hP := Lib.hid h.head
  have hPl := Lib.hid (Array.getElem?_eq_some_iff.1 h.head).1
  have hrr := Lib.hid (fun (e : some P = (Value.slice sA m sc).ownBlock) => show False from by
    obtain ⟨ad, e1, e2⟩ := own_block e.symm
    have := h.rRow ad e1
    rw [← e2, h.rP] at this
    cases this)
  rw [hroom] at hP
  clear h hne hsl hroom htk
  generalize hN : m * 16 = n at *
  have hml : m ≤ 100001 := by omega
  clear hN
  go_enter Try.func29, Try.ntmps29
  go_wp2_with fail
  go_quiet (fail)
  go_wp2_with (at_builtin; refine wpList_append_slab rfl _ _ rfl (w.drewN nq) _ sA m sc _ rfl hrow.out rfl hml ?_; intro v c w1 hown hgrow hat; have zh := ((hgrow.block P (by simp; have := hPl.out; omega) (fun e => hrr.out e)).trans ((Go.heap_alloc_old _ _ (by simp; have := hPl.out; omega)).trans (Go.heap_alloc_old (w.drewN nq) _ hPl.out))).trans hP.out; have zf := fun o => frozen_of_row w1 P o _ _ zh; have z0 := cell_of_row w1 P 0 _ _ _ zh; have z1 := cell_of_row w1 P 1 _ _ _ zh; have hown' := Lib.hid hown; have hgrow' := Lib.hid hgrow; have hat' := Lib.hid hat; clear hown hgrow hat zh)
  go_ret
  exact ⟨rfl, hfin.out _ _ _ _ _ hown'.out hgrow'.out hat'.out⟩
theorem take_any (h : PA w ow P a B m sv sA sc fA fc) (hsm : a.cnt < 100000) : Calls Try.prog 29 #[.pointer (some ⟨P, 0, none⟩)] w fun e w' => e = .returned (.int .i64 (slotV a : Int)) ∧ Did w w' ow P (takeV a) := by
  by_cases hne : a.free = []
  · by_cases hroom : a.cnt = m * 16
    · exact take_slab_any h hne hroom hsm
    · exact take_more_any h hne hroom hsm
  · exact take_free_any h hne
end
end Go.Proofs.Ytiikakfdelkjhaa.Arn
