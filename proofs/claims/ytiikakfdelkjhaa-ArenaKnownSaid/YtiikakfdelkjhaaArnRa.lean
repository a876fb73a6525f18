/- The document's arena in memory; put, place, drop, Live: the document's. -/
import Derived.Test.YtiikakfdelkjhaaArnL
import Derived.Test.YtiikakfdelkjhaaArnR
namespace Go.Proofs.Ytiikakfdelkjhaa.Arn
open Go.RowKit
set_option maxRecDepth 20000
set_option linter.unusedVariables false

def refCells (a : Av) (s : SV) (i : Nat) : List Value := [.bool (a.live i), .int .u64 ((a.dat i).id : Int), .bool (a.dat i).leaf, .string ⟨(a.dat i).label.toArray⟩, .slice s.aA s.an s.ac, .string ⟨(a.dat i).text.toArray⟩, .int .i64 (a.par i), .slice s.kA s.kn s.kc]
def Role.ref : Role → Prop
  | .rhead | .rrow | .rfree => True
  | _ => False
def Role.rused : Role → Prop
  | .rhead | .rrow | .rfree | .imm => True
  | _ => False
/-- a row of numbers that nobody writes -/
structure ImmN (T : Nat → Prop) (w : World) (A : Option Addr) (n c : Nat) (l : List Nat) : Prop where
  ns : Ns w A n l
  blk : ∀ ad, A = some ad → T ad.block
  knc : n ≤ c
  kcm : c ≤ maxLen
  knil : A = none → c = 0
theorem ImmN.kept {T T' : Nat → Prop} {w w' : World} {A : Option Addr} {n c : Nat} {l : List Nat} (h : ImmN T w A n c l) (hs : w.heap.size ≤ w'.heap.size) (hT : ∀ k, T k → T' k) (hk : ∀ k, T k → w'.heap[k]? = w.heap[k]?) : ImmN T' w' A n c l :=
  ⟨h.ns.kept hs fun ad e => hk _ (h.blk ad e), fun ad e => hT _ (h.blk ad e), h.knc, h.kcm, h.knil⟩
theorem ImmN.nil_ (T : Nat → Prop) (w : World) : ImmN T w none 0 0 [] := ⟨⟨rfl, fun k x h => by simp at h⟩, fun ad e => (by cases e), Nat.le_refl _, Nat.zero_le _, fun _ => rfl⟩
structure RA (w : World) (ow : Nat → Role) (P g : Nat) (a : Av) (sv : Nat → SV) (sc : Nat) (fA : Option Addr) (fc : Nat) : Prop where
  head : w.heap[P]? = some (.cells #[.slice (some ⟨g, 0, none⟩) a.cnt sc, .slice fA a.free.length fc] 70 (0, 0))
  rP : ow P = .rhead
  row : ∃ cur, w.heap[g]? = some (.cells cur 35 (0, 0)) ∧ cur.size = sc * 8
  rRow : ow g = .rrow
  cap : a.cnt ≤ sc
  capm : sc ≤ maxLen
  free : OwnN w (.slice fA a.free.length fc) a.free
  rFree : ∀ ad, fA = some ad → ow ad.block = .rfree
  small : a.cnt ≤ 100000
  fsmall : a.free.length ≤ 100000
  cells : ∀ i, i < a.cnt → ∀ j u, (refCells a (sv i) i)[j]? = some u → w.cell? ⟨g, i * 8 + j, none⟩ = some u
  kids : ∀ i, i < a.cnt → ImmN (fun k => ow k = .imm) w (sv i).kA (sv i).kn (sv i).kc (a.kids i)
  ksmall : ∀ i, (a.kids i).length ≤ 100000
  dat : ∀ i, i < a.cnt → DatOk (fun k => ow k = .imm) w (a.dat i) (sv i).aA (sv i).an (sv i).ac
  low : ∀ k, ow k ≠ .off → k < w.heap.size
  pars : ∀ i, -1 ≤ a.par i ∧ a.par i ≤ 100000
def RAr (w : World) (ow : Nat → Role) (P : Nat) (a : Av) : Prop := ∃ g sv sc fA fc, RA w ow P g a sv sc fA fc
section
variable {w w' : World} {ow ow' : Nat → Role} {P g : Nat} {a : Av} {sv : Nat → SV} {sc : Nat} {fA : Option Addr} {fc : Nat}
theorem RA.kept (h : RA w ow P g a sv sc fA fc) (hs : w.heap.size ≤ w'.heap.size) (hr : ∀ k, k < w.heap.size → ow' k = ow k) (hl : ∀ k, ow' k ≠ .off → k < w'.heap.size) (hk : ∀ k, (ow k).rused → w'.heap[k]? = w.heap[k]?) : RA w' ow' P g a sv sc fA fc := by
  have lt : ∀ k r, ow k = r → r ≠ .off → k < w.heap.size := fun k r e hn => h.low k (by rw [e]; exact hn)
  have same : ∀ k r, ow k = r → r ≠ .off → ow' k = r := fun k r e hn => (hr k (lt k r e hn)).trans e
  have hg := hk g (by rw [h.rRow]; trivial)
  refine { head := (hk P (by rw [h.rP]; trivial)).trans h.head, rP := same _ _ h.rP (by simp), row := ?_, rRow := same _ _ h.rRow (by simp), cap := h.cap, capm := h.capm, free := ?_, rFree := fun ad e => same _ _ (h.rFree ad e) (by simp),
           small := h.small, fsmall := h.fsmall, cells := ?_, kids := ?_, ksmall := h.ksmall, dat := ?_, low := hl, pars := h.pars }
  · obtain ⟨cur, e1, e2⟩ := h.row
    exact ⟨cur, hg.trans e1, e2⟩
  · exact h.free.kept fun ad e => hk _ (by rw [h.rFree ad e]; trivial)
  · intro i hi j u hj
    exact (World.cell?_of_block (w := w) (w' := w') (a := ⟨g, i * 8 + j, none⟩) hg).trans (h.cells i hi j u hj)
  · intro i hi
    exact (h.kids i hi).kept hs (fun k e => same k _ e (by simp)) (fun k e => hk k (by rw [e]; trivial))
  · intro i hi
    exact (h.dat i hi).kept (fun k e => same k _ e (by simp)) (fun k e => hk k (by rw [e]; trivial))
theorem RA.below (h : RA w ow P g a sv sc fA fc) (hb : Below w.heap.size w w') : RA w' ow P g a sv sc fA fc :=
  h.kept hb.size (fun _ _ => rfl) (fun k hk => Nat.lt_of_lt_of_le (h.low k hk) hb.size) fun k hk => hb.block k (h.low k fun e => by rw [e] at hk; exact hk)
theorem RAr.below (h : RAr w ow P a) (hb : Below w.heap.size w w') : RAr w' ow P a := by
  obtain ⟨g, sv, sc, fA, fc, h⟩ := h
  exact ⟨g, sv, sc, fA, fc, h.below hb⟩
theorem RA.head_cells (h : RA w ow P g a sv sc fA fc) : w.cell? ⟨P, 0, none⟩ = some (.slice (some ⟨g, 0, none⟩) a.cnt sc) ∧ w.cell? ⟨P, 1, none⟩ = some (.slice fA a.free.length fc) ∧ ∀ o, w.frozen? ⟨P, o, none⟩ = false :=
  ⟨cell_of_row w P 0 _ _ _ h.head, cell_of_row w P 1 _ _ _ h.head, fun o => frozen_of_row w P o _ _ h.head⟩
theorem RA.eight (h : RA w ow P g a sv sc fA fc) {s : Nat} (hs : s < a.cnt) : w.cell? ⟨g, s * 8, none⟩ = some (.bool (a.live s)) ∧ w.cell? ⟨g, s * 8 + 1, none⟩ = some (.int .u64 ((a.dat s).id : Int)) ∧ w.cell? ⟨g, s * 8 + 2, none⟩ = some (.bool (a.dat s).leaf) ∧
    w.cell? ⟨g, s * 8 + 3, none⟩ = some (.string ⟨(a.dat s).label.toArray⟩) ∧ w.cell? ⟨g, s * 8 + 4, none⟩ = some (.slice (sv s).aA (sv s).an (sv s).ac) ∧ w.cell? ⟨g, s * 8 + 5, none⟩ = some (.string ⟨(a.dat s).text.toArray⟩) ∧
    w.cell? ⟨g, s * 8 + 6, none⟩ = some (.int .i64 (a.par s)) ∧ w.cell? ⟨g, s * 8 + 7, none⟩ = some (.slice (sv s).kA (a.kids s).length (sv s).kc) := by
  have hk := (h.kids s hs).ns.1
  refine ⟨h.cells s hs 0 _ rfl, h.cells s hs 1 _ rfl, h.cells s hs 2 _ rfl, h.cells s hs 3 _ rfl, h.cells s hs 4 _ rfl, h.cells s hs 5 _ rfl, h.cells s hs 6 _ rfl, ?_⟩
  rw [hk]
  exact h.cells s hs 7 _ rfl
theorem RA.frz (h : RA w ow P g a sv sc fA fc) : ∀ o, w.frozen? ⟨g, o, none⟩ = false := fun o => by
  obtain ⟨cur, e, _⟩ := h.row
  exact frozen_of_row w g o _ _ e
theorem rlive_any (h : RA w ow P g a sv sc fA fc) (hw : WF a) (i : Int) : Calls Try.prog 31 #[.pointer (some ⟨P, 0, none⟩), .int .i64 i] w fun e w' => e = .returned (.bool (liveI a i)) ∧ w = w' := by
  have hcap := h.cap
  have hcm := h.capm
  have hsm := h.small
  by_cases h0 : 0 ≤ i
  · obtain ⟨s, rfl⟩ := Int.eq_ofNat_of_zero_le h0
    have hv := Lib.hid (show liveI a (s : Int) = a.live s by unfold liveI; simp)
    have c0 := h.head_cells.1
    by_cases hs : s < a.cnt
    · have c1 := (h.eight hs).1
      have hsI : (s : Int) < (a.cnt : Int) := by omega
      clear h hw
      go_enter Try.func31, Try.ntmps31
      go_wp2_with fail
      go_ret
      exact ⟨by rw [hv.out]; rfl, rfl⟩
    · have hz : a.live s = false := by
        cases e : a.live s with
        | false => rfl
        | true => exact absurd (hw.lt e) hs
      have hv2 := Lib.hid (hv.out.trans hz)
      have hsI : ¬ (s : Int) < (a.cnt : Int) := by omega
      clear h hz hw
      go_enter Try.func31, Try.ntmps31
      go_wp2_with fail
      go_ret
      exact ⟨by rw [hv2.out]; rfl, rfl⟩
  · have hv := Lib.hid (show liveI a i = false by unfold liveI; simp [h0])
    clear h hw
    go_enter Try.func31, Try.ntmps31
    go_wp2_with fail
    go_ret
    exact ⟨by rw [hv.out]; rfl, rfl⟩
end
/-! ### rows of numbers -/
theorem Ns.upto {w : World} {A : Option Addr} {n q : Nat} {l : List Nat} (h : Ns w A n l) (hq : q ≤ n) : Ns w A q (l.take q) := by
  refine ⟨by rw [List.length_take, h.1]; omega, fun k x hk => ?_⟩
  rw [List.getElem?_take] at hk
  split at hk
  · exact h.2 k x hk
  · cases hk
theorem Ns.from_ {w : World} {ad : Addr} {n q : Nat} {l : List Nat} (h : Ns w (some ad) n l) (hq : q ≤ n) : Ns w (some (ad.add q)) (n - q) (l.drop q) := by
  refine ⟨by rw [List.length_drop, h.1], fun k x hk => ?_⟩
  rw [List.getElem?_drop] at hk
  obtain ⟨ad', e, hlt, hc⟩ := h.2 _ x hk
  injection e with e
  subst e
  exact ⟨_, rfl, by rw [block_add]; exact hlt, by rw [add_add]; exact hc⟩
theorem Ns.one {w : World} {x : Nat} {t : TypeId} : Ns (w.alloc (.cells #[.int .i64 (x : Int)] t)) (some ⟨w.heap.size, 0, none⟩) 1 [x] := by
  refine ⟨rfl, fun k y hk => ?_⟩
  match k, hk with
  | 0, hk =>
    injection hk with hk
    subst hk
    exact ⟨_, rfl, by simp, cell_one_new w _ _ 0 _ rfl⟩
/-- what is made anew -/
structure NewN (w w' : World) (A : Option Addr) (n c : Nat) (l : List Nat) : Prop where
  own : OwnN w' (.slice A n c) l
  new : ∀ ad, A = some ad → w.heap.size ≤ ad.block
  bel : Below w.heap.size w w'
theorem NewN.imm {w w' : World} {A : Option Addr} {n c : Nat} {l : List Nat} (h : NewN w w' A n c l) : ImmN (New w w') w' A n c l := by
  obtain ⟨h1, h2, h3, h4, h5⟩ := h.own.blk
  have hn := h.own.ns
  refine ⟨hn, fun ad e => ⟨h.new ad e, ?_⟩, h2, h3, h4⟩
  obtain ⟨g, cur, rfl, hg, _⟩ := h5 ad e
  exact (Array.getElem?_eq_some_iff.1 hg).1
end Go.Proofs.Ytiikakfdelkjhaa.Arn
