/- The program's arena in memory. -/
import Derived.Test.YtiikakfdelkjhaaArnMem
namespace Go.Proofs.Ytiikakfdelkjhaa.Arn
open Go.RowKit
set_option maxRecDepth 20000

/-- what a block is for -/
inductive Role where
  | off | ahead | arow | afree | rhead | rrow | rfree | imm
  | aslab (i : Nat)
  | akids (i : Nat)
deriving DecidableEq
structure SV where
  kA : Option Addr
  kn : Nat
  kc : Nat
  aA : Option Addr
  an : Nat
  ac : Nat
def SV.zero : SV := ⟨none, 0, 0, none, 0, 0⟩
def natV (n : Nat) : Value := .int .i64 (n : Int)
def nums (l : List Nat) : List Value := l.map natV
theorem nums_len (l : List Nat) : (nums l).length = l.length := List.length_map _
/-- a row of numbers of one's own -/
def OwnN (w : World) (v : Value) (l : List Nat) : Prop := w.ownsRow 0 3 1 v l.length (nums l)
def datCells (d : Dt) (aA : Option Addr) (an ac : Nat) : List Value := [.int .u64 (d.id : Int), .bool d.leaf, .string ⟨d.label.toArray⟩, .slice aA an ac, .string ⟨d.text.toArray⟩]
def slotCells (a : Av) (s : SV) (i : Nat) : List Value := .bool (a.live i) :: .int .i64 (a.par i) :: .slice s.kA s.kn s.kc :: datCells (a.dat i) s.aA s.an s.ac
/-- what the data's slice leads to -/
structure DatOk (T : Nat → Prop) (w : World) (d : Dt) (aA : Option Addr) (an ac : Nat) : Prop where
  id : d.id < 18446744073709551616
  label : d.label.length ≤ maxLen
  text : d.text.length ≤ maxLen
  ats : AtsIn T w aA an d.attrs
  anc : an ≤ ac
  acm : ac ≤ maxLen
  anil : aA = none → ac = 0
  few : an ≤ 1000000
theorem DatOk.kept {T T' : Nat → Prop} {w w' : World} {d : Dt} {aA : Option Addr} {an ac : Nat} (hT : ∀ k, T k → T' k) (hk : ∀ k, T k → w'.heap[k]? = w.heap[k]?) (h : DatOk T w d aA an ac) : DatOk T' w' d aA an ac :=
  ⟨h.id, h.label, h.text, h.ats.kept hT hk, h.anc, h.acm, h.anil, h.few⟩
theorem DatOk.zero_ (T : Nat → Prop) (w : World) : DatOk T w Dt.zero none 0 0 :=
  ⟨by decide, Nat.zero_le _, Nat.zero_le _, ⟨rfl, fun q x h => by simp [Dt.zero] at h⟩, Nat.le_refl _, Nat.zero_le _, fun _ => rfl, Nat.zero_le _⟩
/-- the kids' row of a slot -/
structure KidsOk (ow : Nat → Role) (w : World) (i : Nat) (l : List Nat) (s : SV) : Prop where
  own : OwnN w (.slice s.kA s.kn s.kc) l
  len : s.kn = l.length
  role : ∀ ad, s.kA = some ad → ow ad.block = .akids i
/-- the arena at block P: the slabs are the blocks B 0 .., m of them -/
structure PA (w : World) (ow : Nat → Role) (P : Nat) (a : Av) (B : Nat → Nat) (m : Nat) (sv : Nat → SV) (sA : Option Addr) (sc : Nat) (fA : Option Addr) (fc : Nat) : Prop where
  head : w.heap[P]? = some (.cells #[.slice sA m sc, .int .i64 (a.cnt : Int), .slice fA a.free.length fc] 65 (0, 0))
  rP : ow P = .ahead
  row : w.ownsRow 0 85 1 (.slice sA m sc) m ((List.range m).map fun i => .pointer (some ⟨B i, 0, none⟩))
  rRow : ∀ ad, sA = some ad → ow ad.block = .arow
  free : OwnN w (.slice fA a.free.length fc) a.free
  rFree : ∀ ad, fA = some ad → ow ad.block = .afree
  room : a.cnt ≤ m * 16
  tight : m * 16 < a.cnt + 16
  small : a.cnt ≤ 100000
  fsmall : a.free.length ≤ 100000
  slab : ∀ i, i < m → ow (B i) = .aslab i ∧ ∃ cs t, w.heap[B i]? = some (.cells cs t (0, 0)) ∧ cs.size = 128
  cells : ∀ i, i < m * 16 → ∀ j u, (slotCells a (sv i) i)[j]? = some u → w.cell? ⟨B (i / 16), i % 16 * 8 + j, none⟩ = some u
  kids : ∀ i, i < m * 16 → KidsOk ow w i (a.kids i) (sv i)
  ksmall : ∀ i, (a.kids i).length ≤ 100000
  dat : ∀ i, i < m * 16 → DatOk (fun k => ow k = .imm) w (a.dat i) (sv i).aA (sv i).an (sv i).ac
  low : ∀ k, ow k ≠ .off → k < w.heap.size
  zero : ∀ i, a.cnt ≤ i → a.live i = false ∧ a.par i = 0 ∧ a.kids i = [] ∧ a.dat i = Dt.zero
  pars : ∀ i, -1 ≤ a.par i ∧ a.par i ≤ 100000
def PAr (w : World) (ow : Nat → Role) (P : Nat) (a : Av) : Prop := ∃ B m sv sA sc fA fc, PA w ow P a B m sv sA sc fA fc
/-- the roles of the program's blocks that may turn -/
def Role.prg : Role → Prop
  | .ahead | .arow | .afree | .aslab _ | .akids _ => True
  | _ => False
def Role.used : Role → Prop
  | .ahead | .arow | .afree | .aslab _ | .akids _ | .imm => True
  | _ => False
theorem OwnN.blk {w : World} {A : Option Addr} {n c : Nat} {l : List Nat} (h : OwnN w (.slice A n c) l) : n = l.length ∧ n ≤ c ∧ c ≤ maxLen ∧ (A = none → c = 0) ∧ ∀ ad, A = some ad → ∃ g cur, ad = ⟨g, 0, none⟩ ∧ w.heap[g]? = some (.cells cur 3 (0, 0)) ∧ cur.size = c ∧ cur.toList.take n = nums l := by
  rcases h.2 with ⟨e, h0⟩ | ⟨g, cap, cur, e, _, hg, hnc, hcm, hcs, ht⟩
  · injection e with e1 e2 e3
    subst e1 e2 e3
    exact ⟨h0.symm, Nat.le_refl _, Nat.zero_le _, fun _ => rfl, fun ad e => by cases e⟩
  · injection e with e1 e2 e3
    subst e1 e3
    subst e2
    exact ⟨rfl, hnc, hcm, fun e => (by cases e), fun ad e => by
      injection e with e
      subst e
      exact ⟨g, cur, rfl, hg, by omega, by simpa using ht⟩⟩
theorem OwnN.at_ {w : World} {A : Option Addr} {n c : Nat} {l : List Nat} (h : OwnN w (.slice A n c) l) {k x : Nat} (hk : l[k]? = some x) : ∃ g, A = some ⟨g, 0, none⟩ ∧ w.cell? ⟨g, k, none⟩ = some (natV x) := by
  obtain ⟨h1, h2, h3, h4, h5⟩ := h.blk
  have hl := (List.getElem?_eq_some_iff.1 hk).1
  cases A with
  | none => have := h4 rfl; omega
  | some ad =>
    obtain ⟨g, cur, rfl, hg, hs, ht⟩ := h5 ad rfl
    refine ⟨g, rfl, ?_⟩
    rw [← add_zero_off]
    exact World.ownsRow.cells h (g := g) rfl k _ (by unfold nums; rw [List.getElem?_map, hk]; rfl)
section
variable {w w' : World} {ow ow' : Nat → Role} {P : Nat} {a : Av} {B : Nat → Nat} {m : Nat} {sv : Nat → SV} {sA : Option Addr} {sc : Nat} {fA : Option Addr} {fc : Nat}
theorem PA.head_cells (h : PA w ow P a B m sv sA sc fA fc) : w.cell? ⟨P, 0, none⟩ = some (.slice sA m sc) ∧ w.cell? ⟨P, 1, none⟩ = some (.int .i64 (a.cnt : Int)) ∧ w.cell? ⟨P, 2, none⟩ = some (.slice fA a.free.length fc) ∧ ∀ o, w.frozen? ⟨P, o, none⟩ = false :=
  ⟨cell_of_row w P 0 _ _ _ h.head, cell_of_row w P 1 _ _ _ h.head, cell_of_row w P 2 _ _ _ h.head, fun o => frozen_of_row w P o _ _ h.head⟩
theorem row_at {w : World} {e : TypeId} {A : Option Addr} {n m c k : Nat} {xs : List Value} {u : Value} (h : w.ownsRow 0 e 1 (.slice A n c) m xs) (hk : xs[k]? = some u) : ∃ g, A = some ⟨g, 0, none⟩ ∧ n = m ∧ k < n ∧ n ≤ c ∧ c ≤ maxLen ∧ w.cell? ⟨g, k, none⟩ = some u := by
  have hl := (List.getElem?_eq_some_iff.1 hk).1
  have h1 := h.1
  rcases h.2 with ⟨e, h0⟩ | ⟨g, cap, cur, e, _, hg, hnc, hcm, _⟩
  · omega
  · injection e with e1 e2 e3
    subst e1 e2 e3
    refine ⟨g, rfl, rfl, by omega, hnc, hcm, ?_⟩
    rw [← add_zero_off]
    exact World.ownsRow.cells h (g := g) rfl k _ hk
theorem PA.slab_at (h : PA w ow P a B m sv sA sc fA fc) {q : Nat} (hq : q < m) : ∃ g, sA = some ⟨g, 0, none⟩ ∧ m ≤ sc ∧ sc ≤ maxLen ∧ w.cell? ⟨g, q, none⟩ = some (.pointer (some ⟨B q, 0, none⟩)) := by
  have e : ((List.range m).map fun i => (Value.pointer (some ⟨B i, 0, none⟩)))[q]? = some (.pointer (some ⟨B q, 0, none⟩)) := by
    rw [List.getElem?_map, List.getElem?_range hq]; rfl
  obtain ⟨g, h1, _, _, h2, h3, h4⟩ := row_at h.row e
  exact ⟨g, h1, h2, h3, h4⟩
theorem PA.kept (h : PA w ow P a B m sv sA sc fA fc) (hs : w.heap.size ≤ w'.heap.size) (hr : ∀ k, k < w.heap.size → ow' k = ow k) (hl : ∀ k, ow' k ≠ .off → k < w'.heap.size) (hk : ∀ k, (ow k).used → w'.heap[k]? = w.heap[k]?) : PA w' ow' P a B m sv sA sc fA fc := by
  have lt : ∀ k r, ow k = r → r ≠ .off → k < w.heap.size := fun k r e hn => h.low k (by rw [e]; exact hn)
  have same : ∀ k r, ow k = r → r ≠ .off → ow' k = r := fun k r e hn => (hr k (lt k r e hn)).trans e
  refine { head := (hk P (by rw [h.rP]; trivial)).trans h.head, rP := same _ _ h.rP (by simp), row := ?_, rRow := fun ad e => same _ _ (h.rRow ad e) (by simp), free := ?_, rFree := fun ad e => same _ _ (h.rFree ad e) (by simp),
           room := h.room, tight := h.tight, small := h.small, fsmall := h.fsmall, slab := ?_, cells := ?_, kids := ?_, ksmall := h.ksmall, dat := ?_, low := hl, zero := h.zero, pars := h.pars }
  · refine own_kept h.row fun k e => hk k ?_
    cases sA with
    | none => cases e
    | some ad => injection e with e; rw [← e, h.rRow ad rfl]; trivial
  · refine own_kept h.free fun k e => hk k ?_
    cases fA with
    | none => cases e
    | some ad => injection e with e; rw [← e, h.rFree ad rfl]; trivial
  · intro i hi
    obtain ⟨h1, cs, t, h2, h3⟩ := h.slab i hi
    exact ⟨same _ _ h1 (by simp), cs, t, (hk _ (by rw [h1]; trivial)).trans h2, h3⟩
  · intro i hi j u hj
    have h1 := (h.slab (i / 16) (by omega)).1
    exact (World.cell?_of_block (w := w) (w' := w') (a := ⟨B (i / 16), i % 16 * 8 + j, none⟩) (hk _ (by rw [h1]; trivial))).trans (h.cells i hi j u hj)
  · intro i hi
    have := h.kids i hi
    refine ⟨own_kept this.own fun k e => hk k ?_, this.len, fun ad e => same _ _ (this.role ad e) (by simp)⟩
    cases hA : (sv i).kA with
    | none => rw [hA] at e; cases e
    | some ad => rw [hA] at e; injection e with e; rw [← e, this.role ad hA]; trivial
  · intro i hi
    exact (h.dat i hi).kept (fun k e => same k _ e (by simp)) (fun k e => hk k (by rw [e]; trivial))
theorem PA.below (h : PA w ow P a B m sv sA sc fA fc) (hb : Below w.heap.size w w') : PA w' ow P a B m sv sA sc fA fc :=
  h.kept hb.size (fun _ _ => rfl) (fun k hk => Nat.lt_of_lt_of_le (h.low k hk) hb.size) fun k hk => hb.block k (h.low k fun e => by rw [e] at hk; exact hk)
theorem PAr.below (h : PAr w ow P a) (hb : Below w.heap.size w w') : PAr w' ow P a := by
  obtain ⟨B, m, sv, sA, sc, fA, fc, h⟩ := h
  exact ⟨B, m, sv, sA, sc, fA, fc, h.below hb⟩
end
end Go.Proofs.Ytiikakfdelkjhaa.Arn
