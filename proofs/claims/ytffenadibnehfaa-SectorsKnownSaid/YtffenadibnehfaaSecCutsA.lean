/- SectorsCuts: the values, and what is carried along. -/
import Derived.Test.YtffenadibnehfaaSecTell
import Derived.Test.YtffenadibnehfaaSecLawA
namespace Go.Proofs.Ytffenadibnehfaa
open Go.RowKit

theorem i64_and7 (n : Int) : bits .and .i64 n 7 = n % 8 := by
  have h7 : (BitVec.ofInt 64 7).toNat = 2 ^ 3 - 1 := by decide
  have key : (BitVec.ofInt 64 n &&& BitVec.ofInt 64 7).toNat = (n % ((2 ^ 64 : Nat) : Int)).toNat % 2 ^ 3 := by
    rw [BitVec.toNat_and, BitVec.toNat_ofInt, h7, Nat.and_two_pow_sub_one_eq_mod]
  show IntKind.i64.wrap ((BitVec.ofInt 64 n &&& BitVec.ofInt 64 7).toNat : Nat) = n % 8
  rw [key, IntKind.wrap_i64]
  omega
def ixV (x : CX) : Nat := (x.i % 8).toNat
theorem ixV_lt (x : CX) : ixV x < 8 := by unfold ixV; omega
theorem ix_and (x : CX) : bits .and .i64 x.i 7 = (ixV x : Int) := by
  rw [i64_and7]
  unfold ixV
  omega
def stepV (d : RD) (x : CX) : RD := (writeV d (ixV x : Int) x.b).2
def runV (d : RD) (xs : List CX) : RD := xs.foldl stepV d
theorem runV_succ (d : RD) (xs : List CX) (q : Nat) (x : CX) (h : xs[q]? = some x) : runV d (xs.take (q + 1)) = stepV (runV d (xs.take q)) x := by
  unfold runV
  rw [List.take_add_one, h, List.foldl_append]
  rfl
/-- a disk of eight sectors that nobody has armed -/
structure Calm (d : RD) (k : Nat) : Prop where
  base : d.base.length = 8
  gone : d.gone = false
  armed : d.armed = false
  left : d.left = 0
  wr : d.wr.length ≤ k
  ix : ∀ x ∈ d.wr, x.1 < 8
theorem Calm.lim {d : RD} {k : Nat} (h : Calm d k) (hk : k ≤ 1000) : Lim d := ⟨by have := h.base; omega, by have := h.wr; omega, by have := h.left; omega, by have := h.left; omega⟩
theorem Calm.mono {d : RD} {k m : Nat} (h : Calm d k) (hk : k ≤ m) : Calm d m := ⟨h.base, h.gone, h.armed, h.left, Nat.le_trans h.wr hk, h.ix⟩
theorem step_cases {d : RD} {k : Nat} (h : Calm d k) (x : CX) : (128 < x.b.length ∧ writeV d (ixV x : Int) x.b = (3, d)) ∨ (¬ 128 < x.b.length ∧ writeV d (ixV x : Int) x.b = (0, wrote d (ixV x) x.b)) := by
  have h0 : askedV d (ixV x : Int) = 0 := asked_on h.gone (by rw [h.base]; exact ixV_lt x)
  by_cases h1 : 128 < x.b.length
  · exact .inl ⟨h1, by unfold writeV; rw [if_pos h0, if_pos h1]⟩
  · refine .inr ⟨h1, ?_⟩
    unfold writeV
    rw [if_pos h0, if_neg h1, if_neg (fun e => by rw [h.armed] at e; cases e.1)]
    have : takenIn d = d := by unfold takenIn; rw [h.armed]; rfl
    rw [this]
    rfl
theorem step_calm {d : RD} {k : Nat} (h : Calm d k) (x : CX) : Calm (stepV d x) (k + 1) ∧ (stepV d x).base = d.base := by
  unfold stepV
  rcases step_cases h x with ⟨_, e⟩ | ⟨_, e⟩
  · rw [e]; exact ⟨h.mono (Nat.le_succ _), rfl⟩
  · rw [e]
    have hw := h.wr
    refine ⟨⟨h.base, h.gone, h.armed, h.left, by simp [wrote]; exact hw, fun y hy => ?_⟩, rfl⟩
    rcases List.mem_append.1 (show y ∈ d.wr ++ [(ixV x, secL x.b)] from hy) with hy | hy
    · exact h.ix y hy
    · rw [List.mem_singleton.1 hy]; exact ixV_lt x
theorem run_calm {d : RD} {k : Nat} (h : Calm d k) : ∀ xs : List CX, Calm (runV d xs) (k + xs.length) ∧ (runV d xs).base = d.base := fun xs => by
  induction xs generalizing d k with
  | nil => exact ⟨h, rfl⟩
  | cons x r ih =>
    have h1 := step_calm h x
    have h2 := ih h1.1
    refine ⟨?_, h2.2.trans h1.2⟩
    have : runV d (x :: r) = runV (stepV d x) r := rfl
    rw [this, List.length_cons]
    exact h2.1.mono (by omega)
theorem new_calm : Calm (newV 8) 0 := ⟨by decide, rfl, rfl, rfl, Nat.le_refl _, fun x hx => by cases hx⟩
theorem settle_calm {d : RD} {k : Nat} (h : Calm d k) : Calm (settleV d) 0 := by
  refine ⟨?_, h.gone, h.armed, h.left, Nat.le_refl _, fun x hx => by cases hx⟩
  show (atsV d d.wr.length d.base.length).length = 8
  rw [atsV_len]
  exact h.base
theorem cut_calm {d : RD} {k : Nat} (h : Calm d k) (j : Int) : Calm (cutV d j) 0 := by
  refine ⟨?_, rfl, rfl, rfl, Nat.le_refl _, fun x hx => by cases hx⟩
  show (atsV d (kept d j) d.base.length).length = 8
  rw [atsV_len]
  exact h.base
theorem read_at {d : RD} {k i : Nat} (h : Calm d k) (hi : i < 8) : readV d (i : Int) = atV d.base d.wr i d.wr.length := if_pos (asked_on h.gone (by rw [h.base]; exact hi))
theorem read_cut {d : RD} {k i : Nat} (h : Calm d k) (hi : i < 8) (j : Int) : readV (cutV d j) (i : Int) = atV d.base d.wr i (kept d j) := by
  rw [read_at (cut_calm h j) hi]
  show (atsV d (kept d j) d.base.length).getD i [] = _
  unfold atsV
  rw [h.base, List.getD_eq_getElem?_getD, List.getElem?_map, List.getElem?_range hi]
  rfl
/-- what a cut at none tells, and one at all -/
theorem cut_none {d1 d : RD} {k : Nat} (h1 : Calm d1 0) (h : Calm d k) (hb : d.base = d1.base) : ∀ i : Nat, i < 8 → (i : Int) ≠ -1 → (tellV (cutV d 0) 8)[i]? = (tellV d1 8)[i]? := fun i hi _ => by
  rw [tellV_at _ hi, tellV_at _ hi, read_cut h hi, read_at h1 hi, hb]
  have e1 : kept d 0 = 0 := by unfold kept; omega
  have e2 : d1.wr = [] := List.eq_nil_of_length_eq_zero (by have := h1.wr; omega)
  rw [e1, e2]
  rfl
theorem cut_all {d : RD} {k : Nat} (h : Calm d k) : ∀ i : Nat, i < 8 → (i : Int) ≠ -1 → (tellV (cutV d (d.wr.length : Int)) 8)[i]? = (tellV d 8)[i]? := fun i hi _ => by
  rw [tellV_at _ hi, tellV_at _ hi, read_cut h hi, read_at h hi, kept_all]
theorem cut_next {d : RD} {k q : Nat} {x : Nat × List UInt8} (h : Calm d k) (hx : d.wr[q]? = some x) : ∀ i : Nat, i < 8 → (i : Int) ≠ (x.1 : Int) → (tellV (cutV d (q : Int)) 8)[i]? = (tellV (cutV d ((q : Int) + 1)) 8)[i]? := fun i hi hne => by
  have hq := (List.getElem?_eq_some_iff.1 hx).1
  have e1 : kept d (q : Int) = q := by unfold kept; omega
  have e2 : kept d ((q : Int) + 1) = q + 1 := by unfold kept; omega
  rw [tellV_at _ hi, tellV_at _ hi, read_cut h hi, read_cut h hi, e1, e2, atV_miss hx (fun e => hne (by rw [e]))]

def ixs (d : RD) : List Value := d.wr.map fun x => .int .i64 (x.1 : Int)
theorem ixs_len (d : RD) : (ixs d).length = d.wr.length := List.length_map _
/-- the disk, what was told at first, and where writes were done -/
structure CutSt (Y : Sys) (w wr : World) (S : Nat → Prop) (X : Nat) (d : RD) (l : List Value) (vf va : Value) (fs : List Value) : Prop where
  at_ : Y.At wr S w.heap.size X d
  first : wr.ownsRow w.heap.size 9 1 vf 8 fs
  row : wr.ownsRow w.heap.size 3 1 va l.length l
  farF : ∀ k, S k → vf.ownBlock ≠ some k
  farA : ∀ k, S k → va.ownBlock ≠ some k
  apart : ∀ k, vf.ownBlock = some k → va.ownBlock ≠ some k
  below : Below w.heap.size w wr
section
variable {Y : Sys} {w wr w2 w3 : World} {S S' : Nat → Prop} {X : Nat} {d d' : RD} {l : List Value} {vf va : Value} {fs : List Value}
theorem frs_trans (h : Below w.heap.size w wr) (hF : FrS S w.heap.size wr w2) : Below w.heap.size w w2 := by
  have e := hF.below
  rw [Nat.min_eq_left h.size] at e
  exact h.trans e
theorem CutSt.wrote (h : CutSt Y w wr S X d l vf va fs) (ha : Y.At w2 S' w.heap.size X d') (hs : ∀ k, S' k → S k ∨ wr.heap.size ≤ k) (hF : FrS S w.heap.size wr w2) : CutSt Y w w2 S' X d' l vf va fs := by
  have kf : ∀ k, vf.ownBlock = some k → k < wr.heap.size ∧ w2.heap[k]? = wr.heap[k]? := fun k hk => by
    have hl := (World.ownsRow.lt h.first k hk).2
    exact ⟨hl, hF.block k hl fun e => h.farF k e.1 hk⟩
  have ka : ∀ k, va.ownBlock = some k → k < wr.heap.size ∧ w2.heap[k]? = wr.heap[k]? := fun k hk => by
    have hl := (World.ownsRow.lt h.row k hk).2
    exact ⟨hl, hF.block k hl fun e => h.farA k e.1 hk⟩
  refine ⟨ha, own_kept h.first fun k hk => (kf k hk).2, own_kept h.row fun k hk => (ka k hk).2, fun k hk e => ?_, fun k hk e => ?_, h.apart, frs_trans h.below hF⟩
  · rcases hs k hk with h1 | h1
    · exact h.farF k h1 e
    · have := (kf k e).1; omega
  · rcases hs k hk with h1 | h1
    · exact h.farA k h1 e
    · have := (ka k e).1; omega
theorem CutSt.more (h : CutSt Y w wr S X d l vf va fs) (hb : Below wr.heap.size wr w2) (v : Value) {g cap n : Nat} (hn : n = l.length + 1) (ho : w3.ownsRow w.heap.size 3 1 (.slice (some ⟨g, 0, none⟩) n cap) n (l ++ [v])) (hg : w2.grownBy w3 va.ownBlock) (hat : va.ownBlock = some g ∨ g = w2.heap.size) :
    CutSt Y w w3 S X d (l ++ [v]) vf (.slice (some ⟨g, 0, none⟩) n cap) fs := by
  have hk : ∀ k, k < wr.heap.size → va.ownBlock ≠ some k → w3.heap[k]? = wr.heap[k]? := fun k hk hne => (hg.block k (Nat.lt_of_lt_of_le hk hb.size) (fun e => hne e.symm)).trans (hb.block k hk)
  have hgo : ∀ k, (Value.slice (some ⟨g, 0, none⟩) n cap).ownBlock = some k → g = k := fun k e => by simpa [Value.ownBlock] using e
  subst hn
  refine ⟨Y.kept h.at_ fun k hs => hk k (Y.lt h.at_ k hs) (h.farA k hs), own_kept h.first fun k e => hk k (World.ownsRow.lt h.first k e).2 (h.apart k e), by rw [List.length_append]; exact ho, h.farF, fun k hs e => ?_, fun k e e2 => ?_, ?_⟩
  · have e' := hgo k e
    rcases hat with h1 | h1
    · exact h.farA k hs (by rw [h1, e'])
    · have := Y.lt h.at_ k hs
      have := hb.size
      omega
  · have e' := hgo k e2
    rcases hat with h1 | h1
    · exact h.apart k e (by rw [h1, e'])
    · have := (World.ownsRow.lt h.first k e).2
      have := hb.size
      omega
  · refine h.below.trans ⟨hg.os.trans hb.os, hg.tape.trans hb.tape, hg.output.trans hb.output, Nat.le_trans hb.size hg.size, fun k hk' => ?_⟩
    exact hk k (Nat.lt_of_lt_of_le hk' h.below.size) fun e => by have := (World.ownsRow.lt h.row k e).1; omega
end
end Go.Proofs.Ytffenadibnehfaa
