/- What the law asks of the program's disk, and both disks side by side. -/
import Derived.Test.YtffenadibnehfaaSecRefI
import Derived.Test.YtffenadibnehfaaSecLawA
namespace Go.Proofs.Ytffenadibnehfaa
open Go.RowKit

/-- a row of bytes, whatever they are, that may be written -/
def NRow (w : World) (base : Nat) (A : Option Addr) (n : Nat) : Prop :=
  0 < n → ∃ g off, A = some ⟨g, off, none⟩ ∧ base ≤ g ∧ ∀ j, j < n → (∃ z : Int, w.cell? ⟨g, off + j, none⟩ = some (.int .u8 z)) ∧ w.frozen? ⟨g, off + j, none⟩ = false
theorem NRow.at_ {w : World} {base n k : Nat} {A : Option Addr} (h : NRow w base A n) (hk : k < n) :
    ∃ (g off : Nat) (z : Int), A = some ⟨g, off, none⟩ ∧ base ≤ g ∧ w.cell? ⟨g, off + k, none⟩ = some (.int .u8 z) ∧ w.frozen? ⟨g, off + k, none⟩ = false := by
  obtain ⟨g, off, e, hb, hj⟩ := h (by omega)
  obtain ⟨⟨z, hz⟩, hf⟩ := hj k hk
  exact ⟨g, off, z, e, hb, hz, hf⟩
theorem NRow.set {w : World} {base n g off k : Nat} (h : NRow w base (some ⟨g, off, none⟩) n) (hk : k < n) (z : Int) : NRow (w.setCell ⟨g, off + k, none⟩ (.int .u8 z)) base (some ⟨g, off, none⟩) n := by
  intro h0
  obtain ⟨g', off', e, hb, hj⟩ := h h0
  injection e with e
  injection e with e1 e2
  subst e1 e2
  refine ⟨g, off, rfl, hb, fun j hjn => ?_⟩
  obtain ⟨⟨y, hy⟩, hf⟩ := hj j hjn
  refine ⟨?_, by rw [World.frozen?_setCell]; exact hf⟩
  by_cases hjk : j = k
  · subst hjk
    exact ⟨z, World.cell?_setCell_same w _ _ hy⟩
  · refine ⟨y, ?_⟩
    exact (World.cell?_setCell_other w ⟨g, off + k, none⟩ ⟨g, off + j, none⟩ _ (by intro e; injection e with _ e2; omega)).trans hy
/-- v is a row of the bytes bs that may be written -/
def BRow (base : Nat) (w : World) (v : Value) (bs : List UInt8) : Prop :=
  ∃ (A : Option Addr) (c : Nat), v = .slice A bs.length c ∧ bs.length ≤ c ∧ c ≤ maxLen ∧ (A = none → c = 0) ∧ Bts w A bs.length bs ∧ NRow w base A bs.length
/-- []byte(s): it may be written -/
theorem run_ownN (w : World) (bs : List UInt8) (hm : bs.length ≤ maxLen) : ∃ (k : Nat) (w1 : World),
    (convert 9 29 (.string ⟨bs.toArray⟩)).run Try.prog w = .ok (.slice (some ⟨w.heap.size, 0, none⟩) bs.length k) w1 ∧
    Bts w1 (some ⟨w.heap.size, 0, none⟩) bs.length bs ∧ NRow w1 w.heap.size (some ⟨w.heap.size, 0, none⟩) bs.length ∧ (∃ cs fr, w1.heap[w.heap.size]? = some (.cells cs 5 fr)) ∧ Below w.heap.size w w1 ∧ w1.heap.size = w.heap.size + 1 ∧ bs.length ≤ k ∧ k ≤ maxLen := by
  obtain ⟨k, w1, hr, hB, hb, hs, h1, h2⟩ := run_own w bs hm
  have h := run_bytes_of_string (P := Try.prog) w 9 29 5 ⟨bs.toArray⟩ Try.underlying9 Try.underlying29 Try.underlying5
  have hw := hr.symm.trans h
  injection hw with _ hw
  refine ⟨k, w1, hr, hB, ?_, ⟨_, _, by rw [hw]; exact heap_alloc_new w.drew _⟩, hb, hs, h1, h2⟩
  intro _
  refine ⟨w.heap.size, 0, rfl, Nat.le_refl _, fun j hj => ?_⟩
  obtain ⟨ad, c, e, _, hc⟩ := hB.at_ hj
  injection e with e
  subst e
  have hadd : (⟨w.heap.size, 0, none⟩ : Addr).add j = ⟨w.heap.size, j, none⟩ := by unfold Addr.add; split <;> simp_all
  rw [hadd] at hc
  rw [Nat.zero_add]
  refine ⟨⟨_, hc⟩, ?_⟩
  rw [hw]
  have hbl := heap_alloc_new w.drew (.cells (bytesRow ⟨bs.toArray⟩ (grownCap w (⟨bs.toArray⟩ : ByteArray).size 0 5)) 5 ((bytesRow ⟨bs.toArray⟩ (grownCap w (⟨bs.toArray⟩ : ByteArray).size 0 5)).size, (bytesRow ⟨bs.toArray⟩ (grownCap w (⟨bs.toArray⟩ : ByteArray).size 0 5)).size + 1))
  have hsz : bs.length ≤ (bytesRow ⟨bs.toArray⟩ (grownCap w (⟨bs.toArray⟩ : ByteArray).size 0 5)).size := by
    unfold bytesRow
    simp
  unfold World.frozen?
  rw [show ((w.drew.alloc (.cells (bytesRow ⟨bs.toArray⟩ (grownCap w (⟨bs.toArray⟩ : ByteArray).size 0 5)) 5 ((bytesRow ⟨bs.toArray⟩ (grownCap w (⟨bs.toArray⟩ : ByteArray).size 0 5)).size, (bytesRow ⟨bs.toArray⟩ (grownCap w (⟨bs.toArray⟩ : ByteArray).size 0 5)).size + 1))).heap[w.heap.size]?) = _ from hbl]
  simp
  omega

/-- what a call on a disk may turn: of what it stands on, what lies at B or above -/
structure FrS (S : Nat → Prop) (B : Nat) (w w' : World) : Prop where
  os : w'.os = w.os
  tape : w'.tape = w.tape
  output : w'.output = w.output
  size : w.heap.size ≤ w'.heap.size
  block : ∀ k, k < w.heap.size → ¬ (S k ∧ B ≤ k) → w'.heap[k]? = w.heap[k]?
theorem FrS.of_below {S : Nat → Prop} {B : Nat} {w w' : World} (h : Below w.heap.size w w') : FrS S B w w' := ⟨h.os, h.tape, h.output, h.size, fun k hk _ => h.block k hk⟩
theorem FrS.below {S : Nat → Prop} {B : Nat} {w w' : World} (h : FrS S B w w') : Below (min B w.heap.size) w w' := ⟨h.os, h.tape, h.output, h.size, fun k hk => h.block k (by omega) (fun e => by omega)⟩
/-- how far a disk goes in the law -/
structure Lim (d : RD) : Prop where
  base : d.base.length ≤ 20000
  wr : d.wr.length ≤ 100000
  low : -9223372036854775808 ≤ d.left
  high : d.left ≤ 9223372036854775807

/-- the program's disk, whatever it is made of: 'At w S B p d': it is at block p, stands on the blocks S, and turns those of them that lie at B or above -/
structure Sys where
  At : World → (Nat → Prop) → Nat → Nat → RD → Prop
  lt : ∀ {w S B p d}, At w S B p d → ∀ k, S k → k < w.heap.size
  apart : ∀ {w S B p d}, At w S B p d → ∀ k, S k → ¬ Typed refTs w k
  kept : ∀ {w w' : World} {S B p d}, At w S B p d → (∀ k, S k → w'.heap[k]? = w.heap[k]?) → At w' S B p d
  new_ : ∀ (w : World) (s : Int), Calls Try.prog 8 #[.int .i64 s] w fun e w' => ∃ X S, e = .returned (.pointer (some ⟨X, 0, none⟩)) ∧ At w' S w.heap.size X (newV s) ∧ (∀ k, S k → w.heap.size ≤ k) ∧ Below w.heap.size w w'
  sectors : ∀ {w S B p d}, At w S B p d → Lim d → Calls Try.prog 24 #[.pointer (some ⟨p, 0, none⟩)] w fun e w' => e = .returned (.int .i64 (d.base.length : Int)) ∧ w = w'
  writes : ∀ {w S B p d}, At w S B p d → Lim d → Calls Try.prog 17 #[.pointer (some ⟨p, 0, none⟩)] w fun e w' => e = .returned (.int .i64 (d.wr.length : Int)) ∧ w = w'
  off : ∀ {w S B p d}, At w S B p d → Lim d → Calls Try.prog 23 #[.pointer (some ⟨p, 0, none⟩)] w fun e w' => e = .returned (.bool d.gone) ∧ w = w'
  read : ∀ {w S B p d}, At w S B p d → Lim d → ∀ i : Int, Calls Try.prog 22 #[.pointer (some ⟨p, 0, none⟩), .int .i64 i] w fun e w' => ∃ v, e = .returned (.tuple #[v, .int .i64 (askedV d i)]) ∧ BRow w.heap.size w' v (readV d i) ∧ Below w.heap.size w w'
  write : ∀ {w S B p d}, At w S B p d → Lim d → ∀ (i : Int) (A : Option Addr) (n c : Nat) (b : List UInt8), Bts w A n b → n ≤ c → c ≤ maxLen → (A = none → c = 0) →
    Calls Try.prog 14 #[.pointer (some ⟨p, 0, none⟩), .int .i64 i, .slice A n c] w fun e w' => e = .returned (.int .i64 (writeV d i b).1) ∧ ∃ S', At w' S' B p (writeV d i b).2 ∧ (∀ k, S' k → S k ∨ w.heap.size ≤ k) ∧ FrS S B w w'
  cut : ∀ {w S B p d}, At w S B p d → Lim d → ∀ k : Int, Calls Try.prog 10 #[.pointer (some ⟨p, 0, none⟩), .int .i64 k] w fun e w' => ∃ X S', e = .returned (.pointer (some ⟨X, 0, none⟩)) ∧ At w' S' w.heap.size X (cutV d k) ∧ (∀ j, S' j → S j ∨ w.heap.size ≤ j) ∧ Below w.heap.size w w'
  settle : ∀ {w S B p d}, At w S B p d → Lim d → Calls Try.prog 15 #[.pointer (some ⟨p, 0, none⟩)] w fun e w' => e = .returned (.tuple #[]) ∧ ∃ S', At w' S' B p (settleV d) ∧ (∀ k, S' k → S k ∨ w.heap.size ≤ k) ∧ FrS S B w w'
  fail_ : ∀ {w S B p d}, At w S B p d → Lim d → ∀ n : Int, Calls Try.prog 19 #[.pointer (some ⟨p, 0, none⟩), .int .i64 n] w fun e w' => e = .returned (.tuple #[]) ∧ ∃ S', At w' S' B p { d with armed := decide (0 ≤ n), left := n } ∧ (∀ k, S' k → S k ∨ w.heap.size ≤ k) ∧ FrS S B w w'
  crash : ∀ {w S B p d}, At w S B p d → Lim d → Calls Try.prog 20 #[.pointer (some ⟨p, 0, none⟩)] w fun e w' => e = .returned (.tuple #[]) ∧ ∃ S', At w' S' B p { d with armed := false, left := d.left, gone := true } ∧ (∀ k, S' k → S k ∨ w.heap.size ≤ k) ∧ FrS S B w w'
  on : ∀ {w S B p d}, At w S B p d → Lim d → Calls Try.prog 21 #[.pointer (some ⟨p, 0, none⟩)] w fun e w' => e = .returned (.tuple #[]) ∧ ∃ S', At w' S' B p { d with armed := false, left := d.left, gone := false } ∧ (∀ k, S' k → S k ∨ w.heap.size ≤ k) ∧ FrS S B w w'

/-- both disks: the program's is d1, the document's d2 -/
structure Both (Y : Sys) (w : World) (S : Nat → Prop) (B p : Nat) (d1 : RD) (B2 q : Nat) (d2 : RD) : Prop where
  at_ : Y.At w S B p d1
  ref : RefAt w B2 q d2
  far : ∀ k, S k → baseOf w q ≠ some k

theorem RefAt.lt {w : World} {B q : Nat} {d : RD} (h : RefAt w B q d) : q < w.heap.size := by
  obtain ⟨_, _, bv, lv, hp, _⟩ := h
  exact (Array.getElem?_eq_some_iff.1 hp).1
theorem baseOf_lt {w : World} {B q k : Nat} {d : RD} (h : RefAt w B q d) (hk : baseOf w q = some k) : B ≤ k ∧ k < w.heap.size := by
  obtain ⟨_, _, bv, lv, hp, hb, _⟩ := h
  rw [baseOf_row (v := bv) hp rfl] at hk
  exact World.ownsRow.lt hb k hk
theorem baseOf_kept {w w' : World} {q : Nat} (h : w'.heap[q]? = w.heap[q]?) : baseOf w' q = baseOf w q := by
  unfold baseOf
  rw [World.cell?_of_block (w := w) (w' := w') (a := ⟨q, 0, none⟩) h]
/-- an owned row whose block is as it was -/
theorem own_kept {w w' : World} {base : Nat} {e : TypeId} {size : Nat} {v : Value} {n : Nat} {xs : List Value} (h : w.ownsRow base e size v n xs) (hk : ∀ k, v.ownBlock = some k → w'.heap[k]? = w.heap[k]?) : w'.ownsRow base e size v n xs := by
  refine ⟨h.1, ?_⟩
  rcases h.2 with h0 | ⟨g, cap, cur, rfl, hb, hg, rest⟩
  · exact .inl h0
  · exact .inr ⟨g, cap, cur, rfl, hb, (hk g rfl).trans hg, rest⟩
theorem own_typed {w : World} {base : Nat} {e : TypeId} {size : Nat} {v : Value} {n : Nat} {xs : List Value} {ts : List TypeId} (h : w.ownsRow base e size v n xs) (he : e ∈ ts) : ∀ k, v.ownBlock = some k → Typed ts w k := by
  intro k hk
  rcases h.2 with ⟨rfl, _⟩ | ⟨g, cap, cur, rfl, _, hg, _⟩
  · cases hk
  · have : g = k := by simpa [Value.ownBlock] using hk
    subst this
    exact ⟨cur, e, (0, 0), hg, he⟩
/-- the document's disk where its blocks are as they were -/
theorem RefAt.where_ {w w' : World} {B q : Nat} {d : RD} (h : RefAt w B q d) (h1 : ∀ k, Typed refTs w k → w'.heap[k]? = w.heap[k]?) (h2 : ∀ k, baseOf w q = some k → w'.heap[k]? = w.heap[k]?) : RefAt w' B q d := by
  obtain ⟨hB, hl, bv, lv, hp, hb, hw⟩ := h
  refine ⟨hB, hl, bv, lv, (h1 q ⟨_, _, _, hp, by decide⟩).trans hp, own_kept hb fun k hk => h2 k ?_, own_kept hw fun k hk => h1 k (own_typed hw (by decide) k hk)⟩
  rw [baseOf_row (v := bv) hp rfl]
  exact hk

section
variable {Y : Sys} {w w' : World} {S S' : Nat → Prop} {B p B2 q : Nat} {d1 d2 d1' d2' : RD}
theorem Both.below (h : Both Y w S B p d1 B2 q d2) (hb : Below w.heap.size w w') : Both Y w' S B p d1 B2 q d2 :=
  ⟨Y.kept h.at_ fun k hk => hb.block k (Y.lt h.at_ k hk), h.ref.below hb, fun k hk => by rw [baseOf_kept (hb.block q h.ref.lt)]; exact h.far k hk⟩
/-- a call on the program's -/
theorem Both.prog (h : Both Y w S B p d1 B2 q d2) (ha : Y.At w' S' B p d1') (hs : ∀ k, S' k → S k ∨ w.heap.size ≤ k) (hf : FrS S B w w') : Both Y w' S' B p d1' B2 q d2 := by
  have h1 : ∀ k, Typed refTs w k → w'.heap[k]? = w.heap[k]? := fun k hk => by
    have hlt : k < w.heap.size := by
      obtain ⟨cs, t, fr, hh, _⟩ := hk
      exact (Array.getElem?_eq_some_iff.1 hh).1
    exact hf.block k hlt fun e => Y.apart h.at_ k e.1 hk
  have h2 : ∀ k, baseOf w q = some k → w'.heap[k]? = w.heap[k]? := fun k hk => hf.block k (baseOf_lt h.ref hk).2 fun e => h.far k e.1 hk
  have hq : w'.heap[q]? = w.heap[q]? := by
    obtain ⟨_, _, bv, lv, hp, _⟩ := h.ref
    exact h1 q ⟨_, _, _, hp, by decide⟩
  refine ⟨ha, h.ref.where_ h1 h2, fun k hk hb => ?_⟩
  rw [baseOf_kept hq] at hb
  rcases hs k hk with e | e
  · exact h.far k e hb
  · have := (baseOf_lt h.ref hb).2
    omega
/-- a call on the document's -/
theorem Both.doc (h : Both Y w S B p d1 B2 q d2) (hr : RefAt w' B2 q d2') (hf : Fr refTs B2 w w') (hb : ∀ k, baseOf w' q = some k → baseOf w q = some k ∨ w.heap.size ≤ k) : Both Y w' S B p d1 B2 q d2' := by
  refine ⟨Y.kept h.at_ fun k hk => ?_, hr, fun k hk e => ?_⟩
  · rcases hf.block k (Y.lt h.at_ k hk) with e | ⟨_, ht⟩
    · exact e
    · exact absurd ht (Y.apart h.at_ k hk)
  · rcases hb k e with e2 | e2
    · exact h.far k hk e2
    · have := Y.lt h.at_ k hk
      omega
end
end Go.Proofs.Ytffenadibnehfaa
