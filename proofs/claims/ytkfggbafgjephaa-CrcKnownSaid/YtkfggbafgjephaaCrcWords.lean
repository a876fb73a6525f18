/- What a slice of bytes reads as, and what the check's plain functions do at one byte more. -/
import Derived.Test.YtkfggbafgjephaaCrcMath
import Derived.WalkKit
namespace Go.Proofs.Ytkfggbafgjephaa
open Go.RowKit

/-- a slice of n bytes at A reads as bs -/
def Bts (w : World) (A : Option Addr) (n : Nat) (bs : List UInt8) : Prop :=
  bs.length = n ∧ ∀ k c, bs[k]? = some c → ∃ ad : Addr, A = some ad ∧ ad.block < w.heap.size ∧ w.cell? (ad.add k) = some (.int .u8 (c.toNat : Int))

theorem block_add (a : Addr) (k : Nat) : (a.add k).block = a.block := by unfold Addr.add; split <;> rfl
theorem Bts.below {w w' : World} {A : Option Addr} {n : Nat} {bs : List UInt8} (h : Bts w A n bs) (hb : Below w.heap.size w w') : Bts w' A n bs := by
  refine ⟨h.1, fun k c hk => ?_⟩
  obtain ⟨ad, e, hlt, hc⟩ := h.2 k c hk
  exact ⟨ad, e, Nat.lt_of_lt_of_le hlt hb.size, (hb.cell (p := ad.add k) (by rw [block_add]; exact hlt)).trans hc⟩
theorem Bts.at_ {w : World} {A : Option Addr} {n k : Nat} {bs : List UInt8} (h : Bts w A n bs) (hk : k < n) :
    ∃ (ad : Addr) (c : UInt8), A = some ad ∧ bs[k]? = some c ∧ w.cell? (ad.add k) = some (.int .u8 (c.toNat : Int)) := by
  have hl : k < bs.length := by rw [h.1]; exact hk
  have hg : bs[k]? = some bs[k] := List.getElem?_eq_getElem hl
  obtain ⟨ad, e, _, hc⟩ := h.2 k _ hg
  exact ⟨ad, _, e, hg, hc⟩
theorem take_one {bs : List UInt8} {k : Nat} {c : UInt8} (h : bs[k]? = some c) : bs.take (k + 1) = bs.take k ++ [c] := by
  rw [List.take_add_one, h]; rfl
theorem drop_one {bs : List UInt8} {k : Nat} {c : UInt8} (h : bs[k]? = some c) : bs.drop k = c :: bs.drop (k + 1) := by
  obtain ⟨hl, rfl⟩ := List.getElem?_eq_some_iff.1 h
  exact List.drop_eq_getElem_cons hl
theorem F_step (r : Nat) {bs : List UInt8} {k : Nat} {c : UInt8} (h : bs[k]? = some c) : F r (bs.take (k + 1)) = goIn (F r (bs.take k)) c.toNat := by
  rw [take_one h, F_snoc]
theorem G_step (r : Nat) {bs : List UInt8} {k : Nat} {c : UInt8} (h : bs[k]? = some c) : G r (bs.drop k) = goOut (G r (bs.drop (k + 1))) c.toNat := by
  rw [drop_one h, G_cons]
end Go.Proofs.Ytkfggbafgjephaa
