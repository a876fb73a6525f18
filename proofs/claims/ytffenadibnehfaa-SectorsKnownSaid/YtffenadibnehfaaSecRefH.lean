/- Settle of the document's disk, and a new one. -/
import Derived.Test.YtffenadibnehfaaSecRefG
namespace Go.Proofs.Ytffenadibnehfaa
open Go.RowKit

theorem own_base {w : World} {b b' : Nat} {e : TypeId} {size : Nat} {v : Value} {n : Nat} {xs : List Value} (h : w.ownsRow b e size v n xs) (hb : b' ≤ b) : w.ownsRow b' e size v n xs := by
  refine ⟨h.1, ?_⟩
  rcases h.2 with h0 | ⟨g, cap, cur, hv, hg, rest⟩
  · exact .inl h0
  · exact .inr ⟨g, cap, cur, hv, Nat.le_trans hb hg, rest⟩
theorem kept_all (d : RD) : kept d (d.wr.length : Int) = d.wr.length := by unfold kept; omega
def settleV (d : RD) : RD := { d with base := atsV d d.wr.length d.base.length, wr := [] }

set_option maxHeartbeats 800000 in
theorem settle_any (w : World) (B p : Nat) (d : RD) (h : RefAt w B p d) (hbl : d.base.length ≤ 100000) (hwl : d.wr.length ≤ 100000) :
    Calls Try.prog 33 #[.pointer (some ⟨p, 0, none⟩)] w fun e w' => e = .returned (.tuple #[]) ∧ RefAt w' B p (settleV d) ∧ Fr refTs B w w' ∧ ∀ k, baseOf w' p = some k → w.heap.size ≤ k := by
  have h' := Lib.hid h
  obtain ⟨hB, hl, bv, lv, hp, hbo, hwo⟩ := h
  have hlt : p < w.heap.size := (Array.getElem?_eq_some_iff.1 hp).1
  have c1 := cell_of_row w p 1 _ _ _ hp
  obtain ⟨A2, c2, rfl, _⟩ := own_form hwo
  simp at c1
  have hp' := Lib.hid hp
  have hl' := Lib.hid hl
  clear hp hbo hwo hl
  go_enter Try.func33, Try.ntmps33
  go_wp2_with fail
  refine (cut_any w B p d _ h'.out hbl hwl).mono ?_
  rintro e w2 ⟨X, rfl, hR, hb2⟩
  obtain ⟨hXB, _, bv2, lv2, hX, hbo2, _⟩ := hR
  obtain ⟨A3, c3, rfl, _⟩ := own_form hbo2
  rw [show (cutV d (d.wr.length : Int)).base.length = d.base.length by unfold cutV; exact atsV_len d _ _] at *
  have x0 := cell_of_row w2 X 0 _ _ _ hX
  have hp2 := (hb2.block p hlt).trans hp'.out
  have f0 := frozen_of_row w2 p 0 _ _ hp2
  have f1 := frozen_of_row w2 p 1 _ _ hp2
  have p0 := cell_of_row w2 p 0 _ _ _ hp2
  have p1 := cell_of_row w2 p 1 _ _ _ hp2
  have hbo' := Lib.hid hbo2
  have hp2' := Lib.hid hp2
  simp at x0 p0 p1
  have hs := two_stores hp2 hB 0 1 (.slice A3 d.base.length c3) (.slice none 0 0)
  have hs' := Lib.hid hs
  have hfin : RefAt ((w2.setCell ⟨p, 0, none⟩ (.slice A3 d.base.length c3)).setCell ⟨p, 1, none⟩ (.slice none 0 0)) B p (settleV d) := by
    refine ⟨hB, hl'.out, .slice A3 d.base.length c3, .slice none 0 0, ?_, ?_, World.ownsRow_nil _ _ _ _⟩
    · rw [hs.1]
      rfl
    · have e := own_base (hs.2.owns hbo2 (by decide)) (Nat.le_trans hB (Nat.le_of_lt hlt))
      have e1 : (cutV d (d.wr.length : Int)).base = (settleV d).base := by unfold cutV settleV; rw [kept_all]
      rw [e1] at e
      rw [show (settleV d).base.length = d.base.length from atsV_len d _ _]
      exact e
  have hfr : Fr refTs B w ((w2.setCell ⟨p, 0, none⟩ (.slice A3 d.base.length c3)).setCell ⟨p, 1, none⟩ (.slice none 0 0)) := (Fr.of_below hb2).trans (hs.2.widen (by decide) (Nat.le_refl _))
  have hbb := Lib.hid (show ∀ k, baseOf ((w2.setCell ⟨p, 0, none⟩ (.slice A3 d.base.length c3)).setCell ⟨p, 1, none⟩ (.slice none 0 0)) p = some k → w.heap.size ≤ k from fun k hk => by
    rw [baseOf_row (v := .slice A3 d.base.length c3) hs.1 (by simp)] at hk
    exact (World.ownsRow.lt hbo2 k hk).1)
  have hfin' := Lib.hid hfin
  have hfr' := Lib.hid hfr
  clear hX hbo2 hp2 hs hs' hfin hfr
  go_wp2_with fail
  go_end0
  exact ⟨rfl, hfin'.out, hfr'.out, hbb.out⟩
end Go.Proofs.Ytffenadibnehfaa
