/- An attribute of a key: the program's and the document's. -/
import Derived.Test.YtacmofhlbebonaaTreO
namespace Go.Proofs.Ytacmofhlbebonaa
open Go.RowKit
set_option maxRecDepth 20000

def AttrAns (w : World) (t : Nd) (key : Txt) (e : Ending) (w' : World) : Prop :=
  e = .returned (.tuple #[.string ⟨((attrV t.attrs key).getD []).toArray⟩, .bool (attrV t.attrs key).isSome]) ∧ Below w.heap.size w w'
set_option maxHeartbeats 2000000 in
theorem attr_any (w : World) (t : Nd) (aA kA : Option Addr) (an ac kn kc : Nat) (h : NodeV (Old w) w aA an ac kA kn kc t) (key : Txt) : Calls Try.prog 32 #[.agg (val6 t aA an ac kA kn kc), .string ⟨key.toArray⟩] w (AttrAns w t key) := by
  have hf := h.facts
  have f1 := Lib.hid hf.ats
  have f1l := Lib.hid hf.ats.1
  have f3 := hf.anc
  have f3m := hf.acm
  unfold maxLen at f3m
  clear h hf
  unfold val6
  go_enter Try.func32, Try.ntmps32
  go_wp2_with fail
  go_loopw [11] (fun k wr => ∃ q : Nat, q ≤ an ∧ k = .int .i64 (q : Int) ∧ attrV t.attrs key = attrV (t.attrs.drop q) key ∧ wr.heap[w.heap.size]? = some (.cells (val6 t aA an ac kA kn kc) 26 (0, 0)) ∧ Below w.heap.size w wr) (fun k _ => an - (intOf k).toNat)
  case atStart => exact ⟨0, Nat.zero_le _, rfl, rfl, heap_alloc_new w _, (Below.refl _ _).alloc (Nat.le_refl _) _⟩
  case round =>
    obtain ⟨q, hq, rfl, hat, hB, hbel⟩ := hrel
    have hB' := Lib.hid hB
    have hBl := (Array.getElem?_eq_some_iff.1 hB).1
    unfold val6 at hB
    obtain ⟨c0, c1, c2, c3, c4, c5, cf⟩ := six_cells hB
    by_cases h1 : q < an
    · have h1I : (q : Int) < (an : Int) := by omega
      obtain ⟨ad, x, rfl, hxq, hlt, x1, x2, x3, x4⟩ := (f1.out.kept (T' := Old w) (fun _ h => h) (fun k hk => hbel.block k hk)).at_ h1
      have hdrop : t.attrs.drop q = x :: t.attrs.drop (q + 1) := by
        have hl : q < t.attrs.length := by rw [f1l.out]; exact h1
        rw [List.drop_eq_getElem_cons hl]
        rw [List.getElem?_eq_getElem hl] at hxq
        injection hxq with hxq
        rw [hxq]
      rw [hdrop] at hat
      obtain ⟨ky, va⟩ := x
      simp only at *
      have hbel' := Lib.hid hbel
      by_cases g : ky = key
      · have hans := Lib.hid (show attrV t.attrs key = some va by rw [hat]; simp [attrV, g])
        subst g
        clear hat hdrop hxq hB hbel
        go_wp2_with fail
        go_ret2
        refine ⟨by rw [hans.out]; rfl, hbel'.out.alloc hbel'.out.size _⟩
      · have hans := Lib.hid (show attrV t.attrs key = attrV (t.attrs.drop (q + 1)) key by rw [hat]; simp [attrV, g])
        have g2 : (ky == key) = false := by simpa using g
        clear hat hdrop hxq hB hbel g
        go_wp2_with fail
        go_roundw
        case rel => exact ⟨q + 1, by omega, by go_num, hans.out, (Go.heap_alloc_old _ _ hBl).trans hB'.out, hbel'.out.alloc hbel'.out.size _⟩
        case measure => simp [intOf]; omega
    · have h1I : ¬ (q : Int) < (an : Int) := by omega
      have hans := Lib.hid (show attrV t.attrs key = none by rw [hat, List.drop_of_length_le (by rw [f1l.out]; omega)]; rfl)
      have hbel' := Lib.hid hbel
      clear hat hB hbel
      go_wp2_with fail
      go_ret2
      exact ⟨by rw [hans.out]; rfl, hbel'.out⟩
set_option maxHeartbeats 2000000 in
theorem rattr_any (w : World) (t : Nd) (aA kA : Option Addr) (an ac kn kc : Nat) (h : NodeV (Old w) w aA an ac kA kn kc t) (key : Txt) : Calls Try.prog 33 #[.agg (val6 t aA an ac kA kn kc), .string ⟨key.toArray⟩] w (AttrAns w t key) := by
  have hf := h.facts
  have f1 := Lib.hid hf.ats
  have f1l := Lib.hid hf.ats.1
  have f3 := hf.anc
  have f3m := hf.acm
  unfold maxLen at f3m
  clear h hf
  unfold val6
  go_enter Try.func33, Try.ntmps33
  go_wp2_with fail
  go_loopw [6] (fun k wr => ∃ q : Nat, q ≤ an ∧ k = .int .i64 (q : Int) ∧ attrV t.attrs key = attrV (t.attrs.drop q) key ∧ wr.heap[w.heap.size]? = some (.cells (val6 t aA an ac kA kn kc) 26 (0, 0)) ∧ Below w.heap.size w wr) (fun k _ => an - (intOf k).toNat)
  case atStart => exact ⟨0, Nat.zero_le _, rfl, rfl, heap_alloc_new w _, (Below.refl _ _).alloc (Nat.le_refl _) _⟩
  case round =>
    obtain ⟨q, hq, rfl, hat, hB, hbel⟩ := hrel
    have hB' := Lib.hid hB
    have hBl := (Array.getElem?_eq_some_iff.1 hB).1
    unfold val6 at hB
    obtain ⟨c0, c1, c2, c3, c4, c5, cf⟩ := six_cells hB
    by_cases h1 : q < an
    · have h1I : (q : Int) < (an : Int) := by omega
      obtain ⟨ad, x, rfl, hxq, hlt, x1, x2, x3, x4⟩ := (f1.out.kept (T' := Old w) (fun _ h => h) (fun k hk => hbel.block k hk)).at_ h1
      have hdrop : t.attrs.drop q = x :: t.attrs.drop (q + 1) := by
        have hl : q < t.attrs.length := by rw [f1l.out]; exact h1
        rw [List.drop_eq_getElem_cons hl]
        rw [List.getElem?_eq_getElem hl] at hxq
        injection hxq with hxq
        rw [hxq]
      rw [hdrop] at hat
      obtain ⟨ky, va⟩ := x
      simp only at *
      have hbel' := Lib.hid hbel
      by_cases g : ky = key
      · have hans := Lib.hid (show attrV t.attrs key = some va by rw [hat]; simp [attrV, g])
        subst g
        clear hat hdrop hxq hB hbel
        go_wp2_with fail
        go_ret2
        refine ⟨by rw [hans.out]; rfl, hbel'.out⟩
      · have hans := Lib.hid (show attrV t.attrs key = attrV (t.attrs.drop (q + 1)) key by rw [hat]; simp [attrV, g])
        have g2 : (ky == key) = false := by simpa using g
        clear hat hdrop hxq hB hbel g
        go_wp2_with fail
        go_roundw
        case rel => exact ⟨q + 1, by omega, by go_num, hans.out, hB'.out, hbel'.out⟩
        case measure => simp [intOf]; omega
    · have h1I : ¬ (q : Int) < (an : Int) := by omega
      have hans := Lib.hid (show attrV t.attrs key = none by rw [hat, List.drop_of_length_le (by rw [f1l.out]; omega)]; rfl)
      have hbel' := Lib.hid hbel
      clear hat hB hbel
      go_wp2_with fail
      go_ret2
      exact ⟨by rw [hans.out]; rfl, hbel'.out⟩
end Go.Proofs.Ytacmofhlbebonaa
