/- Are two nodes alike by themselves; attributes looked up: the program's. -/
import Derived.Test.YtacmofhlbebonaaTreB
namespace Go.Proofs.Ytacmofhlbebonaa
open Go.RowKit
set_option maxRecDepth 20000

theorem NodeAt.drewN {T : Nat → Prop} {w : World} {E : Addr} {t : Nd} (h : NodeAt T w E t) (n : Nat) : NodeAt T (w.drewN n) E t := NodeAt.kept (w := w) (fun _ h => h) (fun _ _ => rfl) h
set_option maxHeartbeats 4000000 in
theorem alike_c (w : World) (T T2 : Nat → Prop) (E F : Addr) (l1 l2 : Bool) (b1 b2 x1 x2 : Txt) (A1 A2 : Option Addr) (n1 m1 n2 m2 : Nat) (p1 p2 : List (Txt × Txt))
    (c1 : w.cell? ⟨E.block, E.off + 1, none⟩ = some (.bool l1)) (c2 : w.cell? ⟨E.block, E.off + 2, none⟩ = some (.string ⟨b1.toArray⟩)) (c3 : w.cell? ⟨E.block, E.off + 3, none⟩ = some (.slice A1 n1 m1)) (c4 : w.cell? ⟨E.block, E.off + 4, none⟩ = some (.string ⟨x1.toArray⟩))
    (d1 : w.cell? ⟨F.block, F.off + 1, none⟩ = some (.bool l2)) (d2 : w.cell? ⟨F.block, F.off + 2, none⟩ = some (.string ⟨b2.toArray⟩)) (d3 : w.cell? ⟨F.block, F.off + 3, none⟩ = some (.slice A2 n2 m2)) (d4 : w.cell? ⟨F.block, F.off + 4, none⟩ = some (.string ⟨x2.toArray⟩))
    (hx : AtsIn T w A1 n1 p1) (hy : AtsIn T2 w A2 n2 p2) (hT : ∀ k, T k → k < w.heap.size) (hT2 : ∀ k, T2 k → k < w.heap.size) (hn : n1 ≤ maxLen) (hn2 : n2 ≤ maxLen) :
    Calls Try.prog 42 #[.pointer (some E), .pointer (some F)] w fun e w' => e = .returned (.bool (l1 == l2 && b1 == b2 && x1 == x2 && p1 == p2)) ∧ ∃ d, w' = w.drewN d := by
  have hx' := Lib.hid hx
  have hy' := Lib.hid hy
  have hT' := Lib.hid hT
  have hT2' := Lib.hid hT2
  clear hx hy hT hT2
  by_cases h1 : l1 = l2
  · subst h1
    by_cases h2 : b1 = b2
    · subst h2
      by_cases h3 : x1 = x2
      · subst h3
        have hv := Lib.hid (show (l1 == l1 && b1 == b1 && x1 == x1 && p1 == p2) = (p1 == p2) by simp)
        go_enter Try.func42, Try.ntmps42
        go_wp2_with fail
        go_quiet ((go_at_call 49; exact Calls.quiet_of (atsEq_any _ T T2 A1 A2 n1 m1 n2 m2 p1 p2 hx'.out hy'.out hT'.out hT2'.out hn hn2)))
        go_wp2_with fail
        go_ret
        exact ⟨by rw [hv.out]; rfl, _, rfl⟩
      · have hv := Lib.hid (show (l1 == l1 && b1 == b1 && x1 == x2 && p1 == p2) = false by simp [h3])
        have e3 : (x1 == x2) = false := by simpa using h3
        clear h3
        go_enter Try.func42, Try.ntmps42
        go_wp2_with fail
        go_quiet (fail)
        go_wp2_with fail
        go_ret
        exact ⟨by rw [hv.out]; rfl, _, rfl⟩
    · have hv := Lib.hid (show (l1 == l1 && b1 == b2 && x1 == x2 && p1 == p2) = false by simp [h2])
      have e2 : (b1 == b2) = false := by simpa using h2
      clear h2
      go_enter Try.func42, Try.ntmps42
      go_wp2_with fail
      go_quiet (fail)
      go_wp2_with fail
      go_ret
      exact ⟨by rw [hv.out]; rfl, _, rfl⟩
  · have hv := Lib.hid (show (l1 == l2 && b1 == b2 && x1 == x2 && p1 == p2) = false by simp [h1])
    have e1 : (l1 == l2) = false := by simpa using h1
    clear h1
    go_enter Try.func42, Try.ntmps42
    go_wp2_with fail
    go_quiet (fail)
    go_wp2_with fail
    go_ret
    exact ⟨by rw [hv.out]; rfl, _, rfl⟩
theorem alike_any (w : World) (T T2 : Nat → Prop) (E F : Addr) (t u : Nd) (h : NodeAt T w E t) (h2 : NodeAt T2 w F u) (hT : ∀ k, T k → k < w.heap.size) (hT2 : ∀ k, T2 k → k < w.heap.size) :
    Calls Try.prog 42 #[.pointer (some E), .pointer (some F)] w fun e w' => e = .returned (.bool (alikeA t u)) ∧ ∃ d, w' = w.drewN d := by
  obtain ⟨hE, aA, an, ac, kA, kn, kc, ⟨c0, c1, c2, c3, c4, c5⟩, hv⟩ := h
  obtain ⟨hF, aA2, an2, ac2, kA2, kn2, kc2, ⟨d0, d1, d2, d3, d4, d5⟩, hv2⟩ := h2
  have f1 := hv.facts
  have f2 := hv2.facts
  exact alike_c w T T2 E F t.leaf u.leaf t.label u.label t.text u.text aA aA2 an ac an2 ac2 t.attrs u.attrs c1 c2 c3 c4 d1 d2 d3 d4 f1.ats f2.ats hT hT2 (Nat.le_trans f1.anc f1.acm) (Nat.le_trans f2.anc f2.acm)
set_option maxHeartbeats 2000000 in
theorem sameAlone_any (w : World) (T T2 : Nat → Prop) (E F : Addr) (t u : Nd) (h : NodeAt T w E t) (h2 : NodeAt T2 w F u) (hT : ∀ k, T k → k < w.heap.size) (hT2 : ∀ k, T2 k → k < w.heap.size) :
    Calls Try.prog 40 #[.pointer (some E), .pointer (some F)] w fun e w' => e = .returned (.bool (sameA t u)) ∧ ∃ d, w' = w.drewN d := by
  have h' := Lib.hid h
  have h2' := Lib.hid h2
  have hT' := Lib.hid hT
  have hT2' := Lib.hid hT2
  obtain ⟨-, aA, an, ac, kA, kn, kc, ⟨c0, -⟩, -⟩ := h
  obtain ⟨-, aA2, an2, ac2, kA2, kn2, kc2, ⟨d0, -⟩, -⟩ := h2
  clear hT hT2
  have hv := Lib.hid (show sameA t u = (t.id == u.id && alikeA t u) from rfl)
  revert hv c0 d0
  generalize t.id = i1
  generalize u.id = i2
  intro c0 d0 hv
  by_cases e : i1 = i2
  · subst e
    have hv2 := Lib.hid (show sameA t u = alikeA t u by rw [hv.out]; simp)
    have q1 := Lib.hid (show ∀ n, NodeAt T (w.drewN n) E t from fun n => h'.out.drewN n)
    have q2 := Lib.hid (show ∀ n, NodeAt T2 (w.drewN n) F u from fun n => h2'.out.drewN n)
    go_enter Try.func40, Try.ntmps40
    go_wp2_with fail
    go_quiet ((go_at_call 42; exact Calls.quiet_of (alike_any _ T T2 E F t u (q1.out _) (q2.out _) hT'.out hT2'.out)))
    go_wp2_with fail
    go_ret
    exact ⟨by rw [hv2.out]; rfl, _, rfl⟩
  · have hv2 := Lib.hid (show sameA t u = false by rw [hv.out]; simp [e])
    have e1 : ((i1 : Int) == (i2 : Int)) = false := by simp; omega
    clear e
    go_enter Try.func40, Try.ntmps40
    go_wp2_with fail
    go_quiet (fail)
    go_wp2_with fail
    go_ret
    exact ⟨by rw [hv2.out]; rfl, _, rfl⟩
end Go.Proofs.Ytacmofhlbebonaa
