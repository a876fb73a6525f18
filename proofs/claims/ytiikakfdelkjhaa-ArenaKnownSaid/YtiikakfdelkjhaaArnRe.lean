/- What is below a slot, in the document's order: the document's. -/
import Derived.Test.YtiikakfdelkjhaaArnRd
import Derived.Test.YtiikakfdelkjhaaArnN
namespace Go.Proofs.Ytiikakfdelkjhaa.Arn
open Go.RowKit
set_option maxRecDepth 20000
set_option linter.unusedVariables false

theorem NewN.below {w0 w w' : World} {A : Option Addr} {n c : Nat} {l : List Nat} (h : NewN w0 w A n c l) (hb : Below w.heap.size w w') : NewN w0 w' A n c l :=
  ⟨h.own.kept fun ad e => hb.block _ (by obtain ⟨-, -, -, -, h5⟩ := h.own.blk; obtain ⟨g, cur, rfl, hg, _⟩ := h5 ad e; exact (Array.getElem?_eq_some_iff.1 hg).1), h.new, h.bel.trans (hb.mono h.bel.size)⟩
theorem NewN.one (w : World) (s : Nat) : NewN w (w.alloc (.cells #[.int .i64 (s : Int)] 3)) (some ⟨w.heap.size, 0, none⟩) 1 1 [s] :=
  ⟨own_of (heap_alloc_new w _) rfl rfl (Nat.le_refl _) (by decide) rfl, fun ad e => (by injection e with e; subst e; exact Nat.le_refl _), (Below.refl _ _).alloc (Nat.le_refl _) _⟩
theorem Pre.one_len {kids : Nat → List Nat} {k : Nat} {l : List Nat} (h : Pre kids [k] l) : ∃ l1, l = k :: l1 ∧ Pre kids (kids k) l1 := by
  obtain ⟨l', e, h'⟩ := h.pop
  rw [List.append_nil] at h'
  exact ⟨l', e, h'⟩
theorem Pre.step {kids : Nat → List Nat} {x : List Nat} {i k : Nat} {d e : List Nat} (hk : x[i]? = some k) (h : Pre kids (x.take i) d) (h2 : Pre kids (x.drop i) e) : ∃ m e', e = m ++ e' ∧ Pre kids [k] m ∧ Pre kids (x.take (i + 1)) (d ++ m) ∧ Pre kids (x.drop (i + 1)) e' := by
  have hd : x.drop i = [k] ++ x.drop (i + 1) := by
    obtain ⟨h1, rfl⟩ := List.getElem?_eq_some_iff.1 hk
    rw [List.drop_eq_getElem_cons h1]
    rfl
  rw [hd] at h2
  obtain ⟨m, e', rfl, g1, g2⟩ := h2.split
  refine ⟨m, e', rfl, g1, ?_, g2⟩
  have : x.take (i + 1) = x.take i ++ [k] := by
    rw [List.take_add_one, hk]
    rfl
  rw [this]
  exact h.append g1
/-- what the goer wants of an arena -/
structure Lv (a : Av) : Prop where
  lt : ∀ i, a.live i = true → i < a.cnt
  kid : ∀ i k, k ∈ a.kids i → a.live k = true
theorem WF.lv {a : Av} (h : WF a) : Lv a := ⟨fun _ hi => h.lt hi, fun _ _ hk => (h.kid hk).1⟩
section
variable {ow : Nat → Role} {P g : Nat} {a : Av} {sv : Nat → SV} {sc : Nat} {fA : Option Addr} {fc : Nat}
set_option maxHeartbeats 2000000 in
theorem rsubtree_fuel (hw : Lv a) : ∀ (N : Nat) (w : World) (s : Nat) (l : List Nat), RA w ow P g a sv sc fA fc → l.length ≤ N → l.length ≤ 100000 → a.live s = true → Pre a.kids [s] l →
    Calls Try.prog 51 #[.pointer (some ⟨P, 0, none⟩), .int .i64 (s : Int)] w fun e w' => ∃ A c, e = .returned (.slice A l.length c) ∧ NewN w w' A l.length c l
  | 0, w, s, l, h, hN, hlen, hs, hl => by
    obtain ⟨l1, e, _⟩ := hl.one_len
    subst e
    simp at hN
  | N + 1, w, s, l, h, hN, hlen, hs, hl => by
    obtain ⟨l1, e, hl1⟩ := hl.one_len
    have ih := Lib.hid (rsubtree_fuel hw N)
    have h' := Lib.hid h
    have hw' := Lib.hid hw
    have hsl := hw.lt _ hs
    have hcap := h.cap
    have hcm := h.capm
    have hsm := h.small
    have hl1' := Lib.hid hl1
    have hone := Lib.hid (NewN.one w s)
    have hnn : Hid (l.length ≤ N + 1 ∧ l = s :: l1 ∧ l.length ≤ 100000) := Lib.hid ⟨hN, e, hlen⟩
    have hki := Lib.hid (h.kids s hsl)
    have hks := h.ksmall s
    have hsI : (s : Int) < (a.cnt : Int) := by omega
    clear h hw hl1 hl e hN hlen hs
    obtain ⟨m, hm⟩ : ∃ m, m = (a.kids s).length := ⟨_, rfl⟩
    have hm' := Lib.hid hm
    rw [← hm] at hks
    clear hm
    go_enter Try.func51, Try.ntmps51
    go_wp2_with fail
    go_loopw [5, 6] (fun v i wr => ∃ (q : Nat) (d e : List Nat) (A : Option Addr) (n c : Nat), q ≤ m ∧ i = .int .i64 (q : Int) ∧ v = .slice A n c ∧ n = d.length + 1 ∧ l1 = d ++ e ∧ Pre a.kids ((a.kids s).take q) d ∧ Pre a.kids ((a.kids s).drop q) e ∧ NewN w wr A n c (s :: d)) (fun _ i _ => m - (intOf i).toNat)
    case atStart => exact ⟨0, [], l1, _, 1, 1, Nat.zero_le _, rfl, rfl, rfl, rfl, by rw [List.take_zero]; exact .nil, by rw [List.drop_zero]; exact hl1'.out, hone.out⟩
    case round =>
      obtain ⟨q, d, e, A, n, c, hq, rfl, rfl, hn, hde, hp1, hp2, hrow⟩ := hrel
      have hrow' := Lib.hid hrow
      have hR := h'.out.below hrow.bel
      obtain ⟨c0, -, -⟩ := hR.head_cells
      obtain ⟨-, -, -, -, -, -, -, c7⟩ := hR.eight hsl
      rw [← hm'.out] at c7
      have hn' := Lib.hid hn
      have hde' := Lib.hid hde
      have hR' := Lib.hid hR
      clear hrow hR hn hde
      by_cases hlt : q < m
      · obtain ⟨k, hk⟩ : ∃ k, (a.kids s)[q]? = some k := ⟨_, List.getElem?_eq_getElem (by rw [← hm'.out]; exact hlt)⟩
        obtain ⟨ad, hA, -, hc⟩ := (hR'.out.kids s hsl).ns.2 q k hk
        obtain ⟨x, e', he', g1, g2, g3⟩ := hp1.step hk hp2
        have hkl := hw'.out.kid _ _ (List.mem_of_getElem? hk)
        have hlx : x.length ≤ N ∧ x.length ≤ 100000 := by
          have h1 := hnn.out
          rw [h1.2.1, hde'.out, he'] at h1
          simp at h1
          omega
        have G := Lib.hid (And.intro g2 (And.intro g3 (And.intro g1 (And.intro hkl (And.intro hlx he')))))
        have hkc := (hR'.out.kids s hsl).knc
        have hns := (hR'.out.kids s hsl).ns.1
        rw [← hns, ← hm'.out] at hkc
        rw [hA] at c7
        clear hk hp1 hp2 g1 g2 g3 hkl hlx he' hA hns
        unfold natV at hc
        have hqI : (q : Int) < (m : Int) := by omega
        go_wp2_with (first
          | (refine (ih.out _ k x hR'.out G.out.2.2.2.2.1.1 G.out.2.2.2.2.1.2 G.out.2.2.2.1 G.out.2.2.1).mono ?_; rintro z w2 ⟨A2, c2, rfl, hn2⟩; have hn2' := Lib.hid hn2; clear hn2)
          | (at_builtin; refine wpList_append_new rfl _ _ rfl A n c (s :: d) x rfl (hrow'.out.below hn2'.out.bel) A2 x.length c2 rfl hn2'.out.own.ns hn2'.out.own.blk.2.2.2.1 (by have h1 := hnn.out; have h2 := hn'.out; rw [h1.2.1, hde'.out, G.out.2.2.2.2.2] at h1; simp at h1; omega) ?_; intro A3 c3 w3 g3; have G3 := Lib.hid g3; clear g3))
        go_roundw
        case rel => exact ⟨q + 1, d ++ x, e', A3, n + x.length, c3, by omega, by go_num, rfl, by rw [hn'.out, List.length_append]; omega, by rw [hde'.out, G.out.2.2.2.2.2, List.append_assoc], G.out.1, G.out.2.1, G3.out⟩
        case measure => simp [intOf]; omega
      · have hqI : ¬ (q : Int) < (m : Int) := by omega
        have hqm := Lib.hid (show (a.kids s).length ≤ q by rw [← hm'.out]; omega)
        have hp1' := Lib.hid hp1
        have hp2' := Lib.hid hp2
        clear hp1 hp2
        go_wp2_with fail
        go_ret
        have he : e = [] := by
          have := hp2'.out
          rw [List.drop_of_length_le hqm.out] at this
          exact this.nil_eq
        have hl : l = s :: d := by rw [hnn.out.2.1, hde'.out, he, List.append_nil]
        rw [hl]
        have hn2 : n = (s :: d).length := hn'.out
        rw [← hn2]
        exact ⟨A, c, rfl, hrow'.out⟩
theorem rsubtree_any {w : World} (h : RA w ow P g a sv sc fA fc) (hw : Lv a) {s : Nat} {l : List Nat} (hs : a.live s = true) (hl : Pre a.kids [s] l) (hlen : l.length ≤ 100000) :
    Calls Try.prog 51 #[.pointer (some ⟨P, 0, none⟩), .int .i64 (s : Int)] w fun e w' => ∃ A c, e = .returned (.slice A l.length c) ∧ NewN w w' A l.length c l :=
  rsubtree_fuel hw l.length w s l h (Nat.le_refl _) hlen hs hl
end
end Go.Proofs.Ytiikakfdelkjhaa.Arn
