/- Add, all of it: the document's. -/
import Derived.Test.YtiikakfdelkjhaaArnRk
import Derived.Test.YtiikakfdelkjhaaArnRl
import Derived.Test.YtiikakfdelkjhaaArnRn
namespace Go.Proofs.Ytiikakfdelkjhaa.Arn
open Go.RowKit
set_option maxRecDepth 20000
set_option linter.unusedVariables false

section
variable {w : World} {ow : Nat → Role} {P : Nat} {a : Av}
theorem addE_leaf {a : Av} {p i : Int} (h : addE a p i = 0) : (a.dat p.toNat).leaf = false := by
  unfold addE at h
  split at h
  · exact gapE_ok h
  · exact absurd h (by decide)
set_option maxHeartbeats 1000000 in
theorem radd_any (h : RAr w ow P a) (hw : WF a) (hc : a.cnt < 100000) (p i : Int) (T : Nat → Prop) (d : Dt) (dA : Option Addr) (dn dc : Nat) (hd : DatOk T w d dA dn dc) (hT : ∀ k, T k → k < w.heap.size) :
    Calls Try.prog 37 #[.pointer (some ⟨P, 0, none⟩), .int .i64 p, .int .i64 i, plV d dA dn dc] w fun e w' => e = .returned (.tuple #[.int .i64 (addR a p i d).1, .int .i64 (addE a p i)]) ∧ RDid w w' ow P (addR a p i d).2 := by
  have hD := Lib.hid (RDid.refl h)
  obtain ⟨g, sv, sc, fA, fc, h1⟩ := h
  by_cases h0 : addE a p i = 0
  · obtain ⟨x, j, rfl, rfl, hx, hj⟩ := addE_ok h0
    have hR : addR a (x : Int) (j : Int) d = ((slotV a : Int), addV a x j d) := by unfold addR; rw [if_pos h0]; rfl
    have hlf := addE_leaf h0
    rw [Int.toNat_natCast] at hlf
    rw [h0, hR]
    by_cases hf : a.free = []
    · exact radd_grow h1 hw hc hx hlf hj T d dA dn dc hd hT hf
    · exact radd_reuse h1 hw hc hx hlf hj T d dA dn dc hd hT hf
  · have hR : addR a p i d = (-1, a) := if_neg h0
    rw [hR]
    have hw' := Lib.hid hw
    have h1' := Lib.hid h1
    have hal := Lib.hid (fun o => (Below.refl w.heap.size w).alloc (Nat.le_refl _) o)
    obtain ⟨id, leaf, lb, at_, tx⟩ := d
    unfold plV sltV
    dsimp only
    cases hlv : liveI a p with
    | false =>
      have hv := Lib.hid (show addE a p i = 5 by unfold addE; rw [hlv]; rfl)
      have hlv' := Lib.hid hlv
      rw [hv.out]
      clear h1 hw hlv h0 hd hR
      go_enter Try.func37, Try.ntmps37
      go_wp2_with (go_at_call 31; refine (rlive_any (h1'.out.below (hal.out _)) hw'.out p).mono ?_; rintro e w7 ⟨rfl, rfl⟩; rw [hlv'.out])
      exact bodyPost_ret (v := .tuple #[.int .i64 (-1), .int .i64 5]) (by simp [results, Try.results37, go_sem]) rfl ⟨rfl, hD.out.then_ (hal.out _)⟩
    | true =>
      obtain ⟨x, rfl, hx⟩ := liveI_nat hlv
      have hlv' := Lib.hid hlv
      have hv := Lib.hid (show addE a (x : Int) i = gapE a x i by unfold addE; rw [hlv]; rfl)
      have hxl := hw.lt hx
      have hcap := h1.cap
      have hcm := h1.capm
      have hsm := h1.small
      have hks := h1.ksmall x
      have hxI : (x : Int) < (a.cnt : Int) := by omega
      have hB0 := h1.below (hal.out (.cells #[.bool false, .int .u64 (id : Int), .bool leaf, .string ⟨lb.toArray⟩, .slice dA dn dc, .string ⟨tx.toArray⟩, .int .i64 0, .slice none 0 0] 35))
      obtain ⟨c0, -, -⟩ := hB0.head_cells
      obtain ⟨-, -, c2, -, -, -, -, c7⟩ := hB0.eight hxl
      obtain ⟨m, hm⟩ : ∃ m, m = (a.kids x).length := ⟨_, rfl⟩
      rw [← hm] at c7 hks
      rw [hv.out] at h0
      rw [hv.out]
      cases hlf : (a.dat x).leaf with
      | true =>
        have hg := Lib.hid (show gapE a x i = 83 by unfold gapE; rw [hlf]; rfl)
        rw [hg.out]
        rw [hlf] at c2
        clear h1 hw hlv h0 hd hR hv hB0 hm hx hlf
        go_enter Try.func37, Try.ntmps37
        go_wp2_with (go_at_call 31; refine (rlive_any (h1'.out.below (hal.out _)) hw'.out _).mono ?_; rintro e w7 ⟨rfl, rfl⟩; rw [hlv'.out])
        exact bodyPost_ret (v := .tuple #[.int .i64 (-1), .int .i64 83]) (by simp [results, Try.results37, go_sem]) rfl ⟨rfl, hD.out.then_ (hal.out _)⟩
      | false =>
        rw [hlf] at c2
        by_cases hi : i < 0
        · have hg := Lib.hid (show gapE a x i = 81 by unfold gapE; rw [hlf]; simp [hi])
          rw [hg.out]
          clear h1 hw hlv h0 hd hR hv hB0 hm hx hlf
          go_enter Try.func37, Try.ntmps37
          go_wp2_with (go_at_call 31; refine (rlive_any (h1'.out.below (hal.out _)) hw'.out _).mono ?_; rintro e w7 ⟨rfl, rfl⟩; rw [hlv'.out])
          exact bodyPost_ret (v := .tuple #[.int .i64 (-1), .int .i64 81]) (by simp [results, Try.results37, go_sem]) rfl ⟨rfl, hD.out.then_ (hal.out _)⟩
        · have hi2 : (m : Int) < i := by
            rcases Int.lt_or_le (m : Int) i with e | e
            · exact e
            · exfalso
              apply h0
              unfold gapE
              rw [hlf, ← hm]
              simp [hi]
              omega
          have hg := Lib.hid (show gapE a x i = 81 by unfold gapE; rw [hlf, ← hm]; simp [hi2])
          rw [hg.out]
          clear h1 hw hlv h0 hd hR hv hB0 hm hx hlf
          go_enter Try.func37, Try.ntmps37
          go_wp2_with (go_at_call 31; refine (rlive_any (h1'.out.below (hal.out _)) hw'.out _).mono ?_; rintro e w7 ⟨rfl, rfl⟩; rw [hlv'.out])
          exact bodyPost_ret (v := .tuple #[.int .i64 (-1), .int .i64 81]) (by simp [results, Try.results37, go_sem]) rfl ⟨rfl, hD.out.then_ (hal.out _)⟩
end
end Go.Proofs.Ytiikakfdelkjhaa.Arn
