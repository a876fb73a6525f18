/- The way down a path: the document's. -/
import Derived.Test.YtiikakfdelkjhaaArnRb
namespace Go.Proofs.Ytiikakfdelkjhaa.Arn
open Go.RowKit
set_option maxRecDepth 20000
set_option linter.unusedVariables false

section
variable {w : World} {ow : Nat → Role} {P g : Nat} {a : Av} {sv : Nat → SV} {sc : Nat} {fA : Option Addr} {fc : Nat}
set_option maxHeartbeats 1000000 in
theorem rwalk_any (h : RA w ow P g a sv sc fA fc) (hw : WF a) {A : Option Addr} {n c : Nat} {p : List Int} (hp : Its w A n p) (hn : n ≤ 1000000) : Calls Try.prog 16 #[.pointer (some ⟨P, 0, none⟩), .slice A n c] w fun e w' => e = .returned (walkA (walkV a p 0)) ∧ w = w' := by
  have h' := Lib.hid h
  have hw' := Lib.hid hw
  have hp' := Lib.hid hp
  have hpl := hp.1
  have hcap := h.cap
  have hcm := h.capm
  have hsm := h.small
  have c0 := h.head_cells.1
  clear h hw hp
  go_enter Try.func16, Try.ntmps16
  go_wp2_with fail
  go_loopw [6, 7] (fun s k wr => ∃ (q x : Nat), q ≤ n ∧ k = .int .i64 (q : Int) ∧ s = .int .i64 (x : Int) ∧ a.live x = true ∧ walkV a p 0 = walkV a (p.drop q) x ∧ wr = w) (fun _ k _ => n - (intOf k).toNat)
  case atStart => exact ⟨0, 0, Nat.zero_le _, rfl, rfl, hw'.out.root, by rw [List.drop_zero], rfl⟩
  case round =>
    obtain ⟨q, x, hq, rfl, rfl, hx, hwv, rfl⟩ := hrel
    have hwv' := Lib.hid hwv
    have hx' := Lib.hid hx
    clear hwv hx
    by_cases hqn : q < n
    · obtain ⟨ad, i, rfl, hi, hc⟩ := hp'.out.at_ hqn
      have hxl := hw'.out.lt hx'.out
      have c7 := (h'.out.eight hxl).2.2.2.2.2.2.2
      have hks := h'.out.ksmall x
      have hd := Lib.hid (show p.drop q = i :: p.drop (q + 1) by obtain ⟨h1, h2⟩ := List.getElem?_eq_some_iff.1 hi; rw [List.drop_eq_getElem_cons h1, h2])
      obtain ⟨N, hN⟩ : ∃ N, N = (a.kids x).length := ⟨_, rfl⟩
      rw [← hN] at c7 hks
      have hN' := Lib.hid hN
      clear hN hi hpl
      have hqI : (q : Int) < (n : Int) := by omega
      have hxI : (x : Int) < (a.cnt : Int) := by omega
      by_cases h1 : i < 0
      · have hv := Lib.hid (show walkV a p 0 = none from hwv'.out.trans (by rw [hd.out]; exact walkV_stop (.inl h1)))
        go_wp2_with fail
        exact bodyPost_ret (v := .tuple #[.int .i64 (-1), .bool false]) (by simp [results, Try.results16, go_sem]) rfl ⟨by rw [hv.out]; rfl, rfl⟩
      · by_cases h2 : (N : Int) ≤ i
        · have hv := Lib.hid (show walkV a p 0 = none from hwv'.out.trans (by rw [hd.out]; exact walkV_stop (.inr (by rw [← hN'.out]; exact h2))))
          go_wp2_with fail
          exact bodyPost_ret (v := .tuple #[.int .i64 (-1), .bool false]) (by simp [results, Try.results16, go_sem]) rfl ⟨by rw [hv.out]; rfl, rfl⟩
        · obtain ⟨j, rfl⟩ := Int.eq_ofNat_of_zero_le (show 0 ≤ i by omega)
          have hjN : j < (a.kids x).length := by rw [← hN'.out]; omega
          obtain ⟨k, hk⟩ : ∃ k, (a.kids x)[j]? = some k := ⟨_, List.getElem?_eq_getElem hjN⟩
          have hki := h'.out.kids x hxl
          obtain ⟨bd, hg, -, hgc⟩ := hki.ns.2 j k hk
          have hkn := hki.ns.1
          have hkc := hki.knc
          rw [← hkn, ← hN'.out] at hkc
          rw [hg] at c7
          have hkl2 := Lib.hid (hw'.out.kid (List.mem_of_getElem? hk)).1
          have hv := Lib.hid (show walkV a p 0 = walkV a (p.drop (q + 1)) k from hwv'.out.trans (by rw [hd.out]; exact walkV_step rfl hk))
          have hjI : (j : Int) < (N : Int) := by omega
          unfold natV at hgc
          clear hki hkn hg hk hjN
          go_wp2_with fail
          go_round
          case rel => exact ⟨q + 1, k, by omega, by go_num, rfl, hkl2.out, hv.out, by trivial⟩
          case measure => simp [intOf]; omega
    · have hqn' : q = n := by omega
      have hv := Lib.hid (show walkV a p 0 = some x by rw [hwv'.out, List.drop_eq_nil_of_le (by omega)]; rfl)
      have hqI : ¬ (q : Int) < (n : Int) := by omega
      clear hqn'
      go_wp2_with fail
      exact bodyPost_ret (v := .tuple #[.int .i64 (x : Int), .bool true]) (by simp [results, Try.results16, go_sem]) rfl ⟨by rw [hv.out]; rfl, rfl⟩
end
end Go.Proofs.Ytiikakfdelkjhaa.Arn
