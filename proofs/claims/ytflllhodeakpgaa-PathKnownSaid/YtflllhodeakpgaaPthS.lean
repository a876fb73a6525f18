/- The laws PathShift and PathSum, at numbers that a test admits. -/
import Derived.Test.YtflllhodeakpgaaPthR
import Derived.Test.YtflllhodeakpgaaPthN
namespace Go.Proofs.Ytflllhodeakpgaa
open Go.RowKit
set_option maxRecDepth 20000

theorem ShiftR.shape {w w' : World} {t : Int} {L : List Int} {e : Ending} (h : ShiftR w (t, L) e w') : ∃ A c, e = .returned (.tuple #[.slice A L.length c, .int .i64 t]) ∧ L.length ≤ c ∧ c ≤ maxLen ∧ (A = none → c = 0) ∧ OwnI w.heap.size w' (.slice A L.length c) L ∧ Below w.heap.size w w' := by
  obtain ⟨v, rfl, ho, hb⟩ := h
  obtain ⟨A, n, c, rfl, rfl, h1, h2, h3, h4⟩ := ho.shape
  exact ⟨A, c, rfl, h1, h2, h4, ho, hb⟩
theorem SumR.shape {w w' : World} {t : Int} {L : List (Nat × Nat)} {e : Ending} (h : SumR w (t, L) e w') : ∃ A c, e = .returned (.tuple #[.slice A L.length c, .int .i64 t]) ∧ ItsC w' A L.length L ∧ Below w.heap.size w w' := by
  obtain ⟨v, rfl, ho, hb⟩ := h
  obtain ⟨A, n, c, rfl, rfl, h1, h2, h3, h4⟩ := ho.shape
  exact ⟨A, c, rfl, h3, hb⟩
theorem shiftV_len (xs : List Int) (re im : Nat) : (shiftV xs re im).2.length ≤ xs.length := by
  unfold shiftV
  split
  · exact Nat.zero_le _
  · split
    · split
      · simp
      · exact Nat.zero_le _
    · exact Nat.zero_le _

set_option maxHeartbeats 3200000 in
theorem shiftLaw_any (w : World) (A : Option Addr) (n c : Nat) (xs : List Int) (hA : Its w A n xs) (hnil : A = none → c = 0) (re im : Nat) (hf : fineS re im = true) (hk : okRef re im = true) :
    Calls Try.prog 27 #[.slice A n c, .complex .f64 re im] w (Held w) := by
  by_cases h5 : (200 : Int) < (n : Int)
  · clear hA hnil
    go_enter Try.func27, Try.ntmps27
    go_wp2_with (go_at_call 11; refine (works_any _).mono ?_; rintro e w1 ⟨rfl, hb⟩)
    go_ret
    exact ⟨rfl, hb⟩
  · obtain ⟨t, L, hx⟩ : ∃ t L, shiftV xs re im = (t, L) := ⟨_, _, rfl⟩
    have hml := shiftV_len xs re im
    rw [hx] at hml
    obtain ⟨m, hm⟩ : ∃ m : Nat, L.length = m := ⟨_, rfl⟩
    have hm' := Lib.hid hm
    have hx' := Lib.hid hx
    have hW := Lib.hid (Below.refl w.heap.size w)
    have hA0 := Lib.hid hA
    have hnil' := Lib.hid hnil
    have hl' := Lib.hid hA.1
    have hn5' := Lib.hid (show n ≤ 500000 by omega)
    have hnm' := Lib.hid (show n ≤ maxLen by unfold maxLen; omega)
    have hmb : m ≤ 200 := by have := hl'.out; dsimp only at hml; omega
    have hmm' := Lib.hid (show m ≤ maxLen by unfold maxLen; omega)
    have hf' := Lib.hid hf
    have hk' := Lib.hid hk
    have hne : (t != t) = false := bne_self_eq_false t
    clear hA hnil hm hx hml hf hk
    go_enter Try.func27, Try.ntmps27
    go_wp2_with (first
      | (go_at_call 20; refine (refCopied_any _ A n c xs hA0.out hnil'.out hn5'.out).mono ?_; intro e w1 hr; obtain ⟨A1, c1, e1, hc1, hm1, hz1, ho1, hi1, hb⟩ := hr.shape; rw [hl'.out] at e1 hc1 ho1 hi1; subst e1; have hz1' := Lib.hid hz1; have ho1' := Lib.hid ho1; have hi1' := Lib.hid hi1; have hh1 := Lib.hid ho1.hi; have hs1 := Lib.hid hb.size; have hW := Lib.hid (hW.out.trans (hb.mono hW.out.size)); clear hr hc1 hm1 hz1 ho1 hi1 hb)
      | (go_at_call 31; refine (shift_any _ A1 n c1 xs hi1'.out hz1'.out hn5'.out re im hf'.out).mono ?_; intro e w2 hr; rw [hx'.out] at hr; obtain ⟨A2, c2, e2, hc2, hm2, hz2, ho2, hb⟩ := hr.shape; rw [hm'.out] at e2 hc2 ho2; subst e2; have ho2' := Lib.hid ho2; have hl2 := Lib.hid ho2.lo; have ho1' := Lib.hid (ho1'.out.below hb); have hW := Lib.hid (hW.out.trans (hb.mono hW.out.size)); clear hr hc2 hm2 hz2 ho2 hb)
      | (go_at_call 37; refine (refShift_any _ A n c xs (hA0.out.below hW.out) hnil'.out hn5'.out re im hf'.out hk'.out).mono ?_; intro e w3 hr; rw [hx'.out] at hr; obtain ⟨A3, c3, e3, hc3, hm3, hz3, ho3, hb⟩ := hr.shape; rw [hm'.out] at e3 hc3 ho3; subst e3; have hi3' := Lib.hid (Its.at_own ho3); have ho1' := Lib.hid (ho1'.out.below hb); have ho2' := Lib.hid (ho2'.out.below hb); have hW := Lib.hid (hW.out.trans (hb.mono hW.out.size)); clear hr hc3 hm3 hz3 ho3 hb)
      | (go_at_call 23; refine (same_yes _ A2 A3 m c2 m c3 L (Its.at_own ho2'.out) hi3'.out hmm'.out).mono ?_; rintro e w4 ⟨rfl, hb⟩; have ho1' := Lib.hid (ho1'.out.below hb); have ho2' := Lib.hid (ho2'.out.below hb); have hW := Lib.hid (hW.out.trans (hb.mono hW.out.size)); clear hb))
    go_loopw [10] (fun i wr => ∃ (k : Nat) (L : List Int), k ≤ m ∧ i = .int .i64 (k : Int) ∧ OwnI w1.heap.size wr (.slice A2 m c2) L ∧ But (Value.ownBlock (.slice A2 m c2)) w4 wr) (fun i _ => m - (intOf i).toNat)
    case atStart => exact ⟨0, _, Nat.zero_le _, rfl, ho2'.out, But.refl _ _⟩
    case round =>
      obtain ⟨k, L, hk, rfl, ho, hbut⟩ := hrel
      have ho' := Lib.hid ho
      have hbut' := Lib.hid hbut
      clear ho hbut
      by_cases hlt : k < m
      · obtain ⟨g, x, rfl, hg1, hg2, hcell, hfr, hst⟩ := ho'.out.room hlt
        have hst' := Lib.hid (hst (-7))
        have j0 : (0 : Int) ≤ (k : Int) := by omega
        have j1 : (k : Int) < (m : Int) := by omega
        clear hst hlt
        go_wp2_with fail
        go_roundw
        case rel => exact ⟨k + 1, _, by omega, by go_num, hst'.out.1, hbut'.out.trans hst'.out.2⟩
        case measure => simp [intOf]; omega
      · have hkm : m = k := by omega
        subst hkm
        have o1 := Lib.hid (ho1'.out.but hbut'.out (but_ne hh1.out hl2.out))
        have hf1 := Lib.hid (Its.at_own o1.out)
        have hWf := Lib.hid (hW.out.trans (hbut'.out.below hW.out.size (lo_mono hl2.out hs1.out)))
        have hfA := Lib.hid (hA0.out.below hWf.out)
        clear hlt
        go_wp2_with (first
          | (go_at_call_of 23 (Value.slice A1 n c1); refine (same_yes _ A1 A n c1 n c xs hf1.out hfA.out hnm'.out).mono ?_; rintro e wf ⟨rfl, hb⟩; have hW := Lib.hid (hWf.out.trans (hb.mono hWf.out.size)); clear hb)
          | (go_at_call 11; refine (works_any _).mono ?_; rintro e wg ⟨rfl, hb⟩; have hW := Lib.hid (hW.out.trans (hb.mono hW.out.size))))
        go_ret
        exact ⟨rfl, hW.out⟩

theorem picks_self (L : List Int) : ∀ k, ∀ z ∈ picks L k, (FloatKind.f64.format.order z.1 z.1 == some .eq) = true ∧ (FloatKind.f64.format.order z.2 z.2 == some .eq) = true
  | 0, z, h => by cases h
  | k + 1, z, h => by
    have h' : z ∈ picks L k ++ pick1 (L.getD k 0) k := h
    rcases List.mem_append.1 h' with h' | h'
    · exact picks_self L k z h'
    · unfold pick1 at h'
      split at h'
      · cases h'
      · obtain rfl := List.mem_singleton.1 h'
        exact ⟨fOf_self _, fOf_self _⟩
theorem sums_self {zs : List (Nat × Nat)} {t : Int} {L : List (Nat × Nat)} (h : sumsV zs = (t, L)) {k re im : Nat} (hk : L[k]? = some (re, im)) : (FloatKind.f64.format.order re re == some .eq) = true ∧ (FloatKind.f64.format.order im im == some .eq) = true := by
  have hmem := List.mem_of_getElem? hk
  unfold sumsV at h
  split at h
  · unfold sumsOf at h
    split at h
    · injection h with _ h
      subst h
      exact picks_self _ _ _ hmem
    · injection h with _ h
      subst h
      cases hmem
  · injection h with _ h
    subst h
    cases hmem
theorem sums_len {zs : List (Nat × Nat)} {t : Int} {L : List (Nat × Nat)} (h : sumsV zs = (t, L)) : L.length ≤ 64 := by
  unfold sumsV at h
  split at h
  · unfold sumsOf at h
    split at h
    · injection h with _ h
      subst h
      exact picks_len _ _
    · injection h with _ h
      subst h
      exact Nat.zero_le _
  · injection h with _ h
    subst h
    exact Nat.zero_le _

set_option maxHeartbeats 3200000 in
theorem sumLaw_any (w : World) (A : Option Addr) (n c : Nat) (zs : List (Nat × Nat)) (hA : ItsC w A n zs) (hf : fineL zs = true) (hk : okL zs = true) :
    Calls Try.prog 29 #[.slice A n c] w (Held w) := by
  by_cases h5 : (200 : Int) < (n : Int)
  · clear hA
    go_enter Try.func29, Try.ntmps29
    go_wp2_with (go_at_call 11; refine (works_any _).mono ?_; rintro e w1 ⟨rfl, hb⟩)
    go_ret
    exact ⟨rfl, hb⟩
  · obtain ⟨t, L, hx⟩ : ∃ t L, sumsV zs = (t, L) := ⟨_, _, rfl⟩
    obtain ⟨m, hm⟩ : ∃ m : Nat, L.length = m := ⟨_, rfl⟩
    have hm64 := sums_len hx
    rw [hm] at hm64
    have hm' := Lib.hid hm
    have hx' := Lib.hid hx
    have hW := Lib.hid (Below.refl w.heap.size w)
    have hA0 := Lib.hid hA
    have hnm' := Lib.hid (show n ≤ maxLen by unfold maxLen; omega)
    have hf' := Lib.hid hf
    have hk' := Lib.hid hk
    have hne : (t != t) = false := bne_self_eq_false t
    have hne2 : ((m : Int) != (m : Int)) = false := bne_self_eq_false _
    clear hA hm hx hf hk
    go_enter Try.func29, Try.ntmps29
    go_wp2_with (first
      | (go_at_call 32; refine (sum_any _ A n c zs hA0.out hnm'.out hf'.out).mono ?_; intro e w2 hr; rw [hx'.out] at hr; obtain ⟨A2, c2, e2, hi2, hb⟩ := hr.shape; rw [hm'.out] at e2 hi2; subst e2; have hi2' := Lib.hid hi2; have hW := Lib.hid (hW.out.trans (hb.mono hW.out.size)); clear hr hi2 hb)
      | (go_at_call 38; refine (refSum_any _ A n c zs (hA0.out.below hW.out) hnm'.out hf'.out hk'.out).mono ?_; intro e w3 hr; rw [hx'.out] at hr; obtain ⟨A3, c3, e3, hi3, hb⟩ := hr.shape; rw [hm'.out] at e3 hi3; subst e3; have hi3' := Lib.hid hi3; have hi2' := Lib.hid (hi2'.out.below hb); have hW := Lib.hid (hW.out.trans (hb.mono hW.out.size)); clear hr hi3 hb))
    go_loopw [7] (fun i wr => ∃ (k : Nat), k ≤ m ∧ i = .int .i64 (k : Int) ∧ ∃ nd, wr = w3.drewN nd) (fun i _ => m - (intOf i).toNat)
    case atStart => exact ⟨0, Nat.zero_le _, rfl, 0, rfl⟩
    case round =>
      obtain ⟨k, hk, rfl, nd, rfl⟩ := hrel
      by_cases hlt : k < m
      · obtain ⟨ad, re, im, rfl, hz, hc2⟩ := hi2'.out.at_ hlt
        obtain ⟨bd, re', im', rfl, hz', hc3⟩ := hi3'.out.at_ hlt
        rw [hz] at hz'
        obtain ⟨rfl, rfl⟩ := Prod.mk.inj (Option.some.inj hz')
        obtain ⟨o1, o2⟩ := sums_self hx'.out hz
        have j0 : (0 : Int) ≤ (k : Int) := by omega
        have j1 : (k : Int) < (m : Int) := by omega
        clear hlt hz hz'
        go_wp2_with fail
        go_quiet (fail)
        go_wp2_with fail
        go_roundw
        case rel => exact ⟨k + 1, by omega, by go_num, _, rfl⟩
        case measure => simp [intOf]; omega
      · clear hk
        have hb := draws (Below.refl w3.heap.size w3) nd
        have hW := Lib.hid (hW.out.trans (hb.mono hW.out.size))
        generalize w3.drewN nd = w4 at *
        go_wp2_with (go_at_call 11; refine (works_any _).mono ?_; rintro e wg ⟨rfl, hb⟩; have hW := Lib.hid (hW.out.trans (hb.mono hW.out.size)))
        go_ret
        exact ⟨rfl, hW.out⟩
end Go.Proofs.Ytflllhodeakpgaa
