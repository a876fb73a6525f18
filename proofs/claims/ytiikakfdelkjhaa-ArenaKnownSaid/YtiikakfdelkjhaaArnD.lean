/- What is wrong with a call; the way up; the way down a path; a slot's data: the program's. -/
import Derived.Test.YtiikakfdelkjhaaArnC
import Derived.Deep.LoopGhost
import Derived.Deep.CutRange
namespace Go.Proofs.Ytiikakfdelkjhaa.Arn
open Go.RowKit
set_option maxRecDepth 20000

/-- at a gap of a live slot's children -/
def gapE (a : Av) (p : Nat) (i : Int) : Int := if (a.dat p).leaf then 83 else if i < 0 ∨ ((a.kids p).length : Int) < i then 81 else 0
section
variable {w : World} {ow : Nat → Role} {P : Nat} {a : Av} {B : Nat → Nat} {m : Nat} {sv : Nat → SV} {sA : Option Addr} {sc : Nat} {fA : Option Addr} {fc : Nat}
theorem gapFault_any (h : PA w ow P a B m sv sA sc fA fc) {p : Nat} (hp : p < m * 16) (i : Int) : Calls Try.prog 56 #[.pointer (some ⟨P, 0, none⟩), .int .i64 (p : Int), .int .i64 i] w fun e w' => e = .returned (.int .i64 (gapE a p i)) ∧ w = w' := by
  have h' := Lib.hid h
  obtain ⟨-, -, c2, -, c4, -⟩ := h.eight hp
  have hkl := (h.kids p hp).len
  have hks := h.ksmall p
  rw [hkl] at c2
  obtain ⟨V, hV⟩ : ∃ V, V = gapE a p i := ⟨_, rfl⟩
  rw [← hV]
  unfold gapE at hV
  clear h hkl
  generalize (a.kids p).length = n at c2 hks hV
  cases hlf : (a.dat p).leaf with
  | true =>
    rw [hlf] at c4 hV
    have hv := Lib.hid (show V = 83 by rw [hV]; rfl)
    clear hlf hV
    go_enter Try.func56, Try.ntmps56
    go_wp2_with (refine (node_any h'.out hp).mono ?_; rintro e w7 ⟨rfl, rfl⟩)
    go_ret
    exact ⟨by rw [hv.out]; rfl, rfl⟩
  | false =>
    rw [hlf] at c4 hV
    clear hlf
    by_cases h1 : i < 0
    · have hv := Lib.hid (show V = 81 by rw [hV]; simp [h1])
      clear hV
      go_enter Try.func56, Try.ntmps56
      go_wp2_with (refine (node_any h'.out hp).mono ?_; rintro e w7 ⟨rfl, rfl⟩)
      go_ret
      exact ⟨by rw [hv.out]; rfl, rfl⟩
    · by_cases h2 : (n : Int) < i
      · have hv := Lib.hid (show V = 81 by rw [hV]; simp [h2])
        clear hV
        go_enter Try.func56, Try.ntmps56
        go_wp2_with (refine (node_any h'.out hp).mono ?_; rintro e w7 ⟨rfl, rfl⟩)
        go_ret
        exact ⟨by rw [hv.out]; rfl, rfl⟩
      · have hv := Lib.hid (show V = 0 by rw [hV]; simp [h1, h2])
        clear hV
        go_enter Try.func56, Try.ntmps56
        go_wp2_with (refine (node_any h'.out hp).mono ?_; rintro e w7 ⟨rfl, rfl⟩)
        go_ret
        exact ⟨by rw [hv.out]; rfl, rfl⟩
def addE (a : Av) (p i : Int) : Int := if liveI a p then gapE a p.toNat i else 5
theorem addFault_any (h : PA w ow P a B m sv sA sc fA fc) (p i : Int) : Calls Try.prog 44 #[.pointer (some ⟨P, 0, none⟩), .int .i64 p, .int .i64 i] w fun e w' => e = .returned (.int .i64 (addE a p i)) ∧ w = w' := by
  have h' := Lib.hid h
  cases hlv : liveI a p with
  | false =>
    have hv := Lib.hid (show addE a p i = 5 by unfold addE; rw [hlv]; rfl)
    have hlv' := Lib.hid hlv
    clear h hlv
    go_enter Try.func44, Try.ntmps44
    go_wp2_with (refine (isLive_any h'.out p).mono ?_; rintro e w7 ⟨rfl, rfl⟩; rw [hlv'.out])
    go_ret
    exact ⟨by rw [hv.out]; rfl, rfl⟩
  | true =>
    obtain ⟨s, rfl, hs⟩ := liveI_nat hlv
    have hm := Lib.hid (h.live_lt hs).2
    have hv := Lib.hid (show addE a (s : Int) i = gapE a s i by unfold addE; rw [hlv]; rfl)
    have hlv' := Lib.hid hlv
    clear h hlv hs
    go_enter Try.func44, Try.ntmps44
    go_wp2_with (first
      | (refine (isLive_any h'.out (s : Int)).mono ?_; rintro e w7 ⟨rfl, rfl⟩; rw [hlv'.out])
      | (refine (gapFault_any h'.out hm.out i).mono ?_; rintro e w7 ⟨rfl, rfl⟩))
    go_ret
    exact ⟨by rw [hv.out]; rfl, rfl⟩
def removeE (a : Av) (s : Int) : Int := if liveI a s then (if s = 0 then 82 else 0) else 5
theorem removeFault_any (h : PA w ow P a B m sv sA sc fA fc) (s : Int) : Calls Try.prog 46 #[.pointer (some ⟨P, 0, none⟩), .int .i64 s] w fun e w' => e = .returned (.int .i64 (removeE a s)) ∧ w = w' := by
  have h' := Lib.hid h
  clear h
  cases hlv : liveI a s with
  | false =>
    have hv := Lib.hid (show removeE a s = 5 by unfold removeE; simp [hlv])
    have hlv' := Lib.hid hlv
    clear hlv
    go_enter Try.func46, Try.ntmps46
    go_wp2_with (refine (isLive_any h'.out s).mono ?_; rintro e w7 ⟨rfl, rfl⟩; rw [hlv'.out])
    go_ret
    exact ⟨by rw [hv.out]; rfl, rfl⟩
  | true =>
    have hlv' := Lib.hid hlv
    by_cases h0 : s = 0
    · subst h0
      have hv := Lib.hid (show removeE a 0 = 82 by unfold removeE; simp [hlv])
      clear hlv
      go_enter Try.func46, Try.ntmps46
      go_wp2_with (refine (isLive_any h'.out 0).mono ?_; rintro e w7 ⟨rfl, rfl⟩; rw [hlv'.out])
      go_ret
      exact ⟨by rw [hv.out]; rfl, rfl⟩
    · have hv := Lib.hid (show removeE a s = 0 by unfold removeE; simp [hlv, h0])
      clear hlv
      go_enter Try.func46, Try.ntmps46
      go_wp2_with (refine (isLive_any h'.out s).mono ?_; rintro e w7 ⟨rfl, rfl⟩; rw [hlv'.out])
      go_ret
      exact ⟨by rw [hv.out]; rfl, rfl⟩
theorem isWithin_any (h : PA w ow P a B m sv sA sc fA fc) (h0 : a.par 0 = -1) {s p : Nat} (hp : ∀ x, Dn a.par x p → x < m * 16) (hd : Dn a.par 0 p) :
    Calls Try.prog 60 #[.pointer (some ⟨P, 0, none⟩), .int .i64 (s : Int), .int .i64 (p : Int)] w fun e w' => ∃ b : Bool, e = .returned (.bool b) ∧ (b = true ↔ Dn a.par s p) ∧ w = w' := by
  have h' := Lib.hid h
  have hp' := Lib.hid hp
  have h0' := Lib.hid h0
  have hps := h.pars
  obtain ⟨d0, hd0⟩ := hd.depth
  have hd0' := Lib.hid hd0
  have hpp := Lib.hid (hp p .refl)
  have hms : (m : Int) ≤ 100000 := by have := h.tight; have := h.small; omega
  clear hp hd hd0 h h0
  go_enter Try.func60, Try.ntmps60
  go_wp2_with fail
  go_loopg [2] (d0 + 1) (fun gk o wr => wr = w ∧ ((∃ (x d : Nat), o = .int .i64 (x : Int) ∧ Dp a.par x d ∧ Dn a.par x p ∧ (Dn a.par s p ↔ Dn a.par s x) ∧ gk = d + 1) ∨ (o = .int .i64 (-1) ∧ ¬ Dn a.par s p ∧ gk = 0)))
  case atStart => exact ⟨rfl, .inl ⟨p, d0, rfl, hd0'.out, .refl, Iff.rfl, rfl⟩⟩
  case round =>
    obtain ⟨rfl, hr⟩ := hrel
    rcases hr with ⟨x, d, rfl, hdp, hxp, hiff, rfl⟩ | ⟨rfl, hno, rfl⟩
    · have hxm := hp'.out x hxp
      by_cases hxs : x = s
      · subst hxs
        have hyes := Lib.hid (hiff.2 .refl)
        have hne1 : ((x : Int) != -1) = true := by simp <;> omega
        clear hdp hxp hiff
        go_wp2_with fail
        go_ret
        exact ⟨true, rfl, ⟨fun _ => hyes.out, fun _ => rfl⟩, rfl⟩
      · have c1 := (h'.out.eight hxm).2.1
        have hne : ((x : Int) != (s : Int)) = true := by simp <;> omega
        have hne1 : ((x : Int) != -1) = true := by simp <;> omega
        have hps1 := hps x
        have hdp' := Lib.hid hdp
        have hxp' := Lib.hid hxp
        have hiff' := Lib.hid hiff
        obtain ⟨y, hy⟩ : ∃ y, y = a.par x := ⟨_, rfl⟩
        rw [← hy] at c1
        have hy' := Lib.hid hy
        clear hdp hxp hiff hy hps1
        go_wp2_with (refine (node_any h'.out hxm).mono ?_; rintro e w7 ⟨rfl, rfl⟩)
        cases hdp'.out with
        | zero =>
          go_roundg 0
          case measure => omega
          case rel =>
            refine ⟨rfl, .inr ⟨by rw [hy'.out, h0'.out], fun hs => ?_, rfl⟩⟩
            have h3 := hiff'.out.1 hs
            cases h3 with
            | refl => exact hxs rfl
            | @step _ q hq _ => have := h0'.out; omega
        | @step _ q n hq hqn =>
          go_roundg (n + 1)
          case measure => omega
          case rel =>
            refine ⟨rfl, .inl ⟨q, n, by rw [hy'.out, hq], hqn, Dn.trans (.step hq .refl) hxp'.out, hiff'.out.trans ⟨fun h3 => ?_, fun h3 => .step hq h3⟩, rfl⟩⟩
            cases h3 with
            | refl => exact absurd rfl hxs
            | @step _ q2 hq2 h4 =>
              have : q2 = q := by omega
              subst this
              exact h4
    · have hne : ((-1 : Int) == (s : Int)) = false := by simp <;> omega
      have hno' := Lib.hid hno
      clear hno
      go_wp2_with fail
      go_ret
      exact ⟨false, rfl, ⟨fun e => (by cases e), fun e => absurd e hno'.out⟩, rfl⟩
end
end Go.Proofs.Ytiikakfdelkjhaa.Arn
