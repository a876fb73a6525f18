/- The frame of bowerlaw06.PlainAt's statement: what it asks of the walk. -/
import Derived.Test.YtacmofhlbebonaaRows
import Derived.WalkKit
import Derived.Test.YtacmofhlbebonaaTreFr
import Derived.ProofKit
import Derived.OpenShut
import Derived.ShutString
import Derived.ChangeOld
import Derived.Below
import Derived.ChangeMaps5
namespace Go.Proofs.Ytacmofhlbebonaa.plainAt
open Go.ChangeShapes Go.WideShapes Go.ChangeAt Go.RowKit
open Go.ChangeMaps (open_string shut_string)
set_option linter.unusedVariables false

theorem own : ownKnob Try.prog.godebug = none := by kernel_rfl
theorem laidOut : laidOutB Try.prog = true := by kernel_rfl
/-- what is asked of the walk -/
def Walk : Prop := ∀ (w : World) (t0 : Nd) (aA0 kA0 : Option Addr) (an0 ac0 kn0 kc0 : Nat) (A1 : Option Addr) (n1 c1 : Nat) (x1 : List Int) (t2 : Nd) (aA2 kA2 : Option Addr) (an2 ac2 kn2 kc2 : Nat) (_ : NodeV (Old w) w aA0 an0 ac0 kA0 kn0 kc0 t0) (_ : Its w A1 n1 x1) (_ : n1 ≤ c1) (_ : c1 ≤ maxLen) (_ : Fit x1) (_ : NodeV (Old w) w aA2 an2 ac2 kA2 kn2 kc2 t2),
    Calls Try.prog 6 #[.agg (val6 t0 aA0 an0 ac0 kA0 kn0 kc0), .slice A1 n1 c1, .agg (val6 t2 aA2 an2 ac2 kA2 kn2 kc2)] w fun e w' => e = .returned (.bool true) ∧ Below w.heap.size w w'

set_option maxRecDepth 100000 in
theorem lifted (walk : Walk) (os : Os) (started : os.Started) (H : Type) (enc : TypeId × Value → H) :
    ReturnsInHanded {} Try.checked os 6 .any (Rows.plainAtSpec.pre6 enc Try.prog Try.f6 Rows.plainAtRow.domain false) (Rows.plainAtSpec.post enc Try.prog Try.f6 false true false false) := by
  refine returnsInHanded_of_change (C := Try.checked) own started (by kernel_rfl) Try.func6
    (ChangeSpec.witness6 (enc := enc) (C := Try.checked) false ⟨#[], #[.agg #[.int .u64 0, .bool false, .string ⟨#[]⟩, .slice none 0 0, .string ⟨#[]⟩, .slice none 0 0], .slice none 0 0, .agg #[.int .u64 0, .bool false, .string ⟨#[]⟩, .slice none 0 0, .string ⟨#[]⟩, .slice none 0 0]], []⟩ 8 (by kernel_rfl) (by kernel_rfl) (by kernel_rfl) (by kernel_rfl)) ?_
  intro W base args ds gs before hval0 hW hcnd _
  have hval : ∀ (j : Nat) t v, Try.f6.params[j]? = some t → args[j]? = some v → Value.okWide Try.prog W .any base t v := hval0
  have hW' := hW
  obtain ⟨p, q, hA0, hV, rfl, hfz, hnd⟩ := hW
  have hA : DataW.TrodAll enc Try.prog W 0 (fun _ => true) true Try.f6.params.toList args.toList ds p := hA0
  rw [Try.params6] at hA hval
  obtain ⟨v0, vs0, d0, ds0, p0, q0, hargs, rfl, rfl, h0, r0⟩ := trodAll_cons hA
  obtain ⟨v1, vs1, d1, ds1, p1, q1, rfl, rfl, rfl, h1, r1⟩ := trodAll_cons r0
  obtain ⟨v2, vs2, d2, ds2, p2, q2, rfl, rfl, rfl, h2, r2⟩ := trodAll_cons r1
  obtain ⟨rfl, rfl, rfl⟩ := trodAll_nil r2
  obtain rfl : args = #[v0, v1, v2] := by cases args; simp_all
  obtain ⟨rfl, rfl⟩ := trodVars_none hV
  obtain ⟨cs0, rfl, -⟩ := okWide_struct Try.underlying26 (hval 0 26 v0 rfl rfl)
  have k0 := h0
  have lt0 : ∀ x ∈ p0, x.block < W.heap.size := by obtain ⟨m, hm⟩ := k0; exact DataW.trod_lt m _ _ _ hm
  obtain ⟨t0, aA0, an0, ac0, kA0, kn0, kc0, rfl, hx0⟩ : ∃ t aA an ac kA kn kc, cs0 = val6 t aA an ac kA kn kc ∧ NodeV (Old W) W aA an ac kA kn kc t := by
    obtain ⟨fuel, hf⟩ := h0
    obtain ⟨t, aA, an, ac, kA, kn, kc, hv, h1⟩ := node_in fuel _ _ hf
    exact ⟨t, aA, an, ac, kA, kn, kc, Array.ext' hv, h1⟩
  obtain ⟨a1, len1, cap1, rfl⟩ := okWide_slice Try.underlying36 (hval 1 36 v1 rfl rfl)
  have k1 := h1
  have lt1 : ∀ x ∈ p1, x.block < W.heap.size := by obtain ⟨m, hm⟩ := k1; exact DataW.trod_lt m _ _ _ hm
  obtain ⟨x1, hx1, hl1, hm1, hf1⟩ : ∃ x1, Its W a1 len1 x1 ∧ len1 ≤ cap1 ∧ cap1 ≤ maxLen ∧ Fit x1 := by
    obtain ⟨fuel, hf⟩ := h1
    obtain ⟨A, n, c, xs, hv, h1, h2, h3, h4⟩ := ints_in hf
    injection hv with e1 e2 e3
    subst e1 e2 e3
    exact ⟨xs, h1, h2, h3, h4⟩
  obtain ⟨cs2, rfl, -⟩ := okWide_struct Try.underlying26 (hval 2 26 v2 rfl rfl)
  have k2 := h2
  have lt2 : ∀ x ∈ p2, x.block < W.heap.size := by obtain ⟨m, hm⟩ := k2; exact DataW.trod_lt m _ _ _ hm
  obtain ⟨t2, aA2, an2, ac2, kA2, kn2, kc2, rfl, hx2⟩ : ∃ t aA an ac kA kn kc, cs2 = val6 t aA an ac kA kn kc ∧ NodeV (Old W) W aA an ac kA kn kc t := by
    obtain ⟨fuel, hf⟩ := h2
    obtain ⟨t, aA, an, ac, kA, kn, kc, hv, h1⟩ := node_in fuel _ _ hf
    exact ⟨t, aA, an, ac, kA, kn, kc, Array.ext' hv, h1⟩
  clear hA0 hval0
  refine (walk W t0 aA0 kA0 an0 ac0 kn0 kc0 a1 len1 cap1 x1 t2 aA2 kA2 an2 ac2 kn2 kc2 hx0 hx1 hl1 hm1 hf1 hx2).mono fun e W' ⟨he, bel⟩ => ?_
  subst he
  exact ⟨_, rfl, _, _, _, [], _, [], hW', trodAll_mk1 (shut_bool Try.underlying4 _), (trodAll_cons_mk (Below.trod laidOut (by kernel_rfl) (of_decide_eq_true (by kernel_rfl)) k0 bel lt0) (trodAll_cons_mk (Below.trod laidOut (by kernel_rfl) (of_decide_eq_true (by kernel_rfl)) k1 bel lt1) (trodAll_cons_mk (Below.trod laidOut (by kernel_rfl) (of_decide_eq_true (by kernel_rfl)) k2 bel lt2) trodAll_mk0))), rfl, bel.frame _, fun h => by cases h⟩

theorem over (walk : Walk) : Rows.plainAtRow.holds Try.pinned (OpenSpec.ofChange Rows.plainAtSpec) :=
  OpenClaim.holds_of_wide 6 Try.f6 rfl rfl rfl rfl rfl rfl rfl ⟨rfl, rfl, rfl, rfl, rfl⟩ rfl rfl rfl rfl rfl (by kernel_rfl) Try.func6 (by kernel_rfl)
    (of_decide_eq_true (by kernel_rfl)) (by unfold Func.isWrapper; first | (rw [if_pos (by decide +kernel)]; kernel_rfl) | (rw [if_neg (by decide +kernel)]; exact ⟨rfl, rfl⟩))
    (fun os started H enc _ => lifted walk os started H enc)
end Go.Proofs.Ytacmofhlbebonaa.plainAt
