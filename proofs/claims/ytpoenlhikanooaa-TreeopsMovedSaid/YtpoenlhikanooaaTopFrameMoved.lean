/- The frame of TreeopsMoved's statement: what it asks of the walk. -/
import Derived.Test.YtpoenlhikanooaaRows
import Derived.WalkKit
import Derived.Test.YtpoenlhikanooaaTopFo
import Derived.ProofKit
import Derived.OpenShut
import Derived.ShutString
import Derived.ChangeOld
import Derived.Below
import Derived.ChangeMaps5
set_option linter.all false
namespace Go.Proofs.Ytpoenlhikanooaa.treeopsMoved
open Go.ChangeShapes Go.WideShapes Go.ChangeAt Go.RowKit
open Go.ChangeMaps (open_string shut_string)
set_option linter.unusedVariables false

theorem own : ownKnob Try.prog.godebug = none := by kernel_rfl
theorem laidOut : laidOutB Try.prog = true := by kernel_rfl
/-- what is asked of the walk -/
def Walk : Prop := ∀ (w : World) (t0 : Nd) (aA0 kA0 : Option Addr) (an0 ac0 kn0 kc0 : Nat) (A1 : Option Addr) (n1 c1 : Nat) (x1 : List Int) (A2 : Option Addr) (n2 c2 : Nat) (x2 : List Int) (a3 : Int) (_ : NodeV (Old w) w aA0 an0 ac0 kA0 kn0 kc0 t0) (_ : Its w A1 n1 x1) (_ : n1 ≤ c1) (_ : c1 ≤ maxLen) (_ : Fit x1) (_ : A1 = none → c1 = 0) (_ : Its w A2 n2 x2) (_ : n2 ≤ c2) (_ : c2 ≤ maxLen) (_ : Fit x2) (_ : A2 = none → c2 = 0) (_ : (Lit.int .i64 a3).wf = true),
    Calls Try.prog 7 #[.agg (val6 t0 aA0 an0 ac0 kA0 kn0 kc0), .slice A1 n1 c1, .slice A2 n2 c2, .int .i64 a3] w fun e w' => e = .returned (.bool true) ∧ Below w.heap.size w w'

set_option maxRecDepth 100000 in
theorem lifted (walk : Walk) (os : Os) (started : os.Started) (H : Type) (enc : TypeId × Value → H) :
    ReturnsInHanded {} Try.checked os 7 .any (Rows.treeopsMovedSpec.pre6 enc Try.prog Try.f7 Rows.treeopsMovedRow.domain false) (Rows.treeopsMovedSpec.post enc Try.prog Try.f7 false true false false) := by
  refine returnsInHanded_of_change (C := Try.checked) own started (by kernel_rfl) Try.func7
    (ChangeSpec.witness6 (enc := enc) (C := Try.checked) false ⟨#[], #[.agg #[.int .u64 0, .bool false, .string ⟨#[]⟩, .slice none 0 0, .string ⟨#[]⟩, .slice none 0 0], .slice none 0 0, .slice none 0 0, .int .i64 0], []⟩ 8 (by kernel_rfl) (by kernel_rfl) (by kernel_rfl) (by kernel_rfl)) ?_
  intro W base args ds gs before hval0 hW hcnd _
  have hval : ∀ (j : Nat) t v, Try.f7.params[j]? = some t → args[j]? = some v → Value.okWide Try.prog W .any base t v := hval0
  have hW' := hW
  obtain ⟨p, q, hA0, hV, rfl, hfz, hnd⟩ := hW
  have hA : DataW.TrodAll enc Try.prog W 0 (fun _ => true) true Try.f7.params.toList args.toList ds p := hA0
  rw [Try.params7] at hA hval
  obtain ⟨v0, vs0, d0, ds0, p0, q0, hargs, rfl, rfl, h0, r0⟩ := trodAll_cons hA
  obtain ⟨v1, vs1, d1, ds1, p1, q1, rfl, rfl, rfl, h1, r1⟩ := trodAll_cons r0
  obtain ⟨v2, vs2, d2, ds2, p2, q2, rfl, rfl, rfl, h2, r2⟩ := trodAll_cons r1
  obtain ⟨v3, vs3, d3, ds3, p3, q3, rfl, rfl, rfl, h3, r3⟩ := trodAll_cons r2
  obtain ⟨rfl, rfl, rfl⟩ := trodAll_nil r3
  obtain rfl : args = #[v0, v1, v2, v3] := by cases args; simp_all
  obtain ⟨rfl, rfl⟩ := trodVars_none hV
  obtain ⟨cs0, rfl, -⟩ := okWide_struct Try.underlying42 (hval 0 42 v0 rfl rfl)
  have k0 := h0
  have lt0 : ∀ x ∈ p0, x.block < W.heap.size := by obtain ⟨m, hm⟩ := k0; exact DataW.trod_lt m _ _ _ hm
  obtain ⟨t0, aA0, an0, ac0, kA0, kn0, kc0, rfl, hx0⟩ : ∃ t aA an ac kA kn kc, cs0 = val6 t aA an ac kA kn kc ∧ NodeV (Old W) W aA an ac kA kn kc t := by
    obtain ⟨fuel, hf⟩ := h0
    obtain ⟨t, aA, an, ac, kA, kn, kc, hv, h1⟩ := node_in fuel _ _ hf
    exact ⟨t, aA, an, ac, kA, kn, kc, Array.ext' hv, h1⟩
  obtain ⟨a1, len1, cap1, rfl⟩ := okWide_slice Try.underlying22 (hval 1 22 v1 rfl rfl)
  have k1 := h1
  have lt1 : ∀ x ∈ p1, x.block < W.heap.size := by obtain ⟨m, hm⟩ := k1; exact DataW.trod_lt m _ _ _ hm
  obtain ⟨x1, hx1, hl1, hm1, hf1, hn1⟩ : ∃ x1, Its W a1 len1 x1 ∧ len1 ≤ cap1 ∧ cap1 ≤ maxLen ∧ Fit x1 ∧ (a1 = none → cap1 = 0) := by
    obtain ⟨fuel, hf⟩ := h1
    obtain ⟨A, n, c, xs, hv, h1, h2, h3, h5, h4⟩ := Top.ints_nil hf
    injection hv with e1 e2 e3
    subst e1 e2 e3
    exact ⟨xs, h1, h2, h3, h4, h5⟩
  obtain ⟨a2, len2, cap2, rfl⟩ := okWide_slice Try.underlying22 (hval 2 22 v2 rfl rfl)
  have k2 := h2
  have lt2 : ∀ x ∈ p2, x.block < W.heap.size := by obtain ⟨m, hm⟩ := k2; exact DataW.trod_lt m _ _ _ hm
  obtain ⟨x2, hx2, hl2, hm2, hf2, hn2⟩ : ∃ x2, Its W a2 len2 x2 ∧ len2 ≤ cap2 ∧ cap2 ≤ maxLen ∧ Fit x2 ∧ (a2 = none → cap2 = 0) := by
    obtain ⟨fuel, hf⟩ := h2
    obtain ⟨A, n, c, xs, hv, h1, h2, h3, h5, h4⟩ := Top.ints_nil hf
    injection hv with e1 e2 e3
    subst e1 e2 e3
    exact ⟨xs, h1, h2, h3, h4, h5⟩
  obtain ⟨a3, rfl, rfl, rfl, w3⟩ := Go.ChangeShapes.open_int Try.underlying3 (hval 3 3 v3 rfl rfl) h3
  clear hA0 hval0
  refine (walk W t0 aA0 kA0 an0 ac0 kn0 kc0 a1 len1 cap1 x1 a2 len2 cap2 x2 a3 hx0 hx1 hl1 hm1 hf1 hn1 hx2 hl2 hm2 hf2 hn2 w3).mono fun e W' ⟨he, bel⟩ => ?_
  subst he
  exact ⟨_, rfl, _, _, _, [], _, [], hW', trodAll_mk1 (shut_bool Try.underlying4 _), (trodAll_cons_mk (Below.trod laidOut (by kernel_rfl) (of_decide_eq_true (by kernel_rfl)) k0 bel lt0) (trodAll_cons_mk (Below.trod laidOut (by kernel_rfl) (of_decide_eq_true (by kernel_rfl)) k1 bel lt1) (trodAll_cons_mk (Below.trod laidOut (by kernel_rfl) (of_decide_eq_true (by kernel_rfl)) k2 bel lt2) (trodAll_cons_mk (Go.ChangeShapes.shut_int Try.underlying3 w3) trodAll_mk0)))), rfl, bel.frame _, fun h => by cases h⟩

theorem over (walk : Walk) : Rows.treeopsMovedRow.holds Try.pinned (OpenSpec.ofChange Rows.treeopsMovedSpec) :=
  OpenClaim.holds_of_wide 7 Try.f7 rfl rfl rfl rfl rfl rfl rfl ⟨rfl, rfl, rfl, rfl, rfl⟩ rfl rfl rfl rfl rfl (by kernel_rfl) Try.func7 (by kernel_rfl)
    (of_decide_eq_true (by kernel_rfl)) (by unfold Func.isWrapper; first | (rw [if_pos (by decide +kernel)]; kernel_rfl) | (rw [if_neg (by decide +kernel)]; exact ⟨rfl, rfl⟩))
    (fun os started H enc _ => lifted walk os started H enc)
end Go.Proofs.Ytpoenlhikanooaa.treeopsMoved

