/- The frame of ListsSame's statement: what it asks of the walk. -/
import Derived.Test.YtidimannfemnmaaRows
import Derived.WalkKit
import Derived.Test.YtidimannfemnmaaTopFo
import Derived.ProofKit
import Derived.OpenShut
import Derived.ShutString
import Derived.ChangeOld
import Derived.Below
import Derived.ChangeMaps5
set_option linter.all false
namespace Go.Proofs.Ytidimannfemnmaa.listsSame
open Go.ChangeShapes Go.WideShapes Go.ChangeAt Go.RowKit
open Go.ChangeMaps (open_string shut_string)

theorem own:ownKnob Try.prog.godebug = none:=by kernel_rfl
theorem laidOut:laidOutB Try.prog = true:=by kernel_rfl
def Walk:Prop:=∀ (w:World) (A0:Option Addr) (n0 c0:Nat) (x0:List (Ov × OS)) (A1:Option Addr) (n1 c1:Nat) (x1:List (Ov × OS)) (_:Top.OpsIn w A0 n0 x0) (_:n0≤c0) (_:c0≤maxLen) (_:A0 = none→c0 = 0) (_:Top.OpsIn w A1 n1 x1) (_:n1≤c1) (_:c1≤maxLen) (_:A1 = none→c1 = 0),
    Calls Try.prog 12 #[.slice A0 n0 c0,.slice A1 n1 c1] w fun e w'=>e = .returned (.bool true)∧Below w.heap.size w w'

set_option maxRecDepth 100000 in
theorem lifted (walk:Walk) (os:Os) (started:os.Started) (H:Type) (enc:TypeId × Value→H) :
    ReturnsInHanded {} Try.checked os 12 .any (Rows.listsSameSpec.pre6 enc Try.prog Try.f12 Rows.listsSameRow.domain false) (Rows.listsSameSpec.post enc Try.prog Try.f12 false true false false):=by
  refine returnsInHanded_of_change (C:=Try.checked) own started (by kernel_rfl) Try.func12
    (ChangeSpec.witness6 (enc:=enc) (C:=Try.checked) false ⟨#[],#[.slice none 0 0,.slice none 0 0],[]⟩ 8 (by kernel_rfl) (by kernel_rfl) (by kernel_rfl) (by kernel_rfl)) ?_
  intro W base args ds gs before hval0 hW hcnd _
  have hval:∀ (j:Nat) t v,Try.f12.params[j]? = some t→args[j]? = some v→Value.okWide Try.prog W .any base t v:=hval0
  have hW':=hW
  obtain ⟨p,q,hA0,hV,rfl,hfz,hnd⟩:=hW
  have hA:DataW.TrodAll enc Try.prog W 0 (fun _=>true) true Try.f12.params.toList args.toList ds p:=hA0
  rw [Try.params12] at hA hval
  obtain ⟨v0,vs0,d0,ds0,p0,q0,hargs,rfl,rfl,h0,r0⟩:=trodAll_cons hA
  obtain ⟨v1,vs1,d1,ds1,p1,q1,rfl,rfl,rfl,h1,r1⟩:=trodAll_cons r0
  obtain ⟨rfl,rfl,rfl⟩:=trodAll_nil r1
  obtain rfl:args = #[v0,v1]:=by cases args;simp_all
  obtain ⟨rfl,rfl⟩:=trodVars_none hV
  obtain ⟨a0,len0,cap0,rfl⟩:=okWide_slice Try.underlying55 (hval 0 55 v0 rfl rfl)
  have k0:=h0
  have lt0:∀ x ∈ p0,x.block < W.heap.size:=by obtain ⟨m,hm⟩:=k0;exact DataW.trod_lt m _ _ _ hm
  obtain ⟨x0,hx0,hl0,hm0,hf0⟩:∃ x0,Top.OpsIn W a0 len0 x0∧len0≤cap0∧cap0≤maxLen∧(a0 = none→cap0 = 0):=by
    obtain ⟨fuel,hf⟩:=h0
    obtain ⟨A,n,c,xs,hv,h1,h2,h3,h4⟩:=Top.ops_in hf
    injection hv with e1 e2 e3
    subst e1 e2 e3
    exact ⟨xs,h1,h2,h3,h4⟩
  obtain ⟨a1,len1,cap1,rfl⟩:=okWide_slice Try.underlying55 (hval 1 55 v1 rfl rfl)
  have k1:=h1
  have lt1:∀ x ∈ p1,x.block < W.heap.size:=by obtain ⟨m,hm⟩:=k1;exact DataW.trod_lt m _ _ _ hm
  obtain ⟨x1,hx1,hl1,hm1,hf1⟩:∃ x1,Top.OpsIn W a1 len1 x1∧len1≤cap1∧cap1≤maxLen∧(a1 = none→cap1 = 0):=by
    obtain ⟨fuel,hf⟩:=h1
    obtain ⟨A,n,c,xs,hv,h1,h2,h3,h4⟩:=Top.ops_in hf
    injection hv with e1 e2 e3
    subst e1 e2 e3
    exact ⟨xs,h1,h2,h3,h4⟩
  clear hA0 hval0
  refine (walk W a0 len0 cap0 x0 a1 len1 cap1 x1 hx0 hl0 hm0 hf0 hx1 hl1 hm1 hf1).mono fun e W' ⟨he,bel⟩=>?_
  subst he
  exact ⟨_,rfl,_,_,_,[],_,[],hW',trodAll_mk1 (shut_bool Try.underlying4 _),(trodAll_cons_mk (Below.trod laidOut (by kernel_rfl) (of_decide_eq_true (by kernel_rfl)) k0 bel lt0) (trodAll_cons_mk (Below.trod laidOut (by kernel_rfl) (of_decide_eq_true (by kernel_rfl)) k1 bel lt1) trodAll_mk0)),rfl,bel.frame _,fun h=>by cases h⟩

theorem over (walk:Walk):Rows.listsSameRow.holds Try.pinned (OpenSpec.ofChange Rows.listsSameSpec) :=
  OpenClaim.holds_of_wide 12 Try.f12 rfl rfl rfl rfl rfl rfl rfl ⟨rfl,rfl,rfl,rfl,rfl⟩ rfl rfl rfl rfl rfl (by kernel_rfl) Try.func12 (by kernel_rfl)
    (of_decide_eq_true (by kernel_rfl)) (by unfold Func.isWrapper;first | (rw [if_pos (by decide +kernel)];kernel_rfl) | (rw [if_neg (by decide +kernel)];exact ⟨rfl,rfl⟩))
    (fun os started H enc _=>lifted walk os started H enc)
end Go.Proofs.Ytidimannfemnmaa.listsSame

