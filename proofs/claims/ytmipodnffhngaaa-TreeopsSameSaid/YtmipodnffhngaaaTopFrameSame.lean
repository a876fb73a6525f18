/- The frame of bowerlaw08.TreeopsSame's statement: what it asks of the walk. -/
import Derived.Test.YtmipodnffhngaaaRows
import Derived.WalkKit
import Derived.Test.YtmipodnffhngaaaTopFo
import Derived.ProofKit
import Derived.OpenShut
import Derived.ShutString
import Derived.ChangeOld
import Derived.Below
import Derived.ChangeMaps5
set_option linter.all false
namespace Go.Proofs.Ytmipodnffhngaaa.treeopsSame
open Go.ChangeShapes Go.WideShapes Go.ChangeAt Go.RowKit
open Go.ChangeMaps (open_string shut_string)
set_option linter.unusedVariables false

theorem own:ownKnob Try.prog.godebug = none:=by kernel_rfl
theorem laidOut:laidOutB Try.prog = true:=by kernel_rfl
def Walk:Prop:=∀ (w:World) (t0:Nd) (aA0 kA0:Option Addr) (an0 ac0 kn0 kc0:Nat) (o1:Ov) (s1:OS) (o2:Ov) (s2:OS) (_:NodeV (Old w) w aA0 an0 ac0 kA0 kn0 kc0 t0) (_:Top.OpRaw w o1 s1) (_:Top.OpRaw w o2 s2),
    Calls Try.prog 7 #[.agg (val6 t0 aA0 an0 ac0 kA0 kn0 kc0),.agg (opCells o1 s1),.agg (opCells o2 s2)] w fun e w'=>e = .returned (.bool true)∧Below w.heap.size w w'

set_option maxRecDepth 100000 in
theorem lifted (walk:Walk) (os:Os) (started:os.Started) (H:Type) (enc:TypeId × Value→H) :
    ReturnsInHanded {} Try.checked os 7 .any (Rows.treeopsSameSpec.pre6 enc Try.prog Try.f7 Rows.treeopsSameRow.domain false) (Rows.treeopsSameSpec.post enc Try.prog Try.f7 false true false false):=by
  refine returnsInHanded_of_change (C:=Try.checked) own started (by kernel_rfl) Try.func7
    (ChangeSpec.witness6 (enc:=enc) (C:=Try.checked) false ⟨#[],#[.agg #[.int .u64 0,.bool false,.string ⟨#[]⟩,.slice none 0 0,.string ⟨#[]⟩,.slice none 0 0],.agg #[.int .u8 0,.slice none 0 0,.int .i64 0,.slice none 0 0,.int .u64 0,.bool false,.string ⟨#[]⟩,.string ⟨#[]⟩,.string ⟨#[]⟩,.bool false,.slice none 0 0],.agg #[.int .u8 0,.slice none 0 0,.int .i64 0,.slice none 0 0,.int .u64 0,.bool false,.string ⟨#[]⟩,.string ⟨#[]⟩,.string ⟨#[]⟩,.bool false,.slice none 0 0]],[]⟩ 8 (by kernel_rfl) (by kernel_rfl) (by kernel_rfl) (by kernel_rfl)) ?_
  intro W base args ds gs before hval0 hW hcnd _
  have hval:∀ (j:Nat) t v,Try.f7.params[j]? = some t→args[j]? = some v→Value.okWide Try.prog W .any base t v:=hval0
  have hW':=hW
  obtain ⟨p,q,hA0,hV,rfl,hfz,hnd⟩:=hW
  have hA:DataW.TrodAll enc Try.prog W 0 (fun _=>true) true Try.f7.params.toList args.toList ds p:=hA0
  rw [Try.params7] at hA hval
  obtain ⟨v0,vs0,d0,ds0,p0,q0,hargs,rfl,rfl,h0,r0⟩:=trodAll_cons hA
  obtain ⟨v1,vs1,d1,ds1,p1,q1,rfl,rfl,rfl,h1,r1⟩:=trodAll_cons r0
  obtain ⟨v2,vs2,d2,ds2,p2,q2,rfl,rfl,rfl,h2,r2⟩:=trodAll_cons r1
  obtain ⟨rfl,rfl,rfl⟩:=trodAll_nil r2
  obtain rfl:args = #[v0,v1,v2]:=by cases args;simp_all
  obtain ⟨rfl,rfl⟩:=trodVars_none hV
  obtain ⟨cs0,rfl,-⟩:=okWide_struct Try.underlying33 (hval 0 33 v0 rfl rfl)
  have k0:=h0
  have lt0:∀ x ∈ p0,x.block < W.heap.size:=by obtain ⟨m,hm⟩:=k0;exact DataW.trod_lt m _ _ _ hm
  obtain ⟨t0,aA0,an0,ac0,kA0,kn0,kc0,rfl,hx0⟩:∃ t aA an ac kA kn kc,cs0 = val6 t aA an ac kA kn kc∧NodeV (Old W) W aA an ac kA kn kc t:=by
    obtain ⟨fuel,hf⟩:=h0
    obtain ⟨t,aA,an,ac,kA,kn,kc,hv,h1⟩:=node_in fuel _ _ hf
    exact ⟨t,aA,an,ac,kA,kn,kc,Array.ext' hv,h1⟩
  obtain ⟨cs1,rfl,-⟩:=okWide_struct Try.underlying26 (hval 1 26 v1 rfl rfl)
  have k1:=h1
  have lt1:∀ x ∈ p1,x.block < W.heap.size:=by obtain ⟨m,hm⟩:=k1;exact DataW.trod_lt m _ _ _ hm
  obtain ⟨o1,s1,rfl,hx1⟩:∃ o s,cs1 = opCells o s∧Top.OpRaw W o s:=by
    obtain ⟨fuel,hf⟩:=h1
    obtain ⟨o,s,hv,h1⟩:=Top.op_in hf
    exact ⟨o,s,Array.ext' hv,h1⟩
  obtain ⟨cs2,rfl,-⟩:=okWide_struct Try.underlying26 (hval 2 26 v2 rfl rfl)
  have k2:=h2
  have lt2:∀ x ∈ p2,x.block < W.heap.size:=by obtain ⟨m,hm⟩:=k2;exact DataW.trod_lt m _ _ _ hm
  obtain ⟨o2,s2,rfl,hx2⟩:∃ o s,cs2 = opCells o s∧Top.OpRaw W o s:=by
    obtain ⟨fuel,hf⟩:=h2
    obtain ⟨o,s,hv,h1⟩:=Top.op_in hf
    exact ⟨o,s,Array.ext' hv,h1⟩
  clear hA0 hval0
  refine (walk W t0 aA0 kA0 an0 ac0 kn0 kc0 o1 s1 o2 s2 hx0 hx1 hx2).mono fun e W' ⟨he,bel⟩=>?_
  subst he
  exact ⟨_,rfl,_,_,_,[],_,[],hW',trodAll_mk1 (shut_bool Try.underlying4 _),(trodAll_cons_mk (Below.trod laidOut (by kernel_rfl) (of_decide_eq_true (by kernel_rfl)) k0 bel lt0) (trodAll_cons_mk (Below.trod laidOut (by kernel_rfl) (of_decide_eq_true (by kernel_rfl)) k1 bel lt1) (trodAll_cons_mk (Below.trod laidOut (by kernel_rfl) (of_decide_eq_true (by kernel_rfl)) k2 bel lt2) trodAll_mk0))),rfl,bel.frame _,fun h=>by cases h⟩

theorem over (walk:Walk):Rows.treeopsSameRow.holds Try.pinned (OpenSpec.ofChange Rows.treeopsSameSpec) :=
  OpenClaim.holds_of_wide 7 Try.f7 rfl rfl rfl rfl rfl rfl rfl ⟨rfl,rfl,rfl,rfl,rfl⟩ rfl rfl rfl rfl rfl (by kernel_rfl) Try.func7 (by kernel_rfl)
    (of_decide_eq_true (by kernel_rfl)) (by unfold Func.isWrapper;first | (rw [if_pos (by decide +kernel)];kernel_rfl) | (rw [if_neg (by decide +kernel)];exact ⟨rfl,rfl⟩))
    (fun os started H enc _=>lifted walk os started H enc)
end Go.Proofs.Ytmipodnffhngaaa.treeopsSame

