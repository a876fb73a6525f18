/- The frame of ShiftGap's statement: what it asks of the walk. -/
import Derived.Test.YtpoenlhikanooaaRows
import Derived.WalkKit
import Derived.Test.YtpoenlhikanooaaTopFo
import Derived.ProofKit
import Derived.OpenShut
import Derived.ShutString
import Derived.ChangeOld
import Derived.Below
import Derived.ChangeMaps5
set_option linter.all false
namespace Go.Proofs.Ytpoenlhikanooaa.shiftGap
open Go.ChangeShapes Go.WideShapes Go.ChangeAt Go.RowKit
open Go.ChangeMaps (open_string shut_string)
set_option linter.unusedVariables false

theorem own:ownKnob Try.prog.godebug = none:=by kernel_rfl
theorem laidOut:laidOutB Try.prog = true:=by kernel_rfl
def Walk:Prop:=∀ (w:World) (o0:Ov) (s0:OS) (A1:Option Addr) (n1 c1:Nat) (x1:List Int) (a2:Int) (a3:Bool) (_:Top.OpRaw w o0 s0) (_:Its w A1 n1 x1) (_:n1≤c1) (_:c1≤maxLen) (_:Fit x1) (_:A1 = none→c1 = 0) (_:(Lit.int .i64 a2).wf = true),
    Calls Try.prog 4 #[.agg (opCells o0 s0),.slice A1 n1 c1,.int .i64 a2,.bool a3] w fun e w'=>e = .returned (.bool true)∧Below w.heap.size w w'

set_option maxRecDepth 100000 in
theorem lifted (walk:Walk) (os:Os) (started:os.Started) (H:Type) (enc:TypeId × Value→H) :
    ReturnsInHanded {} Try.checked os 4 .any (Rows.shiftGapSpec.pre6 enc Try.prog Try.f4 Rows.shiftGapRow.domain false) (Rows.shiftGapSpec.post enc Try.prog Try.f4 false true false false):=by
  refine returnsInHanded_of_change (C:=Try.checked) own started (by kernel_rfl) Try.func4
    (ChangeSpec.witness6 (enc:=enc) (C:=Try.checked) false ⟨#[],#[.agg #[.int .u8 0,.slice none 0 0,.int .i64 0,.slice none 0 0,.int .u64 0,.bool false,.string ⟨#[]⟩,.string ⟨#[]⟩,.string ⟨#[]⟩,.bool false,.slice none 0 0],.slice none 0 0,.int .i64 0,.bool false],[]⟩ 8 (by kernel_rfl) (by kernel_rfl) (by kernel_rfl) (by kernel_rfl)) ?_
  intro W base args ds gs before hval0 hW hcnd _
  have hval:∀ (j:Nat) t v,Try.f4.params[j]? = some t→args[j]? = some v→Value.okWide Try.prog W .any base t v:=hval0
  have hW':=hW
  obtain ⟨p,q,hA0,hV,rfl,hfz,hnd⟩:=hW
  have hA:DataW.TrodAll enc Try.prog W 0 (fun _=>true) true Try.f4.params.toList args.toList ds p:=hA0
  rw [Try.params4] at hA hval
  obtain ⟨v0,vs0,d0,ds0,p0,q0,hargs,rfl,rfl,h0,r0⟩:=trodAll_cons hA
  obtain ⟨v1,vs1,d1,ds1,p1,q1,rfl,rfl,rfl,h1,r1⟩:=trodAll_cons r0
  obtain ⟨v2,vs2,d2,ds2,p2,q2,rfl,rfl,rfl,h2,r2⟩:=trodAll_cons r1
  obtain ⟨v3,vs3,d3,ds3,p3,q3,rfl,rfl,rfl,h3,r3⟩:=trodAll_cons r2
  obtain ⟨rfl,rfl,rfl⟩:=trodAll_nil r3
  obtain rfl:args = #[v0,v1,v2,v3]:=by cases args;simp_all
  obtain ⟨rfl,rfl⟩:=trodVars_none hV
  obtain ⟨cs0,rfl,-⟩:=okWide_struct Try.underlying26 (hval 0 26 v0 rfl rfl)
  have k0:=h0
  have lt0:∀ x ∈ p0,x.block < W.heap.size:=by obtain ⟨m,hm⟩:=k0;exact DataW.trod_lt m _ _ _ hm
  obtain ⟨o0,s0,rfl,hx0⟩:∃ o s,cs0 = opCells o s∧Top.OpRaw W o s:=by
    obtain ⟨fuel,hf⟩:=h0
    obtain ⟨o,s,hv,h1⟩:=Top.op_in hf
    exact ⟨o,s,Array.ext' hv,h1⟩
  obtain ⟨a1,len1,cap1,rfl⟩:=okWide_slice Try.underlying22 (hval 1 22 v1 rfl rfl)
  have k1:=h1
  have lt1:∀ x ∈ p1,x.block < W.heap.size:=by obtain ⟨m,hm⟩:=k1;exact DataW.trod_lt m _ _ _ hm
  obtain ⟨x1,hx1,hl1,hm1,hf1,hn1⟩:∃ x1,Its W a1 len1 x1∧len1≤cap1∧cap1≤maxLen∧Fit x1∧(a1 = none→cap1 = 0):=by
    obtain ⟨fuel,hf⟩:=h1
    obtain ⟨A,n,c,xs,hv,h1,h2,h3,h5,h4⟩:=Top.ints_nil hf
    injection hv with e1 e2 e3
    subst e1 e2 e3
    exact ⟨xs,h1,h2,h3,h4,h5⟩
  obtain ⟨a2,rfl,rfl,rfl,w2⟩:=Go.ChangeShapes.open_int Try.underlying3 (hval 2 3 v2 rfl rfl) h2
  obtain ⟨a3,rfl,rfl,rfl⟩:=open_bool Try.underlying4 (hval 3 4 v3 rfl rfl) h3
  clear hA0 hval0
  refine (walk W o0 s0 a1 len1 cap1 x1 a2 a3 hx0 hx1 hl1 hm1 hf1 hn1 w2 ).mono fun e W' ⟨he,bel⟩=>?_
  subst he
  exact ⟨_,rfl,_,_,_,[],_,[],hW',trodAll_mk1 (shut_bool Try.underlying4 _),(trodAll_cons_mk (Below.trod laidOut (by kernel_rfl) (of_decide_eq_true (by kernel_rfl)) k0 bel lt0) (trodAll_cons_mk (Below.trod laidOut (by kernel_rfl) (of_decide_eq_true (by kernel_rfl)) k1 bel lt1) (trodAll_cons_mk (Go.ChangeShapes.shut_int Try.underlying3 w2) (trodAll_cons_mk (shut_bool Try.underlying4 a3) trodAll_mk0)))),rfl,bel.frame _,fun h=>by cases h⟩

theorem over (walk:Walk):Rows.shiftGapRow.holds Try.pinned (OpenSpec.ofChange Rows.shiftGapSpec) :=
  OpenClaim.holds_of_wide 4 Try.f4 rfl rfl rfl rfl rfl rfl rfl ⟨rfl,rfl,rfl,rfl,rfl⟩ rfl rfl rfl rfl rfl (by kernel_rfl) Try.func4 (by kernel_rfl)
    (of_decide_eq_true (by kernel_rfl)) (by unfold Func.isWrapper;first | (rw [if_pos (by decide +kernel)];kernel_rfl) | (rw [if_neg (by decide +kernel)];exact ⟨rfl,rfl⟩))
    (fun os started H enc _=>lifted walk os started H enc)
end Go.Proofs.Ytpoenlhikanooaa.shiftGap

