/- The chapter's examples: the law's works. -/
import Derived.Test.YtidimannfemnmaaMgAT
import Derived.Test.YtidimannfemnmaaTopBh
import Derived.Test.YtidimannfemnmaaMgAR
set_option linter.all false
namespace Go.Proofs.Ytidimannfemnmaa.Sqr
open Go.RowKit Top Shf Sim
set_option maxRecDepth 20000

section
variable {X:World} {b a:Ov} {sb sa:OS} {prior:Bool}
end
theorem lit1 {W:World} {k:Nat} {i:Int} {p t:List Int} {A B:Option Addr} {n m:Nat} (hA:Its W A n p) (hB:Its W B m t) (hA2:A = none→n = 0) (hB2:B = none→m = 0) (hk:k < 256:=by decide) (hi:-9223372036854775808≤i∧i≤9223372036854775807:=by decide) (hn:n≤4:=by decide) (hm:m≤4:=by decide) (f1:Fit p) (f2:Fit t):OpIn W ⟨k,p,i,t,0,false,[],[],[],false,[]⟩ ⟨A,n,n,B,m,m,none,0,0⟩ :=
  lit_op (o:=⟨k,p,i,t,0,false,[],[],[],false,[]⟩) (s:=⟨A,n,n,B,m,m,none,0,0⟩) (hk:=hk) (hp:=hA) (hp2:=⟨Nat.le_refl _,hn⟩) (hp3:=hA2) (ha:=hi) (ht:=hB) (ht2:=⟨Nat.le_refl _,hm⟩) (ht3:=hB2) (hi:=by show 0 < 18446744073709551616;decide) (hl:=⟨by show 0≤4;decide,by show 0≤4;decide,by show 0≤4;decide⟩) (hq:=lit_pcs _) (hq2:=⟨Nat.le_refl _,by show 0≤4;decide⟩) (hq3:=fun _=>rfl) (f1:=f1) (f2:=f2)
end Go.Proofs.Ytidimannfemnmaa.Sqr

