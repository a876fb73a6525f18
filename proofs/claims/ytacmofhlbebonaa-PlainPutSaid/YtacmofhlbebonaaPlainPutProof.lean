/- What is put at a path of any tree is at that path; put back, the tree is what it was; and its size is that of the parts; no argument is changed. -/
import Derived.Test.YtacmofhlbebonaaTreFramePut
import Derived.Test.YtacmofhlbebonaaTreLe
namespace Go.Proofs.Ytacmofhlbebonaa.plainPut

/-- THE STATEMENT -/
theorem proved : Rows.PlainPutSaid :=
  over fun w t aA kA an ac kn kc pA pn pc p x xA xkA xn xc xkn xkc h hp hnc hcm _ hx => lawPut_any w t x aA kA xA xkA an ac kn kc xn xc xkn xkc pA pn pc p h hx hp (Nat.le_trans hnc hcm)
#print axioms proved
end Go.Proofs.Ytacmofhlbebonaa.plainPut
