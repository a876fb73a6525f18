/- Any edit, made normal, is the document's; what is made is a row of its own: written over, it changes no other; where the edit is small; no argument is changed. -/
import Derived.Test.YtoeplaofgmdlbaaLtxFrameNorm
import Derived.Test.YtoeplaofgmdlbaaLtxLd
namespace Go.Proofs.Ytoeplaofgmdlbaa.leaftextNorm

/-- THE STATEMENT -/
theorem proved : Rows.LeaftextNormSaid :=
  over fun A0 n0 c0 x0 w hx hnc hcm hnil => lawNorm_any w A0 n0 c0 x0 hx (Nat.le_trans hnc hcm) hnil
#print axioms proved
end Go.Proofs.Ytoeplaofgmdlbaa.leaftextNorm
