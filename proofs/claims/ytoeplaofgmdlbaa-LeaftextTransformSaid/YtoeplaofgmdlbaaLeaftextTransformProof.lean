/- What becomes of any two small edits behind each other is the document's, whichever is the prior one; no argument is changed. -/
import Derived.Test.YtoeplaofgmdlbaaLtxFrameTransform
import Derived.Test.YtoeplaofgmdlbaaLtxLf
namespace Go.Proofs.Ytoeplaofgmdlbaa.leaftextTransform

/-- THE STATEMENT -/
theorem proved : Rows.LeaftextTransformSaid :=
  over fun A1 n1 c1 x1 A2 n2 c2 x2 p w hx hnc hcm hy hnc2 hcm2 => lawTransform_any w A1 A2 n1 c1 n2 c2 x1 x2 p hx hy (Nat.le_trans hnc hcm) (Nat.le_trans hnc2 hcm2)
#print axioms proved
end Go.Proofs.Ytoeplaofgmdlbaa.leaftextTransform
