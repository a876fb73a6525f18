/- Of any edit, however many pieces it has and whatever stands in them, the program tells as the document does whether it is right, where at most 5000 pieces are looked at; no argument is changed. -/
import Derived.Test.YtoeplaofgmdlbaaLtxFrameRight
import Derived.Test.YtoeplaofgmdlbaaLtxLa
namespace Go.Proofs.Ytoeplaofgmdlbaa.leaftextRight

/-- THE STATEMENT -/
theorem proved : Rows.LeaftextRightSaid :=
  over fun A0 n0 c0 x0 w hx hnc hcm => lawRight_any w A0 n0 c0 x0 hx (Nat.le_trans hnc hcm)
#print axioms proved
end Go.Proofs.Ytoeplaofgmdlbaa.leaftextRight
