/- Of any text that two small edits fit: one edit, and what becomes of the other one behind it, make the same text, whichever is first; and Transform of the two the other way round tells the same two edits; no argument is changed. -/
import Derived.Test.YtoeplaofgmdlbaaLtxFrameSquare
import Derived.Test.YtoeplaofgmdlbaaLtxLe
namespace Go.Proofs.Ytoeplaofgmdlbaa.leaftextSquare

/-- THE STATEMENT -/
theorem proved : Rows.LeaftextSquareSaid :=
  over fun t A1 n1 c1 x1 A2 n2 c2 x2 p w ht hx hnc hcm hy hnc2 hcm2 => lawSquare_any w t A1 A2 n1 c1 n2 c2 x1 x2 p ht hx hy (Nat.le_trans hnc hcm) (Nat.le_trans hnc2 hcm2)
#print axioms proved
end Go.Proofs.Ytoeplaofgmdlbaa.leaftextSquare
