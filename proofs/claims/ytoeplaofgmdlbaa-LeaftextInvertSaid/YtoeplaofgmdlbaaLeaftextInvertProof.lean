/- What undoes any edit of any text is the document's, and behind the edit it makes the text what it was, where the text has at most 600 bytes and the edit is small; no argument is changed. -/
import Derived.Test.YtoeplaofgmdlbaaLtxFrameInvert
import Derived.Test.YtoeplaofgmdlbaaLtxLc
namespace Go.Proofs.Ytoeplaofgmdlbaa.leaftextInvert

/-- THE STATEMENT -/
theorem proved : Rows.LeaftextInvertSaid :=
  over fun t A1 n1 c1 x1 w ht hx hnc hcm => lawInvert_any w t A1 n1 c1 x1 ht hx (Nat.le_trans hnc hcm)
#print axioms proved
end Go.Proofs.Ytoeplaofgmdlbaa.leaftextInvert
