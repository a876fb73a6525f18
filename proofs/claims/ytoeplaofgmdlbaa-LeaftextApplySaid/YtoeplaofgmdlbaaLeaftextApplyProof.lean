/- Any edit of any text gives the document's text, or is refused with the document's answer; made normal, it does the same, where the text has at most 1000 bytes and the edit is small; no argument is changed. -/
import Derived.Test.YtoeplaofgmdlbaaLtxFrameApply
import Derived.Test.YtoeplaofgmdlbaaLtxLb
namespace Go.Proofs.Ytoeplaofgmdlbaa.leaftextApply

/-- THE STATEMENT -/
theorem proved : Rows.LeaftextApplySaid :=
  over fun t A1 n1 c1 x1 w ht hx hnc hcm => lawApply_any w t A1 n1 c1 x1 ht hx (Nat.le_trans hnc hcm)
#print axioms proved
end Go.Proofs.Ytoeplaofgmdlbaa.leaftextApply
