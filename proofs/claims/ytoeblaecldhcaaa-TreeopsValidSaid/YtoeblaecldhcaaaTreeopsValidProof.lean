/- Of any tree and operation it is told whether it is valid, and what is wrong first, as the document has it, and neither is changed. -/
import Derived.Test.YtoeblaecldhcaaaTopFrameValid
import Derived.Test.YtoeblaecldhcaaaTopLb
namespace Go.Proofs.Ytoeblaecldhcaaa.treeopsValid

/-- THE STATEMENT -/
theorem proved : Rows.TreeopsValidSaid :=
  over fun w t aA kA an ac kn kc o s h ho => Top.lawValid_any w t aA kA an ac kn kc o s h ho
#print axioms proved
end Go.Proofs.Ytoeblaecldhcaaa.treeopsValid
