/- Of any operation it is told whether it is formed, as the document has it, and the operation is not changed. -/
import Derived.Test.YtoeblaecldhcaaaTopFrameFormed
import Derived.Test.YtoeblaecldhcaaaTopLa
namespace Go.Proofs.Ytoeblaecldhcaaa.treeopsFormed

/-- THE STATEMENT -/
theorem proved : Rows.TreeopsFormedSaid :=
  over fun w o s h => Top.lawFormed_any w o s h
#print axioms proved
end Go.Proofs.Ytoeblaecldhcaaa.treeopsFormed
