/- What a valid operation makes of a tree is right; an insert adds just its identity, a delete takes just those of its nodes, all others leave all identities. -/
import Derived.Test.YtoeblaecldhcaaaTopFrameRight
import Derived.Test.YtoeblaecldhcaaaTopEc
namespace Go.Proofs.Ytoeblaecldhcaaa.treeopsRight

/-- THE STATEMENT -/
theorem proved : Rows.TreeopsRightSaid :=
  over fun w t aA kA an ac kn kc o s h ho => Top.lawRight_any w t aA kA an ac kn kc o s h ho
#print axioms proved
end Go.Proofs.Ytoeblaecldhcaaa.treeopsRight
