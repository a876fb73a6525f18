/- A moved node is a child of its target, the moved tree has as many nodes, and a move beside itself makes the same tree. -/
import Derived.Test.YtpoenlhikanooaaTopFrameMoved
import Derived.Test.YtpoenlhikanooaaMgCA
set_option linter.all false
namespace Go.Proofs.Ytpoenlhikanooaa.treeopsMoved

/-- THE STATEMENT -/
theorem proved : Rows.TreeopsMovedSaid :=
  over fun w t aA kA an ac kn kc A1 n1 c1 f A2 n2 c2 to_ i h h1 h2 h3 h4 h5 k1 k2 k3 k4 k5 hi => Top.lawMoved_any w t aA kA an ac kn kc A1 n1 c1 f A2 n2 c2 to_ i h h1 h2 h3 h4 h5 k1 k2 k3 k4 k5 hi
#print axioms proved
end Go.Proofs.Ytpoenlhikanooaa.treeopsMoved

