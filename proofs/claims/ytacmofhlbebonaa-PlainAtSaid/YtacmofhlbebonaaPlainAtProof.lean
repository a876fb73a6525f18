/- The node at any path of any tree is the document's, and so is the tree with another one there; the tree that came in stays; no argument is changed. -/
import Derived.Test.YtacmofhlbebonaaTreFrameAt
import Derived.Test.YtacmofhlbebonaaTreLf
namespace Go.Proofs.Ytacmofhlbebonaa.plainAt

/-- THE STATEMENT -/
theorem proved : Rows.PlainAtSaid :=
  over fun w t aA kA an ac kn kc pA pn pc p x xA xkA xn xc xkn xkc h hp hnc hcm _ hx => lawAt_any w t x aA kA xA xkA an ac kn kc xn xc xkn xkc pA pn pc p h hx hp hnc hcm
#print axioms proved
end Go.Proofs.Ytacmofhlbebonaa.plainAt
