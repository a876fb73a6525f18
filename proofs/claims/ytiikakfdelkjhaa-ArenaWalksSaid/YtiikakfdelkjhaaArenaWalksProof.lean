/- Whatever is called, the slot at any path is the document's. -/
import Derived.Test.YtiikakfdelkjhaaArnFrameWalks
import Derived.Test.YtiikakfdelkjhaaArnLf
namespace Go.Proofs.Ytiikakfdelkjhaa.arenaWalks
open Arn

/-- THE STATEMENT -/
theorem proved : Rows.ArenaWalksSaid :=
  over fun w A0 n0 c0 l0 A1 n1 c1 l1 h1 h2 h3 _ h5 h6 h7 => lawWalks_any w A0 n0 c0 l0 A1 n1 c1 l1 h1 h2 h3 h5 h6 h7
#print axioms proved
end Go.Proofs.Ytiikakfdelkjhaa.arenaWalks
