/- Whatever is called, the arena is a tree: each live slot but the root is the child of just one live slot, just once; free and live ones are apart. -/
import Derived.Test.YtiikakfdelkjhaaArnFrameTree
import Derived.Test.YtiikakfdelkjhaaArnTs
namespace Go.Proofs.Ytiikakfdelkjhaa.arenaTree
open Arn

/-- THE STATEMENT -/
theorem proved : Rows.ArenaTreeSaid :=
  over fun w A0 n0 c0 l0 h1 h2 h3 _ => lawTree_any w A0 n0 c0 l0 h1 h2 h3
#print axioms proved
end Go.Proofs.Ytiikakfdelkjhaa.arenaTree
