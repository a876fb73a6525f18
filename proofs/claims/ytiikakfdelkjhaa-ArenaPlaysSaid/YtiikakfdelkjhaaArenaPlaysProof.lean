/- Whatever is called, an arena does what the document says. -/
import Derived.Test.YtiikakfdelkjhaaArnFramePlays
import Derived.Test.YtiikakfdelkjhaaArnPo
namespace Go.Proofs.Ytiikakfdelkjhaa.arenaPlays
open Arn

/-- THE STATEMENT -/
theorem proved : Rows.ArenaPlaysSaid :=
  over fun w d0 aA0 an0 ac0 A1 n1 c1 l1 h0 h1 h2 h3 _ => lawPlays_any w d0 aA0 an0 ac0 A1 n1 c1 l1 h0 h1 h2 h3
#print axioms proved
end Go.Proofs.Ytiikakfdelkjhaa.arenaPlays
