/- Both sides of any two operations, named the other way round, are the same. -/
import Derived.Test.YtfaolhcacaeijaaSqrFrameTurned
import Derived.Test.YtfaolhcacaeijaaMgBA
set_option linter.all false
namespace Go.Proofs.Ytfaolhcacaeijaa.squareTurned

theorem proved:Rows.SquareTurnedSaid :=
  over fun w o0 s0 o1 s1 a2 h0 h1=>Sqr.lawTurned_any w o0 o1 s0 s1 a2 h0 h1
#print axioms proved
end Go.Proofs.Ytfaolhcacaeijaa.squareTurned

