/- What becomes of any operation behind any other one is the document's, or it is refused. -/
import Derived.Test.YtfaolhcacaeijaaSqrFrameBehind
import Derived.Test.YtfaolhcacaeijaaMgAY
set_option linter.all false
namespace Go.Proofs.Ytfaolhcacaeijaa.squareBehind

theorem proved:Rows.SquareBehindSaid :=
  over fun w o0 s0 o1 s1 a2 h0 h1=>Sqr.lawBehind_any w o0 o1 s0 s1 a2 h0 h1
#print axioms proved
end Go.Proofs.Ytfaolhcacaeijaa.squareBehind

