/- What becomes of any two operations behind each other is the document's; they stay. -/
import Derived.Test.YtidimannfemnmaaSqrFrameBoth
import Derived.Test.YtidimannfemnmaaSqrT
set_option linter.all false
namespace Go.Proofs.Ytidimannfemnmaa.squareBoth

theorem proved:Rows.SquareBothSaid :=
  over fun w o0 s0 o1 s1 a2 h0 h1=>Sqr.lawBoth_any w o0 o1 s0 s1 a2 h0 h1
#print axioms proved
end Go.Proofs.Ytidimannfemnmaa.squareBoth

