/- Of any two lists it is told whether they say the same. -/
import Derived.Test.YtidimannfemnmaaLstFrameSame
import Derived.Test.YtidimannfemnmaaLstLs
set_option linter.all false
namespace Go.Proofs.Ytidimannfemnmaa.listsSame

theorem proved:Rows.ListsSameSaid :=
  over fun w A n c x B m d y hx h1 h2 _ hy k1 k2 _=>Lst.lawSame_any w A n c x B m d y hx.at_row hy.at_row (Nat.le_trans h1 h2) (Nat.le_trans k1 k2)
#print axioms proved
end Go.Proofs.Ytidimannfemnmaa.listsSame

