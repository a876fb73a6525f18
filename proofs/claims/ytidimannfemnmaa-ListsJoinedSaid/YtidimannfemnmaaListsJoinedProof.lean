/- Brought by one list, and then by another one behind that, a list says what it says brought by both in one. -/
import Derived.Test.YtidimannfemnmaaLstFrameJoined
import Derived.Test.YtidimannfemnmaaMgBA
set_option linter.all false
namespace Go.Proofs.Ytidimannfemnmaa.listsJoined

theorem proved:Rows.ListsJoinedSaid :=
  over fun w C nc cc lc A na ca la B nb cb lb p hc h1 h2 _ ha h3 h4 h5 hb h6 h7 h8=>Lst.lawJoined_any w C nc cc lc A na ca la B nb cb lb p hc.at_row ha.at_row hb.at_row (Nat.le_trans h1 h2) (Nat.le_trans h3 h4) (Nat.le_trans h6 h7) h5 h8
#print axioms proved
end Go.Proofs.Ytidimannfemnmaa.listsJoined

