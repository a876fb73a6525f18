/- Of any operation and gap it is told where it is, as the document has it. -/
import Derived.Test.YtpoenlhikanooaaShfFrameGap
import Derived.Test.YtpoenlhikanooaaMgAM
set_option linter.all false
namespace Go.Proofs.Ytpoenlhikanooaa.shiftGap

theorem proved:Rows.ShiftGapSaid :=
  over fun w o s A n c x i first h hA hn hc _ hnil _=>Shf.lawGap_any w o s A n c x i first h hA hn hc hnil
#print axioms proved
end Go.Proofs.Ytpoenlhikanooaa.shiftGap

