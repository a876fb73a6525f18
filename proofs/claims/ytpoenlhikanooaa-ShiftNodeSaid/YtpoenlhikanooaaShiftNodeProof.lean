/- Of any operation and path it is told where the node is, as the document has it; the path stays. -/
import Derived.Test.YtpoenlhikanooaaShfFrameNode
import Derived.Test.YtpoenlhikanooaaMgAM
set_option linter.all false
namespace Go.Proofs.Ytpoenlhikanooaa.shiftNode

theorem proved:Rows.ShiftNodeSaid :=
  over fun w o s A n c x h hA hn hc _ hnil=>Shf.lawNode_any w o s A n c x h hA hn hc hnil
#print axioms proved
end Go.Proofs.Ytpoenlhikanooaa.shiftNode

