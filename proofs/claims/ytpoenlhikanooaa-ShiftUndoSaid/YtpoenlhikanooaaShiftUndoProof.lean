/- What takes any Move back, and that of any other operation an empty one is answered, is as the document has it. -/
import Derived.Test.YtpoenlhikanooaaShfFrameUndo
import Derived.Test.YtpoenlhikanooaaShfLb
set_option linter.all false
namespace Go.Proofs.Ytpoenlhikanooaa.shiftUndo

theorem proved:Rows.ShiftUndoSaid :=
  over fun w o s h=>Shf.lawUndo_any w o s h
#print axioms proved
end Go.Proofs.Ytpoenlhikanooaa.shiftUndo

