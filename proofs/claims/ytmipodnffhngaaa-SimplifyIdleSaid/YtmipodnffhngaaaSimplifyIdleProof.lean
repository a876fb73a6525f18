/- Of any operation it is told whether it is idle, as the document has it, and the operation is not changed. -/
import Derived.Test.YtmipodnffhngaaaSimFrameIdle
import Derived.Test.YtmipodnffhngaaaMgAT
set_option linter.all false
namespace Go.Proofs.Ytmipodnffhngaaa.simplifyIdle

theorem proved:Rows.SimplifyIdleSaid :=
  over fun w o s h=>Sim.lawIdle_any w o s h
#print axioms proved
end Go.Proofs.Ytmipodnffhngaaa.simplifyIdle

