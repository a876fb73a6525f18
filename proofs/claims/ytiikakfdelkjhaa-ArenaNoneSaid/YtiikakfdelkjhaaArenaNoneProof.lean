/- Of an arena that is not there every call answers what the document says, whatever it is handed. -/
import Derived.Test.YtiikakfdelkjhaaArnFrameNone
import Derived.Test.YtiikakfdelkjhaaArnT
namespace Go.Proofs.Ytiikakfdelkjhaa.arenaNone
open Arn

/-- THE STATEMENT -/
theorem proved : Rows.ArenaNoneSaid :=
  over fun w i j k d aA an ac hi _ _ _ => lawNone_any w i j k hi d aA an ac
#print axioms proved
end Go.Proofs.Ytiikakfdelkjhaa.arenaNone
