/- Has an operation little? -/
import Derived.Test.YtpoenlhikanooaaTopFo
import Derived.Test.YtpoenlhikanooaaMgAJ
set_option linter.all false
namespace Go.Proofs.Ytpoenlhikanooaa.Top
open Go.RowKit
set_option maxRecDepth 20000
set_option linter.unusedVariables false

end Go.Proofs.Ytpoenlhikanooaa.Top

