/- Any tree behind any list is the document's, or the first operation that is not valid is told. -/
import Derived.Test.YtmipodnffhngaaaTopFrameAll
import Derived.Test.YtmipodnffhngaaaMgBA
set_option linter.all false
namespace Go.Proofs.Ytmipodnffhngaaa.treeopsAll

theorem proved:Rows.TreeopsAllSaid :=
  over fun w t aA kA an ac kn kc A n c x h hx h1 h2 h3=>Top.lawAll_any w t aA kA an ac kn kc h A n c x hx.at_row (Nat.le_trans h1 h2)
#print axioms proved
end Go.Proofs.Ytmipodnffhngaaa.treeopsAll

