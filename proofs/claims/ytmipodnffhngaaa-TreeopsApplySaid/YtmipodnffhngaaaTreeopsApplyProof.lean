/- Any tree behind any operation is the document's, or it is refused; the tree stays. -/
import Derived.Test.YtmipodnffhngaaaTopFrameApply
import Derived.Test.YtmipodnffhngaaaTopDi
set_option linter.all false
namespace Go.Proofs.Ytmipodnffhngaaa.treeopsApply

theorem proved:Rows.TreeopsApplySaid :=
  over fun w t aA kA an ac kn kc o s h ho=>Top.lawApply_any w t aA kA an ac kn kc o s h ho
#print axioms proved
end Go.Proofs.Ytmipodnffhngaaa.treeopsApply

