/- How many nodes any tree has, how deep it is, the most text of a node, and its identities are the document's; no argument is changed. -/
import Derived.Test.YtacmofhlbebonaaTreFrameSizes
import Derived.Test.YtacmofhlbebonaaTreLc
namespace Go.Proofs.Ytacmofhlbebonaa.plainSizes

/-- THE STATEMENT -/
theorem proved : Rows.PlainSizesSaid :=
  over fun w t aA kA an ac kn kc h => lawSizes_any w t aA kA an ac kn kc h
#print axioms proved
end Go.Proofs.Ytacmofhlbebonaa.plainSizes
