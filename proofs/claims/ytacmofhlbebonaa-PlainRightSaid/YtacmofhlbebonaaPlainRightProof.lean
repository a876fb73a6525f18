/- Of any text it is told whether it is a key, of any tree whether it is right, as the document has it, and no argument is changed. -/
import Derived.Test.YtacmofhlbebonaaTreFrameRight
import Derived.Test.YtacmofhlbebonaaTreLb
namespace Go.Proofs.Ytacmofhlbebonaa.plainRight

/-- THE STATEMENT -/
theorem proved : Rows.PlainRightSaid :=
  over fun w t aA kA an ac kn kc s h hs => lawRight_any w t aA kA an ac kn kc h s hs
#print axioms proved
end Go.Proofs.Ytacmofhlbebonaa.plainRight
