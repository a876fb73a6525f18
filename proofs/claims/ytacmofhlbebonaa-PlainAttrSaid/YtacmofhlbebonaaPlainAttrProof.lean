/- Any attribute of any node of any tree is the document's, and no argument is changed. -/
import Derived.Test.YtacmofhlbebonaaTreFrameAttr
import Derived.Test.YtacmofhlbebonaaTreLa
namespace Go.Proofs.Ytacmofhlbebonaa.plainAttr

/-- THE STATEMENT -/
theorem proved : Rows.PlainAttrSaid :=
  over fun w t aA kA an ac kn kc key h hk => lawAttr_any w t aA kA an ac kn kc h key hk
#print axioms proved
end Go.Proofs.Ytacmofhlbebonaa.plainAttr
