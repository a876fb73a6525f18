/- Of any two trees it is told whether they are the same, and whether they are alike, as the document has it; no argument is changed. -/
import Derived.Test.YtacmofhlbebonaaTreFrameSame
import Derived.Test.YtacmofhlbebonaaTreLd
namespace Go.Proofs.Ytacmofhlbebonaa.plainSame

/-- THE STATEMENT -/
theorem proved : Rows.PlainSameSaid :=
  over fun w t aA kA an ac kn kc u aA2 kA2 an2 ac2 kn2 kc2 h h2 => lawSame_any w t u aA kA aA2 kA2 an ac kn kc an2 ac2 kn2 kc2 h h2
#print axioms proved
end Go.Proofs.Ytacmofhlbebonaa.plainSame
