/- Of any two operations it is told whether they say the same; any is made bare; what it does not say counts for nothing. -/
import Derived.Test.YtmipodnffhngaaaTopFrameSame
import Derived.Test.YtmipodnffhngaaaTopBk
set_option linter.all false
namespace Go.Proofs.Ytmipodnffhngaaa.treeopsSame

theorem proved:Rows.TreeopsSameSaid :=
  over fun w t aA kA an ac kn kc o1 s1 o2 s2 h h1 h2=>Top.lawSame_any8 w t aA kA an ac kn kc h o1 s1 h1 o2 s2 h2
#print axioms proved
end Go.Proofs.Ytmipodnffhngaaa.treeopsSame

