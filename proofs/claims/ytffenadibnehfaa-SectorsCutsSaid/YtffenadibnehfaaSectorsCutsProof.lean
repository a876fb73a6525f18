/- Whatever is written, a disk that is cut at all its writes has what it has, one that is cut at none has its base, and cuts at k and at k and 1 differ in one sector at most, that of the write between, where at most 60 calls of 5000 bytes are looked at; no argument is changed. -/
import Derived.Test.YtffenadibnehfaaSecFrameCuts
import Derived.Test.YtffenadibnehfaaSecCutsB
import Derived.Test.YtffenadibnehfaaSecSys
namespace Go.Proofs.Ytffenadibnehfaa.sectorsCuts

/-- THE STATEMENT -/
theorem proved : Rows.SectorsCutsSaid :=
  over fun A0 n0 c0 x0 A1 n1 c1 x1 w h0 hn0 hc0 h1 hn1 hc1 => cuts_any theSys (works_any theSys) A0 n0 c0 x0 A1 n1 c1 x1 w h0 (Nat.le_trans hn0 hc0) h1 (Nat.le_trans hn1 hc1)
#print axioms proved
end Go.Proofs.Ytffenadibnehfaa.sectorsCuts
