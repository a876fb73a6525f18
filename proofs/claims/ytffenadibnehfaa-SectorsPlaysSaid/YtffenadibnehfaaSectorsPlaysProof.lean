/- Whatever calls are done on a disk of however many sectors, the program's answers are the document's, and it leaves just what the document says, where at most 60 calls of 5000 bytes and 30 sectors are looked at; no argument is changed. -/
import Derived.Test.YtffenadibnehfaaSecFramePlays
import Derived.Test.YtffenadibnehfaaSecLawF
import Derived.Test.YtffenadibnehfaaSecWorks
import Derived.Test.YtffenadibnehfaaSecSys
namespace Go.Proofs.Ytffenadibnehfaa.sectorsPlays

/-- THE STATEMENT -/
theorem proved : Rows.SectorsPlaysSaid :=
  over fun a0 A1 n1 c1 x1 w _ hx hnc hcm => plays_any theSys (works_any theSys) a0 A1 n1 c1 x1 w hx (Nat.le_trans hnc hcm)
#print axioms proved
end Go.Proofs.Ytffenadibnehfaa.sectorsPlays
