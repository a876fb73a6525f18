/- MgAW: SimQ SimR -/
import Derived.Test.YtidimannfemnmaaMgAQ
import Derived.Test.YtidimannfemnmaaSimE
import Derived.Test.YtidimannfemnmaaMgAK
import Derived.Deep.RegionHeld3
import Derived.Test.YtidimannfemnmaaMgAS
import Derived.Test.YtidimannfemnmaaMgAP
set_option linter.all false
namespace Go.Proofs.Ytidimannfemnmaa.Sim
open Go.RowKit Top
set_option maxRecDepth 20000

def step:List Ov→Option (List Ov)
  | []=>none
  | [_]=>none
  | a :: b :: r=>match pairV a b with
    | some x=>some (x ++ r)
    | none=>(step (b :: r)).map (a :: ·)
end Go.Proofs.Ytidimannfemnmaa.Sim
namespace Go.Proofs.Ytidimannfemnmaa.Sim
open Go.RowKit Top
set_option maxRecDepth 20000

theorem pcs_ipc (l:List Ltx.Pc):pcs (l.map P5.ipc) = l:=by
  unfold pcs
  rw [List.map_map]
  conv=>rhs;rw [← List.map_id l]
  refine List.map_congr_left fun p _=>?_
  cases p
  simp [P5.ipc]
end Go.Proofs.Ytidimannfemnmaa.Sim
