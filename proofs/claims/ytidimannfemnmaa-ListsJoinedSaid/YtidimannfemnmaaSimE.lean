/- What stands instead of two operations: by value; two kinds held against two. -/
import Derived.Test.YtidimannfemnmaaMgAU
import Derived.Test.YtidimannfemnmaaMgAR
import Derived.Test.YtidimannfemnmaaMgAL
import Derived.BigQuiet
import Derived.Stop.BytesEq
set_option linter.all false
namespace Go.Proofs.Ytidimannfemnmaa.Sim
open Go.RowKit Top
set_option maxRecDepth 20000

def pairV (a b:Ov):Option (List Ov) :=
  if countsB a = true∧countsB b = true∧subjV a = b.path then
    if a.kind = 1∧b.kind = 2 then some []
    else if a.kind = 1∧b.kind = 5 then some [bareV { a with label:=b.label }]
    else if a.kind = 5∧b.kind = 5 then some [bareV b]
    else if a.kind = 4∧b.kind = 4 then (if a.key = b.key then some [bareV b] else none)
    else if a.kind = 6∧b.kind = 6 then
      (if Ltx.comp (Ltx.norm (pcs a.pieces)) (Ltx.norm (pcs b.pieces)) = [] then some [] else some [bareV { b with pieces:=(Ltx.comp (Ltx.norm (pcs a.pieces)) (Ltx.norm (pcs b.pieces))).map P5.ipc }])
    else none
  else none
end Go.Proofs.Ytidimannfemnmaa.Sim

