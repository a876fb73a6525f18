/- slices.Concat, for rows of nodes and of attributes. -/
import Derived.Test.YtidimannfemnmaaMgAK
import Derived.Lib.AppendZerosOnto
set_option linter.all false
namespace Go.Proofs.Ytidimannfemnmaa.Top
open Go.RowKit
set_option maxRecDepth 20000

structure Prt where
  A:Option Addr
  n:Nat
  c:Nat
  xs:List Value
structure Prt.Ok (S:Nat) (w:World) (p:Prt):Prop where
  len:p.xs.length = p.n * S
  one:∀ u ∈ p.xs,u.oneCell' = true
  cells:∀ j u,p.xs[j]? = some u→∃ ad,p.A = some ad∧ad.block < w.heap.size∧w.cell? (ad.add j) = some u
  nil_:p.A = none→p.c = 0
  nc:p.n≤p.c
  few:p.n≤100000
theorem Prt.Ok.below {S:Nat} {w w':World} {p:Prt} (h:p.Ok S w) (hb:Below w.heap.size w w'):p.Ok S w' :=
  ⟨h.len,h.one,fun j u hj=>by
    obtain ⟨ad,e,hl,hc⟩:=h.cells j u hj
    exact ⟨ad,e,Nat.lt_of_lt_of_le hl hb.size,(hb.cell (p:=ad.add j) (by rw [block_add];exact hl)).trans hc⟩,h.nil_,h.nc,h.few⟩
end Go.Proofs.Ytidimannfemnmaa.Top

