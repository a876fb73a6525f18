/- The law: both sides named the other way round. -/
import Derived.Test.YtidimannfemnmaaMgAW
import Derived.Test.YtidimannfemnmaaSqrW
set_option linter.all false
namespace Go.Proofs.Ytidimannfemnmaa.Sqr
open Go.RowKit Top Shf Sim
set_option maxRecDepth 20000

theorem bothA_read {w:World} {r:List Ov × List Ov × Int} {e:Ending} {w':World} (h:BothA w r e w'):∃ A n c l B m d k,e = .returned (.tuple #[.slice A n c,.slice B m d,.int .i64 r.2.2])∧l.map Prod.fst = r.1∧k.map Prod.fst = r.2.1∧RowR w' A n l∧RowR w' B m k∧Below w.heap.size w w':=by
  obtain ⟨v1,v2,l1,l2,rfl,h1,h2,⟨h3,h4⟩,⟨h5,h6⟩,h7⟩:=h
  obtain ⟨A,n,c,rfl,h8⟩:=row_read h3 h4
  obtain ⟨B,m,d,rfl,h9⟩:=row_read h5 h6
  exact ⟨A,n,c,l1,B,m,d,l2,rfl,h1,h2,h8,h9,h7⟩
end Go.Proofs.Ytidimannfemnmaa.Sqr

