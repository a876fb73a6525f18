/- The paths of a tree: bowerkit.Paths. -/
import Derived.Test.YtidimannfemnmaaMgAR
import Derived.Test.YtidimannfemnmaaMgAO
set_option linter.all false
namespace Go.Proofs.Ytidimannfemnmaa.Top
open Go.RowKit
set_option maxRecDepth 20000

theorem OwnPp.shape {base:Nat} {w:World} {v:Value} {l:List (Value × List Int)} (h:OwnPp base w v l):∃ (A:Option Addr) (n c:Nat),v = .slice A n c∧n = l.length∧n≤c∧c≤maxLen∧(A = none→c = 0) ∧
    ∀ (q:Nat) (x:Value × List Int),l[q]? = some x→∃ g,A = some ⟨g,0,none⟩∧base≤g∧g < w.heap.size∧w.cell? ⟨g,q,none⟩ = some x.1:=by
  obtain ⟨A,c,rfl,h1,h2,h3,h4⟩:=own_form h.row
  refine ⟨A,_,c,rfl,rfl,h1,h2,h3,fun q x hx=>?_⟩
  have hq:=(List.getElem?_eq_some_iff.1 hx).1
  obtain ⟨g,rfl,hb,hlt,hc⟩:=h4 (by omega)
  exact ⟨g,rfl,hb,hlt,hc q x.1 (by rw [List.getElem?_map,hx];rfl)⟩
theorem own_kept2 {w w':World} {base:Nat} {e:TypeId} {size:Nat} {v:Value} {n:Nat} {xs:List Value} (h:w.ownsRow base e size v n xs) (hk:∀ k,v.ownBlock = some k→w'.heap[k]? = w.heap[k]?):w'.ownsRow base e size v n xs:=by
  obtain ⟨h1,h2 | ⟨g,cap,cur,rfl,hb,hg,hr⟩⟩:=h
  · exact ⟨h1,.inl h2⟩
  · exact ⟨h1,.inr ⟨g,cap,cur,rfl,hb,(hk g rfl).trans hg,hr⟩⟩
end Go.Proofs.Ytidimannfemnmaa.Top

