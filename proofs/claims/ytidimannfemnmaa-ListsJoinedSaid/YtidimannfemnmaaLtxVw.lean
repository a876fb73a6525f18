/- The document's view of an edit. -/
import Derived.Test.YtidimannfemnmaaMgAK
import Derived.Deep.OwnRows
import Derived.Deep.CutRange
set_option linter.all false
namespace Go.Proofs.Ytidimannfemnmaa.P5
open Go.RowKit
set_option maxRecDepth 20000
open Ltx (Pc)

structure VRow (w:World) (g1 g2 N:Nat) (pu:Nat→List UInt8) (dr:Nat→Bool):Prop where
  r1:∃ c1,w.heap[g1]? = some (.cells c1 9 (0,0))∧c1.size = N∧∀ j,j < N→c1[j]? = some (.string ⟨(pu j).toArray⟩)
  r2:∃ c2,w.heap[g2]? = some (.cells c2 4 (0,0))∧c2.size = N∧∀ j,j < N→c2[j]? = some (.bool (dr j))
theorem VRow.new {w:World} {g1 g2 N:Nat} (h1:w.heap[g1]? = some (.cells (madeCells #[.string ⟨#[]⟩] N) 9 (0,0))) (h2:w.heap[g2]? = some (.cells (madeCells #[.bool false] N) 4 (0,0))):VRow w g1 g2 N (Ltx.putAt []) (Ltx.dropAt []):=by
  refine ⟨⟨_,h1,by simp [size_madeCells],fun j hj=>?_⟩,⟨_,h2,by simp [size_madeCells],fun j hj=>?_⟩⟩
  · simp [madeCells,hj,Ltx.putAt,Nat.mod_one]
  · simp [madeCells,hj,Ltx.dropAt,Nat.mod_one]
theorem VRow.kept {w w':World} {g1 g2 N:Nat} {pu:Nat→List UInt8} {dr:Nat→Bool} (h:VRow w g1 g2 N pu dr) (k1:w'.heap[g1]? = w.heap[g1]?) (k2:w'.heap[g2]? = w.heap[g2]?):VRow w' g1 g2 N pu dr:=by
  obtain ⟨⟨c1,a1,a2,a3⟩,⟨c2,b1,b2,b3⟩⟩:=h
  exact ⟨⟨c1,k1.trans a1,a2,a3⟩,⟨c2,k2.trans b1,b2,b3⟩⟩
theorem VRow.put {w:World} {g1 g2 N i:Nat} {pu:Nat→List UInt8} {dr:Nat→Bool} (h:VRow w g1 g2 N pu dr) (t:List UInt8) (hi:i < N) (hne:g1 ≠ g2):VRow (w.setCell ⟨g1,i,none⟩ (.string ⟨t.toArray⟩)) g1 g2 N (fun j=>if j = i then t else pu j) dr:=by
  obtain ⟨⟨c1,a1,a2,a3⟩,⟨c2,b1,b2,b3⟩⟩:=h
  refine ⟨⟨_,heap_setCell_same w g1 i _ _ _ a1,by simp [a2],fun j hj=>?_⟩,⟨c2,(heap_setCell_other w ⟨g1,i,none⟩ g2 _ (fun e=>hne e.symm)).trans b1,b2,b3⟩⟩
  by_cases h:j = i
  · subst h
    rw [if_pos rfl,Array.getElem?_setIfInBounds_self_of_lt (by omega)]
  · rw [if_neg h,Array.getElem?_setIfInBounds_ne (fun e=>h e.symm)]
    exact a3 j hj
theorem VRow.drop {w:World} {g1 g2 N i:Nat} {pu:Nat→List UInt8} {dr:Nat→Bool} (h:VRow w g1 g2 N pu dr) (hi:i < N) (hne:g1 ≠ g2):VRow (w.setCell ⟨g2,i,none⟩ (.bool true)) g1 g2 N pu (fun j=>if j = i then true else dr j):=by
  obtain ⟨⟨c1,a1,a2,a3⟩,⟨c2,b1,b2,b3⟩⟩:=h
  refine ⟨⟨c1,(heap_setCell_other w ⟨g2,i,none⟩ g1 _ hne).trans a1,a2,a3⟩,⟨_,heap_setCell_same w g2 i _ _ _ b1,by simp [b2],fun j hj=>?_⟩⟩
  by_cases h:j = i
  · subst h
    rw [if_pos rfl,Array.getElem?_setIfInBounds_self_of_lt (by omega)]
  · rw [if_neg h,Array.getElem?_setIfInBounds_ne (fun e=>h e.symm)]
    exact b3 j hj
def Vst (w:World) (N:Nat) (v5:Value) (wc:World):Prop:=∃ P g1 g2:Nat,v5 = .pointer (some ⟨P,0,none⟩)∧wc.heap[P]? = some (.cells #[.slice (some ⟨g1,0,none⟩) N N,.slice (some ⟨g2,0,none⟩) N N] 110 (0,0))∧VRow wc g1 g2 N (Ltx.putAt []) (Ltx.dropAt [])∧w.heap.size < P∧w.heap.size < g1∧w.heap.size < g2∧Below w.heap.size w wc∧(∃ z,wc.heap[w.heap.size]? = some (.cells z 110 (0,0))∧z.size = 2)
theorem Vst.mk {w:World} {N:Nat} {v5:Value} {wc:World} (P g1 g2:Nat) (z:Array Value) (h:v5 = .pointer (some ⟨P,0,none⟩)) (h1:wc.heap[P]? = some (.cells #[.slice (some ⟨g1,0,none⟩) N N,.slice (some ⟨g2,0,none⟩) N N] 110 (0,0)))
    (h2:wc.heap[g1]? = some (.cells (madeCells #[.string ⟨#[]⟩] N) 9 (0,0))) (h3:wc.heap[g2]? = some (.cells (madeCells #[.bool false] N) 4 (0,0))) (k1:w.heap.size < P) (k2:w.heap.size < g1) (k3:w.heap.size < g2) (hb:Below w.heap.size w wc) (h0:wc.heap[w.heap.size]? = some (.cells z 110 (0,0))) (hz:z.size = 2):Vst w N v5 wc :=
  ⟨P,g1,g2,h,h1,VRow.new h2 h3,k1,k2,k3,hb,z,h0,hz⟩
end Go.Proofs.Ytidimannfemnmaa.P5

