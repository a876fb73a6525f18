/- MgAS: TopAa TopAb -/
import Derived.Test.YtmipodnffhngaaaMgAR
import Derived.Test.YtmipodnffhngaaaTopFo
set_option linter.all false
namespace Go.Proofs.Ytmipodnffhngaaa.Top
open Go.RowKit
set_option maxRecDepth 20000
set_option linter.unusedVariables false

def costV (o:Ov):Nat:=1 + o.label.length + o.key.length + o.value.length + P5.putsI o.pieces
def Elev (w:World) (E:Addr) (o:Ov) (s:OS):Prop :=
  w.cell? E = some (.int .u8 (o.kind:Int))∧w.cell? ⟨E.block,E.off + 1,none⟩ = some (.slice s.pA s.pn s.pc)∧w.cell? ⟨E.block,E.off + 2,none⟩ = some (.int .i64 o.at_)∧w.cell? ⟨E.block,E.off + 3,none⟩ = some (.slice s.tA s.tn s.tc)∧w.cell? ⟨E.block,E.off + 4,none⟩ = some (.int .u64 (o.id:Int)) ∧
    w.cell? ⟨E.block,E.off + 5,none⟩ = some (.bool o.leaf)∧w.cell? ⟨E.block,E.off + 6,none⟩ = some (.string ⟨o.label.toArray⟩)∧w.cell? ⟨E.block,E.off + 7,none⟩ = some (.string ⟨o.key.toArray⟩)∧w.cell? ⟨E.block,E.off + 8,none⟩ = some (.string ⟨o.value.toArray⟩)∧w.cell? ⟨E.block,E.off + 9,none⟩ = some (.bool o.gone)∧w.cell? ⟨E.block,E.off + 10,none⟩ = some (.slice s.qA s.qn s.qc)
theorem Elev.kept {w w':World} {E:Addr} {o:Ov} {s:OS} (h:Elev w E o s) (hb:w'.heap[E.block]? = w.heap[E.block]?):Elev w' E o s:=by
  obtain ⟨h0,h1,h2,h3,h4,h5,h6,h7,h8,h9,h10⟩:=h
  have c:∀ o,w'.cell? ⟨E.block,o,none⟩ = w.cell? ⟨E.block,o,none⟩:=fun o=>World.cell?_of_block (w:=w) (w':=w') (a:=⟨E.block,o,none⟩) hb
  exact ⟨(World.cell?_of_block (w:=w) (w':=w') (a:=E) hb).trans h0,(c _).trans h1,(c _).trans h2,(c _).trans h3,(c _).trans h4,(c _).trans h5,(c _).trans h6,(c _).trans h7,(c _).trans h8,(c _).trans h9,(c _).trans h10⟩
def OpsAt (w:World) (A:Option Addr) (n:Nat) (l:List (Ov × OS)):Prop :=
  l.length = n∧∀ q x,l[q]? = some x→OpRaw w x.1 x.2∧∃ ad,A = some ad∧ad.block < w.heap.size∧Elev w (ad.add (q * 11)) x.1 x.2
theorem OpsAt.below {w w':World} {A:Option Addr} {n:Nat} {l:List (Ov × OS)} (h:OpsAt w A n l) (hb:Below w.heap.size w w'):OpsAt w' A n l :=
  ⟨h.1,fun q x hx=>by
    obtain ⟨h1,ad,e,hlt,hc⟩:=h.2 q x hx
    have hk:(ad.add (q * 11)).block = ad.block:=by unfold Addr.add;split <;> rfl
    exact ⟨h1.below hb,ad,e,Nat.lt_of_lt_of_le hlt hb.size,hc.kept (by rw [hk];exact hb.block _ hlt)⟩⟩
theorem OpsAt.at_ {w:World} {A:Option Addr} {n q:Nat} {l:List (Ov × OS)} (h:OpsAt w A n l) (hq:q < n):∃ ad o s,A = some ad∧l[q]? = some (o,s)∧ad.block < w.heap.size∧OpRaw w o s∧Elev w (ad.add (q * 11)) o s:=by
  have hl:q < l.length:=by rw [h.1];exact hq
  obtain ⟨h1,ad,e,hlt,hc⟩:=h.2 q _ (List.getElem?_eq_getElem hl)
  exact ⟨ad,_,_,e,List.getElem?_eq_getElem hl,hlt,h1,hc⟩
theorem elev_of {w:World} {E:Addr} {o:Ov} {s:OS} (h:∀ j v,(opCells o s)[j]? = some v→w.cell? (E.add j) = some v):Elev w E o s :=
  ⟨h 0 _ rfl,h 1 _ rfl,h 2 _ rfl,h 3 _ rfl,h 4 _ rfl,h 5 _ rfl,h 6 _ rfl,h 7 _ rfl,h 8 _ rfl,h 9 _ rfl,h 10 _ rfl⟩
end Go.Proofs.Ytmipodnffhngaaa.Top
namespace Go.Proofs.Ytmipodnffhngaaa.Top
open Go.RowKit
set_option maxRecDepth 20000
set_option linter.unusedVariables false

structure FewO (o:Ov):Prop where
  cost:costV o≤1000
  path:o.path.length≤500000
  to_:o.to_.length≤500000
  pieces:o.pieces.length≤500000
theorem two_new (w:World) (o1 o2:Obj):(((w.alloc o1).alloc o2).heap[w.heap.size]? = some o1)∧(((w.alloc o1).alloc o2).heap[w.heap.size + 1]? = some o2)∧Below w.heap.size w ((w.alloc o1).alloc o2)∧((w.alloc o1).alloc o2).heap.size = w.heap.size + 1 + 1:=by
  have h1:=heap_alloc_new w o1
  have h2:=heap_alloc_new (w.alloc o1) o2
  rw [World.size_alloc] at h2
  exact ⟨(Go.heap_alloc_old _ _ (by simp)).trans h1,h2,((Below.refl _ _).alloc (Nat.le_refl _) _).alloc (by simp) _,by simp⟩
end Go.Proofs.Ytmipodnffhngaaa.Top
