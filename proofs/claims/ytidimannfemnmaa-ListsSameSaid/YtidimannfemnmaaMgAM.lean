/- MgAM: TreG TreI TreL TreN TreR -/
import Derived.RangeFuncNested
import Derived.RangeFuncBound
import Derived.RangeFuncCalls
import Derived.RangeFuncLeaves
import Derived.Shelf.Abstract
import Derived.Shelf.RegionOpen
import Derived.OwnWalkIn
import Derived.TacticsInMore
import Derived.LoopNIn
import Derived.LoopIn
import Derived.Deep.LoopGhost
import Derived.Test.YtidimannfemnmaaMgAF
import Derived.Stop.RegionWithIn
import Derived.Deep.AppendLies
import Derived.BigQuiet
set_option linter.all false
namespace Go.Proofs.Ytidimannfemnmaa
open Go.RowKit
set_option maxRecDepth 20000

abbrev Blks:=Nat→Prop
end Go.Proofs.Ytidimannfemnmaa
namespace Go.Proofs.Ytidimannfemnmaa
open Go.RowKit Go.Shelf
set_option maxRecDepth 20000
attribute [local go_sem] Oper.semAt_some

structure Mine (w W0:World) (G S:Blks) (W:World):Prop where
  bel:Below w.heap.size w W
  size:W0.heap.size≤W.heap.size
  far:∀ k,S k→W0.heap.size≤k
  own:∀ k,G k→¬ S k∧k < W.heap.size∧w.heap.size≤k
def Var (b:Nat) (v:Value) (ty:TypeId) (W:World):Prop:=W.heap[b]? = some (.cells #[v] ty (0,0))
theorem Var.facts {b:Nat} {v:Value} {ty:TypeId} {W:World} (h:Var b v ty W):W.cell? ⟨b,0,none⟩ = some v∧W.frozen? ⟨b,0,none⟩ = false:=⟨cell_of_row W b 0 _ _ _ h,frozen_of_row W b 0 _ _ h⟩
theorem Var.set {b:Nat} {v u:Value} {ty:TypeId} {W:World} (h:Var b v ty W):Var b u ty (W.setCell ⟨b,0,none⟩ u):=heap_setCell_same W b 0 _ _ u h
end Go.Proofs.Ytidimannfemnmaa
namespace Go.Proofs.Ytidimannfemnmaa
open Go.RowKit Go.Shelf
set_option maxRecDepth 20000
attribute [local go_sem] Oper.semAt_some

def idv (i:Nat):Value:=.int .u64 (i:Int)
def OwnId (base:Nat) (w:World) (v:Value) (is:List Nat):Prop:=w.ownsRow base 32 1 v is.length (is.map idv)
end Go.Proofs.Ytidimannfemnmaa
namespace Go.Proofs.Ytidimannfemnmaa
open Go.RowKit
set_option maxRecDepth 20000

def xN:Nd:=.mk 0 true [120] [] [104,105] []
def aN:Nd:=.mk 0 false [97] [] [] [xN]
def bN:Nd:=.mk 0 false [98] [] [] []
def rN:Nd:=.mk 0 false [114] [] [] [aN,bN]
structure Wk (w0 w:World):Prop where
  bel:Below w0.heap.size w0 w
  size:w0.heap.size + 3≤w.heap.size
  h1:w.heap[w0.heap.size]? = some (.cells #[.int .u64 0,.bool true,.string ⟨#[120]⟩,.slice none 0 0,.string ⟨#[104,105]⟩,.slice none 0 0] 36 (0,0))
  h2:w.heap[w0.heap.size + 1]? = some (.cells #[.int .u64 0,.bool false,.string ⟨#[97]⟩,.slice none 0 0,.string ⟨#[]⟩,.slice (some ⟨w0.heap.size,0,none⟩) 1 1,.int .u64 0,.bool false,.string ⟨#[98]⟩,.slice none 0 0,.string ⟨#[]⟩,.slice none 0 0] 36 (0,0))
  h3:w.heap[w0.heap.size + 2]? = some (.cells #[.int .u64 0,.bool false,.string ⟨#[114]⟩,.slice none 0 0,.string ⟨#[]⟩,.slice (some ⟨w0.heap.size + 1,0,none⟩) 2 2] 36 (0,0))
section
variable {w0 w w':World}
theorem Wk.below (h:Wk w0 w) (hb:Below w.heap.size w w'):Wk w0 w' :=
  have hs:=h.size
  ⟨h.bel.trans (hb.mono (by omega)),Nat.le_trans h.size hb.size,(hb.block _ (by omega)).trans h.h1,(hb.block _ (by omega)).trans h.h2,(hb.block _ (by omega)).trans h.h3⟩
theorem ats_nil (T:Nat→Prop) (w:World):AtsIn T w none 0 []:=⟨rfl,fun q x h=>by simp at h⟩
theorem Wk.node (h:Wk w0 w):NodeV (Old w) w none 0 0 (some ⟨w0.heap.size + 1,0,none⟩) 2 2 rN:=by
  have hs:=h.size
  have c1:=fun i=>cell_of_row w w0.heap.size i _ _ _ h.h1
  have c2:=fun i=>cell_of_row w (w0.heap.size + 1) i _ _ _ h.h2
  have hX:NodeV (Old w) w none 0 0 none 0 0 xN:=NFacts.node ⟨by decide,by decide,by decide,ats_nil _ _,Nat.le_refl _,Nat.zero_le _,fun _=>rfl,rfl,Nat.le_refl _,Nat.zero_le _,fun _=>rfl,by simp [xN,Nd.kids,RowAt]⟩
  have hB:NodeV (Old w) w none 0 0 none 0 0 bN:=NFacts.node ⟨by decide,by decide,by decide,ats_nil _ _,Nat.le_refl _,Nat.zero_le _,fun _=>rfl,rfl,Nat.le_refl _,Nat.zero_le _,fun _=>rfl,by simp [bN,Nd.kids,RowAt]⟩
  have hA:NodeV (Old w) w none 0 0 (some ⟨w0.heap.size,0,none⟩) 1 1 aN:=NFacts.node ⟨by decide,by decide,by decide,ats_nil _ _,Nat.le_refl _,Nat.zero_le _,fun _=>rfl,rfl,Nat.le_refl _,by decide,(fun h=>by cases h),by
    show RowAt (Old w) w (some ⟨w0.heap.size,0,none⟩) 0 [xN]
    simp only [RowAt,and_true]
    refine ⟨⟨w0.heap.size,0,none⟩,none,0,0,none,0,0,rfl,(by show w0.heap.size < _;omega),?_,hX⟩
    rw [add_zero_off]
    exact ⟨c1 0,c1 1,c1 2,c1 3,c1 4,c1 5⟩⟩
  refine NFacts.node ⟨by decide,by decide,by decide,ats_nil _ _,Nat.le_refl _,Nat.zero_le _,fun _=>rfl,rfl,Nat.le_refl _,by decide,(fun h=>by cases h),?_⟩
  show RowAt (Old w) w (some ⟨w0.heap.size + 1,0,none⟩) 0 [aN,bN]
  simp only [RowAt,and_true]
  refine ⟨⟨⟨w0.heap.size + 1,0,none⟩,none,0,0,(some ⟨w0.heap.size,0,none⟩),1,1,rfl,(by show w0.heap.size + 1 < _;omega),?_,hA⟩,⟨w0.heap.size + 1,0,none⟩,none,0,0,none,0,0,rfl,(by show w0.heap.size + 1 < _;omega),?_,hB⟩
  · rw [add_zero_off]
    exact ⟨c2 0,c2 1,c2 2,c2 3,c2 4,c2 5⟩
  · rw [add_zero_off]
    exact ⟨c2 6,c2 7,c2 8,c2 9,c2 10,c2 11⟩
theorem Wk.alloc (h:Wk w0 w) (o:Obj):Wk w0 (w.alloc o):=h.below ((Below.refl _ _).alloc (Nat.le_refl _) _)
theorem OwnId.len {base:Nat} {v:Value} {is:List Nat} (h:OwnId base w v is):∃ A c,v = .slice A is.length c∧is.length≤c:=by
  obtain ⟨A,c,rfl,h1,-⟩:=own_form h
  exact ⟨A,c,rfl,h1⟩
theorem its_lit {g:Nat} {xs:List Int} {t:TypeId} (h:w.heap[g]? = some (.cells (xs.map fun x=>Value.int .i64 x).toArray t (0,0))):Its w (some ⟨g,0,none⟩) xs.length xs:=Its.of_block h rfl rfl
theorem Wk.at_ (h:Wk w0 w) (p:List Int) (hp:p.length≤maxLen) {t:TypeId} {c:Nat} :
    Calls Try.prog 83 #[.agg #[.int .u64 0,.bool false,.string ⟨#[114]⟩,.slice none 0 0,.string ⟨#[]⟩,.slice (some ⟨w0.heap.size + 1,0,none⟩) 2 2],.slice (some ⟨w.heap.size,0,none⟩) p.length c] (w.alloc (.cells (p.map fun x=>Value.int .i64 x).toArray t)) fun e w' =>
      (∃ aA an ac kA kn kc,e = .returned (.tuple #[.agg (val6 ((atV rN p).getD Nd.zero) aA an ac kA kn kc),.bool (atV rN p).isSome]))∧Below w.heap.size w w' :=
  (at_any _ rN none _ 0 0 2 2 (h.alloc _).node (some ⟨w.heap.size,0,none⟩) p.length c p (its_lit (heap_alloc_new w _)) hp (by decide)).mono (by
    rintro e w' ⟨aA,an,ac,kA,kn,kc,rfl,-,hb⟩
    exact ⟨⟨aA,an,ac,kA,kn,kc,rfl⟩,(((Below.refl _ _).alloc (Nat.le_refl _) _).trans (hb.mono (by simp)))⟩)
theorem Wk.key (h:Wk w0 w):Calls Try.prog 89 #[.string ⟨#[107]⟩] w fun e w'=>e = .returned (.bool true)∧Below w.heap.size w w' :=
  (key_any [107] w (by decide)).mono (by rintro e w' ⟨rfl,rfl⟩;exact ⟨rfl,Below.refl _ _⟩)
structure Lab (bx:Nat) (w:World):Prop where
  lt:bx < w.heap.size
  cell:w.cell? ⟨bx,2,none⟩ = some (.string ⟨#[120]⟩)
theorem Lab.below {bx:Nat} (h:Lab bx w) (hb:Below w.heap.size w w'):Lab bx w':=⟨Nat.lt_of_lt_of_le h.lt hb.size,(hb.cell (p:=⟨bx,2,none⟩) h.lt).trans h.cell⟩
structure Wx (w0:World) (bx:Nat) (w:World):Prop where
  wk:Wk w0 w
  lab:Lab bx w
theorem Wx.alloc {bx:Nat} (h:Wx w0 bx w) (o:Obj):Wx w0 bx (w.alloc o):=⟨h.wk.alloc o,h.lab.below ((Below.refl _ _).alloc (Nat.le_refl _) _)⟩
end
end Go.Proofs.Ytidimannfemnmaa
namespace Go.Proofs.Ytidimannfemnmaa
open Go.RowKit
set_option maxRecDepth 20000

theorem OwnId.one (base:Nat) (w:World) (x:Nat) (hb:base≤w.heap.size):OwnId base (w.alloc (.cells #[.int .u64 (x:Int)] 32)) (.slice (some ⟨w.heap.size,0,none⟩) 1 1) [x] :=
  World.ownsRow_lit w #[.int .u64 (x:Int)] 1 hb (by unfold maxLen;omega) rfl
end Go.Proofs.Ytidimannfemnmaa
