/- MgAP: TopW TopX TopBj TopXa TopXb TopXc -/
import Derived.Test.YtidimannfemnmaaMgAN
import Derived.Test.YtidimannfemnmaaMgAO
import Derived.Deep.CutRange
import Derived.Deep.CutBlock
import Derived.Test.YtidimannfemnmaaMgAM
import Derived.Deep.Cut
set_option linter.all false
namespace Go.Proofs.Ytidimannfemnmaa.Top
open Go.RowKit
set_option maxRecDepth 20000

def attN:Nd→List (Txt × Txt)→Nd
  | .mk i f l _ x k,a=>.mk i f l a x k
end Go.Proofs.Ytidimannfemnmaa.Top
namespace Go.Proofs.Ytidimannfemnmaa.Top
open Go.RowKit
set_option maxRecDepth 20000

structure Slim (o:Ov):Prop where
  label:o.label.length≤80000
  key:o.key.length≤80000
  value:o.value.length≤80000
  puts:P5.putsI o.pieces≤80000
def afterV (t:Nd) (o:Ov):Nd :=
  if o.kind = 1 then (modV t o.path (insK o.at_.toNat (.mk o.id o.leaf o.label [] [] []))).getD Nd.zero
  else if o.kind = 2 then (delAt t o.path).getD Nd.zero
  else if o.kind = 3 then ((modV t o.to_ (insK o.at_.toNat ((atV t o.path).getD Nd.zero))).bind fun m=>delAt m (docFrom o.path o.to_ o.at_.toNat)).getD Nd.zero
  else if o.kind = 4 then ((atV t o.path).bind fun y=>putV t o.path (attN y (docA o.key o.value y.attrs o.gone))).getD Nd.zero
  else if o.kind = 5 then ((atV t o.path).bind fun y=>putV t o.path (labN y o.label)).getD Nd.zero
  else ((atV t o.path).bind fun y=>putV t o.path (textN y (Ltx.apply y.text (pcs o.pieces)))).getD Nd.zero
def applyV (t:Nd) (o:Ov):Nd:=if validV t o = 0 then afterV t o else Nd.zero
end Go.Proofs.Ytidimannfemnmaa.Top
namespace Go.Proofs.Ytidimannfemnmaa.Top
open Go.RowKit
set_option maxRecDepth 20000

theorem bare_bare (o:Ov):bareV (bareV o) = bareV o:=by
  by_cases k1:o.kind = 1
  · simp [bareV,k1]
  · by_cases k2:o.kind = 2
    · simp [bareV,k2]
    · by_cases k3:o.kind = 3
      · simp [bareV,k3]
      · by_cases k4:o.kind = 4
        · cases hg:o.gone <;> simp [bareV,k4,hg]
        · by_cases k5:o.kind = 5
          · simp [bareV,k5]
          · by_cases k6:o.kind = 6
            · simp [bareV,k6]
            · have hk:¬ (1≤o.kind∧o.kind≤6):=by omega
              simp [bareV,hk,k1,k3,k4,k5,k6]
theorem bare_formed (o:Ov):formedV (bareV o) = formedV o:=by
  unfold formedV bareV
  dsimp only
  by_cases k1:o.kind = 1
  · simp [k1]
  · by_cases k2:o.kind = 2
    · simp [k2]
    · by_cases k3:o.kind = 3
      · simp [k3]
      · by_cases k4:o.kind = 4
        · cases hg:o.gone <;> simp [k4]
        · by_cases k5:o.kind = 5
          · simp [k5]
          · by_cases k6:o.kind = 6
            · simp [k6]
            · simp [k1,k2,k3,k4,k5,k6]
end Go.Proofs.Ytidimannfemnmaa.Top
namespace Go.Proofs.Ytidimannfemnmaa.Top
open Go.RowKit
set_option maxRecDepth 20000

def xW:Nd:=.mk 0 true [120] [] [104,105] []
def cW:Nd:=.mk 0 false [99] [] [] []
def aW:Nd:=.mk 0 false [97] [] [] [xW,cW]
def bW:Nd:=.mk 0 true [98] [] [98,101,101] []
def rW:Nd:=.mk 0 false [114] [] [] [aW,bW]
structure Wk (w0 w:World):Prop where
  bel:Below w0.heap.size w0 w
  size:w0.heap.size + 3≤w.heap.size
  h1:w.heap[w0.heap.size]? = some (.cells #[.int .u64 0,.bool true,.string ⟨#[120]⟩,.slice none 0 0,.string ⟨#[104,105]⟩,.slice none 0 0,.int .u64 0,.bool false,.string ⟨#[99]⟩,.slice none 0 0,.string ⟨#[]⟩,.slice none 0 0] 36 (0,0))
  h2:w.heap[w0.heap.size + 1]? = some (.cells #[.int .u64 0,.bool false,.string ⟨#[97]⟩,.slice none 0 0,.string ⟨#[]⟩,.slice (some ⟨w0.heap.size,0,none⟩) 2 2,.int .u64 0,.bool true,.string ⟨#[98]⟩,.slice none 0 0,.string ⟨#[98,101,101]⟩,.slice none 0 0] 36 (0,0))
  h3:w.heap[w0.heap.size + 2]? = some (.cells #[.int .u64 0,.bool false,.string ⟨#[114]⟩,.slice none 0 0,.string ⟨#[]⟩,.slice (some ⟨w0.heap.size + 1,0,none⟩) 2 2] 36 (0,0))
section
variable {w0 w w':World}
theorem Wk.below (h:Wk w0 w) (hb:Below w.heap.size w w'):Wk w0 w' :=
  have hs:=h.size
  ⟨h.bel.trans (hb.mono (by omega)),Nat.le_trans h.size hb.size,(hb.block _ (by omega)).trans h.h1,(hb.block _ (by omega)).trans h.h2,(hb.block _ (by omega)).trans h.h3⟩
theorem Wk.alloc (h:Wk w0 w) (o:Obj):Wk w0 (w.alloc o):=h.below ((Below.refl _ _).alloc (Nat.le_refl _) _)
theorem Wk.node (h:Wk w0 w):NodeV (Old w) w none 0 0 (some ⟨w0.heap.size + 1,0,none⟩) 2 2 rW:=by
  have hs:=h.size
  have c1:=fun i=>cell_of_row w w0.heap.size i _ _ _ h.h1
  have c2:=fun i=>cell_of_row w (w0.heap.size + 1) i _ _ _ h.h2
  have hX:NodeV (Old w) w none 0 0 none 0 0 xW:=NFacts.node ⟨by decide,by decide,by decide,ats_nil _ _,Nat.le_refl _,Nat.zero_le _,fun _=>rfl,rfl,Nat.le_refl _,Nat.zero_le _,fun _=>rfl,by simp [xW,Nd.kids,RowAt]⟩
  have hC:NodeV (Old w) w none 0 0 none 0 0 cW:=NFacts.node ⟨by decide,by decide,by decide,ats_nil _ _,Nat.le_refl _,Nat.zero_le _,fun _=>rfl,rfl,Nat.le_refl _,Nat.zero_le _,fun _=>rfl,by simp [cW,Nd.kids,RowAt]⟩
  have hB:NodeV (Old w) w none 0 0 none 0 0 bW:=NFacts.node ⟨by decide,by decide,by decide,ats_nil _ _,Nat.le_refl _,Nat.zero_le _,fun _=>rfl,rfl,Nat.le_refl _,Nat.zero_le _,fun _=>rfl,by simp [bW,Nd.kids,RowAt]⟩
  have hA:NodeV (Old w) w none 0 0 (some ⟨w0.heap.size,0,none⟩) 2 2 aW:=NFacts.node ⟨by decide,by decide,by decide,ats_nil _ _,Nat.le_refl _,Nat.zero_le _,fun _=>rfl,rfl,Nat.le_refl _,by decide,(fun h=>by cases h),by
    show RowAt (Old w) w (some ⟨w0.heap.size,0,none⟩) 0 [xW,cW]
    simp only [RowAt,and_true]
    refine ⟨⟨⟨w0.heap.size,0,none⟩,none,0,0,none,0,0,rfl,(by show w0.heap.size < _;omega),?_,hX⟩,⟨w0.heap.size,0,none⟩,none,0,0,none,0,0,rfl,(by show w0.heap.size < _;omega),?_,hC⟩
    · rw [add_zero_off]
      exact ⟨c1 0,c1 1,c1 2,c1 3,c1 4,c1 5⟩
    · rw [add_zero_off]
      exact ⟨c1 6,c1 7,c1 8,c1 9,c1 10,c1 11⟩⟩
  refine NFacts.node ⟨by decide,by decide,by decide,ats_nil _ _,Nat.le_refl _,Nat.zero_le _,fun _=>rfl,rfl,Nat.le_refl _,by decide,(fun h=>by cases h),?_⟩
  show RowAt (Old w) w (some ⟨w0.heap.size + 1,0,none⟩) 0 [aW,bW]
  simp only [RowAt,and_true]
  refine ⟨⟨⟨w0.heap.size + 1,0,none⟩,none,0,0,(some ⟨w0.heap.size,0,none⟩),2,2,rfl,(by show w0.heap.size + 1 < _;omega),?_,hA⟩,⟨w0.heap.size + 1,0,none⟩,none,0,0,none,0,0,rfl,(by show w0.heap.size + 1 < _;omega),?_,hB⟩
  · rw [add_zero_off]
    exact ⟨c2 0,c2 1,c2 2,c2 3,c2 4,c2 5⟩
  · rw [add_zero_off]
    exact ⟨c2 6,c2 7,c2 8,c2 9,c2 10,c2 11⟩
end
def o1:Ov:=⟨1,[0],1,[],0,false,[110],[],[],false,[]⟩
def o2:Ov:=⟨3,[0,0],2,[],0,false,[],[],[],false,[]⟩
def o3:Ov:=⟨3,[0],1,[],0,false,[],[],[],false,[]⟩
def o4:Ov:=⟨6,[0,0],0,[],0,false,[],[],[],false,[⟨2,0,[33]⟩]⟩
def o5:Ov:=⟨3,[0],0,[0,0],0,false,[],[],[],false,[]⟩
def o6:Ov:=⟨2,[],0,[],0,false,[],[],[],false,[]⟩
def nW:Nd:=.mk 0 false [110] [] [] []
theorem v1:validV rW o1 = 0:=by kernel_rfl
theorem v2:validV rW o2 = 0:=by kernel_rfl
theorem v3:validV rW o3 = 0:=by kernel_rfl
theorem v4:validV rW o4 = 0:=by kernel_rfl
theorem v5:validV rW o5 = 84:=by kernel_rfl
theorem v6:validV rW o6 = 82:=by kernel_rfl
theorem a1:applyV rW o1 = .mk 0 false [114] [] [] [.mk 0 false [97] [] [] [xW,nW,cW],bW]:=by kernel_rfl
theorem a2:applyV rW o2 = .mk 0 false [114] [] [] [.mk 0 false [97] [] [] [cW],bW,xW]:=by kernel_rfl
theorem a3:applyV rW o3 = rW:=by kernel_rfl
theorem a4:applyV rW o4 = .mk 0 false [114] [] [] [.mk 0 false [97] [] [] [.mk 0 true [120] [] [104,105,33] [],cW],bW]:=by kernel_rfl
end Go.Proofs.Ytidimannfemnmaa.Top
namespace Go.Proofs.Ytidimannfemnmaa.Top
open Go.RowKit
set_option maxRecDepth 20000

structure Res (b:Nat) (r:Nd) (w:World):Prop where
  lt:b < w.heap.size
  at_:∃ aA an ac kA kc,w.heap[b]? = some (.cells (val6 r aA an ac kA r.kids.length kc) 36 (0,0))∧NodeV (Old w) w aA an ac kA r.kids.length kc r
theorem Res.below {b:Nat} {r:Nd} {w w':World} (h:Res b r w) (hb:Below w.heap.size w w'):Res b r w':=by
  obtain ⟨h0,aA,an,ac,kA,kc,h1,h2⟩:=h
  exact ⟨Nat.lt_of_lt_of_le h0 hb.size,aA,an,ac,kA,kc,(hb.block _ h0).trans h1,h2.below hb⟩
theorem Res.alloc {b:Nat} {r:Nd} {w:World} (h:Res b r w) (o:Obj):Res b r (w.alloc o):=h.below ((Below.refl _ _).alloc (Nat.le_refl _) _)
theorem Res.new {r:Nd} {w:World} {aA kA:Option Addr} {an ac kc:Nat} (h:NodeV (Old w) w aA an ac kA r.kids.length kc r):Res w.heap.size r (w.alloc (.cells (val6 r aA an ac kA r.kids.length kc) 36)) :=
  ⟨by simp,aA,an,ac,kA,kc,heap_alloc_new w _,h.below ((Below.refl _ _).alloc (Nat.le_refl _) _)⟩
end Go.Proofs.Ytidimannfemnmaa.Top
namespace Go.Proofs.Ytidimannfemnmaa.Top
open Go.RowKit
set_option maxRecDepth 20000

theorem NodeAt.kids {T:Nat→Prop} {w:World} {E:Addr} {t:Nd} (h:NodeAt T w E t):∃ kA kc,w.cell? ⟨E.block,E.off + 2,none⟩ = some (.string ⟨t.label.toArray⟩)∧w.cell? ⟨E.block,E.off + 4,none⟩ = some (.string ⟨t.text.toArray⟩)∧w.cell? ⟨E.block,E.off + 5,none⟩ = some (.slice kA t.kids.length kc)∧t.kids.length≤kc∧kc≤maxLen ∧
    ∀ q k,t.kids[q]? = some k→∃ ad,kA = some ad∧NodeAt T w (ad.add (q * 6)) k:=by
  obtain ⟨-,aA,an,ac,kA,kn,kc,hs,hn⟩:=h
  obtain ⟨s0,s1,s2,s3,s4,s5⟩:=hs
  have hf:=hn.facts
  obtain rfl:kn = t.kids.length:=hf.kl.symm
  refine ⟨kA,kc,s2,s4,s5,hf.knc,hf.kcm,fun q k hk=>?_⟩
  obtain ⟨ad,e,hat⟩:=hf.row.at_ hk
  rw [Nat.zero_add] at hat
  exact ⟨ad,e,hat⟩
end Go.Proofs.Ytidimannfemnmaa.Top
