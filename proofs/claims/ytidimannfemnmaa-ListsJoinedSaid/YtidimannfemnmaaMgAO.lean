/- MgAO: TopH TopM TopR TopT -/
import Derived.Test.YtidimannfemnmaaTopG
import Derived.Test.YtidimannfemnmaaTopS
import Derived.Test.YtidimannfemnmaaMgAN
import Derived.Deep.RegionWith
import Derived.Deep.RegionLaw
import Derived.Deep.RegionHeld3
import Derived.Test.YtidimannfemnmaaMgAK
import Derived.Test.YtidimannfemnmaaMgAH
import Derived.Laws.Cover1
import Derived.Deep.LoopGhost
set_option linter.all false
namespace Go.Proofs.Ytidimannfemnmaa.Top
open Go.RowKit
set_option maxRecDepth 20000

theorem chunk_take {α:Type} (f:α→List Value) (S:Nat) (hf:∀ x,(f x).length = S):∀ (l:List α) (k:Nat),(l.take k).flatMap f = (l.flatMap f).take (k * S)
  | [],k=>by simp
  | a :: r,0=>by simp
  | a :: r,k + 1=>by
    rw [List.take_succ_cons,List.flatMap_cons,List.flatMap_cons,chunk_take f S hf r k,List.take_append,hf,List.take_of_length_le (l:=f a) (by rw [hf,Nat.succ_mul];omega),show (k + 1) * S - S = k * S by rw [Nat.succ_mul];omega]
theorem chunk_drop {α:Type} (f:α→List Value) (S:Nat) (hf:∀ x,(f x).length = S):∀ (l:List α) (k:Nat),(l.drop k).flatMap f = (l.flatMap f).drop (k * S)
  | [],k=>by simp
  | a :: r,0=>by simp
  | a :: r,k + 1=>by
    rw [List.drop_succ_cons,List.flatMap_cons,chunk_drop f S hf r k,List.drop_append,hf,List.drop_of_length_le (l:=f a) (by rw [hf,Nat.succ_mul];omega),List.nil_append,show (k + 1) * S - S = k * S by rw [Nat.succ_mul];omega]
def restA (A:Option Addr) (c k:Nat):Option Addr:=if c = k then A else A.map fun a=>a.add (k * 6)
theorem restA_ne {ad:Addr} {c k:Nat} (h:¬ c = k):restA (some ad) c k = some (ad.add (k * 6)):=if_neg h
theorem Prt.Ok.take {w:World} {A:Option Addr} {n c k:Nat} {ks:List KV} (h:(Prt.mk A n c (ks.flatMap KV.cells)).Ok 6 w) (hl:ks.length = n) (hk:k≤n):(Prt.mk A k c ((ks.take k).flatMap KV.cells)).Ok 6 w:=by
  have hnc:=h.nc
  have hfew:=h.few
  dsimp only at hnc hfew
  refine ⟨by rw [chunk_len KV.cells 6 KV.cells_len,List.length_take];show min k ks.length * 6 = k * 6;rw [Nat.min_eq_left (by omega)],KV.one _,fun j u hj=>?_,h.nil_,by show k≤c;omega,by show k≤100000;omega⟩
  have hj2:((ks.take k).flatMap KV.cells)[j]? = some u:=hj
  rw [chunk_take KV.cells 6 KV.cells_len,List.getElem?_take] at hj2
  split at hj2
  · exact h.cells j u hj2
  · cases hj2
theorem Prt.Ok.drop {w:World} {A:Option Addr} {n c k:Nat} {ks:List KV} (h:(Prt.mk A n c (ks.flatMap KV.cells)).Ok 6 w) (hl:ks.length = n) (hk:k≤n):(Prt.mk (restA A c k) (n - k) (c - k) ((ks.drop k).flatMap KV.cells)).Ok 6 w:=by
  have hnc:=h.nc
  have hfew:=h.few
  dsimp only at hnc hfew
  refine ⟨by rw [chunk_len KV.cells 6 KV.cells_len,List.length_drop];show (ks.length - k) * 6 = (n - k) * 6;rw [hl],KV.one _,fun j u hj=>?_,fun e=>?_,by show n - k≤c - k;omega,by show n - k≤100000;omega⟩
  · have hj2:((ks.drop k).flatMap KV.cells)[j]? = some u:=hj
    rw [chunk_drop KV.cells 6 KV.cells_len,List.getElem?_drop] at hj2
    obtain ⟨ad,e,hlt,hc⟩:=h.cells _ u hj2
    have e:A = some ad:=e
    have hlen:=(List.getElem?_eq_some_iff.1 hj2).1
    rw [chunk_len KV.cells 6 KV.cells_len,hl] at hlen
    have hck:¬ c = k:=by
      intro e2
      have:n = k:=by omega
      subst this
      omega
    subst e
    exact ⟨ad.add (k * 6),restA_ne hck,by rw [block_add];exact hlt,by rw [add_add];exact hc⟩
  · have e:restA A c k = none:=e
    unfold restA at e
    by_cases hck:c = k
    · rw [if_pos hck] at e
      have:c = 0:=h.nil_ e
      show c - k = 0
      omega
    · rw [if_neg hck] at e
      cases A with
      | none=>have:c = 0:=h.nil_ rfl;show c - k = 0;omega
      | some ad=>cases e
end Go.Proofs.Ytidimannfemnmaa.Top
namespace Go.Proofs.Ytidimannfemnmaa.Top
open Go.RowKit
set_option maxRecDepth 20000

def labN:Nd→Txt→Nd
  | .mk i f _ a x k,l=>.mk i f l a x k
end Go.Proofs.Ytidimannfemnmaa.Top
namespace Go.Proofs.Ytidimannfemnmaa.Top
open Go.RowKit
set_option maxRecDepth 20000

def textN:Nd→Txt→Nd
  | .mk i f l a _ k,x=>.mk i f l a x k
end Go.Proofs.Ytidimannfemnmaa.Top
namespace Go.Proofs.Ytidimannfemnmaa.Top
open Go.RowKit
set_option maxRecDepth 20000

theorem ats_back {w:World} {base n:Nat} {v:Value} {l:List (Txt × Txt)} (h:w.ownsRow base 46 2 v n (l.flatMap atc)) (hn:n = l.length) (hs:∀ x ∈ l,x.1.length≤maxLen∧x.2.length≤maxLen) :
    ∃ A c,v = .slice A n c∧AtsIn (fun k=>base≤k∧k < w.heap.size) w A n l∧n≤c∧c≤maxLen∧(A = none→c = 0):=by
  subst hn
  obtain ⟨A,c,rfl,h1,h2,h3,h4⟩:=own_form h
  refine ⟨A,c,rfl,⟨rfl,fun q x hx=>?_⟩,h1,h2,h3⟩
  have hq:=(List.getElem?_eq_some_iff.1 hx).1
  obtain ⟨g,rfl,hb,hlt,hc⟩:=h4 (by omega)
  have hm:=hs x (List.mem_of_getElem? hx)
  refine ⟨⟨g,0,none⟩,rfl,⟨hb,hlt⟩,hm.1,hm.2,?_,?_⟩
  · have:=hc (q * 2 + 0) _ (chunk_of atc 2 atc_len l q 0 x _ hx rfl)
    rw [add_zero_off]
    exact this
  · have:=hc (q * 2 + 1) _ (chunk_of atc 2 atc_len l q 1 x _ hx rfl)
    rw [add_zero_off]
    exact this
def AtsA (w:World) (l:List (Txt × Txt)) (e:Ending) (w':World):Prop :=
  ∃ A' n' c',e = .returned (.slice A' n' c')∧AtsIn (fun k=>w.heap.size≤k∧k < w'.heap.size) w' A' n' l∧n'≤c'∧c'≤maxLen∧(A' = none→c' = 0)∧Below w.heap.size w w'
theorem AtsA.of {w W w':World} {l:List (Txt × Txt)} {v:Value} {b n:Nat} (h:w'.ownsRow b 46 2 v n (l.flatMap atc)) (hn:n = l.length) (hs:∀ x ∈ l,x.1.length≤maxLen∧x.2.length≤maxLen) (hw:Below w.heap.size w W) (hb:Below W.heap.size W w') (hwb:w.heap.size≤b):AtsA w l (.returned v) w':=by
  obtain ⟨A,c,rfl,h1,h2,h3,h4⟩:=ats_back h hn hs
  exact ⟨A,n,c,rfl,h1.kept (fun k hk=>⟨Nat.le_trans hwb hk.1,hk.2⟩) (fun _ _=>rfl),h2,h3,h4,hw.trans (hb.mono hw.size)⟩
end Go.Proofs.Ytidimannfemnmaa.Top
