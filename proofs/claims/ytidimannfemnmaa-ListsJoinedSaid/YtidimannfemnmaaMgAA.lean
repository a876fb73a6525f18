/- MgAA: BaseBytes BaseOwn -/
import Derived.Test.YtidimannfemnmaaProg
import Derived.WalkKit
import Derived.WalkMore
import Derived.WalkLawsBesides
import Derived.WalkSpells
import Derived.Outline
import Derived.Lib.Hide
import Derived.Laws.CopyOwn
import Derived.Lib.BufferRead
import Derived.Laws.IdiomStrings
import Derived.Maps.AppendAt
import Derived.Laws.AppendOwnNone
import Derived.Deep.QuietTactic
import Derived.BigQuiet
set_option linter.all false
namespace Go.Proofs.Ytidimannfemnmaa
open Go.RowKit
set_option maxRecDepth 20000

def Bts (w:World) (A:Option Addr) (n:Nat) (bs:List UInt8):Prop :=
  bs.length = n∧∀ k c,bs[k]? = some c→∃ ad:Addr,A = some ad∧ad.block < w.heap.size∧w.cell? (ad.add k) = some (.int .u8 (c.toNat:Int))
theorem block_add (a:Addr) (k:Nat):(a.add k).block = a.block:=by unfold Addr.add;split <;> rfl
theorem Bts.below {w w':World} {A:Option Addr} {n:Nat} {bs:List UInt8} (h:Bts w A n bs) (hb:Below w.heap.size w w'):Bts w' A n bs:=by
  refine ⟨h.1,fun k c hk=>?_⟩
  obtain ⟨ad,e,hlt,hc⟩:=h.2 k c hk
  exact ⟨ad,e,Nat.lt_of_lt_of_le hlt hb.size,(hb.cell (p:=ad.add k) (by rw [block_add];exact hlt)).trans hc⟩
theorem Bts.at_ {w:World} {A:Option Addr} {n k:Nat} {bs:List UInt8} (h:Bts w A n bs) (hk:k < n) :
    ∃ (ad:Addr) (c:UInt8),A = some ad∧bs[k]? = some c∧w.cell? (ad.add k) = some (.int .u8 (c.toNat:Int)):=by
  have hl:k < bs.length:=by rw [h.1];exact hk
  have hg:bs[k]? = some bs[k]:=List.getElem?_eq_getElem hl
  obtain ⟨ad,e,_,hc⟩:=h.2 k _ hg
  exact ⟨ad,_,e,hg,hc⟩
theorem draws {B:Nat} {a w:World} (h:Below B a w) (n:Nat):Below B a (w.drewN n):=⟨h.os,h.tape,h.output,h.size,h.block⟩
theorem Bts.none_ (w:World):Bts w none 0 []:=⟨rfl,fun k c h=>by simp at h⟩
theorem add_add (a:Addr) (i j:Nat):(a.add i).add j = a.add (i + j):=by
  unfold Addr.add
  by_cases hi:i = 0
  · simp [hi]
  · by_cases hj:j = 0
    · simp [hi,hj]
    · simp [hi,hj,Nat.add_assoc]
theorem Bts.cut {w:World} {A:Option Addr} {n lo m:Nat} {bs:List UInt8} (h:Bts w A n bs) (hlm:lo + m≤n):Bts w (A.map fun x=>x.add lo) m ((bs.drop lo).take m):=by
  refine ⟨by rw [List.length_take,List.length_drop,h.1];omega,fun k c hk=>?_⟩
  rw [List.getElem?_take] at hk
  split at hk
  · rw [List.getElem?_drop] at hk
    obtain ⟨ad,rfl,hb,hc⟩:=h.2 _ _ hk
    refine ⟨ad.add lo,rfl,by rw [block_add];exact hb,by rw [add_add];exact hc⟩
  · cases hk
theorem Bts.of_block {w:World} {g n:Nat} {cs:Array Value} {t:TypeId} {fr:Nat × Nat} {bs:List UInt8} (h:w.heap[g]? = some (.cells cs t fr)) (hn:bs.length = n)
    (hc:cs = (bs.map fun c=>Value.int .u8 (c.toNat:Int)).toArray):Bts w (some ⟨g,0,none⟩) n bs:=by
  refine ⟨hn,fun k c hk=>?_⟩
  have hlt:g < w.heap.size:=(Array.getElem?_eq_some_iff.1 h).1
  have hadd:(⟨g,0,none⟩:Addr).add k = ⟨g,k,none⟩:=by unfold Addr.add;split <;> simp_all
  exact ⟨⟨g,0,none⟩,rfl,hlt,by rw [hadd,cell_of_row w g k cs t fr h,hc];simp [hk]⟩
theorem Bts.none_nil {w:World} {n:Nat} {bs:List UInt8} (h:Bts w none n bs):bs = []:=by
  cases bs with
  | nil=>rfl
  | cons c r =>
    obtain ⟨ad,e,_⟩:=h.2 0 c rfl
    cases e
theorem run_str (w:World) (A:Option Addr) (n c:Nat) (bs:List UInt8) (hB:Bts w A n bs) :
    (convert 41 9 (.slice A n c)).run Try.prog w = .ok (.string ⟨bs.toArray⟩) w:=by
  obtain rfl:=hB.1
  cases A with
  | none =>
    obtain rfl:=hB.none_nil
    exact Lib.run_convert_nil_bytes w _ _ _ c Try.underlying41 Try.underlying5 Try.underlying9
  | some ad =>
    refine run_convert_bytes_back w _ _ _ ad c bs Try.underlying41 Try.underlying5 Try.underlying9 fun j hj=>?_
    obtain ⟨ad',e,_,hc⟩:=hB.2 j _ (List.getElem?_eq_getElem hj)
    injection e with e
    subst e
    exact hc
theorem Try.info5:(Try.prog.info? 5).map (fun i=>(i.zero,i.size,i.bytes)) = some (some (.int .u8 0),1,1):=by kernel_rfl
def byteV (c:UInt8):Value:=.int .u8 (c.toNat:Int)
def OwnB (base:Nat) (w:World) (v:Value) (bs:List UInt8):Prop:=w.ownsRow base 5 1 v bs.length (bs.map byteV)
theorem OwnB.nil_ (base:Nat) (w:World):OwnB base w (.slice none 0 0) []:=World.ownsRow_nil w base _ _
theorem OwnB.shape {base:Nat} {w:World} {v:Value} {bs:List UInt8} (h:OwnB base w v bs) (hm:bs.length≤maxLen):∃ (A:Option Addr) (c:Nat),v = .slice A bs.length c∧bs.length≤c∧c≤maxLen∧Bts w A bs.length bs∧(A = none→c = 0):=by
  have h':=h
  rcases h.2 with ⟨rfl,h0⟩ | ⟨g,cap,cur,rfl,_,hg,hnc,hcm,_⟩
  · have hb:bs = []:=List.eq_nil_of_length_eq_zero h0
    subst hb
    exact ⟨none,0,rfl,Nat.le_refl _,Nat.zero_le _,Bts.none_ w,fun _=>rfl⟩
  · refine ⟨_,_,rfl,hnc,hcm,⟨rfl,fun k c hk=>?_⟩,fun e=>by cases e⟩
    have hlt:g < w.heap.size:=(Array.getElem?_eq_some_iff.1 hg).1
    exact ⟨⟨g,0,none⟩,rfl,hlt,h'.cells (g:=g) rfl k _ (by rw [List.getElem?_map,hk];rfl)⟩
theorem OwnB.alloc {base:Nat} {w:World} {v:Value} {bs:List UInt8} (h:OwnB base w v bs) (o:Obj):OwnB base (w.alloc o) v bs:=World.ownsRow.alloc h o
theorem OwnB.kept {base:Nat} {w w':World} {v:Value} {bs:List UInt8} {row:Option Nat} (h:OwnB base w v bs) (hg:w.grownBy w' row) (hne:v.ownBlock = none∨v.ownBlock ≠ row):OwnB base w' v bs:=World.ownsRow.kept h hg hne
theorem OwnB.shape_n {base:Nat} {w:World} {v:Value} {bs:List UInt8} (h:OwnB base w v bs) (hm:bs.length≤maxLen) :
    ∃ (A:Option Addr) (n c:Nat),v = .slice A n c∧n = bs.length∧n≤c∧c≤maxLen∧Bts w A n bs∧(A = none→c = 0):=by
  obtain ⟨A,c,h1,h2,h3,h4,h5⟩:=h.shape hm
  exact ⟨A,_,c,h1,rfl,h2,h3,h4,h5⟩
theorem OwnB.reads {base:Nat} {w:World} {A:Option Addr} {n c:Nat} {bs:List UInt8} (h:OwnB base w (.slice A n c) bs) (hm:bs.length≤maxLen):Bts w A n bs:=by
  obtain ⟨A',n',c',e,_,_,_,h4,_⟩:=h.shape_n hm
  injection e with e1 e2 e3
  subst e1 e2 e3
  exact h4
def Two (base:Nat) (w:World) (p q:Value) (xs ys:List UInt8):Prop :=
  OwnB base w p xs∧OwnB base w q ys∧(p.ownBlock = none∨p.ownBlock ≠ q.ownBlock)
theorem Two.alloc {base:Nat} {w:World} {p q:Value} {xs ys:List UInt8} (h:Two base w p q xs ys) (o:Obj):Two base (w.alloc o) p q xs ys:=⟨h.1.alloc o,h.2.1.alloc o,h.2.2⟩
theorem zA {α:Type} (l:List α) (i:Nat) (a:α):l.toArray.setIfInBounds i a = (l.set i a).toArray:=List.setIfInBounds_toArray ..
theorem zB {α:Type} {x:α} {xs:List α} {a:α}:(x :: xs).set 0 a = a :: xs:=List.set_cons_zero
theorem zC {α:Type} {x:α} {xs:List α} {i:Nat} {a:α}:(x :: xs).set (i + 1) a = x :: xs.set i a:=List.set_cons_succ
end Go.Proofs.Ytidimannfemnmaa
namespace Go.Proofs.Ytidimannfemnmaa
open Go.RowKit
set_option maxRecDepth 20000

theorem own_form {w:World} {base:Nat} {e:TypeId} {size:Nat} {v:Value} {n:Nat} {xs:List Value} (h:w.ownsRow base e size v n xs) :
    ∃ (A:Option Addr) (c:Nat),v = .slice A n c∧n≤c∧c≤maxLen∧(A = none→c = 0)∧(0 < n→∃ g:Nat,A = some ⟨g,0,none⟩∧base≤g∧g < w.heap.size∧∀ j u,xs[j]? = some u→w.cell? ⟨g,j,none⟩ = some u):=by
  have h':=h
  rcases h.2 with ⟨rfl,h0⟩ | ⟨g,cap,cur,rfl,hb,hg,hnc,hcm,_⟩
  · subst h0
    exact ⟨none,0,rfl,Nat.le_refl _,Nat.zero_le _,fun _=>rfl,fun h=>by omega⟩
  · refine ⟨_,cap,rfl,hnc,hcm,(fun e=>by cases e),fun _=>⟨g,rfl,hb,(Array.getElem?_eq_some_iff.1 hg).1,fun j u hj=>?_⟩⟩
    have hadd:(⟨g,0,none⟩:Addr).add j = ⟨g,j,none⟩:=by unfold Addr.add;split <;> simp_all
    rw [← hadd]
    exact h'.cells (g:=g) rfl j u hj

def Typed (ts:List TypeId) (w:World) (k:Nat):Prop:=∃ cs t fr,w.heap[k]? = some (.cells cs t fr)∧t ∈ ts
structure Fr (ts:List TypeId) (B:Nat) (w w':World):Prop where
  os:w'.os = w.os
  tape:w'.tape = w.tape
  output:w'.output = w.output
  size:w.heap.size≤w'.heap.size
  block:∀ k,k < w.heap.size→w'.heap[k]? = w.heap[k]?∨(B≤k∧Typed ts w k)
section
variable {ts us:List TypeId} {B C:Nat} {w w' w'':World}
theorem Fr.refl (ts:List TypeId) (B:Nat) (w:World):Fr ts B w w:=⟨rfl,rfl,rfl,Nat.le_refl _,fun _ _=>.inl rfl⟩
theorem Fr.trans (h:Fr ts B w w') (k:Fr ts B w' w''):Fr ts B w w'' :=
  ⟨k.os.trans h.os,k.tape.trans h.tape,k.output.trans h.output,Nat.le_trans h.size k.size,fun i hi=>by
    rcases h.block i hi with e | e
    · rcases k.block i (Nat.lt_of_lt_of_le hi h.size) with e2 | ⟨hb,cs,t,fr,hh,ht⟩
      · exact .inl (e2.trans e)
      · exact .inr ⟨hb,cs,t,fr,e.symm.trans hh,ht⟩
    · exact .inr e⟩
theorem Fr.below (h:Fr ts B w w'):Below (min B w.heap.size) w w':=⟨h.os,h.tape,h.output,h.size,fun k hk=>by
  rcases h.block k (by omega) with e | e
  · exact e
  · omega⟩
theorem Fr.setCell {g i:Nat} {v:Value} {cs:Array Value} {t:TypeId} {fr:Nat × Nat} (hg:w.heap[g]? = some (.cells cs t fr)) (hB:B≤g) (ht:t ∈ ts):Fr ts B w (w.setCell ⟨g,i,none⟩ v) :=
  ⟨rfl,rfl,rfl,by simp [World.setCell],fun k _=>by
    by_cases e:k = g
    · subst e;exact .inr ⟨hB,cs,t,fr,hg,ht⟩
    · exact .inl (heap_setCell_other w _ k v e)⟩
end
end Go.Proofs.Ytidimannfemnmaa
