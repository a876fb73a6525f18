/- MgAK: LtxG LtxH LtxJ LtxK TopV TopC LtxQ LtxR -/
import Derived.Test.YtidimannfemnmaaMgAJ
import Derived.Test.YtidimannfemnmaaLtxB
import Derived.RegionTactic
import Derived.BigRegion
import Derived.Deep.RegionHeld3
import Derived.Deep.AppendLies
import Derived.Lib.Builder
import Derived.Deep.Cut
import Derived.Test.YtidimannfemnmaaMgAF
import Derived.BigQuiet
set_option linter.all false
namespace Go.Proofs.Ytidimannfemnmaa.P5
open Go.RowKit
set_option maxRecDepth 20000
open Ltx (Pc)

def prim (l:List Pc):List Pc:=l.flatMap fun p=>[⟨p.keep,0,[]⟩,⟨0,0,p.put⟩,⟨0,p.drop,[]⟩]
theorem prim_one (p:Pc):Eqv [⟨p.keep,0,[]⟩,⟨0,0,p.put⟩,⟨0,p.drop,[]⟩] [p]:=by
  have h1:Eqv [⟨p.keep,0,[]⟩,⟨0,0,p.put⟩] [⟨p.keep,0,p.put⟩]:=by
    have:=eqv_one (k:=p.keep) (d:=0) (t:=[]) (k':=0) (d':=0) (t':=p.put) rfl
    simpa using this
  have h2:Eqv [⟨p.keep,0,p.put⟩,⟨0,p.drop,[]⟩] [p]:=by
    have:=eqv_one (k:=p.keep) (d:=0) (t:=p.put) (k':=0) (d':=p.drop) (t':=[]) rfl
    simpa using this
  exact (h1.app (Eqv.refl [⟨0,p.drop,[]⟩])).trans h2
theorem prim_eqv:∀ l:List Pc,Eqv (prim l) l
  | []=>Eqv.refl []
  | p :: r=>(prim_one p).app (prim_eqv r)
theorem prim_norm (l:List Pc):Ltx.norm (prim l) = Ltx.norm l:=norm_eqv (prim_eqv l)
theorem prim_append (l m:List Pc):prim (l ++ m) = prim l ++ prim m:=by unfold prim;rw [List.flatMap_append]
theorem totP_prim:∀ l:List Pc,totP (prim l) = totP l
  | []=>rfl
  | p :: r=>by
    have ih:=totP_prim r
    have e:prim (p :: r) = [⟨p.keep,0,[]⟩,⟨0,0,p.put⟩,⟨0,p.drop,[]⟩] ++ prim r:=rfl
    rw [e,totP_append,ih,show totP (p :: r) = totP ([p] ++ r) from rfl,totP_append]
    simp [totP,Ltx.extent,Ltx.puts]
theorem prim_take (l:List Pc) (q:Nat) (p:Pc) (h:l[q]? = some p):prim (l.take (q + 1)) = prim (l.take q) ++ [⟨p.keep,0,[]⟩] ++ [⟨0,0,p.put⟩] ++ [⟨0,p.drop,[]⟩]:=by
  rw [List.take_add_one,h,prim_append]
  simp [prim]
theorem tot_take (l:List Pc) (q:Nat):totP (l.take q)≤totP l:=by
  conv=>rhs;rw [← List.take_append_drop q l,totP_append]
  omega
theorem right_pcs {xs:List IP} (h:rightV xs = true):∃ l:List Pc,xs = l.map ipc:=by
  have hall:xs.all okB = true:=by
    unfold rightV at h
    simp only [Bool.and_eq_true] at h
    exact h.1.2
  clear h
  induction xs with
  | nil=>exact ⟨[],rfl⟩
  | cons x r ih =>
    rw [List.all_cons,Bool.and_eq_true] at hall
    obtain ⟨l,rfl⟩:=ih hall.2
    obtain ⟨kp,dr,pu⟩:=x
    have hx:0≤kp∧0≤dr:=by
      have:=hall.1
      unfold okB mayB at this
      simp at this
      omega
    refine ⟨⟨kp.toNat,dr.toNat,pu⟩ :: l,?_⟩
    rw [List.map_cons]
    congr 1
    simp [ipc]
    omega
theorem FrX.cells {S:Nat→Prop} {w w':World} {b:Nat} {cs:Array Value} {t:TypeId} {fr:Nat × Nat} (h:FrX S w w') (hb:w.heap[b]? = some (.cells cs t fr)) (hn:¬ S b):w'.heap[b]? = some (.cells cs t fr) :=
  (h.block b (Array.getElem?_eq_some_iff.1 hb).1 hn).trans hb
theorem own_base {w:World} {base b:Nat} {e:TypeId} {size:Nat} {v:Value} {n:Nat} {xs:List Value} (h:w.ownsRow base e size v n xs) (hb:b≤base):w.ownsRow b e size v n xs:=by
  refine ⟨h.1,?_⟩
  rcases h.2 with h0 | ⟨g,cap,cur,rfl,hg,rest⟩
  · exact .inl h0
  · exact .inr ⟨g,cap,cur,rfl,Nat.le_trans hb hg,rest⟩
set_option maxHeartbeats 2000000 in
theorem normal_any (w:World) (A:Option Addr) (n c:Nat) (l:List Pc) (hx:PcsIn w A n (l.map ipc)) (hn:n≤maxLen) (hsm:totP l≤100000) :
    Calls Try.prog 134 #[.slice A n c] w fun e w'=>∃ v,e = .returned v∧OwnP w.heap.size w' v (Ltx.norm l)∧Below w.heap.size w w':=by
  have hx':=Lib.hid hx
  have hlen:=Lib.hid (show l.length = n by have:=hx.1;simpa using this)
  have hlow:=Lib.hid (low_of (l:=Ltx.norm l) (Nat.le_trans (totP_norm l) (by omega)))
  clear hx
  have hn':(n:Int)≤9223372036854775807:=by unfold maxLen at hn;omega
  go_enter Try.func134,Try.ntmps134
  go_wp2_with fail
  go_loopw [8] (fun k wr=>∃ (q:Nat) (S:Nat→Prop),q≤n∧k = .int .i64 (q:Int)∧Drf wr S w.heap.size w.heap.size (prim (l.take q))∧Below w.heap.size w wr) (fun k _=>n - (intOf k).toNat)
  case atStart=>exact ⟨0,_,Nat.zero_le _,rfl,Drf.new (Nat.le_refl _),(Below.refl w.heap.size w).alloc (Nat.le_refl _) _⟩
  case round =>
    obtain ⟨q,S,hq,rfl,hd,hbel⟩:=hrel
    by_cases h1:q < n
    · have h1I:(q:Int) < (n:Int):=by omega
      obtain ⟨ad,x,rfl,hxq,hlt,hp⟩:=(hx'.out.below hbel).at_ h1
      obtain ⟨x1,x2,x3,x4,x5,x6,x7,x8⟩:=hp
      rw [List.getElem?_map] at hxq
      cases hpq:l[q]? with
      | none=>rw [hpq] at hxq;cases hxq
      | some pc =>
        rw [hpq] at hxq
        injection hxq with hxq
        subst hxq
        have htk:=Lib.hid (prim_take l q pc hpq)
        have ht1:=tot_take l (q + 1)
        have ht2:=totP_prim (l.take (q + 1))
        rw [htk.out,totP_append,totP_append,totP_append,totP_one,totP_one,totP_one] at ht2
        simp only [List.length_nil,Nat.add_zero,Nat.zero_add] at ht2
        have hbs:=hbel.size
        obtain ⟨kp,dr,pu⟩:=pc
        simp only [ipc] at *
        have hb1:totP (prim (l.take q)) + kp≤1000000:=by omega
        have hb2:=Lib.hid (show totP (prim (l.take q) ++ [⟨kp,0,[]⟩]) + pu.length≤1000000 by rw [totP_append,totP_one];simp;omega)
        have hb3:=Lib.hid (show totP (prim (l.take q) ++ [⟨kp,0,[]⟩] ++ [⟨0,0,pu⟩]) + dr≤1000000 by rw [totP_append,totP_append,totP_one,totP_one];simp;omega)
        have hSlt:=Lib.hid hd.lt
        have hd1:=Lib.hid (fun o=>hd.below ((Below.refl wr.heap.size wr).alloc (Nat.le_refl _) o))
        have hbel':=Lib.hid hbel
        have hbase:∀ o,w.heap.size≤(wr.alloc o).heap.size:=fun o=>by simp;omega
        have hbase':=Lib.hid hbase
        clear hd hbel ht1 ht2 hpq hbase x1 x2 x3 x4
        unfold maxLen at x5
        have hsz0:∀ o,(wr.alloc o).heap.size = wr.heap.size + 1:=fun o=>by simp
        have hsz0':=Lib.hid hsz0
        clear hsz0
        go_wp2_with (first
          | (go_at_call 72;refine (dkeep_any (hd1.out _) kp hb1 (hbase'.out _)).mono ?_;rintro e w2 ⟨rfl,hd2,hF2⟩;have hx2:=hF2.cells (heap_alloc_new wr _) (fun e=>by have:=hSlt.out _ e;omega);have q2:=cell_of_row w2 wr.heap.size 2 _ _ _ hx2;simp at q2;have hx2':=Lib.hid hx2;have hd2':=Lib.hid hd2;have hF2':=Lib.hid hF2;have hs2:=hF2.size;rw [hsz0'.out] at hs2;clear hx2 hd2 hF2)
          | (go_at_call 71;refine (dput_any hd2'.out pu hb2.out (by omega)).mono ?_;rintro e w3 ⟨rfl,hd3,hF3⟩;have hx3:=hF3.cells hx2'.out (fun e=>by rcases e with e | e;(have:=hSlt.out _ e;omega);(have:=e.1;rw [hsz0'.out] at this;omega));have q3:=cell_of_row w3 wr.heap.size 1 _ _ _ hx3;simp at q3;have hd3':=Lib.hid hd3;have hF3':=Lib.hid hF3;have hs3:=hF3.size;clear hx3 hd3 hF3)
          | (go_at_call 70;refine (ddrop_any hd3'.out dr hb3.out).mono ?_;rintro e w4 ⟨rfl,hd4,hF4⟩;have hd4':=Lib.hid hd4;have hF4':=Lib.hid hF4;have hs4:=hF4.size;clear hd4 hF4))
        go_roundw
        case rel =>
          have hd5:=hd4'.out
          rw [← htk.out] at hd5
          refine ⟨q + 1,_,by omega,by go_num,hd5,?_⟩
          · have e1:Below w.heap.size w (wr.alloc (.cells #[.int .i64 (kp:Int),.int .i64 (dr:Int),.string ⟨pu.toArray⟩] 60)):=hbel'.out.alloc hbs _
            have e2:=e1.trans (hF2'.out.below (B:=w.heap.size) (fun k hk=>(hSlt.out k hk).1) (by rw [hsz0'.out];omega))
            have e3:=e2.trans (hF3'.out.below (B:=w.heap.size) (fun k hk=>(hd2'.out.lt k hk).1) (by omega))
            exact e3.trans (hF4'.out.below (B:=w.heap.size) (fun k hk=>(hd3'.out.lt k hk).1) (by omega))
        case measure=>simp [intOf];omega
    · have hqn:q = n:=by omega
      have h1I:¬ (q:Int) < (n:Int):=by omega
      have hd':=Lib.hid (show Drf wr S w.heap.size w.heap.size (prim l) by rw [hqn,← hlen.out,List.take_length] at hd;exact hd)
      have hbel':=Lib.hid hbel
      have hbs:=hbel.size
      have htb:=Lib.hid (show totP (prim l)≤1000000 by rw [totP_prim];omega)
      clear hd hbel hqn h1
      go_wp2_with (go_at_call 140;refine (dpieces_any hd'.out htb.out hbs).mono ?_;rintro e w2 ⟨v,rfl,hv,hs,hF⟩;obtain ⟨A1,n1,k1,rfl,-,-,-,-,-⟩:=hv.shape (by rw [prim_norm];exact hlow.out);have hv':=Lib.hid hv;have hF':=Lib.hid hF;clear hv hs hF)
      go_ret
      refine ⟨_,rfl,by rw [← prim_norm];exact hv'.out,hbel'.out.trans (hF'.out.below (B:=w.heap.size) (fun k hk=>(hd'.out.lt k hk).1) hbs)⟩
end Go.Proofs.Ytidimannfemnmaa.P5
namespace Go.Proofs.Ytidimannfemnmaa.P5
open Go.RowKit
set_option maxRecDepth 20000
open Ltx (Pc)

theorem PcsIn.pc {w:World} {A:Option Addr} {n q:Nat} {l:List Pc} (h:PcsIn w A n (l.map ipc)) (hq:q < n):∃ ad p,A = some ad∧l[q]? = some p∧ad.block < w.heap.size∧PieceAt w (ad.add (q * 3)) (ipc p):=by
  obtain ⟨ad,x,e,hx,hl,hp⟩:=h.at_ hq
  rw [List.getElem?_map] at hx
  cases hpq:l[q]? with
  | none=>rw [hpq] at hx;cases hx
  | some p =>
    rw [hpq] at hx
    injection hx with hx
    subst hx
    exact ⟨ad,p,e,rfl,hl,hp⟩
end Go.Proofs.Ytidimannfemnmaa.P5
namespace Go.Proofs.Ytidimannfemnmaa.P5
open Go.RowKit
set_option maxRecDepth 20000
open Ltx (Pc)

def faultV (m:Nat) (xs:List IP) (l:List Pc):Nat:=if rightV xs = false then 2 else if m < Ltx.extent l then 50 else 0
end Go.Proofs.Ytidimannfemnmaa.P5
namespace Go.Proofs.Ytidimannfemnmaa.P5
open Go.RowKit
set_option maxRecDepth 20000

structure Bld (w:World) (S:Nat→Prop) (base b:Nat) (bs:List UInt8):Prop where
  own:∀ k,S k→base≤k∧k < w.heap.size
  here:S b
  dat:∃ (p v:Value),(p = .pointer none∨p = .pointer (some ⟨b,0,none⟩))∧w.heap[b]? = some (.cells #[p,v] 116 (0,0))∧OwnB base w v bs∧∀ k,v.ownBlock = some k→S k
end Go.Proofs.Ytidimannfemnmaa.P5
namespace Go.Proofs.Ytidimannfemnmaa.Top
open Go.RowKit
set_option maxRecDepth 20000

def Nw (T:Nat→Prop) (w w':World) (k:Nat):Prop:=T k∨(w.heap.size≤k∧k < w'.heap.size)
def AtAns (T:Nat→Prop) (w:World) (t:Nd) (p:List Int) (e:Ending) (w':World):Prop :=
  ∃ aA an ac kA kn kc,e = .returned (.tuple #[.agg (val6 ((atV t p).getD Nd.zero) aA an ac kA kn kc),.bool (atV t p).isSome])∧NodeV (Nw T w w') w' aA an ac kA kn kc ((atV t p).getD Nd.zero)∧Below w.heap.size w w'
end Go.Proofs.Ytidimannfemnmaa.Top
namespace Go.Proofs.Ytidimannfemnmaa.Top
open Go.RowKit
set_option maxRecDepth 20000

theorem three_new (w:World) (o1 o2 o3:Obj):((((w.alloc o1).alloc o2).alloc o3).heap[w.heap.size]? = some o1)∧((((w.alloc o1).alloc o2).alloc o3).heap[w.heap.size + 1]? = some o2)∧((((w.alloc o1).alloc o2).alloc o3).heap[w.heap.size + 1 + 1]? = some o3)∧Below w.heap.size w (((w.alloc o1).alloc o2).alloc o3)∧(((w.alloc o1).alloc o2).alloc o3).heap.size = w.heap.size + 1 + 1 + 1:=by
  have h1:=heap_alloc_new w o1
  have h2:=heap_alloc_new (w.alloc o1) o2
  have h3:=heap_alloc_new ((w.alloc o1).alloc o2) o3
  rw [World.size_alloc] at h2
  rw [World.size_alloc,World.size_alloc] at h3
  exact ⟨(Go.heap_alloc_old _ _ (by simp <;> omega)).trans ((Go.heap_alloc_old _ _ (by simp)).trans h1),(Go.heap_alloc_old _ _ (by simp)).trans h2,h3,(((Below.refl _ _).alloc (Nat.le_refl _) _).alloc (by simp) _).alloc (by simp <;> omega) _,by simp⟩
end Go.Proofs.Ytidimannfemnmaa.Top
namespace Go.Proofs.Ytidimannfemnmaa.P5
open Ltx (Pc)

inductive St where
  | keep (n:Nat)
  | put (t:List UInt8)
  | drop (n:Nat)
def St.size:St→Nat
  | .keep n=>n
  | .put t=>t.length
  | .drop n=>n
def St.pc:St→Pc
  | .keep n=>⟨n,0,[]⟩
  | .put t=>⟨0,0,t⟩
  | .drop n=>⟨0,n,[]⟩
def St.cut:St→Nat→St
  | .keep n,m=>.keep (n - m)
  | .put t,m=>.put (t.drop m)
  | .drop n,m=>.drop (n - m)
theorem St.cut_size (s:St) (m:Nat):(s.cut m).size = s.size - m:=by cases s <;> simp [St.cut,St.size]
def trim:List St→List St
  | []=>[]
  | s :: r=>if s.size = 0 then trim r else s :: r
def cutS:List St→Nat→List St
  | [],_=>[]
  | s :: r,m=>trim (s.cut m :: r)
def rowS (l:List Pc):List St:=l.flatMap fun p=>[.keep p.keep,.put p.put,.drop p.drop]
def pcs (l:List St):List Pc:=l.map St.pc
theorem pcs_row (l:List Pc):pcs (rowS l) = prim l:=by
  unfold pcs rowS prim
  induction l with
  | nil=>rfl
  | cons p r ih=>rw [List.flatMap_cons,List.flatMap_cons,List.map_append,ih];rfl

theorem pa_keep (n:Nat) (r:List Pc) (j:Nat):Ltx.putAt (⟨n,0,[]⟩ :: r) j = if j < n then [] else Ltx.putAt r (j - n):=by
  rw [Ltx.putAt]
  dsimp only
  by_cases h:j < n
  · rw [if_pos h,if_pos h]
  · rw [if_neg h,if_neg h]
    by_cases h2:j = n
    · rw [if_pos h2,h2];simp
    · rw [if_neg h2,if_neg (by omega)];simp
theorem pa_drop (n:Nat) (r:List Pc) (j:Nat):Ltx.putAt (⟨0,n,[]⟩ :: r) j = if j < n then [] else Ltx.putAt r (j - n):=by
  rw [Ltx.putAt]
  dsimp only
  rw [if_neg (by omega)]
  by_cases h2:j = 0
  · rw [if_pos h2,h2]
    by_cases h3:n = 0
    · rw [if_pos h3,if_neg (by omega),h3];rfl
    · rw [if_neg h3,if_pos (by omega)];rfl
  · rw [if_neg h2]
    by_cases h:j < n
    · rw [if_pos (by omega),if_pos h]
    · rw [if_neg (by omega),if_neg h,Nat.zero_add]
theorem pa_put (t:List UInt8) (r:List Pc) (j:Nat):Ltx.putAt (⟨0,0,t⟩ :: r) j = if j = 0 then t ++ Ltx.putAt r 0 else Ltx.putAt r j:=by
  rw [Ltx.putAt]
  dsimp only
  rw [if_neg (by omega)]
  by_cases h2:j = 0
  · rw [if_pos h2,if_pos h2,if_pos rfl]
  · rw [if_neg h2,if_neg h2,if_neg (by omega)];simp
theorem da_keep (n:Nat) (r:List Pc) (j:Nat):Ltx.dropAt (⟨n,0,[]⟩ :: r) j = if j < n then false else Ltx.dropAt r (j - n):=by
  rw [Ltx.dropAt]
  dsimp only
  by_cases h:j < n
  · rw [if_pos h,if_pos h]
  · rw [if_neg h,if_neg h,if_neg (by omega)];simp
theorem da_drop (n:Nat) (r:List Pc) (j:Nat):Ltx.dropAt (⟨0,n,[]⟩ :: r) j = if j < n then true else Ltx.dropAt r (j - n):=by
  rw [Ltx.dropAt]
  dsimp only
  rw [if_neg (by omega),Nat.zero_add]
theorem da_put (t:List UInt8) (r:List Pc) (j:Nat):Ltx.dropAt (⟨0,0,t⟩ :: r) j = Ltx.dropAt r j:=by
  rw [Ltx.dropAt]
  dsimp only
  rw [if_neg (by omega),if_neg (by omega)]
  simp
structure Look (l m:List Pc):Prop where
  pu:∀ j,Ltx.putAt l j = Ltx.putAt m j
  dr:∀ j,Ltx.dropAt l j = Ltx.dropAt m j
  ex:Ltx.extent l = Ltx.extent m
theorem Look.refl (l:List Pc):Look l l:=⟨fun _=>rfl,fun _=>rfl,rfl⟩
theorem Look.trans {l m k:List Pc} (h:Look l m) (h2:Look m k):Look l k:=⟨fun j=>(h.pu j).trans (h2.pu j),fun j=>(h.dr j).trans (h2.dr j),h.ex.trans h2.ex⟩
theorem Look.symm {l m:List Pc} (h:Look l m):Look m l:=⟨fun j=>(h.pu j).symm,fun j=>(h.dr j).symm,h.ex.symm⟩
theorem look_zero (s:St) (r:List Pc) (h:s.size = 0):Look (s.pc :: r) r:=by
  cases s with
  | keep n =>
    have hn:n = 0:=h
    subst hn
    exact ⟨fun j=>by rw [St.pc,pa_keep,if_neg (by omega)];rfl,fun j=>by rw [St.pc,da_keep,if_neg (by omega)];rfl,by simp [St.pc,Ltx.extent]⟩
  | put t =>
    have ht:t = []:=List.eq_nil_of_length_eq_zero h
    subst ht
    refine ⟨fun j=>?_,fun j=>by rw [St.pc,da_put],by simp [St.pc,Ltx.extent]⟩
    rw [St.pc,pa_put]
    split
    · rename_i e;subst e;rfl
    · rfl
  | drop n =>
    have hn:n = 0:=h
    subst hn
    exact ⟨fun j=>by rw [St.pc,pa_drop,if_neg (by omega)];rfl,fun j=>by rw [St.pc,da_drop,if_neg (by omega)];rfl,by simp [St.pc,Ltx.extent]⟩
theorem look_trim:∀ l:List St,Look (pcs (trim l)) (pcs l)
  | []=>Look.refl _
  | s :: r=>by
    unfold trim
    split
    · rename_i h
      exact (look_trim r).trans (look_zero s (pcs r) h).symm
    · exact Look.refl _
theorem look_prim (l:List Pc):Look (prim l) l:=by
  have key:∀ l:List Pc,(∀ j,Ltx.putAt (prim l) j = Ltx.putAt l j)∧(∀ j,Ltx.dropAt (prim l) j = Ltx.dropAt l j)∧Ltx.extent (prim l) = Ltx.extent l:=by
    intro l
    induction l with
    | nil=>exact ⟨fun _=>rfl,fun _=>rfl,rfl⟩
    | cons p r ih =>
      obtain ⟨h1,h2,h3⟩:=ih
      have e:prim (p :: r) = ⟨p.keep,0,[]⟩ :: ⟨0,0,p.put⟩ :: ⟨0,p.drop,[]⟩ :: prim r:=rfl
      rw [e]
      refine ⟨fun j=>?_,fun j=>?_,?_⟩
      · rw [pa_keep,pa_put,pa_drop,pa_drop,Ltx.putAt,h1,h1]
        by_cases a:j < p.keep
        · rw [if_pos a,if_pos a]
        · rw [if_neg a,if_neg a]
          by_cases b:j = p.keep
          · rw [if_pos b,if_pos (by omega)]
            by_cases c:p.drop = 0
            · rw [if_pos c,if_neg (by omega),c]
            · rw [if_neg c,if_pos (by omega)]
          · rw [if_neg b,if_neg (by omega)]
            by_cases c:j < p.keep + p.drop
            · rw [if_pos c,if_pos (by omega)]
            · rw [if_neg c,if_neg (by omega)]
              congr 1
              omega
      · rw [da_keep,da_put,da_drop,Ltx.dropAt,h2]
        by_cases a:j < p.keep
        · rw [if_pos a,if_pos a]
        · rw [if_neg a,if_neg a]
          by_cases c:j < p.keep + p.drop
          · rw [if_pos c,if_pos (by omega)]
          · rw [if_neg c,if_neg (by omega)]
            congr 1
            omega
      · simp [Ltx.extent,h3]
        omega
  exact ⟨(key l).1,(key l).2.1,(key l).2.2⟩
end Go.Proofs.Ytidimannfemnmaa.P5
namespace Go.Proofs.Ytidimannfemnmaa.P5
open Ltx (Pc)

section
variable {pa pb pa' pb':Nat→List UInt8} {da db da' db':Nat→Bool} {first:Bool}
theorem behind_congr:∀ (k i i':Nat),(∀ j,pa (i + j) = pa' (i' + j))→(∀ j,pb (i + j) = pb' (i' + j))→(∀ j,da (i + j) = da' (i' + j))→(∀ j,db (i + j) = db' (i' + j)) →
    Ltx.behind pa pb da db first k i = Ltx.behind pa' pb' da' db' first k i'
  | 0,i,i',h1,h2,_,_=>by
    have a:=h1 0
    have b:=h2 0
    rw [Nat.add_zero,Nat.add_zero] at a b
    unfold Ltx.behind Ltx.ends
    rw [a,b]
  | k + 1,i,i',h1,h2,h3,h4=>by
    have a:=h1 0
    have b:=h2 0
    have c:=h3 0
    have d:=h4 0
    rw [Nat.add_zero,Nat.add_zero] at a b c d
    have ih:=behind_congr k (i + 1) (i' + 1) (fun j=>by have:=h1 (1 + j);rwa [← Nat.add_assoc,← Nat.add_assoc] at this) (fun j=>by have:=h2 (1 + j);rwa [← Nat.add_assoc,← Nat.add_assoc] at this)
      (fun j=>by have:=h3 (1 + j);rwa [← Nat.add_assoc,← Nat.add_assoc] at this) (fun j=>by have:=h4 (1 + j);rwa [← Nat.add_assoc,← Nat.add_assoc] at this)
    rw [Ltx.behind,Ltx.behind,ih]
    unfold Ltx.ends Ltx.mid
    rw [a,b,c,d]
def run (A B:Bool) (m:Nat):List Pc:=if B then [] else if A then [⟨0,m,[]⟩] else [⟨m,0,[]⟩]
theorem run_zero (A B:Bool):Eqv (run A B 0) []:=by
  unfold run
  cases A <;> cases B <;> first | exact Eqv.refl _ | exact eqv_nil
theorem run_succ (A B:Bool) (m:Nat):Eqv (run A B 1 ++ run A B m) (run A B (m + 1)):=by
  unfold run
  cases B with
  | true=>exact Eqv.refl _
  | false =>
    cases A with
    | true =>
      have:=eqv_one (k:=0) (d:=1) (t:=[]) (k':=0) (d':=m) (t':=[]) rfl
      rw [Nat.add_comm 1 m] at this
      exact this
    | false =>
      have:=eqv_keep (k:=1) (k':=m) (d:=0) (t:=[])
      rw [Nat.add_comm 1 m] at this
      exact this
theorem ends_idle {i:Nat} (h1:pa i = []) (h2:pb i = []):Eqv (Ltx.ends pa pb first i) []:=by
  unfold Ltx.ends
  rw [h1,h2]
  have e:Eqv [(⟨0,0,[]⟩:Pc),⟨0,0,[]⟩] []:=by
    have:=eqv_nil.app eqv_nil
    exact this
  cases first <;> exact e
theorem behind_run {A B:Bool}:∀ (m k i:Nat),(∀ j,j < m→pa (i + j) = []∧pb (i + j) = []∧da (i + j) = A∧db (i + j) = B) →
    Eqv (Ltx.behind pa pb da db first (m + k) i) (run A B m ++ Ltx.behind pa pb da db first k (i + m))
  | 0,k,i,_=>by
    rw [Nat.zero_add,Nat.add_zero]
    have:=(run_zero A B).symm.app (Eqv.refl (Ltx.behind pa pb da db first k i))
    exact this
  | m + 1,k,i,h=>by
    have h0:=h 0 (by omega)
    rw [Nat.add_zero] at h0
    have ih:=behind_run m k (i + 1) fun j hj=>by
      have:=h (j + 1) (by omega)
      rw [show i + 1 + j = i + (j + 1) by omega]
      exact this
    rw [show m + 1 + k = (m + k) + 1 by omega,Ltx.behind]
    have hm:Ltx.mid da db i = run A B 1:=by unfold Ltx.mid run;rw [h0.2.2.1,h0.2.2.2]
    rw [hm,show i + (m + 1) = i + 1 + m by omega]
    have e1:Eqv (Ltx.ends pa pb first i ++ run A B 1 ++ Ltx.behind pa pb da db first (m + k) (i + 1)) ([] ++ run A B 1 ++ (run A B m ++ Ltx.behind pa pb da db first k (i + 1 + m))):=((ends_idle h0.1 h0.2.1).app (Eqv.refl _)).app ih
    refine e1.trans ?_
    rw [List.nil_append,← List.append_assoc]
    exact (run_succ A B m).app (Eqv.refl _)
theorem behind_first {X:List Pc} (k:Nat) (h0:Eqv (Ltx.ends pa pb first 0) (X ++ Ltx.ends pa' pb' first 0)) (h1:∀ j,pa (j + 1) = pa' (j + 1)) (h2:∀ j,pb (j + 1) = pb' (j + 1)) (h3:∀ j,da j = da' j) (h4:∀ j,db j = db' j) :
    Eqv (Ltx.behind pa pb da db first k 0) (X ++ Ltx.behind pa' pb' da' db' first k 0):=by
  cases k with
  | zero=>exact h0
  | succ k =>
    have e:Ltx.behind pa pb da db first k (0 + 1) = Ltx.behind pa' pb' da' db' first k (0 + 1):=behind_congr k (0 + 1) (0 + 1) (fun j=>by rw [show 0 + 1 + j = j + 1 by omega];exact h1 j) (fun j=>by rw [show 0 + 1 + j = j + 1 by omega];exact h2 j) (fun j=>h3 _) (fun j=>h4 _)
    rw [Ltx.behind,Ltx.behind,e,← List.append_assoc,← List.append_assoc]
    have hm:Ltx.mid da db 0 = Ltx.mid da' db' 0:=by unfold Ltx.mid;rw [h3,h4]
    rw [hm]
    exact (h0.app (Eqv.refl _)).app (Eqv.refl _)
end
def docB (first:Bool) (a b:List Pc):List Pc:=Ltx.behind (Ltx.putAt a) (Ltx.putAt b) (Ltx.dropAt a) (Ltx.dropAt b) first (max (Ltx.extent a) (Ltx.extent b)) 0
theorem docB_look {first:Bool} {a b a' b':List Pc} (h1:Look a a') (h2:Look b b'):docB first a b = docB first a' b':=by
  unfold docB
  rw [h1.ex,h2.ex]
  exact behind_congr _ 0 0 (fun j=>h1.pu _) (fun j=>h2.pu _) (fun j=>h1.dr _) (fun j=>h2.dr _)
theorem docB_nil (first:Bool):Eqv (docB first [] []) []:=by
  unfold docB
  exact ends_idle rfl rfl
theorem meet_put {first:Bool} {t:List UInt8} {r b:List Pc} (h:first = true∨Ltx.putAt b 0 = []) :
    Eqv (docB first (⟨0,0,t⟩ :: r) b) ([⟨0,0,t⟩] ++ docB first r b)∧Eqv (docB (!first) b (⟨0,0,t⟩ :: r)) ([⟨t.length,0,[]⟩] ++ docB (!first) b r):=by
  have hex:Ltx.extent (⟨0,0,t⟩ :: r) = Ltx.extent r:=by simp [Ltx.extent]
  have hp0:Ltx.putAt (⟨0,0,t⟩ :: r) 0 = t ++ Ltx.putAt r 0:=by rw [pa_put,if_pos rfl]
  have hp1:∀ j,Ltx.putAt (⟨0,0,t⟩ :: r) (j + 1) = Ltx.putAt r (j + 1):=fun j=>by rw [pa_put,if_neg (by omega)]
  have hd:∀ j,Ltx.dropAt (⟨0,0,t⟩ :: r) j = Ltx.dropAt r j:=fun j=>da_put t r j
  have e1:∀ u:List UInt8,Eqv [(⟨0,0,t ++ u⟩:Pc)] [⟨0,0,t⟩,⟨0,0,u⟩]:=fun u=>by
    have:=(eqv_one (k:=0) (d:=0) (t:=t) (k':=0) (d':=0) (t':=u) rfl).symm
    exact this
  have e2:∀ u:List UInt8,Eqv [(⟨(t ++ u).length,0,[]⟩:Pc)] [⟨t.length,0,[]⟩,⟨u.length,0,[]⟩]:=fun u=>by
    rw [List.length_append]
    exact eqv_keep.symm
  have e3:Eqv [(⟨0,0,[]⟩:Pc)] []:=eqv_nil
  unfold docB
  rw [hex,Nat.max_comm (Ltx.extent b)]
  constructor
  · refine behind_first _ ?_ hp1 (fun j=>rfl) hd (fun j=>rfl)
    unfold Ltx.ends
    rw [hp0]
    cases first with
    | true =>
      have:=(e1 (Ltx.putAt r 0)).app (Eqv.refl [(⟨(Ltx.putAt b 0).length,0,[]⟩:Pc)])
      exact this
    | false =>
      have hb:Ltx.putAt b 0 = []:=by simpa using h
      rw [hb]
      have a1:=e3.app (e1 (Ltx.putAt r 0))
      have a2:=(Eqv.refl [(⟨0,0,t⟩:Pc)]).app (e3.symm.app (Eqv.refl [(⟨0,0,Ltx.putAt r 0⟩:Pc)]))
      exact a1.trans a2
  · refine behind_first _ ?_ (fun j=>rfl) hp1 (fun j=>rfl) hd
    unfold Ltx.ends
    rw [hp0]
    cases first with
    | true =>
      have:=(e2 (Ltx.putAt r 0)).app (Eqv.refl [(⟨0,0,Ltx.putAt b 0⟩:Pc)])
      exact this
    | false =>
      have hb:Ltx.putAt b 0 = []:=by simpa using h
      rw [hb]
      have a1:=e3.app (e2 (Ltx.putAt r 0))
      have a2:=(Eqv.refl [(⟨t.length,0,[]⟩:Pc)]).app (e3.symm.app (Eqv.refl [(⟨(Ltx.putAt r 0).length,0,[]⟩:Pc)]))
      exact a1.trans a2
structure Front (l:List Pc) (m:Nat) (X:Bool) (l':List Pc):Prop where
  pu:∀ j,j < m→Ltx.putAt l j = []
  dr:∀ j,j < m→Ltx.dropAt l j = X
  pu':∀ j,Ltx.putAt l (m + j) = Ltx.putAt l' j
  dr':∀ j,Ltx.dropAt l (m + j) = Ltx.dropAt l' j
  ex:Ltx.extent l = m + Ltx.extent l'∨(Ltx.extent l = 0∧Ltx.extent l' = 0)
theorem front_nil (m:Nat):Front [] m false []:=⟨fun _ _=>rfl,fun _ _=>rfl,fun _=>rfl,fun _=>rfl,.inr ⟨rfl,rfl⟩⟩
theorem front_keep {m n:Nat} (r:List Pc) (h:m≤n):Front (⟨n,0,[]⟩ :: r) m false (⟨n - m,0,[]⟩ :: r):=by
  refine ⟨fun j hj=>by rw [pa_keep,if_pos (by omega)],fun j hj=>by rw [da_keep,if_pos (by omega)],fun j=>?_,fun j=>?_,.inl ?_⟩
  · rw [pa_keep,pa_keep]
    by_cases a:j < n - m
    · rw [if_pos a,if_pos (by omega)]
    · rw [if_neg a,if_neg (by omega)];congr 1;omega
  · rw [da_keep,da_keep]
    by_cases a:j < n - m
    · rw [if_pos a,if_pos (by omega)]
    · rw [if_neg a,if_neg (by omega)];congr 1;omega
  · simp only [Ltx.extent];omega
theorem front_drop {m n:Nat} (r:List Pc) (h:m≤n):Front (⟨0,n,[]⟩ :: r) m true (⟨0,n - m,[]⟩ :: r):=by
  refine ⟨fun j hj=>by rw [pa_drop,if_pos (by omega)],fun j hj=>by rw [da_drop,if_pos (by omega)],fun j=>?_,fun j=>?_,.inl ?_⟩
  · rw [pa_drop,pa_drop]
    by_cases a:j < n - m
    · rw [if_pos a,if_pos (by omega)]
    · rw [if_neg a,if_neg (by omega)];congr 1;omega
  · rw [da_drop,da_drop]
    by_cases a:j < n - m
    · rw [if_pos a,if_pos (by omega)]
    · rw [if_neg a,if_neg (by omega)];congr 1;omega
  · simp only [Ltx.extent];omega
theorem Front.look {l m':List Pc} {m:Nat} {X:Bool} {l':List Pc} (h:Front l m X l') (h2:Look l' m'):Front l m X m' :=
  ⟨h.pu,h.dr,fun j=>(h.pu' j).trans (h2.pu j),fun j=>(h.dr' j).trans (h2.dr j),by rw [← h2.ex];exact h.ex⟩
theorem meet_run {first X Y:Bool} {a b a' b':List Pc} {m:Nat} (hm:0 < m) (hx:Front a m X a') (hy:Front b m Y b') (hne:Ltx.extent a ≠ 0∨Ltx.extent b ≠ 0):Eqv (docB first a b) (run X Y m ++ docB first a' b'):=by
  have hmax:max (Ltx.extent a) (Ltx.extent b) = m + max (Ltx.extent a') (Ltx.extent b'):=by
    rcases hx.ex with e | ⟨e1,e2⟩ <;> rcases hy.ex with f | ⟨f1,f2⟩ <;> omega
  unfold docB
  rw [hmax]
  refine (behind_run (A:=X) (B:=Y) m _ 0 fun j hj=>?_).trans ?_
  · rw [Nat.zero_add]
    exact ⟨hx.pu j hj,hy.pu j hj,hx.dr j hj,hy.dr j hj⟩
  · rw [Nat.zero_add]
    refine (Eqv.refl _).app ?_
    rw [behind_congr (pa':=Ltx.putAt a') (pb':=Ltx.putAt b') (da':=Ltx.dropAt a') (db':=Ltx.dropAt b') _ m 0 (fun j=>by rw [Nat.zero_add];exact hx.pu' j) (fun j=>by rw [Nat.zero_add];exact hy.pu' j) (fun j=>by rw [Nat.zero_add];exact hx.dr' j) (fun j=>by rw [Nat.zero_add];exact hy.dr' j)]
    exact Eqv.refl _
end Go.Proofs.Ytidimannfemnmaa.P5
