/- MgAI: LtxC LtxD -/
import Derived.Test.YtidimannfemnmaaLtxA
import Derived.Lib.AppendStr
set_option linter.all false
namespace Go.Proofs.Ytidimannfemnmaa.P5
open Go.RowKit
set_option maxRecDepth 20000
open Ltx (Pc)

def Eqv (l m:List Pc):Prop:=Ltx.keeps l = Ltx.keeps m∧∀ j,Ltx.gap l j = Ltx.gap m j
theorem Eqv.refl (l:List Pc):Eqv l l:=⟨rfl,fun _=>rfl⟩
theorem Eqv.symm {l m:List Pc} (h:Eqv l m):Eqv m l:=⟨h.1.symm,fun j=>(h.2 j).symm⟩
theorem Eqv.trans {l m k:List Pc} (h:Eqv l m) (h2:Eqv m k):Eqv l k:=⟨h.1.trans h2.1,fun j=>(h.2 j).trans (h2.2 j)⟩
theorem Eqv.app {l m l' m':List Pc} (h:Eqv l m) (h2:Eqv l' m'):Eqv (l ++ l') (m ++ m'):=by
  refine ⟨by rw [Ltx.keeps_append,Ltx.keeps_append,h.1,h2.1],fun j=>?_⟩
  rw [Ltx.gap_append,Ltx.gap_append,h.1,h.2 j,h2.2 0,h2.2 (j - Ltx.keeps m)]
theorem gap_one (k d:Nat) (t:List UInt8) (j:Nat):Ltx.gap [⟨k,d,t⟩] j = if j = k then (t,d) else ([],0):=by
  unfold Ltx.gap
  dsimp only
  split
  · rw [if_neg (by omega)]
  · split
    · simp [Ltx.gap]
    · rfl
theorem eqv_one {k d k' d':Nat} {t t':List UInt8} (h:k' = 0):Eqv [⟨k,d,t⟩,⟨k',d',t'⟩] [⟨k,d + d',t ++ t'⟩]:=by
  subst h
  refine ⟨by simp [Ltx.keeps],fun j=>?_⟩
  have hk:Ltx.keeps [(⟨k,d,t⟩:Pc)] = k:=by simp [Ltx.keeps]
  rw [show ([⟨k,d,t⟩,⟨0,d',t'⟩]:List Pc) = [⟨k,d,t⟩] ++ [⟨0,d',t'⟩] from rfl,Ltx.gap_append,hk,gap_one,gap_one,gap_one,gap_one]
  by_cases h1:j < k
  · have h2:¬ j = k:=by omega
    simp [h1,h2]
  · by_cases h2:j = k
    · simp [h2]
    · have h3:¬ j - k = 0:=by omega
      simp [h1,h2,h3]
theorem eqv_keep {k k' d:Nat} {t:List UInt8}:Eqv [⟨k,0,[]⟩,⟨k',d,t⟩] [⟨k + k',d,t⟩]:=by
  refine ⟨by simp [Ltx.keeps],fun j=>?_⟩
  have hk:Ltx.keeps [(⟨k,0,[]⟩:Pc)] = k:=by simp [Ltx.keeps]
  rw [show ([⟨k,0,[]⟩,⟨k',d,t⟩]:List Pc) = [⟨k,0,[]⟩] ++ [⟨k',d,t⟩] from rfl,Ltx.gap_append,hk,gap_one,gap_one,gap_one,gap_one]
  by_cases h1:j < k
  · have h2:¬ j = k:=by omega
    have h3:¬ j = k + k':=by omega
    simp [h1,h2,h3]
  · by_cases h2:j = k
    · subst h2
      by_cases h3:k' = 0
      · subst h3;simp
      · have h4:¬ 0 = k':=fun e=>h3 e.symm
        simp [h3,h4]
    · by_cases h3:j - k = k'
      · have h4:j = k + k':=by omega
        rw [if_neg h1,if_neg h2,if_pos h3,if_pos h4]
      · have h4:¬ j = k + k':=by omega
        rw [if_neg h1,if_neg h2,if_neg h3,if_neg h4]
theorem eqv_nil:Eqv [⟨0,0,[]⟩] []:=⟨rfl,fun j=>by rw [gap_one];split <;> rfl⟩
theorem norm_eqv {l m:List Pc} (h:Eqv l m):Ltx.norm l = Ltx.norm m:=Ltx.norm_ext h.2

structure DV where
  done:List Pc
  kept:Nat
  text:List UInt8
  gone:Nat
def DV.last (d:DV):Pc:=⟨d.kept,d.gone,d.text⟩
structure DV.For (d:DV) (raw:List Pc):Prop where
  eqv:Eqv (d.done ++ [d.last]) raw
  nm:Ltx.Normal d.done
  at_:d.done = []∨d.kept ≠ 0
def DV.fresh:DV:=⟨[],0,[],0⟩
theorem DV.For.fresh:DV.For DV.fresh []:=⟨eqv_nil,trivial,.inl rfl⟩
theorem DV.For.put {d:DV} {raw:List Pc} (h:d.For raw) (t:List UInt8):DV.For { d with text:=d.text ++ t } (raw ++ [⟨0,0,t⟩]):=by
  refine ⟨Eqv.trans ?_ (h.eqv.app (Eqv.refl _)),h.nm,h.at_⟩
  rw [List.append_assoc]
  exact (Eqv.refl _).app (eqv_one rfl).symm
theorem DV.For.drop {d:DV} {raw:List Pc} (h:d.For raw) (n:Nat):DV.For { d with gone:=d.gone + n } (raw ++ [⟨0,n,[]⟩]):=by
  refine ⟨Eqv.trans ?_ (h.eqv.app (Eqv.refl _)),h.nm,h.at_⟩
  rw [List.append_assoc]
  have:=(eqv_one (k:=d.kept) (d:=d.gone) (t:=d.text) (k':=0) (d':=n) (t':=[]) rfl).symm
  rw [List.append_nil] at this
  exact (Eqv.refl _).app this
def DV.fin (d:DV):DV:=if d.text = []∧d.gone = 0 then d else ⟨d.done ++ [d.last],0,[],0⟩
theorem DV.For.keep {d:DV} {raw:List Pc} (h:d.For raw) (n:Nat) (hn:0 < n):DV.For { d.fin with kept:=d.fin.kept + n } (raw ++ [⟨n,0,[]⟩]):=by
  unfold DV.fin
  by_cases hi:d.text = []∧d.gone = 0
  · rw [if_pos hi]
    refine ⟨Eqv.trans ?_ (h.eqv.app (Eqv.refl _)),h.nm,.inr (by show d.kept + n ≠ 0;omega)⟩
    rw [List.append_assoc]
    refine (Eqv.refl _).app ?_
    unfold DV.last
    dsimp only
    rw [hi.1,hi.2]
    exact eqv_keep.symm
  · rw [if_neg hi]
    refine ⟨?_,?_,.inr (by show 0 + n ≠ 0;omega)⟩
    · show Eqv ((d.done ++ [d.last]) ++ [⟨0 + n,0,[]⟩]) _
      rw [Nat.zero_add]
      exact h.eqv.app (Eqv.refl _)
    · show Ltx.Normal (d.done ++ [d.last])
      refine Ltx.normal_snoc h.nm ?_ h.at_
      unfold Ltx.idle DV.last
      cases ht:d.text with
      | nil =>
        have:d.gone ≠ 0:=fun e=>hi ⟨ht,e⟩
        simp [this]
      | cons a b=>simp
theorem DV.For.fin_done {d:DV} {raw:List Pc} (h:d.For raw):d.fin.done = Ltx.norm raw:=by
  rw [← norm_eqv h.eqv]
  unfold DV.fin
  by_cases hi:d.text = []∧d.gone = 0
  · rw [if_pos hi,Ltx.norm_idle (by intro p hp;obtain rfl:=List.mem_singleton.1 hp;unfold Ltx.idle DV.last;rw [hi.1,hi.2];rfl),Ltx.norm_self h.nm]
  · rw [if_neg hi]
    refine (Ltx.norm_self (Ltx.normal_snoc h.nm ?_ h.at_)).symm
    unfold Ltx.idle DV.last
    cases ht:d.text with
    | nil =>
      have:d.gone ≠ 0:=fun e=>hi ⟨ht,e⟩
      simp [this]
    | cons a b=>simp
end Go.Proofs.Ytidimannfemnmaa.P5
namespace Go.Proofs.Ytidimannfemnmaa.P5
open Go.RowKit
set_option maxRecDepth 20000
open Ltx (Pc)

structure FrX (S:Nat→Prop) (w w':World):Prop where
  os:w'.os = w.os
  tape:w'.tape = w.tape
  output:w'.output = w.output
  size:w.heap.size≤w'.heap.size
  block:∀ k,k < w.heap.size→¬ S k→w'.heap[k]? = w.heap[k]?
section
variable {S S':Nat→Prop} {w w' w'':World}
theorem FrX.refl (S:Nat→Prop) (w:World):FrX S w w:=⟨rfl,rfl,rfl,Nat.le_refl _,fun _ _ _=>rfl⟩
theorem FrX.of_below (h:Below w.heap.size w w'):FrX S w w':=⟨h.os,h.tape,h.output,h.size,fun k hk _=>h.block k hk⟩
theorem FrX.trans (h:FrX S w w') (h2:FrX S' w' w'') (hs:∀ k,S' k→S k∨w.heap.size≤k):FrX S w w'' :=
  ⟨h2.os.trans h.os,h2.tape.trans h.tape,h2.output.trans h.output,Nat.le_trans h.size h2.size,fun k hk hn=>(h2.block k (Nat.lt_of_lt_of_le hk h.size) (fun e=>by rcases hs k e with e | e;exact hn e;omega)).trans (h.block k hk hn)⟩
theorem FrX.mono (h:FrX S w w') (hs:∀ k,k < w.heap.size→S k→S' k):FrX S' w w':=⟨h.os,h.tape,h.output,h.size,fun k hk hn=>h.block k hk (fun e=>hn (hs k hk e))⟩
theorem FrX.below {B:Nat} (h:FrX S w w') (hB:∀ k,S k→B≤k) (hb:B≤w.heap.size):Below B w w':=⟨h.os,h.tape,h.output,h.size,fun k hk=>h.block k (by omega) (fun e=>by have:=hB k e;omega)⟩
theorem FrX.setCell {g i:Nat} {v:Value} (h:FrX S w w') (hg:S g):FrX S w (w'.setCell ⟨g,i,none⟩ v) :=
  ⟨h.os,h.tape,h.output,by have:=h.size;simpa using this,fun k hk hn=>(heap_setCell_other w' ⟨g,i,none⟩ k v (fun e=>hn (e ▸ hg))).trans (h.block k hk hn)⟩
theorem FrX.alloc (h:FrX S w w') (o:Obj):FrX S w (w'.alloc o) :=
  ⟨h.os,h.tape,h.output,by have:=h.size;simp;omega,fun k hk hn=>(Go.heap_alloc_old w' _ (Nat.lt_of_lt_of_le hk h.size)).trans (h.block k hk hn)⟩
theorem FrX.of_grown {row:Option Nat} (h:w.grownBy w' row) (hs:∀ k,row = some k→S k):FrX S w w' :=
  ⟨h.os,h.tape,h.output,h.size,fun k hk hn=>h.block k hk (fun e=>hn (hs k e.symm))⟩
theorem FrX.drew (h:FrX S w w') (n:Nat):FrX S w (w'.drewN n):=⟨h.os,h.tape,h.output,h.size,h.block⟩
end
theorem own_kept {w w':World} {base:Nat} {e:TypeId} {size:Nat} {v:Value} {n:Nat} {xs:List Value} (h:w.ownsRow base e size v n xs) (hk:∀ k,v.ownBlock = some k→w'.heap[k]? = w.heap[k]?):w'.ownsRow base e size v n xs:=by
  refine ⟨h.1,?_⟩
  rcases h.2 with h0 | ⟨g,cap,cur,rfl,hb,hg,rest⟩
  · exact .inl h0
  · exact .inr ⟨g,cap,cur,rfl,hb,(hk g rfl).trans hg,rest⟩
theorem own_typed {w:World} {base:Nat} {e:TypeId} {size:Nat} {v:Value} {n:Nat} {xs:List Value} (h:w.ownsRow base e size v n xs):∀ k,v.ownBlock = some k→∃ cs fr,w.heap[k]? = some (.cells cs e fr):=by
  intro k hk
  rcases h.2 with ⟨rfl,_⟩ | ⟨g,cap,cur,rfl,_,hg,_⟩
  · cases hk
  · have:g = k:=by simpa [Value.ownBlock] using hk
    subst this
    exact ⟨cur,(0,0),hg⟩
theorem own_ne {w:World} {base p:Nat} {e t:TypeId} {size n:Nat} {v:Value} {xs:List Value} {cs:Array Value} {fr:Nat × Nat} (h:w.ownsRow base e size v n xs) (hp:w.heap[p]? = some (.cells cs t fr)) (hne:e ≠ t):v.ownBlock ≠ some p:=by
  intro hk
  obtain ⟨cs',fr',hh⟩:=own_typed h p hk
  rw [hp] at hh
  injection hh with hh
  injection hh with _ h2 _
  exact hne h2.symm
theorem own_apart {w:World} {b1 b2 s1 s2:Nat} {e t:TypeId} {v x:Value} {n m:Nat} {xs ys:List Value} (h1:w.ownsRow b1 e s1 v n xs) (h2:w.ownsRow b2 t s2 x m ys) (hne:e ≠ t) {k:Nat} (hv:v.ownBlock = some k):x.ownBlock ≠ some k:=by
  obtain ⟨cs,fr,hh⟩:=own_typed h1 k hv
  exact own_ne h2 hh (fun e2=>hne e2.symm)

theorem run_append_str {P:Program} (w:World) (base:Nat) (t u ty e:TypeId) (i:TypeInfo) (ht:P.underlying t = some (.slice e)) (hu:P.underlying u = some .string) (hi:P.info? e = some i) (hz:i.zero = some (.int .u8 0))
    (hsize:i.size = 1) (hby:i.bytes = 1)
    (v:Value) (n:Nat) (xs:List Value) (hown:w.ownsRow base e 1 v n xs) (s:ByteArray)
    (h63:n + s.size≤maxLen) (hbytes:n + s.size≤140737488355328) (hbase:base≤w.heap.size) :
    ∃ v' w',(Builtin.append_ #[t,u] ty #[v,.string s]).run P w = .ok v' w'∧w'.ownsRow base e 1 v' (n + s.size) (xs ++ Lib.strCells s)∧w.grownBy w' v.ownBlock∧(v'.ownBlock = v.ownBlock∨v'.ownBlock = some w.heap.size):=by
  obtain ⟨v',w',hr,h2,h3,h4⟩:=Lib.run_append_own_string (P:=P) w base t u ty e i ht hu hi hz hsize hby v n xs hown s h63 hbytes hbase
  refine ⟨v',w',hr,h2,h3,?_⟩
  unfold maxLen at h63
  rcases hown.2 with ⟨rfl,rfl⟩ | ⟨g,cap,cur,rfl,hbg,hg,hnc,hcm,hcs,htake⟩
  · by_cases hm:s.size = 0
    · rw [h4.2 ⟨rfl,hm⟩]
      exact .inl rfl
    · have hr2:=run_append_nil_string (P:=P) w t u ty e i (.int .u8 0) ht hu hi hz s (by omega) (by omega) (by rw [hby];omega)
      rw [hr] at hr2
      injection hr2 with e1 _
      rw [e1]
      exact .inr rfl
  · have hcs':cur.size = cap:=by simpa using hcs
    by_cases hroom:n + s.size≤cap
    · have hr2:=Lib.run_append_room_string (P:=P) w t u ty e i ht hu hi hsize g n cap cur hg s hroom (by omega)
      rw [hr] at hr2
      injection hr2 with e1 _
      rw [e1]
      exact .inl rfl
    · have holds:∀ j u,xs[j]? = some u→w.cell? ((⟨g,0,none⟩:Addr).add j) = some u:=hown.cells (g:=g) rfl
      have hr2:=Lib.run_append_grow_string (P:=P) w t u ty e i (.int .u8 0) ht hu hi hz ⟨g,0,none⟩ n cap xs (by rw [hsize];exact hown.1) holds s (by omega) (by omega) (by rw [hby];exact growslice_fits (by omega) (by omega))
      rw [hr] at hr2
      injection hr2 with e1 _
      rw [e1]
      exact .inr rfl
theorem wpList_append_text {w:World} {ops:Array Oper} {rest:List Oper} {o:Oper} {a:Act} {Q:Exit→Act→World→Prop} (hgd:o.guard = none) (sl x:Operand)
    (ho:o.op = .call { callee:=.builtin .append,args:=#[sl,x],argTypes:=#[41,9] })
    (base:Nat) (v:Value) (bs t:List UInt8) (hs:a.eval sl = v) (hown:OwnB base w v bs) (hx:a.eval x = .string ⟨t.toArray⟩)
    (hlen:bs.length + t.length≤100000000) (hbase:base≤w.heap.size)
    (h:∀ v' w',OwnB base w' v' (bs ++ t)→w.grownBy w' v.ownBlock→(v'.ownBlock = v.ownBlock∨v'.ownBlock = some w.heap.size)→wpList Try.prog ops Q rest (a.put o.dst v') w'):wpList Try.prog ops Q (o :: rest) a w:=by
  obtain ⟨i0,hi,hz0,hz1,hz2⟩:=info_parts Try.info5
  have hsz:(⟨t.toArray⟩:ByteArray).size = t.length:=rfl
  refine wpList_plain hgd fun K hK=>?_
  obtain ⟨v',w',hr,h2,h3,h4⟩:=run_append_str (P:=Try.prog) w base 41 9 o.type 5 i0 Try.underlying41 Try.underlying9 hi hz0 hz1 hz2 v bs.length (bs.map byteV) hown ⟨t.toArray⟩ (by rw [hsz];unfold maxLen;omega) (by rw [hsz];omega) hbase
  unfold Oper.wp execOp
  simp only [ho,resolve,invoke,builtin,Sem.run_bind,Sem.run_pure,Result.andThen_ok,List.map_toArray,List.map_cons,List.map_nil,hs,hx,hr]
  refine hK _ _ (h v' w' ?_ h3 h4)
  unfold OwnB
  rw [List.length_append,List.map_append]
  exact h2

structure DraftAt (w:World) (S:Nat→Prop) (base p:Nat) (d:DV):Prop where
  own:∀ k,S k→base≤k∧k < w.heap.size
  here:S p
  dat:∃ (v1 v2:Value),w.heap[p]? = some (.cells #[v1,.int .i64 (d.kept:Int),v2,.int .i64 (d.gone:Int)] 95 (0,0))∧OwnP base w v1 d.done∧OwnB base w v2 d.text∧(∀ k,v1.ownBlock = some k→S k)∧∀ k,v2.ownBlock = some k→S k
theorem DraftAt.kept {w w':World} {S:Nat→Prop} {base p:Nat} {d:DV} (h:DraftAt w S base p d) (hs:w.heap.size≤w'.heap.size) (hk:∀ k,S k→w'.heap[k]? = w.heap[k]?):DraftAt w' S base p d:=by
  obtain ⟨h1,h2,v1,v2,hp,hd,ht,s1,s2⟩:=h
  exact ⟨fun k hS=>⟨(h1 k hS).1,Nat.lt_of_lt_of_le (h1 k hS).2 hs⟩,h2,v1,v2,(hk p h2).trans hp,own_kept hd fun k hk'=>hk k (s1 k hk'),own_kept ht fun k hk'=>hk k (s2 k hk'),s1,s2⟩
def Also (S:Nat→Prop) (w w':World) (k:Nat):Prop:=S k∨(w.heap.size≤k∧k < w'.heap.size)
set_option maxHeartbeats 1000000 in
theorem put_any (w:World) (S:Nat→Prop) (base p:Nat) (d:DV) (t:List UInt8) (h:DraftAt w S base p d) (hlen:d.text.length + t.length≤100000000) (hbase:base≤w.heap.size) :
    Calls Try.prog 71 #[.pointer (some ⟨p,0,none⟩),.string ⟨t.toArray⟩] w fun e w'=>e = .returned (.tuple #[])∧DraftAt w' (Also S w w') base p { d with text:=d.text ++ t }∧FrX S w w':=by
  obtain ⟨h1,h2,v1,v2,hp,hd,ht,s1,s2⟩:=h
  have hplt:=(h1 p h2).2
  obtain ⟨A,n,c,rfl,hn,hnc,hcm,_,_⟩:=ht.shape_n (by unfold maxLen;omega)
  have c2:=cell_of_row w p 2 _ _ _ hp
  simp at c2
  have hp':=Lib.hid hp
  have hd':=Lib.hid hd
  have ht':=Lib.hid ht
  have hn':=Lib.hid hn
  clear hp hd ht hn
  go_enter Try.func71,Try.ntmps71
  go_wp2_with (at_builtin;refine wpList_append_text rfl (.tmp 8) (.tmp 9) rfl base _ d.text t rfl ht'.out rfl hlen hbase ?_;intro v' w' ho hg hat;obtain ⟨A',n',c',rfl,hn2,_,_,_,_⟩:=ho.shape_n (by rw [List.length_append];unfold maxLen;omega);have hn2':=Lib.hid hn2;clear hn2;have ho':=Lib.hid ho;have hg':=Lib.hid hg;have hat':=Lib.hid hat;have hq:=(hg.block p hplt (fun e=>own_ne ht'.out hp'.out (by decide) e.symm)).trans hp'.out;have c2':=cell_of_row w' p 2 _ _ _ hq;have f2':=frozen_of_row w' p 2 _ _ hq;simp at c2';have hq':=Lib.hid hq;clear ho hg hat hq)
  go_end0
  have hF:FrX S w w':=FrX.of_grown hg'.out s2
  have hlt:=hF.size
  have hset:=heap_setCell_same w' p 2 _ _ (.slice A' n' c') hq'.out
  have hot:∀ k,k ≠ p→(w'.setCell ⟨p,2,none⟩ (.slice A' n' c')).heap[k]? = w'.heap[k]?:=fun k hk=>heap_setCell_other w' ⟨p,2,none⟩ k _ hk
  have hd2:OwnP base w' v1 d.done:=World.ownsRow.kept hd'.out hg'.out (by
    cases hv:v1.ownBlock with
    | none=>exact .inl rfl
    | some k=>exact .inr fun e=>own_apart hd'.out ht'.out (by decide) hv e.symm)
  refine ⟨rfl,⟨fun k hk=>?_,.inl h2,v1,_,hset,own_kept hd2 fun k hk=>hot k (fun e=>own_ne hd'.out hp'.out (by decide) (e ▸ hk)),own_kept ho'.out fun k hk=>hot k (fun e=>own_ne ho'.out hq'.out (by decide) (e ▸ hk)),fun k hk=>.inl (s1 k hk),fun k hk=>?_⟩,hF.setCell h2⟩
  · have hsz:(w'.setCell ⟨p,2,none⟩ (.slice A' n' c')).heap.size = w'.heap.size:=by simp
    rcases hk with hk | hk
    · have:=h1 k hk
      omega
    · omega
  · have hsz:(w'.setCell ⟨p,2,none⟩ (.slice A' n' c')).heap.size = w'.heap.size:=by simp
    have hlk:=(World.ownsRow.lt ho'.out k hk).2
    rcases hat'.out with e | e
    · exact .inl (s2 k (e ▸ hk))
    · rw [hk] at e
      injection e with e
      exact .inr ⟨by omega,by omega⟩
set_option maxHeartbeats 1000000 in
theorem drop_any (w:World) (S:Nat→Prop) (base p:Nat) (d:DV) (m:Nat) (h:DraftAt w S base p d) (hb:d.gone + m≤9223372036854775807) :
    Calls Try.prog 70 #[.pointer (some ⟨p,0,none⟩),.int .i64 (m:Int)] w fun e w'=>e = .returned (.tuple #[])∧DraftAt w' (Also S w w') base p { d with gone:=d.gone + m }∧FrX S w w':=by
  obtain ⟨h1,h2,v1,v2,hp,hd,ht,s1,s2⟩:=h
  have c3:=cell_of_row w p 3 _ _ _ hp
  have f3:=frozen_of_row w p 3 _ _ hp
  simp at c3
  have hp':=Lib.hid hp
  have hd':=Lib.hid hd
  have ht':=Lib.hid ht
  clear hp hd ht
  have hbI:(d.gone:Int) + (m:Int)≤9223372036854775807:=by omega
  go_enter Try.func70,Try.ntmps70
  go_wp2_with fail
  go_end0
  have hset:=heap_setCell_same w p 3 _ _ (.int .i64 ((d.gone:Int) + (m:Int))) hp'.out
  have hot:∀ k,k ≠ p→(w.setCell ⟨p,3,none⟩ (.int .i64 ((d.gone:Int) + (m:Int)))).heap[k]? = w.heap[k]?:=fun k hk=>heap_setCell_other w ⟨p,3,none⟩ k _ hk
  have hsz:(w.setCell ⟨p,3,none⟩ (.int .i64 ((d.gone:Int) + (m:Int)))).heap.size = w.heap.size:=by simp
  refine ⟨rfl,⟨fun k hk=>?_,.inl h2,v1,v2,hset,own_kept hd'.out fun k hk=>hot k (fun e=>own_ne hd'.out hp'.out (by decide) (e ▸ hk)),own_kept ht'.out fun k hk=>hot k (fun e=>own_ne ht'.out hp'.out (by decide) (e ▸ hk)),fun k hk=>.inl (s1 k hk),fun k hk=>.inl (s2 k hk)⟩,(FrX.refl S w).setCell h2⟩
  rcases hk with hk | hk
  · have:=h1 k hk
    omega
  · omega
end Go.Proofs.Ytidimannfemnmaa.P5
