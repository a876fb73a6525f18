/- MgAF: TreF TreM TreO TreV TreX TopVal LtxE LtxF LtxG LtxH LtxI LtxJ LtxK TreQ TreS TreT TreW TopV TopC -/
import Derived.Test.YtpoenlhikanooaaMgAE
import Derived.Deep.AppendLies
import Derived.Deep.CutRange
import Derived.IntWalk
import Derived.BigQuiet
import Derived.Test.YtpoenlhikanooaaMgAC
import Derived.Deep.RegionHeld3
import Derived.RegionTactic
import Derived.BigRegion
import Derived.Lib.Builder
import Derived.Deep.Cut
set_option linter.all false
namespace Go.Proofs.Ytpoenlhikanooaa
set_option linter.unusedVariables false
open Go.RowKit
set_option maxRecDepth 20000

def Rws (T:Nat→Prop) (w:World) (s:Stk) (xs:List Value):Prop :=
  ∀ (d:Nat) (row:List Nd),s.reverse[d]? = some row→∃ (A:Option Addr) (n c:Nat),xs[d]? = some (.slice A n c)∧n = row.length∧n≤c∧c≤maxLen∧(A = none→c = 0)∧RowAt T w A 0 row
structure WalkAt (T S:Nat→Prop) (base:Nat) (w:World) (p:Nat) (s:Stk):Prop where
  own:∀ k,S k→base≤k∧k < w.heap.size
  apart:∀ k,T k→¬ S k
  told:∀ k,T k→k < w.heap.size
  here:S p
  dat:∃ (g n cap:Nat) (xs:List Value),w.heap[p]? = some (.cells #[.slice (some ⟨g,0,none⟩) n cap] 128 (0,0))∧n = s.length∧w.ownsRow base 40 1 (.slice (some ⟨g,0,none⟩) n cap) n xs∧S g∧Rws T w s xs
theorem WalkAt.kept {T S:Nat→Prop} {base p:Nat} {w w':World} {s:Stk} (h:WalkAt T S base w p s) (hs:w.heap.size≤w'.heap.size) (hk:∀ k,T k∨S k→w'.heap[k]? = w.heap[k]?):WalkAt T S base w' p s:=by
  obtain ⟨h1,h2,h3,h4,g,n,cap,xs,hp,hn,ho,hg,hr⟩:=h
  refine ⟨fun k hS=>⟨(h1 k hS).1,Nat.lt_of_lt_of_le (h1 k hS).2 hs⟩,h2,fun k hT=>Nat.lt_of_lt_of_le (h3 k hT) hs,h4,g,n,cap,xs,(hk p (.inr h4)).trans hp,hn,own_kept ho fun k hk'=>hk k (.inr ?_),hg,fun d row hd=>?_⟩
  · have e:g = k:=by simpa [Value.ownBlock] using hk'
    rw [← e]
    exact hg
  · obtain ⟨A,m,c,e1,e2,e3,e4,e5,e6⟩:=hr d row hd
    exact ⟨A,m,c,e1,e2,e3,e4,e5,e6.kept (fun _ h=>h) (fun k hT=>hk k (.inl hT)) _ _ _⟩
def Also (S:Nat→Prop) (w w':World) (k:Nat):Prop:=S k∨(w.heap.size≤k∧k < w'.heap.size)
theorem own_set_cut {w:World} {base g n cap d:Nat} {e:TypeId} {xs:List Value} (h:w.ownsRow base e 1 (.slice (some ⟨g,0,none⟩) n cap) n xs) (hd:d < n) (v:Value) :
    (w.setCell ⟨g,d,none⟩ v).ownsRow base e 1 (.slice (some ⟨g,0,none⟩) (d + 1) cap) (d + 1) (xs.take d ++ [v]):=by
  have hl:=h.1
  rcases h.2 with ⟨e1,_⟩ | ⟨g',cap',cur,e1,hb,hg,hnc,hcm,hcs,htake⟩
  · cases e1
  · injection e1 with e1 e2 e3
    injection e1 with e1
    injection e1 with e1 _ _
    subst e1 e3
    refine ⟨by rw [List.length_append,List.length_take,hl];simp;omega,.inr ⟨g,cap,_,rfl,hb,heap_setCell_same w g d cur e v hg,by omega,hcm,by simp [hcs],?_⟩⟩
    have hcl:d < cur.toList.length:=by rw [Array.length_toList,hcs];omega
    rw [Array.toList_setIfInBounds,Nat.mul_one,← htake,List.take_take,show min d (n * 1) = d by omega]
    rw [List.take_add_one,List.take_set_of_le (Nat.le_refl _)]
    congr 1
    have hcl2:d < cur.size:=by rw [hcs];omega
    simp [List.getElem?_set,hcl2]
def NextPost (T S:Nat→Prop) (base:Nat) (w:World) (p:Nat) (s:Stk) (e:Ending) (w':World):Prop :=
  match nextV s with
  | none=>e = .returned (.tuple #[.int .i64 0,.pointer none])∧w' = w
  | some (d,x,s')=>∃ E,e = .returned (.tuple #[.int .i64 (d:Int),.pointer (some E)])∧NodeAt T w' E x∧WalkAt T (Also S w w') base w' p s'∧FrX S w w'
theorem add_zero (ad:Addr):ad.add 0 = ad:=by unfold Addr.add;rw [if_pos rfl]
theorem own_frozen {w:World} {base:Nat} {e:TypeId} {size g n cap:Nat} {xs:List Value} (h:w.ownsRow base e size (.slice (some ⟨g,0,none⟩) n cap) n xs) (o:Nat):w.frozen? ⟨g,o,none⟩ = false:=by
  rcases h.2 with ⟨e1,_⟩ | ⟨g',cap',cur,e1,hb,hg,_⟩
  · cases e1
  · injection e1 with e1 _ _
    injection e1 with e1
    injection e1 with e1 _ _
    subst e1
    exact frozen_of_row w g o _ _ hg
theorem own_cap {w:World} {base:Nat} {e:TypeId} {size g n cap:Nat} {xs:List Value} (h:w.ownsRow base e size (.slice (some ⟨g,0,none⟩) n cap) n xs):n≤cap:=by
  rcases h.2 with ⟨e1,_⟩ | ⟨g',cap',cur,e1,hb,hg,hc,_⟩
  · cases e1
  · injection e1 with _ _ e3
    omega
theorem Try.infoRow:(Try.prog.info? 40).map (fun i=>(i.zero,i.size,i.bytes)) = some (some (.slice none 0 0),1,24):=by kernel_rfl
theorem nextV_skip:∀ (e s:Stk),(∀ row ∈ e,row = [])→nextV (e ++ s) = nextV s
  | [],s,_=>rfl
  | a :: e,s,h=>by
    obtain rfl:=h a (List.mem_cons_self ..)
    rw [List.cons_append,nextV]
    exact nextV_skip e s fun row hr=>h row (List.mem_cons_of_mem _ hr)
theorem rev_at (e:Stk) (row:List Nd) (rest:Stk):(e ++ row :: rest).reverse[rest.length]? = some row:=by
  rw [List.reverse_append,List.reverse_cons,List.append_assoc,List.getElem?_append_right (by simp)]
  simp
theorem next_done {w W1 w4:World} {T S:Nat→Prop} {base p g g' d cap cap' n:Nat} {s e:Stk} {x:Nd} {r:List Nd} {rest:Stk} {xs:List Value} {v1:Value} {ad:Addr} {aA kA:Option Addr} {an ac kn kc:Nat} {o:Obj}
    (h:WalkAt T S base w p s) (hbase:base≤w.heap.size) (hs:s = e ++ (x :: r) :: rest) (hd:d = rest.length) (hr:Rws T w s xs) (hxl:d < xs.length)
    (V1:∃ (A:Option Addr) (n c:Nat),v1 = .slice A n c∧n = r.length∧n≤c∧c≤maxLen∧(A = none→c = 0)∧RowAt T w A 0 r)
    (hkv:NodeV T w aA an ac kA kn kc x) (hNE:NodeAt T w ad x) (hg:S g) (o1:∀ k,k ≠ g→W1.heap[k]? = w.heap[k]?) (z1:W1.heap.size = w.heap.size) (F1:FrX S w W1)
    (ho4:w4.ownsRow base 40 1 (.slice (some ⟨g',0,none⟩) (d + 1 + 1) cap') (d + 1 + 1) (xs.take d ++ [v1] ++ [.slice kA kn kc]))
    (hg4:World.grownBy ((W1.alloc o).drew) w4 (Value.ownBlock (.slice (some ⟨g,0,none⟩) (d + 1) cap))) (hat:Value.ownBlock (.slice (some ⟨g,0,none⟩) (d + 1) cap) = some g'∨g' = W1.heap.size + 1)
    (p4:w4.heap[p]? = some (.cells #[.slice (some ⟨g,0,none⟩) n cap] 128 (0,0))) :
    NodeAt T (w4.setCell ⟨p,0,none⟩ (.slice (some ⟨g',0,none⟩) (d + 1 + 1) cap')) ad x∧WalkAt T (Also S w (w4.setCell ⟨p,0,none⟩ (.slice (some ⟨g',0,none⟩) (d + 1 + 1) cap'))) base (w4.setCell ⟨p,0,none⟩ (.slice (some ⟨g',0,none⟩) (d + 1 + 1) cap')) p (x.kids :: r :: rest)∧FrX S w (w4.setCell ⟨p,0,none⟩ (.slice (some ⟨g',0,none⟩) (d + 1 + 1) cap')):=by
  obtain ⟨h1,h2,h3,h4,-⟩:=h
  have hz4:W1.heap.size + 1≤w4.heap.size:=by have:=hg4.size;simpa using this
  have F4:FrX S w w4:=⟨hg4.os.trans F1.os,hg4.tape.trans F1.tape,hg4.output.trans F1.output,by omega,fun k hk hn=>by
    rw [hg4.block k (by simp;omega) (fun e=>by injection e with e;exact hn (e ▸ hg))]
    exact (Go.heap_alloc_old W1 _ (by omega)).trans (F1.block k hk hn)⟩
  obtain ⟨w5,hw5⟩:∃ w5,w5 = w4.setCell ⟨p,0,none⟩ (.slice (some ⟨g',0,none⟩) (d + 1 + 1) cap'):=⟨_,rfl⟩
  rw [← hw5]
  have F5:FrX S w w5:=by rw [hw5];exact F4.setCell h4
  have p5:w5.heap[p]? = some (.cells #[.slice (some ⟨g',0,none⟩) (d + 1 + 1) cap'] 128 (0,0)):=by rw [hw5];exact heap_setCell_same w4 p 0 _ _ _ p4
  have z5:w5.heap.size = w4.heap.size:=by rw [hw5];simp
  have ho5:w5.ownsRow base 40 1 (.slice (some ⟨g',0,none⟩) (d + 1 + 1) cap') (d + 1 + 1) (xs.take d ++ [v1] ++ [.slice kA kn kc]):=own_kept ho4 fun k hk=>by
    rw [hw5]
    exact heap_setCell_other w4 ⟨p,0,none⟩ k _ (fun e=>own_ne ho4 p4 (by decide) (by rw [hk,e]))
  clear hw5
  have kT:∀ k,T k→w5.heap[k]? = w.heap[k]?:=fun k hk=>F5.block k (h3 k hk) (h2 k hk)
  have hg'lt:=(World.ownsRow.lt ho5 g' rfl).2
  have hfk:=hkv.facts
  refine ⟨hNE.kept (fun _ h=>h) kT,⟨?_,?_,?_,.inl h4,g',d + 1 + 1,cap',_,p5,by simp [hd],ho5,?_,?_⟩,F5⟩
  · intro k hk
    rcases hk with hk | hk
    · have:=h1 k hk
      have:=F5.size
      omega
    · omega
  · intro k hT hk
    rcases hk with hk | hk
    · exact h2 k hT hk
    · have:=h3 k hT
      omega
  · intro k hT
    have:=h3 k hT
    have:=F5.size
    omega
  · rcases hat with e | e
    · injection e with e
      exact .inl (e ▸ hg)
    · exact .inr ⟨by omega,by omega⟩
  · intro i row hi
    have hrev:(x.kids :: r :: rest).reverse = rest.reverse ++ [r] ++ [x.kids]:=by simp
    rw [hrev] at hi
    have hl1:(rest.reverse ++ [r]).length = d + 1:=by simp [hd]
    have hl2:(xs.take d ++ [v1]).length = d + 1:=by rw [List.length_append,List.length_take];simp;omega
    have hl3:(xs.take d).length = d:=by rw [List.length_take];omega
    have hl4:rest.reverse.length = d:=by simp [hd]
    have hili:=(List.getElem?_eq_some_iff.1 hi).1
    rw [List.length_append,hl1] at hili
    simp only [List.length_cons,List.length_nil] at hili
    rcases Nat.lt_or_ge i d with hid | hid
    · rw [List.getElem?_append_left (by omega),List.getElem?_append_left (by omega)] at hi
      have hso:s.reverse[i]? = some row:=by
        rw [hs,List.reverse_append,List.reverse_cons,List.append_assoc,List.getElem?_append_left (by omega)]
        exact hi
      obtain ⟨A,m,c,e1,e2,e3,e4,e5,e6⟩:=hr i row hso
      refine ⟨A,m,c,?_,e2,e3,e4,e5,e6.kept (fun _ h=>h) kT _ _ _⟩
      rw [List.getElem?_append_left (by omega),List.getElem?_append_left (by omega),List.getElem?_take,if_pos hid]
      exact e1
    · rcases Nat.lt_or_ge i (d + 1) with hid2 | hid2
      · obtain rfl:i = d:=by omega
        rw [List.getElem?_append_left (by omega),List.getElem?_append_right (by omega),hl4,Nat.sub_self] at hi
        injection hi with hi
        subst hi
        obtain ⟨A,m,c,e1,e2,e3,e4,e5,e6⟩:=V1
        refine ⟨A,m,c,?_,e2,e3,e4,e5,e6.kept (fun _ h=>h) kT _ _ _⟩
        rw [List.getElem?_append_left (by omega),List.getElem?_append_right (by omega),hl3,Nat.sub_self,e1]
        rfl
      · obtain rfl:i = d + 1:=by omega
        rw [List.getElem?_append_right (by omega),hl1,Nat.sub_self] at hi
        injection hi with hi
        subst hi
        refine ⟨kA,kn,kc,?_,hfk.kl.symm,hfk.knc,hfk.kcm,hfk.knil,hfk.row.kept (fun _ h=>h) kT _ _ _⟩
        rw [List.getElem?_append_right (by omega),hl2,Nat.sub_self]
        rfl
theorem Also.drewN {S:Nat→Prop} {w w':World} (n:Nat):Also S w (w'.drewN n) = Also S w w':=rfl
set_option maxHeartbeats 4000000 in
theorem next_any (w:World) (T S:Nat→Prop) (base p:Nat) (s:Stk) (h:WalkAt T S base w p s) (hlen:s.length≤1000000) (hbase:base≤w.heap.size) :
    Calls Try.prog 115 #[.pointer (some ⟨p,0,none⟩)] w (NextPost T S base w p s):=by
  have h0:=Lib.hid h
  obtain ⟨h1,h2,h3,h4,g,n,cap,xs,hp,hn,ho,hg,hr⟩:=h
  have c0:=cell_of_row w p 0 _ _ _ hp
  have f0:=frozen_of_row w p 0 _ _ hp
  simp at c0
  have hnb:n≤1000000:=by omega
  have h1':=Lib.hid h1
  have h2':=Lib.hid h2
  have h3':=Lib.hid h3
  have hp':=Lib.hid hp
  have hn':=Lib.hid hn
  have ho':=Lib.hid ho
  have hr':=Lib.hid hr
  have hlen':=Lib.hid hlen
  clear h1 h2 h3 hp hn ho hr hlen
  go_enter Try.func115,Try.ntmps115
  go_wp2_with fail
  go_loopw [5] (fun dv wr=>∃ (z:Int) (e s2:Stk),dv = .int .i64 z∧z + 1 = (s2.length:Int)∧s2.length≤n∧s = e ++ s2∧(∀ row ∈ e,row = [])∧wr = w) (fun dv _=>(intOf dv + 1).toNat)
  case atStart=>exact ⟨_,[],s,rfl,by have:=hn'.out;omega,by have:=hn'.out;omega,rfl,by simp,rfl⟩
  case round =>
    obtain ⟨z,e,s2,rfl,hz,hs2,hs,he,rfl⟩:=hrel
    cases s2 with
    | nil =>
      have hzI:¬ (0:Int)≤z:=by simp at hz;omega
      have hv:=Lib.hid (show nextV s = none by rw [hs,nextV_skip e [] he];rfl)
      clear hz hs he hs2
      go_wp2_with fail
      refine bodyPost_ret (v:=.tuple #[.int .i64 0,.pointer none]) (by simp [results,Try.results115,go_sem]) rfl ?_
      unfold NextPost
      rw [hv.out]
      exact ⟨rfl,rfl⟩
    | cons row rest =>
      obtain ⟨d,hd⟩:∃ d,d = rest.length:=⟨_,rfl⟩
      obtain rfl:z = (d:Int):=by simp at hz;omega
      have hdn:d < n:=by simp at hs2;omega
      obtain ⟨A,m,c,hx,hm,hmc,hcm,hA,hrow⟩:=hr'.out d row (by rw [hs,hd];exact rev_at e row rest)
      have cd:=World.ownsRow.cells ho'.out (g:=g) rfl d _ hx
      rw [add_zero_off] at cd
      have fd:=own_frozen ho'.out d
      have hdI:(d:Int) < (n:Int):=by omega
      have hx':=Lib.hid hx
      have hA':=Lib.hid hA
      have hrow':=Lib.hid hrow
      have hd':=Lib.hid hd
      clear hx hA hrow hd
      cases row with
      | nil =>
        obtain rfl:m = 0:=hm
        go_wp2_with fail
        go_roundw
        case rel=>exact ⟨(d:Int) - 1,e ++ [[]],rest,rfl,by have:=hd'.out;omega,by simp at hs2;omega,by rw [hs];simp,fun row hr=>by rcases List.mem_append.1 hr with hr | hr;exact he row hr;simpa using hr,trivial⟩
        case measure=>simp [intOf]
      | cons x r =>
        have hm1:1≤m:=by rw [hm];simp
        have hm0:(0:Int) < (m:Int):=by omega
        cases A with
        | none=>exact absurd (hA'.out rfl) (by omega)
        | some ad =>
          obtain ⟨E,eE,hNE⟩:=RowAt.at_ (q:=0) hrow'.out rfl
          have hNE':=Lib.hid hNE
          obtain ⟨hTE,aA,an,ac,kA,kn,kc,⟨k0,k1,k2,k3,k4,k5⟩,hkv⟩:=hNE
          injection eE with eE
          subst eE
          rw [show (0 + 0) * 6 = 0 by omega,add_zero] at hTE k5
          have hm':=Lib.hid hm
          have hs':=Lib.hid hs
          have he':=Lib.hid he
          have hz':=Lib.hid hz
          have hs2':=Lib.hid hs2
          have hkv':=Lib.hid hkv
          clear hm hs he hz hs2 hkv k0 k1 k2 k3 k4
          have hgad:ad.block ≠ g:=fun e=>h2'.out _ hTE (e ▸ hg)
          have hpg:p ≠ g:=fun e=>own_ne ho'.out hp'.out (by decide) (by rw [e];rfl)
          have hcv:∃ v1,(c = 1∧v1 = Value.slice (some ad) (m - 1) (c - 1)∨c ≠ 1∧v1 = Value.slice (some (ad.add 6)) (m - 1) (c - 1)):=by
            by_cases e:c = 1
            · exact ⟨_,.inl ⟨e,rfl⟩⟩
            · exact ⟨_,.inr ⟨e,rfl⟩⟩
          obtain ⟨v1,hv1⟩:=hcv
          have V1:Hid (∃ (A:Option Addr) (n c:Nat),v1 = .slice A n c∧n = r.length∧n≤c∧c≤maxLen∧(A = none→c = 0)∧RowAt T wr A 0 r):=by
            have hml:m = r.length + 1:=by rw [hm'.out];simp
            have hrest:=hrow'.out
            simp only [RowAt] at hrest
            rcases hv1 with ⟨e,rfl⟩ | ⟨e,rfl⟩
            · have hr0:r = []:=List.length_eq_zero_iff.1 (by omega)
              refine ⟨_,_,_,rfl,by omega,by omega,by omega,(fun h=>by cases h),?_⟩
              rw [hr0]
              simp [RowAt]
            · exact ⟨_,_,_,rfl,by omega,by omega,by omega,(fun h=>by cases h),RowAt.from_ 1 r 0 hrest.2⟩
          have own1:=own_set_cut ho'.out hdn v1
          rcases hv1 with ⟨hc1,hv1⟩ | ⟨hc1,hv1⟩
          · have hcT:(c = 1) = True:=eq_true hc1
            have hv1':=Lib.hid hv1
            clear hc1 hv1
            go_upto_region 8 with fail
            rw [← hv1'.out]
            clear hcT hv1'
            obtain ⟨W1,hW1⟩:∃ W1,W1 = wr.setCell ⟨g,d,none⟩ v1:=⟨_,rfl⟩
            rw [← hW1] at own1 ⊢
            have z1:W1.heap.size = wr.heap.size:=by rw [hW1];simp
            have o1:∀ k,k ≠ g→W1.heap[k]? = wr.heap[k]?:=fun k hk=>by rw [hW1];exact heap_setCell_other wr ⟨g,d,none⟩ k v1 hk
            have p1:=(o1 p hpg).trans hp'.out
            have F1:FrX S wr W1:=by rw [hW1];exact (FrX.refl S wr).setCell hg
            have k51:W1.cell? ⟨ad.block,ad.off + 5,none⟩ = some (.slice kA kn kc):=(World.cell?_of_block (w:=wr) (w':=W1) (a:=⟨ad.block,ad.off + 5,none⟩) (o1 _ hgad)).trans k5
            clear hW1 k5 c0 f0 cd fd
            have hsz:=(h1'.out p h4).2
            have hpW:p < W1.heap.size:=by rw [z1];exact hsz
            have hadW:ad.block < W1.heap.size:=by rw [z1];exact h3'.out _ hTE
            have hszg:=(h1'.out g hg).2
            have hTz:=h3'.out _ hTE
            obtain ⟨i0,hi0,hz0,hz1,hz2⟩:=info_parts Try.infoRow
            have hi0':=Lib.hid hi0
            have hz0':=Lib.hid hz0
            have hz1':=Lib.hid hz1
            have hz2':=Lib.hid hz2
            have hrw:=Lib.hid (show ∀ o,((W1.alloc o).drew).ownsRow base 40 1 (.slice (some ⟨g,0,none⟩) (d + 1) cap) (d + 1) (xs.take d ++ [v1]) from fun o=>World.ownsRow.alloc own1 o)
            have hnews:=Lib.hid (show ∀ (j:Nat) (u:Value),([.slice kA kn kc]:List Value)[j]? = some u→(W1.alloc (.cells #[.slice kA kn kc] 40)).drew.cell? ((⟨W1.heap.size,0,none⟩:Addr).add j) = some u from
              World.news_of_block (w:=W1.alloc (.cells #[.slice kA kn kc] 40)) (cs:=#[.slice kA kn kc]) (t:=40) (fr:=(0,0)) (heap_alloc_new W1 _))
            have hone:=Lib.hid (show ∀ u ∈ ([.slice kA kn kc]:List Value),u.oneCell' = true from by simp [Value.oneCell'])
            have hbd:=Lib.hid (show d + 1 + 1≤maxLen∧(d + 1 + 1) * 24≤140737488355328 from by unfold maxLen;omega)
            have hbd2:=Lib.hid (show ∀ o,base≤(W1.alloc o).drew.heap.size from fun o=>by simp;omega)
            have kk4:=Lib.hid (show ∀ w4 o,World.grownBy ((W1.alloc o).drew) w4 (Value.ownBlock (.slice (some ⟨g,0,none⟩) (d + 1) cap))→∀ k,k < W1.heap.size→k ≠ g→w4.heap[k]? = W1.heap[k]? from fun w4 o hg3 k hk hn=>by
              rw [hg3.block k (by simp;omega) (fun e=>by injection e with e;exact hn e)]
              exact Go.heap_alloc_old W1 _ hk)
            have own1':=Lib.hid own1
            have o1':=Lib.hid o1
            have p1':=Lib.hid p1
            have F1':=Lib.hid F1
            have hgadI:ad.block ≠ p:=fun e=>h2'.out _ hTE (e ▸ h4)
            have g1:(0:Int)≤(d:Int) + 1:=by omega
            have g2:((d:Int) + 1).toNat = d + 1:=by omega
            have g3:IntKind.i64.wrap ((d:Int) + 1) = (d:Int) + 1:=IntWalk.i64_in _ (by omega)
            have g4:d + 1≤cap:=by have:=own_cap ho'.out;omega
            have g5:(d:Int) + 1≤(cap:Int):=by omega
            have z1':=Lib.hid z1
            clear hi0 hz0 hz1 hz2 own1 o1 p1 F1 z1
            go_region_held3 (fun w'=>w'.cell? ⟨ad.block,ad.off + 5,none⟩ = some (.slice kA kn kc))
              (first
                | go_keep
                | exact kk.out
                | exact (World.cell?_of_block (w:=w4) (a:=⟨ad.block,ad.off + 5,none⟩) (heap_setCell_other w4 ⟨p,0,none⟩ ad.block _ hgadI)).trans kk.out)
              ((refine step_append_lies _ (by rfl) (.tmp 33) (.tmp 38) 128 (by rfl) base 40 i0 _ 1 24 Try.underlying128 hi0'.out hz0'.out hz1'.out hz2'.out rfl (by decide) (.slice (some ⟨g,0,none⟩) (d + 1) cap) (d + 1) (xs.take d ++ [v1]) (by rfl) (hrw.out _)
                  ⟨W1.heap.size,0,none⟩ 1 1 [.slice kA kn kc] (by rfl) (by rfl) hnews.out hone.out
                  (by decide) hbd.out.1 hbd.out.2 (hbd2.out _) (W1.heap.size + 1) (by simp) ?_;intro g' cap' w4 ho4 hg4 hat hlt4;have kk:=Lib.hid ((World.cell?_of_block (w:=W1) (w':=w4) (a:=⟨ad.block,ad.off + 5,none⟩) (kk4.out w4 _ hg4 _ hadW hgad)).trans k51);have p4:=(kk4.out w4 _ hg4 p hpW hpg).trans p1'.out;have c4:=cell_of_row w4 p 0 _ _ _ p4;have f4:=frozen_of_row w4 p 0 _ _ p4;have ho4':=Lib.hid ho4;have hg4':=Lib.hid hg4;have hat':=Lib.hid hat;have p4':=Lib.hid p4;clear ho4 hg4 hat p4))
            clear g1 g2 g3 g5
            go_wp2_with fail
            go_quiet (fail)
            go_wp2_with fail
            refine bodyPost_ret (v:=.tuple #[.int .i64 (d:Int),.pointer (some ad)]) (by simp [results,Try.results115,go_sem]) rfl ?_
            obtain ⟨q1,q2,q3⟩:=next_done h0.out hbase hs'.out hd'.out hr'.out (by have:=ho'.out.1;omega) V1.out hkv'.out (by have h:=hNE'.out;rw [show (0 + 0) * 6 = 0 by omega,add_zero] at h;exact h) hg o1'.out z1'.out F1'.out ho4'.out hg4'.out hat'.out p4'.out
            unfold NextPost
            rw [hs'.out,nextV_skip e _ he'.out]
            refine ⟨ad,by rw [hd'.out],q1.drewN _,?_,q3.drewN _⟩
            exact WalkAt.kept q2 (Nat.le_refl _) (fun _ _=>rfl)
          · rw [add_off _ _ (by omega)] at hv1
            have hv1':=Lib.hid hv1
            clear hv1
            go_upto_region 8 with fail
            rw [← hv1'.out]
            clear hc1 hv1'
            obtain ⟨W1,hW1⟩:∃ W1,W1 = wr.setCell ⟨g,d,none⟩ v1:=⟨_,rfl⟩
            rw [← hW1] at own1 ⊢
            have z1:W1.heap.size = wr.heap.size:=by rw [hW1];simp
            have o1:∀ k,k ≠ g→W1.heap[k]? = wr.heap[k]?:=fun k hk=>by rw [hW1];exact heap_setCell_other wr ⟨g,d,none⟩ k v1 hk
            have p1:=(o1 p hpg).trans hp'.out
            have F1:FrX S wr W1:=by rw [hW1];exact (FrX.refl S wr).setCell hg
            have k51:W1.cell? ⟨ad.block,ad.off + 5,none⟩ = some (.slice kA kn kc):=(World.cell?_of_block (w:=wr) (w':=W1) (a:=⟨ad.block,ad.off + 5,none⟩) (o1 _ hgad)).trans k5
            clear hW1 k5 c0 f0 cd fd
            have hsz:=(h1'.out p h4).2
            have hpW:p < W1.heap.size:=by rw [z1];exact hsz
            have hadW:ad.block < W1.heap.size:=by rw [z1];exact h3'.out _ hTE
            have hszg:=(h1'.out g hg).2
            have hTz:=h3'.out _ hTE
            obtain ⟨i0,hi0,hz0,hz1,hz2⟩:=info_parts Try.infoRow
            have hi0':=Lib.hid hi0
            have hz0':=Lib.hid hz0
            have hz1':=Lib.hid hz1
            have hz2':=Lib.hid hz2
            have hrw:=Lib.hid (show ∀ o,((W1.alloc o).drew).ownsRow base 40 1 (.slice (some ⟨g,0,none⟩) (d + 1) cap) (d + 1) (xs.take d ++ [v1]) from fun o=>World.ownsRow.alloc own1 o)
            have hnews:=Lib.hid (show ∀ (j:Nat) (u:Value),([.slice kA kn kc]:List Value)[j]? = some u→(W1.alloc (.cells #[.slice kA kn kc] 40)).drew.cell? ((⟨W1.heap.size,0,none⟩:Addr).add j) = some u from
              World.news_of_block (w:=W1.alloc (.cells #[.slice kA kn kc] 40)) (cs:=#[.slice kA kn kc]) (t:=40) (fr:=(0,0)) (heap_alloc_new W1 _))
            have hone:=Lib.hid (show ∀ u ∈ ([.slice kA kn kc]:List Value),u.oneCell' = true from by simp [Value.oneCell'])
            have hbd:=Lib.hid (show d + 1 + 1≤maxLen∧(d + 1 + 1) * 24≤140737488355328 from by unfold maxLen;omega)
            have hbd2:=Lib.hid (show ∀ o,base≤(W1.alloc o).drew.heap.size from fun o=>by simp;omega)
            have kk4:=Lib.hid (show ∀ w4 o,World.grownBy ((W1.alloc o).drew) w4 (Value.ownBlock (.slice (some ⟨g,0,none⟩) (d + 1) cap))→∀ k,k < W1.heap.size→k ≠ g→w4.heap[k]? = W1.heap[k]? from fun w4 o hg3 k hk hn=>by
              rw [hg3.block k (by simp;omega) (fun e=>by injection e with e;exact hn e)]
              exact Go.heap_alloc_old W1 _ hk)
            have own1':=Lib.hid own1
            have o1':=Lib.hid o1
            have p1':=Lib.hid p1
            have F1':=Lib.hid F1
            have hgadI:ad.block ≠ p:=fun e=>h2'.out _ hTE (e ▸ h4)
            have g1:(0:Int)≤(d:Int) + 1:=by omega
            have g2:((d:Int) + 1).toNat = d + 1:=by omega
            have g3:IntKind.i64.wrap ((d:Int) + 1) = (d:Int) + 1:=IntWalk.i64_in _ (by omega)
            have g4:d + 1≤cap:=by have:=own_cap ho'.out;omega
            have g5:(d:Int) + 1≤(cap:Int):=by omega
            have z1':=Lib.hid z1
            clear hi0 hz0 hz1 hz2 own1 o1 p1 F1 z1
            go_region_held3 (fun w'=>w'.cell? ⟨ad.block,ad.off + 5,none⟩ = some (.slice kA kn kc))
              (first
                | go_keep
                | exact kk.out
                | exact (World.cell?_of_block (w:=w4) (a:=⟨ad.block,ad.off + 5,none⟩) (heap_setCell_other w4 ⟨p,0,none⟩ ad.block _ hgadI)).trans kk.out)
              ((refine step_append_lies _ (by rfl) (.tmp 33) (.tmp 38) 128 (by rfl) base 40 i0 _ 1 24 Try.underlying128 hi0'.out hz0'.out hz1'.out hz2'.out rfl (by decide) (.slice (some ⟨g,0,none⟩) (d + 1) cap) (d + 1) (xs.take d ++ [v1]) (by rfl) (hrw.out _)
                  ⟨W1.heap.size,0,none⟩ 1 1 [.slice kA kn kc] (by rfl) (by rfl) hnews.out hone.out
                  (by decide) hbd.out.1 hbd.out.2 (hbd2.out _) (W1.heap.size + 1) (by simp) ?_;intro g' cap' w4 ho4 hg4 hat hlt4;have kk:=Lib.hid ((World.cell?_of_block (w:=W1) (w':=w4) (a:=⟨ad.block,ad.off + 5,none⟩) (kk4.out w4 _ hg4 _ hadW hgad)).trans k51);have p4:=(kk4.out w4 _ hg4 p hpW hpg).trans p1'.out;have c4:=cell_of_row w4 p 0 _ _ _ p4;have f4:=frozen_of_row w4 p 0 _ _ p4;have ho4':=Lib.hid ho4;have hg4':=Lib.hid hg4;have hat':=Lib.hid hat;have p4':=Lib.hid p4;clear ho4 hg4 hat p4))
            clear g1 g2 g3 g5
            go_wp2_with fail
            go_quiet (fail)
            go_wp2_with fail
            refine bodyPost_ret (v:=.tuple #[.int .i64 (d:Int),.pointer (some ad)]) (by simp [results,Try.results115,go_sem]) rfl ?_
            obtain ⟨q1,q2,q3⟩:=next_done h0.out hbase hs'.out hd'.out hr'.out (by have:=ho'.out.1;omega) V1.out hkv'.out (by have h:=hNE'.out;rw [show (0 + 0) * 6 = 0 by omega,add_zero] at h;exact h) hg o1'.out z1'.out F1'.out ho4'.out hg4'.out hat'.out p4'.out
            unfold NextPost
            rw [hs'.out,nextV_skip e _ he'.out]
            refine ⟨ad,by rw [hd'.out],q1.drewN _,?_,q3.drewN _⟩
            exact WalkAt.kept q2 (Nat.le_refl _) (fun _ _=>rfl)
end Go.Proofs.Ytpoenlhikanooaa
namespace Go.Proofs.Ytpoenlhikanooaa
set_option linter.unusedVariables false
open Go.RowKit
set_option maxRecDepth 20000

theorem Owned.node {w w':World} {T:Nat→Prop} {t:Nd} {aA kA aA0 kA0:Option Addr} {an ac kn kc an0 ac0 kn0 kc0 gA:Nat} {ks:List KV} (h:Owned w w' T t aA an ac kA kn kc gA ks) (hv:NodeV T w aA0 an0 ac0 kA0 kn0 kc0 t) (hT:∀ k,T k→k < w.heap.size) :
    NodeV (fun k=>T k∨(w.heap.size≤k∧k < w'.heap.size)) w' aA an ac kA kn kc t:=by
  have hf:=hv.facts
  refine NFacts.node ⟨hf.id,hf.label,hf.text,h.ats.kept (by rintro k rfl;exact .inr h.ga) (fun _ _=>rfl),h.anc,h.acm,h.anil,by rw [← h.map,List.length_map];exact h.len,h.knc,h.kcm,h.knil,?_⟩
  rw [← h.map]
  obtain ⟨A,n,c,e,hn,-,-,-,hq⟩:=h.row.shape
  injection e with e1 e2 e3
  subst e1
  refine RowAt.of_kvs ks (fun k hk=>KV.ok_kept (fun _ h=>.inl h) (fun j hj=>h.bel.block j (hT j hj)) (h.ok k hk)) fun q k hk=>?_
  obtain ⟨g,rfl,hb,hlt,hs⟩:=hq q k hk
  exact ⟨⟨g,0,none⟩,rfl,.inr ⟨hb,hlt⟩,by rw [add_zero_off];exact hs⟩
theorem set_six {w:World} {g:Nat} {a0 a1 a2 a3 a4 a5 b0 b1 b2 b3 b4 b5:Value} {ty:TypeId} (h:w.heap[g]? = some (.cells #[a0,a1,a2,a3,a4,a5] ty (0,0))) :
    ((((((w.setCell ⟨g,0,none⟩ b0).setCell ⟨g,1,none⟩ b1).setCell ⟨g,2,none⟩ b2).setCell ⟨g,3,none⟩ b3).setCell ⟨g,4,none⟩ b4).setCell ⟨g,5,none⟩ b5).heap[g]? = some (.cells #[b0,b1,b2,b3,b4,b5] ty (0,0)) :=
  by
  have e0:=heap_setCell_same w g 0 _ _ b0 h
  have e1:=heap_setCell_same _ g 1 _ _ b1 e0
  have e2:=heap_setCell_same _ g 2 _ _ b2 e1
  have e3:=heap_setCell_same _ g 3 _ _ b3 e2
  have e4:=heap_setCell_same _ g 4 _ _ b4 e3
  have e5:=heap_setCell_same _ g 5 _ _ b5 e4
  rw [e5]
  simp
theorem set_six_other {w:World} {g k:Nat} {b0 b1 b2 b3 b4 b5:Value} (h:k ≠ g) :
    ((((((w.setCell ⟨g,0,none⟩ b0).setCell ⟨g,1,none⟩ b1).setCell ⟨g,2,none⟩ b2).setCell ⟨g,3,none⟩ b3).setCell ⟨g,4,none⟩ b4).setCell ⟨g,5,none⟩ b5).heap[k]? = w.heap[k]? :=
  (heap_setCell_other _ _ k _ h).trans ((heap_setCell_other _ _ k _ h).trans ((heap_setCell_other _ _ k _ h).trans ((heap_setCell_other _ _ k _ h).trans ((heap_setCell_other _ _ k _ h).trans (heap_setCell_other _ _ k _ h)))))
theorem below_six {B:Nat} {w0 w:World} {g:Nat} {b0 b1 b2 b3 b4 b5:Value} (h:Below B w0 w) (hg:B≤g) :
    Below B w0 ((((((w.setCell ⟨g,0,none⟩ b0).setCell ⟨g,1,none⟩ b1).setCell ⟨g,2,none⟩ b2).setCell ⟨g,3,none⟩ b3).setCell ⟨g,4,none⟩ b4).setCell ⟨g,5,none⟩ b5) :=
  (((((h.setCell hg _).setCell hg _).setCell hg _).setCell hg _).setCell hg _).setCell hg _
theorem weigh_mem {k:Nd}:∀ {l:List Nd},k ∈ l→weighV k≤weighsV l
  | m :: r,h=>by
    simp only [weighsV]
    rcases List.mem_cons.1 h with rfl | h
    · omega
    · have:=weigh_mem h
      omega
theorem weigh_kid {s k:Nd} {j:Nat} (h:s.kids[j]? = some k):weighV k≤weighV s:=by
  have:=weigh_mem (List.mem_of_getElem? h)
  rw [weighV_eq s]
  omega
theorem weigh_rows (s:Nd):s.attrs.length≤weighV s∧s.kids.length≤weighV s:=by
  have h1:=attrsLen_le s.attrs
  have h2:=kids_le s
  have h3:=count_le s
  rw [weighV_eq s] at h3 ⊢
  omega
def zero6:Array Value:=#[.int .u64 0,.bool false,.string ⟨#[]⟩,.slice none 0 0,.string ⟨#[]⟩,.slice none 0 0]
theorem atV_none {s:Nd} {i:Int} {r:List Int} (h:hasB s.kids.length i = false):atV s (i :: r) = none:=by
  unfold hasB at h
  have h:=of_decide_eq_false h
  simp only [atV]
  split
  · rw [List.getElem?_eq_none (by omega)]
  · rfl
theorem atV_some {s k:Nd} {j:Nat} {r:List Int} (h:s.kids[j]? = some k):atV s ((j:Int) :: r) = atV k r:=by
  simp only [atV]
  rw [if_pos (by omega)]
  simp [h]
theorem hasB_cases (n:Nat) (i:Int):hasB n i = false∨∃ j:Nat,i = (j:Int)∧j < n∧hasB n i = true:=by
  by_cases h:0≤i∧i < (n:Int)
  · exact .inr ⟨i.toNat,by omega,by omega,decide_eq_true h⟩
  · exact .inl (decide_eq_false h)
def AtAns (w:World) (t:Nd) (p:List Int) (e:Ending) (w':World):Prop :=
  ∃ aA an ac kA kn kc,e = .returned (.tuple #[.agg (val6 ((atV t p).getD Nd.zero) aA an ac kA kn kc),.bool (atV t p).isSome])∧NodeV (Old w') w' aA an ac kA kn kc ((atV t p).getD Nd.zero)∧Below w.heap.size w w'
set_option maxHeartbeats 4000000 in
theorem at_any (w:World) (t:Nd) (aA kA:Option Addr) (an ac kn kc:Nat) (h:NodeV (Old w) w aA an ac kA kn kc t) (pA:Option Addr) (pn pc:Nat) (p:List Int) (hp:Its w pA pn p) (hpn:pn≤maxLen)
    (hbig:weighV t≤1000000) :
    Calls Try.prog 35 #[.agg (val6 t aA an ac kA kn kc),.slice pA pn pc] w (AtAns w t p):=by
  have h':=Lib.hid h
  have hp':=Lib.hid hp
  have hpl:=Lib.hid hp.1
  clear h hp
  unfold maxLen at hpn
  unfold val6
  go_enter Try.func35,Try.ntmps35
  go_wp2_with fail
  go_loopw [10] (fun k wr=>∃ (q:Nat) (s:Nd) (sA skA:Option Addr) (sn sc skn skc:Nat),q≤pn∧k = .int .i64 (q:Int)∧atV t p = atV s (p.drop q)∧weighV s≤1000000∧NodeV (Old w) w sA sn sc skA skn skc s ∧
    wr.heap[w.heap.size]? = some (.cells (val6 s sA sn sc skA skn skc) 42 (0,0))∧wr.heap[w.heap.size + 1]? = some (.cells zero6 42 (0,0))∧Below w.heap.size w wr) (fun k _=>pn - (intOf k).toNat)
  case atStart =>
    exact ⟨0,t,aA,kA,an,ac,kn,kc,Nat.zero_le _,rfl,rfl,hbig,h'.out,two_first w _ _,two_second w _ _,((Below.refl _ w).alloc (Nat.le_refl _) _).alloc (by simp) _⟩
  case round =>
    obtain ⟨q,s,sA,skA,sn,sc,skn,skc,hq,rfl,hat,hz,hv,hB,hR,hbel⟩:=hrel
    have hf:=hv.facts
    have hkl:=hf.kl
    have hb:=weigh_rows s
    unfold val6 at hB
    unfold zero6 at hR
    obtain ⟨c0,c1,c2,c3,c4,c5,cf⟩:=six_cells hB
    obtain ⟨r0,r1,r2,r3,r4,r5,rf⟩:=six_cells hR
    have hBl:=(Array.getElem?_eq_some_iff.1 hB).1
    have hRl:=(Array.getElem?_eq_some_iff.1 hR).1
    by_cases h1:q < pn
    · have h1I:(q:Int) < (pn:Int):=by omega
      obtain ⟨ad,i,rfl,hi,hci⟩:=(hp'.out.below hbel).at_ h1
      have hdrop:p.drop q = i :: p.drop (q + 1):=by
        have hl:q < p.length:=by rw [hpl.out];exact h1
        rw [List.drop_eq_getElem_cons hl]
        rw [List.getElem?_eq_getElem hl] at hi
        injection hi with hi
        rw [hi]
      rw [hdrop] at hat
      have hkm:=hf.kcm
      have hknc:=hf.knc
      rcases hasB_cases skn i with hno | ⟨j,rfl,hj,hyes⟩
      · have hcall:=Lib.hid (hasChild_any wr (s.id:Int) s.leaf s.label s.text sA skA sn sc skn skc i (by omega))
        rw [hno] at hcall
        have hans:=Lib.hid (hat.trans (atV_none (by rw [hkl];exact hno)))
        have hbel':=Lib.hid hbel
        have hR':=Lib.hid hR
        clear hat hf hkl hv hB hR hbel hno hdrop hkm hknc hz hb hi
        go_wp2_with (go_at_call 75;refine hcall.out.mono ?_;rintro e w1 ⟨rfl,hb1⟩;have R1:=(hb1.block _ hRl).trans hR'.out;obtain ⟨d0,d1,d2,d3,d4,d5,df⟩:=six_cells R1)
        have hW:w.heap.size + 1 < w1.heap.size:=(Array.getElem?_eq_some_iff.1 R1).1
        have R9:=set_six (b0:=.int .u64 0) (b1:=.bool false) (b2:=.string ⟨#[]⟩) (b3:=.slice none 0 0) (b4:=.string ⟨#[]⟩) (b5:=.slice none 0 0) R1
        have hb9:Below w.heap.size w _:=below_six (hbel'.out.trans (hb1.mono hbel'.out.size)) (b0:=.int .u64 0) (b1:=.bool false) (b2:=.string ⟨#[]⟩) (b3:=.slice none 0 0) (b4:=.string ⟨#[]⟩) (b5:=.slice none 0 0) (Nat.le_succ w.heap.size)
        generalize ((((((w1.setCell ⟨w.heap.size + 1,0,none⟩ (.int .u64 0)).setCell ⟨w.heap.size + 1,1,none⟩ (.bool false)).setCell ⟨w.heap.size + 1,2,none⟩ (.string ⟨#[]⟩)).setCell ⟨w.heap.size + 1,3,none⟩ (.slice none 0 0)).setCell ⟨w.heap.size + 1,4,none⟩ (.string ⟨#[]⟩)).setCell ⟨w.heap.size + 1,5,none⟩ (.slice none 0 0)) = W9 at R9 hb9 ⊢
        obtain ⟨d0,d1,d2,d3,d4,d5,df⟩:=six_cells R9
        refine bodyPost_ret (v:=.tuple #[.agg zero6,.bool false]) (by simp [results,Try.results35,go_sem,d0,d1,d2,d3,d4,d5,zero6]) rfl ?_
        exact ⟨none,0,0,none,0,0,by rw [hans.out];rfl,by rw [hans.out];exact zero_node,hb9⟩
      · obtain ⟨kd,hkd⟩:∃ kd,s.kids[j]? = some kd:=⟨s.kids[j]'(by omega),List.getElem?_eq_getElem _⟩
        obtain ⟨ka,rfl,hka,aA3,an3,ac3,kA3,kn3,kc3,hsix,hv3⟩:=hf.row.at_ hkd
        rw [Nat.zero_add] at hka hsix
        have hcall:=Lib.hid (hasChild_any wr (s.id:Int) s.leaf s.label s.text sA (some ka) sn sc skn skc (j:Int) (by omega))
        rw [hyes] at hcall
        have hans:=Lib.hid (hat.trans (atV_some hkd))
        have hpath:=Lib.hid (Nat.le_trans (weigh_kid hkd) hz)
        have hjI:(j:Int) < (skn:Int):=by omega
        have hbel':=Lib.hid hbel
        have hR':=Lib.hid hR
        have hv3':=Lib.hid hv3
        clear hat hf hkl hv hR hbel hyes hdrop hkm hknc hz hb hi hkd hv3
        go_wp2_with (go_at_call 75;refine hcall.out.mono ?_;rintro e w1 ⟨rfl,hb1⟩;have B1:=(hb1.block _ hBl).trans hB;have R1:=(hb1.block _ hRl).trans hR'.out;obtain ⟨d0,d1,d2,d3,d4,d5,df⟩:=six_cells B1;obtain ⟨s0,s1,s2,s3,s4,s5⟩:=hsix.kept (w':=w1) (((hbel'.out.trans (hb1.mono hbel'.out.size))).block _ hka))
        go_roundw
        case rel =>
          have hbw:=hbel'.out.trans (hb1.mono hbel'.out.size)
          refine ⟨q + 1,kd,aA3,kA3,an3,ac3,kn3,kc3,by omega,by go_num,hans.out,hpath.out,hv3'.out,set_six B1,(set_six_other (by omega)).trans R1,below_six hbw (Nat.le_refl _)⟩
        case measure=>simp [intOf];omega
    · have h1I:¬ (q:Int) < (pn:Int):=by omega
      have hans:=Lib.hid (show atV t p = some s by rw [hat,List.drop_of_length_le (by rw [hpl.out];omega)];rfl)
      have hcall:=Lib.hid (owned_any wr (Old w) s sA skA sn sc skn skc (hv.kept (fun _ h=>h) (fun k hk=>hbel.block k hk)) (fun k hk=>Nat.lt_of_lt_of_le hk hbel.size) (by have:=hf.ats.1;omega) (by omega))
      have hv':=Lib.hid (hv.kept (w':=wr) (fun _ h=>h) (fun k hk=>hbel.block k hk))
      have hbel':=Lib.hid hbel
      have hR':=Lib.hid hR
      clear hat hf hkl hv hR hbel hz hb hB
      go_wp2_with (go_at_call 76;refine hcall.out.mono ?_;rintro e w1 ⟨oA,oc,okA,okc,gA,ks,rfl,hO⟩;have R1:=(hO.bel.block _ hRl).trans hR'.out;obtain ⟨d0,d1,d2,d3,d4,d5,df⟩:=six_cells R1;have hO':=Lib.hid hO;clear hO)
      have R9:=set_six (b0:=.int .u64 (s.id:Int)) (b1:=.bool s.leaf) (b2:=.string ⟨s.label.toArray⟩) (b3:=.slice oA sn oc) (b4:=.string ⟨s.text.toArray⟩) (b5:=.slice okA skn okc) R1
      have hO:=hO'.out
      have hbw:=hbel'.out.trans (hO.bel.mono hbel'.out.size)
      have hb9:Below w.heap.size w _:=below_six hbw (b0:=.int .u64 (s.id:Int)) (b1:=.bool s.leaf) (b2:=.string ⟨s.label.toArray⟩) (b3:=.slice oA sn oc) (b4:=.string ⟨s.text.toArray⟩) (b5:=.slice okA skn okc) (Nat.le_succ w.heap.size)
      have hz1:=hO.bel.size
      have hN:NodeV (Old ((((((w1.setCell ⟨w.heap.size + 1,0,none⟩ (.int .u64 (s.id:Int))).setCell ⟨w.heap.size + 1,1,none⟩ (.bool s.leaf)).setCell ⟨w.heap.size + 1,2,none⟩ (.string ⟨s.label.toArray⟩)).setCell ⟨w.heap.size + 1,3,none⟩ (.slice oA sn oc)).setCell ⟨w.heap.size + 1,4,none⟩ (.string ⟨s.text.toArray⟩)).setCell ⟨w.heap.size + 1,5,none⟩ (.slice okA skn okc))) ((((((w1.setCell ⟨w.heap.size + 1,0,none⟩ (.int .u64 (s.id:Int))).setCell ⟨w.heap.size + 1,1,none⟩ (.bool s.leaf)).setCell ⟨w.heap.size + 1,2,none⟩ (.string ⟨s.label.toArray⟩)).setCell ⟨w.heap.size + 1,3,none⟩ (.slice oA sn oc)).setCell ⟨w.heap.size + 1,4,none⟩ (.string ⟨s.text.toArray⟩)).setCell ⟨w.heap.size + 1,5,none⟩ (.slice okA skn okc)) oA sn oc okA skn okc s:=(hO.node hv'.out (fun k hk=>Nat.lt_of_lt_of_le hk hbel'.out.size)).kept (fun k hk=>by
          show k < _
          have hsz:=hbel'.out.size
          simp only [World.size_setCell]
          rcases hk with hk | hk
          · have:k < w.heap.size:=hk
            omega
          · exact hk.2) (fun k hk=>set_six_other (by
          rcases hk with hk | hk
          · have:k < w.heap.size:=hk
            omega
          · omega))
      generalize ((((((w1.setCell ⟨w.heap.size + 1,0,none⟩ (.int .u64 (s.id:Int))).setCell ⟨w.heap.size + 1,1,none⟩ (.bool s.leaf)).setCell ⟨w.heap.size + 1,2,none⟩ (.string ⟨s.label.toArray⟩)).setCell ⟨w.heap.size + 1,3,none⟩ (.slice oA sn oc)).setCell ⟨w.heap.size + 1,4,none⟩ (.string ⟨s.text.toArray⟩)).setCell ⟨w.heap.size + 1,5,none⟩ (.slice okA skn okc)) = W9 at R9 hb9 hN ⊢
      obtain ⟨f0,f1,f2,f3,f4,f5,ff⟩:=six_cells R9
      refine bodyPost_ret (v:=.tuple #[.agg (val6 s oA sn oc okA skn okc),.bool true]) (by simp [results,Try.results35,go_sem,f0,f1,f2,f3,f4,f5,val6]) rfl ?_
      exact ⟨oA,sn,oc,okA,skn,okc,by rw [hans.out];rfl,by rw [hans.out];exact hN,hb9⟩
end Go.Proofs.Ytpoenlhikanooaa
namespace Go.Proofs.Ytpoenlhikanooaa
set_option linter.unusedVariables false
open Go.RowKit
set_option maxRecDepth 20000

end Go.Proofs.Ytpoenlhikanooaa
namespace Go.Proofs.Ytpoenlhikanooaa
set_option linter.unusedVariables false
open Go.RowKit
set_option maxRecDepth 20000

def six (w:World) (g e:Nat) (b0 b1 b2 b3 b4 b5:Value):World :=
  (((((w.setCell ⟨g,e,none⟩ b0).setCell ⟨g,e + 1,none⟩ b1).setCell ⟨g,e + 2,none⟩ b2).setCell ⟨g,e + 3,none⟩ b3).setCell ⟨g,e + 4,none⟩ b4).setCell ⟨g,e + 5,none⟩ b5
section
variable {w:World} {g e:Nat} {b0 b1 b2 b3 b4 b5:Value} {cs:Array Value} {ty:TypeId}
end
end Go.Proofs.Ytpoenlhikanooaa
namespace Go.Proofs.Ytpoenlhikanooaa
set_option linter.unusedVariables false
open Go.RowKit
set_option maxRecDepth 20000

structure Bx (W:World) (b:Nat) (s:Nd) (aA kA:Option Addr) (an ac kn kc:Nat):Prop where
  lt:b < W.heap.size
  row:W.heap[b]? = some (.cells (val6 s aA an ac kA kn kc) 42 (0,0))
  node:NodeV (Old W) W aA an ac kA kn kc s
section
variable {W W':World} {b:Nat} {s:Nd} {aA kA:Option Addr} {an ac kn kc:Nat}
theorem Bx.below (h:Bx W b s aA kA an ac kn kc) (hb:Below W.heap.size W W'):Bx W' b s aA kA an ac kn kc:=⟨Nat.lt_of_lt_of_le h.lt hb.size,(hb.block b h.lt).trans h.row,h.node.below hb⟩
theorem Bx.new (h:NodeV (Old W) W aA an ac kA kn kc s):Bx (W.alloc (.cells (val6 s aA an ac kA kn kc) 42)) W.heap.size s aA kA an ac kn kc :=
  ⟨by simp,heap_alloc_new W _,h.below ((Below.refl _ _).alloc (Nat.le_refl _) _)⟩
theorem Bx.cells (h:Bx W b s aA kA an ac kn kc):W.cell? ⟨b,0,none⟩ = some (.int .u64 (s.id:Int))∧W.cell? ⟨b,1,none⟩ = some (.bool s.leaf)∧W.cell? ⟨b,2,none⟩ = some (.string ⟨s.label.toArray⟩)∧W.cell? ⟨b,3,none⟩ = some (.slice aA an ac) ∧
    W.cell? ⟨b,4,none⟩ = some (.string ⟨s.text.toArray⟩)∧W.cell? ⟨b,5,none⟩ = some (.slice kA kn kc):=by
  have h:=h.row
  unfold val6 at h
  obtain ⟨c0,c1,c2,c3,c4,c5,-⟩:=six_cells h
  exact ⟨c0,c1,c2,c3,c4,c5⟩
end
end Go.Proofs.Ytpoenlhikanooaa
namespace Go.Proofs.Ytpoenlhikanooaa
open Go.RowKit
set_option maxRecDepth 20000
set_option linter.unusedVariables false

end Go.Proofs.Ytpoenlhikanooaa
namespace Go.Proofs.Ytpoenlhikanooaa.P5
set_option linter.unusedVariables false
open Go.RowKit
set_option maxRecDepth 20000
open Ltx (Pc)

theorem DraftAt.also {w:World} {S:Nat→Prop} {base p:Nat} {d:DV} (h:DraftAt w S base p d):DraftAt w (Also S w w) base p d:=by
  obtain ⟨h1,h2,v1,v2,hp,hd,ht,s1,s2⟩:=h
  exact ⟨fun k hk=>by rcases hk with hk | hk;exact h1 k hk;omega,.inl h2,v1,v2,hp,hd,ht,fun k hk=>.inl (s1 k hk),fun k hk=>.inl (s2 k hk)⟩
end Go.Proofs.Ytpoenlhikanooaa.P5
namespace Go.Proofs.Ytpoenlhikanooaa.P5
set_option linter.unusedVariables false
open Go.RowKit
set_option maxRecDepth 20000
open Ltx (Pc)

def totP (l:List Pc):Nat:=Ltx.extent l + Ltx.puts l
def DV.tot (d:DV):Nat:=totP (d.done ++ [d.last])
def Drf (w:World) (S:Nat→Prop) (base p:Nat) (raw:List Pc):Prop:=∃ d:DV,DraftAt w S base p d∧d.For raw∧d.tot = totP raw
theorem Drf.kept {w w':World} {S:Nat→Prop} {base p:Nat} {raw:List Pc} (h:Drf w S base p raw) (hs:w.heap.size≤w'.heap.size) (hk:∀ k,S k→w'.heap[k]? = w.heap[k]?):Drf w' S base p raw:=by
  obtain ⟨d,h1,h2⟩:=h
  exact ⟨d,h1.kept hs hk,h2⟩
theorem Drf.lt {w:World} {S:Nat→Prop} {base p:Nat} {raw:List Pc} (h:Drf w S base p raw):∀ k,S k→base≤k∧k < w.heap.size:=by
  obtain ⟨d,h1,_⟩:=h
  exact h1.own
theorem Drf.below {w w':World} {S:Nat→Prop} {base p:Nat} {raw:List Pc} (h:Drf w S base p raw) (hb:Below w.heap.size w w'):Drf w' S base p raw :=
  h.kept hb.size fun k hk=>hb.block k (h.lt k hk).2
theorem Drf.new {w:World} {base:Nat} (hb:base≤w.heap.size):Drf (w.alloc (.cells #[.slice none 0 0,.int .i64 0,.slice none 0 0,.int .i64 0] 134)) (fun k=>k = w.heap.size) base w.heap.size []:=by
  refine ⟨DV.fresh,⟨fun k hk=>?_,rfl,.slice none 0 0,.slice none 0 0,heap_alloc_new w _,OwnP.nil_ _ _,OwnB.nil_ _ _,(fun k hk=>by cases hk),(fun k hk=>by cases hk)⟩,DV.For.fresh,rfl⟩
  subst hk
  exact ⟨hb,by simp⟩
section
variable {w:World} {S:Nat→Prop} {base p:Nat} {raw:List Pc}
end
end Go.Proofs.Ytpoenlhikanooaa.P5
namespace Go.Proofs.Ytpoenlhikanooaa.P5
set_option linter.unusedVariables false
open Go.RowKit
set_option maxRecDepth 20000
open Ltx (Pc)

theorem FrX.cells {S:Nat→Prop} {w w':World} {b:Nat} {cs:Array Value} {t:TypeId} {fr:Nat × Nat} (h:FrX S w w') (hb:w.heap[b]? = some (.cells cs t fr)) (hn:¬ S b):w'.heap[b]? = some (.cells cs t fr) :=
  (h.block b (Array.getElem?_eq_some_iff.1 hb).1 hn).trans hb
theorem own_base {w:World} {base b:Nat} {e:TypeId} {size:Nat} {v:Value} {n:Nat} {xs:List Value} (h:w.ownsRow base e size v n xs) (hb:b≤base):w.ownsRow b e size v n xs:=by
  refine ⟨h.1,?_⟩
  rcases h.2 with h0 | ⟨g,cap,cur,rfl,hg,rest⟩
  · exact .inl h0
  · exact .inr ⟨g,cap,cur,rfl,Nat.le_trans hb hg,rest⟩
end Go.Proofs.Ytpoenlhikanooaa.P5
namespace Go.Proofs.Ytpoenlhikanooaa.P5
set_option linter.unusedVariables false
open Go.RowKit
set_option maxRecDepth 20000
open Ltx (Pc)

set_option maxHeartbeats 2000000 in
theorem rright_any (w:World) (A:Option Addr) (n c:Nat) (xs:List IP) (hx:PcsIn w A n xs) (hn:n≤maxLen) :
    Calls Try.prog 105 #[.slice A n c] w fun e w'=>e = .returned (.bool (rightV xs))∧Below w.heap.size w w':=by
  have hx':=Lib.hid hx
  have hlen:=hx.1
  clear hx
  have hn':(n:Int)≤9223372036854775807:=by unfold maxLen at hn;omega
  by_cases h60:4096 < n
  · have hv:=Lib.hid (not_right_len (xs:=xs) (by omega))
    have hI:(4096:Int) < (n:Int):=by omega
    clear h60 hlen
    go_enter Try.func105,Try.ntmps105
    go_wp2_with fail
    go_ret
    exact ⟨by rw [hv.out];rfl,Below.refl _ _⟩
  · have hI:¬ (4096:Int) < (n:Int):=by omega
    go_enter Try.func105,Try.ntmps105
    go_wp2_with fail
    go_loopw [3,4] (fun s k wr=>∃ q:Nat,q≤n∧k = .int .i64 (q:Int)∧s = .int .i64 (putsI (xs.take q):Int)∧putsI (xs.take q)≤1048576∧(xs.take q).all okB = true∧Below w.heap.size w wr) (fun _ k _=>n - (intOf k).toNat)
    case atStart=>exact ⟨0,Nat.zero_le _,rfl,by simp [putsI],by simp [putsI],rfl,Below.refl _ _⟩
    case round =>
      obtain ⟨q,hq,rfl,rfl,hs,hall,hbel⟩:=hrel
      by_cases h1:q < n
      · have h1I:(q:Int) < (n:Int):=by omega
        obtain ⟨ad,x,rfl,hxq,hlt,hp⟩:=(hx'.out.below hbel).at_ h1
        obtain ⟨x1,x2,x3,x4,x5,x6,x7,x8⟩:=hp
        have hst:=putsI_take xs q x hxq
        have hle:=putsI_le xs (q + 1)
        obtain ⟨kp,dr,pu⟩:=x
        simp only at *
        unfold maxLen at x5
        generalize hS:putsI (xs.take q) = s at *
        have hmem:(⟨kp,dr,pu⟩:IP) ∈ xs:=List.mem_of_getElem? hxq
        have hbel':=Lib.hid hbel
        by_cases hok:(0≤kp∧kp≤1048576∧0≤dr∧dr≤1048576)∧s + pu.length≤1048576
        · obtain ⟨⟨a1,a2,a3,a4⟩,a5⟩:=hok
          have hokx:okB ⟨kp,dr,pu⟩ = true:=by unfold okB mayB;simp;omega
          have hall':=Lib.hid (all_take_succ hxq hall hokx)
          have b1:¬ kp < 0:=by omega
          have b2:¬ (1048576:Int) < kp:=by omega
          have b3:¬ dr < 0:=by omega
          have b4:¬ (1048576:Int) < dr:=by omega
          have b5:¬ (1048576:Int) - (s:Int) < (pu.length:Int):=by omega
          have hst':=Lib.hid hst
          clear hS hst hle hall hokx hbel hxq hmem hlen
          go_wp2_with fail
          go_roundw
          case rel=>exact ⟨q + 1,by omega,by go_num,by rw [hst'.out];go_num,by rw [hst'.out];exact a5,hall'.out,hbel'.out⟩
          case measure=>simp [intOf];omega
        · have hv:rightV xs = false:=by
            by_cases hp:1048576 < s + pu.length
            · exact not_right_puts (by omega)
            · refine not_right_of hmem ?_
              unfold okB mayB
              simp
              omega
          have hv':=Lib.hid hv
          have hcs:kp < 0∨(¬ kp < 0∧(1048576:Int) < kp)∨(¬ kp < 0∧¬ (1048576:Int) < kp∧dr < 0)∨(¬ kp < 0∧¬ (1048576:Int) < kp∧¬ dr < 0∧(1048576:Int) < dr)∨(¬ kp < 0∧¬ (1048576:Int) < kp∧¬ dr < 0∧¬ (1048576:Int) < dr∧(1048576:Int) - (s:Int) < (pu.length:Int)):=by omega
          clear hS hst hle hall hbel hxq hmem hlen hok hv
          rcases hcs with b1 | ⟨b1,b2⟩ | ⟨b1,b2,b3⟩ | ⟨b1,b2,b3,b4⟩ | ⟨b1,b2,b3,b4,b5⟩
          all_goals
            go_wp2_with fail
            go_ret
            exact ⟨by rw [hv'.out];rfl,hbel'.out⟩
      · have hqn:q = n:=by omega
        have h1I:¬ (q:Int) < (n:Int):=by omega
        have hv:=Lib.hid (right_of (xs:=xs) (by omega) (by rw [hqn,← hlen,List.take_length] at hall;exact hall) (by rw [hqn,← hlen,List.take_length] at hs;exact hs))
        have hbel':=Lib.hid hbel
        clear hlen hs hall hbel hqn h1
        go_wp2_with fail
        go_ret
        exact ⟨by rw [hv.out];rfl,hbel'.out⟩
theorem PcsIn.pc {w:World} {A:Option Addr} {n q:Nat} {l:List Pc} (h:PcsIn w A n (l.map ipc)) (hq:q < n):∃ ad p,A = some ad∧l[q]? = some p∧ad.block < w.heap.size∧PieceAt w (ad.add (q * 3)) (ipc p):=by
  obtain ⟨ad,x,e,hx,hl,hp⟩:=h.at_ hq
  rw [List.getElem?_map] at hx
  cases hpq:l[q]? with
  | none=>rw [hpq] at hx;cases hx
  | some p =>
    rw [hpq] at hx
    injection hx with hx
    subst hx
    exact ⟨ad,p,e,rfl,hl,hp⟩
end Go.Proofs.Ytpoenlhikanooaa.P5
namespace Go.Proofs.Ytpoenlhikanooaa.P5
set_option linter.unusedVariables false
open Go.RowKit
set_option maxRecDepth 20000
open Ltx (Pc)

end Go.Proofs.Ytpoenlhikanooaa.P5
namespace Go.Proofs.Ytpoenlhikanooaa.P5
set_option linter.unusedVariables false
open Go.RowKit
set_option maxRecDepth 20000
open Ltx (Pc)

end Go.Proofs.Ytpoenlhikanooaa.P5
namespace Go.Proofs.Ytpoenlhikanooaa.P5
set_option linter.unusedVariables false
open Go.RowKit
set_option maxRecDepth 20000

structure Bld (w:World) (S:Nat→Prop) (base b:Nat) (bs:List UInt8):Prop where
  own:∀ k,S k→base≤k∧k < w.heap.size
  here:S b
  dat:∃ (p v:Value),(p = .pointer none∨p = .pointer (some ⟨b,0,none⟩))∧w.heap[b]? = some (.cells #[p,v] 166 (0,0))∧OwnB base w v bs∧∀ k,v.ownBlock = some k→S k
end Go.Proofs.Ytpoenlhikanooaa.P5
namespace Go.Proofs.Ytpoenlhikanooaa
set_option linter.unusedVariables false
open Go.RowKit
set_option maxRecDepth 20000

theorem kid_at {w wr:World} {t kd:Nd} {kA:Option Addr} {q:Nat} (hr:RowAt (Old w) w kA 0 t.kids) (hk:t.kids[q]? = some kd) (hb:Below w.heap.size w wr) :
    ∃ (ka:Addr) (aA:Option Addr) (an ac:Nat) (kA':Option Addr) (kn kc:Nat),kA = some ka∧Six wr (ka.add (q * 6)) kd aA an ac kA' kn kc∧NodeV (Old wr) wr aA an ac kA' kn kc kd:=by
  obtain ⟨ka,rfl,hka,aA3,an3,ac3,kA3,kn3,kc3,hsix,hv3⟩:=(hr.kept (T':=Old w) (w':=wr) (fun _ h=>h) (fun k hk=>hb.block k hk)).at_ hk
  rw [Nat.zero_add] at hka hsix
  exact ⟨ka,aA3,an3,ac3,kA3,kn3,kc3,rfl,hsix,hv3.kept (fun k hk=>Nat.lt_of_lt_of_le hk hb.size) (fun _ _=>rfl)⟩
theorem get_kid {l:List Nd} {q n:Nat} (hl:l.length = n) (hq:q < n):∃ kd,l[q]? = some kd:=⟨l[q]'(by omega),List.getElem?_eq_getElem _⟩
end Go.Proofs.Ytpoenlhikanooaa
namespace Go.Proofs.Ytpoenlhikanooaa
set_option linter.unusedVariables false
open Go.RowKit
set_option maxRecDepth 20000

theorem key_first {s:Txt} (h:keyB s = true):ltB [] s = true:=by
  unfold keyB at h
  have h:=of_decide_eq_true h
  cases s with
  | nil=>simp at h
  | cons a r=>unfold ltB;simp [Op.bytesLess]
theorem rkey_quiet (s:Txt) (w:World) (hs:s.length≤maxLen):Calls Try.prog 128 #[.string ⟨s.toArray⟩] w fun e w'=>e = .returned (.bool (keyB s))∧∃ d,w' = w.drewN d :=
  (rkey_any s w hs).mono (by rintro e w' ⟨rfl,rfl⟩;exact ⟨rfl,0,rfl⟩)
set_option maxHeartbeats 8000000 in
theorem rright_any (t:Nd):∀ (w:World) (aA kA:Option Addr) (an ac kn kc:Nat),NodeV (Old w) w aA an ac kA kn kc t →
    Calls Try.prog 132 #[.agg (val6 t aA an ac kA kn kc)] w fun e w'=>e = .returned (.bool (rightsV ltB t))∧Below w.heap.size w w':=by
  induction t using Nd.ind with
  | _ t ih =>
  intro w aA kA an ac kn kc h
  have ih':=Lib.hid ih
  have hf:=h.facts
  have f1:=Lib.hid hf.ats
  have f1l:=Lib.hid hf.ats.1
  have f3:=hf.anc
  have f3m:=hf.acm
  have f4:=Lib.hid hf.row
  have f6:=hf.knc
  have f6m:=hf.kcm
  have f7:=Lib.hid hf.kl
  have hlab:=hf.label
  have htxt:=hf.text
  unfold maxLen at hlab htxt f3m f6m
  clear ih h hf
  have hR0:=Lib.hid (rightsV_eq ltB t)
  unfold val6
  by_cases hl:t.label.length≤64
  · have hlI:¬ (64:Int) < (t.label.length:Int):=by omega
    cases hlf:t.leaf with
    | true =>
      by_cases hk0:kn = 0
      · have hk0I:¬ (0:Int) < (kn:Int):=by omega
        have hR:=Lib.hid (show rightsV ltB t = (attrsOk ltB [] t.attrs && rightssV ltB t.kids) by
          have:t.kids = []:=List.length_eq_zero_iff.1 (by rw [f7.out];exact hk0)
          rw [hR0.out,aloneOk,decide_eq_true hl,hlf,this]
          simp)
        subst hk0
        go_enter Try.func132,Try.ntmps132
        go_wp2_with fail
        go_loopw [3] (fun k wr=>∃ (q:Nat) (last:Txt),q≤an∧k = .int .i64 (q:Int)∧(q = 0→last = [])∧(∀ pq y,q = pq + 1→t.attrs[pq]? = some y→y.1 = last)∧attrsOk ltB [] t.attrs = attrsOk ltB last (t.attrs.drop q) ∧
          wr.heap[w.heap.size]? = some (.cells (val6 t aA an ac kA 0 kc) 42 (0,0))∧Below w.heap.size w wr) (fun k _=>an - (intOf k).toNat)
        case atStart=>exact ⟨0,[],Nat.zero_le _,rfl,fun _=>rfl,fun pq y h=>by omega,rfl,by unfold val6;rw [hlf];exact heap_alloc_new w _,(Below.refl _ _).alloc (Nat.le_refl _) _⟩
        case round =>
          obtain ⟨q,last,hq,rfl,hl0,hl1,hok,hB,hbel⟩:=hrel
          have hB':=Lib.hid hB
          unfold val6 at hB
          obtain ⟨c0,c1,c2,c3,c4,c5,cf⟩:=six_cells hB
          have hbel':=Lib.hid hbel
          clear hB hbel
          by_cases h1:q < an
          · have h1I:(q:Int) < (an:Int):=by omega
            obtain ⟨ad,x,rfl,hxq,hlt,x1,x2,x3,x4⟩:=(f1.out.kept (T':=Old w) (w':=wr) (fun _ h=>h) (fun k hk=>hbel'.out.block k hk)).at_ h1
            obtain ⟨ky,va⟩:=x
            simp only at *
            have hdr:t.attrs.drop q = (ky,va) :: t.attrs.drop (q + 1):=by rw [List.drop_eq_getElem?_toList_append,hxq];rfl
            have hprev:∀ pq,q = pq + 1→∃ va2,wr.cell? (ad.add (pq * 2)) = some (.string ⟨last.toArray⟩)∧va2 = va:=fun pq hp=>by
              obtain ⟨ad',y,e,hyq,-,-,-,y3,-⟩:=(f1.out.kept (T':=Old w) (w':=wr) (fun _ h=>h) (fun k hk=>hbel'.out.block k hk)).at_ (q:=pq) (by omega)
              cases e
              rw [hl1 pq y hp hyq] at y3
              exact ⟨va,y3,rfl⟩
            cases hk:keyB ky with
            | false =>
              have hv:=Lib.hid (show rightsV ltB t = false by rw [hR.out,hok,hdr,attrsOk,hk];rfl)
              have hkq:=Lib.hid (fun d=>rkey_quiet ky (wr.drewN d) x1)
              rw [hk] at hkq
              clear hok hdr hxq hprev hl1 hl0 hk
              go_wp2_with fail
              go_quiet ((go_at_call 128;exact Calls.quiet_of (hkq.out _)))
              go_wp2_with fail
              go_ret
              exact ⟨by rw [hv.out];rfl,draws hbel'.out _⟩
            | true =>
              have hkq:=Lib.hid (fun d=>rkey_quiet ky (wr.drewN d) x1)
              rw [hk] at hkq
              unfold maxLen at x2
              by_cases h256:va.length≤256
              · have i2:¬ (256:Int) < (va.length:Int):=by omega
                have i2d:decide ((256:Int) < (va.length:Int)) = false:=decide_eq_false i2
                by_cases hq0:q = 0
                · have hv:=Lib.hid (show attrsOk ltB [] t.attrs = attrsOk ltB ky (t.attrs.drop (q + 1)) by rw [hok,hl0 hq0,hdr,attrsOk,hk,key_first hk,decide_eq_true h256];simp)
                  have hnx:=Lib.hid (show ∀ pq y,q + 1 = pq + 1→t.attrs[pq]? = some y→y.1 = ky from fun pq y h hy=>by
                    obtain rfl:pq = q:=by omega
                    rw [hxq] at hy
                    injection hy with hy
                    rw [← hy])
                  have hq0I:¬ (0:Int) < (q:Int):=by omega
                  have hq0d:decide (0 < q) = false:=decide_eq_false (by omega)
                  clear hok hdr hxq hprev hl1 hl0 hk hq0
                  go_wp2_with fail
                  go_quiet ((go_at_call 128;exact Calls.quiet_of (hkq.out _)))
                  go_wp2_with fail
                  go_roundw
                  case rel=>exact ⟨q + 1,ky,by omega,by go_num,fun h=>by omega,hnx.out,hv.out,hB'.out,draws hbel'.out _⟩
                  case measure=>simp [intOf];omega
                · obtain ⟨pq,hpq⟩:∃ pq,q = pq + 1:=⟨q - 1,by omega⟩
                  obtain ⟨-,y3,-⟩:=hprev pq hpq
                  have hq0I:(0:Int) < (q:Int):=by omega
                  have hq0d:decide (0 < q) = true:=decide_eq_true (by omega)
                  have hpqW:IntKind.i64.wrap ((q:Int) - 1) = (pq:Int):=by rw [show (q:Int) - 1 = (pq:Int) by omega];exact IntWalk.i64_in _ (by omega)
                  have hpqI:(q:Int) - 1 = (pq:Int):=by omega
                  have hpqL:(pq:Int) < (an:Int):=by omega
                  cases ho:ltB last ky with
                  | false =>
                    have hv:=Lib.hid (show rightsV ltB t = false by rw [hR.out,hok,hdr,attrsOk,hk,ho];rfl)
                    have ho':(Op.bytesLess ky last || ky == last) = true:=by unfold ltB at ho;cases hb:(Op.bytesLess ky last || ky == last) with | true=>rfl | false=>(rw [hb] at ho;cases ho)
                    clear hok hdr hxq hprev hl1 hl0 hk ho hpq hq0
                    go_wp2_with fail
                    go_quiet ((go_at_call 128;exact Calls.quiet_of (hkq.out _)))
                    go_wp2_with fail
                    go_ret
                    exact ⟨by rw [hv.out];rfl,draws hbel'.out _⟩
                  | true =>
                    have hv:=Lib.hid (show attrsOk ltB [] t.attrs = attrsOk ltB ky (t.attrs.drop (q + 1)) by rw [hok,hdr,attrsOk,hk,ho,decide_eq_true h256];simp)
                    have hnx:=Lib.hid (show ∀ pq y,q + 1 = pq + 1→t.attrs[pq]? = some y→y.1 = ky from fun pq y h hy=>by
                      obtain rfl:pq = q:=by omega
                      rw [hxq] at hy
                      injection hy with hy
                      rw [← hy])
                    have ho':(Op.bytesLess ky last || ky == last) = false:=by unfold ltB at ho;exact Bool.not_eq_true' _ |>.mp ho
                    clear hok hdr hxq hprev hl1 hl0 hk ho hpq hq0
                    go_wp2_with fail
                    go_quiet ((go_at_call 128;exact Calls.quiet_of (hkq.out _)))
                    go_wp2_with fail
                    go_roundw
                    case rel=>exact ⟨q + 1,ky,by omega,by go_num,fun h=>by omega,hnx.out,hv.out,hB'.out,draws hbel'.out _⟩
                    case measure=>simp [intOf];omega
              · have i2:(256:Int) < (va.length:Int):=by omega
                have i2d:decide ((256:Int) < (va.length:Int)) = true:=decide_eq_true i2
                have hv:=Lib.hid (show rightsV ltB t = false by rw [hR.out,hok,hdr,attrsOk,hk,decide_eq_false h256];simp)
                clear hok hdr hxq hprev hl1 hl0 hk
                go_wp2_with fail
                go_quiet ((go_at_call 128;exact Calls.quiet_of (hkq.out _)))
                go_wp2_with fail
                go_ret
                exact ⟨by rw [hv.out];rfl,draws hbel'.out _⟩
          · have h1I:¬ (q:Int) < (an:Int):=by omega
            have hall:=Lib.hid (show rightsV ltB t = rightssV ltB t.kids by rw [hR.out,hok,List.drop_of_length_le (by rw [f1l.out];omega)];simp [attrsOk])
            clear hok hl1 hl0
            go_wp2_with fail
            go_loopw [4] (fun k wr=>∃ q:Nat,q≤0∧k = .int .i64 (q:Int)∧rightssV ltB t.kids = rightssV ltB (t.kids.drop q)∧wr.heap[w.heap.size]? = some (.cells (val6 t aA an ac kA 0 kc) 42 (0,0))∧Below w.heap.size w wr) (fun k _=>0 - (intOf k).toNat)
            case atStart=>exact ⟨0,Nat.zero_le _,rfl,rfl,hB'.out,hbel'.out⟩
            case round =>
              obtain ⟨q2,hq2,rfl,hok2,hB2,hbel2⟩:=hrel
              have hB2':=Lib.hid hB2
              have hBl2:=Lib.hid (Array.getElem?_eq_some_iff.1 hB2).1
              have hbel2':=Lib.hid hbel2
              unfold val6 at hB2
              clear c0 c1 c2 c3 c4 c5 cf
              obtain ⟨c0,c1,c2,c3,c4,c5,cf⟩:=six_cells hB2
              clear hB2 hbel2
              by_cases m1:q2 < 0
              · omega
              · have m1I:¬ (q2:Int) < (0:Int):=by omega
                have hv:=Lib.hid (show rightsV ltB t = true by rw [hall.out,hok2,List.drop_of_length_le (by rw [f7.out];omega)];rfl)
                clear hok2
                go_wp2_with fail
                go_ret
                exact ⟨by rw [hv.out];rfl,hbel2'.out⟩
      · have hk0I:(0:Int) < (kn:Int):=by omega
        have hv:=Lib.hid (show rightsV ltB t = false by
          have:t.kids.isEmpty = false:=by rw [isEmpty_len];exact decide_eq_false (by rw [f7.out];exact hk0)
          rw [hR0.out,aloneOk,hlf,this]
          simp)
        go_enter Try.func132,Try.ntmps132
        go_wp2_with fail
        go_ret
        exact ⟨by rw [hv.out];rfl,(Below.refl _ _).alloc (Nat.le_refl _) _⟩
    | false =>
      cases htx:t.text with
      | nil =>
        have hR:=Lib.hid (show rightsV ltB t = (attrsOk ltB [] t.attrs && rightssV ltB t.kids) by
          rw [hR0.out,aloneOk,decide_eq_true hl,hlf,htx]
          simp)
        go_enter Try.func132,Try.ntmps132
        go_wp2_with fail
        go_loopw [3] (fun k wr=>∃ (q:Nat) (last:Txt),q≤an∧k = .int .i64 (q:Int)∧(q = 0→last = [])∧(∀ pq y,q = pq + 1→t.attrs[pq]? = some y→y.1 = last)∧attrsOk ltB [] t.attrs = attrsOk ltB last (t.attrs.drop q) ∧
          wr.heap[w.heap.size]? = some (.cells (val6 t aA an ac kA kn kc) 42 (0,0))∧Below w.heap.size w wr) (fun k _=>an - (intOf k).toNat)
        case atStart=>exact ⟨0,[],Nat.zero_le _,rfl,fun _=>rfl,fun pq y h=>by omega,rfl,by unfold val6;rw [hlf,htx];exact heap_alloc_new w _,(Below.refl _ _).alloc (Nat.le_refl _) _⟩
        case round =>
          obtain ⟨q,last,hq,rfl,hl0,hl1,hok,hB,hbel⟩:=hrel
          have hB':=Lib.hid hB
          unfold val6 at hB
          obtain ⟨c0,c1,c2,c3,c4,c5,cf⟩:=six_cells hB
          have hbel':=Lib.hid hbel
          clear hB hbel
          by_cases h1:q < an
          · have h1I:(q:Int) < (an:Int):=by omega
            obtain ⟨ad,x,rfl,hxq,hlt,x1,x2,x3,x4⟩:=(f1.out.kept (T':=Old w) (w':=wr) (fun _ h=>h) (fun k hk=>hbel'.out.block k hk)).at_ h1
            obtain ⟨ky,va⟩:=x
            simp only at *
            have hdr:t.attrs.drop q = (ky,va) :: t.attrs.drop (q + 1):=by rw [List.drop_eq_getElem?_toList_append,hxq];rfl
            have hprev:∀ pq,q = pq + 1→∃ va2,wr.cell? (ad.add (pq * 2)) = some (.string ⟨last.toArray⟩)∧va2 = va:=fun pq hp=>by
              obtain ⟨ad',y,e,hyq,-,-,-,y3,-⟩:=(f1.out.kept (T':=Old w) (w':=wr) (fun _ h=>h) (fun k hk=>hbel'.out.block k hk)).at_ (q:=pq) (by omega)
              cases e
              rw [hl1 pq y hp hyq] at y3
              exact ⟨va,y3,rfl⟩
            cases hk:keyB ky with
            | false =>
              have hv:=Lib.hid (show rightsV ltB t = false by rw [hR.out,hok,hdr,attrsOk,hk];rfl)
              have hkq:=Lib.hid (fun d=>rkey_quiet ky (wr.drewN d) x1)
              rw [hk] at hkq
              clear hok hdr hxq hprev hl1 hl0 hk
              go_wp2_with fail
              go_quiet ((go_at_call 128;exact Calls.quiet_of (hkq.out _)))
              go_wp2_with fail
              go_ret
              exact ⟨by rw [hv.out];rfl,draws hbel'.out _⟩
            | true =>
              have hkq:=Lib.hid (fun d=>rkey_quiet ky (wr.drewN d) x1)
              rw [hk] at hkq
              unfold maxLen at x2
              by_cases h256:va.length≤256
              · have i2:¬ (256:Int) < (va.length:Int):=by omega
                have i2d:decide ((256:Int) < (va.length:Int)) = false:=decide_eq_false i2
                by_cases hq0:q = 0
                · have hv:=Lib.hid (show attrsOk ltB [] t.attrs = attrsOk ltB ky (t.attrs.drop (q + 1)) by rw [hok,hl0 hq0,hdr,attrsOk,hk,key_first hk,decide_eq_true h256];simp)
                  have hnx:=Lib.hid (show ∀ pq y,q + 1 = pq + 1→t.attrs[pq]? = some y→y.1 = ky from fun pq y h hy=>by
                    obtain rfl:pq = q:=by omega
                    rw [hxq] at hy
                    injection hy with hy
                    rw [← hy])
                  have hq0I:¬ (0:Int) < (q:Int):=by omega
                  have hq0d:decide (0 < q) = false:=decide_eq_false (by omega)
                  clear hok hdr hxq hprev hl1 hl0 hk hq0
                  go_wp2_with fail
                  go_quiet ((go_at_call 128;exact Calls.quiet_of (hkq.out _)))
                  go_wp2_with fail
                  go_roundw
                  case rel=>exact ⟨q + 1,ky,by omega,by go_num,fun h=>by omega,hnx.out,hv.out,hB'.out,draws hbel'.out _⟩
                  case measure=>simp [intOf];omega
                · obtain ⟨pq,hpq⟩:∃ pq,q = pq + 1:=⟨q - 1,by omega⟩
                  obtain ⟨-,y3,-⟩:=hprev pq hpq
                  have hq0I:(0:Int) < (q:Int):=by omega
                  have hq0d:decide (0 < q) = true:=decide_eq_true (by omega)
                  have hpqW:IntKind.i64.wrap ((q:Int) - 1) = (pq:Int):=by rw [show (q:Int) - 1 = (pq:Int) by omega];exact IntWalk.i64_in _ (by omega)
                  have hpqI:(q:Int) - 1 = (pq:Int):=by omega
                  have hpqL:(pq:Int) < (an:Int):=by omega
                  cases ho:ltB last ky with
                  | false =>
                    have hv:=Lib.hid (show rightsV ltB t = false by rw [hR.out,hok,hdr,attrsOk,hk,ho];rfl)
                    have ho':(Op.bytesLess ky last || ky == last) = true:=by unfold ltB at ho;cases hb:(Op.bytesLess ky last || ky == last) with | true=>rfl | false=>(rw [hb] at ho;cases ho)
                    clear hok hdr hxq hprev hl1 hl0 hk ho hpq hq0
                    go_wp2_with fail
                    go_quiet ((go_at_call 128;exact Calls.quiet_of (hkq.out _)))
                    go_wp2_with fail
                    go_ret
                    exact ⟨by rw [hv.out];rfl,draws hbel'.out _⟩
                  | true =>
                    have hv:=Lib.hid (show attrsOk ltB [] t.attrs = attrsOk ltB ky (t.attrs.drop (q + 1)) by rw [hok,hdr,attrsOk,hk,ho,decide_eq_true h256];simp)
                    have hnx:=Lib.hid (show ∀ pq y,q + 1 = pq + 1→t.attrs[pq]? = some y→y.1 = ky from fun pq y h hy=>by
                      obtain rfl:pq = q:=by omega
                      rw [hxq] at hy
                      injection hy with hy
                      rw [← hy])
                    have ho':(Op.bytesLess ky last || ky == last) = false:=by unfold ltB at ho;exact Bool.not_eq_true' _ |>.mp ho
                    clear hok hdr hxq hprev hl1 hl0 hk ho hpq hq0
                    go_wp2_with fail
                    go_quiet ((go_at_call 128;exact Calls.quiet_of (hkq.out _)))
                    go_wp2_with fail
                    go_roundw
                    case rel=>exact ⟨q + 1,ky,by omega,by go_num,fun h=>by omega,hnx.out,hv.out,hB'.out,draws hbel'.out _⟩
                    case measure=>simp [intOf];omega
              · have i2:(256:Int) < (va.length:Int):=by omega
                have i2d:decide ((256:Int) < (va.length:Int)) = true:=decide_eq_true i2
                have hv:=Lib.hid (show rightsV ltB t = false by rw [hR.out,hok,hdr,attrsOk,hk,decide_eq_false h256];simp)
                clear hok hdr hxq hprev hl1 hl0 hk
                go_wp2_with fail
                go_quiet ((go_at_call 128;exact Calls.quiet_of (hkq.out _)))
                go_wp2_with fail
                go_ret
                exact ⟨by rw [hv.out];rfl,draws hbel'.out _⟩
          · have h1I:¬ (q:Int) < (an:Int):=by omega
            have hall:=Lib.hid (show rightsV ltB t = rightssV ltB t.kids by rw [hR.out,hok,List.drop_of_length_le (by rw [f1l.out];omega)];simp [attrsOk])
            clear hok hl1 hl0
            go_wp2_with fail
            go_loopw [4] (fun k wr=>∃ q:Nat,q≤kn∧k = .int .i64 (q:Int)∧rightssV ltB t.kids = rightssV ltB (t.kids.drop q)∧wr.heap[w.heap.size]? = some (.cells (val6 t aA an ac kA kn kc) 42 (0,0))∧Below w.heap.size w wr) (fun k _=>kn - (intOf k).toNat)
            case atStart=>exact ⟨0,Nat.zero_le _,rfl,rfl,hB'.out,hbel'.out⟩
            case round =>
              obtain ⟨q2,hq2,rfl,hok2,hB2,hbel2⟩:=hrel
              have hB2':=Lib.hid hB2
              have hBl2:=Lib.hid (Array.getElem?_eq_some_iff.1 hB2).1
              have hbel2':=Lib.hid hbel2
              unfold val6 at hB2
              clear c0 c1 c2 c3 c4 c5 cf
              obtain ⟨c0,c1,c2,c3,c4,c5,cf⟩:=six_cells hB2
              clear hB2 hbel2
              by_cases m1:q2 < kn
              · have m1I:(q2:Int) < (kn:Int):=by omega
                obtain ⟨kd,hkd⟩:=get_kid f7.out m1
                obtain ⟨ka,aA3,an3,ac3,kA3,kn3,kc3,rfl,⟨s0,s1,s2,s3,s4,s5⟩,hv3⟩:=kid_at f4.out hkd hbel2'.out
                have hcall:=Lib.hid (ih'.out kd (List.mem_of_getElem? hkd) wr aA3 kA3 an3 ac3 kn3 kc3 hv3)
                have hdr:t.kids.drop q2 = kd :: t.kids.drop (q2 + 1):=by rw [List.drop_eq_getElem?_toList_append,hkd];rfl
                unfold val6 at hcall
                cases hr:rightsV ltB kd with
                | false =>
                  have hv:=Lib.hid (show rightsV ltB t = false by rw [hall.out,hok2,hdr,rightssV,hr];rfl)
                  rw [hr] at hcall
                  clear hkd hv3 hdr hok2 hr
                  go_wp2_with fail
                  refine hcall.out.mono ?_
                  rintro e w2 ⟨rfl,hb2⟩
                  have hb2':=Lib.hid hb2
                  clear hb2 hcall
                  go_wp2_with fail
                  go_ret
                  exact ⟨by rw [hv.out];rfl,hbel2'.out.trans (hb2'.out.mono hbel2'.out.size)⟩
                | true =>
                  have hv:=Lib.hid (show rightssV ltB t.kids = rightssV ltB (t.kids.drop (q2 + 1)) by rw [hok2,hdr,rightssV,hr];rfl)
                  rw [hr] at hcall
                  clear hkd hv3 hdr hok2 hr
                  go_wp2_with fail
                  refine hcall.out.mono ?_
                  rintro e w2 ⟨rfl,hb2⟩
                  have hb2':=Lib.hid hb2
                  clear hb2 hcall
                  go_wp2_with fail
                  go_roundw
                  case rel=>exact ⟨q2 + 1,by omega,by go_num,hv.out,(hb2'.out.block _ hBl2.out).trans hB2'.out,hbel2'.out.trans (hb2'.out.mono hbel2'.out.size)⟩
                  case measure=>simp [intOf];omega
              · have m1I:¬ (q2:Int) < (kn:Int):=by omega
                have hv:=Lib.hid (show rightsV ltB t = true by rw [hall.out,hok2,List.drop_of_length_le (by rw [f7.out];omega)];rfl)
                clear hok2
                go_wp2_with fail
                go_ret
                exact ⟨by rw [hv.out];rfl,hbel2'.out⟩
      | cons ch rest =>
        have hv:=Lib.hid (show rightsV ltB t = false by
          rw [hR0.out,aloneOk,hlf,htx]
          simp)
        go_enter Try.func132,Try.ntmps132
        go_wp2_with fail
        go_ret
        exact ⟨by rw [hv.out];rfl,(Below.refl _ _).alloc (Nat.le_refl _) _⟩
  · have hlI:(64:Int) < (t.label.length:Int):=by omega
    have hv:=Lib.hid (show rightsV ltB t = false by rw [hR0.out,aloneOk,decide_eq_false hl];rfl)
    go_enter Try.func132,Try.ntmps132
    go_wp2_with fail
    go_ret
    exact ⟨by rw [hv.out];rfl,(Below.refl _ _).alloc (Nat.le_refl _) _⟩
end Go.Proofs.Ytpoenlhikanooaa
namespace Go.Proofs.Ytpoenlhikanooaa
set_option linter.unusedVariables false
open Go.RowKit
set_option maxRecDepth 20000

end Go.Proofs.Ytpoenlhikanooaa
namespace Go.Proofs.Ytpoenlhikanooaa
set_option linter.unusedVariables false
open Go.RowKit
set_option maxRecDepth 20000

end Go.Proofs.Ytpoenlhikanooaa
namespace Go.Proofs.Ytpoenlhikanooaa.Top
open Go.RowKit
set_option maxRecDepth 20000
set_option linter.unusedVariables false

def Nw (T:Nat→Prop) (w w':World) (k:Nat):Prop:=T k∨(w.heap.size≤k∧k < w'.heap.size)
def AtAns (T:Nat→Prop) (w:World) (t:Nd) (p:List Int) (e:Ending) (w':World):Prop :=
  ∃ aA an ac kA kn kc,e = .returned (.tuple #[.agg (val6 ((atV t p).getD Nd.zero) aA an ac kA kn kc),.bool (atV t p).isSome])∧NodeV (Nw T w w') w' aA an ac kA kn kc ((atV t p).getD Nd.zero)∧Below w.heap.size w w'
end Go.Proofs.Ytpoenlhikanooaa.Top
namespace Go.Proofs.Ytpoenlhikanooaa.Top
open Go.RowKit
set_option maxRecDepth 20000
set_option linter.unusedVariables false

def NodeA (T:Nat→Prop) (w:World) (a:Nd) (e:Ending) (w':World):Prop :=
  ∃ aA an ac kA kn kc,e = .returned (.agg (val6 a aA an ac kA kn kc))∧NodeV (Nw T w w') w' aA an ac kA kn kc a∧Below w.heap.size w w'
theorem three_new (w:World) (o1 o2 o3:Obj):((((w.alloc o1).alloc o2).alloc o3).heap[w.heap.size]? = some o1)∧((((w.alloc o1).alloc o2).alloc o3).heap[w.heap.size + 1]? = some o2)∧((((w.alloc o1).alloc o2).alloc o3).heap[w.heap.size + 1 + 1]? = some o3)∧Below w.heap.size w (((w.alloc o1).alloc o2).alloc o3)∧(((w.alloc o1).alloc o2).alloc o3).heap.size = w.heap.size + 1 + 1 + 1:=by
  have h1:=heap_alloc_new w o1
  have h2:=heap_alloc_new (w.alloc o1) o2
  have h3:=heap_alloc_new ((w.alloc o1).alloc o2) o3
  rw [World.size_alloc] at h2
  rw [World.size_alloc,World.size_alloc] at h3
  exact ⟨(Go.heap_alloc_old _ _ (by simp <;> omega)).trans ((Go.heap_alloc_old _ _ (by simp)).trans h1),(Go.heap_alloc_old _ _ (by simp)).trans h2,h3,(((Below.refl _ _).alloc (Nat.le_refl _) _).alloc (by simp) _).alloc (by simp <;> omega) _,by simp⟩
end Go.Proofs.Ytpoenlhikanooaa.Top
