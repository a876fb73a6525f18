/- MgAF: TreF TreM TreO TreV TreX TopVal LtxE LtxF LtxG LtxH LtxI LtxJ LtxK TreQ TreS TreT TreW -/
import Derived.Test.YtmipodnffhngaaaMgAE
import Derived.Deep.AppendLies
import Derived.Deep.CutRange
import Derived.IntWalk
import Derived.BigQuiet
import Derived.Test.YtmipodnffhngaaaMgAC
import Derived.Deep.RegionHeld3
import Derived.RegionTactic
import Derived.BigRegion
import Derived.Lib.Builder
import Derived.Deep.Cut
set_option linter.all false
namespace Go.Proofs.Ytmipodnffhngaaa
set_option linter.unusedVariables false
open Go.RowKit
set_option maxRecDepth 20000

def Rws (T:Nat→Prop) (w:World) (s:Stk) (xs:List Value):Prop :=
  ∀ (d:Nat) (row:List Nd),s.reverse[d]? = some row→∃ (A:Option Addr) (n c:Nat),xs[d]? = some (.slice A n c)∧n = row.length∧n≤c∧c≤maxLen∧(A = none→c = 0)∧RowAt T w A 0 row
structure WalkAt (T S:Nat→Prop) (base:Nat) (w:World) (p:Nat) (s:Stk):Prop where
  own:∀ k,S k→base≤k∧k < w.heap.size
  apart:∀ k,T k→¬ S k
  told:∀ k,T k→k < w.heap.size
  here:S p
  dat:∃ (g n cap:Nat) (xs:List Value),w.heap[p]? = some (.cells #[.slice (some ⟨g,0,none⟩) n cap] 109 (0,0))∧n = s.length∧w.ownsRow base 31 1 (.slice (some ⟨g,0,none⟩) n cap) n xs∧S g∧Rws T w s xs
theorem WalkAt.kept {T S:Nat→Prop} {base p:Nat} {w w':World} {s:Stk} (h:WalkAt T S base w p s) (hs:w.heap.size≤w'.heap.size) (hk:∀ k,T k∨S k→w'.heap[k]? = w.heap[k]?):WalkAt T S base w' p s:=by
  obtain ⟨h1,h2,h3,h4,g,n,cap,xs,hp,hn,ho,hg,hr⟩:=h
  refine ⟨fun k hS=>⟨(h1 k hS).1,Nat.lt_of_lt_of_le (h1 k hS).2 hs⟩,h2,fun k hT=>Nat.lt_of_lt_of_le (h3 k hT) hs,h4,g,n,cap,xs,(hk p (.inr h4)).trans hp,hn,own_kept ho fun k hk'=>hk k (.inr ?_),hg,fun d row hd=>?_⟩
  · have e:g = k:=by simpa [Value.ownBlock] using hk'
    rw [← e]
    exact hg
  · obtain ⟨A,m,c,e1,e2,e3,e4,e5,e6⟩:=hr d row hd
    exact ⟨A,m,c,e1,e2,e3,e4,e5,e6.kept (fun _ h=>h) (fun k hT=>hk k (.inl hT)) _ _ _⟩
def Also (S:Nat→Prop) (w w':World) (k:Nat):Prop:=S k∨(w.heap.size≤k∧k < w'.heap.size)
theorem own_set_cut {w:World} {base g n cap d:Nat} {e:TypeId} {xs:List Value} (h:w.ownsRow base e 1 (.slice (some ⟨g,0,none⟩) n cap) n xs) (hd:d < n) (v:Value) :
    (w.setCell ⟨g,d,none⟩ v).ownsRow base e 1 (.slice (some ⟨g,0,none⟩) (d + 1) cap) (d + 1) (xs.take d ++ [v]):=by
  have hl:=h.1
  rcases h.2 with ⟨e1,_⟩ | ⟨g',cap',cur,e1,hb,hg,hnc,hcm,hcs,htake⟩
  · cases e1
  · injection e1 with e1 e2 e3
    injection e1 with e1
    injection e1 with e1 _ _
    subst e1 e3
    refine ⟨by rw [List.length_append,List.length_take,hl];simp;omega,.inr ⟨g,cap,_,rfl,hb,heap_setCell_same w g d cur e v hg,by omega,hcm,by simp [hcs],?_⟩⟩
    have hcl:d < cur.toList.length:=by rw [Array.length_toList,hcs];omega
    rw [Array.toList_setIfInBounds,Nat.mul_one,← htake,List.take_take,show min d (n * 1) = d by omega]
    rw [List.take_add_one,List.take_set_of_le (Nat.le_refl _)]
    congr 1
    have hcl2:d < cur.size:=by rw [hcs];omega
    simp [List.getElem?_set,hcl2]
def NextPost (T S:Nat→Prop) (base:Nat) (w:World) (p:Nat) (s:Stk) (e:Ending) (w':World):Prop :=
  match nextV s with
  | none=>e = .returned (.tuple #[.int .i64 0,.pointer none])∧w' = w
  | some (d,x,s')=>∃ E,e = .returned (.tuple #[.int .i64 (d:Int),.pointer (some E)])∧NodeAt T w' E x∧WalkAt T (Also S w w') base w' p s'∧FrX S w w'
theorem add_zero (ad:Addr):ad.add 0 = ad:=by unfold Addr.add;rw [if_pos rfl]
theorem own_frozen {w:World} {base:Nat} {e:TypeId} {size g n cap:Nat} {xs:List Value} (h:w.ownsRow base e size (.slice (some ⟨g,0,none⟩) n cap) n xs) (o:Nat):w.frozen? ⟨g,o,none⟩ = false:=by
  rcases h.2 with ⟨e1,_⟩ | ⟨g',cap',cur,e1,hb,hg,_⟩
  · cases e1
  · injection e1 with e1 _ _
    injection e1 with e1
    injection e1 with e1 _ _
    subst e1
    exact frozen_of_row w g o _ _ hg
theorem own_cap {w:World} {base:Nat} {e:TypeId} {size g n cap:Nat} {xs:List Value} (h:w.ownsRow base e size (.slice (some ⟨g,0,none⟩) n cap) n xs):n≤cap:=by
  rcases h.2 with ⟨e1,_⟩ | ⟨g',cap',cur,e1,hb,hg,hc,_⟩
  · cases e1
  · injection e1 with _ _ e3
    omega
theorem Try.infoRow:(Try.prog.info? 31).map (fun i=>(i.zero,i.size,i.bytes)) = some (some (.slice none 0 0),1,24):=by kernel_rfl
theorem nextV_skip:∀ (e s:Stk),(∀ row ∈ e,row = [])→nextV (e ++ s) = nextV s
  | [],s,_=>rfl
  | a :: e,s,h=>by
    obtain rfl:=h a (List.mem_cons_self ..)
    rw [List.cons_append,nextV]
    exact nextV_skip e s fun row hr=>h row (List.mem_cons_of_mem _ hr)
theorem rev_at (e:Stk) (row:List Nd) (rest:Stk):(e ++ row :: rest).reverse[rest.length]? = some row:=by
  rw [List.reverse_append,List.reverse_cons,List.append_assoc,List.getElem?_append_right (by simp)]
  simp
theorem next_done {w W1 w4:World} {T S:Nat→Prop} {base p g g' d cap cap' n:Nat} {s e:Stk} {x:Nd} {r:List Nd} {rest:Stk} {xs:List Value} {v1:Value} {ad:Addr} {aA kA:Option Addr} {an ac kn kc:Nat} {o:Obj}
    (h:WalkAt T S base w p s) (hbase:base≤w.heap.size) (hs:s = e ++ (x :: r) :: rest) (hd:d = rest.length) (hr:Rws T w s xs) (hxl:d < xs.length)
    (V1:∃ (A:Option Addr) (n c:Nat),v1 = .slice A n c∧n = r.length∧n≤c∧c≤maxLen∧(A = none→c = 0)∧RowAt T w A 0 r)
    (hkv:NodeV T w aA an ac kA kn kc x) (hNE:NodeAt T w ad x) (hg:S g) (o1:∀ k,k ≠ g→W1.heap[k]? = w.heap[k]?) (z1:W1.heap.size = w.heap.size) (F1:FrX S w W1)
    (ho4:w4.ownsRow base 31 1 (.slice (some ⟨g',0,none⟩) (d + 1 + 1) cap') (d + 1 + 1) (xs.take d ++ [v1] ++ [.slice kA kn kc]))
    (hg4:World.grownBy ((W1.alloc o).drew) w4 (Value.ownBlock (.slice (some ⟨g,0,none⟩) (d + 1) cap))) (hat:Value.ownBlock (.slice (some ⟨g,0,none⟩) (d + 1) cap) = some g'∨g' = W1.heap.size + 1)
    (p4:w4.heap[p]? = some (.cells #[.slice (some ⟨g,0,none⟩) n cap] 109 (0,0))) :
    NodeAt T (w4.setCell ⟨p,0,none⟩ (.slice (some ⟨g',0,none⟩) (d + 1 + 1) cap')) ad x∧WalkAt T (Also S w (w4.setCell ⟨p,0,none⟩ (.slice (some ⟨g',0,none⟩) (d + 1 + 1) cap'))) base (w4.setCell ⟨p,0,none⟩ (.slice (some ⟨g',0,none⟩) (d + 1 + 1) cap')) p (x.kids :: r :: rest)∧FrX S w (w4.setCell ⟨p,0,none⟩ (.slice (some ⟨g',0,none⟩) (d + 1 + 1) cap')):=by
  obtain ⟨h1,h2,h3,h4,-⟩:=h
  have hz4:W1.heap.size + 1≤w4.heap.size:=by have:=hg4.size;simpa using this
  have F4:FrX S w w4:=⟨hg4.os.trans F1.os,hg4.tape.trans F1.tape,hg4.output.trans F1.output,by omega,fun k hk hn=>by
    rw [hg4.block k (by simp;omega) (fun e=>by injection e with e;exact hn (e ▸ hg))]
    exact (Go.heap_alloc_old W1 _ (by omega)).trans (F1.block k hk hn)⟩
  obtain ⟨w5,hw5⟩:∃ w5,w5 = w4.setCell ⟨p,0,none⟩ (.slice (some ⟨g',0,none⟩) (d + 1 + 1) cap'):=⟨_,rfl⟩
  rw [← hw5]
  have F5:FrX S w w5:=by rw [hw5];exact F4.setCell h4
  have p5:w5.heap[p]? = some (.cells #[.slice (some ⟨g',0,none⟩) (d + 1 + 1) cap'] 109 (0,0)):=by rw [hw5];exact heap_setCell_same w4 p 0 _ _ _ p4
  have z5:w5.heap.size = w4.heap.size:=by rw [hw5];simp
  have ho5:w5.ownsRow base 31 1 (.slice (some ⟨g',0,none⟩) (d + 1 + 1) cap') (d + 1 + 1) (xs.take d ++ [v1] ++ [.slice kA kn kc]):=own_kept ho4 fun k hk=>by
    rw [hw5]
    exact heap_setCell_other w4 ⟨p,0,none⟩ k _ (fun e=>own_ne ho4 p4 (by decide) (by rw [hk,e]))
  clear hw5
  have kT:∀ k,T k→w5.heap[k]? = w.heap[k]?:=fun k hk=>F5.block k (h3 k hk) (h2 k hk)
  have hg'lt:=(World.ownsRow.lt ho5 g' rfl).2
  have hfk:=hkv.facts
  refine ⟨hNE.kept (fun _ h=>h) kT,⟨?_,?_,?_,.inl h4,g',d + 1 + 1,cap',_,p5,by simp [hd],ho5,?_,?_⟩,F5⟩
  · intro k hk
    rcases hk with hk | hk
    · have:=h1 k hk
      have:=F5.size
      omega
    · omega
  · intro k hT hk
    rcases hk with hk | hk
    · exact h2 k hT hk
    · have:=h3 k hT
      omega
  · intro k hT
    have:=h3 k hT
    have:=F5.size
    omega
  · rcases hat with e | e
    · injection e with e
      exact .inl (e ▸ hg)
    · exact .inr ⟨by omega,by omega⟩
  · intro i row hi
    have hrev:(x.kids :: r :: rest).reverse = rest.reverse ++ [r] ++ [x.kids]:=by simp
    rw [hrev] at hi
    have hl1:(rest.reverse ++ [r]).length = d + 1:=by simp [hd]
    have hl2:(xs.take d ++ [v1]).length = d + 1:=by rw [List.length_append,List.length_take];simp;omega
    have hl3:(xs.take d).length = d:=by rw [List.length_take];omega
    have hl4:rest.reverse.length = d:=by simp [hd]
    have hili:=(List.getElem?_eq_some_iff.1 hi).1
    rw [List.length_append,hl1] at hili
    simp only [List.length_cons,List.length_nil] at hili
    rcases Nat.lt_or_ge i d with hid | hid
    · rw [List.getElem?_append_left (by omega),List.getElem?_append_left (by omega)] at hi
      have hso:s.reverse[i]? = some row:=by
        rw [hs,List.reverse_append,List.reverse_cons,List.append_assoc,List.getElem?_append_left (by omega)]
        exact hi
      obtain ⟨A,m,c,e1,e2,e3,e4,e5,e6⟩:=hr i row hso
      refine ⟨A,m,c,?_,e2,e3,e4,e5,e6.kept (fun _ h=>h) kT _ _ _⟩
      rw [List.getElem?_append_left (by omega),List.getElem?_append_left (by omega),List.getElem?_take,if_pos hid]
      exact e1
    · rcases Nat.lt_or_ge i (d + 1) with hid2 | hid2
      · obtain rfl:i = d:=by omega
        rw [List.getElem?_append_left (by omega),List.getElem?_append_right (by omega),hl4,Nat.sub_self] at hi
        injection hi with hi
        subst hi
        obtain ⟨A,m,c,e1,e2,e3,e4,e5,e6⟩:=V1
        refine ⟨A,m,c,?_,e2,e3,e4,e5,e6.kept (fun _ h=>h) kT _ _ _⟩
        rw [List.getElem?_append_left (by omega),List.getElem?_append_right (by omega),hl3,Nat.sub_self,e1]
        rfl
      · obtain rfl:i = d + 1:=by omega
        rw [List.getElem?_append_right (by omega),hl1,Nat.sub_self] at hi
        injection hi with hi
        subst hi
        refine ⟨kA,kn,kc,?_,hfk.kl.symm,hfk.knc,hfk.kcm,hfk.knil,hfk.row.kept (fun _ h=>h) kT _ _ _⟩
        rw [List.getElem?_append_right (by omega),hl2,Nat.sub_self]
        rfl
theorem Also.drewN {S:Nat→Prop} {w w':World} (n:Nat):Also S w (w'.drewN n) = Also S w w':=rfl
set_option maxHeartbeats 4000000 in
theorem next_any (w:World) (T S:Nat→Prop) (base p:Nat) (s:Stk) (h:WalkAt T S base w p s) (hlen:s.length≤1000000) (hbase:base≤w.heap.size) :
    Calls Try.prog 114 #[.pointer (some ⟨p,0,none⟩)] w (NextPost T S base w p s):=by
  have h0:=Lib.hid h
  obtain ⟨h1,h2,h3,h4,g,n,cap,xs,hp,hn,ho,hg,hr⟩:=h
  have c0:=cell_of_row w p 0 _ _ _ hp
  have f0:=frozen_of_row w p 0 _ _ hp
  simp at c0
  have hnb:n≤1000000:=by omega
  have h1':=Lib.hid h1
  have h2':=Lib.hid h2
  have h3':=Lib.hid h3
  have hp':=Lib.hid hp
  have hn':=Lib.hid hn
  have ho':=Lib.hid ho
  have hr':=Lib.hid hr
  have hlen':=Lib.hid hlen
  clear h1 h2 h3 hp hn ho hr hlen
  go_enter Try.func114,Try.ntmps114
  go_wp2_with fail
  go_loopw [5] (fun dv wr=>∃ (z:Int) (e s2:Stk),dv = .int .i64 z∧z + 1 = (s2.length:Int)∧s2.length≤n∧s = e ++ s2∧(∀ row ∈ e,row = [])∧wr = w) (fun dv _=>(intOf dv + 1).toNat)
  case atStart=>exact ⟨_,[],s,rfl,by have:=hn'.out;omega,by have:=hn'.out;omega,rfl,by simp,rfl⟩
  case round =>
    obtain ⟨z,e,s2,rfl,hz,hs2,hs,he,rfl⟩:=hrel
    cases s2 with
    | nil =>
      have hzI:¬ (0:Int)≤z:=by simp at hz;omega
      have hv:=Lib.hid (show nextV s = none by rw [hs,nextV_skip e [] he];rfl)
      clear hz hs he hs2
      go_wp2_with fail
      refine bodyPost_ret (v:=.tuple #[.int .i64 0,.pointer none]) (by simp [results,Try.results114,go_sem]) rfl ?_
      unfold NextPost
      rw [hv.out]
      exact ⟨rfl,rfl⟩
    | cons row rest =>
      obtain ⟨d,hd⟩:∃ d,d = rest.length:=⟨_,rfl⟩
      obtain rfl:z = (d:Int):=by simp at hz;omega
      have hdn:d < n:=by simp at hs2;omega
      obtain ⟨A,m,c,hx,hm,hmc,hcm,hA,hrow⟩:=hr'.out d row (by rw [hs,hd];exact rev_at e row rest)
      have cd:=World.ownsRow.cells ho'.out (g:=g) rfl d _ hx
      rw [add_zero_off] at cd
      have fd:=own_frozen ho'.out d
      have hdI:(d:Int) < (n:Int):=by omega
      have hx':=Lib.hid hx
      have hA':=Lib.hid hA
      have hrow':=Lib.hid hrow
      have hd':=Lib.hid hd
      clear hx hA hrow hd
      cases row with
      | nil =>
        obtain rfl:m = 0:=hm
        go_wp2_with fail
        go_roundw
        case rel=>exact ⟨(d:Int) - 1,e ++ [[]],rest,rfl,by have:=hd'.out;omega,by simp at hs2;omega,by rw [hs];simp,fun row hr=>by rcases List.mem_append.1 hr with hr | hr;exact he row hr;simpa using hr,trivial⟩
        case measure=>simp [intOf]
      | cons x r =>
        have hm1:1≤m:=by rw [hm];simp
        have hm0:(0:Int) < (m:Int):=by omega
        cases A with
        | none=>exact absurd (hA'.out rfl) (by omega)
        | some ad =>
          obtain ⟨E,eE,hNE⟩:=RowAt.at_ (q:=0) hrow'.out rfl
          have hNE':=Lib.hid hNE
          obtain ⟨hTE,aA,an,ac,kA,kn,kc,⟨k0,k1,k2,k3,k4,k5⟩,hkv⟩:=hNE
          injection eE with eE
          subst eE
          rw [show (0 + 0) * 6 = 0 by omega,add_zero] at hTE k5
          have hm':=Lib.hid hm
          have hs':=Lib.hid hs
          have he':=Lib.hid he
          have hz':=Lib.hid hz
          have hs2':=Lib.hid hs2
          have hkv':=Lib.hid hkv
          clear hm hs he hz hs2 hkv k0 k1 k2 k3 k4
          have hgad:ad.block ≠ g:=fun e=>h2'.out _ hTE (e ▸ hg)
          have hpg:p ≠ g:=fun e=>own_ne ho'.out hp'.out (by decide) (by rw [e];rfl)
          have hcv:∃ v1,(c = 1∧v1 = Value.slice (some ad) (m - 1) (c - 1)∨c ≠ 1∧v1 = Value.slice (some (ad.add 6)) (m - 1) (c - 1)):=by
            by_cases e:c = 1
            · exact ⟨_,.inl ⟨e,rfl⟩⟩
            · exact ⟨_,.inr ⟨e,rfl⟩⟩
          obtain ⟨v1,hv1⟩:=hcv
          have V1:Hid (∃ (A:Option Addr) (n c:Nat),v1 = .slice A n c∧n = r.length∧n≤c∧c≤maxLen∧(A = none→c = 0)∧RowAt T wr A 0 r):=by
            have hml:m = r.length + 1:=by rw [hm'.out];simp
            have hrest:=hrow'.out
            simp only [RowAt] at hrest
            rcases hv1 with ⟨e,rfl⟩ | ⟨e,rfl⟩
            · have hr0:r = []:=List.length_eq_zero_iff.1 (by omega)
              refine ⟨_,_,_,rfl,by omega,by omega,by omega,(fun h=>by cases h),?_⟩
              rw [hr0]
              simp [RowAt]
            · exact ⟨_,_,_,rfl,by omega,by omega,by omega,(fun h=>by cases h),RowAt.from_ 1 r 0 hrest.2⟩
          have own1:=own_set_cut ho'.out hdn v1
          rcases hv1 with ⟨hc1,hv1⟩ | ⟨hc1,hv1⟩
          · have hcT:(c = 1) = True:=eq_true hc1
            have hv1':=Lib.hid hv1
            clear hc1 hv1
            go_upto_region 8 with fail
            rw [← hv1'.out]
            clear hcT hv1'
            obtain ⟨W1,hW1⟩:∃ W1,W1 = wr.setCell ⟨g,d,none⟩ v1:=⟨_,rfl⟩
            rw [← hW1] at own1 ⊢
            have z1:W1.heap.size = wr.heap.size:=by rw [hW1];simp
            have o1:∀ k,k ≠ g→W1.heap[k]? = wr.heap[k]?:=fun k hk=>by rw [hW1];exact heap_setCell_other wr ⟨g,d,none⟩ k v1 hk
            have p1:=(o1 p hpg).trans hp'.out
            have F1:FrX S wr W1:=by rw [hW1];exact (FrX.refl S wr).setCell hg
            have k51:W1.cell? ⟨ad.block,ad.off + 5,none⟩ = some (.slice kA kn kc):=(World.cell?_of_block (w:=wr) (w':=W1) (a:=⟨ad.block,ad.off + 5,none⟩) (o1 _ hgad)).trans k5
            clear hW1 k5 c0 f0 cd fd
            have hsz:=(h1'.out p h4).2
            have hpW:p < W1.heap.size:=by rw [z1];exact hsz
            have hadW:ad.block < W1.heap.size:=by rw [z1];exact h3'.out _ hTE
            have hszg:=(h1'.out g hg).2
            have hTz:=h3'.out _ hTE
            obtain ⟨i0,hi0,hz0,hz1,hz2⟩:=info_parts Try.infoRow
            have hi0':=Lib.hid hi0
            have hz0':=Lib.hid hz0
            have hz1':=Lib.hid hz1
            have hz2':=Lib.hid hz2
            have hrw:=Lib.hid (show ∀ o,((W1.alloc o).drew).ownsRow base 31 1 (.slice (some ⟨g,0,none⟩) (d + 1) cap) (d + 1) (xs.take d ++ [v1]) from fun o=>World.ownsRow.alloc own1 o)
            have hnews:=Lib.hid (show ∀ (j:Nat) (u:Value),([.slice kA kn kc]:List Value)[j]? = some u→(W1.alloc (.cells #[.slice kA kn kc] 31)).drew.cell? ((⟨W1.heap.size,0,none⟩:Addr).add j) = some u from
              World.news_of_block (w:=W1.alloc (.cells #[.slice kA kn kc] 31)) (cs:=#[.slice kA kn kc]) (t:=31) (fr:=(0,0)) (heap_alloc_new W1 _))
            have hone:=Lib.hid (show ∀ u ∈ ([.slice kA kn kc]:List Value),u.oneCell' = true from by simp [Value.oneCell'])
            have hbd:=Lib.hid (show d + 1 + 1≤maxLen∧(d + 1 + 1) * 24≤140737488355328 from by unfold maxLen;omega)
            have hbd2:=Lib.hid (show ∀ o,base≤(W1.alloc o).drew.heap.size from fun o=>by simp;omega)
            have kk4:=Lib.hid (show ∀ w4 o,World.grownBy ((W1.alloc o).drew) w4 (Value.ownBlock (.slice (some ⟨g,0,none⟩) (d + 1) cap))→∀ k,k < W1.heap.size→k ≠ g→w4.heap[k]? = W1.heap[k]? from fun w4 o hg3 k hk hn=>by
              rw [hg3.block k (by simp;omega) (fun e=>by injection e with e;exact hn e)]
              exact Go.heap_alloc_old W1 _ hk)
            have own1':=Lib.hid own1
            have o1':=Lib.hid o1
            have p1':=Lib.hid p1
            have F1':=Lib.hid F1
            have hgadI:ad.block ≠ p:=fun e=>h2'.out _ hTE (e ▸ h4)
            have g1:(0:Int)≤(d:Int) + 1:=by omega
            have g2:((d:Int) + 1).toNat = d + 1:=by omega
            have g3:IntKind.i64.wrap ((d:Int) + 1) = (d:Int) + 1:=IntWalk.i64_in _ (by omega)
            have g4:d + 1≤cap:=by have:=own_cap ho'.out;omega
            have g5:(d:Int) + 1≤(cap:Int):=by omega
            have z1':=Lib.hid z1
            clear hi0 hz0 hz1 hz2 own1 o1 p1 F1 z1
            go_region_held3 (fun w'=>w'.cell? ⟨ad.block,ad.off + 5,none⟩ = some (.slice kA kn kc))
              (first
                | go_keep
                | exact kk.out
                | exact (World.cell?_of_block (w:=w4) (a:=⟨ad.block,ad.off + 5,none⟩) (heap_setCell_other w4 ⟨p,0,none⟩ ad.block _ hgadI)).trans kk.out)
              ((refine step_append_lies _ (by rfl) (.tmp 33) (.tmp 38) 109 (by rfl) base 31 i0 _ 1 24 Try.underlying109 hi0'.out hz0'.out hz1'.out hz2'.out rfl (by decide) (.slice (some ⟨g,0,none⟩) (d + 1) cap) (d + 1) (xs.take d ++ [v1]) (by rfl) (hrw.out _)
                  ⟨W1.heap.size,0,none⟩ 1 1 [.slice kA kn kc] (by rfl) (by rfl) hnews.out hone.out
                  (by decide) hbd.out.1 hbd.out.2 (hbd2.out _) (W1.heap.size + 1) (by simp) ?_;intro g' cap' w4 ho4 hg4 hat hlt4;have kk:=Lib.hid ((World.cell?_of_block (w:=W1) (w':=w4) (a:=⟨ad.block,ad.off + 5,none⟩) (kk4.out w4 _ hg4 _ hadW hgad)).trans k51);have p4:=(kk4.out w4 _ hg4 p hpW hpg).trans p1'.out;have c4:=cell_of_row w4 p 0 _ _ _ p4;have f4:=frozen_of_row w4 p 0 _ _ p4;have ho4':=Lib.hid ho4;have hg4':=Lib.hid hg4;have hat':=Lib.hid hat;have p4':=Lib.hid p4;clear ho4 hg4 hat p4))
            clear g1 g2 g3 g5
            go_wp2_with fail
            go_quiet (fail)
            go_wp2_with fail
            refine bodyPost_ret (v:=.tuple #[.int .i64 (d:Int),.pointer (some ad)]) (by simp [results,Try.results114,go_sem]) rfl ?_
            obtain ⟨q1,q2,q3⟩:=next_done h0.out hbase hs'.out hd'.out hr'.out (by have:=ho'.out.1;omega) V1.out hkv'.out (by have h:=hNE'.out;rw [show (0 + 0) * 6 = 0 by omega,add_zero] at h;exact h) hg o1'.out z1'.out F1'.out ho4'.out hg4'.out hat'.out p4'.out
            unfold NextPost
            rw [hs'.out,nextV_skip e _ he'.out]
            refine ⟨ad,by rw [hd'.out],q1.drewN _,?_,q3.drewN _⟩
            exact WalkAt.kept q2 (Nat.le_refl _) (fun _ _=>rfl)
          · rw [add_off _ _ (by omega)] at hv1
            have hv1':=Lib.hid hv1
            clear hv1
            go_upto_region 8 with fail
            rw [← hv1'.out]
            clear hc1 hv1'
            obtain ⟨W1,hW1⟩:∃ W1,W1 = wr.setCell ⟨g,d,none⟩ v1:=⟨_,rfl⟩
            rw [← hW1] at own1 ⊢
            have z1:W1.heap.size = wr.heap.size:=by rw [hW1];simp
            have o1:∀ k,k ≠ g→W1.heap[k]? = wr.heap[k]?:=fun k hk=>by rw [hW1];exact heap_setCell_other wr ⟨g,d,none⟩ k v1 hk
            have p1:=(o1 p hpg).trans hp'.out
            have F1:FrX S wr W1:=by rw [hW1];exact (FrX.refl S wr).setCell hg
            have k51:W1.cell? ⟨ad.block,ad.off + 5,none⟩ = some (.slice kA kn kc):=(World.cell?_of_block (w:=wr) (w':=W1) (a:=⟨ad.block,ad.off + 5,none⟩) (o1 _ hgad)).trans k5
            clear hW1 k5 c0 f0 cd fd
            have hsz:=(h1'.out p h4).2
            have hpW:p < W1.heap.size:=by rw [z1];exact hsz
            have hadW:ad.block < W1.heap.size:=by rw [z1];exact h3'.out _ hTE
            have hszg:=(h1'.out g hg).2
            have hTz:=h3'.out _ hTE
            obtain ⟨i0,hi0,hz0,hz1,hz2⟩:=info_parts Try.infoRow
            have hi0':=Lib.hid hi0
            have hz0':=Lib.hid hz0
            have hz1':=Lib.hid hz1
            have hz2':=Lib.hid hz2
            have hrw:=Lib.hid (show ∀ o,((W1.alloc o).drew).ownsRow base 31 1 (.slice (some ⟨g,0,none⟩) (d + 1) cap) (d + 1) (xs.take d ++ [v1]) from fun o=>World.ownsRow.alloc own1 o)
            have hnews:=Lib.hid (show ∀ (j:Nat) (u:Value),([.slice kA kn kc]:List Value)[j]? = some u→(W1.alloc (.cells #[.slice kA kn kc] 31)).drew.cell? ((⟨W1.heap.size,0,none⟩:Addr).add j) = some u from
              World.news_of_block (w:=W1.alloc (.cells #[.slice kA kn kc] 31)) (cs:=#[.slice kA kn kc]) (t:=31) (fr:=(0,0)) (heap_alloc_new W1 _))
            have hone:=Lib.hid (show ∀ u ∈ ([.slice kA kn kc]:List Value),u.oneCell' = true from by simp [Value.oneCell'])
            have hbd:=Lib.hid (show d + 1 + 1≤maxLen∧(d + 1 + 1) * 24≤140737488355328 from by unfold maxLen;omega)
            have hbd2:=Lib.hid (show ∀ o,base≤(W1.alloc o).drew.heap.size from fun o=>by simp;omega)
            have kk4:=Lib.hid (show ∀ w4 o,World.grownBy ((W1.alloc o).drew) w4 (Value.ownBlock (.slice (some ⟨g,0,none⟩) (d + 1) cap))→∀ k,k < W1.heap.size→k ≠ g→w4.heap[k]? = W1.heap[k]? from fun w4 o hg3 k hk hn=>by
              rw [hg3.block k (by simp;omega) (fun e=>by injection e with e;exact hn e)]
              exact Go.heap_alloc_old W1 _ hk)
            have own1':=Lib.hid own1
            have o1':=Lib.hid o1
            have p1':=Lib.hid p1
            have F1':=Lib.hid F1
            have hgadI:ad.block ≠ p:=fun e=>h2'.out _ hTE (e ▸ h4)
            have g1:(0:Int)≤(d:Int) + 1:=by omega
            have g2:((d:Int) + 1).toNat = d + 1:=by omega
            have g3:IntKind.i64.wrap ((d:Int) + 1) = (d:Int) + 1:=IntWalk.i64_in _ (by omega)
            have g4:d + 1≤cap:=by have:=own_cap ho'.out;omega
            have g5:(d:Int) + 1≤(cap:Int):=by omega
            have z1':=Lib.hid z1
            clear hi0 hz0 hz1 hz2 own1 o1 p1 F1 z1
            go_region_held3 (fun w'=>w'.cell? ⟨ad.block,ad.off + 5,none⟩ = some (.slice kA kn kc))
              (first
                | go_keep
                | exact kk.out
                | exact (World.cell?_of_block (w:=w4) (a:=⟨ad.block,ad.off + 5,none⟩) (heap_setCell_other w4 ⟨p,0,none⟩ ad.block _ hgadI)).trans kk.out)
              ((refine step_append_lies _ (by rfl) (.tmp 33) (.tmp 38) 109 (by rfl) base 31 i0 _ 1 24 Try.underlying109 hi0'.out hz0'.out hz1'.out hz2'.out rfl (by decide) (.slice (some ⟨g,0,none⟩) (d + 1) cap) (d + 1) (xs.take d ++ [v1]) (by rfl) (hrw.out _)
                  ⟨W1.heap.size,0,none⟩ 1 1 [.slice kA kn kc] (by rfl) (by rfl) hnews.out hone.out
                  (by decide) hbd.out.1 hbd.out.2 (hbd2.out _) (W1.heap.size + 1) (by simp) ?_;intro g' cap' w4 ho4 hg4 hat hlt4;have kk:=Lib.hid ((World.cell?_of_block (w:=W1) (w':=w4) (a:=⟨ad.block,ad.off + 5,none⟩) (kk4.out w4 _ hg4 _ hadW hgad)).trans k51);have p4:=(kk4.out w4 _ hg4 p hpW hpg).trans p1'.out;have c4:=cell_of_row w4 p 0 _ _ _ p4;have f4:=frozen_of_row w4 p 0 _ _ p4;have ho4':=Lib.hid ho4;have hg4':=Lib.hid hg4;have hat':=Lib.hid hat;have p4':=Lib.hid p4;clear ho4 hg4 hat p4))
            clear g1 g2 g3 g5
            go_wp2_with fail
            go_quiet (fail)
            go_wp2_with fail
            refine bodyPost_ret (v:=.tuple #[.int .i64 (d:Int),.pointer (some ad)]) (by simp [results,Try.results114,go_sem]) rfl ?_
            obtain ⟨q1,q2,q3⟩:=next_done h0.out hbase hs'.out hd'.out hr'.out (by have:=ho'.out.1;omega) V1.out hkv'.out (by have h:=hNE'.out;rw [show (0 + 0) * 6 = 0 by omega,add_zero] at h;exact h) hg o1'.out z1'.out F1'.out ho4'.out hg4'.out hat'.out p4'.out
            unfold NextPost
            rw [hs'.out,nextV_skip e _ he'.out]
            refine ⟨ad,by rw [hd'.out],q1.drewN _,?_,q3.drewN _⟩
            exact WalkAt.kept q2 (Nat.le_refl _) (fun _ _=>rfl)
end Go.Proofs.Ytmipodnffhngaaa
namespace Go.Proofs.Ytmipodnffhngaaa
set_option linter.unusedVariables false
open Go.RowKit
set_option maxRecDepth 20000

theorem Owned.node {w w':World} {T:Nat→Prop} {t:Nd} {aA kA aA0 kA0:Option Addr} {an ac kn kc an0 ac0 kn0 kc0 gA:Nat} {ks:List KV} (h:Owned w w' T t aA an ac kA kn kc gA ks) (hv:NodeV T w aA0 an0 ac0 kA0 kn0 kc0 t) (hT:∀ k,T k→k < w.heap.size) :
    NodeV (fun k=>T k∨(w.heap.size≤k∧k < w'.heap.size)) w' aA an ac kA kn kc t:=by
  have hf:=hv.facts
  refine NFacts.node ⟨hf.id,hf.label,hf.text,h.ats.kept (by rintro k rfl;exact .inr h.ga) (fun _ _=>rfl),h.anc,h.acm,h.anil,by rw [← h.map,List.length_map];exact h.len,h.knc,h.kcm,h.knil,?_⟩
  rw [← h.map]
  obtain ⟨A,n,c,e,hn,-,-,-,hq⟩:=h.row.shape
  injection e with e1 e2 e3
  subst e1
  refine RowAt.of_kvs ks (fun k hk=>KV.ok_kept (fun _ h=>.inl h) (fun j hj=>h.bel.block j (hT j hj)) (h.ok k hk)) fun q k hk=>?_
  obtain ⟨g,rfl,hb,hlt,hs⟩:=hq q k hk
  exact ⟨⟨g,0,none⟩,rfl,.inr ⟨hb,hlt⟩,by rw [add_zero_off];exact hs⟩
theorem set_six {w:World} {g:Nat} {a0 a1 a2 a3 a4 a5 b0 b1 b2 b3 b4 b5:Value} {ty:TypeId} (h:w.heap[g]? = some (.cells #[a0,a1,a2,a3,a4,a5] ty (0,0))) :
    ((((((w.setCell ⟨g,0,none⟩ b0).setCell ⟨g,1,none⟩ b1).setCell ⟨g,2,none⟩ b2).setCell ⟨g,3,none⟩ b3).setCell ⟨g,4,none⟩ b4).setCell ⟨g,5,none⟩ b5).heap[g]? = some (.cells #[b0,b1,b2,b3,b4,b5] ty (0,0)) :=
  by
  have e0:=heap_setCell_same w g 0 _ _ b0 h
  have e1:=heap_setCell_same _ g 1 _ _ b1 e0
  have e2:=heap_setCell_same _ g 2 _ _ b2 e1
  have e3:=heap_setCell_same _ g 3 _ _ b3 e2
  have e4:=heap_setCell_same _ g 4 _ _ b4 e3
  have e5:=heap_setCell_same _ g 5 _ _ b5 e4
  rw [e5]
  simp
theorem set_six_other {w:World} {g k:Nat} {b0 b1 b2 b3 b4 b5:Value} (h:k ≠ g) :
    ((((((w.setCell ⟨g,0,none⟩ b0).setCell ⟨g,1,none⟩ b1).setCell ⟨g,2,none⟩ b2).setCell ⟨g,3,none⟩ b3).setCell ⟨g,4,none⟩ b4).setCell ⟨g,5,none⟩ b5).heap[k]? = w.heap[k]? :=
  (heap_setCell_other _ _ k _ h).trans ((heap_setCell_other _ _ k _ h).trans ((heap_setCell_other _ _ k _ h).trans ((heap_setCell_other _ _ k _ h).trans ((heap_setCell_other _ _ k _ h).trans (heap_setCell_other _ _ k _ h)))))
theorem below_six {B:Nat} {w0 w:World} {g:Nat} {b0 b1 b2 b3 b4 b5:Value} (h:Below B w0 w) (hg:B≤g) :
    Below B w0 ((((((w.setCell ⟨g,0,none⟩ b0).setCell ⟨g,1,none⟩ b1).setCell ⟨g,2,none⟩ b2).setCell ⟨g,3,none⟩ b3).setCell ⟨g,4,none⟩ b4).setCell ⟨g,5,none⟩ b5) :=
  (((((h.setCell hg _).setCell hg _).setCell hg _).setCell hg _).setCell hg _).setCell hg _
theorem weigh_mem {k:Nd}:∀ {l:List Nd},k ∈ l→weighV k≤weighsV l
  | m :: r,h=>by
    simp only [weighsV]
    rcases List.mem_cons.1 h with rfl | h
    · omega
    · have:=weigh_mem h
      omega
theorem weigh_kid {s k:Nd} {j:Nat} (h:s.kids[j]? = some k):weighV k≤weighV s:=by
  have:=weigh_mem (List.mem_of_getElem? h)
  rw [weighV_eq s]
  omega
theorem weigh_rows (s:Nd):s.attrs.length≤weighV s∧s.kids.length≤weighV s:=by
  have h1:=attrsLen_le s.attrs
  have h2:=kids_le s
  have h3:=count_le s
  rw [weighV_eq s] at h3 ⊢
  omega
def zero6:Array Value:=#[.int .u64 0,.bool false,.string ⟨#[]⟩,.slice none 0 0,.string ⟨#[]⟩,.slice none 0 0]
theorem atV_none {s:Nd} {i:Int} {r:List Int} (h:hasB s.kids.length i = false):atV s (i :: r) = none:=by
  unfold hasB at h
  have h:=of_decide_eq_false h
  simp only [atV]
  split
  · rw [List.getElem?_eq_none (by omega)]
  · rfl
theorem atV_some {s k:Nd} {j:Nat} {r:List Int} (h:s.kids[j]? = some k):atV s ((j:Int) :: r) = atV k r:=by
  simp only [atV]
  rw [if_pos (by omega)]
  simp [h]
theorem hasB_cases (n:Nat) (i:Int):hasB n i = false∨∃ j:Nat,i = (j:Int)∧j < n∧hasB n i = true:=by
  by_cases h:0≤i∧i < (n:Int)
  · exact .inr ⟨i.toNat,by omega,by omega,decide_eq_true h⟩
  · exact .inl (decide_eq_false h)
def AtAns (w:World) (t:Nd) (p:List Int) (e:Ending) (w':World):Prop :=
  ∃ aA an ac kA kn kc,e = .returned (.tuple #[.agg (val6 ((atV t p).getD Nd.zero) aA an ac kA kn kc),.bool (atV t p).isSome])∧NodeV (Old w') w' aA an ac kA kn kc ((atV t p).getD Nd.zero)∧Below w.heap.size w w'
set_option maxHeartbeats 4000000 in
theorem at_any (w:World) (t:Nd) (aA kA:Option Addr) (an ac kn kc:Nat) (h:NodeV (Old w) w aA an ac kA kn kc t) (pA:Option Addr) (pn pc:Nat) (p:List Int) (hp:Its w pA pn p) (hpn:pn≤maxLen)
    (hbig:weighV t≤1000000) :
    Calls Try.prog 36 #[.agg (val6 t aA an ac kA kn kc),.slice pA pn pc] w (AtAns w t p):=by
  have h':=Lib.hid h
  have hp':=Lib.hid hp
  have hpl:=Lib.hid hp.1
  clear h hp
  unfold maxLen at hpn
  unfold val6
  go_enter Try.func36,Try.ntmps36
  go_wp2_with fail
  go_loopw [10] (fun k wr=>∃ (q:Nat) (s:Nd) (sA skA:Option Addr) (sn sc skn skc:Nat),q≤pn∧k = .int .i64 (q:Int)∧atV t p = atV s (p.drop q)∧weighV s≤1000000∧NodeV (Old w) w sA sn sc skA skn skc s ∧
    wr.heap[w.heap.size]? = some (.cells (val6 s sA sn sc skA skn skc) 33 (0,0))∧wr.heap[w.heap.size + 1]? = some (.cells zero6 33 (0,0))∧Below w.heap.size w wr) (fun k _=>pn - (intOf k).toNat)
  case atStart =>
    exact ⟨0,t,aA,kA,an,ac,kn,kc,Nat.zero_le _,rfl,rfl,hbig,h'.out,two_first w _ _,two_second w _ _,((Below.refl _ w).alloc (Nat.le_refl _) _).alloc (by simp) _⟩
  case round =>
    obtain ⟨q,s,sA,skA,sn,sc,skn,skc,hq,rfl,hat,hz,hv,hB,hR,hbel⟩:=hrel
    have hf:=hv.facts
    have hkl:=hf.kl
    have hb:=weigh_rows s
    unfold val6 at hB
    unfold zero6 at hR
    obtain ⟨c0,c1,c2,c3,c4,c5,cf⟩:=six_cells hB
    obtain ⟨r0,r1,r2,r3,r4,r5,rf⟩:=six_cells hR
    have hBl:=(Array.getElem?_eq_some_iff.1 hB).1
    have hRl:=(Array.getElem?_eq_some_iff.1 hR).1
    by_cases h1:q < pn
    · have h1I:(q:Int) < (pn:Int):=by omega
      obtain ⟨ad,i,rfl,hi,hci⟩:=(hp'.out.below hbel).at_ h1
      have hdrop:p.drop q = i :: p.drop (q + 1):=by
        have hl:q < p.length:=by rw [hpl.out];exact h1
        rw [List.drop_eq_getElem_cons hl]
        rw [List.getElem?_eq_getElem hl] at hi
        injection hi with hi
        rw [hi]
      rw [hdrop] at hat
      have hkm:=hf.kcm
      have hknc:=hf.knc
      rcases hasB_cases skn i with hno | ⟨j,rfl,hj,hyes⟩
      · have hcall:=Lib.hid (hasChild_any wr (s.id:Int) s.leaf s.label s.text sA skA sn sc skn skc i (by omega))
        rw [hno] at hcall
        have hans:=Lib.hid (hat.trans (atV_none (by rw [hkl];exact hno)))
        have hbel':=Lib.hid hbel
        have hR':=Lib.hid hR
        clear hat hf hkl hv hB hR hbel hno hdrop hkm hknc hz hb hi
        go_wp2_with (go_at_call 81;refine hcall.out.mono ?_;rintro e w1 ⟨rfl,hb1⟩;have R1:=(hb1.block _ hRl).trans hR'.out;obtain ⟨d0,d1,d2,d3,d4,d5,df⟩:=six_cells R1)
        have hW:w.heap.size + 1 < w1.heap.size:=(Array.getElem?_eq_some_iff.1 R1).1
        have R9:=set_six (b0:=.int .u64 0) (b1:=.bool false) (b2:=.string ⟨#[]⟩) (b3:=.slice none 0 0) (b4:=.string ⟨#[]⟩) (b5:=.slice none 0 0) R1
        have hb9:Below w.heap.size w _:=below_six (hbel'.out.trans (hb1.mono hbel'.out.size)) (b0:=.int .u64 0) (b1:=.bool false) (b2:=.string ⟨#[]⟩) (b3:=.slice none 0 0) (b4:=.string ⟨#[]⟩) (b5:=.slice none 0 0) (Nat.le_succ w.heap.size)
        generalize ((((((w1.setCell ⟨w.heap.size + 1,0,none⟩ (.int .u64 0)).setCell ⟨w.heap.size + 1,1,none⟩ (.bool false)).setCell ⟨w.heap.size + 1,2,none⟩ (.string ⟨#[]⟩)).setCell ⟨w.heap.size + 1,3,none⟩ (.slice none 0 0)).setCell ⟨w.heap.size + 1,4,none⟩ (.string ⟨#[]⟩)).setCell ⟨w.heap.size + 1,5,none⟩ (.slice none 0 0)) = W9 at R9 hb9 ⊢
        obtain ⟨d0,d1,d2,d3,d4,d5,df⟩:=six_cells R9
        refine bodyPost_ret (v:=.tuple #[.agg zero6,.bool false]) (by simp [results,Try.results36,go_sem,d0,d1,d2,d3,d4,d5,zero6]) rfl ?_
        exact ⟨none,0,0,none,0,0,by rw [hans.out];rfl,by rw [hans.out];exact zero_node,hb9⟩
      · obtain ⟨kd,hkd⟩:∃ kd,s.kids[j]? = some kd:=⟨s.kids[j]'(by omega),List.getElem?_eq_getElem _⟩
        obtain ⟨ka,rfl,hka,aA3,an3,ac3,kA3,kn3,kc3,hsix,hv3⟩:=hf.row.at_ hkd
        rw [Nat.zero_add] at hka hsix
        have hcall:=Lib.hid (hasChild_any wr (s.id:Int) s.leaf s.label s.text sA (some ka) sn sc skn skc (j:Int) (by omega))
        rw [hyes] at hcall
        have hans:=Lib.hid (hat.trans (atV_some hkd))
        have hpath:=Lib.hid (Nat.le_trans (weigh_kid hkd) hz)
        have hjI:(j:Int) < (skn:Int):=by omega
        have hbel':=Lib.hid hbel
        have hR':=Lib.hid hR
        have hv3':=Lib.hid hv3
        clear hat hf hkl hv hR hbel hyes hdrop hkm hknc hz hb hi hkd hv3
        go_wp2_with (go_at_call 81;refine hcall.out.mono ?_;rintro e w1 ⟨rfl,hb1⟩;have B1:=(hb1.block _ hBl).trans hB;have R1:=(hb1.block _ hRl).trans hR'.out;obtain ⟨d0,d1,d2,d3,d4,d5,df⟩:=six_cells B1;obtain ⟨s0,s1,s2,s3,s4,s5⟩:=hsix.kept (w':=w1) (((hbel'.out.trans (hb1.mono hbel'.out.size))).block _ hka))
        go_roundw
        case rel =>
          have hbw:=hbel'.out.trans (hb1.mono hbel'.out.size)
          refine ⟨q + 1,kd,aA3,kA3,an3,ac3,kn3,kc3,by omega,by go_num,hans.out,hpath.out,hv3'.out,set_six B1,(set_six_other (by omega)).trans R1,below_six hbw (Nat.le_refl _)⟩
        case measure=>simp [intOf];omega
    · have h1I:¬ (q:Int) < (pn:Int):=by omega
      have hans:=Lib.hid (show atV t p = some s by rw [hat,List.drop_of_length_le (by rw [hpl.out];omega)];rfl)
      have hcall:=Lib.hid (owned_any wr (Old w) s sA skA sn sc skn skc (hv.kept (fun _ h=>h) (fun k hk=>hbel.block k hk)) (fun k hk=>Nat.lt_of_lt_of_le hk hbel.size) (by have:=hf.ats.1;omega) (by omega))
      have hv':=Lib.hid (hv.kept (w':=wr) (fun _ h=>h) (fun k hk=>hbel.block k hk))
      have hbel':=Lib.hid hbel
      have hR':=Lib.hid hR
      clear hat hf hkl hv hR hbel hz hb hB
      go_wp2_with (go_at_call 82;refine hcall.out.mono ?_;rintro e w1 ⟨oA,oc,okA,okc,gA,ks,rfl,hO⟩;have R1:=(hO.bel.block _ hRl).trans hR'.out;obtain ⟨d0,d1,d2,d3,d4,d5,df⟩:=six_cells R1;have hO':=Lib.hid hO;clear hO)
      have R9:=set_six (b0:=.int .u64 (s.id:Int)) (b1:=.bool s.leaf) (b2:=.string ⟨s.label.toArray⟩) (b3:=.slice oA sn oc) (b4:=.string ⟨s.text.toArray⟩) (b5:=.slice okA skn okc) R1
      have hO:=hO'.out
      have hbw:=hbel'.out.trans (hO.bel.mono hbel'.out.size)
      have hb9:Below w.heap.size w _:=below_six hbw (b0:=.int .u64 (s.id:Int)) (b1:=.bool s.leaf) (b2:=.string ⟨s.label.toArray⟩) (b3:=.slice oA sn oc) (b4:=.string ⟨s.text.toArray⟩) (b5:=.slice okA skn okc) (Nat.le_succ w.heap.size)
      have hz1:=hO.bel.size
      have hN:NodeV (Old ((((((w1.setCell ⟨w.heap.size + 1,0,none⟩ (.int .u64 (s.id:Int))).setCell ⟨w.heap.size + 1,1,none⟩ (.bool s.leaf)).setCell ⟨w.heap.size + 1,2,none⟩ (.string ⟨s.label.toArray⟩)).setCell ⟨w.heap.size + 1,3,none⟩ (.slice oA sn oc)).setCell ⟨w.heap.size + 1,4,none⟩ (.string ⟨s.text.toArray⟩)).setCell ⟨w.heap.size + 1,5,none⟩ (.slice okA skn okc))) ((((((w1.setCell ⟨w.heap.size + 1,0,none⟩ (.int .u64 (s.id:Int))).setCell ⟨w.heap.size + 1,1,none⟩ (.bool s.leaf)).setCell ⟨w.heap.size + 1,2,none⟩ (.string ⟨s.label.toArray⟩)).setCell ⟨w.heap.size + 1,3,none⟩ (.slice oA sn oc)).setCell ⟨w.heap.size + 1,4,none⟩ (.string ⟨s.text.toArray⟩)).setCell ⟨w.heap.size + 1,5,none⟩ (.slice okA skn okc)) oA sn oc okA skn okc s:=(hO.node hv'.out (fun k hk=>Nat.lt_of_lt_of_le hk hbel'.out.size)).kept (fun k hk=>by
          show k < _
          have hsz:=hbel'.out.size
          simp only [World.size_setCell]
          rcases hk with hk | hk
          · have:k < w.heap.size:=hk
            omega
          · exact hk.2) (fun k hk=>set_six_other (by
          rcases hk with hk | hk
          · have:k < w.heap.size:=hk
            omega
          · omega))
      generalize ((((((w1.setCell ⟨w.heap.size + 1,0,none⟩ (.int .u64 (s.id:Int))).setCell ⟨w.heap.size + 1,1,none⟩ (.bool s.leaf)).setCell ⟨w.heap.size + 1,2,none⟩ (.string ⟨s.label.toArray⟩)).setCell ⟨w.heap.size + 1,3,none⟩ (.slice oA sn oc)).setCell ⟨w.heap.size + 1,4,none⟩ (.string ⟨s.text.toArray⟩)).setCell ⟨w.heap.size + 1,5,none⟩ (.slice okA skn okc)) = W9 at R9 hb9 hN ⊢
      obtain ⟨f0,f1,f2,f3,f4,f5,ff⟩:=six_cells R9
      refine bodyPost_ret (v:=.tuple #[.agg (val6 s oA sn oc okA skn okc),.bool true]) (by simp [results,Try.results36,go_sem,f0,f1,f2,f3,f4,f5,val6]) rfl ?_
      exact ⟨oA,sn,oc,okA,skn,okc,by rw [hans.out];rfl,by rw [hans.out];exact hN,hb9⟩
end Go.Proofs.Ytmipodnffhngaaa
namespace Go.Proofs.Ytmipodnffhngaaa
set_option linter.unusedVariables false
open Go.RowKit
set_option maxRecDepth 20000

end Go.Proofs.Ytmipodnffhngaaa
namespace Go.Proofs.Ytmipodnffhngaaa
set_option linter.unusedVariables false
open Go.RowKit
set_option maxRecDepth 20000

def Ex (b0:Nat) (W:World) (k:Nat):Prop:=k < W.heap.size∧k ≠ b0 + 1 + 1
def Hole (b0:Nat) (W:World) (eb eo:Nat) (f:Nd→Nd):Prop :=
  ∀ (W':World) (z:Nd),W.heap.size≤W'.heap.size→(∀ k,k < W.heap.size→k ≠ eb→W'.heap[k]? = W.heap[k]?)→(∀ o,(o < eo∨eo + 5 < o)→W'.cell? ⟨eb,o,none⟩ = W.cell? ⟨eb,o,none⟩) →
    NodeAt (Ex b0 W') W' ⟨eb,eo,none⟩ z→NodeAt (Ex b0 W') W' ⟨b0,0,none⟩ (f z)
def six (w:World) (g e:Nat) (b0 b1 b2 b3 b4 b5:Value):World :=
  (((((w.setCell ⟨g,e,none⟩ b0).setCell ⟨g,e + 1,none⟩ b1).setCell ⟨g,e + 2,none⟩ b2).setCell ⟨g,e + 3,none⟩ b3).setCell ⟨g,e + 4,none⟩ b4).setCell ⟨g,e + 5,none⟩ b5
section
variable {w:World} {g e:Nat} {b0 b1 b2 b3 b4 b5:Value} {cs:Array Value} {ty:TypeId}
theorem six_row (h:w.heap[g]? = some (.cells cs ty (0,0))):(six w g e b0 b1 b2 b3 b4 b5).heap[g]? = some (.cells ((((((cs.setIfInBounds e b0).setIfInBounds (e + 1) b1).setIfInBounds (e + 2) b2).setIfInBounds (e + 3) b3).setIfInBounds (e + 4) b4).setIfInBounds (e + 5) b5) ty (0,0)):=by
  unfold six
  have e0:=heap_setCell_same w g e _ _ b0 h
  have e1:=heap_setCell_same _ g (e + 1) _ _ b1 e0
  have e2:=heap_setCell_same _ g (e + 2) _ _ b2 e1
  have e3:=heap_setCell_same _ g (e + 3) _ _ b3 e2
  have e4:=heap_setCell_same _ g (e + 4) _ _ b4 e3
  exact heap_setCell_same _ g (e + 5) _ _ b5 e4
theorem six_other {k:Nat} (h:k ≠ g):(six w g e b0 b1 b2 b3 b4 b5).heap[k]? = w.heap[k]?:=by
  unfold six
  exact (heap_setCell_other _ _ k _ h).trans ((heap_setCell_other _ _ k _ h).trans ((heap_setCell_other _ _ k _ h).trans ((heap_setCell_other _ _ k _ h).trans ((heap_setCell_other _ _ k _ h).trans (heap_setCell_other _ _ k _ h)))))
theorem six_size:(six w g e b0 b1 b2 b3 b4 b5).heap.size = w.heap.size:=by unfold six;simp
theorem six_below {B:Nat} {v:World} (h:Below B v w) (hg:B≤g):Below B v (six w g e b0 b1 b2 b3 b4 b5):=by
  unfold six
  exact (((((h.setCell hg _).setCell hg _).setCell hg _).setCell hg _).setCell hg _).setCell hg _
theorem six_out (h:w.heap[g]? = some (.cells cs ty (0,0))) {o:Nat} (ho:o < e∨e + 5 < o):(six w g e b0 b1 b2 b3 b4 b5).cell? ⟨g,o,none⟩ = w.cell? ⟨g,o,none⟩:=by
  rw [cell_of_row _ g o _ _ _ (six_row h),cell_of_row w g o _ _ _ h]
  rw [Array.getElem?_setIfInBounds_ne (by omega),Array.getElem?_setIfInBounds_ne (by omega),Array.getElem?_setIfInBounds_ne (by omega),Array.getElem?_setIfInBounds_ne (by omega),Array.getElem?_setIfInBounds_ne (by omega),Array.getElem?_setIfInBounds_ne (by omega)]
theorem six_in (h:w.heap[g]? = some (.cells cs ty (0,0))) (hs:e + 5 < cs.size) :
    let W:=six w g e b0 b1 b2 b3 b4 b5
    W.cell? ⟨g,e,none⟩ = some b0∧W.cell? ⟨g,e + 1,none⟩ = some b1∧W.cell? ⟨g,e + 2,none⟩ = some b2∧W.cell? ⟨g,e + 3,none⟩ = some b3∧W.cell? ⟨g,e + 4,none⟩ = some b4∧W.cell? ⟨g,e + 5,none⟩ = some b5:=by
  have c:=fun o=>cell_of_row _ g o _ _ _ (six_row (e:=e) (b0:=b0) (b1:=b1) (b2:=b2) (b3:=b3) (b4:=b4) (b5:=b5) h)
  refine ⟨?_,?_,?_,?_,?_,?_⟩
  all_goals rw [c]
  all_goals simp only [Array.getElem?_setIfInBounds,Array.size_setIfInBounds]
  · rw [if_neg (by omega),if_neg (by omega),if_neg (by omega),if_neg (by omega),if_neg (by omega),if_pos trivial,if_pos (by omega)]
  · rw [if_neg (by omega),if_neg (by omega),if_neg (by omega),if_neg (by omega),if_pos trivial,if_pos (by omega)]
  · rw [if_neg (by omega),if_neg (by omega),if_neg (by omega),if_pos trivial,if_pos (by omega)]
  · rw [if_neg (by omega),if_neg (by omega),if_pos trivial,if_pos (by omega)]
  · rw [if_neg (by omega),if_pos trivial,if_pos (by omega)]
  · rw [if_pos trivial,if_pos (by omega)]
end
theorem six_with (w:World) (E:Addr) (t:Nd) (l:List Nd) (aA kA:Option Addr) (an ac kn kc:Nat):Six w E (t.withKids l) aA an ac kA kn kc ↔ Six w E t aA an ac kA kn kc:=by cases t;exact Iff.rfl
theorem hole_step {w W W1 W2:World} {b0 eb eo:Nat} {f:Nd→Nd} {s:Nd} {sA skA aA kA:Option Addr} {sn sc skn skc an ac kn kc gA j:Nat} {ks:List KV} (hb:Below w.heap.size w W) (hb0:b0 = w.heap.size) (hr:b0 + 1 + 1 < W.heap.size) (hre:eb ≠ b0 + 1 + 1) (hole:Hole b0 W eb eo f) (heb:eb < W.heap.size) (hew:w.heap.size≤eb)
    (hO:Owned W W1 (Old w) s aA an ac kA kn kc gA ks) (hv:NodeV (Old w) W sA sn sc skA skn skc s) (s1:W2.heap.size = W1.heap.size) (s2:∀ k,k ≠ eb→W2.heap[k]? = W1.heap[k]?) (s3:∀ o,(o < eo∨eo + 5 < o)→W2.cell? ⟨eb,o,none⟩ = W1.cell? ⟨eb,o,none⟩)
    (s4:Six W2 ⟨eb,eo,none⟩ s aA an ac kA kn kc) (hj:j < kn) :
    ∃ g kv cur,kA = some ⟨g,0,none⟩∧W.heap.size≤g∧g < W1.heap.size∧Hole b0 W2 g (j * 6) (fun z=>f (s.withKids (s.kids.set j z)))∧ks[j]? = some kv∧s.kids[j]? = some kv.t∧kv.six W2 ⟨g,j * 6,none⟩∧kv.ok (Old w) W∧W2.heap[g]? = some (.cells cur 33 (0,0))∧j * 6 + 5 < cur.size:=by
  have hlen:=hO.len
  have hbel:=hO.bel
  have hz:=hbel.size
  obtain ⟨A,n,c,e,hn,hnc,-,-,hq⟩:=hO.row.shape
  injection e with e1 e2 e3
  subst e1 e2 e3
  obtain ⟨kv,hkv⟩:∃ kv,ks[j]? = some kv:=⟨ks[j]'(by omega),List.getElem?_eq_getElem _⟩
  obtain ⟨g,rfl,hg1,hg2,hgs⟩:=hq j kv hkv
  have hge:g ≠ eb:=by omega
  obtain ⟨cur,hcur,hcsz⟩:∃ cur,W1.heap[g]? = some (.cells cur 33 (0,0))∧j * 6 + 5 < cur.size:=by
    rcases hO.row.2 with ⟨h0,h1⟩ | ⟨g',cap,cur,e,-,hg,hcap,-,hsz,-⟩
    · cases h0
    · injection e with e1 e2 e3
      injection e1 with e1
      injection e1 with e1
      subst e1
      exact ⟨cur,hg,by rw [hsz];omega⟩
  have hgn:g ≠ gA:=hO.ne _ rfl
  have hkt:∀ (q:Nat) (v:KV),ks[q]? = some v→s.kids[q]? = some v.t:=fun q v h=>by rw [← hO.map,List.getElem?_map,h];rfl
  have b12:∀ k,k ≠ eb→k < W1.heap.size→W2.heap[k]? = W1.heap[k]?:=fun k h _=>s2 k h
  refine ⟨g,kv,cur,rfl,hg1,hg2,?_,hkv,hkt j kv hkv,hgs.kept (b12 g hge hg2),hO.ok kv (List.mem_of_getElem? hkv),(s2 g hge).trans hcur,hcsz⟩
  intro W' z hzs hother hcell hN
  have hbe:W'.heap[eb]? = W2.heap[eb]?:=hother eb (by omega) (fun e=>hge e.symm)
  refine hole W' (s.withKids (s.kids.set j z)) (by omega) (fun k hk hne=>(hother k (by omega) (by omega)).trans ((s2 k hne).trans (hbel.block k hk))) (fun o ho=>?_) ?_
  · exact (World.cell?_of_block (a:=⟨eb,o,none⟩) hbe).trans ((s3 o ho).trans (World.cell?_of_block (a:=⟨eb,o,none⟩) (hbel.block eb heb)))
  · refine ⟨⟨by show eb < _;omega,hre⟩,aA,an,ac,some ⟨g,0,none⟩,kn,kc,(six_with ..).2 (s4.kept hbe),?_⟩
    have hf:=hv.facts
    have hga:=hO.ga
    have hat:AtsIn (Ex b0 W') W' aA an s.attrs:=hO.ats.kept (fun k hk=>by subst hk;exact ⟨by omega,by omega⟩) (fun k hk=>by subst hk;exact (hother k (by omega) (fun e=>hgn e.symm)).trans (s2 k (by omega)))
    have hrow:RowAt (Ex b0 W') W' (some ⟨g,0,none⟩) 0 (s.kids.set j z):=by
      refine RowAt.of _ 0 fun q t hqt=>⟨_,rfl,?_⟩
      rw [Nat.zero_add,add_zero_off]
      by_cases hqj:q = j
      · subst hqj
        rw [List.getElem?_set_self (by have:=hf.kl;have:=(List.getElem?_eq_some_iff.1 (hkt q kv hkv)).1;omega)] at hqt
        injection hqt with hqt
        subst hqt
        exact hN
      · rw [List.getElem?_set_ne (fun e=>hqj e.symm)] at hqt
        obtain ⟨v,hvq⟩:∃ v,ks[q]? = some v:=by
          have:=(List.getElem?_eq_some_iff.1 hqt).1
          have hm:ks.length = s.kids.length:=by rw [← hO.map,List.length_map]
          exact ⟨ks[q]'(by omega),List.getElem?_eq_getElem _⟩
        have hvt:=hkt q v hvq
        rw [hqt] at hvt
        injection hvt with hvt
        subst hvt
        obtain ⟨g',eg,-,-,h6⟩:=hq q v hvq
        injection eg with eg
        injection eg with eg
        subst eg
        have hc6:∀ o,o < q * 6 + 6→q * 6≤o→W'.cell? ⟨g,o,none⟩ = W1.cell? ⟨g,o,none⟩:=fun o h1 h2=>(hcell o (by omega)).trans (World.cell?_of_block (a:=⟨g,o,none⟩) (s2 g hge))
        obtain ⟨t0,t1,t2,t3,t4,t5⟩:=h6
        refine ⟨⟨by show g < _;omega,by show g ≠ _;omega⟩,v.aA,v.an,v.ac,v.kA,v.kn,v.kc,⟨(hc6 (q * 6) (by omega) (by omega)).trans t0,(hc6 (q * 6 + 1) (by omega) (by omega)).trans t1,(hc6 (q * 6 + 2) (by omega) (by omega)).trans t2,(hc6 (q * 6 + 3) (by omega) (by omega)).trans t3,(hc6 (q * 6 + 4) (by omega) (by omega)).trans t4,(hc6 (q * 6 + 5) (by omega) (by omega)).trans t5⟩,?_⟩
        refine NodeV.kept (T:=Old w) (w:=W) (fun k hk=>?_) (fun k hk=>?_) _ _ _ _ _ _ _ (hO.ok v (List.mem_of_getElem? hvq))
        · have hk':k < w.heap.size:=hk
          exact ⟨by omega,by omega⟩
        · have hk':k < w.heap.size:=hk
          exact (hother k (by omega) (by omega)).trans ((s2 k (by omega)).trans (hbel.block k (by omega)))
    have hkl:(s.kids.set j z).length = kn:=by
      rw [List.length_set,← hO.map,List.length_map]
      exact hlen
    have hfi:=hf.id
    have hfl:=hf.label
    have hft:=hf.text
    cases s
    exact NFacts.node ⟨hfi,hfl,hft,hat,hO.anc,hO.acm,hO.anil,hkl,hO.knc,hO.kcm,hO.knil,hrow⟩
end Go.Proofs.Ytmipodnffhngaaa
namespace Go.Proofs.Ytmipodnffhngaaa
set_option linter.unusedVariables false
open Go.RowKit
set_option maxRecDepth 20000

theorem with_kids (t:Nd) (l:List Nd):(t.withKids l).kids = l:=by cases t;rfl
theorem with_with (t:Nd) (l m:List Nd):(t.withKids l).withKids m = t.withKids m:=by cases t;rfl
theorem with_self (t:Nd):t.withKids t.kids = t:=by cases t;rfl
theorem countV_with (t:Nd) (l:List Nd):countV (t.withKids l) = 1 + countsV l:=by cases t;simp [Nd.withKids,countV]
theorem weighV_with (t:Nd) (l:List Nd):weighV (t.withKids l) + weighsV t.kids = weighV t + weighsV l:=by cases t;simp only [Nd.withKids,weighV,Nd.kids];omega
theorem counts_set:∀ (l:List Nd) (j:Nat) (k z:Nd),l[j]? = some k→countsV (l.set j z) + countV k = countsV l + countV z
  | [],j,k,z,h=>by simp at h
  | a :: r,0,k,z,h=>by
    simp at h
    subst h
    simp only [List.set_cons_zero,countsV]
    omega
  | a :: r,j + 1,k,z,h=>by
    have:=counts_set r j k z (by simpa using h)
    simp only [List.set_cons_succ,countsV]
    omega
theorem weighs_set:∀ (l:List Nd) (j:Nat) (k z:Nd),l[j]? = some k→weighsV (l.set j z) + weighV k = weighsV l + weighV z
  | [],j,k,z,h=>by simp at h
  | a :: r,0,k,z,h=>by
    simp at h
    subst h
    simp only [List.set_cons_zero,weighsV]
    omega
  | a :: r,j + 1,k,z,h=>by
    have:=weighs_set r j k z (by simpa using h)
    simp only [List.set_cons_succ,weighsV]
    omega
theorem atV_cons {t ws:Nd} {i:Int} {p:List Int} (h:atV t (i :: p) = some ws):∃ (j:Nat) (k:Nd),i = (j:Int)∧t.kids[j]? = some k∧atV k p = some ws:=by
  simp only [atV] at h
  split at h
  · rename_i hi
    cases hk:t.kids[i.toNat]? with
    | none=>rw [hk] at h;cases h
    | some k =>
      rw [hk] at h
      exact ⟨i.toNat,k,by omega,hk,h⟩
  · cases h
theorem putV_nat {t k x:Nd} {j:Nat} {p:List Int} (h:t.kids[j]? = some k):putV t ((j:Int) :: p) x = (putV k p x).map fun z=>t.withKids (t.kids.set j z):=by
  simp only [putV]
  rw [if_pos (by omega)]
  simp only [Int.toNat_natCast,h]
  cases putV k p x <;> rfl
theorem atV_nat {t k:Nd} {j:Nat} {p:List Int} (h:t.kids[j]? = some k):atV t ((j:Int) :: p) = atV k p:=by
  simp only [atV]
  rw [if_pos (by omega)]
  simp [h]
theorem put_all:∀ (p:List Int) (t x ws:Nd),atV t p = some ws→∃ a,putV t p x = some a∧atV a p = some x∧putV a p ws = some t∧countV a + countV ws = countV t + countV x∧weighV a + weighV ws = weighV t + weighV x
  | [],t,x,ws,h=>by
    simp only [atV,Option.some.injEq] at h
    subst h
    exact ⟨x,rfl,rfl,rfl,by omega,by omega⟩
  | i :: p,t,x,ws,h=>by
    obtain ⟨j,k,rfl,hk,hw⟩:=atV_cons h
    obtain ⟨a,h1,h2,h3,h4,h5⟩:=put_all p k x ws hw
    have hj:j < t.kids.length:=(List.getElem?_eq_some_iff.1 hk).1
    have hs:(t.withKids (t.kids.set j a)).kids[j]? = some a:=by rw [with_kids,List.getElem?_set_self hj]
    refine ⟨t.withKids (t.kids.set j a),?_,?_,?_,?_,?_⟩
    · rw [putV_nat hk,h1];rfl
    · rw [atV_nat hs,h2]
    · rw [putV_nat hs,h3]
      simp only [Option.map_some,with_kids,with_with,List.set_set]
      have:t.kids.set j k = t.kids:=by
        apply List.ext_getElem?
        intro q
        rw [List.getElem?_set]
        split
        · subst_vars
          first | exact hk.symm | (rw [if_pos hj,hk])
        · rfl
      rw [this,with_self]
    · have:=counts_set t.kids j k a hk
      rw [countV_with,countV_eq t]
      omega
    · have h6:=weighs_set t.kids j k a hk
      have h7:=weighV_with t (t.kids.set j a)
      omega
theorem at_count:∀ (p:List Int) (t ws:Nd),atV t p = some ws→countV ws≤countV t∧weighV ws≤weighV t
  | [],t,ws,h=>by
    simp only [atV,Option.some.injEq] at h
    subst h
    exact ⟨Nat.le_refl _,Nat.le_refl _⟩
  | i :: p,t,ws,h=>by
    obtain ⟨j,k,rfl,hk,hw⟩:=atV_cons h
    obtain ⟨h1,h2⟩:=at_count p k ws hw
    have h3:=weigh_kid hk
    have h4:=counts_set t.kids j k k hk
    have h5:countV k≤countsV t.kids:=by
      have:∀ (l:List Nd) (j:Nat),l[j]? = some k→countV k≤countsV l:=by
        intro l
        induction l with
        | nil=>intro j h;simp at h
        | cons a r ih =>
          intro j h
          cases j with
          | zero=>simp at h;subst h;simp only [countsV];omega
          | succ j=>have:=ih j (by simpa using h);simp only [countsV];omega
      exact this _ _ hk
    rw [countV_eq t]
    omega

structure Bx (W:World) (b:Nat) (s:Nd) (aA kA:Option Addr) (an ac kn kc:Nat):Prop where
  lt:b < W.heap.size
  row:W.heap[b]? = some (.cells (val6 s aA an ac kA kn kc) 33 (0,0))
  node:NodeV (Old W) W aA an ac kA kn kc s
section
variable {W W':World} {b:Nat} {s:Nd} {aA kA:Option Addr} {an ac kn kc:Nat}
theorem Bx.below (h:Bx W b s aA kA an ac kn kc) (hb:Below W.heap.size W W'):Bx W' b s aA kA an ac kn kc:=⟨Nat.lt_of_lt_of_le h.lt hb.size,(hb.block b h.lt).trans h.row,h.node.below hb⟩
theorem Bx.new (h:NodeV (Old W) W aA an ac kA kn kc s):Bx (W.alloc (.cells (val6 s aA an ac kA kn kc) 33)) W.heap.size s aA kA an ac kn kc :=
  ⟨by simp,heap_alloc_new W _,h.below ((Below.refl _ _).alloc (Nat.le_refl _) _)⟩
theorem Bx.cells (h:Bx W b s aA kA an ac kn kc):W.cell? ⟨b,0,none⟩ = some (.int .u64 (s.id:Int))∧W.cell? ⟨b,1,none⟩ = some (.bool s.leaf)∧W.cell? ⟨b,2,none⟩ = some (.string ⟨s.label.toArray⟩)∧W.cell? ⟨b,3,none⟩ = some (.slice aA an ac) ∧
    W.cell? ⟨b,4,none⟩ = some (.string ⟨s.text.toArray⟩)∧W.cell? ⟨b,5,none⟩ = some (.slice kA kn kc):=by
  have h:=h.row
  unfold val6 at h
  obtain ⟨c0,c1,c2,c3,c4,c5,-⟩:=six_cells h
  exact ⟨c0,c1,c2,c3,c4,c5⟩
end
end Go.Proofs.Ytmipodnffhngaaa
namespace Go.Proofs.Ytmipodnffhngaaa
open Go.RowKit
set_option maxRecDepth 20000
set_option linter.unusedVariables false

def insK (at_:Nat) (x:Nd) (l:List Nd):List Nd:=l.take at_ ++ x :: l.drop at_
def delK (c:Nat) (l:List Nd):List Nd:=l.take c ++ l.drop (c + 1)
theorem insK_len {at_:Nat} {x:Nd} {l:List Nd} (h:at_≤l.length):(insK at_ x l).length = l.length + 1:=by
  unfold insK
  simp only [List.length_append,List.length_take,List.length_cons,List.length_drop]
  omega
theorem delK_len {c:Nat} {l:List Nd} (h:c < l.length):(delK c l).length + 1 = l.length:=by
  unfold delK
  simp only [List.length_append,List.length_take,List.length_drop]
  omega
theorem get_ins {at_:Nat} {x:Nd} {l:List Nd} (h:at_≤l.length) (j:Nat):(insK at_ x l)[j]? = if j < at_ then l[j]? else if j = at_ then some x else l[j - 1]?:=by
  unfold insK
  by_cases h1:j < at_
  · rw [if_pos h1,List.getElem?_append_left (by rw [List.length_take];omega),List.getElem?_take,if_pos h1]
  · rw [if_neg h1,List.getElem?_append_right (by rw [List.length_take];omega),List.length_take,show j - min at_ l.length = j - at_ by omega]
    by_cases h2:j = at_
    · rw [if_pos h2,h2,Nat.sub_self];rfl
    · rw [if_neg h2]
      obtain ⟨k,rfl⟩:∃ k,j = at_ + (k + 1):=⟨j - at_ - 1,by omega⟩
      rw [show at_ + (k + 1) - at_ = k + 1 by omega,List.getElem?_cons_succ,List.getElem?_drop]
      rfl
theorem get_del {c:Nat} {l:List Nd} (h:c < l.length) (j:Nat):(delK c l)[j]? = if j < c then l[j]? else l[j + 1]?:=by
  unfold delK
  by_cases h1:j < c
  · rw [if_pos h1,List.getElem?_append_left (by rw [List.length_take];omega),List.getElem?_take,if_pos h1]
  · rw [if_neg h1,List.getElem?_append_right (by rw [List.length_take];omega),List.length_take,List.getElem?_drop]
    congr 1
    omega
theorem del_ins {at_ c:Nat} {x:Nd} {l:List Nd} (h:at_≤l.length) (hc:c < l.length) :
    delK (if at_≤c then c + 1 else c) (insK at_ x l) = insK (if c < at_ then at_ - 1 else at_) x (delK c l):=by
  have hd:=delK_len hc
  have hi:=insK_len (x:=x) h
  by_cases h1:at_≤c
  · rw [if_pos h1,if_neg (by omega:¬ c < at_)]
    apply List.ext_getElem?
    intro j
    rw [get_del (l:=insK at_ x l) (by omega),get_ins (l:=delK c l) (by omega),get_ins h j,get_ins h (j + 1),get_del hc,get_del hc]
    by_cases h2:j < at_
    · rw [if_pos (by omega:j < c + 1),if_pos h2,if_pos h2,if_pos (by omega:j < c)]
    · rw [if_neg h2]
      by_cases h3:j = at_
      · rw [if_pos (by omega:j < c + 1),if_pos h3,if_neg h2,if_pos h3]
      · by_cases h4:j < c + 1
        · rw [if_pos h4,if_neg h3,if_neg h2,if_neg h3,if_pos (by omega:j - 1 < c)]
        · rw [if_neg h4,if_neg (by omega:¬ j + 1 < at_),if_neg (by omega:¬ j + 1 = at_),if_neg h2,if_neg h3,if_neg (by omega:¬ j - 1 < c),show j + 1 - 1 = j - 1 + 1 by omega]
  · rw [if_neg h1,if_pos (by omega:c < at_)]
    apply List.ext_getElem?
    intro j
    rw [get_del (l:=insK at_ x l) (by omega),get_ins (l:=delK c l) (by omega),get_ins h j,get_ins h (j + 1),get_del hc,get_del hc]
    by_cases h2:j < c
    · rw [if_pos h2,if_pos (by omega:j < at_),if_pos (by omega:j < at_ - 1),if_pos h2]
    · rw [if_neg h2]
      by_cases h3:j < at_ - 1
      · rw [if_pos (by omega:j + 1 < at_),if_pos h3,if_neg h2]
      · rw [if_neg (by omega:¬ j + 1 < at_),if_neg h3]
        by_cases h4:j = at_ - 1
        · rw [if_pos (by omega:j + 1 = at_),if_pos h4]
        · rw [if_neg (by omega:¬ j + 1 = at_),if_neg h4,if_neg (by omega:¬ j - 1 < c),show j + 1 - 1 = j - 1 + 1 by omega]
theorem ins_set {at_ f:Nat} {x z:Nd} {l:List Nd} (h:at_≤l.length) (hf:f < l.length):(insK at_ x l).set (if at_≤f then f + 1 else f) z = insK at_ x (l.set f z):=by
  have hi:=insK_len (x:=x) h
  apply List.ext_getElem?
  intro j
  rw [get_ins (by rw [List.length_set];exact h),List.getElem?_set,get_ins h,List.getElem?_set,List.getElem?_set]
  by_cases h1:at_≤f
  · rw [if_pos h1]
    by_cases h2:j < at_
    · rw [if_neg (by omega:¬ f + 1 = j),if_pos h2,if_pos h2,if_neg (by omega:¬ f = j)]
    · by_cases h3:j = at_
      · rw [if_neg (by omega:¬ f + 1 = j),if_neg h2,if_pos h3,if_neg h2,if_pos h3]
      · by_cases h4:f + 1 = j
        · rw [if_pos h4,if_pos (by omega),if_neg h2,if_neg h3,if_pos (by omega:f = j - 1),if_pos (by omega)]
        · rw [if_neg h4,if_neg h2,if_neg h3,if_neg h2,if_neg h3,if_neg (by omega:¬ f = j - 1)]
  · rw [if_neg h1]
    by_cases h2:j < at_
    · rw [if_pos h2,if_pos h2]
      by_cases h4:f = j
      · rw [if_pos h4,if_pos (by omega),if_pos h4,if_pos (by omega)]
      · rw [if_neg h4,if_neg h4]
    · rw [if_neg (by omega:¬ f = j),if_neg h2,if_neg h2]
      by_cases h3:j = at_
      · rw [if_pos h3,if_pos h3]
      · rw [if_neg h3,if_neg h3,if_neg (by omega:¬ f = j - 1)]
theorem del_set {c e:Nat} {z:Nd} {l:List Nd} (hc:c < l.length) (he:e < l.length) (hne:e ≠ c):delK c (l.set e z) = (delK c l).set (if c < e then e - 1 else e) z:=by
  have hd:=delK_len hc
  apply List.ext_getElem?
  intro j
  rw [get_del (by rw [List.length_set];exact hc),List.getElem?_set,List.getElem?_set,List.getElem?_set,get_del hc]
  by_cases h1:c < e
  · rw [if_pos h1]
    by_cases h2:j < c
    · rw [if_pos h2,if_neg (by omega:¬ e = j),if_neg (by omega:¬ e - 1 = j),if_pos h2]
    · rw [if_neg h2]
      by_cases h3:e = j + 1
      · rw [if_pos h3,if_pos (by omega),if_pos (by omega:e - 1 = j),if_pos (by omega)]
      · rw [if_neg h3,if_neg (by omega:¬ e - 1 = j),if_neg h2]
  · rw [if_neg h1]
    by_cases h2:j < c
    · rw [if_pos h2]
      by_cases h3:e = j
      · rw [if_pos h3,if_pos h3,if_pos (by omega),if_pos (by omega)]
      · rw [if_neg h3,if_neg h3,if_pos h2]
    · rw [if_neg h2,if_neg (by omega:¬ e = j + 1),if_neg (by omega:¬ e = j),if_neg h2]

def modV (t:Nd) (p:List Int) (f:List Nd→List Nd):Option Nd:=(atV t p).bind fun y=>putV t p (y.withKids (f y.kids))
theorem mod_nil (t:Nd) (f:List Nd→List Nd):modV t [] f = some (t.withKids (f t.kids)):=rfl
theorem mod_nat {t k:Nd} {j:Nat} {p:List Int} {f:List Nd→List Nd} (h:t.kids[j]? = some k):modV t ((j:Int) :: p) f = (modV k p f).map fun z=>t.withKids (t.kids.set j z):=by
  unfold modV
  rw [atV_nat h]
  cases atV k p with
  | none=>rfl
  | some y =>
    show putV t ((j:Int) :: p) _ = _
    rw [putV_nat h]
    rfl
theorem mod_at {t y:Nd} {p:List Int} {f:List Nd→List Nd} (h:atV t p = some y):modV t p f = putV t p (y.withKids (f y.kids)):=by unfold modV;rw [h];rfl
theorem mod_some {t y:Nd} {p:List Int} {f:List Nd→List Nd} (h:atV t p = some y):∃ m,modV t p f = some m:=by
  rw [mod_at h]
  obtain ⟨a,h1,-⟩:=put_all p t (y.withKids (f y.kids)) y h
  exact ⟨a,h1⟩
def delAt (t:Nd):List Int→Option Nd
  | []=>none
  | c :: p=>modV t ((c :: p).dropLast) (delK ((c :: p).getLast (by simp)).toNat)
theorem delAt_one (t:Nd) (c:Int):delAt t [c] = some (t.withKids (delK c.toNat t.kids)):=rfl
theorem delAt_cons {t k:Nd} {j:Nat} {c:Int} {p:List Int} (h:t.kids[j]? = some k):delAt t ((j:Int) :: c :: p) = (delAt k (c :: p)).map fun z=>t.withKids (t.kids.set j z):=by
  show modV t (((j:Int) :: c :: p).dropLast) _ = (modV k ((c :: p).dropLast) _).map _
  rw [show ((j:Int) :: c :: p).dropLast = (j:Int) :: (c :: p).dropLast from rfl,mod_nat h]
  rfl
theorem delAt_snoc (t:Nd) (q:List Int) (c:Nat):delAt t (q ++ [(c:Int)]) = modV t q (delK c):=by
  cases q with
  | nil=>rfl
  | cons a r =>
    show modV t ((a :: (r ++ [(c:Int)])).dropLast) (delK ((a :: (r ++ [(c:Int)])).getLast _).toNat) = _
    have e1:(a :: (r ++ [(c:Int)])).dropLast = a :: r:=by
      rw [show a :: (r ++ [(c:Int)]) = (a :: r) ++ [(c:Int)] from rfl,List.dropLast_concat]
    have e2:(a :: (r ++ [(c:Int)])).getLast (by simp) = (c:Int):=by
      have:∀ (l:List Int) (h:l ++ [(c:Int)] ≠ []),(l ++ [(c:Int)]).getLast h = (c:Int):=fun l h=>by simp
      exact this (a :: r) (by simp)
    rw [e1,e2]
    rfl

def docFrom:List Int→List Int→Nat→List Int
  | [],_,_=>[]
  | f :: r,[],at_=>(if (at_:Int)≤f then f + 1 else f) :: r
  | f :: r,e :: s,at_=>if f = e then f :: docFrom r s at_ else f :: r
def progTo:List Int→List Int→Nat→List Int × Nat
  | [],to_,at_=>(to_,at_)
  | [c],[],at_=>([],if c < (at_:Int) then at_ - 1 else at_)
  | _ :: _ :: _,[],at_=>([],at_)
  | [c],e :: s,at_=>((if c < e then e - 1 else e) :: s,at_)
  | f :: g :: r,e :: s,at_=>if f = e then (e :: (progTo (g :: r) s at_).1,(progTo (g :: r) s at_).2) else (e :: s,at_)
theorem move_both:∀ (from_ to_:List Int) (t x0 y x:Nd) (at_:Nat),atV t from_ = some x0→atV t to_ = some y→from_ ≠ []→¬ from_ <+: to_→at_≤y.kids.length →
    ∃ m1 m2 r,modV t to_ (insK at_ x) = some m1∧delAt m1 (docFrom from_ to_ at_) = some r∧delAt t from_ = some m2∧modV m2 (progTo from_ to_ at_).1 (insK (progTo from_ to_ at_).2 x) = some r
  | [],to_,t,x0,y,x,at_,_,_,h,_,_=>absurd rfl h
  | [ci],[],t,x0,y,x,at_,h1,h2,_,_,h5=>by
    obtain ⟨c,k,rfl,hk,-⟩:=atV_cons h1
    have hc:c < t.kids.length:=(List.getElem?_eq_some_iff.1 hk).1
    simp only [atV,Option.some.injEq] at h2
    subst h2
    refine ⟨_,_,_,mod_nil _ _,rfl,rfl,?_⟩
    simp only [progTo]
    rw [mod_nil,with_kids,with_with,with_kids,with_with]
    have e1:(if ((at_:Nat):Int)≤(c:Int) then (c:Int) + 1 else (c:Int)).toNat = if at_≤c then c + 1 else c:=by split <;> split <;> omega
    have e2:(if (c:Int) < (at_:Int) then at_ - 1 else at_) = if c < at_ then at_ - 1 else at_:=by split <;> split <;> omega
    show some (t.withKids _) = some (t.withKids (delK (if ((at_:Nat):Int)≤(c:Int) then (c:Int) + 1 else (c:Int)).toNat _))
    rw [e1,e2,del_ins h5 hc]
    rfl
  | fi :: g :: r,[],t,x0,y,x,at_,h1,h2,_,_,h5=>by
    obtain ⟨f,k,rfl,hk,hx⟩:=atV_cons h1
    have hf:f < t.kids.length:=(List.getElem?_eq_some_iff.1 hk).1
    simp only [atV,Option.some.injEq] at h2
    subst h2
    obtain ⟨k',hk'⟩:∃ k',delAt k (g :: r) = some k':=by
      have:∀ (p:List Int) (k x0:Nd) (g:Int),atV k (g :: p) = some x0→∃ k',delAt k (g :: p) = some k':=by
        intro p
        induction p with
        | nil=>intro k x0 g h;exact ⟨_,rfl⟩
        | cons b p ih =>
          intro k x0 g h
          obtain ⟨j,z,rfl,hz,hw⟩:=atV_cons h
          obtain ⟨k',hk'⟩:=ih z x0 b hw
          rw [delAt_cons hz,hk']
          exact ⟨_,rfl⟩
      exact this r k x0 g hx
    have e1:(if ((at_:Nat):Int)≤(f:Int) then (f:Int) + 1 else (f:Int)) = ((if at_≤f then f + 1 else f:Nat):Int):=by split <;> split <;> omega
    have hg:(t.withKids (insK at_ x t.kids)).kids[if at_≤f then f + 1 else f]? = some k:=by
      rw [with_kids,get_ins h5]
      by_cases h:at_≤f
      · rw [if_pos h,if_neg (by omega),if_neg (by omega),Nat.add_sub_cancel];exact hk
      · rw [if_neg h,if_pos (by omega)];exact hk
    refine ⟨_,_,t.withKids (insK at_ x (t.kids.set f k')),mod_nil _ _,?_,by rw [delAt_cons hk,hk'];rfl,?_⟩
    · simp only [docFrom]
      rw [e1,delAt_cons hg,hk']
      simp only [Option.map_some,with_kids,with_with]
      rw [ins_set h5 hf]
    · simp only [progTo]
      rw [mod_nil,with_kids,with_with]
  | [ci],ei :: s,t,x0,y,x,at_,h1,h2,_,h4,h5=>by
    obtain ⟨c,k,rfl,hk,-⟩:=atV_cons h1
    obtain ⟨e,ke,rfl,hke,hy⟩:=atV_cons h2
    have hc:c < t.kids.length:=(List.getElem?_eq_some_iff.1 hk).1
    have he:e < t.kids.length:=(List.getElem?_eq_some_iff.1 hke).1
    have hne:e ≠ c:=fun h=>h4 (by subst h;exact ⟨s,rfl⟩)
    obtain ⟨ke',hke'⟩:=mod_some (f:=insK at_ x) hy
    have hg:(t.withKids (delK c t.kids)).kids[if c < e then e - 1 else e]? = some ke:=by
      rw [with_kids,get_del hc]
      by_cases h:c < e
      · rw [if_pos h,if_neg (by omega),show e - 1 + 1 = e by omega];exact hke
      · rw [if_neg h,if_pos (by omega)];exact hke
    have e1:(if (c:Int) < (e:Int) then (e:Int) - 1 else (e:Int)) = ((if c < e then e - 1 else e:Nat):Int):=by split <;> split <;> omega
    refine ⟨_,_,t.withKids (delK c (t.kids.set e ke')),by rw [mod_nat hke,hke'];rfl,?_,rfl,?_⟩
    · simp only [docFrom]
      rw [if_neg (by omega)]
      rw [delAt_one,with_kids,with_with]
      rfl
    · simp only [progTo]
      rw [e1]
      show modV (t.withKids (delK c t.kids)) _ _ = _
      rw [mod_nat hg,hke']
      simp only [Option.map_some,with_kids,with_with]
      rw [del_set hc he hne]
  | fi :: g :: r,ei :: s,t,x0,y,x,at_,h1,h2,_,h4,h5=>by
    obtain ⟨f,k,rfl,hk,hx⟩:=atV_cons h1
    obtain ⟨e,ke,rfl,hke,hy⟩:=atV_cons h2
    have hf:f < t.kids.length:=(List.getElem?_eq_some_iff.1 hk).1
    have he:e < t.kids.length:=(List.getElem?_eq_some_iff.1 hke).1
    by_cases hfe:f = e
    · subst hfe
      rw [hk] at hke
      injection hke with hke
      subst hke
      obtain ⟨m1,m2,r',i1,i2,i3,i4⟩:=move_both (g :: r) s k x0 y x at_ hx hy (by simp) (fun h=>h4 (by obtain ⟨z,hz⟩:=h;exact ⟨z,by rw [List.cons_append,hz]⟩)) h5
      have g1:(t.withKids (t.kids.set f m1)).kids[f]? = some m1:=by rw [with_kids,List.getElem?_set_self hf]
      have g2:(t.withKids (t.kids.set f m2)).kids[f]? = some m2:=by rw [with_kids,List.getElem?_set_self hf]
      refine ⟨t.withKids (t.kids.set f m1),t.withKids (t.kids.set f m2),t.withKids (t.kids.set f r'),by rw [mod_nat hk,i1];rfl,?_,by rw [delAt_cons hk,i3];rfl,?_⟩
      · simp only [docFrom,if_true]
        cases hd:docFrom (g :: r) s at_ with
        | nil=>rw [hd] at i2;exact absurd i2 (by simp [delAt])
        | cons a b =>
          rw [hd] at i2
          rw [delAt_cons g1,i2]
          simp only [Option.map_some,with_kids,with_with,List.set_set]
      · simp only [progTo,if_true]
        rw [mod_nat g2,i4]
        simp only [Option.map_some,with_kids,with_with,List.set_set]
    · obtain ⟨ke',hke'⟩:=mod_some (f:=insK at_ x) hy
      obtain ⟨k',hk'⟩:∃ k',delAt k (g :: r) = some k':=by
        have:∀ (p:List Int) (k x0:Nd) (g:Int),atV k (g :: p) = some x0→∃ k',delAt k (g :: p) = some k':=by
          intro p
          induction p with
          | nil=>intro k x0 g h;exact ⟨_,rfl⟩
          | cons b p ih =>
            intro k x0 g h
            obtain ⟨j,z,rfl,hz,hw⟩:=atV_cons h
            obtain ⟨k',hk'⟩:=ih z x0 b hw
            rw [delAt_cons hz,hk']
            exact ⟨_,rfl⟩
        exact this r k x0 g hx
      have g1:(t.withKids (t.kids.set e ke')).kids[f]? = some k:=by rw [with_kids,List.getElem?_set_ne (fun h=>hfe h.symm)];exact hk
      have g2:(t.withKids (t.kids.set f k')).kids[e]? = some ke:=by rw [with_kids,List.getElem?_set_ne hfe];exact hke
      refine ⟨t.withKids (t.kids.set e ke'),t.withKids (t.kids.set f k'),t.withKids ((t.kids.set e ke').set f k'),by rw [mod_nat hke,hke'];rfl,?_,by rw [delAt_cons hk,hk'];rfl,?_⟩
      · simp only [docFrom]
        rw [if_neg (by omega),delAt_cons g1,hk']
        simp only [Option.map_some,with_kids,with_with]
      · simp only [progTo]
        rw [if_neg (by omega),mod_nat g2,hke']
        simp only [Option.map_some,with_kids,with_with]
        rw [List.set_comm _ _ hfe]
end Go.Proofs.Ytmipodnffhngaaa
namespace Go.Proofs.Ytmipodnffhngaaa.P5
set_option linter.unusedVariables false
open Go.RowKit
set_option maxRecDepth 20000
open Ltx (Pc)

theorem step_append_known {P:Program} {ops:Array Oper} {o:Oper} {a:Act} {w:World} {K:Act→World→Prop} {Q:Exit→Act→World→Prop} {E:Prop} (hgd:o.guard = none) (s x:Operand) (t u:TypeId)
    (ho:o.op = .call { callee:=.builtin .append,args:=#[s,x],argTypes:=#[t,u] }) (v y v':Value) (w':World) (hs:a.eval s = v) (hx:a.eval x = y)
    (hr:(Builtin.append_ #[t,u] o.type #[v,y]).run P w = .ok v' w') (h:K (a.put o.dst v') w') :
    if Region.wanted o (yielded ops a.tmps) = true then Oper.wp P o a w K Q else E:=by
  have hw:Region.wanted o (yielded ops a.tmps) = true:=by simp [Region.wanted,hgd]
  rw [if_pos hw]
  unfold Oper.wp execOp
  simp only [ho,resolve,invoke,builtin,Sem.run_bind,Sem.run_pure,Result.andThen_ok,List.map_toArray,List.map_cons,List.map_nil,hs,hx,hr]
  exact h
theorem _root_.Go.Proofs.Ytmipodnffhngaaa.OwnB.cut0 {base:Nat} {w:World} {A:Option Addr} {n c:Nat} {bs:List UInt8} (h:OwnB base w (.slice A n c) bs):OwnB base w (.slice A 0 c) []:=by
  refine ⟨rfl,?_⟩
  rcases h.2 with ⟨e,_⟩ | ⟨g,cap,cur,e,hb,hg,hnc,hcm,hcs,_⟩
  · injection e with e1 e2 e3
    subst e1 e3
    exact .inl ⟨rfl,rfl⟩
  · injection e with e1 e2 e3
    subst e1 e3
    exact .inr ⟨g,c,cur,rfl,hb,hg,Nat.zero_le _,hcm,hcs,by simp⟩
def FinS (p n c:Nat) (A:Option Addr) (kept gone:Int) (txt:List UInt8) (w':World):Prop :=
  w'.cell? ⟨p,1,none⟩ = some (.int .i64 kept)∧w'.cell? ⟨p,2,none⟩ = some (.slice A n c)∧w'.cell? ⟨p,3,none⟩ = some (.int .i64 gone)∧(convert 116 9 (.slice A n c)).run Try.prog w' = .ok (.string ⟨txt.toArray⟩) w'
theorem DraftAt.also {w:World} {S:Nat→Prop} {base p:Nat} {d:DV} (h:DraftAt w S base p d):DraftAt w (Also S w w) base p d:=by
  obtain ⟨h1,h2,v1,v2,hp,hd,ht,s1,s2⟩:=h
  exact ⟨fun k hk=>by rcases hk with hk | hk;exact h1 k hk;omega,.inl h2,v1,v2,hp,hd,ht,fun k hk=>.inl (s1 k hk),fun k hk=>.inl (s2 k hk)⟩
set_option maxHeartbeats 1000000 in
theorem finish_any (w:World) (S:Nat→Prop) (base p:Nat) (d:DV) (h:DraftAt w S base p d) (hlow:Low d.done) (hlen:d.text.length≤1000000∧d.done.length≤1000000∧d.kept≤4000000000∧d.gone≤4000000000) (hbase:base≤w.heap.size) :
    Calls Try.prog 143 #[.pointer (some ⟨p,0,none⟩)] w fun e w'=>e = .returned (.tuple #[])∧DraftAt w' (Also S w w') base p d.fin∧FrX S w w':=by
  obtain ⟨l1,l2,l3,l4⟩:=hlen
  have h0:=Lib.hid h
  obtain ⟨h1,h2,v1,v2,hp,hd,ht,s1,s2⟩:=h
  obtain ⟨A,n,c,rfl,hn,hnc,hcm,hB,_⟩:=ht.shape_n (by unfold maxLen;omega)
  have hstr:=fun w' (hb:Below w.heap.size w w')=>run_str w' A n c d.text (hB.below hb)
  have c0:=cell_of_row w p 0 _ _ _ hp
  have c1:=cell_of_row w p 1 _ _ _ hp
  have c2:=cell_of_row w p 2 _ _ _ hp
  have c3:=cell_of_row w p 3 _ _ _ hp
  have f0:=frozen_of_row w p 0 _ _ hp
  have f1:=frozen_of_row w p 1 _ _ hp
  have f2:=frozen_of_row w p 2 _ _ hp
  have f3:=frozen_of_row w p 3 _ _ hp
  simp at c0 c1 c2 c3
  obtain ⟨A1,n1,k1,rfl,hn1,hnc1,hcm1,_,hA1⟩:=hd.shape hlow
  have hp':=Lib.hid hp
  have hd':=Lib.hid hd
  have ht':=Lib.hid ht
  have hn':=Lib.hid hn
  have hn1':=Lib.hid hn1
  have hstr':=Lib.hid hstr
  clear hp hd ht hn hB hstr hn1
  by_cases hi:d.text = []∧d.gone = 0
  · have hfin:d.fin = d:=by unfold DV.fin;rw [if_pos hi]
    have hn0:n = 0:=by rw [hn'.out,hi.1];rfl
    have hg0:((d.gone:Int) == 0) = true:=by rw [hi.2];rfl
    have hg1:((n:Int) == 0) = true:=by rw [hn0];rfl
    have hfin':=Lib.hid hfin
    clear hfin hi hn0
    go_enter Try.func143,Try.ntmps143
    go_wp2_with fail
    refine bodyPost_ret (v:=.tuple #[]) (results_none rfl _ _ _) rfl ⟨rfl,?_,FrX.refl _ _⟩
    rw [hfin'.out]
    exact h0.out.also
  · have hfin:d.fin = ⟨d.done ++ [d.last],0,[],0⟩:=by unfold DV.fin;rw [if_neg hi]
    have hfin':=Lib.hid hfin
    have hw0:Below w.heap.size w w.drew:=(Below.refl w.heap.size w).drew
    have hs1:=hstr'.out w.drew hw0
    obtain ⟨i0,hi0,hz0,hz1,hz2⟩:=info_parts Try.infoP
    have hi0':=Lib.hid hi0
    have hz0':=Lib.hid hz0
    have hz1':=Lib.hid hz1
    have hz2':=Lib.hid hz2
    have hplt:=(h1 p h2).2
    have hrow:=Lib.hid (show ∀ o,((w.alloc o).drew).ownsRow base 53 3 (.slice A1 n1 k1) n1 (d.done.flatMap cellsOf) from fun o=>by
      have h:=hd'.out
      unfold OwnP at h
      rw [← hn1'.out] at h
      exact World.ownsRow.alloc h o)
    have hI:¬ ((n:Int) = 0∧(d.gone:Int) = 0):=fun e=>hi ⟨List.eq_nil_of_length_eq_zero (by rw [← hn'.out];omega),by omega⟩
    have hcs:(((n:Int) == 0) = true∧((d.gone:Int) == 0) = false)∨((n:Int) == 0) = false:=by
      by_cases e:(n:Int) = 0
      · have e2:¬ (d.gone:Int) = 0:=fun e2=>hI ⟨e,e2⟩
        exact .inl ⟨by simpa using e,by simpa using e2⟩
      · exact .inr (by simpa using e)
    have hnews:=Lib.hid (show ∀ (j:Nat) (u:Value),([.int .i64 (d.kept:Int),.int .i64 (d.gone:Int),.string ⟨d.text.toArray⟩]:List Value)[j]? = some u→(w.alloc (.cells #[.int .i64 (d.kept:Int),.int .i64 (d.gone:Int),.string ⟨d.text.toArray⟩] 53)).drew.cell? ((⟨w.heap.size,0,none⟩:Addr).add j) = some u from
      World.news_of_block (w:=w.alloc (.cells #[.int .i64 (d.kept:Int),.int .i64 (d.gone:Int),.string ⟨d.text.toArray⟩] 53)) (cs:=#[.int .i64 (d.kept:Int),.int .i64 (d.gone:Int),.string ⟨d.text.toArray⟩]) (t:=53) (fr:=(0,0)) (heap_alloc_new w _))
    have hone:=Lib.hid (show ∀ u ∈ ([.int .i64 (d.kept:Int),.int .i64 (d.gone:Int),.string ⟨d.text.toArray⟩]:List Value),u.oneCell' = true from by simp [Value.oneCell'])
    have hbd:=Lib.hid (show n1 + 1≤maxLen∧(n1 + 1) * 32≤140737488355328 from by have:=hn1'.out;unfold maxLen;omega)
    have hbd2:=Lib.hid (show ∀ o,base≤(w.alloc o).drew.heap.size from fun o=>by simp;omega)
    obtain ⟨g,cap,w3,hr,ho3,hg3,hat3,hlt3⟩:=run_append_lies (P:=Try.prog) (w:=(w.alloc (.cells #[.int .i64 (d.kept:Int),.int .i64 (d.gone:Int),.string ⟨d.text.toArray⟩] 53)).drew) 24 24 base 53 i0 _ 3 32 Try.underlying24 hi0 hz0 hz1 hz2 rfl (by decide) (.slice A1 n1 k1) n1 (d.done.flatMap cellsOf) (hrow.out _)
      ⟨w.heap.size,0,none⟩ 1 1 [.int .i64 (d.kept:Int),.int .i64 (d.gone:Int),.string ⟨d.text.toArray⟩] rfl hnews.out hone.out (by decide) hbd.out.1 hbd.out.2 (hbd2.out _) (w.heap.size + 1) (by simp)
    have hq3:=(hg3.block p (by simp;omega) (fun e=>own_ne (hrow.out (.cells #[] 53)) ((Go.heap_alloc_old w _ hplt).trans hp'.out) (by decide) e.symm)).trans ((Go.heap_alloc_old w _ hplt).trans hp'.out)
    have c03:=cell_of_row w3 p 0 _ _ _ hq3
    have f03:=frozen_of_row w3 p 0 _ _ hq3
    simp at c03
    have hB3:Bts w3 A n d.text:=by
      have h:=own_kept (w':=w3) ht'.out (fun k hk=>by
        have hlk:=(World.ownsRow.lt ht'.out k hk).2
        rw [hg3.block k (by simp;omega) (fun e=>own_apart hd'.out ht'.out (by decide) e.symm hk)]
        exact Go.heap_alloc_old w _ hlk)
      exact OwnB.reads h (by unfold maxLen;omega)
    have hS0:FinS p n c A (d.kept:Int) (d.gone:Int) d.text w.drew:=⟨c1,c2,c3,hstr'.out _ hw0⟩
    have hS1:FinS p n c A (d.kept:Int) (d.gone:Int) d.text (w.alloc (.cells #[.int .i64 (d.kept:Int),.int .i64 (d.gone:Int),.string ⟨d.text.toArray⟩] 53)).drew:=by
      have hb:Below w.heap.size w (w.alloc (.cells #[.int .i64 (d.kept:Int),.int .i64 (d.gone:Int),.string ⟨d.text.toArray⟩] 53)).drew:=((Below.refl w.heap.size w).alloc (Nat.le_refl _) _).drew
      exact ⟨(hb.cell (p:=⟨p,1,none⟩) hplt).trans c1,(hb.cell (p:=⟨p,2,none⟩) hplt).trans c2,(hb.cell (p:=⟨p,3,none⟩) hplt).trans c3,hstr'.out _ hb⟩
    have hS3:FinS p n c A (d.kept:Int) (d.gone:Int) d.text w3:=⟨cell_of_row w3 p 1 _ _ _ hq3,cell_of_row w3 p 2 _ _ _ hq3,cell_of_row w3 p 3 _ _ _ hq3,run_str w3 A n c d.text hB3⟩
    have hS4:∀ v,FinS p n c A (d.kept:Int) (d.gone:Int) d.text (w3.setCell ⟨p,0,none⟩ v):=fun v=>by
      have hq4:=heap_setCell_same w3 p 0 _ _ v hq3
      refine ⟨cell_of_row _ p 1 _ _ _ hq4,cell_of_row _ p 2 _ _ _ hq4,cell_of_row _ p 3 _ _ _ hq4,run_str _ A n c d.text ?_⟩
      have h:=own_kept (w':=w3.setCell ⟨p,0,none⟩ v) ht'.out (fun k hk=>by
        have hlk:=(World.ownsRow.lt ht'.out k hk).2
        rw [heap_setCell_other w3 ⟨p,0,none⟩ k v (fun e=>by subst e;exact own_ne ht'.out hp'.out (by decide) hk)]
        rw [hg3.block k (by simp;omega) (fun e=>own_apart hd'.out ht'.out (by decide) e.symm hk)]
        exact Go.heap_alloc_old w _ hlk)
      exact OwnB.reads h (by unfold maxLen;omega)
    clear hB3
    have hend:=Lib.hid (show ∃ (g' cap':Nat),(w3.setCell ⟨p,0,none⟩ (.slice (some ⟨g,0,none⟩) (n1 + 1) cap)).heap[p]? = some (.cells #[.slice (some ⟨g',0,none⟩) (n1 + 1) cap',.int .i64 (d.kept:Int),.slice A n c,.int .i64 (d.gone:Int)] 118 (0,0))∧OwnP base (w3.setCell ⟨p,0,none⟩ (.slice (some ⟨g,0,none⟩) (n1 + 1) cap)) (.slice (some ⟨g',0,none⟩) (n1 + 1) cap') (d.done ++ [d.last])∧FrX S w (w3.setCell ⟨p,0,none⟩ (.slice (some ⟨g,0,none⟩) (n1 + 1) cap))∧(S g'∨w.heap.size≤g')∧OwnB base (w3.setCell ⟨p,0,none⟩ (.slice (some ⟨g,0,none⟩) (n1 + 1) cap)) (.slice A n c) d.text from by
      have hot:∀ k,k ≠ p→(w3.setCell ⟨p,0,none⟩ (.slice (some ⟨g,0,none⟩) (n1 + 1) cap)).heap[k]? = w3.heap[k]?:=fun k hk=>heap_setCell_other w3 ⟨p,0,none⟩ k _ hk
      have ho4:OwnP base w3 (.slice (some ⟨g,0,none⟩) (n1 + 1) cap) (d.done ++ [d.last]):=by
        unfold OwnP
        rw [List.length_append,List.flatMap_append,← hn1'.out]
        exact ho3
      refine ⟨g,cap,heap_setCell_same w3 p 0 _ _ _ hq3,own_kept ho4 fun k hk=>hot k (fun e=>own_ne ho4 hq3 (by decide) (e ▸ hk)),?_,?_,?_⟩
      · refine FrX.setCell ⟨hg3.os,hg3.tape,hg3.output,by have:=hg3.size;simp at this;omega,fun k hk hn=>?_⟩ h2
        rw [hg3.block k (by simp;omega) (fun e=>hn (s1 k e.symm))]
        exact Go.heap_alloc_old w _ hk
      · rcases hat3 with e | e
        · exact .inl (s1 g e)
        · exact .inr (by omega)
      · refine own_kept ht'.out fun k hk=>?_
        have hlk:=(World.ownsRow.lt ht'.out k hk).2
        rw [hot k (fun e=>own_ne ht'.out hp'.out (by decide) (e ▸ hk)),hg3.block k (by simp;omega) (fun e=>own_apart hd'.out ht'.out (by decide) e.symm hk)]
        exact Go.heap_alloc_old w _ hlk)
    have hr':=Lib.hid hr
    have ho3':=Lib.hid ho3
    have hg3':=Lib.hid hg3
    have hat':=Lib.hid hat3
    have hq3':=Lib.hid hq3
    clear hr ho3 hg3 hat3 hq3
    clear hi hfin hI hi0 hz0 hz1 hz2
    rcases hcs with ⟨g1,g2⟩ | g1
    all_goals
      go_enter Try.func143,Try.ntmps143
      go_wp2_with fail
      go_cut [] from 15 to 37 (fun wc=>∃ (g cap:Nat),wc.heap[p]? = some (.cells #[.slice (some ⟨g,0,none⟩) (n1 + 1) cap,.int .i64 (d.kept:Int),.slice A n c,.int .i64 (d.gone:Int)] 118 (0,0))∧OwnP base wc (.slice (some ⟨g,0,none⟩) (n1 + 1) cap) (d.done ++ [d.last])∧FrX S w wc∧(S g∨w.heap.size≤g)∧OwnB base wc (.slice A n c) d.text)
      case first =>
        refine wp_region_held_drew (S:=FinS p n c A (d.kept:Int) (d.gone:Int) d.text) (by kernel_rfl) ?_ (fun hHeld=>?_)
        · exact hS0
        refine wpAnyH_take (i:=0) (oi:={ dst:=some 15,op:=Go.Op.move (Go.Operand.tmp 0),type:=157,pos:="draft.go:29",after:=#[],guard:=none }) (v:=?_) rfl (by kernel_rfl) (by kernel_rfl) (by kernel_rfl) (fun _ _ _ h=>h) (Or.inl ⟨by rfl,?_⟩) hHeld ?_
        rotate_left 1
        · intro w hSw;obtain ⟨q1,q2,q3,q4⟩:=hSw;go_simp;try with_reducible rfl
        try simp only [Act.put,List.setIfInBounds_toArray,List.set_cons_zero,List.set_cons_succ]
        refine wpAnyH_take (i:=1) (oi:={ dst:=some 16,op:=Go.Op.move (Go.Operand.tmp 0),type:=157,pos:="draft.go:29",after:=#[],guard:=none }) (v:=?_) rfl (by kernel_rfl) (by kernel_rfl) (by kernel_rfl) (fun _ _ _ h=>h) (Or.inl ⟨by rfl,?_⟩) hHeld ?_
        rotate_left 1
        · intro w hSw;obtain ⟨q1,q2,q3,q4⟩:=hSw;go_simp;try with_reducible rfl
        try simp only [Act.put,List.setIfInBounds_toArray,List.set_cons_zero,List.set_cons_succ]
        refine wpAnyH_take (i:=2) (oi:={ dst:=some 17,op:=Go.Op.nilCheck (Go.Operand.tmp 16),type:=0,pos:="draft.go:29",after:=#[{ on:=1,ground:=Go.Ground.data }],guard:=none }) (v:=?_) rfl (by kernel_rfl) (by kernel_rfl) (by kernel_rfl) (fun _ _ _ h=>h) (Or.inl ⟨by rfl,?_⟩) hHeld ?_
        rotate_left 1
        · intro w hSw;obtain ⟨q1,q2,q3,q4⟩:=hSw;go_simp;try with_reducible rfl
        try simp only [Act.put,List.setIfInBounds_toArray,List.set_cons_zero,List.set_cons_succ]
        refine wpAnyH_take (i:=3) (oi:={ dst:=some 18,op:=Go.Op.fieldAddr 118 (Go.Operand.tmp 17) 0,type:=0,pos:="draft.go:29",after:=#[{ on:=2,ground:=Go.Ground.data }],guard:=none }) (v:=?_) rfl (by kernel_rfl) (by kernel_rfl) (by kernel_rfl) (fun _ _ _ h=>h) (Or.inl ⟨by rfl,?_⟩) hHeld ?_
        rotate_left 1
        · intro w hSw;obtain ⟨q1,q2,q3,q4⟩:=hSw;go_simp;try with_reducible rfl
        try simp only [Act.put,List.setIfInBounds_toArray,List.set_cons_zero,List.set_cons_succ]
        refine wpAnyH_take (i:=5) (oi:={ dst:=some 20,op:=Go.Op.move (Go.Operand.tmp 0),type:=157,pos:="draft.go:29",after:=#[],guard:=none }) (v:=?_) rfl (by kernel_rfl) (by kernel_rfl) (by kernel_rfl) (fun _ _ _ h=>h) (Or.inl ⟨by rfl,?_⟩) hHeld ?_
        rotate_left 1
        · intro w hSw;obtain ⟨q1,q2,q3,q4⟩:=hSw;go_simp;try with_reducible rfl
        try simp only [Act.put,List.setIfInBounds_toArray,List.set_cons_zero,List.set_cons_succ]
        refine wpAnyH_take (i:=6) (oi:={ dst:=some 21,op:=Go.Op.nilCheck (Go.Operand.tmp 20),type:=0,pos:="draft.go:29",after:=#[{ on:=5,ground:=Go.Ground.data }],guard:=none }) (v:=?_) rfl (by kernel_rfl) (by kernel_rfl) (by kernel_rfl) (fun _ _ _ h=>h) (Or.inl ⟨by rfl,?_⟩) hHeld ?_
        rotate_left 1
        · intro w hSw;obtain ⟨q1,q2,q3,q4⟩:=hSw;go_simp;try with_reducible rfl
        try simp only [Act.put,List.setIfInBounds_toArray,List.set_cons_zero,List.set_cons_succ]
        refine wpAnyH_take (i:=7) (oi:={ dst:=some 22,op:=Go.Op.fieldAddr 118 (Go.Operand.tmp 21) 1,type:=0,pos:="draft.go:29",after:=#[{ on:=6,ground:=Go.Ground.data }],guard:=none }) (v:=?_) rfl (by kernel_rfl) (by kernel_rfl) (by kernel_rfl) (fun _ _ _ h=>h) (Or.inl ⟨by rfl,?_⟩) hHeld ?_
        rotate_left 1
        · intro w hSw;obtain ⟨q1,q2,q3,q4⟩:=hSw;go_simp;try with_reducible rfl
        try simp only [Act.put,List.setIfInBounds_toArray,List.set_cons_zero,List.set_cons_succ]
        refine wpAnyH_take (i:=8) (oi:={ dst:=some 23,op:=Go.Op.load 3 (Go.Operand.tmp 22),type:=3,pos:="draft.go:29",after:=#[{ on:=7,ground:=Go.Ground.data }],guard:=none }) (v:=?_) rfl (by kernel_rfl) (by kernel_rfl) (by kernel_rfl) (fun _ _ _ h=>h) (Or.inl ⟨by rfl,?_⟩) hHeld ?_
        rotate_left 1
        · intro w hSw;obtain ⟨q1,q2,q3,q4⟩:=hSw;go_simp;try with_reducible rfl
        try simp only [Act.put,List.setIfInBounds_toArray,List.set_cons_zero,List.set_cons_succ]
        refine wpAnyH_take (i:=9) (oi:={ dst:=some 24,op:=Go.Op.move (Go.Operand.tmp 0),type:=157,pos:="draft.go:29",after:=#[],guard:=none }) (v:=?_) rfl (by kernel_rfl) (by kernel_rfl) (by kernel_rfl) (fun _ _ _ h=>h) (Or.inl ⟨by rfl,?_⟩) hHeld ?_
        rotate_left 1
        · intro w hSw;obtain ⟨q1,q2,q3,q4⟩:=hSw;go_simp;try with_reducible rfl
        try simp only [Act.put,List.setIfInBounds_toArray,List.set_cons_zero,List.set_cons_succ]
        refine wpAnyH_take (i:=10) (oi:={ dst:=some 25,op:=Go.Op.nilCheck (Go.Operand.tmp 24),type:=0,pos:="draft.go:29",after:=#[{ on:=9,ground:=Go.Ground.data }],guard:=none }) (v:=?_) rfl (by kernel_rfl) (by kernel_rfl) (by kernel_rfl) (fun _ _ _ h=>h) (Or.inl ⟨by rfl,?_⟩) hHeld ?_
        rotate_left 1
        · intro w hSw;obtain ⟨q1,q2,q3,q4⟩:=hSw;go_simp;try with_reducible rfl
        try simp only [Act.put,List.setIfInBounds_toArray,List.set_cons_zero,List.set_cons_succ]
        refine wpAnyH_take (i:=11) (oi:={ dst:=some 26,op:=Go.Op.fieldAddr 118 (Go.Operand.tmp 25) 3,type:=0,pos:="draft.go:29",after:=#[{ on:=10,ground:=Go.Ground.data }],guard:=none }) (v:=?_) rfl (by kernel_rfl) (by kernel_rfl) (by kernel_rfl) (fun _ _ _ h=>h) (Or.inl ⟨by rfl,?_⟩) hHeld ?_
        rotate_left 1
        · intro w hSw;obtain ⟨q1,q2,q3,q4⟩:=hSw;go_simp;try with_reducible rfl
        try simp only [Act.put,List.setIfInBounds_toArray,List.set_cons_zero,List.set_cons_succ]
        refine wpAnyH_take (i:=12) (oi:={ dst:=some 27,op:=Go.Op.load 3 (Go.Operand.tmp 26),type:=3,pos:="draft.go:29",after:=#[{ on:=11,ground:=Go.Ground.data }],guard:=none }) (v:=?_) rfl (by kernel_rfl) (by kernel_rfl) (by kernel_rfl) (fun _ _ _ h=>h) (Or.inl ⟨by rfl,?_⟩) hHeld ?_
        rotate_left 1
        · intro w hSw;obtain ⟨q1,q2,q3,q4⟩:=hSw;go_simp;try with_reducible rfl
        try simp only [Act.put,List.setIfInBounds_toArray,List.set_cons_zero,List.set_cons_succ]
        refine wpAnyH_take (i:=13) (oi:={ dst:=some 28,op:=Go.Op.move (Go.Operand.tmp 0),type:=157,pos:="draft.go:29",after:=#[],guard:=none }) (v:=?_) rfl (by kernel_rfl) (by kernel_rfl) (by kernel_rfl) (fun _ _ _ h=>h) (Or.inl ⟨by rfl,?_⟩) hHeld ?_
        rotate_left 1
        · intro w hSw;obtain ⟨q1,q2,q3,q4⟩:=hSw;go_simp;try with_reducible rfl
        try simp only [Act.put,List.setIfInBounds_toArray,List.set_cons_zero,List.set_cons_succ]
        refine wpAnyH_take (i:=14) (oi:={ dst:=some 29,op:=Go.Op.nilCheck (Go.Operand.tmp 28),type:=0,pos:="draft.go:29",after:=#[{ on:=13,ground:=Go.Ground.data }],guard:=none }) (v:=?_) rfl (by kernel_rfl) (by kernel_rfl) (by kernel_rfl) (fun _ _ _ h=>h) (Or.inl ⟨by rfl,?_⟩) hHeld ?_
        rotate_left 1
        · intro w hSw;obtain ⟨q1,q2,q3,q4⟩:=hSw;go_simp;try with_reducible rfl
        try simp only [Act.put,List.setIfInBounds_toArray,List.set_cons_zero,List.set_cons_succ]
        refine wpAnyH_take (i:=15) (oi:={ dst:=some 30,op:=Go.Op.fieldAddr 118 (Go.Operand.tmp 29) 2,type:=0,pos:="draft.go:29",after:=#[{ on:=14,ground:=Go.Ground.data }],guard:=none }) (v:=?_) rfl (by kernel_rfl) (by kernel_rfl) (by kernel_rfl) (fun _ _ _ h=>h) (Or.inl ⟨by rfl,?_⟩) hHeld ?_
        rotate_left 1
        · intro w hSw;obtain ⟨q1,q2,q3,q4⟩:=hSw;go_simp;try with_reducible rfl
        try simp only [Act.put,List.setIfInBounds_toArray,List.set_cons_zero,List.set_cons_succ]
        refine wpAnyH_take (i:=16) (oi:={ dst:=some 31,op:=Go.Op.load 116 (Go.Operand.tmp 30),type:=116,pos:="draft.go:29",after:=#[{ on:=15,ground:=Go.Ground.data }],guard:=none }) (v:=?_) rfl (by kernel_rfl) (by kernel_rfl) (by kernel_rfl) (fun _ _ _ h=>h) (Or.inl ⟨by rfl,?_⟩) hHeld ?_
        rotate_left 1
        · intro w hSw;obtain ⟨q1,q2,q3,q4⟩:=hSw;go_simp;try with_reducible rfl
        try simp only [Act.put,List.setIfInBounds_toArray,List.set_cons_zero,List.set_cons_succ]
        refine wpAnyH_take (i:=17) (oi:={ dst:=some 32,op:=Go.Op.convert 116 9 (Go.Operand.tmp 31),type:=9,pos:="draft.go:29",after:=#[{ on:=16,ground:=Go.Ground.data }],guard:=none }) (v:=?_) rfl (by kernel_rfl) (by kernel_rfl) (by kernel_rfl) (fun _ _ _ h=>h) (Or.inl ⟨by rfl,?_⟩) hHeld ?_
        rotate_left 1
        · intro w hSw;obtain ⟨q1,q2,q3,q4⟩:=hSw;go_simp;try with_reducible rfl
        try simp only [Act.put,List.setIfInBounds_toArray,List.set_cons_zero,List.set_cons_succ]
        refine wpAnyH_take (i:=18) (oi:={ dst:=some 33,op:=Go.Op.build 53 #[(0,Go.Operand.tmp 23),(1,Go.Operand.tmp 27),(2,Go.Operand.tmp 32)],type:=53,pos:="draft.go:29",after:=#[{ on:=8,ground:=Go.Ground.data },{ on:=12,ground:=Go.Ground.data },{ on:=17,ground:=Go.Ground.data }],guard:=none }) (v:=?_) rfl (by kernel_rfl) (by kernel_rfl) (by kernel_rfl) (fun _ _ _ h=>h) (Or.inl ⟨by rfl,?_⟩) hHeld ?_
        rotate_left 1
        · intro w hSw;obtain ⟨q1,q2,q3,q4⟩:=hSw;go_simp;try with_reducible rfl
        try simp only [Act.put,List.setIfInBounds_toArray,List.set_cons_zero,List.set_cons_succ]
        refine wpAnyH_ready (rs:=[4,19]) (by kernel_rfl) (by simp) ?_
        refine AllReadyH.cons (o:={ dst:=some 19,op:=Go.Op.load 24 (Go.Operand.tmp 18),type:=24,pos:="draft.go:29",after:=#[{ on:=3,ground:=Go.Ground.data }],guard:=none }) rfl (fun K hK=>?_) (AllReadyH.cons (o:={ dst:=some 34,op:=Go.Op.buildSlice 24 1 #[(0,Go.Operand.tmp 33)],type:=24,pos:="draft.go:29",after:=#[{ on:=18,ground:=Go.Ground.data }],guard:=none }) rfl (fun K hK=>?_) AllReadyH.nil)
        · go_simp
          refine hK.out _ _ ?_ (fun hNew=>?_)
          · first | assumption | exact hS4 _
          clear hK K hHeld
          have hHeld:=hNew
          clear hNew
          try simp only [Act.put,List.setIfInBounds_toArray,List.set_cons_zero,List.set_cons_succ]
          refine wpAnyH_ready (rs:=[19]) (by kernel_rfl) (by simp) ?_
          refine AllReadyH.cons (o:={ dst:=some 34,op:=Go.Op.buildSlice 24 1 #[(0,Go.Operand.tmp 33)],type:=24,pos:="draft.go:29",after:=#[{ on:=18,ground:=Go.Ground.data }],guard:=none }) rfl (fun K hK=>?_) AllReadyH.nil
          go_simp
          refine hK.out _ _ ?_ (fun hNew=>?_)
          · first | assumption | exact hS4 _
          clear hK K hHeld
          have hHeld:=hNew
          clear hNew
          try simp only [Act.put,List.setIfInBounds_toArray,List.set_cons_zero,List.set_cons_succ]
          refine wpAnyH_ready (rs:=[20]) (by kernel_rfl) (by simp) ?_
          refine AllReadyH.cons (o:={ dst:=some 35,op:=Go.Op.call { callee:=Go.Callee.builtin Go.Builtin.append,args:=#[Go.Operand.tmp 19,Go.Operand.tmp 34],argTypes:=#[24,24] },type:=24,pos:="draft.go:29",after:=#[{ on:=4,ground:=Go.Ground.data },{ on:=19,ground:=Go.Ground.data }],guard:=none }) rfl (fun K hK=>?_) AllReadyH.nil
          refine step_append_known (by rfl) (.tmp 19) (.tmp 34) 24 24 (by rfl) _ _ _ _ (by rfl) (by rfl) hr'.out ?_
          refine hK.out _ _ ?_ (fun hNew=>?_)
          · first | assumption | exact hS4 _
          clear hK K hHeld
          have hHeld:=hNew
          clear hNew
          try simp only [Act.put,List.setIfInBounds_toArray,List.set_cons_zero,List.set_cons_succ]
          refine wpAnyH_take (i:=21) (oi:={ dst:=some 36,op:=Go.Op.nilCheck (Go.Operand.tmp 15),type:=0,pos:="draft.go:29",after:=#[{ on:=0,ground:=Go.Ground.data },{ on:=0,ground:=Go.Ground.phase },{ on:=1,ground:=Go.Ground.phase },{ on:=2,ground:=Go.Ground.phase },{ on:=3,ground:=Go.Ground.phase },{ on:=4,ground:=Go.Ground.phase },{ on:=5,ground:=Go.Ground.phase },{ on:=6,ground:=Go.Ground.phase },{ on:=7,ground:=Go.Ground.phase },{ on:=8,ground:=Go.Ground.phase },{ on:=9,ground:=Go.Ground.phase },{ on:=10,ground:=Go.Ground.phase },{ on:=11,ground:=Go.Ground.phase },{ on:=12,ground:=Go.Ground.phase },{ on:=13,ground:=Go.Ground.phase },{ on:=14,ground:=Go.Ground.phase },{ on:=15,ground:=Go.Ground.phase },{ on:=16,ground:=Go.Ground.phase },{ on:=17,ground:=Go.Ground.phase },{ on:=18,ground:=Go.Ground.phase },{ on:=19,ground:=Go.Ground.phase },{ on:=20,ground:=Go.Ground.phase }],guard:=none }) (v:=?_) rfl (by kernel_rfl) (by kernel_rfl) (by kernel_rfl) (fun _ _ _ h=>h) (Or.inl ⟨by rfl,?_⟩) hHeld ?_
          rotate_left 1
          · intro w hSw;obtain ⟨q1,q2,q3,q4⟩:=hSw;go_simp;try with_reducible rfl
          try simp only [Act.put,List.setIfInBounds_toArray,List.set_cons_zero,List.set_cons_succ]
          refine wpAnyH_take (i:=22) (oi:={ dst:=some 37,op:=Go.Op.fieldAddr 118 (Go.Operand.tmp 36) 0,type:=0,pos:="draft.go:29",after:=#[{ on:=21,ground:=Go.Ground.data },{ on:=0,ground:=Go.Ground.phase },{ on:=1,ground:=Go.Ground.phase },{ on:=2,ground:=Go.Ground.phase },{ on:=3,ground:=Go.Ground.phase },{ on:=4,ground:=Go.Ground.phase },{ on:=5,ground:=Go.Ground.phase },{ on:=6,ground:=Go.Ground.phase },{ on:=7,ground:=Go.Ground.phase },{ on:=8,ground:=Go.Ground.phase },{ on:=9,ground:=Go.Ground.phase },{ on:=10,ground:=Go.Ground.phase },{ on:=11,ground:=Go.Ground.phase },{ on:=12,ground:=Go.Ground.phase },{ on:=13,ground:=Go.Ground.phase },{ on:=14,ground:=Go.Ground.phase },{ on:=15,ground:=Go.Ground.phase },{ on:=16,ground:=Go.Ground.phase },{ on:=17,ground:=Go.Ground.phase },{ on:=18,ground:=Go.Ground.phase },{ on:=19,ground:=Go.Ground.phase },{ on:=20,ground:=Go.Ground.phase }],guard:=none }) (v:=?_) rfl (by kernel_rfl) (by kernel_rfl) (by kernel_rfl) (fun _ _ _ h=>h) (Or.inl ⟨by rfl,?_⟩) hHeld ?_
          rotate_left 1
          · intro w hSw;obtain ⟨q1,q2,q3,q4⟩:=hSw;go_simp;try with_reducible rfl
          try simp only [Act.put,List.setIfInBounds_toArray,List.set_cons_zero,List.set_cons_succ]
          refine wpAnyH_ready (rs:=[23]) (by kernel_rfl) (by simp) ?_
          refine AllReadyH.cons (o:={ dst:=none,op:=Go.Op.store 24 (Go.Operand.tmp 37) (Go.Operand.tmp 35),type:=0,pos:="draft.go:29",after:=#[{ on:=22,ground:=Go.Ground.data },{ on:=20,ground:=Go.Ground.data },{ on:=20,ground:=Go.Ground.chain },{ on:=0,ground:=Go.Ground.phase },{ on:=1,ground:=Go.Ground.phase },{ on:=2,ground:=Go.Ground.phase },{ on:=3,ground:=Go.Ground.phase },{ on:=4,ground:=Go.Ground.phase },{ on:=5,ground:=Go.Ground.phase },{ on:=6,ground:=Go.Ground.phase },{ on:=7,ground:=Go.Ground.phase },{ on:=8,ground:=Go.Ground.phase },{ on:=9,ground:=Go.Ground.phase },{ on:=10,ground:=Go.Ground.phase },{ on:=11,ground:=Go.Ground.phase },{ on:=12,ground:=Go.Ground.phase },{ on:=13,ground:=Go.Ground.phase },{ on:=14,ground:=Go.Ground.phase },{ on:=15,ground:=Go.Ground.phase },{ on:=16,ground:=Go.Ground.phase },{ on:=17,ground:=Go.Ground.phase },{ on:=18,ground:=Go.Ground.phase },{ on:=19,ground:=Go.Ground.phase },{ on:=20,ground:=Go.Ground.phase }],guard:=none }) rfl (fun K hK=>?_) AllReadyH.nil
          go_simp
          refine hK.out _ _ ?_ (fun hNew=>?_)
          · first | assumption | exact hS4 _
          clear hK K hHeld
          have hHeld:=hNew
          clear hNew
          try simp only [Act.put,List.setIfInBounds_toArray,List.set_cons_zero,List.set_cons_succ]
          refine wpAnyH_done (by kernel_rfl) ?_ _
          go_wp2_with fail
          go_meet
          case rel=>exact hend.out
        · go_simp
          refine hK.out _ _ ?_ (fun hNew=>?_)
          · first | assumption | exact hS4 _
          clear hK K hHeld
          have hHeld:=hNew
          clear hNew
          try simp only [Act.put,List.setIfInBounds_toArray,List.set_cons_zero,List.set_cons_succ]
          refine wpAnyH_ready (rs:=[4]) (by kernel_rfl) (by simp) ?_
          refine AllReadyH.cons (o:={ dst:=some 19,op:=Go.Op.load 24 (Go.Operand.tmp 18),type:=24,pos:="draft.go:29",after:=#[{ on:=3,ground:=Go.Ground.data }],guard:=none }) rfl (fun K hK=>?_) AllReadyH.nil
          go_simp
          refine hK.out _ _ ?_ (fun hNew=>?_)
          · first | assumption | exact hS4 _
          clear hK K hHeld
          have hHeld:=hNew
          clear hNew
          try simp only [Act.put,List.setIfInBounds_toArray,List.set_cons_zero,List.set_cons_succ]
          refine wpAnyH_ready (rs:=[20]) (by kernel_rfl) (by simp) ?_
          refine AllReadyH.cons (o:={ dst:=some 35,op:=Go.Op.call { callee:=Go.Callee.builtin Go.Builtin.append,args:=#[Go.Operand.tmp 19,Go.Operand.tmp 34],argTypes:=#[24,24] },type:=24,pos:="draft.go:29",after:=#[{ on:=4,ground:=Go.Ground.data },{ on:=19,ground:=Go.Ground.data }],guard:=none }) rfl (fun K hK=>?_) AllReadyH.nil
          refine step_append_known (by rfl) (.tmp 19) (.tmp 34) 24 24 (by rfl) _ _ _ _ (by rfl) (by rfl) hr'.out ?_
          refine hK.out _ _ ?_ (fun hNew=>?_)
          · first | assumption | exact hS4 _
          clear hK K hHeld
          have hHeld:=hNew
          clear hNew
          try simp only [Act.put,List.setIfInBounds_toArray,List.set_cons_zero,List.set_cons_succ]
          refine wpAnyH_take (i:=21) (oi:={ dst:=some 36,op:=Go.Op.nilCheck (Go.Operand.tmp 15),type:=0,pos:="draft.go:29",after:=#[{ on:=0,ground:=Go.Ground.data },{ on:=0,ground:=Go.Ground.phase },{ on:=1,ground:=Go.Ground.phase },{ on:=2,ground:=Go.Ground.phase },{ on:=3,ground:=Go.Ground.phase },{ on:=4,ground:=Go.Ground.phase },{ on:=5,ground:=Go.Ground.phase },{ on:=6,ground:=Go.Ground.phase },{ on:=7,ground:=Go.Ground.phase },{ on:=8,ground:=Go.Ground.phase },{ on:=9,ground:=Go.Ground.phase },{ on:=10,ground:=Go.Ground.phase },{ on:=11,ground:=Go.Ground.phase },{ on:=12,ground:=Go.Ground.phase },{ on:=13,ground:=Go.Ground.phase },{ on:=14,ground:=Go.Ground.phase },{ on:=15,ground:=Go.Ground.phase },{ on:=16,ground:=Go.Ground.phase },{ on:=17,ground:=Go.Ground.phase },{ on:=18,ground:=Go.Ground.phase },{ on:=19,ground:=Go.Ground.phase },{ on:=20,ground:=Go.Ground.phase }],guard:=none }) (v:=?_) rfl (by kernel_rfl) (by kernel_rfl) (by kernel_rfl) (fun _ _ _ h=>h) (Or.inl ⟨by rfl,?_⟩) hHeld ?_
          rotate_left 1
          · intro w hSw;obtain ⟨q1,q2,q3,q4⟩:=hSw;go_simp;try with_reducible rfl
          try simp only [Act.put,List.setIfInBounds_toArray,List.set_cons_zero,List.set_cons_succ]
          refine wpAnyH_take (i:=22) (oi:={ dst:=some 37,op:=Go.Op.fieldAddr 118 (Go.Operand.tmp 36) 0,type:=0,pos:="draft.go:29",after:=#[{ on:=21,ground:=Go.Ground.data },{ on:=0,ground:=Go.Ground.phase },{ on:=1,ground:=Go.Ground.phase },{ on:=2,ground:=Go.Ground.phase },{ on:=3,ground:=Go.Ground.phase },{ on:=4,ground:=Go.Ground.phase },{ on:=5,ground:=Go.Ground.phase },{ on:=6,ground:=Go.Ground.phase },{ on:=7,ground:=Go.Ground.phase },{ on:=8,ground:=Go.Ground.phase },{ on:=9,ground:=Go.Ground.phase },{ on:=10,ground:=Go.Ground.phase },{ on:=11,ground:=Go.Ground.phase },{ on:=12,ground:=Go.Ground.phase },{ on:=13,ground:=Go.Ground.phase },{ on:=14,ground:=Go.Ground.phase },{ on:=15,ground:=Go.Ground.phase },{ on:=16,ground:=Go.Ground.phase },{ on:=17,ground:=Go.Ground.phase },{ on:=18,ground:=Go.Ground.phase },{ on:=19,ground:=Go.Ground.phase },{ on:=20,ground:=Go.Ground.phase }],guard:=none }) (v:=?_) rfl (by kernel_rfl) (by kernel_rfl) (by kernel_rfl) (fun _ _ _ h=>h) (Or.inl ⟨by rfl,?_⟩) hHeld ?_
          rotate_left 1
          · intro w hSw;obtain ⟨q1,q2,q3,q4⟩:=hSw;go_simp;try with_reducible rfl
          try simp only [Act.put,List.setIfInBounds_toArray,List.set_cons_zero,List.set_cons_succ]
          refine wpAnyH_ready (rs:=[23]) (by kernel_rfl) (by simp) ?_
          refine AllReadyH.cons (o:={ dst:=none,op:=Go.Op.store 24 (Go.Operand.tmp 37) (Go.Operand.tmp 35),type:=0,pos:="draft.go:29",after:=#[{ on:=22,ground:=Go.Ground.data },{ on:=20,ground:=Go.Ground.data },{ on:=20,ground:=Go.Ground.chain },{ on:=0,ground:=Go.Ground.phase },{ on:=1,ground:=Go.Ground.phase },{ on:=2,ground:=Go.Ground.phase },{ on:=3,ground:=Go.Ground.phase },{ on:=4,ground:=Go.Ground.phase },{ on:=5,ground:=Go.Ground.phase },{ on:=6,ground:=Go.Ground.phase },{ on:=7,ground:=Go.Ground.phase },{ on:=8,ground:=Go.Ground.phase },{ on:=9,ground:=Go.Ground.phase },{ on:=10,ground:=Go.Ground.phase },{ on:=11,ground:=Go.Ground.phase },{ on:=12,ground:=Go.Ground.phase },{ on:=13,ground:=Go.Ground.phase },{ on:=14,ground:=Go.Ground.phase },{ on:=15,ground:=Go.Ground.phase },{ on:=16,ground:=Go.Ground.phase },{ on:=17,ground:=Go.Ground.phase },{ on:=18,ground:=Go.Ground.phase },{ on:=19,ground:=Go.Ground.phase },{ on:=20,ground:=Go.Ground.phase }],guard:=none }) rfl (fun K hK=>?_) AllReadyH.nil
          go_simp
          refine hK.out _ _ ?_ (fun hNew=>?_)
          · first | assumption | exact hS4 _
          clear hK K hHeld
          have hHeld:=hNew
          clear hNew
          try simp only [Act.put,List.setIfInBounds_toArray,List.set_cons_zero,List.set_cons_succ]
          refine wpAnyH_done (by kernel_rfl) ?_ _
          go_wp2_with fail
          go_meet
          case rel=>exact hend.out
      case rest =>
        obtain ⟨g,cap,hpc,hdc,hFc,hgS,htc⟩:=hcut
        clear c0 c1 c2 c3 f0 f1 f2 f3 hS0 hS1 hS3 hS4 hr' c03 f03 hs1
        have c0:=cell_of_row wc p 0 _ _ _ hpc
        have c1:=cell_of_row wc p 1 _ _ _ hpc
        have c2:=cell_of_row wc p 2 _ _ _ hpc
        have c3:=cell_of_row wc p 3 _ _ _ hpc
        have f1:=frozen_of_row wc p 1 _ _ hpc
        have f2:=frozen_of_row wc p 2 _ _ hpc
        have f3:=frozen_of_row wc p 3 _ _ hpc
        simp at c0 c1 c2 c3
        have z0:(0:Int)≤(c:Int):=by omega
        have hpc':=Lib.hid hpc
        have hdc':=Lib.hid hdc
        have htc':=Lib.hid htc
        have hFc':=Lib.hid hFc
        clear hpc hdc htc hFc
        go_wp2_with fail
        go_region
        go_end0
        obtain ⟨w4,hw4⟩:∃ w4,w4 = ((wc.setCell ⟨p,1,none⟩ (.int .i64 0)).setCell ⟨p,2,none⟩ (.slice A 0 c)).setCell ⟨p,3,none⟩ (.int .i64 0):=⟨_,rfl⟩
        rw [← hw4]
        have hp4:w4.heap[p]? = some (.cells #[.slice (some ⟨g,0,none⟩) (n1 + 1) cap,.int .i64 0,.slice A 0 c,.int .i64 0] 118 (0,0)):=by
          rw [hw4,heap_setCell_same _ p 3 _ _ _ (heap_setCell_same _ p 2 _ _ _ (heap_setCell_same wc p 1 _ _ _ hpc'.out))]
          rfl
        have hot:∀ k,k ≠ p→w4.heap[k]? = wc.heap[k]?:=fun k hk=>by
          rw [hw4,heap_setCell_other _ ⟨p,3,none⟩ k _ hk,heap_setCell_other _ ⟨p,2,none⟩ k _ hk,heap_setCell_other _ ⟨p,1,none⟩ k _ hk]
        have hs4:w4.heap.size = wc.heap.size:=by rw [hw4];simp
        have hF4:FrX S w w4:=by rw [hw4];exact ((hFc'.out.setCell h2).setCell h2).setCell h2
        have hd4:OwnP base w4 (.slice (some ⟨g,0,none⟩) (n1 + 1) cap) (d.done ++ [d.last]):=own_kept hdc'.out fun k hk=>hot k (fun e=>own_ne hdc'.out hpc'.out (by decide) (e ▸ hk))
        have ht4:OwnB base w4 (.slice A n c) d.text:=own_kept htc'.out fun k hk=>hot k (fun e=>own_ne htc'.out hpc'.out (by decide) (e ▸ hk))
        have hgl:=World.ownsRow.lt hd4 g rfl
        refine ⟨rfl,?_,hF4.drew 1⟩
        rw [hfin'.out]
        refine ⟨fun k hk=>?_,.inl h2,_,_,hp4,hd4,ht4.cut0,fun k hk=>?_,fun k hk=>.inl (s2 k ?_)⟩
        · have hsz:=hF4.size
          rcases hk with hk | hk
          · have:=h1 k hk
            exact ⟨this.1,by show k < w4.heap.size;omega⟩
          · exact ⟨by omega,hk.2⟩
        · have e:g = k:=by simpa [Value.ownBlock] using hk
          subst e
          rcases hgS with e | e
          · exact .inl e
          · exact .inr ⟨e,hgl.2⟩
        · cases A with
          | none=>cases hk
          | some x=>exact hk
end Go.Proofs.Ytmipodnffhngaaa.P5
namespace Go.Proofs.Ytmipodnffhngaaa.P5
set_option linter.unusedVariables false
open Go.RowKit
set_option maxRecDepth 20000
open Ltx (Pc)

def totP (l:List Pc):Nat:=Ltx.extent l + Ltx.puts l
theorem totP_append (l m:List Pc):totP (l ++ m) = totP l + totP m:=by unfold totP;rw [Ltx.extent_append,Ltx.puts_append];omega
theorem totP_one (k d:Nat) (t:List UInt8):totP [⟨k,d,t⟩] = k + d + t.length:=by simp [totP,Ltx.extent,Ltx.puts]
def DV.tot (d:DV):Nat:=totP (d.done ++ [d.last])
theorem DV.tot_eq (d:DV):d.tot = totP d.done + (d.kept + d.gone + d.text.length):=by unfold DV.tot DV.last;rw [totP_append,totP_one]
theorem DV.tot_fin (d:DV) (n:Nat):DV.tot { d.fin with kept:=d.fin.kept + n } = d.tot + n:=by
  rw [DV.tot_eq,DV.tot_eq]
  unfold DV.fin
  by_cases h:d.text = []∧d.gone = 0
  · rw [if_pos h];dsimp only;omega
  · rw [if_neg h]
    dsimp only [List.length_nil]
    rw [totP_append]
    unfold DV.last
    rw [totP_one]
    omega
theorem totP_norm (l:List Pc):totP (Ltx.norm l)≤totP l:=by
  have h1:=Ltx.extent_norm l
  have h2:=Ltx.norm_puts l
  unfold totP
  omega
theorem low_of {l:List Pc} (h:totP l≤4000000000):Low l:=fun p hp=>by
  have h1:=Ltx.mem_sizes hp
  unfold totP at h
  exact ⟨by omega,by omega,by omega⟩
theorem normal_tot {l:List Pc} (h:Ltx.Normal l):l.length≤totP l:=by
  have h1:=Ltx.normal_len h
  have h2:=Ltx.extent_two l
  unfold totP
  omega
def Drf (w:World) (S:Nat→Prop) (base p:Nat) (raw:List Pc):Prop:=∃ d:DV,DraftAt w S base p d∧d.For raw∧d.tot = totP raw
theorem Drf.kept {w w':World} {S:Nat→Prop} {base p:Nat} {raw:List Pc} (h:Drf w S base p raw) (hs:w.heap.size≤w'.heap.size) (hk:∀ k,S k→w'.heap[k]? = w.heap[k]?):Drf w' S base p raw:=by
  obtain ⟨d,h1,h2⟩:=h
  exact ⟨d,h1.kept hs hk,h2⟩
theorem Drf.lt {w:World} {S:Nat→Prop} {base p:Nat} {raw:List Pc} (h:Drf w S base p raw):∀ k,S k→base≤k∧k < w.heap.size:=by
  obtain ⟨d,h1,_⟩:=h
  exact h1.own
theorem Drf.below {w w':World} {S:Nat→Prop} {base p:Nat} {raw:List Pc} (h:Drf w S base p raw) (hb:Below w.heap.size w w'):Drf w' S base p raw :=
  h.kept hb.size fun k hk=>hb.block k (h.lt k hk).2
theorem Drf.new {w:World} {base:Nat} (hb:base≤w.heap.size):Drf (w.alloc (.cells #[.slice none 0 0,.int .i64 0,.slice none 0 0,.int .i64 0] 118)) (fun k=>k = w.heap.size) base w.heap.size []:=by
  refine ⟨DV.fresh,⟨fun k hk=>?_,rfl,.slice none 0 0,.slice none 0 0,heap_alloc_new w _,OwnP.nil_ _ _,OwnB.nil_ _ _,(fun k hk=>by cases hk),(fun k hk=>by cases hk)⟩,DV.For.fresh,rfl⟩
  subst hk
  exact ⟨hb,by simp⟩
section
variable {w:World} {S:Nat→Prop} {base p:Nat} {raw:List Pc}
theorem dput_any (h:Drf w S base p raw) (t:List UInt8) (hb:totP raw + t.length≤1000000) (hbase:base≤w.heap.size) :
    Calls Try.prog 125 #[.pointer (some ⟨p,0,none⟩),.string ⟨t.toArray⟩] w fun e w'=>e = .returned (.tuple #[])∧Drf w' (Also S w w') base p (raw ++ [⟨0,0,t⟩])∧FrX S w w':=by
  obtain ⟨d,h1,h2,h3⟩:=h
  have h4:=d.tot_eq
  refine (put_any w S base p d t h1 (by omega) hbase).mono ?_
  rintro e w' ⟨he,hd,hf⟩
  refine ⟨he,⟨_,hd,h2.put t,?_⟩,hf⟩
  rw [totP_append,totP_one,← h3,DV.tot_eq,DV.tot_eq]
  simp only [List.length_append]
  omega
theorem ddrop_any (h:Drf w S base p raw) (m:Nat) (hb:totP raw + m≤1000000) :
    Calls Try.prog 124 #[.pointer (some ⟨p,0,none⟩),.int .i64 (m:Int)] w fun e w'=>e = .returned (.tuple #[])∧Drf w' (Also S w w') base p (raw ++ [⟨0,m,[]⟩])∧FrX S w w':=by
  obtain ⟨d,h1,h2,h3⟩:=h
  have h4:=d.tot_eq
  refine (drop_any w S base p d m h1 (by omega)).mono ?_
  rintro e w' ⟨he,hd,hf⟩
  refine ⟨he,⟨_,hd,h2.drop m,?_⟩,hf⟩
  rw [totP_append,totP_one,← h3,DV.tot_eq,DV.tot_eq]
  simp only [List.length_nil]
  omega
theorem kept_more {w2:World} {d:DV} {n:Nat} (h2:DraftAt w2 (Also S w w2) base p d) (hF:FrX S w w2) (hp:S p) (hb:d.kept + n≤9223372036854775807) :
    DraftAt (w2.setCell ⟨p,1,none⟩ (.int .i64 ((d.kept:Int) + (n:Int)))) (Also S w (w2.setCell ⟨p,1,none⟩ (.int .i64 ((d.kept:Int) + (n:Int))))) base p { d with kept:=d.kept + n }∧FrX S w (w2.setCell ⟨p,1,none⟩ (.int .i64 ((d.kept:Int) + (n:Int)))):=by
  obtain ⟨o1,o2,v1,v2,hh,hd,ht,s1,s2⟩:=h2
  have hset:=heap_setCell_same w2 p 1 _ _ (.int .i64 ((d.kept:Int) + (n:Int))) hh
  have hot:∀ k,k ≠ p→(w2.setCell ⟨p,1,none⟩ (.int .i64 ((d.kept:Int) + (n:Int)))).heap[k]? = w2.heap[k]?:=fun k hk=>heap_setCell_other w2 ⟨p,1,none⟩ k _ hk
  have hsz:(w2.setCell ⟨p,1,none⟩ (.int .i64 ((d.kept:Int) + (n:Int)))).heap.size = w2.heap.size:=by simp
  have hal:∀ k,Also S w w2 k→Also S w (w2.setCell ⟨p,1,none⟩ (.int .i64 ((d.kept:Int) + (n:Int)))) k:=fun k hk=>by
    rcases hk with hk | hk
    · exact .inl hk
    · exact .inr ⟨hk.1,by omega⟩
  refine ⟨⟨fun k hk=>?_,.inl hp,v1,v2,?_,own_kept hd fun k hk=>hot k (fun e=>own_ne hd hh (by decide) (e ▸ hk)),own_kept ht fun k hk=>hot k (fun e=>own_ne ht hh (by decide) (e ▸ hk)),fun k hk=>hal k (s1 k hk),fun k hk=>hal k (s2 k hk)⟩,hF.setCell hp⟩
  · have:Also S w w2 k:=by
      rcases hk with hk | hk
      · exact .inl hk
      · exact .inr ⟨hk.1,by omega⟩
    have:=o1 k this
    omega
  · rw [hset]
    simp
set_option maxHeartbeats 1000000 in
theorem dkeep_any (h:Drf w S base p raw) (n:Nat) (hb:totP raw + n≤1000000) (hbase:base≤w.heap.size) :
    Calls Try.prog 126 #[.pointer (some ⟨p,0,none⟩),.int .i64 (n:Int)] w fun e w'=>e = .returned (.tuple #[])∧Drf w' (Also S w w') base p (raw ++ [⟨n,0,[]⟩])∧FrX S w w':=by
  obtain ⟨d,h1,h2,h3⟩:=h
  have h4:=d.tot_eq
  have htot:totP (raw ++ [⟨n,0,[]⟩]) = d.tot + n:=by rw [totP_append,totP_one,h3];simp
  by_cases hn:0 < n
  · have h5:=Lib.hid (h2.keep n hn)
    have hlow:=Lib.hid (low_of (l:=d.done) (by omega))
    have hnt:=normal_tot h2.nm
    have h1':=Lib.hid h1
    have hp:=h1.here
    have hf:=d.tot_fin n
    have hfk:d.fin.kept≤d.kept:=by unfold DV.fin;split <;> simp
    have hbnd:=Lib.hid (show d.text.length≤1000000∧d.done.length≤1000000∧d.kept≤4000000000∧d.gone≤4000000000 from ⟨by omega,by omega,by omega,by omega⟩)
    have hkb:d.fin.kept + n≤9223372036854775807:=by omega
    have hf':=Lib.hid hf
    have htot':=Lib.hid htot
    have hnI:(0:Int) < (n:Int):=by omega
    clear h1 h2 h3 h4 hnt hf htot hn hfk
    go_enter Try.func126,Try.ntmps126
    go_wp2_with (go_at_call 143;refine (finish_any w S base p d h1'.out hlow.out hbnd.out hbase).mono ?_;rintro e w2 ⟨rfl,hd2,hF2⟩;have hd2':=Lib.hid hd2;have hF2':=Lib.hid hF2;obtain ⟨_,_,v1,v2,hh,_,_,_,_⟩:=hd2;have c1:=cell_of_row w2 p 1 _ _ _ hh;have f1:=frozen_of_row w2 p 1 _ _ hh;simp at c1;clear hh hF2)
    go_end0
    obtain ⟨k1,k2⟩:=kept_more (n:=n) hd2'.out hF2'.out hp hkb
    exact ⟨rfl,⟨_,k1,h5.out,by rw [htot'.out];exact hf'.out⟩,k2⟩
  · have hn0:n = 0:=by omega
    subst hn0
    have h1':=Lib.hid h1
    have h5:=Lib.hid (show d.For (raw ++ [⟨0,0,[]⟩]) from ⟨h2.eqv.trans (by have:=(Eqv.refl raw).app eqv_nil.symm;rwa [List.append_nil] at this),h2.nm,h2.at_⟩)
    have htot':=Lib.hid htot
    clear h1 h2 h3 h4 hn htot
    go_enter Try.func126,Try.ntmps126
    go_wp2_with fail
    go_end0
    exact ⟨rfl,⟨d,h1'.out.also,h5.out,htot'.out.symm⟩,FrX.refl _ _⟩
set_option maxHeartbeats 1000000 in
theorem dpieces_any (h:Drf w S base p raw) (hb:totP raw≤1000000) (hbase:base≤w.heap.size) :
    Calls Try.prog 141 #[.pointer (some ⟨p,0,none⟩)] w fun e w'=>∃ v,e = .returned v∧OwnP base w' v (Ltx.norm raw)∧(∀ k,v.ownBlock = some k→Also S w w' k)∧FrX S w w':=by
  obtain ⟨d,h1,h2,h3⟩:=h
  have h4:=d.tot_eq
  have hnt:=normal_tot h2.nm
  have hlow:=Lib.hid (low_of (l:=d.done) (by omega))
  have h1':=Lib.hid h1
  have hbnd:=Lib.hid (show d.text.length≤1000000∧d.done.length≤1000000∧d.kept≤4000000000∧d.gone≤4000000000 from ⟨by omega,by omega,by omega,by omega⟩)
  have hfd:=Lib.hid h2.fin_done
  have hfl:Low d.fin.done:=by rw [h2.fin_done];exact low_of (Nat.le_trans (totP_norm raw) (by omega))
  have hfl':=Lib.hid hfl
  clear h1 h2 h3 h4 hnt hfl
  go_enter Try.func141,Try.ntmps141
  go_wp2_with (go_at_call 143;refine (finish_any w S base p d h1'.out hlow.out hbnd.out hbase).mono ?_;rintro e w2 ⟨rfl,hd2,hF2⟩;have hF2':=Lib.hid hF2;obtain ⟨_,_,v1,v2,hh,hd,_,hs,_⟩:=hd2;obtain ⟨A1,n1,k1,rfl,hn1,_,_,_,_⟩:=hd.shape hfl'.out;have hd':=Lib.hid hd;have hs':=Lib.hid hs;have c0:=cell_of_row w2 p 0 _ _ _ hh;simp at c0;clear hh hF2 hd hs hn1)
  go_ret
  exact ⟨_,rfl,by rw [← hfd.out];exact hd'.out,hs'.out,hF2'.out⟩
theorem right_fine {l:List Pc} (h:Ltx.Fine l):rightV (l.map ipc) = true:=by
  obtain ⟨h1,h2,h3⟩:=h
  refine right_of (by simpa using h1) ?_ ?_
  · rw [List.all_eq_true]
    intro x hx
    obtain ⟨p,hp,rfl⟩:=List.mem_map.1 hx
    have:=h2 p hp
    unfold okB mayB ipc
    simp
    omega
  · have e:∀ l:List Pc,putsI (l.map ipc) = Ltx.puts l:=fun l=>by
      induction l with
      | nil=>rfl
      | cons p r ih=>rw [List.map_cons,putsI,ih];rfl
    rw [e]
    exact h3
set_option maxHeartbeats 1000000 in
theorem dwhole_any (h:Drf w S base p raw) (hb:totP raw≤1000000) (hbase:base≤w.heap.size) (hfine:Ltx.Fine (Ltx.norm raw)) :
    Calls Try.prog 127 #[.pointer (some ⟨p,0,none⟩)] w fun e w'=>∃ v,e = .returned (.tuple #[v,.int .i64 0])∧OwnP base w' v (Ltx.norm raw)∧(∀ k,v.ownBlock = some k→Also S w w' k)∧FrX S w w':=by
  have h':=Lib.hid h
  have hfine':=Lib.hid hfine
  have hlow:=Lib.hid (low_of (l:=Ltx.norm raw) (by have h1:=Ltx.extent_norm raw;have h2:=Ltx.norm_puts raw;unfold totP at hb ⊢;omega))
  clear h hfine
  go_enter Try.func127,Try.ntmps127
  go_wp2_with (first
    | (go_at_call 141;refine (dpieces_any h'.out hb hbase).mono ?_;rintro e w2 ⟨v,rfl,hv,hs,hF⟩;obtain ⟨A1,n1,k1,rfl,hn1,hnk,hkm,hP,_⟩:=hv.shape hlow.out;have hv':=Lib.hid hv;have hs':=Lib.hid hs;have hF':=Lib.hid hF;have hP':=Lib.hid hP;have hnm:=Lib.hid (Nat.le_trans hnk hkm);clear hv hs hF hP hn1 hnk hkm)
    | (go_at_call 56;have hr:=right_any w2 A1 n1 k1 _ hP'.out hnm.out;rw [right_fine hfine'.out] at hr;refine hr.mono ?_;clear hr;rintro e w3 ⟨rfl,hb3⟩;have hb3':=Lib.hid hb3;clear hb3))
  go_ret2
  refine ⟨_,rfl,own_kept hv'.out fun k hk=>hb3'.out.block k (World.ownsRow.lt hv'.out k hk).2,fun k hk=>?_,hF'.out.trans (FrX.of_below (S:=S) hb3'.out) (fun k hk=>.inl hk)⟩
  have:=hb3'.out.size
  rcases hs'.out k hk with e | e
  · exact .inl e
  · exact .inr ⟨e.1,by omega⟩
end
end Go.Proofs.Ytmipodnffhngaaa.P5
namespace Go.Proofs.Ytmipodnffhngaaa.P5
set_option linter.unusedVariables false
open Go.RowKit
set_option maxRecDepth 20000
open Ltx (Pc)

def prim (l:List Pc):List Pc:=l.flatMap fun p=>[⟨p.keep,0,[]⟩,⟨0,0,p.put⟩,⟨0,p.drop,[]⟩]
theorem prim_one (p:Pc):Eqv [⟨p.keep,0,[]⟩,⟨0,0,p.put⟩,⟨0,p.drop,[]⟩] [p]:=by
  have h1:Eqv [⟨p.keep,0,[]⟩,⟨0,0,p.put⟩] [⟨p.keep,0,p.put⟩]:=by
    have:=eqv_one (k:=p.keep) (d:=0) (t:=[]) (k':=0) (d':=0) (t':=p.put) rfl
    simpa using this
  have h2:Eqv [⟨p.keep,0,p.put⟩,⟨0,p.drop,[]⟩] [p]:=by
    have:=eqv_one (k:=p.keep) (d:=0) (t:=p.put) (k':=0) (d':=p.drop) (t':=[]) rfl
    simpa using this
  exact (h1.app (Eqv.refl [⟨0,p.drop,[]⟩])).trans h2
theorem prim_eqv:∀ l:List Pc,Eqv (prim l) l
  | []=>Eqv.refl []
  | p :: r=>(prim_one p).app (prim_eqv r)
theorem prim_norm (l:List Pc):Ltx.norm (prim l) = Ltx.norm l:=norm_eqv (prim_eqv l)
theorem prim_append (l m:List Pc):prim (l ++ m) = prim l ++ prim m:=by unfold prim;rw [List.flatMap_append]
theorem totP_prim:∀ l:List Pc,totP (prim l) = totP l
  | []=>rfl
  | p :: r=>by
    have ih:=totP_prim r
    have e:prim (p :: r) = [⟨p.keep,0,[]⟩,⟨0,0,p.put⟩,⟨0,p.drop,[]⟩] ++ prim r:=rfl
    rw [e,totP_append,ih,show totP (p :: r) = totP ([p] ++ r) from rfl,totP_append]
    simp [totP,Ltx.extent,Ltx.puts]
theorem prim_take (l:List Pc) (q:Nat) (p:Pc) (h:l[q]? = some p):prim (l.take (q + 1)) = prim (l.take q) ++ [⟨p.keep,0,[]⟩] ++ [⟨0,0,p.put⟩] ++ [⟨0,p.drop,[]⟩]:=by
  rw [List.take_add_one,h,prim_append]
  simp [prim]
theorem tot_take (l:List Pc) (q:Nat):totP (l.take q)≤totP l:=by
  conv=>rhs;rw [← List.take_append_drop q l,totP_append]
  omega
theorem right_pcs {xs:List IP} (h:rightV xs = true):∃ l:List Pc,xs = l.map ipc:=by
  have hall:xs.all okB = true:=by
    unfold rightV at h
    simp only [Bool.and_eq_true] at h
    exact h.1.2
  clear h
  induction xs with
  | nil=>exact ⟨[],rfl⟩
  | cons x r ih =>
    rw [List.all_cons,Bool.and_eq_true] at hall
    obtain ⟨l,rfl⟩:=ih hall.2
    obtain ⟨kp,dr,pu⟩:=x
    have hx:0≤kp∧0≤dr:=by
      have:=hall.1
      unfold okB mayB at this
      simp at this
      omega
    refine ⟨⟨kp.toNat,dr.toNat,pu⟩ :: l,?_⟩
    rw [List.map_cons]
    congr 1
    simp [ipc]
    omega
theorem FrX.cells {S:Nat→Prop} {w w':World} {b:Nat} {cs:Array Value} {t:TypeId} {fr:Nat × Nat} (h:FrX S w w') (hb:w.heap[b]? = some (.cells cs t fr)) (hn:¬ S b):w'.heap[b]? = some (.cells cs t fr) :=
  (h.block b (Array.getElem?_eq_some_iff.1 hb).1 hn).trans hb
theorem own_base {w:World} {base b:Nat} {e:TypeId} {size:Nat} {v:Value} {n:Nat} {xs:List Value} (h:w.ownsRow base e size v n xs) (hb:b≤base):w.ownsRow b e size v n xs:=by
  refine ⟨h.1,?_⟩
  rcases h.2 with h0 | ⟨g,cap,cur,rfl,hg,rest⟩
  · exact .inl h0
  · exact .inr ⟨g,cap,cur,rfl,Nat.le_trans hb hg,rest⟩
set_option maxHeartbeats 2000000 in
theorem normal_any (w:World) (A:Option Addr) (n c:Nat) (l:List Pc) (hx:PcsIn w A n (l.map ipc)) (hn:n≤maxLen) (hsm:totP l≤100000) :
    Calls Try.prog 119 #[.slice A n c] w fun e w'=>∃ v,e = .returned v∧OwnP w.heap.size w' v (Ltx.norm l)∧Below w.heap.size w w':=by
  have hx':=Lib.hid hx
  have hlen:=Lib.hid (show l.length = n by have:=hx.1;simpa using this)
  have hlow:=Lib.hid (low_of (l:=Ltx.norm l) (Nat.le_trans (totP_norm l) (by omega)))
  clear hx
  have hn':(n:Int)≤9223372036854775807:=by unfold maxLen at hn;omega
  go_enter Try.func119,Try.ntmps119
  go_wp2_with fail
  go_loopw [8] (fun k wr=>∃ (q:Nat) (S:Nat→Prop),q≤n∧k = .int .i64 (q:Int)∧Drf wr S w.heap.size w.heap.size (prim (l.take q))∧Below w.heap.size w wr) (fun k _=>n - (intOf k).toNat)
  case atStart=>exact ⟨0,_,Nat.zero_le _,rfl,Drf.new (Nat.le_refl _),(Below.refl w.heap.size w).alloc (Nat.le_refl _) _⟩
  case round =>
    obtain ⟨q,S,hq,rfl,hd,hbel⟩:=hrel
    by_cases h1:q < n
    · have h1I:(q:Int) < (n:Int):=by omega
      obtain ⟨ad,x,rfl,hxq,hlt,hp⟩:=(hx'.out.below hbel).at_ h1
      obtain ⟨x1,x2,x3,x4,x5,x6,x7,x8⟩:=hp
      rw [List.getElem?_map] at hxq
      cases hpq:l[q]? with
      | none=>rw [hpq] at hxq;cases hxq
      | some pc =>
        rw [hpq] at hxq
        injection hxq with hxq
        subst hxq
        have htk:=Lib.hid (prim_take l q pc hpq)
        have ht1:=tot_take l (q + 1)
        have ht2:=totP_prim (l.take (q + 1))
        rw [htk.out,totP_append,totP_append,totP_append,totP_one,totP_one,totP_one] at ht2
        simp only [List.length_nil,Nat.add_zero,Nat.zero_add] at ht2
        have hbs:=hbel.size
        obtain ⟨kp,dr,pu⟩:=pc
        simp only [ipc] at *
        have hb1:totP (prim (l.take q)) + kp≤1000000:=by omega
        have hb2:=Lib.hid (show totP (prim (l.take q) ++ [⟨kp,0,[]⟩]) + pu.length≤1000000 by rw [totP_append,totP_one];simp;omega)
        have hb3:=Lib.hid (show totP (prim (l.take q) ++ [⟨kp,0,[]⟩] ++ [⟨0,0,pu⟩]) + dr≤1000000 by rw [totP_append,totP_append,totP_one,totP_one];simp;omega)
        have hSlt:=Lib.hid hd.lt
        have hd1:=Lib.hid (fun o=>hd.below ((Below.refl wr.heap.size wr).alloc (Nat.le_refl _) o))
        have hbel':=Lib.hid hbel
        have hbase:∀ o,w.heap.size≤(wr.alloc o).heap.size:=fun o=>by simp;omega
        have hbase':=Lib.hid hbase
        clear hd hbel ht1 ht2 hpq hbase x1 x2 x3 x4
        unfold maxLen at x5
        have hsz0:∀ o,(wr.alloc o).heap.size = wr.heap.size + 1:=fun o=>by simp
        have hsz0':=Lib.hid hsz0
        clear hsz0
        go_wp2_with (first
          | (go_at_call 126;refine (dkeep_any (hd1.out _) kp hb1 (hbase'.out _)).mono ?_;rintro e w2 ⟨rfl,hd2,hF2⟩;have hx2:=hF2.cells (heap_alloc_new wr _) (fun e=>by have:=hSlt.out _ e;omega);have q2:=cell_of_row w2 wr.heap.size 2 _ _ _ hx2;simp at q2;have hx2':=Lib.hid hx2;have hd2':=Lib.hid hd2;have hF2':=Lib.hid hF2;have hs2:=hF2.size;rw [hsz0'.out] at hs2;clear hx2 hd2 hF2)
          | (go_at_call 125;refine (dput_any hd2'.out pu hb2.out (by omega)).mono ?_;rintro e w3 ⟨rfl,hd3,hF3⟩;have hx3:=hF3.cells hx2'.out (fun e=>by rcases e with e | e;(have:=hSlt.out _ e;omega);(have:=e.1;rw [hsz0'.out] at this;omega));have q3:=cell_of_row w3 wr.heap.size 1 _ _ _ hx3;simp at q3;have hd3':=Lib.hid hd3;have hF3':=Lib.hid hF3;have hs3:=hF3.size;clear hx3 hd3 hF3)
          | (go_at_call 124;refine (ddrop_any hd3'.out dr hb3.out).mono ?_;rintro e w4 ⟨rfl,hd4,hF4⟩;have hd4':=Lib.hid hd4;have hF4':=Lib.hid hF4;have hs4:=hF4.size;clear hd4 hF4))
        go_roundw
        case rel =>
          have hd5:=hd4'.out
          rw [← htk.out] at hd5
          refine ⟨q + 1,_,by omega,by go_num,hd5,?_⟩
          · have e1:Below w.heap.size w (wr.alloc (.cells #[.int .i64 (kp:Int),.int .i64 (dr:Int),.string ⟨pu.toArray⟩] 53)):=hbel'.out.alloc hbs _
            have e2:=e1.trans (hF2'.out.below (B:=w.heap.size) (fun k hk=>(hSlt.out k hk).1) (by rw [hsz0'.out];omega))
            have e3:=e2.trans (hF3'.out.below (B:=w.heap.size) (fun k hk=>(hd2'.out.lt k hk).1) (by omega))
            exact e3.trans (hF4'.out.below (B:=w.heap.size) (fun k hk=>(hd3'.out.lt k hk).1) (by omega))
        case measure=>simp [intOf];omega
    · have hqn:q = n:=by omega
      have h1I:¬ (q:Int) < (n:Int):=by omega
      have hd':=Lib.hid (show Drf wr S w.heap.size w.heap.size (prim l) by rw [hqn,← hlen.out,List.take_length] at hd;exact hd)
      have hbel':=Lib.hid hbel
      have hbs:=hbel.size
      have htb:=Lib.hid (show totP (prim l)≤1000000 by rw [totP_prim];omega)
      clear hd hbel hqn h1
      go_wp2_with (go_at_call 141;refine (dpieces_any hd'.out htb.out hbs).mono ?_;rintro e w2 ⟨v,rfl,hv,hs,hF⟩;obtain ⟨A1,n1,k1,rfl,-,-,-,-,-⟩:=hv.shape (by rw [prim_norm];exact hlow.out);have hv':=Lib.hid hv;have hF':=Lib.hid hF;clear hv hs hF)
      go_ret
      refine ⟨_,rfl,by rw [← prim_norm];exact hv'.out,hbel'.out.trans (hF'.out.below (B:=w.heap.size) (fun k hk=>(hd'.out.lt k hk).1) hbs)⟩
set_option maxHeartbeats 1000000 in
theorem norm_right (w:World) (A:Option Addr) (n c:Nat) (l:List Pc) (hx:PcsIn w A n (l.map ipc)) (hn:n≤maxLen) (hsm:totP l≤100000) (hr:rightV (l.map ipc) = true) :
    Calls Try.prog 86 #[.slice A n c] w fun e w'=>∃ v,e = .returned v∧OwnP w.heap.size w' v (Ltx.norm l)∧Below w.heap.size w w':=by
  have hx':=Lib.hid hx
  have hr':=Lib.hid hr
  have hlow:=Lib.hid (low_of (l:=Ltx.norm l) (Nat.le_trans (totP_norm l) (by omega)))
  clear hx hr
  go_enter Try.func86,Try.ntmps86
  go_wp2_with (first
    | (go_at_call 56;have hh:=right_any w A n c _ hx'.out hn;rw [hr'.out] at hh;refine hh.mono ?_;clear hh;rintro e w2 ⟨rfl,hb2⟩;have hb2':=Lib.hid hb2;have hs2:=hb2.size;clear hb2)
    | (go_at_call 119;refine (normal_any w2 A n c l (hx'.out.below hb2'.out) hn hsm).mono ?_;rintro e w3 ⟨v,rfl,hv,hb3⟩;obtain ⟨A1,n1,k1,rfl,-,-,-,-,-⟩:=hv.shape hlow.out;have hv':=Lib.hid hv;have hb3':=Lib.hid hb3;clear hv hb3))
  go_ret
  exact ⟨_,rfl,own_base hv'.out hs2,hb2'.out.trans (hb3'.out.mono hs2)⟩
end Go.Proofs.Ytmipodnffhngaaa.P5
namespace Go.Proofs.Ytmipodnffhngaaa.P5
set_option linter.unusedVariables false
open Go.RowKit
set_option maxRecDepth 20000
open Ltx (Pc)

set_option maxHeartbeats 2000000 in
theorem rright_any (w:World) (A:Option Addr) (n c:Nat) (xs:List IP) (hx:PcsIn w A n xs) (hn:n≤maxLen) :
    Calls Try.prog 59 #[.slice A n c] w fun e w'=>e = .returned (.bool (rightV xs))∧Below w.heap.size w w':=by
  have hx':=Lib.hid hx
  have hlen:=hx.1
  clear hx
  have hn':(n:Int)≤9223372036854775807:=by unfold maxLen at hn;omega
  by_cases h60:4096 < n
  · have hv:=Lib.hid (not_right_len (xs:=xs) (by omega))
    have hI:(4096:Int) < (n:Int):=by omega
    clear h60 hlen
    go_enter Try.func59,Try.ntmps59
    go_wp2_with fail
    go_ret
    exact ⟨by rw [hv.out];rfl,Below.refl _ _⟩
  · have hI:¬ (4096:Int) < (n:Int):=by omega
    go_enter Try.func59,Try.ntmps59
    go_wp2_with fail
    go_loopw [3,4] (fun s k wr=>∃ q:Nat,q≤n∧k = .int .i64 (q:Int)∧s = .int .i64 (putsI (xs.take q):Int)∧putsI (xs.take q)≤1048576∧(xs.take q).all okB = true∧Below w.heap.size w wr) (fun _ k _=>n - (intOf k).toNat)
    case atStart=>exact ⟨0,Nat.zero_le _,rfl,by simp [putsI],by simp [putsI],rfl,Below.refl _ _⟩
    case round =>
      obtain ⟨q,hq,rfl,rfl,hs,hall,hbel⟩:=hrel
      by_cases h1:q < n
      · have h1I:(q:Int) < (n:Int):=by omega
        obtain ⟨ad,x,rfl,hxq,hlt,hp⟩:=(hx'.out.below hbel).at_ h1
        obtain ⟨x1,x2,x3,x4,x5,x6,x7,x8⟩:=hp
        have hst:=putsI_take xs q x hxq
        have hle:=putsI_le xs (q + 1)
        obtain ⟨kp,dr,pu⟩:=x
        simp only at *
        unfold maxLen at x5
        generalize hS:putsI (xs.take q) = s at *
        have hmem:(⟨kp,dr,pu⟩:IP) ∈ xs:=List.mem_of_getElem? hxq
        have hbel':=Lib.hid hbel
        by_cases hok:(0≤kp∧kp≤1048576∧0≤dr∧dr≤1048576)∧s + pu.length≤1048576
        · obtain ⟨⟨a1,a2,a3,a4⟩,a5⟩:=hok
          have hokx:okB ⟨kp,dr,pu⟩ = true:=by unfold okB mayB;simp;omega
          have hall':=Lib.hid (all_take_succ hxq hall hokx)
          have b1:¬ kp < 0:=by omega
          have b2:¬ (1048576:Int) < kp:=by omega
          have b3:¬ dr < 0:=by omega
          have b4:¬ (1048576:Int) < dr:=by omega
          have b5:¬ (1048576:Int) - (s:Int) < (pu.length:Int):=by omega
          have hst':=Lib.hid hst
          clear hS hst hle hall hokx hbel hxq hmem hlen
          go_wp2_with fail
          go_roundw
          case rel=>exact ⟨q + 1,by omega,by go_num,by rw [hst'.out];go_num,by rw [hst'.out];exact a5,hall'.out,hbel'.out⟩
          case measure=>simp [intOf];omega
        · have hv:rightV xs = false:=by
            by_cases hp:1048576 < s + pu.length
            · exact not_right_puts (by omega)
            · refine not_right_of hmem ?_
              unfold okB mayB
              simp
              omega
          have hv':=Lib.hid hv
          have hcs:kp < 0∨(¬ kp < 0∧(1048576:Int) < kp)∨(¬ kp < 0∧¬ (1048576:Int) < kp∧dr < 0)∨(¬ kp < 0∧¬ (1048576:Int) < kp∧¬ dr < 0∧(1048576:Int) < dr)∨(¬ kp < 0∧¬ (1048576:Int) < kp∧¬ dr < 0∧¬ (1048576:Int) < dr∧(1048576:Int) - (s:Int) < (pu.length:Int)):=by omega
          clear hS hst hle hall hbel hxq hmem hlen hok hv
          rcases hcs with b1 | ⟨b1,b2⟩ | ⟨b1,b2,b3⟩ | ⟨b1,b2,b3,b4⟩ | ⟨b1,b2,b3,b4,b5⟩
          all_goals
            go_wp2_with fail
            go_ret
            exact ⟨by rw [hv'.out];rfl,hbel'.out⟩
      · have hqn:q = n:=by omega
        have h1I:¬ (q:Int) < (n:Int):=by omega
        have hv:=Lib.hid (right_of (xs:=xs) (by omega) (by rw [hqn,← hlen,List.take_length] at hall;exact hall) (by rw [hqn,← hlen,List.take_length] at hs;exact hs))
        have hbel':=Lib.hid hbel
        clear hlen hs hall hbel hqn h1
        go_wp2_with fail
        go_ret
        exact ⟨by rw [hv.out];rfl,hbel'.out⟩
theorem extent_take (l:List Pc) (q:Nat) (p:Pc) (h:l[q]? = some p):Ltx.extent (l.take (q + 1)) = Ltx.extent (l.take q) + p.keep + p.drop:=by
  rw [List.take_add_one,h,Ltx.extent_append]
  simp [Ltx.extent]
  omega
theorem extent_le (l:List Pc) (q:Nat):Ltx.extent (l.take q)≤Ltx.extent l:=by
  conv=>rhs;rw [← List.take_append_drop q l,Ltx.extent_append]
  omega
theorem PcsIn.pc {w:World} {A:Option Addr} {n q:Nat} {l:List Pc} (h:PcsIn w A n (l.map ipc)) (hq:q < n):∃ ad p,A = some ad∧l[q]? = some p∧ad.block < w.heap.size∧PieceAt w (ad.add (q * 3)) (ipc p):=by
  obtain ⟨ad,x,e,hx,hl,hp⟩:=h.at_ hq
  rw [List.getElem?_map] at hx
  cases hpq:l[q]? with
  | none=>rw [hpq] at hx;cases hx
  | some p =>
    rw [hpq] at hx
    injection hx with hx
    subst hx
    exact ⟨ad,p,e,rfl,hl,hp⟩
end Go.Proofs.Ytmipodnffhngaaa.P5
namespace Go.Proofs.Ytmipodnffhngaaa.P5
set_option linter.unusedVariables false
open Go.RowKit
set_option maxRecDepth 20000
open Ltx (Pc)

theorem fold_tot (l:List Pc) (out:List Pc) (k:Nat) (h:l.foldl Ltx.normStep ([],0) = (out,k)):totP out + k = totP l:=by
  have h1:=(Ltx.norm_does l).2
  have h2:=(Ltx.fold_sums l ([],0)).1
  rw [h] at h1 h2
  simp only [Ltx.puts] at h1 h2
  unfold totP
  omega
theorem fold_take (l:List Pc) (q:Nat) (p:Pc) (h:l[q]? = some p) (s:List Pc × Nat) (hs:(l.take q).foldl Ltx.normStep ([],0) = s):(l.take (q + 1)).foldl Ltx.normStep ([],0) = Ltx.normStep s p:=by
  rw [List.take_add_one,h,List.foldl_append,hs]
  rfl
theorem run_cat (w:World) (a b:List UInt8) (h:a.length + b.length≤4000000000):(binOp .add 9 (.string ⟨a.toArray⟩) (.string ⟨b.toArray⟩)).run Try.prog w = .ok (.string ⟨(a ++ b).toArray⟩) w:=by
  have h1:=run_string_add_sum (P:=Try.prog) w ⟨a.toArray⟩ ⟨b.toArray⟩ (by show a.length + b.length≤_;omega)
  have h2:(⟨a.toArray⟩:ByteArray) ++ ⟨b.toArray⟩ = ⟨(a ++ b).toArray⟩:=by
    apply ByteArray.ext
    simp
  rw [h2] at h1
  simp only [binOp]
  simp [h1]
theorem run_eq_empty (w:World) (a:List UInt8):(binOp .eql 9 (.string ⟨a.toArray⟩) (.string ⟨#[]⟩)).run Try.prog w = .ok (.bool a.isEmpty) w:=by
  cases a with
  | nil=>simp only [binOp];simp [Op.stringOp]
  | cons x r=>simp only [binOp];simp [Op.stringOp]
theorem bcat (a b:List UInt8):(⟨a.toArray⟩:ByteArray) ++ ⟨b.toArray⟩ = ⟨(a ++ b).toArray⟩:=by
  apply ByteArray.ext
  simp
theorem own_set_last {w:World} {base n c j g:Nat} {init:List Pc} {z:Pc} (h:OwnP base w (.slice (some ⟨g,0,none⟩) n c) (init ++ [z])) (hj:j = init.length) (y:Pc) :
    OwnP base (((w.setCell ⟨g,j * 3,none⟩ (.int .i64 (y.keep:Int))).setCell ⟨g,j * 3 + 1,none⟩ (.int .i64 (y.drop:Int))).setCell ⟨g,j * 3 + 2,none⟩ (.string ⟨y.put.toArray⟩)) (.slice (some ⟨g,0,none⟩) n c) (init ++ [y]):=by
  unfold OwnP at h ⊢
  have hn:n = (init ++ [z]).length:=by
    rcases h.2 with ⟨e,_⟩ | ⟨g',cap,cur,e,_⟩
    · cases e
    · injection e
  rw [← hn] at h
  have hl:(init.flatMap cellsOf).length = j * 3:=by rw [cells_len,hj]
  have h3:=((World.ownsRow.stored (World.ownsRow.stored (World.ownsRow.stored h (j * 3) (.int .i64 (y.keep:Int))).1 (j * 3 + 1) (.int .i64 (y.drop:Int))).1 (j * 3 + 2) (.string ⟨y.put.toArray⟩)).1)
  have e:((((init ++ [z]).flatMap cellsOf).set (j * 3) (.int .i64 (y.keep:Int))).set (j * 3 + 1) (.int .i64 (y.drop:Int))).set (j * 3 + 2) (.string ⟨y.put.toArray⟩) = (init ++ [y]).flatMap cellsOf:=by
    rw [List.flatMap_append,List.flatMap_append,List.set_append_right _ _ (by omega),List.set_append_right _ _ (by omega),List.set_append_right _ _ (by omega),hl]
    congr 1
    rw [show j * 3 - j * 3 = 0 by omega,show j * 3 + 1 - j * 3 = 1 by omega,show j * 3 + 2 - j * 3 = 2 by omega]
    rfl
  rw [e] at h3
  rw [show (init ++ [y]).length = n by rw [hn];simp]
  exact h3
theorem own_last {w:World} {base n c j:Nat} {A:Option Addr} {init:List Pc} {z:Pc} (h:OwnP base w (.slice A n c) (init ++ [z])) (hj:j = init.length) :
    ∃ g,A = some ⟨g,0,none⟩∧base≤g∧g < w.heap.size∧(w.cell? ⟨g,j * 3,none⟩ = some (.int .i64 (z.keep:Int))∧w.cell? ⟨g,j * 3 + 1,none⟩ = some (.int .i64 (z.drop:Int))∧w.cell? ⟨g,j * 3 + 2,none⟩ = some (.string ⟨z.put.toArray⟩)) ∧
      (w.frozen? ⟨g,j * 3,none⟩ = false∧w.frozen? ⟨g,j * 3 + 1,none⟩ = false∧w.frozen? ⟨g,j * 3 + 2,none⟩ = false):=by
  have h':=h
  have hz:(init ++ [z])[j]? = some z:=by rw [hj];simp
  rcases h.2 with ⟨e,h0⟩ | ⟨g,cap,cur,e,hb,hg,hnc,hcm,hcs,_⟩
  · simp at h0
  · injection e with e1 e2 e3
    subst e1 e2 e3
    have hcell:∀ i v,(cellsOf z)[i]? = some v→w.cell? ⟨g,j * 3 + i,none⟩ = some v:=fun i v hi=>by
      have:=h'.cells (g:=g) rfl _ _ (cells_at _ j z hz i v hi)
      have hadd:(⟨g,0,none⟩:Addr).add (j * 3 + i) = ⟨g,j * 3 + i,none⟩:=by unfold Addr.add;split <;> simp_all
      rwa [hadd] at this
    exact ⟨g,rfl,hb,(Array.getElem?_eq_some_iff.1 hg).1,⟨hcell 0 _ rfl,hcell 1 _ rfl,hcell 2 _ rfl⟩,World.ownsRow.frozenAt h' _,World.ownsRow.frozenAt h' _,World.ownsRow.frozenAt h' _⟩
set_option maxHeartbeats 2000000 in
theorem rnorm_any (w:World) (A:Option Addr) (n c:Nat) (l:List Pc) (hx:PcsIn w A n (l.map ipc)) (hn:n≤maxLen) (hsm:totP l≤1000000) (hll:l.length≤1000000) :
    Calls Try.prog 120 #[.slice A n c] w fun e w'=>∃ v,e = .returned v∧OwnP w.heap.size w' v (Ltx.norm l)∧Below w.heap.size w w':=by
  have hx':=Lib.hid hx
  have hlen:=Lib.hid (show l.length = n by have:=hx.1;simpa using this)
  have hn2:n≤1000000:=by rw [← hlen.out];exact hll
  clear hx hll
  have hn':(n:Int)≤9223372036854775807:=by unfold maxLen at hn;omega
  have heq:=run_eq_empty
  go_enter Try.func120,Try.ntmps120
  go_wp2_with fail
  go_loopw [3,4,5] (fun v s i wr=>∃ (q:Nat) (out:List Pc) (k:Nat),q≤n∧i = .int .i64 (q:Int)∧s = .int .i64 (k:Int)∧(l.take q).foldl Ltx.normStep ([],0) = (out,k)∧OwnP w.heap.size wr v out∧Below w.heap.size w wr) (fun _ _ i _=>n - (intOf i).toNat)
  case atStart=>exact ⟨0,[],0,Nat.zero_le _,rfl,rfl,rfl,OwnP.nil_ _ _,Below.refl _ _⟩
  case round =>
    obtain ⟨q,out,k,hq,rfl,rfl,hst,hown,hbel⟩:=hrel
    have htot:=fold_tot _ _ _ hst
    have htl:=tot_take l q
    obtain ⟨A1,n1,k1,rfl,hn1,hnk1,hkm1,hP1,hA1⟩:=hown.shape (low_of (by omega))
    have hn1':=Lib.hid hn1
    have hown':=Lib.hid hown
    have hbel':=Lib.hid hbel
    have hbs:=hbel.size
    by_cases h1:q < n
    · have h1I:(q:Int) < (n:Int):=by omega
      obtain ⟨ad,p,rfl,hpq,hlt,hp⟩:=(hx'.out.below hbel).pc h1
      obtain ⟨x1,x2,x3,x4,x5,x6,x7,x8⟩:=hp
      have hst2:=Lib.hid (fold_take l q p hpq _ hst)
      have htl2:=tot_take l (q + 1)
      have htot2:totP (l.take (q + 1)) = totP (l.take q) + totP [p]:=by rw [List.take_add_one,hpq,totP_append];rfl
      obtain ⟨kp,dr,pu⟩:=p
      rw [totP_one] at htot2
      simp only [ipc] at *
      unfold maxLen at x5
      have hkk:k + kp≤1000000:=by omega
      have hpd:pu.length + dr≤1000000:=by omega
      have hto:=Lib.hid (show totP out + k + kp + dr + pu.length≤1000000 by omega)
      have hol:=Lib.hid (show out.length≤1000000 by
        have h:=(Ltx.norm_normal (l.take q))
        unfold Ltx.norm at h
        rw [hst] at h
        have:=normal_tot h
        dsimp only at this
        omega)
      have hadlt:=Lib.hid (show ad.block < w.heap.size by
        obtain ⟨ad',_,e,_,hb',_⟩:=hx'.out.pc h1
        injection e with e
        rw [e]
        exact hb')
      have kkeep:=Lib.hid (show ∀ w3,World.grownBy ((wr.alloc (.cells #[.int .i64 ((k:Int) + (kp:Int)),.int .i64 (dr:Int),.string ⟨pu.toArray⟩] 53)).drew) w3 (Value.ownBlock (.slice A1 n1 k1))→w3.cell? ⟨(ad.add (q * 3)).block,(ad.add (q * 3)).off + 1,none⟩ = some (.int .i64 (dr:Int))∧w3.cell? ⟨(ad.add (q * 3)).block,(ad.add (q * 3)).off + 2,none⟩ = some (.string ⟨pu.toArray⟩) from fun w3 hg3=>by
        have hb:w3.heap[(ad.add (q * 3)).block]? = wr.heap[(ad.add (q * 3)).block]?:=by
          rw [block_add]
          rw [hg3.block ad.block (by simp;omega) (fun e=>by
            have:=(World.ownsRow.lt hown'.out _ e.symm).1
            have:=hadlt.out
            omega)]
          exact Go.heap_alloc_old wr _ hlt
        exact ⟨(World.cell?_of_block (w:=wr) (w':=w3) (a:=⟨(ad.add (q * 3)).block,(ad.add (q * 3)).off + 1,none⟩) hb).trans x7,(World.cell?_of_block (w:=wr) (w':=w3) (a:=⟨(ad.add (q * 3)).block,(ad.add (q * 3)).off + 2,none⟩) hb).trans x8⟩)
      clear hn1 hown hbel hst htot htl htl2 htot2 hP1 hpq
      by_cases hi:pu = []∧dr = 0
      · obtain ⟨rfl,rfl⟩:=hi
        have hfin:=Lib.hid (show (l.take (q + 1)).foldl Ltx.normStep ([],0) = (out,k + kp) by rw [hst2.out];rfl)
        go_wp2_with fail
        go_roundw
        case rel=>exact ⟨q + 1,out,k + kp,by omega,by go_num,by go_num,hfin.out,hown'.out,hbel'.out⟩
        case measure=>simp [intOf];omega
      · have hidle:Ltx.idle ⟨kp,dr,pu⟩ = false:=by
          unfold Ltx.idle
          cases hpp:pu with
          | nil =>
            have:dr ≠ 0:=fun e=>hi ⟨hpp,e⟩
            simp [this]
          | cons a b=>simp
        have hgd:pu.isEmpty = false∨(pu.isEmpty = true∧((dr:Int) == 0) = false):=by
          cases hpp:pu with
          | nil =>
            have:¬ (dr:Int) = 0:=fun e=>hi ⟨hpp,by omega⟩
            exact .inr ⟨rfl,by simpa using this⟩
          | cons a b=>exact .inl rfl
        clear hi
        by_cases hj:k + kp = 0∧out ≠ []
        · obtain ⟨hj1,hj2⟩:=hj
          obtain ⟨rfl,rfl⟩:k = 0∧kp = 0:=by omega
          obtain ⟨init,z,rfl⟩:∃ init z,out = init ++ [z]:=⟨out.dropLast,out.getLast hj2,(List.dropLast_concat_getLast hj2).symm⟩
          have hfin:=Lib.hid (show (l.take (q + 1)).foldl Ltx.normStep ([],0) = (init ++ [⟨z.keep,z.drop + dr,z.put ++ pu⟩],0) by
            rw [hst2.out]
            unfold Ltx.normStep
            dsimp only
            rw [hidle,if_neg (by decide),if_pos ⟨rfl,hj2⟩]
            unfold Ltx.joinLast
            simp)
          obtain ⟨j,hjl⟩:∃ j,j = init.length:=⟨_,rfl⟩
          have hjl':=Lib.hid hjl
          obtain rfl:n1 = j + 1:=by rw [hn1'.out,hjl];simp
          have hjb:j + 1≤1000000:=by have:=hol.out;rw [hjl];simpa using this
          have hzt:z.drop + dr≤1000000∧z.put.length + pu.length≤1000000:=by
            have h:=hto.out
            rw [totP_append,show totP [z] = totP [⟨z.keep,z.drop,z.put⟩] from rfl,totP_one] at h
            omega
          obtain ⟨hz1,hz2⟩:=hzt
          obtain ⟨g,rfl,hgb,hgl,hgc,hgf⟩:=own_last hown'.out hjl
          obtain ⟨e0,e1,e2⟩:=hgc
          obtain ⟨f0,f1,f2⟩:=hgf
          have hgne:=Lib.hid (show g ≠ ad.block by have:=hadlt.out;omega)
          have hltE:(ad.add (q * 3)).block < wr.heap.size:=by rw [block_add];exact hlt
          have hcat:=fun W=>run_cat W z.put pu (by omega)
          have hI0:(0:Int) < ((j + 1:Nat):Int):=by omega
          clear hidle hj1 hj2 hjl
          obtain ⟨zk,zd,zp⟩:=z
          simp only at *
          rcases hgd with g1 | ⟨g1,g1b⟩
          all_goals
            go_wp2_with fail
            go_region
            go_wp2_with fail
            go_region
            go_wp2_with fail
            refine ⟨⟨q + 1,init ++ [⟨zk,zd + dr,zp ++ pu⟩],0,by omega,by go_num,rfl,hfin.out,?_,?_⟩,by simp [intOf];omega⟩
            · have h:=(own_set_last hown'.out hjl'.out ⟨zk,zd + dr,zp ++ pu⟩).alloc (.cells #[.int .i64 (zk:Int),.int .i64 ((zd:Int) + (dr:Int)),.string ((⟨zp.toArray⟩:ByteArray) ++ ⟨pu.toArray⟩)] 53)
              simp only [bcat,Int.natCast_add] at h ⊢
              exact h
            · exact ((((((hbel'.out.setCell hgb _).setCell hgb _).setCell hgb _).alloc (by simp;omega) _).drew).drew)
        · have hfin:=Lib.hid (show (l.take (q + 1)).foldl Ltx.normStep ([],0) = (out ++ [⟨k + kp,dr,pu⟩],0) by
            rw [hst2.out]
            unfold Ltx.normStep
            dsimp only
            rw [hidle,if_neg (by decide),if_neg hj])
          have hg2:(((k:Int) + (kp:Int) == 0) = false)∨(((k:Int) + (kp:Int) == 0) = true∧¬ (0:Int) < (n1:Int)):=by
            by_cases e:k + kp = 0
            · refine .inr ⟨by simp;omega,?_⟩
              have:out = []:=by
                cases out with
                | nil=>rfl
                | cons a b=>exact absurd ⟨e,by simp⟩ hj
              rw [hn1'.out,this]
              simp
            · exact .inl (by simp;omega)
          clear hidle hj
          obtain ⟨i0,hi0,hz0,hz1,hz2⟩:=info_parts Try.infoP
          have hi0':=Lib.hid hi0
          have hz0':=Lib.hid hz0
          have hz1':=Lib.hid hz1
          have hz2':=Lib.hid hz2
          have hrow:=Lib.hid (show ∀ o,((wr.alloc o).drew).ownsRow w.heap.size 53 3 (.slice A1 n1 k1) n1 (out.flatMap cellsOf) from fun o=>by
            have h:=hown'.out
            unfold OwnP at h
            rw [← hn1'.out] at h
            exact World.ownsRow.alloc h o)
          have hnews:=Lib.hid (show ∀ (j:Nat) (u:Value),([.int .i64 ((k:Int) + (kp:Int)),.int .i64 (dr:Int),.string ⟨pu.toArray⟩]:List Value)[j]? = some u→(wr.alloc (.cells #[.int .i64 ((k:Int) + (kp:Int)),.int .i64 (dr:Int),.string ⟨pu.toArray⟩] 53)).drew.cell? ((⟨wr.heap.size,0,none⟩:Addr).add j) = some u from
            World.news_of_block (w:=wr.alloc (.cells #[.int .i64 ((k:Int) + (kp:Int)),.int .i64 (dr:Int),.string ⟨pu.toArray⟩] 53)) (cs:=#[.int .i64 ((k:Int) + (kp:Int)),.int .i64 (dr:Int),.string ⟨pu.toArray⟩]) (t:=53) (fr:=(0,0)) (heap_alloc_new wr _))
          have hone:=Lib.hid (show ∀ u ∈ ([.int .i64 ((k:Int) + (kp:Int)),.int .i64 (dr:Int),.string ⟨pu.toArray⟩]:List Value),u.oneCell' = true from by simp [Value.oneCell'])
          have hbd:=Lib.hid (show n1 + 1≤maxLen∧(n1 + 1) * 32≤140737488355328 from by have:=hn1'.out;have:=hol.out;unfold maxLen;omega)
          have hbd2:=Lib.hid (show ∀ o,w.heap.size≤(wr.alloc o).drew.heap.size from fun o=>by simp;omega)
          have hadn:=Lib.hid (show ∀ b,(Value.slice A1 n1 k1).ownBlock = some b→b ≠ ad.block from fun b hb e=>by
            have:=(World.ownsRow.lt hown'.out b hb).1
            have:=hadlt.out
            omega)
          clear hi0 hz0 hz1 hz2
          rcases hgd with g1 | ⟨g1,g1b⟩ <;> rcases hg2 with g2 | ⟨g2,g3⟩
          all_goals
            go_wp2_with fail
            go_region_held3 (fun w'=>w'.cell? ⟨(ad.add (q * 3)).block,(ad.add (q * 3)).off + 1,none⟩ = some (.int .i64 (dr:Int))∧w'.cell? ⟨(ad.add (q * 3)).block,(ad.add (q * 3)).off + 2,none⟩ = some (.string ⟨pu.toArray⟩))
              (first
                | go_keep
                | exact kk.out)
              ((refine step_append_lies _ (by rfl) (.tmp 71) (.tmp 84) 24 (by rfl) w.heap.size 53 i0 _ 3 32 Try.underlying24 hi0'.out hz0'.out hz1'.out hz2'.out rfl (by decide) (.slice A1 n1 k1) n1 (out.flatMap cellsOf) (by rfl) (hrow.out _)
                  ⟨wr.heap.size,0,none⟩ 1 1 [.int .i64 ((k:Int) + (kp:Int)),.int .i64 (dr:Int),.string ⟨pu.toArray⟩] (by rfl) (by rfl) hnews.out hone.out
                  (by decide) hbd.out.1 hbd.out.2 (hbd2.out _) (wr.heap.size + 1) (by simp) ?_;intro g cap w3 ho3 hg3 hat hlt3;have kk:=Lib.hid (kkeep.out w3 hg3);have ho3':=Lib.hid ho3;have hg3':=Lib.hid hg3;clear ho3 hg3 hat))
            go_wp2_with fail
            go_roundw
            case rel =>
              refine ⟨q + 1,out ++ [⟨k + kp,dr,pu⟩],0,by omega,by go_num,rfl,hfin.out,?_,?_⟩
              · have h:=ho3'.out
                rw [hn1'.out] at h ⊢
                unfold OwnP
                rw [List.length_append,List.flatMap_append]
                exact h
              · exact Below.grown (w:=(wr.alloc (.cells #[.int .i64 ((k:Int) + (kp:Int)),.int .i64 (dr:Int),.string ⟨pu.toArray⟩] 53)).drew) ((hbel'.out.alloc hbs _).drew) hg3'.out (by simp;omega) (fun b hb=>(World.ownsRow.lt hown'.out b hb).1)
            case measure=>simp [intOf];omega
    · have hqn:q = n:=by omega
      have h1I:¬ (q:Int) < (n:Int):=by omega
      have hfin:=Lib.hid (show out = Ltx.norm l by unfold Ltx.norm;rw [hqn,← hlen.out,List.take_length] at hst;rw [hst])
      clear hqn h1 hst htot htl hn1 hown hbel hP1
      go_wp2_with fail
      go_ret
      exact ⟨_,rfl,by rw [← hfin.out];exact hown'.out,hbel'.out⟩
end Go.Proofs.Ytmipodnffhngaaa.P5
namespace Go.Proofs.Ytmipodnffhngaaa.P5
set_option linter.unusedVariables false
open Go.RowKit
set_option maxRecDepth 20000
open Ltx (Pc)

set_option maxHeartbeats 1000000 in
theorem rnorm_right (w:World) (A:Option Addr) (n c:Nat) (l:List Pc) (hx:PcsIn w A n (l.map ipc)) (hn:n≤maxLen) (hsm:totP l≤100000) (hr:rightV (l.map ipc) = true) :
    Calls Try.prog 87 #[.slice A n c] w fun e w'=>∃ v,e = .returned v∧OwnP w.heap.size w' v (Ltx.norm l)∧Below w.heap.size w w':=by
  have hx':=Lib.hid hx
  have hr':=Lib.hid hr
  have hlow:=Lib.hid (low_of (l:=Ltx.norm l) (Nat.le_trans (totP_norm l) (by omega)))
  have hll:=Lib.hid (show l.length≤1000000 by
    unfold rightV at hr
    simp only [Bool.and_eq_true,decide_eq_true_eq,List.length_map] at hr
    omega)
  clear hx hr
  go_enter Try.func87,Try.ntmps87
  go_wp2_with (first
    | (go_at_call 59;have hh:=rright_any w A n c _ hx'.out hn;rw [hr'.out] at hh;refine hh.mono ?_;clear hh;rintro e w2 ⟨rfl,hb2⟩;have hb2':=Lib.hid hb2;have hs2:=hb2.size;clear hb2)
    | (go_at_call 120;refine (rnorm_any w2 A n c l (hx'.out.below hb2'.out) hn (by omega) hll.out).mono ?_;rintro e w3 ⟨v,rfl,hv,hb3⟩;obtain ⟨A1,n1,k1,rfl,-,-,-,-,-⟩:=hv.shape hlow.out;have hv':=Lib.hid hv;have hb3':=Lib.hid hb3;clear hv hb3))
  go_ret
  exact ⟨_,rfl,own_base hv'.out hs2,hb2'.out.trans (hb3'.out.mono hs2)⟩
def faultV (m:Nat) (xs:List IP) (l:List Pc):Nat:=if rightV xs = false then 2 else if m < Ltx.extent l then 50 else 0
theorem right_extent {l:List Pc} (h:rightV (l.map ipc) = true):Ltx.extent l≤10000000000∧l.length≤4096:=by
  unfold rightV at h
  simp only [Bool.and_eq_true,decide_eq_true_eq,List.length_map] at h
  obtain ⟨⟨h1,h2⟩,_⟩:=h
  have hall:∀ p ∈ l,p.keep≤1048576∧p.drop≤1048576:=fun p hp=>by
    rw [List.all_eq_true] at h2
    have:=h2 (ipc p) (List.mem_map_of_mem hp)
    unfold okB mayB ipc at this
    simp at this
    omega
  have hsum:∀ l:List Pc,(∀ p ∈ l,p.keep≤1048576∧p.drop≤1048576)→Ltx.extent l≤2097152 * l.length:=by
    intro l
    induction l with
    | nil=>intro _;simp [Ltx.extent]
    | cons p r ih =>
      intro h
      have h1:=h p List.mem_cons_self
      have h2:=ih fun q hq=>h q (List.mem_cons_of_mem _ hq)
      simp only [Ltx.extent,List.length_cons]
      omega
  have:=hsum l hall
  exact ⟨by omega,h1⟩
set_option maxHeartbeats 2000000 in
theorem fault_any (w:World) (t:List UInt8) (A:Option Addr) (n c:Nat) (l:List Pc) (hx:PcsIn w A n (l.map ipc)) (hn:n≤maxLen) (ht:t.length≤1000000000000) (hr:rightV (l.map ipc) = true) :
    Calls Try.prog 135 #[.string ⟨t.toArray⟩,.slice A n c] w fun e w'=>e = .returned (.int .i64 (if t.length < Ltx.extent l then 50 else 0))∧Below w.heap.size w w':=by
  have hx':=Lib.hid hx
  have hr':=Lib.hid hr
  have hlen:=Lib.hid (show l.length = n by have:=hx.1;simpa using this)
  have hex:=(right_extent hr).1
  clear hx hr
  have hn':(n:Int)≤9223372036854775807:=by unfold maxLen at hn;omega
  go_enter Try.func135,Try.ntmps135
  go_wp2_with (go_at_call 56;have hh:=right_any w A n c _ hx'.out hn;rw [hr'.out] at hh;refine hh.mono ?_;clear hh;rintro e w2 ⟨rfl,hb2⟩;have hb2':=Lib.hid hb2;clear hb2)
  go_loopw [5,15] (fun s k wr=>∃ q:Nat,q≤n∧k = .int .i64 (q:Int)∧s = .int .i64 ((t.length:Int) - (Ltx.extent (l.take q):Int))∧Ltx.extent (l.take q)≤t.length∧Below w.heap.size w wr) (fun _ k _=>n - (intOf k).toNat)
  case atStart=>exact ⟨0,Nat.zero_le _,rfl,by simp [Ltx.extent],by simp [Ltx.extent],hb2'.out⟩
  case round =>
    obtain ⟨q,hq,rfl,rfl,hs,hbel⟩:=hrel
    by_cases h1:q < n
    · have h1I:(q:Int) < (n:Int):=by omega
      obtain ⟨ad,p,rfl,hpq,hlt,hp⟩:=(hx'.out.below hbel).pc h1
      obtain ⟨x1,x2,x3,x4,x5,x6,x7,x8⟩:=hp
      have hst:=extent_take l q p hpq
      have hle:=extent_le l (q + 1)
      obtain ⟨kp,dr,pu⟩:=p
      simp only [ipc] at *
      unfold maxLen at x5
      generalize Ltx.extent (l.take q) = s at *
      have hst':=Lib.hid hst
      have hle':=Lib.hid hle
      have hbel':=Lib.hid hbel
      have hb1:s + kp + dr≤10000000000:=by omega
      by_cases hf:s + kp + dr≤t.length
      · have hI:¬ (t.length:Int) - (s:Int) - ((kp:Int) + (dr:Int)) < 0:=by omega
        clear hst hle hbel hpq
        go_wp2_with fail
        go_roundw
        case rel=>exact ⟨q + 1,by omega,by go_num,congrArg (Value.int .i64) (by rw [hst'.out];omega),by rw [hst'.out];exact hf,hbel'.out.alloc hbel'.out.size _⟩
        case measure=>simp [intOf];omega
      · have hI:(t.length:Int) - (s:Int) - ((kp:Int) + (dr:Int)) < 0:=by omega
        have hv:=Lib.hid (show t.length < Ltx.extent l by omega)
        clear hst hle hbel hpq
        go_wp2_with fail
        go_ret
        exact ⟨by first | rfl | (rw [if_pos hv.out];rfl),hbel'.out.alloc hbel'.out.size _⟩
    · have hqn:q = n:=by omega
      have h1I:¬ (q:Int) < (n:Int):=by omega
      have hv:=Lib.hid (show ¬ t.length < Ltx.extent l by rw [hqn,← hlen.out,List.take_length] at hs;omega)
      have hbel':=Lib.hid hbel
      clear hs hbel hqn h1
      go_wp2_with fail
      go_ret
      exact ⟨by first | rfl | (rw [if_neg hv.out];rfl),hbel'.out⟩
end Go.Proofs.Ytmipodnffhngaaa.P5
namespace Go.Proofs.Ytmipodnffhngaaa.P5
set_option linter.unusedVariables false
open Go.RowKit
set_option maxRecDepth 20000

structure Bld (w:World) (S:Nat→Prop) (base b:Nat) (bs:List UInt8):Prop where
  own:∀ k,S k→base≤k∧k < w.heap.size
  here:S b
  dat:∃ (p v:Value),(p = .pointer none∨p = .pointer (some ⟨b,0,none⟩))∧w.heap[b]? = some (.cells #[p,v] 146 (0,0))∧OwnB base w v bs∧∀ k,v.ownBlock = some k→S k
theorem check_used (w:World) (b:Nat) (hc:w.cell? ⟨b,0,none⟩ = some (.pointer (some ⟨b,0,none⟩))) :
    Calls Try.prog 149 #[.pointer (some ⟨b,0,none⟩)] w fun e w'=>e = .returned (.tuple #[])∧w = w':=by
  have hne:=Lib.run_neq_ptr_same (P:=Try.prog) w (tp:=144) (te:=146) (j:=(Try.prog.info? 146).get!) ⟨b,0,none⟩ Try.underlying144 (by kernel_rfl)
  go_enter Try.func149,Try.ntmps149
  go_wp2
  go_end0
  exact ⟨rfl,rfl⟩
theorem check_fresh (w:World) (b:Nat) (v:Value) (hb:w.heap[b]? = some (.cells #[.pointer none,v] 146 (0,0))) :
    Calls Try.prog 149 #[.pointer (some ⟨b,0,none⟩)] w fun e w'=>e = .returned (.tuple #[])∧w' = w.setCell ⟨b,0,none⟩ (.pointer (some ⟨b,0,none⟩)):=by
  have c0:=cell_of_row w b 0 _ _ _ hb
  have f0:=frozen_of_row w b 0 _ _ hb
  simp at c0
  have hsh:w.shape? b = some (146,2):=by simp [World.shape?,hb]
  have hb':=Lib.hid hb
  clear hb
  go_enter Try.func149,Try.ntmps149
  go_wp2
  rw [Lib.run_to_unsafe w ⟨b,0,none⟩ Try.underlying144 Try.underlying168 (j:=(Try.prog.info? 146).get!) (t:=146) (by kernel_rfl) (by decide +kernel) hsh (Nat.zero_lt_succ 1)]
  simp only [Result.andThen]
  rw [Oper.upon_value]
  go_wp2
  rw [run_callFunc_extern Try.func153 (by kernel_rfl) (by kernel_rfl) (by kernel_rfl) (e:=Extern.AbiNoEscape.same) (by kernel_rfl)]
  rw [Lib.run_noEscape]
  simp only [Result.andThen]
  rw [Oper.upon_value]
  go_wp2
  rw [Lib.run_from_unsafe w ⟨b,0,none⟩ Try.underlying168 Try.underlying144 (j:=(Try.prog.info? 146).get!) (u:=146) (by kernel_rfl) hsh (by kernel_rfl)]
  simp only [Result.andThen]
  rw [Oper.upon_value]
  go_wp2
  go_end0
  exact ⟨rfl,rfl⟩
def BldU (w:World) (S:Nat→Prop) (base b:Nat) (v:Value) (bs:List UInt8):Prop:=w.heap[b]? = some (.cells #[.pointer (some ⟨b,0,none⟩),v] 146 (0,0))∧OwnB base w v bs∧∀ k,v.ownBlock = some k→S k
theorem check_any {w:World} {S:Nat→Prop} {base b:Nat} {bs:List UInt8} (h:Bld w S base b bs) :
    Calls Try.prog 149 #[.pointer (some ⟨b,0,none⟩)] w fun e w'=>e = .returned (.tuple #[])∧(∃ v,BldU w' S base b v bs)∧FrX S w w'∧w'.heap.size = w.heap.size:=by
  obtain ⟨h1,h2,p,v,hp,hh,hown,hs⟩:=h
  rcases hp with rfl | rfl
  · refine (check_fresh w b v hh).mono ?_
    rintro e w' ⟨rfl,rfl⟩
    have hset:=heap_setCell_same w b 0 _ _ (.pointer (some ⟨b,0,none⟩)) hh
    refine ⟨rfl,⟨v,hset,own_kept hown fun k hk=>heap_setCell_other w ⟨b,0,none⟩ k _ (fun e=>by have e2:k = b:=e;subst e2;exact own_ne hown hh (by decide) hk),hs⟩,(FrX.refl S w).setCell h2,by simp⟩
  · refine (check_used w b (cell_of_row w b 0 _ _ _ hh)).mono ?_
    rintro e w' ⟨rfl,rfl⟩
    exact ⟨rfl,⟨v,hh,hown,hs⟩,FrX.refl S w,rfl⟩
set_option maxHeartbeats 1000000 in
theorem write_any {w:World} {S:Nat→Prop} {base b:Nat} {bs:List UInt8} (h:Bld w S base b bs) (t:List UInt8) (hlen:bs.length + t.length≤100000000) (hbase:base≤w.heap.size) :
    Calls Try.prog 136 #[.pointer (some ⟨b,0,none⟩),.string ⟨t.toArray⟩] w fun e w'=>e = .returned (.tuple #[.int .i64 (t.length:Int),.nilIface])∧Bld w' (Also S w w') base b (bs ++ t)∧FrX S w w':=by
  have h':=Lib.hid h
  have hown:=Lib.hid h.own
  have hhere:=h.here
  have hlt:=(h.own b h.here).2
  have htl:(⟨t.toArray⟩:ByteArray).size = t.length:=rfl
  have htl':=Lib.hid htl
  clear h htl
  go_enter Try.func136,Try.ntmps136
  go_wp2_with (first
    | (go_at_call 149;refine (check_any h'.out).mono ?_;rintro e w2 ⟨rfl,⟨v,hu⟩,hF,hsz⟩;obtain ⟨hh,ho,hs⟩:=hu;obtain ⟨A,n,c,rfl,-,-,-,-,-⟩:=ho.shape_n (by unfold maxLen;omega);have c1:=cell_of_row w2 b 1 _ _ _ hh;simp at c1;have hh':=Lib.hid hh;have ho':=Lib.hid ho;have hs':=Lib.hid hs;have hF':=Lib.hid hF;have hsz':=Lib.hid hsz;clear hh ho hs hF hsz)
    | (at_builtin;refine wpList_append_text rfl (.tmp 12) (.tmp 13) rfl base _ bs t rfl ho'.out rfl hlen (by rw [hsz'.out];exact hbase) ?_;intro v' w3 ho3 hg3 hat3;obtain ⟨A',n',c',rfl,-,-,-,-,-⟩:=ho3.shape_n (by rw [List.length_append];unfold maxLen;omega);have hq:=(hg3.block b (by rw [hsz'.out];exact hlt) (fun e=>own_ne ho'.out hh'.out (by decide) e.symm)).trans hh'.out;have c13:=cell_of_row w3 b 1 _ _ _ hq;have f13:=frozen_of_row w3 b 1 _ _ hq;simp at c13;have hq':=Lib.hid hq;have ho3':=Lib.hid ho3;have hg3':=Lib.hid hg3;have hat3':=Lib.hid hat3;clear hq ho3 hg3 hat3))
  go_ret2
  have hset:=heap_setCell_same w3 b 1 _ _ (.slice A' n' c') hq'.out
  have hot:∀ k,k ≠ b→(w3.setCell ⟨b,1,none⟩ (.slice A' n' c')).heap[k]? = w3.heap[k]?:=fun k hk=>heap_setCell_other w3 ⟨b,1,none⟩ k _ hk
  have hsz4:(w3.setCell ⟨b,1,none⟩ (.slice A' n' c')).heap.size = w3.heap.size:=by simp
  have hF3:FrX S w2 w3:=FrX.of_grown hg3'.out hs'.out
  have hF4:FrX S w w3:=hF'.out.trans hF3 (fun k hk=>.inl hk)
  have hs3:=hF4.size
  have hlo:=World.ownsRow.lt ho3'.out
  have hin:∀ k,Value.ownBlock (.slice A' n' c') = some k→Also S w (w3.setCell ⟨b,1,none⟩ (.slice A' n' c')) k:=fun k hk=>by
    rcases hat3'.out with e | e
    · exact .inl (hs'.out k (e ▸ hk))
    · rw [hk] at e
      injection e with e
      have:=(hlo k hk).2
      have:=hsz'.out
      exact .inr ⟨by omega,by omega⟩
  refine ⟨by first | rfl | rw [← htl'.out];rfl,⟨fun k hk=>?_,.inl hhere,_,_,.inr rfl,hset,own_kept ho3'.out fun k hk=>hot k (fun e=>own_ne ho3'.out hq'.out (by decide) (e ▸ hk)),hin⟩,hF4.setCell hhere⟩
  rcases hk with hk | hk
  · have:=hown.out k hk
    omega
  · omega
theorem Bld.shelf {w:World} {S:Nat→Prop} {base b:Nat} {bs:List UInt8} (h:Bld w S base b bs):Lib.IsBuilder 146 5 base b (Lib.byteCells bs) w:=by
  obtain ⟨h1,h2,p,v,hp,hh,hown,hs⟩:=h
  have hl:(Lib.byteCells bs).length = bs.length:=Lib.byteCells_length bs
  have ho:w.ownsRow base 5 1 v (Lib.byteCells bs).length (Lib.byteCells bs):=by rw [hl];exact hown
  have hne:=own_ne hown hh (show 5 ≠ 146 by decide)
  rcases hp with rfl | rfl
  · exact .inl ⟨(h1 b h2).1,v,hh,ho,hne⟩
  · exact .inr ⟨(h1 b h2).1,v,hh,ho,hne⟩
end Go.Proofs.Ytmipodnffhngaaa.P5
namespace Go.Proofs.Ytmipodnffhngaaa
set_option linter.unusedVariables false
open Go.RowKit
set_option maxRecDepth 20000

theorem kid_at {w wr:World} {t kd:Nd} {kA:Option Addr} {q:Nat} (hr:RowAt (Old w) w kA 0 t.kids) (hk:t.kids[q]? = some kd) (hb:Below w.heap.size w wr) :
    ∃ (ka:Addr) (aA:Option Addr) (an ac:Nat) (kA':Option Addr) (kn kc:Nat),kA = some ka∧Six wr (ka.add (q * 6)) kd aA an ac kA' kn kc∧NodeV (Old wr) wr aA an ac kA' kn kc kd:=by
  obtain ⟨ka,rfl,hka,aA3,an3,ac3,kA3,kn3,kc3,hsix,hv3⟩:=(hr.kept (T':=Old w) (w':=wr) (fun _ h=>h) (fun k hk=>hb.block k hk)).at_ hk
  rw [Nat.zero_add] at hka hsix
  exact ⟨ka,aA3,an3,ac3,kA3,kn3,kc3,rfl,hsix,hv3.kept (fun k hk=>Nat.lt_of_lt_of_le hk hb.size) (fun _ _=>rfl)⟩
theorem get_kid {l:List Nd} {q n:Nat} (hl:l.length = n) (hq:q < n):∃ kd,l[q]? = some kd:=⟨l[q]'(by omega),List.getElem?_eq_getElem _⟩
end Go.Proofs.Ytmipodnffhngaaa
namespace Go.Proofs.Ytmipodnffhngaaa
set_option linter.unusedVariables false
open Go.RowKit
set_option maxRecDepth 20000

theorem key_first {s:Txt} (h:keyB s = true):ltB [] s = true:=by
  unfold keyB at h
  have h:=of_decide_eq_true h
  cases s with
  | nil=>simp at h
  | cons a r=>unfold ltB;simp [Op.bytesLess]
theorem rkey_quiet (s:Txt) (w:World) (hs:s.length≤maxLen):Calls Try.prog 58 #[.string ⟨s.toArray⟩] w fun e w'=>e = .returned (.bool (keyB s))∧∃ d,w' = w.drewN d :=
  (rkey_any s w hs).mono (by rintro e w' ⟨rfl,rfl⟩;exact ⟨rfl,0,rfl⟩)
set_option maxHeartbeats 8000000 in
theorem rright_any (t:Nd):∀ (w:World) (aA kA:Option Addr) (an ac kn kc:Nat),NodeV (Old w) w aA an ac kA kn kc t →
    Calls Try.prog 102 #[.agg (val6 t aA an ac kA kn kc)] w fun e w'=>e = .returned (.bool (rightsV ltB t))∧Below w.heap.size w w':=by
  induction t using Nd.ind with
  | _ t ih =>
  intro w aA kA an ac kn kc h
  have ih':=Lib.hid ih
  have hf:=h.facts
  have f1:=Lib.hid hf.ats
  have f1l:=Lib.hid hf.ats.1
  have f3:=hf.anc
  have f3m:=hf.acm
  have f4:=Lib.hid hf.row
  have f6:=hf.knc
  have f6m:=hf.kcm
  have f7:=Lib.hid hf.kl
  have hlab:=hf.label
  have htxt:=hf.text
  unfold maxLen at hlab htxt f3m f6m
  clear ih h hf
  have hR0:=Lib.hid (rightsV_eq ltB t)
  unfold val6
  by_cases hl:t.label.length≤64
  · have hlI:¬ (64:Int) < (t.label.length:Int):=by omega
    cases hlf:t.leaf with
    | true =>
      by_cases hk0:kn = 0
      · have hk0I:¬ (0:Int) < (kn:Int):=by omega
        have hR:=Lib.hid (show rightsV ltB t = (attrsOk ltB [] t.attrs && rightssV ltB t.kids) by
          have:t.kids = []:=List.length_eq_zero_iff.1 (by rw [f7.out];exact hk0)
          rw [hR0.out,aloneOk,decide_eq_true hl,hlf,this]
          simp)
        subst hk0
        go_enter Try.func102,Try.ntmps102
        go_wp2_with fail
        go_loopw [3] (fun k wr=>∃ (q:Nat) (last:Txt),q≤an∧k = .int .i64 (q:Int)∧(q = 0→last = [])∧(∀ pq y,q = pq + 1→t.attrs[pq]? = some y→y.1 = last)∧attrsOk ltB [] t.attrs = attrsOk ltB last (t.attrs.drop q) ∧
          wr.heap[w.heap.size]? = some (.cells (val6 t aA an ac kA 0 kc) 33 (0,0))∧Below w.heap.size w wr) (fun k _=>an - (intOf k).toNat)
        case atStart=>exact ⟨0,[],Nat.zero_le _,rfl,fun _=>rfl,fun pq y h=>by omega,rfl,by unfold val6;rw [hlf];exact heap_alloc_new w _,(Below.refl _ _).alloc (Nat.le_refl _) _⟩
        case round =>
          obtain ⟨q,last,hq,rfl,hl0,hl1,hok,hB,hbel⟩:=hrel
          have hB':=Lib.hid hB
          unfold val6 at hB
          obtain ⟨c0,c1,c2,c3,c4,c5,cf⟩:=six_cells hB
          have hbel':=Lib.hid hbel
          clear hB hbel
          by_cases h1:q < an
          · have h1I:(q:Int) < (an:Int):=by omega
            obtain ⟨ad,x,rfl,hxq,hlt,x1,x2,x3,x4⟩:=(f1.out.kept (T':=Old w) (w':=wr) (fun _ h=>h) (fun k hk=>hbel'.out.block k hk)).at_ h1
            obtain ⟨ky,va⟩:=x
            simp only at *
            have hdr:t.attrs.drop q = (ky,va) :: t.attrs.drop (q + 1):=by rw [List.drop_eq_getElem?_toList_append,hxq];rfl
            have hprev:∀ pq,q = pq + 1→∃ va2,wr.cell? (ad.add (pq * 2)) = some (.string ⟨last.toArray⟩)∧va2 = va:=fun pq hp=>by
              obtain ⟨ad',y,e,hyq,-,-,-,y3,-⟩:=(f1.out.kept (T':=Old w) (w':=wr) (fun _ h=>h) (fun k hk=>hbel'.out.block k hk)).at_ (q:=pq) (by omega)
              cases e
              rw [hl1 pq y hp hyq] at y3
              exact ⟨va,y3,rfl⟩
            cases hk:keyB ky with
            | false =>
              have hv:=Lib.hid (show rightsV ltB t = false by rw [hR.out,hok,hdr,attrsOk,hk];rfl)
              have hkq:=Lib.hid (fun d=>rkey_quiet ky (wr.drewN d) x1)
              rw [hk] at hkq
              clear hok hdr hxq hprev hl1 hl0 hk
              go_wp2_with fail
              go_quiet ((go_at_call 58;exact Calls.quiet_of (hkq.out _)))
              go_wp2_with fail
              go_ret
              exact ⟨by rw [hv.out];rfl,draws hbel'.out _⟩
            | true =>
              have hkq:=Lib.hid (fun d=>rkey_quiet ky (wr.drewN d) x1)
              rw [hk] at hkq
              unfold maxLen at x2
              by_cases h256:va.length≤256
              · have i2:¬ (256:Int) < (va.length:Int):=by omega
                have i2d:decide ((256:Int) < (va.length:Int)) = false:=decide_eq_false i2
                by_cases hq0:q = 0
                · have hv:=Lib.hid (show attrsOk ltB [] t.attrs = attrsOk ltB ky (t.attrs.drop (q + 1)) by rw [hok,hl0 hq0,hdr,attrsOk,hk,key_first hk,decide_eq_true h256];simp)
                  have hnx:=Lib.hid (show ∀ pq y,q + 1 = pq + 1→t.attrs[pq]? = some y→y.1 = ky from fun pq y h hy=>by
                    obtain rfl:pq = q:=by omega
                    rw [hxq] at hy
                    injection hy with hy
                    rw [← hy])
                  have hq0I:¬ (0:Int) < (q:Int):=by omega
                  have hq0d:decide (0 < q) = false:=decide_eq_false (by omega)
                  clear hok hdr hxq hprev hl1 hl0 hk hq0
                  go_wp2_with fail
                  go_quiet ((go_at_call 58;exact Calls.quiet_of (hkq.out _)))
                  go_wp2_with fail
                  go_roundw
                  case rel=>exact ⟨q + 1,ky,by omega,by go_num,fun h=>by omega,hnx.out,hv.out,hB'.out,draws hbel'.out _⟩
                  case measure=>simp [intOf];omega
                · obtain ⟨pq,hpq⟩:∃ pq,q = pq + 1:=⟨q - 1,by omega⟩
                  obtain ⟨-,y3,-⟩:=hprev pq hpq
                  have hq0I:(0:Int) < (q:Int):=by omega
                  have hq0d:decide (0 < q) = true:=decide_eq_true (by omega)
                  have hpqW:IntKind.i64.wrap ((q:Int) - 1) = (pq:Int):=by rw [show (q:Int) - 1 = (pq:Int) by omega];exact IntWalk.i64_in _ (by omega)
                  have hpqI:(q:Int) - 1 = (pq:Int):=by omega
                  have hpqL:(pq:Int) < (an:Int):=by omega
                  cases ho:ltB last ky with
                  | false =>
                    have hv:=Lib.hid (show rightsV ltB t = false by rw [hR.out,hok,hdr,attrsOk,hk,ho];rfl)
                    have ho':(Op.bytesLess ky last || ky == last) = true:=by unfold ltB at ho;cases hb:(Op.bytesLess ky last || ky == last) with | true=>rfl | false=>(rw [hb] at ho;cases ho)
                    clear hok hdr hxq hprev hl1 hl0 hk ho hpq hq0
                    go_wp2_with fail
                    go_quiet ((go_at_call 58;exact Calls.quiet_of (hkq.out _)))
                    go_wp2_with fail
                    go_ret
                    exact ⟨by rw [hv.out];rfl,draws hbel'.out _⟩
                  | true =>
                    have hv:=Lib.hid (show attrsOk ltB [] t.attrs = attrsOk ltB ky (t.attrs.drop (q + 1)) by rw [hok,hdr,attrsOk,hk,ho,decide_eq_true h256];simp)
                    have hnx:=Lib.hid (show ∀ pq y,q + 1 = pq + 1→t.attrs[pq]? = some y→y.1 = ky from fun pq y h hy=>by
                      obtain rfl:pq = q:=by omega
                      rw [hxq] at hy
                      injection hy with hy
                      rw [← hy])
                    have ho':(Op.bytesLess ky last || ky == last) = false:=by unfold ltB at ho;exact Bool.not_eq_true' _ |>.mp ho
                    clear hok hdr hxq hprev hl1 hl0 hk ho hpq hq0
                    go_wp2_with fail
                    go_quiet ((go_at_call 58;exact Calls.quiet_of (hkq.out _)))
                    go_wp2_with fail
                    go_roundw
                    case rel=>exact ⟨q + 1,ky,by omega,by go_num,fun h=>by omega,hnx.out,hv.out,hB'.out,draws hbel'.out _⟩
                    case measure=>simp [intOf];omega
              · have i2:(256:Int) < (va.length:Int):=by omega
                have i2d:decide ((256:Int) < (va.length:Int)) = true:=decide_eq_true i2
                have hv:=Lib.hid (show rightsV ltB t = false by rw [hR.out,hok,hdr,attrsOk,hk,decide_eq_false h256];simp)
                clear hok hdr hxq hprev hl1 hl0 hk
                go_wp2_with fail
                go_quiet ((go_at_call 58;exact Calls.quiet_of (hkq.out _)))
                go_wp2_with fail
                go_ret
                exact ⟨by rw [hv.out];rfl,draws hbel'.out _⟩
          · have h1I:¬ (q:Int) < (an:Int):=by omega
            have hall:=Lib.hid (show rightsV ltB t = rightssV ltB t.kids by rw [hR.out,hok,List.drop_of_length_le (by rw [f1l.out];omega)];simp [attrsOk])
            clear hok hl1 hl0
            go_wp2_with fail
            go_loopw [4] (fun k wr=>∃ q:Nat,q≤0∧k = .int .i64 (q:Int)∧rightssV ltB t.kids = rightssV ltB (t.kids.drop q)∧wr.heap[w.heap.size]? = some (.cells (val6 t aA an ac kA 0 kc) 33 (0,0))∧Below w.heap.size w wr) (fun k _=>0 - (intOf k).toNat)
            case atStart=>exact ⟨0,Nat.zero_le _,rfl,rfl,hB'.out,hbel'.out⟩
            case round =>
              obtain ⟨q2,hq2,rfl,hok2,hB2,hbel2⟩:=hrel
              have hB2':=Lib.hid hB2
              have hBl2:=Lib.hid (Array.getElem?_eq_some_iff.1 hB2).1
              have hbel2':=Lib.hid hbel2
              unfold val6 at hB2
              clear c0 c1 c2 c3 c4 c5 cf
              obtain ⟨c0,c1,c2,c3,c4,c5,cf⟩:=six_cells hB2
              clear hB2 hbel2
              by_cases m1:q2 < 0
              · omega
              · have m1I:¬ (q2:Int) < (0:Int):=by omega
                have hv:=Lib.hid (show rightsV ltB t = true by rw [hall.out,hok2,List.drop_of_length_le (by rw [f7.out];omega)];rfl)
                clear hok2
                go_wp2_with fail
                go_ret
                exact ⟨by rw [hv.out];rfl,hbel2'.out⟩
      · have hk0I:(0:Int) < (kn:Int):=by omega
        have hv:=Lib.hid (show rightsV ltB t = false by
          have:t.kids.isEmpty = false:=by rw [isEmpty_len];exact decide_eq_false (by rw [f7.out];exact hk0)
          rw [hR0.out,aloneOk,hlf,this]
          simp)
        go_enter Try.func102,Try.ntmps102
        go_wp2_with fail
        go_ret
        exact ⟨by rw [hv.out];rfl,(Below.refl _ _).alloc (Nat.le_refl _) _⟩
    | false =>
      cases htx:t.text with
      | nil =>
        have hR:=Lib.hid (show rightsV ltB t = (attrsOk ltB [] t.attrs && rightssV ltB t.kids) by
          rw [hR0.out,aloneOk,decide_eq_true hl,hlf,htx]
          simp)
        go_enter Try.func102,Try.ntmps102
        go_wp2_with fail
        go_loopw [3] (fun k wr=>∃ (q:Nat) (last:Txt),q≤an∧k = .int .i64 (q:Int)∧(q = 0→last = [])∧(∀ pq y,q = pq + 1→t.attrs[pq]? = some y→y.1 = last)∧attrsOk ltB [] t.attrs = attrsOk ltB last (t.attrs.drop q) ∧
          wr.heap[w.heap.size]? = some (.cells (val6 t aA an ac kA kn kc) 33 (0,0))∧Below w.heap.size w wr) (fun k _=>an - (intOf k).toNat)
        case atStart=>exact ⟨0,[],Nat.zero_le _,rfl,fun _=>rfl,fun pq y h=>by omega,rfl,by unfold val6;rw [hlf,htx];exact heap_alloc_new w _,(Below.refl _ _).alloc (Nat.le_refl _) _⟩
        case round =>
          obtain ⟨q,last,hq,rfl,hl0,hl1,hok,hB,hbel⟩:=hrel
          have hB':=Lib.hid hB
          unfold val6 at hB
          obtain ⟨c0,c1,c2,c3,c4,c5,cf⟩:=six_cells hB
          have hbel':=Lib.hid hbel
          clear hB hbel
          by_cases h1:q < an
          · have h1I:(q:Int) < (an:Int):=by omega
            obtain ⟨ad,x,rfl,hxq,hlt,x1,x2,x3,x4⟩:=(f1.out.kept (T':=Old w) (w':=wr) (fun _ h=>h) (fun k hk=>hbel'.out.block k hk)).at_ h1
            obtain ⟨ky,va⟩:=x
            simp only at *
            have hdr:t.attrs.drop q = (ky,va) :: t.attrs.drop (q + 1):=by rw [List.drop_eq_getElem?_toList_append,hxq];rfl
            have hprev:∀ pq,q = pq + 1→∃ va2,wr.cell? (ad.add (pq * 2)) = some (.string ⟨last.toArray⟩)∧va2 = va:=fun pq hp=>by
              obtain ⟨ad',y,e,hyq,-,-,-,y3,-⟩:=(f1.out.kept (T':=Old w) (w':=wr) (fun _ h=>h) (fun k hk=>hbel'.out.block k hk)).at_ (q:=pq) (by omega)
              cases e
              rw [hl1 pq y hp hyq] at y3
              exact ⟨va,y3,rfl⟩
            cases hk:keyB ky with
            | false =>
              have hv:=Lib.hid (show rightsV ltB t = false by rw [hR.out,hok,hdr,attrsOk,hk];rfl)
              have hkq:=Lib.hid (fun d=>rkey_quiet ky (wr.drewN d) x1)
              rw [hk] at hkq
              clear hok hdr hxq hprev hl1 hl0 hk
              go_wp2_with fail
              go_quiet ((go_at_call 58;exact Calls.quiet_of (hkq.out _)))
              go_wp2_with fail
              go_ret
              exact ⟨by rw [hv.out];rfl,draws hbel'.out _⟩
            | true =>
              have hkq:=Lib.hid (fun d=>rkey_quiet ky (wr.drewN d) x1)
              rw [hk] at hkq
              unfold maxLen at x2
              by_cases h256:va.length≤256
              · have i2:¬ (256:Int) < (va.length:Int):=by omega
                have i2d:decide ((256:Int) < (va.length:Int)) = false:=decide_eq_false i2
                by_cases hq0:q = 0
                · have hv:=Lib.hid (show attrsOk ltB [] t.attrs = attrsOk ltB ky (t.attrs.drop (q + 1)) by rw [hok,hl0 hq0,hdr,attrsOk,hk,key_first hk,decide_eq_true h256];simp)
                  have hnx:=Lib.hid (show ∀ pq y,q + 1 = pq + 1→t.attrs[pq]? = some y→y.1 = ky from fun pq y h hy=>by
                    obtain rfl:pq = q:=by omega
                    rw [hxq] at hy
                    injection hy with hy
                    rw [← hy])
                  have hq0I:¬ (0:Int) < (q:Int):=by omega
                  have hq0d:decide (0 < q) = false:=decide_eq_false (by omega)
                  clear hok hdr hxq hprev hl1 hl0 hk hq0
                  go_wp2_with fail
                  go_quiet ((go_at_call 58;exact Calls.quiet_of (hkq.out _)))
                  go_wp2_with fail
                  go_roundw
                  case rel=>exact ⟨q + 1,ky,by omega,by go_num,fun h=>by omega,hnx.out,hv.out,hB'.out,draws hbel'.out _⟩
                  case measure=>simp [intOf];omega
                · obtain ⟨pq,hpq⟩:∃ pq,q = pq + 1:=⟨q - 1,by omega⟩
                  obtain ⟨-,y3,-⟩:=hprev pq hpq
                  have hq0I:(0:Int) < (q:Int):=by omega
                  have hq0d:decide (0 < q) = true:=decide_eq_true (by omega)
                  have hpqW:IntKind.i64.wrap ((q:Int) - 1) = (pq:Int):=by rw [show (q:Int) - 1 = (pq:Int) by omega];exact IntWalk.i64_in _ (by omega)
                  have hpqI:(q:Int) - 1 = (pq:Int):=by omega
                  have hpqL:(pq:Int) < (an:Int):=by omega
                  cases ho:ltB last ky with
                  | false =>
                    have hv:=Lib.hid (show rightsV ltB t = false by rw [hR.out,hok,hdr,attrsOk,hk,ho];rfl)
                    have ho':(Op.bytesLess ky last || ky == last) = true:=by unfold ltB at ho;cases hb:(Op.bytesLess ky last || ky == last) with | true=>rfl | false=>(rw [hb] at ho;cases ho)
                    clear hok hdr hxq hprev hl1 hl0 hk ho hpq hq0
                    go_wp2_with fail
                    go_quiet ((go_at_call 58;exact Calls.quiet_of (hkq.out _)))
                    go_wp2_with fail
                    go_ret
                    exact ⟨by rw [hv.out];rfl,draws hbel'.out _⟩
                  | true =>
                    have hv:=Lib.hid (show attrsOk ltB [] t.attrs = attrsOk ltB ky (t.attrs.drop (q + 1)) by rw [hok,hdr,attrsOk,hk,ho,decide_eq_true h256];simp)
                    have hnx:=Lib.hid (show ∀ pq y,q + 1 = pq + 1→t.attrs[pq]? = some y→y.1 = ky from fun pq y h hy=>by
                      obtain rfl:pq = q:=by omega
                      rw [hxq] at hy
                      injection hy with hy
                      rw [← hy])
                    have ho':(Op.bytesLess ky last || ky == last) = false:=by unfold ltB at ho;exact Bool.not_eq_true' _ |>.mp ho
                    clear hok hdr hxq hprev hl1 hl0 hk ho hpq hq0
                    go_wp2_with fail
                    go_quiet ((go_at_call 58;exact Calls.quiet_of (hkq.out _)))
                    go_wp2_with fail
                    go_roundw
                    case rel=>exact ⟨q + 1,ky,by omega,by go_num,fun h=>by omega,hnx.out,hv.out,hB'.out,draws hbel'.out _⟩
                    case measure=>simp [intOf];omega
              · have i2:(256:Int) < (va.length:Int):=by omega
                have i2d:decide ((256:Int) < (va.length:Int)) = true:=decide_eq_true i2
                have hv:=Lib.hid (show rightsV ltB t = false by rw [hR.out,hok,hdr,attrsOk,hk,decide_eq_false h256];simp)
                clear hok hdr hxq hprev hl1 hl0 hk
                go_wp2_with fail
                go_quiet ((go_at_call 58;exact Calls.quiet_of (hkq.out _)))
                go_wp2_with fail
                go_ret
                exact ⟨by rw [hv.out];rfl,draws hbel'.out _⟩
          · have h1I:¬ (q:Int) < (an:Int):=by omega
            have hall:=Lib.hid (show rightsV ltB t = rightssV ltB t.kids by rw [hR.out,hok,List.drop_of_length_le (by rw [f1l.out];omega)];simp [attrsOk])
            clear hok hl1 hl0
            go_wp2_with fail
            go_loopw [4] (fun k wr=>∃ q:Nat,q≤kn∧k = .int .i64 (q:Int)∧rightssV ltB t.kids = rightssV ltB (t.kids.drop q)∧wr.heap[w.heap.size]? = some (.cells (val6 t aA an ac kA kn kc) 33 (0,0))∧Below w.heap.size w wr) (fun k _=>kn - (intOf k).toNat)
            case atStart=>exact ⟨0,Nat.zero_le _,rfl,rfl,hB'.out,hbel'.out⟩
            case round =>
              obtain ⟨q2,hq2,rfl,hok2,hB2,hbel2⟩:=hrel
              have hB2':=Lib.hid hB2
              have hBl2:=Lib.hid (Array.getElem?_eq_some_iff.1 hB2).1
              have hbel2':=Lib.hid hbel2
              unfold val6 at hB2
              clear c0 c1 c2 c3 c4 c5 cf
              obtain ⟨c0,c1,c2,c3,c4,c5,cf⟩:=six_cells hB2
              clear hB2 hbel2
              by_cases m1:q2 < kn
              · have m1I:(q2:Int) < (kn:Int):=by omega
                obtain ⟨kd,hkd⟩:=get_kid f7.out m1
                obtain ⟨ka,aA3,an3,ac3,kA3,kn3,kc3,rfl,⟨s0,s1,s2,s3,s4,s5⟩,hv3⟩:=kid_at f4.out hkd hbel2'.out
                have hcall:=Lib.hid (ih'.out kd (List.mem_of_getElem? hkd) wr aA3 kA3 an3 ac3 kn3 kc3 hv3)
                have hdr:t.kids.drop q2 = kd :: t.kids.drop (q2 + 1):=by rw [List.drop_eq_getElem?_toList_append,hkd];rfl
                unfold val6 at hcall
                cases hr:rightsV ltB kd with
                | false =>
                  have hv:=Lib.hid (show rightsV ltB t = false by rw [hall.out,hok2,hdr,rightssV,hr];rfl)
                  rw [hr] at hcall
                  clear hkd hv3 hdr hok2 hr
                  go_wp2_with fail
                  refine hcall.out.mono ?_
                  rintro e w2 ⟨rfl,hb2⟩
                  have hb2':=Lib.hid hb2
                  clear hb2 hcall
                  go_wp2_with fail
                  go_ret
                  exact ⟨by rw [hv.out];rfl,hbel2'.out.trans (hb2'.out.mono hbel2'.out.size)⟩
                | true =>
                  have hv:=Lib.hid (show rightssV ltB t.kids = rightssV ltB (t.kids.drop (q2 + 1)) by rw [hok2,hdr,rightssV,hr];rfl)
                  rw [hr] at hcall
                  clear hkd hv3 hdr hok2 hr
                  go_wp2_with fail
                  refine hcall.out.mono ?_
                  rintro e w2 ⟨rfl,hb2⟩
                  have hb2':=Lib.hid hb2
                  clear hb2 hcall
                  go_wp2_with fail
                  go_roundw
                  case rel=>exact ⟨q2 + 1,by omega,by go_num,hv.out,(hb2'.out.block _ hBl2.out).trans hB2'.out,hbel2'.out.trans (hb2'.out.mono hbel2'.out.size)⟩
                  case measure=>simp [intOf];omega
              · have m1I:¬ (q2:Int) < (kn:Int):=by omega
                have hv:=Lib.hid (show rightsV ltB t = true by rw [hall.out,hok2,List.drop_of_length_le (by rw [f7.out];omega)];rfl)
                clear hok2
                go_wp2_with fail
                go_ret
                exact ⟨by rw [hv.out];rfl,hbel2'.out⟩
      | cons ch rest =>
        have hv:=Lib.hid (show rightsV ltB t = false by
          rw [hR0.out,aloneOk,hlf,htx]
          simp)
        go_enter Try.func102,Try.ntmps102
        go_wp2_with fail
        go_ret
        exact ⟨by rw [hv.out];rfl,(Below.refl _ _).alloc (Nat.le_refl _) _⟩
  · have hlI:(64:Int) < (t.label.length:Int):=by omega
    have hv:=Lib.hid (show rightsV ltB t = false by rw [hR0.out,aloneOk,decide_eq_false hl];rfl)
    go_enter Try.func102,Try.ntmps102
    go_wp2_with fail
    go_ret
    exact ⟨by rw [hv.out];rfl,(Below.refl _ _).alloc (Nat.le_refl _) _⟩
end Go.Proofs.Ytmipodnffhngaaa
namespace Go.Proofs.Ytmipodnffhngaaa
set_option linter.unusedVariables false
open Go.RowKit
set_option maxRecDepth 20000

end Go.Proofs.Ytmipodnffhngaaa
namespace Go.Proofs.Ytmipodnffhngaaa
set_option linter.unusedVariables false
open Go.RowKit
set_option maxRecDepth 20000

theorem hole_below {b0 eb eo:Nat} {W W':World} {f:Nd→Nd} (h:Hole b0 W eb eo f) (heb:eb < W.heap.size) (hb:Below W.heap.size W W'):Hole b0 W' eb eo f:=fun W2 z hz ho hc hN =>
  h W2 z (Nat.le_trans hb.size hz) (fun k hk hne=>(ho k (Nat.lt_of_lt_of_le hk hb.size) hne).trans (hb.block k hk)) (fun o h=>(hc o h).trans (hb.cell (p:=⟨eb,o,none⟩) heb)) hN
theorem Owned.some_ {w w':World} {T:Nat→Prop} {t:Nd} {aA kA:Option Addr} {an ac kn kc gA:Nat} {ks:List KV} (h:Owned w w' T t aA an ac kA kn kc gA ks) (hk:0 < kn):∃ g,kA = some ⟨g,0,none⟩:=by
  rcases h.row.2 with ⟨h0,h1⟩ | ⟨g',cap,cur,e,-⟩
  · have:=h.len
    omega
  · injection e with e1 e2 e3
    exact ⟨g',e1⟩
theorem putV_none {s x:Nd} {i:Int} {r:List Int} (h:hasB s.kids.length i = false):putV s (i :: r) x = none:=by
  unfold hasB at h
  have h:=of_decide_eq_false h
  simp only [putV]
  split
  · rw [List.getElem?_eq_none (by omega)]
  · rfl
theorem putV_some {s k x:Nd} {j:Nat} {r:List Int} (h:s.kids[j]? = some k):putV s ((j:Int) :: r) x = (putV k r x).map fun z=>s.withKids (s.kids.set j z):=by
  simp only [putV]
  rw [if_pos (by omega)]
  simp only [Int.toNat_natCast,h]
  cases putV k r x <;> rfl
def PutAns (w:World) (t:Nd) (p:List Int) (x:Nd) (e:Ending) (w':World):Prop :=
  ∃ aA an ac kA kn kc,e = .returned (.tuple #[.agg (val6 ((putV t p x).getD Nd.zero) aA an ac kA kn kc),.bool (putV t p x).isSome])∧NodeV (Old w') w' aA an ac kA kn kc ((putV t p x).getD Nd.zero)∧Below w.heap.size w w'
set_option maxHeartbeats 8000000 in
theorem put_any (w:World) (t x:Nd) (aA kA xA xkA:Option Addr) (an ac kn kc xn xc xkn xkc:Nat) (h:NodeV (Old w) w aA an ac kA kn kc t) (hx:NodeV (Old w) w xA xn xc xkA xkn xkc x) (pA:Option Addr) (pn pc:Nat) (p:List Int) (hp:Its w pA pn p) (hpn:pn≤maxLen)
    (hbig:weighV t≤1000000) (hbigx:weighV x≤1000000) :
    Calls Try.prog 138 #[.agg (val6 t aA an ac kA kn kc),.slice pA pn pc,.agg (val6 x xA xn xc xkA xkn xkc)] w (PutAns w t p x):=by
  have h':=Lib.hid h
  have hx':=Lib.hid hx
  have hp':=Lib.hid hp
  have hpl:=Lib.hid hp.1
  have hbigx':=Lib.hid hbigx
  clear h hx hp hbigx
  unfold maxLen at hpn
  obtain ⟨W3,hW3⟩:∃ W3,W3 = ((w.alloc (.cells (val6 t aA an ac kA kn kc) 33)).alloc (.cells (val6 x xA xn xc xkA xkn xkc) 33)).alloc (.cells zero6 33):=⟨_,rfl⟩
  have hstart:=Lib.hid (show W3.heap[w.heap.size]? = some (.cells (val6 t aA an ac kA kn kc) 33 (0,0))∧W3.heap[w.heap.size + 1]? = some (.cells (val6 x xA xn xc xkA xkn xkc) 33 (0,0))∧W3.heap[w.heap.size + 1 + 1]? = some (.cells zero6 33 (0,0))∧Below w.heap.size w W3 by
    rw [hW3]
    have h1:=heap_alloc_new w (.cells (val6 t aA an ac kA kn kc) 33)
    have h2:=heap_alloc_new (w.alloc (.cells (val6 t aA an ac kA kn kc) 33)) (.cells (val6 x xA xn xc xkA xkn xkc) 33)
    have h3:=heap_alloc_new ((w.alloc (.cells (val6 t aA an ac kA kn kc) 33)).alloc (.cells (val6 x xA xn xc xkA xkn xkc) 33)) (.cells zero6 33)
    rw [World.size_alloc] at h2
    rw [World.size_alloc,World.size_alloc] at h3
    exact ⟨(Go.heap_alloc_old _ _ (by simp;omega)).trans ((Go.heap_alloc_old _ _ (by simp)).trans h1),(Go.heap_alloc_old _ _ (by simp)).trans h2,h3,(((Below.refl w.heap.size w).alloc (Nat.le_refl _) _).alloc (by simp) _).alloc (by simp;omega) _⟩)
  unfold zero6 val6 at hW3
  unfold val6
  go_enter Try.func138,Try.ntmps138
  go_wp2_with fail
  rw [← hW3]
  clear hW3
  go_loopw [8,13] (fun pl k wr=>∃ (q:Nat) (s:Nd) (sA skA:Option Addr) (sn sc skn skc eb eo:Nat) (f:Nd→Nd) (cs:Array Value),q≤pn∧k = .int .i64 (q:Int)∧pl = .pointer (some ⟨eb,eo,none⟩)∧putV t p x = (putV s (p.drop q) x).map f∧weighV s≤1000000 ∧
    NodeV (Old w) w sA sn sc skA skn skc s∧Six wr ⟨eb,eo,none⟩ s sA sn sc skA skn skc∧wr.heap[eb]? = some (.cells cs 33 (0,0))∧eo + 5 < cs.size∧(eb = w.heap.size∨w.heap.size + 3≤eb)∧Hole w.heap.size wr eb eo f ∧
    wr.heap[w.heap.size + 1]? = some (.cells (val6 x xA xn xc xkA xkn xkc) 33 (0,0))∧wr.heap[w.heap.size + 1 + 1]? = some (.cells zero6 33 (0,0))∧Below w.heap.size w wr) (fun _ k _=>pn - (intOf k).toNat)
  case atStart =>
    obtain ⟨g1,g2,g3,g4⟩:=hstart.out
    unfold val6 at g1
    obtain ⟨c0,c1,c2,c3,c4,c5,-⟩:=six_cells g1
    exact ⟨0,t,aA,kA,an,ac,kn,kc,w.heap.size,0,fun z=>z,_,Nat.zero_le _,rfl,rfl,by simp,hbig,h'.out,⟨c0,c1,c2,c3,c4,c5⟩,g1,by simp,.inl rfl,fun _ _ _ _ _ h=>h,g2,g3,g4⟩
  case round =>
    obtain ⟨q,s,sA,skA,sn,sc,skn,skc,eb,eo,f,cs,hq,rfl,rfl,hput,hsw,hv,hsix,hrow,hcs,heb,hhole,hX,hZ,hbel⟩:=hrel
    have hf:=hv.facts
    have hkl:=hf.kl
    have hwr:=weigh_rows s
    have hrl:=(Array.getElem?_eq_some_iff.1 hrow).1
    have hXl:=(Array.getElem?_eq_some_iff.1 hX).1
    have hZl:=(Array.getElem?_eq_some_iff.1 hZ).1
    have hrl':=Lib.hid hrl
    have hXl':=Lib.hid hXl
    have hZl':=Lib.hid hZl
    have hX':=Lib.hid hX
    have hZ':=Lib.hid hZ
    have hrow':=Lib.hid hrow
    have hhole':=Lib.hid hhole
    have hbel':=Lib.hid hbel
    have hput':=Lib.hid hput
    have hcs':=Lib.hid hcs
    have heb':=Lib.hid heb
    have hsix':=Lib.hid hsix
    obtain ⟨c0,c1,c2,c3,c4,c5⟩:=hsix
    by_cases h1:q < pn
    · have h1I:(q:Int) < (pn:Int):=by omega
      obtain ⟨ad,i,rfl,hi,hci⟩:=(hp'.out.below hbel).at_ h1
      have hdrop:p.drop q = i :: p.drop (q + 1):=by
        have hl:q < p.length:=by rw [hpl.out];exact h1
        rw [List.drop_eq_getElem_cons hl]
        rw [List.getElem?_eq_getElem hl] at hi
        injection hi with hi
        rw [hi]
      rw [hdrop] at hput
      have hkm:=hf.kcm
      have hknc:=hf.knc
      rcases hasB_cases skn i with hno | ⟨j,rfl,hj,hyes⟩
      · have hcall:=Lib.hid (hasChild_any wr (s.id:Int) s.leaf s.label s.text sA skA sn sc skn skc i (by omega))
        rw [hno] at hcall
        have hans:=Lib.hid (show putV t p x = none by rw [hput,putV_none (by rw [hkl];exact hno)];rfl)
        clear hput hf hkl hv hX hZ hrow hhole hbel hno hdrop hkm hknc hwr hi hcs heb hrl hXl hZl hsw
        go_wp2_with (go_at_call 81;refine hcall.out.mono ?_;rintro e w1 ⟨rfl,hb1⟩;have R1:=(hb1.block _ hZl'.out).trans hZ'.out;unfold zero6 at R1;obtain ⟨d0,d1,d2,d3,d4,d5,df⟩:=six_cells R1)
        have R9:=set_six (b0:=.int .u64 0) (b1:=.bool false) (b2:=.string ⟨#[]⟩) (b3:=.slice none 0 0) (b4:=.string ⟨#[]⟩) (b5:=.slice none 0 0) R1
        have hb9:Below w.heap.size w _:=below_six (hbel'.out.trans (hb1.mono hbel'.out.size)) (b0:=.int .u64 0) (b1:=.bool false) (b2:=.string ⟨#[]⟩) (b3:=.slice none 0 0) (b4:=.string ⟨#[]⟩) (b5:=.slice none 0 0) (show w.heap.size≤w.heap.size + 1 + 1 by omega)
        generalize ((((((w1.setCell ⟨w.heap.size + 1 + 1,0,none⟩ (.int .u64 0)).setCell ⟨w.heap.size + 1 + 1,1,none⟩ (.bool false)).setCell ⟨w.heap.size + 1 + 1,2,none⟩ (.string ⟨#[]⟩)).setCell ⟨w.heap.size + 1 + 1,3,none⟩ (.slice none 0 0)).setCell ⟨w.heap.size + 1 + 1,4,none⟩ (.string ⟨#[]⟩)).setCell ⟨w.heap.size + 1 + 1,5,none⟩ (.slice none 0 0)) = W9 at R9 hb9 ⊢
        obtain ⟨d0,d1,d2,d3,d4,d5,df⟩:=six_cells R9
        refine bodyPost_ret (v:=.tuple #[.agg zero6,.bool false]) (by simp [results,Try.results138,go_sem,d0,d1,d2,d3,d4,d5,zero6]) rfl ?_
        exact ⟨none,0,0,none,0,0,by rw [hans.out];rfl,by rw [hans.out];exact zero_node,hb9⟩
      · obtain ⟨kd,hkd⟩:∃ kd,s.kids[j]? = some kd:=⟨s.kids[j]'(by omega),List.getElem?_eq_getElem _⟩
        have hcall:=Lib.hid (hasChild_any wr (s.id:Int) s.leaf s.label s.text sA skA sn sc skn skc (j:Int) (by omega))
        rw [hyes] at hcall
        have hans:=Lib.hid (show putV t p x = (putV kd (p.drop (q + 1)) x).map fun z=>f (s.withKids (s.kids.set j z)) by rw [hput,putV_some hkd,Option.map_map];rfl)
        have hvw:Hid (∀ W,Below wr.heap.size wr W→NodeV (Old w) W sA sn sc skA skn skc s):=fun W hb=>hv.kept (fun _ h=>h) (fun k hk=>(hb.block k (Nat.lt_of_lt_of_le hk hbel'.out.size)).trans (hbel'.out.block k hk))
        have hwk:=Lib.hid (Nat.le_trans (weigh_kid hkd) hsw)
        have hkd':=Lib.hid hkd
        have hjI:(j:Int) < (skn:Int):=by omega
        have hj0:0 < skn:=by omega
        have hsn:sn≤1000000:=by have:=hf.ats.1;omega
        have hkn:skn≤1000000:=by omega
        have holdw:=Lib.hid (show ∀ (W:World),Below wr.heap.size wr W→∀ k,Old w k→k < W.heap.size from fun W hb k hk=>Nat.lt_of_lt_of_le (Nat.lt_of_lt_of_le hk hbel'.out.size) hb.size)
        clear hput hf hkl hv hX hZ hrow hhole hbel hyes hdrop hkm hknc hwr hi hcs heb hrl hXl hZl hsw hkd
        go_upto_region 8 with (first
          | (go_at_call 81;refine hcall.out.mono ?_;rintro e w1 ⟨rfl,hb1⟩;obtain ⟨d0,d1,d2,d3,d4,d5⟩:=hsix'.out.kept (w':=w1) (hb1.block _ hrl'.out);have hb1':=Lib.hid hb1;clear hb1)
          | (go_at_call 82;refine (owned_any w1 (Old w) s sA skA sn sc skn skc (hvw.out _ hb1'.out) (holdw.out _ hb1'.out) hsn hkn).mono ?_;rintro e w2 ⟨oA,oc,okA,okc,gA,ks,rfl,hO⟩;obtain ⟨g,rfl⟩:=hO.some_ hj0;have hr2:=(hO.bel.block eb (Nat.lt_of_lt_of_le hrl'.out hb1'.out.size)).trans ((hb1'.out.block eb hrl'.out).trans hrow'.out);have ff:∀ o,w2.frozen? ⟨eb,o,none⟩ = false:=(fun o=>frozen_of_row w2 eb o _ _ hr2);obtain ⟨v0,v1,v2,v3,v4,v5⟩:=hsix'.out.kept (w':=w2) ((hO.bel.block eb (Nat.lt_of_lt_of_le hrl'.out hb1'.out.size)).trans (hb1'.out.block eb hrl'.out));have hO':=Lib.hid hO;have hr2':=Lib.hid hr2;clear hO hr2))
        have hin:=six_in (b0:=.int .u64 (s.id:Int)) (b1:=.bool s.leaf) (b2:=.string ⟨s.label.toArray⟩) (b3:=.slice oA sn oc) (b4:=.string ⟨s.text.toArray⟩) (b5:=.slice (some ⟨g,0,none⟩) skn okc) hr2'.out hcs'.out
        have hzz:=six_size (w:=w2) (g:=eb) (e:=eo) (b0:=.int .u64 (s.id:Int)) (b1:=.bool s.leaf) (b2:=.string ⟨s.label.toArray⟩) (b3:=.slice oA sn oc) (b4:=.string ⟨s.text.toArray⟩) (b5:=.slice (some ⟨g,0,none⟩) skn okc)
        have hot:=fun k (hk:k ≠ eb)=>six_other (w:=w2) (g:=eb) (e:=eo) (b0:=.int .u64 (s.id:Int)) (b1:=.bool s.leaf) (b2:=.string ⟨s.label.toArray⟩) (b3:=.slice oA sn oc) (b4:=.string ⟨s.text.toArray⟩) (b5:=.slice (some ⟨g,0,none⟩) skn okc) hk
        have hou:=fun o (ho:o < eo∨eo + 5 < o)=>six_out (b0:=.int .u64 (s.id:Int)) (b1:=.bool s.leaf) (b2:=.string ⟨s.label.toArray⟩) (b3:=.slice oA sn oc) (b4:=.string ⟨s.text.toArray⟩) (b5:=.slice (some ⟨g,0,none⟩) skn okc) hr2'.out ho
        have hbe:=hb1'.out
        have hew:w.heap.size≤eb:=by have:=heb'.out;omega
        have hbw:=hbel'.out.trans (hbe.mono hbel'.out.size)
        have hb3:Below w.heap.size w (six w2 eb eo (.int .u64 (s.id:Int)) (.bool s.leaf) (.string ⟨s.label.toArray⟩) (.slice oA sn oc) (.string ⟨s.text.toArray⟩) (.slice (some ⟨g,0,none⟩) skn okc)):=six_below (hbw.trans (hO'.out.bel.mono hbw.size)) hew
        obtain ⟨w3,hw3⟩:∃ w3,w3 = six w2 eb eo (.int .u64 (s.id:Int)) (.bool s.leaf) (.string ⟨s.label.toArray⟩) (.slice oA sn oc) (.string ⟨s.text.toArray⟩) (.slice (some ⟨g,0,none⟩) skn okc):=⟨_,rfl⟩
        rw [← hw3] at hin hzz hot hou hb3
        unfold six at hw3
        rw [← hw3]
        clear hw3
        obtain ⟨u0,u1,u2,u3,u4,u5⟩:=hin
        have hrw1:=Nat.lt_of_lt_of_le hrl'.out hbe.size
        obtain ⟨g',kv,cur,e1,q1,q2,q3,q4,q5,q6,q7,q8,q9⟩:=hole_step hbw rfl (by have:=hZl'.out;have:=hbe.size;omega) (by have:=heb'.out;omega) (hole_below hhole'.out hrl'.out hbe) hrw1 hew hO'.out (hvw.out _ hbe) hzz hot hou ⟨u0,u1,u2,u3,u4,u5⟩ (show j < skn by omega)
        obtain rfl:g = g':=by injection e1 with e1;injection e1
        obtain rfl:kd = kv.t:=by have:=hkd'.out;rw [q5] at this;injection this with this;exact this.symm
        have hX3:=Lib.hid (show w3.heap[w.heap.size + 1]? = some (.cells (val6 x xA xn xc xkA xkn xkc) 33 (0,0)) from (hot _ (by have:=heb'.out;omega)).trans ((hO'.out.bel.block _ (Nat.lt_of_lt_of_le hXl'.out hbe.size)).trans ((hbe.block _ hXl'.out).trans hX'.out)))
        have hZ3:=Lib.hid (show w3.heap[w.heap.size + 1 + 1]? = some (.cells zero6 33 (0,0)) from (hot _ (by have:=heb'.out;omega)).trans ((hO'.out.bel.block _ (Nat.lt_of_lt_of_le hZl'.out hbe.size)).trans ((hbe.block _ hZl'.out).trans hZ'.out)))
        have hgb:w.heap.size + 3≤g:=by have:=hZl'.out;have:=hbe.size;omega
        have hv7:=Lib.hid (show NodeV (Old w) w kv.aA kv.an kv.ac kv.kA kv.kn kv.kc kv.t from NodeV.kept (T:=Old w) (w:=w1) (fun _ h=>h) (fun k hk=>(hbw.block k hk).symm) _ _ _ _ _ _ _ q7)
        have h3':=Lib.hid q3
        have h6':=Lib.hid q6
        have h8':=Lib.hid q8
        have h9':=Lib.hid q9
        have hb3':=Lib.hid hb3
        clear q3 q4 q5 q6 q7 q8 q9 hzz hot hou hb3 hbe hbw e1 u0 u1 u2 u3 u4 q1 q2 d0 d1 d2 d3 d4 d5 c0 c1 c2 c3 c4 c5 v0 v1 v2 v3 v4 v5 hrw1 ff
        go_wp2_with fail
        go_roundw
        case rel =>
          exact ⟨q + 1,kv.t,kv.aA,kv.kA,kv.an,kv.ac,kv.kn,kv.kc,g,j * 6,_,cur,by omega,by go_num,rfl,hans.out,hwk.out,hv7.out,h6'.out,h8'.out,h9'.out,.inr hgb,h3'.out,hX3.out,hZ3.out,hb3'.out⟩
        case measure=>simp [intOf];omega
    · have h1I:¬ (q:Int) < (pn:Int):=by omega
      have hans:=Lib.hid (show putV t p x = some (f x) by rw [hput,List.drop_of_length_le (by rw [hpl.out];omega)];rfl)
      unfold val6 at hX
      have hcallx:=Lib.hid (owned_any wr (Old w) x xA xkA xn xc xkn xkc (hx'.out.kept (fun _ h=>h) (fun k hk=>hbel.block k hk)) (fun k hk=>Nat.lt_of_lt_of_le hk hbel.size) (by have:=hx'.out.facts.ats.1;have:=weigh_rows x;have:=hbigx'.out;omega) (by have:=hx'.out.facts.kl;have:=weigh_rows x;have:=hbigx'.out;omega))
      have hvx:=Lib.hid (hx'.out.kept (w':=wr) (T':=Old w) (fun _ h=>h) (fun k hk=>hbel.block k hk))
      obtain ⟨x0,x1,x2,x3,x4,x5,-⟩:=six_cells hX
      clear hput hf hkl hv hX hZ hrow hhole hbel hwr hcs heb hrl hXl hZl hsw
      go_upto_region 11 with (go_at_call 82;refine hcallx.out.mono ?_;rintro e w1 ⟨oA,oc,okA,okc,gA,ks,rfl,hO⟩;have hr1:=(hO.bel.block eb hrl'.out).trans hrow'.out;have ff:∀ o,w1.frozen? ⟨eb,o,none⟩ = false:=(fun o=>frozen_of_row w1 eb o _ _ hr1);obtain ⟨v0,v1,v2,v3,v4,v5⟩:=hsix'.out.kept (w':=w1) (hO.bel.block eb hrl'.out);have hO':=Lib.hid hO;have hr1':=Lib.hid hr1;clear hO hr1)
      have hin:=six_in (b0:=.int .u64 (x.id:Int)) (b1:=.bool x.leaf) (b2:=.string ⟨x.label.toArray⟩) (b3:=.slice oA xn oc) (b4:=.string ⟨x.text.toArray⟩) (b5:=.slice okA xkn okc) hr1'.out hcs'.out
      have hzz:=six_size (w:=w1) (g:=eb) (e:=eo) (b0:=.int .u64 (x.id:Int)) (b1:=.bool x.leaf) (b2:=.string ⟨x.label.toArray⟩) (b3:=.slice oA xn oc) (b4:=.string ⟨x.text.toArray⟩) (b5:=.slice okA xkn okc)
      have hot:=fun k (hk:k ≠ eb)=>six_other (w:=w1) (g:=eb) (e:=eo) (b0:=.int .u64 (x.id:Int)) (b1:=.bool x.leaf) (b2:=.string ⟨x.label.toArray⟩) (b3:=.slice oA xn oc) (b4:=.string ⟨x.text.toArray⟩) (b5:=.slice okA xkn okc) hk
      have hou:=fun o (ho:o < eo∨eo + 5 < o)=>six_out (b0:=.int .u64 (x.id:Int)) (b1:=.bool x.leaf) (b2:=.string ⟨x.label.toArray⟩) (b3:=.slice oA xn oc) (b4:=.string ⟨x.text.toArray⟩) (b5:=.slice okA xkn okc) hr1'.out ho
      have hew:w.heap.size≤eb:=by have:=heb'.out;omega
      have hbw:=hbel'.out.trans (hO'.out.bel.mono hbel'.out.size)
      have hb2:Below w.heap.size w (six w1 eb eo (.int .u64 (x.id:Int)) (.bool x.leaf) (.string ⟨x.label.toArray⟩) (.slice oA xn oc) (.string ⟨x.text.toArray⟩) (.slice okA xkn okc)):=six_below hbw hew
      obtain ⟨w2,hw2⟩:∃ w2,w2 = six w1 eb eo (.int .u64 (x.id:Int)) (.bool x.leaf) (.string ⟨x.label.toArray⟩) (.slice oA xn oc) (.string ⟨x.text.toArray⟩) (.slice okA xkn okc):=⟨_,rfl⟩
      rw [← hw2] at hin hzz hot hou hb2
      unfold six at hw2
      rw [← hw2]
      clear hw2
      have hz1:=hO'.out.bel.size
      have hgl:=hrl'.out
      have hN:NodeAt (Ex w.heap.size w2) w2 ⟨eb,eo,none⟩ x:=⟨⟨by show eb < _;omega,by have:=heb'.out;show eb ≠ _;omega⟩,oA,xn,oc,okA,xkn,okc,hin,(hO'.out.node hvx.out (fun k hk=>Nat.lt_of_lt_of_le hk hbel'.out.size)).kept (fun k hk=>by
          have hZ5:=hZl'.out
          rcases hk with hk | hk
          · have:k < w.heap.size:=hk
            exact ⟨by omega,by omega⟩
          · exact ⟨by omega,by omega⟩) (fun k hk=>hot k (by
          rcases hk with hk | hk
          · have:k < w.heap.size:=hk
            omega
          · omega))⟩
      obtain ⟨-,fA,fn,fc,fkA,fkn,fkc,⟨y0,y1,y2,y3,y4,y5⟩,hfv⟩:=hhole'.out w2 x (by omega) (fun k hk hne=>(hot k hne).trans (hO'.out.bel.block k hk)) (fun o ho=>(hou o ho).trans (World.cell?_of_block (a:=⟨eb,o,none⟩) (hO'.out.bel.block eb hgl))) hN
      have y1':w2.cell? ⟨w.heap.size,1,none⟩ = some (.bool (f x).leaf):=y1
      have y2':w2.cell? ⟨w.heap.size,2,none⟩ = some (.string ⟨(f x).label.toArray⟩):=y2
      have y3':w2.cell? ⟨w.heap.size,3,none⟩ = some (.slice fA fn fc):=y3
      have y4':w2.cell? ⟨w.heap.size,4,none⟩ = some (.string ⟨(f x).text.toArray⟩):=y4
      have y5':w2.cell? ⟨w.heap.size,5,none⟩ = some (.slice fkA fkn fkc):=y5
      have R2:=(hot (w.heap.size + 1 + 1) (by have:=heb'.out;omega)).trans ((hO'.out.bel.block _ hZl'.out).trans hZ'.out)
      unfold zero6 at R2
      obtain ⟨d0,d1,d2,d3,d4,d5,df⟩:=six_cells R2
      have R2':=Lib.hid R2
      have hb2':=Lib.hid hb2
      have hfv':=Lib.hid hfv
      clear y1 y2 y3 y4 y5 R2 hb2 hfv hN hin hzz hot hou hbw hz1 hgl hew ff v0 v1 v2 v3 v4 v5
      go_wp2_with fail
      have R9:=set_six (b0:=.int .u64 ((f x).id:Int)) (b1:=.bool (f x).leaf) (b2:=.string ⟨(f x).label.toArray⟩) (b3:=.slice fA fn fc) (b4:=.string ⟨(f x).text.toArray⟩) (b5:=.slice fkA fkn fkc) R2'.out
      have hb9:Below w.heap.size w _:=below_six hb2'.out (b0:=.int .u64 ((f x).id:Int)) (b1:=.bool (f x).leaf) (b2:=.string ⟨(f x).label.toArray⟩) (b3:=.slice fA fn fc) (b4:=.string ⟨(f x).text.toArray⟩) (b5:=.slice fkA fkn fkc) (show w.heap.size≤w.heap.size + 1 + 1 by omega)
      have hN9:NodeV (Old ((((((w2.setCell ⟨w.heap.size + 1 + 1,0,none⟩ (.int .u64 ((f x).id:Int))).setCell ⟨w.heap.size + 1 + 1,1,none⟩ (.bool (f x).leaf)).setCell ⟨w.heap.size + 1 + 1,2,none⟩ (.string ⟨(f x).label.toArray⟩)).setCell ⟨w.heap.size + 1 + 1,3,none⟩ (.slice fA fn fc)).setCell ⟨w.heap.size + 1 + 1,4,none⟩ (.string ⟨(f x).text.toArray⟩)).setCell ⟨w.heap.size + 1 + 1,5,none⟩ (.slice fkA fkn fkc))) ((((((w2.setCell ⟨w.heap.size + 1 + 1,0,none⟩ (.int .u64 ((f x).id:Int))).setCell ⟨w.heap.size + 1 + 1,1,none⟩ (.bool (f x).leaf)).setCell ⟨w.heap.size + 1 + 1,2,none⟩ (.string ⟨(f x).label.toArray⟩)).setCell ⟨w.heap.size + 1 + 1,3,none⟩ (.slice fA fn fc)).setCell ⟨w.heap.size + 1 + 1,4,none⟩ (.string ⟨(f x).text.toArray⟩)).setCell ⟨w.heap.size + 1 + 1,5,none⟩ (.slice fkA fkn fkc)) fA fn fc fkA fkn fkc (f x):=hfv'.out.kept (fun k hk=>by
        show k < _
        simp only [World.size_setCell]
        exact hk.1) (fun k hk=>set_six_other (fun e=>hk.2 (by rw [e])))
      generalize ((((((w2.setCell ⟨w.heap.size + 1 + 1,0,none⟩ (.int .u64 ((f x).id:Int))).setCell ⟨w.heap.size + 1 + 1,1,none⟩ (.bool (f x).leaf)).setCell ⟨w.heap.size + 1 + 1,2,none⟩ (.string ⟨(f x).label.toArray⟩)).setCell ⟨w.heap.size + 1 + 1,3,none⟩ (.slice fA fn fc)).setCell ⟨w.heap.size + 1 + 1,4,none⟩ (.string ⟨(f x).text.toArray⟩)).setCell ⟨w.heap.size + 1 + 1,5,none⟩ (.slice fkA fkn fkc)) = W9 at R9 hb9 hN9 ⊢
      obtain ⟨g0,g1,g2,g3,g4,g5,gf⟩:=six_cells R9
      refine bodyPost_ret (v:=.tuple #[.agg (val6 (f x) fA fn fc fkA fkn fkc),.bool true]) (by simp [results,Try.results138,go_sem,g0,g1,g2,g3,g4,g5,val6]) rfl ?_
      exact ⟨fA,fn,fc,fkA,fkn,fkc,by rw [hans.out];rfl,by rw [hans.out];exact hN9,hb9⟩
end Go.Proofs.Ytmipodnffhngaaa
