/- MgAT: SimJ SimK SimL SimM SimN SimO SimP -/
import Derived.Test.YtmipodnffhngaaaMgAP
import Derived.Test.YtmipodnffhngaaaMgAS
import Derived.Test.YtmipodnffhngaaaMgAQ
import Derived.Test.YtmipodnffhngaaaMgAR
import Derived.Test.YtmipodnffhngaaaMgAL
import Derived.Test.YtmipodnffhngaaaMgAM
set_option linter.all false
namespace Go.Proofs.Ytmipodnffhngaaa.Sim
open Go.RowKit Top
set_option maxRecDepth 20000
set_option linter.unusedVariables false

def opL (x:Ov × OS):List Value:=(opCells x.1 x.2).toList
theorem opL_len (x:Ov × OS):(opL x).length = 11:=rfl
def OwnO (base:Nat) (w:World) (v:Value) (l:List (Ov × OS)):Prop:=w.ownsRow base 26 11 v l.length (l.flatMap opL)
theorem OwnO.nil_ (base:Nat) (w:World):OwnO base w (.slice none 0 0) []:=World.ownsRow_nil w base _ _
theorem OwnO.shape {base:Nat} {w:World} {v:Value} {l:List (Ov × OS)} (h:OwnO base w v l):∃ (A:Option Addr) (n c:Nat),v = .slice A n c∧n = l.length∧n≤c∧c≤maxLen∧(A = none→c = 0) ∧
    ∀ (q:Nat) (x:Ov × OS),l[q]? = some x→∃ g,A = some ⟨g,0,none⟩∧base≤g∧g < w.heap.size∧Elev w ⟨g,q * 11,none⟩ x.1 x.2:=by
  obtain ⟨A,c,rfl,h1,h2,h3,h4⟩:=own_form h
  refine ⟨A,_,c,rfl,rfl,h1,h2,h3,fun q x hx=>?_⟩
  have hq:=(List.getElem?_eq_some_iff.1 hx).1
  obtain ⟨g,rfl,hb,hlt,hc⟩:=h4 (by omega)
  have k:∀ i u,(opL x)[i]? = some u→w.cell? ⟨g,q * 11 + i,none⟩ = some u:=fun i u hi=>hc _ _ (chunk_of opL 11 opL_len l q i x u hx hi)
  exact ⟨g,rfl,hb,hlt,k 0 _ rfl,k 1 _ rfl,k 2 _ rfl,k 3 _ rfl,k 4 _ rfl,k 5 _ rfl,k 6 _ rfl,k 7 _ rfl,k 8 _ rfl,k 9 _ rfl,k 10 _ rfl⟩
theorem OwnO.cut {base:Nat} {w:World} {A:Option Addr} {n c:Nat} {l:List (Ov × OS)} (h:OwnO base w (.slice A n c) l) (k:Nat) (hk:k≤n):OwnO base w (.slice A k c) (l.take k):=by
  obtain ⟨A1,n1,c1,e,hn1,-⟩:=h.shape
  injection e with e1 e2 e3
  subst e1 e2 e3
  have hl:(l.take k).length = k:=by rw [List.length_take];omega
  refine ⟨by rw [chunk_len opL 11 opL_len],?_⟩
  rw [hl,chunk_take opL 11 opL_len]
  rcases h.2 with ⟨e,h0⟩ | ⟨g,cap,cur,e,hb,hg,hnc,hcm,hcs,ht⟩
  · injection e with e1 e2 e3
    subst e1 e3
    exact .inl ⟨by rw [show k = 0 by omega],by omega⟩
  · injection e with e1 e2 e3
    subst e1 e3
    refine .inr ⟨g,c,cur,rfl,hb,hg,by omega,hcm,hcs,?_⟩
    rw [← ht,List.take_take,Nat.min_eq_left (Nat.mul_le_mul_right _ (by omega))]
theorem OwnO.kept {w w':World} {base:Nat} {v:Value} {l:List (Ov × OS)} (h:OwnO base w v l) (hk:∀ k,base≤k→k < w.heap.size→w'.heap[k]? = w.heap[k]?):OwnO base w' v l:=Top.own_kept h hk
theorem OwnO.block {base:Nat} {w:World} {v:Value} {l:List (Ov × OS)} (h:OwnO base w v l) {g:Nat} (hg:v.ownBlock = some g):∃ cs,w.heap[g]? = some (.cells cs 26 (0,0)):=by
  rcases h.2 with ⟨rfl,_⟩ | ⟨g',cap,cur,rfl,hb,hg',_⟩
  · cases hg
  · have e:g' = g:=by simpa [Value.ownBlock] using hg
    subst e
    exact ⟨cur,hg'⟩
theorem own_apart {base:Nat} {w w':World} {e:TypeId} {size n:Nat} {v:Value} {xs:List Value} {row:Option Nat} (h:w.ownsRow base e size v n xs) (he:e ≠ 26) (hrow:∀ g,row = some g→g < w.heap.size→∃ cs,w.heap[g]? = some (.cells cs 26 (0,0))) (hg:w.grownBy w' row):w'.ownsRow base e size v n xs:=by
  refine ⟨h.1,?_⟩
  rcases h.2 with h2 | ⟨g,cap,cur,rfl,hb,hgg,hr⟩
  · exact .inl h2
  · have hlt:=(Array.getElem?_eq_some_iff.1 hgg).1
    refine .inr ⟨g,cap,cur,rfl,hb,?_,hr⟩
    rw [hg.block g hlt ?_]
    · exact hgg
    · intro e1
      obtain ⟨cs,h3⟩:=hrow g e1.symm hlt
      rw [hgg] at h3
      injection h3 with h3
      injection h3 with h4 h5 h6
      exact he h5
theorem _root_.Go.Proofs.Ytmipodnffhngaaa.Top.OwnOp.apart {base:Nat} {w w':World} {o:Ov} {s:OS} {row:Option Nat} (h:OwnOp base w o s) (hrow:∀ g,row = some g→g < w.heap.size→∃ cs,w.heap[g]? = some (.cells cs 26 (0,0))) (hg:w.grownBy w' row):OwnOp base w' o s :=
  ⟨own_apart h.path (by decide) hrow hg,own_apart h.to_ (by decide) hrow hg,own_apart h.pieces (by decide) hrow hg⟩
theorem Try.infoOp:(Try.prog.info? 26).map (fun i=>(i.zero,i.size,i.bytes)) = some (some (.agg #[.int .u8 0,.slice none 0 0,.int .i64 0,.slice none 0 0,.int .u64 0,.bool false,.string ⟨#[]⟩,.string ⟨#[]⟩,.string ⟨#[]⟩,.bool false,.slice none 0 0]),11,160):=by kernel_rfl
theorem wpList_append_op {w:World} {ops:Array Oper} {rest:List Oper} {o:Oper} {a:Act} {Q:Exit→Act→World→Prop} (hgd:o.guard = none) (s x:Operand)
    (ho:o.op = .call { callee:=.builtin .append,args:=#[s,x],argTypes:=#[44,44] })
    (base:Nat) (v:Value) (l:List (Ov × OS)) (hs:a.eval s = v) (hown:OwnO base w v l)
    (y:Ov × OS) (hx:a.eval x = .slice (some ⟨w.heap.size,0,none⟩) 1 1)
    (hlen:l.length≤1000000) (hbase:base≤w.heap.size)
    (h:∀ v' w',OwnO base w' v' (l ++ [y])→(w.alloc (.cells (opCells y.1 y.2) 26)).grownBy w' v.ownBlock→wpList Try.prog ops Q rest (a.put o.dst v') w') :
    wpList Try.prog ops Q (o :: rest) a (w.alloc (.cells (opCells y.1 y.2) 26)):=by
  obtain ⟨i0,hi,hz0,hz1,hz2⟩:=info_parts Try.infoOp
  refine wpList_append_own_at _ hgd s x _ ho base 26 i0 _ 11 160 Try.underlying44 hi hz0 hz1 hz2 rfl (by omega) v l.length (l.flatMap opL) hs (Top.own_kept hown fun k _ hk=>heap_alloc_old _ _ hk) ⟨w.heap.size,0,none⟩ 1 1 (opL y) hx (by rw [opL_len])
      (fun j u hj=>?_) (fun u hu=>?_) (by unfold maxLen;omega) (by omega) (by rw [World.size_alloc];omega) ?_
  · rw [add_zero_off]
    match j,hj with
    | 0,hj=>injection hj with hj;rw [← hj];exact cell_of_row _ _ 0 _ _ _ (heap_alloc_new w _)
    | 1,hj=>injection hj with hj;rw [← hj];exact cell_of_row _ _ 1 _ _ _ (heap_alloc_new w _)
    | 2,hj=>injection hj with hj;rw [← hj];exact cell_of_row _ _ 2 _ _ _ (heap_alloc_new w _)
    | 3,hj=>injection hj with hj;rw [← hj];exact cell_of_row _ _ 3 _ _ _ (heap_alloc_new w _)
    | 4,hj=>injection hj with hj;rw [← hj];exact cell_of_row _ _ 4 _ _ _ (heap_alloc_new w _)
    | 5,hj=>injection hj with hj;rw [← hj];exact cell_of_row _ _ 5 _ _ _ (heap_alloc_new w _)
    | 6,hj=>injection hj with hj;rw [← hj];exact cell_of_row _ _ 6 _ _ _ (heap_alloc_new w _)
    | 7,hj=>injection hj with hj;rw [← hj];exact cell_of_row _ _ 7 _ _ _ (heap_alloc_new w _)
    | 8,hj=>injection hj with hj;rw [← hj];exact cell_of_row _ _ 8 _ _ _ (heap_alloc_new w _)
    | 9,hj=>injection hj with hj;rw [← hj];exact cell_of_row _ _ 9 _ _ _ (heap_alloc_new w _)
    | 10,hj=>injection hj with hj;rw [← hj];exact cell_of_row _ _ 10 _ _ _ (heap_alloc_new w _)
    | j + 11,hj=>simp [opL,opCells] at hj
  · simp only [opL,opCells,List.mem_cons,List.not_mem_nil,or_false] at hu
    rcases hu with rfl | rfl | rfl | rfl | rfl | rfl | rfl | rfl | rfl | rfl | rfl <;> rfl
  · intro v' w' hown' hgrow _ hat
    refine h v' w' ?_ hgrow
    unfold OwnO
    rw [List.length_append,List.flatMap_append]
    simpa using hown'
def behindR:List Ov→Ov→List Ov
  | [],o=>[o]
  | a :: r,o=>match pairV a o with
    | none=>o :: a :: r
    | some []=>r
    | some (x :: _)=>behindR r x
def listR (l:List Ov):List Ov:=l.foldl (fun r o=>if idleV o = true then r else behindR r (bareV o)) []
end Go.Proofs.Ytmipodnffhngaaa.Sim
namespace Go.Proofs.Ytmipodnffhngaaa.Sim
open Go.RowKit Top
set_option maxRecDepth 20000
set_option linter.unusedVariables false

theorem behind_fin {base:Nat} {w wr w':World} {A:Option Addr} {n c k:Nat} {l:List (Ov × OS)} {o1:Ov} {s1:OS} {v':Value} (hown:OwnO base w (.slice A n c) l) (hel:∀ x ∈ l,OwnOp base w x.1 x.2∧OvOk x.1) (hbase:base≤w.heap.size) (hk:k≤n) (ho1:OwnOp base wr o1 s1) (hok1:OvOk o1) (hb1:Below w.heap.size w wr)
    (hown2:OwnO base w' v' (l.take k ++ [(o1,s1)])) (hg:(wr.alloc (.cells (opCells o1 s1) 26)).grownBy w' (Value.slice A k c).ownBlock) :
    ∃ A' n' c',v' = .slice A' n' c'∧OwnO base w' (.slice A' n' c') (l.take k ++ [(o1,s1)])∧(∀ x ∈ l.take k ++ [(o1,s1)],OwnOp base w' x.1 x.2∧OvOk x.1)∧Below base w w':=by
  obtain ⟨A',n',c',rfl,-⟩:=hown2.shape
  obtain ⟨X,hX⟩:∃ X,X = wr.alloc (.cells (opCells o1 s1) 26):=⟨_,rfl⟩
  rw [← hX] at hg
  have hbX:Below w.heap.size w X:=by rw [hX];exact hb1.alloc hb1.size _
  have hwX:∀ k,base≤k→k < wr.heap.size→X.heap[k]? = wr.heap[k]?:=fun k _ hk=>by rw [hX];exact Go.heap_alloc_old _ _ hk
  have hrow:∀ g,(Value.slice A k c).ownBlock = some g→g < X.heap.size→∃ cs,X.heap[g]? = some (.cells cs 26 (0,0)):=fun g h1 _=>by
    have h2:(Value.slice A n c).ownBlock = some g:=by cases A with
      | none=>cases h1
      | some a=>exact h1
    obtain ⟨cs,h3⟩:=hown.block h2
    exact ⟨cs,(hbX.block g (Array.getElem?_eq_some_iff.1 h3).1).trans h3⟩
  refine ⟨A',n',c',rfl,hown2,?_,?_⟩
  · intro x hx
    rcases List.mem_append.1 hx with hx | hx
    · obtain ⟨h1,h2⟩:=hel x (List.mem_of_mem_take hx)
      exact ⟨(h1.kept fun k _ hk=>hbX.block k hk).apart hrow hg,h2⟩
    · simp only [List.mem_cons,List.not_mem_nil,or_false] at hx
      subst hx
      exact ⟨(ho1.kept hwX).apart hrow hg,hok1⟩
  · refine (hbX.mono hbase).grown hg (Nat.le_trans hbase hbX.size) fun g h1=>?_
    rcases hown.2 with ⟨e,_⟩ | ⟨g',cap,cur,e,hb,_⟩
    · injection e with e1 e2 e3
      subst e1
      cases h1
    · injection e with e1 e2 e3
      subst e1
      have e:g' = g:=by simpa [Value.ownBlock] using h1
      omega
set_option maxHeartbeats 4000000 in
theorem behind_any (base:Nat) (w:World) (A:Option Addr) (n c:Nat) (l:List (Ov × OS)) (hown:OwnO base w (.slice A n c) l) (hel:∀ x ∈ l,OwnOp base w x.1 x.2∧OvOk x.1) (o:Ov) (s:OS) (ho:OwnOp base w o s) (hok:OvOk o) (hbase:base≤w.heap.size) (hlen:l.length≤100000)
    (J:List Ov→Ov→Prop) (hJ:∀ row a x,J (row ++ [a]) x→Mild a∧Mild x∧Joins a x∧∀ y r,pairV a x = some (y :: r)→J row y∧OvOk y) (h0:J (l.map Prod.fst) o) :
    Calls Try.prog 94 #[.slice A n c,.agg (opCells o s)] w fun e w'=>∃ A' n' c' l',e = .returned (.slice A' n' c')∧OwnO base w' (.slice A' n' c') l'∧(∀ x ∈ l',OwnOp base w' x.1 x.2∧OvOk x.1)∧(l'.map Prod.fst).reverse = behindR (l.map Prod.fst).reverse o∧Below base w w':=by
  obtain ⟨W1,hW1⟩:∃ W1,W1 = w.alloc (.cells (opCells o s) 26):=⟨_,rfl⟩
  have z1:W1.heap[w.heap.size]? = some (.cells (opCells o s) 26 (0,0)):=by rw [hW1];exact heap_alloc_new w _
  have z4':=Lib.hid (show Below w.heap.size w W1 by rw [hW1];exact (Below.refl _ _).alloc (Nat.le_refl _) _)
  have z5':=Lib.hid (show W1.heap.size = w.heap.size + 1 by rw [hW1];simp)
  obtain ⟨An,nn,cn,e,hn,hnc,hcm,hnil,hat⟩:=hown.shape
  injection e with e1 e2 e3
  subst e1 e2 e3
  have hcmI:(c:Int)≤9223372036854775807:=by unfold maxLen at hcm;omega
  unfold opCells at hW1
  have hown':=Lib.hid hown
  have hel':=Lib.hid hel
  have ho':=Lib.hid ho
  have hok':=Lib.hid hok
  have hbase':=Lib.hid hbase
  have hlen':=Lib.hid hlen
  have hJ':=Lib.hid hJ
  have hn':=Lib.hid hn
  have hat':=Lib.hid hat
  have hcm':=Lib.hid hcm
  obtain ⟨R,hR⟩:∃ R,R = behindR (l.map Prod.fst).reverse o:=⟨_,rfl⟩
  rw [← hR]
  have h0':=Lib.hid h0
  have hR':=Lib.hid hR
  have z1':=Lib.hid z1
  clear hown hel ho hok hbase hlen hJ hn hat h0 hR z1 hcm
  unfold opCells
  go_enter Try.func94,Try.ntmps94
  go_wp2_with fail
  rw [← hW1]
  clear hW1
  go_loopw [0] (fun v0 wr=>∃ (k:Nat) (o1:Ov) (s1:OS),k≤n∧v0 = .slice A k c∧wr.heap[w.heap.size]? = some (.cells (opCells o1 s1) 26 (0,0))∧OwnOp base wr o1 s1∧OvOk o1∧J ((l.map Prod.fst).take k) o1∧R = behindR ((l.map Prod.fst).take k).reverse o1∧Below w.heap.size w wr∧w.heap.size < wr.heap.size) (fun v0 _=>(match v0 with | .slice _ k _=>k | _=>0))
  case atStart =>
    refine ⟨n,o,s,Nat.le_refl _,rfl,z1'.out,ho'.out.kept (fun k hb hk=>z4'.out.block k hk),hok'.out,?_,?_,z4'.out,by have:=z5'.out;omega⟩
    · rw [List.take_of_length_le (by rw [List.length_map,hn'.out];omega)];exact h0'.out
    · rw [List.take_of_length_le (by rw [List.length_map,hn'.out];omega)];exact hR'.out
  case round =>
    obtain ⟨k,p,s1,hk,rfl,hbx,ho1,hok1,hj1,hr1,hb1,hs1⟩:=hrel
    have hbx':=Lib.hid hbx
    have ho1':=Lib.hid ho1
    have hok1':=Lib.hid hok1
    have hj1':=Lib.hid hj1
    have hr1':=Lib.hid hr1
    have hb1':=Lib.hid hb1
    have hk':=Lib.hid hk
    have hcut:=Lib.hid (show ∀ W,Below w.heap.size w W→OwnO base W (.slice A k c) (l.take k) from fun W hb=>(hown'.out.cut k hk).kept fun g _ hg=>hb.block g hg)
    clear hbx ho1 hok1 hj1 hr1 hb1
    obtain ⟨o0,o1,o2,o3,o4,o5,o6,o7,o8,o9,o10⟩:=op_cells hbx'.out
    by_cases hk0:k = 0
    · subst hk0
      go_wp2_with (at_builtin;go_loud (refine wpList_append_op rfl _ (.tmp 37) rfl base (.slice A 0 c) (l.take 0) rfl (hcut.out _ hb1'.out) (p,s1) rfl (by rw [List.length_take];omega) (Nat.le_trans hbase'.out hb1'.out.size) ?_;intro v5 w5 hv5 hg5;have V5:=Lib.hid hv5;have G5:=Lib.hid hg5;clear hv5 hg5 o0 o1 o2 o3 o4 o5 o6 o7 o8 o9 o10))
      go_ret
      obtain ⟨A',n',c',rfl,x1,x2,x3⟩:=behind_fin hown'.out hel'.out hbase'.out hk'.out ho1'.out hok1'.out hb1'.out V5.out G5.out
      exact ⟨A',n',c',rfl,_,x1,fun a b h=>x2 (a,b) h,by rw [hr1'.out];simp [behindR],x3⟩
    · obtain ⟨q,rfl⟩:∃ q,k = q + 1:=⟨k - 1,by omega⟩
      have hqn:q < n:=by omega
      have hqI:(q:Int) < (q:Int) + 1:=by omega
      obtain ⟨x,hx⟩:∃ x,l[q]? = some x:=⟨_,List.getElem?_eq_getElem (by have:=hn'.out;omega)⟩
      obtain ⟨ad,hA,hadlt,hadb,hE⟩:∃ ad,A = some ad∧ad.block < wr.heap.size∧ad.block < w.heap.size∧Elev wr (ad.add (q * 11)) x.1 x.2:=by
        obtain ⟨g,h1,h2,h3,h4⟩:=hat'.out q x hx
        refine ⟨_,h1,Nat.lt_of_lt_of_le h3 hb1'.out.size,h3,?_⟩
        rw [add_zero_off]
        exact h4.kept (hb1'.out.block g h3)
      subst hA
      have htk:(l.map Prod.fst).take (q + 1) = (l.map Prod.fst).take q ++ [x.1]:=by rw [List.take_add_one,List.getElem?_map,hx];rfl
      obtain ⟨hx1,hx2⟩:=hel'.out x (List.mem_of_getElem? hx)
      obtain ⟨j1,j2,j3,j4⟩:=hJ'.out ((l.map Prod.fst).take q) x.1 p (by rw [← htk];exact hj1'.out)
      have hpr:=Lib.hid (fun (W:World) (hb:Below wr.heap.size wr W)=>pair_any W x.1 p x.2 s1 ((hx1.kept fun g _ hg=>(hb1'.out.trans (hb.mono hb1'.out.size)).block g hg).op hx2) ((ho1'.out.kept fun g _ hg=>hb.block g hg).op hok1'.out) j1 j2 j3)
      have hcl:=Lib.hid (fun (W:World) (hb:Below wr.heap.size wr W)=>show W.heap[w.heap.size]? = some (.cells (opCells p s1) 26 (0,0))∧Elev W (ad.add (q * 11)) x.1 x.2 from ⟨(hb.block _ hs1).trans hbx'.out,hE.kept (hb.block _ (by rw [block_add];exact hadlt))⟩)
      have j4':=Lib.hid j4
      have hr2:=hr1'.out
      rw [htk,List.reverse_append,List.reverse_cons,List.reverse_nil,List.nil_append,List.singleton_append] at hr2
      unfold behindR at hr2
      obtain ⟨pv,hpv⟩:∃ pv,pairV x.1 p = pv:=⟨_,rfl⟩
      rw [hpv] at hpr hr2 j4'
      have hr2':=Lib.hid hr2
      have hadb':=Lib.hid hadb
      have htk':=Lib.hid htk
      clear hx1 hx2 j1 j2 j3 j4 hr2 htk hpv hx hadb
      unfold opCells at hpr
      clear hE o0 o1 o2 o3 o4 o5 o6 o7 o8 o9 o10
      go_upto_region 3 with fail
      cases pv with
      | none =>
        rename_i K0 hK0
        refine Top.wp_region_L (fun W=>Below wr.heap.size wr W) 10 rfl ((Below.refl wr.heap.size wr).drew) (fun hHeld=>?_)
        refine Top.wpAnyL_take (i:=0) (oi:={ dst:=some 15,op:=Go.Op.move (Go.Operand.tmp 0),type:=44,pos:="simplify.go:77",after:=#[],guard:=none }) (v:=?_) rfl (by kernel_rfl) (by kernel_rfl) (by kernel_rfl) (by kernel_rfl) (fun _ _ _ h=>h) (Or.inl ⟨by rfl,?_⟩) hHeld ?_
        rotate_left 1
        · intro W hSw;obtain ⟨r1,hel⟩:=hcl.out W hSw;obtain ⟨o0,o1,o2,o3,o4,o5,o6,o7,o8,o9,o10⟩:=op_cells r1;obtain ⟨e0,e1,e2,e3,e4,e5,e6,e7,e8,e9,e10⟩:=hel;go_simp;try with_reducible rfl
        try simp only [Act.put,List.setIfInBounds_toArray,List.set_cons_zero,List.set_cons_succ]
        refine Top.wpAnyL_take (i:=1) (oi:={ dst:=some 16,op:=Go.Op.move (Go.Operand.tmp 5),type:=3,pos:="simplify.go:77",after:=#[],guard:=none }) (v:=?_) rfl (by kernel_rfl) (by kernel_rfl) (by kernel_rfl) (by kernel_rfl) (fun _ _ _ h=>h) (Or.inl ⟨by rfl,?_⟩) hHeld ?_
        rotate_left 1
        · intro W hSw;obtain ⟨r1,hel⟩:=hcl.out W hSw;obtain ⟨o0,o1,o2,o3,o4,o5,o6,o7,o8,o9,o10⟩:=op_cells r1;obtain ⟨e0,e1,e2,e3,e4,e5,e6,e7,e8,e9,e10⟩:=hel;go_simp;try with_reducible rfl
        try simp only [Act.put,List.setIfInBounds_toArray,List.set_cons_zero,List.set_cons_succ]
        refine Top.wpAnyL_take (i:=2) (oi:={ dst:=some 17,op:=Go.Op.indexAddr 44 (Go.Operand.tmp 15) (Go.Operand.tmp 16),type:=0,pos:="simplify.go:77",after:=#[{ on:=0,ground:=Go.Ground.data },{ on:=1,ground:=Go.Ground.data }],guard:=none }) (v:=?_) rfl (by kernel_rfl) (by kernel_rfl) (by kernel_rfl) (by kernel_rfl) (fun _ _ _ h=>h) (Or.inl ⟨by rfl,?_⟩) hHeld ?_
        rotate_left 1
        · intro W hSw;obtain ⟨r1,hel⟩:=hcl.out W hSw;obtain ⟨o0,o1,o2,o3,o4,o5,o6,o7,o8,o9,o10⟩:=op_cells r1;obtain ⟨e0,e1,e2,e3,e4,e5,e6,e7,e8,e9,e10⟩:=hel;go_simp;try with_reducible rfl
        try simp only [Act.put,List.setIfInBounds_toArray,List.set_cons_zero,List.set_cons_succ]
        refine Top.wpAnyL_take (i:=3) (oi:={ dst:=some 18,op:=Go.Op.load 26 (Go.Operand.tmp 17),type:=26,pos:="simplify.go:77",after:=#[{ on:=2,ground:=Go.Ground.data }],guard:=none }) (v:=?_) rfl (by kernel_rfl) (by kernel_rfl) (by kernel_rfl) (by kernel_rfl) (fun _ _ _ h=>h) (Or.inl ⟨by rfl,?_⟩) hHeld ?_
        rotate_left 1
        · intro W hSw;obtain ⟨r1,hel⟩:=hcl.out W hSw;obtain ⟨o0,o1,o2,o3,o4,o5,o6,o7,o8,o9,o10⟩:=op_cells r1;obtain ⟨e0,e1,e2,e3,e4,e5,e6,e7,e8,e9,e10⟩:=hel;go_simp;try with_reducible rfl
        try simp only [Act.put,List.setIfInBounds_toArray,List.set_cons_zero,List.set_cons_succ]
        refine Top.wpAnyL_take (i:=4) (oi:={ dst:=some 19,op:=Go.Op.load 26 (Go.Operand.tmp 3),type:=26,pos:="simplify.go:77",after:=#[],guard:=none }) (v:=?_) rfl (by kernel_rfl) (by kernel_rfl) (by kernel_rfl) (by kernel_rfl) (fun _ _ _ h=>h) (Or.inl ⟨by rfl,?_⟩) hHeld ?_
        rotate_left 1
        · intro W hSw;obtain ⟨r1,hel⟩:=hcl.out W hSw;obtain ⟨o0,o1,o2,o3,o4,o5,o6,o7,o8,o9,o10⟩:=op_cells r1;obtain ⟨e0,e1,e2,e3,e4,e5,e6,e7,e8,e9,e10⟩:=hel;go_simp;try with_reducible rfl
        try simp only [Act.put,List.setIfInBounds_toArray,List.set_cons_zero,List.set_cons_succ]
        refine Top.wpAnyL_one (i:=5) (o:={ dst:=some 20,op:=Go.Op.call { callee:=Go.Callee.value (Go.Operand.func 45),args:=#[Go.Operand.tmp 18,Go.Operand.tmp 19],argTypes:=#[26,26] },type:=63,pos:="simplify.go:77",after:=#[{ on:=3,ground:=Go.Ground.data },{ on:=4,ground:=Go.Ground.data }],guard:=none }) (by kernel_rfl) rfl (by decide) (fun K hK=>?_)
        go_simp
        refine (hpr.out _ hHeld).mono ?_
        rintro e w4 ⟨hb4,rfl⟩
        have B4:=Lib.hid (show Below wr.heap.size wr w4 from hHeld.trans (hb4.mono hHeld.size))
        clear hb4
        go_simp
        refine hK.out _ _ ?_ (fun hNew=>?_)
        · exact B4.out
        clear hK K hHeld
        have hHeld:=hNew
        clear hNew
        try simp only [Act.put,List.setIfInBounds_toArray,List.set_cons_zero,List.set_cons_succ]
        refine Top.wpAnyL_take (i:=6) (oi:={ dst:=some 14,op:=Go.Op.move (Go.Operand.tmp 20),type:=63,pos:="simplify.go:77",after:=#[{ on:=5,ground:=Go.Ground.data }],guard:=none }) (v:=?_) rfl (by kernel_rfl) (by kernel_rfl) (by kernel_rfl) (by kernel_rfl) (fun _ _ _ h=>h) (Or.inl ⟨by rfl,?_⟩) hHeld ?_
        rotate_left 1
        · intro W hSw;obtain ⟨r1,hel⟩:=hcl.out W hSw;obtain ⟨o0,o1,o2,o3,o4,o5,o6,o7,o8,o9,o10⟩:=op_cells r1;obtain ⟨e0,e1,e2,e3,e4,e5,e6,e7,e8,e9,e10⟩:=hel;go_simp;try with_reducible rfl
        try simp only [Act.put,List.setIfInBounds_toArray,List.set_cons_zero,List.set_cons_succ]
        refine Top.wpAnyL_take (i:=7) (oi:={ dst:=some 21,op:=Go.Op.extract (Go.Operand.tmp 14) 0,type:=44,pos:="simplify.go:77",after:=#[{ on:=6,ground:=Go.Ground.data }],guard:=none }) (v:=?_) rfl (by kernel_rfl) (by kernel_rfl) (by kernel_rfl) (by kernel_rfl) (fun _ _ _ h=>h) (Or.inl ⟨by rfl,?_⟩) hHeld ?_
        rotate_left 1
        · intro W hSw;obtain ⟨r1,hel⟩:=hcl.out W hSw;obtain ⟨o0,o1,o2,o3,o4,o5,o6,o7,o8,o9,o10⟩:=op_cells r1;obtain ⟨e0,e1,e2,e3,e4,e5,e6,e7,e8,e9,e10⟩:=hel;go_simp;try with_reducible rfl
        try simp only [Act.put,List.setIfInBounds_toArray,List.set_cons_zero,List.set_cons_succ]
        refine Top.wpAnyL_take (i:=8) (oi:={ dst:=some 22,op:=Go.Op.extract (Go.Operand.tmp 14) 1,type:=4,pos:="simplify.go:77",after:=#[{ on:=6,ground:=Go.Ground.data },{ on:=9,ground:=Go.Ground.gcOnly Go.Departure.lateStores }],guard:=none }) (v:=?_) rfl (by kernel_rfl) (by kernel_rfl) (by kernel_rfl) (by kernel_rfl) (fun _ _ _ h=>h) (Or.inl ⟨by rfl,?_⟩) hHeld ?_
        rotate_left 1
        · intro W hSw;obtain ⟨r1,hel⟩:=hcl.out W hSw;obtain ⟨o0,o1,o2,o3,o4,o5,o6,o7,o8,o9,o10⟩:=op_cells r1;obtain ⟨e0,e1,e2,e3,e4,e5,e6,e7,e8,e9,e10⟩:=hel;go_simp;try with_reducible rfl
        try simp only [Act.put,List.setIfInBounds_toArray,List.set_cons_zero,List.set_cons_succ]
        refine Top.wpAnyL_one (i:=9) (o:={ dst:=some 6,op:=Go.Op.assign (Go.Operand.tmp 21),type:=44,pos:="simplify.go:77",after:=#[{ on:=7,ground:=Go.Ground.data },{ on:=5,ground:=Go.Ground.chain },{ on:=0,ground:=Go.Ground.phase },{ on:=1,ground:=Go.Ground.phase },{ on:=2,ground:=Go.Ground.phase },{ on:=3,ground:=Go.Ground.phase },{ on:=4,ground:=Go.Ground.phase },{ on:=5,ground:=Go.Ground.phase },{ on:=6,ground:=Go.Ground.phase },{ on:=7,ground:=Go.Ground.phase },{ on:=8,ground:=Go.Ground.textOnly Go.Departure.lateStores }],guard:=none }) (by kernel_rfl) rfl (by decide) (fun K hK=>?_)
        go_simp
        refine hK.out _ _ hHeld (fun hNew=>?_)
        clear hK K hHeld
        have hHeld:=hNew
        clear hNew
        try simp only [Act.put,List.setIfInBounds_toArray,List.set_cons_zero,List.set_cons_succ]
        refine Top.wpAnyL_last (o:={ dst:=some 7,op:=Go.Op.assign (Go.Operand.tmp 22),type:=4,pos:="simplify.go:77",after:=#[{ on:=8,ground:=Go.Ground.data },{ on:=9,ground:=Go.Ground.chain },{ on:=0,ground:=Go.Ground.phase },{ on:=1,ground:=Go.Ground.phase },{ on:=2,ground:=Go.Ground.phase },{ on:=3,ground:=Go.Ground.phase },{ on:=4,ground:=Go.Ground.phase },{ on:=5,ground:=Go.Ground.phase },{ on:=6,ground:=Go.Ground.phase },{ on:=7,ground:=Go.Ground.phase },{ on:=8,ground:=Go.Ground.phase },{ on:=9,ground:=Go.Ground.phase }],guard:=none }) (by kernel_rfl) rfl (fun K hK=>?_)
        go_simp
        refine hK _ _ ?_
        clear hK K
        try simp only [Act.put,List.setIfInBounds_toArray,List.set_cons_zero,List.set_cons_succ]
        refine wpAny_done (by kernel_rfl) ?_ _
        refine hK0 _ _ ?_
        clear hK0
        have BZ:=Lib.hid hHeld
        clear hHeld
        obtain ⟨o0,o1,o2,o3,o4,o5,o6,o7,o8,o9,o10⟩:=op_cells (hcl.out _ BZ.out).1
        go_wp2_with (at_builtin;go_loud (refine wpList_append_op rfl _ (.tmp 37) rfl base (.slice (some ad) (q + 1) c) (l.take (q + 1)) rfl (hcut.out _ (hb1'.out.trans (BZ.out.mono hb1'.out.size))) (p,s1) rfl (by rw [List.length_take];have:=hlen'.out;omega) (Nat.le_trans hbase'.out (hb1'.out.trans (BZ.out.mono hb1'.out.size)).size) ?_;intro v5 w5 hv5 hg5;have V5:=Lib.hid hv5;have G5:=Lib.hid hg5;clear hv5 hg5 o0 o1 o2 o3 o4 o5 o6 o7 o8 o9 o10))
        go_ret
        obtain ⟨A',n',c',rfl,x1,x2,x3⟩:=behind_fin hown'.out hel'.out hbase'.out hk'.out (ho1'.out.kept fun g _ hg=>BZ.out.block g hg) hok1'.out (hb1'.out.trans (BZ.out.mono hb1'.out.size)) V5.out G5.out
        exact ⟨A',n',c',rfl,_,x1,fun a b h=>x2 (a,b) h,by rw [hr2'.out,List.map_append,List.reverse_append,List.map_take,htk'.out];simp,x3⟩
      | some rr =>
        cases rr with
        | nil =>
          rename_i K0 hK0
          refine Top.wp_region_L (fun W=>Below wr.heap.size wr W) 10 rfl ((Below.refl wr.heap.size wr).drew) (fun hHeld=>?_)
          refine Top.wpAnyL_take (i:=0) (oi:={ dst:=some 15,op:=Go.Op.move (Go.Operand.tmp 0),type:=44,pos:="simplify.go:77",after:=#[],guard:=none }) (v:=?_) rfl (by kernel_rfl) (by kernel_rfl) (by kernel_rfl) (by kernel_rfl) (fun _ _ _ h=>h) (Or.inl ⟨by rfl,?_⟩) hHeld ?_
          rotate_left 1
          · intro W hSw;obtain ⟨r1,hel⟩:=hcl.out W hSw;obtain ⟨o0,o1,o2,o3,o4,o5,o6,o7,o8,o9,o10⟩:=op_cells r1;obtain ⟨e0,e1,e2,e3,e4,e5,e6,e7,e8,e9,e10⟩:=hel;go_simp;try with_reducible rfl
          try simp only [Act.put,List.setIfInBounds_toArray,List.set_cons_zero,List.set_cons_succ]
          refine Top.wpAnyL_take (i:=1) (oi:={ dst:=some 16,op:=Go.Op.move (Go.Operand.tmp 5),type:=3,pos:="simplify.go:77",after:=#[],guard:=none }) (v:=?_) rfl (by kernel_rfl) (by kernel_rfl) (by kernel_rfl) (by kernel_rfl) (fun _ _ _ h=>h) (Or.inl ⟨by rfl,?_⟩) hHeld ?_
          rotate_left 1
          · intro W hSw;obtain ⟨r1,hel⟩:=hcl.out W hSw;obtain ⟨o0,o1,o2,o3,o4,o5,o6,o7,o8,o9,o10⟩:=op_cells r1;obtain ⟨e0,e1,e2,e3,e4,e5,e6,e7,e8,e9,e10⟩:=hel;go_simp;try with_reducible rfl
          try simp only [Act.put,List.setIfInBounds_toArray,List.set_cons_zero,List.set_cons_succ]
          refine Top.wpAnyL_take (i:=2) (oi:={ dst:=some 17,op:=Go.Op.indexAddr 44 (Go.Operand.tmp 15) (Go.Operand.tmp 16),type:=0,pos:="simplify.go:77",after:=#[{ on:=0,ground:=Go.Ground.data },{ on:=1,ground:=Go.Ground.data }],guard:=none }) (v:=?_) rfl (by kernel_rfl) (by kernel_rfl) (by kernel_rfl) (by kernel_rfl) (fun _ _ _ h=>h) (Or.inl ⟨by rfl,?_⟩) hHeld ?_
          rotate_left 1
          · intro W hSw;obtain ⟨r1,hel⟩:=hcl.out W hSw;obtain ⟨o0,o1,o2,o3,o4,o5,o6,o7,o8,o9,o10⟩:=op_cells r1;obtain ⟨e0,e1,e2,e3,e4,e5,e6,e7,e8,e9,e10⟩:=hel;go_simp;try with_reducible rfl
          try simp only [Act.put,List.setIfInBounds_toArray,List.set_cons_zero,List.set_cons_succ]
          refine Top.wpAnyL_take (i:=3) (oi:={ dst:=some 18,op:=Go.Op.load 26 (Go.Operand.tmp 17),type:=26,pos:="simplify.go:77",after:=#[{ on:=2,ground:=Go.Ground.data }],guard:=none }) (v:=?_) rfl (by kernel_rfl) (by kernel_rfl) (by kernel_rfl) (by kernel_rfl) (fun _ _ _ h=>h) (Or.inl ⟨by rfl,?_⟩) hHeld ?_
          rotate_left 1
          · intro W hSw;obtain ⟨r1,hel⟩:=hcl.out W hSw;obtain ⟨o0,o1,o2,o3,o4,o5,o6,o7,o8,o9,o10⟩:=op_cells r1;obtain ⟨e0,e1,e2,e3,e4,e5,e6,e7,e8,e9,e10⟩:=hel;go_simp;try with_reducible rfl
          try simp only [Act.put,List.setIfInBounds_toArray,List.set_cons_zero,List.set_cons_succ]
          refine Top.wpAnyL_take (i:=4) (oi:={ dst:=some 19,op:=Go.Op.load 26 (Go.Operand.tmp 3),type:=26,pos:="simplify.go:77",after:=#[],guard:=none }) (v:=?_) rfl (by kernel_rfl) (by kernel_rfl) (by kernel_rfl) (by kernel_rfl) (fun _ _ _ h=>h) (Or.inl ⟨by rfl,?_⟩) hHeld ?_
          rotate_left 1
          · intro W hSw;obtain ⟨r1,hel⟩:=hcl.out W hSw;obtain ⟨o0,o1,o2,o3,o4,o5,o6,o7,o8,o9,o10⟩:=op_cells r1;obtain ⟨e0,e1,e2,e3,e4,e5,e6,e7,e8,e9,e10⟩:=hel;go_simp;try with_reducible rfl
          try simp only [Act.put,List.setIfInBounds_toArray,List.set_cons_zero,List.set_cons_succ]
          refine Top.wpAnyL_one (i:=5) (o:={ dst:=some 20,op:=Go.Op.call { callee:=Go.Callee.value (Go.Operand.func 45),args:=#[Go.Operand.tmp 18,Go.Operand.tmp 19],argTypes:=#[26,26] },type:=63,pos:="simplify.go:77",after:=#[{ on:=3,ground:=Go.Ground.data },{ on:=4,ground:=Go.Ground.data }],guard:=none }) (by kernel_rfl) rfl (by decide) (fun K hK=>?_)
          go_simp
          refine (hpr.out _ hHeld).mono ?_
          rintro e w4 ⟨hb4,rfl⟩
          have B4:=Lib.hid (show Below wr.heap.size wr w4 from hHeld.trans (hb4.mono hHeld.size))
          clear hb4
          go_simp
          refine hK.out _ _ ?_ (fun hNew=>?_)
          · exact B4.out
          clear hK K hHeld
          have hHeld:=hNew
          clear hNew
          try simp only [Act.put,List.setIfInBounds_toArray,List.set_cons_zero,List.set_cons_succ]
          refine Top.wpAnyL_take (i:=6) (oi:={ dst:=some 14,op:=Go.Op.move (Go.Operand.tmp 20),type:=63,pos:="simplify.go:77",after:=#[{ on:=5,ground:=Go.Ground.data }],guard:=none }) (v:=?_) rfl (by kernel_rfl) (by kernel_rfl) (by kernel_rfl) (by kernel_rfl) (fun _ _ _ h=>h) (Or.inl ⟨by rfl,?_⟩) hHeld ?_
          rotate_left 1
          · intro W hSw;obtain ⟨r1,hel⟩:=hcl.out W hSw;obtain ⟨o0,o1,o2,o3,o4,o5,o6,o7,o8,o9,o10⟩:=op_cells r1;obtain ⟨e0,e1,e2,e3,e4,e5,e6,e7,e8,e9,e10⟩:=hel;go_simp;try with_reducible rfl
          try simp only [Act.put,List.setIfInBounds_toArray,List.set_cons_zero,List.set_cons_succ]
          refine Top.wpAnyL_take (i:=7) (oi:={ dst:=some 21,op:=Go.Op.extract (Go.Operand.tmp 14) 0,type:=44,pos:="simplify.go:77",after:=#[{ on:=6,ground:=Go.Ground.data }],guard:=none }) (v:=?_) rfl (by kernel_rfl) (by kernel_rfl) (by kernel_rfl) (by kernel_rfl) (fun _ _ _ h=>h) (Or.inl ⟨by rfl,?_⟩) hHeld ?_
          rotate_left 1
          · intro W hSw;obtain ⟨r1,hel⟩:=hcl.out W hSw;obtain ⟨o0,o1,o2,o3,o4,o5,o6,o7,o8,o9,o10⟩:=op_cells r1;obtain ⟨e0,e1,e2,e3,e4,e5,e6,e7,e8,e9,e10⟩:=hel;go_simp;try with_reducible rfl
          try simp only [Act.put,List.setIfInBounds_toArray,List.set_cons_zero,List.set_cons_succ]
          refine Top.wpAnyL_take (i:=8) (oi:={ dst:=some 22,op:=Go.Op.extract (Go.Operand.tmp 14) 1,type:=4,pos:="simplify.go:77",after:=#[{ on:=6,ground:=Go.Ground.data },{ on:=9,ground:=Go.Ground.gcOnly Go.Departure.lateStores }],guard:=none }) (v:=?_) rfl (by kernel_rfl) (by kernel_rfl) (by kernel_rfl) (by kernel_rfl) (fun _ _ _ h=>h) (Or.inl ⟨by rfl,?_⟩) hHeld ?_
          rotate_left 1
          · intro W hSw;obtain ⟨r1,hel⟩:=hcl.out W hSw;obtain ⟨o0,o1,o2,o3,o4,o5,o6,o7,o8,o9,o10⟩:=op_cells r1;obtain ⟨e0,e1,e2,e3,e4,e5,e6,e7,e8,e9,e10⟩:=hel;go_simp;try with_reducible rfl
          try simp only [Act.put,List.setIfInBounds_toArray,List.set_cons_zero,List.set_cons_succ]
          refine Top.wpAnyL_one (i:=9) (o:={ dst:=some 6,op:=Go.Op.assign (Go.Operand.tmp 21),type:=44,pos:="simplify.go:77",after:=#[{ on:=7,ground:=Go.Ground.data },{ on:=5,ground:=Go.Ground.chain },{ on:=0,ground:=Go.Ground.phase },{ on:=1,ground:=Go.Ground.phase },{ on:=2,ground:=Go.Ground.phase },{ on:=3,ground:=Go.Ground.phase },{ on:=4,ground:=Go.Ground.phase },{ on:=5,ground:=Go.Ground.phase },{ on:=6,ground:=Go.Ground.phase },{ on:=7,ground:=Go.Ground.phase },{ on:=8,ground:=Go.Ground.textOnly Go.Departure.lateStores }],guard:=none }) (by kernel_rfl) rfl (by decide) (fun K hK=>?_)
          go_simp
          refine hK.out _ _ hHeld (fun hNew=>?_)
          clear hK K hHeld
          have hHeld:=hNew
          clear hNew
          try simp only [Act.put,List.setIfInBounds_toArray,List.set_cons_zero,List.set_cons_succ]
          refine Top.wpAnyL_last (o:={ dst:=some 7,op:=Go.Op.assign (Go.Operand.tmp 22),type:=4,pos:="simplify.go:77",after:=#[{ on:=8,ground:=Go.Ground.data },{ on:=9,ground:=Go.Ground.chain },{ on:=0,ground:=Go.Ground.phase },{ on:=1,ground:=Go.Ground.phase },{ on:=2,ground:=Go.Ground.phase },{ on:=3,ground:=Go.Ground.phase },{ on:=4,ground:=Go.Ground.phase },{ on:=5,ground:=Go.Ground.phase },{ on:=6,ground:=Go.Ground.phase },{ on:=7,ground:=Go.Ground.phase },{ on:=8,ground:=Go.Ground.phase },{ on:=9,ground:=Go.Ground.phase }],guard:=none }) (by kernel_rfl) rfl (fun K hK=>?_)
          go_simp
          refine hK _ _ ?_
          clear hK K
          try simp only [Act.put,List.setIfInBounds_toArray,List.set_cons_zero,List.set_cons_succ]
          refine wpAny_done (by kernel_rfl) ?_ _
          refine hK0 _ _ ?_
          clear hK0
          have BZ:=Lib.hid hHeld
          clear hHeld
          go_wp2_with fail
          go_ret
          have hb4:=hb1'.out.trans (BZ.out.mono hb1'.out.size)
          refine ⟨_,_,_,rfl,l.take q,(hown'.out.cut q (by omega)).kept fun g _ hg=>hb4.block g hg,fun y1 y2 hy=>?_,?_,hb4.mono hbase'.out⟩
          · obtain ⟨h1,h2⟩:=hel'.out (y1,y2) (List.mem_of_mem_take hy)
            exact ⟨h1.kept fun g _ hg=>hb4.block g hg,h2⟩
          · rw [hr2'.out,List.map_take]
        | cons y r =>
          rename_i K0 hK0
          refine Top.wp_region_L (fun W=>Below wr.heap.size wr W) 10 rfl ((Below.refl wr.heap.size wr).drew) (fun hHeld=>?_)
          refine Top.wpAnyL_take (i:=0) (oi:={ dst:=some 15,op:=Go.Op.move (Go.Operand.tmp 0),type:=44,pos:="simplify.go:77",after:=#[],guard:=none }) (v:=?_) rfl (by kernel_rfl) (by kernel_rfl) (by kernel_rfl) (by kernel_rfl) (fun _ _ _ h=>h) (Or.inl ⟨by rfl,?_⟩) hHeld ?_
          rotate_left 1
          · intro W hSw;obtain ⟨r1,hel⟩:=hcl.out W hSw;obtain ⟨o0,o1,o2,o3,o4,o5,o6,o7,o8,o9,o10⟩:=op_cells r1;obtain ⟨e0,e1,e2,e3,e4,e5,e6,e7,e8,e9,e10⟩:=hel;go_simp;try with_reducible rfl
          try simp only [Act.put,List.setIfInBounds_toArray,List.set_cons_zero,List.set_cons_succ]
          refine Top.wpAnyL_take (i:=1) (oi:={ dst:=some 16,op:=Go.Op.move (Go.Operand.tmp 5),type:=3,pos:="simplify.go:77",after:=#[],guard:=none }) (v:=?_) rfl (by kernel_rfl) (by kernel_rfl) (by kernel_rfl) (by kernel_rfl) (fun _ _ _ h=>h) (Or.inl ⟨by rfl,?_⟩) hHeld ?_
          rotate_left 1
          · intro W hSw;obtain ⟨r1,hel⟩:=hcl.out W hSw;obtain ⟨o0,o1,o2,o3,o4,o5,o6,o7,o8,o9,o10⟩:=op_cells r1;obtain ⟨e0,e1,e2,e3,e4,e5,e6,e7,e8,e9,e10⟩:=hel;go_simp;try with_reducible rfl
          try simp only [Act.put,List.setIfInBounds_toArray,List.set_cons_zero,List.set_cons_succ]
          refine Top.wpAnyL_take (i:=2) (oi:={ dst:=some 17,op:=Go.Op.indexAddr 44 (Go.Operand.tmp 15) (Go.Operand.tmp 16),type:=0,pos:="simplify.go:77",after:=#[{ on:=0,ground:=Go.Ground.data },{ on:=1,ground:=Go.Ground.data }],guard:=none }) (v:=?_) rfl (by kernel_rfl) (by kernel_rfl) (by kernel_rfl) (by kernel_rfl) (fun _ _ _ h=>h) (Or.inl ⟨by rfl,?_⟩) hHeld ?_
          rotate_left 1
          · intro W hSw;obtain ⟨r1,hel⟩:=hcl.out W hSw;obtain ⟨o0,o1,o2,o3,o4,o5,o6,o7,o8,o9,o10⟩:=op_cells r1;obtain ⟨e0,e1,e2,e3,e4,e5,e6,e7,e8,e9,e10⟩:=hel;go_simp;try with_reducible rfl
          try simp only [Act.put,List.setIfInBounds_toArray,List.set_cons_zero,List.set_cons_succ]
          refine Top.wpAnyL_take (i:=3) (oi:={ dst:=some 18,op:=Go.Op.load 26 (Go.Operand.tmp 17),type:=26,pos:="simplify.go:77",after:=#[{ on:=2,ground:=Go.Ground.data }],guard:=none }) (v:=?_) rfl (by kernel_rfl) (by kernel_rfl) (by kernel_rfl) (by kernel_rfl) (fun _ _ _ h=>h) (Or.inl ⟨by rfl,?_⟩) hHeld ?_
          rotate_left 1
          · intro W hSw;obtain ⟨r1,hel⟩:=hcl.out W hSw;obtain ⟨o0,o1,o2,o3,o4,o5,o6,o7,o8,o9,o10⟩:=op_cells r1;obtain ⟨e0,e1,e2,e3,e4,e5,e6,e7,e8,e9,e10⟩:=hel;go_simp;try with_reducible rfl
          try simp only [Act.put,List.setIfInBounds_toArray,List.set_cons_zero,List.set_cons_succ]
          refine Top.wpAnyL_take (i:=4) (oi:={ dst:=some 19,op:=Go.Op.load 26 (Go.Operand.tmp 3),type:=26,pos:="simplify.go:77",after:=#[],guard:=none }) (v:=?_) rfl (by kernel_rfl) (by kernel_rfl) (by kernel_rfl) (by kernel_rfl) (fun _ _ _ h=>h) (Or.inl ⟨by rfl,?_⟩) hHeld ?_
          rotate_left 1
          · intro W hSw;obtain ⟨r1,hel⟩:=hcl.out W hSw;obtain ⟨o0,o1,o2,o3,o4,o5,o6,o7,o8,o9,o10⟩:=op_cells r1;obtain ⟨e0,e1,e2,e3,e4,e5,e6,e7,e8,e9,e10⟩:=hel;go_simp;try with_reducible rfl
          try simp only [Act.put,List.setIfInBounds_toArray,List.set_cons_zero,List.set_cons_succ]
          refine Top.wpAnyL_one (i:=5) (o:={ dst:=some 20,op:=Go.Op.call { callee:=Go.Callee.value (Go.Operand.func 45),args:=#[Go.Operand.tmp 18,Go.Operand.tmp 19],argTypes:=#[26,26] },type:=63,pos:="simplify.go:77",after:=#[{ on:=3,ground:=Go.Ground.data },{ on:=4,ground:=Go.Ground.data }],guard:=none }) (by kernel_rfl) rfl (by decide) (fun K hK=>?_)
          go_simp
          refine (hpr.out _ hHeld).mono ?_
          rintro e w4 ⟨hb4,g2,s2,rfl,hg2,hy2,ho2⟩
          have B4:=Lib.hid (show Below wr.heap.size wr w4 from hHeld.trans (hb4.mono hHeld.size))
          have Y2:=Lib.hid hy2
          have O2:=Lib.hid (ho2.mono hHeld.size)
          have G2:=Lib.hid (Nat.le_trans hHeld.size hg2)
          clear hy2 ho2 hg2
          clear hb4
          go_simp
          refine hK.out _ _ ?_ (fun hNew=>?_)
          · exact B4.out
          clear hK K hHeld
          have hHeld:=hNew
          clear hNew
          try simp only [Act.put,List.setIfInBounds_toArray,List.set_cons_zero,List.set_cons_succ]
          refine Top.wpAnyL_take (i:=6) (oi:={ dst:=some 14,op:=Go.Op.move (Go.Operand.tmp 20),type:=63,pos:="simplify.go:77",after:=#[{ on:=5,ground:=Go.Ground.data }],guard:=none }) (v:=?_) rfl (by kernel_rfl) (by kernel_rfl) (by kernel_rfl) (by kernel_rfl) (fun _ _ _ h=>h) (Or.inl ⟨by rfl,?_⟩) hHeld ?_
          rotate_left 1
          · intro W hSw;obtain ⟨r1,hel⟩:=hcl.out W hSw;obtain ⟨o0,o1,o2,o3,o4,o5,o6,o7,o8,o9,o10⟩:=op_cells r1;obtain ⟨e0,e1,e2,e3,e4,e5,e6,e7,e8,e9,e10⟩:=hel;go_simp;try with_reducible rfl
          try simp only [Act.put,List.setIfInBounds_toArray,List.set_cons_zero,List.set_cons_succ]
          refine Top.wpAnyL_take (i:=7) (oi:={ dst:=some 21,op:=Go.Op.extract (Go.Operand.tmp 14) 0,type:=44,pos:="simplify.go:77",after:=#[{ on:=6,ground:=Go.Ground.data }],guard:=none }) (v:=?_) rfl (by kernel_rfl) (by kernel_rfl) (by kernel_rfl) (by kernel_rfl) (fun _ _ _ h=>h) (Or.inl ⟨by rfl,?_⟩) hHeld ?_
          rotate_left 1
          · intro W hSw;obtain ⟨r1,hel⟩:=hcl.out W hSw;obtain ⟨o0,o1,o2,o3,o4,o5,o6,o7,o8,o9,o10⟩:=op_cells r1;obtain ⟨e0,e1,e2,e3,e4,e5,e6,e7,e8,e9,e10⟩:=hel;go_simp;try with_reducible rfl
          try simp only [Act.put,List.setIfInBounds_toArray,List.set_cons_zero,List.set_cons_succ]
          refine Top.wpAnyL_take (i:=8) (oi:={ dst:=some 22,op:=Go.Op.extract (Go.Operand.tmp 14) 1,type:=4,pos:="simplify.go:77",after:=#[{ on:=6,ground:=Go.Ground.data },{ on:=9,ground:=Go.Ground.gcOnly Go.Departure.lateStores }],guard:=none }) (v:=?_) rfl (by kernel_rfl) (by kernel_rfl) (by kernel_rfl) (by kernel_rfl) (fun _ _ _ h=>h) (Or.inl ⟨by rfl,?_⟩) hHeld ?_
          rotate_left 1
          · intro W hSw;obtain ⟨r1,hel⟩:=hcl.out W hSw;obtain ⟨o0,o1,o2,o3,o4,o5,o6,o7,o8,o9,o10⟩:=op_cells r1;obtain ⟨e0,e1,e2,e3,e4,e5,e6,e7,e8,e9,e10⟩:=hel;go_simp;try with_reducible rfl
          try simp only [Act.put,List.setIfInBounds_toArray,List.set_cons_zero,List.set_cons_succ]
          refine Top.wpAnyL_one (i:=9) (o:={ dst:=some 6,op:=Go.Op.assign (Go.Operand.tmp 21),type:=44,pos:="simplify.go:77",after:=#[{ on:=7,ground:=Go.Ground.data },{ on:=5,ground:=Go.Ground.chain },{ on:=0,ground:=Go.Ground.phase },{ on:=1,ground:=Go.Ground.phase },{ on:=2,ground:=Go.Ground.phase },{ on:=3,ground:=Go.Ground.phase },{ on:=4,ground:=Go.Ground.phase },{ on:=5,ground:=Go.Ground.phase },{ on:=6,ground:=Go.Ground.phase },{ on:=7,ground:=Go.Ground.phase },{ on:=8,ground:=Go.Ground.textOnly Go.Departure.lateStores }],guard:=none }) (by kernel_rfl) rfl (by decide) (fun K hK=>?_)
          go_simp
          refine hK.out _ _ hHeld (fun hNew=>?_)
          clear hK K hHeld
          have hHeld:=hNew
          clear hNew
          try simp only [Act.put,List.setIfInBounds_toArray,List.set_cons_zero,List.set_cons_succ]
          refine Top.wpAnyL_last (o:={ dst:=some 7,op:=Go.Op.assign (Go.Operand.tmp 22),type:=4,pos:="simplify.go:77",after:=#[{ on:=8,ground:=Go.Ground.data },{ on:=9,ground:=Go.Ground.chain },{ on:=0,ground:=Go.Ground.phase },{ on:=1,ground:=Go.Ground.phase },{ on:=2,ground:=Go.Ground.phase },{ on:=3,ground:=Go.Ground.phase },{ on:=4,ground:=Go.Ground.phase },{ on:=5,ground:=Go.Ground.phase },{ on:=6,ground:=Go.Ground.phase },{ on:=7,ground:=Go.Ground.phase },{ on:=8,ground:=Go.Ground.phase },{ on:=9,ground:=Go.Ground.phase }],guard:=none }) (by kernel_rfl) rfl (fun K hK=>?_)
          go_simp
          refine hK _ _ ?_
          clear hK K
          try simp only [Act.put,List.setIfInBounds_toArray,List.set_cons_zero,List.set_cons_succ]
          refine wpAny_done (by kernel_rfl) ?_ _
          refine hK0 _ _ ?_
          clear hK0
          have BZ:=Lib.hid hHeld
          clear hHeld
          have r1:=(hcl.out _ BZ.out).1
          unfold opCells at r1
          obtain ⟨o0,o1,o2,o3,o4,o5,o6,o7,o8,o9,o10,of⟩:=eleven_cells r1
          obtain ⟨e0,e1,e2,e3,e4,e5,e6,e7,e8,e9,e10⟩:=op_cells Y2.out
          have g2lt:g2 < w4.heap.size:=(Array.getElem?_eq_some_iff.1 Y2.out).1
          have w4lt:w.heap.size < w4.heap.size:=(Array.getElem?_eq_some_iff.1 r1).1
          have r1':=Lib.hid r1
          clear r1
          go_wp2_with fail
          obtain ⟨Xa,hXa,xra,hxw,hxz,hxk⟩:=end_op (o:=y) (s:=s2) (w:=w) (r:=w.heap.size) (Nat.le_refl _) (hb1'.out.trans (BZ.out.mono hb1'.out.size)) r1'.out
          rw [← hXa]
          clear hXa
          go_roundw
          case rel =>
            exact ⟨q,y,s2,by omega,rfl,xra,(O2.out.kept fun g hg _=>hxk g (by omega)).mono (Nat.le_trans hbase'.out hb1'.out.size),(j4'.out y r rfl).2,(j4'.out y r rfl).1,hr2'.out,hxw,by omega⟩
          case measure=>simp
end Go.Proofs.Ytmipodnffhngaaa.Sim
namespace Go.Proofs.Ytmipodnffhngaaa.Sim
open Go.RowKit Top
set_option maxRecDepth 20000
set_option linter.unusedVariables false

theorem listR_snoc (l:List Ov) (o:Ov):listR (l ++ [o]) = if idleV o = true then listR l else behindR (listR l) (bareV o):=by
  unfold listR
  rw [List.foldl_append]
  rfl
theorem behindR_len:∀ (r:List Ov) (o:Ov),(behindR r o).length≤r.length + 1
  | [],o=>by simp [behindR]
  | a :: r,o=>by
    unfold behindR
    split
    · simp
    · simp;omega
    · rename_i x _ _
      have:=behindR_len r x
      simp;omega
set_option maxHeartbeats 4000000 in
theorem list_any (w:World) (A:Option Addr) (n c:Nat) (l:List (Ov × OS)) (h:OpsAt w A n l) (hn:n≤1000) (hf:∀ x ∈ l,FewO x.1∧Mild x.1)
    (J:List Ov→Ov→Prop) (hJ:∀ row a x,J (row ++ [a]) x→Mild a∧Mild x∧Joins a x∧∀ y r,pairV a x = some (y :: r)→J row y∧OvOk y) (h0:∀ q o,(l.map Prod.fst)[q]? = some o→idleV o = false→J (listR ((l.map Prod.fst).take q)).reverse (bareV o)) :
    Calls Try.prog 49 #[.slice A n c] w fun e w'=>∃ A' n' c' l',e = .returned (.slice A' n' c')∧OwnO w.heap.size w' (.slice A' n' c') l'∧(∀ x ∈ l',OwnOp w.heap.size w' x.1 x.2∧OvOk x.1)∧(l'.map Prod.fst).reverse = listR (l.map Prod.fst)∧Below w.heap.size w w':=by
  have h':=Lib.hid h
  have hlen:=Lib.hid h.1
  have hf':=Lib.hid hf
  have hJ':=Lib.hid hJ
  have h0':=Lib.hid h0
  clear h hf hJ h0
  obtain ⟨R,hR⟩:∃ R,R = listR (l.map Prod.fst):=⟨_,rfl⟩
  rw [← hR]
  have hR':=Lib.hid hR
  clear hR
  go_enter Try.func49,Try.ntmps49
  go_wp2_with fail
  go_loopw [3,8] (fun v3 v8 wr=>∃ (q:Nat) (A1:Option Addr) (n1 c1:Nat) (rl:List (Ov × OS)),q≤n∧v8 = .int .i64 (q:Int)∧v3 = .slice A1 n1 c1∧OwnO w.heap.size wr (.slice A1 n1 c1) rl∧(∀ x ∈ rl,OwnOp w.heap.size wr x.1 x.2∧OvOk x.1)∧(rl.map Prod.fst).reverse = listR ((l.map Prod.fst).take q)∧rl.length≤q∧Below w.heap.size w wr) (fun _ v8 _=>n - (intOf v8).toNat)
  case atStart=>exact ⟨0,none,0,0,[],Nat.zero_le _,rfl,rfl,OwnO.nil_ _ _,by simp,rfl,Nat.le_refl _,Below.refl _ _⟩
  case round =>
    obtain ⟨q,A1,n1,c1,rl,hq,rfl,rfl,hrl,hre,hrv,hrn,hb⟩:=hrel
    have hrl':=Lib.hid hrl
    have hre':=Lib.hid hre
    have hrv':=Lib.hid hrv
    have hrn':=Lib.hid hrn
    have hb':=Lib.hid hb
    clear hrl hre hrv hrn hb
    by_cases h1:q < n
    · have h1I:(q:Int) < (n:Int):=by omega
      obtain ⟨ad,o,s,hA,hoq,hlt,hraw,hel⟩:=(h'.out.below hb'.out).at_ h1
      subst hA
      obtain ⟨e0,e1,e2,e3,e4,e5,e6,e7,e8,e9,e10⟩:=hel
      obtain ⟨Wx,hWx⟩:∃ X,X = wr.alloc (.cells (opCells o s) 26):=⟨_,rfl⟩
      have hxr:=Lib.hid (show Wx.heap[wr.heap.size]? = some (.cells (opCells o s) 26 (0,0)) by rw [hWx];exact heap_alloc_new wr _)
      have hxs:=Lib.hid (show Wx.heap.size = wr.heap.size + 1 by rw [hWx];simp)
      have hxb:=Lib.hid (show Below wr.heap.size wr Wx by rw [hWx];exact (Below.refl _ _).alloc (Nat.le_refl _) _)
      obtain ⟨hfo,hmi⟩:=hf'.out _ (List.mem_of_getElem? hoq)
      have hin:=Lib.hid (fun (W:World) (hw:Below wr.heap.size wr W)=>(hraw.below hw).op hfo.path hfo.to_ hfo.pieces)
      have hid':=Lib.hid (idle_any Wx o s (hin.out Wx hxb.out) hmi)
      have hba:=Lib.hid (fun (W:World) (hw:Below wr.heap.size wr W)=>bare_any W o s (hin.out W hw))
      have hok':=Lib.hid (op_ok (hin.out Wx hxb.out))
      have hq1:(l.map Prod.fst)[q]? = some o:=by rw [List.getElem?_map,hoq];rfl
      have hsn:=Lib.hid (show listR ((l.map Prod.fst).take (q + 1)) = if idleV o = true then listR ((l.map Prod.fst).take q) else behindR (listR ((l.map Prod.fst).take q)) (bareV o) by rw [List.take_add_one,hq1];exact listR_snoc _ _)
      have hq1':=Lib.hid hq1
      obtain ⟨id,hid2⟩:∃ b,idleV o = b:=⟨_,rfl⟩
      rw [hid2] at hid' hsn
      have hid2':=Lib.hid hid2
      unfold opCells at hWx hid' hba
      clear hlt hraw hoq hfo hmi hq1 hid2
      cases id with
      | true =>
        go_wp2_with (go_at_call 42;go_loud (rw [← hWx];refine hid'.out.mono ?_;rintro e w2 ⟨rfl,hb2⟩;have B2:=Lib.hid (hxb.out.trans (hb2.mono hxb.out.size));clear hb2 e0 e1 e2 e3 e4 e5 e6 e7 e8 e9 e10))
        go_roundw
        case rel =>
          have hb2:=hb'.out.trans (B2.out.mono hb'.out.size)
          refine ⟨q + 1,A1,n1,c1,rl,by omega,by go_num,rfl,hrl'.out.kept fun g _ hg=>B2.out.block g hg,fun x hx=>⟨(hre'.out x hx).1.kept fun g _ hg=>B2.out.block g hg,(hre'.out x hx).2⟩,?_,by have:=hrn'.out;omega,hb2⟩
          rw [hsn.out,hrv'.out];simp
        case measure=>simp [intOf];omega
      | false =>
        go_wp2_with (first
          | (go_at_call 42;go_loud (rw [← hWx];refine hid'.out.mono ?_;rintro e w2 ⟨rfl,hb2⟩;have B2:=Lib.hid (hxb.out.trans (hb2.mono hxb.out.size));have y2:=(hb2.block wr.heap.size (by have:=hxs.out;omega)).trans hxr.out;clear hb2 e0 e1 e2 e3 e4 e5 e6 e7 e8 e9 e10;obtain ⟨o0,o1,o2,o3,o4,o5,o6,o7,o8,o9,o10⟩:=op_cells y2;clear y2))
          | (go_at_call 28;go_loud (refine (hba.out w2 B2.out).mono ?_;rintro e w3 ⟨s3,rfl,ho3,hb3⟩;have O3:=Lib.hid (ho3.mono B2.out.size);have B3:=Lib.hid (B2.out.trans (hb3.mono B2.out.size));clear ho3 hb3 o0 o1 o2 o3 o4 o5 o6 o7 o8 o9 o10))
          | (go_at_call 94;go_loud (refine (behind_any w.heap.size w3 A1 n1 c1 rl (hrl'.out.kept fun g _ hg=>B3.out.block g hg) (fun x hx=>⟨(hre'.out x hx).1.kept fun g _ hg=>B3.out.block g hg,(hre'.out x hx).2⟩) (bareV o) s3 (O3.out.mono hb'.out.size) hok'.out.bare (Nat.le_trans hb'.out.size B3.out.size) (by have:=hrn'.out;omega) J hJ'.out (by have h5:=h0'.out q o hq1'.out hid2'.out;rw [← hrv'.out,List.reverse_reverse] at h5;exact h5)).mono ?_;rintro e w4 ⟨A4,n4,c4,l4,rfl,hv4,he4,hr4,hb4⟩;have V4:=Lib.hid hv4;have E4:=Lib.hid he4;have R4:=Lib.hid hr4;have B4:=Lib.hid hb4;clear hv4 he4 hr4 hb4)))
        go_roundw
        case rel =>
          have hb3:=hb'.out.trans (B3.out.mono hb'.out.size)
          refine ⟨q + 1,A4,n4,c4,l4,by omega,by go_num,rfl,V4.out,E4.out,?_,?_,hb3.trans B4.out⟩
          · rw [hsn.out,if_neg (by simp),R4.out,hrv'.out]
          · have h5:=congrArg List.length R4.out
            have h6:=behindR_len (rl.map Prod.fst).reverse (bareV o)
            have:=hrn'.out
            simp only [List.length_reverse,List.length_map] at h5 h6
            omega
        case measure=>simp [intOf];omega
    · have h1I:¬ (q:Int) < (n:Int):=by omega
      go_wp2_with fail
      go_ret
      refine ⟨A1,n1,c1,rfl,rl,hrl'.out,fun a b h=>hre'.out (a,b) h,?_,hb'.out⟩
      rw [hrv'.out,hR'.out,List.take_of_length_le (by rw [List.length_map,hlen.out];omega)]
end Go.Proofs.Ytmipodnffhngaaa.Sim
namespace Go.Proofs.Ytmipodnffhngaaa.Sim
open Go.RowKit Top
set_option maxRecDepth 20000
set_option linter.unusedVariables false

structure Calm (o:Ov):Prop where
  kind:o.kind ≠ 6
  ok:OvOk o
  mild:Mild o
theorem mild_bare {o:Ov} (h:o.kind ≠ 6):Mild (bareV o):=by
  unfold Mild bareV
  simp only [if_neg h]
  decide
theorem Calm.bare {o:Ov} (h:Calm o):Calm (bareV o):=⟨h.kind,h.ok.bare,mild_bare h.kind⟩
theorem calm_pair {a x y:Ov} {r:List Ov} (ha:Calm a) (hx:Calm x) (h:pairV a x = some (y :: r)):Calm y:=by
  unfold pairV at h
  split at h
  · split at h
    · injection h with h;cases h
    · split at h
      · injection h with h
        injection h with h
        subst h
        have k:OvOk { a with label:=x.label }:=⟨ha.ok.kind,ha.ok.at_,ha.ok.id,hx.ok.label,ha.ok.key,ha.ok.value,ha.ok.pfew,ha.ok.tfew,ha.ok.qfew,ha.ok.pfit,ha.ok.tfit,ha.ok.pieces⟩
        exact ⟨ha.kind,k.bare,mild_bare (o:={ a with label:=x.label }) ha.kind⟩
      · split at h
        · injection h with h
          injection h with h
          subst h
          exact hx.bare
        · split at h
          · split at h
            · injection h with h
              injection h with h
              subst h
              exact hx.bare
            · cases h
          · split at h
            · rename_i h6
              exact absurd h6.1 ha.kind
            · cases h
  · cases h
theorem calm_behind:∀ (r:List Ov) (o:Ov),(∀ x ∈ r,Calm x)→Calm o→∀ x ∈ behindR r o,Calm x
  | [],o,_,ho,x,hx=>by
    simp [behindR] at hx
    subst hx
    exact ho
  | a :: r,o,hr,ho,x,hx=>by
    unfold behindR at hx
    split at hx
    · rcases List.mem_cons.1 hx with rfl | hx
      · exact ho
      · exact hr x hx
    · exact hr x (List.mem_cons_of_mem _ hx)
    · rename_i y _ hp
      exact calm_behind r y (fun z hz=>hr z (List.mem_cons_of_mem _ hz)) (calm_pair (hr a (List.mem_cons_self ..)) ho hp) x hx
theorem calm_fold:∀ (l acc:List Ov),(∀ x ∈ acc,Calm x)→(∀ x ∈ l,Calm x)→∀ x ∈ l.foldl (fun r o=>if idleV o = true then r else behindR r (bareV o)) acc,Calm x
  | [],acc,ha,_,x,hx=>ha x hx
  | o :: l,acc,ha,hl,x,hx=>by
    rw [List.foldl_cons] at hx
    refine calm_fold l _ ?_ (fun y hy=>hl y (List.mem_cons_of_mem _ hy)) x hx
    split
    · exact ha
    · exact calm_behind acc _ ha (hl o (List.mem_cons_self ..)).bare
def CalmJ (row:List Ov) (o:Ov):Prop:=(∀ x ∈ row,Calm x)∧Calm o
theorem lit_list (W:World) (A:Option Addr) (n c:Nat) (l:List (Ov × OS)) (h:OpsAt W A n l) (hn:n≤1000) (hc:∀ x ∈ l,FewO x.1∧Calm x.1) (r:List Ov) (hr:listR (l.map Prod.fst) = r.reverse) :
    Calls Try.prog 49 #[.slice A n c] W fun e w'=>∃ A' c',e = .returned (.slice A' r.length c')∧r.length≤c'∧c'≤maxLen∧Below W.heap.size W w'∧∀ q x,r[q]? = some x→∃ g s,A' = some ⟨g,0,none⟩∧g < w'.heap.size∧Elev w' ⟨g,q * 11,none⟩ x s:=by
  refine (list_any W A n c l h hn (fun x hx=>⟨(hc x hx).1,(hc x hx).2.mild⟩) CalmJ ?_ ?_).mono ?_
  · rintro row a x ⟨h1,h2⟩
    have ha:=h1 a (by simp)
    exact ⟨ha.mild,h2.mild,fun h6=>absurd h6 ha.kind,fun y r hp=>⟨⟨fun z hz=>h1 z (by simp [hz]),calm_pair ha h2 hp⟩,(calm_pair ha h2 hp).ok⟩⟩
  · intro q o ho hi
    have hl:∀ x ∈ l.map Prod.fst,Calm x:=fun x hx=>by
      obtain ⟨y,hy,rfl⟩:=List.mem_map.1 hx
      exact (hc y hy).2
    refine ⟨fun x hx=>?_,(hl o (List.mem_of_getElem? ho)).bare⟩
    rw [List.mem_reverse] at hx
    exact calm_fold _ [] (by simp) (fun y hy=>hl y (List.mem_of_mem_take hy)) x hx
  · rintro e w' ⟨A',n',c',l',rfl,hv,-,hrv,hb⟩
    have hm:l'.map Prod.fst = r:=by rw [← List.reverse_inj,hrv,hr]
    obtain ⟨A1,n1,c1,e,hn1,hnc,hcm,-,hat⟩:=hv.shape
    injection e with e1 e2 e3
    subst e1 e2 e3
    have hlen:n' = r.length:=by rw [hn1,← hm,List.length_map]
    subst hlen
    refine ⟨A',c',rfl,hnc,hcm,hb,fun q x hx=>?_⟩
    rw [← hm,List.getElem?_map] at hx
    cases hq:l'[q]? with
    | none=>rw [hq] at hx;cases hx
    | some y =>
      rw [hq] at hx
      injection hx with hx
      subst hx
      obtain ⟨g,h1,h2,h3,h4⟩:=hat q y hq
      exact ⟨g,y.2,h1,h3,h4⟩
theorem calm_lit {o:Ov} {W:World} {s:OS} (h:OpIn W o s) (h6:(o.kind != 6 && decide (costV o≤1000) && decide (P5.totP (pcs o.pieces)≤100000) && decide (o.path.length≤4) && decide (o.to_.length≤4) && decide (o.pieces.length≤4)) = true:=by decide):FewO o∧Calm o:=by
  simp only [Bool.and_eq_true,decide_eq_true_eq,bne_iff_ne] at h6
  obtain ⟨⟨⟨⟨⟨k1,k2⟩,k3⟩,k4⟩,k5⟩,k6⟩:=h6
  exact ⟨⟨k2,by omega,by omega,by omega⟩,k1,op_ok h,k3⟩
def ra:Ov:=⟨5,[0],0,[],0,false,[97],[],[],false,[]⟩
def rb:Ov:=⟨5,[0],0,[],0,false,[98],[],[],false,[]⟩
def ia:Ov:=⟨1,[],1,[],0,false,[],[],[],false,[]⟩
def ib:Ov:=⟨5,[1],0,[],0,false,[120],[],[],false,[]⟩
def ic:Ov:=⟨4,[1],0,[],0,false,[],[107],[49],false,[]⟩
def id_:Ov:=⟨4,[1],0,[],0,false,[],[107],[50],false,[]⟩
def ma:Ov:=⟨3,[0],1,[],0,false,[],[],[],false,[]⟩
def na:Ov:=⟨1,[],0,[],0,false,[],[],[],false,[]⟩
def nb:Ov:=⟨2,[0],0,[],0,false,[],[],[],false,[]⟩
def ed:Ov:=⟨6,[],0,[],0,false,[],[],[],false,[]⟩
theorem val1:listR [ra,rb] = [rb].reverse:=by kernel_rfl
theorem val2:listR [ia,ib,ic,id_] = [{ ia with label:=[120] },id_].reverse:=by kernel_rfl
theorem val3:listR [ma] = [].reverse:=by kernel_rfl
theorem val4:listR [na,nb,nb] = [nb].reverse:=by kernel_rfl
theorem val5:idleV ed = true:=by kernel_rfl
end Go.Proofs.Ytmipodnffhngaaa.Sim
namespace Go.Proofs.Ytmipodnffhngaaa.Sim
open Go.RowKit Top
set_option maxRecDepth 20000
set_option linter.unusedVariables false

theorem ops_lit {w:World} {g n:Nat} {l:List (Ov × OS)} (h:w.heap[g]? = some (.cells (l.flatMap opL).toArray 26 (0,0))) (hn:l.length = n) (hr:∀ x ∈ l,OpRaw w x.1 x.2):OpsAt w (some ⟨g,0,none⟩) n l:=by
  refine ⟨hn,fun q x hx=>⟨hr x (List.mem_of_getElem? hx),_,rfl,(Array.getElem?_eq_some_iff.1 h).1,elev_of fun j v hj=>?_⟩⟩
  rw [add_zero_off]
  have hjl:(opL x)[j]? = some v:=by unfold opL;rw [Array.getElem?_toList];exact hj
  have h2:=chunk_of opL 11 opL_len l q j x v hx hjl
  have h3:(⟨g,q * 11,none⟩:Addr).add j = ⟨g,q * 11 + j,none⟩:=by unfold Addr.add;split <;> simp_all
  rw [h3,cell_of_row _ _ _ _ _ _ h,List.getElem?_toArray]
  exact h2
theorem four_new (w:World) (o1 o2 o3 o4:Obj):(((((w.alloc o1).alloc o2).alloc o3).alloc o4).heap[w.heap.size]? = some o1)∧(((((w.alloc o1).alloc o2).alloc o3).alloc o4).heap[w.heap.size + 1]? = some o2)∧(((((w.alloc o1).alloc o2).alloc o3).alloc o4).heap[w.heap.size + 1 + 1]? = some o3)∧(((((w.alloc o1).alloc o2).alloc o3).alloc o4).heap[w.heap.size + 1 + 1 + 1]? = some o4)∧Below w.heap.size w ((((w.alloc o1).alloc o2).alloc o3).alloc o4)∧((((w.alloc o1).alloc o2).alloc o3).alloc o4).heap.size = w.heap.size + 1 + 1 + 1 + 1:=by
  obtain ⟨h1,h2,h3,h4,h5⟩:=Top.three_new w o1 o2 o3
  have h6:=heap_alloc_new (((w.alloc o1).alloc o2).alloc o3) o4
  rw [h5] at h6
  exact ⟨(Go.heap_alloc_old _ _ (by omega)).trans h1,(Go.heap_alloc_old _ _ (by omega)).trans h2,(Go.heap_alloc_old _ _ (by omega)).trans h3,h6,h4.alloc (by omega) _,by rw [World.size_alloc,h5]⟩
theorem w1 (W:World):Calls Try.prog 49 #[.slice (some ⟨W.heap.size + 1 + 1,0,none⟩) 2 2] (((W.alloc (.cells #[.int .i64 0] 3)).alloc (.cells #[.int .i64 0] 3)).alloc (.cells ([(ra,⟨some ⟨W.heap.size,0,none⟩,1,1,none,0,0,none,0,0⟩),(rb,⟨some ⟨W.heap.size + 1,0,none⟩,1,1,none,0,0,none,0,0⟩)].flatMap opL).toArray 26)) fun e w'=>∃ g c,e = .returned (.slice (some ⟨g,0,none⟩) 1 c)∧1≤c∧c≤maxLen∧Below W.heap.size W w'∧g < w'.heap.size∧w'.cell? ⟨g,6,none⟩ = some (.string ⟨#[98]⟩):=by
  obtain ⟨n0,n1,n2,hb,hz⟩:=Top.three_new W (.cells #[.int .i64 0] 3) (.cells #[.int .i64 0] 3) (.cells ([(ra,⟨some ⟨W.heap.size,0,none⟩,1,1,none,0,0,none,0,0⟩),(rb,⟨some ⟨W.heap.size + 1,0,none⟩,1,1,none,0,0,none,0,0⟩)].flatMap opL).toArray 26)
  obtain ⟨Y,hY⟩:∃ Y,Y = (((W.alloc (.cells #[.int .i64 0] 3)).alloc (.cells #[.int .i64 0] 3)).alloc (.cells ([(ra,⟨some ⟨W.heap.size,0,none⟩,1,1,none,0,0,none,0,0⟩),(rb,⟨some ⟨W.heap.size + 1,0,none⟩,1,1,none,0,0,none,0,0⟩)].flatMap opL).toArray 26)):=⟨_,rfl⟩
  rw [← hY] at n0 n1 n2 hb hz ⊢
  clear hY
  have k0:OpIn Y ra ⟨some ⟨W.heap.size,0,none⟩,1,1,none,0,0,none,0,0⟩:=op_lit (hp:=its_lit (xs:=[0]) n0) (hp3:=fun e=>by cases e) (ht:=Its.none_ _) (ht3:=fun _=>rfl) (hq:=pcs_none _) (hq3:=fun _=>rfl) (f1:=fit_lit) (f2:=fit_lit)
  have k1:OpIn Y rb ⟨some ⟨W.heap.size + 1,0,none⟩,1,1,none,0,0,none,0,0⟩:=op_lit (hp:=its_lit (xs:=[0]) n1) (hp3:=fun e=>by cases e) (ht:=Its.none_ _) (ht3:=fun _=>rfl) (hq:=pcs_none _) (hq3:=fun _=>rfl) (f1:=fit_lit) (f2:=fit_lit)
  have hops:OpsAt Y (some ⟨W.heap.size + 1 + 1,0,none⟩) 2 [(ra,⟨some ⟨W.heap.size,0,none⟩,1,1,none,0,0,none,0,0⟩),(rb,⟨some ⟨W.heap.size + 1,0,none⟩,1,1,none,0,0,none,0,0⟩)]:=ops_lit n2 rfl fun x hx=>by
    simp only [List.mem_cons,List.not_mem_nil,or_false] at hx
    rcases hx with rfl | rfl
    · exact Top.OpIn.raw k0
    · exact Top.OpIn.raw k1
  have hcalm:∀ x ∈ ([(ra,⟨some ⟨W.heap.size,0,none⟩,1,1,none,0,0,none,0,0⟩),(rb,⟨some ⟨W.heap.size + 1,0,none⟩,1,1,none,0,0,none,0,0⟩)]:List (Ov × OS)),FewO x.1∧Calm x.1:=fun x hx=>by
    simp only [List.mem_cons,List.not_mem_nil,or_false] at hx
    rcases hx with rfl | rfl
    · exact calm_lit (o:=ra) k0
    · exact calm_lit (o:=rb) k1
  refine (lit_list Y _ 2 2 _ hops (by omega) hcalm [rb] val1).mono ?_
  rintro e w' ⟨A',c',rfl,h1,h2,h3,h4⟩
  obtain ⟨g,s,rfl,k4,k5⟩:=h4 0 _ rfl
  exact ⟨g,c',rfl,h1,h2,hb.trans (h3.mono (by omega)),k4,k5.2.2.2.2.2.2.1⟩
theorem w2 (W:World):Calls Try.prog 49 #[.slice (some ⟨W.heap.size + 1 + 1 + 1,0,none⟩) 4 4] ((((W.alloc (.cells #[.int .i64 1] 3)).alloc (.cells #[.int .i64 1] 3)).alloc (.cells #[.int .i64 1] 3)).alloc (.cells ([(ia,⟨none,0,0,none,0,0,none,0,0⟩),(ib,⟨some ⟨W.heap.size,0,none⟩,1,1,none,0,0,none,0,0⟩),(ic,⟨some ⟨W.heap.size + 1,0,none⟩,1,1,none,0,0,none,0,0⟩),(id_,⟨some ⟨W.heap.size + 1 + 1,0,none⟩,1,1,none,0,0,none,0,0⟩)].flatMap opL).toArray 26)) fun e w'=>∃ g c,e = .returned (.slice (some ⟨g,0,none⟩) 2 c)∧2≤c∧c≤maxLen∧Below W.heap.size W w'∧g < w'.heap.size∧w'.cell? ⟨g,6,none⟩ = some (.string ⟨#[120]⟩)∧w'.cell? ⟨g,19,none⟩ = some (.string ⟨#[50]⟩):=by
  obtain ⟨n0,n1,n2,n3,hb,hz⟩:=four_new W (.cells #[.int .i64 1] 3) (.cells #[.int .i64 1] 3) (.cells #[.int .i64 1] 3) (.cells ([(ia,⟨none,0,0,none,0,0,none,0,0⟩),(ib,⟨some ⟨W.heap.size,0,none⟩,1,1,none,0,0,none,0,0⟩),(ic,⟨some ⟨W.heap.size + 1,0,none⟩,1,1,none,0,0,none,0,0⟩),(id_,⟨some ⟨W.heap.size + 1 + 1,0,none⟩,1,1,none,0,0,none,0,0⟩)].flatMap opL).toArray 26)
  obtain ⟨Y,hY⟩:∃ Y,Y = ((((W.alloc (.cells #[.int .i64 1] 3)).alloc (.cells #[.int .i64 1] 3)).alloc (.cells #[.int .i64 1] 3)).alloc (.cells ([(ia,⟨none,0,0,none,0,0,none,0,0⟩),(ib,⟨some ⟨W.heap.size,0,none⟩,1,1,none,0,0,none,0,0⟩),(ic,⟨some ⟨W.heap.size + 1,0,none⟩,1,1,none,0,0,none,0,0⟩),(id_,⟨some ⟨W.heap.size + 1 + 1,0,none⟩,1,1,none,0,0,none,0,0⟩)].flatMap opL).toArray 26)):=⟨_,rfl⟩
  rw [← hY] at n0 n1 n2 n3 hb hz ⊢
  clear hY
  have k0:OpIn Y ia ⟨none,0,0,none,0,0,none,0,0⟩:=op_lit (hp:=Its.none_ _) (hp3:=fun _=>rfl) (ht:=Its.none_ _) (ht3:=fun _=>rfl) (hq:=pcs_none _) (hq3:=fun _=>rfl) (f1:=fit_lit) (f2:=fit_lit)
  have k1:OpIn Y ib ⟨some ⟨W.heap.size,0,none⟩,1,1,none,0,0,none,0,0⟩:=op_lit (hp:=its_lit (xs:=[1]) n0) (hp3:=fun e=>by cases e) (ht:=Its.none_ _) (ht3:=fun _=>rfl) (hq:=pcs_none _) (hq3:=fun _=>rfl) (f1:=fit_lit) (f2:=fit_lit)
  have k2:OpIn Y ic ⟨some ⟨W.heap.size + 1,0,none⟩,1,1,none,0,0,none,0,0⟩:=op_lit (hp:=its_lit (xs:=[1]) n1) (hp3:=fun e=>by cases e) (ht:=Its.none_ _) (ht3:=fun _=>rfl) (hq:=pcs_none _) (hq3:=fun _=>rfl) (f1:=fit_lit) (f2:=fit_lit)
  have k3:OpIn Y id_ ⟨some ⟨W.heap.size + 1 + 1,0,none⟩,1,1,none,0,0,none,0,0⟩:=op_lit (hp:=its_lit (xs:=[1]) n2) (hp3:=fun e=>by cases e) (ht:=Its.none_ _) (ht3:=fun _=>rfl) (hq:=pcs_none _) (hq3:=fun _=>rfl) (f1:=fit_lit) (f2:=fit_lit)
  have hops:OpsAt Y (some ⟨W.heap.size + 1 + 1 + 1,0,none⟩) 4 [(ia,⟨none,0,0,none,0,0,none,0,0⟩),(ib,⟨some ⟨W.heap.size,0,none⟩,1,1,none,0,0,none,0,0⟩),(ic,⟨some ⟨W.heap.size + 1,0,none⟩,1,1,none,0,0,none,0,0⟩),(id_,⟨some ⟨W.heap.size + 1 + 1,0,none⟩,1,1,none,0,0,none,0,0⟩)]:=ops_lit n3 rfl fun x hx=>by
    simp only [List.mem_cons,List.not_mem_nil,or_false] at hx
    rcases hx with rfl | rfl | rfl | rfl
    · exact Top.OpIn.raw k0
    · exact Top.OpIn.raw k1
    · exact Top.OpIn.raw k2
    · exact Top.OpIn.raw k3
  have hcalm:∀ x ∈ ([(ia,⟨none,0,0,none,0,0,none,0,0⟩),(ib,⟨some ⟨W.heap.size,0,none⟩,1,1,none,0,0,none,0,0⟩),(ic,⟨some ⟨W.heap.size + 1,0,none⟩,1,1,none,0,0,none,0,0⟩),(id_,⟨some ⟨W.heap.size + 1 + 1,0,none⟩,1,1,none,0,0,none,0,0⟩)]:List (Ov × OS)),FewO x.1∧Calm x.1:=fun x hx=>by
    simp only [List.mem_cons,List.not_mem_nil,or_false] at hx
    rcases hx with rfl | rfl | rfl | rfl
    · exact calm_lit (o:=ia) k0
    · exact calm_lit (o:=ib) k1
    · exact calm_lit (o:=ic) k2
    · exact calm_lit (o:=id_) k3
  refine (lit_list Y _ 4 4 _ hops (by omega) hcalm [{ ia with label:=[120] },id_] val2).mono ?_
  rintro e w' ⟨A',c',rfl,h1,h2,h3,h4⟩
  obtain ⟨g,s,rfl,k4,k5⟩:=h4 0 _ rfl
  obtain ⟨g2,s2,e2,k6,k7⟩:=h4 1 _ rfl
  injection e2 with e2
  injection e2 with e2
  subst e2
  exact ⟨g,c',rfl,h1,h2,hb.trans (h3.mono (by omega)),k4,k5.2.2.2.2.2.2.1,k7.2.2.2.2.2.2.2.2.1⟩
theorem w3 (W:World):Calls Try.prog 49 #[.slice (some ⟨W.heap.size + 1,0,none⟩) 1 1] ((W.alloc (.cells #[.int .i64 0] 3)).alloc (.cells ([(ma,⟨some ⟨W.heap.size,0,none⟩,1,1,none,0,0,none,0,0⟩)].flatMap opL).toArray 26)) fun e w'=>∃ A c,e = .returned (.slice A 0 c)∧c≤maxLen∧Below W.heap.size W w':=by
  obtain ⟨n0,n1,hb,hz⟩:=Top.two_new W (.cells #[.int .i64 0] 3) (.cells ([(ma,⟨some ⟨W.heap.size,0,none⟩,1,1,none,0,0,none,0,0⟩)].flatMap opL).toArray 26)
  obtain ⟨Y,hY⟩:∃ Y,Y = ((W.alloc (.cells #[.int .i64 0] 3)).alloc (.cells ([(ma,⟨some ⟨W.heap.size,0,none⟩,1,1,none,0,0,none,0,0⟩)].flatMap opL).toArray 26)):=⟨_,rfl⟩
  rw [← hY] at n0 n1 hb hz ⊢
  clear hY
  have k0:OpIn Y ma ⟨some ⟨W.heap.size,0,none⟩,1,1,none,0,0,none,0,0⟩:=op_lit (hp:=its_lit (xs:=[0]) n0) (hp3:=fun e=>by cases e) (ht:=Its.none_ _) (ht3:=fun _=>rfl) (hq:=pcs_none _) (hq3:=fun _=>rfl) (f1:=fit_lit) (f2:=fit_lit)
  have hops:OpsAt Y (some ⟨W.heap.size + 1,0,none⟩) 1 [(ma,⟨some ⟨W.heap.size,0,none⟩,1,1,none,0,0,none,0,0⟩)]:=ops_lit n1 rfl fun x hx=>by
    simp only [List.mem_cons,List.not_mem_nil,or_false] at hx
    subst hx
    exact Top.OpIn.raw k0
  have hcalm:∀ x ∈ ([(ma,⟨some ⟨W.heap.size,0,none⟩,1,1,none,0,0,none,0,0⟩)]:List (Ov × OS)),FewO x.1∧Calm x.1:=fun x hx=>by
    simp only [List.mem_cons,List.not_mem_nil,or_false] at hx
    subst hx
    exact calm_lit (o:=ma) k0
  refine (lit_list Y _ 1 1 _ hops (by omega) hcalm [] val3).mono ?_
  rintro e w' ⟨A',c',rfl,h1,h2,h3,h4⟩
  exact ⟨A',c',rfl,h2,hb.trans (h3.mono (by omega))⟩
theorem w4 (W:World):Calls Try.prog 49 #[.slice (some ⟨W.heap.size + 1 + 1,0,none⟩) 3 3] (((W.alloc (.cells #[.int .i64 0] 3)).alloc (.cells #[.int .i64 0] 3)).alloc (.cells ([(na,⟨none,0,0,none,0,0,none,0,0⟩),(nb,⟨some ⟨W.heap.size,0,none⟩,1,1,none,0,0,none,0,0⟩),(nb,⟨some ⟨W.heap.size + 1,0,none⟩,1,1,none,0,0,none,0,0⟩)].flatMap opL).toArray 26)) fun e w'=>∃ g c,e = .returned (.slice (some ⟨g,0,none⟩) 1 c)∧1≤c∧c≤maxLen∧Below W.heap.size W w'∧g < w'.heap.size∧w'.cell? ⟨g,0,none⟩ = some (.int .u8 2):=by
  obtain ⟨n0,n1,n2,hb,hz⟩:=Top.three_new W (.cells #[.int .i64 0] 3) (.cells #[.int .i64 0] 3) (.cells ([(na,⟨none,0,0,none,0,0,none,0,0⟩),(nb,⟨some ⟨W.heap.size,0,none⟩,1,1,none,0,0,none,0,0⟩),(nb,⟨some ⟨W.heap.size + 1,0,none⟩,1,1,none,0,0,none,0,0⟩)].flatMap opL).toArray 26)
  obtain ⟨Y,hY⟩:∃ Y,Y = (((W.alloc (.cells #[.int .i64 0] 3)).alloc (.cells #[.int .i64 0] 3)).alloc (.cells ([(na,⟨none,0,0,none,0,0,none,0,0⟩),(nb,⟨some ⟨W.heap.size,0,none⟩,1,1,none,0,0,none,0,0⟩),(nb,⟨some ⟨W.heap.size + 1,0,none⟩,1,1,none,0,0,none,0,0⟩)].flatMap opL).toArray 26)):=⟨_,rfl⟩
  rw [← hY] at n0 n1 n2 hb hz ⊢
  clear hY
  have k0:OpIn Y na ⟨none,0,0,none,0,0,none,0,0⟩:=op_lit (hp:=Its.none_ _) (hp3:=fun _=>rfl) (ht:=Its.none_ _) (ht3:=fun _=>rfl) (hq:=pcs_none _) (hq3:=fun _=>rfl) (f1:=fit_lit) (f2:=fit_lit)
  have k1:OpIn Y nb ⟨some ⟨W.heap.size,0,none⟩,1,1,none,0,0,none,0,0⟩:=op_lit (hp:=its_lit (xs:=[0]) n0) (hp3:=fun e=>by cases e) (ht:=Its.none_ _) (ht3:=fun _=>rfl) (hq:=pcs_none _) (hq3:=fun _=>rfl) (f1:=fit_lit) (f2:=fit_lit)
  have k2:OpIn Y nb ⟨some ⟨W.heap.size + 1,0,none⟩,1,1,none,0,0,none,0,0⟩:=op_lit (hp:=its_lit (xs:=[0]) n1) (hp3:=fun e=>by cases e) (ht:=Its.none_ _) (ht3:=fun _=>rfl) (hq:=pcs_none _) (hq3:=fun _=>rfl) (f1:=fit_lit) (f2:=fit_lit)
  have hops:OpsAt Y (some ⟨W.heap.size + 1 + 1,0,none⟩) 3 [(na,⟨none,0,0,none,0,0,none,0,0⟩),(nb,⟨some ⟨W.heap.size,0,none⟩,1,1,none,0,0,none,0,0⟩),(nb,⟨some ⟨W.heap.size + 1,0,none⟩,1,1,none,0,0,none,0,0⟩)]:=ops_lit n2 rfl fun x hx=>by
    simp only [List.mem_cons,List.not_mem_nil,or_false] at hx
    rcases hx with rfl | rfl | rfl
    · exact Top.OpIn.raw k0
    · exact Top.OpIn.raw k1
    · exact Top.OpIn.raw k2
  have hcalm:∀ x ∈ ([(na,⟨none,0,0,none,0,0,none,0,0⟩),(nb,⟨some ⟨W.heap.size,0,none⟩,1,1,none,0,0,none,0,0⟩),(nb,⟨some ⟨W.heap.size + 1,0,none⟩,1,1,none,0,0,none,0,0⟩)]:List (Ov × OS)),FewO x.1∧Calm x.1:=fun x hx=>by
    simp only [List.mem_cons,List.not_mem_nil,or_false] at hx
    rcases hx with rfl | rfl | rfl
    · exact calm_lit (o:=na) k0
    · exact calm_lit (o:=nb) k1
    · exact calm_lit (o:=nb) k2
  refine (lit_list Y _ 3 3 _ hops (by omega) hcalm [nb] val4).mono ?_
  rintro e w' ⟨A',c',rfl,h1,h2,h3,h4⟩
  obtain ⟨g,s,rfl,k4,k5⟩:=h4 0 _ rfl
  exact ⟨g,c',rfl,h1,h2,hb.trans (h3.mono (by omega)),k4,k5.1⟩
theorem w5 (W:World):Calls Try.prog 42 #[.agg #[.int .u8 6,.slice none 0 0,.int .i64 0,.slice none 0 0,.int .u64 0,.bool false,.string ⟨#[]⟩,.string ⟨#[]⟩,.string ⟨#[]⟩,.bool false,.slice none 0 0]] W fun e w'=>e = .returned (.bool true)∧Below W.heap.size W w':=by
  have k:OpIn W ed ⟨none,0,0,none,0,0,none,0,0⟩:=op_lit (hp:=Its.none_ _) (hp3:=fun _=>rfl) (ht:=Its.none_ _) (ht3:=fun _=>rfl) (hq:=pcs_none _) (hq3:=fun _=>rfl) (f1:=fit_lit) (f2:=fit_lit)
  have h:=idle_any W ed _ k (by unfold Mild;decide)
  rw [val5] at h
  exact h
end Go.Proofs.Ytmipodnffhngaaa.Sim
namespace Go.Proofs.Ytmipodnffhngaaa.Sim
open Go.RowKit Top
set_option maxRecDepth 20000
set_option linter.unusedVariables false

theorem cell_keep {w w':World} (h:Below w.heap.size w w') {g i:Nat} (hg:g < w.heap.size) {v:Value} (hc:w.cell? ⟨g,i,none⟩ = some v):w'.cell? ⟨g,i,none⟩ = some v :=
  (World.cell?_of_block (w:=w) (w':=w') (a:=⟨g,i,none⟩) (h.block g hg)).trans hc
set_option maxHeartbeats 8000000 in
theorem works_any (w:World):Calls Try.prog 44 #[] w fun e w'=>e = .returned (.bool true)∧Below w.heap.size w w':=by
  go_enter Try.func44,Try.ntmps44
  go_upto_region 2 with (go_at_call 49;go_loud (refine (w1 w).mono ?_;rintro e x1 ⟨g1,c1,rfl,h11,h12,h3,h4,h5⟩;have B1:=Lib.hid h3;have G1:=Lib.hid h4;have L1:=Lib.hid h5;clear h3 h4 h5))
  go_upto_region 3 with (go_at_call 49;go_loud (refine (w2 x1).mono ?_;rintro e x2 ⟨g2,c2,rfl,h21,h22,h3,h4,h5,h6⟩;have B2:=Lib.hid h3;have G2:=Lib.hid h4;have L2:=Lib.hid h5;have M2:=Lib.hid h6;clear h3 h4 h5 h6))
  go_upto_region 4 with (go_at_call 49;go_loud (refine (w3 x2).mono ?_;rintro e x3 ⟨A3,c3,rfl,h32,h3⟩;have B3:=Lib.hid h3;clear h3))
  go_upto_region 5 with (go_at_call 49;go_loud (refine (w4 x3).mono ?_;rintro e x4 ⟨g4,c4,rfl,h41,h42,h3,h4,h5⟩;have B4:=Lib.hid h3;have G4:=Lib.hid h4;have L4:=Lib.hid h5;clear h3 h4 h5))
  have b23:=B2.out.trans ((B3.out.trans (B4.out.mono B3.out.size)).mono B2.out.size)
  have b34:=B3.out.trans (B4.out.mono B3.out.size)
  have f1:=cell_keep b23 G1.out L1.out
  have f2:=cell_keep b34 G2.out L2.out
  have f3:=cell_keep b34 G2.out M2.out
  have f4:=L4.out
  have G:=Lib.hid (B1.out.trans (b23.mono B1.out.size))
  have hid5:=Lib.hid (w5 x4)
  clear b23 b34
  go_wp2_with (go_at_call 42;go_loud (refine hid5.out.mono ?_;rintro e x5 ⟨rfl,h3⟩;have B5:=Lib.hid (G.out.trans (h3.mono G.out.size));clear h3))
  go_ret
  exact ⟨rfl,B5.out⟩
end Go.Proofs.Ytmipodnffhngaaa.Sim
namespace Go.Proofs.Ytmipodnffhngaaa.Sim
open Go.RowKit Top
set_option maxRecDepth 20000
set_option linter.unusedVariables false

theorem tot_costs:∀ l:List P5.IP,P5.totP (pcs l) = P5.costs l
  | []=>rfl
  | x :: r=>by
    have ih:=tot_costs r
    rw [show pcs (x :: r) = [⟨x.keep.toNat,x.drop.toNat,x.put⟩] ++ pcs r from rfl,P5.totP_append,P5.totP_one,ih]
    show _ = P5.costI x + P5.costs r
    unfold P5.costI
    have h1:(max 0 x.keep).toNat = x.keep.toNat:=by omega
    have h2:(max 0 x.drop).toNat = x.drop.toNat:=by omega
    rw [h1,h2]
theorem mild_of {o:Ov} (h:mildB o = true):lightB o 200 = true∧Mild o:=by
  unfold mildB P5.smallV at h
  simp only [Bool.and_eq_true,decide_eq_true_eq] at h
  refine ⟨h.1,?_⟩
  unfold Mild
  rw [tot_costs]
  omega
set_option maxHeartbeats 8000000 in
theorem lawIdle_any (w:World) (o:Ov) (s:OS) (h:OpRaw w o s):Calls Try.prog 10 #[.agg (opCells o s)] w fun e w'=>e = .returned (.bool true)∧Below w.heap.size w w':=by
  obtain ⟨W1,hW1⟩:∃ W1,W1 = w.alloc (.cells (opCells o s) 26):=⟨_,rfl⟩
  have z1:=Lib.hid (show W1.heap[w.heap.size]? = some (.cells (opCells o s) 26 (0,0)) by rw [hW1];exact heap_alloc_new w _)
  have hb1:=Lib.hid (show Below w.heap.size w W1 by rw [hW1];exact (Below.refl _ _).alloc (Nat.le_refl _) _)
  have hop:=Lib.hid (fun (W:World) (hb:Below W1.heap.size W1 W)=>op_cells ((hb.block w.heap.size (Array.getElem?_eq_some_iff.1 z1.out).1).trans z1.out))
  have hli:=Lib.hid (fun (W:World) (hb:Below W1.heap.size W1 W)=>light10_any W o s ((h.below hb1.out).below hb))
  have hin:=Lib.hid (fun (W:World) (hb:Below W1.heap.size W1 W) (hl:mildB o = true)=>((h.below hb1.out).below hb).op (by have:=(of_decide_eq_true (mild_of hl).1).1;omega) (by have:=(of_decide_eq_true (mild_of hl).1).2.1;omega) (by have:=(of_decide_eq_true (mild_of hl).1).2.2.2.2.2.1;omega))
  have hf1:=Lib.hid (fun (hl:mildB o = true) (W:World) (hb:Below W1.heap.size W1 W)=>idle_any W o s (hin.out W hb hl) (mild_of hl).2)
  have hf2:=Lib.hid (fun (hl:mildB o = true) (W:World) (hb:Below W1.heap.size W1 W)=>ridle_any W o s (hin.out W hb hl) (mild_of hl).2)
  obtain ⟨b,hb⟩:∃ b,b = mildB o:=⟨_,rfl⟩
  obtain ⟨f,hf⟩:∃ f,f = idleV o:=⟨_,rfl⟩
  rw [← hb] at hli hf1 hf2
  rw [← hf] at hf1 hf2
  clear h hin hb hf
  unfold opCells at hli hf1 hf2 hW1
  unfold opCells
  cases b with
  | true =>
    have hg1:=Lib.hid (hf1.out rfl)
    have hg2:=Lib.hid (hf2.out rfl)
    clear hf1 hf2
    have hrr:(f == f) = true:=by simp
    go_enter Try.func10,Try.ntmps10
    go_wp2_with fail
    rw [← hW1]
    clear hW1
    rename_i K0 hK0
    refine Top.wp_region_L (fun W=>Below W1.heap.size W1 W) 13 rfl ((Below.refl W1.heap.size W1).drew) (fun hHeld=>?_)
    refine Top.wpAnyL_take (i:=0) (oi:={ dst:=some 3,op:=Go.Op.load 26 (Go.Operand.tmp 1),type:=26,pos:="law.go:31",after:=#[],guard:=none }) (v:=?_) rfl (by kernel_rfl) (by kernel_rfl) (by kernel_rfl) (by kernel_rfl) (fun _ _ _ h=>h) (Or.inl ⟨by rfl,?_⟩) hHeld ?_
    rotate_left 1
    · intro W hSw;obtain ⟨o0,o1,o2,o3,o4,o5,o6,o7,o8,o9,o10⟩:=hop.out W hSw;go_simp;try with_reducible rfl
    try simp only [Act.put,List.setIfInBounds_toArray,List.set_cons_zero,List.set_cons_succ]
    refine Top.wpAnyL_one (i:=1) (o:={ dst:=some 4,op:=Go.Op.call { callee:=Go.Callee.value (Go.Operand.func 41),args:=#[Go.Operand.tmp 3],argTypes:=#[26] },type:=4,pos:="law.go:31",after:=#[{ on:=0,ground:=Go.Ground.data }],guard:=none }) (by kernel_rfl) rfl (by decide) (fun K hK=>?_)
    go_simp
    refine (hli.out _ hHeld).mono ?_
    rintro e w2 ⟨rfl,hb2⟩
    have h2:=Lib.hid (show Below W1.heap.size W1 w2 from hHeld.trans (hb2.mono hHeld.size))
    clear hb2
    go_simp
    refine hK.out _ _ ?_ (fun hNew=>?_)
    · exact h2.out
    clear hK K hHeld
    have hHeld:=hNew
    clear hNew
    try simp only [Act.put,List.setIfInBounds_toArray,List.set_cons_zero,List.set_cons_succ]
    refine Top.wpAnyL_take (i:=2) (oi:={ dst:=some 5,op:=Go.Op.unOp Go.UnOp.not 4 (Go.Operand.tmp 4),type:=4,pos:="law.go:31",after:=#[{ on:=1,ground:=Go.Ground.data }],guard:=none }) (v:=?_) rfl (by kernel_rfl) (by kernel_rfl) (by kernel_rfl) (by kernel_rfl) (fun _ _ _ h=>h) (Or.inl ⟨by rfl,?_⟩) hHeld ?_
    rotate_left 1
    · intro W hSw;obtain ⟨o0,o1,o2,o3,o4,o5,o6,o7,o8,o9,o10⟩:=hop.out W hSw;go_simp;try with_reducible rfl
    try simp only [Act.put,List.setIfInBounds_toArray,List.set_cons_zero,List.set_cons_succ]
    refine Top.wpAnyL_take (i:=3) (oi:={ dst:=some 6,op:=Go.Op.move (Go.Operand.tmp 5),type:=4,pos:="law.go:31",after:=#[{ on:=2,ground:=Go.Ground.data },{ on:=1,ground:=Go.Ground.chain }],guard:=none }) (v:=?_) rfl (by kernel_rfl) (by kernel_rfl) (by kernel_rfl) (by kernel_rfl) (fun _ _ _ h=>h) (Or.inl ⟨by rfl,?_⟩) hHeld ?_
    rotate_left 1
    · intro W hSw;obtain ⟨o0,o1,o2,o3,o4,o5,o6,o7,o8,o9,o10⟩:=hop.out W hSw;go_simp;try with_reducible rfl
    try simp only [Act.put,List.setIfInBounds_toArray,List.set_cons_zero,List.set_cons_succ]
    refine Top.wpAnyL_take (i:=4) (oi:={ dst:=some 7,op:=Go.Op.load 26 (Go.Operand.tmp 1),type:=26,pos:="law.go:31",after:=#[{ on:=3,ground:=Go.Ground.guard }],guard:=some (3,false) }) (v:=?_) rfl (by kernel_rfl) (by kernel_rfl) (by kernel_rfl) (by kernel_rfl) (fun _ _ _ h=>h) (Or.inl ⟨by rfl,?_⟩) hHeld ?_
    rotate_left 1
    · intro W hSw;obtain ⟨o0,o1,o2,o3,o4,o5,o6,o7,o8,o9,o10⟩:=hop.out W hSw;go_simp;try with_reducible rfl
    try simp only [Act.put,List.setIfInBounds_toArray,List.set_cons_zero,List.set_cons_succ]
    refine Top.wpAnyL_take (i:=6) (oi:={ dst:=some 9,op:=Go.Op.load 26 (Go.Operand.tmp 1),type:=26,pos:="law.go:31",after:=#[{ on:=3,ground:=Go.Ground.guard }],guard:=some (3,false) }) (v:=?_) rfl (by kernel_rfl) (by kernel_rfl) (by kernel_rfl) (by kernel_rfl) (fun _ _ _ h=>h) (Or.inl ⟨by rfl,?_⟩) hHeld ?_
    rotate_left 1
    · intro W hSw;obtain ⟨o0,o1,o2,o3,o4,o5,o6,o7,o8,o9,o10⟩:=hop.out W hSw;go_simp;try with_reducible rfl
    try simp only [Act.put,List.setIfInBounds_toArray,List.set_cons_zero,List.set_cons_succ]
    refine Top.wpAnyL_one (i:=5) (o:={ dst:=some 8,op:=Go.Op.call { callee:=Go.Callee.value (Go.Operand.func 42),args:=#[Go.Operand.tmp 7],argTypes:=#[26] },type:=4,pos:="law.go:31",after:=#[{ on:=4,ground:=Go.Ground.data },{ on:=3,ground:=Go.Ground.chain },{ on:=3,ground:=Go.Ground.guard }],guard:=some (3,false) }) (by kernel_rfl) rfl (by decide) (fun K hK=>?_)
    go_simp
    refine (hg1.out _ hHeld).mono ?_
    rintro e w3 ⟨rfl,hb3⟩
    have h3:=Lib.hid (show Below W1.heap.size W1 w3 from hHeld.trans (hb3.mono hHeld.size))
    clear hb3
    go_simp
    refine hK.out _ _ ?_ (fun hNew=>?_)
    · exact h3.out
    clear hK K hHeld
    have hHeld:=hNew
    clear hNew
    try simp only [Act.put,List.setIfInBounds_toArray,List.set_cons_zero,List.set_cons_succ]
    refine Top.wpAnyL_one (i:=7) (o:={ dst:=some 10,op:=Go.Op.call { callee:=Go.Callee.value (Go.Operand.func 43),args:=#[Go.Operand.tmp 9],argTypes:=#[26] },type:=4,pos:="law.go:31",after:=#[{ on:=6,ground:=Go.Ground.data },{ on:=5,ground:=Go.Ground.chain },{ on:=3,ground:=Go.Ground.guard }],guard:=some (3,false) }) (by kernel_rfl) rfl (by decide) (fun K hK=>?_)
    go_simp
    refine (hg2.out _ hHeld).mono ?_
    rintro e w4 ⟨rfl,hb4⟩
    have h4:=Lib.hid (show Below W1.heap.size W1 w4 from hHeld.trans (hb4.mono hHeld.size))
    clear hb4
    go_simp
    refine hK.out _ _ ?_ (fun hNew=>?_)
    · exact h4.out
    clear hK K hHeld
    have hHeld:=hNew
    clear hNew
    try simp only [Act.put,List.setIfInBounds_toArray,List.set_cons_zero,List.set_cons_succ]
    refine Top.wpAnyL_take (i:=8) (oi:={ dst:=some 11,op:=Go.Op.binOp Go.BinOp.eql 4 (Go.Operand.tmp 8) (Go.Operand.tmp 10) 4,type:=4,pos:="law.go:31",after:=#[{ on:=5,ground:=Go.Ground.data },{ on:=7,ground:=Go.Ground.data },{ on:=3,ground:=Go.Ground.guard }],guard:=some (3,false) }) (v:=?_) rfl (by kernel_rfl) (by kernel_rfl) (by kernel_rfl) (by kernel_rfl) (fun _ _ _ h=>h) (Or.inl ⟨by rfl,?_⟩) hHeld ?_
    rotate_left 1
    · intro W hSw;obtain ⟨o0,o1,o2,o3,o4,o5,o6,o7,o8,o9,o10⟩:=hop.out W hSw;go_simp;try with_reducible rfl
    try simp only [Act.put,List.setIfInBounds_toArray,List.set_cons_zero,List.set_cons_succ]
    refine Top.wpAnyL_take (i:=9) (oi:={ dst:=some 12,op:=Go.Op.pick (Go.Operand.tmp 6) (Go.Operand.const (Go.Value.bool true)) (Go.Operand.tmp 11),type:=4,pos:="law.go:31",after:=#[{ on:=3,ground:=Go.Ground.data },{ on:=8,ground:=Go.Ground.data }],guard:=none }) (v:=?_) rfl (by kernel_rfl) (by kernel_rfl) (by kernel_rfl) (by kernel_rfl) (fun _ _ _ h=>h) (Or.inl ⟨by rfl,?_⟩) hHeld ?_
    rotate_left 1
    · intro W hSw;obtain ⟨o0,o1,o2,o3,o4,o5,o6,o7,o8,o9,o10⟩:=hop.out W hSw;go_simp;try with_reducible rfl
    try simp only [Act.put,List.setIfInBounds_toArray,List.set_cons_zero,List.set_cons_succ]
    refine Top.wpAnyL_take (i:=10) (oi:={ dst:=some 13,op:=Go.Op.move (Go.Operand.tmp 12),type:=4,pos:="law.go:31",after:=#[{ on:=9,ground:=Go.Ground.data },{ on:=7,ground:=Go.Ground.chain }],guard:=none }) (v:=?_) rfl (by kernel_rfl) (by kernel_rfl) (by kernel_rfl) (by kernel_rfl) (fun _ _ _ h=>h) (Or.inl ⟨by rfl,?_⟩) hHeld ?_
    rotate_left 1
    · intro W hSw;obtain ⟨o0,o1,o2,o3,o4,o5,o6,o7,o8,o9,o10⟩:=hop.out W hSw;go_simp;try with_reducible rfl
    try simp only [Act.put,List.setIfInBounds_toArray,List.set_cons_zero,List.set_cons_succ]
    refine Top.wpAnyL_one (i:=11) (o:={ dst:=some 14,op:=Go.Op.call { callee:=Go.Callee.value (Go.Operand.func 44),args:=#[],argTypes:=#[] },type:=4,pos:="law.go:31",after:=#[{ on:=10,ground:=Go.Ground.chain },{ on:=10,ground:=Go.Ground.guard }],guard:=some (10,true) }) (by kernel_rfl) rfl (by decide) (fun K hK=>?_)
    go_simp
    refine (works_any _).mono ?_
    rintro e w5 ⟨rfl,hb5⟩
    have h5:=Lib.hid (show Below W1.heap.size W1 w5 from hHeld.trans (hb5.mono hHeld.size))
    clear hb5
    go_simp
    refine hK.out _ _ ?_ (fun hNew=>?_)
    · exact h5.out
    clear hK K hHeld
    have hHeld:=hNew
    clear hNew
    try simp only [Act.put,List.setIfInBounds_toArray,List.set_cons_zero,List.set_cons_succ]
    refine Top.wpAnyL_take (i:=12) (oi:={ dst:=some 15,op:=Go.Op.pick (Go.Operand.tmp 13) (Go.Operand.tmp 14) (Go.Operand.const (Go.Value.bool false)),type:=4,pos:="law.go:31",after:=#[{ on:=10,ground:=Go.Ground.data },{ on:=11,ground:=Go.Ground.data }],guard:=none }) (v:=?_) rfl (by kernel_rfl) (by kernel_rfl) (by kernel_rfl) (by kernel_rfl) (fun _ _ _ h=>h) (Or.inl ⟨by rfl,?_⟩) hHeld ?_
    rotate_left 1
    · intro W hSw;obtain ⟨o0,o1,o2,o3,o4,o5,o6,o7,o8,o9,o10⟩:=hop.out W hSw;go_simp;try with_reducible rfl
    try simp only [Act.put,List.setIfInBounds_toArray,List.set_cons_zero,List.set_cons_succ]
    refine Top.wpAnyL_last (o:={ dst:=some 2,op:=Go.Op.assign (Go.Operand.tmp 15),type:=4,pos:="law.go:31",after:=#[{ on:=12,ground:=Go.Ground.data },{ on:=11,ground:=Go.Ground.chain },{ on:=0,ground:=Go.Ground.phase },{ on:=1,ground:=Go.Ground.phase },{ on:=2,ground:=Go.Ground.phase },{ on:=3,ground:=Go.Ground.phase },{ on:=4,ground:=Go.Ground.phase },{ on:=5,ground:=Go.Ground.phase },{ on:=6,ground:=Go.Ground.phase },{ on:=7,ground:=Go.Ground.phase },{ on:=8,ground:=Go.Ground.phase },{ on:=9,ground:=Go.Ground.phase },{ on:=10,ground:=Go.Ground.phase },{ on:=11,ground:=Go.Ground.phase },{ on:=12,ground:=Go.Ground.phase }],guard:=none }) (by kernel_rfl) rfl (fun K hK=>?_)
    go_simp
    refine hK _ _ ?_
    clear hK K
    try simp only [Act.put,List.setIfInBounds_toArray,List.set_cons_zero,List.set_cons_succ]
    refine wpAny_done (by kernel_rfl) ?_ _
    refine hK0 _ _ ?_
    clear hK0
    go_wp2_with fail
    go_ret
    exact ⟨rfl,hb1.out.trans (h5.out.mono hb1.out.size)⟩
  | false =>
    clear hf1 hf2
    go_enter Try.func10,Try.ntmps10
    go_wp2_with fail
    rw [← hW1]
    clear hW1
    rename_i K0 hK0
    refine Top.wp_region_L (fun W=>Below W1.heap.size W1 W) 13 rfl ((Below.refl W1.heap.size W1).drew) (fun hHeld=>?_)
    refine Top.wpAnyL_take (i:=0) (oi:={ dst:=some 3,op:=Go.Op.load 26 (Go.Operand.tmp 1),type:=26,pos:="law.go:31",after:=#[],guard:=none }) (v:=?_) rfl (by kernel_rfl) (by kernel_rfl) (by kernel_rfl) (by kernel_rfl) (fun _ _ _ h=>h) (Or.inl ⟨by rfl,?_⟩) hHeld ?_
    rotate_left 1
    · intro W hSw;obtain ⟨o0,o1,o2,o3,o4,o5,o6,o7,o8,o9,o10⟩:=hop.out W hSw;go_simp;try with_reducible rfl
    try simp only [Act.put,List.setIfInBounds_toArray,List.set_cons_zero,List.set_cons_succ]
    refine Top.wpAnyL_one (i:=1) (o:={ dst:=some 4,op:=Go.Op.call { callee:=Go.Callee.value (Go.Operand.func 41),args:=#[Go.Operand.tmp 3],argTypes:=#[26] },type:=4,pos:="law.go:31",after:=#[{ on:=0,ground:=Go.Ground.data }],guard:=none }) (by kernel_rfl) rfl (by decide) (fun K hK=>?_)
    go_simp
    refine (hli.out _ hHeld).mono ?_
    rintro e w2 ⟨rfl,hb2⟩
    have h2:=Lib.hid (show Below W1.heap.size W1 w2 from hHeld.trans (hb2.mono hHeld.size))
    clear hb2
    go_simp
    refine hK.out _ _ ?_ (fun hNew=>?_)
    · exact h2.out
    clear hK K hHeld
    have hHeld:=hNew
    clear hNew
    try simp only [Act.put,List.setIfInBounds_toArray,List.set_cons_zero,List.set_cons_succ]
    refine Top.wpAnyL_take (i:=2) (oi:={ dst:=some 5,op:=Go.Op.unOp Go.UnOp.not 4 (Go.Operand.tmp 4),type:=4,pos:="law.go:31",after:=#[{ on:=1,ground:=Go.Ground.data }],guard:=none }) (v:=?_) rfl (by kernel_rfl) (by kernel_rfl) (by kernel_rfl) (by kernel_rfl) (fun _ _ _ h=>h) (Or.inl ⟨by rfl,?_⟩) hHeld ?_
    rotate_left 1
    · intro W hSw;obtain ⟨o0,o1,o2,o3,o4,o5,o6,o7,o8,o9,o10⟩:=hop.out W hSw;go_simp;try with_reducible rfl
    try simp only [Act.put,List.setIfInBounds_toArray,List.set_cons_zero,List.set_cons_succ]
    refine Top.wpAnyL_take (i:=3) (oi:={ dst:=some 6,op:=Go.Op.move (Go.Operand.tmp 5),type:=4,pos:="law.go:31",after:=#[{ on:=2,ground:=Go.Ground.data },{ on:=1,ground:=Go.Ground.chain }],guard:=none }) (v:=?_) rfl (by kernel_rfl) (by kernel_rfl) (by kernel_rfl) (by kernel_rfl) (fun _ _ _ h=>h) (Or.inl ⟨by rfl,?_⟩) hHeld ?_
    rotate_left 1
    · intro W hSw;obtain ⟨o0,o1,o2,o3,o4,o5,o6,o7,o8,o9,o10⟩:=hop.out W hSw;go_simp;try with_reducible rfl
    try simp only [Act.put,List.setIfInBounds_toArray,List.set_cons_zero,List.set_cons_succ]
    refine Top.wpAnyL_take (i:=4) (oi:={ dst:=some 7,op:=Go.Op.load 26 (Go.Operand.tmp 1),type:=26,pos:="law.go:31",after:=#[{ on:=3,ground:=Go.Ground.guard }],guard:=some (3,false) }) (v:=undef) rfl (by kernel_rfl) (by kernel_rfl) (by kernel_rfl) (by kernel_rfl) (fun _ _ _ h=>h) (Or.inr ⟨by rfl,rfl⟩) hHeld ?_
    try simp only [Act.put,List.setIfInBounds_toArray,List.set_cons_zero,List.set_cons_succ]
    refine Top.wpAnyL_take (i:=6) (oi:={ dst:=some 9,op:=Go.Op.load 26 (Go.Operand.tmp 1),type:=26,pos:="law.go:31",after:=#[{ on:=3,ground:=Go.Ground.guard }],guard:=some (3,false) }) (v:=undef) rfl (by kernel_rfl) (by kernel_rfl) (by kernel_rfl) (by kernel_rfl) (fun _ _ _ h=>h) (Or.inr ⟨by rfl,rfl⟩) hHeld ?_
    try simp only [Act.put,List.setIfInBounds_toArray,List.set_cons_zero,List.set_cons_succ]
    refine Top.wpAnyL_one (i:=5) (o:={ dst:=some 8,op:=Go.Op.call { callee:=Go.Callee.value (Go.Operand.func 42),args:=#[Go.Operand.tmp 7],argTypes:=#[26] },type:=4,pos:="law.go:31",after:=#[{ on:=4,ground:=Go.Ground.data },{ on:=3,ground:=Go.Ground.chain },{ on:=3,ground:=Go.Ground.guard }],guard:=some (3,false) }) (by kernel_rfl) rfl (by decide) (fun K hK=>?_)
    go_simp
    refine hK.out _ _ hHeld (fun hNew=>?_)
    clear hK K hHeld
    have hHeld:=hNew
    clear hNew
    try simp only [Act.put,List.setIfInBounds_toArray,List.set_cons_zero,List.set_cons_succ]
    refine Top.wpAnyL_one (i:=7) (o:={ dst:=some 10,op:=Go.Op.call { callee:=Go.Callee.value (Go.Operand.func 43),args:=#[Go.Operand.tmp 9],argTypes:=#[26] },type:=4,pos:="law.go:31",after:=#[{ on:=6,ground:=Go.Ground.data },{ on:=5,ground:=Go.Ground.chain },{ on:=3,ground:=Go.Ground.guard }],guard:=some (3,false) }) (by kernel_rfl) rfl (by decide) (fun K hK=>?_)
    go_simp
    refine hK.out _ _ hHeld (fun hNew=>?_)
    clear hK K hHeld
    have hHeld:=hNew
    clear hNew
    try simp only [Act.put,List.setIfInBounds_toArray,List.set_cons_zero,List.set_cons_succ]
    refine Top.wpAnyL_take (i:=8) (oi:={ dst:=some 11,op:=Go.Op.binOp Go.BinOp.eql 4 (Go.Operand.tmp 8) (Go.Operand.tmp 10) 4,type:=4,pos:="law.go:31",after:=#[{ on:=5,ground:=Go.Ground.data },{ on:=7,ground:=Go.Ground.data },{ on:=3,ground:=Go.Ground.guard }],guard:=some (3,false) }) (v:=undef) rfl (by kernel_rfl) (by kernel_rfl) (by kernel_rfl) (by kernel_rfl) (fun _ _ _ h=>h) (Or.inr ⟨by rfl,rfl⟩) hHeld ?_
    try simp only [Act.put,List.setIfInBounds_toArray,List.set_cons_zero,List.set_cons_succ]
    refine Top.wpAnyL_take (i:=9) (oi:={ dst:=some 12,op:=Go.Op.pick (Go.Operand.tmp 6) (Go.Operand.const (Go.Value.bool true)) (Go.Operand.tmp 11),type:=4,pos:="law.go:31",after:=#[{ on:=3,ground:=Go.Ground.data },{ on:=8,ground:=Go.Ground.data }],guard:=none }) (v:=?_) rfl (by kernel_rfl) (by kernel_rfl) (by kernel_rfl) (by kernel_rfl) (fun _ _ _ h=>h) (Or.inl ⟨by rfl,?_⟩) hHeld ?_
    rotate_left 1
    · intro W hSw;obtain ⟨o0,o1,o2,o3,o4,o5,o6,o7,o8,o9,o10⟩:=hop.out W hSw;go_simp;try with_reducible rfl
    try simp only [Act.put,List.setIfInBounds_toArray,List.set_cons_zero,List.set_cons_succ]
    refine Top.wpAnyL_take (i:=10) (oi:={ dst:=some 13,op:=Go.Op.move (Go.Operand.tmp 12),type:=4,pos:="law.go:31",after:=#[{ on:=9,ground:=Go.Ground.data },{ on:=7,ground:=Go.Ground.chain }],guard:=none }) (v:=?_) rfl (by kernel_rfl) (by kernel_rfl) (by kernel_rfl) (by kernel_rfl) (fun _ _ _ h=>h) (Or.inl ⟨by rfl,?_⟩) hHeld ?_
    rotate_left 1
    · intro W hSw;obtain ⟨o0,o1,o2,o3,o4,o5,o6,o7,o8,o9,o10⟩:=hop.out W hSw;go_simp;try with_reducible rfl
    try simp only [Act.put,List.setIfInBounds_toArray,List.set_cons_zero,List.set_cons_succ]
    refine Top.wpAnyL_one (i:=11) (o:={ dst:=some 14,op:=Go.Op.call { callee:=Go.Callee.value (Go.Operand.func 44),args:=#[],argTypes:=#[] },type:=4,pos:="law.go:31",after:=#[{ on:=10,ground:=Go.Ground.chain },{ on:=10,ground:=Go.Ground.guard }],guard:=some (10,true) }) (by kernel_rfl) rfl (by decide) (fun K hK=>?_)
    go_simp
    refine (works_any _).mono ?_
    rintro e w5 ⟨rfl,hb5⟩
    have h5:=Lib.hid (show Below W1.heap.size W1 w5 from hHeld.trans (hb5.mono hHeld.size))
    clear hb5
    go_simp
    refine hK.out _ _ ?_ (fun hNew=>?_)
    · exact h5.out
    clear hK K hHeld
    have hHeld:=hNew
    clear hNew
    try simp only [Act.put,List.setIfInBounds_toArray,List.set_cons_zero,List.set_cons_succ]
    refine Top.wpAnyL_take (i:=12) (oi:={ dst:=some 15,op:=Go.Op.pick (Go.Operand.tmp 13) (Go.Operand.tmp 14) (Go.Operand.const (Go.Value.bool false)),type:=4,pos:="law.go:31",after:=#[{ on:=10,ground:=Go.Ground.data },{ on:=11,ground:=Go.Ground.data }],guard:=none }) (v:=?_) rfl (by kernel_rfl) (by kernel_rfl) (by kernel_rfl) (by kernel_rfl) (fun _ _ _ h=>h) (Or.inl ⟨by rfl,?_⟩) hHeld ?_
    rotate_left 1
    · intro W hSw;obtain ⟨o0,o1,o2,o3,o4,o5,o6,o7,o8,o9,o10⟩:=hop.out W hSw;go_simp;try with_reducible rfl
    try simp only [Act.put,List.setIfInBounds_toArray,List.set_cons_zero,List.set_cons_succ]
    refine Top.wpAnyL_last (o:={ dst:=some 2,op:=Go.Op.assign (Go.Operand.tmp 15),type:=4,pos:="law.go:31",after:=#[{ on:=12,ground:=Go.Ground.data },{ on:=11,ground:=Go.Ground.chain },{ on:=0,ground:=Go.Ground.phase },{ on:=1,ground:=Go.Ground.phase },{ on:=2,ground:=Go.Ground.phase },{ on:=3,ground:=Go.Ground.phase },{ on:=4,ground:=Go.Ground.phase },{ on:=5,ground:=Go.Ground.phase },{ on:=6,ground:=Go.Ground.phase },{ on:=7,ground:=Go.Ground.phase },{ on:=8,ground:=Go.Ground.phase },{ on:=9,ground:=Go.Ground.phase },{ on:=10,ground:=Go.Ground.phase },{ on:=11,ground:=Go.Ground.phase },{ on:=12,ground:=Go.Ground.phase }],guard:=none }) (by kernel_rfl) rfl (fun K hK=>?_)
    go_simp
    refine hK _ _ ?_
    clear hK K
    try simp only [Act.put,List.setIfInBounds_toArray,List.set_cons_zero,List.set_cons_succ]
    refine wpAny_done (by kernel_rfl) ?_ _
    refine hK0 _ _ ?_
    clear hK0
    go_wp2_with fail
    go_ret
    exact ⟨rfl,hb1.out.trans (h5.out.mono hb1.out.size)⟩
end Go.Proofs.Ytmipodnffhngaaa.Sim
