/- MgAQ: TopAa SimJo SqrSet SqrB SqrC -/
import Derived.Test.YtidimannfemnmaaMgAP
import Derived.Test.YtidimannfemnmaaMgAM
import Derived.Test.YtidimannfemnmaaTopFo
import Derived.Test.YtidimannfemnmaaMgAN
import Derived.Test.YtidimannfemnmaaMgAO
import Derived.Test.YtidimannfemnmaaMgAE
set_option linter.all false
namespace Go.Proofs.Ytidimannfemnmaa.Top
open Go.RowKit
set_option maxRecDepth 20000

def costV (o:Ov):Nat:=1 + o.label.length + o.key.length + o.value.length + P5.putsI o.pieces
def Elev (w:World) (E:Addr) (o:Ov) (s:OS):Prop :=
  w.cell? E = some (.int .u8 (o.kind:Int))∧w.cell? ⟨E.block,E.off + 1,none⟩ = some (.slice s.pA s.pn s.pc)∧w.cell? ⟨E.block,E.off + 2,none⟩ = some (.int .i64 o.at_)∧w.cell? ⟨E.block,E.off + 3,none⟩ = some (.slice s.tA s.tn s.tc)∧w.cell? ⟨E.block,E.off + 4,none⟩ = some (.int .u64 (o.id:Int)) ∧
    w.cell? ⟨E.block,E.off + 5,none⟩ = some (.bool o.leaf)∧w.cell? ⟨E.block,E.off + 6,none⟩ = some (.string ⟨o.label.toArray⟩)∧w.cell? ⟨E.block,E.off + 7,none⟩ = some (.string ⟨o.key.toArray⟩)∧w.cell? ⟨E.block,E.off + 8,none⟩ = some (.string ⟨o.value.toArray⟩)∧w.cell? ⟨E.block,E.off + 9,none⟩ = some (.bool o.gone)∧w.cell? ⟨E.block,E.off + 10,none⟩ = some (.slice s.qA s.qn s.qc)
theorem Elev.kept {w w':World} {E:Addr} {o:Ov} {s:OS} (h:Elev w E o s) (hb:w'.heap[E.block]? = w.heap[E.block]?):Elev w' E o s:=by
  obtain ⟨h0,h1,h2,h3,h4,h5,h6,h7,h8,h9,h10⟩:=h
  have c:∀ o,w'.cell? ⟨E.block,o,none⟩ = w.cell? ⟨E.block,o,none⟩:=fun o=>World.cell?_of_block (w:=w) (w':=w') (a:=⟨E.block,o,none⟩) hb
  exact ⟨(World.cell?_of_block (w:=w) (w':=w') (a:=E) hb).trans h0,(c _).trans h1,(c _).trans h2,(c _).trans h3,(c _).trans h4,(c _).trans h5,(c _).trans h6,(c _).trans h7,(c _).trans h8,(c _).trans h9,(c _).trans h10⟩
def OpsAt (w:World) (A:Option Addr) (n:Nat) (l:List (Ov × OS)):Prop :=
  l.length = n∧∀ q x,l[q]? = some x→OpRaw w x.1 x.2∧∃ ad,A = some ad∧ad.block < w.heap.size∧Elev w (ad.add (q * 11)) x.1 x.2
theorem OpsAt.below {w w':World} {A:Option Addr} {n:Nat} {l:List (Ov × OS)} (h:OpsAt w A n l) (hb:Below w.heap.size w w'):OpsAt w' A n l :=
  ⟨h.1,fun q x hx=>by
    obtain ⟨h1,ad,e,hlt,hc⟩:=h.2 q x hx
    have hk:(ad.add (q * 11)).block = ad.block:=by unfold Addr.add;split <;> rfl
    exact ⟨h1.below hb,ad,e,Nat.lt_of_lt_of_le hlt hb.size,hc.kept (by rw [hk];exact hb.block _ hlt)⟩⟩
theorem OpsAt.at_ {w:World} {A:Option Addr} {n q:Nat} {l:List (Ov × OS)} (h:OpsAt w A n l) (hq:q < n):∃ ad o s,A = some ad∧l[q]? = some (o,s)∧ad.block < w.heap.size∧OpRaw w o s∧Elev w (ad.add (q * 11)) o s:=by
  have hl:q < l.length:=by rw [h.1];exact hq
  obtain ⟨h1,ad,e,hlt,hc⟩:=h.2 q _ (List.getElem?_eq_getElem hl)
  exact ⟨ad,_,_,e,List.getElem?_eq_getElem hl,hlt,h1,hc⟩
theorem elev_of {w:World} {E:Addr} {o:Ov} {s:OS} (h:∀ j v,(opCells o s)[j]? = some v→w.cell? (E.add j) = some v):Elev w E o s :=
  ⟨h 0 _ rfl,h 1 _ rfl,h 2 _ rfl,h 3 _ rfl,h 4 _ rfl,h 5 _ rfl,h 6 _ rfl,h 7 _ rfl,h 8 _ rfl,h 9 _ rfl,h 10 _ rfl⟩
theorem OpsIn.at_row {w:World} {A:Option Addr} {n:Nat} {l:List (Ov × OS)} (h:OpsIn w A n l):OpsAt w A n l :=
  ⟨h.1,fun q x hx=>by
    obtain ⟨h1,ad,e,hlt,hc⟩:=h.2 q x hx
    exact ⟨h1,ad,e,hlt,elev_of hc⟩⟩
end Go.Proofs.Ytidimannfemnmaa.Top
namespace Go.Proofs.Ytidimannfemnmaa.Sim
open Go.RowKit Top
set_option maxRecDepth 20000

def opL (x:Ov × OS):List Value:=(opCells x.1 x.2).toList
theorem opL_len (x:Ov × OS):(opL x).length = 11:=rfl
def OwnO (base:Nat) (w:World) (v:Value) (l:List (Ov × OS)):Prop:=w.ownsRow base 52 11 v l.length (l.flatMap opL)
theorem OwnO.nil_ (base:Nat) (w:World):OwnO base w (.slice none 0 0) []:=World.ownsRow_nil w base _ _
theorem OwnO.shape {base:Nat} {w:World} {v:Value} {l:List (Ov × OS)} (h:OwnO base w v l):∃ (A:Option Addr) (n c:Nat),v = .slice A n c∧n = l.length∧n≤c∧c≤maxLen∧(A = none→c = 0) ∧
    ∀ (q:Nat) (x:Ov × OS),l[q]? = some x→∃ g,A = some ⟨g,0,none⟩∧base≤g∧g < w.heap.size∧Elev w ⟨g,q * 11,none⟩ x.1 x.2:=by
  obtain ⟨A,c,rfl,h1,h2,h3,h4⟩:=own_form h
  refine ⟨A,_,c,rfl,rfl,h1,h2,h3,fun q x hx=>?_⟩
  have hq:=(List.getElem?_eq_some_iff.1 hx).1
  obtain ⟨g,rfl,hb,hlt,hc⟩:=h4 (by omega)
  have k:∀ i u,(opL x)[i]? = some u→w.cell? ⟨g,q * 11 + i,none⟩ = some u:=fun i u hi=>hc _ _ (chunk_of opL 11 opL_len l q i x u hx hi)
  exact ⟨g,rfl,hb,hlt,k 0 _ rfl,k 1 _ rfl,k 2 _ rfl,k 3 _ rfl,k 4 _ rfl,k 5 _ rfl,k 6 _ rfl,k 7 _ rfl,k 8 _ rfl,k 9 _ rfl,k 10 _ rfl⟩
theorem OwnO.cut {base:Nat} {w:World} {A:Option Addr} {n c:Nat} {l:List (Ov × OS)} (h:OwnO base w (.slice A n c) l) (k:Nat) (hk:k≤n):OwnO base w (.slice A k c) (l.take k):=by
  obtain ⟨A1,n1,c1,e,hn1,-⟩:=h.shape
  injection e with e1 e2 e3
  subst e1 e2 e3
  have hl:(l.take k).length = k:=by rw [List.length_take];omega
  refine ⟨by rw [chunk_len opL 11 opL_len],?_⟩
  rw [hl,chunk_take opL 11 opL_len]
  rcases h.2 with ⟨e,h0⟩ | ⟨g,cap,cur,e,hb,hg,hnc,hcm,hcs,ht⟩
  · injection e with e1 e2 e3
    subst e1 e3
    exact .inl ⟨by rw [show k = 0 by omega],by omega⟩
  · injection e with e1 e2 e3
    subst e1 e3
    refine .inr ⟨g,c,cur,rfl,hb,hg,by omega,hcm,hcs,?_⟩
    rw [← ht,List.take_take,Nat.min_eq_left (Nat.mul_le_mul_right _ (by omega))]
theorem OwnO.kept {w w':World} {base:Nat} {v:Value} {l:List (Ov × OS)} (h:OwnO base w v l) (hk:∀ k,base≤k→k < w.heap.size→w'.heap[k]? = w.heap[k]?):OwnO base w' v l:=Top.own_kept h hk
theorem OwnO.block {base:Nat} {w:World} {v:Value} {l:List (Ov × OS)} (h:OwnO base w v l) {g:Nat} (hg:v.ownBlock = some g):∃ cs,w.heap[g]? = some (.cells cs 52 (0,0)):=by
  rcases h.2 with ⟨rfl,_⟩ | ⟨g',cap,cur,rfl,hb,hg',_⟩
  · cases hg
  · have e:g' = g:=by simpa [Value.ownBlock] using hg
    subst e
    exact ⟨cur,hg'⟩
theorem own_apart {base:Nat} {w w':World} {e:TypeId} {size n:Nat} {v:Value} {xs:List Value} {row:Option Nat} (h:w.ownsRow base e size v n xs) (he:e ≠ 52) (hrow:∀ g,row = some g→g < w.heap.size→∃ cs,w.heap[g]? = some (.cells cs 52 (0,0))) (hg:w.grownBy w' row):w'.ownsRow base e size v n xs:=by
  refine ⟨h.1,?_⟩
  rcases h.2 with h2 | ⟨g,cap,cur,rfl,hb,hgg,hr⟩
  · exact .inl h2
  · have hlt:=(Array.getElem?_eq_some_iff.1 hgg).1
    refine .inr ⟨g,cap,cur,rfl,hb,?_,hr⟩
    rw [hg.block g hlt ?_]
    · exact hgg
    · intro e1
      obtain ⟨cs,h3⟩:=hrow g e1.symm hlt
      rw [hgg] at h3
      injection h3 with h3
      injection h3 with h4 h5 h6
      exact he h5
theorem _root_.Go.Proofs.Ytidimannfemnmaa.Top.OwnOp.apart {base:Nat} {w w':World} {o:Ov} {s:OS} {row:Option Nat} (h:OwnOp base w o s) (hrow:∀ g,row = some g→g < w.heap.size→∃ cs,w.heap[g]? = some (.cells cs 52 (0,0))) (hg:w.grownBy w' row):OwnOp base w' o s :=
  ⟨own_apart h.path (by decide) hrow hg,own_apart h.to_ (by decide) hrow hg,own_apart h.pieces (by decide) hrow hg⟩
theorem Try.infoOp:(Try.prog.info? 52).map (fun i=>(i.zero,i.size,i.bytes)) = some (some (.agg #[.int .u8 0,.slice none 0 0,.int .i64 0,.slice none 0 0,.int .u64 0,.bool false,.string ⟨#[]⟩,.string ⟨#[]⟩,.string ⟨#[]⟩,.bool false,.slice none 0 0]),11,160):=by kernel_rfl
theorem wpList_append_op {w:World} {ops:Array Oper} {rest:List Oper} {o:Oper} {a:Act} {Q:Exit→Act→World→Prop} (hgd:o.guard = none) (s x:Operand)
    (ho:o.op = .call { callee:=.builtin .append,args:=#[s,x],argTypes:=#[55,55] })
    (base:Nat) (v:Value) (l:List (Ov × OS)) (hs:a.eval s = v) (hown:OwnO base w v l)
    (y:Ov × OS) (hx:a.eval x = .slice (some ⟨w.heap.size,0,none⟩) 1 1)
    (hlen:l.length≤1000000) (hbase:base≤w.heap.size)
    (h:∀ v' w',OwnO base w' v' (l ++ [y])→(w.alloc (.cells (opCells y.1 y.2) 52)).grownBy w' v.ownBlock→wpList Try.prog ops Q rest (a.put o.dst v') w') :
    wpList Try.prog ops Q (o :: rest) a (w.alloc (.cells (opCells y.1 y.2) 52)):=by
  obtain ⟨i0,hi,hz0,hz1,hz2⟩:=info_parts Try.infoOp
  refine wpList_append_own_at _ hgd s x _ ho base 52 i0 _ 11 160 Try.underlying55 hi hz0 hz1 hz2 rfl (by omega) v l.length (l.flatMap opL) hs (Top.own_kept hown fun k _ hk=>heap_alloc_old _ _ hk) ⟨w.heap.size,0,none⟩ 1 1 (opL y) hx (by rw [opL_len])
      (fun j u hj=>?_) (fun u hu=>?_) (by unfold maxLen;omega) (by omega) (by rw [World.size_alloc];omega) ?_
  · rw [add_zero_off]
    match j,hj with
    | 0,hj=>injection hj with hj;rw [← hj];exact cell_of_row _ _ 0 _ _ _ (heap_alloc_new w _)
    | 1,hj=>injection hj with hj;rw [← hj];exact cell_of_row _ _ 1 _ _ _ (heap_alloc_new w _)
    | 2,hj=>injection hj with hj;rw [← hj];exact cell_of_row _ _ 2 _ _ _ (heap_alloc_new w _)
    | 3,hj=>injection hj with hj;rw [← hj];exact cell_of_row _ _ 3 _ _ _ (heap_alloc_new w _)
    | 4,hj=>injection hj with hj;rw [← hj];exact cell_of_row _ _ 4 _ _ _ (heap_alloc_new w _)
    | 5,hj=>injection hj with hj;rw [← hj];exact cell_of_row _ _ 5 _ _ _ (heap_alloc_new w _)
    | 6,hj=>injection hj with hj;rw [← hj];exact cell_of_row _ _ 6 _ _ _ (heap_alloc_new w _)
    | 7,hj=>injection hj with hj;rw [← hj];exact cell_of_row _ _ 7 _ _ _ (heap_alloc_new w _)
    | 8,hj=>injection hj with hj;rw [← hj];exact cell_of_row _ _ 8 _ _ _ (heap_alloc_new w _)
    | 9,hj=>injection hj with hj;rw [← hj];exact cell_of_row _ _ 9 _ _ _ (heap_alloc_new w _)
    | 10,hj=>injection hj with hj;rw [← hj];exact cell_of_row _ _ 10 _ _ _ (heap_alloc_new w _)
    | j + 11,hj=>simp [opL,opCells] at hj
  · simp only [opL,opCells,List.mem_cons,List.not_mem_nil,or_false] at hu
    rcases hu with rfl | rfl | rfl | rfl | rfl | rfl | rfl | rfl | rfl | rfl | rfl <;> rfl
  · intro v' w' hown' hgrow _ hat
    refine h v' w' ?_ hgrow
    unfold OwnO
    rw [List.length_append,List.flatMap_append]
    simpa using hown'
theorem behind_fin {base:Nat} {w wr w':World} {A:Option Addr} {n c k:Nat} {l:List (Ov × OS)} {o1:Ov} {s1:OS} {v':Value} (hown:OwnO base w (.slice A n c) l) (hel:∀ x ∈ l,OwnOp base w x.1 x.2∧OvOk x.1) (hbase:base≤w.heap.size) (hk:k≤n) (ho1:OwnOp base wr o1 s1) (hok1:OvOk o1) (hb1:Below w.heap.size w wr)
    (hown2:OwnO base w' v' (l.take k ++ [(o1,s1)])) (hg:(wr.alloc (.cells (opCells o1 s1) 52)).grownBy w' (Value.slice A k c).ownBlock) :
    ∃ A' n' c',v' = .slice A' n' c'∧OwnO base w' (.slice A' n' c') (l.take k ++ [(o1,s1)])∧(∀ x ∈ l.take k ++ [(o1,s1)],OwnOp base w' x.1 x.2∧OvOk x.1)∧Below base w w':=by
  obtain ⟨A',n',c',rfl,-⟩:=hown2.shape
  obtain ⟨X,hX⟩:∃ X,X = wr.alloc (.cells (opCells o1 s1) 52):=⟨_,rfl⟩
  rw [← hX] at hg
  have hbX:Below w.heap.size w X:=by rw [hX];exact hb1.alloc hb1.size _
  have hwX:∀ k,base≤k→k < wr.heap.size→X.heap[k]? = wr.heap[k]?:=fun k _ hk=>by rw [hX];exact Go.heap_alloc_old _ _ hk
  have hrow:∀ g,(Value.slice A k c).ownBlock = some g→g < X.heap.size→∃ cs,X.heap[g]? = some (.cells cs 52 (0,0)):=fun g h1 _=>by
    have h2:(Value.slice A n c).ownBlock = some g:=by cases A with
      | none=>cases h1
      | some a=>exact h1
    obtain ⟨cs,h3⟩:=hown.block h2
    exact ⟨cs,(hbX.block g (Array.getElem?_eq_some_iff.1 h3).1).trans h3⟩
  refine ⟨A',n',c',rfl,hown2,?_,?_⟩
  · intro x hx
    rcases List.mem_append.1 hx with hx | hx
    · obtain ⟨h1,h2⟩:=hel x (List.mem_of_mem_take hx)
      exact ⟨(h1.kept fun k _ hk=>hbX.block k hk).apart hrow hg,h2⟩
    · simp only [List.mem_cons,List.not_mem_nil,or_false] at hx
      subst hx
      exact ⟨(ho1.kept hwX).apart hrow hg,hok1⟩
  · refine (hbX.mono hbase).grown hg (Nat.le_trans hbase hbX.size) fun g h1=>?_
    rcases hown.2 with ⟨e,_⟩ | ⟨g',cap,cur,e,hb,_⟩
    · injection e with e1 e2 e3
      subst e1
      cases h1
    · injection e with e1 e2 e3
      subst e1
      have e:g' = g:=by simpa [Value.ownBlock] using h1
      omega
end Go.Proofs.Ytidimannfemnmaa.Sim
namespace Go.Proofs.Ytidimannfemnmaa.Sqr
open Go.RowKit Top Sim
set_option maxRecDepth 20000

def setL (cs:Array Value) (e:Nat):List Value→Array Value
  | []=>cs
  | v :: r=>setL (cs.setIfInBounds e v) (e + 1) r
def setW (w:World) (g e:Nat):List Value→World
  | []=>w
  | v :: r=>setW (w.setCell ⟨g,e,none⟩ v) g (e + 1) r
theorem setL_size:∀ (vs:List Value) (cs:Array Value) (e:Nat),(setL cs e vs).size = cs.size
  | [],_,_=>rfl
  | v :: r,cs,e=>by
    unfold setL
    rw [setL_size r]
    simp
theorem setL_at:∀ (vs:List Value) (cs:Array Value) (e j:Nat),e + vs.length≤cs.size→(setL cs e vs)[j]? = if e≤j∧j < e + vs.length then vs[j - e]? else cs[j]?
  | [],cs,e,j,h=>by
    rw [if_neg (by intro hh;simp only [List.length_nil] at hh;omega)]
    rfl
  | v :: r,cs,e,j,h=>by
    rw [List.length_cons] at h
    unfold setL
    rw [setL_at r _ (e + 1) j (by simp;omega),List.length_cons]
    by_cases h1:e + 1≤j∧j < e + 1 + r.length
    · rw [if_pos h1,if_pos (by omega),show j - e = (j - (e + 1)) + 1 by omega,List.getElem?_cons_succ]
    · rw [if_neg h1]
      by_cases h2:e = j
      · subst h2
        rw [if_pos (by omega),Nat.sub_self,List.getElem?_cons_zero,Array.getElem?_setIfInBounds_self_of_lt (by omega)]
      · rw [if_neg (by omega),Array.getElem?_setIfInBounds_ne h2]
theorem setW_row:∀ (vs:List Value) (w:World) (g e:Nat) (cs:Array Value) (ty:TypeId),w.heap[g]? = some (.cells cs ty (0,0))→(setW w g e vs).heap[g]? = some (.cells (setL cs e vs) ty (0,0))
  | [],w,g,e,cs,ty,h=>h
  | v :: r,w,g,e,cs,ty,h=>setW_row r _ g (e + 1) _ ty (heap_setCell_same w g e _ _ _ h)
theorem setW_other:∀ (vs:List Value) (w:World) (g e k:Nat),k ≠ g→(setW w g e vs).heap[k]? = w.heap[k]?
  | [],w,g,e,k,h=>rfl
  | v :: r,w,g,e,k,h=>(setW_other r _ g (e + 1) k h).trans (heap_setCell_other w ⟨g,e,none⟩ k _ h)
theorem setW_below:∀ (vs:List Value) {B:Nat} {w0 w:World} {g:Nat} (e:Nat),Below B w0 w→B≤g→Below B w0 (setW w g e vs)
  | [],_,_,_,_,_,h,_=>h
  | v :: r,B,w0,w,g,e,h,hg=>setW_below r (e + 1) (h.setCell (p:=⟨g,e,none⟩) hg v) hg
def elevW (w:World) (g e:Nat) (o:Ov) (s:OS):World :=
  ((((((((((w.setCell ⟨g,e,none⟩ (.int .u8 (o.kind:Int))).setCell ⟨g,e + 1,none⟩ (.slice s.pA s.pn s.pc)).setCell ⟨g,e + 2,none⟩ (.int .i64 o.at_)).setCell ⟨g,e + 3,none⟩ (.slice s.tA s.tn s.tc)).setCell ⟨g,e + 4,none⟩ (.int .u64 (o.id:Int))).setCell ⟨g,e + 5,none⟩ (.bool o.leaf)).setCell ⟨g,e + 6,none⟩ (.string ⟨o.label.toArray⟩)).setCell ⟨g,e + 7,none⟩ (.string ⟨o.key.toArray⟩)).setCell ⟨g,e + 8,none⟩ (.string ⟨o.value.toArray⟩)).setCell ⟨g,e + 9,none⟩ (.bool o.gone)).setCell ⟨g,e + 10,none⟩ (.slice s.qA s.qn s.qc)
theorem elevW_eq (w:World) (g e:Nat) (o:Ov) (s:OS):elevW w g e o s = setW w g e (opL (o,s)):=rfl
theorem flat_set (l:List (Ov × OS)) (q:Nat) (x:Ov × OS) (hq:q < l.length) (j:Nat):((l.set q x).flatMap opL)[j]? = if q * 11≤j∧j < q * 11 + 11 then (opL x)[j - q * 11]? else (l.flatMap opL)[j]?:=by
  have hlen:(l.set q x).length = l.length:=by simp
  by_cases hj:j < l.length * 11
  · have hd:=Nat.div_add_mod j 11
    have hm:=Nat.mod_lt j (show 0 < 11 by omega)
    have hdl:j / 11 < l.length:=by omega
    have hj2:j = (j / 11) * 11 + j % 11:=by omega
    by_cases hqj:j / 11 = q
    · rw [if_pos (by omega)]
      have h1:(opL x)[j % 11]? = some ((opL x)[j % 11]'(by rw [opL_len];exact hm)):=List.getElem?_eq_getElem _
      have h2:(l.set q x)[j / 11]? = some x:=by rw [hqj];simp [hq]
      have h3:=chunk_of opL 11 opL_len (l.set q x) (j / 11) (j % 11) x _ h2 h1
      rw [← hj2] at h3
      rw [h3,show j - q * 11 = j % 11 by omega,h1]
    · rw [if_neg (by omega)]
      have h0:l[j / 11]? = some (l[j / 11]'hdl):=List.getElem?_eq_getElem _
      have h1:(opL (l[j / 11]'hdl))[j % 11]? = some ((opL (l[j / 11]'hdl))[j % 11]'(by rw [opL_len];exact hm)):=List.getElem?_eq_getElem _
      have h2:(l.set q x)[j / 11]? = some (l[j / 11]'hdl):=by rw [List.getElem?_set_ne (fun e=>hqj e.symm),h0]
      have h3:=chunk_of opL 11 opL_len (l.set q x) (j / 11) (j % 11) _ _ h2 h1
      have h4:=chunk_of opL 11 opL_len l (j / 11) (j % 11) _ _ h0 h1
      rw [← hj2] at h3 h4
      rw [h3,h4]
  · rw [List.getElem?_eq_none (by rw [chunk_len opL 11 opL_len,hlen];omega),if_neg (by omega),List.getElem?_eq_none (by rw [chunk_len opL 11 opL_len];omega)]
theorem OwnO.set {base:Nat} {w:World} {g n c q:Nat} {l:List (Ov × OS)} {o:Ov} {s:OS} (h:OwnO base w (.slice (some ⟨g,0,none⟩) n c) l) (hq:q < l.length) :
    OwnO base (elevW w g (q * 11) o s) (.slice (some ⟨g,0,none⟩) n c) (l.set q (o,s)):=by
  obtain ⟨h1,h2⟩:=h
  rcases h2 with ⟨e,-⟩ | ⟨g2,cap,cur,e,hb,hg,hnc,hcm,hcs,hxs⟩
  · cases e
  · injection e with e1 e2 e3
    injection e1 with e1
    injection e1 with e1
    subst e1 e2 e3
    have hlen:(l.set q (o,s)).length = l.length:=by simp
    have hsz:q * 11 + (opL (o,s)).length≤cur.size:=by rw [opL_len,hcs];omega
    refine ⟨by rw [chunk_len opL 11 opL_len],.inr ⟨g,c,setL cur (q * 11) (opL (o,s)),by rw [hlen],hb,by rw [elevW_eq];exact setW_row _ _ _ _ _ _ hg,by omega,hcm,by rw [setL_size];exact hcs,?_⟩⟩
    refine List.ext_getElem? fun j=>?_
    rw [flat_set l q (o,s) hq,hlen,List.getElem?_take]
    by_cases hj:j < l.length * 11
    · rw [if_pos hj,Array.getElem?_toList,setL_at _ _ _ _ hsz,opL_len]
      split
      · rfl
      · rw [← hxs,List.getElem?_take,if_pos hj,Array.getElem?_toList]
    · rw [if_neg hj,if_neg (by omega),List.getElem?_eq_none (by rw [chunk_len opL 11 opL_len];omega)]
end Go.Proofs.Ytidimannfemnmaa.Sqr
namespace Go.Proofs.Ytidimannfemnmaa.Sqr
open Go.RowKit Top Shf Sim
set_option maxRecDepth 20000

def NodeS (w:World) (q:List Int) (e:Ending) (w':World):Prop:=∃ A n c b,e = .returned (.tuple #[.slice A n c,.bool b])∧P4.OwnI w.heap.size w' (.slice A n c) q∧Below w.heap.size w w'
theorem nodeS {w:World} {a:Ov} {p:List Int} {e:Ending} {w':World} (h:NodeA w (nodeV (chV a) p) e w'):NodeS w (nodeD a p) e w':=by
  unfold nodeD
  rcases h with ⟨h1,rfl,hb⟩ | ⟨v,xs,h1,rfl,h2,hb⟩
  · rw [h1]
    exact ⟨none,0,0,_,rfl,P4.OwnI.nil_ _ _,hb⟩
  · rw [h1]
    obtain ⟨A,n,c,rfl,-⟩:=P4.OwnI.shape h2
    exact ⟨A,n,c,_,rfl,h2,hb⟩
def GapS (w:World) (q:List Int) (g:Int) (e:Ending) (w':World):Prop:=∃ A n c b,e = .returned (.tuple #[.slice A n c,.int .i64 g,.bool b])∧P4.OwnI w.heap.size w' (.slice A n c) q∧Below w.heap.size w w'
theorem gapS {w:World} {a:Ov} {p:List Int} {i:Int} {first:Bool} {e:Ending} {w':World} (h:GapA w (nodeV (chV a) p) (gapV (chV a) p i first) e w'):GapS w (nodeD a p) (gapD a p i first) e w':=by
  unfold nodeD gapD
  rcases h with ⟨h1,rfl,hb⟩ | ⟨v,xs,h1,rfl,h2,hb⟩
  · rw [h1,if_pos rfl]
    exact ⟨none,0,0,_,rfl,P4.OwnI.nil_ _ _,hb⟩
  · rw [h1,if_neg (by simp)]
    obtain ⟨A,n,c,rfl,-⟩:=P4.OwnI.shape h2
    exact ⟨A,n,c,_,rfl,h2,hb⟩
theorem nodeD_ok {a:Ov} (hl:Slen a) (ho:OvOk a) {p:List Int} (hf:Fit p):(nodeD a p).length≤p.length + 1001∧Fit (nodeD a p):=by
  unfold nodeD
  cases h:nodeV (chV a) p with
  | none=>exact ⟨Nat.zero_le _,fun x hx=>by simp at hx⟩
  | some xs=>exact node_ok hl ho.pfit ho.tfit ho.at_ h hf
theorem gapD_in {a:Ov} {p:List Int} {i:Int} {first:Bool} (h:InI i):InI (gapD a p i first):=by
  unfold gapD
  split
  · unfold InI;omega
  · exact gap_in h
def OpA (w:World) (b:Ov) (e:Ending) (w':World):Prop:=∃ s,e = .returned (.agg (opCells b s))∧OpIn w' b s∧Below w.heap.size w w'
theorem with_path {W:World} {b:Ov} {s:OS} {A:Option Addr} {n c:Nat} {q:List Int} (h:OpIn W b s) (hA:Its W A n q) (h1:n≤c) (h2:c≤maxLen) (h3:A = none→c = 0) (h4:q.length≤500000) (h5:Fit q):OpIn W { b with path:=q } { s with pA:=A,pn:=n,pc:=c } :=
  { h with path:=hA,pnc:=h1,pcm:=h2,pnil:=h3,pfew:=by have:=hA.1;show n≤500000;omega,pfit:=h5 }
theorem with_to {W:World} {b:Ov} {s:OS} {A:Option Addr} {n c:Nat} {q:List Int} (h:OpIn W b s) (hA:Its W A n q) (h1:n≤c) (h2:c≤maxLen) (h3:A = none→c = 0) (h4:q.length≤500000) (h5:Fit q):OpIn W { b with to_:=q } { s with tA:=A,tn:=n,tc:=c } :=
  { h with to_:=hA,tnc:=h1,tcm:=h2,tnil:=h3,tfew:=by have:=hA.1;show n≤500000;omega,tfit:=h5 }
theorem with_at {W:World} {b:Ov} {s:OS} {i:Int} (h:OpIn W b s) (hi:InI i):OpIn W { b with at_:=i } s:={ h with at_:=hi }
theorem del_in {W:World} {A:Option Addr} {n c:Nat} {q:List Int} (hA:Its W A n q) (h1:n≤c) (h2:c≤maxLen) (h3:A = none→c = 0) (h4:q.length≤500000) (h5:Fit q):OpIn W (delV q) ⟨A,n,c,none,0,0,none,0,0⟩ :=
  ⟨show 2 < 256 by decide,hA,h1,h2,h3,⟨by show (-9223372036854775808:Int)≤0;omega,by show (0:Int)≤9223372036854775807;omega⟩,Its.none_ _,Nat.le_refl _,Nat.zero_le _,fun _=>rfl,show 0 < 18446744073709551616 by decide,Nat.zero_le _,Nat.zero_le _,Nat.zero_le _,P5.PcsIn.nil W,Nat.le_refl _,Nat.zero_le _,fun _=>rfl,by have:=hA.1;show n≤500000;omega,Nat.zero_le _,Nat.zero_le _,h5,fun x hx=>by simp [delV] at hx⟩
set_option maxHeartbeats 8000000 in
theorem deleteBehind_any (w:World) (o:Ov) (s:OS) (A:Option Addr) (n cp:Nat) (p:List Int) (ho:OpIn w o s) (hl:Slen o) (hA:Its w A n p) (hn:n≤cp) (hcp:cp≤maxLen) (hnil:A = none→cp = 0) (hfew:n≤400000) (hf:Fit p) :
    Calls Try.prog 186 #[.agg (opCells o s),.slice A n cp] w (OpA w (delV (nodeD o p))):=by
  obtain ⟨z1,z2,z4,z5⟩:=two_news w (.cells (opCells o s) 52) (.cells zero11 52)
  obtain ⟨W2,hW2⟩:∃ Q9,Q9 = ((w.alloc (.cells (opCells o s) 52)).alloc (.cells zero11 52)):=⟨_,rfl⟩
  rw [← hW2] at z1 z2 z4 z5
  have z1':=Lib.hid z1
  have z2':=Lib.hid z2
  have z4':=Lib.hid z4
  have z5':=Lib.hid z5
  have hq:=Lib.hid (nodeD_ok hl (op_ok ho) hf)
  have hpl:=Lib.hid hA.1
  have hno:=Lib.hid ((Node_any W2 o s A n cp p (ho.below z4) hl (hA.below z4) hn hcp hfew).mono fun e w' h=>nodeS h)
  obtain ⟨q1,hq1⟩:∃ Q9,Q9 = nodeD o p:=⟨_,rfl⟩
  rw [← hq1] at hno hq ⊢
  obtain ⟨o0,o1,o2,o3,o4,o5,o6,o7,o8,o9,o10⟩:=op_cells z1
  rw [hW2] at o0 o1 o2 o3 o4 o5 o6 o7 o8 o9 o10
  clear ho hl hA hf z1 z2 z4 z5 hq1 hnil
  unfold opCells at hW2 hno
  unfold zero11 at hW2
  conv=>arg 3;unfold opCells
  go_enter Try.func186,Try.ntmps186
  go_upto_region 2 with (go_at_call 114;(rw [← hW2];refine hno.out.mono ?_;rintro e w1 ⟨A1,n1,c1,bb,rfl,h1,hb1⟩;have H1:=Lib.hid h1;have B1:=Lib.hid hb1;clear h1 hb1 o0 o1 o2 o3 o4 o5 o6 o7 o8 o9 o10))
  have y2':=Lib.hid ((B1.out.block (w.heap.size + 1) (by have:=z5'.out;omega)).trans z2'.out)
  have y2:=y2'.out
  unfold zero11 at y2
  obtain ⟨q0,x1,q2,q3,q4,q5,q6,q7,q8,q9,q10,qf⟩:=eleven_cells y2
  have hlt:=(Array.getElem?_eq_some_iff.1 y2).1
  clear y2
  go_wp2_with fail
  obtain ⟨W9,hW9,R9,B9,Z9,K9⟩:=end_op (o:=delV q1) (s:=⟨A1,n1,c1,none,0,0,none,0,0⟩) (r:=w.heap.size + 1) (by omega) (z4'.out.trans (B1.out.mono z4'.out.size)) (show w1.heap[w.heap.size + 1]? = some (.cells #[.int .u8 0,.slice none 0 0,.int .i64 0,.slice none 0 0,.int .u64 0,.bool false,.string ⟨#[]⟩,.string ⟨#[]⟩,.string ⟨#[]⟩,.bool false,.slice none 0 0] _ (0,0)) from y2'.out)
  have hW9':W9 = (((((((((((w1.setCell ⟨w.heap.size + 1,0,none⟩ (.int .u8 2)).setCell ⟨w.heap.size + 1,1,none⟩ (.slice A1 n1 c1)).setCell ⟨w.heap.size + 1,2,none⟩ (.int .i64 0)).setCell ⟨w.heap.size + 1,3,none⟩ (.slice none 0 0)).setCell ⟨w.heap.size + 1,4,none⟩ (.int .u64 0)).setCell ⟨w.heap.size + 1,5,none⟩ (.bool false)).setCell ⟨w.heap.size + 1,6,none⟩ (.string ⟨#[]⟩)).setCell ⟨w.heap.size + 1,7,none⟩ (.string ⟨#[]⟩)).setCell ⟨w.heap.size + 1,8,none⟩ (.string ⟨#[]⟩)).setCell ⟨w.heap.size + 1,9,none⟩ (.bool false)).setCell ⟨w.heap.size + 1,10,none⟩ (.slice none 0 0)):=hW9
  rw [← hW9']
  clear hW9' hW9
  unfold opCells at R9
  obtain ⟨d0,d1,d2,d3,d4,d5,d6,d7,d8,d9,d10,df⟩:=eleven_cells R9
  refine bodyPost_ret (v:=.agg (opCells (delV q1) ⟨A1,n1,c1,none,0,0,none,0,0⟩)) (by simp [results,Try.results186,go_sem,d0,d1,d2,d3,d4,d5,d6,d7,d8,d9,d10,opCells,delV]) rfl ?_
  obtain ⟨e1,e2,e3,e4,e5⟩:=own_facts (Top.own_kept H1.out fun k h1 h2=>K9 k (by have:=z5'.out;omega))
  exact ⟨_,rfl,del_in e1 e2 e3 e4 (by have:=hq.out.1;have:=hpl.out;omega) hq.out.2,B9⟩
end Go.Proofs.Ytidimannfemnmaa.Sqr
namespace Go.Proofs.Ytidimannfemnmaa.Sqr
open Go.RowKit Top Shf Sim
set_option maxRecDepth 20000

set_option maxHeartbeats 16000000 in
theorem shifted_any (w:World) (b a:Ov) (sb sa:OS) (prior:Bool) (hb:OpIn w b sb) (ha:OpIn w a sa) (hlb:Slen b) (hla:Slen a) :
    Calls Try.prog 189 #[.agg (opCells b sb),.agg (opCells a sa),.bool prior] w (OpA w (shiftedV b a prior)):=by
  obtain ⟨z1,z2,z3,z4,z5⟩:=Top.three_new w (.cells (opCells b sb) 52) (.cells (opCells a sa) 52) (.cells zero11 52)
  obtain ⟨W3,hW3⟩:∃ Q9,Q9 = ((w.alloc (.cells (opCells b sb) 52)).alloc (.cells (opCells a sa) 52)).alloc (.cells zero11 52):=⟨_,rfl⟩
  rw [← hW3] at z1 z2 z3 z4 z5
  have z1':=Lib.hid z1
  have z2':=Lib.hid z2
  have z3':=Lib.hid z3
  have z4':=Lib.hid z4
  have z5':=Lib.hid z5
  have hpn:sb.pn≤1000:=by have:=hb.path.1;have:=hlb.1;omega
  have htn:sb.tn≤1000:=by have:=hb.to_.1;have:=hlb.2;omega
  have hno:=Lib.hid (fun (W:World) (hB:Below w.heap.size w W)=>(Node_any W a sa sb.pA sb.pn sb.pc b.path (ha.below hB) hla (hb.below hB).path hb.pnc hb.pcm (by omega)).mono fun e w' h=>nodeS h)
  have hgp:=Lib.hid (fun (W:World) (hB:Below w.heap.size w W)=>(Gap_any W a sa sb.pA sb.pn sb.pc b.path b.at_ prior (ha.below hB) hla (hb.below hB).path hb.pnc hb.pcm (by omega)).mono fun e w' h=>gapS h)
  have hgt:=Lib.hid (fun (W:World) (hB:Below w.heap.size w W)=>(Gap_any W a sa sb.tA sb.tn sb.tc b.to_ b.at_ prior (ha.below hB) hla (hb.below hB).to_ hb.tnc hb.tcm (by omega)).mono fun e w' h=>gapS h)
  have hq1:=Lib.hid (nodeD_ok hla (op_ok ha) (op_ok hb).pfit)
  have hq2:=Lib.hid (nodeD_ok hla (op_ok ha) (op_ok hb).tfit)
  have hg1:=Lib.hid (gapD_in (a:=a) (p:=b.path) (first:=prior) (op_ok hb).at_)
  have hg2:=Lib.hid (gapD_in (a:=a) (p:=b.to_) (first:=prior) (op_ok hb).at_)
  obtain ⟨r,hr⟩:∃ r,r = shiftedV b a prior:=⟨_,rfl⟩
  rw [← hr]
  have hsv0:=hr
  unfold shiftedV at hsv0
  have hsv:=Lib.hid hsv0
  clear hsv0
  have hlen:=Lib.hid (show b.path.length≤1000∧b.to_.length≤1000 from hlb)
  have hb':=Lib.hid (fun (W:World) (hB:Below w.heap.size w W)=>hb.below hB)
  generalize nodeD a b.path = q1 at hno hgp hq1 hsv
  generalize nodeD a b.to_ = q2 at hgt hq2 hsv
  generalize gapD a b.path b.at_ prior = g1 at hgp hg1 hsv
  generalize gapD a b.to_ b.at_ prior = g2 at hgt hg2 hsv
  obtain ⟨o0,o1,o2,o3,o4,o5,o6,o7,o8,o9,o10⟩:=op_cells z1
  obtain ⟨a0,a1,a2,a3,a4,a5,a6,a7,a8,a9,a10⟩:=op_cells z2
  rw [hW3] at o0 o1 o2 o3 o4 o5 o6 o7 o8 o9 o10 a0 a1 a2 a3 a4 a5 a6 a7 a8 a9 a10
  clear hb ha hlb hla z1 z2 z3 z4 z5 hr hpn htn
  by_cases hk1:b.kind = 1
  · have hkI:=Lib.hid (show (b.kind:Int) = 1 by omega)
    have hre:=Lib.hid (show r = { b with path:=q1,at_:=g1 } by rw [hsv.out,if_pos hk1])
    clear hsv hk1 hno hgt hq2 hg2
    unfold opCells at hgp
    unfold opCells at hW3
    unfold zero11 at hW3
    conv=>arg 3;unfold opCells
    rw [hkI.out] at hW3 o0 ⊢
    go_enter Try.func189,Try.ntmps189
    go_upto_region 8 with (go_at_call 47;(rw [← hW3];refine (hgp.out _ z4'.out).mono ?_;rintro e w1 ⟨A1,n1,c1,bb,rfl,h1,hb1⟩;have H1:=Lib.hid h1;have E1:=Lib.hid hb1;have y1:=(hb1.block w.heap.size (by have:=z5'.out;omega)).trans z1'.out;have y2:=(hb1.block (w.heap.size + 1) (by have:=z5'.out;omega)).trans z2'.out;have Y1:=Lib.hid y1;have hof:=op_frozen y1;have hlt:w.heap.size < w1.heap.size:=(Array.getElem?_eq_some_iff.1 y1).1;clear o0 o1 o2 o3 o4 o5 o6 o7 o8 o9 o10 a0 a1 a2 a3 a4 a5 a6 a7 a8 a9 a10;obtain ⟨o0,o1,o2,o3,o4,o5,o6,o7,o8,o9,o10⟩:=op_cells y1;obtain ⟨a0,a1,a2,a3,a4,a5,a6,a7,a8,a9,a10⟩:=op_cells y2;clear y1 y2;rw [hkI.out] at o0;clear h1 hb1))
    obtain ⟨W5,hW5⟩:∃ Q9,Q9 = ((w1.setCell ⟨w.heap.size,1,none⟩ (.slice A1 n1 c1)).setCell ⟨w.heap.size,2,none⟩ (.int .i64 g1)):=⟨_,rfl⟩
    rw [← hW5]
    have R1:=Lib.hid (show W5.heap[w.heap.size]? = some (.cells (opCells ({ b with path:=q1,at_:=g1 }:Ov) ({ sb with pA:=A1,pn:=n1,pc:=c1 }:OS)) 52 (0,0)) by rw [hW5];exact set_op2 g1 (set_op1 A1 n1 c1 q1 Y1.out))
    have O5:=Lib.hid (show ∀ k,k ≠ w.heap.size→W5.heap[k]? = w1.heap[k]? by intro k hk;rw [hW5];exact (heap_setCell_other _ _ k _ hk).trans (heap_setCell_other _ _ k _ hk))
    have B5:=Lib.hid (show Below w.heap.size w W5 by rw [hW5];exact (((z4'.out.trans (E1.out.mono z4'.out.size)).setCell (p:=⟨w.heap.size,1,none⟩) (Nat.le_refl _) _).setCell (p:=⟨w.heap.size,2,none⟩) (Nat.le_refl _) _))
    have Z5:=Lib.hid (show W5.heap.size = w1.heap.size by rw [hW5];simp)
    have hz3:=Lib.hid ((E1.out.block (w.heap.size + 1 + 1) (by have:=z5'.out;omega)).trans z3'.out)
    clear hW5 o0 o1 o2 o3 o4 o5 o6 o7 o8 o9 o10 a0 a1 a2 a3 a4 a5 a6 a7 a8 a9 a10 hof hlt
    have hfin:=Lib.hid (fun (W9:World) (B9:Below w.heap.size w W9) (K9:∀ k,k ≠ (w.heap.size + 1 + 1)→W9.heap[k]? = W5.heap[k]?)=>show OpIn W9 { b with path:=q1,at_:=g1 } { sb with pA:=A1,pn:=n1,pc:=c1 } from by
      obtain ⟨e1,e2,e3,e4,e5⟩:=own_facts (Top.own_kept H1.out fun k h1 h2=>(K9 k (by have:=z5'.out;omega)).trans (O5.out k (by have:=z5'.out;omega)))
      exact with_at (b:={ b with path:=q1 }) (with_path (hb'.out W9 B9) e1 e2 e3 e4 (by have:=hq1.out.1;have:=hlen.out.1;omega) hq1.out.2) hg1.out)
    have r3:=(O5.out (w.heap.size + 1 + 1) (by omega)).trans hz3.out
    have r3h:=Lib.hid r3
    unfold zero11 at r3
    obtain ⟨o0,o1,o2,o3,o4,o5,o6,o7,o8,o9,o10⟩:=op_cells R1.out
    obtain ⟨d0,d1,d2,d3,d4,d5,d6,d7,d8,d9,d10,df⟩:=eleven_cells r3
    rw [show ((({ b with path:=q1,at_:=g1 }:Ov)).kind:Int) = _ from hkI.out] at o0
    dsimp only at o0 o1 o2 o3 o4 o5 o6 o7 o8 o9 o10
    have hlt2:(w.heap.size + 1 + 1) < W5.heap.size:=(Array.getElem?_eq_some_iff.1 r3).1
    have hlt0:w.heap.size < W5.heap.size:=by omega
    clear r3
    go_wp2_with fail
    obtain ⟨W9,hW9,R9,B9,Z9,K9⟩:=end_op (o:=({ b with path:=q1,at_:=g1 }:Ov)) (s:=({ sb with pA:=A1,pn:=n1,pc:=c1 }:OS)) (r:=(w.heap.size + 1 + 1)) (by omega) B5.out (show W5.heap[(w.heap.size + 1 + 1)]? = some (.cells #[.int .u8 0,.slice none 0 0,.int .i64 0,.slice none 0 0,.int .u64 0,.bool false,.string ⟨#[]⟩,.string ⟨#[]⟩,.string ⟨#[]⟩,.bool false,.slice none 0 0] _ (0,0)) from r3h.out)
    rw [show ((({ b with path:=q1,at_:=g1 }:Ov)).kind:Int) = _ from hkI.out] at hW9
    have hW9':W9 = (((((((((((W5.setCell ⟨(w.heap.size + 1 + 1),0,none⟩ (.int .u8 1)).setCell ⟨(w.heap.size + 1 + 1),1,none⟩ (.slice A1 n1 c1)).setCell ⟨(w.heap.size + 1 + 1),2,none⟩ (.int .i64 g1)).setCell ⟨(w.heap.size + 1 + 1),3,none⟩ (.slice sb.tA sb.tn sb.tc)).setCell ⟨(w.heap.size + 1 + 1),4,none⟩ (.int .u64 (b.id:Int))).setCell ⟨(w.heap.size + 1 + 1),5,none⟩ (.bool b.leaf)).setCell ⟨(w.heap.size + 1 + 1),6,none⟩ (.string ⟨b.label.toArray⟩)).setCell ⟨(w.heap.size + 1 + 1),7,none⟩ (.string ⟨b.key.toArray⟩)).setCell ⟨(w.heap.size + 1 + 1),8,none⟩ (.string ⟨b.value.toArray⟩)).setCell ⟨(w.heap.size + 1 + 1),9,none⟩ (.bool b.gone)).setCell ⟨(w.heap.size + 1 + 1),10,none⟩ (.slice sb.qA sb.qn sb.qc)):=hW9
    rw [← hW9']
    clear hW9' hW9 d0 d1 d2 d3 d4 d5 d6 d7 d8 d9 d10
    unfold opCells at R9
    obtain ⟨d0,d1,d2,d3,d4,d5,d6,d7,d8,d9,d10,dg⟩:=eleven_cells R9
    dsimp only at d0 d1 d2 d3 d4 d5 d6 d7 d8 d9 d10
    refine bodyPost_ret (v:=.agg (opCells (({ b with path:=q1,at_:=g1 }:Ov)) (({ sb with pA:=A1,pn:=n1,pc:=c1 }:OS)))) (by simp [results,Try.results189,go_sem,d0,d1,d2,d3,d4,d5,d6,d7,d8,d9,d10,opCells]) rfl ?_
    exact ⟨_,by rw [hre.out],by rw [hre.out];exact hfin.out W9 B9 K9,B9⟩
  · by_cases hk3:b.kind = 3
    · have hkI:=Lib.hid (show (b.kind:Int) = 3 by omega)
      have hre:=Lib.hid (show r = { b with path:=q1,to_:=q2,at_:=g2 } by rw [hsv.out,if_neg hk1,if_pos hk3])
      clear hsv hk1 hk3 hgp hg1
      unfold opCells at hno hgt
      unfold opCells at hW3
      unfold zero11 at hW3
      conv=>arg 3;unfold opCells
      rw [hkI.out] at hW3 o0 ⊢
      go_enter Try.func189,Try.ntmps189
      go_upto_region 7 with (go_at_call 114;(rw [← hW3];refine (hno.out _ z4'.out).mono ?_;rintro e w1 ⟨A1,n1,c1,bb,rfl,h1,hb1⟩;have H1:=Lib.hid h1;have E1:=Lib.hid hb1;have y1:=(hb1.block w.heap.size (by have:=z5'.out;omega)).trans z1'.out;have y2:=(hb1.block (w.heap.size + 1) (by have:=z5'.out;omega)).trans z2'.out;have Y1:=Lib.hid y1;have hof:=op_frozen y1;have hlt:w.heap.size < w1.heap.size:=(Array.getElem?_eq_some_iff.1 y1).1;clear o0 o1 o2 o3 o4 o5 o6 o7 o8 o9 o10 a0 a1 a2 a3 a4 a5 a6 a7 a8 a9 a10;obtain ⟨o0,o1,o2,o3,o4,o5,o6,o7,o8,o9,o10⟩:=op_cells y1;obtain ⟨a0,a1,a2,a3,a4,a5,a6,a7,a8,a9,a10⟩:=op_cells y2;clear y1 y2;rw [hkI.out] at o0;clear h1 hb1))
      obtain ⟨W4,hW4⟩:∃ Q9,Q9 = w1.setCell ⟨w.heap.size,1,none⟩ (.slice A1 n1 c1):=⟨_,rfl⟩
      rw [← hW4]
      have R4:=Lib.hid (show W4.heap[w.heap.size]? = some (.cells (opCells ({ b with path:=q1 }:Ov) ({ sb with pA:=A1,pn:=n1,pc:=c1 }:OS)) 52 (0,0)) by rw [hW4];exact set_op1 A1 n1 c1 q1 Y1.out)
      have O4:=Lib.hid (show ∀ k,k ≠ w.heap.size→W4.heap[k]? = w1.heap[k]? by intro k hk;rw [hW4];exact heap_setCell_other _ _ k _ hk)
      have B4:=Lib.hid (show Below w.heap.size w W4 by rw [hW4];exact ((z4'.out.trans (E1.out.mono z4'.out.size)).setCell (p:=⟨w.heap.size,1,none⟩) (Nat.le_refl _) _))
      have Z4:=Lib.hid (show W4.heap.size = w1.heap.size by rw [hW4];simp)
      have s1:=Lib.hid (show W3.heap.size≤w1.heap.size from E1.out.size)
      have ha4:=Lib.hid ((O4.out (w.heap.size + 1) (by omega)).trans ((E1.out.block (w.heap.size + 1) (by have:=z5'.out;omega)).trans z2'.out))
      have hx4:=Lib.hid ((O4.out (w.heap.size + 1 + 1) (by omega)).trans ((E1.out.block (w.heap.size + 1 + 1) (by have:=z5'.out;omega)).trans z3'.out))
      clear hW4 o0 o1 o2 o3 o4 o5 o6 o7 o8 o9 o10 a0 a1 a2 a3 a4 a5 a6 a7 a8 a9 a10 hof hlt Y1
      obtain ⟨o0,o1,o2,o3,o4,o5,o6,o7,o8,o9,o10⟩:=op_cells R4.out
      obtain ⟨a0,a1,a2,a3,a4,a5,a6,a7,a8,a9,a10⟩:=op_cells ha4.out
      dsimp only at o0 o1 o2 o3 o4 o5 o6 o7 o8 o9 o10
      rw [hkI.out] at o0
      have hl4:w.heap.size < W4.heap.size:=(Array.getElem?_eq_some_iff.1 R4.out).1
      go_upto_region 8 with (go_at_call 47;(refine (hgt.out _ B4.out).mono ?_;rintro e w2 ⟨A2,n2,c2,bb2,rfl,h2,hb2⟩;have H2:=Lib.hid h2;have E2:=Lib.hid hb2;have y1:=(hb2.block w.heap.size (by have:=z5'.out;have:=Z4.out;have:=s1.out;omega)).trans R4.out;have Y1:=Lib.hid y1;have hof:=op_frozen y1;have hlt:w.heap.size < w2.heap.size:=(Array.getElem?_eq_some_iff.1 y1).1;clear o0 o1 o2 o3 o4 o5 o6 o7 o8 o9 o10 a0 a1 a2 a3 a4 a5 a6 a7 a8 a9 a10;obtain ⟨o0,o1,o2,o3,o4,o5,o6,o7,o8,o9,o10⟩:=op_cells y1;clear y1;dsimp only at o0 o1 o2 o3 o4 o5 o6 o7 o8 o9 o10;rw [hkI.out] at o0;clear h2 hb2))
      obtain ⟨W5,hW5⟩:∃ Q9,Q9 = ((w2.setCell ⟨w.heap.size,3,none⟩ (.slice A2 n2 c2)).setCell ⟨w.heap.size,2,none⟩ (.int .i64 g2)):=⟨_,rfl⟩
      rw [← hW5]
      have R1:=Lib.hid (show W5.heap[w.heap.size]? = some (.cells (opCells ({ b with path:=q1,to_:=q2,at_:=g2 }:Ov) ({ sb with pA:=A1,pn:=n1,pc:=c1,tA:=A2,tn:=n2,tc:=c2 }:OS)) 52 (0,0)) by rw [hW5];exact set_op2 g2 (set_op3 A2 n2 c2 q2 Y1.out))
      have O5:=Lib.hid (show ∀ k,k ≠ w.heap.size→W5.heap[k]? = w2.heap[k]? by intro k hk;rw [hW5];exact (heap_setCell_other _ _ k _ hk).trans (heap_setCell_other _ _ k _ hk))
      have B5:=Lib.hid (show Below w.heap.size w W5 by rw [hW5];exact (((B4.out.trans (E2.out.mono B4.out.size)).setCell (p:=⟨w.heap.size,3,none⟩) (Nat.le_refl _) _).setCell (p:=⟨w.heap.size,2,none⟩) (Nat.le_refl _) _))
      have Z5:=Lib.hid (show W5.heap.size = w2.heap.size by rw [hW5];simp)
      have hz3:=Lib.hid ((E2.out.block (w.heap.size + 1 + 1) (by have:=z5'.out;have:=Z4.out;have:=s1.out;omega)).trans hx4.out)
      clear hW5 o0 o1 o2 o3 o4 o5 o6 o7 o8 o9 o10  hof hlt
      have G1:=Lib.hid (Top.own_kept (w':=w2) (Top.own_kept (w':=W4) H1.out fun k h1 h2=>O4.out k (by have:=z5'.out;omega)) fun k h1 h2=>E2.out.block k h2)
      have hfin:=Lib.hid (fun (W9:World) (B9:Below w.heap.size w W9) (K9:∀ k,k ≠ (w.heap.size + 1 + 1)→W9.heap[k]? = W5.heap[k]?)=>show OpIn W9 { b with path:=q1,to_:=q2,at_:=g2 } { sb with pA:=A1,pn:=n1,pc:=c1,tA:=A2,tn:=n2,tc:=c2 } from by
        obtain ⟨e1,e2,e3,e4,e5⟩:=own_facts (Top.own_kept G1.out fun k h1 h2=>(K9 k (by have:=z5'.out;omega)).trans (O5.out k (by have:=z5'.out;omega)))
        obtain ⟨f1,f2,f3,f4,f5⟩:=own_facts (Top.own_kept H2.out fun k h1 h2=>(K9 k (by have:=z5'.out;have:=Z4.out;have:=s1.out;omega)).trans (O5.out k (by have:=z5'.out;have:=Z4.out;have:=s1.out;omega)))
        exact with_at (b:={ b with path:=q1,to_:=q2 }) (with_to (b:={ b with path:=q1 }) (with_path (hb'.out W9 B9) e1 e2 e3 e4 (by have:=hq1.out.1;have:=hlen.out.1;omega) hq1.out.2) f1 f2 f3 f4 (by have:=hq2.out.1;have:=hlen.out.2;omega) hq2.out.2) hg2.out)
      have r3:=(O5.out (w.heap.size + 1 + 1) (by omega)).trans hz3.out
      have r3h:=Lib.hid r3
      unfold zero11 at r3
      obtain ⟨o0,o1,o2,o3,o4,o5,o6,o7,o8,o9,o10⟩:=op_cells R1.out
      obtain ⟨d0,d1,d2,d3,d4,d5,d6,d7,d8,d9,d10,df⟩:=eleven_cells r3
      rw [show ((({ b with path:=q1,to_:=q2,at_:=g2 }:Ov)).kind:Int) = _ from hkI.out] at o0
      dsimp only at o0 o1 o2 o3 o4 o5 o6 o7 o8 o9 o10
      have hlt2:(w.heap.size + 1 + 1) < W5.heap.size:=(Array.getElem?_eq_some_iff.1 r3).1
      have hlt0:w.heap.size < W5.heap.size:=by omega
      clear r3
      go_wp2_with fail
      obtain ⟨W9,hW9,R9,B9,Z9,K9⟩:=end_op (o:=({ b with path:=q1,to_:=q2,at_:=g2 }:Ov)) (s:=({ sb with pA:=A1,pn:=n1,pc:=c1,tA:=A2,tn:=n2,tc:=c2 }:OS)) (r:=(w.heap.size + 1 + 1)) (by omega) B5.out (show W5.heap[(w.heap.size + 1 + 1)]? = some (.cells #[.int .u8 0,.slice none 0 0,.int .i64 0,.slice none 0 0,.int .u64 0,.bool false,.string ⟨#[]⟩,.string ⟨#[]⟩,.string ⟨#[]⟩,.bool false,.slice none 0 0] _ (0,0)) from r3h.out)
      rw [show ((({ b with path:=q1,to_:=q2,at_:=g2 }:Ov)).kind:Int) = _ from hkI.out] at hW9
      have hW9':W9 = (((((((((((W5.setCell ⟨(w.heap.size + 1 + 1),0,none⟩ (.int .u8 3)).setCell ⟨(w.heap.size + 1 + 1),1,none⟩ (.slice A1 n1 c1)).setCell ⟨(w.heap.size + 1 + 1),2,none⟩ (.int .i64 g2)).setCell ⟨(w.heap.size + 1 + 1),3,none⟩ (.slice A2 n2 c2)).setCell ⟨(w.heap.size + 1 + 1),4,none⟩ (.int .u64 (b.id:Int))).setCell ⟨(w.heap.size + 1 + 1),5,none⟩ (.bool b.leaf)).setCell ⟨(w.heap.size + 1 + 1),6,none⟩ (.string ⟨b.label.toArray⟩)).setCell ⟨(w.heap.size + 1 + 1),7,none⟩ (.string ⟨b.key.toArray⟩)).setCell ⟨(w.heap.size + 1 + 1),8,none⟩ (.string ⟨b.value.toArray⟩)).setCell ⟨(w.heap.size + 1 + 1),9,none⟩ (.bool b.gone)).setCell ⟨(w.heap.size + 1 + 1),10,none⟩ (.slice sb.qA sb.qn sb.qc)):=hW9
      rw [← hW9']
      clear hW9' hW9 d0 d1 d2 d3 d4 d5 d6 d7 d8 d9 d10
      unfold opCells at R9
      obtain ⟨d0,d1,d2,d3,d4,d5,d6,d7,d8,d9,d10,dg⟩:=eleven_cells R9
      dsimp only at d0 d1 d2 d3 d4 d5 d6 d7 d8 d9 d10
      refine bodyPost_ret (v:=.agg (opCells (({ b with path:=q1,to_:=q2,at_:=g2 }:Ov)) (({ sb with pA:=A1,pn:=n1,pc:=c1,tA:=A2,tn:=n2,tc:=c2 }:OS)))) (by simp [results,Try.results189,go_sem,d0,d1,d2,d3,d4,d5,d6,d7,d8,d9,d10,opCells]) rfl ?_
      exact ⟨_,by rw [hre.out],by rw [hre.out];exact hfin.out W9 B9 K9,B9⟩
    · have e1_:((b.kind:Int) == 1) = false:=by simp;omega
      have e3_:((b.kind:Int) == 3) = false:=by simp;omega
      have hre:=Lib.hid (show r = { b with path:=q1 } by rw [hsv.out,if_neg hk1,if_neg hk3])
      clear hsv hk1 hk3 hgp hg1 hgt hg2 hq2
      unfold opCells at hno
      unfold opCells at hW3
      unfold zero11 at hW3
      conv=>arg 3;unfold opCells
      go_enter Try.func189,Try.ntmps189
      go_upto_region 8 with (go_at_call 114;(rw [← hW3];refine (hno.out _ z4'.out).mono ?_;rintro e w1 ⟨A1,n1,c1,bb,rfl,h1,hb1⟩;have H1:=Lib.hid h1;have E1:=Lib.hid hb1;have y1:=(hb1.block w.heap.size (by have:=z5'.out;omega)).trans z1'.out;have y2:=(hb1.block (w.heap.size + 1) (by have:=z5'.out;omega)).trans z2'.out;have Y1:=Lib.hid y1;have hof:=op_frozen y1;have hlt:w.heap.size < w1.heap.size:=(Array.getElem?_eq_some_iff.1 y1).1;clear o0 o1 o2 o3 o4 o5 o6 o7 o8 o9 o10 a0 a1 a2 a3 a4 a5 a6 a7 a8 a9 a10;obtain ⟨o0,o1,o2,o3,o4,o5,o6,o7,o8,o9,o10⟩:=op_cells y1;obtain ⟨a0,a1,a2,a3,a4,a5,a6,a7,a8,a9,a10⟩:=op_cells y2;clear y1 y2;clear h1 hb1))
      obtain ⟨W5,hW5⟩:∃ Q9,Q9 = (w1.setCell ⟨w.heap.size,1,none⟩ (.slice A1 n1 c1)):=⟨_,rfl⟩
      rw [← hW5]
      have R1:=Lib.hid (show W5.heap[w.heap.size]? = some (.cells (opCells ({ b with path:=q1 }:Ov) ({ sb with pA:=A1,pn:=n1,pc:=c1 }:OS)) 52 (0,0)) by rw [hW5];exact set_op1 A1 n1 c1 q1 Y1.out)
      have O5:=Lib.hid (show ∀ k,k ≠ w.heap.size→W5.heap[k]? = w1.heap[k]? by intro k hk;rw [hW5];exact heap_setCell_other _ _ k _ hk)
      have B5:=Lib.hid (show Below w.heap.size w W5 by rw [hW5];exact ((z4'.out.trans (E1.out.mono z4'.out.size)).setCell (p:=⟨w.heap.size,1,none⟩) (Nat.le_refl _) _))
      have Z5:=Lib.hid (show W5.heap.size = w1.heap.size by rw [hW5];simp)
      have hz3:=Lib.hid ((E1.out.block (w.heap.size + 1 + 1) (by have:=z5'.out;omega)).trans z3'.out)
      clear hW5 o0 o1 o2 o3 o4 o5 o6 o7 o8 o9 o10 a0 a1 a2 a3 a4 a5 a6 a7 a8 a9 a10 hof hlt
      have hfin:=Lib.hid (fun (W9:World) (B9:Below w.heap.size w W9) (K9:∀ k,k ≠ (w.heap.size + 1 + 1)→W9.heap[k]? = W5.heap[k]?)=>show OpIn W9 { b with path:=q1 } { sb with pA:=A1,pn:=n1,pc:=c1 } from by
        obtain ⟨e1,e2,e3,e4,e5⟩:=own_facts (Top.own_kept H1.out fun k h1 h2=>(K9 k (by have:=z5'.out;omega)).trans (O5.out k (by have:=z5'.out;omega)))
        exact with_path (hb'.out W9 B9) e1 e2 e3 e4 (by have:=hq1.out.1;have:=hlen.out.1;omega) hq1.out.2)
      have r3:=(O5.out (w.heap.size + 1 + 1) (by omega)).trans hz3.out
      have r3h:=Lib.hid r3
      unfold zero11 at r3
      obtain ⟨o0,o1,o2,o3,o4,o5,o6,o7,o8,o9,o10⟩:=op_cells R1.out
      obtain ⟨d0,d1,d2,d3,d4,d5,d6,d7,d8,d9,d10,df⟩:=eleven_cells r3
      dsimp only at o0 o1 o2 o3 o4 o5 o6 o7 o8 o9 o10
      have hlt2:(w.heap.size + 1 + 1) < W5.heap.size:=(Array.getElem?_eq_some_iff.1 r3).1
      have hlt0:w.heap.size < W5.heap.size:=by omega
      clear r3
      go_wp2_with fail
      obtain ⟨W9,hW9,R9,B9,Z9,K9⟩:=end_op (o:=({ b with path:=q1 }:Ov)) (s:=({ sb with pA:=A1,pn:=n1,pc:=c1 }:OS)) (r:=(w.heap.size + 1 + 1)) (by omega) B5.out (show W5.heap[(w.heap.size + 1 + 1)]? = some (.cells #[.int .u8 0,.slice none 0 0,.int .i64 0,.slice none 0 0,.int .u64 0,.bool false,.string ⟨#[]⟩,.string ⟨#[]⟩,.string ⟨#[]⟩,.bool false,.slice none 0 0] _ (0,0)) from r3h.out)
      have hW9':W9 = (((((((((((W5.setCell ⟨(w.heap.size + 1 + 1),0,none⟩ (.int .u8 (b.kind:Int))).setCell ⟨(w.heap.size + 1 + 1),1,none⟩ (.slice A1 n1 c1)).setCell ⟨(w.heap.size + 1 + 1),2,none⟩ (.int .i64 b.at_)).setCell ⟨(w.heap.size + 1 + 1),3,none⟩ (.slice sb.tA sb.tn sb.tc)).setCell ⟨(w.heap.size + 1 + 1),4,none⟩ (.int .u64 (b.id:Int))).setCell ⟨(w.heap.size + 1 + 1),5,none⟩ (.bool b.leaf)).setCell ⟨(w.heap.size + 1 + 1),6,none⟩ (.string ⟨b.label.toArray⟩)).setCell ⟨(w.heap.size + 1 + 1),7,none⟩ (.string ⟨b.key.toArray⟩)).setCell ⟨(w.heap.size + 1 + 1),8,none⟩ (.string ⟨b.value.toArray⟩)).setCell ⟨(w.heap.size + 1 + 1),9,none⟩ (.bool b.gone)).setCell ⟨(w.heap.size + 1 + 1),10,none⟩ (.slice sb.qA sb.qn sb.qc)):=hW9
      rw [← hW9']
      clear hW9' hW9 d0 d1 d2 d3 d4 d5 d6 d7 d8 d9 d10
      unfold opCells at R9
      obtain ⟨d0,d1,d2,d3,d4,d5,d6,d7,d8,d9,d10,dg⟩:=eleven_cells R9
      dsimp only at d0 d1 d2 d3 d4 d5 d6 d7 d8 d9 d10
      refine bodyPost_ret (v:=.agg (opCells (({ b with path:=q1 }:Ov)) (({ sb with pA:=A1,pn:=n1,pc:=c1 }:OS)))) (by simp [results,Try.results189,go_sem,d0,d1,d2,d3,d4,d5,d6,d7,d8,d9,d10,opCells]) rfl ?_
      exact ⟨_,by rw [hre.out],by rw [hre.out];exact hfin.out W9 B9 K9,B9⟩
end Go.Proofs.Ytidimannfemnmaa.Sqr
