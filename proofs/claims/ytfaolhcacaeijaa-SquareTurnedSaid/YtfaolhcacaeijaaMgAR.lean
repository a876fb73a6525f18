/- MgAR: TopAa SimJo SqrSet -/
import Derived.Test.YtfaolhcacaeijaaMgAN
import Derived.Test.YtfaolhcacaeijaaMgAQ
import Derived.Test.YtfaolhcacaeijaaMgAK
import Derived.Test.YtfaolhcacaeijaaMgAH
import Derived.Deep.CutRange
import Derived.Deep.CutBlock
import Derived.Test.YtfaolhcacaeijaaMgAM
import Derived.Test.YtfaolhcacaeijaaTopFo
import Derived.Test.YtfaolhcacaeijaaMgAE
set_option linter.all false
namespace Go.Proofs.Ytfaolhcacaeijaa.Top
open Go.RowKit
set_option maxRecDepth 20000
set_option linter.unusedVariables false

def Elev (w:World) (E:Addr) (o:Ov) (s:OS):Prop :=
  w.cell? E = some (.int .u8 (o.kind:Int))∧w.cell? ⟨E.block,E.off + 1,none⟩ = some (.slice s.pA s.pn s.pc)∧w.cell? ⟨E.block,E.off + 2,none⟩ = some (.int .i64 o.at_)∧w.cell? ⟨E.block,E.off + 3,none⟩ = some (.slice s.tA s.tn s.tc)∧w.cell? ⟨E.block,E.off + 4,none⟩ = some (.int .u64 (o.id:Int)) ∧
    w.cell? ⟨E.block,E.off + 5,none⟩ = some (.bool o.leaf)∧w.cell? ⟨E.block,E.off + 6,none⟩ = some (.string ⟨o.label.toArray⟩)∧w.cell? ⟨E.block,E.off + 7,none⟩ = some (.string ⟨o.key.toArray⟩)∧w.cell? ⟨E.block,E.off + 8,none⟩ = some (.string ⟨o.value.toArray⟩)∧w.cell? ⟨E.block,E.off + 9,none⟩ = some (.bool o.gone)∧w.cell? ⟨E.block,E.off + 10,none⟩ = some (.slice s.qA s.qn s.qc)
theorem Elev.kept {w w':World} {E:Addr} {o:Ov} {s:OS} (h:Elev w E o s) (hb:w'.heap[E.block]? = w.heap[E.block]?):Elev w' E o s:=by
  obtain ⟨h0,h1,h2,h3,h4,h5,h6,h7,h8,h9,h10⟩:=h
  have c:∀ o,w'.cell? ⟨E.block,o,none⟩ = w.cell? ⟨E.block,o,none⟩:=fun o=>World.cell?_of_block (w:=w) (w':=w') (a:=⟨E.block,o,none⟩) hb
  exact ⟨(World.cell?_of_block (w:=w) (w':=w') (a:=E) hb).trans h0,(c _).trans h1,(c _).trans h2,(c _).trans h3,(c _).trans h4,(c _).trans h5,(c _).trans h6,(c _).trans h7,(c _).trans h8,(c _).trans h9,(c _).trans h10⟩
def OpsAt (w:World) (A:Option Addr) (n:Nat) (l:List (Ov × OS)):Prop :=
  l.length = n∧∀ q x,l[q]? = some x→OpRaw w x.1 x.2∧∃ ad,A = some ad∧ad.block < w.heap.size∧Elev w (ad.add (q * 11)) x.1 x.2
theorem OpsAt.below {w w':World} {A:Option Addr} {n:Nat} {l:List (Ov × OS)} (h:OpsAt w A n l) (hb:Below w.heap.size w w'):OpsAt w' A n l :=
  ⟨h.1,fun q x hx=>by
    obtain ⟨h1,ad,e,hlt,hc⟩:=h.2 q x hx
    have hk:(ad.add (q * 11)).block = ad.block:=by unfold Addr.add;split <;> rfl
    exact ⟨h1.below hb,ad,e,Nat.lt_of_lt_of_le hlt hb.size,hc.kept (by rw [hk];exact hb.block _ hlt)⟩⟩
theorem OpsAt.at_ {w:World} {A:Option Addr} {n q:Nat} {l:List (Ov × OS)} (h:OpsAt w A n l) (hq:q < n):∃ ad o s,A = some ad∧l[q]? = some (o,s)∧ad.block < w.heap.size∧OpRaw w o s∧Elev w (ad.add (q * 11)) o s:=by
  have hl:q < l.length:=by rw [h.1];exact hq
  obtain ⟨h1,ad,e,hlt,hc⟩:=h.2 q _ (List.getElem?_eq_getElem hl)
  exact ⟨ad,_,_,e,List.getElem?_eq_getElem hl,hlt,h1,hc⟩
end Go.Proofs.Ytfaolhcacaeijaa.Top
namespace Go.Proofs.Ytfaolhcacaeijaa.Sim
open Go.RowKit Top
set_option maxRecDepth 20000
set_option linter.unusedVariables false

def opL (x:Ov × OS):List Value:=(opCells x.1 x.2).toList
theorem opL_len (x:Ov × OS):(opL x).length = 11:=rfl
def OwnO (base:Nat) (w:World) (v:Value) (l:List (Ov × OS)):Prop:=w.ownsRow base 26 11 v l.length (l.flatMap opL)
theorem OwnO.nil_ (base:Nat) (w:World):OwnO base w (.slice none 0 0) []:=World.ownsRow_nil w base _ _
theorem OwnO.shape {base:Nat} {w:World} {v:Value} {l:List (Ov × OS)} (h:OwnO base w v l):∃ (A:Option Addr) (n c:Nat),v = .slice A n c∧n = l.length∧n≤c∧c≤maxLen∧(A = none→c = 0) ∧
    ∀ (q:Nat) (x:Ov × OS),l[q]? = some x→∃ g,A = some ⟨g,0,none⟩∧base≤g∧g < w.heap.size∧Elev w ⟨g,q * 11,none⟩ x.1 x.2:=by
  obtain ⟨A,c,rfl,h1,h2,h3,h4⟩:=own_form h
  refine ⟨A,_,c,rfl,rfl,h1,h2,h3,fun q x hx=>?_⟩
  have hq:=(List.getElem?_eq_some_iff.1 hx).1
  obtain ⟨g,rfl,hb,hlt,hc⟩:=h4 (by omega)
  have k:∀ i u,(opL x)[i]? = some u→w.cell? ⟨g,q * 11 + i,none⟩ = some u:=fun i u hi=>hc _ _ (chunk_of opL 11 opL_len l q i x u hx hi)
  exact ⟨g,rfl,hb,hlt,k 0 _ rfl,k 1 _ rfl,k 2 _ rfl,k 3 _ rfl,k 4 _ rfl,k 5 _ rfl,k 6 _ rfl,k 7 _ rfl,k 8 _ rfl,k 9 _ rfl,k 10 _ rfl⟩
theorem OwnO.kept {w w':World} {base:Nat} {v:Value} {l:List (Ov × OS)} (h:OwnO base w v l) (hk:∀ k,base≤k→k < w.heap.size→w'.heap[k]? = w.heap[k]?):OwnO base w' v l:=Top.own_kept h hk
theorem OwnO.block {base:Nat} {w:World} {v:Value} {l:List (Ov × OS)} (h:OwnO base w v l) {g:Nat} (hg:v.ownBlock = some g):∃ cs,w.heap[g]? = some (.cells cs 26 (0,0)):=by
  rcases h.2 with ⟨rfl,_⟩ | ⟨g',cap,cur,rfl,hb,hg',_⟩
  · cases hg
  · have e:g' = g:=by simpa [Value.ownBlock] using hg
    subst e
    exact ⟨cur,hg'⟩
theorem own_apart {base:Nat} {w w':World} {e:TypeId} {size n:Nat} {v:Value} {xs:List Value} {row:Option Nat} (h:w.ownsRow base e size v n xs) (he:e ≠ 26) (hrow:∀ g,row = some g→g < w.heap.size→∃ cs,w.heap[g]? = some (.cells cs 26 (0,0))) (hg:w.grownBy w' row):w'.ownsRow base e size v n xs:=by
  refine ⟨h.1,?_⟩
  rcases h.2 with h2 | ⟨g,cap,cur,rfl,hb,hgg,hr⟩
  · exact .inl h2
  · have hlt:=(Array.getElem?_eq_some_iff.1 hgg).1
    refine .inr ⟨g,cap,cur,rfl,hb,?_,hr⟩
    rw [hg.block g hlt ?_]
    · exact hgg
    · intro e1
      obtain ⟨cs,h3⟩:=hrow g e1.symm hlt
      rw [hgg] at h3
      injection h3 with h3
      injection h3 with h4 h5 h6
      exact he h5
theorem _root_.Go.Proofs.Ytfaolhcacaeijaa.Top.OwnOp.apart {base:Nat} {w w':World} {o:Ov} {s:OS} {row:Option Nat} (h:OwnOp base w o s) (hrow:∀ g,row = some g→g < w.heap.size→∃ cs,w.heap[g]? = some (.cells cs 26 (0,0))) (hg:w.grownBy w' row):OwnOp base w' o s :=
  ⟨own_apart h.path (by decide) hrow hg,own_apart h.to_ (by decide) hrow hg,own_apart h.pieces (by decide) hrow hg⟩
theorem Try.infoOp:(Try.prog.info? 26).map (fun i=>(i.zero,i.size,i.bytes)) = some (some (.agg #[.int .u8 0,.slice none 0 0,.int .i64 0,.slice none 0 0,.int .u64 0,.bool false,.string ⟨#[]⟩,.string ⟨#[]⟩,.string ⟨#[]⟩,.bool false,.slice none 0 0]),11,160):=by kernel_rfl
theorem wpList_append_op {w:World} {ops:Array Oper} {rest:List Oper} {o:Oper} {a:Act} {Q:Exit→Act→World→Prop} (hgd:o.guard = none) (s x:Operand)
    (ho:o.op = .call { callee:=.builtin .append,args:=#[s,x],argTypes:=#[30,30] })
    (base:Nat) (v:Value) (l:List (Ov × OS)) (hs:a.eval s = v) (hown:OwnO base w v l)
    (y:Ov × OS) (hx:a.eval x = .slice (some ⟨w.heap.size,0,none⟩) 1 1)
    (hlen:l.length≤1000000) (hbase:base≤w.heap.size)
    (h:∀ v' w',OwnO base w' v' (l ++ [y])→(w.alloc (.cells (opCells y.1 y.2) 26)).grownBy w' v.ownBlock→wpList Try.prog ops Q rest (a.put o.dst v') w') :
    wpList Try.prog ops Q (o :: rest) a (w.alloc (.cells (opCells y.1 y.2) 26)):=by
  obtain ⟨i0,hi,hz0,hz1,hz2⟩:=info_parts Try.infoOp
  refine wpList_append_own_at _ hgd s x _ ho base 26 i0 _ 11 160 Try.underlying30 hi hz0 hz1 hz2 rfl (by omega) v l.length (l.flatMap opL) hs (Top.own_kept hown fun k _ hk=>heap_alloc_old _ _ hk) ⟨w.heap.size,0,none⟩ 1 1 (opL y) hx (by rw [opL_len])
      (fun j u hj=>?_) (fun u hu=>?_) (by unfold maxLen;omega) (by omega) (by rw [World.size_alloc];omega) ?_
  · rw [add_zero_off]
    match j,hj with
    | 0,hj=>injection hj with hj;rw [← hj];exact cell_of_row _ _ 0 _ _ _ (heap_alloc_new w _)
    | 1,hj=>injection hj with hj;rw [← hj];exact cell_of_row _ _ 1 _ _ _ (heap_alloc_new w _)
    | 2,hj=>injection hj with hj;rw [← hj];exact cell_of_row _ _ 2 _ _ _ (heap_alloc_new w _)
    | 3,hj=>injection hj with hj;rw [← hj];exact cell_of_row _ _ 3 _ _ _ (heap_alloc_new w _)
    | 4,hj=>injection hj with hj;rw [← hj];exact cell_of_row _ _ 4 _ _ _ (heap_alloc_new w _)
    | 5,hj=>injection hj with hj;rw [← hj];exact cell_of_row _ _ 5 _ _ _ (heap_alloc_new w _)
    | 6,hj=>injection hj with hj;rw [← hj];exact cell_of_row _ _ 6 _ _ _ (heap_alloc_new w _)
    | 7,hj=>injection hj with hj;rw [← hj];exact cell_of_row _ _ 7 _ _ _ (heap_alloc_new w _)
    | 8,hj=>injection hj with hj;rw [← hj];exact cell_of_row _ _ 8 _ _ _ (heap_alloc_new w _)
    | 9,hj=>injection hj with hj;rw [← hj];exact cell_of_row _ _ 9 _ _ _ (heap_alloc_new w _)
    | 10,hj=>injection hj with hj;rw [← hj];exact cell_of_row _ _ 10 _ _ _ (heap_alloc_new w _)
    | j + 11,hj=>simp [opL,opCells] at hj
  · simp only [opL,opCells,List.mem_cons,List.not_mem_nil,or_false] at hu
    rcases hu with rfl | rfl | rfl | rfl | rfl | rfl | rfl | rfl | rfl | rfl | rfl <;> rfl
  · intro v' w' hown' hgrow _ hat
    refine h v' w' ?_ hgrow
    unfold OwnO
    rw [List.length_append,List.flatMap_append]
    simpa using hown'
theorem behind_fin {base:Nat} {w wr w':World} {A:Option Addr} {n c k:Nat} {l:List (Ov × OS)} {o1:Ov} {s1:OS} {v':Value} (hown:OwnO base w (.slice A n c) l) (hel:∀ x ∈ l,OwnOp base w x.1 x.2∧OvOk x.1) (hbase:base≤w.heap.size) (hk:k≤n) (ho1:OwnOp base wr o1 s1) (hok1:OvOk o1) (hb1:Below w.heap.size w wr)
    (hown2:OwnO base w' v' (l.take k ++ [(o1,s1)])) (hg:(wr.alloc (.cells (opCells o1 s1) 26)).grownBy w' (Value.slice A k c).ownBlock) :
    ∃ A' n' c',v' = .slice A' n' c'∧OwnO base w' (.slice A' n' c') (l.take k ++ [(o1,s1)])∧(∀ x ∈ l.take k ++ [(o1,s1)],OwnOp base w' x.1 x.2∧OvOk x.1)∧Below base w w':=by
  obtain ⟨A',n',c',rfl,-⟩:=hown2.shape
  obtain ⟨X,hX⟩:∃ X,X = wr.alloc (.cells (opCells o1 s1) 26):=⟨_,rfl⟩
  rw [← hX] at hg
  have hbX:Below w.heap.size w X:=by rw [hX];exact hb1.alloc hb1.size _
  have hwX:∀ k,base≤k→k < wr.heap.size→X.heap[k]? = wr.heap[k]?:=fun k _ hk=>by rw [hX];exact Go.heap_alloc_old _ _ hk
  have hrow:∀ g,(Value.slice A k c).ownBlock = some g→g < X.heap.size→∃ cs,X.heap[g]? = some (.cells cs 26 (0,0)):=fun g h1 _=>by
    have h2:(Value.slice A n c).ownBlock = some g:=by cases A with
      | none=>cases h1
      | some a=>exact h1
    obtain ⟨cs,h3⟩:=hown.block h2
    exact ⟨cs,(hbX.block g (Array.getElem?_eq_some_iff.1 h3).1).trans h3⟩
  refine ⟨A',n',c',rfl,hown2,?_,?_⟩
  · intro x hx
    rcases List.mem_append.1 hx with hx | hx
    · obtain ⟨h1,h2⟩:=hel x (List.mem_of_mem_take hx)
      exact ⟨(h1.kept fun k _ hk=>hbX.block k hk).apart hrow hg,h2⟩
    · simp only [List.mem_cons,List.not_mem_nil,or_false] at hx
      subst hx
      exact ⟨(ho1.kept hwX).apart hrow hg,hok1⟩
  · refine (hbX.mono hbase).grown hg (Nat.le_trans hbase hbX.size) fun g h1=>?_
    rcases hown.2 with ⟨e,_⟩ | ⟨g',cap,cur,e,hb,_⟩
    · injection e with e1 e2 e3
      subst e1
      cases h1
    · injection e with e1 e2 e3
      subst e1
      have e:g' = g:=by simpa [Value.ownBlock] using h1
      omega
end Go.Proofs.Ytfaolhcacaeijaa.Sim
namespace Go.Proofs.Ytfaolhcacaeijaa.Sqr
open Go.RowKit Top Sim
set_option maxRecDepth 20000
set_option linter.unusedVariables false

def setL (cs:Array Value) (e:Nat):List Value→Array Value
  | []=>cs
  | v :: r=>setL (cs.setIfInBounds e v) (e + 1) r
def setW (w:World) (g e:Nat):List Value→World
  | []=>w
  | v :: r=>setW (w.setCell ⟨g,e,none⟩ v) g (e + 1) r
theorem setL_size:∀ (vs:List Value) (cs:Array Value) (e:Nat),(setL cs e vs).size = cs.size
  | [],_,_=>rfl
  | v :: r,cs,e=>by
    unfold setL
    rw [setL_size r]
    simp
theorem setL_at:∀ (vs:List Value) (cs:Array Value) (e j:Nat),e + vs.length≤cs.size→(setL cs e vs)[j]? = if e≤j∧j < e + vs.length then vs[j - e]? else cs[j]?
  | [],cs,e,j,h=>by
    rw [if_neg (by intro hh;simp only [List.length_nil] at hh;omega)]
    rfl
  | v :: r,cs,e,j,h=>by
    rw [List.length_cons] at h
    unfold setL
    rw [setL_at r _ (e + 1) j (by simp;omega),List.length_cons]
    by_cases h1:e + 1≤j∧j < e + 1 + r.length
    · rw [if_pos h1,if_pos (by omega),show j - e = (j - (e + 1)) + 1 by omega,List.getElem?_cons_succ]
    · rw [if_neg h1]
      by_cases h2:e = j
      · subst h2
        rw [if_pos (by omega),Nat.sub_self,List.getElem?_cons_zero,Array.getElem?_setIfInBounds_self_of_lt (by omega)]
      · rw [if_neg (by omega),Array.getElem?_setIfInBounds_ne h2]
theorem setW_row:∀ (vs:List Value) (w:World) (g e:Nat) (cs:Array Value) (ty:TypeId),w.heap[g]? = some (.cells cs ty (0,0))→(setW w g e vs).heap[g]? = some (.cells (setL cs e vs) ty (0,0))
  | [],w,g,e,cs,ty,h=>h
  | v :: r,w,g,e,cs,ty,h=>setW_row r _ g (e + 1) _ ty (heap_setCell_same w g e _ _ _ h)
theorem setW_other:∀ (vs:List Value) (w:World) (g e k:Nat),k ≠ g→(setW w g e vs).heap[k]? = w.heap[k]?
  | [],w,g,e,k,h=>rfl
  | v :: r,w,g,e,k,h=>(setW_other r _ g (e + 1) k h).trans (heap_setCell_other w ⟨g,e,none⟩ k _ h)
theorem setW_below:∀ (vs:List Value) {B:Nat} {w0 w:World} {g:Nat} (e:Nat),Below B w0 w→B≤g→Below B w0 (setW w g e vs)
  | [],_,_,_,_,_,h,_=>h
  | v :: r,B,w0,w,g,e,h,hg=>setW_below r (e + 1) (h.setCell (p:=⟨g,e,none⟩) hg v) hg
def elevW (w:World) (g e:Nat) (o:Ov) (s:OS):World :=
  ((((((((((w.setCell ⟨g,e,none⟩ (.int .u8 (o.kind:Int))).setCell ⟨g,e + 1,none⟩ (.slice s.pA s.pn s.pc)).setCell ⟨g,e + 2,none⟩ (.int .i64 o.at_)).setCell ⟨g,e + 3,none⟩ (.slice s.tA s.tn s.tc)).setCell ⟨g,e + 4,none⟩ (.int .u64 (o.id:Int))).setCell ⟨g,e + 5,none⟩ (.bool o.leaf)).setCell ⟨g,e + 6,none⟩ (.string ⟨o.label.toArray⟩)).setCell ⟨g,e + 7,none⟩ (.string ⟨o.key.toArray⟩)).setCell ⟨g,e + 8,none⟩ (.string ⟨o.value.toArray⟩)).setCell ⟨g,e + 9,none⟩ (.bool o.gone)).setCell ⟨g,e + 10,none⟩ (.slice s.qA s.qn s.qc)
theorem elevW_eq (w:World) (g e:Nat) (o:Ov) (s:OS):elevW w g e o s = setW w g e (opL (o,s)):=rfl
theorem flat_set (l:List (Ov × OS)) (q:Nat) (x:Ov × OS) (hq:q < l.length) (j:Nat):((l.set q x).flatMap opL)[j]? = if q * 11≤j∧j < q * 11 + 11 then (opL x)[j - q * 11]? else (l.flatMap opL)[j]?:=by
  have hlen:(l.set q x).length = l.length:=by simp
  by_cases hj:j < l.length * 11
  · have hd:=Nat.div_add_mod j 11
    have hm:=Nat.mod_lt j (show 0 < 11 by omega)
    have hdl:j / 11 < l.length:=by omega
    have hj2:j = (j / 11) * 11 + j % 11:=by omega
    by_cases hqj:j / 11 = q
    · rw [if_pos (by omega)]
      have h1:(opL x)[j % 11]? = some ((opL x)[j % 11]'(by rw [opL_len];exact hm)):=List.getElem?_eq_getElem _
      have h2:(l.set q x)[j / 11]? = some x:=by rw [hqj];simp [hq]
      have h3:=chunk_of opL 11 opL_len (l.set q x) (j / 11) (j % 11) x _ h2 h1
      rw [← hj2] at h3
      rw [h3,show j - q * 11 = j % 11 by omega,h1]
    · rw [if_neg (by omega)]
      have h0:l[j / 11]? = some (l[j / 11]'hdl):=List.getElem?_eq_getElem _
      have h1:(opL (l[j / 11]'hdl))[j % 11]? = some ((opL (l[j / 11]'hdl))[j % 11]'(by rw [opL_len];exact hm)):=List.getElem?_eq_getElem _
      have h2:(l.set q x)[j / 11]? = some (l[j / 11]'hdl):=by rw [List.getElem?_set_ne (fun e=>hqj e.symm),h0]
      have h3:=chunk_of opL 11 opL_len (l.set q x) (j / 11) (j % 11) _ _ h2 h1
      have h4:=chunk_of opL 11 opL_len l (j / 11) (j % 11) _ _ h0 h1
      rw [← hj2] at h3 h4
      rw [h3,h4]
  · rw [List.getElem?_eq_none (by rw [chunk_len opL 11 opL_len,hlen];omega),if_neg (by omega),List.getElem?_eq_none (by rw [chunk_len opL 11 opL_len];omega)]
theorem OwnO.set {base:Nat} {w:World} {g n c q:Nat} {l:List (Ov × OS)} {o:Ov} {s:OS} (h:OwnO base w (.slice (some ⟨g,0,none⟩) n c) l) (hq:q < l.length) :
    OwnO base (elevW w g (q * 11) o s) (.slice (some ⟨g,0,none⟩) n c) (l.set q (o,s)):=by
  obtain ⟨h1,h2⟩:=h
  rcases h2 with ⟨e,-⟩ | ⟨g2,cap,cur,e,hb,hg,hnc,hcm,hcs,hxs⟩
  · cases e
  · injection e with e1 e2 e3
    injection e1 with e1
    injection e1 with e1
    subst e1 e2 e3
    have hlen:(l.set q (o,s)).length = l.length:=by simp
    have hsz:q * 11 + (opL (o,s)).length≤cur.size:=by rw [opL_len,hcs];omega
    refine ⟨by rw [chunk_len opL 11 opL_len],.inr ⟨g,c,setL cur (q * 11) (opL (o,s)),by rw [hlen],hb,by rw [elevW_eq];exact setW_row _ _ _ _ _ _ hg,by omega,hcm,by rw [setL_size];exact hcs,?_⟩⟩
    refine List.ext_getElem? fun j=>?_
    rw [flat_set l q (o,s) hq,hlen,List.getElem?_take]
    by_cases hj:j < l.length * 11
    · rw [if_pos hj,Array.getElem?_toList,setL_at _ _ _ _ hsz,opL_len]
      split
      · rfl
      · rw [← hxs,List.getElem?_take,if_pos hj,Array.getElem?_toList]
    · rw [if_neg hj,if_neg (by omega),List.getElem?_eq_none (by rw [chunk_len opL 11 opL_len];omega)]
end Go.Proofs.Ytfaolhcacaeijaa.Sqr
