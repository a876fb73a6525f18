/- MgAS: SqrD TopAb LstRow LstCopy LstRepA LstRepB LstRepC LstBare LstMuch -/
import Derived.Test.YtidimannfemnmaaMgAQ
import Derived.Test.YtidimannfemnmaaMgAR
import Derived.Test.YtidimannfemnmaaMgAL
import Derived.Test.YtidimannfemnmaaMgAN
import Derived.Test.YtidimannfemnmaaMgAP
import Derived.BigQuiet
import Derived.RegionTactic
import Derived.Test.YtidimannfemnmaaMgAF
import Derived.Test.YtidimannfemnmaaMgAK
import Derived.Deep.Cut
import Derived.Test.YtidimannfemnmaaMgAO
import Derived.Deep.CutRange
import Derived.Deep.CutBlock
import Derived.Laws.AppendOwnNone
import Derived.OwnWalk
import Derived.Laws.CopyOwn
import Derived.Lib.SliceRun
set_option linter.all false
namespace Go.Proofs.Ytidimannfemnmaa.Sqr
open Go.RowKit Top Shf Sim
set_option maxRecDepth 20000

def RowA (w:World) (l:List Ov) (v:Value) (w':World):Prop :=
  ∃ (l':List (Ov × OS)) (X:World),l'.map Prod.fst = l∧(∀ x ∈ l',OpIn X x.1 x.2)∧Below w.heap.size w X∧OwnO X.heap.size w' v l'∧Below X.heap.size X w'
theorem RowA.none_ {w w':World} (hb:Below w.heap.size w w'):RowA w [] (.slice none 0 0) w':=⟨[],w',rfl,fun x hx=>by simp at hx,hb,OwnO.nil_ _ _,Below.refl _ _⟩
theorem RowA.one {w X:World} {o:Ov} {s:OS} (hb:Below w.heap.size w X) (ho:OpIn X o s):RowA w [o] (.slice (some ⟨X.heap.size,0,none⟩) 1 1) (X.alloc (.cells (opCells o s) 52)):=by
  refine ⟨[(o,s)],X,rfl,fun x hx=>?_,hb,?_,(Below.refl _ _).alloc (Nat.le_refl _) _⟩
  · rw [List.mem_singleton] at hx
    subst hx
    exact ho
  · have h:=World.ownsRow_lit (base:=X.heap.size) (e:=52) (size:=11) X (opCells o s) 1 (Nat.le_refl _) (by unfold maxLen;omega) rfl
    unfold OwnO
    simpa [opL] using h
theorem RowA.two {w X:World} {o p:Ov} {s t:OS} (hb:Below w.heap.size w X) (ho:OpIn X o s) (hp:OpIn X p t):RowA w [o,p] (.slice (some ⟨X.heap.size,0,none⟩) 2 2) (X.alloc (.cells (opL (o,s) ++ opL (p,t)).toArray 52)):=by
  refine ⟨[(o,s),(p,t)],X,rfl,fun x hx=>?_,hb,?_,(Below.refl _ _).alloc (Nat.le_refl _) _⟩
  · simp only [List.mem_cons,List.not_mem_nil,or_false] at hx
    rcases hx with rfl | rfl
    · exact ho
    · exact hp
  · have h:=World.ownsRow_lit (base:=X.heap.size) (e:=52) (size:=11) X (opL (o,s) ++ opL (p,t)).toArray 2 (Nat.le_refl _) (by unfold maxLen;omega) rfl
    unfold OwnO
    simpa using h
theorem RowA.from_ {w w1 w':World} {l:List Ov} {v:Value} (h:RowA w1 l v w') (hb:Below w.heap.size w w1):RowA w l v w':=by
  obtain ⟨l',X,h1,h2,h3,h4,h5⟩:=h
  exact ⟨l',X,h1,h2,hb.trans (h3.mono hb.size),h4,h5⟩
theorem RowA.bel {w w':World} {l:List Ov} {v:Value} (h:RowA w l v w'):Below w.heap.size w w':=by
  obtain ⟨l',X,h1,h2,h3,h4,h5⟩:=h
  exact h3.trans (h5.mono h3.size)
theorem set_op10 {w:World} {g:Nat} {o:Ov} {s:OS} {ty:TypeId} (A:Option Addr) (n c:Nat) (q:List P5.IP) (h:w.heap[g]? = some (.cells (opCells o s) ty (0,0))):(w.setCell ⟨g,10,none⟩ (.slice A n c)).heap[g]? = some (.cells (opCells { o with pieces:=q } { s with qA:=A,qn:=n,qc:=c }) ty (0,0)):=by
  rw [heap_setCell_same w g 10 _ _ _ h]
  simp [opCells]
theorem with_pieces {W:World} {b:Ov} {s:OS} {A:Option Addr} {n c:Nat} {q:List P5.IP} (h:OpIn W b s) (hA:P5.PcsIn W A n q) (h1:n≤c) (h2:c≤maxLen) (h3:A = none→c = 0) (h4:q.length≤500000):OpIn W { b with pieces:=q } { s with qA:=A,qn:=n,qc:=c } :=
  { h with pieces:=hA,qnc:=h1,qcm:=h2,qnil:=h3,qfew:=by have:=hA.1;show n≤500000;omega }
theorem right_few {l:List P5.IP} (h:P5.rightV l = true):l.length≤4096:=by
  unfold P5.rightV at h
  simp only [Bool.and_eq_true,decide_eq_true_eq] at h
  omega
set_option maxHeartbeats 16000000 in
theorem edited_any (w:World) (b a:Ov) (sb sa:OS) (prior:Bool) (hb:OpIn w b sb) (ha:OpIn w a sa) (hrb:P5.rightV b.pieces = true) (hra:P5.rightV a.pieces = true) (htb:P5.totP (pcs b.pieces)≤2000) (hta:P5.totP (pcs a.pieces)≤2000) :
    Calls Try.prog 188 #[.agg (opCells b sb),.agg (opCells a sa),.bool prior] w fun e w'=>∃ v,e = .returned (.tuple #[v,.int .i64 0])∧RowA w [editV b a prior] v w':=by
  obtain ⟨z1,z2,z4,z5⟩:=two_news w (.cells (opCells b sb) 52) (.cells (opCells a sa) 52)
  obtain ⟨W2,hW2⟩:∃ Q9,Q9 = ((w.alloc (.cells (opCells b sb) 52)).alloc (.cells (opCells a sa) 52)):=⟨_,rfl⟩
  rw [← hW2] at z1 z2 z4 z5
  have z1':=Lib.hid z1
  have z4':=Lib.hid z4
  have z5':=Lib.hid z5
  have htr:=Lib.hid (P5.transform_ok W2 sb.qA sa.qA sb.qn sb.qc sa.qn sa.qc (pcs b.pieces) (pcs a.pieces) prior (by rw [pcs_right hrb];exact (hb.below z4).pieces) (by rw [pcs_right hra];exact (ha.below z4).pieces) (by have h5:=hb.pieces.1;have h6:=right_few hrb;omega) (by have h5:=ha.pieces.1;have h6:=right_few hra;omega) htb hta (by rw [pcs_right hrb];exact hrb) (by rw [pcs_right hra];exact hra))
  have hfine:=Lib.hid (show Ltx.Fine (Ltx.trans (Ltx.norm (pcs b.pieces)) (Ltx.norm (pcs a.pieces)) prior) from Ltx.trans_fine (n:=2000) (Nat.le_refl _) _ (by have h1:=P5.totP_norm (pcs b.pieces);show P5.totP _≤2000;omega) (by have h1:=P5.totP_norm (pcs a.pieces);show P5.totP _≤2000;omega))
  have hed:=Lib.hid (show editV b a prior = { b with pieces:=(Ltx.trans (Ltx.norm (pcs b.pieces)) (Ltx.norm (pcs a.pieces)) prior).map P5.ipc } from rfl)
  generalize editV b a prior = r at hed ⊢
  generalize Ltx.trans (Ltx.norm (pcs b.pieces)) (Ltx.norm (pcs a.pieces)) prior = X1 at htr hfine hed
  have hb':=Lib.hid (fun (W:World) (hB:Below w.heap.size w W)=>hb.below hB)
  obtain ⟨o0,o1,o2,o3,o4,o5,o6,o7,o8,o9,o10⟩:=op_cells z1
  obtain ⟨a0,a1,a2,a3,a4,a5,a6,a7,a8,a9,a10⟩:=op_cells z2
  rw [hW2] at o0 o1 o2 o3 o4 o5 o6 o7 o8 o9 o10 a0 a1 a2 a3 a4 a5 a6 a7 a8 a9 a10
  clear hb ha hrb hra htb hta z1 z2 z4 z5
  unfold opCells at hW2
  conv=>arg 3;unfold opCells
  go_enter Try.func188,Try.ntmps188
  go_upto_region 5 with (go_at_call 65;(rw [← hW2];refine htr.out.mono ?_;rintro e w1 ⟨v1,v2,rfl,h1,h2,hb1⟩;have hlow:=(fun q hq=>by have e1:=hfine.out.2.1 q hq;have e2:=(Ltx.mem_sizes hq).2;have e3:=hfine.out.2.2;omega:P5.Low X1);obtain ⟨A1,n1,c1,rfl,-⟩:=P5.OwnP.shape h1 hlow;have H1:=Lib.hid h1;have E1:=Lib.hid hb1;have HL:=Lib.hid hlow;have y1:=(hb1.block w.heap.size (by have:=z5'.out;omega)).trans z1'.out;have Y1:=Lib.hid y1;have hof:=op_frozen y1;have hlt:w.heap.size < w1.heap.size:=(Array.getElem?_eq_some_iff.1 y1).1;clear o0 o1 o2 o3 o4 o5 o6 o7 o8 o9 o10 a0 a1 a2 a3 a4 a5 a6 a7 a8 a9 a10 h1 h2 hb1 hlow;obtain ⟨o0,o1,o2,o3,o4,o5,o6,o7,o8,o9,o10⟩:=op_cells y1;clear y1))
  obtain ⟨W5,hW5⟩:∃ Q9,Q9 = w1.setCell ⟨w.heap.size,10,none⟩ (.slice A1 n1 c1):=⟨_,rfl⟩
  rw [← hW5]
  have R1:=Lib.hid (show W5.heap[w.heap.size]? = some (.cells (opCells ({ b with pieces:=X1.map P5.ipc }:Ov) ({ sb with qA:=A1,qn:=n1,qc:=c1 }:OS)) 52 (0,0)) by rw [hW5];exact set_op10 A1 n1 c1 _ Y1.out)
  have B5:=Lib.hid (show Below w.heap.size w W5 by rw [hW5];exact (z4'.out.trans (E1.out.mono z4'.out.size)).setCell (p:=⟨w.heap.size,10,none⟩) (Nat.le_refl _) _)
  have O5:=Lib.hid (show ∀ k,k ≠ w.heap.size→W5.heap[k]? = w1.heap[k]? by intro k hk;rw [hW5];exact heap_setCell_other _ _ k _ hk)
  have hin:=Lib.hid (show OpIn W5 { b with pieces:=X1.map P5.ipc } { sb with qA:=A1,qn:=n1,qc:=c1 } from by
    obtain ⟨A',n',c',e0,e1,e2,e3,e4,e5⟩:=P5.OwnP.shape (Top.own_kept (w':=W5) H1.out fun k h1 h2=>O5.out k (by have:=z5'.out;omega)) HL.out
    injection e0 with f1 f2 f3
    subst f1 f2 f3
    exact with_pieces (hb'.out W5 B5.out) e4 e2 e3 e5 (by rw [List.length_map];have:=hfine.out.1;omega))
  clear hW5 o0 o1 o2 o3 o4 o5 o6 o7 o8 o9 o10 hof hlt
  obtain ⟨o0,o1,o2,o3,o4,o5,o6,o7,o8,o9,o10⟩:=op_cells R1.out
  dsimp only at o0 o1 o2 o3 o4 o5 o6 o7 o8 o9 o10
  go_wp2_with fail
  go_ret2
  rw [hed.out]
  exact ⟨_,rfl,RowA.one B5.out hin.out⟩
end Go.Proofs.Ytidimannfemnmaa.Sqr
namespace Go.Proofs.Ytidimannfemnmaa.Top
open Go.RowKit
set_option maxRecDepth 20000

structure FewO (o:Ov):Prop where
  cost:costV o≤1000
  path:o.path.length≤500000
  to_:o.to_.length≤500000
  pieces:o.pieces.length≤500000
theorem two_new (w:World) (o1 o2:Obj):(((w.alloc o1).alloc o2).heap[w.heap.size]? = some o1)∧(((w.alloc o1).alloc o2).heap[w.heap.size + 1]? = some o2)∧Below w.heap.size w ((w.alloc o1).alloc o2)∧((w.alloc o1).alloc o2).heap.size = w.heap.size + 1 + 1:=by
  have h1:=heap_alloc_new w o1
  have h2:=heap_alloc_new (w.alloc o1) o2
  rw [World.size_alloc] at h2
  exact ⟨(Go.heap_alloc_old _ _ (by simp)).trans h1,h2,((Below.refl _ _).alloc (Nat.le_refl _) _).alloc (by simp) _,by simp⟩
end Go.Proofs.Ytidimannfemnmaa.Top
namespace Go.Proofs.Ytidimannfemnmaa.Lst
open Go.RowKit Top Sim
set_option maxRecDepth 20000

theorem add_off (ad:Addr) (k:Nat):(ad.add k).block = ad.block:=by unfold Addr.add;split <;> rfl
theorem add_add (ad:Addr) (k j:Nat):(ad.add k).add j = ad.add (k + j):=by
  unfold Addr.add
  by_cases hk:k = 0
  · subst hk;simp
  · by_cases hj:j = 0
    · subst hj;simp [hk]
    · simp [hk,hj,Nat.add_assoc]
def OpsR (w:World) (A:Option Addr) (n:Nat) (l:List (Ov × OS)):Prop :=
  l.length = n∧∀ q x,l[q]? = some x→OpIn w x.1 x.2∧∃ ad,A = some ad∧ad.block < w.heap.size∧Elev w (ad.add (q * 11)) x.1 x.2
theorem OpsR.below {w w':World} {A:Option Addr} {n:Nat} {l:List (Ov × OS)} (h:OpsR w A n l) (hb:Below w.heap.size w w'):OpsR w' A n l :=
  ⟨h.1,fun q x hx=>by
    obtain ⟨h1,ad,e,hlt,hc⟩:=h.2 q x hx
    exact ⟨h1.below hb,ad,e,Nat.lt_of_lt_of_le hlt hb.size,hc.kept (by rw [add_off];exact hb.block _ hlt)⟩⟩
theorem OpsR.nil_ (w:World) (A:Option Addr):OpsR w A 0 []:=⟨rfl,fun q x h=>by simp at h⟩
theorem OpsR.none_ {w:World} {n:Nat} {l:List (Ov × OS)} (h:OpsR w none n l):n = 0∧l = []:=by
  cases l with
  | nil=>exact ⟨h.1.symm,rfl⟩
  | cons x r =>
    obtain ⟨-,ad,e,-⟩:=h.2 0 x rfl
    cases e
theorem own_rows {base:Nat} {w:World} {v:Value} {l:List (Ov × OS)} (h:OwnO base w v l) (hx:∀ x ∈ l,OpIn w x.1 x.2):∃ A n c,v = .slice A n c∧n≤c∧c≤maxLen∧(A = none→c = 0)∧OpsR w A n l:=by
  obtain ⟨A,n,c,rfl,h1,h2,h3,h4,h5⟩:=h.shape
  refine ⟨A,n,c,rfl,h2,h3,h4,h1.symm,fun q x hq=>?_⟩
  obtain ⟨g,rfl,e2,e3,e4⟩:=h5 q x hq
  exact ⟨hx x (List.mem_of_getElem? hq),_,rfl,e3,by rw [add_zero_off];exact e4⟩
theorem elev_cell {w:World} {E:Addr} {x:Ov × OS} (h:Elev w E x.1 x.2):∀ j u,(opL x)[j]? = some u→w.cell? (E.add j) = some u:=by
  obtain ⟨h0,h1,h2,h3,h4,h5,h6,h7,h8,h9,h10⟩:=h
  intro j u hj
  match j,hj with
  | 0,hj=>injection hj with hj;rw [← hj];exact h0
  | 1,hj=>injection hj with hj;rw [← hj];exact h1
  | 2,hj=>injection hj with hj;rw [← hj];exact h2
  | 3,hj=>injection hj with hj;rw [← hj];exact h3
  | 4,hj=>injection hj with hj;rw [← hj];exact h4
  | 5,hj=>injection hj with hj;rw [← hj];exact h5
  | 6,hj=>injection hj with hj;rw [← hj];exact h6
  | 7,hj=>injection hj with hj;rw [← hj];exact h7
  | 8,hj=>injection hj with hj;rw [← hj];exact h8
  | 9,hj=>injection hj with hj;rw [← hj];exact h9
  | 10,hj=>injection hj with hj;rw [← hj];exact h10
  | j + 11,hj=>simp [opL,opCells] at hj
theorem ops_cell {w:World} {ad:Addr} {n:Nat} {l:List (Ov × OS)} (h:OpsR w (some ad) n l):∀ j u,(l.flatMap opL)[j]? = some u→w.cell? (ad.add j) = some u:=fun j u hj=>by
  obtain ⟨q,i,x,rfl,-,hx,hu⟩:=chunk_at opL 11 opL_len (by omega) l j u hj
  obtain ⟨-,ad',e,-,hc⟩:=h.2 q x hx
  injection e with e
  subst e
  rw [← add_add]
  exact elev_cell hc i u hu
theorem op_one (x:Ov × OS):∀ u ∈ opL x,u.oneCell' = true:=fun u hu=>by
  simp only [opL,opCells,List.mem_cons,List.not_mem_nil,or_false] at hu
  rcases hu with rfl | rfl | rfl | rfl | rfl | rfl | rfl | rfl | rfl | rfl | rfl <;> rfl
theorem ops_one (l:List (Ov × OS)):∀ u ∈ l.flatMap opL,u.oneCell' = true:=fun u hu=>by
  obtain ⟨x,-,hx⟩:=List.mem_flatMap.1 hu
  exact op_one x u hx
theorem wpList_append_ops {w:World} {ops:Array Oper} {rest:List Oper} {o:Oper} {a:Act} {Q:Exit→Act→World→Prop} (hgd:o.guard = none) (s x:Operand)
    (ho:o.op = .call { callee:=.builtin .append,args:=#[s,x],argTypes:=#[55,55] })
    (base:Nat) (v:Value) (l:List (Ov × OS)) (hs:a.eval s = v) (hown:OwnO base w v l)
    (B:Option Addr) (m c:Nat) (l2:List (Ov × OS)) (hx:a.eval x = .slice B m c) (h2:OpsR w B m l2) (hn:B = none→c = 0)
    (hlen:l.length + l2.length≤1000000) (hbase:base≤w.heap.size)
    (h:∀ v' w',OwnO base w' v' (l ++ l2)→w.grownBy w' v.ownBlock→(v'.ownBlock = v.ownBlock∨v'.ownBlock = some w.heap.size)→wpList Try.prog ops Q rest (a.put o.dst v') w') :
    wpList Try.prog ops Q (o :: rest) a w:=by
  obtain ⟨i0,hi,hz0,hz1,hz2⟩:=info_parts Try.infoOp
  cases B with
  | none =>
    obtain ⟨rfl,rfl⟩:=h2.none_
    obtain rfl:=hn rfl
    refine wpList_append_own_none hgd s x _ ho base 52 i0 11 Try.underlying55 hi v l.length (l.flatMap opL) hs hown hx ?_
    exact h v w (by rw [List.append_nil];exact hown) (World.grownBy.refl w _) (.inl rfl)
  | some ad =>
    have hm:=h2.1
    refine wpList_append_own_at _ hgd s x _ ho base 52 i0 _ 11 160 Try.underlying55 hi hz0 hz1 hz2 rfl (by omega) v l.length (l.flatMap opL) hs hown ad m c (l2.flatMap opL) hx (by rw [chunk_len opL 11 opL_len,hm]) (ops_cell h2) (ops_one l2) (by unfold maxLen;omega) (by omega) hbase ?_
    intro v' w' hown' hgrow _ hat
    refine h v' w' ?_ hgrow hat
    unfold OwnO
    rw [List.length_append,List.flatMap_append,hm]
    exact hown'
end Go.Proofs.Ytidimannfemnmaa.Lst
namespace Go.Proofs.Ytidimannfemnmaa.Lst
open Go.RowKit Top Sim
set_option maxRecDepth 20000

theorem run_copy_size {P:Program} (S:Nat) (w:World) (dT sT ty elem:TypeId) (g o dLen dCap:Nat) (a:Addr) (sLen sCap:Nat) (cur:Array Value) (t:TypeId) (cs:List Value)
    (hu:P.underlying dT = some (.slice elem)) (hs:(P.info? elem).map (·.size) = some S)
    (hg:w.heap[g]? = some (.cells cur t (0,0))) (hn:cs.length = Nat.min sLen dLen * S)
    (hsrc:∀ j v,cs[j]? = some v→w.cell? (a.add j) = some v) (hfit:o + cs.length≤cur.size) (h1:∀ v ∈ cs,v.oneCell' = true) :
    (Go.Builtin.copy_ #[dT,sT] ty #[.slice (some ⟨g,o,none⟩) dLen dCap,.slice (some a) sLen sCap]).run P w =
      .ok (goInt (Nat.min sLen dLen)) (w.setRow g (cur.toList.take o ++ cs ++ cur.toList.drop (o + cs.length)).toArray):=by
  have hl:=run_loadCells_list (P:=P) w a cs hsrc
  have hst:=run_storeCells_at P g o t cs 0 cur w hg (by simpa using hfit) h1
  cases hq:P.info? elem with
  | none=>simp [hq] at hs
  | some i =>
    have hi:i.size = S:=by simpa [hq] using hs
    simp [Go.Builtin.copy_,run_underlying hu,Go.Builtin.lenOf,Go.Builtin.firstCells,sizeOf,typeInfo,hq,hi,← hn,hl,hst]
theorem run_copy_empty {P:Program} (w:World) (dT sT ty elem:TypeId) (d a:Option Addr) (dLen dCap sLen sCap:Nat) (hu:P.underlying dT = some (.slice elem)) (hs:((P.info? elem).map (·.size)).isSome = true) (hn:Nat.min sLen dLen = 0) :
    (Go.Builtin.copy_ #[dT,sT] ty #[.slice d dLen dCap,.slice a sLen sCap]).run P w = .ok (goInt 0) w:=by
  cases hq:P.info? elem with
  | none=>simp [hq] at hs
  | some i =>
    cases a <;> cases d <;> simp [Go.Builtin.copy_,run_underlying hu,Go.Builtin.lenOf,Go.Builtin.firstCells,sizeOf,typeInfo,hq,hn,loadCells,loadCellsFrom,storeCells]
theorem step_copy {ops:Array Oper} {o:Oper} {a:Act} {w:World} {K:Act→World→Prop} {Q:Exit→Act→World→Prop} {E:Prop} (hgd:o.guard = none) (d s:Operand)
    (ho:o.op = .call { callee:=.builtin .copy,args:=#[d,s],argTypes:=#[55,55] })
    (dp sp:Option Addr) (dLen dCap sLen sCap:Nat) (hd:a.eval d = .slice dp dLen dCap) (hs:a.eval s = .slice sp sLen sCap)
    (g off:Nat) (cur:List Value) (hg:w.heap[g]? = some (.cells cur.toArray 52 (0,0))) (cs:List Value) (hn:cs.length = Nat.min sLen dLen * 11)
    (hpos:0 < cs.length→dp = some ⟨g,off,none⟩∧∃ ad,sp = some ad∧∀ j v,cs[j]? = some v→w.cell? (ad.add j) = some v)
    (hfit:off + cs.length≤cur.length) (h1:∀ v ∈ cs,v.oneCell' = true)
    (h:∀ w',Hid (w'.heap[g]? = some (.cells (splice cur off cs).toArray 52 (0,0)))→w.grownBy w' (some g)→K (a.put o.dst (goInt (Nat.min sLen dLen))) w') :
    if Region.wanted o (yielded ops a.tmps) = true then Oper.wp Try.prog o a w K Q else E:=by
  obtain ⟨i0,hi,hz0,hz1,hz2⟩:=info_parts Try.infoOp
  have hw:Region.wanted o (yielded ops a.tmps) = true:=by simp [Region.wanted,hgd]
  rw [if_pos hw]
  by_cases h0:cs.length = 0
  · obtain rfl:cs = []:=List.eq_nil_of_length_eq_zero h0
    have hm:Nat.min sLen dLen = 0:=by simp at hn;omega
    have hrun:=run_copy_empty (P:=Try.prog) w 55 55 o.type 52 dp sp dLen dCap sLen sCap Try.underlying55 (by rw [hi];rfl) hm
    unfold Oper.wp
    simp [execOp,ho,resolve,invoke,builtin,hd,hs,hrun,Result.andThen]
    rw [hm] at h
    exact h w (show _ = _ by simpa [splice] using hg) (World.grownBy.refl w _)
  · obtain ⟨rfl,ad,rfl,hsrc⟩:=hpos (by omega)
    have hrun:=run_copy_size (P:=Try.prog) 11 w 55 55 o.type 52 g off dLen dCap ad sLen sCap cur.toArray 52 cs Try.underlying55 (by rw [hi];simp [hz1]) hg hn hsrc (by simpa using hfit) h1
    unfold Oper.wp
    simp [execOp,ho,resolve,invoke,builtin,hd,hs,hrun,Result.andThen]
    exact h _ (show _ = _ by simpa [splice] using setRow_heap w g _ _ 52 _ hg) ⟨rfl,rfl,rfl,by simp [World.setRow],fun k hk hne=>setRow_other w g k _ (fun e=>hne (by rw [e]))⟩
theorem wpList_copy_ops {w:World} {ops:Array Oper} {rest:List Oper} {o:Oper} {a:Act} {Q:Exit→Act→World→Prop} (hgd:o.guard = none) (d s:Operand)
    (ho:o.op = .call { callee:=.builtin .copy,args:=#[d,s],argTypes:=#[55,55] })
    (dp sp:Option Addr) (dLen dCap sLen sCap:Nat) (hd:a.eval d = .slice dp dLen dCap) (hs:a.eval s = .slice sp sLen sCap)
    (g off:Nat) (cur:List Value) (hg:w.heap[g]? = some (.cells cur.toArray 52 (0,0))) (cs:List Value) (hn:cs.length = Nat.min sLen dLen * 11)
    (hpos:0 < cs.length→dp = some ⟨g,off,none⟩∧∃ ad,sp = some ad∧∀ j v,cs[j]? = some v→w.cell? (ad.add j) = some v)
    (hfit:off + cs.length≤cur.length) (h1:∀ v ∈ cs,v.oneCell' = true)
    (h:∀ w',Hid (w'.heap[g]? = some (.cells (splice cur off cs).toArray 52 (0,0)))→w.grownBy w' (some g)→wpList Try.prog ops Q rest (a.put o.dst (goInt (Nat.min sLen dLen))) w') :
    wpList Try.prog ops Q (o :: rest) a w:=by
  obtain ⟨i0,hi,hz0,hz1,hz2⟩:=info_parts Try.infoOp
  refine wpList_plain hgd fun K hK=>?_
  by_cases h0:cs.length = 0
  · obtain rfl:cs = []:=List.eq_nil_of_length_eq_zero h0
    have hm:Nat.min sLen dLen = 0:=by simp at hn;omega
    have hrun:=run_copy_empty (P:=Try.prog) w 55 55 o.type 52 dp sp dLen dCap sLen sCap Try.underlying55 (by rw [hi];rfl) hm
    unfold Oper.wp
    simp [execOp,ho,resolve,invoke,builtin,hd,hs,hrun,Result.andThen]
    rw [hm] at h
    exact hK _ _ (h w (show _ = _ by simpa [splice] using hg) (World.grownBy.refl w _))
  · obtain ⟨rfl,ad,rfl,hsrc⟩:=hpos (by omega)
    have hrun:=run_copy_size (P:=Try.prog) 11 w 55 55 o.type 52 g off dLen dCap ad sLen sCap cur.toArray 52 cs Try.underlying55 (by rw [hi];simp [hz1]) hg hn hsrc (by simpa using hfit) h1
    unfold Oper.wp
    simp [execOp,ho,resolve,invoke,builtin,hd,hs,hrun,Result.andThen]
    exact hK _ _ (h _ (show _ = _ by simpa [splice] using setRow_heap w g _ _ 52 _ hg) ⟨rfl,rfl,rfl,by simp [World.setRow],fun k hk hne=>setRow_other w g k _ (fun e=>hne (by rw [e]))⟩)
theorem run_clear_none {P:Program} (w:World) (t e ty:TypeId) (ht:P.underlying t = some (.slice e)) (A:Option Addr) (c:Nat):(Go.Builtin.clear_ #[t] ty #[.slice A 0 c]).run P w = .ok (.tuple #[]) w:=by
  cases A <;> simp [Go.Builtin.clear_,run_underlying ht]
def zeroL:List Value:=[.int .u8 0,.slice none 0 0,.int .i64 0,.slice none 0 0,.int .u64 0,.bool false,.string ⟨#[]⟩,.string ⟨#[]⟩,.string ⟨#[]⟩,.bool false,.slice none 0 0]
theorem run_clear_op (w:World) (ty:TypeId) (g off c:Nat) (cur:List Value) (hg:w.heap[g]? = some (.cells cur.toArray 52 (0,0))) (hfit:off + 11≤cur.length) :
    ∃ w',(Go.Builtin.clear_ #[55] ty #[.slice (some ⟨g,off,none⟩) 1 c]).run Try.prog w = .ok (.tuple #[]) w'∧w'.heap[g]? = some (.cells (splice cur off zeroL).toArray 52 (0,0))∧w.grownBy w' (some g):=by
  obtain ⟨i0,hi,hz0,hz1,hz2⟩:=info_parts Try.infoOp
  have hzl:(Go.Builtin.zeroCells (Value.agg #[.int .u8 0,.slice none 0 0,.int .i64 0,.slice none 0 0,.int .u64 0,.bool false,.string ⟨#[]⟩,.string ⟨#[]⟩,.string ⟨#[]⟩,.bool false,.slice none 0 0]).cells 1).toList = zeroL:=by kernel_rfl
  have hzero:∀ w,(zeroValue 52).run Try.prog w = .ok (.agg #[.int .u8 0,.slice none 0 0,.int .i64 0,.slice none 0 0,.int .u64 0,.bool false,.string ⟨#[]⟩,.string ⟨#[]⟩,.string ⟨#[]⟩,.bool false,.slice none 0 0]) w:=fun w=>by
    simp [zeroValue,typeInfo,hi,hz0]
  have hst:=run_storeCells_at Try.prog g off 52 zeroL 0 cur.toArray w hg (by simpa [zeroL] using hfit) (by intro v hv;simp only [zeroL,List.mem_cons,List.not_mem_nil,or_false] at hv;rcases hv with rfl | rfl | rfl | rfl | rfl | rfl | rfl | rfl | rfl | rfl | rfl <;> rfl)
  have hst2:(storeCells ⟨g,off,none⟩ zeroL).run Try.prog w = .ok () (w.setRow g (cur.take off ++ (zeroL ++ cur.drop (off + zeroL.length))).toArray):=by simpa using hst
  refine ⟨w.setRow g (cur.take off ++ (zeroL ++ cur.drop (off + zeroL.length))).toArray,?_,by simpa [splice] using setRow_heap w g _ _ 52 _ hg,⟨rfl,rfl,rfl,by simp [World.setRow],fun k hk hne=>setRow_other w g k _ (fun e=>hne (by rw [e]))⟩⟩
  simp [Go.Builtin.clear_,run_underlying Try.underlying55,hzero,hzl,hst2,Result.andThen]
end Go.Proofs.Ytidimannfemnmaa.Lst
namespace Go.Proofs.Ytidimannfemnmaa.Lst
open Go.RowKit Top Sim
set_option maxRecDepth 20000

theorem splice_get {α:Type} (L:List α) (off:Nat) (cs:List α) (h:off + cs.length≤L.length) (j:Nat):(splice L off cs)[j]? = if off≤j∧j < off + cs.length then cs[j - off]? else L[j]?:=by
  unfold splice
  rw [List.getElem?_append,List.getElem?_append,List.length_take,Nat.min_eq_left (by omega),List.getElem?_take,List.getElem?_drop]
  by_cases h1:j < off
  · rw [if_pos h1,if_pos h1,if_neg (by omega)]
  · rw [if_neg h1]
    by_cases h2:j - off < cs.length
    · rw [if_pos h2,if_pos (by omega)]
    · rw [if_neg h2,if_neg (by omega),show off + cs.length + (j - off - cs.length) = j by omega]
theorem splice_take_le {α:Type} {L cs:List α} {off t:Nat} (h:t≤off) (hL:off≤L.length):(splice L off cs).take t = L.take t:=by
  unfold splice
  rw [List.take_append_of_le_length (by rw [List.length_take];omega),List.take_take,Nat.min_eq_left h]
theorem splice_take {α:Type} {L cs:List α} {off:Nat} (hL:off≤L.length):(splice L off cs).take (off + cs.length) = L.take off ++ cs:=by
  unfold splice
  have e:(L.take off).length = off:=by rw [List.length_take];omega
  rw [← List.append_assoc,List.take_append_of_le_length (by rw [List.length_append];omega),List.take_of_length_le (by rw [List.length_append];omega)]
theorem row_src {W:World} {g:Nat} {L X:List Value} (h:W.heap[g]? = some (.cells L.toArray 52 (0,0))) (a:Nat) (hX:∀ j,j < X.length→L[a + j]? = X[j]?):∀ j v,X[j]? = some v→W.cell? ((⟨g,a,none⟩:Addr).add j) = some v:=fun j v hj=>by
  have hjl:=(List.getElem?_eq_some_iff.1 hj).1
  have e:(⟨g,a,none⟩:Addr).add j = ⟨g,a + j,none⟩:=by unfold Addr.add;split <;> simp_all
  rw [e]
  exact (cell_of_row W g _ _ _ _ h).trans (by rw [List.getElem?_toArray,hX j hjl];exact hj)
theorem own_block {base:Nat} {w:World} {g n c:Nat} {l:List (Ov × OS)} (h:OwnO base w (.slice (some ⟨g,0,none⟩) n c) l):∃ cur:List Value,w.heap[g]? = some (.cells cur.toArray 52 (0,0))∧l.length = n∧n≤c∧c≤maxLen∧cur.length = c * 11∧cur.take (n * 11) = l.flatMap opL∧base≤g∧g < w.heap.size:=by
  rcases h.2 with ⟨e,_⟩ | ⟨g',cap,cur,e,hb,hg,hnc,hcm,hcs,ht⟩
  · cases e
  · injection e with e1 e2 e3
    injection e1 with e1
    injection e1 with e1
    subst e1 e2 e3
    exact ⟨cur.toList,by simpa using hg,rfl,hnc,hcm,by simpa using hcs,ht,hb,(Array.getElem?_eq_some_iff.1 hg).1⟩
theorem own_of {base:Nat} {w:World} {g n c:Nat} {cur:List Value} {l:List (Ov × OS)} (hg:w.heap[g]? = some (.cells cur.toArray 52 (0,0))) (hl:l.length = n) (hnc:n≤c) (hcm:c≤maxLen) (hc:cur.length = c * 11) (ht:cur.take (n * 11) = l.flatMap opL) (hb:base≤g):OwnO base w (.slice (some ⟨g,0,none⟩) n c) l:=by
  subst hl
  exact ⟨by rw [chunk_len opL 11 opL_len],.inr ⟨g,c,cur.toArray,rfl,hb,hg,hnc,hcm,by simpa using hc,by simpa using ht⟩⟩
theorem own_some {base:Nat} {w:World} {v:Value} {l:List (Ov × OS)} (h:OwnO base w v l) (h0:0 < l.length):∃ k n c,v = .slice (some ⟨k,0,none⟩) n c∧n = l.length:=by
  obtain ⟨A,n,c,rfl,h1,-,-,-,h2⟩:=h.shape
  obtain ⟨x,hx⟩:∃ x,l[0]? = some x:=⟨_,List.getElem?_eq_getElem h0⟩
  obtain ⟨g,rfl,-⟩:=h2 0 x hx
  exact ⟨g,n,c,rfl,h1⟩
def RepA (base:Nat) (w:World) (g:Nat) (l:List (Ov × OS)) (e:Ending) (w':World):Prop :=
  ∃ (k n c:Nat),e = .returned (.slice (some ⟨k,0,none⟩) n c)∧OwnO base w' (.slice (some ⟨k,0,none⟩) n c) l∧w.grownBy w' (some g)∧(k = g∨w.heap.size≤k)
set_option maxHeartbeats 8000000 in
theorem rep_last (w:World) (base g n c i:Nat) (l:List (Ov × OS)) (hown:OwnO base w (.slice (some ⟨g,0,none⟩) n c) l) (hi:i + 1 = n) (B:Option Addr) (m d:Nat) (l2:List (Ov × OS)) (h2:OpsR w B m l2) (hB:B = none→d = 0) (h0:0 < m) (hlen:l.length + l2.length≤100000) (hbase:base≤w.heap.size) :
    Calls Try.prog 197 #[.slice (some ⟨g,0,none⟩) n c,.int .i64 (i:Int),.int .i64 ((i:Int) + 1),.slice B m d] w (RepA base w g (l.take i ++ l2)):=by
  obtain ⟨cur,hg,hl,hnc,hcm,hcl,hct,hbg,hgs⟩:=own_block hown
  have hcut:=Lib.hid (hown.cut i (by omega))
  have hm:=h2.1
  have h2':=Lib.hid h2
  have c1:¬ c = i:=by omega
  have e0:(0:Int)≤(i:Int):=by omega
  have e1:(i:Int)≤(i:Int) + 1:=by omega
  have e2:(i:Int) + 1≤(c:Int):=by omega
  have e2b:(i:Int)≤(c:Int):=by omega
  have e3:((i:Int) == (i:Int) + 1) = false:=beq_eq_false_iff_ne.2 (by omega)
  have e4:((i:Int) + 1 == (n:Int)) = true:=beq_iff_eq.2 (by omega)
  have e5:((i:Int) + 1).toNat = i + 1:=by omega
  have hle:=Lib.hid (show (l.take i).length + l2.length≤1000000 by rw [List.length_take];omega)
  have hln:=Lib.hid (show (l.take i ++ l2).length = i + m by rw [List.length_append,List.length_take,hm];omega)
  have hbase':=Lib.hid hbase
  have hcm':=Lib.hid hcm
  have hmn:=Lib.hid (show n≤i + m by omega)
  clear hown hg hl hnc hcm hcl hct hlen hbase h2 hm hi
  go_enter Try.func197,Try.ntmps197
  go_wp2_with (at_builtin;(refine wpList_append_ops rfl _ (.tmp 33) rfl base (.slice (some ⟨g,0,none⟩) i c) (l.take i) rfl hcut.out B m d l2 rfl h2'.out hB hle.out hbase'.out ?_;intro v5 w5 hv5 hg5 hk5;obtain ⟨k5,n5,c5,rfl,q1⟩:=own_some hv5 (by rw [hln.out];omega);have hn5:¬ (n5:Int) < (n:Int):=(by have:=hmn.out;have:=hln.out;omega);have V5:=Lib.hid hv5;clear q1;have G5:=Lib.hid hg5;have K5:=Lib.hid hk5;clear hv5 hg5 hk5))
  go_ret
  exact ⟨k5,n5,c5,rfl,V5.out,G5.out,by
    rcases K5.out with h | h
    · injection h with h;exact .inl h
    · injection h with h;exact .inr (Nat.le_of_eq h.symm)⟩
theorem run_append_zero {P:Program} (w:World) (t ty e:TypeId) (i:TypeInfo) (ht:P.underlying t = some (.slice e)) (hi:P.info? e = some i) (A B:Option Addr) (n c d:Nat) (hnc:n≤c) :
    (Go.Builtin.append_ #[t,t] ty #[.slice A n c,.slice B 0 d]).run P w = .ok (.slice A n c) w:=by
  cases A <;> cases B <;> simp [Go.Builtin.append_,run_underlying ht,Go.Builtin.lenOf,Go.Builtin.firstCells,sizeOf,typeInfo,hi,loadCells,loadCellsFrom,storeCells,hnc]
theorem wpList_append_zero {w:World} {ops:Array Oper} {rest:List Oper} {o:Oper} {a:Act} {Q:Exit→Act→World→Prop} (hgd:o.guard = none) (s x:Operand)
    (ho:o.op = .call { callee:=.builtin .append,args:=#[s,x],argTypes:=#[55,55] }) (A B:Option Addr) (n c d:Nat) (hs:a.eval s = .slice A n c) (hx:a.eval x = .slice B 0 d) (hnc:n≤c)
    (h:wpList Try.prog ops Q rest (a.put o.dst (.slice A n c)) w):wpList Try.prog ops Q (o :: rest) a w:=by
  obtain ⟨i0,hi,hz0,hz1,hz2⟩:=info_parts Try.infoOp
  refine wpList_plain hgd fun K hK=>?_
  have hrun:=run_append_zero (P:=Try.prog) w 55 o.type 52 i0 Try.underlying55 hi A B n c d hnc
  unfold Oper.wp execOp
  simp only [ho,resolve,invoke,builtin,Sem.run_bind,Sem.run_pure,Result.andThen_ok,List.map_toArray,List.map_cons,List.map_nil,hs,hx,hrun]
  exact hK _ _ h
set_option maxHeartbeats 8000000 in
theorem rep_gone (w:World) (base g n c i:Nat) (l:List (Ov × OS)) (hown:OwnO base w (.slice (some ⟨g,0,none⟩) n c) l) (hi:i + 1 = n) (B:Option Addr) (d:Nat) :
    Calls Try.prog 197 #[.slice (some ⟨g,0,none⟩) n c,.int .i64 (i:Int),.int .i64 ((i:Int) + 1),.slice B 0 d] w (RepA base w g (l.take i)):=by
  obtain ⟨cur,hg,hl,hnc,hcm,hcl,hct,hbg,hgs⟩:=own_block hown
  have c1:¬ c = i:=by omega
  have e0:(0:Int)≤(i:Int):=by omega
  have e1:(i:Int)≤(i:Int) + 1:=by omega
  have e2:(i:Int) + 1≤(c:Int):=by omega
  have e2b:(i:Int)≤(c:Int):=by omega
  have e3:((i:Int) == (i:Int) + 1) = false:=beq_eq_false_iff_ne.2 (by omega)
  have e4:((i:Int) + 1 == (n:Int)) = true:=beq_iff_eq.2 (by omega)
  have e5:((i:Int) + 1).toNat = i + 1:=by omega
  have e6:(i:Int) < (n:Int):=by omega
  have e7:(i:Int)≤(n:Int):=by omega
  have e8:(n:Int)≤(c:Int):=by omega
  have e9:n - i = 1:=by omega
  have hic:i≤c:=by omega
  have hg':=Lib.hid hg
  have hfin:=Lib.hid (fun (w':World) (h:w'.heap[g]? = some (.cells (splice cur (i * 11) zeroL).toArray 52 (0,0)))=>show OwnO base w' (.slice (some ⟨g,0,none⟩) i c) (l.take i) from own_of h (by rw [List.length_take];omega) (by omega) hcm (by rw [length_splice _ _ _ (by simp [zeroL];omega)];exact hcl) (by
    rw [chunk_take opL 11 opL_len,← hct,List.take_take,Nat.min_eq_left (by omega)]
    refine List.ext_getElem? fun j=>?_
    rw [List.getElem?_take,List.getElem?_take]
    split
    · rw [splice_get _ _ _ (by simp [zeroL];omega),if_neg (by omega)]
    · rfl) hbg)
  obtain ⟨w5,hclr,hG5,hB5⟩:=run_clear_op w 0 g (i * 11) (c - i) cur hg (by omega)
  have hG5:=Lib.hid hG5
  have hB5:=Lib.hid hB5
  clear hown hg hl hnc hcm hcl hct hi hbg hgs
  go_enter Try.func197,Try.ntmps197
  go_wp2_with (first
    | (at_builtin;(refine wpList_append_zero rfl _ (.tmp 33) rfl (some ⟨g,0,none⟩) B i c d rfl rfl hic ?_)))
  go_ret
  exact ⟨g,i,c,rfl,hfin.out _ hG5.out,hB5.out,.inl rfl⟩
end Go.Proofs.Ytidimannfemnmaa.Lst
namespace Go.Proofs.Ytidimannfemnmaa.Lst
open Go.RowKit Top Sim
set_option maxRecDepth 20000

theorem world_drew (w:World):{ w with drawn:=w.drawn + 1 } = w.drew:=rfl
theorem grown3 {w w1 w2 w3:World} {nq g:Nat} (h1:(w.drewN nq).grownBy w1 (some g)) (h2:w1.drew.grownBy w2 (some g)) (h3:w2.grownBy w3 (some g)):w.grownBy w3 (some g) :=
  (show w.grownBy w1 (some g) from ⟨h1.os,h1.tape,h1.output,h1.size,h1.block⟩).trans ((show w1.grownBy w2 (some g) from ⟨h2.os,h2.tape,h2.output,h2.size,h2.block⟩).trans h3)
set_option maxHeartbeats 8000000 in
theorem rep_less (w:World) (base g n c i:Nat) (l:List (Ov × OS)) (hown:OwnO base w (.slice (some ⟨g,0,none⟩) n c) l) (hi:i + 1 < n) (B:Option Addr) (d:Nat) :
    Calls Try.prog 197 #[.slice (some ⟨g,0,none⟩) n c,.int .i64 (i:Int),.int .i64 ((i:Int) + 1),.slice B 0 d] w (RepA base w g (l.take i ++ l.drop (i + 1))):=by
  obtain ⟨cur,hg,hl,hnc,hcm,hcl,hct,hbg,hgs⟩:=own_block hown
  have hcm2:c≤9223372036854775807:=by unfold maxLen at hcm;omega
  obtain ⟨k,hk⟩:∃ k,k = n - (i + 1):=⟨_,rfl⟩
  have c1:¬ c = i:=by omega
  have c2:¬ c = i + 1:=by omega
  have e0:(0:Int)≤(i:Int):=by omega
  have e1:(i:Int)≤(i:Int) + 1:=by omega
  have e2:(i:Int) + 1≤(c:Int):=by omega
  have e2b:(i:Int)≤(c:Int):=by omega
  have e2c:(i:Int) + 1≤(n:Int):=by omega
  have e2d:(n:Int)≤(c:Int):=by omega
  have e2e:(0:Int)≤(i:Int) + 1:=by omega
  have e3:((i:Int) == (i:Int) + 1) = false:=beq_eq_false_iff_ne.2 (by omega)
  have e4:((i:Int) + 1 == (n:Int)) = false:=beq_eq_false_iff_ne.2 (by omega)
  have e5:((i:Int) + 1).toNat = i + 1:=by omega
  have e6:n - (i + 1) = k:=hk.symm
  have w1:IntKind.i64.wrap (i:Int) = (i:Int):=IntWalk.i64_in _ (by omega)
  have w2:IntKind.i64.wrap ((i:Int) + (k:Int)) = (i:Int) + (k:Int):=IntWalk.i64_in _ (by omega)
  have g1:¬ (c:Int) < (i:Int) + (k:Int):=by omega
  have g2:(0:Int)≤(i:Int) + (k:Int):=by omega
  have g3:(i:Int) + (k:Int)≤(c:Int):=by omega
  have g4:((i:Int) + (k:Int)).toNat = i + k:=by omega
  have g5:(i:Int)≤(i:Int) + (k:Int):=by omega
  have g6:(i:Int) + (k:Int)≤(n:Int):=by omega
  have g7:¬ c = i + k:=by omega
  have g8:n - (i + k) = 1:=by omega
  obtain ⟨X,hX⟩:∃ X,X = (l.drop (i + 1)).flatMap opL:=⟨_,rfl⟩
  have hXl:X.length = k * 11:=by rw [hX,chunk_len opL 11 opL_len,List.length_drop];omega
  have hX1:=Lib.hid (show ∀ v ∈ X,v.oneCell' = true from fun v hv=>by rw [hX] at hv;exact ops_one _ v hv)
  have hXc:∀ j,j < k * 11→cur[(i + 1) * 11 + j]? = X[j]?:=fun j hj=>by
    rw [hX,chunk_drop opL 11 opL_len,← hct,List.getElem?_drop,List.getElem?_take,if_pos (by omega)]
  have hXc':=Lib.hid (show ∀ j,j < X.length→cur[(i + 1) * 11 + j]? = X[j]? from fun j hj=>hXc j (by omega))
  have hXl':=Lib.hid hXl
  have hfit:=Lib.hid (show i * 11 + X.length≤cur.length by omega)
  have hfit2:=Lib.hid (show (i + k) * 11 + 11≤cur.length by omega)
  have hfin:=Lib.hid (fun (w':World) (h:w'.heap[g]? = some (.cells (splice (splice cur (i * 11) X) ((i + k) * 11) zeroL).toArray 52 (0,0)))=>show OwnO base w' (.slice (some ⟨g,0,none⟩) (i + k) c) (l.take i ++ l.drop (i + 1)) from
    own_of h (by rw [List.length_append,List.length_take,List.length_drop];omega) (by omega) hcm (by
      have e1:(splice cur (i * 11) X).length = cur.length:=length_splice _ _ _ (by omega)
      rw [length_splice _ _ _ (by simp [zeroL];omega),e1];exact hcl) (by
      have e1:(splice cur (i * 11) X).length = cur.length:=length_splice _ _ _ (by omega)
      rw [splice_take_le (Nat.le_refl _) (by omega),show (i + k) * 11 = i * 11 + X.length by omega,splice_take (by omega),List.flatMap_append,← hX,chunk_take opL 11 opL_len,← hct,List.take_take,Nat.min_eq_left (by omega)]) hbg)
  have hg':=Lib.hid hg
  clear hown hg hl hnc hcm hcl hct hi hbg hgs hk hX hXl hXc
  go_enter Try.func197,Try.ntmps197
  go_upto_region 9 with fail
  go_quiet (fail)
  rename_i nq
  go_wp2_with ((refine wpList_copy_ops rfl (.tmp 95) (.tmp 96) rfl _ B _ _ 0 d rfl rfl g (i * 11) cur hg'.out [] (by simp) (fun h=>by simp at h) (by simp;have:=hfit.out;omega) (fun v hv=>by cases hv) ?_;intro w4 hg4 hb4;have G4:=Lib.hid hg4;have B4:=Lib.hid hb4;clear hg4 hb4))
  have hG4:=Lib.hid (show w4.heap[g]? = some (.cells cur.toArray 52 (0,0)) by simpa [splice] using G4.out.out)
  rename_i K0 hK0
  refine wp_region_any (by kernel_rfl) ?_
  rw [world_drew]
  refine wpAny_take (i:=0) (oi:={ dst:=some 98,op:=Go.Op.move (Go.Operand.tmp 12),type:=55,pos:="slices.go:290",after:=#[],guard:=none }) (v:=?_) rfl (by kernel_rfl) (by kernel_rfl) (by kernel_rfl) (fun _ _ _ h=>h) (Or.inl ⟨by rfl,?_⟩) ?_
  rotate_left 1
  · (intro w;go_simp;try with_reducible rfl)
  try simp only [Act.put,zA,zB,zC]
  refine wpAny_take (i:=1) (oi:={ dst:=some 99,op:=Go.Op.move (Go.Operand.tmp 1),type:=3,pos:="slices.go:290",after:=#[],guard:=none }) (v:=?_) rfl (by kernel_rfl) (by kernel_rfl) (by kernel_rfl) (fun _ _ _ h=>h) (Or.inl ⟨by rfl,?_⟩) ?_
  rotate_left 1
  · (intro w;go_simp;try with_reducible rfl)
  try simp only [Act.put,zA,zB,zC]
  refine wpAny_take (i:=2) (oi:={ dst:=some 100,op:=Go.Op.move (Go.Operand.tmp 3),type:=55,pos:="slices.go:290",after:=#[],guard:=none }) (v:=?_) rfl (by kernel_rfl) (by kernel_rfl) (by kernel_rfl) (fun _ _ _ h=>h) (Or.inl ⟨by rfl,?_⟩) ?_
  rotate_left 1
  · (intro w;go_simp;try with_reducible rfl)
  try simp only [Act.put,zA,zB,zC]
  refine wpAny_take (i:=3) (oi:={ dst:=some 101,op:=Go.Op.call { callee:=Go.Callee.builtin Go.Builtin.len,args:=#[Go.Operand.tmp 100],argTypes:=#[55] },type:=3,pos:="slices.go:290",after:=#[{ on:=2,ground:=Go.Ground.data }],guard:=none }) (v:=?_) rfl (by kernel_rfl) (by kernel_rfl) (by kernel_rfl) (fun _ _ _ h=>h) (Or.inl ⟨by rfl,?_⟩) ?_
  rotate_left 1
  · (intro w;go_simp;try with_reducible rfl)
  try simp only [Act.put,zA,zB,zC]
  refine wpAny_take (i:=4) (oi:={ dst:=some 102,op:=Go.Op.binOp Go.BinOp.add 3 (Go.Operand.tmp 99) (Go.Operand.tmp 101) 3,type:=3,pos:="slices.go:290",after:=#[{ on:=1,ground:=Go.Ground.data },{ on:=3,ground:=Go.Ground.data }],guard:=none }) (v:=?_) rfl (by kernel_rfl) (by kernel_rfl) (by kernel_rfl) (fun _ _ _ h=>h) (Or.inl ⟨by rfl,?_⟩) ?_
  rotate_left 1
  · (intro w;go_simp;try with_reducible rfl)
  try simp only [Act.put,zA,zB,zC]
  refine wpAny_take (i:=5) (oi:={ dst:=some 103,op:=Go.Op.slice 55 (Go.Operand.tmp 98) (some (Go.Operand.tmp 102)) none none,type:=55,pos:="slices.go:290",after:=#[{ on:=0,ground:=Go.Ground.data },{ on:=4,ground:=Go.Ground.data }],guard:=none }) (v:=?_) rfl (by kernel_rfl) (by kernel_rfl) (by kernel_rfl) (fun _ _ _ h=>h) (Or.inl ⟨by rfl,?_⟩) ?_
  rotate_left 1
  · (intro w;go_simp;try with_reducible rfl)
  try simp only [Act.put,zA,zB,zC]
  refine wpAny_take (i:=6) (oi:={ dst:=some 104,op:=Go.Op.move (Go.Operand.tmp 0),type:=55,pos:="slices.go:290",after:=#[],guard:=none }) (v:=?_) rfl (by kernel_rfl) (by kernel_rfl) (by kernel_rfl) (fun _ _ _ h=>h) (Or.inl ⟨by rfl,?_⟩) ?_
  rotate_left 1
  · (intro w;go_simp;try with_reducible rfl)
  try simp only [Act.put,zA,zB,zC]
  refine wpAny_take (i:=7) (oi:={ dst:=some 105,op:=Go.Op.move (Go.Operand.tmp 2),type:=3,pos:="slices.go:290",after:=#[],guard:=none }) (v:=?_) rfl (by kernel_rfl) (by kernel_rfl) (by kernel_rfl) (fun _ _ _ h=>h) (Or.inl ⟨by rfl,?_⟩) ?_
  rotate_left 1
  · (intro w;go_simp;try with_reducible rfl)
  try simp only [Act.put,zA,zB,zC]
  refine wpAny_take (i:=8) (oi:={ dst:=some 106,op:=Go.Op.slice 55 (Go.Operand.tmp 104) (some (Go.Operand.tmp 105)) none none,type:=55,pos:="slices.go:290",after:=#[{ on:=6,ground:=Go.Ground.data },{ on:=7,ground:=Go.Ground.data }],guard:=none }) (v:=?_) rfl (by kernel_rfl) (by kernel_rfl) (by kernel_rfl) (fun _ _ _ h=>h) (Or.inl ⟨by rfl,?_⟩) ?_
  rotate_left 1
  · (intro w;go_simp;try with_reducible rfl)
  try simp only [Act.put,zA,zB,zC]
  refine wpAny_ready (rs:=[9]) (by kernel_rfl) (by simp) ?_
  refine AllReady.cons (o:={ dst:=some 107,op:=Go.Op.call { callee:=Go.Callee.builtin Go.Builtin.copy,args:=#[Go.Operand.tmp 103,Go.Operand.tmp 106],argTypes:=#[55,55] },type:=3,pos:="slices.go:290",after:=#[{ on:=5,ground:=Go.Ground.data },{ on:=8,ground:=Go.Ground.data }],guard:=none }) rfl (fun K hK=>?_) AllReady.nil
  refine step_copy rfl (.tmp 103) (.tmp 106) rfl _ _ _ _ _ _ rfl rfl g (i * 11) cur hG4.out X (by rw [hXl'.out];simp) (fun _=>⟨rfl,_,rfl,row_src hG4.out _ hXc'.out⟩) hfit.out hX1.out ?_
  intro w6 hg6 hb6
  have G6:=Lib.hid hg6
  have B6:=Lib.hid hb6
  clear hg6 hb6
  refine hK _ _ ?_
  clear hK K
  try simp only [Act.put,zA,zB,zC]
  refine wpAny_done (by kernel_rfl) ?_ _
  refine hK0 _ _ ?_
  clear hK0
  obtain ⟨w7,hclr,hG7,hB7⟩:=run_clear_op w6 0 g ((i + k) * 11) (c - (i + k)) _ G6.out.out (by rw [length_splice _ _ _ hfit.out];exact hfit2.out)
  have hG7:=Lib.hid hG7
  have hB7:=Lib.hid hB7
  go_wp2_with fail
  go_ret
  exact ⟨g,i + k,c,rfl,hfin.out _ hG7.out,grown3 B4.out B6.out hB7.out,.inl rfl⟩
end Go.Proofs.Ytidimannfemnmaa.Lst
namespace Go.Proofs.Ytidimannfemnmaa.Lst
open Go.RowKit Top Sim
set_option maxRecDepth 20000

theorem grown2 {w w1 w2:World} {nq g:Nat} (h1:(w.drewN nq).grownBy w1 (some g)) (h2:w1.drew.grownBy w2 (some g)):w.grownBy w2 (some g) :=
  (show w.grownBy w1 (some g) from ⟨h1.os,h1.tape,h1.output,h1.size,h1.block⟩).trans (show w1.grownBy w2 (some g) from ⟨h2.os,h2.tape,h2.output,h2.size,h2.block⟩)
set_option maxHeartbeats 8000000 in
theorem rep_one (w:World) (base g n c i:Nat) (l:List (Ov × OS)) (hown:OwnO base w (.slice (some ⟨g,0,none⟩) n c) l) (hi:i + 1 < n) (ad:Addr) (d:Nat) (l2:List (Ov × OS)) (h2:OpsR w (some ad) 1 l2) (hap:ad.block ≠ g) :
    Calls Try.prog 197 #[.slice (some ⟨g,0,none⟩) n c,.int .i64 (i:Int),.int .i64 ((i:Int) + 1),.slice (some ad) 1 d] w (RepA base w g (l.take i ++ (l2 ++ l.drop (i + 1)))):=by
  obtain ⟨cur,hg,hl,hnc,hcm,hcl,hct,hbg,hgs⟩:=own_block hown
  have hcm2:c≤9223372036854775807:=by unfold maxLen at hcm;omega
  obtain ⟨k,hk⟩:∃ k,k = n - (i + 1):=⟨_,rfl⟩
  have c1:¬ c = i:=by omega
  have c2:¬ c = i + 1:=by omega
  have e0:(0:Int)≤(i:Int):=by omega
  have e1:(i:Int)≤(i:Int) + 1:=by omega
  have e2:(i:Int) + 1≤(c:Int):=by omega
  have e2b:(i:Int)≤(c:Int):=by omega
  have e2c:(i:Int) + 1≤(n:Int):=by omega
  have e2d:(n:Int)≤(c:Int):=by omega
  have e2e:(0:Int)≤(i:Int) + 1:=by omega
  have e3:((i:Int) == (i:Int) + 1) = false:=beq_eq_false_iff_ne.2 (by omega)
  have e4:((i:Int) + 1 == (n:Int)) = false:=beq_eq_false_iff_ne.2 (by omega)
  have e5:((i:Int) + 1).toNat = i + 1:=by omega
  have e6:n - (i + 1) = k:=hk.symm
  have w1:IntKind.i64.wrap ((i:Int) + 1) = (i:Int) + 1:=IntWalk.i64_in _ (by omega)
  have w2:IntKind.i64.wrap ((i:Int) + 1 + (k:Int)) = (i:Int) + 1 + (k:Int):=IntWalk.i64_in _ (by omega)
  have g1:¬ (c:Int) < (i:Int) + 1 + (k:Int):=by omega
  have g2:(0:Int)≤(i:Int) + 1 + (k:Int):=by omega
  have g3:(i:Int) + 1 + (k:Int)≤(c:Int):=by omega
  have g4:((i:Int) + 1 + (k:Int)).toNat = i + 1 + k:=by omega
  have g5:(i:Int)≤(i:Int) + 1 + (k:Int):=by omega
  have g5b:(i:Int) + 1≤(i:Int) + 1 + (k:Int):=by omega
  have g6:(i:Int) + 1 + (k:Int)≤(n:Int):=by omega
  have g8:n - (i + 1 + k) = 0:=by omega
  have g9:i + 1 + k - i = k + 1:=by omega
  obtain ⟨X,hX⟩:∃ X,X = (l.drop (i + 1)).flatMap opL:=⟨_,rfl⟩
  have hXl:X.length = k * 11:=by rw [hX,chunk_len opL 11 opL_len,List.length_drop];omega
  have hX1:=Lib.hid (show ∀ v ∈ X,v.oneCell' = true from fun v hv=>by rw [hX] at hv;exact ops_one _ v hv)
  have hXc:∀ j,j < k * 11→cur[(i + 1) * 11 + j]? = X[j]?:=fun j hj=>by
    rw [hX,chunk_drop opL 11 opL_len,← hct,List.getElem?_drop,List.getElem?_take,if_pos (by omega)]
  have hXc':=Lib.hid (show ∀ j,j < X.length→cur[(i + 1) * 11 + j]? = X[j]? from fun j hj=>hXc j (by omega))
  have hXl':=Lib.hid hXl
  have hg':=Lib.hid hg
  obtain ⟨Y,hY⟩:∃ Y,Y = l2.flatMap opL:=⟨_,rfl⟩
  have hYl:Y.length = 11:=by rw [hY,chunk_len opL 11 opL_len,h2.1]
  have hY1:=Lib.hid (show ∀ v ∈ Y,v.oneCell' = true from fun v hv=>by rw [hY] at hv;exact ops_one _ v hv)
  have hYs:=Lib.hid (show ∀ j v,Y[j]? = some v→w.cell? (ad.add j) = some v by rw [hY];exact ops_cell h2)
  have hYl':=Lib.hid hYl
  have hfit:=Lib.hid (show i * 11 + Y.length≤cur.length by omega)
  have hl1:(splice cur (i * 11) Y).length = cur.length:=length_splice _ _ _ (by omega)
  have hfit2:=Lib.hid (show (i + 1) * 11 + X.length≤(splice cur (i * 11) Y).length by omega)
  have hXd':=Lib.hid (show ∀ j,j < X.length→(splice cur (i * 11) Y)[(i + 1) * 11 + j]? = X[j]? from fun j hj=>by rw [splice_get _ _ _ (by omega),if_neg (by omega)];exact hXc j (by omega))
  have hfin:=Lib.hid (fun (w':World) (h:w'.heap[g]? = some (.cells (splice (splice cur (i * 11) Y) ((i + 1) * 11) X).toArray 52 (0,0)))=>show OwnO base w' (.slice (some ⟨g,0,none⟩) (i + 1 + k) c) (l.take i ++ (l2 ++ l.drop (i + 1))) from
    own_of h (by rw [List.length_append,List.length_append,List.length_take,List.length_drop,h2.1];omega) (by omega) hcm (by
      rw [length_splice _ _ _ (by omega),hl1];exact hcl) (by
      rw [show (i + 1 + k) * 11 = (i + 1) * 11 + X.length by omega,splice_take (by omega),show (i + 1) * 11 = i * 11 + Y.length by omega,splice_take (by omega),List.flatMap_append,List.flatMap_append,← hX,← hY,chunk_take opL 11 opL_len,← hct,List.take_take,Nat.min_eq_left (by omega),List.append_assoc]) hbg)
  have hclr:=fun (W:World) (A:Option Addr) (d:Nat)=>run_clear_none (P:=Try.prog) W 55 52 0 Try.underlying55 A d
  clear hown hg hl hnc hcm hcl hct hi hbg hgs hk hX hXl hXc hXc' hY hYl hl1 h2
  go_enter Try.func197,Try.ntmps197
  go_upto_region 9 with fail
  go_quiet (fail)
  rename_i nq
  go_wp2_with ((refine wpList_copy_ops rfl (.tmp 95) (.tmp 96) rfl _ (some ad) _ _ 1 d rfl rfl g (i * 11) cur hg'.out Y (by rw [hYl'.out,show Nat.min 1 (k + 1) = 1 from Nat.min_eq_left (by omega)]) (fun _=>⟨rfl,ad,rfl,hYs.out⟩) hfit.out hY1.out ?_;intro w4 hg4 hb4;have G4:=Lib.hid hg4;have B4:=Lib.hid hb4;clear hg4 hb4))
  have hG4:=Lib.hid G4.out.out
  rename_i K0 hK0
  refine wp_region_any (by kernel_rfl) ?_
  rw [world_drew]
  refine wpAny_take (i:=0) (oi:={ dst:=some 98,op:=Go.Op.move (Go.Operand.tmp 12),type:=55,pos:="slices.go:290",after:=#[],guard:=none }) (v:=?_) rfl (by kernel_rfl) (by kernel_rfl) (by kernel_rfl) (fun _ _ _ h=>h) (Or.inl ⟨by rfl,?_⟩) ?_
  rotate_left 1
  · (intro w;go_simp;try with_reducible rfl)
  try simp only [Act.put,zA,zB,zC]
  refine wpAny_take (i:=1) (oi:={ dst:=some 99,op:=Go.Op.move (Go.Operand.tmp 1),type:=3,pos:="slices.go:290",after:=#[],guard:=none }) (v:=?_) rfl (by kernel_rfl) (by kernel_rfl) (by kernel_rfl) (fun _ _ _ h=>h) (Or.inl ⟨by rfl,?_⟩) ?_
  rotate_left 1
  · (intro w;go_simp;try with_reducible rfl)
  try simp only [Act.put,zA,zB,zC]
  refine wpAny_take (i:=2) (oi:={ dst:=some 100,op:=Go.Op.move (Go.Operand.tmp 3),type:=55,pos:="slices.go:290",after:=#[],guard:=none }) (v:=?_) rfl (by kernel_rfl) (by kernel_rfl) (by kernel_rfl) (fun _ _ _ h=>h) (Or.inl ⟨by rfl,?_⟩) ?_
  rotate_left 1
  · (intro w;go_simp;try with_reducible rfl)
  try simp only [Act.put,zA,zB,zC]
  refine wpAny_take (i:=3) (oi:={ dst:=some 101,op:=Go.Op.call { callee:=Go.Callee.builtin Go.Builtin.len,args:=#[Go.Operand.tmp 100],argTypes:=#[55] },type:=3,pos:="slices.go:290",after:=#[{ on:=2,ground:=Go.Ground.data }],guard:=none }) (v:=?_) rfl (by kernel_rfl) (by kernel_rfl) (by kernel_rfl) (fun _ _ _ h=>h) (Or.inl ⟨by rfl,?_⟩) ?_
  rotate_left 1
  · (intro w;go_simp;try with_reducible rfl)
  try simp only [Act.put,zA,zB,zC]
  refine wpAny_take (i:=4) (oi:={ dst:=some 102,op:=Go.Op.binOp Go.BinOp.add 3 (Go.Operand.tmp 99) (Go.Operand.tmp 101) 3,type:=3,pos:="slices.go:290",after:=#[{ on:=1,ground:=Go.Ground.data },{ on:=3,ground:=Go.Ground.data }],guard:=none }) (v:=?_) rfl (by kernel_rfl) (by kernel_rfl) (by kernel_rfl) (fun _ _ _ h=>h) (Or.inl ⟨by rfl,?_⟩) ?_
  rotate_left 1
  · (intro w;go_simp;try with_reducible rfl)
  try simp only [Act.put,zA,zB,zC]
  refine wpAny_take (i:=5) (oi:={ dst:=some 103,op:=Go.Op.slice 55 (Go.Operand.tmp 98) (some (Go.Operand.tmp 102)) none none,type:=55,pos:="slices.go:290",after:=#[{ on:=0,ground:=Go.Ground.data },{ on:=4,ground:=Go.Ground.data }],guard:=none }) (v:=?_) rfl (by kernel_rfl) (by kernel_rfl) (by kernel_rfl) (fun _ _ _ h=>h) (Or.inl ⟨by rfl,?_⟩) ?_
  rotate_left 1
  · (intro w;go_simp;try with_reducible rfl)
  try simp only [Act.put,zA,zB,zC]
  refine wpAny_take (i:=6) (oi:={ dst:=some 104,op:=Go.Op.move (Go.Operand.tmp 0),type:=55,pos:="slices.go:290",after:=#[],guard:=none }) (v:=?_) rfl (by kernel_rfl) (by kernel_rfl) (by kernel_rfl) (fun _ _ _ h=>h) (Or.inl ⟨by rfl,?_⟩) ?_
  rotate_left 1
  · (intro w;go_simp;try with_reducible rfl)
  try simp only [Act.put,zA,zB,zC]
  refine wpAny_take (i:=7) (oi:={ dst:=some 105,op:=Go.Op.move (Go.Operand.tmp 2),type:=3,pos:="slices.go:290",after:=#[],guard:=none }) (v:=?_) rfl (by kernel_rfl) (by kernel_rfl) (by kernel_rfl) (fun _ _ _ h=>h) (Or.inl ⟨by rfl,?_⟩) ?_
  rotate_left 1
  · (intro w;go_simp;try with_reducible rfl)
  try simp only [Act.put,zA,zB,zC]
  refine wpAny_take (i:=8) (oi:={ dst:=some 106,op:=Go.Op.slice 55 (Go.Operand.tmp 104) (some (Go.Operand.tmp 105)) none none,type:=55,pos:="slices.go:290",after:=#[{ on:=6,ground:=Go.Ground.data },{ on:=7,ground:=Go.Ground.data }],guard:=none }) (v:=?_) rfl (by kernel_rfl) (by kernel_rfl) (by kernel_rfl) (fun _ _ _ h=>h) (Or.inl ⟨by rfl,?_⟩) ?_
  rotate_left 1
  · (intro w;go_simp;try with_reducible rfl)
  try simp only [Act.put,zA,zB,zC]
  refine wpAny_ready (rs:=[9]) (by kernel_rfl) (by simp) ?_
  refine AllReady.cons (o:={ dst:=some 107,op:=Go.Op.call { callee:=Go.Callee.builtin Go.Builtin.copy,args:=#[Go.Operand.tmp 103,Go.Operand.tmp 106],argTypes:=#[55,55] },type:=3,pos:="slices.go:290",after:=#[{ on:=5,ground:=Go.Ground.data },{ on:=8,ground:=Go.Ground.data }],guard:=none }) rfl (fun K hK=>?_) AllReady.nil
  refine step_copy rfl (.tmp 103) (.tmp 106) rfl _ _ _ _ _ _ rfl rfl g ((i + 1) * 11) _ hG4.out X (by rw [hXl'.out];simp) (fun _=>⟨rfl,_,rfl,row_src hG4.out _ hXd'.out⟩) hfit2.out hX1.out ?_
  intro w6 hg6 hb6
  have G6:=Lib.hid hg6
  have B6:=Lib.hid hb6
  clear hg6 hb6
  refine hK _ _ ?_
  clear hK K
  try simp only [Act.put,zA,zB,zC]
  refine wpAny_done (by kernel_rfl) ?_ _
  refine hK0 _ _ ?_
  clear hK0
  have hz:=Lib.hid (hfin.out _ G6.out.out)
  have hy:=Lib.hid (grown2 B4.out B6.out)
  by_cases c3:c = i + 1 + k
  · subst c3
    go_wp2_with fail
    go_ret
    exact ⟨g,i + 1 + k,i + 1 + k,rfl,hz.out,hy.out,.inl rfl⟩
  · go_wp2_with fail
    go_ret
    exact ⟨g,i + 1 + k,c,rfl,hz.out,hy.out,.inl rfl⟩
end Go.Proofs.Ytidimannfemnmaa.Lst
namespace Go.Proofs.Ytidimannfemnmaa.Lst
open Go.RowKit Top Sim
set_option maxRecDepth 20000

def NewO (base:Nat) (w':World) (A:Option Addr) (n c:Nat) (l:List (Ov × OS)):Prop:=OwnO base w' (.slice A n c) l∧∀ x ∈ l,OwnOp base w' x.1 x.2∧OvOk x.1
theorem NewO.kept {base:Nat} {w w':World} {A:Option Addr} {n c:Nat} {l:List (Ov × OS)} (h:NewO base w A n c l) (hk:∀ k,base≤k→k < w.heap.size→w'.heap[k]? = w.heap[k]?):NewO base w' A n c l :=
  ⟨h.1.kept hk,fun x hx=>⟨(h.2 x hx).1.kept hk,(h.2 x hx).2⟩⟩
theorem NewO.below {base:Nat} {w w':World} {A:Option Addr} {n c:Nat} {l:List (Ov × OS)} (h:NewO base w A n c l) (hb:Below w.heap.size w w'):NewO base w' A n c l:=h.kept fun k _ hk=>hb.block k hk
theorem NewO.mono {base base':Nat} {w:World} {A:Option Addr} {n c:Nat} {l:List (Ov × OS)} (h:NewO base w A n c l) (hb:base'≤base):NewO base' w A n c l :=
  ⟨own_mono h.1 hb,fun x hx=>⟨(h.2 x hx).1.mono hb,(h.2 x hx).2⟩⟩
theorem NewO.nil_ (base:Nat) (w:World):NewO base w none 0 0 []:=⟨OwnO.nil_ _ _,fun x hx=>by cases hx⟩
theorem NewO.len {base:Nat} {w:World} {A:Option Addr} {n c:Nat} {l:List (Ov × OS)} (h:NewO base w A n c l):l.length = n:=by
  obtain ⟨A1,n1,c1,e,h1,-⟩:=h.1.shape
  injection e with e1 e2 e3
  omega
theorem NewO.rows {base:Nat} {w:World} {A:Option Addr} {n c:Nat} {l:List (Ov × OS)} (h:NewO base w A n c l):n≤c∧c≤maxLen∧(A = none→c = 0)∧OpsR w A n l:=by
  obtain ⟨A1,n1,c1,e,h1⟩:=own_rows h.1 fun x hx=>(h.2 x hx).1.op (h.2 x hx).2
  injection e with e1 e2 e3
  subst e1 e2 e3
  exact h1
theorem NewO.more {base:Nat} {w wr w':World} {A:Option Addr} {n c:Nat} {l:List (Ov × OS)} {o1:Ov} {s1:OS} {v':Value} (h:NewO base w A n c l) (hbase:base≤w.heap.size) (ho1:OwnOp base wr o1 s1) (hok1:OvOk o1) (hb1:Below w.heap.size w wr)
    (hown2:OwnO base w' v' (l ++ [(o1,s1)])) (hg:(wr.alloc (.cells (opCells o1 s1) 52)).grownBy w' (Value.slice A n c).ownBlock) :
    ∃ A' n' c',v' = .slice A' n' c'∧NewO base w' A' n' c' (l ++ [(o1,s1)])∧Below base w w':=by
  have e:l.take n = l:=List.take_of_length_le (by rw [h.len];omega)
  obtain ⟨A',n',c',rfl,h1,h2,h3⟩:=behind_fin h.1 h.2 hbase (Nat.le_refl n) ho1 hok1 hb1 (by rw [e];exact hown2) hg
  rw [e] at h1 h2
  exact ⟨A',n',c',rfl,⟨h1,h2⟩,h3⟩
set_option maxHeartbeats 8000000 in
theorem bare_row (w:World) (A:Option Addr) (n c:Nat) (l:List (Ov × OS)) (h:OpsR w A n l) (hn:n≤100000) :
    Calls Try.prog 132 #[.slice A n c] w fun e w'=>∃ A' n' c' l',e = .returned (.slice A' n' c')∧NewO w.heap.size w' A' n' c' l'∧l'.map Prod.fst = (l.map Prod.fst).map bareV∧Below w.heap.size w w':=by
  have h':=Lib.hid h
  have hlen:=Lib.hid h.1
  clear h
  go_enter Try.func132,Try.ntmps132
  go_wp2_with fail
  go_loopw [3,8] (fun v3 v8 wr=>∃ (q:Nat) (A1:Option Addr) (n1 c1:Nat) (rl:List (Ov × OS)),q≤n∧v8 = .int .i64 (q:Int)∧v3 = .slice A1 n1 c1∧NewO w.heap.size wr A1 n1 c1 rl∧rl.map Prod.fst = ((l.map Prod.fst).take q).map bareV∧Below w.heap.size w wr) (fun _ v8 _=>n - (intOf v8).toNat)
  case atStart=>exact ⟨0,none,0,0,[],Nat.zero_le _,rfl,rfl,NewO.nil_ _ _,by simp,Below.refl _ _⟩
  case round =>
    obtain ⟨q,A1,n1,c1,rl,hq,rfl,rfl,hrl,hrv,hb⟩:=hrel
    have hrl':=Lib.hid hrl
    have hrv':=Lib.hid hrv
    have hb':=Lib.hid hb
    clear hrl hrv hb
    by_cases h1:q < n
    · have h1I:(q:Int) < (n:Int):=by omega
      obtain ⟨x,hx⟩:∃ x,l[q]? = some x:=⟨_,List.getElem?_eq_getElem (by have:=hlen.out;omega)⟩
      obtain ⟨hin,ad,hA,hlt,hel⟩:=(h'.out.below hb'.out).2 q x hx
      subst hA
      obtain ⟨o,s⟩:=x
      dsimp only at hin hel
      have hin':=Lib.hid hin
      obtain ⟨e0,e1,e2,e3,e4,e5,e6,e7,e8,e9,e10⟩:=hel
      obtain ⟨Wx,hWx⟩:∃ X,X = wr.alloc (.cells (opCells o s) 52):=⟨_,rfl⟩
      have hxb:=Lib.hid (show Below wr.heap.size wr Wx by rw [hWx];exact (Below.refl _ _).alloc (Nat.le_refl _) _)
      have hba:=Lib.hid (bare_any Wx o s (hin.below hxb.out))
      have hok':=Lib.hid (op_ok hin).bare
      have hsn:=Lib.hid (show ((l.map Prod.fst).take (q + 1)).map bareV = ((l.map Prod.fst).take q).map bareV ++ [bareV o] by rw [List.take_add_one,List.getElem?_map,hx];simp)
      obtain ⟨b,hb0⟩:∃ b,b = bareV o:=⟨_,rfl⟩
      rw [← hb0] at hba hok' hsn
      unfold opCells at hWx hba
      clear hlt hx hin hb0
      go_wp2_with (first
        | (go_at_call 105;(rw [← hWx];refine hba.out.mono ?_;rintro e w3 ⟨s3,rfl,ho3,hb3⟩;unfold opCells;have O3:=Lib.hid (ho3.mono hxb.out.size);have B3:=Lib.hid (hxb.out.trans (hb3.mono hxb.out.size));clear ho3 hb3 e0 e1 e2 e3 e4 e5 e6 e7 e8 e9 e10))
        | (at_builtin;(refine wpList_append_op rfl _ (.tmp 15) rfl w.heap.size (.slice A1 n1 c1) rl rfl (hrl'.out.below B3.out).1 (b,s3) rfl (by have:=hrl'.out.len;have e:=congrArg List.length hrv'.out;simp only [List.length_map,List.length_take] at e;omega) (Nat.le_trans hb'.out.size B3.out.size) ?_;intro v5 w5 hv5 hg5;have V5:=Lib.hid hv5;have G5:=Lib.hid hg5;clear hv5 hg5;obtain ⟨A5,n5,c5,rfl,hn5,hb5⟩:=NewO.more hrl'.out hb'.out.size (O3.out.mono hb'.out.size) hok'.out B3.out V5.out G5.out;have N5:=Lib.hid hn5;have B5:=Lib.hid hb5;clear hn5 hb5 V5 G5)))
      go_roundw
      case rel =>
        refine ⟨q + 1,A5,n5,c5,_,by omega,by go_num,rfl,N5.out,?_,hb'.out.trans B5.out⟩
        rw [List.map_append,hrv'.out,hsn.out]
        rfl
      case measure=>simp [intOf];omega
    · have h1I:¬ (q:Int) < (n:Int):=by omega
      go_wp2_with fail
      go_ret
      refine ⟨A1,n1,c1,rfl,rl,hrl'.out,?_,hb'.out⟩
      rw [hrv'.out,List.take_of_length_le (by rw [List.length_map,hlen.out];omega),List.map_map]
end Go.Proofs.Ytidimannfemnmaa.Lst
namespace Go.Proofs.Ytidimannfemnmaa.Lst
open Go.RowKit Top Sim
set_option maxRecDepth 20000

def muchB (n1 n2:Nat):Bool:=decide (4096 < n1∨4096 < n2)
set_option maxHeartbeats 4000000 in
theorem much_any (w:World) (g:Nat) (A1 A2:Option Addr) (n1 c1 n2 c2:Nat) (t:TypeId) (fr:Nat × Nat) (h:w.heap[g]? = some (.cells #[.slice A1 n1 c1,.slice A2 n2 c2] t fr)) :
    Calls Try.prog 131 #[.slice (some ⟨g,0,none⟩) 2 2] w fun e w'=>e = .returned (.bool (muchB n1 n2))∧w' = w:=by
  have k0:w.cell? ⟨g,0,none⟩ = some (.slice A1 n1 c1):=cell_of_row w g 0 _ _ _ h
  have k1:w.cell? ⟨g,1,none⟩ = some (.slice A2 n2 c2):=cell_of_row w g 1 _ _ _ h
  clear h
  go_enter Try.func131,Try.ntmps131
  go_wp2_with fail
  go_loopw [7] (fun v7 wr=>∃ q:Nat,q≤2∧v7 = .int .i64 (q:Int)∧(0 < q→n1≤4096)∧(1 < q→n2≤4096)∧wr = w) (fun v7 _=>2 - (intOf v7).toNat)
  case atStart=>exact ⟨0,by omega,rfl,by omega,by omega,rfl⟩
  case round =>
    obtain ⟨q,hq,rfl,hq1,hq2,rfl⟩:=hrel
    by_cases q0:q = 0
    · subst q0
      by_cases hm:4096 < n1
      · have hmI:(4096:Int) < (n1:Int):=by omega
        have hv:=Lib.hid (show muchB n1 n2 = true from decide_eq_true (.inl hm))
        clear hq1 hq2
        go_wp2_with fail
        go_ret
        exact ⟨by rw [hv.out] <;> rfl,rfl⟩
      · have hmI:¬ (4096:Int) < (n1:Int):=by omega
        clear hq1 hq2
        go_wp2_with fail
        go_roundw
        case rel=>exact ⟨1,by omega,by go_num,fun _=>by omega,fun e=>by omega,True.intro⟩
        case measure=>simp [intOf]
    · by_cases q1:q = 1
      · subst q1
        have hm1:=hq1 (by omega)
        by_cases hm:4096 < n2
        · have hmI:(4096:Int) < (n2:Int):=by omega
          have hv:=Lib.hid (show muchB n1 n2 = true from decide_eq_true (.inr hm))
          clear hq1 hq2
          go_wp2_with fail
          go_ret
          exact ⟨by rw [hv.out] <;> rfl,rfl⟩
        · have hmI:¬ (4096:Int) < (n2:Int):=by omega
          clear hq1 hq2
          go_wp2_with fail
          go_roundw
          case rel=>first | exact ⟨2,by omega,by go_num,fun _=>hm1,fun _=>by omega,trivial⟩ | exact ⟨2,by omega,by go_num,fun _=>hm1,fun _=>by omega,rfl⟩ | exact ⟨2,by omega,by go_num,fun _=>hm1,by omega⟩ | exact ⟨2,by omega,by go_num,hm1,by omega⟩ | exact ⟨2,by omega,by go_num,hm1,by omega,rfl⟩
          case measure=>simp [intOf]
      · obtain rfl:q = 2:=by omega
        have hv:=Lib.hid (show muchB n1 n2 = false from decide_eq_false fun e=>by have:=hq1 (by omega);have:=hq2 (by omega);omega)
        clear hq1 hq2
        go_wp2_with fail
        go_ret
        exact ⟨by rw [hv.out] <;> rfl,rfl⟩
end Go.Proofs.Ytidimannfemnmaa.Lst
