/- MgAN: TopA TopN ShfVal TopB TopP TopK TopBa TopBb ShfMem ShfA ShfB SimA SimB ShfC ShfD ShfE ShfF SqrVal TopQ -/
import Derived.Test.YtidimannfemnmaaMgAL
import Derived.Deep.RegionHeld3
import Derived.Test.YtidimannfemnmaaMgAM
import Derived.BigQuiet
import Derived.Test.YtidimannfemnmaaMgAF
import Derived.Test.YtidimannfemnmaaMgAE
import Derived.Sort.QuietTacIn
import Derived.Stop.RegionWithIn
import Derived.Test.YtidimannfemnmaaMgAK
import Derived.Test.YtidimannfemnmaaMgAH
import Derived.RegionTactic
import Derived.BigRegion
set_option linter.all false
namespace Go.Proofs.Ytidimannfemnmaa
open Go.RowKit
set_option maxRecDepth 20000

def pcs (l:List P5.IP):List Ltx.Pc:=l.map fun x=>⟨x.keep.toNat,x.drop.toNat,x.put⟩
theorem pcs_right {l:List P5.IP} (h:P5.rightV l = true):(pcs l).map P5.ipc = l:=by
  obtain ⟨l',rfl⟩:=P5.right_pcs h
  have:pcs (l'.map P5.ipc) = l':=by
    unfold pcs
    rw [List.map_map]
    conv=>rhs;rw [← List.map_id l']
    apply List.map_congr_left
    intro x _
    simp [P5.ipc]
  rw [this]
def gapE (y:Nd) (i:Int):Int:=if y.leaf then 83 else if (y.kids.length:Int) < i then 81 else 0
def fitE (s:Txt) (l:List P5.IP):Int:=if Ltx.extent (pcs l)≤s.length then 0 else 50
def editE (x:Nd) (l:List P5.IP):Int:=if x.leaf then fitE x.text l else 83
def faultV (t:Nd) (o:Ov):Int :=
  if formedV o = false then 80 else if (o.kind = 2∨o.kind = 3)∧o.path = [] then 82 else
    match atV t o.path with
    | none=>81
    | some x=>if o.kind = 1 then gapE x o.at_ else if o.kind = 3 then (if P4.withinV o.path o.to_ then 84 else match atV t o.to_ with
        | none=>81
        | some y=>gapE y o.at_) else if o.kind = 6 then editE x o.pieces else 0
def validV (t:Nd) (o:Ov):Int:=if rightV ltB t then faultV t o else 2

end Go.Proofs.Ytidimannfemnmaa
namespace Go.Proofs.Ytidimannfemnmaa
open Go.RowKit
set_option maxRecDepth 20000

theorem common_pre:∀ (p q:List Int),P4.commonV p q = p.length ↔ p <+: q
  | [],q=>by simp [P4.commonV]
  | a :: p,[]=>by simp [P4.commonV]
  | a :: p,b :: q=>by
    have ih:=common_pre p q
    unfold P4.commonV
    by_cases h:a = b
    · subst h
      simp only [if_true,List.length_cons,List.cons_prefix_cons,true_and]
      constructor
      · intro h;exact ih.1 (by omega)
      · intro h;have:=ih.2 h;omega
    · simp [h]
theorem within_pre (p q:List Int):P4.withinV p q = decide (p <+: q):=by
  unfold P4.withinV
  exact decide_eq_decide.2 (common_pre p q)
end Go.Proofs.Ytidimannfemnmaa
namespace Go.Proofs.Ytidimannfemnmaa.Shf
open Go.RowKit
set_option maxRecDepth 20000

structure Ch where
  takes:Bool
  from_:List Int
  child:Int
  puts:Bool
  to_:List Int
  gap:Int
def noCh:Ch:=⟨false,[],0,false,[],0⟩
def chV (o:Ov):Ch :=
  if formedV o = true then
    (if o.kind = 1 then ⟨false,[],0,true,o.path,o.at_⟩
    else if o.kind = 2 then (if o.path = [] then noCh else ⟨true,o.path.dropLast,o.path.getLastD 0,false,[],0⟩)
    else if o.kind = 3 then (if P4.withinV o.path o.to_ = true then noCh else ⟨true,o.path.dropLast,o.path.getLastD 0,true,o.to_,o.at_⟩)
    else noCh)
  else noCh
def hitV (c:Ch) (over:List Int) (k:Int):Bool:=c.takes && ((k == c.child) && P4.eqV over c.from_)
def lessV (c:Ch) (over:List Int) (k:Int):Int:=if c.takes && (decide (k > c.child) && P4.eqV over c.from_) then IntKind.i64.wrap (k - 1) else k
def numV (c:Ch) (over:List Int) (k:Int):Int :=
  if c.puts && (decide (k ≥ c.gap) && P4.eqV over c.to_) then IntKind.i64.wrap (lessV c over k + 1) else lessV c over k
def landV (c:Ch):Int:=if decide (c.child < c.gap) && P4.eqV c.from_ c.to_ then IntKind.i64.wrap (c.gap - 1) else c.gap
def plainR (c:Ch):List Int→List Int
  | []=>[]
  | k :: r=>plainR c r ++ [numV c r.reverse k]
def toV (c:Ch):List Int:=plainR c c.to_.reverse
def nodeR (c:Ch):List Int→Option (List Int)
  | []=>some []
  | k :: r=>if hitV c r.reverse k = true then (if c.puts = true then some (toV c ++ [landV c]) else none) else (nodeR c r).map (· ++ [numV c r.reverse k])
def nodeV (c:Ch) (p:List Int):Option (List Int):=nodeR c p.reverse
def gapV (c:Ch) (p:List Int) (i:Int) (first:Bool):Int :=
  if c.puts && (P4.eqV p c.to_ && (decide (i > c.gap) || ((i == c.gap) && !first))) then IntKind.i64.wrap (lessV c p i + 1) else lessV c p i
def Clear (c:Ch) (p:List Int):Prop:=∀ q k r,p = q ++ k :: r→hitV c q k = false

theorem nodeV_snoc (c:Ch) (q:List Int) (k:Int):nodeV c (q ++ [k]) = if hitV c q k = true then (if c.puts = true then some (toV c ++ [landV c]) else none) else (nodeV c q).map (· ++ [numV c q k]):=by
  unfold nodeV
  rw [List.reverse_append,List.reverse_cons,List.reverse_nil,List.nil_append,List.singleton_append,nodeR,List.reverse_reverse]
theorem Clear.init {c:Ch} {q:List Int} {k:Int} (h:Clear c (q ++ [k])):Clear c q:=fun a b r e=>h a b (r ++ [k]) (by rw [e];simp)
theorem Clear.last {c:Ch} {q:List Int} {k:Int} (h:Clear c (q ++ [k])):hitV c q k = false:=h q k [] rfl
theorem Clear.nil (c:Ch):Clear c []:=fun q k r e=>by simp at e
theorem snoc_cases (p:List Int):p = []∨∃ q k,p = q ++ [k]:=by
  rcases List.eq_nil_or_concat p with h | ⟨q,k,h⟩
  · exact .inl h
  · exact .inr ⟨q,k,by rw [h];simp⟩
theorem nodeV_clear {c:Ch}:∀ (n:Nat) (p:List Int),p.length = n→Clear c p→nodeV c p = some (plainR c p.reverse)
  | 0,p,hn,_=>by
    obtain rfl:=List.eq_nil_of_length_eq_zero hn
    rfl
  | n + 1,p,hn,h=>by
    rcases snoc_cases p with rfl | ⟨q,k,rfl⟩
    · simp at hn
    · rw [nodeV_snoc,if_neg (by rw [h.last];simp),nodeV_clear n q (by simp at hn;exact hn) h.init,List.reverse_append,List.reverse_cons,List.reverse_nil,List.nil_append,List.singleton_append,plainR,List.reverse_reverse]
      rfl
theorem nodeV_to {c:Ch} (h:Clear c c.to_):nodeV c c.to_ = some (toV c):=nodeV_clear _ _ rfl h
theorem ch_clear (o:Ov):Clear (chV o) (chV o).to_:=by
  unfold chV
  split
  · split
    · exact fun q k r e=>rfl
    · split
      · split
        · exact Clear.nil _
        · exact Clear.nil _
      · split
        · split
          · exact Clear.nil _
          · rename_i h3 hw
            intro q k r e
            show (true && ((k == o.path.getLastD 0) && P4.eqV q o.path.dropLast)) = false
            cases h:((k == o.path.getLastD 0) && P4.eqV q o.path.dropLast) with
            | false=>rfl
            | true =>
              rw [Bool.and_eq_true] at h
              have h1:=beq_iff_eq.1 h.1
              have h2:q = o.path.dropLast:=of_decide_eq_true h.2
              exfalso
              apply hw
              have e':o.to_ = q ++ k :: r:=e
              rcases snoc_cases o.path with hp | ⟨a,b,hp⟩
              · rw [hp]
                unfold P4.withinV
                exact decide_eq_true (by cases o.to_ <;> rfl)
              · rw [hp,List.getLastD_concat] at h1
                rw [hp,List.dropLast_concat] at h2
                subst h1 h2
                rw [within_pre,hp,e']
                exact decide_eq_true ⟨r,by simp⟩
        · exact Clear.nil _
  · exact Clear.nil _
end Go.Proofs.Ytidimannfemnmaa.Shf
namespace Go.Proofs.Ytidimannfemnmaa.Top
open Go.RowKit
set_option maxRecDepth 20000

theorem its4 {w:World} {A:Option Addr} {n:Nat} {xs:List Int} (h:Its w A n xs):P4.Its w A n xs:=h
theorem wp_scope_once {P:Program} {a:Act} {w:World} {Q:Exit→Act→World→Prop} {c rest:Code} (l:Nat) (hf:findLabel c l = some rest)
    (first:c.wp P (Exit.jump l (fun a' w'=>rest.wp P (Exit.jump l (fun _ _=>False) Q) a' w') Q) a w):(Code.scope c).wp P Q a w :=
  wp_scope_jumps l (fun a' w'=>rest.wp P (Exit.jump l (fun _ _=>False) Q) a' w') (fun _ _=>0) hf first fun a w h=>Code.wp_mono (fun e a w hq=>by
    cases e <;> first | exact hq | exact absurd hq.2 id) h
structure Four (w:World) (v2 v3 v5 v6:Array Value) (W:World):Prop where
  rn:W.heap[w.heap.size]? = some (.cells v2 36 (0,0))
  ro:W.heap[w.heap.size + 1]? = some (.cells v3 52 (0,0))
  r5:W.heap[w.heap.size + 1 + 1]? = some (.cells v5 36 (0,0))
  r6:W.heap[w.heap.size + 1 + 1 + 1]? = some (.cells v6 36 (0,0))
  bel:Below w.heap.size w W
section
variable {w W W':World} {v2 v3 v5 v6:Array Value}
theorem Four.below (h:Four w v2 v3 v5 v6 W) (hb:Below W.heap.size W W'):Four w v2 v3 v5 v6 W' :=
  ⟨(hb.block _ (Array.getElem?_eq_some_iff.1 h.rn).1).trans h.rn,(hb.block _ (Array.getElem?_eq_some_iff.1 h.ro).1).trans h.ro,(hb.block _ (Array.getElem?_eq_some_iff.1 h.r5).1).trans h.r5,(hb.block _ (Array.getElem?_eq_some_iff.1 h.r6).1).trans h.r6,h.bel.trans (hb.mono h.bel.size)⟩
end
theorem op_cells {W:World} {b:Nat} {o:Ov} {s:OS} (h:W.heap[b]? = some (.cells (opCells o s) 52 (0,0))):W.cell? ⟨b,0,none⟩ = some (.int .u8 (o.kind:Int))∧W.cell? ⟨b,1,none⟩ = some (.slice s.pA s.pn s.pc)∧W.cell? ⟨b,2,none⟩ = some (.int .i64 o.at_)∧W.cell? ⟨b,3,none⟩ = some (.slice s.tA s.tn s.tc)∧W.cell? ⟨b,4,none⟩ = some (.int .u64 (o.id:Int)) ∧
    W.cell? ⟨b,5,none⟩ = some (.bool o.leaf)∧W.cell? ⟨b,6,none⟩ = some (.string ⟨o.label.toArray⟩)∧W.cell? ⟨b,7,none⟩ = some (.string ⟨o.key.toArray⟩)∧W.cell? ⟨b,8,none⟩ = some (.string ⟨o.value.toArray⟩)∧W.cell? ⟨b,9,none⟩ = some (.bool o.gone)∧W.cell? ⟨b,10,none⟩ = some (.slice s.qA s.qn s.qc):=by
  unfold opCells at h
  exact ⟨cell_of_row W b 0 _ _ _ h,cell_of_row W b 1 _ _ _ h,cell_of_row W b 2 _ _ _ h,cell_of_row W b 3 _ _ _ h,cell_of_row W b 4 _ _ _ h,cell_of_row W b 5 _ _ _ h,cell_of_row W b 6 _ _ _ h,cell_of_row W b 7 _ _ _ h,cell_of_row W b 8 _ _ _ h,cell_of_row W b 9 _ _ _ h,cell_of_row W b 10 _ _ _ h⟩
end Go.Proofs.Ytidimannfemnmaa.Top
namespace Go.Proofs.Ytidimannfemnmaa.Top
open Go.RowKit
set_option maxRecDepth 20000

def m1:Nat:=13830554455654793216
end Go.Proofs.Ytidimannfemnmaa.Top
namespace Go.Proofs.Ytidimannfemnmaa.Top
open Go.RowKit
set_option maxRecDepth 20000

theorem copied_any (w:World) (A:Option Addr) (n c:Nat) (xs:List Int) (hA:Its w A n xs) (hnil:A = none→c = 0) (hn:n≤500000) :
    Calls Try.prog 155 #[.slice A n c] w (P4.NewRow w xs):=by
  have hA':=Lib.hid hA
  have hl:=Lib.hid hA.1
  have hn':=Lib.hid hnil
  clear hA hnil
  go_enter Try.func155,Try.ntmps155
  go_wp2_with (at_builtin;(refine P4.wpList_append_its rfl _ (.tmp 3) rfl w.heap.size (.slice none 0 0) [] xs rfl (P4.OwnI.nil_ _ _) A n c rfl hA'.out hn'.out (by have:=hl.out;simp;omega) (Nat.le_refl _) ?_;intro v1 w1 ho1 hg1 hat1))
  go_ret
  exact ⟨_,rfl,ho1,P4.grown_nil hg1⟩
end Go.Proofs.Ytidimannfemnmaa.Top
namespace Go.Proofs.Ytidimannfemnmaa.Top
open Go.RowKit
set_option maxRecDepth 20000

def ipCells (x:P5.IP):List Value:=[.int .i64 x.keep,.int .i64 x.drop,.string ⟨x.put.toArray⟩]
theorem ip_len (l:List P5.IP):(l.flatMap ipCells).length = l.length * 3:=by
  induction l with
  | nil=>rfl
  | cons p r ih=>rw [List.flatMap_cons,List.length_append,ih];simp [ipCells];omega
theorem ip_at:∀ (l:List P5.IP) (q:Nat) (p:P5.IP),l[q]? = some p→∀ j v,(ipCells p)[j]? = some v→(l.flatMap ipCells)[q * 3 + j]? = some v
  | a :: r,0,p,h,j,v,hj=>by
    simp at h
    subst h
    have hjl:=(List.getElem?_eq_some_iff.1 hj).1
    rw [List.flatMap_cons,Nat.zero_mul,Nat.zero_add,List.getElem?_append_left hjl,hj]
  | a :: r,q + 1,p,h,j,v,hj=>by
    have ih:=ip_at r q p (by simpa using h) j v hj
    rw [List.flatMap_cons,List.getElem?_append_right (by simp [ipCells];omega)]
    rw [show (q + 1) * 3 + j - (ipCells a).length = q * 3 + j by simp [ipCells];omega]
    exact ih
theorem ip_of:∀ (l:List P5.IP) (i:Nat) (v:Value),(l.flatMap ipCells)[i]? = some v→∃ p j,l[i / 3]? = some p∧j = i % 3∧(ipCells p)[j]? = some v
  | [],i,v,h=>by simp at h
  | a :: r,i,v,h=>by
    rw [List.flatMap_cons] at h
    by_cases hi:i < 3
    · rw [List.getElem?_append_left (by simp [ipCells];omega)] at h
      refine ⟨a,i,by rw [show i / 3 = 0 by omega];rfl,by omega,h⟩
    · rw [List.getElem?_append_right (by simp [ipCells];omega)] at h
      obtain ⟨p,j,h1,h2,h3⟩:=ip_of r _ v h
      refine ⟨p,j,?_,?_,h3⟩
      · rw [show i / 3 = (i - 3) / 3 + 1 by omega]
        simpa [ipCells] using h1
      · simp [ipCells] at h2
        omega
def OwnQ (base:Nat) (w:World) (v:Value) (l:List P5.IP):Prop:=w.ownsRow base 60 3 v l.length (l.flatMap ipCells)
theorem OwnQ.nil_ (base:Nat) (w:World):OwnQ base w (.slice none 0 0) []:=World.ownsRow_nil w base _ _
def IPok (x:P5.IP):Prop:=-9223372036854775808≤x.keep∧x.keep≤9223372036854775807∧-9223372036854775808≤x.drop∧x.drop≤9223372036854775807∧x.put.length≤maxLen
theorem pcs_ok {w:World} {A:Option Addr} {n:Nat} {l:List P5.IP} (h:P5.PcsIn w A n l):∀ x ∈ l,IPok x:=fun x hx=>by
  obtain ⟨q,hq⟩:=List.mem_iff_getElem?.1 hx
  obtain ⟨ad,-,-,h1,h2,h3,h4,h5,-⟩:=h.2 q x hq
  exact ⟨h1,h2,h3,h4,h5⟩
theorem OwnQ.shape {base:Nat} {w:World} {v:Value} {l:List P5.IP} (h:OwnQ base w v l) (hl:∀ x ∈ l,IPok x):∃ (A:Option Addr) (n c:Nat),v = .slice A n c∧n = l.length∧n≤c∧c≤maxLen∧P5.PcsIn w A n l∧(A = none→c = 0):=by
  obtain ⟨A,c,rfl,h1,h2,h3,h4⟩:=own_form h
  refine ⟨A,_,c,rfl,rfl,h1,h2,⟨rfl,fun q p hp=>?_⟩,h3⟩
  have hq:=(List.getElem?_eq_some_iff.1 hp).1
  obtain ⟨g,rfl,hb,hlt,hc⟩:=h4 (by omega)
  obtain ⟨m1,m2,m3,m4,m5⟩:=hl p (List.mem_of_getElem? hp)
  have c0:=hc _ _ (ip_at l q p hp 0 _ rfl)
  have c1:=hc _ _ (ip_at l q p hp 1 _ rfl)
  have c2:=hc _ _ (ip_at l q p hp 2 _ rfl)
  have hadd:(⟨g,0,none⟩:Addr).add (q * 3) = ⟨g,q * 3,none⟩:=by unfold Addr.add;split <;> simp_all
  refine ⟨_,rfl,hlt,?_⟩
  rw [hadd]
  exact ⟨m1,m2,m3,m4,m5,c0,c1,c2⟩
theorem wpList_append_pcs {w:World} {ops:Array Oper} {rest:List Oper} {o:Oper} {a:Act} {Q:Exit→Act→World→Prop} (hgd:o.guard = none) (s x:Operand)
    (ho:o.op = .call { callee:=.builtin .append,args:=#[s,x],argTypes:=#[22,22] })
    (base:Nat) (v:Value) (xs ys:List P5.IP) (hs:a.eval s = v) (hown:OwnQ base w v xs)
    (A:Option Addr) (m c:Nat) (hx:a.eval x = .slice A m c) (hB:P5.PcsIn w A m ys) (hnil:A = none→c = 0)
    (hlen:xs.length + ys.length≤1000000) (hbase:base≤w.heap.size)
    (h:∀ v' w',OwnQ base w' v' (xs ++ ys)→w.grownBy w' v.ownBlock→(v'.ownBlock = v.ownBlock∨v'.ownBlock = some w.heap.size)→wpList Try.prog ops Q rest (a.put o.dst v') w') :
    wpList Try.prog ops Q (o :: rest) a w:=by
  obtain ⟨i0,hi,hz0,hz1,hz2⟩:=info_parts P5.Try.infoP
  obtain rfl:=hB.1
  cases A with
  | none =>
    obtain rfl:=hB.none_nil
    obtain rfl:=hnil rfl
    refine wpList_append_own_none hgd s x _ ho base 60 i0 3 Try.underlying22 hi v _ _ hs hown hx ?_
    exact h v w (by rw [List.append_nil];exact hown) (World.grownBy.refl w _) (.inl rfl)
  | some ad =>
    refine wpList_append_own_at w hgd s x _ ho base 60 i0 _ 3 32 Try.underlying22 hi hz0 hz1 hz2 rfl (by omega) v xs.length (xs.flatMap ipCells) hs hown ad ys.length c (ys.flatMap ipCells) hx (by rw [ip_len])
      (fun j u hj=>?_) (fun u hu=>?_) (by unfold maxLen;omega) (by omega) hbase ?_
    · obtain ⟨p,k,h1,h2,h3⟩:=ip_of ys j u hj
      obtain ⟨ad',e,_,-,-,-,-,-,c0,c1,c2⟩:=hB.2 _ p h1
      cases Option.some.inj e
      have hj3:j = (j / 3) * 3 + k:=by omega
      have hk:k = 0∨k = 1∨k = 2:=by omega
      have haa:∀ (E:Addr) (i:Nat),(⟨E.block,E.off + (i + 1),none⟩:Addr) = E.add (i + 1):=fun E i=>rfl
      rw [hj3,← P4.add_add]
      rcases hk with rfl | rfl | rfl
      · simp only [ipCells] at h3
        injection h3 with h3
        rw [← h3]
        exact c0
      · simp only [ipCells] at h3
        injection h3 with h3
        rw [← h3]
        exact c1
      · simp only [ipCells] at h3
        injection h3 with h3
        rw [← h3]
        exact c2
    · obtain ⟨p,-,h2⟩:=List.mem_flatMap.1 hu
      simp only [ipCells,List.mem_cons,List.not_mem_nil,or_false] at h2
      rcases h2 with rfl | rfl | rfl <;> rfl
    · intro v' w' hown' hgrow _ hat
      refine h v' w' ?_ hgrow hat
      unfold OwnQ
      rw [List.length_append,List.flatMap_append]
      exact hown'
end Go.Proofs.Ytidimannfemnmaa.Top
namespace Go.Proofs.Ytidimannfemnmaa.Top
open Go.RowKit
set_option maxRecDepth 20000

def bareV (o:Ov):Ov where
  kind:=o.kind
  path:=if 1≤o.kind∧o.kind≤6 then o.path else []
  at_:=if o.kind = 1∨o.kind = 3 then o.at_ else 0
  to_:=if o.kind = 3 then o.to_ else []
  id:=if o.kind = 1 then o.id else 0
  leaf:=if o.kind = 1 then o.leaf else false
  label:=if o.kind = 1∨o.kind = 5 then o.label else []
  key:=if o.kind = 4 then o.key else []
  value:=if o.kind = 4∧o.gone = false then o.value else []
  gone:=if o.kind = 4 then o.gone else false
  pieces:=if o.kind = 6 then o.pieces else []
theorem own_kept {w w':World} {base:Nat} {e:TypeId} {size:Nat} {v:Value} {n:Nat} {xs:List Value} (h:w.ownsRow base e size v n xs) (hk:∀ k,base≤k→k < w.heap.size→w'.heap[k]? = w.heap[k]?):w'.ownsRow base e size v n xs:=by
  obtain ⟨h1,h2 | ⟨g,cap,cur,rfl,hb,hg,hr⟩⟩:=h
  · exact ⟨h1,.inl h2⟩
  · exact ⟨h1,.inr ⟨g,cap,cur,rfl,hb,(hk g hb (Array.getElem?_eq_some_iff.1 hg).1).trans hg,hr⟩⟩
theorem own_mono {w:World} {base base':Nat} {e:TypeId} {size:Nat} {v:Value} {n:Nat} {xs:List Value} (h:w.ownsRow base e size v n xs) (hb:base'≤base):w.ownsRow base' e size v n xs:=by
  obtain ⟨h1,h2 | ⟨g,cap,cur,rfl,hbb,hr⟩⟩:=h
  · exact ⟨h1,.inl h2⟩
  · exact ⟨h1,.inr ⟨g,cap,cur,rfl,Nat.le_trans hb hbb,hr⟩⟩
structure OwnOp (base:Nat) (w:World) (o:Ov) (s:OS):Prop where
  path:P4.OwnI base w (.slice s.pA s.pn s.pc) o.path
  to_:P4.OwnI base w (.slice s.tA s.tn s.tc) o.to_
  pieces:OwnQ base w (.slice s.qA s.qn s.qc) o.pieces
theorem OwnOp.kept {w w':World} {base:Nat} {o:Ov} {s:OS} (h:OwnOp base w o s) (hk:∀ k,base≤k→k < w.heap.size→w'.heap[k]? = w.heap[k]?):OwnOp base w' o s :=
  ⟨own_kept h.path hk,own_kept h.to_ hk,own_kept h.pieces hk⟩
theorem OwnOp.mono {w:World} {base base':Nat} {o:Ov} {s:OS} (h:OwnOp base w o s) (hb:base'≤base):OwnOp base' w o s :=
  ⟨own_mono h.path hb,own_mono h.to_ hb,own_mono h.pieces hb⟩
structure OvOk (o:Ov):Prop where
  kind:o.kind < 256
  at_:-9223372036854775808≤o.at_∧o.at_≤9223372036854775807
  id:o.id < 18446744073709551616
  label:o.label.length≤maxLen
  key:o.key.length≤maxLen
  value:o.value.length≤maxLen
  pfew:o.path.length≤500000
  tfew:o.to_.length≤500000
  qfew:o.pieces.length≤500000
  pfit:Fit o.path
  tfit:Fit o.to_
  pieces:∀ x ∈ o.pieces,IPok x
theorem op_ok {w:World} {o:Ov} {s:OS} (h:OpIn w o s):OvOk o :=
  ⟨h.kind,h.at_,h.id,h.label,h.key,h.value,by rw [h.path.1];exact h.pfew,by rw [h.to_.1];exact h.tfew,by rw [h.pieces.1];exact h.qfew,h.pfit,h.tfit,pcs_ok h.pieces⟩
theorem OvOk.bare {o:Ov} (h:OvOk o):OvOk (bareV o):=by
  have nilP:Fit []:=fun x hx=>by cases hx
  refine ⟨h.kind,?_,?_,?_,?_,?_,?_,?_,?_,?_,?_,?_⟩ <;> unfold bareV <;> dsimp only <;> split
  · exact h.at_
  · omega
  · exact h.id
  · omega
  · exact h.label
  · exact Nat.zero_le _
  · exact h.key
  · exact Nat.zero_le _
  · exact h.value
  · exact Nat.zero_le _
  · exact h.pfew
  · exact Nat.zero_le _
  · exact h.tfew
  · exact Nat.zero_le _
  · exact h.qfew
  · exact Nat.zero_le _
  · exact h.pfit
  · exact nilP
  · exact h.tfit
  · exact nilP
  · exact h.pieces
  · intro x hx;cases hx
theorem OwnOp.op {base:Nat} {w:World} {o:Ov} {s:OS} (h:OwnOp base w o s) (hok:OvOk o):OpIn w o s:=by
  obtain ⟨A1,n1,c1,e1,hn1,hc1,hm1,hi1,hz1⟩:=P4.OwnI.shape h.path
  obtain ⟨A2,n2,c2,e2,hn2,hc2,hm2,hi2,hz2⟩:=P4.OwnI.shape h.to_
  obtain ⟨A3,n3,c3,e3,hn3,hc3,hm3,hi3,hz3⟩:=OwnQ.shape h.pieces hok.pieces
  injection e1 with a1 b1 d1
  injection e2 with a2 b2 d2
  injection e3 with a3 b3 d3
  subst a1 b1 d1 a2 b2 d2 a3 b3 d3
  exact ⟨hok.kind,hi1,hc1,hm1,hz1,hok.at_,hi2,hc2,hm2,hz2,hok.id,hok.label,hok.key,hok.value,hi3,hc3,hm3,hz3,by rw [hn1];exact hok.pfew,by rw [hn2];exact hok.tfew,by rw [hn3];exact hok.qfew,hok.pfit,hok.tfit⟩
theorem set_op {w:World} {g:Nat} {a0 a1 a2 a3 a4 a5 a6 a7 a8 a9 a10 b0 b1 b2 b3 b4 b5 b6 b7 b8 b9 b10:Value} {ty:TypeId} (h:w.heap[g]? = some (.cells #[a0,a1,a2,a3,a4,a5,a6,a7,a8,a9,a10] ty (0,0))) :
    (((((((((((w.setCell ⟨g,0,none⟩ (b0)).setCell ⟨g,1,none⟩ (b1)).setCell ⟨g,2,none⟩ (b2)).setCell ⟨g,3,none⟩ (b3)).setCell ⟨g,4,none⟩ (b4)).setCell ⟨g,5,none⟩ (b5)).setCell ⟨g,6,none⟩ (b6)).setCell ⟨g,7,none⟩ (b7)).setCell ⟨g,8,none⟩ (b8)).setCell ⟨g,9,none⟩ (b9)).setCell ⟨g,10,none⟩ (b10)).heap[g]? = some (.cells #[b0,b1,b2,b3,b4,b5,b6,b7,b8,b9,b10] ty (0,0)):=by
  have e0:=heap_setCell_same w g 0 _ _ b0 h
  have e1:=heap_setCell_same _ g 1 _ _ b1 e0
  have e2:=heap_setCell_same _ g 2 _ _ b2 e1
  have e3:=heap_setCell_same _ g 3 _ _ b3 e2
  have e4:=heap_setCell_same _ g 4 _ _ b4 e3
  have e5:=heap_setCell_same _ g 5 _ _ b5 e4
  have e6:=heap_setCell_same _ g 6 _ _ b6 e5
  have e7:=heap_setCell_same _ g 7 _ _ b7 e6
  have e8:=heap_setCell_same _ g 8 _ _ b8 e7
  have e9:=heap_setCell_same _ g 9 _ _ b9 e8
  have e10:=heap_setCell_same _ g 10 _ _ b10 e9
  rw [e10]
  simp
theorem set_op_other {w:World} {g k:Nat} {b0 b1 b2 b3 b4 b5 b6 b7 b8 b9 b10:Value} (h:k ≠ g):(((((((((((w.setCell ⟨g,0,none⟩ (b0)).setCell ⟨g,1,none⟩ (b1)).setCell ⟨g,2,none⟩ (b2)).setCell ⟨g,3,none⟩ (b3)).setCell ⟨g,4,none⟩ (b4)).setCell ⟨g,5,none⟩ (b5)).setCell ⟨g,6,none⟩ (b6)).setCell ⟨g,7,none⟩ (b7)).setCell ⟨g,8,none⟩ (b8)).setCell ⟨g,9,none⟩ (b9)).setCell ⟨g,10,none⟩ (b10)).heap[k]? = w.heap[k]?:=by
  repeat rw [heap_setCell_other _ _ k _ h]
theorem below_op {B:Nat} {w0 w:World} {g:Nat} {b0 b1 b2 b3 b4 b5 b6 b7 b8 b9 b10:Value} (h:Below B w0 w) (hg:B≤g):Below B w0 (((((((((((w.setCell ⟨g,0,none⟩ (b0)).setCell ⟨g,1,none⟩ (b1)).setCell ⟨g,2,none⟩ (b2)).setCell ⟨g,3,none⟩ (b3)).setCell ⟨g,4,none⟩ (b4)).setCell ⟨g,5,none⟩ (b5)).setCell ⟨g,6,none⟩ (b6)).setCell ⟨g,7,none⟩ (b7)).setCell ⟨g,8,none⟩ (b8)).setCell ⟨g,9,none⟩ (b9)).setCell ⟨g,10,none⟩ (b10)) :=
  ((((((((((h.setCell hg _).setCell hg _).setCell hg _).setCell hg _).setCell hg _).setCell hg _).setCell hg _).setCell hg _).setCell hg _).setCell hg _).setCell hg _
theorem end_op {w w1:World} {r:Nat} {ty:TypeId} {o:Ov} {s:OS} {a0 a1 a2 a3 a4 a5 a6 a7 a8 a9 a10:Value} (hw:w.heap.size≤r) (hb:Below w.heap.size w w1) (hr:w1.heap[r]? = some (.cells #[a0,a1,a2,a3,a4,a5,a6,a7,a8,a9,a10] ty (0,0))) :
    ∃ W9,W9 = (((((((((((w1.setCell ⟨r,0,none⟩ (.int .u8 (o.kind:Int))).setCell ⟨r,1,none⟩ (.slice s.pA s.pn s.pc)).setCell ⟨r,2,none⟩ (.int .i64 o.at_)).setCell ⟨r,3,none⟩ (.slice s.tA s.tn s.tc)).setCell ⟨r,4,none⟩ (.int .u64 (o.id:Int))).setCell ⟨r,5,none⟩ (.bool o.leaf)).setCell ⟨r,6,none⟩ (.string ⟨o.label.toArray⟩)).setCell ⟨r,7,none⟩ (.string ⟨o.key.toArray⟩)).setCell ⟨r,8,none⟩ (.string ⟨o.value.toArray⟩)).setCell ⟨r,9,none⟩ (.bool o.gone)).setCell ⟨r,10,none⟩ (.slice s.qA s.qn s.qc))∧W9.heap[r]? = some (.cells (opCells o s) ty (0,0))∧Below w.heap.size w W9∧W9.heap.size = w1.heap.size∧∀ k,k ≠ r→W9.heap[k]? = w1.heap[k]? :=
  ⟨_,rfl,set_op hr,below_op hb hw,by simp only [World.size_setCell],fun k hk=>set_op_other hk⟩
def zero11:Array Value:=#[.int .u8 0,.slice none 0 0,.int .i64 0,.slice none 0 0,.int .u64 0,.bool false,.string ⟨#[]⟩,.string ⟨#[]⟩,.string ⟨#[]⟩,.bool false,.slice none 0 0]
def BareA (w:World) (b:Ov) (e:Ending) (w':World):Prop:=∃ s,e = .returned (.agg (opCells b s))∧OwnOp w.heap.size w' b s∧Below w.heap.size w w'
theorem eleven_cells {w:World} {g:Nat} {b0 b1 b2 b3 b4 b5 b6 b7 b8 b9 b10:Value} {t:TypeId} (h:w.heap[g]? = some (.cells #[b0,b1,b2,b3,b4,b5,b6,b7,b8,b9,b10] t (0,0))) :
    w.cell? ⟨g,0,none⟩ = some b0∧w.cell? ⟨g,1,none⟩ = some b1∧w.cell? ⟨g,2,none⟩ = some b2∧w.cell? ⟨g,3,none⟩ = some b3∧w.cell? ⟨g,4,none⟩ = some b4∧w.cell? ⟨g,5,none⟩ = some b5∧w.cell? ⟨g,6,none⟩ = some b6∧w.cell? ⟨g,7,none⟩ = some b7∧w.cell? ⟨g,8,none⟩ = some b8∧w.cell? ⟨g,9,none⟩ = some b9∧w.cell? ⟨g,10,none⟩ = some b10∧∀ o,w.frozen? ⟨g,o,none⟩ = false :=
  ⟨cell_of_row w g 0 _ _ _ h,cell_of_row w g 1 _ _ _ h,cell_of_row w g 2 _ _ _ h,cell_of_row w g 3 _ _ _ h,cell_of_row w g 4 _ _ _ h,cell_of_row w g 5 _ _ _ h,cell_of_row w g 6 _ _ _ h,cell_of_row w g 7 _ _ _ h,cell_of_row w g 8 _ _ _ h,cell_of_row w g 9 _ _ _ h,cell_of_row w g 10 _ _ _ h,fun o=>frozen_of_row w g o _ _ h⟩
end Go.Proofs.Ytidimannfemnmaa.Top
namespace Go.Proofs.Ytidimannfemnmaa.Shf
open Go.RowKit Top
set_option maxRecDepth 20000

structure CS where
  fA:Option Addr
  fn:Nat
  fc:Nat
  tA:Option Addr
  tn:Nat
  tc:Nat
def chCells (c:Ch) (s:CS):Array Value:=#[.bool c.takes,.slice s.fA s.fn s.fc,.int .i64 c.child,.bool c.puts,.slice s.tA s.tn s.tc,.int .i64 c.gap]
def zeroC:Array Value:=#[.bool false,.slice none 0 0,.int .i64 0,.bool false,.slice none 0 0,.int .i64 0]
def noS:CS:=⟨none,0,0,none,0,0⟩
structure ChIn (w:World) (c:Ch) (s:CS):Prop where
  from_:Its w s.fA s.fn c.from_
  fnc:s.fn≤s.fc
  fcm:s.fc≤maxLen
  fnil:s.fA = none→s.fc = 0
  ffew:s.fn≤500000
  to_:Its w s.tA s.tn c.to_
  tnc:s.tn≤s.tc
  tcm:s.tc≤maxLen
  tnil:s.tA = none→s.tc = 0
  tfew:s.tn≤500000
theorem ChIn.below {w w':World} {c:Ch} {s:CS} (h:ChIn w c s) (hb:Below w.heap.size w w'):ChIn w' c s:={ h with from_:=h.from_.below hb,to_:=h.to_.below hb }
theorem ChIn.no (w:World):ChIn w noCh noS:=⟨Its.none_ w,Nat.le_refl _,Nat.zero_le _,fun _=>rfl,Nat.zero_le _,Its.none_ w,Nat.le_refl _,Nat.zero_le _,fun _=>rfl,Nat.zero_le _⟩
theorem ch_cells {W:World} {b:Nat} {c:Ch} {s:CS} {t:TypeId} {fr:Nat × Nat} (h:W.heap[b]? = some (.cells (chCells c s) t fr)):W.cell? ⟨b,0,none⟩ = some (.bool c.takes)∧W.cell? ⟨b,1,none⟩ = some (.slice s.fA s.fn s.fc)∧W.cell? ⟨b,2,none⟩ = some (.int .i64 c.child)∧W.cell? ⟨b,3,none⟩ = some (.bool c.puts)∧W.cell? ⟨b,4,none⟩ = some (.slice s.tA s.tn s.tc)∧W.cell? ⟨b,5,none⟩ = some (.int .i64 c.gap):=by
  unfold chCells at h
  exact ⟨cell_of_row W b 0 _ _ _ h,cell_of_row W b 1 _ _ _ h,cell_of_row W b 2 _ _ _ h,cell_of_row W b 3 _ _ _ h,cell_of_row W b 4 _ _ _ h,cell_of_row W b 5 _ _ _ h⟩
def ChA (w:World) (c:Ch) (e:Ending) (w':World):Prop:=∃ s,e = .returned (.agg (chCells c s))∧ChIn w' c s∧Below w.heap.size w w'
end Go.Proofs.Ytidimannfemnmaa.Shf
namespace Go.Proofs.Ytidimannfemnmaa.Shf
open Go.RowKit Top
set_option maxRecDepth 20000

theorem same_its (w:World) (A B:Option Addr) (n c m d:Nat) (xs ys:List Int) (hA:Its w A n xs) (hB:Its w B m ys) (hn:n≤maxLen):Calls Try.prog 102 #[.slice A n c,.slice B m d] w fun e w'=>e = .returned (.bool (P4.eqV xs ys))∧∃ k,w' = w.drewN k :=
  P4.same_any w A B n c m d xs ys (its4 hA) (its4 hB) hn
set_option maxHeartbeats 16000000 in
theorem number_any (w:World) (c:Ch) (s:CS) (A:Option Addr) (n cp:Nat) (k:Int) (over:List Int) (hc:ChIn w c s) (hA:Its w A n over) (hn:n≤maxLen) :
    Calls Try.prog 166 #[.agg (chCells c s),.slice A n cp,.int .i64 k] w fun e w'=>e = .returned (.int .i64 (numV c over k))∧Below w.heap.size w w':=by
  obtain ⟨W2,hW2⟩:∃ W2,W2 = w.alloc (.cells (chCells c s) 143):=⟨_,rfl⟩
  have z1:W2.heap[w.heap.size]? = some (.cells (chCells c s) 143 (0,0)):=by rw [hW2];exact heap_alloc_new w _
  have z4':=Lib.hid (show Below w.heap.size w W2 by rw [hW2];exact (Below.refl _ _).alloc (Nat.le_refl _) _)
  have hs1:=Lib.hid (fun (W:World) (hb:Below w.heap.size w W)=>same_its W A s.fA n cp s.fn s.fc over c.from_ (hA.below hb) (hc.below hb).from_ hn)
  have hs2:=Lib.hid (fun (W:World) (hb:Below w.heap.size w W)=>same_its W A s.tA n cp s.tn s.tc over c.to_ (hA.below hb) (hc.below hb).to_ hn)
  obtain ⟨c0,c1,c2,c3,c4,c5⟩:=ch_cells z1
  obtain ⟨b1,hb1⟩:∃ b,b = P4.eqV over c.from_:=⟨_,rfl⟩
  obtain ⟨b2,hb2⟩:∃ b,b = P4.eqV over c.to_:=⟨_,rfl⟩
  rw [← hb1] at hs1
  rw [← hb2] at hs2
  obtain ⟨r,hr0⟩:∃ r,r = numV c over k:=⟨_,rfl⟩
  rw [← hr0]
  have hr:=Lib.hid (show r = if c.puts && (decide (k ≥ c.gap) && b2) then IntKind.i64.wrap ((if c.takes && (decide (k > c.child) && b1) then IntKind.i64.wrap (k - 1) else k) + 1) else (if c.takes && (decide (k > c.child) && b1) then IntKind.i64.wrap (k - 1) else k) by rw [hr0,hb1,hb2];rfl)
  obtain ⟨takes,from_,child,puts,to_,gap⟩:=c
  dsimp only at hr c0 c1 c2 c3 c4 c5 hs1 hs2 hW2 ⊢
  unfold chCells at hW2 ⊢
  dsimp only at hW2 ⊢
  rw [hW2] at c0 c1 c2 c3 c4 c5
  clear z1 hc hA hb1 hb2 hr0 hn
  cases takes with
  | false =>
    cases puts with
    | false =>
      have hr1:=Lib.hid (show r = k by rw [hr.out];simp [IntWalk.i64_left,Bool.true_and])
      clear hr
      go_enter Try.func166,Try.ntmps166
      go_wp2_with fail
      go_ret
      exact ⟨by rw [hr1.out] <;> rfl,by rw [← hW2];exact z4'.out⟩
    | true =>
      by_cases j2:gap≤k
      · cases b2 with
        | false =>
          have hr1:=Lib.hid (show r = k by rw [hr.out];simp [IntWalk.i64_left,Bool.true_and,j2])
          clear hr
          go_enter Try.func166,Try.ntmps166
          go_wp2_with (go_at_call 102;(refine (hs2.out _ (by rw [← hW2];exact z4'.out)).mono ?_;rintro e w1 ⟨rfl,k0,rfl⟩))
          go_ret
          exact ⟨by rw [hr1.out] <;> rfl,by rw [← hW2];exact draws z4'.out _⟩
        | true =>
          have hr1:=Lib.hid (show r = wrap64 (k + 1) by rw [hr.out];simp [IntWalk.i64_left,Bool.true_and,j2])
          clear hr
          go_enter Try.func166,Try.ntmps166
          go_wp2_with (go_at_call 102;(refine (hs2.out _ (by rw [← hW2];exact z4'.out)).mono ?_;rintro e w1 ⟨rfl,k0,rfl⟩))
          go_ret
          exact ⟨by rw [hr1.out] <;> rfl,by rw [← hW2];exact draws z4'.out _⟩
      · skip
        have hr1:=Lib.hid (show r = k by rw [hr.out];simp [IntWalk.i64_left,Bool.true_and,j2])
        clear hr
        go_enter Try.func166,Try.ntmps166
        go_wp2_with fail
        go_ret
        exact ⟨by rw [hr1.out] <;> rfl,by rw [← hW2];exact z4'.out⟩
  | true =>
    by_cases j1:child < k
    · cases b1 with
      | false =>
        cases puts with
        | false =>
          have hr1:=Lib.hid (show r = k by rw [hr.out];simp [IntWalk.i64_left,Bool.true_and,j1])
          clear hr
          go_enter Try.func166,Try.ntmps166
          go_wp2_with (go_at_call 102;(refine (hs1.out _ (by rw [← hW2];exact z4'.out)).mono ?_;rintro e w1 ⟨rfl,k0,rfl⟩))
          go_ret
          exact ⟨by rw [hr1.out] <;> rfl,by rw [← hW2];exact draws z4'.out _⟩
        | true =>
          by_cases j2:gap≤k
          · cases b2 with
            | false =>
              have hr1:=Lib.hid (show r = k by rw [hr.out];simp [IntWalk.i64_left,Bool.true_and,j1,j2])
              clear hr
              go_enter Try.func166,Try.ntmps166
              go_wp2_with (first | (go_at_call 102;(refine (hs1.out _ (by rw [← hW2];exact z4'.out)).mono ?_;rintro e w1 ⟨rfl,k0,rfl⟩)) | (go_at_call 102;(refine (hs2.out _ (by rw [← hW2];exact draws z4'.out _)).mono ?_;rintro e w1 ⟨rfl,k1,rfl⟩)))
              go_ret
              exact ⟨by rw [hr1.out] <;> rfl,by rw [← hW2];exact draws z4'.out _⟩
            | true =>
              have hr1:=Lib.hid (show r = wrap64 (k + 1) by rw [hr.out];simp [IntWalk.i64_left,Bool.true_and,j1,j2])
              clear hr
              go_enter Try.func166,Try.ntmps166
              go_wp2_with (first | (go_at_call 102;(refine (hs1.out _ (by rw [← hW2];exact z4'.out)).mono ?_;rintro e w1 ⟨rfl,k0,rfl⟩)) | (go_at_call 102;(refine (hs2.out _ (by rw [← hW2];exact draws z4'.out _)).mono ?_;rintro e w1 ⟨rfl,k1,rfl⟩)))
              go_ret
              exact ⟨by rw [hr1.out] <;> rfl,by rw [← hW2];exact draws z4'.out _⟩
          · skip
            have hr1:=Lib.hid (show r = k by rw [hr.out];simp [IntWalk.i64_left,Bool.true_and,j1,j2])
            clear hr
            go_enter Try.func166,Try.ntmps166
            go_wp2_with (go_at_call 102;(refine (hs1.out _ (by rw [← hW2];exact z4'.out)).mono ?_;rintro e w1 ⟨rfl,k0,rfl⟩))
            go_ret
            exact ⟨by rw [hr1.out] <;> rfl,by rw [← hW2];exact draws z4'.out _⟩
      | true =>
        cases puts with
        | false =>
          have hr1:=Lib.hid (show r = wrap64 (k - 1) by rw [hr.out];simp [IntWalk.i64_left,Bool.true_and,j1])
          clear hr
          go_enter Try.func166,Try.ntmps166
          go_wp2_with (go_at_call 102;(refine (hs1.out _ (by rw [← hW2];exact z4'.out)).mono ?_;rintro e w1 ⟨rfl,k0,rfl⟩))
          go_ret
          exact ⟨by rw [hr1.out] <;> rfl,by rw [← hW2];exact draws z4'.out _⟩
        | true =>
          by_cases j2:gap≤k
          · cases b2 with
            | false =>
              have hr1:=Lib.hid (show r = wrap64 (k - 1) by rw [hr.out];simp [IntWalk.i64_left,Bool.true_and,j1,j2])
              clear hr
              go_enter Try.func166,Try.ntmps166
              go_wp2_with (first | (go_at_call 102;(refine (hs1.out _ (by rw [← hW2];exact z4'.out)).mono ?_;rintro e w1 ⟨rfl,k0,rfl⟩)) | (go_at_call 102;(refine (hs2.out _ (by rw [← hW2];exact draws z4'.out _)).mono ?_;rintro e w1 ⟨rfl,k1,rfl⟩)))
              go_ret
              exact ⟨by rw [hr1.out] <;> rfl,by rw [← hW2];exact draws z4'.out _⟩
            | true =>
              have hr1:=Lib.hid (show r = wrap64 (wrap64 (k - 1) + 1) by rw [hr.out];simp [IntWalk.i64_left,Bool.true_and,j1,j2])
              clear hr
              go_enter Try.func166,Try.ntmps166
              go_wp2_with (first | (go_at_call 102;(refine (hs1.out _ (by rw [← hW2];exact z4'.out)).mono ?_;rintro e w1 ⟨rfl,k0,rfl⟩)) | (go_at_call 102;(refine (hs2.out _ (by rw [← hW2];exact draws z4'.out _)).mono ?_;rintro e w1 ⟨rfl,k1,rfl⟩)))
              go_ret
              exact ⟨by rw [hr1.out] <;> rfl,by rw [← hW2];exact draws z4'.out _⟩
          · skip
            have hr1:=Lib.hid (show r = wrap64 (k - 1) by rw [hr.out];simp [IntWalk.i64_left,Bool.true_and,j1,j2])
            clear hr
            go_enter Try.func166,Try.ntmps166
            go_wp2_with (go_at_call 102;(refine (hs1.out _ (by rw [← hW2];exact z4'.out)).mono ?_;rintro e w1 ⟨rfl,k0,rfl⟩))
            go_ret
            exact ⟨by rw [hr1.out] <;> rfl,by rw [← hW2];exact draws z4'.out _⟩
    · skip
      cases puts with
      | false =>
        have hr1:=Lib.hid (show r = k by rw [hr.out];simp [IntWalk.i64_left,Bool.true_and,j1])
        clear hr
        go_enter Try.func166,Try.ntmps166
        go_wp2_with fail
        go_ret
        exact ⟨by rw [hr1.out] <;> rfl,by rw [← hW2];exact z4'.out⟩
      | true =>
        by_cases j2:gap≤k
        · cases b2 with
          | false =>
            have hr1:=Lib.hid (show r = k by rw [hr.out];simp [IntWalk.i64_left,Bool.true_and,j1,j2])
            clear hr
            go_enter Try.func166,Try.ntmps166
            go_wp2_with (go_at_call 102;(refine (hs2.out _ (by rw [← hW2];exact z4'.out)).mono ?_;rintro e w1 ⟨rfl,k0,rfl⟩))
            go_ret
            exact ⟨by rw [hr1.out] <;> rfl,by rw [← hW2];exact draws z4'.out _⟩
          | true =>
            have hr1:=Lib.hid (show r = wrap64 (k + 1) by rw [hr.out];simp [IntWalk.i64_left,Bool.true_and,j1,j2])
            clear hr
            go_enter Try.func166,Try.ntmps166
            go_wp2_with (go_at_call 102;(refine (hs2.out _ (by rw [← hW2];exact z4'.out)).mono ?_;rintro e w1 ⟨rfl,k0,rfl⟩))
            go_ret
            exact ⟨by rw [hr1.out] <;> rfl,by rw [← hW2];exact draws z4'.out _⟩
        · skip
          have hr1:=Lib.hid (show r = k by rw [hr.out];simp [IntWalk.i64_left,Bool.true_and,j1,j2])
          clear hr
          go_enter Try.func166,Try.ntmps166
          go_wp2_with fail
          go_ret
          exact ⟨by rw [hr1.out] <;> rfl,by rw [← hW2];exact z4'.out⟩
end Go.Proofs.Ytidimannfemnmaa.Shf
namespace Go.Proofs.Ytidimannfemnmaa.Shf
open Go.RowKit Top
set_option maxRecDepth 20000

set_option maxHeartbeats 16000000 in
theorem landing_any (w:World) (c:Ch) (s:CS) (hc:ChIn w c s) :
    Calls Try.prog 160 #[.agg (chCells c s)] w fun e w'=>e = .returned (.int .i64 (landV c))∧Below w.heap.size w w':=by
  obtain ⟨W2,hW2⟩:∃ W2,W2 = w.alloc (.cells (chCells c s) 143):=⟨_,rfl⟩
  have z1:W2.heap[w.heap.size]? = some (.cells (chCells c s) 143 (0,0)):=by rw [hW2];exact heap_alloc_new w _
  have z4':=Lib.hid (show Below w.heap.size w W2 by rw [hW2];exact (Below.refl _ _).alloc (Nat.le_refl _) _)
  have hs1:=Lib.hid (fun (W:World) (hb:Below w.heap.size w W)=>same_its W s.fA s.tA s.fn s.fc s.tn s.tc c.from_ c.to_ (hc.below hb).from_ (hc.below hb).to_ (Nat.le_trans hc.fnc hc.fcm))
  obtain ⟨c0,c1,c2,c3,c4,c5⟩:=ch_cells z1
  obtain ⟨b1,hb1⟩:∃ b,b = P4.eqV c.from_ c.to_:=⟨_,rfl⟩
  rw [← hb1] at hs1
  obtain ⟨r,hr0⟩:∃ r,r = landV c:=⟨_,rfl⟩
  rw [← hr0]
  have hr:=Lib.hid (show r = if decide (c.child < c.gap) && b1 then IntKind.i64.wrap (c.gap - 1) else c.gap by rw [hr0,hb1];rfl)
  obtain ⟨takes,from_,child,puts,to_,gap⟩:=c
  dsimp only at hr c0 c1 c2 c3 c4 c5 hs1 hW2 ⊢
  unfold chCells at hW2 ⊢
  dsimp only at hW2 ⊢
  rw [hW2] at c0 c1 c2 c3 c4 c5
  clear z1 hc hb1 hr0
  by_cases j1:child < gap
  · cases b1 with
    | false =>
      have hr1:=Lib.hid (show r = gap by rw [hr.out];simp [IntWalk.i64_left,Bool.true_and,j1])
      clear hr
      go_enter Try.func160,Try.ntmps160
      go_wp2_with (go_at_call 102;(refine (hs1.out _ (by rw [← hW2];exact z4'.out)).mono ?_;rintro e w1 ⟨rfl,k0,rfl⟩))
      go_ret
      exact ⟨by rw [hr1.out] <;> rfl,by rw [← hW2];exact draws z4'.out _⟩
    | true =>
      have hr1:=Lib.hid (show r = wrap64 (gap - 1) by rw [hr.out];simp [IntWalk.i64_left,Bool.true_and,j1])
      clear hr
      go_enter Try.func160,Try.ntmps160
      go_wp2_with (go_at_call 102;(refine (hs1.out _ (by rw [← hW2];exact z4'.out)).mono ?_;rintro e w1 ⟨rfl,k0,rfl⟩))
      go_ret
      exact ⟨by rw [hr1.out] <;> rfl,by rw [← hW2];exact draws z4'.out _⟩
  · skip
    have hr1:=Lib.hid (show r = gap by rw [hr.out];simp [IntWalk.i64_left,Bool.true_and,j1])
    clear hr
    go_enter Try.func160,Try.ntmps160
    go_wp2_with fail
    go_ret
    exact ⟨by rw [hr1.out] <;> rfl,by rw [← hW2];exact z4'.out⟩
set_option maxHeartbeats 16000000 in
theorem gapOf_any (w:World) (c:Ch) (s:CS) (A:Option Addr) (n cp:Nat) (k:Int) (first:Bool) (over:List Int) (hc:ChIn w c s) (hA:Its w A n over) (hn:n≤maxLen) :
    Calls Try.prog 126 #[.agg (chCells c s),.slice A n cp,.int .i64 k,.bool first] w fun e w'=>e = .returned (.int .i64 (gapV c over k first))∧Below w.heap.size w w':=by
  obtain ⟨W2,hW2⟩:∃ W2,W2 = w.alloc (.cells (chCells c s) 143):=⟨_,rfl⟩
  have z1:W2.heap[w.heap.size]? = some (.cells (chCells c s) 143 (0,0)):=by rw [hW2];exact heap_alloc_new w _
  have z4':=Lib.hid (show Below w.heap.size w W2 by rw [hW2];exact (Below.refl _ _).alloc (Nat.le_refl _) _)
  have hs1:=Lib.hid (fun (W:World) (hb:Below w.heap.size w W)=>same_its W A s.fA n cp s.fn s.fc over c.from_ (hA.below hb) (hc.below hb).from_ hn)
  have hs2:=Lib.hid (fun (W:World) (hb:Below w.heap.size w W)=>same_its W A s.tA n cp s.tn s.tc over c.to_ (hA.below hb) (hc.below hb).to_ hn)
  obtain ⟨c0,c1,c2,c3,c4,c5⟩:=ch_cells z1
  obtain ⟨b1,hb1⟩:∃ b,b = P4.eqV over c.from_:=⟨_,rfl⟩
  obtain ⟨b2,hb2⟩:∃ b,b = P4.eqV over c.to_:=⟨_,rfl⟩
  rw [← hb1] at hs1
  rw [← hb2] at hs2
  obtain ⟨r,hr0⟩:∃ r,r = gapV c over k first:=⟨_,rfl⟩
  rw [← hr0]
  have hr:=Lib.hid (show r = if c.puts && (b2 && (decide (k > c.gap) || ((k == c.gap) && !first))) then IntKind.i64.wrap ((if c.takes && (decide (k > c.child) && b1) then IntKind.i64.wrap (k - 1) else k) + 1) else (if c.takes && (decide (k > c.child) && b1) then IntKind.i64.wrap (k - 1) else k) by rw [hr0,hb1,hb2];rfl)
  obtain ⟨takes,from_,child,puts,to_,gap⟩:=c
  dsimp only at hr c0 c1 c2 c3 c4 c5 hs1 hs2 hW2 ⊢
  unfold chCells at hW2 ⊢
  dsimp only at hW2 ⊢
  rw [hW2] at c0 c1 c2 c3 c4 c5
  clear z1 hc hA hb1 hb2 hr0 hn
  cases takes with
  | false =>
    cases puts with
    | false =>
      have hr1:=Lib.hid (show r = k by rw [hr.out];simp [IntWalk.i64_left,Bool.true_and])
      clear hr
      go_enter Try.func126,Try.ntmps126
      go_wp2_with fail
      go_ret
      exact ⟨by rw [hr1.out] <;> rfl,by rw [← hW2];exact z4'.out⟩
    | true =>
      cases b2 with
      | false =>
        have hr1:=Lib.hid (show r = k by rw [hr.out];simp [IntWalk.i64_left,Bool.true_and])
        clear hr
        go_enter Try.func126,Try.ntmps126
        go_wp2_with (go_at_call 102;(refine (hs2.out _ (by rw [← hW2];exact z4'.out)).mono ?_;rintro e w1 ⟨rfl,k0,rfl⟩))
        go_ret
        exact ⟨by rw [hr1.out] <;> rfl,by rw [← hW2];exact draws z4'.out _⟩
      | true =>
        by_cases j2:gap < k
        · skip
          have hr1:=Lib.hid (show r = wrap64 (k + 1) by rw [hr.out];simp [IntWalk.i64_left,Bool.true_and,j2])
          clear hr
          go_enter Try.func126,Try.ntmps126
          go_wp2_with (go_at_call 102;(refine (hs2.out _ (by rw [← hW2];exact z4'.out)).mono ?_;rintro e w1 ⟨rfl,k0,rfl⟩))
          go_ret
          exact ⟨by rw [hr1.out] <;> rfl,by rw [← hW2];exact draws z4'.out _⟩
        · cases hj:(k == gap) with
          | false =>
            have hr1:=Lib.hid (show r = k by rw [hr.out];simp [IntWalk.i64_left,Bool.true_and,j2,hj])
            clear hr
            go_enter Try.func126,Try.ntmps126
            go_wp2_with (go_at_call 102;(refine (hs2.out _ (by rw [← hW2];exact z4'.out)).mono ?_;rintro e w1 ⟨rfl,k0,rfl⟩))
            go_ret
            exact ⟨by rw [hr1.out] <;> rfl,by rw [← hW2];exact draws z4'.out _⟩
          | true =>
            cases first with
            | false =>
              have hr1:=Lib.hid (show r = wrap64 (k + 1) by rw [hr.out];simp [IntWalk.i64_left,Bool.true_and,j2,hj])
              clear hr
              go_enter Try.func126,Try.ntmps126
              go_wp2_with (go_at_call 102;(refine (hs2.out _ (by rw [← hW2];exact z4'.out)).mono ?_;rintro e w1 ⟨rfl,k0,rfl⟩))
              go_ret
              exact ⟨by rw [hr1.out] <;> rfl,by rw [← hW2];exact draws z4'.out _⟩
            | true =>
              have hr1:=Lib.hid (show r = k by rw [hr.out];simp [IntWalk.i64_left,Bool.true_and,j2,hj])
              clear hr
              go_enter Try.func126,Try.ntmps126
              go_wp2_with (go_at_call 102;(refine (hs2.out _ (by rw [← hW2];exact z4'.out)).mono ?_;rintro e w1 ⟨rfl,k0,rfl⟩))
              go_ret
              exact ⟨by rw [hr1.out] <;> rfl,by rw [← hW2];exact draws z4'.out _⟩
  | true =>
    by_cases j1:child < k
    · cases b1 with
      | false =>
        cases puts with
        | false =>
          have hr1:=Lib.hid (show r = k by rw [hr.out];simp [IntWalk.i64_left,Bool.true_and,j1])
          clear hr
          go_enter Try.func126,Try.ntmps126
          go_wp2_with (go_at_call 102;(refine (hs1.out _ (by rw [← hW2];exact z4'.out)).mono ?_;rintro e w1 ⟨rfl,k0,rfl⟩))
          go_ret
          exact ⟨by rw [hr1.out] <;> rfl,by rw [← hW2];exact draws z4'.out _⟩
        | true =>
          cases b2 with
          | false =>
            have hr1:=Lib.hid (show r = k by rw [hr.out];simp [IntWalk.i64_left,Bool.true_and,j1])
            clear hr
            go_enter Try.func126,Try.ntmps126
            go_wp2_with (first | (go_at_call 102;(refine (hs1.out _ (by rw [← hW2];exact z4'.out)).mono ?_;rintro e w1 ⟨rfl,k0,rfl⟩)) | (go_at_call 102;(refine (hs2.out _ (by rw [← hW2];exact draws z4'.out _)).mono ?_;rintro e w1 ⟨rfl,k1,rfl⟩)))
            go_ret
            exact ⟨by rw [hr1.out] <;> rfl,by rw [← hW2];exact draws z4'.out _⟩
          | true =>
            by_cases j2:gap < k
            · skip
              have hr1:=Lib.hid (show r = wrap64 (k + 1) by rw [hr.out];simp [IntWalk.i64_left,Bool.true_and,j1,j2])
              clear hr
              go_enter Try.func126,Try.ntmps126
              go_wp2_with (first | (go_at_call 102;(refine (hs1.out _ (by rw [← hW2];exact z4'.out)).mono ?_;rintro e w1 ⟨rfl,k0,rfl⟩)) | (go_at_call 102;(refine (hs2.out _ (by rw [← hW2];exact draws z4'.out _)).mono ?_;rintro e w1 ⟨rfl,k1,rfl⟩)))
              go_ret
              exact ⟨by rw [hr1.out] <;> rfl,by rw [← hW2];exact draws z4'.out _⟩
            · cases hj:(k == gap) with
              | false =>
                have hr1:=Lib.hid (show r = k by rw [hr.out];simp [IntWalk.i64_left,Bool.true_and,j1,j2,hj])
                clear hr
                go_enter Try.func126,Try.ntmps126
                go_wp2_with (first | (go_at_call 102;(refine (hs1.out _ (by rw [← hW2];exact z4'.out)).mono ?_;rintro e w1 ⟨rfl,k0,rfl⟩)) | (go_at_call 102;(refine (hs2.out _ (by rw [← hW2];exact draws z4'.out _)).mono ?_;rintro e w1 ⟨rfl,k1,rfl⟩)))
                go_ret
                exact ⟨by rw [hr1.out] <;> rfl,by rw [← hW2];exact draws z4'.out _⟩
              | true =>
                cases first with
                | false =>
                  have hr1:=Lib.hid (show r = wrap64 (k + 1) by rw [hr.out];simp [IntWalk.i64_left,Bool.true_and,j1,j2,hj])
                  clear hr
                  go_enter Try.func126,Try.ntmps126
                  go_wp2_with (first | (go_at_call 102;(refine (hs1.out _ (by rw [← hW2];exact z4'.out)).mono ?_;rintro e w1 ⟨rfl,k0,rfl⟩)) | (go_at_call 102;(refine (hs2.out _ (by rw [← hW2];exact draws z4'.out _)).mono ?_;rintro e w1 ⟨rfl,k1,rfl⟩)))
                  go_ret
                  exact ⟨by rw [hr1.out] <;> rfl,by rw [← hW2];exact draws z4'.out _⟩
                | true =>
                  have hr1:=Lib.hid (show r = k by rw [hr.out];simp [IntWalk.i64_left,Bool.true_and,j1,j2,hj])
                  clear hr
                  go_enter Try.func126,Try.ntmps126
                  go_wp2_with (first | (go_at_call 102;(refine (hs1.out _ (by rw [← hW2];exact z4'.out)).mono ?_;rintro e w1 ⟨rfl,k0,rfl⟩)) | (go_at_call 102;(refine (hs2.out _ (by rw [← hW2];exact draws z4'.out _)).mono ?_;rintro e w1 ⟨rfl,k1,rfl⟩)))
                  go_ret
                  exact ⟨by rw [hr1.out] <;> rfl,by rw [← hW2];exact draws z4'.out _⟩
      | true =>
        cases puts with
        | false =>
          have hr1:=Lib.hid (show r = wrap64 (k - 1) by rw [hr.out];simp [IntWalk.i64_left,Bool.true_and,j1])
          clear hr
          go_enter Try.func126,Try.ntmps126
          go_wp2_with (go_at_call 102;(refine (hs1.out _ (by rw [← hW2];exact z4'.out)).mono ?_;rintro e w1 ⟨rfl,k0,rfl⟩))
          go_ret
          exact ⟨by rw [hr1.out] <;> rfl,by rw [← hW2];exact draws z4'.out _⟩
        | true =>
          cases b2 with
          | false =>
            have hr1:=Lib.hid (show r = wrap64 (k - 1) by rw [hr.out];simp [IntWalk.i64_left,Bool.true_and,j1])
            clear hr
            go_enter Try.func126,Try.ntmps126
            go_wp2_with (first | (go_at_call 102;(refine (hs1.out _ (by rw [← hW2];exact z4'.out)).mono ?_;rintro e w1 ⟨rfl,k0,rfl⟩)) | (go_at_call 102;(refine (hs2.out _ (by rw [← hW2];exact draws z4'.out _)).mono ?_;rintro e w1 ⟨rfl,k1,rfl⟩)))
            go_ret
            exact ⟨by rw [hr1.out] <;> rfl,by rw [← hW2];exact draws z4'.out _⟩
          | true =>
            by_cases j2:gap < k
            · skip
              have hr1:=Lib.hid (show r = wrap64 (wrap64 (k - 1) + 1) by rw [hr.out];simp [IntWalk.i64_left,Bool.true_and,j1,j2])
              clear hr
              go_enter Try.func126,Try.ntmps126
              go_wp2_with (first | (go_at_call 102;(refine (hs1.out _ (by rw [← hW2];exact z4'.out)).mono ?_;rintro e w1 ⟨rfl,k0,rfl⟩)) | (go_at_call 102;(refine (hs2.out _ (by rw [← hW2];exact draws z4'.out _)).mono ?_;rintro e w1 ⟨rfl,k1,rfl⟩)))
              go_ret
              exact ⟨by rw [hr1.out] <;> rfl,by rw [← hW2];exact draws z4'.out _⟩
            · cases hj:(k == gap) with
              | false =>
                have hr1:=Lib.hid (show r = wrap64 (k - 1) by rw [hr.out];simp [IntWalk.i64_left,Bool.true_and,j1,j2,hj])
                clear hr
                go_enter Try.func126,Try.ntmps126
                go_wp2_with (first | (go_at_call 102;(refine (hs1.out _ (by rw [← hW2];exact z4'.out)).mono ?_;rintro e w1 ⟨rfl,k0,rfl⟩)) | (go_at_call 102;(refine (hs2.out _ (by rw [← hW2];exact draws z4'.out _)).mono ?_;rintro e w1 ⟨rfl,k1,rfl⟩)))
                go_ret
                exact ⟨by rw [hr1.out] <;> rfl,by rw [← hW2];exact draws z4'.out _⟩
              | true =>
                cases first with
                | false =>
                  have hr1:=Lib.hid (show r = wrap64 (wrap64 (k - 1) + 1) by rw [hr.out];simp [IntWalk.i64_left,Bool.true_and,j1,j2,hj])
                  clear hr
                  go_enter Try.func126,Try.ntmps126
                  go_wp2_with (first | (go_at_call 102;(refine (hs1.out _ (by rw [← hW2];exact z4'.out)).mono ?_;rintro e w1 ⟨rfl,k0,rfl⟩)) | (go_at_call 102;(refine (hs2.out _ (by rw [← hW2];exact draws z4'.out _)).mono ?_;rintro e w1 ⟨rfl,k1,rfl⟩)))
                  go_ret
                  exact ⟨by rw [hr1.out] <;> rfl,by rw [← hW2];exact draws z4'.out _⟩
                | true =>
                  have hr1:=Lib.hid (show r = wrap64 (k - 1) by rw [hr.out];simp [IntWalk.i64_left,Bool.true_and,j1,j2,hj])
                  clear hr
                  go_enter Try.func126,Try.ntmps126
                  go_wp2_with (first | (go_at_call 102;(refine (hs1.out _ (by rw [← hW2];exact z4'.out)).mono ?_;rintro e w1 ⟨rfl,k0,rfl⟩)) | (go_at_call 102;(refine (hs2.out _ (by rw [← hW2];exact draws z4'.out _)).mono ?_;rintro e w1 ⟨rfl,k1,rfl⟩)))
                  go_ret
                  exact ⟨by rw [hr1.out] <;> rfl,by rw [← hW2];exact draws z4'.out _⟩
    · skip
      cases puts with
      | false =>
        have hr1:=Lib.hid (show r = k by rw [hr.out];simp [IntWalk.i64_left,Bool.true_and,j1])
        clear hr
        go_enter Try.func126,Try.ntmps126
        go_wp2_with fail
        go_ret
        exact ⟨by rw [hr1.out] <;> rfl,by rw [← hW2];exact z4'.out⟩
      | true =>
        cases b2 with
        | false =>
          have hr1:=Lib.hid (show r = k by rw [hr.out];simp [IntWalk.i64_left,Bool.true_and,j1])
          clear hr
          go_enter Try.func126,Try.ntmps126
          go_wp2_with (go_at_call 102;(refine (hs2.out _ (by rw [← hW2];exact z4'.out)).mono ?_;rintro e w1 ⟨rfl,k0,rfl⟩))
          go_ret
          exact ⟨by rw [hr1.out] <;> rfl,by rw [← hW2];exact draws z4'.out _⟩
        | true =>
          by_cases j2:gap < k
          · skip
            have hr1:=Lib.hid (show r = wrap64 (k + 1) by rw [hr.out];simp [IntWalk.i64_left,Bool.true_and,j1,j2])
            clear hr
            go_enter Try.func126,Try.ntmps126
            go_wp2_with (go_at_call 102;(refine (hs2.out _ (by rw [← hW2];exact z4'.out)).mono ?_;rintro e w1 ⟨rfl,k0,rfl⟩))
            go_ret
            exact ⟨by rw [hr1.out] <;> rfl,by rw [← hW2];exact draws z4'.out _⟩
          · cases hj:(k == gap) with
            | false =>
              have hr1:=Lib.hid (show r = k by rw [hr.out];simp [IntWalk.i64_left,Bool.true_and,j1,j2,hj])
              clear hr
              go_enter Try.func126,Try.ntmps126
              go_wp2_with (go_at_call 102;(refine (hs2.out _ (by rw [← hW2];exact z4'.out)).mono ?_;rintro e w1 ⟨rfl,k0,rfl⟩))
              go_ret
              exact ⟨by rw [hr1.out] <;> rfl,by rw [← hW2];exact draws z4'.out _⟩
            | true =>
              cases first with
              | false =>
                have hr1:=Lib.hid (show r = wrap64 (k + 1) by rw [hr.out];simp [IntWalk.i64_left,Bool.true_and,j1,j2,hj])
                clear hr
                go_enter Try.func126,Try.ntmps126
                go_wp2_with (go_at_call 102;(refine (hs2.out _ (by rw [← hW2];exact z4'.out)).mono ?_;rintro e w1 ⟨rfl,k0,rfl⟩))
                go_ret
                exact ⟨by rw [hr1.out] <;> rfl,by rw [← hW2];exact draws z4'.out _⟩
              | true =>
                have hr1:=Lib.hid (show r = k by rw [hr.out];simp [IntWalk.i64_left,Bool.true_and,j1,j2,hj])
                clear hr
                go_enter Try.func126,Try.ntmps126
                go_wp2_with (go_at_call 102;(refine (hs2.out _ (by rw [← hW2];exact z4'.out)).mono ?_;rintro e w1 ⟨rfl,k0,rfl⟩))
                go_ret
                exact ⟨by rw [hr1.out] <;> rfl,by rw [← hW2];exact draws z4'.out _⟩
end Go.Proofs.Ytidimannfemnmaa.Shf
namespace Go.Proofs.Ytidimannfemnmaa.Sim
open Go.RowKit Top
set_option maxRecDepth 20000

def staysV (o:Ov):Bool:=decide (o.path ≠ []∧o.path.dropLast = o.to_∧(o.at_ = o.path.getLastD 0∨o.at_ = o.path.getLastD 0 + 1))
def idleV (o:Ov):Bool:=formedV o && (if o.kind = 3 then staysV o else if o.kind = 6 then (Ltx.norm (pcs o.pieces)).isEmpty else false)
theorem path_end {p:List Int} (h:p ≠ []) (hm:P4.mayV p = true):∃ q,∃ c:Nat,p = q ++ [(c:Int)]:=by
  obtain ⟨q,c,rfl⟩:∃ q c,p = q ++ [c]:=⟨p.dropLast,p.getLast h,(List.dropLast_concat_getLast h).symm⟩
  have:=(of_decide_eq_true hm).2 c (by simp)
  exact ⟨q,c.toNat,by rw [Int.toNat_of_nonneg this.1]⟩
theorem parent_nil (w:World) (pA:Option Addr) (pn pc:Nat) (hp:Its w pA pn []) (hpnil:pA = none→pc = 0) (hpn:pn≤500000) (hpnc:pn≤pc) (hpcm:pc≤maxLen) :
    Calls Try.prog 164 #[.slice pA pn pc] w fun e w'=>e = .returned (.tuple #[.slice none 0 0,.int .i64 0,.bool false])∧Below w.heap.size w w':=by
  refine (P4.parent_any w pA pn pc [] hp hpnil hpn hpnc hpcm).mono ?_
  rintro e w' hpr
  rcases hpr with ⟨h0,h1,h2⟩ | ⟨v,ys,z,hyz,-⟩
  · exact ⟨h1,by rw [h2];exact Below.refl _ _⟩
  · simp at hyz
end Go.Proofs.Ytidimannfemnmaa.Sim
namespace Go.Proofs.Ytidimannfemnmaa.Sim
open Go.RowKit Top
set_option maxRecDepth 20000

theorem formed_right {o:Ov} (h:formedV o = true) (h6:o.kind = 6):P5.rightV o.pieces = true:=by
  unfold formedV at h
  rw [if_neg (by omega),if_neg (by omega),if_neg (by omega),if_neg (by omega),if_neg (by omega),if_pos h6,Bool.and_eq_true] at h
  exact h.2
theorem formed_may {o:Ov} (h:formedV o = true):P4.mayV o.path = true:=by
  unfold formedV at h
  rw [Bool.and_eq_true] at h
  exact h.1
end Go.Proofs.Ytidimannfemnmaa.Sim
namespace Go.Proofs.Ytidimannfemnmaa.Shf
open Go.RowKit Top
set_option maxRecDepth 20000

theorem end_ch {w w1:World} {r:Nat} {ty:TypeId} {c:Ch} {s:CS} {a0 a1 a2 a3 a4 a5:Value} (hw:w.heap.size≤r) (hb:Below w.heap.size w w1) (hr:w1.heap[r]? = some (.cells #[a0,a1,a2,a3,a4,a5] ty (0,0))) :
    ∃ W9,W9 = ((((((w1.setCell ⟨r,0,none⟩ (.bool c.takes)).setCell ⟨r,1,none⟩ (.slice s.fA s.fn s.fc)).setCell ⟨r,2,none⟩ (.int .i64 c.child)).setCell ⟨r,3,none⟩ (.bool c.puts)).setCell ⟨r,4,none⟩ (.slice s.tA s.tn s.tc)).setCell ⟨r,5,none⟩ (.int .i64 c.gap)) ∧
      W9.heap[r]? = some (.cells (chCells c s) ty (0,0))∧Below w.heap.size w W9∧(∀ k,k ≠ r→W9.heap[k]? = w1.heap[k]?)∧W9.heap.size = w1.heap.size :=
  ⟨_,rfl,set_six hr,below_six hb hw,fun k hk=>set_six_other hk,by simp only [World.size_setCell]⟩
theorem set_345 {w:World} {g:Nat} {a0 a1 a2 a3 a4 a5 b3 b4 b5:Value} {ty:TypeId} (h:w.heap[g]? = some (.cells #[a0,a1,a2,a3,a4,a5] ty (0,0))) :
    (((w.setCell ⟨g,3,none⟩ b3).setCell ⟨g,4,none⟩ b4).setCell ⟨g,5,none⟩ b5).heap[g]? = some (.cells #[a0,a1,a2,b3,b4,b5] ty (0,0)):=by
  have e1:=heap_setCell_same w g 3 _ _ b3 h
  have e2:=heap_setCell_same _ g 4 _ _ b4 e1
  have e3:=heap_setCell_same _ g 5 _ _ b5 e2
  rw [e3]
  simp
theorem set_120 {w:World} {g:Nat} {a0 a1 a2 a3 a4 a5 b1 b2 b0:Value} {ty:TypeId} (h:w.heap[g]? = some (.cells #[a0,a1,a2,a3,a4,a5] ty (0,0))) :
    (((w.setCell ⟨g,1,none⟩ b1).setCell ⟨g,2,none⟩ b2).setCell ⟨g,0,none⟩ b0).heap[g]? = some (.cells #[b0,b1,b2,a3,a4,a5] ty (0,0)):=by
  have e1:=heap_setCell_same w g 1 _ _ b1 h
  have e2:=heap_setCell_same _ g 2 _ _ b2 e1
  have e3:=heap_setCell_same _ g 0 _ _ b0 e2
  rw [e3]
  simp
theorem parent_o (w:World) (pA:Option Addr) (pn pc:Nat) (q:List Int) (c:Int) (hp:Its w pA pn (q ++ [c])) (hpnil:pA = none→pc = 0) (hpn:pn≤500000) (hpnc:pn≤pc) (hpcm:pc≤maxLen) :
    Calls Try.prog 164 #[.slice pA pn pc] w fun e w'=>∃ qA qn qc,e = .returned (.tuple #[.slice qA qn qc,.int .i64 c,.bool true])∧P4.OwnI w.heap.size w' (.slice qA qn qc) q∧Below w.heap.size w w':=by
  refine (P4.parent_any w pA pn pc (q ++ [c]) hp hpnil hpn hpnc hpcm).mono ?_
  rintro e w' hpr
  rcases hpr with ⟨h0,-⟩ | ⟨v,ys,z,hyz,rfl,hown,hb0⟩
  · exact absurd h0 (by simp)
  · have h1:=congrArg List.reverse hyz
    simp only [List.reverse_append,List.reverse_cons,List.reverse_nil,List.nil_append,List.singleton_append,List.cons.injEq] at h1
    obtain ⟨rfl,h2⟩:=h1
    have h3:q = ys:=List.reverse_inj.1 h2
    subst h3
    obtain ⟨A,n,k,rfl,-⟩:=hown.shape
    exact ⟨A,n,k,rfl,hown,hb0⟩
theorem own_facts {base:Nat} {w:World} {A:Option Addr} {n c:Nat} {q:List Int} (h:P4.OwnI base w (.slice A n c) q):Its w A n q∧n≤c∧c≤maxLen∧(A = none→c = 0)∧n = q.length:=by
  obtain ⟨A',n',c',e,h1,h2,h3,h4,h5⟩:=h.shape
  injection e with e1 e2 e3
  subst e1 e2 e3
  exact ⟨h4,h2,h3,h5,h1⟩
theorem three_stored {B:Nat} {w0 w:World} {g i j l:Nat} {v1 v2 v3:Value} (h:Below B w0 w) (hg:B≤g):Below B w0 (((w.setCell ⟨g,i,none⟩ v1).setCell ⟨g,j,none⟩ v2).setCell ⟨g,l,none⟩ v3)∧(∀ k,k ≠ g→(((w.setCell ⟨g,i,none⟩ v1).setCell ⟨g,j,none⟩ v2).setCell ⟨g,l,none⟩ v3).heap[k]? = w.heap[k]?) :=
  ⟨((h.setCell hg _).setCell hg _).setCell hg _,fun k hk=>by repeat rw [heap_setCell_other _ _ k _ hk]⟩
set_option maxHeartbeats 16000000 in
theorem change_not (w:World) (o:Ov) (s:OS) (ho:OpIn w o s) (hf:formedV o = false):Calls Try.prog 124 #[.agg (opCells o s)] w (ChA w (noCh)):=by
  obtain ⟨z1,z2,z3,z4,z5⟩:=Top.three_new w (.cells (opCells o s) 52) (.cells zeroC 143) (.cells zeroC 143)
  obtain ⟨W3,hW3⟩:∃ W3,W3 = ((w.alloc (.cells (opCells o s) 52)).alloc (.cells zeroC 143)).alloc (.cells zeroC 143):=⟨_,rfl⟩
  rw [← hW3] at z1 z2 z3 z4 z5
  have z1':=Lib.hid z1
  have z2':=Lib.hid z2
  have z3':=Lib.hid z3
  have z4':=Lib.hid z4
  have z5':=Lib.hid z5
  have hfo:=Lib.hid (formed_any W3 o s (ho.below z4))
  have hop:=Lib.hid (fun (W:World) (hb:Below w.heap.size w W)=>ho.below hb)
  obtain ⟨o0,o1,o2,o3,o4,o5,o6,o7,o8,o9,o10⟩:=op_cells z1
  rw [hf] at hfo
  rw [hW3] at o0 o1 o2 o3 o4 o5 o6 o7 o8 o9 o10
  unfold opCells at hW3 hfo
  unfold zeroC at hW3
  unfold opCells
  clear ho z1 z2 z3 z4 z5
  go_enter Try.func124,Try.ntmps124
  go_wp2_with (go_at_call 151;(rw [← hW3];refine hfo.out.mono ?_;rintro e w1 ⟨rfl,hb1⟩;have B1:=Lib.hid hb1;have Y2:=Lib.hid ((hb1.block (w.heap.size + 1) (by have:=z5'.out;omega)).trans z2'.out);have Y3:=Lib.hid ((hb1.block (w.heap.size + 1 + 1) (by have:=z5'.out;omega)).trans z3'.out);have y1:=(hb1.block w.heap.size (by have:=z5'.out;omega)).trans z1'.out;have hl3:w.heap.size + 1 + 1 < w1.heap.size:=(Array.getElem?_eq_some_iff.1 Y3.out).1;clear hb1 o0 o1 o2 o3 o4 o5 o6 o7 o8 o9 o10;obtain ⟨o0,o1,o2,o3,o4,o5,o6,o7,o8,o9,o10⟩:=op_cells y1;skip;have y3:=Y3.out;have y2:=Y2.out;unfold zeroC at y2 y3;obtain ⟨c0,c1,c2,c3,c4,c5,cf⟩:=six_cells y3;obtain ⟨d0,d1,d2,d3,d4,d5,df⟩:=six_cells y2;clear y1 y2 y3))
  have hb9:=z4'.out.trans (B1.out.mono z4'.out.size)
  obtain ⟨W9,hW9,R9,B9,K9,Z9⟩:=end_ch (c:=noCh) (s:=noS) (r:=w.heap.size + 1) (by omega) hb9 Y2.out
  dsimp only [noCh,noS] at hW9
  rw [← hW9]
  unfold chCells at R9
  dsimp only [noCh,noS] at R9
  clear d0 d1 d2 d3 d4 d5 df
  obtain ⟨d0,d1,d2,d3,d4,d5,df⟩:=six_cells R9
  refine bodyPost_ret (v:=.agg (chCells (noCh) (noS))) (by simp [results,Try.results124,go_sem,d0,d1,d2,d3,d4,d5,chCells,noCh,noS]) rfl ?_
  exact ⟨_,rfl,ChIn.no _,B9⟩
set_option maxHeartbeats 16000000 in
theorem change_ins (w:World) (o:Ov) (s:OS) (ho:OpIn w o s) (hf:formedV o = true) (hk:o.kind = 1):Calls Try.prog 124 #[.agg (opCells o s)] w (ChA w (⟨false,[],0,true,o.path,o.at_⟩)):=by
  obtain ⟨z1,z2,z3,z4,z5⟩:=Top.three_new w (.cells (opCells o s) 52) (.cells zeroC 143) (.cells zeroC 143)
  obtain ⟨W3,hW3⟩:∃ W3,W3 = ((w.alloc (.cells (opCells o s) 52)).alloc (.cells zeroC 143)).alloc (.cells zeroC 143):=⟨_,rfl⟩
  rw [← hW3] at z1 z2 z3 z4 z5
  have z1':=Lib.hid z1
  have z2':=Lib.hid z2
  have z3':=Lib.hid z3
  have z4':=Lib.hid z4
  have z5':=Lib.hid z5
  have hfo:=Lib.hid (formed_any W3 o s (ho.below z4))
  have hop:=Lib.hid (fun (W:World) (hb:Below w.heap.size w W)=>ho.below hb)
  obtain ⟨o0,o1,o2,o3,o4,o5,o6,o7,o8,o9,o10⟩:=op_cells z1
  rw [hf] at hfo
  rw [hW3] at o0 o1 o2 o3 o4 o5 o6 o7 o8 o9 o10
  unfold opCells at hW3 hfo
  unfold zeroC at hW3
  unfold opCells
  have hkI:=Lib.hid (show (o.kind:Int) = 1 by omega)
  rw [hkI.out] at hW3 hfo o0 ⊢
  clear ho z1 z2 z3 z4 z5
  go_enter Try.func124,Try.ntmps124
  go_wp2_with (go_at_call 151;(rw [← hW3];refine hfo.out.mono ?_;rintro e w1 ⟨rfl,hb1⟩;have B1:=Lib.hid hb1;have Y2:=Lib.hid ((hb1.block (w.heap.size + 1) (by have:=z5'.out;omega)).trans z2'.out);have Y3:=Lib.hid ((hb1.block (w.heap.size + 1 + 1) (by have:=z5'.out;omega)).trans z3'.out);have y1:=(hb1.block w.heap.size (by have:=z5'.out;omega)).trans z1'.out;have hl3:w.heap.size + 1 + 1 < w1.heap.size:=(Array.getElem?_eq_some_iff.1 Y3.out).1;clear hb1 o0 o1 o2 o3 o4 o5 o6 o7 o8 o9 o10;obtain ⟨o0,o1,o2,o3,o4,o5,o6,o7,o8,o9,o10⟩:=op_cells y1;rw [hkI.out] at o0;have y3:=Y3.out;have y2:=Y2.out;unfold zeroC at y2 y3;obtain ⟨c0,c1,c2,c3,c4,c5,cf⟩:=six_cells y3;obtain ⟨d0,d1,d2,d3,d4,d5,df⟩:=six_cells y2;clear y1 y2 y3))
  rename_i K hK
  go_region
  refine hK _ _ ?_
  clear hK
  have hb9:=Lib.hid (z4'.out.trans (B1.out.mono z4'.out.size))
  obtain ⟨X,hX,q3q,q2q,qBq,qKq⟩:∃ Q9,Q9 = (((w1.setCell ⟨w.heap.size + 1 + 1,3,none⟩ (.bool true)).setCell ⟨w.heap.size + 1 + 1,4,none⟩ (.slice s.pA s.pn s.pc)).setCell ⟨w.heap.size + 1 + 1,5,none⟩ (.int .i64 o.at_)).drew∧Hid (Q9.heap[w.heap.size + 1 + 1]? = (((w1.setCell ⟨w.heap.size + 1 + 1,3,none⟩ (.bool true)).setCell ⟨w.heap.size + 1 + 1,4,none⟩ (.slice s.pA s.pn s.pc)).setCell ⟨w.heap.size + 1 + 1,5,none⟩ (.int .i64 o.at_)).heap[w.heap.size + 1 + 1]?)∧Hid (Q9.heap[w.heap.size + 1]? = (((w1.setCell ⟨w.heap.size + 1 + 1,3,none⟩ (.bool true)).setCell ⟨w.heap.size + 1 + 1,4,none⟩ (.slice s.pA s.pn s.pc)).setCell ⟨w.heap.size + 1 + 1,5,none⟩ (.int .i64 o.at_)).heap[w.heap.size + 1]?)∧Hid (Below w.heap.size w Q9)∧Hid (∀ k,k ≠ w.heap.size + 1 + 1→Q9.heap[k]? = w1.heap[k]?):=⟨_,rfl,Lib.hid rfl,Lib.hid rfl,Lib.hid (draws (three_stored hb9.out (by omega)).1 1),Lib.hid (three_stored hb9.out (by omega)).2⟩
  rw [← hX]
  have X3:=Lib.hid (q3q.out.trans (set_345 Y3.out))
  have X2:=Lib.hid (q2q.out.trans (((three_stored hb9.out (by omega)).2 _ (by omega)).trans Y2.out))
  have XB:=qBq
  have XK:=qKq
  clear q3q q2q qBq qKq hX
  have y3:=X3.out
  have y2:=X2.out
  clear c0 c1 c2 c3 c4 c5 cf d0 d1 d2 d3 d4 d5 df
  unfold zeroC at y2
  obtain ⟨c0,c1,c2,c3,c4,c5,cf⟩:=six_cells y3
  obtain ⟨d0,d1,d2,d3,d4,d5,df⟩:=six_cells y2
  clear y2 y3
  go_wp2_with fail
  obtain ⟨W9,hW9,R9,B9,K9,Z9⟩:=end_ch (c:=⟨false,[],0,true,o.path,o.at_⟩) (s:=⟨none,0,0,s.pA,s.pn,s.pc⟩) (r:=w.heap.size + 1) (by omega) XB.out X2.out
  dsimp only [noCh,noS] at hW9
  rw [← hW9]
  unfold chCells at R9
  dsimp only [noCh,noS] at R9
  clear d0 d1 d2 d3 d4 d5 df
  obtain ⟨d0,d1,d2,d3,d4,d5,df⟩:=six_cells R9
  refine bodyPost_ret (v:=.agg (chCells (⟨false,[],0,true,o.path,o.at_⟩) (⟨none,0,0,s.pA,s.pn,s.pc⟩))) (by simp [results,Try.results124,go_sem,d0,d1,d2,d3,d4,d5,chCells,noCh,noS]) rfl ?_
  exact ⟨_,rfl,(let hi:=hop.out W9 B9;⟨Its.none_ _,Nat.le_refl _,Nat.zero_le _,fun _=>rfl,Nat.zero_le _,hi.path,hi.pnc,hi.pcm,hi.pnil,hi.pfew⟩),B9⟩
set_option maxHeartbeats 16000000 in
theorem change_del (w:World) (o:Ov) (s:OS) (ho:OpIn w o s) (hf:formedV o = true) (hk:o.kind = 2) (q:List Int) (c:Nat) (hq:o.path = q ++ [(c:Int)]):Calls Try.prog 124 #[.agg (opCells o s)] w (ChA w (⟨true,q,(c:Int),false,[],0⟩)):=by
  obtain ⟨z1,z2,z3,z4,z5⟩:=Top.three_new w (.cells (opCells o s) 52) (.cells zeroC 143) (.cells zeroC 143)
  obtain ⟨W3,hW3⟩:∃ W3,W3 = ((w.alloc (.cells (opCells o s) 52)).alloc (.cells zeroC 143)).alloc (.cells zeroC 143):=⟨_,rfl⟩
  rw [← hW3] at z1 z2 z3 z4 z5
  have z1':=Lib.hid z1
  have z2':=Lib.hid z2
  have z3':=Lib.hid z3
  have z4':=Lib.hid z4
  have z5':=Lib.hid z5
  have hfo:=Lib.hid (formed_any W3 o s (ho.below z4))
  have hop:=Lib.hid (fun (W:World) (hb:Below w.heap.size w W)=>ho.below hb)
  obtain ⟨o0,o1,o2,o3,o4,o5,o6,o7,o8,o9,o10⟩:=op_cells z1
  rw [hf] at hfo
  rw [hW3] at o0 o1 o2 o3 o4 o5 o6 o7 o8 o9 o10
  unfold opCells at hW3 hfo
  unfold zeroC at hW3
  unfold opCells
  have hkI:=Lib.hid (show (o.kind:Int) = 2 by omega)
  have hpar:=Lib.hid (fun (W:World) (hb:Below w.heap.size w W)=>parent_o W s.pA s.pn s.pc q (c:Int) (hq ▸ (ho.below hb).path) ho.pnil ho.pfew ho.pnc ho.pcm)
  have hqf:=Lib.hid (show q.length≤500000 by have h1:=ho.path.1;have h2:=ho.pfew;rw [hq] at h1;simp at h1;omega)
  rw [hkI.out] at hW3 hfo o0 ⊢
  clear hq
  clear ho z1 z2 z3 z4 z5
  go_enter Try.func124,Try.ntmps124
  go_wp2_with (first | (go_at_call 151;(rw [← hW3];refine hfo.out.mono ?_;rintro e w1 ⟨rfl,hb1⟩;have B1:=Lib.hid hb1;have Y2:=Lib.hid ((hb1.block (w.heap.size + 1) (by have:=z5'.out;omega)).trans z2'.out);have Y3:=Lib.hid ((hb1.block (w.heap.size + 1 + 1) (by have:=z5'.out;omega)).trans z3'.out);have y1:=(hb1.block w.heap.size (by have:=z5'.out;omega)).trans z1'.out;have hl3:w.heap.size + 1 + 1 < w1.heap.size:=(Array.getElem?_eq_some_iff.1 Y3.out).1;clear hb1 o0 o1 o2 o3 o4 o5 o6 o7 o8 o9 o10;obtain ⟨o0,o1,o2,o3,o4,o5,o6,o7,o8,o9,o10⟩:=op_cells y1;rw [hkI.out] at o0;have y3:=Y3.out;have y2:=Y2.out;unfold zeroC at y2 y3;obtain ⟨c0,c1,c2,c3,c4,c5,cf⟩:=six_cells y3;obtain ⟨d0,d1,d2,d3,d4,d5,df⟩:=six_cells y2;have Y1:=Lib.hid y1;have hb9:=Lib.hid (z4'.out.trans (B1.out.mono z4'.out.size));clear y1 y2 y3)) | (go_at_call 164;(refine (hpar.out _ hb9.out).mono ?_;rintro e w3 ⟨qA,qn,qc,rfl,hi3,hb3⟩;have I3:=Lib.hid hi3;have B3:=Lib.hid (Below.trans (hb9.out) (hb3.mono (Below.size (hb9.out))));have T2:=Lib.hid ((hb3.block (w.heap.size + 1) (by first | omega | (simp;omega))).trans Y2.out);have T3:=Lib.hid ((hb3.block (w.heap.size + 1 + 1) (by first | omega | (simp;omega))).trans Y3.out);have y1:=(hb3.block w.heap.size (by first | omega | (simp;omega))).trans Y1.out;clear hb3 hi3 o0 o1 o2 o3 o4 o5 o6 o7 o8 o9 o10 c0 c1 c2 c3 c4 c5 cf d0 d1 d2 d3 d4 d5 df;have T1:=Lib.hid y1;obtain ⟨o0,o1,o2,o3,o4,o5,o6,o7,o8,o9,o10⟩:=op_cells y1;rw [hkI.out] at o0;have y3:=T3.out;have y2:=T2.out;unfold zeroC at y2 y3;obtain ⟨c0,c1,c2,c3,c4,c5,cf⟩:=six_cells y3;obtain ⟨d0,d1,d2,d3,d4,d5,df⟩:=six_cells y2;clear y1 y2 y3)))
  obtain ⟨X,hX,q3q,q2q,qBq,qKq⟩:∃ Q9,Q9 = (((w3.setCell ⟨w.heap.size + 1 + 1,1,none⟩ (.slice qA qn qc)).setCell ⟨w.heap.size + 1 + 1,2,none⟩ (.int .i64 (c:Int))).setCell ⟨w.heap.size + 1 + 1,0,none⟩ (.bool true))∧Hid (Q9.heap[w.heap.size + 1 + 1]? = (((w3.setCell ⟨w.heap.size + 1 + 1,1,none⟩ (.slice qA qn qc)).setCell ⟨w.heap.size + 1 + 1,2,none⟩ (.int .i64 (c:Int))).setCell ⟨w.heap.size + 1 + 1,0,none⟩ (.bool true)).heap[w.heap.size + 1 + 1]?)∧Hid (Q9.heap[w.heap.size + 1]? = (((w3.setCell ⟨w.heap.size + 1 + 1,1,none⟩ (.slice qA qn qc)).setCell ⟨w.heap.size + 1 + 1,2,none⟩ (.int .i64 (c:Int))).setCell ⟨w.heap.size + 1 + 1,0,none⟩ (.bool true)).heap[w.heap.size + 1]?)∧Hid (Below w.heap.size w Q9)∧Hid (∀ k,k ≠ w.heap.size + 1 + 1→Q9.heap[k]? = w3.heap[k]?):=⟨_,rfl,Lib.hid rfl,Lib.hid rfl,Lib.hid ((three_stored B3.out (by omega)).1),Lib.hid (three_stored B3.out (by omega)).2⟩
  rw [← hX]
  have X3:=Lib.hid (q3q.out.trans (set_120 T3.out))
  have X2:=Lib.hid (q2q.out.trans (((three_stored B3.out (by omega)).2 _ (by omega)).trans T2.out))
  have XB:=qBq
  have XK:=qKq
  clear q3q q2q qBq qKq hX
  have hl1:=hl3
  obtain ⟨W9,hW9,R9,B9,K9,Z9⟩:=end_ch (c:=⟨true,q,(c:Int),false,[],0⟩) (s:=⟨qA,qn,qc,none,0,0⟩) (r:=w.heap.size + 1) (by omega) XB.out X2.out
  dsimp only [noCh,noS] at hW9
  rw [← hW9]
  unfold chCells at R9
  dsimp only [noCh,noS] at R9
  clear d0 d1 d2 d3 d4 d5 df
  obtain ⟨d0,d1,d2,d3,d4,d5,df⟩:=six_cells R9
  refine bodyPost_ret (v:=.agg (chCells (⟨true,q,(c:Int),false,[],0⟩) (⟨qA,qn,qc,none,0,0⟩))) (by simp [results,Try.results124,go_sem,d0,d1,d2,d3,d4,d5,chCells,noCh,noS]) rfl ?_
  exact ⟨_,rfl,(let hi:=own_facts (Top.own_kept I3.out (w':=W9) fun k hk1 hk2=>(K9 k (by omega)).trans ((XK.out k (by omega))));⟨hi.1,hi.2.1,hi.2.2.1,hi.2.2.2.1,show qn≤500000 by have:=hi.2.2.2.2;have:=hqf.out;omega,Its.none_ _,Nat.le_refl _,Nat.zero_le _,fun _=>rfl,Nat.zero_le _⟩),B9⟩
set_option maxHeartbeats 16000000 in
theorem change_root (w:World) (o:Ov) (s:OS) (ho:OpIn w o s) (hf:formedV o = true) (hk:o.kind = 2) (hq:o.path = []):Calls Try.prog 124 #[.agg (opCells o s)] w (ChA w (noCh)):=by
  obtain ⟨z1,z2,z3,z4,z5⟩:=Top.three_new w (.cells (opCells o s) 52) (.cells zeroC 143) (.cells zeroC 143)
  obtain ⟨W3,hW3⟩:∃ W3,W3 = ((w.alloc (.cells (opCells o s) 52)).alloc (.cells zeroC 143)).alloc (.cells zeroC 143):=⟨_,rfl⟩
  rw [← hW3] at z1 z2 z3 z4 z5
  have z1':=Lib.hid z1
  have z2':=Lib.hid z2
  have z3':=Lib.hid z3
  have z4':=Lib.hid z4
  have z5':=Lib.hid z5
  have hfo:=Lib.hid (formed_any W3 o s (ho.below z4))
  have hop:=Lib.hid (fun (W:World) (hb:Below w.heap.size w W)=>ho.below hb)
  obtain ⟨o0,o1,o2,o3,o4,o5,o6,o7,o8,o9,o10⟩:=op_cells z1
  rw [hf] at hfo
  rw [hW3] at o0 o1 o2 o3 o4 o5 o6 o7 o8 o9 o10
  unfold opCells at hW3 hfo
  unfold zeroC at hW3
  unfold opCells
  have hkI:=Lib.hid (show (o.kind:Int) = 2 by omega)
  have hpar:=Lib.hid (fun (W:World) (hb:Below w.heap.size w W)=>Sim.parent_nil W s.pA s.pn s.pc (hq ▸ (ho.below hb).path) ho.pnil ho.pfew ho.pnc ho.pcm)
  rw [hkI.out] at hW3 hfo o0 ⊢
  clear hq
  clear ho z1 z2 z3 z4 z5
  go_enter Try.func124,Try.ntmps124
  go_wp2_with (first | (go_at_call 151;(rw [← hW3];refine hfo.out.mono ?_;rintro e w1 ⟨rfl,hb1⟩;have B1:=Lib.hid hb1;have Y2:=Lib.hid ((hb1.block (w.heap.size + 1) (by have:=z5'.out;omega)).trans z2'.out);have Y3:=Lib.hid ((hb1.block (w.heap.size + 1 + 1) (by have:=z5'.out;omega)).trans z3'.out);have y1:=(hb1.block w.heap.size (by have:=z5'.out;omega)).trans z1'.out;have hl3:w.heap.size + 1 + 1 < w1.heap.size:=(Array.getElem?_eq_some_iff.1 Y3.out).1;clear hb1 o0 o1 o2 o3 o4 o5 o6 o7 o8 o9 o10;obtain ⟨o0,o1,o2,o3,o4,o5,o6,o7,o8,o9,o10⟩:=op_cells y1;rw [hkI.out] at o0;have y3:=Y3.out;have y2:=Y2.out;unfold zeroC at y2 y3;obtain ⟨c0,c1,c2,c3,c4,c5,cf⟩:=six_cells y3;obtain ⟨d0,d1,d2,d3,d4,d5,df⟩:=six_cells y2;have Y1:=Lib.hid y1;have hb9:=Lib.hid (z4'.out.trans (B1.out.mono z4'.out.size));clear y1 y2 y3)) | (go_at_call 164;(refine (hpar.out _ hb9.out).mono ?_;rintro e w3 ⟨rfl,hb3⟩;have B3:=Lib.hid (hb9.out.trans (hb3.mono hb9.out.size));have T2:=Lib.hid ((hb3.block (w.heap.size + 1) (by first | omega | (simp;omega))).trans Y2.out);have T3:=Lib.hid ((hb3.block (w.heap.size + 1 + 1) (by first | omega | (simp;omega))).trans Y3.out);have y1:=(hb3.block w.heap.size (by first | omega | (simp;omega))).trans Y1.out;clear hb3 o0 o1 o2 o3 o4 o5 o6 o7 o8 o9 o10 c0 c1 c2 c3 c4 c5 cf d0 d1 d2 d3 d4 d5 df;obtain ⟨o0,o1,o2,o3,o4,o5,o6,o7,o8,o9,o10⟩:=op_cells y1;rw [hkI.out] at o0;have y3:=T3.out;have y2:=T2.out;unfold zeroC at y2 y3;obtain ⟨c0,c1,c2,c3,c4,c5,cf⟩:=six_cells y3;obtain ⟨d0,d1,d2,d3,d4,d5,df⟩:=six_cells y2;clear y1 y2 y3)))
  obtain ⟨X,hX,q3q,q2q,qBq,qKq⟩:∃ Q9,Q9 = (((w3.setCell ⟨w.heap.size + 1 + 1,1,none⟩ (.slice none 0 0)).setCell ⟨w.heap.size + 1 + 1,2,none⟩ (.int .i64 0)).setCell ⟨w.heap.size + 1 + 1,0,none⟩ (.bool false))∧Hid (Q9.heap[w.heap.size + 1 + 1]? = (((w3.setCell ⟨w.heap.size + 1 + 1,1,none⟩ (.slice none 0 0)).setCell ⟨w.heap.size + 1 + 1,2,none⟩ (.int .i64 0)).setCell ⟨w.heap.size + 1 + 1,0,none⟩ (.bool false)).heap[w.heap.size + 1 + 1]?)∧Hid (Q9.heap[w.heap.size + 1]? = (((w3.setCell ⟨w.heap.size + 1 + 1,1,none⟩ (.slice none 0 0)).setCell ⟨w.heap.size + 1 + 1,2,none⟩ (.int .i64 0)).setCell ⟨w.heap.size + 1 + 1,0,none⟩ (.bool false)).heap[w.heap.size + 1]?)∧Hid (Below w.heap.size w Q9)∧Hid (∀ k,k ≠ w.heap.size + 1 + 1→Q9.heap[k]? = w3.heap[k]?):=⟨_,rfl,Lib.hid rfl,Lib.hid rfl,Lib.hid ((three_stored B3.out (by omega)).1),Lib.hid (three_stored B3.out (by omega)).2⟩
  rw [← hX]
  have X3:=Lib.hid (q3q.out.trans (set_120 T3.out))
  have X2:=Lib.hid (q2q.out.trans (((three_stored B3.out (by omega)).2 _ (by omega)).trans T2.out))
  have XB:=qBq
  have XK:=qKq
  clear q3q q2q qBq qKq hX
  have hl1:=hl3
  obtain ⟨W9,hW9,R9,B9,K9,Z9⟩:=end_ch (c:=noCh) (s:=noS) (r:=w.heap.size + 1) (by omega) XB.out X2.out
  dsimp only [noCh,noS] at hW9
  rw [← hW9]
  unfold chCells at R9
  dsimp only [noCh,noS] at R9
  clear d0 d1 d2 d3 d4 d5 df
  obtain ⟨d0,d1,d2,d3,d4,d5,df⟩:=six_cells R9
  refine bodyPost_ret (v:=.agg (chCells (noCh) (noS))) (by simp [results,Try.results124,go_sem,d0,d1,d2,d3,d4,d5,chCells,noCh,noS]) rfl ?_
  exact ⟨_,rfl,ChIn.no _,B9⟩
set_option maxHeartbeats 16000000 in
theorem change_self (w:World) (o:Ov) (s:OS) (ho:OpIn w o s) (hf:formedV o = true) (hk:o.kind = 3) (hw:P4.withinV o.path o.to_ = true):Calls Try.prog 124 #[.agg (opCells o s)] w (ChA w (noCh)):=by
  obtain ⟨z1,z2,z3,z4,z5⟩:=Top.three_new w (.cells (opCells o s) 52) (.cells zeroC 143) (.cells zeroC 143)
  obtain ⟨W3,hW3⟩:∃ W3,W3 = ((w.alloc (.cells (opCells o s) 52)).alloc (.cells zeroC 143)).alloc (.cells zeroC 143):=⟨_,rfl⟩
  rw [← hW3] at z1 z2 z3 z4 z5
  have z1':=Lib.hid z1
  have z2':=Lib.hid z2
  have z3':=Lib.hid z3
  have z4':=Lib.hid z4
  have z5':=Lib.hid z5
  have hfo:=Lib.hid (formed_any W3 o s (ho.below z4))
  have hop:=Lib.hid (fun (W:World) (hb:Below w.heap.size w W)=>ho.below hb)
  obtain ⟨o0,o1,o2,o3,o4,o5,o6,o7,o8,o9,o10⟩:=op_cells z1
  rw [hf] at hfo
  rw [hW3] at o0 o1 o2 o3 o4 o5 o6 o7 o8 o9 o10
  unfold opCells at hW3 hfo
  unfold zeroC at hW3
  unfold opCells
  have hkI:=Lib.hid (show (o.kind:Int) = 3 by omega)
  have hwi:=Lib.hid (fun (W:World) (hb:Below w.heap.size w W)=>P4.within_any W s.pA s.tA s.pn s.pc s.tn s.tc o.path o.to_ (its4 (ho.below hb).path) (its4 (ho.below hb).to_) (Nat.le_trans ho.pnc ho.pcm) (Nat.le_trans ho.tnc ho.tcm))
  rw [hw] at hwi
  rw [hkI.out] at hW3 hfo o0 ⊢
  clear hw
  clear ho z1 z2 z3 z4 z5
  go_enter Try.func124,Try.ntmps124
  go_wp2_with (first | (go_at_call 151;(rw [← hW3];refine hfo.out.mono ?_;rintro e w1 ⟨rfl,hb1⟩;have B1:=Lib.hid hb1;have Y2:=Lib.hid ((hb1.block (w.heap.size + 1) (by have:=z5'.out;omega)).trans z2'.out);have Y3:=Lib.hid ((hb1.block (w.heap.size + 1 + 1) (by have:=z5'.out;omega)).trans z3'.out);have y1:=(hb1.block w.heap.size (by have:=z5'.out;omega)).trans z1'.out;have hl3:w.heap.size + 1 + 1 < w1.heap.size:=(Array.getElem?_eq_some_iff.1 Y3.out).1;clear hb1 o0 o1 o2 o3 o4 o5 o6 o7 o8 o9 o10;obtain ⟨o0,o1,o2,o3,o4,o5,o6,o7,o8,o9,o10⟩:=op_cells y1;rw [hkI.out] at o0;have y3:=Y3.out;have y2:=Y2.out;unfold zeroC at y2 y3;obtain ⟨c0,c1,c2,c3,c4,c5,cf⟩:=six_cells y3;obtain ⟨d0,d1,d2,d3,d4,d5,df⟩:=six_cells y2;have Y1:=Lib.hid y1;have hb9:=Lib.hid (z4'.out.trans (B1.out.mono z4'.out.size));clear y1 y2 y3)) | (go_at_call 165;(refine (hwi.out _ hb9.out).mono ?_;rintro e w2 ⟨rfl,k2,rfl⟩)))
  have hb8:=draws hb9.out k2
  have hl1:=hl3
  obtain ⟨W9,hW9,R9,B9,K9,Z9⟩:=end_ch (c:=noCh) (s:=noS) (r:=w.heap.size + 1) (by omega) hb8 Y2.out
  dsimp only [noCh,noS] at hW9
  rw [← hW9]
  unfold chCells at R9
  dsimp only [noCh,noS] at R9
  clear d0 d1 d2 d3 d4 d5 df
  obtain ⟨d0,d1,d2,d3,d4,d5,df⟩:=six_cells R9
  refine bodyPost_ret (v:=.agg (chCells (noCh) (noS))) (by simp [results,Try.results124,go_sem,d0,d1,d2,d3,d4,d5,chCells,noCh,noS]) rfl ?_
  exact ⟨_,rfl,ChIn.no _,B9⟩
set_option maxHeartbeats 16000000 in
theorem change_move (w:World) (o:Ov) (s:OS) (ho:OpIn w o s) (hf:formedV o = true) (hk:o.kind = 3) (hw:P4.withinV o.path o.to_ = false) (q:List Int) (c:Nat) (hq:o.path = q ++ [(c:Int)]):Calls Try.prog 124 #[.agg (opCells o s)] w (ChA w (⟨true,q,(c:Int),true,o.to_,o.at_⟩)):=by
  obtain ⟨z1,z2,z3,z4,z5⟩:=Top.three_new w (.cells (opCells o s) 52) (.cells zeroC 143) (.cells zeroC 143)
  obtain ⟨W3,hW3⟩:∃ W3,W3 = ((w.alloc (.cells (opCells o s) 52)).alloc (.cells zeroC 143)).alloc (.cells zeroC 143):=⟨_,rfl⟩
  rw [← hW3] at z1 z2 z3 z4 z5
  have z1':=Lib.hid z1
  have z2':=Lib.hid z2
  have z3':=Lib.hid z3
  have z4':=Lib.hid z4
  have z5':=Lib.hid z5
  have hfo:=Lib.hid (formed_any W3 o s (ho.below z4))
  have hop:=Lib.hid (fun (W:World) (hb:Below w.heap.size w W)=>ho.below hb)
  obtain ⟨o0,o1,o2,o3,o4,o5,o6,o7,o8,o9,o10⟩:=op_cells z1
  rw [hf] at hfo
  rw [hW3] at o0 o1 o2 o3 o4 o5 o6 o7 o8 o9 o10
  unfold opCells at hW3 hfo
  unfold zeroC at hW3
  unfold opCells
  have hkI:=Lib.hid (show (o.kind:Int) = 3 by omega)
  have hwi:=Lib.hid (fun (W:World) (hb:Below w.heap.size w W)=>P4.within_any W s.pA s.tA s.pn s.pc s.tn s.tc o.path o.to_ (its4 (ho.below hb).path) (its4 (ho.below hb).to_) (Nat.le_trans ho.pnc ho.pcm) (Nat.le_trans ho.tnc ho.tcm))
  rw [hw] at hwi
  have hpar:=Lib.hid (fun (W:World) (hb:Below w.heap.size w W)=>parent_o W s.pA s.pn s.pc q (c:Int) (hq ▸ (ho.below hb).path) ho.pnil ho.pfew ho.pnc ho.pcm)
  have hqf:=Lib.hid (show q.length≤500000 by have h1:=ho.path.1;have h2:=ho.pfew;rw [hq] at h1;simp at h1;omega)
  rw [hkI.out] at hW3 hfo o0 ⊢
  clear hw hq
  clear ho z1 z2 z3 z4 z5
  go_enter Try.func124,Try.ntmps124
  go_wp2_with (first | (go_at_call 151;(rw [← hW3];refine hfo.out.mono ?_;rintro e w1 ⟨rfl,hb1⟩;have B1:=Lib.hid hb1;have Y2:=Lib.hid ((hb1.block (w.heap.size + 1) (by have:=z5'.out;omega)).trans z2'.out);have Y3:=Lib.hid ((hb1.block (w.heap.size + 1 + 1) (by have:=z5'.out;omega)).trans z3'.out);have y1:=(hb1.block w.heap.size (by have:=z5'.out;omega)).trans z1'.out;have hl3:w.heap.size + 1 + 1 < w1.heap.size:=(Array.getElem?_eq_some_iff.1 Y3.out).1;clear hb1 o0 o1 o2 o3 o4 o5 o6 o7 o8 o9 o10;obtain ⟨o0,o1,o2,o3,o4,o5,o6,o7,o8,o9,o10⟩:=op_cells y1;rw [hkI.out] at o0;have y3:=Y3.out;have y2:=Y2.out;unfold zeroC at y2 y3;obtain ⟨c0,c1,c2,c3,c4,c5,cf⟩:=six_cells y3;obtain ⟨d0,d1,d2,d3,d4,d5,df⟩:=six_cells y2;have Y1:=Lib.hid y1;have hb9:=Lib.hid (z4'.out.trans (B1.out.mono z4'.out.size));clear y1 y2 y3)) | (go_at_call 165;(refine (hwi.out _ hb9.out).mono ?_;rintro e w2 ⟨rfl,k2,rfl⟩)) | (go_at_call 164;(refine (hpar.out _ (draws hb9.out k2)).mono ?_;rintro e w3 ⟨qA,qn,qc,rfl,hi3,hb3⟩;have I3:=Lib.hid hi3;have B3:=Lib.hid (Below.trans (draws hb9.out k2) (hb3.mono (Below.size (draws hb9.out k2))));have T2:=Lib.hid ((hb3.block (w.heap.size + 1) (by first | omega | (simp;omega))).trans Y2.out);have T3:=Lib.hid ((hb3.block (w.heap.size + 1 + 1) (by first | omega | (simp;omega))).trans Y3.out);have y1:=(hb3.block w.heap.size (by first | omega | (simp;omega))).trans Y1.out;clear hb3 hi3 o0 o1 o2 o3 o4 o5 o6 o7 o8 o9 o10 c0 c1 c2 c3 c4 c5 cf d0 d1 d2 d3 d4 d5 df;have T1:=Lib.hid y1;obtain ⟨o0,o1,o2,o3,o4,o5,o6,o7,o8,o9,o10⟩:=op_cells y1;rw [hkI.out] at o0;have y3:=T3.out;have y2:=T2.out;unfold zeroC at y2 y3;obtain ⟨c0,c1,c2,c3,c4,c5,cf⟩:=six_cells y3;obtain ⟨d0,d1,d2,d3,d4,d5,df⟩:=six_cells y2;clear y1 y2 y3)))
  rename_i K hK
  obtain ⟨X,hX,q3q,q2q,qBq,qKq⟩:∃ Q9,Q9 = (((w3.setCell ⟨w.heap.size + 1 + 1,1,none⟩ (.slice qA qn qc)).setCell ⟨w.heap.size + 1 + 1,2,none⟩ (.int .i64 (c:Int))).setCell ⟨w.heap.size + 1 + 1,0,none⟩ (.bool true))∧Hid (Q9.heap[w.heap.size + 1 + 1]? = (((w3.setCell ⟨w.heap.size + 1 + 1,1,none⟩ (.slice qA qn qc)).setCell ⟨w.heap.size + 1 + 1,2,none⟩ (.int .i64 (c:Int))).setCell ⟨w.heap.size + 1 + 1,0,none⟩ (.bool true)).heap[w.heap.size + 1 + 1]?)∧Hid (Q9.heap[w.heap.size + 1]? = (((w3.setCell ⟨w.heap.size + 1 + 1,1,none⟩ (.slice qA qn qc)).setCell ⟨w.heap.size + 1 + 1,2,none⟩ (.int .i64 (c:Int))).setCell ⟨w.heap.size + 1 + 1,0,none⟩ (.bool true)).heap[w.heap.size + 1]?)∧Hid (Below w.heap.size w Q9)∧Hid (∀ k,k ≠ w.heap.size + 1 + 1→Q9.heap[k]? = w3.heap[k]?):=⟨_,rfl,Lib.hid rfl,Lib.hid rfl,Lib.hid ((three_stored B3.out (by omega)).1),Lib.hid (three_stored B3.out (by omega)).2⟩
  rw [← hX]
  have X3:=Lib.hid (q3q.out.trans (set_120 T3.out))
  have X2:=Lib.hid (q2q.out.trans (((three_stored B3.out (by omega)).2 _ (by omega)).trans T2.out))
  have XB:=qBq
  have XK:=qKq
  clear q3q q2q qBq qKq hX
  have y3:=X3.out
  have y2:=X2.out
  clear c0 c1 c2 c3 c4 c5 cf d0 d1 d2 d3 d4 d5 df
  unfold zeroC at y2
  obtain ⟨c0,c1,c2,c3,c4,c5,cf⟩:=six_cells y3
  obtain ⟨d0,d1,d2,d3,d4,d5,df⟩:=six_cells y2
  clear y2 y3
  clear o0 o1 o2 o3 o4 o5 o6 o7 o8 o9 o10
  obtain ⟨o0,o1,o2,o3,o4,o5,o6,o7,o8,o9,o10⟩:=op_cells ((XK.out w.heap.size (by omega)).trans T1.out)
  rw [hkI.out] at o0
  go_region
  refine hK _ _ ?_
  clear hK
  obtain ⟨Z,hZ,q3q,q2q,qBq,qKq⟩:∃ Q9,Q9 = (((X.setCell ⟨w.heap.size + 1 + 1,3,none⟩ (.bool true)).setCell ⟨w.heap.size + 1 + 1,4,none⟩ (.slice s.tA s.tn s.tc)).setCell ⟨w.heap.size + 1 + 1,5,none⟩ (.int .i64 o.at_)).drew∧Hid (Q9.heap[w.heap.size + 1 + 1]? = (((X.setCell ⟨w.heap.size + 1 + 1,3,none⟩ (.bool true)).setCell ⟨w.heap.size + 1 + 1,4,none⟩ (.slice s.tA s.tn s.tc)).setCell ⟨w.heap.size + 1 + 1,5,none⟩ (.int .i64 o.at_)).heap[w.heap.size + 1 + 1]?)∧Hid (Q9.heap[w.heap.size + 1]? = (((X.setCell ⟨w.heap.size + 1 + 1,3,none⟩ (.bool true)).setCell ⟨w.heap.size + 1 + 1,4,none⟩ (.slice s.tA s.tn s.tc)).setCell ⟨w.heap.size + 1 + 1,5,none⟩ (.int .i64 o.at_)).heap[w.heap.size + 1]?)∧Hid (Below w.heap.size w Q9)∧Hid (∀ k,k ≠ w.heap.size + 1 + 1→Q9.heap[k]? = X.heap[k]?):=⟨_,rfl,Lib.hid rfl,Lib.hid rfl,Lib.hid (draws (three_stored XB.out (by omega)).1 1),Lib.hid (three_stored XB.out (by omega)).2⟩
  rw [← hZ]
  have Z3:=Lib.hid (q3q.out.trans (set_345 X3.out))
  have Z2:=Lib.hid (q2q.out.trans (((three_stored XB.out (by omega)).2 _ (by omega)).trans X2.out))
  have ZB:=qBq
  have ZK:=qKq
  clear q3q q2q qBq qKq hZ
  have y3:=Z3.out
  have y2:=Z2.out
  clear c0 c1 c2 c3 c4 c5 cf d0 d1 d2 d3 d4 d5 df
  unfold zeroC at y2
  obtain ⟨c0,c1,c2,c3,c4,c5,cf⟩:=six_cells y3
  obtain ⟨d0,d1,d2,d3,d4,d5,df⟩:=six_cells y2
  clear y2 y3
  have hl1:=hl3
  go_wp2_with fail
  obtain ⟨W9,hW9,R9,B9,K9,Z9⟩:=end_ch (c:=⟨true,q,(c:Int),true,o.to_,o.at_⟩) (s:=⟨qA,qn,qc,s.tA,s.tn,s.tc⟩) (r:=w.heap.size + 1) (by omega) ZB.out Z2.out
  dsimp only [noCh,noS] at hW9
  rw [← hW9]
  unfold chCells at R9
  dsimp only [noCh,noS] at R9
  clear d0 d1 d2 d3 d4 d5 df
  obtain ⟨d0,d1,d2,d3,d4,d5,df⟩:=six_cells R9
  refine bodyPost_ret (v:=.agg (chCells (⟨true,q,(c:Int),true,o.to_,o.at_⟩) (⟨qA,qn,qc,s.tA,s.tn,s.tc⟩))) (by simp [results,Try.results124,go_sem,d0,d1,d2,d3,d4,d5,chCells,noCh,noS]) rfl ?_
  exact ⟨_,rfl,(let hi:=own_facts (Top.own_kept I3.out (w':=W9) fun k hk1 hk2=>(K9 k (by first | omega | (simp at hk1;omega))).trans ((ZK.out k (by first | omega | (simp at hk1;omega))).trans (XK.out k (by first | omega | (simp at hk1;omega)))));let ht:=hop.out W9 B9;⟨hi.1,hi.2.1,hi.2.2.1,hi.2.2.2.1,show qn≤500000 by have:=hi.2.2.2.2;have:=hqf.out;omega,ht.to_,ht.tnc,ht.tcm,ht.tnil,ht.tfew⟩),B9⟩
set_option maxHeartbeats 16000000 in
theorem change_else (w:World) (o:Ov) (s:OS) (ho:OpIn w o s) (hf:formedV o = true) (k1:o.kind ≠ 1) (k2:o.kind ≠ 2) (k3:o.kind ≠ 3):Calls Try.prog 124 #[.agg (opCells o s)] w (ChA w noCh):=by
  obtain ⟨z1,z2,z3,z4,z5⟩:=Top.three_new w (.cells (opCells o s) 52) (.cells zeroC 143) (.cells zeroC 143)
  obtain ⟨W3,hW3⟩:∃ W3,W3 = ((w.alloc (.cells (opCells o s) 52)).alloc (.cells zeroC 143)).alloc (.cells zeroC 143):=⟨_,rfl⟩
  rw [← hW3] at z1 z2 z3 z4 z5
  have z1':=Lib.hid z1
  have z2':=Lib.hid z2
  have z3':=Lib.hid z3
  have z4':=Lib.hid z4
  have z5':=Lib.hid z5
  have hfo:=Lib.hid (formed_any W3 o s (ho.below z4))
  have hop:=Lib.hid (fun (W:World) (hb:Below w.heap.size w W)=>ho.below hb)
  obtain ⟨o0,o1,o2,o3,o4,o5,o6,o7,o8,o9,o10⟩:=op_cells z1
  rw [hf] at hfo
  rw [hW3] at o0 o1 o2 o3 o4 o5 o6 o7 o8 o9 o10
  unfold opCells at hW3 hfo
  unfold zeroC at hW3
  unfold opCells
  have e1:((o.kind:Int) == 1) = false:=by simp;omega
  have e2:((o.kind:Int) == 2) = false:=by simp;omega
  have e3:((o.kind:Int) == 3) = false:=by simp;omega
  clear k1 k2 k3
  clear ho z1 z2 z3 z4 z5
  go_enter Try.func124,Try.ntmps124
  go_wp2_with (go_at_call 151;(rw [← hW3];refine hfo.out.mono ?_;rintro e w1 ⟨rfl,hb1⟩;have B1:=Lib.hid hb1;have Y2:=Lib.hid ((hb1.block (w.heap.size + 1) (by have:=z5'.out;omega)).trans z2'.out);have Y3:=Lib.hid ((hb1.block (w.heap.size + 1 + 1) (by have:=z5'.out;omega)).trans z3'.out);have y1:=(hb1.block w.heap.size (by have:=z5'.out;omega)).trans z1'.out;have hl3:w.heap.size + 1 + 1 < w1.heap.size:=(Array.getElem?_eq_some_iff.1 Y3.out).1;clear hb1 o0 o1 o2 o3 o4 o5 o6 o7 o8 o9 o10;obtain ⟨o0,o1,o2,o3,o4,o5,o6,o7,o8,o9,o10⟩:=op_cells y1;skip;have y3:=Y3.out;have y2:=Y2.out;unfold zeroC at y2 y3;obtain ⟨c0,c1,c2,c3,c4,c5,cf⟩:=six_cells y3;obtain ⟨d0,d1,d2,d3,d4,d5,df⟩:=six_cells y2;clear y1 y2 y3))
  have hb9:=z4'.out.trans (B1.out.mono z4'.out.size)
  obtain ⟨W9,hW9,R9,B9,K9,Z9⟩:=end_ch (c:=noCh) (s:=noS) (r:=w.heap.size + 1) (by omega) hb9 Y2.out
  dsimp only [noCh,noS] at hW9
  rw [← hW9]
  unfold chCells at R9
  dsimp only [noCh,noS] at R9
  clear d0 d1 d2 d3 d4 d5 df
  obtain ⟨d0,d1,d2,d3,d4,d5,df⟩:=six_cells R9
  refine bodyPost_ret (v:=.agg (chCells (noCh) (noS))) (by simp [results,Try.results124,go_sem,d0,d1,d2,d3,d4,d5,chCells,noCh,noS]) rfl ?_
  exact ⟨_,rfl,ChIn.no _,B9⟩
theorem changeOf_any (w:World) (o:Ov) (s:OS) (ho:OpIn w o s):Calls Try.prog 124 #[.agg (opCells o s)] w (ChA w (chV o)):=by
  cases hf:formedV o with
  | false =>
    rw [show chV o = noCh by unfold chV;rw [hf];rfl]
    exact change_not w o s ho hf
  | true =>
    have hm:=Sim.formed_may hf
    by_cases k1:o.kind = 1
    · rw [show chV o = ⟨false,[],0,true,o.path,o.at_⟩ by unfold chV;rw [if_pos hf,if_pos k1]]
      exact change_ins w o s ho hf k1
    · by_cases k2:o.kind = 2
      · by_cases hp:o.path = []
        · rw [show chV o = noCh by unfold chV;rw [if_pos hf,if_neg k1,if_pos k2,if_pos hp]]
          exact change_root w o s ho hf k2 hp
        · obtain ⟨q,c,hq⟩:=Sim.path_end hp hm
          rw [show chV o = ⟨true,q,(c:Int),false,[],0⟩ by unfold chV;rw [if_pos hf,if_neg k1,if_pos k2,if_neg hp,hq,List.dropLast_concat,List.getLastD_concat]]
          exact change_del w o s ho hf k2 q c hq
      · by_cases k3:o.kind = 3
        · cases hw:P4.withinV o.path o.to_ with
          | true =>
            rw [show chV o = noCh by unfold chV;rw [if_pos hf,if_neg k1,if_neg k2,if_pos k3,if_pos hw]]
            exact change_self w o s ho hf k3 hw
          | false =>
            have hp:o.path ≠ []:=by
              intro e
              rw [e] at hw
              unfold P4.withinV at hw
              exact absurd hw (by cases o.to_ <;> simp [P4.commonV])
            obtain ⟨q,c,hq⟩:=Sim.path_end hp hm
            rw [show chV o = ⟨true,q,(c:Int),true,o.to_,o.at_⟩ by unfold chV;rw [if_pos hf,if_neg k1,if_neg k2,if_pos k3,if_neg (by rw [hw];simp),hq,List.dropLast_concat,List.getLastD_concat]]
            exact change_move w o s ho hf k3 hw q c hq
        · rw [show chV o = noCh by unfold chV;rw [if_pos hf,if_neg k1,if_neg k2,if_neg k3]]
          exact change_else w o s ho hf k1 k2 k3
end Go.Proofs.Ytidimannfemnmaa.Shf
namespace Go.Proofs.Ytidimannfemnmaa.Shf
open Go.RowKit Top
set_option maxRecDepth 20000

def NodeA (w:World) (r:Option (List Int)) (e:Ending) (w':World):Prop :=
  (r = none∧e = .returned (.tuple #[.slice none 0 0,.bool false])∧Below w.heap.size w w') ∨
  (∃ v xs,r = some xs∧e = .returned (.tuple #[v,.bool true])∧P4.OwnI w.heap.size w' v xs∧Below w.heap.size w w')
theorem plainR_len (c:Ch):∀ l:List Int,(plainR c l).length = l.length
  | []=>rfl
  | k :: r=>by rw [plainR,List.length_append,plainR_len c r];rfl
theorem toV_len (c:Ch):(toV c).length = c.to_.length:=by unfold toV;rw [plainR_len,List.length_reverse]
theorem nodeR_len (c:Ch):∀ (l xs:List Int),nodeR c l = some xs→xs.length≤l.length + c.to_.length + 1
  | [],xs,h=>by
    simp only [nodeR,Option.some.injEq] at h
    subst h
    simp
  | k :: r,xs,h=>by
    rw [nodeR] at h
    split at h
    · split at h
      · injection h with h
        rw [← h,List.length_append,toV_len]
        simp only [List.length_cons,List.length_nil]
        omega
      · cases h
    · cases hr:nodeR c r with
      | none=>rw [hr] at h;cases h
      | some ys =>
        rw [hr] at h
        injection h with h
        have:=nodeR_len c r ys hr
        rw [← h]
        simp only [List.length_append,List.length_cons,List.length_nil]
        omega
theorem nodeV_len {c:Ch} {p xs:List Int} (h:nodeV c p = some xs):xs.length≤p.length + c.to_.length + 1:=by
  have:=nodeR_len c _ _ h
  rwa [List.length_reverse] at this
theorem none_more (c:Ch) (hp:c.puts = false):∀ (s q:List Int),nodeV c q = none→nodeV c (q ++ s) = none
  | [],q,h=>by rw [List.append_nil];exact h
  | k :: s,q,h=>by
    rw [← List.singleton_append,← List.append_assoc]
    refine none_more c hp s _ ?_
    rw [nodeV_snoc,hp,h]
    split <;> rfl
set_option maxHeartbeats 16000000 in
theorem node_walk (w:World) (c:Ch) (s:CS) (A:Option Addr) (n cp:Nat) (p:List Int) (hc:ChIn w c s) (hA:Its w A n p) (hn:n≤cp) (hcp:cp≤maxLen) (hfew:n≤400000)
    (hto:(∃ q k r,p = q ++ k :: r∧hitV c q k = true)→c.puts = true→∀ W,Below w.heap.size w W→Calls Try.prog 125 #[.agg (chCells c s),.slice s.tA s.tn s.tc] W (fun e w'=>∃ v,e = .returned (.tuple #[v,.bool true])∧P4.OwnI W.heap.size w' v (toV c)∧Below W.heap.size W w')) :
    Calls Try.prog 125 #[.agg (chCells c s),.slice A n cp] w (NodeA w (nodeV c p)):=by
  obtain ⟨W2,hW2⟩:∃ W2,W2 = w.alloc (.cells (chCells c s) 143):=⟨_,rfl⟩
  have z1:W2.heap[w.heap.size]? = some (.cells (chCells c s) 143 (0,0)):=by rw [hW2];exact heap_alloc_new w _
  have z4':=Lib.hid (show Below w.heap.size w W2 by rw [hW2];exact (Below.refl _ _).alloc (Nat.le_refl _) _)
  have z5':=Lib.hid (show W2.heap.size = w.heap.size + 1 by rw [hW2];simp)
  have z1':=Lib.hid z1
  have hA':=Lib.hid hA
  have hc':=Lib.hid hc
  have hl:=Lib.hid hA.1
  unfold maxLen at hcp
  unfold chCells at hW2
  unfold chCells
  clear z1 hc hA
  go_enter Try.func125,Try.ntmps125
  go_wp2_with fail
  refine Top.wp_scope_once 0 rfl ?_
  go_wp2_with fail
  rw [← hW2]
  go_loopw [6,12] (fun v i wr=>∃ q:Nat,q≤n∧i = .int .i64 (q:Int)∧∃ xs,nodeV c (p.take q) = some xs∧P4.OwnI (w.heap.size + 1) wr v xs∧wr.heap[w.heap.size]? = some (.cells (chCells c s) 143 (0,0))∧Below w.heap.size w wr) (fun _ i _=>n - (intOf i).toNat)
  case atStart=>exact ⟨0,Nat.zero_le _,rfl,[],rfl,P4.OwnI.nil_ _ _,z1'.out,z4'.out⟩
  case round =>
    obtain ⟨q,hq,rfl,xs,hxs,hown,hB,hbel⟩:=hrel
    have hown':=Lib.hid hown
    have hB':=Lib.hid hB
    have hbel':=Lib.hid hbel
    have hxs':=Lib.hid hxs
    obtain ⟨c0,c1,c2,c3,c4,c5⟩:=ch_cells hB
    clear hown hB hbel hxs
    by_cases hlt:q < n
    · obtain ⟨ad,k,rfl,hk,hck⟩:=(hA'.out.below hbel'.out).at_ hlt
      have hltI:(q:Int) < (n:Int):=by omega
      have e0:(0:Int)≤(q:Int):=by omega
      have e1:(q:Int)≤(cp:Int):=by omega
      have htk:=Lib.hid (show p.take (q + 1) = p.take q ++ [k] by rw [List.take_add_one,hk];rfl)
      have hover:=Lib.hid (fun (W:World) (hb:Below wr.heap.size wr W)=>(show Its W (some ad) q (p.take q) from P4.Its.upto (its4 (hA'.out.below (hbel'.out.trans (hb.mono hbel'.out.size)))) (by omega)))
      have hsame:=Lib.hid (fun (W:World) (hb:Below wr.heap.size wr W)=>same_its W (some ad) s.fA q cp s.fn s.fc (p.take q) c.from_ (hover.out W hb) (hc'.out.below (hbel'.out.trans (hb.mono hbel'.out.size))).from_ (by unfold maxLen;omega))
      have hnum:=Lib.hid (fun (W:World) (hb:Below wr.heap.size wr W)=>number_any W c s (some ad) q cp k (p.take q) (hc'.out.below (hbel'.out.trans (hb.mono hbel'.out.size))) (hover.out W hb) (by unfold maxLen;omega))
      have hlen:=Lib.hid (show xs.length≤900002∧(toV c).length≤500000 by
        have h1:=nodeV_len hxs'.out
        have h2:=hc'.out.to_.1
        have h3:=hc'.out.tfew
        rw [toV_len]
        rw [List.length_take] at h1
        omega)
      cases hh:hitV c (p.take q) k with
      | false =>
        obtain ⟨m,hm⟩:∃ m,m = numV c (p.take q) k:=⟨_,rfl⟩
        have hnew:=Lib.hid (show nodeV c (p.take (q + 1)) = some (xs ++ [m]) by rw [htk.out,nodeV_snoc,hh,if_neg (by simp),hxs'.out,hm];rfl)
        rw [← hm] at hnum
        unfold chCells at hnum
        unfold hitV at hh
        clear hm hk hto
        cases ht:c.takes with
        | false =>
          rw [ht] at c0 hnum
          go_wp2_with (first | (go_at_call 166;(refine (hnum.out _ (Below.refl wr.heap.size wr)).mono ?_;rintro e w2 ⟨rfl,hb2⟩;have hbw:=Lib.hid (Below.trans (Below.refl wr.heap.size wr) (hb2.mono (Below.size (Below.refl wr.heap.size wr))));clear hb2 c0 c1 c2 c3 c4 c5)) | (at_builtin;(refine P4.wpList_append_its rfl (.tmp 36) (.tmp 41) rfl (w.heap.size + 1) u6 xs [m] rfl (World.ownsRow.alloc (Top.own_kept hown'.out fun k _ hk=>hbw.out.block k hk) _) _ 1 1 rfl (P4.Its.of_block (heap_alloc_new w2 _) rfl rfl) (by intro e;cases e) (by have:=hlen.out;simp;omega) (by have:=hbel'.out.size;have:=hbw.out.size;simp;omega) ?_;intro v3 w3 ho3 hg3 hat3;have hg3':=Lib.hid hg3;have ho3':=Lib.hid ho3;clear hg3 ho3 hat3)))
          go_roundw
          case rel =>
            refine ⟨q + 1,by omega,by go_num,_,hnew.out,ho3'.out,?_,?_⟩
            · have F3:=FrX.of_grown (S:=fun k=>w.heap.size + 1≤k) hg3'.out fun k e=>(World.ownsRow.lt (Top.own_kept hown'.out (w':=w2) fun k _ hk=>hbw.out.block k hk) k e).1
              have hlt2:w.heap.size < w2.heap.size:=Nat.lt_of_lt_of_le (Array.getElem?_eq_some_iff.1 hB'.out).1 hbw.out.size
              exact (F3.block _ (by simp;omega) (by omega)).trans ((Go.heap_alloc_old _ _ hlt2).trans ((hbw.out.block _ (Array.getElem?_eq_some_iff.1 hB'.out).1).trans hB'.out))
            · have F3:=FrX.of_grown (S:=fun k=>w.heap.size + 1≤k) hg3'.out fun k e=>(World.ownsRow.lt (Top.own_kept hown'.out (w':=w2) fun k _ hk=>hbw.out.block k hk) k e).1
              have hb3:=hbel'.out.trans (hbw.out.mono hbel'.out.size)
              exact (hb3.alloc hb3.size _).trans (F3.below (fun k hk=>by omega) (by have:=hb3.size;simp;omega))
          case measure=>simp [intOf];omega
        | true =>
          rw [ht] at c0 hnum hh
          cases hkc:(k == c.child) with
          | false =>
            have hne:=P4.bne_of hkc
            clear hkc hh
            go_wp2_with (first | (go_at_call 166;(refine (hnum.out _ (Below.refl wr.heap.size wr)).mono ?_;rintro e w2 ⟨rfl,hb2⟩;have hbw:=Lib.hid (Below.trans (Below.refl wr.heap.size wr) (hb2.mono (Below.size (Below.refl wr.heap.size wr))));clear hb2 c0 c1 c2 c3 c4 c5)) | (at_builtin;(refine P4.wpList_append_its rfl (.tmp 36) (.tmp 41) rfl (w.heap.size + 1) u6 xs [m] rfl (World.ownsRow.alloc (Top.own_kept hown'.out fun k _ hk=>hbw.out.block k hk) _) _ 1 1 rfl (P4.Its.of_block (heap_alloc_new w2 _) rfl rfl) (by intro e;cases e) (by have:=hlen.out;simp;omega) (by have:=hbel'.out.size;have:=hbw.out.size;simp;omega) ?_;intro v3 w3 ho3 hg3 hat3;have hg3':=Lib.hid hg3;have ho3':=Lib.hid ho3;clear hg3 ho3 hat3)))
            go_roundw
            case rel =>
              refine ⟨q + 1,by omega,by go_num,_,hnew.out,ho3'.out,?_,?_⟩
              · have F3:=FrX.of_grown (S:=fun k=>w.heap.size + 1≤k) hg3'.out fun k e=>(World.ownsRow.lt (Top.own_kept hown'.out (w':=w2) fun k _ hk=>hbw.out.block k hk) k e).1
                have hlt2:w.heap.size < w2.heap.size:=Nat.lt_of_lt_of_le (Array.getElem?_eq_some_iff.1 hB'.out).1 hbw.out.size
                exact (F3.block _ (by simp;omega) (by omega)).trans ((Go.heap_alloc_old _ _ hlt2).trans ((hbw.out.block _ (Array.getElem?_eq_some_iff.1 hB'.out).1).trans hB'.out))
              · have F3:=FrX.of_grown (S:=fun k=>w.heap.size + 1≤k) hg3'.out fun k e=>(World.ownsRow.lt (Top.own_kept hown'.out (w':=w2) fun k _ hk=>hbw.out.block k hk) k e).1
                have hb3:=hbel'.out.trans (hbw.out.mono hbel'.out.size)
                exact (hb3.alloc hb3.size _).trans (F3.below (fun k hk=>by omega) (by have:=hb3.size;simp;omega))
            case measure=>simp [intOf];omega
          | true =>
            have hne:=P4.bne_of hkc
            have hev:P4.eqV (p.take q) c.from_ = false:=by rw [hkc] at hh;simpa using hh
            rw [hev] at hsame
            clear hkc hh hev
            go_wp2_with (first | (go_at_call 102;(refine (hsame.out _ (by first | exact Below.refl _ _ | assumption)).mono ?_;rintro e w1 ⟨rfl,k1,rfl⟩;have hb1:=draws (Below.refl wr.heap.size wr) k1)) | (go_at_call 166;(refine (hnum.out _ (hb1)).mono ?_;rintro e w2 ⟨rfl,hb2⟩;have hbw:=Lib.hid (Below.trans (hb1) (hb2.mono (Below.size (hb1))));clear hb2 c0 c1 c2 c3 c4 c5)) | (at_builtin;(refine P4.wpList_append_its rfl (.tmp 36) (.tmp 41) rfl (w.heap.size + 1) u6 xs [m] rfl (World.ownsRow.alloc (Top.own_kept hown'.out fun k _ hk=>hbw.out.block k hk) _) _ 1 1 rfl (P4.Its.of_block (heap_alloc_new w2 _) rfl rfl) (by intro e;cases e) (by have:=hlen.out;simp;omega) (by have:=hbel'.out.size;have:=hbw.out.size;simp;omega) ?_;intro v3 w3 ho3 hg3 hat3;have hg3':=Lib.hid hg3;have ho3':=Lib.hid ho3;clear hg3 ho3 hat3)))
            go_roundw
            case rel =>
              refine ⟨q + 1,by omega,by go_num,_,hnew.out,ho3'.out,?_,?_⟩
              · have F3:=FrX.of_grown (S:=fun k=>w.heap.size + 1≤k) hg3'.out fun k e=>(World.ownsRow.lt (Top.own_kept hown'.out (w':=w2) fun k _ hk=>hbw.out.block k hk) k e).1
                have hlt2:w.heap.size < w2.heap.size:=Nat.lt_of_lt_of_le (Array.getElem?_eq_some_iff.1 hB'.out).1 hbw.out.size
                exact (F3.block _ (by simp;omega) (by omega)).trans ((Go.heap_alloc_old _ _ hlt2).trans ((hbw.out.block _ (Array.getElem?_eq_some_iff.1 hB'.out).1).trans hB'.out))
              · have F3:=FrX.of_grown (S:=fun k=>w.heap.size + 1≤k) hg3'.out fun k e=>(World.ownsRow.lt (Top.own_kept hown'.out (w':=w2) fun k _ hk=>hbw.out.block k hk) k e).1
                have hb3:=hbel'.out.trans (hbw.out.mono hbel'.out.size)
                exact (hb3.alloc hb3.size _).trans (F3.below (fun k hk=>by omega) (by have:=hb3.size;simp;omega))
            case measure=>simp [intOf];omega
      | true =>
        have hpre:∃ q k r,p = q ++ k :: r∧hitV c q k = true:=⟨p.take q,k,p.drop (q + 1),by rw [← List.singleton_append,← List.append_assoc,← htk.out,List.take_append_drop],hh⟩
        have hh':=hh
        unfold hitV at hh'
        rw [Bool.and_eq_true,Bool.and_eq_true] at hh'
        obtain ⟨ht,hkc,hev⟩:=hh'
        have hne:=P4.bne_of hkc
        rw [hev] at hsame
        rw [ht] at c0
        cases hp:c.puts with
        | false =>
          rw [hp] at c3
          have hgone:=Lib.hid (show nodeV c p = none by
            have h1:nodeV c (p.take (q + 1)) = none:=by rw [htk.out,nodeV_snoc,hh,if_pos rfl,hp,if_neg (by simp)]
            have h2:=none_more c hp (p.drop (q + 1)) (p.take (q + 1)) h1
            rwa [List.take_append_drop] at h2)
          clear hto hpre hh hkc hev hk hnum
          go_wp2_with (go_at_call 102;(refine (hsame.out _ (by first | exact Below.refl _ _ | assumption)).mono ?_;rintro e w1 ⟨rfl,k1,rfl⟩;have hb1:=draws (Below.refl wr.heap.size wr) k1))
          go_step3
          refine ⟨rfl,?_⟩
          go_wp2_with fail
          try simp only [Exit.jump]
          go_ret2
          exact .inl ⟨hgone.out,rfl,draws hbel'.out _⟩
        | true =>
          rw [hp] at c3
          have hnode:=Lib.hid (fun (W:World) (hb:Below wr.heap.size wr W)=>hto hpre hp W (hbel'.out.trans (hb.mono hbel'.out.size)))
          have hland:=Lib.hid (fun (W:World) (hb:Below wr.heap.size wr W)=>landing_any W c s (hc'.out.below (hbel'.out.trans (hb.mono hbel'.out.size))))
          obtain ⟨m,hm⟩:∃ m,m = landV c:=⟨_,rfl⟩
          obtain ⟨T,hT⟩:∃ T,T = toV c:=⟨_,rfl⟩
          have hnew:=Lib.hid (show nodeV c (p.take (q + 1)) = some (T ++ [m]) by rw [htk.out,nodeV_snoc,hh,if_pos rfl,hp,if_pos rfl,hm,hT])
          rw [← hm] at hland
          rw [← hT] at hnode hlen
          unfold chCells at hnode hland
          rw [ht,hp] at hnode hland
          have ht':=Lib.hid ht
          have hp':=Lib.hid hp
          clear hto hpre hh hkc hev hk hnum hm hT ht hp
          go_wp2_with (first | (go_at_call 102;(refine (hsame.out _ (by first | exact Below.refl _ _ | assumption)).mono ?_;rintro e w1 ⟨rfl,k1,rfl⟩;have hb1:=draws (Below.refl wr.heap.size wr) k1)) | (go_at_call 125;(refine (hnode.out _ hb1).mono ?_;rintro e w8 ⟨v8,rfl,ho8,hb8⟩;have hbw8:=Lib.hid (hb1.trans (hb8.mono hb1.size));have ho8':=Lib.hid (own_mono ho8 (base':=w.heap.size + 1) (show w.heap.size + 1≤wr.heap.size from (Array.getElem?_eq_some_iff.1 hB'.out).1));have y1:=(hbw8.out.block _ (Array.getElem?_eq_some_iff.1 hB'.out).1).trans hB'.out;clear ho8 hb8 c0 c1 c2 c3 c4 c5;obtain ⟨c0,c1,c2,c3,c4,c5⟩:=ch_cells y1;rw [ht'.out] at c0;rw [hp'.out] at c3;clear y1)) | (go_at_call 160;(refine (hland.out _ hbw8.out).mono ?_;rintro e w2 ⟨rfl,hb2⟩;have hbw:=Lib.hid (hbw8.out.trans (hb2.mono hbw8.out.size));have ho2':=Lib.hid (Top.own_kept ho8'.out fun k _ hk=>hb2.block k hk);clear hb2 c0 c1 c2 c3 c4 c5)) | (at_builtin;(refine P4.wpList_append_its rfl (.tmp 53) (.tmp 56) rfl (w.heap.size + 1) v8 T [m] rfl (World.ownsRow.alloc ho2'.out _) _ 1 1 rfl (P4.Its.of_block (heap_alloc_new w2 _) rfl rfl) (by intro e;cases e) (by have:=hlen.out;simp;omega) (by have:=hbel'.out.size;have:=hbw.out.size;simp;omega) ?_;intro v3 w3 ho3 hg3 hat3;have hg3':=Lib.hid hg3;have ho3':=Lib.hid ho3;clear hg3 ho3 hat3)))
          go_roundw
          case rel =>
            refine ⟨q + 1,by omega,by go_num,_,hnew.out,ho3'.out,?_,?_⟩
            · have F3:=FrX.of_grown (S:=fun k=>w.heap.size + 1≤k) hg3'.out fun k e=>(World.ownsRow.lt ho2'.out k e).1
              have hlt2:w.heap.size < w2.heap.size:=Nat.lt_of_lt_of_le (Array.getElem?_eq_some_iff.1 hB'.out).1 hbw.out.size
              exact (F3.block _ (by simp;omega) (by omega)).trans ((Go.heap_alloc_old _ _ hlt2).trans ((hbw.out.block _ (Array.getElem?_eq_some_iff.1 hB'.out).1).trans hB'.out))
            · have F3:=FrX.of_grown (S:=fun k=>w.heap.size + 1≤k) hg3'.out fun k e=>(World.ownsRow.lt ho2'.out k e).1
              have hb3:=hbel'.out.trans (hbw.out.mono hbel'.out.size)
              exact (hb3.alloc hb3.size _).trans (F3.below (fun k hk=>by omega) (by have:=hb3.size;simp;omega))
          case measure=>simp [intOf];omega
    · have hltI:¬ (q:Int) < (n:Int):=by omega
      have hfin:=Lib.hid (show nodeV c p = some xs by rw [← hxs'.out,List.take_of_length_le (by rw [hl.out];omega)])
      go_wp2_with fail
      try simp only [Exit.jump]
      go_ret2
      exact .inr ⟨_,xs,hfin.out,rfl,own_mono hown'.out (by omega),hbel'.out⟩
end Go.Proofs.Ytidimannfemnmaa.Shf
namespace Go.Proofs.Ytidimannfemnmaa.Shf
open Go.RowKit Top
set_option maxRecDepth 20000

theorem node_any (w:World) (c:Ch) (s:CS) (A:Option Addr) (n cp:Nat) (p:List Int) (hc:ChIn w c s) (hA:Its w A n p) (hn:n≤cp) (hcp:cp≤maxLen) (hfew:n≤400000) (hts:s.tn≤400000) (hcl:Clear c c.to_) :
    Calls Try.prog 125 #[.agg (chCells c s),.slice A n cp] w (NodeA w (nodeV c p)):=by
  refine node_walk w c s A n cp p hc hA hn hcp hfew fun _ _ W hW=>?_
  refine (node_walk W c s s.tA s.tn s.tc c.to_ (hc.below hW) (hc.below hW).to_ hc.tnc hc.tcm hts fun ⟨q,k,r,e,h⟩=>?_).mono ?_
  · rw [hcl q k r e] at h
    cases h
  · rintro e w' (⟨h1,-⟩ | ⟨v,xs,h1,h2,h3,h4⟩)
    · rw [nodeV_to hcl] at h1
      cases h1
    · rw [nodeV_to hcl] at h1
      injection h1 with h1
      subst h1
      exact ⟨v,h2,h3,h4⟩
theorem ch_to (o:Ov):(chV o).to_ = []∨(chV o).to_ = o.path∨(chV o).to_ = o.to_:=by
  unfold chV
  split
  · split
    · exact .inr (.inl rfl)
    · split
      · split <;> exact .inl rfl
      · split
        · split
          · exact .inl rfl
          · exact .inr (.inr rfl)
        · exact .inl rfl
  · exact .inl rfl
def Slen (o:Ov):Prop:=o.path.length≤1000∧o.to_.length≤1000
theorem ch_few {o:Ov} (h:Slen o):(chV o).to_.length≤1000:=by
  rcases ch_to o with e | e | e <;> rw [e]
  · simp
  · exact h.1
  · exact h.2
set_option maxHeartbeats 4000000 in
theorem Node_any (w:World) (o:Ov) (s:OS) (A:Option Addr) (n cp:Nat) (p:List Int) (ho:OpIn w o s) (hl:Slen o) (hA:Its w A n p) (hn:n≤cp) (hcp:cp≤maxLen) (hfew:n≤400000) :
    Calls Try.prog 114 #[.agg (opCells o s),.slice A n cp] w (NodeA w (nodeV (chV o) p)):=by
  obtain ⟨W2,hW2⟩:∃ W2,W2 = w.alloc (.cells (opCells o s) 52):=⟨_,rfl⟩
  have z1:W2.heap[w.heap.size]? = some (.cells (opCells o s) 52 (0,0)):=by rw [hW2];exact heap_alloc_new w _
  have z4':=Lib.hid (show Below w.heap.size w W2 by rw [hW2];exact (Below.refl _ _).alloc (Nat.le_refl _) _)
  have hch:=Lib.hid (changeOf_any W2 o s (ho.below z4'.out))
  obtain ⟨o0,o1,o2,o3,o4,o5,o6,o7,o8,o9,o10⟩:=op_cells z1
  rw [hW2] at o0 o1 o2 o3 o4 o5 o6 o7 o8 o9 o10
  obtain ⟨c,hcE⟩:∃ c,c = chV o:=⟨_,rfl⟩
  have hcl:=Lib.hid (show Clear c c.to_ by rw [hcE];exact ch_clear o)
  have hct:=Lib.hid (show c.to_.length≤1000 by rw [hcE];exact ch_few hl)
  rw [← hcE] at hch ⊢
  have hA':=Lib.hid (fun (W:World) (hb:Below w.heap.size w W)=>hA.below hb)
  clear hcE ho hl z1 hA
  unfold opCells at hW2 hch
  unfold opCells
  go_enter Try.func114,Try.ntmps114
  go_wp2_with (first
    | (go_at_call 124;(rw [← hW2];refine hch.out.mono ?_;rintro e w1 ⟨cs,rfl,hc1,hb1⟩;have hc1':=Lib.hid hc1;have B1:=Lib.hid (z4'.out.trans (hb1.mono z4'.out.size));have hnode:=Lib.hid (node_any w1 c cs A n cp p hc1 (hA'.out w1 B1.out) hn hcp hfew (by have:=hc1.to_.1;have:=hct.out;omega) hcl.out);unfold chCells at hnode;unfold chCells;clear hc1 hb1 o0 o1 o2 o3 o4 o5 o6 o7 o8 o9 o10))
    | (go_at_call 125;(refine hnode.out.mono ?_;rintro e w2 (⟨hr1,rfl,hb2⟩ | ⟨v,xs,hr1,rfl,hr3,hb2⟩))))
  · go_ret2
    exact .inl ⟨hr1,rfl,B1.out.trans (hb2.mono B1.out.size)⟩
  · go_ret2
    exact .inr ⟨v,xs,hr1,rfl,own_mono hr3 B1.out.size,B1.out.trans (hb2.mono B1.out.size)⟩
def GapA (w:World) (r:Option (List Int)) (g:Int) (e:Ending) (w':World):Prop :=
  (r = none∧e = .returned (.tuple #[.slice none 0 0,.int .i64 0,.bool false])∧Below w.heap.size w w') ∨
  (∃ v xs,r = some xs∧e = .returned (.tuple #[v,.int .i64 g,.bool true])∧P4.OwnI w.heap.size w' v xs∧Below w.heap.size w w')
set_option maxHeartbeats 4000000 in
theorem Gap_any (w:World) (o:Ov) (s:OS) (A:Option Addr) (n cp:Nat) (p:List Int) (i:Int) (first:Bool) (ho:OpIn w o s) (hl:Slen o) (hA:Its w A n p) (hn:n≤cp) (hcp:cp≤maxLen) (hfew:n≤400000) :
    Calls Try.prog 47 #[.agg (opCells o s),.slice A n cp,.int .i64 i,.bool first] w (GapA w (nodeV (chV o) p) (gapV (chV o) p i first)):=by
  obtain ⟨W2,hW2⟩:∃ W2,W2 = w.alloc (.cells (opCells o s) 52):=⟨_,rfl⟩
  have z1:W2.heap[w.heap.size]? = some (.cells (opCells o s) 52 (0,0)):=by rw [hW2];exact heap_alloc_new w _
  have z4':=Lib.hid (show Below w.heap.size w W2 by rw [hW2];exact (Below.refl _ _).alloc (Nat.le_refl _) _)
  have hch:=Lib.hid (changeOf_any W2 o s (ho.below z4'.out))
  obtain ⟨o0,o1,o2,o3,o4,o5,o6,o7,o8,o9,o10⟩:=op_cells z1
  rw [hW2] at o0 o1 o2 o3 o4 o5 o6 o7 o8 o9 o10
  obtain ⟨c,hcE⟩:∃ c,c = chV o:=⟨_,rfl⟩
  have hcl:=Lib.hid (show Clear c c.to_ by rw [hcE];exact ch_clear o)
  have hct:=Lib.hid (show c.to_.length≤1000 by rw [hcE];exact ch_few hl)
  rw [← hcE] at hch ⊢
  have hA':=Lib.hid (fun (W:World) (hb:Below w.heap.size w W)=>hA.below hb)
  clear hcE ho hl z1 hA
  unfold opCells at hW2 hch
  unfold opCells
  go_enter Try.func47,Try.ntmps47
  go_upto_region 2 with (go_at_call 124;(rw [← hW2];refine hch.out.mono ?_;rintro e w1 ⟨cs,rfl,hc1,hb1⟩;have hc1':=Lib.hid hc1;have B1:=Lib.hid (z4'.out.trans (hb1.mono z4'.out.size));unfold chCells;clear hc1 hb1 o0 o1 o2 o3 o4 o5 o6 o7 o8 o9 o10))
  obtain ⟨X,hX⟩:∃ X,X = w1.alloc (.cells (chCells c cs) 143):=⟨_,rfl⟩
  have hX':X = w1.alloc (.cells #[.bool c.takes,.slice cs.fA cs.fn cs.fc,.int .i64 c.child,.bool c.puts,.slice cs.tA cs.tn cs.tc,.int .i64 c.gap] 143):=hX
  rw [← hX']
  have x1:X.heap[w1.heap.size]? = some (.cells (chCells c cs) 143 (0,0)):=by rw [hX];exact heap_alloc_new w1 _
  have xB:=Lib.hid (show Below w1.heap.size w1 X by rw [hX];exact (Below.refl _ _).alloc (Nat.le_refl _) _)
  have BX:=Lib.hid (B1.out.trans (xB.out.mono B1.out.size))
  have x1':=Lib.hid x1
  obtain ⟨c0,c1,c2,c3,c4,c5⟩:=ch_cells x1
  have hcX:=Lib.hid (hc1'.out.below xB.out)
  have hnode:=Lib.hid (node_any X c cs A n cp p hcX.out (hA'.out X BX.out) hn hcp hfew (by have:=hcX.out.to_.1;have:=hct.out;omega) hcl.out)
  have hgap:=Lib.hid (fun (W:World) (hb:Below X.heap.size X W)=>gapOf_any W c cs A n cp i first p (hcX.out.below hb) (hA'.out W (BX.out.trans (hb.mono BX.out.size))) (Nat.le_trans hn hcp))
  obtain ⟨G,hG⟩:∃ G,G = gapV c p i first:=⟨_,rfl⟩
  rw [← hG] at hgap
  have hG':=Lib.hid hG
  unfold chCells at hnode hgap
  clear hX hX' x1 hG
  go_wp2_with (first
    | (go_at_call 125;(refine hnode.out.mono ?_;rintro e w2 (⟨hr1,rfl,hb2⟩ | ⟨v,xs,hr1,rfl,hr3,hb2⟩) <;> (have B2:=Lib.hid hb2;have y1:=(hb2.block _ (Array.getElem?_eq_some_iff.1 x1'.out).1).trans x1'.out;clear hb2 c0 c1 c2 c3 c4 c5;obtain ⟨c0,c1,c2,c3,c4,c5⟩:=ch_cells y1;clear y1)))
    | (go_at_call 126;(refine (hgap.out _ B2.out).mono ?_;rintro e w3 ⟨rfl,hb3⟩)))
  · go_ret3
    exact .inl ⟨hr1,rfl,BX.out.trans (B2.out.mono BX.out.size)⟩
  · go_ret3
    exact .inr ⟨v,xs,hr1,by rw [← hG'.out] <;> rfl,own_mono (Top.own_kept hr3 fun k _ hk=>hb3.block k hk) BX.out.size,BX.out.trans ((B2.out.trans (hb3.mono B2.out.size)).mono BX.out.size)⟩
end Go.Proofs.Ytidimannfemnmaa.Shf
namespace Go.Proofs.Ytidimannfemnmaa.Shf
open Go.RowKit Top
set_option maxRecDepth 20000

theorem two_news (w:World) (o1 o2:Obj):(((w.alloc o1).alloc o2).heap[w.heap.size]? = some o1)∧(((w.alloc o1).alloc o2).heap[w.heap.size + 1]? = some o2)∧Below w.heap.size w ((w.alloc o1).alloc o2)∧((w.alloc o1).alloc o2).heap.size = w.heap.size + 1 + 1:=by
  have h2:=heap_alloc_new (w.alloc o1) o2
  rw [World.size_alloc] at h2
  exact ⟨(Go.heap_alloc_old _ _ (by simp)).trans (heap_alloc_new w o1),h2,((Below.refl _ _).alloc (Nat.le_refl _) _).alloc (by simp) _,by simp⟩
def zeroO:Ov:=⟨0,[],0,[],0,false,[],[],[],false,[]⟩
def backV (c:Ch):Int:=if P4.eqV c.from_ c.to_ && decide (landV c < c.child) then IntKind.i64.wrap (c.child + 1) else c.child
def undoV (c:Ch):Ov:=if c.takes && c.puts then ⟨3,toV c ++ [landV c],backV c,plainR c c.from_.reverse,0,false,[],[],[],false,[]⟩ else zeroO
theorem from_clear (c:Ch):Clear c c.from_:=fun q k r e=>by
  unfold hitV P4.eqV
  have:q ≠ c.from_:=fun h=>by
    have:=congrArg List.length e
    rw [h] at this
    simp at this
  rw [decide_eq_false this]
  simp
theorem node_from (c:Ch):nodeV c c.from_ = some (plainR c c.from_.reverse):=nodeV_clear _ _ rfl (from_clear c)
theorem node_path {o:Ov} (h1:(chV o).takes = true) (h2:(chV o).puts = true):nodeV (chV o) o.path = some (toV (chV o) ++ [landV (chV o)])∧o.path = (chV o).from_ ++ [(chV o).child]:=by
  have hp:o.path = (chV o).from_ ++ [(chV o).child]:=by
    by_cases hf:formedV o = true
    · by_cases k1:o.kind = 1
      · unfold chV at h1;rw [if_pos hf,if_pos k1] at h1;cases h1
      · by_cases k2:o.kind = 2
        · by_cases hp:o.path = []
          · unfold chV at h1;rw [if_pos hf,if_neg k1,if_pos k2,if_pos hp] at h1;cases h1
          · unfold chV at h2;rw [if_pos hf,if_neg k1,if_pos k2,if_neg hp] at h2;cases h2
        · by_cases k3:o.kind = 3
          · cases hw:P4.withinV o.path o.to_ with
            | true=>unfold chV at h1;rw [if_pos hf,if_neg k1,if_neg k2,if_pos k3,if_pos hw] at h1;cases h1
            | false =>
              have hp:o.path ≠ []:=by
                intro e
                rw [e] at hw
                unfold P4.withinV at hw
                exact absurd hw (by cases o.to_ <;> simp [P4.commonV])
              obtain ⟨q,d,hq⟩:∃ q d,o.path = q ++ [d]:=by
                rcases snoc_cases o.path with h | h
                · exact absurd h hp
                · exact h
              have:chV o = ⟨true,q,d,true,o.to_,o.at_⟩:=by unfold chV;rw [if_pos hf,if_neg k1,if_neg k2,if_pos k3,if_neg (by rw [hw];simp),hq,List.dropLast_concat,List.getLastD_concat]
              rw [this,hq]
          · unfold chV at h1;rw [if_pos hf,if_neg k1,if_neg k2,if_neg k3] at h1;cases h1
    · unfold chV at h1;rw [if_neg hf] at h1;cases h1
  refine ⟨?_,hp⟩
  rw [hp,nodeV_snoc,if_pos,if_pos h2]
  unfold hitV P4.eqV
  simp [h1]
theorem set_op1 {w:World} {g:Nat} {o:Ov} {s:OS} {ty:TypeId} (A:Option Addr) (n c:Nat) (q:List Int) (h:w.heap[g]? = some (.cells (opCells o s) ty (0,0))):(w.setCell ⟨g,1,none⟩ (.slice A n c)).heap[g]? = some (.cells (opCells { o with path:=q } { s with pA:=A,pn:=n,pc:=c }) ty (0,0)):=by
  rw [heap_setCell_same w g 1 _ _ _ h]
  simp [opCells]
theorem set_op3 {w:World} {g:Nat} {o:Ov} {s:OS} {ty:TypeId} (A:Option Addr) (n c:Nat) (q:List Int) (h:w.heap[g]? = some (.cells (opCells o s) ty (0,0))):(w.setCell ⟨g,3,none⟩ (.slice A n c)).heap[g]? = some (.cells (opCells { o with to_:=q } { s with tA:=A,tn:=n,tc:=c }) ty (0,0)):=by
  rw [heap_setCell_same w g 3 _ _ _ h]
  simp [opCells]
theorem set_op2 {w:World} {g:Nat} {o:Ov} {s:OS} {ty:TypeId} (i:Int) (h:w.heap[g]? = some (.cells (opCells o s) ty (0,0))):(w.setCell ⟨g,2,none⟩ (.int .i64 i)).heap[g]? = some (.cells (opCells { o with at_:=i } s) ty (0,0)):=by
  rw [heap_setCell_same w g 2 _ _ _ h]
  simp [opCells]
theorem op_frozen {W:World} {b:Nat} {o:Ov} {s:OS} {ty:TypeId} (h:W.heap[b]? = some (.cells (opCells o s) ty (0,0))):∀ k,W.frozen? ⟨b,k,none⟩ = false:=fun k=>frozen_of_row W b k _ _ h
set_option maxHeartbeats 16000000 in
theorem Undo_any (w:World) (o:Ov) (s:OS) (ho:OpIn w o s) (hl:Slen o):Calls Try.prog 116 #[.agg (opCells o s)] w fun e w'=>∃ s',e = .returned (.agg (opCells (undoV (chV o)) s'))∧OwnOp w.heap.size w' (undoV (chV o)) s'∧Below w.heap.size w w':=by
  obtain ⟨z1,z2,z4,z5⟩:=two_news w (.cells (opCells o s) 52) (.cells zero11 52)
  obtain ⟨W2,hW2⟩:∃ W2,W2 = ((w.alloc (.cells (opCells o s) 52)).alloc (.cells zero11 52)):=⟨_,rfl⟩
  rw [← hW2] at z1 z2 z4 z5
  have z1':=Lib.hid z1
  have z2':=Lib.hid z2
  have z4':=Lib.hid z4
  have z5':=Lib.hid z5
  have hch:=Lib.hid (changeOf_any W2 o s (ho.below z4))
  have hop:=Lib.hid (fun (W:World) (hb:Below w.heap.size w W)=>ho.below hb)
  obtain ⟨o0,o1,o2,o3,o4,o5,o6,o7,o8,o9,o10⟩:=op_cells z1
  rw [hW2] at o0 o1 o2 o3 o4 o5 o6 o7 o8 o9 o10
  have hcl:=Lib.hid (ch_clear o)
  have hct:=Lib.hid (ch_few hl)
  have hnp:=Lib.hid (@node_path o)
  have hl':=Lib.hid hl
  generalize chV o = c at *
  obtain ⟨tk,fr,chd,pt,tp,gp⟩:=c
  dsimp only at hch hcl hct hnp
  have ho1:=Lib.hid (show s.pn≤s.pc∧s.pc≤maxLen∧s.pn≤400000 from ⟨ho.pnc,ho.pcm,by have:=ho.path.1;have:=hl.1;omega⟩)
  clear ho hl z1 z2 z4 z5
  unfold opCells at hW2 hch
  unfold zero11 at hW2
  conv=>arg 3;unfold opCells
  go_enter Try.func116,Try.ntmps116
  go_upto_region 2 with (go_at_call 124;(rw [← hW2];refine hch.out.mono ?_;rintro e w1 ⟨cs,rfl,hc1,hb1⟩;have hc1':=Lib.hid hc1;have B1:=Lib.hid hb1;unfold chCells;dsimp only;clear hc1 hb1 o0 o1 o2 o3 o4 o5 o6 o7 o8 o9 o10))
  obtain ⟨X,hX⟩:∃ X,X = w1.alloc (.cells (chCells ⟨tk,fr,chd,pt,tp,gp⟩ cs) 143):=⟨_,rfl⟩
  have hX':X = w1.alloc (.cells #[.bool tk,.slice cs.fA cs.fn cs.fc,.int .i64 chd,.bool pt,.slice cs.tA cs.tn cs.tc,.int .i64 gp] 143):=hX
  rw [← hX']
  have x1:X.heap[w1.heap.size]? = some (.cells (chCells ⟨tk,fr,chd,pt,tp,gp⟩ cs) 143 (0,0)):=by rw [hX];exact heap_alloc_new w1 _
  have xB:=Lib.hid (show Below w1.heap.size w1 X by rw [hX];exact (Below.refl _ _).alloc (Nat.le_refl _) _)
  have xS:X.heap.size = w1.heap.size + 1:=by rw [hX];simp
  have B2:=Lib.hid (B1.out.trans (xB.out.mono B1.out.size))
  have BX:=Lib.hid (z4'.out.trans (B2.out.mono z4'.out.size))
  have x1':=Lib.hid x1
  obtain ⟨c0,c1,c2,c3,c4,c5⟩:=ch_cells x1
  dsimp only at c0 c1 c2 c3 c4 c5
  have y1':=Lib.hid ((B2.out.block w.heap.size (by have:=z5'.out;omega)).trans z1'.out)
  have y2':=Lib.hid ((B2.out.block (w.heap.size + 1) (by have:=z5'.out;omega)).trans z2'.out)
  obtain ⟨o0,o1,o2,o3,o4,o5,o6,o7,o8,o9,o10⟩:=op_cells y1'.out
  have y2:=y2'.out
  unfold zero11 at y2
  obtain ⟨q0,q1,q2,q3,q4,q5,q6,q7,q8,q9,q10,qf⟩:=eleven_cells y2
  have hlt:w.heap.size + 1 + 1≤w1.heap.size:=by have:=B1.out.size;have:=z5'.out;omega
  clear hX hX' x1 y2
  have nil_case:Hid ((tk && pt) = false→undoV ⟨tk,fr,chd,pt,tp,gp⟩ = zeroO):=Lib.hid (fun h=>by unfold undoV;dsimp only;rw [h];rfl)
  cases tk with
  | false =>
    go_wp2_with fail
    obtain ⟨W9,hW9,R9,B9,Z9,K9⟩:=end_op (o:=zeroO) (s:=⟨none,0,0,none,0,0,none,0,0⟩) (r:=w.heap.size + 1) (by omega) BX.out (show X.heap[w.heap.size + 1]? = some (.cells #[.int .u8 0,.slice none 0 0,.int .i64 0,.slice none 0 0,.int .u64 0,.bool false,.string ⟨#[]⟩,.string ⟨#[]⟩,.string ⟨#[]⟩,.bool false,.slice none 0 0] _ (0,0)) from y2'.out)
    have hW9':W9 = (((((((((((X.setCell ⟨w.heap.size + 1,0,none⟩ (.int .u8 0)).setCell ⟨w.heap.size + 1,1,none⟩ (.slice none 0 0)).setCell ⟨w.heap.size + 1,2,none⟩ (.int .i64 0)).setCell ⟨w.heap.size + 1,3,none⟩ (.slice none 0 0)).setCell ⟨w.heap.size + 1,4,none⟩ (.int .u64 0)).setCell ⟨w.heap.size + 1,5,none⟩ (.bool false)).setCell ⟨w.heap.size + 1,6,none⟩ (.string ⟨#[]⟩)).setCell ⟨w.heap.size + 1,7,none⟩ (.string ⟨#[]⟩)).setCell ⟨w.heap.size + 1,8,none⟩ (.string ⟨#[]⟩)).setCell ⟨w.heap.size + 1,9,none⟩ (.bool false)).setCell ⟨w.heap.size + 1,10,none⟩ (.slice none 0 0)):=hW9
    rw [← hW9']
    clear hW9' hW9
    unfold opCells at R9
    obtain ⟨d0,d1,d2,d3,d4,d5,d6,d7,d8,d9,d10,df⟩:=eleven_cells R9
    refine bodyPost_ret (v:=.agg (opCells zeroO ⟨none,0,0,none,0,0,none,0,0⟩)) (by simp [results,Try.results116,go_sem,d0,d1,d2,d3,d4,d5,d6,d7,d8,d9,d10,opCells,zeroO]) rfl ?_
    rw [nil_case.out (by simp)]
    exact ⟨_,rfl,⟨P4.OwnI.nil_ _ _,P4.OwnI.nil_ _ _,OwnQ.nil_ _ _⟩,B9⟩
  | true =>
    cases pt with
    | false =>
      go_wp2_with fail
      obtain ⟨W9,hW9,R9,B9,Z9,K9⟩:=end_op (o:=zeroO) (s:=⟨none,0,0,none,0,0,none,0,0⟩) (r:=w.heap.size + 1) (by omega) BX.out (show X.heap[w.heap.size + 1]? = some (.cells #[.int .u8 0,.slice none 0 0,.int .i64 0,.slice none 0 0,.int .u64 0,.bool false,.string ⟨#[]⟩,.string ⟨#[]⟩,.string ⟨#[]⟩,.bool false,.slice none 0 0] _ (0,0)) from y2'.out)
      have hW9':W9 = (((((((((((X.setCell ⟨w.heap.size + 1,0,none⟩ (.int .u8 0)).setCell ⟨w.heap.size + 1,1,none⟩ (.slice none 0 0)).setCell ⟨w.heap.size + 1,2,none⟩ (.int .i64 0)).setCell ⟨w.heap.size + 1,3,none⟩ (.slice none 0 0)).setCell ⟨w.heap.size + 1,4,none⟩ (.int .u64 0)).setCell ⟨w.heap.size + 1,5,none⟩ (.bool false)).setCell ⟨w.heap.size + 1,6,none⟩ (.string ⟨#[]⟩)).setCell ⟨w.heap.size + 1,7,none⟩ (.string ⟨#[]⟩)).setCell ⟨w.heap.size + 1,8,none⟩ (.string ⟨#[]⟩)).setCell ⟨w.heap.size + 1,9,none⟩ (.bool false)).setCell ⟨w.heap.size + 1,10,none⟩ (.slice none 0 0)):=hW9
      rw [← hW9']
      clear hW9' hW9
      unfold opCells at R9
      obtain ⟨d0,d1,d2,d3,d4,d5,d6,d7,d8,d9,d10,df⟩:=eleven_cells R9
      refine bodyPost_ret (v:=.agg (opCells zeroO ⟨none,0,0,none,0,0,none,0,0⟩)) (by simp [results,Try.results116,go_sem,d0,d1,d2,d3,d4,d5,d6,d7,d8,d9,d10,opCells,zeroO]) rfl ?_
      rw [nil_case.out (by simp)]
      exact ⟨_,rfl,⟨P4.OwnI.nil_ _ _,P4.OwnI.nil_ _ _,OwnQ.nil_ _ _⟩,B9⟩
    | true =>
      clear nil_case q0 q1 q2 q3 q4 q5 q6 q7 q8 q9 q10 qf
      obtain ⟨hnp1,hnp2⟩:=hnp.out rfl rfl
      have hnp1':=Lib.hid hnp1
      go_upto_region 5 with fail
      obtain ⟨Y,hY⟩:∃ Y,Y = X.alloc (.cells (opCells ⟨3,[],chd,[],0,false,[],[],[],false,[]⟩ ⟨none,0,0,none,0,0,none,0,0⟩) 52):=⟨_,rfl⟩
      have hY':Y = X.alloc (.cells #[.int .u8 3,.slice none 0 0,.int .i64 chd,.slice none 0 0,.int .u64 0,.bool false,.string ⟨#[]⟩,.string ⟨#[]⟩,.string ⟨#[]⟩,.bool false,.slice none 0 0] 52):=hY
      rw [← hY']
      have H4Y:=Lib.hid (show Y.heap[w1.heap.size + 1]? = some (.cells (opCells ⟨3,[],chd,[],0,false,[],[],[],false,[]⟩ ⟨none,0,0,none,0,0,none,0,0⟩) 52 (0,0)) by rw [hY,← xS];exact heap_alloc_new X _)
      have YB:=Lib.hid (show Below X.heap.size X Y by rw [hY];exact (Below.refl _ _).alloc (Nat.le_refl _) _)
      have YS:=Lib.hid (show Y.heap.size = X.heap.size + 1 by rw [hY];simp)
      have H0Y:=Lib.hid ((YB.out.block w.heap.size (by omega)).trans y1'.out)
      have H1Y:=Lib.hid ((YB.out.block w1.heap.size (by omega)).trans x1'.out)
      have H2Y:=Lib.hid ((YB.out.block (w.heap.size + 1) (by omega)).trans y2'.out)
      have BY:=Lib.hid (BX.out.trans (YB.out.mono BX.out.size))
      have BY1:=Lib.hid (xB.out.trans (YB.out.mono xB.out.size))
      clear hY hY' o0 o1 o2 o3 o4 o5 o6 o7 o8 o9 o10 c0 c1 c2 c3 c4 c5
      have c1r:=H1Y.out
      obtain ⟨c0,c1,c2,c3,c4,c5⟩:=ch_cells c1r
      dsimp only at c0 c1 c2 c3 c4 c5
      obtain ⟨o0,o1,o2,o3,o4,o5,o6,o7,o8,o9,o10⟩:=op_cells H0Y.out
      obtain ⟨b0,b1,b2,b3,b4,b5,b6,b7,b8,b9,b10⟩:=op_cells H4Y.out
      have bf:=op_frozen H4Y.out
      dsimp only at b0 b1 b2 b3 b4 b5 b6 b7 b8 b9 b10
      clear c1r
      have hn1:=Lib.hid (node_any Y ⟨true,fr,chd,true,tp,gp⟩ cs s.pA s.pn s.pc o.path (hc1'.out.below BY1.out) (hop.out Y BY.out).path ho1.out.1 ho1.out.2.1 ho1.out.2.2 (by have:=hc1'.out.to_.1;have:=hct.out;dsimp only at *;omega) hcl.out)
      unfold chCells at hn1
      dsimp only at hn1
      have B1Y:=BY1
      go_upto_region 6 with (go_at_call 125;(refine hn1.out.mono ?_;rintro e wa (⟨hr1,-⟩ | ⟨v,xs,hr1,rfl,hr3,hb2⟩);(exfalso;rw [hnp1'.out] at hr1;cases hr1);rw [hnp1'.out] at hr1;injection hr1 with hr1;subst hr1;obtain ⟨yA,yn,yc,rfl,-⟩:=P4.OwnI.shape hr3;have O1:=Lib.hid hr3;have E1:=Lib.hid hb2;have Bwa:=Lib.hid (BY.out.trans (hb2.mono BY.out.size));have H0wa:=Lib.hid ((hb2.block _ (Array.getElem?_eq_some_iff.1 H0Y.out).1).trans H0Y.out);have H1wa:=Lib.hid ((hb2.block _ (Array.getElem?_eq_some_iff.1 H1Y.out).1).trans H1Y.out);have H2wa:=Lib.hid ((hb2.block _ (Array.getElem?_eq_some_iff.1 H2Y.out).1).trans H2Y.out);have H4wa:=Lib.hid ((hb2.block _ (Array.getElem?_eq_some_iff.1 H4Y.out).1).trans H4Y.out);clear hr3 hb2 o0 o1 o2 o3 o4 o5 o6 o7 o8 o9 o10 c0 c1 c2 c3 c4 c5 b0 b1 b2 b3 b4 b5 b6 b7 b8 b9 b10 bf;have c1r:=H1wa.out;obtain ⟨c0,c1,c2,c3,c4,c5⟩:=ch_cells c1r;dsimp only at c0 c1 c2 c3 c4 c5;obtain ⟨o0,o1,o2,o3,o4,o5,o6,o7,o8,o9,o10⟩:=op_cells H0wa.out;obtain ⟨b0,b1,b2,b3,b4,b5,b6,b7,b8,b9,b10⟩:=op_cells H4wa.out;have bf:=op_frozen H4wa.out;dsimp only at b0 b1 b2 b3 b4 b5 b6 b7 b8 b9 b10;clear c1r))
      have B1wa:=Lib.hid (B1Y.out.trans (E1.out.mono B1Y.out.size))
      obtain ⟨Z,hZ⟩:∃ Q9,Q9 = wa.setCell ⟨w1.heap.size + 1,1,none⟩ (.slice yA yn yc):=⟨_,rfl⟩
      rw [← hZ]
      have ZK:=Lib.hid (show ∀ k,k ≠ w1.heap.size + 1→Z.heap[k]? = wa.heap[k]? by intro k hk;rw [hZ];exact heap_setCell_other _ _ k _ hk)
      have ZS:=Lib.hid (show Z.heap.size = wa.heap.size by rw [hZ];simp)
      have H0Z:=Lib.hid ((ZK.out _ (by omega)).trans H0wa.out)
      have H1Z:=Lib.hid ((ZK.out _ (by omega)).trans H1wa.out)
      have H2Z:=Lib.hid ((ZK.out _ (by omega)).trans H2wa.out)
      have H4Z:=Lib.hid (show Z.heap[w1.heap.size + 1]? = some (.cells (opCells ⟨3,toV ⟨true,fr,chd,true,tp,gp⟩ ++ [landV ⟨true,fr,chd,true,tp,gp⟩],chd,[],0,false,[],[],[],false,[]⟩ ⟨yA,yn,yc,none,0,0,none,0,0⟩) 52 (0,0)) by rw [hZ];exact set_op1 yA yn yc (toV ⟨true,fr,chd,true,tp,gp⟩ ++ [landV ⟨true,fr,chd,true,tp,gp⟩]) H4wa.out)
      have BZ:=Lib.hid (show Below w.heap.size w Z by rw [hZ];exact Bwa.out.setCell (p:=⟨w1.heap.size + 1,1,none⟩) (by show w.heap.size≤w1.heap.size + 1;omega) _)
      have B1Z:=Lib.hid (show Below w1.heap.size w1 Z by rw [hZ];exact B1wa.out.setCell (p:=⟨w1.heap.size + 1,1,none⟩) (by show w1.heap.size≤w1.heap.size + 1;omega) _)
      clear hZ o0 o1 o2 o3 o4 o5 o6 o7 o8 o9 o10 c0 c1 c2 c3 c4 c5 b0 b1 b2 b3 b4 b5 b6 b7 b8 b9 b10 bf
      have c1r:=H1Z.out;obtain ⟨c0,c1,c2,c3,c4,c5⟩:=ch_cells c1r;dsimp only at c0 c1 c2 c3 c4 c5;obtain ⟨o0,o1,o2,o3,o4,o5,o6,o7,o8,o9,o10⟩:=op_cells H0Z.out;obtain ⟨b0,b1,b2,b3,b4,b5,b6,b7,b8,b9,b10⟩:=op_cells H4Z.out;have bf:=op_frozen H4Z.out;dsimp only at b0 b1 b2 b3 b4 b5 b6 b7 b8 b9 b10;clear c1r
      have hfl:=Lib.hid (show cs.fn≤400000 by have h1:=hc1'.out.from_.1;have h2:=ho1.out.2.2;have h3:=(hop.out w (Below.refl _ _)).path.1;dsimp only at h1 hnp2;rw [hnp2,List.length_append] at h3;simp at h3;omega)
      have hn2:=Lib.hid (node_any Z ⟨true,fr,chd,true,tp,gp⟩ cs cs.fA cs.fn cs.fc fr (hc1'.out.below B1Z.out) (hc1'.out.below B1Z.out).from_ hc1'.out.fnc hc1'.out.fcm hfl.out (by have:=hc1'.out.to_.1;have:=hct.out;dsimp only at *;omega) hcl.out)
      have hnf:=Lib.hid (node_from ⟨true,fr,chd,true,tp,gp⟩)
      dsimp only at hnf
      unfold chCells at hn2
      dsimp only at hn2
      go_upto_region 7 with (go_at_call 125;(refine hn2.out.mono ?_;rintro e wb (⟨hr1,-⟩ | ⟨v,xs,hr1,rfl,hr3,hb2⟩);(exfalso;rw [hnf.out] at hr1;cases hr1);rw [hnf.out] at hr1;injection hr1 with hr1;subst hr1;obtain ⟨tA,tn,tc,rfl,-⟩:=P4.OwnI.shape hr3;have O2:=Lib.hid hr3;have E2:=Lib.hid hb2;have Bwb:=Lib.hid (BZ.out.trans (hb2.mono BZ.out.size));have H0wb:=Lib.hid ((hb2.block _ (Array.getElem?_eq_some_iff.1 H0Z.out).1).trans H0Z.out);have H1wb:=Lib.hid ((hb2.block _ (Array.getElem?_eq_some_iff.1 H1Z.out).1).trans H1Z.out);have H2wb:=Lib.hid ((hb2.block _ (Array.getElem?_eq_some_iff.1 H2Z.out).1).trans H2Z.out);have H4wb:=Lib.hid ((hb2.block _ (Array.getElem?_eq_some_iff.1 H4Z.out).1).trans H4Z.out);clear hr3 hb2 o0 o1 o2 o3 o4 o5 o6 o7 o8 o9 o10 c0 c1 c2 c3 c4 c5 b0 b1 b2 b3 b4 b5 b6 b7 b8 b9 b10 bf;have c1r:=H1wb.out;obtain ⟨c0,c1,c2,c3,c4,c5⟩:=ch_cells c1r;dsimp only at c0 c1 c2 c3 c4 c5;obtain ⟨o0,o1,o2,o3,o4,o5,o6,o7,o8,o9,o10⟩:=op_cells H0wb.out;obtain ⟨b0,b1,b2,b3,b4,b5,b6,b7,b8,b9,b10⟩:=op_cells H4wb.out;have bf:=op_frozen H4wb.out;dsimp only at b0 b1 b2 b3 b4 b5 b6 b7 b8 b9 b10;clear c1r))
      have B1wb:=Lib.hid (B1Z.out.trans (E2.out.mono B1Z.out.size))
      obtain ⟨V,hV⟩:∃ Q9,Q9 = wb.setCell ⟨w1.heap.size + 1,3,none⟩ (.slice tA tn tc):=⟨_,rfl⟩
      rw [← hV]
      have VK:=Lib.hid (show ∀ k,k ≠ w1.heap.size + 1→V.heap[k]? = wb.heap[k]? by intro k hk;rw [hV];exact heap_setCell_other _ _ k _ hk)
      have VS:=Lib.hid (show V.heap.size = wb.heap.size by rw [hV];simp)
      have H0V:=Lib.hid ((VK.out _ (by omega)).trans H0wb.out)
      have H1V:=Lib.hid ((VK.out _ (by omega)).trans H1wb.out)
      have H2V:=Lib.hid ((VK.out _ (by omega)).trans H2wb.out)
      have H4V:=Lib.hid (show V.heap[w1.heap.size + 1]? = some (.cells (opCells ⟨3,toV ⟨true,fr,chd,true,tp,gp⟩ ++ [landV ⟨true,fr,chd,true,tp,gp⟩],chd,plainR ⟨true,fr,chd,true,tp,gp⟩ fr.reverse,0,false,[],[],[],false,[]⟩ ⟨yA,yn,yc,tA,tn,tc,none,0,0⟩) 52 (0,0)) by rw [hV];exact set_op3 tA tn tc (plainR ⟨true,fr,chd,true,tp,gp⟩ fr.reverse) H4wb.out)
      have BV:=Lib.hid (show Below w.heap.size w V by rw [hV];exact Bwb.out.setCell (p:=⟨w1.heap.size + 1,3,none⟩) (by show w.heap.size≤w1.heap.size + 1;omega) _)
      have B1V:=Lib.hid (show Below w1.heap.size w1 V by rw [hV];exact B1wb.out.setCell (p:=⟨w1.heap.size + 1,3,none⟩) (by show w1.heap.size≤w1.heap.size + 1;omega) _)
      clear hV o0 o1 o2 o3 o4 o5 o6 o7 o8 o9 o10 c0 c1 c2 c3 c4 c5 b0 b1 b2 b3 b4 b5 b6 b7 b8 b9 b10 bf
      have c1r:=H1V.out;obtain ⟨c0,c1,c2,c3,c4,c5⟩:=ch_cells c1r;dsimp only at c0 c1 c2 c3 c4 c5;obtain ⟨o0,o1,o2,o3,o4,o5,o6,o7,o8,o9,o10⟩:=op_cells H0V.out;obtain ⟨b0,b1,b2,b3,b4,b5,b6,b7,b8,b9,b10⟩:=op_cells H4V.out;have bf:=op_frozen H4V.out;dsimp only at b0 b1 b2 b3 b4 b5 b6 b7 b8 b9 b10;clear c1r
      have hsame:=Lib.hid (fun (W:World) (hb:Below V.heap.size V W)=>same_its W cs.fA cs.tA cs.fn cs.fc cs.tn cs.tc fr tp (hc1'.out.below (B1V.out.trans (hb.mono B1V.out.size))).from_ (hc1'.out.below (B1V.out.trans (hb.mono B1V.out.size))).to_ (Nat.le_trans hc1'.out.fnc hc1'.out.fcm))
      have hland:=Lib.hid (fun (W:World) (hb:Below V.heap.size V W)=>landing_any W ⟨true,fr,chd,true,tp,gp⟩ cs (hc1'.out.below (B1V.out.trans (hb.mono B1V.out.size))))
      have hH4:=Lib.hid (fun (W:World) (hb:Below V.heap.size V W)=>(hb.block _ (Array.getElem?_eq_some_iff.1 H4V.out).1).trans H4V.out)
      have hH2:=Lib.hid (fun (W:World) (hb:Below V.heap.size V W)=>(hb.block _ (Array.getElem?_eq_some_iff.1 H2V.out).1).trans H2V.out)
      have hBW:=Lib.hid (fun (W:World) (hb:Below V.heap.size V W)=>BV.out.trans (hb.mono BV.out.size))
      have hVs:=Lib.hid (show wb.heap.size≤V.heap.size∧wa.heap.size≤wb.heap.size∧w1.heap.size + 1 < wa.heap.size by refine ⟨Nat.le_of_eq VS.out.symm,?_,(Array.getElem?_eq_some_iff.1 H4wa.out).1⟩;have:=E2.out.size;have:=ZS.out;omega)
      unfold chCells at hland
      dsimp only at hland
      obtain ⟨e1,he1⟩:∃ b,b = P4.eqV fr tp:=⟨_,rfl⟩
      obtain ⟨m,hm⟩:∃ m,m = landV ⟨true,fr,chd,true,tp,gp⟩:=⟨_,rfl⟩
      have hback:=Lib.hid (show undoV ⟨true,fr,chd,true,tp,gp⟩ = ⟨3,toV ⟨true,fr,chd,true,tp,gp⟩ ++ [m],if e1 && decide (m < chd) then wrap64 (chd + 1) else chd,plainR ⟨true,fr,chd,true,tp,gp⟩ fr.reverse,0,false,[],[],[],false,[]⟩ by rw [he1,hm,← IntWalk.i64_left];rfl)
      rw [← he1] at hsame
      rw [← hm] at hland H4V hH4 O1
      clear he1 hm hnp hnp1 hnp2 hnp1'
      clear c0 c1 c2 c3 c4 c5 o0 o1 o2 o3 o4 o5 o6 o7 o8 o9 o10 b0 b1 b2 b3 b4 b5 b6 b7 b8 b9 b10 bf
      cases e1 with
      | false =>
        have hback1:=Lib.hid (show undoV ⟨true,fr,chd,true,tp,gp⟩ = ⟨3,toV ⟨true,fr,chd,true,tp,gp⟩ ++ [m],chd,plainR ⟨true,fr,chd,true,tp,gp⟩ fr.reverse,0,false,[],[],[],false,[]⟩ by rw [hback.out];rfl)
        rename_i K0 hK0
        refine wp_region_held_drew (S:=fun W=>Below V.heap.size V W) (by kernel_rfl) ((Below.refl V.heap.size V).drew) (fun hHeld=>?_)
        refine wpAnyH_take (i:=0) (v:=?_) rfl (by kernel_rfl) (by kernel_rfl) (by kernel_rfl) (fun _ _ _ h=>h) (Or.inl ⟨by rfl,?_⟩) hHeld ?_
        rotate_left 1
        · intro W hSw;have c1r:=(hSw.block _ (Array.getElem?_eq_some_iff.1 H1V.out).1).trans H1V.out;obtain ⟨c0,c1,c2,c3,c4,c5⟩:=ch_cells c1r;dsimp only at c0 c1 c2 c3 c4 c5;go_simp;try with_reducible rfl
        try simp only [Act.put,zA,zB,zC]
        refine wpAnyH_take (i:=1) (v:=?_) rfl (by kernel_rfl) (by kernel_rfl) (by kernel_rfl) (fun _ _ _ h=>h) (Or.inl ⟨by rfl,?_⟩) hHeld ?_
        rotate_left 1
        · intro W hSw;have c1r:=(hSw.block _ (Array.getElem?_eq_some_iff.1 H1V.out).1).trans H1V.out;obtain ⟨c0,c1,c2,c3,c4,c5⟩:=ch_cells c1r;dsimp only at c0 c1 c2 c3 c4 c5;go_simp;try with_reducible rfl
        try simp only [Act.put,zA,zB,zC]
        refine wpAnyH_take (i:=2) (v:=?_) rfl (by kernel_rfl) (by kernel_rfl) (by kernel_rfl) (fun _ _ _ h=>h) (Or.inl ⟨by rfl,?_⟩) hHeld ?_
        rotate_left 1
        · intro W hSw;have c1r:=(hSw.block _ (Array.getElem?_eq_some_iff.1 H1V.out).1).trans H1V.out;obtain ⟨c0,c1,c2,c3,c4,c5⟩:=ch_cells c1r;dsimp only at c0 c1 c2 c3 c4 c5;go_simp;try with_reducible rfl
        try simp only [Act.put,zA,zB,zC]
        refine wpAnyH_take (i:=3) (v:=?_) rfl (by kernel_rfl) (by kernel_rfl) (by kernel_rfl) (fun _ _ _ h=>h) (Or.inl ⟨by rfl,?_⟩) hHeld ?_
        rotate_left 1
        · intro W hSw;have c1r:=(hSw.block _ (Array.getElem?_eq_some_iff.1 H1V.out).1).trans H1V.out;obtain ⟨c0,c1,c2,c3,c4,c5⟩:=ch_cells c1r;dsimp only at c0 c1 c2 c3 c4 c5;go_simp;try with_reducible rfl
        try simp only [Act.put,zA,zB,zC]
        refine wpAnyH_ready (rs:=[4]) (by kernel_rfl) (by simp) ?_
        refine AllReadyH.cons rfl (fun K hK=>?_) AllReadyH.nil
        go_simp
        refine (hsame.out _ hHeld).mono ?_
        rintro e w5 ⟨rfl,k5,rfl⟩
        have h5:=Lib.hid (draws (Below.refl V.heap.size V) (1 + k5))
        go_simp
        refine hK.out _ _ ?_ (fun hNew=>?_)
        · exact h5.out
        clear hK K hHeld
        have hHeld:=hNew
        clear hNew
        try simp only [Act.put,zA,zB,zC]
        refine wpAnyH_take (i:=5) (v:=?_) rfl (by kernel_rfl) (by kernel_rfl) (by kernel_rfl) (fun _ _ _ h=>h) (Or.inl ⟨by rfl,?_⟩) hHeld ?_
        rotate_left 1
        · intro W hSw;have c1r:=(hSw.block _ (Array.getElem?_eq_some_iff.1 H1V.out).1).trans H1V.out;obtain ⟨c0,c1,c2,c3,c4,c5⟩:=ch_cells c1r;dsimp only at c0 c1 c2 c3 c4 c5;go_simp;try with_reducible rfl
        try simp only [Act.put,zA,zB,zC]
        refine wpAnyH_take (i:=6) (v:=undef) rfl (by kernel_rfl) (by kernel_rfl) (by kernel_rfl) (fun _ _ _ h=>h) (Or.inr ⟨by rfl,rfl⟩) hHeld ?_
        try simp only [Act.put,zA,zB,zC]
        refine wpAnyH_take (i:=7) (v:=undef) rfl (by kernel_rfl) (by kernel_rfl) (by kernel_rfl) (fun _ _ _ h=>h) (Or.inr ⟨by rfl,rfl⟩) hHeld ?_
        try simp only [Act.put,zA,zB,zC]
        refine wpAnyH_take (i:=8) (v:=undef) rfl (by kernel_rfl) (by kernel_rfl) (by kernel_rfl) (fun _ _ _ h=>h) (Or.inr ⟨by rfl,rfl⟩) hHeld ?_
        try simp only [Act.put,zA,zB,zC]
        refine wpAnyH_take (i:=9) (v:=undef) rfl (by kernel_rfl) (by kernel_rfl) (by kernel_rfl) (fun _ _ _ h=>h) (Or.inr ⟨by rfl,rfl⟩) hHeld ?_
        try simp only [Act.put,zA,zB,zC]
        refine wpAnyH_take (i:=10) (v:=undef) rfl (by kernel_rfl) (by kernel_rfl) (by kernel_rfl) (fun _ _ _ h=>h) (Or.inr ⟨by rfl,rfl⟩) hHeld ?_
        try simp only [Act.put,zA,zB,zC]
        refine wpAnyH_take (i:=11) (v:=?_) rfl (by kernel_rfl) (by kernel_rfl) (by kernel_rfl) (fun _ _ _ h=>h) (Or.inl ⟨by rfl,?_⟩) hHeld ?_
        rotate_left 1
        · intro W hSw;have c1r:=(hSw.block _ (Array.getElem?_eq_some_iff.1 H1V.out).1).trans H1V.out;obtain ⟨c0,c1,c2,c3,c4,c5⟩:=ch_cells c1r;dsimp only at c0 c1 c2 c3 c4 c5;go_simp;try with_reducible rfl
        try simp only [Act.put,zA,zB,zC]
        refine wpAnyH_done (by kernel_rfl) ?_ _
        refine hK0 _ _ ?_
        clear hK0
        have H2:=Lib.hid (hH2.out _ h5.out)
        have H4:=Lib.hid (hH4.out _ h5.out)
        have HB:=Lib.hid (hBW.out _ h5.out)
        have HS:=Lib.hid (Below.size h5.out)
        have HV:=Lib.hid (fun k (hk:k < V.heap.size)=>Below.block h5.out k hk)
        have s1:=hVs.out
        have s2:=ZS.out
        have s3:=VS.out
        have s4:=YS.out
        generalize V.drewN (1 + k5) = W5 at *
        obtain ⟨b0,b1,b2,b3,b4,b5,b6,b7,b8,b9,b10⟩:=op_cells H4.out
        have bf:=op_frozen H4.out
        have y2:=H2.out
        unfold zero11 at y2
        obtain ⟨q0,q1,q2,q3,q4,q5,q6,q7,q8,q9,q10,qf⟩:=eleven_cells y2
        dsimp only at b0 b1 b2 b3 b4 b5 b6 b7 b8 b9 b10
        clear y2
        go_wp2_with fail
        obtain ⟨W9,hW9,R9,B9,Z9,K9⟩:=end_op (o:=⟨3,toV ⟨true,fr,chd,true,tp,gp⟩ ++ [m],chd,plainR ⟨true,fr,chd,true,tp,gp⟩ fr.reverse,0,false,[],[],[],false,[]⟩) (s:=⟨yA,yn,yc,tA,tn,tc,none,0,0⟩) (r:=w.heap.size + 1) (by omega) HB.out (show W5.heap[w.heap.size + 1]? = some (.cells #[.int .u8 0,.slice none 0 0,.int .i64 0,.slice none 0 0,.int .u64 0,.bool false,.string ⟨#[]⟩,.string ⟨#[]⟩,.string ⟨#[]⟩,.bool false,.slice none 0 0] _ (0,0)) from H2.out)
        have hW9':W9 = (((((((((((W5.setCell ⟨w.heap.size + 1,0,none⟩ (.int .u8 3)).setCell ⟨w.heap.size + 1,1,none⟩ (.slice yA yn yc)).setCell ⟨w.heap.size + 1,2,none⟩ (.int .i64 (chd))).setCell ⟨w.heap.size + 1,3,none⟩ (.slice tA tn tc)).setCell ⟨w.heap.size + 1,4,none⟩ (.int .u64 0)).setCell ⟨w.heap.size + 1,5,none⟩ (.bool false)).setCell ⟨w.heap.size + 1,6,none⟩ (.string ⟨#[]⟩)).setCell ⟨w.heap.size + 1,7,none⟩ (.string ⟨#[]⟩)).setCell ⟨w.heap.size + 1,8,none⟩ (.string ⟨#[]⟩)).setCell ⟨w.heap.size + 1,9,none⟩ (.bool false)).setCell ⟨w.heap.size + 1,10,none⟩ (.slice none 0 0)):=hW9
        rw [← hW9']
        clear hW9' hW9
        unfold opCells at R9
        clear q0 q1 q2 q3 q4 q5 q6 q7 q8 q9 q10 qf
        obtain ⟨d0,d1,d2,d3,d4,d5,d6,d7,d8,d9,d10,df⟩:=eleven_cells R9
        refine bodyPost_ret (v:=.agg (opCells ⟨3,toV ⟨true,fr,chd,true,tp,gp⟩ ++ [m],chd,plainR ⟨true,fr,chd,true,tp,gp⟩ fr.reverse,0,false,[],[],[],false,[]⟩ ⟨yA,yn,yc,tA,tn,tc,none,0,0⟩)) (by simp [results,Try.results116,go_sem,d0,d1,d2,d3,d4,d5,d6,d7,d8,d9,d10,opCells]) rfl ?_
        rw [hback1.out]
        have keep:=Lib.hid (show ∀ k,k ≠ w.heap.size + 1→k ≠ w1.heap.size + 1→k < V.heap.size→W9.heap[k]? = V.heap[k]? from fun k k1 k2 k3=>(K9 k k1).trans ((HV.out k k3)))
        exact ⟨⟨yA,yn,yc,tA,tn,tc,none,0,0⟩,rfl,⟨own_mono (Top.own_kept O1.out (w':=W9) fun k hk1 hk2=>(keep.out k (by omega) (by omega) (by omega)).trans ((VK.out k (by omega)).trans ((E2.out.block k (by omega)).trans (ZK.out k (by omega))))) (by omega),own_mono (Top.own_kept O2.out (w':=W9) fun k hk1 hk2=>(keep.out k (by omega) (by omega) (by omega)).trans (VK.out k (by omega))) (by omega),OwnQ.nil_ _ _⟩,B9⟩
      | true =>
        by_cases hlt:m < chd
        · have hback1:=Lib.hid (show undoV ⟨true,fr,chd,true,tp,gp⟩ = ⟨3,toV ⟨true,fr,chd,true,tp,gp⟩ ++ [m],wrap64 (chd + 1),plainR ⟨true,fr,chd,true,tp,gp⟩ fr.reverse,0,false,[],[],[],false,[]⟩ by rw [hback.out];simp [hlt])
          rename_i K0 hK0
          refine wp_region_held_drew (S:=fun W=>Below V.heap.size V W) (by kernel_rfl) ((Below.refl V.heap.size V).drew) (fun hHeld=>?_)
          refine wpAnyH_take (i:=0) (v:=?_) rfl (by kernel_rfl) (by kernel_rfl) (by kernel_rfl) (fun _ _ _ h=>h) (Or.inl ⟨by rfl,?_⟩) hHeld ?_
          rotate_left 1
          · intro W hSw;have c1r:=(hSw.block _ (Array.getElem?_eq_some_iff.1 H1V.out).1).trans H1V.out;obtain ⟨c0,c1,c2,c3,c4,c5⟩:=ch_cells c1r;dsimp only at c0 c1 c2 c3 c4 c5;go_simp;try with_reducible rfl
          try simp only [Act.put,zA,zB,zC]
          refine wpAnyH_take (i:=1) (v:=?_) rfl (by kernel_rfl) (by kernel_rfl) (by kernel_rfl) (fun _ _ _ h=>h) (Or.inl ⟨by rfl,?_⟩) hHeld ?_
          rotate_left 1
          · intro W hSw;have c1r:=(hSw.block _ (Array.getElem?_eq_some_iff.1 H1V.out).1).trans H1V.out;obtain ⟨c0,c1,c2,c3,c4,c5⟩:=ch_cells c1r;dsimp only at c0 c1 c2 c3 c4 c5;go_simp;try with_reducible rfl
          try simp only [Act.put,zA,zB,zC]
          refine wpAnyH_take (i:=2) (v:=?_) rfl (by kernel_rfl) (by kernel_rfl) (by kernel_rfl) (fun _ _ _ h=>h) (Or.inl ⟨by rfl,?_⟩) hHeld ?_
          rotate_left 1
          · intro W hSw;have c1r:=(hSw.block _ (Array.getElem?_eq_some_iff.1 H1V.out).1).trans H1V.out;obtain ⟨c0,c1,c2,c3,c4,c5⟩:=ch_cells c1r;dsimp only at c0 c1 c2 c3 c4 c5;go_simp;try with_reducible rfl
          try simp only [Act.put,zA,zB,zC]
          refine wpAnyH_take (i:=3) (v:=?_) rfl (by kernel_rfl) (by kernel_rfl) (by kernel_rfl) (fun _ _ _ h=>h) (Or.inl ⟨by rfl,?_⟩) hHeld ?_
          rotate_left 1
          · intro W hSw;have c1r:=(hSw.block _ (Array.getElem?_eq_some_iff.1 H1V.out).1).trans H1V.out;obtain ⟨c0,c1,c2,c3,c4,c5⟩:=ch_cells c1r;dsimp only at c0 c1 c2 c3 c4 c5;go_simp;try with_reducible rfl
          try simp only [Act.put,zA,zB,zC]
          refine wpAnyH_ready (rs:=[4]) (by kernel_rfl) (by simp) ?_
          refine AllReadyH.cons rfl (fun K hK=>?_) AllReadyH.nil
          go_simp
          refine (hsame.out _ hHeld).mono ?_
          rintro e w5 ⟨rfl,k5,rfl⟩
          have h5:=Lib.hid (draws (Below.refl V.heap.size V) (1 + k5))
          go_simp
          refine hK.out _ _ ?_ (fun hNew=>?_)
          · exact h5.out
          clear hK K hHeld
          have hHeld:=hNew
          clear hNew
          try simp only [Act.put,zA,zB,zC]
          refine wpAnyH_take (i:=5) (v:=?_) rfl (by kernel_rfl) (by kernel_rfl) (by kernel_rfl) (fun _ _ _ h=>h) (Or.inl ⟨by rfl,?_⟩) hHeld ?_
          rotate_left 1
          · intro W hSw;have c1r:=(hSw.block _ (Array.getElem?_eq_some_iff.1 H1V.out).1).trans H1V.out;obtain ⟨c0,c1,c2,c3,c4,c5⟩:=ch_cells c1r;dsimp only at c0 c1 c2 c3 c4 c5;go_simp;try with_reducible rfl
          try simp only [Act.put,zA,zB,zC]
          refine wpAnyH_take (i:=6) (v:=?_) rfl (by kernel_rfl) (by kernel_rfl) (by kernel_rfl) (fun _ _ _ h=>h) (Or.inl ⟨by rfl,?_⟩) hHeld ?_
          rotate_left 1
          · intro W hSw;have c1r:=(hSw.block _ (Array.getElem?_eq_some_iff.1 H1V.out).1).trans H1V.out;obtain ⟨c0,c1,c2,c3,c4,c5⟩:=ch_cells c1r;dsimp only at c0 c1 c2 c3 c4 c5;go_simp;try with_reducible rfl
          try simp only [Act.put,zA,zB,zC]
          refine wpAnyH_take (i:=8) (v:=?_) rfl (by kernel_rfl) (by kernel_rfl) (by kernel_rfl) (fun _ _ _ h=>h) (Or.inl ⟨by rfl,?_⟩) hHeld ?_
          rotate_left 1
          · intro W hSw;have c1r:=(hSw.block _ (Array.getElem?_eq_some_iff.1 H1V.out).1).trans H1V.out;obtain ⟨c0,c1,c2,c3,c4,c5⟩:=ch_cells c1r;dsimp only at c0 c1 c2 c3 c4 c5;go_simp;try with_reducible rfl
          try simp only [Act.put,zA,zB,zC]
          refine wpAnyH_take (i:=9) (v:=?_) rfl (by kernel_rfl) (by kernel_rfl) (by kernel_rfl) (fun _ _ _ h=>h) (Or.inl ⟨by rfl,?_⟩) hHeld ?_
          rotate_left 1
          · intro W hSw;have c1r:=(hSw.block _ (Array.getElem?_eq_some_iff.1 H1V.out).1).trans H1V.out;obtain ⟨c0,c1,c2,c3,c4,c5⟩:=ch_cells c1r;dsimp only at c0 c1 c2 c3 c4 c5;go_simp;try with_reducible rfl
          try simp only [Act.put,zA,zB,zC]
          refine wpAnyH_ready (rs:=[7]) (by kernel_rfl) (by simp) ?_
          refine AllReadyH.cons rfl (fun K hK=>?_) AllReadyH.nil
          go_simp
          refine (hland.out _ hHeld).mono ?_
          rintro e w6 ⟨rfl,hb6⟩
          have h6:=Lib.hid (hHeld.trans (hb6.mono hHeld.size))
          go_simp
          refine hK.out _ _ ?_ (fun hNew=>?_)
          · exact h6.out
          clear hK K hHeld
          have hHeld:=hNew
          clear hNew
          try simp only [Act.put,zA,zB,zC]
          refine wpAnyH_take (i:=10) (v:=?_) rfl (by kernel_rfl) (by kernel_rfl) (by kernel_rfl) (fun _ _ _ h=>h) (Or.inl ⟨by rfl,?_⟩) hHeld ?_
          rotate_left 1
          · intro W hSw;have c1r:=(hSw.block _ (Array.getElem?_eq_some_iff.1 H1V.out).1).trans H1V.out;obtain ⟨c0,c1,c2,c3,c4,c5⟩:=ch_cells c1r;dsimp only at c0 c1 c2 c3 c4 c5;go_simp;try with_reducible rfl
          try simp only [Act.put,zA,zB,zC]
          refine wpAnyH_take (i:=11) (v:=?_) rfl (by kernel_rfl) (by kernel_rfl) (by kernel_rfl) (fun _ _ _ h=>h) (Or.inl ⟨by rfl,?_⟩) hHeld ?_
          rotate_left 1
          · intro W hSw;have c1r:=(hSw.block _ (Array.getElem?_eq_some_iff.1 H1V.out).1).trans H1V.out;obtain ⟨c0,c1,c2,c3,c4,c5⟩:=ch_cells c1r;dsimp only at c0 c1 c2 c3 c4 c5;go_simp;try with_reducible rfl
          try simp only [Act.put,zA,zB,zC]
          refine wpAnyH_done (by kernel_rfl) ?_ _
          refine hK0 _ _ ?_
          clear hK0
          have H2:=Lib.hid (hH2.out _ h6.out)
          have H4:=Lib.hid (hH4.out _ h6.out)
          have HB:=Lib.hid (hBW.out _ h6.out)
          have HS:=Lib.hid (Below.size h6.out)
          have HV:=Lib.hid (fun k (hk:k < V.heap.size)=>Below.block h6.out k hk)
          have s1:=hVs.out
          have s2:=ZS.out
          have s3:=VS.out
          have s4:=YS.out
          obtain ⟨b0,b1,b2,b3,b4,b5,b6,b7,b8,b9,b10⟩:=op_cells H4.out
          have bf:=op_frozen H4.out
          have y2:=H2.out
          unfold zero11 at y2
          obtain ⟨q0,q1,q2,q3,q4,q5,q6,q7,q8,q9,q10,qf⟩:=eleven_cells y2
          dsimp only at b0 b1 b2 b3 b4 b5 b6 b7 b8 b9 b10
          clear y2
          go_wp2_with fail
          obtain ⟨U,hU⟩:∃ Q9,Q9 = w6.setCell ⟨w1.heap.size + 1,2,none⟩ (.int .i64 (wrap64 (chd + 1))):=⟨_,rfl⟩
          rw [← hU]
          have UK:=Lib.hid (show ∀ k,k ≠ w1.heap.size + 1→U.heap[k]? = w6.heap[k]? by intro k hk;rw [hU];exact heap_setCell_other _ _ k _ hk)
          have H2U:=Lib.hid ((UK.out _ (by omega)).trans H2.out)
          have HBU:=Lib.hid (show Below w.heap.size w U by rw [hU];exact HB.out.setCell (p:=⟨w1.heap.size + 1,2,none⟩) (by show w.heap.size≤w1.heap.size + 1;omega) _)
          clear hU
          obtain ⟨W9,hW9,R9,B9,Z9,K9⟩:=end_op (o:=⟨3,toV ⟨true,fr,chd,true,tp,gp⟩ ++ [m],wrap64 (chd + 1),plainR ⟨true,fr,chd,true,tp,gp⟩ fr.reverse,0,false,[],[],[],false,[]⟩) (s:=⟨yA,yn,yc,tA,tn,tc,none,0,0⟩) (r:=w.heap.size + 1) (by omega) HBU.out (show U.heap[w.heap.size + 1]? = some (.cells #[.int .u8 0,.slice none 0 0,.int .i64 0,.slice none 0 0,.int .u64 0,.bool false,.string ⟨#[]⟩,.string ⟨#[]⟩,.string ⟨#[]⟩,.bool false,.slice none 0 0] _ (0,0)) from H2U.out)
          have hW9':W9 = (((((((((((U.setCell ⟨w.heap.size + 1,0,none⟩ (.int .u8 3)).setCell ⟨w.heap.size + 1,1,none⟩ (.slice yA yn yc)).setCell ⟨w.heap.size + 1,2,none⟩ (.int .i64 (wrap64 (chd + 1)))).setCell ⟨w.heap.size + 1,3,none⟩ (.slice tA tn tc)).setCell ⟨w.heap.size + 1,4,none⟩ (.int .u64 0)).setCell ⟨w.heap.size + 1,5,none⟩ (.bool false)).setCell ⟨w.heap.size + 1,6,none⟩ (.string ⟨#[]⟩)).setCell ⟨w.heap.size + 1,7,none⟩ (.string ⟨#[]⟩)).setCell ⟨w.heap.size + 1,8,none⟩ (.string ⟨#[]⟩)).setCell ⟨w.heap.size + 1,9,none⟩ (.bool false)).setCell ⟨w.heap.size + 1,10,none⟩ (.slice none 0 0)):=hW9
          rw [← hW9']
          clear hW9' hW9
          unfold opCells at R9
          clear q0 q1 q2 q3 q4 q5 q6 q7 q8 q9 q10 qf
          obtain ⟨d0,d1,d2,d3,d4,d5,d6,d7,d8,d9,d10,df⟩:=eleven_cells R9
          refine bodyPost_ret (v:=.agg (opCells ⟨3,toV ⟨true,fr,chd,true,tp,gp⟩ ++ [m],wrap64 (chd + 1),plainR ⟨true,fr,chd,true,tp,gp⟩ fr.reverse,0,false,[],[],[],false,[]⟩ ⟨yA,yn,yc,tA,tn,tc,none,0,0⟩)) (by simp [results,Try.results116,go_sem,d0,d1,d2,d3,d4,d5,d6,d7,d8,d9,d10,opCells]) rfl ?_
          rw [hback1.out]
          have keep:=Lib.hid (show ∀ k,k ≠ w.heap.size + 1→k ≠ w1.heap.size + 1→k < V.heap.size→W9.heap[k]? = V.heap[k]? from fun k k1 k2 k3=>(K9 k k1).trans ((UK.out k k2).trans (HV.out k k3)))
          exact ⟨⟨yA,yn,yc,tA,tn,tc,none,0,0⟩,rfl,⟨own_mono (Top.own_kept O1.out (w':=W9) fun k hk1 hk2=>(keep.out k (by omega) (by omega) (by omega)).trans ((VK.out k (by omega)).trans ((E2.out.block k (by omega)).trans (ZK.out k (by omega))))) (by omega),own_mono (Top.own_kept O2.out (w':=W9) fun k hk1 hk2=>(keep.out k (by omega) (by omega) (by omega)).trans (VK.out k (by omega))) (by omega),OwnQ.nil_ _ _⟩,B9⟩
        · have hback1:=Lib.hid (show undoV ⟨true,fr,chd,true,tp,gp⟩ = ⟨3,toV ⟨true,fr,chd,true,tp,gp⟩ ++ [m],chd,plainR ⟨true,fr,chd,true,tp,gp⟩ fr.reverse,0,false,[],[],[],false,[]⟩ by rw [hback.out];simp [hlt])
          rename_i K0 hK0
          refine wp_region_held_drew (S:=fun W=>Below V.heap.size V W) (by kernel_rfl) ((Below.refl V.heap.size V).drew) (fun hHeld=>?_)
          refine wpAnyH_take (i:=0) (v:=?_) rfl (by kernel_rfl) (by kernel_rfl) (by kernel_rfl) (fun _ _ _ h=>h) (Or.inl ⟨by rfl,?_⟩) hHeld ?_
          rotate_left 1
          · intro W hSw;have c1r:=(hSw.block _ (Array.getElem?_eq_some_iff.1 H1V.out).1).trans H1V.out;obtain ⟨c0,c1,c2,c3,c4,c5⟩:=ch_cells c1r;dsimp only at c0 c1 c2 c3 c4 c5;go_simp;try with_reducible rfl
          try simp only [Act.put,zA,zB,zC]
          refine wpAnyH_take (i:=1) (v:=?_) rfl (by kernel_rfl) (by kernel_rfl) (by kernel_rfl) (fun _ _ _ h=>h) (Or.inl ⟨by rfl,?_⟩) hHeld ?_
          rotate_left 1
          · intro W hSw;have c1r:=(hSw.block _ (Array.getElem?_eq_some_iff.1 H1V.out).1).trans H1V.out;obtain ⟨c0,c1,c2,c3,c4,c5⟩:=ch_cells c1r;dsimp only at c0 c1 c2 c3 c4 c5;go_simp;try with_reducible rfl
          try simp only [Act.put,zA,zB,zC]
          refine wpAnyH_take (i:=2) (v:=?_) rfl (by kernel_rfl) (by kernel_rfl) (by kernel_rfl) (fun _ _ _ h=>h) (Or.inl ⟨by rfl,?_⟩) hHeld ?_
          rotate_left 1
          · intro W hSw;have c1r:=(hSw.block _ (Array.getElem?_eq_some_iff.1 H1V.out).1).trans H1V.out;obtain ⟨c0,c1,c2,c3,c4,c5⟩:=ch_cells c1r;dsimp only at c0 c1 c2 c3 c4 c5;go_simp;try with_reducible rfl
          try simp only [Act.put,zA,zB,zC]
          refine wpAnyH_take (i:=3) (v:=?_) rfl (by kernel_rfl) (by kernel_rfl) (by kernel_rfl) (fun _ _ _ h=>h) (Or.inl ⟨by rfl,?_⟩) hHeld ?_
          rotate_left 1
          · intro W hSw;have c1r:=(hSw.block _ (Array.getElem?_eq_some_iff.1 H1V.out).1).trans H1V.out;obtain ⟨c0,c1,c2,c3,c4,c5⟩:=ch_cells c1r;dsimp only at c0 c1 c2 c3 c4 c5;go_simp;try with_reducible rfl
          try simp only [Act.put,zA,zB,zC]
          refine wpAnyH_ready (rs:=[4]) (by kernel_rfl) (by simp) ?_
          refine AllReadyH.cons rfl (fun K hK=>?_) AllReadyH.nil
          go_simp
          refine (hsame.out _ hHeld).mono ?_
          rintro e w5 ⟨rfl,k5,rfl⟩
          have h5:=Lib.hid (draws (Below.refl V.heap.size V) (1 + k5))
          go_simp
          refine hK.out _ _ ?_ (fun hNew=>?_)
          · exact h5.out
          clear hK K hHeld
          have hHeld:=hNew
          clear hNew
          try simp only [Act.put,zA,zB,zC]
          refine wpAnyH_take (i:=5) (v:=?_) rfl (by kernel_rfl) (by kernel_rfl) (by kernel_rfl) (fun _ _ _ h=>h) (Or.inl ⟨by rfl,?_⟩) hHeld ?_
          rotate_left 1
          · intro W hSw;have c1r:=(hSw.block _ (Array.getElem?_eq_some_iff.1 H1V.out).1).trans H1V.out;obtain ⟨c0,c1,c2,c3,c4,c5⟩:=ch_cells c1r;dsimp only at c0 c1 c2 c3 c4 c5;go_simp;try with_reducible rfl
          try simp only [Act.put,zA,zB,zC]
          refine wpAnyH_take (i:=6) (v:=?_) rfl (by kernel_rfl) (by kernel_rfl) (by kernel_rfl) (fun _ _ _ h=>h) (Or.inl ⟨by rfl,?_⟩) hHeld ?_
          rotate_left 1
          · intro W hSw;have c1r:=(hSw.block _ (Array.getElem?_eq_some_iff.1 H1V.out).1).trans H1V.out;obtain ⟨c0,c1,c2,c3,c4,c5⟩:=ch_cells c1r;dsimp only at c0 c1 c2 c3 c4 c5;go_simp;try with_reducible rfl
          try simp only [Act.put,zA,zB,zC]
          refine wpAnyH_take (i:=8) (v:=?_) rfl (by kernel_rfl) (by kernel_rfl) (by kernel_rfl) (fun _ _ _ h=>h) (Or.inl ⟨by rfl,?_⟩) hHeld ?_
          rotate_left 1
          · intro W hSw;have c1r:=(hSw.block _ (Array.getElem?_eq_some_iff.1 H1V.out).1).trans H1V.out;obtain ⟨c0,c1,c2,c3,c4,c5⟩:=ch_cells c1r;dsimp only at c0 c1 c2 c3 c4 c5;go_simp;try with_reducible rfl
          try simp only [Act.put,zA,zB,zC]
          refine wpAnyH_take (i:=9) (v:=?_) rfl (by kernel_rfl) (by kernel_rfl) (by kernel_rfl) (fun _ _ _ h=>h) (Or.inl ⟨by rfl,?_⟩) hHeld ?_
          rotate_left 1
          · intro W hSw;have c1r:=(hSw.block _ (Array.getElem?_eq_some_iff.1 H1V.out).1).trans H1V.out;obtain ⟨c0,c1,c2,c3,c4,c5⟩:=ch_cells c1r;dsimp only at c0 c1 c2 c3 c4 c5;go_simp;try with_reducible rfl
          try simp only [Act.put,zA,zB,zC]
          refine wpAnyH_ready (rs:=[7]) (by kernel_rfl) (by simp) ?_
          refine AllReadyH.cons rfl (fun K hK=>?_) AllReadyH.nil
          go_simp
          refine (hland.out _ hHeld).mono ?_
          rintro e w6 ⟨rfl,hb6⟩
          have h6:=Lib.hid (hHeld.trans (hb6.mono hHeld.size))
          go_simp
          refine hK.out _ _ ?_ (fun hNew=>?_)
          · exact h6.out
          clear hK K hHeld
          have hHeld:=hNew
          clear hNew
          try simp only [Act.put,zA,zB,zC]
          refine wpAnyH_take (i:=10) (v:=?_) rfl (by kernel_rfl) (by kernel_rfl) (by kernel_rfl) (fun _ _ _ h=>h) (Or.inl ⟨by rfl,?_⟩) hHeld ?_
          rotate_left 1
          · intro W hSw;have c1r:=(hSw.block _ (Array.getElem?_eq_some_iff.1 H1V.out).1).trans H1V.out;obtain ⟨c0,c1,c2,c3,c4,c5⟩:=ch_cells c1r;dsimp only at c0 c1 c2 c3 c4 c5;go_simp;try with_reducible rfl
          try simp only [Act.put,zA,zB,zC]
          refine wpAnyH_take (i:=11) (v:=?_) rfl (by kernel_rfl) (by kernel_rfl) (by kernel_rfl) (fun _ _ _ h=>h) (Or.inl ⟨by rfl,?_⟩) hHeld ?_
          rotate_left 1
          · intro W hSw;have c1r:=(hSw.block _ (Array.getElem?_eq_some_iff.1 H1V.out).1).trans H1V.out;obtain ⟨c0,c1,c2,c3,c4,c5⟩:=ch_cells c1r;dsimp only at c0 c1 c2 c3 c4 c5;go_simp;try with_reducible rfl
          try simp only [Act.put,zA,zB,zC]
          refine wpAnyH_done (by kernel_rfl) ?_ _
          refine hK0 _ _ ?_
          clear hK0
          have H2:=Lib.hid (hH2.out _ h6.out)
          have H4:=Lib.hid (hH4.out _ h6.out)
          have HB:=Lib.hid (hBW.out _ h6.out)
          have HS:=Lib.hid (Below.size h6.out)
          have HV:=Lib.hid (fun k (hk:k < V.heap.size)=>Below.block h6.out k hk)
          have s1:=hVs.out
          have s2:=ZS.out
          have s3:=VS.out
          have s4:=YS.out
          obtain ⟨b0,b1,b2,b3,b4,b5,b6,b7,b8,b9,b10⟩:=op_cells H4.out
          have bf:=op_frozen H4.out
          have y2:=H2.out
          unfold zero11 at y2
          obtain ⟨q0,q1,q2,q3,q4,q5,q6,q7,q8,q9,q10,qf⟩:=eleven_cells y2
          dsimp only at b0 b1 b2 b3 b4 b5 b6 b7 b8 b9 b10
          clear y2
          go_wp2_with fail
          obtain ⟨W9,hW9,R9,B9,Z9,K9⟩:=end_op (o:=⟨3,toV ⟨true,fr,chd,true,tp,gp⟩ ++ [m],chd,plainR ⟨true,fr,chd,true,tp,gp⟩ fr.reverse,0,false,[],[],[],false,[]⟩) (s:=⟨yA,yn,yc,tA,tn,tc,none,0,0⟩) (r:=w.heap.size + 1) (by omega) HB.out (show w6.heap[w.heap.size + 1]? = some (.cells #[.int .u8 0,.slice none 0 0,.int .i64 0,.slice none 0 0,.int .u64 0,.bool false,.string ⟨#[]⟩,.string ⟨#[]⟩,.string ⟨#[]⟩,.bool false,.slice none 0 0] _ (0,0)) from H2.out)
          have hW9':W9 = (((((((((((w6.setCell ⟨w.heap.size + 1,0,none⟩ (.int .u8 3)).setCell ⟨w.heap.size + 1,1,none⟩ (.slice yA yn yc)).setCell ⟨w.heap.size + 1,2,none⟩ (.int .i64 (chd))).setCell ⟨w.heap.size + 1,3,none⟩ (.slice tA tn tc)).setCell ⟨w.heap.size + 1,4,none⟩ (.int .u64 0)).setCell ⟨w.heap.size + 1,5,none⟩ (.bool false)).setCell ⟨w.heap.size + 1,6,none⟩ (.string ⟨#[]⟩)).setCell ⟨w.heap.size + 1,7,none⟩ (.string ⟨#[]⟩)).setCell ⟨w.heap.size + 1,8,none⟩ (.string ⟨#[]⟩)).setCell ⟨w.heap.size + 1,9,none⟩ (.bool false)).setCell ⟨w.heap.size + 1,10,none⟩ (.slice none 0 0)):=hW9
          rw [← hW9']
          clear hW9' hW9
          unfold opCells at R9
          clear q0 q1 q2 q3 q4 q5 q6 q7 q8 q9 q10 qf
          obtain ⟨d0,d1,d2,d3,d4,d5,d6,d7,d8,d9,d10,df⟩:=eleven_cells R9
          refine bodyPost_ret (v:=.agg (opCells ⟨3,toV ⟨true,fr,chd,true,tp,gp⟩ ++ [m],chd,plainR ⟨true,fr,chd,true,tp,gp⟩ fr.reverse,0,false,[],[],[],false,[]⟩ ⟨yA,yn,yc,tA,tn,tc,none,0,0⟩)) (by simp [results,Try.results116,go_sem,d0,d1,d2,d3,d4,d5,d6,d7,d8,d9,d10,opCells]) rfl ?_
          rw [hback1.out]
          have keep:=Lib.hid (show ∀ k,k ≠ w.heap.size + 1→k ≠ w1.heap.size + 1→k < V.heap.size→W9.heap[k]? = V.heap[k]? from fun k k1 k2 k3=>(K9 k k1).trans ((HV.out k k3)))
          exact ⟨⟨yA,yn,yc,tA,tn,tc,none,0,0⟩,rfl,⟨own_mono (Top.own_kept O1.out (w':=W9) fun k hk1 hk2=>(keep.out k (by omega) (by omega) (by omega)).trans ((VK.out k (by omega)).trans ((E2.out.block k (by omega)).trans (ZK.out k (by omega))))) (by omega),own_mono (Top.own_kept O2.out (w':=W9) fun k hk1 hk2=>(keep.out k (by omega) (by omega) (by omega)).trans (VK.out k (by omega))) (by omega),OwnQ.nil_ _ _⟩,B9⟩
end Go.Proofs.Ytidimannfemnmaa.Shf
namespace Go.Proofs.Ytidimannfemnmaa.Sqr
open Go.RowKit Top Shf

def soundV (o:Ov):Bool:=formedV o && (if o.kind = 2 then decide (o.path ≠ []) else if o.kind = 3 then !P4.withinV o.path o.to_ else true)
def nodeD (a:Ov) (p:List Int):List Int:=(nodeV (chV a) p).getD []
def gapD (a:Ov) (p:List Int) (i:Int) (first:Bool):Int:=if nodeV (chV a) p = none then 0 else gapV (chV a) p i first
def delV (p:List Int):Ov:=⟨2,p,0,[],0,false,[],[],[],false,[]⟩
def shiftedV (b a:Ov) (prior:Bool):Ov :=
  if b.kind = 1 then { b with path:=nodeD a b.path,at_:=gapD a b.path b.at_ prior }
  else if b.kind = 3 then { b with path:=nodeD a b.path,to_:=nodeD a b.to_,at_:=gapD a b.to_ b.at_ prior }
  else { b with path:=nodeD a b.path }
def editV (b a:Ov) (prior:Bool):Ov:={ b with pieces:=(Ltx.trans (Ltx.norm (pcs b.pieces)) (Ltx.norm (pcs a.pieces)) prior).map P5.ipc }
def becomesV (b a:Ov) (prior:Bool):List Ov :=
  if a.kind = 2∧P4.withinV a.path b.path = true then []
  else if b.kind = 3∧a.kind = 2∧P4.withinV a.path b.to_ = true then [delV (nodeD a b.path)]
  else if b.kind = 2∧a.kind = 3∧P4.eqV b.path a.path = false∧P4.withinV b.path a.path = true∧P4.withinV b.path a.to_ = false then [delV (nodeD a a.path),delV (nodeD (delV (nodeD a a.path)) (nodeD a b.path))]
  else if b.kind = 3∧a.kind = 3∧P4.eqV b.path a.path = true then (if prior = true then [shiftedV b a prior] else [])
  else if b.kind = 3∧a.kind = 3∧P4.withinV b.path a.to_ = true∧P4.withinV a.path b.to_ = true then (if prior = true then [undoV (chV a),b] else [])
  else if b.kind = 4∧a.kind = 4∧P4.eqV b.path a.path = true∧b.key = a.key then (if prior = true then [shiftedV b a prior] else [])
  else if b.kind = 5∧a.kind = 5∧P4.eqV b.path a.path = true then (if prior = true then [shiftedV b a prior] else [])
  else if b.kind = 6∧a.kind = 6∧P4.eqV b.path a.path = true then [editV b a prior]
  else [shiftedV b a prior]
def behindV (b a:Ov) (prior:Bool):List Ov × Int :=
  if soundV b = true∧soundV a = true then
    (if (becomesV b a prior).all formedV = true then ((becomesV b a prior).map bareV,0) else ([],3))
  else ([],80)
theorem sound_formed {o:Ov} (h:soundV o = true):formedV o = true:=by
  unfold soundV at h
  simp only [Bool.and_eq_true] at h
  exact h.1
def InI (i:Int):Prop:=-9223372036854775808≤i∧i≤9223372036854775807
theorem wrap_in (x:Int):InI (IntKind.i64.wrap x):=by
  rw [IntWalk.i64_left]
  unfold InI wrap64
  omega
theorem less_in {c:Ch} {over:List Int} {k:Int} (h:InI k):InI (lessV c over k):=by
  unfold lessV
  split
  · exact wrap_in _
  · exact h
theorem num_in {c:Ch} {over:List Int} {k:Int} (h:InI k):InI (numV c over k):=by
  unfold numV
  split
  · exact wrap_in _
  · exact less_in h
theorem gap_in {c:Ch} {over:List Int} {i:Int} {first:Bool} (h:InI i):InI (gapV c over i first):=by
  unfold gapV
  split
  · exact wrap_in _
  · exact less_in h
theorem land_in {c:Ch} (h:InI c.gap):InI (landV c):=by
  unfold landV
  split
  · exact wrap_in _
  · exact h
theorem plain_len (c:Ch):∀ l:List Int,(plainR c l).length = l.length
  | []=>rfl
  | k :: r=>by simp [plainR,plain_len c r]
theorem plain_fit (c:Ch):∀ l:List Int,Fit l→Fit (plainR c l)
  | [],_=>fun x hx=>by simp [plainR] at hx
  | k :: r,h=>fun x hx=>by
    simp only [plainR,List.mem_append,List.mem_singleton] at hx
    rcases hx with hx | rfl
    · exact plain_fit c r (fun y hy=>h y (List.mem_cons_of_mem _ hy)) x hx
    · exact num_in (h k (List.mem_cons_self ..))
theorem to_len (c:Ch):(toV c).length = c.to_.length:=by unfold toV;rw [plain_len,List.length_reverse]
theorem to_fit {c:Ch} (h:Fit c.to_):Fit (toV c):=plain_fit c _ fun x hx=>h x (List.mem_reverse.1 hx)
theorem nodeR_len (c:Ch):∀ (l xs:List Int),nodeR c l = some xs→xs.length≤l.length + c.to_.length + 1
  | [],xs,h=>by
    simp only [nodeR,Option.some.injEq] at h
    subst h
    simp
  | k :: r,xs,h=>by
    unfold nodeR at h
    split at h
    · split at h
      · injection h with h
        subst h
        rw [List.length_append,to_len]
        simp only [List.length_cons,List.length_nil]
        omega
      · cases h
    · cases hr:nodeR c r with
      | none=>rw [hr] at h;cases h
      | some ys =>
        rw [hr] at h
        injection h with h
        subst h
        have:=nodeR_len c r ys hr
        simp only [List.length_append,List.length_cons,List.length_nil]
        omega
theorem nodeR_fit (c:Ch) (ht:Fit c.to_) (hg:InI c.gap):∀ (l xs:List Int),Fit l→nodeR c l = some xs→Fit xs
  | [],xs,_,h=>by
    simp only [nodeR,Option.some.injEq] at h
    subst h
    exact fun x hx=>by simp at hx
  | k :: r,xs,hl,h=>by
    unfold nodeR at h
    split at h
    · split at h
      · injection h with h
        subst h
        intro x hx
        rw [List.mem_append,List.mem_singleton] at hx
        rcases hx with hx | rfl
        · exact to_fit ht x hx
        · exact land_in hg
      · cases h
    · cases hr:nodeR c r with
      | none=>rw [hr] at h;cases h
      | some ys =>
        rw [hr] at h
        injection h with h
        subst h
        intro x hx
        rw [List.mem_append,List.mem_singleton] at hx
        rcases hx with hx | rfl
        · exact nodeR_fit c ht hg r ys (fun y hy=>hl y (List.mem_cons_of_mem _ hy)) hr x hx
        · exact num_in (hl k (List.mem_cons_self ..))
theorem ch_gap {o:Ov} (h:InI o.at_):InI (chV o).gap:=by
  have z:InI 0:=by unfold InI;omega
  unfold chV
  split
  · split
    · exact h
    · split
      · split <;> exact z
      · split
        · split
          · exact z
          · exact h
        · exact z
  · exact z
theorem ch_tofit {o:Ov} (hp:Fit o.path) (ht:Fit o.to_):Fit (chV o).to_:=by
  rcases ch_to o with e | e | e <;> rw [e]
  · exact fun x hx=>by simp at hx
  · exact hp
  · exact ht
theorem node_ok {a:Ov} (hl:Slen a) (hp:Fit a.path) (ht:Fit a.to_) (hi:InI a.at_) {p xs:List Int} (h:nodeV (chV a) p = some xs) (hf:Fit p):xs.length≤p.length + 1001∧Fit xs:=by
  refine ⟨?_,nodeR_fit _ (ch_tofit hp ht) (ch_gap hi) _ xs (fun x hx=>hf x (List.mem_reverse.1 hx)) h⟩
  have e1:=nodeR_len _ _ xs h
  have e2:=ch_few hl
  rw [List.length_reverse] at e1
  omega
end Go.Proofs.Ytidimannfemnmaa.Sqr
namespace Go.Proofs.Ytidimannfemnmaa
open Go.RowKit
set_option maxRecDepth 20000

def docA (k v:Txt):List (Txt × Txt)→Bool→List (Txt × Txt)
  | [],d=>if d then [] else [(k,v)]
  | a :: r,d=>(if !d && !Op.bytesLess a.1 k then [(k,v)] else []) ++ ((if a.1 = k then [] else [a]) ++ docA k v r (d || !Op.bytesLess a.1 k))
end Go.Proofs.Ytidimannfemnmaa
