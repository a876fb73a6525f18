/- MgAN: TopA TopN ShfVal TopB TopP TopK TopBa TopBb -/
import Derived.Test.YtfaolhcacaeijaaMgAL
import Derived.Deep.RegionHeld3
import Derived.Test.YtfaolhcacaeijaaMgAM
import Derived.BigQuiet
import Derived.Test.YtfaolhcacaeijaaMgAF
import Derived.Test.YtfaolhcacaeijaaMgAE
import Derived.Sort.QuietTacIn
import Derived.Stop.RegionWithIn
import Derived.Test.YtfaolhcacaeijaaMgAK
import Derived.Test.YtfaolhcacaeijaaMgAH
set_option linter.all false
namespace Go.Proofs.Ytfaolhcacaeijaa
open Go.RowKit
set_option maxRecDepth 20000
set_option linter.unusedVariables false

def pcs (l:List P5.IP):List Ltx.Pc:=l.map fun x=>⟨x.keep.toNat,x.drop.toNat,x.put⟩
theorem pcs_right {l:List P5.IP} (h:P5.rightV l = true):(pcs l).map P5.ipc = l:=by
  obtain ⟨l',rfl⟩:=P5.right_pcs h
  have:pcs (l'.map P5.ipc) = l':=by
    unfold pcs
    rw [List.map_map]
    conv=>rhs;rw [← List.map_id l']
    apply List.map_congr_left
    intro x _
    simp [P5.ipc]
  rw [this]
end Go.Proofs.Ytfaolhcacaeijaa
namespace Go.Proofs.Ytfaolhcacaeijaa
open Go.RowKit
set_option maxRecDepth 20000
set_option linter.unusedVariables false

theorem common_pre:∀ (p q:List Int),P4.commonV p q = p.length ↔ p <+: q
  | [],q=>by simp [P4.commonV]
  | a :: p,[]=>by simp [P4.commonV]
  | a :: p,b :: q=>by
    have ih:=common_pre p q
    unfold P4.commonV
    by_cases h:a = b
    · subst h
      simp only [if_true,List.length_cons,List.cons_prefix_cons,true_and]
      constructor
      · intro h;exact ih.1 (by omega)
      · intro h;have:=ih.2 h;omega
    · simp [h]
theorem within_pre (p q:List Int):P4.withinV p q = decide (p <+: q):=by
  unfold P4.withinV
  exact decide_eq_decide.2 (common_pre p q)
end Go.Proofs.Ytfaolhcacaeijaa
namespace Go.Proofs.Ytfaolhcacaeijaa.Shf
open Go.RowKit
set_option maxRecDepth 20000
set_option linter.unusedVariables false

structure Ch where
  takes:Bool
  from_:List Int
  child:Int
  puts:Bool
  to_:List Int
  gap:Int
def noCh:Ch:=⟨false,[],0,false,[],0⟩
def chV (o:Ov):Ch :=
  if formedV o = true then
    (if o.kind = 1 then ⟨false,[],0,true,o.path,o.at_⟩
    else if o.kind = 2 then (if o.path = [] then noCh else ⟨true,o.path.dropLast,o.path.getLastD 0,false,[],0⟩)
    else if o.kind = 3 then (if P4.withinV o.path o.to_ = true then noCh else ⟨true,o.path.dropLast,o.path.getLastD 0,true,o.to_,o.at_⟩)
    else noCh)
  else noCh
def hitV (c:Ch) (over:List Int) (k:Int):Bool:=c.takes && ((k == c.child) && P4.eqV over c.from_)
def lessV (c:Ch) (over:List Int) (k:Int):Int:=if c.takes && (decide (k > c.child) && P4.eqV over c.from_) then IntKind.i64.wrap (k - 1) else k
def numV (c:Ch) (over:List Int) (k:Int):Int :=
  if c.puts && (decide (k ≥ c.gap) && P4.eqV over c.to_) then IntKind.i64.wrap (lessV c over k + 1) else lessV c over k
def landV (c:Ch):Int:=if decide (c.child < c.gap) && P4.eqV c.from_ c.to_ then IntKind.i64.wrap (c.gap - 1) else c.gap
def plainR (c:Ch):List Int→List Int
  | []=>[]
  | k :: r=>plainR c r ++ [numV c r.reverse k]
def toV (c:Ch):List Int:=plainR c c.to_.reverse
def nodeR (c:Ch):List Int→Option (List Int)
  | []=>some []
  | k :: r=>if hitV c r.reverse k = true then (if c.puts = true then some (toV c ++ [landV c]) else none) else (nodeR c r).map (· ++ [numV c r.reverse k])
def nodeV (c:Ch) (p:List Int):Option (List Int):=nodeR c p.reverse
def gapV (c:Ch) (p:List Int) (i:Int) (first:Bool):Int :=
  if c.puts && (P4.eqV p c.to_ && (decide (i > c.gap) || ((i == c.gap) && !first))) then IntKind.i64.wrap (lessV c p i + 1) else lessV c p i
def Clear (c:Ch) (p:List Int):Prop:=∀ q k r,p = q ++ k :: r→hitV c q k = false

theorem nodeV_snoc (c:Ch) (q:List Int) (k:Int):nodeV c (q ++ [k]) = if hitV c q k = true then (if c.puts = true then some (toV c ++ [landV c]) else none) else (nodeV c q).map (· ++ [numV c q k]):=by
  unfold nodeV
  rw [List.reverse_append,List.reverse_cons,List.reverse_nil,List.nil_append,List.singleton_append,nodeR,List.reverse_reverse]
theorem Clear.init {c:Ch} {q:List Int} {k:Int} (h:Clear c (q ++ [k])):Clear c q:=fun a b r e=>h a b (r ++ [k]) (by rw [e];simp)
theorem Clear.last {c:Ch} {q:List Int} {k:Int} (h:Clear c (q ++ [k])):hitV c q k = false:=h q k [] rfl
theorem Clear.nil (c:Ch):Clear c []:=fun q k r e=>by simp at e
theorem snoc_cases (p:List Int):p = []∨∃ q k,p = q ++ [k]:=by
  rcases List.eq_nil_or_concat p with h | ⟨q,k,h⟩
  · exact .inl h
  · exact .inr ⟨q,k,by rw [h];simp⟩
theorem nodeV_clear {c:Ch}:∀ (n:Nat) (p:List Int),p.length = n→Clear c p→nodeV c p = some (plainR c p.reverse)
  | 0,p,hn,_=>by
    obtain rfl:=List.eq_nil_of_length_eq_zero hn
    rfl
  | n + 1,p,hn,h=>by
    rcases snoc_cases p with rfl | ⟨q,k,rfl⟩
    · simp at hn
    · rw [nodeV_snoc,if_neg (by rw [h.last];simp),nodeV_clear n q (by simp at hn;exact hn) h.init,List.reverse_append,List.reverse_cons,List.reverse_nil,List.nil_append,List.singleton_append,plainR,List.reverse_reverse]
      rfl
theorem nodeV_to {c:Ch} (h:Clear c c.to_):nodeV c c.to_ = some (toV c):=nodeV_clear _ _ rfl h
theorem ch_clear (o:Ov):Clear (chV o) (chV o).to_:=by
  unfold chV
  split
  · split
    · exact fun q k r e=>rfl
    · split
      · split
        · exact Clear.nil _
        · exact Clear.nil _
      · split
        · split
          · exact Clear.nil _
          · rename_i h3 hw
            intro q k r e
            show (true && ((k == o.path.getLastD 0) && P4.eqV q o.path.dropLast)) = false
            cases h:((k == o.path.getLastD 0) && P4.eqV q o.path.dropLast) with
            | false=>rfl
            | true =>
              rw [Bool.and_eq_true] at h
              have h1:=beq_iff_eq.1 h.1
              have h2:q = o.path.dropLast:=of_decide_eq_true h.2
              exfalso
              apply hw
              have e':o.to_ = q ++ k :: r:=e
              rcases snoc_cases o.path with hp | ⟨a,b,hp⟩
              · rw [hp]
                unfold P4.withinV
                exact decide_eq_true (by cases o.to_ <;> rfl)
              · rw [hp,List.getLastD_concat] at h1
                rw [hp,List.dropLast_concat] at h2
                subst h1 h2
                rw [within_pre,hp,e']
                exact decide_eq_true ⟨r,by simp⟩
        · exact Clear.nil _
  · exact Clear.nil _
theorem ch_one {o:Ov} (hf:formedV o = true) (h:o.kind = 1):chV o = ⟨false,[],0,true,o.path,o.at_⟩:=by unfold chV;rw [if_pos hf,if_pos h]
theorem ch_two {o:Ov} {q:List Int} {d:Int} (hf:formedV o = true) (h:o.kind = 2) (hp:o.path = q ++ [d]):chV o = ⟨true,q,d,false,[],0⟩:=by
  unfold chV
  rw [if_pos hf,if_neg (by omega),if_pos h,if_neg (by rw [hp];simp),hp,List.dropLast_concat,List.getLastD_concat]
theorem ch_three {o:Ov} {q:List Int} {d:Int} (hf:formedV o = true) (h:o.kind = 3) (hp:o.path = q ++ [d]) (hw:P4.withinV o.path o.to_ = false):chV o = ⟨true,q,d,true,o.to_,o.at_⟩:=by
  unfold chV
  rw [if_pos hf,if_neg (by omega),if_neg (by omega),if_pos h,if_neg (by rw [hw];simp),hp,List.dropLast_concat,List.getLastD_concat]
end Go.Proofs.Ytfaolhcacaeijaa.Shf
namespace Go.Proofs.Ytfaolhcacaeijaa.Top
open Go.RowKit
set_option maxRecDepth 20000
set_option linter.unusedVariables false

theorem its4 {w:World} {A:Option Addr} {n:Nat} {xs:List Int} (h:Its w A n xs):P4.Its w A n xs:=h
theorem wp_scope_once {P:Program} {a:Act} {w:World} {Q:Exit→Act→World→Prop} {c rest:Code} (l:Nat) (hf:findLabel c l = some rest)
    (first:c.wp P (Exit.jump l (fun a' w'=>rest.wp P (Exit.jump l (fun _ _=>False) Q) a' w') Q) a w):(Code.scope c).wp P Q a w :=
  wp_scope_jumps l (fun a' w'=>rest.wp P (Exit.jump l (fun _ _=>False) Q) a' w') (fun _ _=>0) hf first fun a w h=>Code.wp_mono (fun e a w hq=>by
    cases e <;> first | exact hq | exact absurd hq.2 id) h
structure Four (w:World) (v2 v3 v5 v6:Array Value) (W:World):Prop where
  rn:W.heap[w.heap.size]? = some (.cells v2 44 (0,0))
  ro:W.heap[w.heap.size + 1]? = some (.cells v3 26 (0,0))
  r5:W.heap[w.heap.size + 1 + 1]? = some (.cells v5 44 (0,0))
  r6:W.heap[w.heap.size + 1 + 1 + 1]? = some (.cells v6 44 (0,0))
  bel:Below w.heap.size w W
section
variable {w W W':World} {v2 v3 v5 v6:Array Value}
theorem Four.below (h:Four w v2 v3 v5 v6 W) (hb:Below W.heap.size W W'):Four w v2 v3 v5 v6 W' :=
  ⟨(hb.block _ (Array.getElem?_eq_some_iff.1 h.rn).1).trans h.rn,(hb.block _ (Array.getElem?_eq_some_iff.1 h.ro).1).trans h.ro,(hb.block _ (Array.getElem?_eq_some_iff.1 h.r5).1).trans h.r5,(hb.block _ (Array.getElem?_eq_some_iff.1 h.r6).1).trans h.r6,h.bel.trans (hb.mono h.bel.size)⟩
end
theorem op_cells {W:World} {b:Nat} {o:Ov} {s:OS} (h:W.heap[b]? = some (.cells (opCells o s) 26 (0,0))):W.cell? ⟨b,0,none⟩ = some (.int .u8 (o.kind:Int))∧W.cell? ⟨b,1,none⟩ = some (.slice s.pA s.pn s.pc)∧W.cell? ⟨b,2,none⟩ = some (.int .i64 o.at_)∧W.cell? ⟨b,3,none⟩ = some (.slice s.tA s.tn s.tc)∧W.cell? ⟨b,4,none⟩ = some (.int .u64 (o.id:Int)) ∧
    W.cell? ⟨b,5,none⟩ = some (.bool o.leaf)∧W.cell? ⟨b,6,none⟩ = some (.string ⟨o.label.toArray⟩)∧W.cell? ⟨b,7,none⟩ = some (.string ⟨o.key.toArray⟩)∧W.cell? ⟨b,8,none⟩ = some (.string ⟨o.value.toArray⟩)∧W.cell? ⟨b,9,none⟩ = some (.bool o.gone)∧W.cell? ⟨b,10,none⟩ = some (.slice s.qA s.qn s.qc):=by
  unfold opCells at h
  exact ⟨cell_of_row W b 0 _ _ _ h,cell_of_row W b 1 _ _ _ h,cell_of_row W b 2 _ _ _ h,cell_of_row W b 3 _ _ _ h,cell_of_row W b 4 _ _ _ h,cell_of_row W b 5 _ _ _ h,cell_of_row W b 6 _ _ _ h,cell_of_row W b 7 _ _ _ h,cell_of_row W b 8 _ _ _ h,cell_of_row W b 9 _ _ _ h,cell_of_row W b 10 _ _ _ h⟩
end Go.Proofs.Ytfaolhcacaeijaa.Top
namespace Go.Proofs.Ytfaolhcacaeijaa.Top
open Go.RowKit
set_option maxRecDepth 20000
set_option linter.unusedVariables false

def m1:Nat:=13830554455654793216
end Go.Proofs.Ytfaolhcacaeijaa.Top
namespace Go.Proofs.Ytfaolhcacaeijaa.Top
open Go.RowKit
set_option maxRecDepth 20000
set_option linter.unusedVariables false

theorem copied_any (w:World) (A:Option Addr) (n c:Nat) (xs:List Int) (hA:Its w A n xs) (hnil:A = none→c = 0) (hn:n≤500000) :
    Calls Try.prog 158 #[.slice A n c] w (P4.NewRow w xs):=by
  have hA':=Lib.hid hA
  have hl:=Lib.hid hA.1
  have hn':=Lib.hid hnil
  clear hA hnil
  go_enter Try.func158,Try.ntmps158
  go_wp2_with (at_builtin;go_loud (refine P4.wpList_append_its rfl _ (.tmp 3) rfl w.heap.size (.slice none 0 0) [] xs rfl (P4.OwnI.nil_ _ _) A n c rfl hA'.out hn'.out (by have:=hl.out;simp;omega) (Nat.le_refl _) ?_;intro v1 w1 ho1 hg1 hat1))
  go_ret
  exact ⟨_,rfl,ho1,P4.grown_nil hg1⟩
end Go.Proofs.Ytfaolhcacaeijaa.Top
namespace Go.Proofs.Ytfaolhcacaeijaa.Top
open Go.RowKit
set_option maxRecDepth 20000
set_option linter.unusedVariables false

def ipCells (x:P5.IP):List Value:=[.int .i64 x.keep,.int .i64 x.drop,.string ⟨x.put.toArray⟩]
theorem ip_len (l:List P5.IP):(l.flatMap ipCells).length = l.length * 3:=by
  induction l with
  | nil=>rfl
  | cons p r ih=>rw [List.flatMap_cons,List.length_append,ih];simp [ipCells];omega
theorem ip_at:∀ (l:List P5.IP) (q:Nat) (p:P5.IP),l[q]? = some p→∀ j v,(ipCells p)[j]? = some v→(l.flatMap ipCells)[q * 3 + j]? = some v
  | a :: r,0,p,h,j,v,hj=>by
    simp at h
    subst h
    have hjl:=(List.getElem?_eq_some_iff.1 hj).1
    rw [List.flatMap_cons,Nat.zero_mul,Nat.zero_add,List.getElem?_append_left hjl,hj]
  | a :: r,q + 1,p,h,j,v,hj=>by
    have ih:=ip_at r q p (by simpa using h) j v hj
    rw [List.flatMap_cons,List.getElem?_append_right (by simp [ipCells];omega)]
    rw [show (q + 1) * 3 + j - (ipCells a).length = q * 3 + j by simp [ipCells];omega]
    exact ih
theorem ip_of:∀ (l:List P5.IP) (i:Nat) (v:Value),(l.flatMap ipCells)[i]? = some v→∃ p j,l[i / 3]? = some p∧j = i % 3∧(ipCells p)[j]? = some v
  | [],i,v,h=>by simp at h
  | a :: r,i,v,h=>by
    rw [List.flatMap_cons] at h
    by_cases hi:i < 3
    · rw [List.getElem?_append_left (by simp [ipCells];omega)] at h
      refine ⟨a,i,by rw [show i / 3 = 0 by omega];rfl,by omega,h⟩
    · rw [List.getElem?_append_right (by simp [ipCells];omega)] at h
      obtain ⟨p,j,h1,h2,h3⟩:=ip_of r _ v h
      refine ⟨p,j,?_,?_,h3⟩
      · rw [show i / 3 = (i - 3) / 3 + 1 by omega]
        simpa [ipCells] using h1
      · simp [ipCells] at h2
        omega
def OwnQ (base:Nat) (w:World) (v:Value) (l:List P5.IP):Prop:=w.ownsRow base 71 3 v l.length (l.flatMap ipCells)
theorem OwnQ.nil_ (base:Nat) (w:World):OwnQ base w (.slice none 0 0) []:=World.ownsRow_nil w base _ _
def IPok (x:P5.IP):Prop:=-9223372036854775808≤x.keep∧x.keep≤9223372036854775807∧-9223372036854775808≤x.drop∧x.drop≤9223372036854775807∧x.put.length≤maxLen
theorem pcs_ok {w:World} {A:Option Addr} {n:Nat} {l:List P5.IP} (h:P5.PcsIn w A n l):∀ x ∈ l,IPok x:=fun x hx=>by
  obtain ⟨q,hq⟩:=List.mem_iff_getElem?.1 hx
  obtain ⟨ad,-,-,h1,h2,h3,h4,h5,-⟩:=h.2 q x hq
  exact ⟨h1,h2,h3,h4,h5⟩
theorem OwnQ.shape {base:Nat} {w:World} {v:Value} {l:List P5.IP} (h:OwnQ base w v l) (hl:∀ x ∈ l,IPok x):∃ (A:Option Addr) (n c:Nat),v = .slice A n c∧n = l.length∧n≤c∧c≤maxLen∧P5.PcsIn w A n l∧(A = none→c = 0):=by
  obtain ⟨A,c,rfl,h1,h2,h3,h4⟩:=own_form h
  refine ⟨A,_,c,rfl,rfl,h1,h2,⟨rfl,fun q p hp=>?_⟩,h3⟩
  have hq:=(List.getElem?_eq_some_iff.1 hp).1
  obtain ⟨g,rfl,hb,hlt,hc⟩:=h4 (by omega)
  obtain ⟨m1,m2,m3,m4,m5⟩:=hl p (List.mem_of_getElem? hp)
  have c0:=hc _ _ (ip_at l q p hp 0 _ rfl)
  have c1:=hc _ _ (ip_at l q p hp 1 _ rfl)
  have c2:=hc _ _ (ip_at l q p hp 2 _ rfl)
  have hadd:(⟨g,0,none⟩:Addr).add (q * 3) = ⟨g,q * 3,none⟩:=by unfold Addr.add;split <;> simp_all
  refine ⟨_,rfl,hlt,?_⟩
  rw [hadd]
  exact ⟨m1,m2,m3,m4,m5,c0,c1,c2⟩
theorem wpList_append_pcs {w:World} {ops:Array Oper} {rest:List Oper} {o:Oper} {a:Act} {Q:Exit→Act→World→Prop} (hgd:o.guard = none) (s x:Operand)
    (ho:o.op = .call { callee:=.builtin .append,args:=#[s,x],argTypes:=#[24,24] })
    (base:Nat) (v:Value) (xs ys:List P5.IP) (hs:a.eval s = v) (hown:OwnQ base w v xs)
    (A:Option Addr) (m c:Nat) (hx:a.eval x = .slice A m c) (hB:P5.PcsIn w A m ys) (hnil:A = none→c = 0)
    (hlen:xs.length + ys.length≤1000000) (hbase:base≤w.heap.size)
    (h:∀ v' w',OwnQ base w' v' (xs ++ ys)→w.grownBy w' v.ownBlock→(v'.ownBlock = v.ownBlock∨v'.ownBlock = some w.heap.size)→wpList Try.prog ops Q rest (a.put o.dst v') w') :
    wpList Try.prog ops Q (o :: rest) a w:=by
  obtain ⟨i0,hi,hz0,hz1,hz2⟩:=info_parts P5.Try.infoP
  obtain rfl:=hB.1
  cases A with
  | none =>
    obtain rfl:=hB.none_nil
    obtain rfl:=hnil rfl
    refine wpList_append_own_none hgd s x _ ho base 71 i0 3 Try.underlying24 hi v _ _ hs hown hx ?_
    exact h v w (by rw [List.append_nil];exact hown) (World.grownBy.refl w _) (.inl rfl)
  | some ad =>
    refine wpList_append_own_at w hgd s x _ ho base 71 i0 _ 3 32 Try.underlying24 hi hz0 hz1 hz2 rfl (by omega) v xs.length (xs.flatMap ipCells) hs hown ad ys.length c (ys.flatMap ipCells) hx (by rw [ip_len])
      (fun j u hj=>?_) (fun u hu=>?_) (by unfold maxLen;omega) (by omega) hbase ?_
    · obtain ⟨p,k,h1,h2,h3⟩:=ip_of ys j u hj
      obtain ⟨ad',e,_,-,-,-,-,-,c0,c1,c2⟩:=hB.2 _ p h1
      cases Option.some.inj e
      have hj3:j = (j / 3) * 3 + k:=by omega
      have hk:k = 0∨k = 1∨k = 2:=by omega
      have haa:∀ (E:Addr) (i:Nat),(⟨E.block,E.off + (i + 1),none⟩:Addr) = E.add (i + 1):=fun E i=>rfl
      rw [hj3,← P4.add_add]
      rcases hk with rfl | rfl | rfl
      · simp only [ipCells] at h3
        injection h3 with h3
        rw [← h3]
        exact c0
      · simp only [ipCells] at h3
        injection h3 with h3
        rw [← h3]
        exact c1
      · simp only [ipCells] at h3
        injection h3 with h3
        rw [← h3]
        exact c2
    · obtain ⟨p,-,h2⟩:=List.mem_flatMap.1 hu
      simp only [ipCells,List.mem_cons,List.not_mem_nil,or_false] at h2
      rcases h2 with rfl | rfl | rfl <;> rfl
    · intro v' w' hown' hgrow _ hat
      refine h v' w' ?_ hgrow hat
      unfold OwnQ
      rw [List.length_append,List.flatMap_append]
      exact hown'
end Go.Proofs.Ytfaolhcacaeijaa.Top
namespace Go.Proofs.Ytfaolhcacaeijaa.Top
open Go.RowKit
set_option maxRecDepth 20000
set_option linter.unusedVariables false

def bareV (o:Ov):Ov where
  kind:=o.kind
  path:=if 1≤o.kind∧o.kind≤6 then o.path else []
  at_:=if o.kind = 1∨o.kind = 3 then o.at_ else 0
  to_:=if o.kind = 3 then o.to_ else []
  id:=if o.kind = 1 then o.id else 0
  leaf:=if o.kind = 1 then o.leaf else false
  label:=if o.kind = 1∨o.kind = 5 then o.label else []
  key:=if o.kind = 4 then o.key else []
  value:=if o.kind = 4∧o.gone = false then o.value else []
  gone:=if o.kind = 4 then o.gone else false
  pieces:=if o.kind = 6 then o.pieces else []
theorem own_kept {w w':World} {base:Nat} {e:TypeId} {size:Nat} {v:Value} {n:Nat} {xs:List Value} (h:w.ownsRow base e size v n xs) (hk:∀ k,base≤k→k < w.heap.size→w'.heap[k]? = w.heap[k]?):w'.ownsRow base e size v n xs:=by
  obtain ⟨h1,h2 | ⟨g,cap,cur,rfl,hb,hg,hr⟩⟩:=h
  · exact ⟨h1,.inl h2⟩
  · exact ⟨h1,.inr ⟨g,cap,cur,rfl,hb,(hk g hb (Array.getElem?_eq_some_iff.1 hg).1).trans hg,hr⟩⟩
theorem own_mono {w:World} {base base':Nat} {e:TypeId} {size:Nat} {v:Value} {n:Nat} {xs:List Value} (h:w.ownsRow base e size v n xs) (hb:base'≤base):w.ownsRow base' e size v n xs:=by
  obtain ⟨h1,h2 | ⟨g,cap,cur,rfl,hbb,hr⟩⟩:=h
  · exact ⟨h1,.inl h2⟩
  · exact ⟨h1,.inr ⟨g,cap,cur,rfl,Nat.le_trans hb hbb,hr⟩⟩
structure OwnOp (base:Nat) (w:World) (o:Ov) (s:OS):Prop where
  path:P4.OwnI base w (.slice s.pA s.pn s.pc) o.path
  to_:P4.OwnI base w (.slice s.tA s.tn s.tc) o.to_
  pieces:OwnQ base w (.slice s.qA s.qn s.qc) o.pieces
theorem OwnOp.kept {w w':World} {base:Nat} {o:Ov} {s:OS} (h:OwnOp base w o s) (hk:∀ k,base≤k→k < w.heap.size→w'.heap[k]? = w.heap[k]?):OwnOp base w' o s :=
  ⟨own_kept h.path hk,own_kept h.to_ hk,own_kept h.pieces hk⟩
theorem OwnOp.mono {w:World} {base base':Nat} {o:Ov} {s:OS} (h:OwnOp base w o s) (hb:base'≤base):OwnOp base' w o s :=
  ⟨own_mono h.path hb,own_mono h.to_ hb,own_mono h.pieces hb⟩
structure OvOk (o:Ov):Prop where
  kind:o.kind < 256
  at_:-9223372036854775808≤o.at_∧o.at_≤9223372036854775807
  id:o.id < 18446744073709551616
  label:o.label.length≤maxLen
  key:o.key.length≤maxLen
  value:o.value.length≤maxLen
  pfew:o.path.length≤500000
  tfew:o.to_.length≤500000
  qfew:o.pieces.length≤500000
  pfit:Fit o.path
  tfit:Fit o.to_
  pieces:∀ x ∈ o.pieces,IPok x
theorem op_ok {w:World} {o:Ov} {s:OS} (h:OpIn w o s):OvOk o :=
  ⟨h.kind,h.at_,h.id,h.label,h.key,h.value,by rw [h.path.1];exact h.pfew,by rw [h.to_.1];exact h.tfew,by rw [h.pieces.1];exact h.qfew,h.pfit,h.tfit,pcs_ok h.pieces⟩
theorem OvOk.bare {o:Ov} (h:OvOk o):OvOk (bareV o):=by
  have nilP:Fit []:=fun x hx=>by cases hx
  refine ⟨h.kind,?_,?_,?_,?_,?_,?_,?_,?_,?_,?_,?_⟩ <;> unfold bareV <;> dsimp only <;> split
  · exact h.at_
  · omega
  · exact h.id
  · omega
  · exact h.label
  · exact Nat.zero_le _
  · exact h.key
  · exact Nat.zero_le _
  · exact h.value
  · exact Nat.zero_le _
  · exact h.pfew
  · exact Nat.zero_le _
  · exact h.tfew
  · exact Nat.zero_le _
  · exact h.qfew
  · exact Nat.zero_le _
  · exact h.pfit
  · exact nilP
  · exact h.tfit
  · exact nilP
  · exact h.pieces
  · intro x hx;cases hx
theorem OwnOp.op {base:Nat} {w:World} {o:Ov} {s:OS} (h:OwnOp base w o s) (hok:OvOk o):OpIn w o s:=by
  obtain ⟨A1,n1,c1,e1,hn1,hc1,hm1,hi1,hz1⟩:=P4.OwnI.shape h.path
  obtain ⟨A2,n2,c2,e2,hn2,hc2,hm2,hi2,hz2⟩:=P4.OwnI.shape h.to_
  obtain ⟨A3,n3,c3,e3,hn3,hc3,hm3,hi3,hz3⟩:=OwnQ.shape h.pieces hok.pieces
  injection e1 with a1 b1 d1
  injection e2 with a2 b2 d2
  injection e3 with a3 b3 d3
  subst a1 b1 d1 a2 b2 d2 a3 b3 d3
  exact ⟨hok.kind,hi1,hc1,hm1,hz1,hok.at_,hi2,hc2,hm2,hz2,hok.id,hok.label,hok.key,hok.value,hi3,hc3,hm3,hz3,by rw [hn1];exact hok.pfew,by rw [hn2];exact hok.tfew,by rw [hn3];exact hok.qfew,hok.pfit,hok.tfit⟩
theorem set_op {w:World} {g:Nat} {a0 a1 a2 a3 a4 a5 a6 a7 a8 a9 a10 b0 b1 b2 b3 b4 b5 b6 b7 b8 b9 b10:Value} {ty:TypeId} (h:w.heap[g]? = some (.cells #[a0,a1,a2,a3,a4,a5,a6,a7,a8,a9,a10] ty (0,0))) :
    (((((((((((w.setCell ⟨g,0,none⟩ (b0)).setCell ⟨g,1,none⟩ (b1)).setCell ⟨g,2,none⟩ (b2)).setCell ⟨g,3,none⟩ (b3)).setCell ⟨g,4,none⟩ (b4)).setCell ⟨g,5,none⟩ (b5)).setCell ⟨g,6,none⟩ (b6)).setCell ⟨g,7,none⟩ (b7)).setCell ⟨g,8,none⟩ (b8)).setCell ⟨g,9,none⟩ (b9)).setCell ⟨g,10,none⟩ (b10)).heap[g]? = some (.cells #[b0,b1,b2,b3,b4,b5,b6,b7,b8,b9,b10] ty (0,0)):=by
  have e0:=heap_setCell_same w g 0 _ _ b0 h
  have e1:=heap_setCell_same _ g 1 _ _ b1 e0
  have e2:=heap_setCell_same _ g 2 _ _ b2 e1
  have e3:=heap_setCell_same _ g 3 _ _ b3 e2
  have e4:=heap_setCell_same _ g 4 _ _ b4 e3
  have e5:=heap_setCell_same _ g 5 _ _ b5 e4
  have e6:=heap_setCell_same _ g 6 _ _ b6 e5
  have e7:=heap_setCell_same _ g 7 _ _ b7 e6
  have e8:=heap_setCell_same _ g 8 _ _ b8 e7
  have e9:=heap_setCell_same _ g 9 _ _ b9 e8
  have e10:=heap_setCell_same _ g 10 _ _ b10 e9
  rw [e10]
  simp
theorem set_op_other {w:World} {g k:Nat} {b0 b1 b2 b3 b4 b5 b6 b7 b8 b9 b10:Value} (h:k ≠ g):(((((((((((w.setCell ⟨g,0,none⟩ (b0)).setCell ⟨g,1,none⟩ (b1)).setCell ⟨g,2,none⟩ (b2)).setCell ⟨g,3,none⟩ (b3)).setCell ⟨g,4,none⟩ (b4)).setCell ⟨g,5,none⟩ (b5)).setCell ⟨g,6,none⟩ (b6)).setCell ⟨g,7,none⟩ (b7)).setCell ⟨g,8,none⟩ (b8)).setCell ⟨g,9,none⟩ (b9)).setCell ⟨g,10,none⟩ (b10)).heap[k]? = w.heap[k]?:=by
  repeat rw [heap_setCell_other _ _ k _ h]
theorem below_op {B:Nat} {w0 w:World} {g:Nat} {b0 b1 b2 b3 b4 b5 b6 b7 b8 b9 b10:Value} (h:Below B w0 w) (hg:B≤g):Below B w0 (((((((((((w.setCell ⟨g,0,none⟩ (b0)).setCell ⟨g,1,none⟩ (b1)).setCell ⟨g,2,none⟩ (b2)).setCell ⟨g,3,none⟩ (b3)).setCell ⟨g,4,none⟩ (b4)).setCell ⟨g,5,none⟩ (b5)).setCell ⟨g,6,none⟩ (b6)).setCell ⟨g,7,none⟩ (b7)).setCell ⟨g,8,none⟩ (b8)).setCell ⟨g,9,none⟩ (b9)).setCell ⟨g,10,none⟩ (b10)) :=
  ((((((((((h.setCell hg _).setCell hg _).setCell hg _).setCell hg _).setCell hg _).setCell hg _).setCell hg _).setCell hg _).setCell hg _).setCell hg _).setCell hg _
theorem end_op {w w1:World} {r:Nat} {ty:TypeId} {o:Ov} {s:OS} {a0 a1 a2 a3 a4 a5 a6 a7 a8 a9 a10:Value} (hw:w.heap.size≤r) (hb:Below w.heap.size w w1) (hr:w1.heap[r]? = some (.cells #[a0,a1,a2,a3,a4,a5,a6,a7,a8,a9,a10] ty (0,0))) :
    ∃ W9,W9 = (((((((((((w1.setCell ⟨r,0,none⟩ (.int .u8 (o.kind:Int))).setCell ⟨r,1,none⟩ (.slice s.pA s.pn s.pc)).setCell ⟨r,2,none⟩ (.int .i64 o.at_)).setCell ⟨r,3,none⟩ (.slice s.tA s.tn s.tc)).setCell ⟨r,4,none⟩ (.int .u64 (o.id:Int))).setCell ⟨r,5,none⟩ (.bool o.leaf)).setCell ⟨r,6,none⟩ (.string ⟨o.label.toArray⟩)).setCell ⟨r,7,none⟩ (.string ⟨o.key.toArray⟩)).setCell ⟨r,8,none⟩ (.string ⟨o.value.toArray⟩)).setCell ⟨r,9,none⟩ (.bool o.gone)).setCell ⟨r,10,none⟩ (.slice s.qA s.qn s.qc))∧W9.heap[r]? = some (.cells (opCells o s) ty (0,0))∧Below w.heap.size w W9∧W9.heap.size = w1.heap.size∧∀ k,k ≠ r→W9.heap[k]? = w1.heap[k]? :=
  ⟨_,rfl,set_op hr,below_op hb hw,by simp only [World.size_setCell],fun k hk=>set_op_other hk⟩
def zero11:Array Value:=#[.int .u8 0,.slice none 0 0,.int .i64 0,.slice none 0 0,.int .u64 0,.bool false,.string ⟨#[]⟩,.string ⟨#[]⟩,.string ⟨#[]⟩,.bool false,.slice none 0 0]
def BareA (w:World) (b:Ov) (e:Ending) (w':World):Prop:=∃ s,e = .returned (.agg (opCells b s))∧OwnOp w.heap.size w' b s∧Below w.heap.size w w'
theorem eleven_cells {w:World} {g:Nat} {b0 b1 b2 b3 b4 b5 b6 b7 b8 b9 b10:Value} {t:TypeId} (h:w.heap[g]? = some (.cells #[b0,b1,b2,b3,b4,b5,b6,b7,b8,b9,b10] t (0,0))) :
    w.cell? ⟨g,0,none⟩ = some b0∧w.cell? ⟨g,1,none⟩ = some b1∧w.cell? ⟨g,2,none⟩ = some b2∧w.cell? ⟨g,3,none⟩ = some b3∧w.cell? ⟨g,4,none⟩ = some b4∧w.cell? ⟨g,5,none⟩ = some b5∧w.cell? ⟨g,6,none⟩ = some b6∧w.cell? ⟨g,7,none⟩ = some b7∧w.cell? ⟨g,8,none⟩ = some b8∧w.cell? ⟨g,9,none⟩ = some b9∧w.cell? ⟨g,10,none⟩ = some b10∧∀ o,w.frozen? ⟨g,o,none⟩ = false :=
  ⟨cell_of_row w g 0 _ _ _ h,cell_of_row w g 1 _ _ _ h,cell_of_row w g 2 _ _ _ h,cell_of_row w g 3 _ _ _ h,cell_of_row w g 4 _ _ _ h,cell_of_row w g 5 _ _ _ h,cell_of_row w g 6 _ _ _ h,cell_of_row w g 7 _ _ _ h,cell_of_row w g 8 _ _ _ h,cell_of_row w g 9 _ _ _ h,cell_of_row w g 10 _ _ _ h,fun o=>frozen_of_row w g o _ _ h⟩
end Go.Proofs.Ytfaolhcacaeijaa.Top
