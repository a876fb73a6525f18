/- MgAS: SqrB SqrC -/
import Derived.Test.YtfaolhcacaeijaaMgAP
import Derived.Test.YtfaolhcacaeijaaMgAR
import Derived.Test.YtfaolhcacaeijaaMgAN
import Derived.Test.YtfaolhcacaeijaaShfRe
import Derived.Test.YtfaolhcacaeijaaMgAO
set_option linter.all false
namespace Go.Proofs.Ytfaolhcacaeijaa.Sqr
open Go.RowKit Top Shf Sim
set_option maxRecDepth 20000
set_option linter.unusedVariables false

def NodeS (w:World) (q:List Int) (e:Ending) (w':World):Prop:=∃ A n c b,e = .returned (.tuple #[.slice A n c,.bool b])∧P4.OwnI w.heap.size w' (.slice A n c) q∧Below w.heap.size w w'
theorem nodeS {w:World} {a:Ov} {p:List Int} {e:Ending} {w':World} (h:NodeA w (nodeV (chV a) p) e w'):NodeS w (nodeD a p) e w':=by
  unfold nodeD
  rcases h with ⟨h1,rfl,hb⟩ | ⟨v,xs,h1,rfl,h2,hb⟩
  · rw [h1]
    exact ⟨none,0,0,_,rfl,P4.OwnI.nil_ _ _,hb⟩
  · rw [h1]
    obtain ⟨A,n,c,rfl,-⟩:=P4.OwnI.shape h2
    exact ⟨A,n,c,_,rfl,h2,hb⟩
def GapS (w:World) (q:List Int) (g:Int) (e:Ending) (w':World):Prop:=∃ A n c b,e = .returned (.tuple #[.slice A n c,.int .i64 g,.bool b])∧P4.OwnI w.heap.size w' (.slice A n c) q∧Below w.heap.size w w'
theorem gapS {w:World} {a:Ov} {p:List Int} {i:Int} {first:Bool} {e:Ending} {w':World} (h:GapA w (nodeV (chV a) p) (gapV (chV a) p i first) e w'):GapS w (nodeD a p) (gapD a p i first) e w':=by
  unfold nodeD gapD
  rcases h with ⟨h1,rfl,hb⟩ | ⟨v,xs,h1,rfl,h2,hb⟩
  · rw [h1,if_pos rfl]
    exact ⟨none,0,0,_,rfl,P4.OwnI.nil_ _ _,hb⟩
  · rw [h1,if_neg (by simp)]
    obtain ⟨A,n,c,rfl,-⟩:=P4.OwnI.shape h2
    exact ⟨A,n,c,_,rfl,h2,hb⟩
theorem nodeD_ok {a:Ov} (hl:Slen a) (ho:OvOk a) {p:List Int} (hf:Fit p):(nodeD a p).length≤p.length + 1001∧Fit (nodeD a p):=by
  unfold nodeD
  cases h:nodeV (chV a) p with
  | none=>exact ⟨Nat.zero_le _,fun x hx=>by simp at hx⟩
  | some xs=>exact node_ok hl ho.pfit ho.tfit ho.at_ h hf
theorem gapD_in {a:Ov} {p:List Int} {i:Int} {first:Bool} (h:InI i):InI (gapD a p i first):=by
  unfold gapD
  split
  · unfold InI;omega
  · exact gap_in h
def OpA (w:World) (b:Ov) (e:Ending) (w':World):Prop:=∃ s,e = .returned (.agg (opCells b s))∧OpIn w' b s∧Below w.heap.size w w'
theorem with_path {W:World} {b:Ov} {s:OS} {A:Option Addr} {n c:Nat} {q:List Int} (h:OpIn W b s) (hA:Its W A n q) (h1:n≤c) (h2:c≤maxLen) (h3:A = none→c = 0) (h4:q.length≤500000) (h5:Fit q):OpIn W { b with path:=q } { s with pA:=A,pn:=n,pc:=c } :=
  { h with path:=hA,pnc:=h1,pcm:=h2,pnil:=h3,pfew:=by have:=hA.1;show n≤500000;omega,pfit:=h5 }
theorem with_to {W:World} {b:Ov} {s:OS} {A:Option Addr} {n c:Nat} {q:List Int} (h:OpIn W b s) (hA:Its W A n q) (h1:n≤c) (h2:c≤maxLen) (h3:A = none→c = 0) (h4:q.length≤500000) (h5:Fit q):OpIn W { b with to_:=q } { s with tA:=A,tn:=n,tc:=c } :=
  { h with to_:=hA,tnc:=h1,tcm:=h2,tnil:=h3,tfew:=by have:=hA.1;show n≤500000;omega,tfit:=h5 }
theorem with_at {W:World} {b:Ov} {s:OS} {i:Int} (h:OpIn W b s) (hi:InI i):OpIn W { b with at_:=i } s:={ h with at_:=hi }
theorem del_in {W:World} {A:Option Addr} {n c:Nat} {q:List Int} (hA:Its W A n q) (h1:n≤c) (h2:c≤maxLen) (h3:A = none→c = 0) (h4:q.length≤500000) (h5:Fit q):OpIn W (delV q) ⟨A,n,c,none,0,0,none,0,0⟩ :=
  ⟨show 2 < 256 by decide,hA,h1,h2,h3,⟨by show (-9223372036854775808:Int)≤0;omega,by show (0:Int)≤9223372036854775807;omega⟩,Its.none_ _,Nat.le_refl _,Nat.zero_le _,fun _=>rfl,show 0 < 18446744073709551616 by decide,Nat.zero_le _,Nat.zero_le _,Nat.zero_le _,P5.PcsIn.nil W,Nat.le_refl _,Nat.zero_le _,fun _=>rfl,by have:=hA.1;show n≤500000;omega,Nat.zero_le _,Nat.zero_le _,h5,fun x hx=>by simp [delV] at hx⟩
set_option maxHeartbeats 8000000 in
theorem deleteBehind_any (w:World) (o:Ov) (s:OS) (A:Option Addr) (n cp:Nat) (p:List Int) (ho:OpIn w o s) (hl:Slen o) (hA:Its w A n p) (hn:n≤cp) (hcp:cp≤maxLen) (hnil:A = none→cp = 0) (hfew:n≤400000) (hf:Fit p) :
    Calls Try.prog 150 #[.agg (opCells o s),.slice A n cp] w (OpA w (delV (nodeD o p))):=by
  obtain ⟨z1,z2,z4,z5⟩:=two_news w (.cells (opCells o s) 26) (.cells zero11 26)
  obtain ⟨W2,hW2⟩:∃ Q9,Q9 = ((w.alloc (.cells (opCells o s) 26)).alloc (.cells zero11 26)):=⟨_,rfl⟩
  rw [← hW2] at z1 z2 z4 z5
  have z1':=Lib.hid z1
  have z2':=Lib.hid z2
  have z4':=Lib.hid z4
  have z5':=Lib.hid z5
  have hq:=Lib.hid (nodeD_ok hl (op_ok ho) hf)
  have hpl:=Lib.hid hA.1
  have hno:=Lib.hid ((Node_any W2 o s A n cp p (ho.below z4) hl (hA.below z4) hn hcp hfew).mono fun e w' h=>nodeS h)
  obtain ⟨q1,hq1⟩:∃ Q9,Q9 = nodeD o p:=⟨_,rfl⟩
  rw [← hq1] at hno hq ⊢
  obtain ⟨o0,o1,o2,o3,o4,o5,o6,o7,o8,o9,o10⟩:=op_cells z1
  rw [hW2] at o0 o1 o2 o3 o4 o5 o6 o7 o8 o9 o10
  clear ho hl hA hf z1 z2 z4 z5 hq1 hnil
  unfold opCells at hW2 hno
  unfold zero11 at hW2
  conv=>arg 3;unfold opCells
  go_enter Try.func150,Try.ntmps150
  go_upto_region 2 with (go_at_call 81;go_loud (rw [← hW2];refine hno.out.mono ?_;rintro e w1 ⟨A1,n1,c1,bb,rfl,h1,hb1⟩;have H1:=Lib.hid h1;have B1:=Lib.hid hb1;clear h1 hb1 o0 o1 o2 o3 o4 o5 o6 o7 o8 o9 o10))
  have y2':=Lib.hid ((B1.out.block (w.heap.size + 1) (by have:=z5'.out;omega)).trans z2'.out)
  have y2:=y2'.out
  unfold zero11 at y2
  obtain ⟨q0,x1,q2,q3,q4,q5,q6,q7,q8,q9,q10,qf⟩:=eleven_cells y2
  have hlt:=(Array.getElem?_eq_some_iff.1 y2).1
  clear y2
  go_wp2_with fail
  obtain ⟨W9,hW9,R9,B9,Z9,K9⟩:=end_op (o:=delV q1) (s:=⟨A1,n1,c1,none,0,0,none,0,0⟩) (r:=w.heap.size + 1) (by omega) (z4'.out.trans (B1.out.mono z4'.out.size)) (show w1.heap[w.heap.size + 1]? = some (.cells #[.int .u8 0,.slice none 0 0,.int .i64 0,.slice none 0 0,.int .u64 0,.bool false,.string ⟨#[]⟩,.string ⟨#[]⟩,.string ⟨#[]⟩,.bool false,.slice none 0 0] _ (0,0)) from y2'.out)
  have hW9':W9 = (((((((((((w1.setCell ⟨w.heap.size + 1,0,none⟩ (.int .u8 2)).setCell ⟨w.heap.size + 1,1,none⟩ (.slice A1 n1 c1)).setCell ⟨w.heap.size + 1,2,none⟩ (.int .i64 0)).setCell ⟨w.heap.size + 1,3,none⟩ (.slice none 0 0)).setCell ⟨w.heap.size + 1,4,none⟩ (.int .u64 0)).setCell ⟨w.heap.size + 1,5,none⟩ (.bool false)).setCell ⟨w.heap.size + 1,6,none⟩ (.string ⟨#[]⟩)).setCell ⟨w.heap.size + 1,7,none⟩ (.string ⟨#[]⟩)).setCell ⟨w.heap.size + 1,8,none⟩ (.string ⟨#[]⟩)).setCell ⟨w.heap.size + 1,9,none⟩ (.bool false)).setCell ⟨w.heap.size + 1,10,none⟩ (.slice none 0 0)):=hW9
  rw [← hW9']
  clear hW9' hW9
  unfold opCells at R9
  obtain ⟨d0,d1,d2,d3,d4,d5,d6,d7,d8,d9,d10,df⟩:=eleven_cells R9
  refine bodyPost_ret (v:=.agg (opCells (delV q1) ⟨A1,n1,c1,none,0,0,none,0,0⟩)) (by simp [results,Try.results150,go_sem,d0,d1,d2,d3,d4,d5,d6,d7,d8,d9,d10,opCells,delV]) rfl ?_
  obtain ⟨e1,e2,e3,e4,e5⟩:=own_facts (Top.own_kept H1.out fun k h1 h2=>K9 k (by have:=z5'.out;omega))
  exact ⟨_,rfl,del_in e1 e2 e3 e4 (by have:=hq.out.1;have:=hpl.out;omega) hq.out.2,B9⟩
set_option maxHeartbeats 4000000 in
theorem drop_any (w:World) (A1:Option Addr) (n1 c1:Nat) (q1:List Int) (hA:Its w A1 n1 q1) (hn:n1≤c1) (hcp:c1≤maxLen) (hnil:A1 = none→c1 = 0) (hfew:n1≤500000) (hf:Fit q1) :
    Calls Try.prog 161 #[.slice A1 n1 c1] w (OpA w (delV q1)):=by
  obtain ⟨W9,hW9⟩:∃ Q9,Q9 = w.alloc (.cells (opCells (delV q1) ⟨A1,n1,c1,none,0,0,none,0,0⟩) 26):=⟨_,rfl⟩
  have R9:=Lib.hid (show W9.heap[w.heap.size]? = some (.cells (opCells (delV q1) ⟨A1,n1,c1,none,0,0,none,0,0⟩) 26 (0,0)) by rw [hW9];exact heap_alloc_new w _)
  have B9:=Lib.hid (show Below w.heap.size w W9 by rw [hW9];exact (Below.refl _ _).alloc (Nat.le_refl _) _)
  have hA':=Lib.hid hA
  have hW9':W9 = w.alloc (.cells #[.int .u8 2,.slice A1 n1 c1,.int .i64 0,.slice none 0 0,.int .u64 0,.bool false,.string ⟨#[]⟩,.string ⟨#[]⟩,.string ⟨#[]⟩,.bool false,.slice none 0 0] 26):=hW9
  clear hA hW9
  go_enter Try.func161,Try.ntmps161
  go_wp2_with fail
  rw [← hW9']
  clear hW9'
  have r9:=R9.out
  unfold opCells at r9
  obtain ⟨d0,d1,d2,d3,d4,d5,d6,d7,d8,d9,d10,df⟩:=eleven_cells r9
  refine bodyPost_ret (v:=.agg (opCells (delV q1) ⟨A1,n1,c1,none,0,0,none,0,0⟩)) (by simp [results,Try.results161,go_sem,d0,d1,d2,d3,d4,d5,d6,d7,d8,d9,d10,opCells,delV]) rfl ?_
  exact ⟨_,rfl,del_in (hA'.out.below B9.out) hn hcp hnil (by have:=hA'.out.1;omega) hf,B9.out⟩
end Go.Proofs.Ytfaolhcacaeijaa.Sqr
namespace Go.Proofs.Ytfaolhcacaeijaa.Sqr
open Go.RowKit Top Shf Sim
set_option maxRecDepth 20000
set_option linter.unusedVariables false

set_option maxHeartbeats 16000000 in
theorem shifted_any (w:World) (b a:Ov) (sb sa:OS) (prior:Bool) (hb:OpIn w b sb) (ha:OpIn w a sa) (hlb:Slen b) (hla:Slen a) :
    Calls Try.prog 153 #[.agg (opCells b sb),.agg (opCells a sa),.bool prior] w (OpA w (shiftedV b a prior)):=by
  obtain ⟨z1,z2,z3,z4,z5⟩:=Top.three_new w (.cells (opCells b sb) 26) (.cells (opCells a sa) 26) (.cells zero11 26)
  obtain ⟨W3,hW3⟩:∃ Q9,Q9 = ((w.alloc (.cells (opCells b sb) 26)).alloc (.cells (opCells a sa) 26)).alloc (.cells zero11 26):=⟨_,rfl⟩
  rw [← hW3] at z1 z2 z3 z4 z5
  have z1':=Lib.hid z1
  have z2':=Lib.hid z2
  have z3':=Lib.hid z3
  have z4':=Lib.hid z4
  have z5':=Lib.hid z5
  have hpn:sb.pn≤1000:=by have:=hb.path.1;have:=hlb.1;omega
  have htn:sb.tn≤1000:=by have:=hb.to_.1;have:=hlb.2;omega
  have hno:=Lib.hid (fun (W:World) (hB:Below w.heap.size w W)=>(Node_any W a sa sb.pA sb.pn sb.pc b.path (ha.below hB) hla (hb.below hB).path hb.pnc hb.pcm (by omega)).mono fun e w' h=>nodeS h)
  have hgp:=Lib.hid (fun (W:World) (hB:Below w.heap.size w W)=>(Gap_any W a sa sb.pA sb.pn sb.pc b.path b.at_ prior (ha.below hB) hla (hb.below hB).path hb.pnc hb.pcm (by omega)).mono fun e w' h=>gapS h)
  have hgt:=Lib.hid (fun (W:World) (hB:Below w.heap.size w W)=>(Gap_any W a sa sb.tA sb.tn sb.tc b.to_ b.at_ prior (ha.below hB) hla (hb.below hB).to_ hb.tnc hb.tcm (by omega)).mono fun e w' h=>gapS h)
  have hq1:=Lib.hid (nodeD_ok hla (op_ok ha) (op_ok hb).pfit)
  have hq2:=Lib.hid (nodeD_ok hla (op_ok ha) (op_ok hb).tfit)
  have hg1:=Lib.hid (gapD_in (a:=a) (p:=b.path) (first:=prior) (op_ok hb).at_)
  have hg2:=Lib.hid (gapD_in (a:=a) (p:=b.to_) (first:=prior) (op_ok hb).at_)
  obtain ⟨r,hr⟩:∃ r,r = shiftedV b a prior:=⟨_,rfl⟩
  rw [← hr]
  have hsv0:=hr
  unfold shiftedV at hsv0
  have hsv:=Lib.hid hsv0
  clear hsv0
  have hlen:=Lib.hid (show b.path.length≤1000∧b.to_.length≤1000 from hlb)
  have hb':=Lib.hid (fun (W:World) (hB:Below w.heap.size w W)=>hb.below hB)
  generalize nodeD a b.path = q1 at hno hgp hq1 hsv
  generalize nodeD a b.to_ = q2 at hgt hq2 hsv
  generalize gapD a b.path b.at_ prior = g1 at hgp hg1 hsv
  generalize gapD a b.to_ b.at_ prior = g2 at hgt hg2 hsv
  obtain ⟨o0,o1,o2,o3,o4,o5,o6,o7,o8,o9,o10⟩:=op_cells z1
  obtain ⟨a0,a1,a2,a3,a4,a5,a6,a7,a8,a9,a10⟩:=op_cells z2
  rw [hW3] at o0 o1 o2 o3 o4 o5 o6 o7 o8 o9 o10 a0 a1 a2 a3 a4 a5 a6 a7 a8 a9 a10
  clear hb ha hlb hla z1 z2 z3 z4 z5 hr hpn htn
  by_cases hk1:b.kind = 1
  · have hkI:=Lib.hid (show (b.kind:Int) = 1 by omega)
    have hre:=Lib.hid (show r = { b with path:=q1,at_:=g1 } by rw [hsv.out,if_pos hk1])
    clear hsv hk1 hno hgt hq2 hg2
    unfold opCells at hgp
    unfold opCells at hW3
    unfold zero11 at hW3
    conv=>arg 3;unfold opCells
    rw [hkI.out] at hW3 o0 ⊢
    go_enter Try.func153,Try.ntmps153
    go_upto_region 8 with (go_at_call 31;go_loud (rw [← hW3];refine (hgp.out _ z4'.out).mono ?_;rintro e w1 ⟨A1,n1,c1,bb,rfl,h1,hb1⟩;have H1:=Lib.hid h1;have E1:=Lib.hid hb1;have y1:=(hb1.block w.heap.size (by have:=z5'.out;omega)).trans z1'.out;have y2:=(hb1.block (w.heap.size + 1) (by have:=z5'.out;omega)).trans z2'.out;have Y1:=Lib.hid y1;have hof:=op_frozen y1;have hlt:w.heap.size < w1.heap.size:=(Array.getElem?_eq_some_iff.1 y1).1;clear o0 o1 o2 o3 o4 o5 o6 o7 o8 o9 o10 a0 a1 a2 a3 a4 a5 a6 a7 a8 a9 a10;obtain ⟨o0,o1,o2,o3,o4,o5,o6,o7,o8,o9,o10⟩:=op_cells y1;obtain ⟨a0,a1,a2,a3,a4,a5,a6,a7,a8,a9,a10⟩:=op_cells y2;clear y1 y2;rw [hkI.out] at o0;clear h1 hb1))
    obtain ⟨W5,hW5⟩:∃ Q9,Q9 = ((w1.setCell ⟨w.heap.size,1,none⟩ (.slice A1 n1 c1)).setCell ⟨w.heap.size,2,none⟩ (.int .i64 g1)):=⟨_,rfl⟩
    rw [← hW5]
    have R1:=Lib.hid (show W5.heap[w.heap.size]? = some (.cells (opCells ({ b with path:=q1,at_:=g1 }:Ov) ({ sb with pA:=A1,pn:=n1,pc:=c1 }:OS)) 26 (0,0)) by rw [hW5];exact set_op2 g1 (set_op1 A1 n1 c1 q1 Y1.out))
    have O5:=Lib.hid (show ∀ k,k ≠ w.heap.size→W5.heap[k]? = w1.heap[k]? by intro k hk;rw [hW5];exact (heap_setCell_other _ _ k _ hk).trans (heap_setCell_other _ _ k _ hk))
    have B5:=Lib.hid (show Below w.heap.size w W5 by rw [hW5];exact (((z4'.out.trans (E1.out.mono z4'.out.size)).setCell (p:=⟨w.heap.size,1,none⟩) (Nat.le_refl _) _).setCell (p:=⟨w.heap.size,2,none⟩) (Nat.le_refl _) _))
    have Z5:=Lib.hid (show W5.heap.size = w1.heap.size by rw [hW5];simp)
    have hz3:=Lib.hid ((E1.out.block (w.heap.size + 1 + 1) (by have:=z5'.out;omega)).trans z3'.out)
    clear hW5 o0 o1 o2 o3 o4 o5 o6 o7 o8 o9 o10 a0 a1 a2 a3 a4 a5 a6 a7 a8 a9 a10 hof hlt
    have hfin:=Lib.hid (fun (W9:World) (B9:Below w.heap.size w W9) (K9:∀ k,k ≠ (w.heap.size + 1 + 1)→W9.heap[k]? = W5.heap[k]?)=>show OpIn W9 { b with path:=q1,at_:=g1 } { sb with pA:=A1,pn:=n1,pc:=c1 } from by
      obtain ⟨e1,e2,e3,e4,e5⟩:=own_facts (Top.own_kept H1.out fun k h1 h2=>(K9 k (by have:=z5'.out;omega)).trans (O5.out k (by have:=z5'.out;omega)))
      exact with_at (b:={ b with path:=q1 }) (with_path (hb'.out W9 B9) e1 e2 e3 e4 (by have:=hq1.out.1;have:=hlen.out.1;omega) hq1.out.2) hg1.out)
    have r3:=(O5.out (w.heap.size + 1 + 1) (by omega)).trans hz3.out
    have r3h:=Lib.hid r3
    unfold zero11 at r3
    obtain ⟨o0,o1,o2,o3,o4,o5,o6,o7,o8,o9,o10⟩:=op_cells R1.out
    obtain ⟨d0,d1,d2,d3,d4,d5,d6,d7,d8,d9,d10,df⟩:=eleven_cells r3
    rw [show ((({ b with path:=q1,at_:=g1 }:Ov)).kind:Int) = _ from hkI.out] at o0
    dsimp only at o0 o1 o2 o3 o4 o5 o6 o7 o8 o9 o10
    have hlt2:(w.heap.size + 1 + 1) < W5.heap.size:=(Array.getElem?_eq_some_iff.1 r3).1
    have hlt0:w.heap.size < W5.heap.size:=by omega
    clear r3
    go_wp2_with fail
    obtain ⟨W9,hW9,R9,B9,Z9,K9⟩:=end_op (o:=({ b with path:=q1,at_:=g1 }:Ov)) (s:=({ sb with pA:=A1,pn:=n1,pc:=c1 }:OS)) (r:=(w.heap.size + 1 + 1)) (by omega) B5.out (show W5.heap[(w.heap.size + 1 + 1)]? = some (.cells #[.int .u8 0,.slice none 0 0,.int .i64 0,.slice none 0 0,.int .u64 0,.bool false,.string ⟨#[]⟩,.string ⟨#[]⟩,.string ⟨#[]⟩,.bool false,.slice none 0 0] _ (0,0)) from r3h.out)
    rw [show ((({ b with path:=q1,at_:=g1 }:Ov)).kind:Int) = _ from hkI.out] at hW9
    have hW9':W9 = (((((((((((W5.setCell ⟨(w.heap.size + 1 + 1),0,none⟩ (.int .u8 1)).setCell ⟨(w.heap.size + 1 + 1),1,none⟩ (.slice A1 n1 c1)).setCell ⟨(w.heap.size + 1 + 1),2,none⟩ (.int .i64 g1)).setCell ⟨(w.heap.size + 1 + 1),3,none⟩ (.slice sb.tA sb.tn sb.tc)).setCell ⟨(w.heap.size + 1 + 1),4,none⟩ (.int .u64 (b.id:Int))).setCell ⟨(w.heap.size + 1 + 1),5,none⟩ (.bool b.leaf)).setCell ⟨(w.heap.size + 1 + 1),6,none⟩ (.string ⟨b.label.toArray⟩)).setCell ⟨(w.heap.size + 1 + 1),7,none⟩ (.string ⟨b.key.toArray⟩)).setCell ⟨(w.heap.size + 1 + 1),8,none⟩ (.string ⟨b.value.toArray⟩)).setCell ⟨(w.heap.size + 1 + 1),9,none⟩ (.bool b.gone)).setCell ⟨(w.heap.size + 1 + 1),10,none⟩ (.slice sb.qA sb.qn sb.qc)):=hW9
    rw [← hW9']
    clear hW9' hW9 d0 d1 d2 d3 d4 d5 d6 d7 d8 d9 d10
    unfold opCells at R9
    obtain ⟨d0,d1,d2,d3,d4,d5,d6,d7,d8,d9,d10,dg⟩:=eleven_cells R9
    dsimp only at d0 d1 d2 d3 d4 d5 d6 d7 d8 d9 d10
    refine bodyPost_ret (v:=.agg (opCells (({ b with path:=q1,at_:=g1 }:Ov)) (({ sb with pA:=A1,pn:=n1,pc:=c1 }:OS)))) (by simp [results,Try.results153,go_sem,d0,d1,d2,d3,d4,d5,d6,d7,d8,d9,d10,opCells]) rfl ?_
    exact ⟨_,by rw [hre.out],by rw [hre.out];exact hfin.out W9 B9 K9,B9⟩
  · by_cases hk3:b.kind = 3
    · have hkI:=Lib.hid (show (b.kind:Int) = 3 by omega)
      have hre:=Lib.hid (show r = { b with path:=q1,to_:=q2,at_:=g2 } by rw [hsv.out,if_neg hk1,if_pos hk3])
      clear hsv hk1 hk3 hgp hg1
      unfold opCells at hno hgt
      unfold opCells at hW3
      unfold zero11 at hW3
      conv=>arg 3;unfold opCells
      rw [hkI.out] at hW3 o0 ⊢
      go_enter Try.func153,Try.ntmps153
      go_upto_region 7 with (go_at_call 81;go_loud (rw [← hW3];refine (hno.out _ z4'.out).mono ?_;rintro e w1 ⟨A1,n1,c1,bb,rfl,h1,hb1⟩;have H1:=Lib.hid h1;have E1:=Lib.hid hb1;have y1:=(hb1.block w.heap.size (by have:=z5'.out;omega)).trans z1'.out;have y2:=(hb1.block (w.heap.size + 1) (by have:=z5'.out;omega)).trans z2'.out;have Y1:=Lib.hid y1;have hof:=op_frozen y1;have hlt:w.heap.size < w1.heap.size:=(Array.getElem?_eq_some_iff.1 y1).1;clear o0 o1 o2 o3 o4 o5 o6 o7 o8 o9 o10 a0 a1 a2 a3 a4 a5 a6 a7 a8 a9 a10;obtain ⟨o0,o1,o2,o3,o4,o5,o6,o7,o8,o9,o10⟩:=op_cells y1;obtain ⟨a0,a1,a2,a3,a4,a5,a6,a7,a8,a9,a10⟩:=op_cells y2;clear y1 y2;rw [hkI.out] at o0;clear h1 hb1))
      obtain ⟨W4,hW4⟩:∃ Q9,Q9 = w1.setCell ⟨w.heap.size,1,none⟩ (.slice A1 n1 c1):=⟨_,rfl⟩
      rw [← hW4]
      have R4:=Lib.hid (show W4.heap[w.heap.size]? = some (.cells (opCells ({ b with path:=q1 }:Ov) ({ sb with pA:=A1,pn:=n1,pc:=c1 }:OS)) 26 (0,0)) by rw [hW4];exact set_op1 A1 n1 c1 q1 Y1.out)
      have O4:=Lib.hid (show ∀ k,k ≠ w.heap.size→W4.heap[k]? = w1.heap[k]? by intro k hk;rw [hW4];exact heap_setCell_other _ _ k _ hk)
      have B4:=Lib.hid (show Below w.heap.size w W4 by rw [hW4];exact ((z4'.out.trans (E1.out.mono z4'.out.size)).setCell (p:=⟨w.heap.size,1,none⟩) (Nat.le_refl _) _))
      have Z4:=Lib.hid (show W4.heap.size = w1.heap.size by rw [hW4];simp)
      have s1:=Lib.hid (show W3.heap.size≤w1.heap.size from E1.out.size)
      have ha4:=Lib.hid ((O4.out (w.heap.size + 1) (by omega)).trans ((E1.out.block (w.heap.size + 1) (by have:=z5'.out;omega)).trans z2'.out))
      have hx4:=Lib.hid ((O4.out (w.heap.size + 1 + 1) (by omega)).trans ((E1.out.block (w.heap.size + 1 + 1) (by have:=z5'.out;omega)).trans z3'.out))
      clear hW4 o0 o1 o2 o3 o4 o5 o6 o7 o8 o9 o10 a0 a1 a2 a3 a4 a5 a6 a7 a8 a9 a10 hof hlt Y1
      obtain ⟨o0,o1,o2,o3,o4,o5,o6,o7,o8,o9,o10⟩:=op_cells R4.out
      obtain ⟨a0,a1,a2,a3,a4,a5,a6,a7,a8,a9,a10⟩:=op_cells ha4.out
      dsimp only at o0 o1 o2 o3 o4 o5 o6 o7 o8 o9 o10
      rw [hkI.out] at o0
      have hl4:w.heap.size < W4.heap.size:=(Array.getElem?_eq_some_iff.1 R4.out).1
      go_upto_region 8 with (go_at_call 31;go_loud (refine (hgt.out _ B4.out).mono ?_;rintro e w2 ⟨A2,n2,c2,bb2,rfl,h2,hb2⟩;have H2:=Lib.hid h2;have E2:=Lib.hid hb2;have y1:=(hb2.block w.heap.size (by have:=z5'.out;have:=Z4.out;have:=s1.out;omega)).trans R4.out;have Y1:=Lib.hid y1;have hof:=op_frozen y1;have hlt:w.heap.size < w2.heap.size:=(Array.getElem?_eq_some_iff.1 y1).1;clear o0 o1 o2 o3 o4 o5 o6 o7 o8 o9 o10 a0 a1 a2 a3 a4 a5 a6 a7 a8 a9 a10;obtain ⟨o0,o1,o2,o3,o4,o5,o6,o7,o8,o9,o10⟩:=op_cells y1;clear y1;dsimp only at o0 o1 o2 o3 o4 o5 o6 o7 o8 o9 o10;rw [hkI.out] at o0;clear h2 hb2))
      obtain ⟨W5,hW5⟩:∃ Q9,Q9 = ((w2.setCell ⟨w.heap.size,3,none⟩ (.slice A2 n2 c2)).setCell ⟨w.heap.size,2,none⟩ (.int .i64 g2)):=⟨_,rfl⟩
      rw [← hW5]
      have R1:=Lib.hid (show W5.heap[w.heap.size]? = some (.cells (opCells ({ b with path:=q1,to_:=q2,at_:=g2 }:Ov) ({ sb with pA:=A1,pn:=n1,pc:=c1,tA:=A2,tn:=n2,tc:=c2 }:OS)) 26 (0,0)) by rw [hW5];exact set_op2 g2 (set_op3 A2 n2 c2 q2 Y1.out))
      have O5:=Lib.hid (show ∀ k,k ≠ w.heap.size→W5.heap[k]? = w2.heap[k]? by intro k hk;rw [hW5];exact (heap_setCell_other _ _ k _ hk).trans (heap_setCell_other _ _ k _ hk))
      have B5:=Lib.hid (show Below w.heap.size w W5 by rw [hW5];exact (((B4.out.trans (E2.out.mono B4.out.size)).setCell (p:=⟨w.heap.size,3,none⟩) (Nat.le_refl _) _).setCell (p:=⟨w.heap.size,2,none⟩) (Nat.le_refl _) _))
      have Z5:=Lib.hid (show W5.heap.size = w2.heap.size by rw [hW5];simp)
      have hz3:=Lib.hid ((E2.out.block (w.heap.size + 1 + 1) (by have:=z5'.out;have:=Z4.out;have:=s1.out;omega)).trans hx4.out)
      clear hW5 o0 o1 o2 o3 o4 o5 o6 o7 o8 o9 o10  hof hlt
      have G1:=Lib.hid (Top.own_kept (w':=w2) (Top.own_kept (w':=W4) H1.out fun k h1 h2=>O4.out k (by have:=z5'.out;omega)) fun k h1 h2=>E2.out.block k h2)
      have hfin:=Lib.hid (fun (W9:World) (B9:Below w.heap.size w W9) (K9:∀ k,k ≠ (w.heap.size + 1 + 1)→W9.heap[k]? = W5.heap[k]?)=>show OpIn W9 { b with path:=q1,to_:=q2,at_:=g2 } { sb with pA:=A1,pn:=n1,pc:=c1,tA:=A2,tn:=n2,tc:=c2 } from by
        obtain ⟨e1,e2,e3,e4,e5⟩:=own_facts (Top.own_kept G1.out fun k h1 h2=>(K9 k (by have:=z5'.out;omega)).trans (O5.out k (by have:=z5'.out;omega)))
        obtain ⟨f1,f2,f3,f4,f5⟩:=own_facts (Top.own_kept H2.out fun k h1 h2=>(K9 k (by have:=z5'.out;have:=Z4.out;have:=s1.out;omega)).trans (O5.out k (by have:=z5'.out;have:=Z4.out;have:=s1.out;omega)))
        exact with_at (b:={ b with path:=q1,to_:=q2 }) (with_to (b:={ b with path:=q1 }) (with_path (hb'.out W9 B9) e1 e2 e3 e4 (by have:=hq1.out.1;have:=hlen.out.1;omega) hq1.out.2) f1 f2 f3 f4 (by have:=hq2.out.1;have:=hlen.out.2;omega) hq2.out.2) hg2.out)
      have r3:=(O5.out (w.heap.size + 1 + 1) (by omega)).trans hz3.out
      have r3h:=Lib.hid r3
      unfold zero11 at r3
      obtain ⟨o0,o1,o2,o3,o4,o5,o6,o7,o8,o9,o10⟩:=op_cells R1.out
      obtain ⟨d0,d1,d2,d3,d4,d5,d6,d7,d8,d9,d10,df⟩:=eleven_cells r3
      rw [show ((({ b with path:=q1,to_:=q2,at_:=g2 }:Ov)).kind:Int) = _ from hkI.out] at o0
      dsimp only at o0 o1 o2 o3 o4 o5 o6 o7 o8 o9 o10
      have hlt2:(w.heap.size + 1 + 1) < W5.heap.size:=(Array.getElem?_eq_some_iff.1 r3).1
      have hlt0:w.heap.size < W5.heap.size:=by omega
      clear r3
      go_wp2_with fail
      obtain ⟨W9,hW9,R9,B9,Z9,K9⟩:=end_op (o:=({ b with path:=q1,to_:=q2,at_:=g2 }:Ov)) (s:=({ sb with pA:=A1,pn:=n1,pc:=c1,tA:=A2,tn:=n2,tc:=c2 }:OS)) (r:=(w.heap.size + 1 + 1)) (by omega) B5.out (show W5.heap[(w.heap.size + 1 + 1)]? = some (.cells #[.int .u8 0,.slice none 0 0,.int .i64 0,.slice none 0 0,.int .u64 0,.bool false,.string ⟨#[]⟩,.string ⟨#[]⟩,.string ⟨#[]⟩,.bool false,.slice none 0 0] _ (0,0)) from r3h.out)
      rw [show ((({ b with path:=q1,to_:=q2,at_:=g2 }:Ov)).kind:Int) = _ from hkI.out] at hW9
      have hW9':W9 = (((((((((((W5.setCell ⟨(w.heap.size + 1 + 1),0,none⟩ (.int .u8 3)).setCell ⟨(w.heap.size + 1 + 1),1,none⟩ (.slice A1 n1 c1)).setCell ⟨(w.heap.size + 1 + 1),2,none⟩ (.int .i64 g2)).setCell ⟨(w.heap.size + 1 + 1),3,none⟩ (.slice A2 n2 c2)).setCell ⟨(w.heap.size + 1 + 1),4,none⟩ (.int .u64 (b.id:Int))).setCell ⟨(w.heap.size + 1 + 1),5,none⟩ (.bool b.leaf)).setCell ⟨(w.heap.size + 1 + 1),6,none⟩ (.string ⟨b.label.toArray⟩)).setCell ⟨(w.heap.size + 1 + 1),7,none⟩ (.string ⟨b.key.toArray⟩)).setCell ⟨(w.heap.size + 1 + 1),8,none⟩ (.string ⟨b.value.toArray⟩)).setCell ⟨(w.heap.size + 1 + 1),9,none⟩ (.bool b.gone)).setCell ⟨(w.heap.size + 1 + 1),10,none⟩ (.slice sb.qA sb.qn sb.qc)):=hW9
      rw [← hW9']
      clear hW9' hW9 d0 d1 d2 d3 d4 d5 d6 d7 d8 d9 d10
      unfold opCells at R9
      obtain ⟨d0,d1,d2,d3,d4,d5,d6,d7,d8,d9,d10,dg⟩:=eleven_cells R9
      dsimp only at d0 d1 d2 d3 d4 d5 d6 d7 d8 d9 d10
      refine bodyPost_ret (v:=.agg (opCells (({ b with path:=q1,to_:=q2,at_:=g2 }:Ov)) (({ sb with pA:=A1,pn:=n1,pc:=c1,tA:=A2,tn:=n2,tc:=c2 }:OS)))) (by simp [results,Try.results153,go_sem,d0,d1,d2,d3,d4,d5,d6,d7,d8,d9,d10,opCells]) rfl ?_
      exact ⟨_,by rw [hre.out],by rw [hre.out];exact hfin.out W9 B9 K9,B9⟩
    · have e1_:((b.kind:Int) == 1) = false:=by simp;omega
      have e3_:((b.kind:Int) == 3) = false:=by simp;omega
      have hre:=Lib.hid (show r = { b with path:=q1 } by rw [hsv.out,if_neg hk1,if_neg hk3])
      clear hsv hk1 hk3 hgp hg1 hgt hg2 hq2
      unfold opCells at hno
      unfold opCells at hW3
      unfold zero11 at hW3
      conv=>arg 3;unfold opCells
      go_enter Try.func153,Try.ntmps153
      go_upto_region 8 with (go_at_call 81;go_loud (rw [← hW3];refine (hno.out _ z4'.out).mono ?_;rintro e w1 ⟨A1,n1,c1,bb,rfl,h1,hb1⟩;have H1:=Lib.hid h1;have E1:=Lib.hid hb1;have y1:=(hb1.block w.heap.size (by have:=z5'.out;omega)).trans z1'.out;have y2:=(hb1.block (w.heap.size + 1) (by have:=z5'.out;omega)).trans z2'.out;have Y1:=Lib.hid y1;have hof:=op_frozen y1;have hlt:w.heap.size < w1.heap.size:=(Array.getElem?_eq_some_iff.1 y1).1;clear o0 o1 o2 o3 o4 o5 o6 o7 o8 o9 o10 a0 a1 a2 a3 a4 a5 a6 a7 a8 a9 a10;obtain ⟨o0,o1,o2,o3,o4,o5,o6,o7,o8,o9,o10⟩:=op_cells y1;obtain ⟨a0,a1,a2,a3,a4,a5,a6,a7,a8,a9,a10⟩:=op_cells y2;clear y1 y2;clear h1 hb1))
      obtain ⟨W5,hW5⟩:∃ Q9,Q9 = (w1.setCell ⟨w.heap.size,1,none⟩ (.slice A1 n1 c1)):=⟨_,rfl⟩
      rw [← hW5]
      have R1:=Lib.hid (show W5.heap[w.heap.size]? = some (.cells (opCells ({ b with path:=q1 }:Ov) ({ sb with pA:=A1,pn:=n1,pc:=c1 }:OS)) 26 (0,0)) by rw [hW5];exact set_op1 A1 n1 c1 q1 Y1.out)
      have O5:=Lib.hid (show ∀ k,k ≠ w.heap.size→W5.heap[k]? = w1.heap[k]? by intro k hk;rw [hW5];exact heap_setCell_other _ _ k _ hk)
      have B5:=Lib.hid (show Below w.heap.size w W5 by rw [hW5];exact ((z4'.out.trans (E1.out.mono z4'.out.size)).setCell (p:=⟨w.heap.size,1,none⟩) (Nat.le_refl _) _))
      have Z5:=Lib.hid (show W5.heap.size = w1.heap.size by rw [hW5];simp)
      have hz3:=Lib.hid ((E1.out.block (w.heap.size + 1 + 1) (by have:=z5'.out;omega)).trans z3'.out)
      clear hW5 o0 o1 o2 o3 o4 o5 o6 o7 o8 o9 o10 a0 a1 a2 a3 a4 a5 a6 a7 a8 a9 a10 hof hlt
      have hfin:=Lib.hid (fun (W9:World) (B9:Below w.heap.size w W9) (K9:∀ k,k ≠ (w.heap.size + 1 + 1)→W9.heap[k]? = W5.heap[k]?)=>show OpIn W9 { b with path:=q1 } { sb with pA:=A1,pn:=n1,pc:=c1 } from by
        obtain ⟨e1,e2,e3,e4,e5⟩:=own_facts (Top.own_kept H1.out fun k h1 h2=>(K9 k (by have:=z5'.out;omega)).trans (O5.out k (by have:=z5'.out;omega)))
        exact with_path (hb'.out W9 B9) e1 e2 e3 e4 (by have:=hq1.out.1;have:=hlen.out.1;omega) hq1.out.2)
      have r3:=(O5.out (w.heap.size + 1 + 1) (by omega)).trans hz3.out
      have r3h:=Lib.hid r3
      unfold zero11 at r3
      obtain ⟨o0,o1,o2,o3,o4,o5,o6,o7,o8,o9,o10⟩:=op_cells R1.out
      obtain ⟨d0,d1,d2,d3,d4,d5,d6,d7,d8,d9,d10,df⟩:=eleven_cells r3
      dsimp only at o0 o1 o2 o3 o4 o5 o6 o7 o8 o9 o10
      have hlt2:(w.heap.size + 1 + 1) < W5.heap.size:=(Array.getElem?_eq_some_iff.1 r3).1
      have hlt0:w.heap.size < W5.heap.size:=by omega
      clear r3
      go_wp2_with fail
      obtain ⟨W9,hW9,R9,B9,Z9,K9⟩:=end_op (o:=({ b with path:=q1 }:Ov)) (s:=({ sb with pA:=A1,pn:=n1,pc:=c1 }:OS)) (r:=(w.heap.size + 1 + 1)) (by omega) B5.out (show W5.heap[(w.heap.size + 1 + 1)]? = some (.cells #[.int .u8 0,.slice none 0 0,.int .i64 0,.slice none 0 0,.int .u64 0,.bool false,.string ⟨#[]⟩,.string ⟨#[]⟩,.string ⟨#[]⟩,.bool false,.slice none 0 0] _ (0,0)) from r3h.out)
      have hW9':W9 = (((((((((((W5.setCell ⟨(w.heap.size + 1 + 1),0,none⟩ (.int .u8 (b.kind:Int))).setCell ⟨(w.heap.size + 1 + 1),1,none⟩ (.slice A1 n1 c1)).setCell ⟨(w.heap.size + 1 + 1),2,none⟩ (.int .i64 b.at_)).setCell ⟨(w.heap.size + 1 + 1),3,none⟩ (.slice sb.tA sb.tn sb.tc)).setCell ⟨(w.heap.size + 1 + 1),4,none⟩ (.int .u64 (b.id:Int))).setCell ⟨(w.heap.size + 1 + 1),5,none⟩ (.bool b.leaf)).setCell ⟨(w.heap.size + 1 + 1),6,none⟩ (.string ⟨b.label.toArray⟩)).setCell ⟨(w.heap.size + 1 + 1),7,none⟩ (.string ⟨b.key.toArray⟩)).setCell ⟨(w.heap.size + 1 + 1),8,none⟩ (.string ⟨b.value.toArray⟩)).setCell ⟨(w.heap.size + 1 + 1),9,none⟩ (.bool b.gone)).setCell ⟨(w.heap.size + 1 + 1),10,none⟩ (.slice sb.qA sb.qn sb.qc)):=hW9
      rw [← hW9']
      clear hW9' hW9 d0 d1 d2 d3 d4 d5 d6 d7 d8 d9 d10
      unfold opCells at R9
      obtain ⟨d0,d1,d2,d3,d4,d5,d6,d7,d8,d9,d10,dg⟩:=eleven_cells R9
      dsimp only at d0 d1 d2 d3 d4 d5 d6 d7 d8 d9 d10
      refine bodyPost_ret (v:=.agg (opCells (({ b with path:=q1 }:Ov)) (({ sb with pA:=A1,pn:=n1,pc:=c1 }:OS)))) (by simp [results,Try.results153,go_sem,d0,d1,d2,d3,d4,d5,d6,d7,d8,d9,d10,opCells]) rfl ?_
      exact ⟨_,by rw [hre.out],by rw [hre.out];exact hfin.out W9 B9 K9,B9⟩
set_option maxHeartbeats 16000000 in
theorem row9_any (w:World) (b a:Ov) (sb sa:OS) (prior:Bool) (hb:OpIn w b sb) (ha:OpIn w a sa) (hlb:Slen b) (hla:Slen a) :
    Calls Try.prog 164 #[.agg (opCells b sb),.agg (opCells a sa),.bool prior] w (OpA w (shiftedV b a prior)):=by
  obtain ⟨z1,z2,z3,z4,z5⟩:=Top.three_new w (.cells (opCells b sb) 26) (.cells (opCells a sa) 26) (.cells zero11 26)
  obtain ⟨W3,hW3⟩:∃ Q9,Q9 = ((w.alloc (.cells (opCells b sb) 26)).alloc (.cells (opCells a sa) 26)).alloc (.cells zero11 26):=⟨_,rfl⟩
  rw [← hW3] at z1 z2 z3 z4 z5
  have z1':=Lib.hid z1
  have z2':=Lib.hid z2
  have z3':=Lib.hid z3
  have z4':=Lib.hid z4
  have z5':=Lib.hid z5
  have hpn:sb.pn≤1000:=by have:=hb.path.1;have:=hlb.1;omega
  have htn:sb.tn≤1000:=by have:=hb.to_.1;have:=hlb.2;omega
  have hno:=Lib.hid (fun (W:World) (hB:Below w.heap.size w W)=>(rNode_any W a sa sb.pA sb.pn sb.pc b.path (ha.below hB) hla (hb.below hB).path hb.pnc hb.pcm hb.pnil (by omega)).mono fun e w' h=>nodeS h)
  have hgp:=Lib.hid (fun (W:World) (hB:Below w.heap.size w W)=>(rGap_any W a sa sb.pA sb.pn sb.pc b.path b.at_ prior hla (ha.below hB) (hb.below hB).path hb.pnc hb.pcm hb.pnil (by omega)).mono fun e w' h=>gapS h)
  have hgt:=Lib.hid (fun (W:World) (hB:Below w.heap.size w W)=>(rGap_any W a sa sb.tA sb.tn sb.tc b.to_ b.at_ prior hla (ha.below hB) (hb.below hB).to_ hb.tnc hb.tcm hb.tnil (by omega)).mono fun e w' h=>gapS h)
  have hq1:=Lib.hid (nodeD_ok hla (op_ok ha) (op_ok hb).pfit)
  have hq2:=Lib.hid (nodeD_ok hla (op_ok ha) (op_ok hb).tfit)
  have hg1:=Lib.hid (gapD_in (a:=a) (p:=b.path) (first:=prior) (op_ok hb).at_)
  have hg2:=Lib.hid (gapD_in (a:=a) (p:=b.to_) (first:=prior) (op_ok hb).at_)
  obtain ⟨r,hr⟩:∃ r,r = shiftedV b a prior:=⟨_,rfl⟩
  rw [← hr]
  have hsv0:=hr
  unfold shiftedV at hsv0
  have hsv:=Lib.hid hsv0
  clear hsv0
  have hlen:=Lib.hid (show b.path.length≤1000∧b.to_.length≤1000 from hlb)
  have hb':=Lib.hid (fun (W:World) (hB:Below w.heap.size w W)=>hb.below hB)
  generalize nodeD a b.path = q1 at hno hgp hq1 hsv
  generalize nodeD a b.to_ = q2 at hgt hq2 hsv
  generalize gapD a b.path b.at_ prior = g1 at hgp hg1 hsv
  generalize gapD a b.to_ b.at_ prior = g2 at hgt hg2 hsv
  obtain ⟨o0,o1,o2,o3,o4,o5,o6,o7,o8,o9,o10⟩:=op_cells z1
  obtain ⟨a0,a1,a2,a3,a4,a5,a6,a7,a8,a9,a10⟩:=op_cells z2
  rw [hW3] at o0 o1 o2 o3 o4 o5 o6 o7 o8 o9 o10 a0 a1 a2 a3 a4 a5 a6 a7 a8 a9 a10
  clear hb ha hlb hla z1 z2 z3 z4 z5 hr hpn htn
  by_cases hk1:b.kind = 1
  · have hkI:=Lib.hid (show (b.kind:Int) = 1 by omega)
    have hre:=Lib.hid (show r = { b with path:=q1,at_:=g1 } by rw [hsv.out,if_pos hk1])
    clear hsv hk1 hno hgt hq2 hg2
    unfold opCells at hgp
    unfold opCells at hW3
    unfold zero11 at hW3
    conv=>arg 3;unfold opCells
    rw [hkI.out] at hW3 o0 ⊢
    go_enter Try.func164,Try.ntmps164
    go_upto_region 4 with (go_at_call 125;go_loud (rw [← hW3];refine (hgp.out _ z4'.out).mono ?_;rintro e w1 ⟨A1,n1,c1,bb,rfl,h1,hb1⟩;have H1:=Lib.hid h1;have E1:=Lib.hid hb1;have y1:=(hb1.block w.heap.size (by have:=z5'.out;omega)).trans z1'.out;have y2:=(hb1.block (w.heap.size + 1) (by have:=z5'.out;omega)).trans z2'.out;have Y1:=Lib.hid y1;have hof:=op_frozen y1;have hlt:w.heap.size < w1.heap.size:=(Array.getElem?_eq_some_iff.1 y1).1;clear o0 o1 o2 o3 o4 o5 o6 o7 o8 o9 o10 a0 a1 a2 a3 a4 a5 a6 a7 a8 a9 a10;obtain ⟨o0,o1,o2,o3,o4,o5,o6,o7,o8,o9,o10⟩:=op_cells y1;obtain ⟨a0,a1,a2,a3,a4,a5,a6,a7,a8,a9,a10⟩:=op_cells y2;clear y1 y2;rw [hkI.out] at o0;clear h1 hb1))
    obtain ⟨W5,hW5⟩:∃ Q9,Q9 = ((w1.setCell ⟨w.heap.size,1,none⟩ (.slice A1 n1 c1)).setCell ⟨w.heap.size,2,none⟩ (.int .i64 g1)):=⟨_,rfl⟩
    rw [← hW5]
    have R1:=Lib.hid (show W5.heap[w.heap.size]? = some (.cells (opCells ({ b with path:=q1,at_:=g1 }:Ov) ({ sb with pA:=A1,pn:=n1,pc:=c1 }:OS)) 26 (0,0)) by rw [hW5];exact set_op2 g1 (set_op1 A1 n1 c1 q1 Y1.out))
    have O5:=Lib.hid (show ∀ k,k ≠ w.heap.size→W5.heap[k]? = w1.heap[k]? by intro k hk;rw [hW5];exact (heap_setCell_other _ _ k _ hk).trans (heap_setCell_other _ _ k _ hk))
    have B5:=Lib.hid (show Below w.heap.size w W5 by rw [hW5];exact (((z4'.out.trans (E1.out.mono z4'.out.size)).setCell (p:=⟨w.heap.size,1,none⟩) (Nat.le_refl _) _).setCell (p:=⟨w.heap.size,2,none⟩) (Nat.le_refl _) _))
    have Z5:=Lib.hid (show W5.heap.size = w1.heap.size by rw [hW5];simp)
    have hz3:=Lib.hid ((E1.out.block (w.heap.size + 1 + 1) (by have:=z5'.out;omega)).trans z3'.out)
    clear hW5 o0 o1 o2 o3 o4 o5 o6 o7 o8 o9 o10 a0 a1 a2 a3 a4 a5 a6 a7 a8 a9 a10 hof hlt
    have hfin:=Lib.hid (fun (W9:World) (B9:Below w.heap.size w W9) (K9:∀ k,k ≠ (w.heap.size + 1 + 1)→W9.heap[k]? = W5.heap[k]?)=>show OpIn W9 { b with path:=q1,at_:=g1 } { sb with pA:=A1,pn:=n1,pc:=c1 } from by
      obtain ⟨e1,e2,e3,e4,e5⟩:=own_facts (Top.own_kept H1.out fun k h1 h2=>(K9 k (by have:=z5'.out;omega)).trans (O5.out k (by have:=z5'.out;omega)))
      exact with_at (b:={ b with path:=q1 }) (with_path (hb'.out W9 B9) e1 e2 e3 e4 (by have:=hq1.out.1;have:=hlen.out.1;omega) hq1.out.2) hg1.out)
    have r3:=(O5.out (w.heap.size + 1 + 1) (by omega)).trans hz3.out
    have r3h:=Lib.hid r3
    unfold zero11 at r3
    obtain ⟨o0,o1,o2,o3,o4,o5,o6,o7,o8,o9,o10⟩:=op_cells R1.out
    obtain ⟨d0,d1,d2,d3,d4,d5,d6,d7,d8,d9,d10,df⟩:=eleven_cells r3
    rw [show ((({ b with path:=q1,at_:=g1 }:Ov)).kind:Int) = _ from hkI.out] at o0
    dsimp only at o0 o1 o2 o3 o4 o5 o6 o7 o8 o9 o10
    have hlt2:(w.heap.size + 1 + 1) < W5.heap.size:=(Array.getElem?_eq_some_iff.1 r3).1
    have hlt0:w.heap.size < W5.heap.size:=by omega
    clear r3
    go_wp2_with fail
    obtain ⟨W9,hW9,R9,B9,Z9,K9⟩:=end_op (o:=({ b with path:=q1,at_:=g1 }:Ov)) (s:=({ sb with pA:=A1,pn:=n1,pc:=c1 }:OS)) (r:=(w.heap.size + 1 + 1)) (by omega) B5.out (show W5.heap[(w.heap.size + 1 + 1)]? = some (.cells #[.int .u8 0,.slice none 0 0,.int .i64 0,.slice none 0 0,.int .u64 0,.bool false,.string ⟨#[]⟩,.string ⟨#[]⟩,.string ⟨#[]⟩,.bool false,.slice none 0 0] _ (0,0)) from r3h.out)
    rw [show ((({ b with path:=q1,at_:=g1 }:Ov)).kind:Int) = _ from hkI.out] at hW9
    have hW9':W9 = (((((((((((W5.setCell ⟨(w.heap.size + 1 + 1),0,none⟩ (.int .u8 1)).setCell ⟨(w.heap.size + 1 + 1),1,none⟩ (.slice A1 n1 c1)).setCell ⟨(w.heap.size + 1 + 1),2,none⟩ (.int .i64 g1)).setCell ⟨(w.heap.size + 1 + 1),3,none⟩ (.slice sb.tA sb.tn sb.tc)).setCell ⟨(w.heap.size + 1 + 1),4,none⟩ (.int .u64 (b.id:Int))).setCell ⟨(w.heap.size + 1 + 1),5,none⟩ (.bool b.leaf)).setCell ⟨(w.heap.size + 1 + 1),6,none⟩ (.string ⟨b.label.toArray⟩)).setCell ⟨(w.heap.size + 1 + 1),7,none⟩ (.string ⟨b.key.toArray⟩)).setCell ⟨(w.heap.size + 1 + 1),8,none⟩ (.string ⟨b.value.toArray⟩)).setCell ⟨(w.heap.size + 1 + 1),9,none⟩ (.bool b.gone)).setCell ⟨(w.heap.size + 1 + 1),10,none⟩ (.slice sb.qA sb.qn sb.qc)):=hW9
    rw [← hW9']
    clear hW9' hW9 d0 d1 d2 d3 d4 d5 d6 d7 d8 d9 d10
    unfold opCells at R9
    obtain ⟨d0,d1,d2,d3,d4,d5,d6,d7,d8,d9,d10,dg⟩:=eleven_cells R9
    dsimp only at d0 d1 d2 d3 d4 d5 d6 d7 d8 d9 d10
    refine bodyPost_ret (v:=.agg (opCells (({ b with path:=q1,at_:=g1 }:Ov)) (({ sb with pA:=A1,pn:=n1,pc:=c1 }:OS)))) (by simp [results,Try.results164,go_sem,d0,d1,d2,d3,d4,d5,d6,d7,d8,d9,d10,opCells]) rfl ?_
    exact ⟨_,by rw [hre.out],by rw [hre.out];exact hfin.out W9 B9 K9,B9⟩
  · by_cases hk3:b.kind = 3
    · have hkI:=Lib.hid (show (b.kind:Int) = 3 by omega)
      have hre:=Lib.hid (show r = { b with path:=q1,to_:=q2,at_:=g2 } by rw [hsv.out,if_neg hk1,if_pos hk3])
      clear hsv hk1 hk3 hgp hg1
      unfold opCells at hno hgt
      unfold opCells at hW3
      unfold zero11 at hW3
      conv=>arg 3;unfold opCells
      rw [hkI.out] at hW3 o0 ⊢
      go_enter Try.func164,Try.ntmps164
      go_upto_region 7 with (go_at_call 127;go_loud (rw [← hW3];refine (hno.out _ z4'.out).mono ?_;rintro e w1 ⟨A1,n1,c1,bb,rfl,h1,hb1⟩;have H1:=Lib.hid h1;have E1:=Lib.hid hb1;have y1:=(hb1.block w.heap.size (by have:=z5'.out;omega)).trans z1'.out;have y2:=(hb1.block (w.heap.size + 1) (by have:=z5'.out;omega)).trans z2'.out;have Y1:=Lib.hid y1;have hof:=op_frozen y1;have hlt:w.heap.size < w1.heap.size:=(Array.getElem?_eq_some_iff.1 y1).1;clear o0 o1 o2 o3 o4 o5 o6 o7 o8 o9 o10 a0 a1 a2 a3 a4 a5 a6 a7 a8 a9 a10;obtain ⟨o0,o1,o2,o3,o4,o5,o6,o7,o8,o9,o10⟩:=op_cells y1;obtain ⟨a0,a1,a2,a3,a4,a5,a6,a7,a8,a9,a10⟩:=op_cells y2;clear y1 y2;rw [hkI.out] at o0;clear h1 hb1))
      have V1:=Lib.hid (z4'.out.trans (E1.out.mono z4'.out.size))
      go_upto_region 9 with (go_at_call 125;go_loud (refine (hgt.out _ V1.out).mono ?_;rintro e w2 ⟨A2,n2,c2,bb2,rfl,h2,hb2⟩;have H2:=Lib.hid h2;have F2:=Lib.hid hb2;have hb1:=Below.trans E1.out (hb2.mono E1.out.size);have E2:=Lib.hid hb1;have y1:=(hb1.block w.heap.size (by have:=z5'.out;omega)).trans z1'.out;have y2:=(hb1.block (w.heap.size + 1) (by have:=z5'.out;omega)).trans z2'.out;have Y1:=Lib.hid y1;have hof:=op_frozen y1;have hlt:w.heap.size < w2.heap.size:=(Array.getElem?_eq_some_iff.1 y1).1;clear o0 o1 o2 o3 o4 o5 o6 o7 o8 o9 o10 a0 a1 a2 a3 a4 a5 a6 a7 a8 a9 a10;obtain ⟨o0,o1,o2,o3,o4,o5,o6,o7,o8,o9,o10⟩:=op_cells y1;obtain ⟨a0,a1,a2,a3,a4,a5,a6,a7,a8,a9,a10⟩:=op_cells y2;clear y1 y2;rw [hkI.out] at o0;clear h2 hb1 hb2))
      obtain ⟨W5,hW5⟩:∃ Q9,Q9 = (((w2.setCell ⟨w.heap.size,3,none⟩ (.slice A2 n2 c2)).setCell ⟨w.heap.size,2,none⟩ (.int .i64 g2)).setCell ⟨w.heap.size,1,none⟩ (.slice A1 n1 c1)):=⟨_,rfl⟩
      rw [← hW5]
      have R1:=Lib.hid (show W5.heap[w.heap.size]? = some (.cells (opCells ({ b with to_:=q2,at_:=g2,path:=q1 }:Ov) ({ sb with tA:=A2,tn:=n2,tc:=c2,pA:=A1,pn:=n1,pc:=c1 }:OS)) 26 (0,0)) by rw [hW5];exact set_op1 A1 n1 c1 q1 (set_op2 g2 (set_op3 A2 n2 c2 q2 Y1.out)))
      have O5:=Lib.hid (show ∀ k,k ≠ w.heap.size→W5.heap[k]? = w2.heap[k]? by intro k hk;rw [hW5];exact (heap_setCell_other _ _ k _ hk).trans ((heap_setCell_other _ _ k _ hk).trans (heap_setCell_other _ _ k _ hk)))
      have B5:=Lib.hid (show Below w.heap.size w W5 by rw [hW5];exact ((((z4'.out.trans (E2.out.mono z4'.out.size)).setCell (p:=⟨w.heap.size,3,none⟩) (Nat.le_refl _) _).setCell (p:=⟨w.heap.size,2,none⟩) (Nat.le_refl _) _).setCell (p:=⟨w.heap.size,1,none⟩) (Nat.le_refl _) _))
      have Z5:=Lib.hid (show W5.heap.size = w2.heap.size by rw [hW5];simp)
      have hz3:=Lib.hid ((E2.out.block (w.heap.size + 1 + 1) (by have:=z5'.out;omega)).trans z3'.out)
      clear hW5 o0 o1 o2 o3 o4 o5 o6 o7 o8 o9 o10 a0 a1 a2 a3 a4 a5 a6 a7 a8 a9 a10 hof hlt
      have G1:=Lib.hid (Top.own_kept (w':=w2) H1.out fun k h1 h2=>F2.out.block k h2)
      have hs2:=Lib.hid (show W3.heap.size≤w1.heap.size from E1.out.size)
      have hfin:=Lib.hid (fun (W9:World) (B9:Below w.heap.size w W9) (K9:∀ k,k ≠ (w.heap.size + 1 + 1)→W9.heap[k]? = W5.heap[k]?)=>show OpIn W9 { b with path:=q1,to_:=q2,at_:=g2 } { sb with pA:=A1,pn:=n1,pc:=c1,tA:=A2,tn:=n2,tc:=c2 } from by
        obtain ⟨e1,e2,e3,e4,e5⟩:=own_facts (Top.own_kept G1.out fun k h1 h2=>(K9 k (by have:=z5'.out;omega)).trans (O5.out k (by have:=z5'.out;omega)))
        obtain ⟨f1,f2,f3,f4,f5⟩:=own_facts (Top.own_kept H2.out fun k h1 h2=>(K9 k (by have:=z5'.out;have:=hs2.out;omega)).trans (O5.out k (by have:=z5'.out;have:=hs2.out;omega)))
        exact with_at (b:={ b with path:=q1,to_:=q2 }) (with_to (b:={ b with path:=q1 }) (with_path (hb'.out W9 B9) e1 e2 e3 e4 (by have:=hq1.out.1;have:=hlen.out.1;omega) hq1.out.2) f1 f2 f3 f4 (by have:=hq2.out.1;have:=hlen.out.2;omega) hq2.out.2) hg2.out)
      have r3:=(O5.out (w.heap.size + 1 + 1) (by omega)).trans hz3.out
      have r3h:=Lib.hid r3
      unfold zero11 at r3
      obtain ⟨o0,o1,o2,o3,o4,o5,o6,o7,o8,o9,o10⟩:=op_cells R1.out
      obtain ⟨d0,d1,d2,d3,d4,d5,d6,d7,d8,d9,d10,df⟩:=eleven_cells r3
      rw [show ((({ b with path:=q1,to_:=q2,at_:=g2 }:Ov)).kind:Int) = _ from hkI.out] at o0
      dsimp only at o0 o1 o2 o3 o4 o5 o6 o7 o8 o9 o10
      have hlt2:(w.heap.size + 1 + 1) < W5.heap.size:=(Array.getElem?_eq_some_iff.1 r3).1
      have hlt0:w.heap.size < W5.heap.size:=by omega
      clear r3
      go_wp2_with fail
      obtain ⟨W9,hW9,R9,B9,Z9,K9⟩:=end_op (o:=({ b with path:=q1,to_:=q2,at_:=g2 }:Ov)) (s:=({ sb with pA:=A1,pn:=n1,pc:=c1,tA:=A2,tn:=n2,tc:=c2 }:OS)) (r:=(w.heap.size + 1 + 1)) (by omega) B5.out (show W5.heap[(w.heap.size + 1 + 1)]? = some (.cells #[.int .u8 0,.slice none 0 0,.int .i64 0,.slice none 0 0,.int .u64 0,.bool false,.string ⟨#[]⟩,.string ⟨#[]⟩,.string ⟨#[]⟩,.bool false,.slice none 0 0] _ (0,0)) from r3h.out)
      rw [show ((({ b with path:=q1,to_:=q2,at_:=g2 }:Ov)).kind:Int) = _ from hkI.out] at hW9
      have hW9':W9 = (((((((((((W5.setCell ⟨(w.heap.size + 1 + 1),0,none⟩ (.int .u8 3)).setCell ⟨(w.heap.size + 1 + 1),1,none⟩ (.slice A1 n1 c1)).setCell ⟨(w.heap.size + 1 + 1),2,none⟩ (.int .i64 g2)).setCell ⟨(w.heap.size + 1 + 1),3,none⟩ (.slice A2 n2 c2)).setCell ⟨(w.heap.size + 1 + 1),4,none⟩ (.int .u64 (b.id:Int))).setCell ⟨(w.heap.size + 1 + 1),5,none⟩ (.bool b.leaf)).setCell ⟨(w.heap.size + 1 + 1),6,none⟩ (.string ⟨b.label.toArray⟩)).setCell ⟨(w.heap.size + 1 + 1),7,none⟩ (.string ⟨b.key.toArray⟩)).setCell ⟨(w.heap.size + 1 + 1),8,none⟩ (.string ⟨b.value.toArray⟩)).setCell ⟨(w.heap.size + 1 + 1),9,none⟩ (.bool b.gone)).setCell ⟨(w.heap.size + 1 + 1),10,none⟩ (.slice sb.qA sb.qn sb.qc)):=hW9
      rw [← hW9']
      clear hW9' hW9 d0 d1 d2 d3 d4 d5 d6 d7 d8 d9 d10
      unfold opCells at R9
      obtain ⟨d0,d1,d2,d3,d4,d5,d6,d7,d8,d9,d10,dg⟩:=eleven_cells R9
      dsimp only at d0 d1 d2 d3 d4 d5 d6 d7 d8 d9 d10
      refine bodyPost_ret (v:=.agg (opCells (({ b with path:=q1,to_:=q2,at_:=g2 }:Ov)) (({ sb with pA:=A1,pn:=n1,pc:=c1,tA:=A2,tn:=n2,tc:=c2 }:OS)))) (by simp [results,Try.results164,go_sem,d0,d1,d2,d3,d4,d5,d6,d7,d8,d9,d10,opCells]) rfl ?_
      exact ⟨_,by rw [hre.out],by rw [hre.out];exact hfin.out W9 B9 K9,B9⟩
    · have e1_:((b.kind:Int) == 1) = false:=by simp;omega
      have e3_:((b.kind:Int) == 3) = false:=by simp;omega
      have hre:=Lib.hid (show r = { b with path:=q1 } by rw [hsv.out,if_neg hk1,if_neg hk3])
      clear hsv hk1 hk3 hgp hg1 hgt hg2 hq2
      unfold opCells at hno
      unfold opCells at hW3
      unfold zero11 at hW3
      conv=>arg 3;unfold opCells
      go_enter Try.func164,Try.ntmps164
      go_upto_region 11 with (go_at_call 127;go_loud (rw [← hW3];refine (hno.out _ z4'.out).mono ?_;rintro e w1 ⟨A1,n1,c1,bb,rfl,h1,hb1⟩;have H1:=Lib.hid h1;have E1:=Lib.hid hb1;have y1:=(hb1.block w.heap.size (by have:=z5'.out;omega)).trans z1'.out;have y2:=(hb1.block (w.heap.size + 1) (by have:=z5'.out;omega)).trans z2'.out;have Y1:=Lib.hid y1;have hof:=op_frozen y1;have hlt:w.heap.size < w1.heap.size:=(Array.getElem?_eq_some_iff.1 y1).1;clear o0 o1 o2 o3 o4 o5 o6 o7 o8 o9 o10 a0 a1 a2 a3 a4 a5 a6 a7 a8 a9 a10;obtain ⟨o0,o1,o2,o3,o4,o5,o6,o7,o8,o9,o10⟩:=op_cells y1;obtain ⟨a0,a1,a2,a3,a4,a5,a6,a7,a8,a9,a10⟩:=op_cells y2;clear y1 y2;clear h1 hb1))
      obtain ⟨W5,hW5⟩:∃ Q9,Q9 = (w1.setCell ⟨w.heap.size,1,none⟩ (.slice A1 n1 c1)):=⟨_,rfl⟩
      rw [← hW5]
      have R1:=Lib.hid (show W5.heap[w.heap.size]? = some (.cells (opCells ({ b with path:=q1 }:Ov) ({ sb with pA:=A1,pn:=n1,pc:=c1 }:OS)) 26 (0,0)) by rw [hW5];exact set_op1 A1 n1 c1 q1 Y1.out)
      have O5:=Lib.hid (show ∀ k,k ≠ w.heap.size→W5.heap[k]? = w1.heap[k]? by intro k hk;rw [hW5];exact heap_setCell_other _ _ k _ hk)
      have B5:=Lib.hid (show Below w.heap.size w W5 by rw [hW5];exact ((z4'.out.trans (E1.out.mono z4'.out.size)).setCell (p:=⟨w.heap.size,1,none⟩) (Nat.le_refl _) _))
      have Z5:=Lib.hid (show W5.heap.size = w1.heap.size by rw [hW5];simp)
      have hz3:=Lib.hid ((E1.out.block (w.heap.size + 1 + 1) (by have:=z5'.out;omega)).trans z3'.out)
      clear hW5 o0 o1 o2 o3 o4 o5 o6 o7 o8 o9 o10 a0 a1 a2 a3 a4 a5 a6 a7 a8 a9 a10 hof hlt
      have hfin:=Lib.hid (fun (W9:World) (B9:Below w.heap.size w W9) (K9:∀ k,k ≠ (w.heap.size + 1 + 1)→W9.heap[k]? = W5.heap[k]?)=>show OpIn W9 { b with path:=q1 } { sb with pA:=A1,pn:=n1,pc:=c1 } from by
        obtain ⟨e1,e2,e3,e4,e5⟩:=own_facts (Top.own_kept H1.out fun k h1 h2=>(K9 k (by have:=z5'.out;omega)).trans (O5.out k (by have:=z5'.out;omega)))
        exact with_path (hb'.out W9 B9) e1 e2 e3 e4 (by have:=hq1.out.1;have:=hlen.out.1;omega) hq1.out.2)
      have r3:=(O5.out (w.heap.size + 1 + 1) (by omega)).trans hz3.out
      have r3h:=Lib.hid r3
      unfold zero11 at r3
      obtain ⟨o0,o1,o2,o3,o4,o5,o6,o7,o8,o9,o10⟩:=op_cells R1.out
      obtain ⟨d0,d1,d2,d3,d4,d5,d6,d7,d8,d9,d10,df⟩:=eleven_cells r3
      dsimp only at o0 o1 o2 o3 o4 o5 o6 o7 o8 o9 o10
      have hlt2:(w.heap.size + 1 + 1) < W5.heap.size:=(Array.getElem?_eq_some_iff.1 r3).1
      have hlt0:w.heap.size < W5.heap.size:=by omega
      clear r3
      go_wp2_with fail
      obtain ⟨W9,hW9,R9,B9,Z9,K9⟩:=end_op (o:=({ b with path:=q1 }:Ov)) (s:=({ sb with pA:=A1,pn:=n1,pc:=c1 }:OS)) (r:=(w.heap.size + 1 + 1)) (by omega) B5.out (show W5.heap[(w.heap.size + 1 + 1)]? = some (.cells #[.int .u8 0,.slice none 0 0,.int .i64 0,.slice none 0 0,.int .u64 0,.bool false,.string ⟨#[]⟩,.string ⟨#[]⟩,.string ⟨#[]⟩,.bool false,.slice none 0 0] _ (0,0)) from r3h.out)
      have hW9':W9 = (((((((((((W5.setCell ⟨(w.heap.size + 1 + 1),0,none⟩ (.int .u8 (b.kind:Int))).setCell ⟨(w.heap.size + 1 + 1),1,none⟩ (.slice A1 n1 c1)).setCell ⟨(w.heap.size + 1 + 1),2,none⟩ (.int .i64 b.at_)).setCell ⟨(w.heap.size + 1 + 1),3,none⟩ (.slice sb.tA sb.tn sb.tc)).setCell ⟨(w.heap.size + 1 + 1),4,none⟩ (.int .u64 (b.id:Int))).setCell ⟨(w.heap.size + 1 + 1),5,none⟩ (.bool b.leaf)).setCell ⟨(w.heap.size + 1 + 1),6,none⟩ (.string ⟨b.label.toArray⟩)).setCell ⟨(w.heap.size + 1 + 1),7,none⟩ (.string ⟨b.key.toArray⟩)).setCell ⟨(w.heap.size + 1 + 1),8,none⟩ (.string ⟨b.value.toArray⟩)).setCell ⟨(w.heap.size + 1 + 1),9,none⟩ (.bool b.gone)).setCell ⟨(w.heap.size + 1 + 1),10,none⟩ (.slice sb.qA sb.qn sb.qc)):=hW9
      rw [← hW9']
      clear hW9' hW9 d0 d1 d2 d3 d4 d5 d6 d7 d8 d9 d10
      unfold opCells at R9
      obtain ⟨d0,d1,d2,d3,d4,d5,d6,d7,d8,d9,d10,dg⟩:=eleven_cells R9
      dsimp only at d0 d1 d2 d3 d4 d5 d6 d7 d8 d9 d10
      refine bodyPost_ret (v:=.agg (opCells (({ b with path:=q1 }:Ov)) (({ sb with pA:=A1,pn:=n1,pc:=c1 }:OS)))) (by simp [results,Try.results164,go_sem,d0,d1,d2,d3,d4,d5,d6,d7,d8,d9,d10,opCells]) rfl ?_
      exact ⟨_,by rw [hre.out],by rw [hre.out];exact hfin.out W9 B9 K9,B9⟩
end Go.Proofs.Ytfaolhcacaeijaa.Sqr
