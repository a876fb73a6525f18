/- MgAO: ShfF ShfRf SqrVal ShfRe TopBe -/
import Derived.Test.YtidimannfemnmaaMgAN
import Derived.Deep.RegionHeld3
import Derived.Test.YtidimannfemnmaaMgAL
import Derived.Test.YtidimannfemnmaaMgAK
set_option linter.all false
namespace Go.Proofs.Ytidimannfemnmaa.Shf
open Go.RowKit Top
set_option maxRecDepth 20000

theorem two_news (w:World) (o1 o2:Obj):(((w.alloc o1).alloc o2).heap[w.heap.size]? = some o1)∧(((w.alloc o1).alloc o2).heap[w.heap.size + 1]? = some o2)∧Below w.heap.size w ((w.alloc o1).alloc o2)∧((w.alloc o1).alloc o2).heap.size = w.heap.size + 1 + 1:=by
  have h2:=heap_alloc_new (w.alloc o1) o2
  rw [World.size_alloc] at h2
  exact ⟨(Go.heap_alloc_old _ _ (by simp)).trans (heap_alloc_new w o1),h2,((Below.refl _ _).alloc (Nat.le_refl _) _).alloc (by simp) _,by simp⟩
def zeroO:Ov:=⟨0,[],0,[],0,false,[],[],[],false,[]⟩
def backV (c:Ch):Int:=if P4.eqV c.from_ c.to_ && decide (landV c < c.child) then IntKind.i64.wrap (c.child + 1) else c.child
def undoV (c:Ch):Ov:=if c.takes && c.puts then ⟨3,toV c ++ [landV c],backV c,plainR c c.from_.reverse,0,false,[],[],[],false,[]⟩ else zeroO
theorem from_clear (c:Ch):Clear c c.from_:=fun q k r e=>by
  unfold hitV P4.eqV
  have:q ≠ c.from_:=fun h=>by
    have:=congrArg List.length e
    rw [h] at this
    simp at this
  rw [decide_eq_false this]
  simp
theorem node_from (c:Ch):nodeV c c.from_ = some (plainR c c.from_.reverse):=nodeV_clear _ _ rfl (from_clear c)
theorem node_path {o:Ov} (h1:(chV o).takes = true) (h2:(chV o).puts = true):nodeV (chV o) o.path = some (toV (chV o) ++ [landV (chV o)])∧o.path = (chV o).from_ ++ [(chV o).child]:=by
  have hp:o.path = (chV o).from_ ++ [(chV o).child]:=by
    by_cases hf:formedV o = true
    · by_cases k1:o.kind = 1
      · unfold chV at h1;rw [if_pos hf,if_pos k1] at h1;cases h1
      · by_cases k2:o.kind = 2
        · by_cases hp:o.path = []
          · unfold chV at h1;rw [if_pos hf,if_neg k1,if_pos k2,if_pos hp] at h1;cases h1
          · unfold chV at h2;rw [if_pos hf,if_neg k1,if_pos k2,if_neg hp] at h2;cases h2
        · by_cases k3:o.kind = 3
          · cases hw:P4.withinV o.path o.to_ with
            | true=>unfold chV at h1;rw [if_pos hf,if_neg k1,if_neg k2,if_pos k3,if_pos hw] at h1;cases h1
            | false =>
              have hp:o.path ≠ []:=by
                intro e
                rw [e] at hw
                unfold P4.withinV at hw
                exact absurd hw (by cases o.to_ <;> simp [P4.commonV])
              obtain ⟨q,d,hq⟩:∃ q d,o.path = q ++ [d]:=by
                rcases snoc_cases o.path with h | h
                · exact absurd h hp
                · exact h
              have:chV o = ⟨true,q,d,true,o.to_,o.at_⟩:=by unfold chV;rw [if_pos hf,if_neg k1,if_neg k2,if_pos k3,if_neg (by rw [hw];simp),hq,List.dropLast_concat,List.getLastD_concat]
              rw [this,hq]
          · unfold chV at h1;rw [if_pos hf,if_neg k1,if_neg k2,if_neg k3] at h1;cases h1
    · unfold chV at h1;rw [if_neg hf] at h1;cases h1
  refine ⟨?_,hp⟩
  rw [hp,nodeV_snoc,if_pos,if_pos h2]
  unfold hitV P4.eqV
  simp [h1]
theorem set_op1 {w:World} {g:Nat} {o:Ov} {s:OS} {ty:TypeId} (A:Option Addr) (n c:Nat) (q:List Int) (h:w.heap[g]? = some (.cells (opCells o s) ty (0,0))):(w.setCell ⟨g,1,none⟩ (.slice A n c)).heap[g]? = some (.cells (opCells { o with path:=q } { s with pA:=A,pn:=n,pc:=c }) ty (0,0)):=by
  rw [heap_setCell_same w g 1 _ _ _ h]
  simp [opCells]
theorem set_op3 {w:World} {g:Nat} {o:Ov} {s:OS} {ty:TypeId} (A:Option Addr) (n c:Nat) (q:List Int) (h:w.heap[g]? = some (.cells (opCells o s) ty (0,0))):(w.setCell ⟨g,3,none⟩ (.slice A n c)).heap[g]? = some (.cells (opCells { o with to_:=q } { s with tA:=A,tn:=n,tc:=c }) ty (0,0)):=by
  rw [heap_setCell_same w g 3 _ _ _ h]
  simp [opCells]
theorem set_op2 {w:World} {g:Nat} {o:Ov} {s:OS} {ty:TypeId} (i:Int) (h:w.heap[g]? = some (.cells (opCells o s) ty (0,0))):(w.setCell ⟨g,2,none⟩ (.int .i64 i)).heap[g]? = some (.cells (opCells { o with at_:=i } s) ty (0,0)):=by
  rw [heap_setCell_same w g 2 _ _ _ h]
  simp [opCells]
theorem op_frozen {W:World} {b:Nat} {o:Ov} {s:OS} {ty:TypeId} (h:W.heap[b]? = some (.cells (opCells o s) ty (0,0))):∀ k,W.frozen? ⟨b,k,none⟩ = false:=fun k=>frozen_of_row W b k _ _ h
set_option maxHeartbeats 16000000 in
theorem Undo_any (w:World) (o:Ov) (s:OS) (ho:OpIn w o s) (hl:Slen o):Calls Try.prog 116 #[.agg (opCells o s)] w fun e w'=>∃ s',e = .returned (.agg (opCells (undoV (chV o)) s'))∧OwnOp w.heap.size w' (undoV (chV o)) s'∧Below w.heap.size w w':=by
  obtain ⟨z1,z2,z4,z5⟩:=two_news w (.cells (opCells o s) 52) (.cells zero11 52)
  obtain ⟨W2,hW2⟩:∃ W2,W2 = ((w.alloc (.cells (opCells o s) 52)).alloc (.cells zero11 52)):=⟨_,rfl⟩
  rw [← hW2] at z1 z2 z4 z5
  have z1':=Lib.hid z1
  have z2':=Lib.hid z2
  have z4':=Lib.hid z4
  have z5':=Lib.hid z5
  have hch:=Lib.hid (changeOf_any W2 o s (ho.below z4))
  have hop:=Lib.hid (fun (W:World) (hb:Below w.heap.size w W)=>ho.below hb)
  obtain ⟨o0,o1,o2,o3,o4,o5,o6,o7,o8,o9,o10⟩:=op_cells z1
  rw [hW2] at o0 o1 o2 o3 o4 o5 o6 o7 o8 o9 o10
  have hcl:=Lib.hid (ch_clear o)
  have hct:=Lib.hid (ch_few hl)
  have hnp:=Lib.hid (@node_path o)
  have hl':=Lib.hid hl
  generalize chV o = c at *
  obtain ⟨tk,fr,chd,pt,tp,gp⟩:=c
  dsimp only at hch hcl hct hnp
  have ho1:=Lib.hid (show s.pn≤s.pc∧s.pc≤maxLen∧s.pn≤400000 from ⟨ho.pnc,ho.pcm,by have:=ho.path.1;have:=hl.1;omega⟩)
  clear ho hl z1 z2 z4 z5
  unfold opCells at hW2 hch
  unfold zero11 at hW2
  conv=>arg 3;unfold opCells
  go_enter Try.func116,Try.ntmps116
  go_upto_region 2 with (go_at_call 124;(rw [← hW2];refine hch.out.mono ?_;rintro e w1 ⟨cs,rfl,hc1,hb1⟩;have hc1':=Lib.hid hc1;have B1:=Lib.hid hb1;unfold chCells;dsimp only;clear hc1 hb1 o0 o1 o2 o3 o4 o5 o6 o7 o8 o9 o10))
  obtain ⟨X,hX⟩:∃ X,X = w1.alloc (.cells (chCells ⟨tk,fr,chd,pt,tp,gp⟩ cs) 143):=⟨_,rfl⟩
  have hX':X = w1.alloc (.cells #[.bool tk,.slice cs.fA cs.fn cs.fc,.int .i64 chd,.bool pt,.slice cs.tA cs.tn cs.tc,.int .i64 gp] 143):=hX
  rw [← hX']
  have x1:X.heap[w1.heap.size]? = some (.cells (chCells ⟨tk,fr,chd,pt,tp,gp⟩ cs) 143 (0,0)):=by rw [hX];exact heap_alloc_new w1 _
  have xB:=Lib.hid (show Below w1.heap.size w1 X by rw [hX];exact (Below.refl _ _).alloc (Nat.le_refl _) _)
  have xS:X.heap.size = w1.heap.size + 1:=by rw [hX];simp
  have B2:=Lib.hid (B1.out.trans (xB.out.mono B1.out.size))
  have BX:=Lib.hid (z4'.out.trans (B2.out.mono z4'.out.size))
  have x1':=Lib.hid x1
  obtain ⟨c0,c1,c2,c3,c4,c5⟩:=ch_cells x1
  dsimp only at c0 c1 c2 c3 c4 c5
  have y1':=Lib.hid ((B2.out.block w.heap.size (by have:=z5'.out;omega)).trans z1'.out)
  have y2':=Lib.hid ((B2.out.block (w.heap.size + 1) (by have:=z5'.out;omega)).trans z2'.out)
  obtain ⟨o0,o1,o2,o3,o4,o5,o6,o7,o8,o9,o10⟩:=op_cells y1'.out
  have y2:=y2'.out
  unfold zero11 at y2
  obtain ⟨q0,q1,q2,q3,q4,q5,q6,q7,q8,q9,q10,qf⟩:=eleven_cells y2
  have hlt:w.heap.size + 1 + 1≤w1.heap.size:=by have:=B1.out.size;have:=z5'.out;omega
  clear hX hX' x1 y2
  have nil_case:Hid ((tk && pt) = false→undoV ⟨tk,fr,chd,pt,tp,gp⟩ = zeroO):=Lib.hid (fun h=>by unfold undoV;dsimp only;rw [h];rfl)
  cases tk with
  | false =>
    go_wp2_with fail
    obtain ⟨W9,hW9,R9,B9,Z9,K9⟩:=end_op (o:=zeroO) (s:=⟨none,0,0,none,0,0,none,0,0⟩) (r:=w.heap.size + 1) (by omega) BX.out (show X.heap[w.heap.size + 1]? = some (.cells #[.int .u8 0,.slice none 0 0,.int .i64 0,.slice none 0 0,.int .u64 0,.bool false,.string ⟨#[]⟩,.string ⟨#[]⟩,.string ⟨#[]⟩,.bool false,.slice none 0 0] _ (0,0)) from y2'.out)
    have hW9':W9 = (((((((((((X.setCell ⟨w.heap.size + 1,0,none⟩ (.int .u8 0)).setCell ⟨w.heap.size + 1,1,none⟩ (.slice none 0 0)).setCell ⟨w.heap.size + 1,2,none⟩ (.int .i64 0)).setCell ⟨w.heap.size + 1,3,none⟩ (.slice none 0 0)).setCell ⟨w.heap.size + 1,4,none⟩ (.int .u64 0)).setCell ⟨w.heap.size + 1,5,none⟩ (.bool false)).setCell ⟨w.heap.size + 1,6,none⟩ (.string ⟨#[]⟩)).setCell ⟨w.heap.size + 1,7,none⟩ (.string ⟨#[]⟩)).setCell ⟨w.heap.size + 1,8,none⟩ (.string ⟨#[]⟩)).setCell ⟨w.heap.size + 1,9,none⟩ (.bool false)).setCell ⟨w.heap.size + 1,10,none⟩ (.slice none 0 0)):=hW9
    rw [← hW9']
    clear hW9' hW9
    unfold opCells at R9
    obtain ⟨d0,d1,d2,d3,d4,d5,d6,d7,d8,d9,d10,df⟩:=eleven_cells R9
    refine bodyPost_ret (v:=.agg (opCells zeroO ⟨none,0,0,none,0,0,none,0,0⟩)) (by simp [results,Try.results116,go_sem,d0,d1,d2,d3,d4,d5,d6,d7,d8,d9,d10,opCells,zeroO]) rfl ?_
    rw [nil_case.out (by simp)]
    exact ⟨_,rfl,⟨P4.OwnI.nil_ _ _,P4.OwnI.nil_ _ _,OwnQ.nil_ _ _⟩,B9⟩
  | true =>
    cases pt with
    | false =>
      go_wp2_with fail
      obtain ⟨W9,hW9,R9,B9,Z9,K9⟩:=end_op (o:=zeroO) (s:=⟨none,0,0,none,0,0,none,0,0⟩) (r:=w.heap.size + 1) (by omega) BX.out (show X.heap[w.heap.size + 1]? = some (.cells #[.int .u8 0,.slice none 0 0,.int .i64 0,.slice none 0 0,.int .u64 0,.bool false,.string ⟨#[]⟩,.string ⟨#[]⟩,.string ⟨#[]⟩,.bool false,.slice none 0 0] _ (0,0)) from y2'.out)
      have hW9':W9 = (((((((((((X.setCell ⟨w.heap.size + 1,0,none⟩ (.int .u8 0)).setCell ⟨w.heap.size + 1,1,none⟩ (.slice none 0 0)).setCell ⟨w.heap.size + 1,2,none⟩ (.int .i64 0)).setCell ⟨w.heap.size + 1,3,none⟩ (.slice none 0 0)).setCell ⟨w.heap.size + 1,4,none⟩ (.int .u64 0)).setCell ⟨w.heap.size + 1,5,none⟩ (.bool false)).setCell ⟨w.heap.size + 1,6,none⟩ (.string ⟨#[]⟩)).setCell ⟨w.heap.size + 1,7,none⟩ (.string ⟨#[]⟩)).setCell ⟨w.heap.size + 1,8,none⟩ (.string ⟨#[]⟩)).setCell ⟨w.heap.size + 1,9,none⟩ (.bool false)).setCell ⟨w.heap.size + 1,10,none⟩ (.slice none 0 0)):=hW9
      rw [← hW9']
      clear hW9' hW9
      unfold opCells at R9
      obtain ⟨d0,d1,d2,d3,d4,d5,d6,d7,d8,d9,d10,df⟩:=eleven_cells R9
      refine bodyPost_ret (v:=.agg (opCells zeroO ⟨none,0,0,none,0,0,none,0,0⟩)) (by simp [results,Try.results116,go_sem,d0,d1,d2,d3,d4,d5,d6,d7,d8,d9,d10,opCells,zeroO]) rfl ?_
      rw [nil_case.out (by simp)]
      exact ⟨_,rfl,⟨P4.OwnI.nil_ _ _,P4.OwnI.nil_ _ _,OwnQ.nil_ _ _⟩,B9⟩
    | true =>
      clear nil_case q0 q1 q2 q3 q4 q5 q6 q7 q8 q9 q10 qf
      obtain ⟨hnp1,hnp2⟩:=hnp.out rfl rfl
      have hnp1':=Lib.hid hnp1
      go_upto_region 5 with fail
      obtain ⟨Y,hY⟩:∃ Y,Y = X.alloc (.cells (opCells ⟨3,[],chd,[],0,false,[],[],[],false,[]⟩ ⟨none,0,0,none,0,0,none,0,0⟩) 52):=⟨_,rfl⟩
      have hY':Y = X.alloc (.cells #[.int .u8 3,.slice none 0 0,.int .i64 chd,.slice none 0 0,.int .u64 0,.bool false,.string ⟨#[]⟩,.string ⟨#[]⟩,.string ⟨#[]⟩,.bool false,.slice none 0 0] 52):=hY
      rw [← hY']
      have H4Y:=Lib.hid (show Y.heap[w1.heap.size + 1]? = some (.cells (opCells ⟨3,[],chd,[],0,false,[],[],[],false,[]⟩ ⟨none,0,0,none,0,0,none,0,0⟩) 52 (0,0)) by rw [hY,← xS];exact heap_alloc_new X _)
      have YB:=Lib.hid (show Below X.heap.size X Y by rw [hY];exact (Below.refl _ _).alloc (Nat.le_refl _) _)
      have YS:=Lib.hid (show Y.heap.size = X.heap.size + 1 by rw [hY];simp)
      have H0Y:=Lib.hid ((YB.out.block w.heap.size (by omega)).trans y1'.out)
      have H1Y:=Lib.hid ((YB.out.block w1.heap.size (by omega)).trans x1'.out)
      have H2Y:=Lib.hid ((YB.out.block (w.heap.size + 1) (by omega)).trans y2'.out)
      have BY:=Lib.hid (BX.out.trans (YB.out.mono BX.out.size))
      have BY1:=Lib.hid (xB.out.trans (YB.out.mono xB.out.size))
      clear hY hY' o0 o1 o2 o3 o4 o5 o6 o7 o8 o9 o10 c0 c1 c2 c3 c4 c5
      have c1r:=H1Y.out
      obtain ⟨c0,c1,c2,c3,c4,c5⟩:=ch_cells c1r
      dsimp only at c0 c1 c2 c3 c4 c5
      obtain ⟨o0,o1,o2,o3,o4,o5,o6,o7,o8,o9,o10⟩:=op_cells H0Y.out
      obtain ⟨b0,b1,b2,b3,b4,b5,b6,b7,b8,b9,b10⟩:=op_cells H4Y.out
      have bf:=op_frozen H4Y.out
      dsimp only at b0 b1 b2 b3 b4 b5 b6 b7 b8 b9 b10
      clear c1r
      have hn1:=Lib.hid (node_any Y ⟨true,fr,chd,true,tp,gp⟩ cs s.pA s.pn s.pc o.path (hc1'.out.below BY1.out) (hop.out Y BY.out).path ho1.out.1 ho1.out.2.1 ho1.out.2.2 (by have:=hc1'.out.to_.1;have:=hct.out;dsimp only at *;omega) hcl.out)
      unfold chCells at hn1
      dsimp only at hn1
      have B1Y:=BY1
      go_upto_region 6 with (go_at_call 125;(refine hn1.out.mono ?_;rintro e wa (⟨hr1,-⟩ | ⟨v,xs,hr1,rfl,hr3,hb2⟩);(exfalso;rw [hnp1'.out] at hr1;cases hr1);rw [hnp1'.out] at hr1;injection hr1 with hr1;subst hr1;obtain ⟨yA,yn,yc,rfl,-⟩:=P4.OwnI.shape hr3;have O1:=Lib.hid hr3;have E1:=Lib.hid hb2;have Bwa:=Lib.hid (BY.out.trans (hb2.mono BY.out.size));have H0wa:=Lib.hid ((hb2.block _ (Array.getElem?_eq_some_iff.1 H0Y.out).1).trans H0Y.out);have H1wa:=Lib.hid ((hb2.block _ (Array.getElem?_eq_some_iff.1 H1Y.out).1).trans H1Y.out);have H2wa:=Lib.hid ((hb2.block _ (Array.getElem?_eq_some_iff.1 H2Y.out).1).trans H2Y.out);have H4wa:=Lib.hid ((hb2.block _ (Array.getElem?_eq_some_iff.1 H4Y.out).1).trans H4Y.out);clear hr3 hb2 o0 o1 o2 o3 o4 o5 o6 o7 o8 o9 o10 c0 c1 c2 c3 c4 c5 b0 b1 b2 b3 b4 b5 b6 b7 b8 b9 b10 bf;have c1r:=H1wa.out;obtain ⟨c0,c1,c2,c3,c4,c5⟩:=ch_cells c1r;dsimp only at c0 c1 c2 c3 c4 c5;obtain ⟨o0,o1,o2,o3,o4,o5,o6,o7,o8,o9,o10⟩:=op_cells H0wa.out;obtain ⟨b0,b1,b2,b3,b4,b5,b6,b7,b8,b9,b10⟩:=op_cells H4wa.out;have bf:=op_frozen H4wa.out;dsimp only at b0 b1 b2 b3 b4 b5 b6 b7 b8 b9 b10;clear c1r))
      have B1wa:=Lib.hid (B1Y.out.trans (E1.out.mono B1Y.out.size))
      obtain ⟨Z,hZ⟩:∃ Q9,Q9 = wa.setCell ⟨w1.heap.size + 1,1,none⟩ (.slice yA yn yc):=⟨_,rfl⟩
      rw [← hZ]
      have ZK:=Lib.hid (show ∀ k,k ≠ w1.heap.size + 1→Z.heap[k]? = wa.heap[k]? by intro k hk;rw [hZ];exact heap_setCell_other _ _ k _ hk)
      have ZS:=Lib.hid (show Z.heap.size = wa.heap.size by rw [hZ];simp)
      have H0Z:=Lib.hid ((ZK.out _ (by omega)).trans H0wa.out)
      have H1Z:=Lib.hid ((ZK.out _ (by omega)).trans H1wa.out)
      have H2Z:=Lib.hid ((ZK.out _ (by omega)).trans H2wa.out)
      have H4Z:=Lib.hid (show Z.heap[w1.heap.size + 1]? = some (.cells (opCells ⟨3,toV ⟨true,fr,chd,true,tp,gp⟩ ++ [landV ⟨true,fr,chd,true,tp,gp⟩],chd,[],0,false,[],[],[],false,[]⟩ ⟨yA,yn,yc,none,0,0,none,0,0⟩) 52 (0,0)) by rw [hZ];exact set_op1 yA yn yc (toV ⟨true,fr,chd,true,tp,gp⟩ ++ [landV ⟨true,fr,chd,true,tp,gp⟩]) H4wa.out)
      have BZ:=Lib.hid (show Below w.heap.size w Z by rw [hZ];exact Bwa.out.setCell (p:=⟨w1.heap.size + 1,1,none⟩) (by show w.heap.size≤w1.heap.size + 1;omega) _)
      have B1Z:=Lib.hid (show Below w1.heap.size w1 Z by rw [hZ];exact B1wa.out.setCell (p:=⟨w1.heap.size + 1,1,none⟩) (by show w1.heap.size≤w1.heap.size + 1;omega) _)
      clear hZ o0 o1 o2 o3 o4 o5 o6 o7 o8 o9 o10 c0 c1 c2 c3 c4 c5 b0 b1 b2 b3 b4 b5 b6 b7 b8 b9 b10 bf
      have c1r:=H1Z.out;obtain ⟨c0,c1,c2,c3,c4,c5⟩:=ch_cells c1r;dsimp only at c0 c1 c2 c3 c4 c5;obtain ⟨o0,o1,o2,o3,o4,o5,o6,o7,o8,o9,o10⟩:=op_cells H0Z.out;obtain ⟨b0,b1,b2,b3,b4,b5,b6,b7,b8,b9,b10⟩:=op_cells H4Z.out;have bf:=op_frozen H4Z.out;dsimp only at b0 b1 b2 b3 b4 b5 b6 b7 b8 b9 b10;clear c1r
      have hfl:=Lib.hid (show cs.fn≤400000 by have h1:=hc1'.out.from_.1;have h2:=ho1.out.2.2;have h3:=(hop.out w (Below.refl _ _)).path.1;dsimp only at h1 hnp2;rw [hnp2,List.length_append] at h3;simp at h3;omega)
      have hn2:=Lib.hid (node_any Z ⟨true,fr,chd,true,tp,gp⟩ cs cs.fA cs.fn cs.fc fr (hc1'.out.below B1Z.out) (hc1'.out.below B1Z.out).from_ hc1'.out.fnc hc1'.out.fcm hfl.out (by have:=hc1'.out.to_.1;have:=hct.out;dsimp only at *;omega) hcl.out)
      have hnf:=Lib.hid (node_from ⟨true,fr,chd,true,tp,gp⟩)
      dsimp only at hnf
      unfold chCells at hn2
      dsimp only at hn2
      go_upto_region 7 with (go_at_call 125;(refine hn2.out.mono ?_;rintro e wb (⟨hr1,-⟩ | ⟨v,xs,hr1,rfl,hr3,hb2⟩);(exfalso;rw [hnf.out] at hr1;cases hr1);rw [hnf.out] at hr1;injection hr1 with hr1;subst hr1;obtain ⟨tA,tn,tc,rfl,-⟩:=P4.OwnI.shape hr3;have O2:=Lib.hid hr3;have E2:=Lib.hid hb2;have Bwb:=Lib.hid (BZ.out.trans (hb2.mono BZ.out.size));have H0wb:=Lib.hid ((hb2.block _ (Array.getElem?_eq_some_iff.1 H0Z.out).1).trans H0Z.out);have H1wb:=Lib.hid ((hb2.block _ (Array.getElem?_eq_some_iff.1 H1Z.out).1).trans H1Z.out);have H2wb:=Lib.hid ((hb2.block _ (Array.getElem?_eq_some_iff.1 H2Z.out).1).trans H2Z.out);have H4wb:=Lib.hid ((hb2.block _ (Array.getElem?_eq_some_iff.1 H4Z.out).1).trans H4Z.out);clear hr3 hb2 o0 o1 o2 o3 o4 o5 o6 o7 o8 o9 o10 c0 c1 c2 c3 c4 c5 b0 b1 b2 b3 b4 b5 b6 b7 b8 b9 b10 bf;have c1r:=H1wb.out;obtain ⟨c0,c1,c2,c3,c4,c5⟩:=ch_cells c1r;dsimp only at c0 c1 c2 c3 c4 c5;obtain ⟨o0,o1,o2,o3,o4,o5,o6,o7,o8,o9,o10⟩:=op_cells H0wb.out;obtain ⟨b0,b1,b2,b3,b4,b5,b6,b7,b8,b9,b10⟩:=op_cells H4wb.out;have bf:=op_frozen H4wb.out;dsimp only at b0 b1 b2 b3 b4 b5 b6 b7 b8 b9 b10;clear c1r))
      have B1wb:=Lib.hid (B1Z.out.trans (E2.out.mono B1Z.out.size))
      obtain ⟨V,hV⟩:∃ Q9,Q9 = wb.setCell ⟨w1.heap.size + 1,3,none⟩ (.slice tA tn tc):=⟨_,rfl⟩
      rw [← hV]
      have VK:=Lib.hid (show ∀ k,k ≠ w1.heap.size + 1→V.heap[k]? = wb.heap[k]? by intro k hk;rw [hV];exact heap_setCell_other _ _ k _ hk)
      have VS:=Lib.hid (show V.heap.size = wb.heap.size by rw [hV];simp)
      have H0V:=Lib.hid ((VK.out _ (by omega)).trans H0wb.out)
      have H1V:=Lib.hid ((VK.out _ (by omega)).trans H1wb.out)
      have H2V:=Lib.hid ((VK.out _ (by omega)).trans H2wb.out)
      have H4V:=Lib.hid (show V.heap[w1.heap.size + 1]? = some (.cells (opCells ⟨3,toV ⟨true,fr,chd,true,tp,gp⟩ ++ [landV ⟨true,fr,chd,true,tp,gp⟩],chd,plainR ⟨true,fr,chd,true,tp,gp⟩ fr.reverse,0,false,[],[],[],false,[]⟩ ⟨yA,yn,yc,tA,tn,tc,none,0,0⟩) 52 (0,0)) by rw [hV];exact set_op3 tA tn tc (plainR ⟨true,fr,chd,true,tp,gp⟩ fr.reverse) H4wb.out)
      have BV:=Lib.hid (show Below w.heap.size w V by rw [hV];exact Bwb.out.setCell (p:=⟨w1.heap.size + 1,3,none⟩) (by show w.heap.size≤w1.heap.size + 1;omega) _)
      have B1V:=Lib.hid (show Below w1.heap.size w1 V by rw [hV];exact B1wb.out.setCell (p:=⟨w1.heap.size + 1,3,none⟩) (by show w1.heap.size≤w1.heap.size + 1;omega) _)
      clear hV o0 o1 o2 o3 o4 o5 o6 o7 o8 o9 o10 c0 c1 c2 c3 c4 c5 b0 b1 b2 b3 b4 b5 b6 b7 b8 b9 b10 bf
      have c1r:=H1V.out;obtain ⟨c0,c1,c2,c3,c4,c5⟩:=ch_cells c1r;dsimp only at c0 c1 c2 c3 c4 c5;obtain ⟨o0,o1,o2,o3,o4,o5,o6,o7,o8,o9,o10⟩:=op_cells H0V.out;obtain ⟨b0,b1,b2,b3,b4,b5,b6,b7,b8,b9,b10⟩:=op_cells H4V.out;have bf:=op_frozen H4V.out;dsimp only at b0 b1 b2 b3 b4 b5 b6 b7 b8 b9 b10;clear c1r
      have hsame:=Lib.hid (fun (W:World) (hb:Below V.heap.size V W)=>same_its W cs.fA cs.tA cs.fn cs.fc cs.tn cs.tc fr tp (hc1'.out.below (B1V.out.trans (hb.mono B1V.out.size))).from_ (hc1'.out.below (B1V.out.trans (hb.mono B1V.out.size))).to_ (Nat.le_trans hc1'.out.fnc hc1'.out.fcm))
      have hland:=Lib.hid (fun (W:World) (hb:Below V.heap.size V W)=>landing_any W ⟨true,fr,chd,true,tp,gp⟩ cs (hc1'.out.below (B1V.out.trans (hb.mono B1V.out.size))))
      have hH4:=Lib.hid (fun (W:World) (hb:Below V.heap.size V W)=>(hb.block _ (Array.getElem?_eq_some_iff.1 H4V.out).1).trans H4V.out)
      have hH2:=Lib.hid (fun (W:World) (hb:Below V.heap.size V W)=>(hb.block _ (Array.getElem?_eq_some_iff.1 H2V.out).1).trans H2V.out)
      have hBW:=Lib.hid (fun (W:World) (hb:Below V.heap.size V W)=>BV.out.trans (hb.mono BV.out.size))
      have hVs:=Lib.hid (show wb.heap.size≤V.heap.size∧wa.heap.size≤wb.heap.size∧w1.heap.size + 1 < wa.heap.size by refine ⟨Nat.le_of_eq VS.out.symm,?_,(Array.getElem?_eq_some_iff.1 H4wa.out).1⟩;have:=E2.out.size;have:=ZS.out;omega)
      unfold chCells at hland
      dsimp only at hland
      obtain ⟨e1,he1⟩:∃ b,b = P4.eqV fr tp:=⟨_,rfl⟩
      obtain ⟨m,hm⟩:∃ m,m = landV ⟨true,fr,chd,true,tp,gp⟩:=⟨_,rfl⟩
      have hback:=Lib.hid (show undoV ⟨true,fr,chd,true,tp,gp⟩ = ⟨3,toV ⟨true,fr,chd,true,tp,gp⟩ ++ [m],if e1 && decide (m < chd) then wrap64 (chd + 1) else chd,plainR ⟨true,fr,chd,true,tp,gp⟩ fr.reverse,0,false,[],[],[],false,[]⟩ by rw [he1,hm,← IntWalk.i64_left];rfl)
      rw [← he1] at hsame
      rw [← hm] at hland H4V hH4 O1
      clear he1 hm hnp hnp1 hnp2 hnp1'
      clear c0 c1 c2 c3 c4 c5 o0 o1 o2 o3 o4 o5 o6 o7 o8 o9 o10 b0 b1 b2 b3 b4 b5 b6 b7 b8 b9 b10 bf
      cases e1 with
      | false =>
        have hback1:=Lib.hid (show undoV ⟨true,fr,chd,true,tp,gp⟩ = ⟨3,toV ⟨true,fr,chd,true,tp,gp⟩ ++ [m],chd,plainR ⟨true,fr,chd,true,tp,gp⟩ fr.reverse,0,false,[],[],[],false,[]⟩ by rw [hback.out];rfl)
        rename_i K0 hK0
        refine wp_region_held_drew (S:=fun W=>Below V.heap.size V W) (by kernel_rfl) ((Below.refl V.heap.size V).drew) (fun hHeld=>?_)
        refine wpAnyH_take (i:=0) (v:=?_) rfl (by kernel_rfl) (by kernel_rfl) (by kernel_rfl) (fun _ _ _ h=>h) (Or.inl ⟨by rfl,?_⟩) hHeld ?_
        rotate_left 1
        · intro W hSw;have c1r:=(hSw.block _ (Array.getElem?_eq_some_iff.1 H1V.out).1).trans H1V.out;obtain ⟨c0,c1,c2,c3,c4,c5⟩:=ch_cells c1r;dsimp only at c0 c1 c2 c3 c4 c5;go_simp;try with_reducible rfl
        try simp only [Act.put,zA,zB,zC]
        refine wpAnyH_take (i:=1) (v:=?_) rfl (by kernel_rfl) (by kernel_rfl) (by kernel_rfl) (fun _ _ _ h=>h) (Or.inl ⟨by rfl,?_⟩) hHeld ?_
        rotate_left 1
        · intro W hSw;have c1r:=(hSw.block _ (Array.getElem?_eq_some_iff.1 H1V.out).1).trans H1V.out;obtain ⟨c0,c1,c2,c3,c4,c5⟩:=ch_cells c1r;dsimp only at c0 c1 c2 c3 c4 c5;go_simp;try with_reducible rfl
        try simp only [Act.put,zA,zB,zC]
        refine wpAnyH_take (i:=2) (v:=?_) rfl (by kernel_rfl) (by kernel_rfl) (by kernel_rfl) (fun _ _ _ h=>h) (Or.inl ⟨by rfl,?_⟩) hHeld ?_
        rotate_left 1
        · intro W hSw;have c1r:=(hSw.block _ (Array.getElem?_eq_some_iff.1 H1V.out).1).trans H1V.out;obtain ⟨c0,c1,c2,c3,c4,c5⟩:=ch_cells c1r;dsimp only at c0 c1 c2 c3 c4 c5;go_simp;try with_reducible rfl
        try simp only [Act.put,zA,zB,zC]
        refine wpAnyH_take (i:=3) (v:=?_) rfl (by kernel_rfl) (by kernel_rfl) (by kernel_rfl) (fun _ _ _ h=>h) (Or.inl ⟨by rfl,?_⟩) hHeld ?_
        rotate_left 1
        · intro W hSw;have c1r:=(hSw.block _ (Array.getElem?_eq_some_iff.1 H1V.out).1).trans H1V.out;obtain ⟨c0,c1,c2,c3,c4,c5⟩:=ch_cells c1r;dsimp only at c0 c1 c2 c3 c4 c5;go_simp;try with_reducible rfl
        try simp only [Act.put,zA,zB,zC]
        refine wpAnyH_ready (rs:=[4]) (by kernel_rfl) (by simp) ?_
        refine AllReadyH.cons rfl (fun K hK=>?_) AllReadyH.nil
        go_simp
        refine (hsame.out _ hHeld).mono ?_
        rintro e w5 ⟨rfl,k5,rfl⟩
        have h5:=Lib.hid (draws (Below.refl V.heap.size V) (1 + k5))
        go_simp
        refine hK.out _ _ ?_ (fun hNew=>?_)
        · exact h5.out
        clear hK K hHeld
        have hHeld:=hNew
        clear hNew
        try simp only [Act.put,zA,zB,zC]
        refine wpAnyH_take (i:=5) (v:=?_) rfl (by kernel_rfl) (by kernel_rfl) (by kernel_rfl) (fun _ _ _ h=>h) (Or.inl ⟨by rfl,?_⟩) hHeld ?_
        rotate_left 1
        · intro W hSw;have c1r:=(hSw.block _ (Array.getElem?_eq_some_iff.1 H1V.out).1).trans H1V.out;obtain ⟨c0,c1,c2,c3,c4,c5⟩:=ch_cells c1r;dsimp only at c0 c1 c2 c3 c4 c5;go_simp;try with_reducible rfl
        try simp only [Act.put,zA,zB,zC]
        refine wpAnyH_take (i:=6) (v:=undef) rfl (by kernel_rfl) (by kernel_rfl) (by kernel_rfl) (fun _ _ _ h=>h) (Or.inr ⟨by rfl,rfl⟩) hHeld ?_
        try simp only [Act.put,zA,zB,zC]
        refine wpAnyH_take (i:=7) (v:=undef) rfl (by kernel_rfl) (by kernel_rfl) (by kernel_rfl) (fun _ _ _ h=>h) (Or.inr ⟨by rfl,rfl⟩) hHeld ?_
        try simp only [Act.put,zA,zB,zC]
        refine wpAnyH_take (i:=8) (v:=undef) rfl (by kernel_rfl) (by kernel_rfl) (by kernel_rfl) (fun _ _ _ h=>h) (Or.inr ⟨by rfl,rfl⟩) hHeld ?_
        try simp only [Act.put,zA,zB,zC]
        refine wpAnyH_take (i:=9) (v:=undef) rfl (by kernel_rfl) (by kernel_rfl) (by kernel_rfl) (fun _ _ _ h=>h) (Or.inr ⟨by rfl,rfl⟩) hHeld ?_
        try simp only [Act.put,zA,zB,zC]
        refine wpAnyH_take (i:=10) (v:=undef) rfl (by kernel_rfl) (by kernel_rfl) (by kernel_rfl) (fun _ _ _ h=>h) (Or.inr ⟨by rfl,rfl⟩) hHeld ?_
        try simp only [Act.put,zA,zB,zC]
        refine wpAnyH_take (i:=11) (v:=?_) rfl (by kernel_rfl) (by kernel_rfl) (by kernel_rfl) (fun _ _ _ h=>h) (Or.inl ⟨by rfl,?_⟩) hHeld ?_
        rotate_left 1
        · intro W hSw;have c1r:=(hSw.block _ (Array.getElem?_eq_some_iff.1 H1V.out).1).trans H1V.out;obtain ⟨c0,c1,c2,c3,c4,c5⟩:=ch_cells c1r;dsimp only at c0 c1 c2 c3 c4 c5;go_simp;try with_reducible rfl
        try simp only [Act.put,zA,zB,zC]
        refine wpAnyH_done (by kernel_rfl) ?_ _
        refine hK0 _ _ ?_
        clear hK0
        have H2:=Lib.hid (hH2.out _ h5.out)
        have H4:=Lib.hid (hH4.out _ h5.out)
        have HB:=Lib.hid (hBW.out _ h5.out)
        have HS:=Lib.hid (Below.size h5.out)
        have HV:=Lib.hid (fun k (hk:k < V.heap.size)=>Below.block h5.out k hk)
        have s1:=hVs.out
        have s2:=ZS.out
        have s3:=VS.out
        have s4:=YS.out
        generalize V.drewN (1 + k5) = W5 at *
        obtain ⟨b0,b1,b2,b3,b4,b5,b6,b7,b8,b9,b10⟩:=op_cells H4.out
        have bf:=op_frozen H4.out
        have y2:=H2.out
        unfold zero11 at y2
        obtain ⟨q0,q1,q2,q3,q4,q5,q6,q7,q8,q9,q10,qf⟩:=eleven_cells y2
        dsimp only at b0 b1 b2 b3 b4 b5 b6 b7 b8 b9 b10
        clear y2
        go_wp2_with fail
        obtain ⟨W9,hW9,R9,B9,Z9,K9⟩:=end_op (o:=⟨3,toV ⟨true,fr,chd,true,tp,gp⟩ ++ [m],chd,plainR ⟨true,fr,chd,true,tp,gp⟩ fr.reverse,0,false,[],[],[],false,[]⟩) (s:=⟨yA,yn,yc,tA,tn,tc,none,0,0⟩) (r:=w.heap.size + 1) (by omega) HB.out (show W5.heap[w.heap.size + 1]? = some (.cells #[.int .u8 0,.slice none 0 0,.int .i64 0,.slice none 0 0,.int .u64 0,.bool false,.string ⟨#[]⟩,.string ⟨#[]⟩,.string ⟨#[]⟩,.bool false,.slice none 0 0] _ (0,0)) from H2.out)
        have hW9':W9 = (((((((((((W5.setCell ⟨w.heap.size + 1,0,none⟩ (.int .u8 3)).setCell ⟨w.heap.size + 1,1,none⟩ (.slice yA yn yc)).setCell ⟨w.heap.size + 1,2,none⟩ (.int .i64 (chd))).setCell ⟨w.heap.size + 1,3,none⟩ (.slice tA tn tc)).setCell ⟨w.heap.size + 1,4,none⟩ (.int .u64 0)).setCell ⟨w.heap.size + 1,5,none⟩ (.bool false)).setCell ⟨w.heap.size + 1,6,none⟩ (.string ⟨#[]⟩)).setCell ⟨w.heap.size + 1,7,none⟩ (.string ⟨#[]⟩)).setCell ⟨w.heap.size + 1,8,none⟩ (.string ⟨#[]⟩)).setCell ⟨w.heap.size + 1,9,none⟩ (.bool false)).setCell ⟨w.heap.size + 1,10,none⟩ (.slice none 0 0)):=hW9
        rw [← hW9']
        clear hW9' hW9
        unfold opCells at R9
        clear q0 q1 q2 q3 q4 q5 q6 q7 q8 q9 q10 qf
        obtain ⟨d0,d1,d2,d3,d4,d5,d6,d7,d8,d9,d10,df⟩:=eleven_cells R9
        refine bodyPost_ret (v:=.agg (opCells ⟨3,toV ⟨true,fr,chd,true,tp,gp⟩ ++ [m],chd,plainR ⟨true,fr,chd,true,tp,gp⟩ fr.reverse,0,false,[],[],[],false,[]⟩ ⟨yA,yn,yc,tA,tn,tc,none,0,0⟩)) (by simp [results,Try.results116,go_sem,d0,d1,d2,d3,d4,d5,d6,d7,d8,d9,d10,opCells]) rfl ?_
        rw [hback1.out]
        have keep:=Lib.hid (show ∀ k,k ≠ w.heap.size + 1→k ≠ w1.heap.size + 1→k < V.heap.size→W9.heap[k]? = V.heap[k]? from fun k k1 k2 k3=>(K9 k k1).trans ((HV.out k k3)))
        exact ⟨⟨yA,yn,yc,tA,tn,tc,none,0,0⟩,rfl,⟨own_mono (Top.own_kept O1.out (w':=W9) fun k hk1 hk2=>(keep.out k (by omega) (by omega) (by omega)).trans ((VK.out k (by omega)).trans ((E2.out.block k (by omega)).trans (ZK.out k (by omega))))) (by omega),own_mono (Top.own_kept O2.out (w':=W9) fun k hk1 hk2=>(keep.out k (by omega) (by omega) (by omega)).trans (VK.out k (by omega))) (by omega),OwnQ.nil_ _ _⟩,B9⟩
      | true =>
        by_cases hlt:m < chd
        · have hback1:=Lib.hid (show undoV ⟨true,fr,chd,true,tp,gp⟩ = ⟨3,toV ⟨true,fr,chd,true,tp,gp⟩ ++ [m],wrap64 (chd + 1),plainR ⟨true,fr,chd,true,tp,gp⟩ fr.reverse,0,false,[],[],[],false,[]⟩ by rw [hback.out];simp [hlt])
          rename_i K0 hK0
          refine wp_region_held_drew (S:=fun W=>Below V.heap.size V W) (by kernel_rfl) ((Below.refl V.heap.size V).drew) (fun hHeld=>?_)
          refine wpAnyH_take (i:=0) (v:=?_) rfl (by kernel_rfl) (by kernel_rfl) (by kernel_rfl) (fun _ _ _ h=>h) (Or.inl ⟨by rfl,?_⟩) hHeld ?_
          rotate_left 1
          · intro W hSw;have c1r:=(hSw.block _ (Array.getElem?_eq_some_iff.1 H1V.out).1).trans H1V.out;obtain ⟨c0,c1,c2,c3,c4,c5⟩:=ch_cells c1r;dsimp only at c0 c1 c2 c3 c4 c5;go_simp;try with_reducible rfl
          try simp only [Act.put,zA,zB,zC]
          refine wpAnyH_take (i:=1) (v:=?_) rfl (by kernel_rfl) (by kernel_rfl) (by kernel_rfl) (fun _ _ _ h=>h) (Or.inl ⟨by rfl,?_⟩) hHeld ?_
          rotate_left 1
          · intro W hSw;have c1r:=(hSw.block _ (Array.getElem?_eq_some_iff.1 H1V.out).1).trans H1V.out;obtain ⟨c0,c1,c2,c3,c4,c5⟩:=ch_cells c1r;dsimp only at c0 c1 c2 c3 c4 c5;go_simp;try with_reducible rfl
          try simp only [Act.put,zA,zB,zC]
          refine wpAnyH_take (i:=2) (v:=?_) rfl (by kernel_rfl) (by kernel_rfl) (by kernel_rfl) (fun _ _ _ h=>h) (Or.inl ⟨by rfl,?_⟩) hHeld ?_
          rotate_left 1
          · intro W hSw;have c1r:=(hSw.block _ (Array.getElem?_eq_some_iff.1 H1V.out).1).trans H1V.out;obtain ⟨c0,c1,c2,c3,c4,c5⟩:=ch_cells c1r;dsimp only at c0 c1 c2 c3 c4 c5;go_simp;try with_reducible rfl
          try simp only [Act.put,zA,zB,zC]
          refine wpAnyH_take (i:=3) (v:=?_) rfl (by kernel_rfl) (by kernel_rfl) (by kernel_rfl) (fun _ _ _ h=>h) (Or.inl ⟨by rfl,?_⟩) hHeld ?_
          rotate_left 1
          · intro W hSw;have c1r:=(hSw.block _ (Array.getElem?_eq_some_iff.1 H1V.out).1).trans H1V.out;obtain ⟨c0,c1,c2,c3,c4,c5⟩:=ch_cells c1r;dsimp only at c0 c1 c2 c3 c4 c5;go_simp;try with_reducible rfl
          try simp only [Act.put,zA,zB,zC]
          refine wpAnyH_ready (rs:=[4]) (by kernel_rfl) (by simp) ?_
          refine AllReadyH.cons rfl (fun K hK=>?_) AllReadyH.nil
          go_simp
          refine (hsame.out _ hHeld).mono ?_
          rintro e w5 ⟨rfl,k5,rfl⟩
          have h5:=Lib.hid (draws (Below.refl V.heap.size V) (1 + k5))
          go_simp
          refine hK.out _ _ ?_ (fun hNew=>?_)
          · exact h5.out
          clear hK K hHeld
          have hHeld:=hNew
          clear hNew
          try simp only [Act.put,zA,zB,zC]
          refine wpAnyH_take (i:=5) (v:=?_) rfl (by kernel_rfl) (by kernel_rfl) (by kernel_rfl) (fun _ _ _ h=>h) (Or.inl ⟨by rfl,?_⟩) hHeld ?_
          rotate_left 1
          · intro W hSw;have c1r:=(hSw.block _ (Array.getElem?_eq_some_iff.1 H1V.out).1).trans H1V.out;obtain ⟨c0,c1,c2,c3,c4,c5⟩:=ch_cells c1r;dsimp only at c0 c1 c2 c3 c4 c5;go_simp;try with_reducible rfl
          try simp only [Act.put,zA,zB,zC]
          refine wpAnyH_take (i:=6) (v:=?_) rfl (by kernel_rfl) (by kernel_rfl) (by kernel_rfl) (fun _ _ _ h=>h) (Or.inl ⟨by rfl,?_⟩) hHeld ?_
          rotate_left 1
          · intro W hSw;have c1r:=(hSw.block _ (Array.getElem?_eq_some_iff.1 H1V.out).1).trans H1V.out;obtain ⟨c0,c1,c2,c3,c4,c5⟩:=ch_cells c1r;dsimp only at c0 c1 c2 c3 c4 c5;go_simp;try with_reducible rfl
          try simp only [Act.put,zA,zB,zC]
          refine wpAnyH_take (i:=8) (v:=?_) rfl (by kernel_rfl) (by kernel_rfl) (by kernel_rfl) (fun _ _ _ h=>h) (Or.inl ⟨by rfl,?_⟩) hHeld ?_
          rotate_left 1
          · intro W hSw;have c1r:=(hSw.block _ (Array.getElem?_eq_some_iff.1 H1V.out).1).trans H1V.out;obtain ⟨c0,c1,c2,c3,c4,c5⟩:=ch_cells c1r;dsimp only at c0 c1 c2 c3 c4 c5;go_simp;try with_reducible rfl
          try simp only [Act.put,zA,zB,zC]
          refine wpAnyH_take (i:=9) (v:=?_) rfl (by kernel_rfl) (by kernel_rfl) (by kernel_rfl) (fun _ _ _ h=>h) (Or.inl ⟨by rfl,?_⟩) hHeld ?_
          rotate_left 1
          · intro W hSw;have c1r:=(hSw.block _ (Array.getElem?_eq_some_iff.1 H1V.out).1).trans H1V.out;obtain ⟨c0,c1,c2,c3,c4,c5⟩:=ch_cells c1r;dsimp only at c0 c1 c2 c3 c4 c5;go_simp;try with_reducible rfl
          try simp only [Act.put,zA,zB,zC]
          refine wpAnyH_ready (rs:=[7]) (by kernel_rfl) (by simp) ?_
          refine AllReadyH.cons rfl (fun K hK=>?_) AllReadyH.nil
          go_simp
          refine (hland.out _ hHeld).mono ?_
          rintro e w6 ⟨rfl,hb6⟩
          have h6:=Lib.hid (hHeld.trans (hb6.mono hHeld.size))
          go_simp
          refine hK.out _ _ ?_ (fun hNew=>?_)
          · exact h6.out
          clear hK K hHeld
          have hHeld:=hNew
          clear hNew
          try simp only [Act.put,zA,zB,zC]
          refine wpAnyH_take (i:=10) (v:=?_) rfl (by kernel_rfl) (by kernel_rfl) (by kernel_rfl) (fun _ _ _ h=>h) (Or.inl ⟨by rfl,?_⟩) hHeld ?_
          rotate_left 1
          · intro W hSw;have c1r:=(hSw.block _ (Array.getElem?_eq_some_iff.1 H1V.out).1).trans H1V.out;obtain ⟨c0,c1,c2,c3,c4,c5⟩:=ch_cells c1r;dsimp only at c0 c1 c2 c3 c4 c5;go_simp;try with_reducible rfl
          try simp only [Act.put,zA,zB,zC]
          refine wpAnyH_take (i:=11) (v:=?_) rfl (by kernel_rfl) (by kernel_rfl) (by kernel_rfl) (fun _ _ _ h=>h) (Or.inl ⟨by rfl,?_⟩) hHeld ?_
          rotate_left 1
          · intro W hSw;have c1r:=(hSw.block _ (Array.getElem?_eq_some_iff.1 H1V.out).1).trans H1V.out;obtain ⟨c0,c1,c2,c3,c4,c5⟩:=ch_cells c1r;dsimp only at c0 c1 c2 c3 c4 c5;go_simp;try with_reducible rfl
          try simp only [Act.put,zA,zB,zC]
          refine wpAnyH_done (by kernel_rfl) ?_ _
          refine hK0 _ _ ?_
          clear hK0
          have H2:=Lib.hid (hH2.out _ h6.out)
          have H4:=Lib.hid (hH4.out _ h6.out)
          have HB:=Lib.hid (hBW.out _ h6.out)
          have HS:=Lib.hid (Below.size h6.out)
          have HV:=Lib.hid (fun k (hk:k < V.heap.size)=>Below.block h6.out k hk)
          have s1:=hVs.out
          have s2:=ZS.out
          have s3:=VS.out
          have s4:=YS.out
          obtain ⟨b0,b1,b2,b3,b4,b5,b6,b7,b8,b9,b10⟩:=op_cells H4.out
          have bf:=op_frozen H4.out
          have y2:=H2.out
          unfold zero11 at y2
          obtain ⟨q0,q1,q2,q3,q4,q5,q6,q7,q8,q9,q10,qf⟩:=eleven_cells y2
          dsimp only at b0 b1 b2 b3 b4 b5 b6 b7 b8 b9 b10
          clear y2
          go_wp2_with fail
          obtain ⟨U,hU⟩:∃ Q9,Q9 = w6.setCell ⟨w1.heap.size + 1,2,none⟩ (.int .i64 (wrap64 (chd + 1))):=⟨_,rfl⟩
          rw [← hU]
          have UK:=Lib.hid (show ∀ k,k ≠ w1.heap.size + 1→U.heap[k]? = w6.heap[k]? by intro k hk;rw [hU];exact heap_setCell_other _ _ k _ hk)
          have H2U:=Lib.hid ((UK.out _ (by omega)).trans H2.out)
          have HBU:=Lib.hid (show Below w.heap.size w U by rw [hU];exact HB.out.setCell (p:=⟨w1.heap.size + 1,2,none⟩) (by show w.heap.size≤w1.heap.size + 1;omega) _)
          clear hU
          obtain ⟨W9,hW9,R9,B9,Z9,K9⟩:=end_op (o:=⟨3,toV ⟨true,fr,chd,true,tp,gp⟩ ++ [m],wrap64 (chd + 1),plainR ⟨true,fr,chd,true,tp,gp⟩ fr.reverse,0,false,[],[],[],false,[]⟩) (s:=⟨yA,yn,yc,tA,tn,tc,none,0,0⟩) (r:=w.heap.size + 1) (by omega) HBU.out (show U.heap[w.heap.size + 1]? = some (.cells #[.int .u8 0,.slice none 0 0,.int .i64 0,.slice none 0 0,.int .u64 0,.bool false,.string ⟨#[]⟩,.string ⟨#[]⟩,.string ⟨#[]⟩,.bool false,.slice none 0 0] _ (0,0)) from H2U.out)
          have hW9':W9 = (((((((((((U.setCell ⟨w.heap.size + 1,0,none⟩ (.int .u8 3)).setCell ⟨w.heap.size + 1,1,none⟩ (.slice yA yn yc)).setCell ⟨w.heap.size + 1,2,none⟩ (.int .i64 (wrap64 (chd + 1)))).setCell ⟨w.heap.size + 1,3,none⟩ (.slice tA tn tc)).setCell ⟨w.heap.size + 1,4,none⟩ (.int .u64 0)).setCell ⟨w.heap.size + 1,5,none⟩ (.bool false)).setCell ⟨w.heap.size + 1,6,none⟩ (.string ⟨#[]⟩)).setCell ⟨w.heap.size + 1,7,none⟩ (.string ⟨#[]⟩)).setCell ⟨w.heap.size + 1,8,none⟩ (.string ⟨#[]⟩)).setCell ⟨w.heap.size + 1,9,none⟩ (.bool false)).setCell ⟨w.heap.size + 1,10,none⟩ (.slice none 0 0)):=hW9
          rw [← hW9']
          clear hW9' hW9
          unfold opCells at R9
          clear q0 q1 q2 q3 q4 q5 q6 q7 q8 q9 q10 qf
          obtain ⟨d0,d1,d2,d3,d4,d5,d6,d7,d8,d9,d10,df⟩:=eleven_cells R9
          refine bodyPost_ret (v:=.agg (opCells ⟨3,toV ⟨true,fr,chd,true,tp,gp⟩ ++ [m],wrap64 (chd + 1),plainR ⟨true,fr,chd,true,tp,gp⟩ fr.reverse,0,false,[],[],[],false,[]⟩ ⟨yA,yn,yc,tA,tn,tc,none,0,0⟩)) (by simp [results,Try.results116,go_sem,d0,d1,d2,d3,d4,d5,d6,d7,d8,d9,d10,opCells]) rfl ?_
          rw [hback1.out]
          have keep:=Lib.hid (show ∀ k,k ≠ w.heap.size + 1→k ≠ w1.heap.size + 1→k < V.heap.size→W9.heap[k]? = V.heap[k]? from fun k k1 k2 k3=>(K9 k k1).trans ((UK.out k k2).trans (HV.out k k3)))
          exact ⟨⟨yA,yn,yc,tA,tn,tc,none,0,0⟩,rfl,⟨own_mono (Top.own_kept O1.out (w':=W9) fun k hk1 hk2=>(keep.out k (by omega) (by omega) (by omega)).trans ((VK.out k (by omega)).trans ((E2.out.block k (by omega)).trans (ZK.out k (by omega))))) (by omega),own_mono (Top.own_kept O2.out (w':=W9) fun k hk1 hk2=>(keep.out k (by omega) (by omega) (by omega)).trans (VK.out k (by omega))) (by omega),OwnQ.nil_ _ _⟩,B9⟩
        · have hback1:=Lib.hid (show undoV ⟨true,fr,chd,true,tp,gp⟩ = ⟨3,toV ⟨true,fr,chd,true,tp,gp⟩ ++ [m],chd,plainR ⟨true,fr,chd,true,tp,gp⟩ fr.reverse,0,false,[],[],[],false,[]⟩ by rw [hback.out];simp [hlt])
          rename_i K0 hK0
          refine wp_region_held_drew (S:=fun W=>Below V.heap.size V W) (by kernel_rfl) ((Below.refl V.heap.size V).drew) (fun hHeld=>?_)
          refine wpAnyH_take (i:=0) (v:=?_) rfl (by kernel_rfl) (by kernel_rfl) (by kernel_rfl) (fun _ _ _ h=>h) (Or.inl ⟨by rfl,?_⟩) hHeld ?_
          rotate_left 1
          · intro W hSw;have c1r:=(hSw.block _ (Array.getElem?_eq_some_iff.1 H1V.out).1).trans H1V.out;obtain ⟨c0,c1,c2,c3,c4,c5⟩:=ch_cells c1r;dsimp only at c0 c1 c2 c3 c4 c5;go_simp;try with_reducible rfl
          try simp only [Act.put,zA,zB,zC]
          refine wpAnyH_take (i:=1) (v:=?_) rfl (by kernel_rfl) (by kernel_rfl) (by kernel_rfl) (fun _ _ _ h=>h) (Or.inl ⟨by rfl,?_⟩) hHeld ?_
          rotate_left 1
          · intro W hSw;have c1r:=(hSw.block _ (Array.getElem?_eq_some_iff.1 H1V.out).1).trans H1V.out;obtain ⟨c0,c1,c2,c3,c4,c5⟩:=ch_cells c1r;dsimp only at c0 c1 c2 c3 c4 c5;go_simp;try with_reducible rfl
          try simp only [Act.put,zA,zB,zC]
          refine wpAnyH_take (i:=2) (v:=?_) rfl (by kernel_rfl) (by kernel_rfl) (by kernel_rfl) (fun _ _ _ h=>h) (Or.inl ⟨by rfl,?_⟩) hHeld ?_
          rotate_left 1
          · intro W hSw;have c1r:=(hSw.block _ (Array.getElem?_eq_some_iff.1 H1V.out).1).trans H1V.out;obtain ⟨c0,c1,c2,c3,c4,c5⟩:=ch_cells c1r;dsimp only at c0 c1 c2 c3 c4 c5;go_simp;try with_reducible rfl
          try simp only [Act.put,zA,zB,zC]
          refine wpAnyH_take (i:=3) (v:=?_) rfl (by kernel_rfl) (by kernel_rfl) (by kernel_rfl) (fun _ _ _ h=>h) (Or.inl ⟨by rfl,?_⟩) hHeld ?_
          rotate_left 1
          · intro W hSw;have c1r:=(hSw.block _ (Array.getElem?_eq_some_iff.1 H1V.out).1).trans H1V.out;obtain ⟨c0,c1,c2,c3,c4,c5⟩:=ch_cells c1r;dsimp only at c0 c1 c2 c3 c4 c5;go_simp;try with_reducible rfl
          try simp only [Act.put,zA,zB,zC]
          refine wpAnyH_ready (rs:=[4]) (by kernel_rfl) (by simp) ?_
          refine AllReadyH.cons rfl (fun K hK=>?_) AllReadyH.nil
          go_simp
          refine (hsame.out _ hHeld).mono ?_
          rintro e w5 ⟨rfl,k5,rfl⟩
          have h5:=Lib.hid (draws (Below.refl V.heap.size V) (1 + k5))
          go_simp
          refine hK.out _ _ ?_ (fun hNew=>?_)
          · exact h5.out
          clear hK K hHeld
          have hHeld:=hNew
          clear hNew
          try simp only [Act.put,zA,zB,zC]
          refine wpAnyH_take (i:=5) (v:=?_) rfl (by kernel_rfl) (by kernel_rfl) (by kernel_rfl) (fun _ _ _ h=>h) (Or.inl ⟨by rfl,?_⟩) hHeld ?_
          rotate_left 1
          · intro W hSw;have c1r:=(hSw.block _ (Array.getElem?_eq_some_iff.1 H1V.out).1).trans H1V.out;obtain ⟨c0,c1,c2,c3,c4,c5⟩:=ch_cells c1r;dsimp only at c0 c1 c2 c3 c4 c5;go_simp;try with_reducible rfl
          try simp only [Act.put,zA,zB,zC]
          refine wpAnyH_take (i:=6) (v:=?_) rfl (by kernel_rfl) (by kernel_rfl) (by kernel_rfl) (fun _ _ _ h=>h) (Or.inl ⟨by rfl,?_⟩) hHeld ?_
          rotate_left 1
          · intro W hSw;have c1r:=(hSw.block _ (Array.getElem?_eq_some_iff.1 H1V.out).1).trans H1V.out;obtain ⟨c0,c1,c2,c3,c4,c5⟩:=ch_cells c1r;dsimp only at c0 c1 c2 c3 c4 c5;go_simp;try with_reducible rfl
          try simp only [Act.put,zA,zB,zC]
          refine wpAnyH_take (i:=8) (v:=?_) rfl (by kernel_rfl) (by kernel_rfl) (by kernel_rfl) (fun _ _ _ h=>h) (Or.inl ⟨by rfl,?_⟩) hHeld ?_
          rotate_left 1
          · intro W hSw;have c1r:=(hSw.block _ (Array.getElem?_eq_some_iff.1 H1V.out).1).trans H1V.out;obtain ⟨c0,c1,c2,c3,c4,c5⟩:=ch_cells c1r;dsimp only at c0 c1 c2 c3 c4 c5;go_simp;try with_reducible rfl
          try simp only [Act.put,zA,zB,zC]
          refine wpAnyH_take (i:=9) (v:=?_) rfl (by kernel_rfl) (by kernel_rfl) (by kernel_rfl) (fun _ _ _ h=>h) (Or.inl ⟨by rfl,?_⟩) hHeld ?_
          rotate_left 1
          · intro W hSw;have c1r:=(hSw.block _ (Array.getElem?_eq_some_iff.1 H1V.out).1).trans H1V.out;obtain ⟨c0,c1,c2,c3,c4,c5⟩:=ch_cells c1r;dsimp only at c0 c1 c2 c3 c4 c5;go_simp;try with_reducible rfl
          try simp only [Act.put,zA,zB,zC]
          refine wpAnyH_ready (rs:=[7]) (by kernel_rfl) (by simp) ?_
          refine AllReadyH.cons rfl (fun K hK=>?_) AllReadyH.nil
          go_simp
          refine (hland.out _ hHeld).mono ?_
          rintro e w6 ⟨rfl,hb6⟩
          have h6:=Lib.hid (hHeld.trans (hb6.mono hHeld.size))
          go_simp
          refine hK.out _ _ ?_ (fun hNew=>?_)
          · exact h6.out
          clear hK K hHeld
          have hHeld:=hNew
          clear hNew
          try simp only [Act.put,zA,zB,zC]
          refine wpAnyH_take (i:=10) (v:=?_) rfl (by kernel_rfl) (by kernel_rfl) (by kernel_rfl) (fun _ _ _ h=>h) (Or.inl ⟨by rfl,?_⟩) hHeld ?_
          rotate_left 1
          · intro W hSw;have c1r:=(hSw.block _ (Array.getElem?_eq_some_iff.1 H1V.out).1).trans H1V.out;obtain ⟨c0,c1,c2,c3,c4,c5⟩:=ch_cells c1r;dsimp only at c0 c1 c2 c3 c4 c5;go_simp;try with_reducible rfl
          try simp only [Act.put,zA,zB,zC]
          refine wpAnyH_take (i:=11) (v:=?_) rfl (by kernel_rfl) (by kernel_rfl) (by kernel_rfl) (fun _ _ _ h=>h) (Or.inl ⟨by rfl,?_⟩) hHeld ?_
          rotate_left 1
          · intro W hSw;have c1r:=(hSw.block _ (Array.getElem?_eq_some_iff.1 H1V.out).1).trans H1V.out;obtain ⟨c0,c1,c2,c3,c4,c5⟩:=ch_cells c1r;dsimp only at c0 c1 c2 c3 c4 c5;go_simp;try with_reducible rfl
          try simp only [Act.put,zA,zB,zC]
          refine wpAnyH_done (by kernel_rfl) ?_ _
          refine hK0 _ _ ?_
          clear hK0
          have H2:=Lib.hid (hH2.out _ h6.out)
          have H4:=Lib.hid (hH4.out _ h6.out)
          have HB:=Lib.hid (hBW.out _ h6.out)
          have HS:=Lib.hid (Below.size h6.out)
          have HV:=Lib.hid (fun k (hk:k < V.heap.size)=>Below.block h6.out k hk)
          have s1:=hVs.out
          have s2:=ZS.out
          have s3:=VS.out
          have s4:=YS.out
          obtain ⟨b0,b1,b2,b3,b4,b5,b6,b7,b8,b9,b10⟩:=op_cells H4.out
          have bf:=op_frozen H4.out
          have y2:=H2.out
          unfold zero11 at y2
          obtain ⟨q0,q1,q2,q3,q4,q5,q6,q7,q8,q9,q10,qf⟩:=eleven_cells y2
          dsimp only at b0 b1 b2 b3 b4 b5 b6 b7 b8 b9 b10
          clear y2
          go_wp2_with fail
          obtain ⟨W9,hW9,R9,B9,Z9,K9⟩:=end_op (o:=⟨3,toV ⟨true,fr,chd,true,tp,gp⟩ ++ [m],chd,plainR ⟨true,fr,chd,true,tp,gp⟩ fr.reverse,0,false,[],[],[],false,[]⟩) (s:=⟨yA,yn,yc,tA,tn,tc,none,0,0⟩) (r:=w.heap.size + 1) (by omega) HB.out (show w6.heap[w.heap.size + 1]? = some (.cells #[.int .u8 0,.slice none 0 0,.int .i64 0,.slice none 0 0,.int .u64 0,.bool false,.string ⟨#[]⟩,.string ⟨#[]⟩,.string ⟨#[]⟩,.bool false,.slice none 0 0] _ (0,0)) from H2.out)
          have hW9':W9 = (((((((((((w6.setCell ⟨w.heap.size + 1,0,none⟩ (.int .u8 3)).setCell ⟨w.heap.size + 1,1,none⟩ (.slice yA yn yc)).setCell ⟨w.heap.size + 1,2,none⟩ (.int .i64 (chd))).setCell ⟨w.heap.size + 1,3,none⟩ (.slice tA tn tc)).setCell ⟨w.heap.size + 1,4,none⟩ (.int .u64 0)).setCell ⟨w.heap.size + 1,5,none⟩ (.bool false)).setCell ⟨w.heap.size + 1,6,none⟩ (.string ⟨#[]⟩)).setCell ⟨w.heap.size + 1,7,none⟩ (.string ⟨#[]⟩)).setCell ⟨w.heap.size + 1,8,none⟩ (.string ⟨#[]⟩)).setCell ⟨w.heap.size + 1,9,none⟩ (.bool false)).setCell ⟨w.heap.size + 1,10,none⟩ (.slice none 0 0)):=hW9
          rw [← hW9']
          clear hW9' hW9
          unfold opCells at R9
          clear q0 q1 q2 q3 q4 q5 q6 q7 q8 q9 q10 qf
          obtain ⟨d0,d1,d2,d3,d4,d5,d6,d7,d8,d9,d10,df⟩:=eleven_cells R9
          refine bodyPost_ret (v:=.agg (opCells ⟨3,toV ⟨true,fr,chd,true,tp,gp⟩ ++ [m],chd,plainR ⟨true,fr,chd,true,tp,gp⟩ fr.reverse,0,false,[],[],[],false,[]⟩ ⟨yA,yn,yc,tA,tn,tc,none,0,0⟩)) (by simp [results,Try.results116,go_sem,d0,d1,d2,d3,d4,d5,d6,d7,d8,d9,d10,opCells]) rfl ?_
          rw [hback1.out]
          have keep:=Lib.hid (show ∀ k,k ≠ w.heap.size + 1→k ≠ w1.heap.size + 1→k < V.heap.size→W9.heap[k]? = V.heap[k]? from fun k k1 k2 k3=>(K9 k k1).trans ((HV.out k k3)))
          exact ⟨⟨yA,yn,yc,tA,tn,tc,none,0,0⟩,rfl,⟨own_mono (Top.own_kept O1.out (w':=W9) fun k hk1 hk2=>(keep.out k (by omega) (by omega) (by omega)).trans ((VK.out k (by omega)).trans ((E2.out.block k (by omega)).trans (ZK.out k (by omega))))) (by omega),own_mono (Top.own_kept O2.out (w':=W9) fun k hk1 hk2=>(keep.out k (by omega) (by omega) (by omega)).trans (VK.out k (by omega))) (by omega),OwnQ.nil_ _ _⟩,B9⟩
end Go.Proofs.Ytidimannfemnmaa.Shf
namespace Go.Proofs.Ytidimannfemnmaa.Shf
open Go.RowKit Top
set_option maxRecDepth 20000

theorem undo_no {o:Ov} (h:¬ (o.kind = 3∧movesV o = true)):undoV (chV o) = zeroO:=by
  unfold undoV
  cases hm:movesV o with
  | false=>rw [moves_no hm];rfl
  | true =>
    rcases move_kind hm with hk | ⟨hk,hpn⟩ | ⟨hk,-⟩
    · rw [ch_one (formed_of hm) hk];rfl
    · obtain ⟨r,d,hr⟩:∃ r d,o.path = r ++ [d]:=by
        rcases snoc_cases o.path with h | h
        · exact absurd h hpn
        · exact h
      rw [ch_two (formed_of hm) hk hr];rfl
    · exact absurd ⟨hk,hm⟩ h
set_option maxHeartbeats 16000000 in
theorem rundo_other (w:World) (o:Ov) (s:OS) (ho:OpIn w o s) (hl:Slen o) (hk:o.kind ≠ 3):Calls Try.prog 202 #[.agg (opCells o s)] w fun e w'=>∃ s',e = .returned (.agg (opCells (undoV (chV o)) s'))∧OwnOp w.heap.size w' (undoV (chV o)) s'∧Below w.heap.size w w':=by
  obtain ⟨z1,z2,z4,z5⟩:=two_news w (.cells (opCells o s) 52) (.cells zero11 52)
  obtain ⟨W2,hW2⟩:∃ W2,W2 = ((w.alloc (.cells (opCells o s) 52)).alloc (.cells zero11 52)):=⟨_,rfl⟩
  rw [← hW2] at z1 z2 z4 z5
  have z1':=Lib.hid z1
  have z2':=Lib.hid z2
  have z4':=Lib.hid z4
  have z5':=Lib.hid z5
  obtain ⟨o0,o1,o2,o3,o4,o5,o6,o7,o8,o9,o10⟩:=op_cells z1
  have y2:=z2
  unfold zero11 at y2
  obtain ⟨q0,q1,q2,q3,q4,q5,q6,q7,q8,q9,q10,qf⟩:=eleven_cells y2
  rw [hW2] at o0 o1 o2 o3 o4 o5 o6 o7 o8 o9 o10 q0 q1 q2 q3 q4 q5 q6 q7 q8 q9 q10 qf
  have hv:=Lib.hid (show undoV (chV o) = zeroO from undo_no fun h=>hk h.1)
  have hkI:((o.kind:Int) == 3) = false:=by simp;omega
  have hkJ:((o.kind:Int) != 3) = true:=by rw [bne,hkI];rfl
  unfold opCells at hW2
  unfold zero11 at hW2
  conv=>arg 3;unfold opCells
  clear ho hl z1 z2 z4 z5 y2 hk
  go_enter Try.func202,Try.ntmps202
  go_wp2_with fail
  rw [← hW2]
  have y2:=z2'.out
  unfold zero11 at y2
  clear q0 q1 q2 q3 q4 q5 q6 q7 q8 q9 q10 qf
  obtain ⟨d0,d1,d2,d3,d4,d5,d6,d7,d8,d9,d10,df⟩:=eleven_cells y2
  refine bodyPost_ret (v:=.agg (opCells zeroO ⟨none,0,0,none,0,0,none,0,0⟩)) (by simp [results,Try.results202,go_sem,d0,d1,d2,d3,d4,d5,d6,d7,d8,d9,d10,opCells,zeroO]) rfl ?_
  rw [hv.out]
  exact ⟨⟨none,0,0,none,0,0,none,0,0⟩,rfl,⟨P4.OwnI.nil_ _ _,P4.OwnI.nil_ _ _,OwnQ.nil_ _ _⟩,z4'.out⟩
set_option maxHeartbeats 16000000 in
theorem rundo_same (w:World) (o:Ov) (s:OS) (ho:OpIn w o s) (hl:Slen o) (hk:o.kind = 3) (hm:movesV o = false):Calls Try.prog 202 #[.agg (opCells o s)] w fun e w'=>∃ s',e = .returned (.agg (opCells (undoV (chV o)) s'))∧OwnOp w.heap.size w' (undoV (chV o)) s'∧Below w.heap.size w w':=by
  obtain ⟨z1,z2,z4,z5⟩:=two_news w (.cells (opCells o s) 52) (.cells zero11 52)
  obtain ⟨W2,hW2⟩:∃ W2,W2 = ((w.alloc (.cells (opCells o s) 52)).alloc (.cells zero11 52)):=⟨_,rfl⟩
  rw [← hW2] at z1 z2 z4 z5
  have z1':=Lib.hid z1
  have z2':=Lib.hid z2
  have z4':=Lib.hid z4
  have z5':=Lib.hid z5
  obtain ⟨o0,o1,o2,o3,o4,o5,o6,o7,o8,o9,o10⟩:=op_cells z1
  have y2:=z2
  unfold zero11 at y2
  obtain ⟨q0,q1,q2,q3,q4,q5,q6,q7,q8,q9,q10,qf⟩:=eleven_cells y2
  rw [hW2] at o0 o1 o2 o3 o4 o5 o6 o7 o8 o9 o10 q0 q1 q2 q3 q4 q5 q6 q7 q8 q9 q10 qf
  have hv:=Lib.hid (show undoV (chV o) = zeroO from undo_no fun h=>by rw [hm] at h;cases h.2)
  have hmv:=Lib.hid (rmoves_any W2 o s (ho.below z4))
  rw [hm] at hmv
  have hkI:=Lib.hid (show (o.kind:Int) = 3 by omega)
  rw [hkI.out] at o0
  unfold opCells at hW2 hmv
  unfold zero11 at hW2
  conv=>arg 3;unfold opCells
  rw [hkI.out] at hW2 hmv ⊢
  clear ho hl z1 z2 z4 z5 y2 hk hm
  go_enter Try.func202,Try.ntmps202
  go_wp2_with (go_at_call 199;(rw [← hW2];refine hmv.out.mono ?_;rintro e w1 ⟨rfl,hb1⟩;have E1:=Lib.hid hb1;have B1:=Lib.hid (z4'.out.trans (hb1.mono z4'.out.size));have Y1:=Lib.hid ((hb1.block w.heap.size (by have:=z5'.out;omega)).trans z1'.out);have Y2:=Lib.hid ((hb1.block (w.heap.size + 1) (by have:=z5'.out;omega)).trans z2'.out);clear o0 o1 o2 o3 o4 o5 o6 o7 o8 o9 o10 q0 q1 q2 q3 q4 q5 q6 q7 q8 q9 q10 qf;obtain ⟨o0,o1,o2,o3,o4,o5,o6,o7,o8,o9,o10⟩:=op_cells Y1.out;rw [hkI.out] at o0;skip;have y2:=Y2.out;unfold zero11 at y2;obtain ⟨q0,q1,q2,q3,q4,q5,q6,q7,q8,q9,q10,qf⟩:=eleven_cells y2;clear y2;clear hb1))
  obtain ⟨W9,hW9,R9,B9,Z9,K9⟩:=end_op (o:=zeroO) (s:=⟨none,0,0,none,0,0,none,0,0⟩) (r:=w.heap.size + 1) (by omega) B1.out (show w1.heap[w.heap.size + 1]? = some (.cells #[.int .u8 0,.slice none 0 0,.int .i64 0,.slice none 0 0,.int .u64 0,.bool false,.string ⟨#[]⟩,.string ⟨#[]⟩,.string ⟨#[]⟩,.bool false,.slice none 0 0] _ (0,0)) from Y2.out)
  have hW9':W9 = (((((((((((w1.setCell ⟨w.heap.size + 1,0,none⟩ (.int .u8 0)).setCell ⟨w.heap.size + 1,1,none⟩ (.slice none 0 0)).setCell ⟨w.heap.size + 1,2,none⟩ (.int .i64 (0))).setCell ⟨w.heap.size + 1,3,none⟩ (.slice none 0 0)).setCell ⟨w.heap.size + 1,4,none⟩ (.int .u64 0)).setCell ⟨w.heap.size + 1,5,none⟩ (.bool false)).setCell ⟨w.heap.size + 1,6,none⟩ (.string ⟨#[]⟩)).setCell ⟨w.heap.size + 1,7,none⟩ (.string ⟨#[]⟩)).setCell ⟨w.heap.size + 1,8,none⟩ (.string ⟨#[]⟩)).setCell ⟨w.heap.size + 1,9,none⟩ (.bool false)).setCell ⟨w.heap.size + 1,10,none⟩ (.slice none 0 0)):=hW9
  rw [← hW9']
  clear hW9' hW9
  unfold opCells at R9
  clear q0 q1 q2 q3 q4 q5 q6 q7 q8 q9 q10 qf
  obtain ⟨d0,d1,d2,d3,d4,d5,d6,d7,d8,d9,d10,df⟩:=eleven_cells R9
  refine bodyPost_ret (v:=.agg (opCells zeroO ⟨none,0,0,none,0,0,none,0,0⟩)) (by simp [results,Try.results202,go_sem,d0,d1,d2,d3,d4,d5,d6,d7,d8,d9,d10,opCells,zeroO]) rfl ?_
  rw [hv.out]
  exact ⟨⟨none,0,0,none,0,0,none,0,0⟩,rfl,⟨P4.OwnI.nil_ _ _,P4.OwnI.nil_ _ _,OwnQ.nil_ _ _⟩,B9⟩
set_option maxHeartbeats 16000000 in
theorem rundo_move (w:World) (o:Ov) (s:OS) (ho:OpIn w o s) (hl:Slen o) (hk:o.kind = 3) (hm:movesV o = true) (hw:P4.withinV o.path o.to_ = false) (r:List Int) (d:Int) (hr:o.path = r ++ [d]):Calls Try.prog 202 #[.agg (opCells o s)] w fun e w'=>∃ s',e = .returned (.agg (opCells (undoV (chV o)) s'))∧OwnOp w.heap.size w' (undoV (chV o)) s'∧Below w.heap.size w w':=by
  obtain ⟨z1,z2,z4,z5⟩:=two_news w (.cells (opCells o s) 52) (.cells zero11 52)
  obtain ⟨W2,hW2⟩:∃ W2,W2 = ((w.alloc (.cells (opCells o s) 52)).alloc (.cells zero11 52)):=⟨_,rfl⟩
  rw [← hW2] at z1 z2 z4 z5
  have z1':=Lib.hid z1
  have z2':=Lib.hid z2
  have z4':=Lib.hid z4
  have z5':=Lib.hid z5
  obtain ⟨o0,o1,o2,o3,o4,o5,o6,o7,o8,o9,o10⟩:=op_cells z1
  have y2:=z2
  unfold zero11 at y2
  obtain ⟨q0,q1,q2,q3,q4,q5,q6,q7,q8,q9,q10,qf⟩:=eleven_cells y2
  rw [hW2] at o0 o1 o2 o3 o4 o5 o6 o7 o8 o9 o10 q0 q1 q2 q3 q4 q5 q6 q7 q8 q9 q10 qf
  have hmv:=Lib.hid (rmoves_any W2 o s (ho.below z4))
  rw [hm] at hmv
  have hkI:=Lib.hid (show (o.kind:Int) = 3 by omega)
  have hch:=ch_three (formed_of hm) hk hr hw
  obtain ⟨c,hcE⟩:∃ c,c = chV o:=⟨_,rfl⟩
  have hpn:s.pn = r.length + 1:=by have h1:=ho.path.1;rw [hr] at h1;simp at h1;omega
  have hpar:=Lib.hid (fun (W:World) (hb:Below w.heap.size w W)=>rparent_any W s.pA r.length s.pc r d (by have h:=(ho.below hb).path;rw [hr,hpn] at h;exact h) (by have:=ho.pnc;omega) ho.pcm)
  have hrit:=Lib.hid (fun (W:World) (hb:Below w.heap.size w W)=>(show Its W s.pA r.length r from (by
    have h:=P4.Its.upto (its4 (ho.below hb).path) (q:=r.length) (by omega)
    rw [hr,List.take_append_of_le_length (Nat.le_refl _),List.take_of_length_le (Nat.le_refl _)] at h
    exact h)))
  have hrl:r.length≤s.pc:=by have:=ho.pnc;omega
  have hrf:r.length≤400000:=by have:=hl.1;rw [hr] at this;simp at this;omega
  have hn1:=Lib.hid (fun (W:World) (hb:Below w.heap.size w W)=>rNode_any W o s s.pA (r.length + 1) s.pc o.path (ho.below hb) hl (by have h:=(ho.below hb).path;rw [hpn] at h;exact h) (by have:=ho.pnc;omega) ho.pcm ho.pnil (by have:=hl.1;rw [hr] at this;simp at this;omega))
  have hn2:=Lib.hid (fun (W:World) (hb:Below w.heap.size w W)=>rNode_any W o s s.pA r.length s.pc r (ho.below hb) hl (hrit.out W hb) hrl ho.pcm ho.pnil hrf)
  have hst:=Lib.hid (fun (W:World) (hb:Below w.heap.size w W)=>rsame_its W s.pA s.tA r.length s.pc s.tn s.tc r o.to_ (hrit.out W hb) (ho.below hb).to_ (Nat.le_trans hrl ho.pcm) (Nat.le_trans ho.tnc ho.tcm))
  obtain ⟨b,hb⟩:∃ b,b = P4.eqV r o.to_:=⟨_,rfl⟩
  rw [← hb] at hst
  obtain ⟨L,hL⟩:∃ L,L = landV (chV o):=⟨_,rfl⟩
  obtain ⟨T,hT⟩:∃ T,T = toV (chV o):=⟨_,rfl⟩
  obtain ⟨F,hF⟩:∃ F,F = plainR (chV o) r.reverse:=⟨_,rfl⟩
  have hnp:=(@node_path o (by rw [hch]) (by rw [hch])).1
  rw [← hL,← hT] at hnp
  simp only [hnp] at hn1
  have hnf:nodeV (chV o) r = some F:=by have:=node_from (chV o);rw [hch] at this ⊢;rw [hF,hch];exact this
  simp only [hnf] at hn2
  have hv0:=Lib.hid (show undoV (chV o) = ⟨3,T ++ [L],if (b && decide (L < d)) = true then wrap64 (d + 1) else d,F,0,false,[],[],[],false,[]⟩ by rw [hT,hL,hF,hb,← IntWalk.i64_left,hch];rfl)
  obtain ⟨m,hm9⟩:∃ m,m = r.length:=⟨_,rfl⟩
  rw [← hm9] at hpn hst hpar hn1 hn2
  rw [hkI.out] at o0
  rw [hpn] at o1
  unfold opCells at hW2 hmv hn1 hn2
  unfold zero11 at hW2
  conv=>arg 3;unfold opCells
  rw [hkI.out] at hW2 hmv hn1 hn2 ⊢
  rw [hpn] at hW2 hmv hn1 hn2 ⊢
  clear ho hl z1 z2 z4 z5 y2 hk hm hr hw hch hcE hb hL hT hF hnp hnf hrl hrf hrit hm9
  cases b with
  | false =>
    have hv:=Lib.hid (show undoV (chV o) = ⟨3,T ++ [L],d,F,0,false,[],[],[],false,[]⟩ by rw [hv0.out];simp [Bool.false_and])
    clear hv0
    go_enter Try.func202,Try.ntmps202
    go_upto_region 4 with (first | (go_at_call 199;(rw [← hW2];refine hmv.out.mono ?_;rintro e w1 ⟨rfl,hb1⟩;have E1:=Lib.hid hb1;have B1:=Lib.hid (z4'.out.trans (hb1.mono z4'.out.size));have Y1:=Lib.hid ((hb1.block w.heap.size (by have:=z5'.out;omega)).trans z1'.out);have Y2:=Lib.hid ((hb1.block (w.heap.size + 1) (by have:=z5'.out;omega)).trans z2'.out);clear o0 o1 o2 o3 o4 o5 o6 o7 o8 o9 o10 q0 q1 q2 q3 q4 q5 q6 q7 q8 q9 q10 qf;obtain ⟨o0,o1,o2,o3,o4,o5,o6,o7,o8,o9,o10⟩:=op_cells Y1.out;rw [hkI.out] at o0;rw [hpn] at o1;have y2:=Y2.out;unfold zero11 at y2;obtain ⟨q0,q1,q2,q3,q4,q5,q6,q7,q8,q9,q10,qf⟩:=eleven_cells y2;clear y2;clear hb1)) | (go_at_call 200;(refine (hpar.out _ B1.out).mono ?_;rintro e w2 ⟨rfl,⟨j1,rfl⟩,hi⟩;clear hi)))
    go_upto_region 5 with (go_at_call 190;(refine (hn1.out _ (draws B1.out _)).mono ?_;rintro e w3 (⟨hr1,-⟩ | ⟨v,xs,hr1,rfl,hr3,hb3⟩);(exfalso;cases hr1);injection hr1 with hr1;subst hr1;obtain ⟨yA,yn,yc,rfl,-⟩:=P4.OwnI.shape hr3;have O1:=Lib.hid hr3;have hb3':Below w1.heap.size w1 w3:=(draws (Below.refl _ _) _).trans hb3;have S13:=Lib.hid hb3'.size;have E3:=Lib.hid (E1.out.trans (hb3'.mono E1.out.size));have B3:=Lib.hid (z4'.out.trans (E3.out.mono z4'.out.size));have S1:=Lib.hid (show w.heap.size + 1 + 1≤w1.heap.size by have:=E1.out.size;have:=z5'.out;omega);have Y1:=Lib.hid ((E3.out.block w.heap.size (by have:=z5'.out;omega)).trans z1'.out);have Y2:=Lib.hid ((E3.out.block (w.heap.size + 1) (by have:=z5'.out;omega)).trans z2'.out);clear o0 o1 o2 o3 o4 o5 o6 o7 o8 o9 o10 q0 q1 q2 q3 q4 q5 q6 q7 q8 q9 q10 qf;obtain ⟨o0,o1,o2,o3,o4,o5,o6,o7,o8,o9,o10⟩:=op_cells Y1.out;rw [hkI.out] at o0;rw [hpn] at o1;have y2:=Y2.out;unfold zero11 at y2;obtain ⟨q0,q1,q2,q3,q4,q5,q6,q7,q8,q9,q10,qf⟩:=eleven_cells y2;clear y2;clear hr3 hb3 hb3'))
    go_upto_region 6 with (go_at_call 190;(refine (hn2.out _ B3.out).mono ?_;rintro e w4 (⟨hr1,-⟩ | ⟨v,xs,hr1,rfl,hr3,hb4⟩);(exfalso;cases hr1);injection hr1 with hr1;subst hr1;obtain ⟨tA,tn,tc,rfl,-⟩:=P4.OwnI.shape hr3;have O2:=Lib.hid hr3;have E4:=Lib.hid (E3.out.trans (hb4.mono E3.out.size));have B4:=Lib.hid (z4'.out.trans (E4.out.mono z4'.out.size));have O1b:=Lib.hid (Top.own_kept (w':=w4) O1.out fun k _ h2=>hb4.block k h2);have Y1:=Lib.hid ((E4.out.block w.heap.size (by have:=z5'.out;omega)).trans z1'.out);have Y2:=Lib.hid ((E4.out.block (w.heap.size + 1) (by have:=z5'.out;omega)).trans z2'.out);clear o0 o1 o2 o3 o4 o5 o6 o7 o8 o9 o10 q0 q1 q2 q3 q4 q5 q6 q7 q8 q9 q10 qf;obtain ⟨o0,o1,o2,o3,o4,o5,o6,o7,o8,o9,o10⟩:=op_cells Y1.out;rw [hkI.out] at o0;rw [hpn] at o1;have y2:=Y2.out;unfold zero11 at y2;obtain ⟨q0,q1,q2,q3,q4,q5,q6,q7,q8,q9,q10,qf⟩:=eleven_cells y2;clear y2;clear hr3 hb4))
    go_upto_region 7 with (go_at_call 200;(obtain ⟨f1,f2,f3,f4,f5⟩:=own_facts O1b.out;rw [List.length_append] at f5;simp only [List.length_cons,List.length_nil,Nat.zero_add] at f5;subst f5;refine (rparent_any w4 yA T.length yc T L f1 f2 f3).mono ?_;rintro e w5 ⟨rfl,⟨j5,rfl⟩,hi⟩;clear hi f1))
    go_wp2_with (go_at_call 108;(refine (hst.out _ (draws B4.out _)).mono ?_;rintro e w6 ⟨rfl,j6,rfl⟩))
    generalize hW5:w4.drewN (j5 + j6) = W5
    have K5:=Lib.hid (show ∀ k:Nat,W5.heap[k]? = w4.heap[k]? from fun k=>by rw [← hW5];rfl)
    have B5:=Lib.hid (show Below w.heap.size w W5 by rw [← hW5];exact draws B4.out _)
    clear hW5
    obtain ⟨W9,hW9,R9,B9,Z9,K9⟩:=end_op (o:=⟨3,T ++ [L],d,F,0,false,[],[],[],false,[]⟩) (s:=⟨yA,T.length + 1,yc,tA,tn,tc,none,0,0⟩) (r:=w.heap.size + 1) (by omega) B5.out (show W5.heap[w.heap.size + 1]? = some (.cells #[.int .u8 0,.slice none 0 0,.int .i64 0,.slice none 0 0,.int .u64 0,.bool false,.string ⟨#[]⟩,.string ⟨#[]⟩,.string ⟨#[]⟩,.bool false,.slice none 0 0] _ (0,0)) from ((K5.out _).trans Y2.out))
    have hW9':W9 = (((((((((((W5.setCell ⟨w.heap.size + 1,0,none⟩ (.int .u8 3)).setCell ⟨w.heap.size + 1,1,none⟩ (.slice yA (T.length + 1) yc)).setCell ⟨w.heap.size + 1,2,none⟩ (.int .i64 (d))).setCell ⟨w.heap.size + 1,3,none⟩ (.slice tA tn tc)).setCell ⟨w.heap.size + 1,4,none⟩ (.int .u64 0)).setCell ⟨w.heap.size + 1,5,none⟩ (.bool false)).setCell ⟨w.heap.size + 1,6,none⟩ (.string ⟨#[]⟩)).setCell ⟨w.heap.size + 1,7,none⟩ (.string ⟨#[]⟩)).setCell ⟨w.heap.size + 1,8,none⟩ (.string ⟨#[]⟩)).setCell ⟨w.heap.size + 1,9,none⟩ (.bool false)).setCell ⟨w.heap.size + 1,10,none⟩ (.slice none 0 0)):=hW9
    rw [← hW9']
    clear hW9' hW9
    unfold opCells at R9
    clear q0 q1 q2 q3 q4 q5 q6 q7 q8 q9 q10 qf
    obtain ⟨d0,d1,d2,d3,d4,d5,d6,d7,d8,d9,d10,df⟩:=eleven_cells R9
    refine bodyPost_ret (v:=.agg (opCells ⟨3,T ++ [L],d,F,0,false,[],[],[],false,[]⟩ ⟨yA,T.length + 1,yc,tA,tn,tc,none,0,0⟩)) (by simp [results,Try.results202,go_sem,d0,d1,d2,d3,d4,d5,d6,d7,d8,d9,d10,opCells,zeroO]) rfl ?_
    rw [hv.out]
    exact ⟨⟨yA,T.length + 1,yc,tA,tn,tc,none,0,0⟩,rfl,⟨own_mono (Top.own_kept O1b.out (w':=W9) fun k hk1 hk2=>(K9 k (by have:=S1.out;have h8:w1.heap.size≤k:=hk1;omega)).trans (K5.out k)) (by have:=S1.out;show w.heap.size≤w1.heap.size;omega),own_mono (Top.own_kept O2.out (w':=W9) fun k hk1 hk2=>(K9 k (by have:=S1.out;have:=S13.out;omega)).trans (K5.out k)) (by have:=S1.out;have:=S13.out;omega),OwnQ.nil_ _ _⟩,B9⟩
  | true =>
    by_cases j:L < d
    · skip
      have hv:=Lib.hid (show undoV (chV o) = ⟨3,T ++ [L],wrap64 (d + 1),F,0,false,[],[],[],false,[]⟩ by rw [hv0.out];simp [j])
      clear hv0
      go_enter Try.func202,Try.ntmps202
      go_upto_region 4 with (first | (go_at_call 199;(rw [← hW2];refine hmv.out.mono ?_;rintro e w1 ⟨rfl,hb1⟩;have E1:=Lib.hid hb1;have B1:=Lib.hid (z4'.out.trans (hb1.mono z4'.out.size));have Y1:=Lib.hid ((hb1.block w.heap.size (by have:=z5'.out;omega)).trans z1'.out);have Y2:=Lib.hid ((hb1.block (w.heap.size + 1) (by have:=z5'.out;omega)).trans z2'.out);clear o0 o1 o2 o3 o4 o5 o6 o7 o8 o9 o10 q0 q1 q2 q3 q4 q5 q6 q7 q8 q9 q10 qf;obtain ⟨o0,o1,o2,o3,o4,o5,o6,o7,o8,o9,o10⟩:=op_cells Y1.out;rw [hkI.out] at o0;rw [hpn] at o1;have y2:=Y2.out;unfold zero11 at y2;obtain ⟨q0,q1,q2,q3,q4,q5,q6,q7,q8,q9,q10,qf⟩:=eleven_cells y2;clear y2;clear hb1)) | (go_at_call 200;(refine (hpar.out _ B1.out).mono ?_;rintro e w2 ⟨rfl,⟨j1,rfl⟩,hi⟩;clear hi)))
      go_upto_region 5 with (go_at_call 190;(refine (hn1.out _ (draws B1.out _)).mono ?_;rintro e w3 (⟨hr1,-⟩ | ⟨v,xs,hr1,rfl,hr3,hb3⟩);(exfalso;cases hr1);injection hr1 with hr1;subst hr1;obtain ⟨yA,yn,yc,rfl,-⟩:=P4.OwnI.shape hr3;have O1:=Lib.hid hr3;have hb3':Below w1.heap.size w1 w3:=(draws (Below.refl _ _) _).trans hb3;have S13:=Lib.hid hb3'.size;have E3:=Lib.hid (E1.out.trans (hb3'.mono E1.out.size));have B3:=Lib.hid (z4'.out.trans (E3.out.mono z4'.out.size));have S1:=Lib.hid (show w.heap.size + 1 + 1≤w1.heap.size by have:=E1.out.size;have:=z5'.out;omega);have Y1:=Lib.hid ((E3.out.block w.heap.size (by have:=z5'.out;omega)).trans z1'.out);have Y2:=Lib.hid ((E3.out.block (w.heap.size + 1) (by have:=z5'.out;omega)).trans z2'.out);clear o0 o1 o2 o3 o4 o5 o6 o7 o8 o9 o10 q0 q1 q2 q3 q4 q5 q6 q7 q8 q9 q10 qf;obtain ⟨o0,o1,o2,o3,o4,o5,o6,o7,o8,o9,o10⟩:=op_cells Y1.out;rw [hkI.out] at o0;rw [hpn] at o1;have y2:=Y2.out;unfold zero11 at y2;obtain ⟨q0,q1,q2,q3,q4,q5,q6,q7,q8,q9,q10,qf⟩:=eleven_cells y2;clear y2;clear hr3 hb3 hb3'))
      go_upto_region 6 with (go_at_call 190;(refine (hn2.out _ B3.out).mono ?_;rintro e w4 (⟨hr1,-⟩ | ⟨v,xs,hr1,rfl,hr3,hb4⟩);(exfalso;cases hr1);injection hr1 with hr1;subst hr1;obtain ⟨tA,tn,tc,rfl,-⟩:=P4.OwnI.shape hr3;have O2:=Lib.hid hr3;have E4:=Lib.hid (E3.out.trans (hb4.mono E3.out.size));have B4:=Lib.hid (z4'.out.trans (E4.out.mono z4'.out.size));have O1b:=Lib.hid (Top.own_kept (w':=w4) O1.out fun k _ h2=>hb4.block k h2);have Y1:=Lib.hid ((E4.out.block w.heap.size (by have:=z5'.out;omega)).trans z1'.out);have Y2:=Lib.hid ((E4.out.block (w.heap.size + 1) (by have:=z5'.out;omega)).trans z2'.out);clear o0 o1 o2 o3 o4 o5 o6 o7 o8 o9 o10 q0 q1 q2 q3 q4 q5 q6 q7 q8 q9 q10 qf;obtain ⟨o0,o1,o2,o3,o4,o5,o6,o7,o8,o9,o10⟩:=op_cells Y1.out;rw [hkI.out] at o0;rw [hpn] at o1;have y2:=Y2.out;unfold zero11 at y2;obtain ⟨q0,q1,q2,q3,q4,q5,q6,q7,q8,q9,q10,qf⟩:=eleven_cells y2;clear y2;clear hr3 hb4))
      go_upto_region 7 with (go_at_call 200;(obtain ⟨f1,f2,f3,f4,f5⟩:=own_facts O1b.out;rw [List.length_append] at f5;simp only [List.length_cons,List.length_nil,Nat.zero_add] at f5;subst f5;refine (rparent_any w4 yA T.length yc T L f1 f2 f3).mono ?_;rintro e w5 ⟨rfl,⟨j5,rfl⟩,hi⟩;clear hi f1))
      go_wp2_with (go_at_call 108;(refine (hst.out _ (draws B4.out _)).mono ?_;rintro e w6 ⟨rfl,j6,rfl⟩))
      generalize hW5:w4.drewN (j5 + j6) = W5
      have K5:=Lib.hid (show ∀ k:Nat,W5.heap[k]? = w4.heap[k]? from fun k=>by rw [← hW5];rfl)
      have B5:=Lib.hid (show Below w.heap.size w W5 by rw [← hW5];exact draws B4.out _)
      clear hW5
      obtain ⟨W9,hW9,R9,B9,Z9,K9⟩:=end_op (o:=⟨3,T ++ [L],wrap64 (d + 1),F,0,false,[],[],[],false,[]⟩) (s:=⟨yA,T.length + 1,yc,tA,tn,tc,none,0,0⟩) (r:=w.heap.size + 1) (by omega) B5.out (show W5.heap[w.heap.size + 1]? = some (.cells #[.int .u8 0,.slice none 0 0,.int .i64 0,.slice none 0 0,.int .u64 0,.bool false,.string ⟨#[]⟩,.string ⟨#[]⟩,.string ⟨#[]⟩,.bool false,.slice none 0 0] _ (0,0)) from ((K5.out _).trans Y2.out))
      have hW9':W9 = (((((((((((W5.setCell ⟨w.heap.size + 1,0,none⟩ (.int .u8 3)).setCell ⟨w.heap.size + 1,1,none⟩ (.slice yA (T.length + 1) yc)).setCell ⟨w.heap.size + 1,2,none⟩ (.int .i64 (wrap64 (d + 1)))).setCell ⟨w.heap.size + 1,3,none⟩ (.slice tA tn tc)).setCell ⟨w.heap.size + 1,4,none⟩ (.int .u64 0)).setCell ⟨w.heap.size + 1,5,none⟩ (.bool false)).setCell ⟨w.heap.size + 1,6,none⟩ (.string ⟨#[]⟩)).setCell ⟨w.heap.size + 1,7,none⟩ (.string ⟨#[]⟩)).setCell ⟨w.heap.size + 1,8,none⟩ (.string ⟨#[]⟩)).setCell ⟨w.heap.size + 1,9,none⟩ (.bool false)).setCell ⟨w.heap.size + 1,10,none⟩ (.slice none 0 0)):=hW9
      rw [← hW9']
      clear hW9' hW9
      unfold opCells at R9
      clear q0 q1 q2 q3 q4 q5 q6 q7 q8 q9 q10 qf
      obtain ⟨d0,d1,d2,d3,d4,d5,d6,d7,d8,d9,d10,df⟩:=eleven_cells R9
      refine bodyPost_ret (v:=.agg (opCells ⟨3,T ++ [L],wrap64 (d + 1),F,0,false,[],[],[],false,[]⟩ ⟨yA,T.length + 1,yc,tA,tn,tc,none,0,0⟩)) (by simp [results,Try.results202,go_sem,d0,d1,d2,d3,d4,d5,d6,d7,d8,d9,d10,opCells,zeroO]) rfl ?_
      rw [hv.out]
      exact ⟨⟨yA,T.length + 1,yc,tA,tn,tc,none,0,0⟩,rfl,⟨own_mono (Top.own_kept O1b.out (w':=W9) fun k hk1 hk2=>(K9 k (by have:=S1.out;have h8:w1.heap.size≤k:=hk1;omega)).trans (K5.out k)) (by have:=S1.out;show w.heap.size≤w1.heap.size;omega),own_mono (Top.own_kept O2.out (w':=W9) fun k hk1 hk2=>(K9 k (by have:=S1.out;have:=S13.out;omega)).trans (K5.out k)) (by have:=S1.out;have:=S13.out;omega),OwnQ.nil_ _ _⟩,B9⟩
    · skip
      have hv:=Lib.hid (show undoV (chV o) = ⟨3,T ++ [L],d,F,0,false,[],[],[],false,[]⟩ by rw [hv0.out];simp [j])
      clear hv0
      go_enter Try.func202,Try.ntmps202
      go_upto_region 4 with (first | (go_at_call 199;(rw [← hW2];refine hmv.out.mono ?_;rintro e w1 ⟨rfl,hb1⟩;have E1:=Lib.hid hb1;have B1:=Lib.hid (z4'.out.trans (hb1.mono z4'.out.size));have Y1:=Lib.hid ((hb1.block w.heap.size (by have:=z5'.out;omega)).trans z1'.out);have Y2:=Lib.hid ((hb1.block (w.heap.size + 1) (by have:=z5'.out;omega)).trans z2'.out);clear o0 o1 o2 o3 o4 o5 o6 o7 o8 o9 o10 q0 q1 q2 q3 q4 q5 q6 q7 q8 q9 q10 qf;obtain ⟨o0,o1,o2,o3,o4,o5,o6,o7,o8,o9,o10⟩:=op_cells Y1.out;rw [hkI.out] at o0;rw [hpn] at o1;have y2:=Y2.out;unfold zero11 at y2;obtain ⟨q0,q1,q2,q3,q4,q5,q6,q7,q8,q9,q10,qf⟩:=eleven_cells y2;clear y2;clear hb1)) | (go_at_call 200;(refine (hpar.out _ B1.out).mono ?_;rintro e w2 ⟨rfl,⟨j1,rfl⟩,hi⟩;clear hi)))
      go_upto_region 5 with (go_at_call 190;(refine (hn1.out _ (draws B1.out _)).mono ?_;rintro e w3 (⟨hr1,-⟩ | ⟨v,xs,hr1,rfl,hr3,hb3⟩);(exfalso;cases hr1);injection hr1 with hr1;subst hr1;obtain ⟨yA,yn,yc,rfl,-⟩:=P4.OwnI.shape hr3;have O1:=Lib.hid hr3;have hb3':Below w1.heap.size w1 w3:=(draws (Below.refl _ _) _).trans hb3;have S13:=Lib.hid hb3'.size;have E3:=Lib.hid (E1.out.trans (hb3'.mono E1.out.size));have B3:=Lib.hid (z4'.out.trans (E3.out.mono z4'.out.size));have S1:=Lib.hid (show w.heap.size + 1 + 1≤w1.heap.size by have:=E1.out.size;have:=z5'.out;omega);have Y1:=Lib.hid ((E3.out.block w.heap.size (by have:=z5'.out;omega)).trans z1'.out);have Y2:=Lib.hid ((E3.out.block (w.heap.size + 1) (by have:=z5'.out;omega)).trans z2'.out);clear o0 o1 o2 o3 o4 o5 o6 o7 o8 o9 o10 q0 q1 q2 q3 q4 q5 q6 q7 q8 q9 q10 qf;obtain ⟨o0,o1,o2,o3,o4,o5,o6,o7,o8,o9,o10⟩:=op_cells Y1.out;rw [hkI.out] at o0;rw [hpn] at o1;have y2:=Y2.out;unfold zero11 at y2;obtain ⟨q0,q1,q2,q3,q4,q5,q6,q7,q8,q9,q10,qf⟩:=eleven_cells y2;clear y2;clear hr3 hb3 hb3'))
      go_upto_region 6 with (go_at_call 190;(refine (hn2.out _ B3.out).mono ?_;rintro e w4 (⟨hr1,-⟩ | ⟨v,xs,hr1,rfl,hr3,hb4⟩);(exfalso;cases hr1);injection hr1 with hr1;subst hr1;obtain ⟨tA,tn,tc,rfl,-⟩:=P4.OwnI.shape hr3;have O2:=Lib.hid hr3;have E4:=Lib.hid (E3.out.trans (hb4.mono E3.out.size));have B4:=Lib.hid (z4'.out.trans (E4.out.mono z4'.out.size));have O1b:=Lib.hid (Top.own_kept (w':=w4) O1.out fun k _ h2=>hb4.block k h2);have Y1:=Lib.hid ((E4.out.block w.heap.size (by have:=z5'.out;omega)).trans z1'.out);have Y2:=Lib.hid ((E4.out.block (w.heap.size + 1) (by have:=z5'.out;omega)).trans z2'.out);clear o0 o1 o2 o3 o4 o5 o6 o7 o8 o9 o10 q0 q1 q2 q3 q4 q5 q6 q7 q8 q9 q10 qf;obtain ⟨o0,o1,o2,o3,o4,o5,o6,o7,o8,o9,o10⟩:=op_cells Y1.out;rw [hkI.out] at o0;rw [hpn] at o1;have y2:=Y2.out;unfold zero11 at y2;obtain ⟨q0,q1,q2,q3,q4,q5,q6,q7,q8,q9,q10,qf⟩:=eleven_cells y2;clear y2;clear hr3 hb4))
      go_upto_region 7 with (go_at_call 200;(obtain ⟨f1,f2,f3,f4,f5⟩:=own_facts O1b.out;rw [List.length_append] at f5;simp only [List.length_cons,List.length_nil,Nat.zero_add] at f5;subst f5;refine (rparent_any w4 yA T.length yc T L f1 f2 f3).mono ?_;rintro e w5 ⟨rfl,⟨j5,rfl⟩,hi⟩;clear hi f1))
      go_wp2_with (go_at_call 108;(refine (hst.out _ (draws B4.out _)).mono ?_;rintro e w6 ⟨rfl,j6,rfl⟩))
      generalize hW5:w4.drewN (j5 + j6) = W5
      have K5:=Lib.hid (show ∀ k:Nat,W5.heap[k]? = w4.heap[k]? from fun k=>by rw [← hW5];rfl)
      have B5:=Lib.hid (show Below w.heap.size w W5 by rw [← hW5];exact draws B4.out _)
      clear hW5
      obtain ⟨W9,hW9,R9,B9,Z9,K9⟩:=end_op (o:=⟨3,T ++ [L],d,F,0,false,[],[],[],false,[]⟩) (s:=⟨yA,T.length + 1,yc,tA,tn,tc,none,0,0⟩) (r:=w.heap.size + 1) (by omega) B5.out (show W5.heap[w.heap.size + 1]? = some (.cells #[.int .u8 0,.slice none 0 0,.int .i64 0,.slice none 0 0,.int .u64 0,.bool false,.string ⟨#[]⟩,.string ⟨#[]⟩,.string ⟨#[]⟩,.bool false,.slice none 0 0] _ (0,0)) from ((K5.out _).trans Y2.out))
      have hW9':W9 = (((((((((((W5.setCell ⟨w.heap.size + 1,0,none⟩ (.int .u8 3)).setCell ⟨w.heap.size + 1,1,none⟩ (.slice yA (T.length + 1) yc)).setCell ⟨w.heap.size + 1,2,none⟩ (.int .i64 (d))).setCell ⟨w.heap.size + 1,3,none⟩ (.slice tA tn tc)).setCell ⟨w.heap.size + 1,4,none⟩ (.int .u64 0)).setCell ⟨w.heap.size + 1,5,none⟩ (.bool false)).setCell ⟨w.heap.size + 1,6,none⟩ (.string ⟨#[]⟩)).setCell ⟨w.heap.size + 1,7,none⟩ (.string ⟨#[]⟩)).setCell ⟨w.heap.size + 1,8,none⟩ (.string ⟨#[]⟩)).setCell ⟨w.heap.size + 1,9,none⟩ (.bool false)).setCell ⟨w.heap.size + 1,10,none⟩ (.slice none 0 0)):=hW9
      rw [← hW9']
      clear hW9' hW9
      unfold opCells at R9
      clear q0 q1 q2 q3 q4 q5 q6 q7 q8 q9 q10 qf
      obtain ⟨d0,d1,d2,d3,d4,d5,d6,d7,d8,d9,d10,df⟩:=eleven_cells R9
      refine bodyPost_ret (v:=.agg (opCells ⟨3,T ++ [L],d,F,0,false,[],[],[],false,[]⟩ ⟨yA,T.length + 1,yc,tA,tn,tc,none,0,0⟩)) (by simp [results,Try.results202,go_sem,d0,d1,d2,d3,d4,d5,d6,d7,d8,d9,d10,opCells,zeroO]) rfl ?_
      rw [hv.out]
      exact ⟨⟨yA,T.length + 1,yc,tA,tn,tc,none,0,0⟩,rfl,⟨own_mono (Top.own_kept O1b.out (w':=W9) fun k hk1 hk2=>(K9 k (by have:=S1.out;have h8:w1.heap.size≤k:=hk1;omega)).trans (K5.out k)) (by have:=S1.out;show w.heap.size≤w1.heap.size;omega),own_mono (Top.own_kept O2.out (w':=W9) fun k hk1 hk2=>(K9 k (by have:=S1.out;have:=S13.out;omega)).trans (K5.out k)) (by have:=S1.out;have:=S13.out;omega),OwnQ.nil_ _ _⟩,B9⟩
theorem rUndo_any (w:World) (o:Ov) (s:OS) (ho:OpIn w o s) (hl:Slen o):Calls Try.prog 202 #[.agg (opCells o s)] w fun e w'=>∃ s',e = .returned (.agg (opCells (undoV (chV o)) s'))∧OwnOp w.heap.size w' (undoV (chV o)) s'∧Below w.heap.size w w':=by
  by_cases hk:o.kind = 3
  · cases hm:movesV o with
    | false=>exact rundo_same w o s ho hl hk hm
    | true =>
      rcases move_kind hm with h | ⟨h,-⟩ | ⟨-,hpn,hw⟩
      · omega
      · omega
      · obtain ⟨r,d,hr⟩:∃ r d,o.path = r ++ [d]:=by
          rcases snoc_cases o.path with h | h
          · exact absurd h hpn
          · exact h
        exact rundo_move w o s ho hl hk hm hw r d hr
  · exact rundo_other w o s ho hl hk
end Go.Proofs.Ytidimannfemnmaa.Shf
namespace Go.Proofs.Ytidimannfemnmaa.Sqr
open Go.RowKit Top Shf

def soundV (o:Ov):Bool:=formedV o && (if o.kind = 2 then decide (o.path ≠ []) else if o.kind = 3 then !P4.withinV o.path o.to_ else true)
def nodeD (a:Ov) (p:List Int):List Int:=(nodeV (chV a) p).getD []
def gapD (a:Ov) (p:List Int) (i:Int) (first:Bool):Int:=if nodeV (chV a) p = none then 0 else gapV (chV a) p i first
def delV (p:List Int):Ov:=⟨2,p,0,[],0,false,[],[],[],false,[]⟩
def shiftedV (b a:Ov) (prior:Bool):Ov :=
  if b.kind = 1 then { b with path:=nodeD a b.path,at_:=gapD a b.path b.at_ prior }
  else if b.kind = 3 then { b with path:=nodeD a b.path,to_:=nodeD a b.to_,at_:=gapD a b.to_ b.at_ prior }
  else { b with path:=nodeD a b.path }
def editV (b a:Ov) (prior:Bool):Ov:={ b with pieces:=(Ltx.trans (Ltx.norm (pcs b.pieces)) (Ltx.norm (pcs a.pieces)) prior).map P5.ipc }
def becomesV (b a:Ov) (prior:Bool):List Ov :=
  if a.kind = 2∧P4.withinV a.path b.path = true then []
  else if b.kind = 3∧a.kind = 2∧P4.withinV a.path b.to_ = true then [delV (nodeD a b.path)]
  else if b.kind = 2∧a.kind = 3∧P4.eqV b.path a.path = false∧P4.withinV b.path a.path = true∧P4.withinV b.path a.to_ = false then [delV (nodeD a a.path),delV (nodeD (delV (nodeD a a.path)) (nodeD a b.path))]
  else if b.kind = 3∧a.kind = 3∧P4.eqV b.path a.path = true then (if prior = true then [shiftedV b a prior] else [])
  else if b.kind = 3∧a.kind = 3∧P4.withinV b.path a.to_ = true∧P4.withinV a.path b.to_ = true then (if prior = true then [undoV (chV a),b] else [])
  else if b.kind = 4∧a.kind = 4∧P4.eqV b.path a.path = true∧b.key = a.key then (if prior = true then [shiftedV b a prior] else [])
  else if b.kind = 5∧a.kind = 5∧P4.eqV b.path a.path = true then (if prior = true then [shiftedV b a prior] else [])
  else if b.kind = 6∧a.kind = 6∧P4.eqV b.path a.path = true then [editV b a prior]
  else [shiftedV b a prior]
def behindV (b a:Ov) (prior:Bool):List Ov × Int :=
  if soundV b = true∧soundV a = true then
    (if (becomesV b a prior).all formedV = true then ((becomesV b a prior).map bareV,0) else ([],3))
  else ([],80)
theorem sound_formed {o:Ov} (h:soundV o = true):formedV o = true:=by
  unfold soundV at h
  simp only [Bool.and_eq_true] at h
  exact h.1
theorem still_no {o:Ov} (h1:o.kind ≠ 1) (h2:o.kind ≠ 2) (h3:o.kind ≠ 3):chV o = noCh:=by
  unfold chV
  simp [h1,h2,h3]
theorem node_still {a:Ov} (h1:a.kind ≠ 1) (h2:a.kind ≠ 2) (h3:a.kind ≠ 3) (p:List Int):nodeD a p = p:=by
  unfold nodeD
  rw [still_no h1 h2 h3,nodeV_no]
  rfl
theorem shifted_still {b a:Ov} {prior:Bool} (h1:a.kind ≠ 1) (h2:a.kind ≠ 2) (h3:a.kind ≠ 3) (k1:b.kind ≠ 1) (k3:b.kind ≠ 3):shiftedV b a prior = b:=by
  unfold shiftedV
  rw [if_neg k1,if_neg k3,node_still h1 h2 h3]
def InI (i:Int):Prop:=-9223372036854775808≤i∧i≤9223372036854775807
theorem wrap_in (x:Int):InI (IntKind.i64.wrap x):=by
  rw [IntWalk.i64_left]
  unfold InI wrap64
  omega
theorem less_in {c:Ch} {over:List Int} {k:Int} (h:InI k):InI (lessV c over k):=by
  unfold lessV
  split
  · exact wrap_in _
  · exact h
theorem num_in {c:Ch} {over:List Int} {k:Int} (h:InI k):InI (numV c over k):=by
  unfold numV
  split
  · exact wrap_in _
  · exact less_in h
theorem gap_in {c:Ch} {over:List Int} {i:Int} {first:Bool} (h:InI i):InI (gapV c over i first):=by
  unfold gapV
  split
  · exact wrap_in _
  · exact less_in h
theorem land_in {c:Ch} (h:InI c.gap):InI (landV c):=by
  unfold landV
  split
  · exact wrap_in _
  · exact h
theorem plain_len (c:Ch):∀ l:List Int,(plainR c l).length = l.length
  | []=>rfl
  | k :: r=>by simp [plainR,plain_len c r]
theorem plain_fit (c:Ch):∀ l:List Int,Fit l→Fit (plainR c l)
  | [],_=>fun x hx=>by simp [plainR] at hx
  | k :: r,h=>fun x hx=>by
    simp only [plainR,List.mem_append,List.mem_singleton] at hx
    rcases hx with hx | rfl
    · exact plain_fit c r (fun y hy=>h y (List.mem_cons_of_mem _ hy)) x hx
    · exact num_in (h k (List.mem_cons_self ..))
theorem to_len (c:Ch):(toV c).length = c.to_.length:=by unfold toV;rw [plain_len,List.length_reverse]
theorem to_fit {c:Ch} (h:Fit c.to_):Fit (toV c):=plain_fit c _ fun x hx=>h x (List.mem_reverse.1 hx)
theorem nodeR_len (c:Ch):∀ (l xs:List Int),nodeR c l = some xs→xs.length≤l.length + c.to_.length + 1
  | [],xs,h=>by
    simp only [nodeR,Option.some.injEq] at h
    subst h
    simp
  | k :: r,xs,h=>by
    unfold nodeR at h
    split at h
    · split at h
      · injection h with h
        subst h
        rw [List.length_append,to_len]
        simp only [List.length_cons,List.length_nil]
        omega
      · cases h
    · cases hr:nodeR c r with
      | none=>rw [hr] at h;cases h
      | some ys =>
        rw [hr] at h
        injection h with h
        subst h
        have:=nodeR_len c r ys hr
        simp only [List.length_append,List.length_cons,List.length_nil]
        omega
theorem nodeR_fit (c:Ch) (ht:Fit c.to_) (hg:InI c.gap):∀ (l xs:List Int),Fit l→nodeR c l = some xs→Fit xs
  | [],xs,_,h=>by
    simp only [nodeR,Option.some.injEq] at h
    subst h
    exact fun x hx=>by simp at hx
  | k :: r,xs,hl,h=>by
    unfold nodeR at h
    split at h
    · split at h
      · injection h with h
        subst h
        intro x hx
        rw [List.mem_append,List.mem_singleton] at hx
        rcases hx with hx | rfl
        · exact to_fit ht x hx
        · exact land_in hg
      · cases h
    · cases hr:nodeR c r with
      | none=>rw [hr] at h;cases h
      | some ys =>
        rw [hr] at h
        injection h with h
        subst h
        intro x hx
        rw [List.mem_append,List.mem_singleton] at hx
        rcases hx with hx | rfl
        · exact nodeR_fit c ht hg r ys (fun y hy=>hl y (List.mem_cons_of_mem _ hy)) hr x hx
        · exact num_in (hl k (List.mem_cons_self ..))
theorem ch_gap {o:Ov} (h:InI o.at_):InI (chV o).gap:=by
  have z:InI 0:=by unfold InI;omega
  unfold chV
  split
  · split
    · exact h
    · split
      · split <;> exact z
      · split
        · split
          · exact z
          · exact h
        · exact z
  · exact z
theorem ch_tofit {o:Ov} (hp:Fit o.path) (ht:Fit o.to_):Fit (chV o).to_:=by
  rcases ch_to o with e | e | e <;> rw [e]
  · exact fun x hx=>by simp at hx
  · exact hp
  · exact ht
theorem node_ok {a:Ov} (hl:Slen a) (hp:Fit a.path) (ht:Fit a.to_) (hi:InI a.at_) {p xs:List Int} (h:nodeV (chV a) p = some xs) (hf:Fit p):xs.length≤p.length + 1001∧Fit xs:=by
  refine ⟨?_,nodeR_fit _ (ch_tofit hp ht) (ch_gap hi) _ xs (fun x hx=>hf x (List.mem_reverse.1 hx)) h⟩
  have e1:=nodeR_len _ _ xs h
  have e2:=ch_few hl
  rw [List.length_reverse] at e1
  omega
end Go.Proofs.Ytidimannfemnmaa.Sqr
namespace Go.Proofs.Ytidimannfemnmaa.Shf
open Go.RowKit Top
set_option maxRecDepth 20000

theorem eqV_comm (a b:List Int):P4.eqV a b = P4.eqV b a:=by
  unfold P4.eqV
  by_cases h:a = b
  · subst h;rfl
  · rw [decide_eq_false h,decide_eq_false (fun e=>h e.symm)]
set_option maxHeartbeats 16000000 in
theorem rgap_gone (w:World) (o:Ov) (s:OS) (A:Option Addr) (n cp:Nat) (p:List Int) (i:Int) (first:Bool) (hg:nodeV (chV o) p = none) (hl:Slen o) (ho:OpIn w o s) (hA:Its w A n p) (hn:n≤cp) (hcp:cp≤maxLen) (hnil:A = none→cp = 0) (hfew:n≤400000):Calls Try.prog 204 #[.agg (opCells o s),.slice A n cp,.int .i64 i,.bool first] w (GapA w (nodeV (chV o) p) (gapV (chV o) p i first)):=by
  obtain ⟨W2,hW2⟩:∃ W2,W2 = w.alloc (.cells (opCells o s) 52):=⟨_,rfl⟩
  have z1:W2.heap[w.heap.size]? = some (.cells (opCells o s) 52 (0,0)):=by rw [hW2];exact heap_alloc_new w _
  have z4':=Lib.hid (show Below w.heap.size w W2 by rw [hW2];exact (Below.refl _ _).alloc (Nat.le_refl _) _)
  have z5':=Lib.hid (show W2.heap.size = w.heap.size + 1 by rw [hW2];simp)
  have z1':=Lib.hid z1
  have hnd:=Lib.hid (rNode_any W2 o s A n cp p (ho.below z4'.out) hl (hA.below z4'.out) hn hcp hnil hfew)
  have hmv:=Lib.hid (fun (W:World) (hb:Below w.heap.size w W)=>rmoves_any W o s (ho.below hb))
  obtain ⟨V,hV⟩:∃ V,V = nodeV (chV o) p:=⟨_,rfl⟩
  rw [← hV] at hnd ⊢
  have hg':V = none:=hV.trans hg
  subst hg'
  obtain ⟨o0,o1,o2,o3,o4,o5,o6,o7,o8,o9,o10⟩:=op_cells z1
  rw [hW2] at o0 o1 o2 o3 o4 o5 o6 o7 o8 o9 o10
  unfold opCells at hW2 hnd
  unfold opCells
  clear ho z1 hA hl hmv hg hV
  go_enter Try.func204,Try.ntmps204
  go_wp2_with (go_at_call 190;(rw [← hW2];refine hnd.out.mono ?_;rintro e w1 (⟨hr1,rfl,hb1⟩ | ⟨v,xs,hr1,rfl,hr3,hb1⟩);rotate_left 1;(exfalso;cases hr1);clear o0 o1 o2 o3 o4 o5 o6 o7 o8 o9 o10))
  go_ret3
  exact .inl ⟨rfl,rfl,z4'.out.trans (hb1.mono z4'.out.size)⟩
set_option maxHeartbeats 16000000 in
theorem rgap_still (w:World) (o:Ov) (s:OS) (A:Option Addr) (n cp:Nat) (p:List Int) (i:Int) (first:Bool) (hm:movesV o = false) (hs:∃ xs,nodeV (chV o) p = some xs) (hl:Slen o) (ho:OpIn w o s) (hA:Its w A n p) (hn:n≤cp) (hcp:cp≤maxLen) (hnil:A = none→cp = 0) (hfew:n≤400000):Calls Try.prog 204 #[.agg (opCells o s),.slice A n cp,.int .i64 i,.bool first] w (GapA w (nodeV (chV o) p) (gapV (chV o) p i first)):=by
  obtain ⟨W2,hW2⟩:∃ W2,W2 = w.alloc (.cells (opCells o s) 52):=⟨_,rfl⟩
  have z1:W2.heap[w.heap.size]? = some (.cells (opCells o s) 52 (0,0)):=by rw [hW2];exact heap_alloc_new w _
  have z4':=Lib.hid (show Below w.heap.size w W2 by rw [hW2];exact (Below.refl _ _).alloc (Nat.le_refl _) _)
  have z5':=Lib.hid (show W2.heap.size = w.heap.size + 1 by rw [hW2];simp)
  have z1':=Lib.hid z1
  have hnd:=Lib.hid (rNode_any W2 o s A n cp p (ho.below z4'.out) hl (hA.below z4'.out) hn hcp hnil hfew)
  have hmv:=Lib.hid (fun (W:World) (hb:Below w.heap.size w W)=>rmoves_any W o s (ho.below hb))
  simp only [hm] at hmv
  obtain ⟨V,hV⟩:∃ V,V = nodeV (chV o) p:=⟨_,rfl⟩
  rw [← hV] at hnd ⊢
  rw [← hV] at hs
  have hv:=Lib.hid (show gapV (chV o) p i first = i by rw [moves_no hm];rfl)
  obtain ⟨o0,o1,o2,o3,o4,o5,o6,o7,o8,o9,o10⟩:=op_cells z1
  rw [hW2] at o0 o1 o2 o3 o4 o5 o6 o7 o8 o9 o10
  unfold opCells at hW2 hmv hnd
  unfold opCells
  clear ho z1 hm hA hl hV
  go_enter Try.func204,Try.ntmps204
  go_wp2_with (first | (go_at_call 190;(rw [← hW2];refine hnd.out.mono ?_;rintro e w1 (⟨hr1,rfl,hb1⟩ | ⟨v,xs,hr1,rfl,hr3,hb1⟩);(exfalso;obtain ⟨xs,hx⟩:=hs;rw [hr1] at hx;cases hx);have B1:=Lib.hid (z4'.out.trans (hb1.mono z4'.out.size));have S1:=Lib.hid hb1.size;have Y1:=Lib.hid ((hb1.block w.heap.size (by have:=z5'.out;omega)).trans z1'.out);clear hb1 o0 o1 o2 o3 o4 o5 o6 o7 o8 o9 o10;obtain ⟨o0,o1,o2,o3,o4,o5,o6,o7,o8,o9,o10⟩:=op_cells Y1.out;skip)) | (go_at_call 199;(refine (hmv.out _ B1.out).mono ?_;rintro e w2 ⟨rfl,hb2⟩;have B2:=Lib.hid (B1.out.trans (hb2.mono B1.out.size));have R3:=Lib.hid (Top.own_kept hr3 fun k _ h2=>hb2.block k h2);have Y2:=Lib.hid ((hb2.block w.heap.size (Array.getElem?_eq_some_iff.1 Y1.out).1).trans Y1.out);clear hb2 o0 o1 o2 o3 o4 o5 o6 o7 o8 o9 o10;obtain ⟨o0,o1,o2,o3,o4,o5,o6,o7,o8,o9,o10⟩:=op_cells Y2.out;skip)))
  go_ret3
  exact .inr ⟨v,xs,hr1,by rw [hv.out] <;> rfl,own_mono (Top.own_kept (w':=_) R3.out fun k _ h2=>rfl) z4'.out.size,by first | exact B2.out | exact draws B2.out _⟩
set_option maxHeartbeats 16000000 in
theorem rgap_ins (w:World) (o:Ov) (s:OS) (A:Option Addr) (n cp:Nat) (p:List Int) (i:Int) (first:Bool) (hm:movesV o = true) (hk:o.kind = 1) (hs:∃ xs,nodeV (chV o) p = some xs) (hl:Slen o) (ho:OpIn w o s) (hA:Its w A n p) (hn:n≤cp) (hcp:cp≤maxLen) (hnil:A = none→cp = 0) (hfew:n≤400000):Calls Try.prog 204 #[.agg (opCells o s),.slice A n cp,.int .i64 i,.bool first] w (GapA w (nodeV (chV o) p) (gapV (chV o) p i first)):=by
  obtain ⟨W2,hW2⟩:∃ W2,W2 = w.alloc (.cells (opCells o s) 52):=⟨_,rfl⟩
  have z1:W2.heap[w.heap.size]? = some (.cells (opCells o s) 52 (0,0)):=by rw [hW2];exact heap_alloc_new w _
  have z4':=Lib.hid (show Below w.heap.size w W2 by rw [hW2];exact (Below.refl _ _).alloc (Nat.le_refl _) _)
  have z5':=Lib.hid (show W2.heap.size = w.heap.size + 1 by rw [hW2];simp)
  have z1':=Lib.hid z1
  have hnd:=Lib.hid (rNode_any W2 o s A n cp p (ho.below z4'.out) hl (hA.below z4'.out) hn hcp hnil hfew)
  have hmv:=Lib.hid (fun (W:World) (hb:Below w.heap.size w W)=>rmoves_any W o s (ho.below hb))
  simp only [hm] at hmv
  obtain ⟨V,hV⟩:∃ V,V = nodeV (chV o) p:=⟨_,rfl⟩
  rw [← hV] at hnd ⊢
  rw [← hV] at hs
  have hkI:=Lib.hid (show (o.kind:Int) = 1 by omega)
  obtain ⟨G,hG⟩:∃ G,G = gapV (chV o) p i first:=⟨_,rfl⟩
  rw [ch_one (formed_of hm) hk] at hG
  have hst:=Lib.hid (fun (W:World) (hb:Below w.heap.size w W)=>rsame_its W s.pA A s.pn s.pc n cp o.path p (ho.below hb).path (hA.below hb) (Nat.le_trans ho.pnc ho.pcm) (Nat.le_trans hn hcp))
  obtain ⟨b2,hb2⟩:∃ b,b = P4.eqV o.path p:=⟨_,rfl⟩
  rw [← hb2] at hst
  have hG1:=Lib.hid (show G = if (b2 && (decide (i > o.at_) || ((i == o.at_) && !first))) = true then IntKind.i64.wrap (i + 1) else i by rw [hG,hb2,eqV_comm o.path p];rfl)
  obtain ⟨o0,o1,o2,o3,o4,o5,o6,o7,o8,o9,o10⟩:=op_cells z1
  rw [hW2] at o0 o1 o2 o3 o4 o5 o6 o7 o8 o9 o10
  rw [hkI.out] at o0
  have hv0:gapV (chV o) p i first = G:=by rw [ch_one (formed_of hm) hk];exact hG.symm
  have hv1:=Lib.hid hv0
  unfold opCells at hW2 hmv hnd
  unfold opCells
  rw [hkI.out] at hW2 hmv hnd ⊢
  clear ho z1 hm hA hk hl hV hv0 hG hb2
  cases b2 with
  | false =>
    have hv:=Lib.hid (show gapV (chV o) p i first = i by rw [hv1.out,hG1.out];simp [IntWalk.i64_left])
    clear hG1 hv1
    go_enter Try.func204,Try.ntmps204
    go_wp2_with (first | (go_at_call 190;(rw [← hW2];refine hnd.out.mono ?_;rintro e w1 (⟨hr1,rfl,hb1⟩ | ⟨v,xs,hr1,rfl,hr3,hb1⟩);(exfalso;obtain ⟨xs,hx⟩:=hs;rw [hr1] at hx;cases hx);have B1:=Lib.hid (z4'.out.trans (hb1.mono z4'.out.size));have S1:=Lib.hid hb1.size;have Y1:=Lib.hid ((hb1.block w.heap.size (by have:=z5'.out;omega)).trans z1'.out);clear hb1 o0 o1 o2 o3 o4 o5 o6 o7 o8 o9 o10;obtain ⟨o0,o1,o2,o3,o4,o5,o6,o7,o8,o9,o10⟩:=op_cells Y1.out;rw [hkI.out] at o0)) | (go_at_call 199;(refine (hmv.out _ B1.out).mono ?_;rintro e w2 ⟨rfl,hb2⟩;have B2:=Lib.hid (B1.out.trans (hb2.mono B1.out.size));have R3:=Lib.hid (Top.own_kept hr3 fun k _ h2=>hb2.block k h2);have Y2:=Lib.hid ((hb2.block w.heap.size (Array.getElem?_eq_some_iff.1 Y1.out).1).trans Y1.out);clear hb2 o0 o1 o2 o3 o4 o5 o6 o7 o8 o9 o10;obtain ⟨o0,o1,o2,o3,o4,o5,o6,o7,o8,o9,o10⟩:=op_cells Y2.out;rw [hkI.out] at o0)) | (go_at_call 108;(refine (hst.out _ (by first | exact B2.out | exact draws B2.out _)).mono ?_;rintro e w3 ⟨rfl,j1,rfl⟩)))
    go_ret3
    exact .inr ⟨v,xs,hr1,by rw [hv.out] <;> rfl,own_mono (Top.own_kept (w':=_) R3.out fun k _ h2=>rfl) z4'.out.size,by first | exact B2.out | exact draws B2.out _⟩
  | true =>
    by_cases j2:o.at_ < i
    · skip
      have hv:=Lib.hid (show gapV (chV o) p i first = wrap64 (i + 1) by rw [hv1.out,hG1.out];simp [IntWalk.i64_left,j2])
      clear hG1 hv1
      go_enter Try.func204,Try.ntmps204
      go_wp2_with (first | (go_at_call 190;(rw [← hW2];refine hnd.out.mono ?_;rintro e w1 (⟨hr1,rfl,hb1⟩ | ⟨v,xs,hr1,rfl,hr3,hb1⟩);(exfalso;obtain ⟨xs,hx⟩:=hs;rw [hr1] at hx;cases hx);have B1:=Lib.hid (z4'.out.trans (hb1.mono z4'.out.size));have S1:=Lib.hid hb1.size;have Y1:=Lib.hid ((hb1.block w.heap.size (by have:=z5'.out;omega)).trans z1'.out);clear hb1 o0 o1 o2 o3 o4 o5 o6 o7 o8 o9 o10;obtain ⟨o0,o1,o2,o3,o4,o5,o6,o7,o8,o9,o10⟩:=op_cells Y1.out;rw [hkI.out] at o0)) | (go_at_call 199;(refine (hmv.out _ B1.out).mono ?_;rintro e w2 ⟨rfl,hb2⟩;have B2:=Lib.hid (B1.out.trans (hb2.mono B1.out.size));have R3:=Lib.hid (Top.own_kept hr3 fun k _ h2=>hb2.block k h2);have Y2:=Lib.hid ((hb2.block w.heap.size (Array.getElem?_eq_some_iff.1 Y1.out).1).trans Y1.out);clear hb2 o0 o1 o2 o3 o4 o5 o6 o7 o8 o9 o10;obtain ⟨o0,o1,o2,o3,o4,o5,o6,o7,o8,o9,o10⟩:=op_cells Y2.out;rw [hkI.out] at o0)) | (go_at_call 108;(refine (hst.out _ (by first | exact B2.out | exact draws B2.out _)).mono ?_;rintro e w3 ⟨rfl,j1,rfl⟩)))
      go_ret3
      exact .inr ⟨v,xs,hr1,by rw [hv.out] <;> rfl,own_mono (Top.own_kept (w':=_) R3.out fun k _ h2=>rfl) z4'.out.size,by first | exact B2.out | exact draws B2.out _⟩
    · cases j3:(i == o.at_) with
      | false =>
        have hv:=Lib.hid (show gapV (chV o) p i first = i by rw [hv1.out,hG1.out];simp [IntWalk.i64_left,j2,j3])
        clear hG1 hv1
        go_enter Try.func204,Try.ntmps204
        go_wp2_with (first | (go_at_call 190;(rw [← hW2];refine hnd.out.mono ?_;rintro e w1 (⟨hr1,rfl,hb1⟩ | ⟨v,xs,hr1,rfl,hr3,hb1⟩);(exfalso;obtain ⟨xs,hx⟩:=hs;rw [hr1] at hx;cases hx);have B1:=Lib.hid (z4'.out.trans (hb1.mono z4'.out.size));have S1:=Lib.hid hb1.size;have Y1:=Lib.hid ((hb1.block w.heap.size (by have:=z5'.out;omega)).trans z1'.out);clear hb1 o0 o1 o2 o3 o4 o5 o6 o7 o8 o9 o10;obtain ⟨o0,o1,o2,o3,o4,o5,o6,o7,o8,o9,o10⟩:=op_cells Y1.out;rw [hkI.out] at o0)) | (go_at_call 199;(refine (hmv.out _ B1.out).mono ?_;rintro e w2 ⟨rfl,hb2⟩;have B2:=Lib.hid (B1.out.trans (hb2.mono B1.out.size));have R3:=Lib.hid (Top.own_kept hr3 fun k _ h2=>hb2.block k h2);have Y2:=Lib.hid ((hb2.block w.heap.size (Array.getElem?_eq_some_iff.1 Y1.out).1).trans Y1.out);clear hb2 o0 o1 o2 o3 o4 o5 o6 o7 o8 o9 o10;obtain ⟨o0,o1,o2,o3,o4,o5,o6,o7,o8,o9,o10⟩:=op_cells Y2.out;rw [hkI.out] at o0)) | (go_at_call 108;(refine (hst.out _ (by first | exact B2.out | exact draws B2.out _)).mono ?_;rintro e w3 ⟨rfl,j1,rfl⟩)))
        go_ret3
        exact .inr ⟨v,xs,hr1,by rw [hv.out] <;> rfl,own_mono (Top.own_kept (w':=_) R3.out fun k _ h2=>rfl) z4'.out.size,by first | exact B2.out | exact draws B2.out _⟩
      | true =>
        cases first with
        | false =>
          have hv:=Lib.hid (show gapV (chV o) p i false = wrap64 (i + 1) by rw [hv1.out,hG1.out];simp [IntWalk.i64_left,j2,j3])
          clear hG1 hv1
          go_enter Try.func204,Try.ntmps204
          go_wp2_with (first | (go_at_call 190;(rw [← hW2];refine hnd.out.mono ?_;rintro e w1 (⟨hr1,rfl,hb1⟩ | ⟨v,xs,hr1,rfl,hr3,hb1⟩);(exfalso;obtain ⟨xs,hx⟩:=hs;rw [hr1] at hx;cases hx);have B1:=Lib.hid (z4'.out.trans (hb1.mono z4'.out.size));have S1:=Lib.hid hb1.size;have Y1:=Lib.hid ((hb1.block w.heap.size (by have:=z5'.out;omega)).trans z1'.out);clear hb1 o0 o1 o2 o3 o4 o5 o6 o7 o8 o9 o10;obtain ⟨o0,o1,o2,o3,o4,o5,o6,o7,o8,o9,o10⟩:=op_cells Y1.out;rw [hkI.out] at o0)) | (go_at_call 199;(refine (hmv.out _ B1.out).mono ?_;rintro e w2 ⟨rfl,hb2⟩;have B2:=Lib.hid (B1.out.trans (hb2.mono B1.out.size));have R3:=Lib.hid (Top.own_kept hr3 fun k _ h2=>hb2.block k h2);have Y2:=Lib.hid ((hb2.block w.heap.size (Array.getElem?_eq_some_iff.1 Y1.out).1).trans Y1.out);clear hb2 o0 o1 o2 o3 o4 o5 o6 o7 o8 o9 o10;obtain ⟨o0,o1,o2,o3,o4,o5,o6,o7,o8,o9,o10⟩:=op_cells Y2.out;rw [hkI.out] at o0)) | (go_at_call 108;(refine (hst.out _ (by first | exact B2.out | exact draws B2.out _)).mono ?_;rintro e w3 ⟨rfl,j1,rfl⟩)))
          go_ret3
          exact .inr ⟨v,xs,hr1,by rw [hv.out] <;> rfl,own_mono (Top.own_kept (w':=_) R3.out fun k _ h2=>rfl) z4'.out.size,by first | exact B2.out | exact draws B2.out _⟩
        | true =>
          have hv:=Lib.hid (show gapV (chV o) p i true = i by rw [hv1.out,hG1.out];simp [IntWalk.i64_left,j2,j3])
          clear hG1 hv1
          go_enter Try.func204,Try.ntmps204
          go_wp2_with (first | (go_at_call 190;(rw [← hW2];refine hnd.out.mono ?_;rintro e w1 (⟨hr1,rfl,hb1⟩ | ⟨v,xs,hr1,rfl,hr3,hb1⟩);(exfalso;obtain ⟨xs,hx⟩:=hs;rw [hr1] at hx;cases hx);have B1:=Lib.hid (z4'.out.trans (hb1.mono z4'.out.size));have S1:=Lib.hid hb1.size;have Y1:=Lib.hid ((hb1.block w.heap.size (by have:=z5'.out;omega)).trans z1'.out);clear hb1 o0 o1 o2 o3 o4 o5 o6 o7 o8 o9 o10;obtain ⟨o0,o1,o2,o3,o4,o5,o6,o7,o8,o9,o10⟩:=op_cells Y1.out;rw [hkI.out] at o0)) | (go_at_call 199;(refine (hmv.out _ B1.out).mono ?_;rintro e w2 ⟨rfl,hb2⟩;have B2:=Lib.hid (B1.out.trans (hb2.mono B1.out.size));have R3:=Lib.hid (Top.own_kept hr3 fun k _ h2=>hb2.block k h2);have Y2:=Lib.hid ((hb2.block w.heap.size (Array.getElem?_eq_some_iff.1 Y1.out).1).trans Y1.out);clear hb2 o0 o1 o2 o3 o4 o5 o6 o7 o8 o9 o10;obtain ⟨o0,o1,o2,o3,o4,o5,o6,o7,o8,o9,o10⟩:=op_cells Y2.out;rw [hkI.out] at o0)) | (go_at_call 108;(refine (hst.out _ (by first | exact B2.out | exact draws B2.out _)).mono ?_;rintro e w3 ⟨rfl,j1,rfl⟩)))
          go_ret3
          exact .inr ⟨v,xs,hr1,by rw [hv.out] <;> rfl,own_mono (Top.own_kept (w':=_) R3.out fun k _ h2=>rfl) z4'.out.size,by first | exact B2.out | exact draws B2.out _⟩
set_option maxHeartbeats 16000000 in
theorem rgap_del (w:World) (o:Ov) (s:OS) (A:Option Addr) (n cp:Nat) (p:List Int) (i:Int) (first:Bool) (hm:movesV o = true) (hk:o.kind = 2) (r:List Int) (d:Int) (hr:o.path = r ++ [d]) (hs:∃ xs,nodeV (chV o) p = some xs) (hl:Slen o) (ho:OpIn w o s) (hA:Its w A n p) (hn:n≤cp) (hcp:cp≤maxLen) (hnil:A = none→cp = 0) (hfew:n≤400000):Calls Try.prog 204 #[.agg (opCells o s),.slice A n cp,.int .i64 i,.bool first] w (GapA w (nodeV (chV o) p) (gapV (chV o) p i first)):=by
  obtain ⟨W2,hW2⟩:∃ W2,W2 = w.alloc (.cells (opCells o s) 52):=⟨_,rfl⟩
  have z1:W2.heap[w.heap.size]? = some (.cells (opCells o s) 52 (0,0)):=by rw [hW2];exact heap_alloc_new w _
  have z4':=Lib.hid (show Below w.heap.size w W2 by rw [hW2];exact (Below.refl _ _).alloc (Nat.le_refl _) _)
  have z5':=Lib.hid (show W2.heap.size = w.heap.size + 1 by rw [hW2];simp)
  have z1':=Lib.hid z1
  have hnd:=Lib.hid (rNode_any W2 o s A n cp p (ho.below z4'.out) hl (hA.below z4'.out) hn hcp hnil hfew)
  have hmv:=Lib.hid (fun (W:World) (hb:Below w.heap.size w W)=>rmoves_any W o s (ho.below hb))
  simp only [hm] at hmv
  obtain ⟨V,hV⟩:∃ V,V = nodeV (chV o) p:=⟨_,rfl⟩
  rw [← hV] at hnd ⊢
  rw [← hV] at hs
  have hkI:=Lib.hid (show (o.kind:Int) = 2 by omega)
  obtain ⟨G,hG⟩:∃ G,G = gapV (chV o) p i first:=⟨_,rfl⟩
  rw [ch_two (formed_of hm) hk hr] at hG
  have hpn:s.pn = r.length + 1:=by have h1:=ho.path.1;rw [hr] at h1;simp at h1;omega
  have hpar:=Lib.hid (fun (W:World) (hb:Below w.heap.size w W)=>rparent_any W s.pA r.length s.pc r d (by have h:=(ho.below hb).path;rw [hr,hpn] at h;exact h) (by have:=ho.pnc;omega) ho.pcm)
  have hsq:=Lib.hid (fun (W:World) (hb:Below w.heap.size w W)=>rsame_its W s.pA A r.length s.pc n cp r p (by
    have h:=P4.Its.upto (its4 (ho.below hb).path) (q:=r.length) (by omega)
    rw [hr,List.take_append_of_le_length (Nat.le_refl _),List.take_of_length_le (Nat.le_refl _)] at h
    exact h) (hA.below hb) (Nat.le_trans (show r.length≤s.pc by have:=ho.pnc;omega) ho.pcm) (Nat.le_trans hn hcp))
  obtain ⟨b1,hb1⟩:∃ b,b = P4.eqV r p:=⟨_,rfl⟩
  rw [← hb1] at hsq
  obtain ⟨m,hm9⟩:∃ m,m = r.length:=⟨_,rfl⟩
  rw [← hm9] at hpn hsq hpar
  clear hm9
  have hG1:=Lib.hid (show G = if (decide (i > d) && b1) = true then IntKind.i64.wrap (i - 1) else i by rw [hG,hb1,eqV_comm r p];rfl)
  obtain ⟨o0,o1,o2,o3,o4,o5,o6,o7,o8,o9,o10⟩:=op_cells z1
  rw [hpn] at o1
  rw [hW2] at o0 o1 o2 o3 o4 o5 o6 o7 o8 o9 o10
  rw [hkI.out] at o0
  have hv0:gapV (chV o) p i first = G:=by rw [ch_two (formed_of hm) hk hr];exact hG.symm
  have hv1:=Lib.hid hv0
  unfold opCells at hW2 hmv hnd
  unfold opCells
  rw [hkI.out] at hW2 hmv hnd ⊢
  rw [hpn] at hW2 hmv hnd ⊢
  clear ho z1 hm hA hk hl hV hv0 hG hb1
  cases b1 with
  | false =>
    have hv:=Lib.hid (show gapV (chV o) p i first = i by rw [hv1.out,hG1.out];simp [IntWalk.i64_left,Bool.and_false])
    clear hG1 hv1
    go_enter Try.func204,Try.ntmps204
    go_upto_region 11 with (first | (go_at_call 190;(rw [← hW2];refine hnd.out.mono ?_;rintro e w1 (⟨hr1,rfl,hb1⟩ | ⟨v,xs,hr1,rfl,hr3,hb1⟩);(exfalso;obtain ⟨xs,hx⟩:=hs;rw [hr1] at hx;cases hx);have B1:=Lib.hid (z4'.out.trans (hb1.mono z4'.out.size));have S1:=Lib.hid hb1.size;have Y1:=Lib.hid ((hb1.block w.heap.size (by have:=z5'.out;omega)).trans z1'.out);clear hb1 o0 o1 o2 o3 o4 o5 o6 o7 o8 o9 o10;obtain ⟨o0,o1,o2,o3,o4,o5,o6,o7,o8,o9,o10⟩:=op_cells Y1.out;rw [hkI.out] at o0;rw [hpn] at o1)) | (go_at_call 199;(refine (hmv.out _ B1.out).mono ?_;rintro e w2 ⟨rfl,hb2⟩;have B2:=Lib.hid (B1.out.trans (hb2.mono B1.out.size));have R3:=Lib.hid (Top.own_kept hr3 fun k _ h2=>hb2.block k h2);have Y2:=Lib.hid ((hb2.block w.heap.size (Array.getElem?_eq_some_iff.1 Y1.out).1).trans Y1.out);clear hb2 o0 o1 o2 o3 o4 o5 o6 o7 o8 o9 o10;obtain ⟨o0,o1,o2,o3,o4,o5,o6,o7,o8,o9,o10⟩:=op_cells Y2.out;rw [hkI.out] at o0;rw [hpn] at o1)) | (go_at_call 200;(refine (hpar.out _ B2.out).mono ?_;rintro e w3 ⟨rfl,⟨j1,rfl⟩,hi⟩;clear hi)) | (go_at_call 108;(refine (hsq.out _ (by first | exact B2.out | exact draws B2.out _)).mono ?_;rintro e w3 ⟨rfl,j1,rfl⟩)))
    go_wp2_with fail
    go_ret3
    exact .inr ⟨v,xs,hr1,by rw [hv.out] <;> rfl,own_mono (Top.own_kept (w':=_) R3.out fun k _ h2=>rfl) z4'.out.size,by first | exact B2.out | exact draws B2.out _⟩
  | true =>
    by_cases j1:d < i
    · skip
      have hv:=Lib.hid (show gapV (chV o) p i first = wrap64 (i - 1) by rw [hv1.out,hG1.out];simp [IntWalk.i64_left,j1])
      clear hG1 hv1
      go_enter Try.func204,Try.ntmps204
      go_upto_region 11 with (first | (go_at_call 190;(rw [← hW2];refine hnd.out.mono ?_;rintro e w1 (⟨hr1,rfl,hb1⟩ | ⟨v,xs,hr1,rfl,hr3,hb1⟩);(exfalso;obtain ⟨xs,hx⟩:=hs;rw [hr1] at hx;cases hx);have B1:=Lib.hid (z4'.out.trans (hb1.mono z4'.out.size));have S1:=Lib.hid hb1.size;have Y1:=Lib.hid ((hb1.block w.heap.size (by have:=z5'.out;omega)).trans z1'.out);clear hb1 o0 o1 o2 o3 o4 o5 o6 o7 o8 o9 o10;obtain ⟨o0,o1,o2,o3,o4,o5,o6,o7,o8,o9,o10⟩:=op_cells Y1.out;rw [hkI.out] at o0;rw [hpn] at o1)) | (go_at_call 199;(refine (hmv.out _ B1.out).mono ?_;rintro e w2 ⟨rfl,hb2⟩;have B2:=Lib.hid (B1.out.trans (hb2.mono B1.out.size));have R3:=Lib.hid (Top.own_kept hr3 fun k _ h2=>hb2.block k h2);have Y2:=Lib.hid ((hb2.block w.heap.size (Array.getElem?_eq_some_iff.1 Y1.out).1).trans Y1.out);clear hb2 o0 o1 o2 o3 o4 o5 o6 o7 o8 o9 o10;obtain ⟨o0,o1,o2,o3,o4,o5,o6,o7,o8,o9,o10⟩:=op_cells Y2.out;rw [hkI.out] at o0;rw [hpn] at o1)) | (go_at_call 200;(refine (hpar.out _ B2.out).mono ?_;rintro e w3 ⟨rfl,⟨j1,rfl⟩,hi⟩;clear hi)) | (go_at_call 108;(refine (hsq.out _ (by first | exact B2.out | exact draws B2.out _)).mono ?_;rintro e w3 ⟨rfl,j1,rfl⟩)))
      go_wp2_with fail
      go_ret3
      exact .inr ⟨v,xs,hr1,by rw [hv.out] <;> rfl,own_mono (Top.own_kept (w':=_) R3.out fun k _ h2=>rfl) z4'.out.size,by first | exact B2.out | exact draws B2.out _⟩
    · skip
      have hv:=Lib.hid (show gapV (chV o) p i first = i by rw [hv1.out,hG1.out];simp [IntWalk.i64_left,j1])
      clear hG1 hv1
      go_enter Try.func204,Try.ntmps204
      go_upto_region 11 with (first | (go_at_call 190;(rw [← hW2];refine hnd.out.mono ?_;rintro e w1 (⟨hr1,rfl,hb1⟩ | ⟨v,xs,hr1,rfl,hr3,hb1⟩);(exfalso;obtain ⟨xs,hx⟩:=hs;rw [hr1] at hx;cases hx);have B1:=Lib.hid (z4'.out.trans (hb1.mono z4'.out.size));have S1:=Lib.hid hb1.size;have Y1:=Lib.hid ((hb1.block w.heap.size (by have:=z5'.out;omega)).trans z1'.out);clear hb1 o0 o1 o2 o3 o4 o5 o6 o7 o8 o9 o10;obtain ⟨o0,o1,o2,o3,o4,o5,o6,o7,o8,o9,o10⟩:=op_cells Y1.out;rw [hkI.out] at o0;rw [hpn] at o1)) | (go_at_call 199;(refine (hmv.out _ B1.out).mono ?_;rintro e w2 ⟨rfl,hb2⟩;have B2:=Lib.hid (B1.out.trans (hb2.mono B1.out.size));have R3:=Lib.hid (Top.own_kept hr3 fun k _ h2=>hb2.block k h2);have Y2:=Lib.hid ((hb2.block w.heap.size (Array.getElem?_eq_some_iff.1 Y1.out).1).trans Y1.out);clear hb2 o0 o1 o2 o3 o4 o5 o6 o7 o8 o9 o10;obtain ⟨o0,o1,o2,o3,o4,o5,o6,o7,o8,o9,o10⟩:=op_cells Y2.out;rw [hkI.out] at o0;rw [hpn] at o1)) | (go_at_call 200;(refine (hpar.out _ B2.out).mono ?_;rintro e w3 ⟨rfl,⟨j1,rfl⟩,hi⟩;clear hi)) | (go_at_call 108;(refine (hsq.out _ (by first | exact B2.out | exact draws B2.out _)).mono ?_;rintro e w3 ⟨rfl,j1,rfl⟩)))
      go_wp2_with fail
      go_ret3
      exact .inr ⟨v,xs,hr1,by rw [hv.out] <;> rfl,own_mono (Top.own_kept (w':=_) R3.out fun k _ h2=>rfl) z4'.out.size,by first | exact B2.out | exact draws B2.out _⟩
set_option maxHeartbeats 16000000 in
theorem rgap_move (w:World) (o:Ov) (s:OS) (A:Option Addr) (n cp:Nat) (p:List Int) (i:Int) (first:Bool) (hm:movesV o = true) (hk:o.kind = 3) (r:List Int) (d:Int) (hr:o.path = r ++ [d]) (hw:P4.withinV o.path o.to_ = false) (hs:∃ xs,nodeV (chV o) p = some xs) (hl:Slen o) (ho:OpIn w o s) (hA:Its w A n p) (hn:n≤cp) (hcp:cp≤maxLen) (hnil:A = none→cp = 0) (hfew:n≤400000):Calls Try.prog 204 #[.agg (opCells o s),.slice A n cp,.int .i64 i,.bool first] w (GapA w (nodeV (chV o) p) (gapV (chV o) p i first)):=by
  obtain ⟨W2,hW2⟩:∃ W2,W2 = w.alloc (.cells (opCells o s) 52):=⟨_,rfl⟩
  have z1:W2.heap[w.heap.size]? = some (.cells (opCells o s) 52 (0,0)):=by rw [hW2];exact heap_alloc_new w _
  have z4':=Lib.hid (show Below w.heap.size w W2 by rw [hW2];exact (Below.refl _ _).alloc (Nat.le_refl _) _)
  have z5':=Lib.hid (show W2.heap.size = w.heap.size + 1 by rw [hW2];simp)
  have z1':=Lib.hid z1
  have hnd:=Lib.hid (rNode_any W2 o s A n cp p (ho.below z4'.out) hl (hA.below z4'.out) hn hcp hnil hfew)
  have hmv:=Lib.hid (fun (W:World) (hb:Below w.heap.size w W)=>rmoves_any W o s (ho.below hb))
  simp only [hm] at hmv
  obtain ⟨V,hV⟩:∃ V,V = nodeV (chV o) p:=⟨_,rfl⟩
  rw [← hV] at hnd ⊢
  rw [← hV] at hs
  have hkI:=Lib.hid (show (o.kind:Int) = 3 by omega)
  obtain ⟨G,hG⟩:∃ G,G = gapV (chV o) p i first:=⟨_,rfl⟩
  rw [ch_three (formed_of hm) hk hr hw] at hG
  have hpn:s.pn = r.length + 1:=by have h1:=ho.path.1;rw [hr] at h1;simp at h1;omega
  have hpar:=Lib.hid (fun (W:World) (hb:Below w.heap.size w W)=>rparent_any W s.pA r.length s.pc r d (by have h:=(ho.below hb).path;rw [hr,hpn] at h;exact h) (by have:=ho.pnc;omega) ho.pcm)
  have hsq:=Lib.hid (fun (W:World) (hb:Below w.heap.size w W)=>rsame_its W s.pA A r.length s.pc n cp r p (by
    have h:=P4.Its.upto (its4 (ho.below hb).path) (q:=r.length) (by omega)
    rw [hr,List.take_append_of_le_length (Nat.le_refl _),List.take_of_length_le (Nat.le_refl _)] at h
    exact h) (hA.below hb) (Nat.le_trans (show r.length≤s.pc by have:=ho.pnc;omega) ho.pcm) (Nat.le_trans hn hcp))
  obtain ⟨b1,hb1⟩:∃ b,b = P4.eqV r p:=⟨_,rfl⟩
  rw [← hb1] at hsq
  obtain ⟨m,hm9⟩:∃ m,m = r.length:=⟨_,rfl⟩
  rw [← hm9] at hpn hsq hpar
  clear hm9
  have hst:=Lib.hid (fun (W:World) (hb:Below w.heap.size w W)=>rsame_its W s.tA A s.tn s.tc n cp o.to_ p (ho.below hb).to_ (hA.below hb) (Nat.le_trans ho.tnc ho.tcm) (Nat.le_trans hn hcp))
  obtain ⟨b2,hb2⟩:∃ b,b = P4.eqV o.to_ p:=⟨_,rfl⟩
  rw [← hb2] at hst
  have hG1:=Lib.hid (show G = if (b2 && (decide (i > o.at_) || ((i == o.at_) && !first))) = true then IntKind.i64.wrap ((if (decide (i > d) && b1) = true then IntKind.i64.wrap (i - 1) else i) + 1) else (if (decide (i > d) && b1) = true then IntKind.i64.wrap (i - 1) else i) by rw [hG,hb2,hb1,eqV_comm o.to_ p,eqV_comm r p];rfl)
  obtain ⟨o0,o1,o2,o3,o4,o5,o6,o7,o8,o9,o10⟩:=op_cells z1
  rw [hpn] at o1
  rw [hW2] at o0 o1 o2 o3 o4 o5 o6 o7 o8 o9 o10
  rw [hkI.out] at o0
  have hv0:gapV (chV o) p i first = G:=by rw [ch_three (formed_of hm) hk hr hw];exact hG.symm
  have hv1:=Lib.hid hv0
  unfold opCells at hW2 hmv hnd
  unfold opCells
  rw [hkI.out] at hW2 hmv hnd ⊢
  rw [hpn] at hW2 hmv hnd ⊢
  clear ho z1 hm hA hk hl hV hv0 hG hb1 hb2
  cases b1 with
  | false =>
    cases b2 with
    | false =>
      have hv:=Lib.hid (show gapV (chV o) p i first = i by rw [hv1.out,hG1.out];simp [IntWalk.i64_left,Bool.and_false])
      clear hG1 hv1
      go_enter Try.func204,Try.ntmps204
      go_upto_region 11 with (first | (go_at_call 190;(rw [← hW2];refine hnd.out.mono ?_;rintro e w1 (⟨hr1,rfl,hb1⟩ | ⟨v,xs,hr1,rfl,hr3,hb1⟩);(exfalso;obtain ⟨xs,hx⟩:=hs;rw [hr1] at hx;cases hx);have B1:=Lib.hid (z4'.out.trans (hb1.mono z4'.out.size));have S1:=Lib.hid hb1.size;have Y1:=Lib.hid ((hb1.block w.heap.size (by have:=z5'.out;omega)).trans z1'.out);clear hb1 o0 o1 o2 o3 o4 o5 o6 o7 o8 o9 o10;obtain ⟨o0,o1,o2,o3,o4,o5,o6,o7,o8,o9,o10⟩:=op_cells Y1.out;rw [hkI.out] at o0;rw [hpn] at o1)) | (go_at_call 199;(refine (hmv.out _ B1.out).mono ?_;rintro e w2 ⟨rfl,hb2⟩;have B2:=Lib.hid (B1.out.trans (hb2.mono B1.out.size));have R3:=Lib.hid (Top.own_kept hr3 fun k _ h2=>hb2.block k h2);have Y2:=Lib.hid ((hb2.block w.heap.size (Array.getElem?_eq_some_iff.1 Y1.out).1).trans Y1.out);clear hb2 o0 o1 o2 o3 o4 o5 o6 o7 o8 o9 o10;obtain ⟨o0,o1,o2,o3,o4,o5,o6,o7,o8,o9,o10⟩:=op_cells Y2.out;rw [hkI.out] at o0;rw [hpn] at o1)) | (go_at_call 200;(refine (hpar.out _ B2.out).mono ?_;rintro e w3 ⟨rfl,⟨j1,rfl⟩,hi⟩;clear hi)) | (go_at_call 108;(refine (hsq.out _ (by first | exact B2.out | exact draws B2.out _)).mono ?_;rintro e w3 ⟨rfl,j1,rfl⟩)))
      go_wp2_with (first | (go_at_call 108;(refine (hst.out _ (by first | exact B2.out | exact draws B2.out _)).mono ?_;rintro e w3 ⟨rfl,j1,rfl⟩)))
      go_ret3
      exact .inr ⟨v,xs,hr1,by rw [hv.out] <;> rfl,own_mono (Top.own_kept (w':=_) R3.out fun k _ h2=>rfl) z4'.out.size,by first | exact B2.out | exact draws B2.out _⟩
    | true =>
      by_cases j2:o.at_ < i
      · skip
        have hv:=Lib.hid (show gapV (chV o) p i first = wrap64 (i + 1) by rw [hv1.out,hG1.out];simp [IntWalk.i64_left,Bool.and_false,j2])
        clear hG1 hv1
        go_enter Try.func204,Try.ntmps204
        go_upto_region 11 with (first | (go_at_call 190;(rw [← hW2];refine hnd.out.mono ?_;rintro e w1 (⟨hr1,rfl,hb1⟩ | ⟨v,xs,hr1,rfl,hr3,hb1⟩);(exfalso;obtain ⟨xs,hx⟩:=hs;rw [hr1] at hx;cases hx);have B1:=Lib.hid (z4'.out.trans (hb1.mono z4'.out.size));have S1:=Lib.hid hb1.size;have Y1:=Lib.hid ((hb1.block w.heap.size (by have:=z5'.out;omega)).trans z1'.out);clear hb1 o0 o1 o2 o3 o4 o5 o6 o7 o8 o9 o10;obtain ⟨o0,o1,o2,o3,o4,o5,o6,o7,o8,o9,o10⟩:=op_cells Y1.out;rw [hkI.out] at o0;rw [hpn] at o1)) | (go_at_call 199;(refine (hmv.out _ B1.out).mono ?_;rintro e w2 ⟨rfl,hb2⟩;have B2:=Lib.hid (B1.out.trans (hb2.mono B1.out.size));have R3:=Lib.hid (Top.own_kept hr3 fun k _ h2=>hb2.block k h2);have Y2:=Lib.hid ((hb2.block w.heap.size (Array.getElem?_eq_some_iff.1 Y1.out).1).trans Y1.out);clear hb2 o0 o1 o2 o3 o4 o5 o6 o7 o8 o9 o10;obtain ⟨o0,o1,o2,o3,o4,o5,o6,o7,o8,o9,o10⟩:=op_cells Y2.out;rw [hkI.out] at o0;rw [hpn] at o1)) | (go_at_call 200;(refine (hpar.out _ B2.out).mono ?_;rintro e w3 ⟨rfl,⟨j1,rfl⟩,hi⟩;clear hi)) | (go_at_call 108;(refine (hsq.out _ (by first | exact B2.out | exact draws B2.out _)).mono ?_;rintro e w3 ⟨rfl,j1,rfl⟩)))
        go_wp2_with (first | (go_at_call 108;(refine (hst.out _ (by first | exact B2.out | exact draws B2.out _)).mono ?_;rintro e w3 ⟨rfl,j1,rfl⟩)))
        go_ret3
        exact .inr ⟨v,xs,hr1,by rw [hv.out] <;> rfl,own_mono (Top.own_kept (w':=_) R3.out fun k _ h2=>rfl) z4'.out.size,by first | exact B2.out | exact draws B2.out _⟩
      · cases j3:(i == o.at_) with
        | false =>
          have hv:=Lib.hid (show gapV (chV o) p i first = i by rw [hv1.out,hG1.out];simp [IntWalk.i64_left,Bool.and_false,j2,j3])
          clear hG1 hv1
          go_enter Try.func204,Try.ntmps204
          go_upto_region 11 with (first | (go_at_call 190;(rw [← hW2];refine hnd.out.mono ?_;rintro e w1 (⟨hr1,rfl,hb1⟩ | ⟨v,xs,hr1,rfl,hr3,hb1⟩);(exfalso;obtain ⟨xs,hx⟩:=hs;rw [hr1] at hx;cases hx);have B1:=Lib.hid (z4'.out.trans (hb1.mono z4'.out.size));have S1:=Lib.hid hb1.size;have Y1:=Lib.hid ((hb1.block w.heap.size (by have:=z5'.out;omega)).trans z1'.out);clear hb1 o0 o1 o2 o3 o4 o5 o6 o7 o8 o9 o10;obtain ⟨o0,o1,o2,o3,o4,o5,o6,o7,o8,o9,o10⟩:=op_cells Y1.out;rw [hkI.out] at o0;rw [hpn] at o1)) | (go_at_call 199;(refine (hmv.out _ B1.out).mono ?_;rintro e w2 ⟨rfl,hb2⟩;have B2:=Lib.hid (B1.out.trans (hb2.mono B1.out.size));have R3:=Lib.hid (Top.own_kept hr3 fun k _ h2=>hb2.block k h2);have Y2:=Lib.hid ((hb2.block w.heap.size (Array.getElem?_eq_some_iff.1 Y1.out).1).trans Y1.out);clear hb2 o0 o1 o2 o3 o4 o5 o6 o7 o8 o9 o10;obtain ⟨o0,o1,o2,o3,o4,o5,o6,o7,o8,o9,o10⟩:=op_cells Y2.out;rw [hkI.out] at o0;rw [hpn] at o1)) | (go_at_call 200;(refine (hpar.out _ B2.out).mono ?_;rintro e w3 ⟨rfl,⟨j1,rfl⟩,hi⟩;clear hi)) | (go_at_call 108;(refine (hsq.out _ (by first | exact B2.out | exact draws B2.out _)).mono ?_;rintro e w3 ⟨rfl,j1,rfl⟩)))
          go_wp2_with (first | (go_at_call 108;(refine (hst.out _ (by first | exact B2.out | exact draws B2.out _)).mono ?_;rintro e w3 ⟨rfl,j1,rfl⟩)))
          go_ret3
          exact .inr ⟨v,xs,hr1,by rw [hv.out] <;> rfl,own_mono (Top.own_kept (w':=_) R3.out fun k _ h2=>rfl) z4'.out.size,by first | exact B2.out | exact draws B2.out _⟩
        | true =>
          cases first with
          | false =>
            have hv:=Lib.hid (show gapV (chV o) p i false = wrap64 (i + 1) by rw [hv1.out,hG1.out];simp [IntWalk.i64_left,Bool.and_false,j2,j3])
            clear hG1 hv1
            go_enter Try.func204,Try.ntmps204
            go_upto_region 11 with (first | (go_at_call 190;(rw [← hW2];refine hnd.out.mono ?_;rintro e w1 (⟨hr1,rfl,hb1⟩ | ⟨v,xs,hr1,rfl,hr3,hb1⟩);(exfalso;obtain ⟨xs,hx⟩:=hs;rw [hr1] at hx;cases hx);have B1:=Lib.hid (z4'.out.trans (hb1.mono z4'.out.size));have S1:=Lib.hid hb1.size;have Y1:=Lib.hid ((hb1.block w.heap.size (by have:=z5'.out;omega)).trans z1'.out);clear hb1 o0 o1 o2 o3 o4 o5 o6 o7 o8 o9 o10;obtain ⟨o0,o1,o2,o3,o4,o5,o6,o7,o8,o9,o10⟩:=op_cells Y1.out;rw [hkI.out] at o0;rw [hpn] at o1)) | (go_at_call 199;(refine (hmv.out _ B1.out).mono ?_;rintro e w2 ⟨rfl,hb2⟩;have B2:=Lib.hid (B1.out.trans (hb2.mono B1.out.size));have R3:=Lib.hid (Top.own_kept hr3 fun k _ h2=>hb2.block k h2);have Y2:=Lib.hid ((hb2.block w.heap.size (Array.getElem?_eq_some_iff.1 Y1.out).1).trans Y1.out);clear hb2 o0 o1 o2 o3 o4 o5 o6 o7 o8 o9 o10;obtain ⟨o0,o1,o2,o3,o4,o5,o6,o7,o8,o9,o10⟩:=op_cells Y2.out;rw [hkI.out] at o0;rw [hpn] at o1)) | (go_at_call 200;(refine (hpar.out _ B2.out).mono ?_;rintro e w3 ⟨rfl,⟨j1,rfl⟩,hi⟩;clear hi)) | (go_at_call 108;(refine (hsq.out _ (by first | exact B2.out | exact draws B2.out _)).mono ?_;rintro e w3 ⟨rfl,j1,rfl⟩)))
            go_wp2_with (first | (go_at_call 108;(refine (hst.out _ (by first | exact B2.out | exact draws B2.out _)).mono ?_;rintro e w3 ⟨rfl,j1,rfl⟩)))
            go_ret3
            exact .inr ⟨v,xs,hr1,by rw [hv.out] <;> rfl,own_mono (Top.own_kept (w':=_) R3.out fun k _ h2=>rfl) z4'.out.size,by first | exact B2.out | exact draws B2.out _⟩
          | true =>
            have hv:=Lib.hid (show gapV (chV o) p i true = i by rw [hv1.out,hG1.out];simp [IntWalk.i64_left,Bool.and_false,j2,j3])
            clear hG1 hv1
            go_enter Try.func204,Try.ntmps204
            go_upto_region 11 with (first | (go_at_call 190;(rw [← hW2];refine hnd.out.mono ?_;rintro e w1 (⟨hr1,rfl,hb1⟩ | ⟨v,xs,hr1,rfl,hr3,hb1⟩);(exfalso;obtain ⟨xs,hx⟩:=hs;rw [hr1] at hx;cases hx);have B1:=Lib.hid (z4'.out.trans (hb1.mono z4'.out.size));have S1:=Lib.hid hb1.size;have Y1:=Lib.hid ((hb1.block w.heap.size (by have:=z5'.out;omega)).trans z1'.out);clear hb1 o0 o1 o2 o3 o4 o5 o6 o7 o8 o9 o10;obtain ⟨o0,o1,o2,o3,o4,o5,o6,o7,o8,o9,o10⟩:=op_cells Y1.out;rw [hkI.out] at o0;rw [hpn] at o1)) | (go_at_call 199;(refine (hmv.out _ B1.out).mono ?_;rintro e w2 ⟨rfl,hb2⟩;have B2:=Lib.hid (B1.out.trans (hb2.mono B1.out.size));have R3:=Lib.hid (Top.own_kept hr3 fun k _ h2=>hb2.block k h2);have Y2:=Lib.hid ((hb2.block w.heap.size (Array.getElem?_eq_some_iff.1 Y1.out).1).trans Y1.out);clear hb2 o0 o1 o2 o3 o4 o5 o6 o7 o8 o9 o10;obtain ⟨o0,o1,o2,o3,o4,o5,o6,o7,o8,o9,o10⟩:=op_cells Y2.out;rw [hkI.out] at o0;rw [hpn] at o1)) | (go_at_call 200;(refine (hpar.out _ B2.out).mono ?_;rintro e w3 ⟨rfl,⟨j1,rfl⟩,hi⟩;clear hi)) | (go_at_call 108;(refine (hsq.out _ (by first | exact B2.out | exact draws B2.out _)).mono ?_;rintro e w3 ⟨rfl,j1,rfl⟩)))
            go_wp2_with (first | (go_at_call 108;(refine (hst.out _ (by first | exact B2.out | exact draws B2.out _)).mono ?_;rintro e w3 ⟨rfl,j1,rfl⟩)))
            go_ret3
            exact .inr ⟨v,xs,hr1,by rw [hv.out] <;> rfl,own_mono (Top.own_kept (w':=_) R3.out fun k _ h2=>rfl) z4'.out.size,by first | exact B2.out | exact draws B2.out _⟩
  | true =>
    by_cases j1:d < i
    · skip
      cases b2 with
      | false =>
        have hv:=Lib.hid (show gapV (chV o) p i first = wrap64 (i - 1) by rw [hv1.out,hG1.out];simp [IntWalk.i64_left,j1])
        clear hG1 hv1
        go_enter Try.func204,Try.ntmps204
        go_upto_region 11 with (first | (go_at_call 190;(rw [← hW2];refine hnd.out.mono ?_;rintro e w1 (⟨hr1,rfl,hb1⟩ | ⟨v,xs,hr1,rfl,hr3,hb1⟩);(exfalso;obtain ⟨xs,hx⟩:=hs;rw [hr1] at hx;cases hx);have B1:=Lib.hid (z4'.out.trans (hb1.mono z4'.out.size));have S1:=Lib.hid hb1.size;have Y1:=Lib.hid ((hb1.block w.heap.size (by have:=z5'.out;omega)).trans z1'.out);clear hb1 o0 o1 o2 o3 o4 o5 o6 o7 o8 o9 o10;obtain ⟨o0,o1,o2,o3,o4,o5,o6,o7,o8,o9,o10⟩:=op_cells Y1.out;rw [hkI.out] at o0;rw [hpn] at o1)) | (go_at_call 199;(refine (hmv.out _ B1.out).mono ?_;rintro e w2 ⟨rfl,hb2⟩;have B2:=Lib.hid (B1.out.trans (hb2.mono B1.out.size));have R3:=Lib.hid (Top.own_kept hr3 fun k _ h2=>hb2.block k h2);have Y2:=Lib.hid ((hb2.block w.heap.size (Array.getElem?_eq_some_iff.1 Y1.out).1).trans Y1.out);clear hb2 o0 o1 o2 o3 o4 o5 o6 o7 o8 o9 o10;obtain ⟨o0,o1,o2,o3,o4,o5,o6,o7,o8,o9,o10⟩:=op_cells Y2.out;rw [hkI.out] at o0;rw [hpn] at o1)) | (go_at_call 200;(refine (hpar.out _ B2.out).mono ?_;rintro e w3 ⟨rfl,⟨j1,rfl⟩,hi⟩;clear hi)) | (go_at_call 108;(refine (hsq.out _ (by first | exact B2.out | exact draws B2.out _)).mono ?_;rintro e w3 ⟨rfl,j1,rfl⟩)))
        go_wp2_with (first | (go_at_call 108;(refine (hst.out _ (by first | exact B2.out | exact draws B2.out _)).mono ?_;rintro e w3 ⟨rfl,j1,rfl⟩)))
        go_ret3
        exact .inr ⟨v,xs,hr1,by rw [hv.out] <;> rfl,own_mono (Top.own_kept (w':=_) R3.out fun k _ h2=>rfl) z4'.out.size,by first | exact B2.out | exact draws B2.out _⟩
      | true =>
        by_cases j2:o.at_ < i
        · skip
          have hv:=Lib.hid (show gapV (chV o) p i first = wrap64 (wrap64 (i - 1) + 1) by rw [hv1.out,hG1.out];simp [IntWalk.i64_left,j1,j2])
          clear hG1 hv1
          go_enter Try.func204,Try.ntmps204
          go_upto_region 11 with (first | (go_at_call 190;(rw [← hW2];refine hnd.out.mono ?_;rintro e w1 (⟨hr1,rfl,hb1⟩ | ⟨v,xs,hr1,rfl,hr3,hb1⟩);(exfalso;obtain ⟨xs,hx⟩:=hs;rw [hr1] at hx;cases hx);have B1:=Lib.hid (z4'.out.trans (hb1.mono z4'.out.size));have S1:=Lib.hid hb1.size;have Y1:=Lib.hid ((hb1.block w.heap.size (by have:=z5'.out;omega)).trans z1'.out);clear hb1 o0 o1 o2 o3 o4 o5 o6 o7 o8 o9 o10;obtain ⟨o0,o1,o2,o3,o4,o5,o6,o7,o8,o9,o10⟩:=op_cells Y1.out;rw [hkI.out] at o0;rw [hpn] at o1)) | (go_at_call 199;(refine (hmv.out _ B1.out).mono ?_;rintro e w2 ⟨rfl,hb2⟩;have B2:=Lib.hid (B1.out.trans (hb2.mono B1.out.size));have R3:=Lib.hid (Top.own_kept hr3 fun k _ h2=>hb2.block k h2);have Y2:=Lib.hid ((hb2.block w.heap.size (Array.getElem?_eq_some_iff.1 Y1.out).1).trans Y1.out);clear hb2 o0 o1 o2 o3 o4 o5 o6 o7 o8 o9 o10;obtain ⟨o0,o1,o2,o3,o4,o5,o6,o7,o8,o9,o10⟩:=op_cells Y2.out;rw [hkI.out] at o0;rw [hpn] at o1)) | (go_at_call 200;(refine (hpar.out _ B2.out).mono ?_;rintro e w3 ⟨rfl,⟨j1,rfl⟩,hi⟩;clear hi)) | (go_at_call 108;(refine (hsq.out _ (by first | exact B2.out | exact draws B2.out _)).mono ?_;rintro e w3 ⟨rfl,j1,rfl⟩)))
          go_wp2_with (first | (go_at_call 108;(refine (hst.out _ (by first | exact B2.out | exact draws B2.out _)).mono ?_;rintro e w3 ⟨rfl,j1,rfl⟩)))
          go_ret3
          exact .inr ⟨v,xs,hr1,by rw [hv.out] <;> rfl,own_mono (Top.own_kept (w':=_) R3.out fun k _ h2=>rfl) z4'.out.size,by first | exact B2.out | exact draws B2.out _⟩
        · cases j3:(i == o.at_) with
          | false =>
            have hv:=Lib.hid (show gapV (chV o) p i first = wrap64 (i - 1) by rw [hv1.out,hG1.out];simp [IntWalk.i64_left,j1,j2,j3])
            clear hG1 hv1
            go_enter Try.func204,Try.ntmps204
            go_upto_region 11 with (first | (go_at_call 190;(rw [← hW2];refine hnd.out.mono ?_;rintro e w1 (⟨hr1,rfl,hb1⟩ | ⟨v,xs,hr1,rfl,hr3,hb1⟩);(exfalso;obtain ⟨xs,hx⟩:=hs;rw [hr1] at hx;cases hx);have B1:=Lib.hid (z4'.out.trans (hb1.mono z4'.out.size));have S1:=Lib.hid hb1.size;have Y1:=Lib.hid ((hb1.block w.heap.size (by have:=z5'.out;omega)).trans z1'.out);clear hb1 o0 o1 o2 o3 o4 o5 o6 o7 o8 o9 o10;obtain ⟨o0,o1,o2,o3,o4,o5,o6,o7,o8,o9,o10⟩:=op_cells Y1.out;rw [hkI.out] at o0;rw [hpn] at o1)) | (go_at_call 199;(refine (hmv.out _ B1.out).mono ?_;rintro e w2 ⟨rfl,hb2⟩;have B2:=Lib.hid (B1.out.trans (hb2.mono B1.out.size));have R3:=Lib.hid (Top.own_kept hr3 fun k _ h2=>hb2.block k h2);have Y2:=Lib.hid ((hb2.block w.heap.size (Array.getElem?_eq_some_iff.1 Y1.out).1).trans Y1.out);clear hb2 o0 o1 o2 o3 o4 o5 o6 o7 o8 o9 o10;obtain ⟨o0,o1,o2,o3,o4,o5,o6,o7,o8,o9,o10⟩:=op_cells Y2.out;rw [hkI.out] at o0;rw [hpn] at o1)) | (go_at_call 200;(refine (hpar.out _ B2.out).mono ?_;rintro e w3 ⟨rfl,⟨j1,rfl⟩,hi⟩;clear hi)) | (go_at_call 108;(refine (hsq.out _ (by first | exact B2.out | exact draws B2.out _)).mono ?_;rintro e w3 ⟨rfl,j1,rfl⟩)))
            go_wp2_with (first | (go_at_call 108;(refine (hst.out _ (by first | exact B2.out | exact draws B2.out _)).mono ?_;rintro e w3 ⟨rfl,j1,rfl⟩)))
            go_ret3
            exact .inr ⟨v,xs,hr1,by rw [hv.out] <;> rfl,own_mono (Top.own_kept (w':=_) R3.out fun k _ h2=>rfl) z4'.out.size,by first | exact B2.out | exact draws B2.out _⟩
          | true =>
            cases first with
            | false =>
              have hv:=Lib.hid (show gapV (chV o) p i false = wrap64 (wrap64 (i - 1) + 1) by rw [hv1.out,hG1.out];simp [IntWalk.i64_left,j1,j2,j3])
              clear hG1 hv1
              go_enter Try.func204,Try.ntmps204
              go_upto_region 11 with (first | (go_at_call 190;(rw [← hW2];refine hnd.out.mono ?_;rintro e w1 (⟨hr1,rfl,hb1⟩ | ⟨v,xs,hr1,rfl,hr3,hb1⟩);(exfalso;obtain ⟨xs,hx⟩:=hs;rw [hr1] at hx;cases hx);have B1:=Lib.hid (z4'.out.trans (hb1.mono z4'.out.size));have S1:=Lib.hid hb1.size;have Y1:=Lib.hid ((hb1.block w.heap.size (by have:=z5'.out;omega)).trans z1'.out);clear hb1 o0 o1 o2 o3 o4 o5 o6 o7 o8 o9 o10;obtain ⟨o0,o1,o2,o3,o4,o5,o6,o7,o8,o9,o10⟩:=op_cells Y1.out;rw [hkI.out] at o0;rw [hpn] at o1)) | (go_at_call 199;(refine (hmv.out _ B1.out).mono ?_;rintro e w2 ⟨rfl,hb2⟩;have B2:=Lib.hid (B1.out.trans (hb2.mono B1.out.size));have R3:=Lib.hid (Top.own_kept hr3 fun k _ h2=>hb2.block k h2);have Y2:=Lib.hid ((hb2.block w.heap.size (Array.getElem?_eq_some_iff.1 Y1.out).1).trans Y1.out);clear hb2 o0 o1 o2 o3 o4 o5 o6 o7 o8 o9 o10;obtain ⟨o0,o1,o2,o3,o4,o5,o6,o7,o8,o9,o10⟩:=op_cells Y2.out;rw [hkI.out] at o0;rw [hpn] at o1)) | (go_at_call 200;(refine (hpar.out _ B2.out).mono ?_;rintro e w3 ⟨rfl,⟨j1,rfl⟩,hi⟩;clear hi)) | (go_at_call 108;(refine (hsq.out _ (by first | exact B2.out | exact draws B2.out _)).mono ?_;rintro e w3 ⟨rfl,j1,rfl⟩)))
              go_wp2_with (first | (go_at_call 108;(refine (hst.out _ (by first | exact B2.out | exact draws B2.out _)).mono ?_;rintro e w3 ⟨rfl,j1,rfl⟩)))
              go_ret3
              exact .inr ⟨v,xs,hr1,by rw [hv.out] <;> rfl,own_mono (Top.own_kept (w':=_) R3.out fun k _ h2=>rfl) z4'.out.size,by first | exact B2.out | exact draws B2.out _⟩
            | true =>
              have hv:=Lib.hid (show gapV (chV o) p i true = wrap64 (i - 1) by rw [hv1.out,hG1.out];simp [IntWalk.i64_left,j1,j2,j3])
              clear hG1 hv1
              go_enter Try.func204,Try.ntmps204
              go_upto_region 11 with (first | (go_at_call 190;(rw [← hW2];refine hnd.out.mono ?_;rintro e w1 (⟨hr1,rfl,hb1⟩ | ⟨v,xs,hr1,rfl,hr3,hb1⟩);(exfalso;obtain ⟨xs,hx⟩:=hs;rw [hr1] at hx;cases hx);have B1:=Lib.hid (z4'.out.trans (hb1.mono z4'.out.size));have S1:=Lib.hid hb1.size;have Y1:=Lib.hid ((hb1.block w.heap.size (by have:=z5'.out;omega)).trans z1'.out);clear hb1 o0 o1 o2 o3 o4 o5 o6 o7 o8 o9 o10;obtain ⟨o0,o1,o2,o3,o4,o5,o6,o7,o8,o9,o10⟩:=op_cells Y1.out;rw [hkI.out] at o0;rw [hpn] at o1)) | (go_at_call 199;(refine (hmv.out _ B1.out).mono ?_;rintro e w2 ⟨rfl,hb2⟩;have B2:=Lib.hid (B1.out.trans (hb2.mono B1.out.size));have R3:=Lib.hid (Top.own_kept hr3 fun k _ h2=>hb2.block k h2);have Y2:=Lib.hid ((hb2.block w.heap.size (Array.getElem?_eq_some_iff.1 Y1.out).1).trans Y1.out);clear hb2 o0 o1 o2 o3 o4 o5 o6 o7 o8 o9 o10;obtain ⟨o0,o1,o2,o3,o4,o5,o6,o7,o8,o9,o10⟩:=op_cells Y2.out;rw [hkI.out] at o0;rw [hpn] at o1)) | (go_at_call 200;(refine (hpar.out _ B2.out).mono ?_;rintro e w3 ⟨rfl,⟨j1,rfl⟩,hi⟩;clear hi)) | (go_at_call 108;(refine (hsq.out _ (by first | exact B2.out | exact draws B2.out _)).mono ?_;rintro e w3 ⟨rfl,j1,rfl⟩)))
              go_wp2_with (first | (go_at_call 108;(refine (hst.out _ (by first | exact B2.out | exact draws B2.out _)).mono ?_;rintro e w3 ⟨rfl,j1,rfl⟩)))
              go_ret3
              exact .inr ⟨v,xs,hr1,by rw [hv.out] <;> rfl,own_mono (Top.own_kept (w':=_) R3.out fun k _ h2=>rfl) z4'.out.size,by first | exact B2.out | exact draws B2.out _⟩
    · skip
      cases b2 with
      | false =>
        have hv:=Lib.hid (show gapV (chV o) p i first = i by rw [hv1.out,hG1.out];simp [IntWalk.i64_left,j1])
        clear hG1 hv1
        go_enter Try.func204,Try.ntmps204
        go_upto_region 11 with (first | (go_at_call 190;(rw [← hW2];refine hnd.out.mono ?_;rintro e w1 (⟨hr1,rfl,hb1⟩ | ⟨v,xs,hr1,rfl,hr3,hb1⟩);(exfalso;obtain ⟨xs,hx⟩:=hs;rw [hr1] at hx;cases hx);have B1:=Lib.hid (z4'.out.trans (hb1.mono z4'.out.size));have S1:=Lib.hid hb1.size;have Y1:=Lib.hid ((hb1.block w.heap.size (by have:=z5'.out;omega)).trans z1'.out);clear hb1 o0 o1 o2 o3 o4 o5 o6 o7 o8 o9 o10;obtain ⟨o0,o1,o2,o3,o4,o5,o6,o7,o8,o9,o10⟩:=op_cells Y1.out;rw [hkI.out] at o0;rw [hpn] at o1)) | (go_at_call 199;(refine (hmv.out _ B1.out).mono ?_;rintro e w2 ⟨rfl,hb2⟩;have B2:=Lib.hid (B1.out.trans (hb2.mono B1.out.size));have R3:=Lib.hid (Top.own_kept hr3 fun k _ h2=>hb2.block k h2);have Y2:=Lib.hid ((hb2.block w.heap.size (Array.getElem?_eq_some_iff.1 Y1.out).1).trans Y1.out);clear hb2 o0 o1 o2 o3 o4 o5 o6 o7 o8 o9 o10;obtain ⟨o0,o1,o2,o3,o4,o5,o6,o7,o8,o9,o10⟩:=op_cells Y2.out;rw [hkI.out] at o0;rw [hpn] at o1)) | (go_at_call 200;(refine (hpar.out _ B2.out).mono ?_;rintro e w3 ⟨rfl,⟨j1,rfl⟩,hi⟩;clear hi)) | (go_at_call 108;(refine (hsq.out _ (by first | exact B2.out | exact draws B2.out _)).mono ?_;rintro e w3 ⟨rfl,j1,rfl⟩)))
        go_wp2_with (first | (go_at_call 108;(refine (hst.out _ (by first | exact B2.out | exact draws B2.out _)).mono ?_;rintro e w3 ⟨rfl,j1,rfl⟩)))
        go_ret3
        exact .inr ⟨v,xs,hr1,by rw [hv.out] <;> rfl,own_mono (Top.own_kept (w':=_) R3.out fun k _ h2=>rfl) z4'.out.size,by first | exact B2.out | exact draws B2.out _⟩
      | true =>
        by_cases j2:o.at_ < i
        · skip
          have hv:=Lib.hid (show gapV (chV o) p i first = wrap64 (i + 1) by rw [hv1.out,hG1.out];simp [IntWalk.i64_left,j1,j2])
          clear hG1 hv1
          go_enter Try.func204,Try.ntmps204
          go_upto_region 11 with (first | (go_at_call 190;(rw [← hW2];refine hnd.out.mono ?_;rintro e w1 (⟨hr1,rfl,hb1⟩ | ⟨v,xs,hr1,rfl,hr3,hb1⟩);(exfalso;obtain ⟨xs,hx⟩:=hs;rw [hr1] at hx;cases hx);have B1:=Lib.hid (z4'.out.trans (hb1.mono z4'.out.size));have S1:=Lib.hid hb1.size;have Y1:=Lib.hid ((hb1.block w.heap.size (by have:=z5'.out;omega)).trans z1'.out);clear hb1 o0 o1 o2 o3 o4 o5 o6 o7 o8 o9 o10;obtain ⟨o0,o1,o2,o3,o4,o5,o6,o7,o8,o9,o10⟩:=op_cells Y1.out;rw [hkI.out] at o0;rw [hpn] at o1)) | (go_at_call 199;(refine (hmv.out _ B1.out).mono ?_;rintro e w2 ⟨rfl,hb2⟩;have B2:=Lib.hid (B1.out.trans (hb2.mono B1.out.size));have R3:=Lib.hid (Top.own_kept hr3 fun k _ h2=>hb2.block k h2);have Y2:=Lib.hid ((hb2.block w.heap.size (Array.getElem?_eq_some_iff.1 Y1.out).1).trans Y1.out);clear hb2 o0 o1 o2 o3 o4 o5 o6 o7 o8 o9 o10;obtain ⟨o0,o1,o2,o3,o4,o5,o6,o7,o8,o9,o10⟩:=op_cells Y2.out;rw [hkI.out] at o0;rw [hpn] at o1)) | (go_at_call 200;(refine (hpar.out _ B2.out).mono ?_;rintro e w3 ⟨rfl,⟨j1,rfl⟩,hi⟩;clear hi)) | (go_at_call 108;(refine (hsq.out _ (by first | exact B2.out | exact draws B2.out _)).mono ?_;rintro e w3 ⟨rfl,j1,rfl⟩)))
          go_wp2_with (first | (go_at_call 108;(refine (hst.out _ (by first | exact B2.out | exact draws B2.out _)).mono ?_;rintro e w3 ⟨rfl,j1,rfl⟩)))
          go_ret3
          exact .inr ⟨v,xs,hr1,by rw [hv.out] <;> rfl,own_mono (Top.own_kept (w':=_) R3.out fun k _ h2=>rfl) z4'.out.size,by first | exact B2.out | exact draws B2.out _⟩
        · cases j3:(i == o.at_) with
          | false =>
            have hv:=Lib.hid (show gapV (chV o) p i first = i by rw [hv1.out,hG1.out];simp [IntWalk.i64_left,j1,j2,j3])
            clear hG1 hv1
            go_enter Try.func204,Try.ntmps204
            go_upto_region 11 with (first | (go_at_call 190;(rw [← hW2];refine hnd.out.mono ?_;rintro e w1 (⟨hr1,rfl,hb1⟩ | ⟨v,xs,hr1,rfl,hr3,hb1⟩);(exfalso;obtain ⟨xs,hx⟩:=hs;rw [hr1] at hx;cases hx);have B1:=Lib.hid (z4'.out.trans (hb1.mono z4'.out.size));have S1:=Lib.hid hb1.size;have Y1:=Lib.hid ((hb1.block w.heap.size (by have:=z5'.out;omega)).trans z1'.out);clear hb1 o0 o1 o2 o3 o4 o5 o6 o7 o8 o9 o10;obtain ⟨o0,o1,o2,o3,o4,o5,o6,o7,o8,o9,o10⟩:=op_cells Y1.out;rw [hkI.out] at o0;rw [hpn] at o1)) | (go_at_call 199;(refine (hmv.out _ B1.out).mono ?_;rintro e w2 ⟨rfl,hb2⟩;have B2:=Lib.hid (B1.out.trans (hb2.mono B1.out.size));have R3:=Lib.hid (Top.own_kept hr3 fun k _ h2=>hb2.block k h2);have Y2:=Lib.hid ((hb2.block w.heap.size (Array.getElem?_eq_some_iff.1 Y1.out).1).trans Y1.out);clear hb2 o0 o1 o2 o3 o4 o5 o6 o7 o8 o9 o10;obtain ⟨o0,o1,o2,o3,o4,o5,o6,o7,o8,o9,o10⟩:=op_cells Y2.out;rw [hkI.out] at o0;rw [hpn] at o1)) | (go_at_call 200;(refine (hpar.out _ B2.out).mono ?_;rintro e w3 ⟨rfl,⟨j1,rfl⟩,hi⟩;clear hi)) | (go_at_call 108;(refine (hsq.out _ (by first | exact B2.out | exact draws B2.out _)).mono ?_;rintro e w3 ⟨rfl,j1,rfl⟩)))
            go_wp2_with (first | (go_at_call 108;(refine (hst.out _ (by first | exact B2.out | exact draws B2.out _)).mono ?_;rintro e w3 ⟨rfl,j1,rfl⟩)))
            go_ret3
            exact .inr ⟨v,xs,hr1,by rw [hv.out] <;> rfl,own_mono (Top.own_kept (w':=_) R3.out fun k _ h2=>rfl) z4'.out.size,by first | exact B2.out | exact draws B2.out _⟩
          | true =>
            cases first with
            | false =>
              have hv:=Lib.hid (show gapV (chV o) p i false = wrap64 (i + 1) by rw [hv1.out,hG1.out];simp [IntWalk.i64_left,j1,j2,j3])
              clear hG1 hv1
              go_enter Try.func204,Try.ntmps204
              go_upto_region 11 with (first | (go_at_call 190;(rw [← hW2];refine hnd.out.mono ?_;rintro e w1 (⟨hr1,rfl,hb1⟩ | ⟨v,xs,hr1,rfl,hr3,hb1⟩);(exfalso;obtain ⟨xs,hx⟩:=hs;rw [hr1] at hx;cases hx);have B1:=Lib.hid (z4'.out.trans (hb1.mono z4'.out.size));have S1:=Lib.hid hb1.size;have Y1:=Lib.hid ((hb1.block w.heap.size (by have:=z5'.out;omega)).trans z1'.out);clear hb1 o0 o1 o2 o3 o4 o5 o6 o7 o8 o9 o10;obtain ⟨o0,o1,o2,o3,o4,o5,o6,o7,o8,o9,o10⟩:=op_cells Y1.out;rw [hkI.out] at o0;rw [hpn] at o1)) | (go_at_call 199;(refine (hmv.out _ B1.out).mono ?_;rintro e w2 ⟨rfl,hb2⟩;have B2:=Lib.hid (B1.out.trans (hb2.mono B1.out.size));have R3:=Lib.hid (Top.own_kept hr3 fun k _ h2=>hb2.block k h2);have Y2:=Lib.hid ((hb2.block w.heap.size (Array.getElem?_eq_some_iff.1 Y1.out).1).trans Y1.out);clear hb2 o0 o1 o2 o3 o4 o5 o6 o7 o8 o9 o10;obtain ⟨o0,o1,o2,o3,o4,o5,o6,o7,o8,o9,o10⟩:=op_cells Y2.out;rw [hkI.out] at o0;rw [hpn] at o1)) | (go_at_call 200;(refine (hpar.out _ B2.out).mono ?_;rintro e w3 ⟨rfl,⟨j1,rfl⟩,hi⟩;clear hi)) | (go_at_call 108;(refine (hsq.out _ (by first | exact B2.out | exact draws B2.out _)).mono ?_;rintro e w3 ⟨rfl,j1,rfl⟩)))
              go_wp2_with (first | (go_at_call 108;(refine (hst.out _ (by first | exact B2.out | exact draws B2.out _)).mono ?_;rintro e w3 ⟨rfl,j1,rfl⟩)))
              go_ret3
              exact .inr ⟨v,xs,hr1,by rw [hv.out] <;> rfl,own_mono (Top.own_kept (w':=_) R3.out fun k _ h2=>rfl) z4'.out.size,by first | exact B2.out | exact draws B2.out _⟩
            | true =>
              have hv:=Lib.hid (show gapV (chV o) p i true = i by rw [hv1.out,hG1.out];simp [IntWalk.i64_left,j1,j2,j3])
              clear hG1 hv1
              go_enter Try.func204,Try.ntmps204
              go_upto_region 11 with (first | (go_at_call 190;(rw [← hW2];refine hnd.out.mono ?_;rintro e w1 (⟨hr1,rfl,hb1⟩ | ⟨v,xs,hr1,rfl,hr3,hb1⟩);(exfalso;obtain ⟨xs,hx⟩:=hs;rw [hr1] at hx;cases hx);have B1:=Lib.hid (z4'.out.trans (hb1.mono z4'.out.size));have S1:=Lib.hid hb1.size;have Y1:=Lib.hid ((hb1.block w.heap.size (by have:=z5'.out;omega)).trans z1'.out);clear hb1 o0 o1 o2 o3 o4 o5 o6 o7 o8 o9 o10;obtain ⟨o0,o1,o2,o3,o4,o5,o6,o7,o8,o9,o10⟩:=op_cells Y1.out;rw [hkI.out] at o0;rw [hpn] at o1)) | (go_at_call 199;(refine (hmv.out _ B1.out).mono ?_;rintro e w2 ⟨rfl,hb2⟩;have B2:=Lib.hid (B1.out.trans (hb2.mono B1.out.size));have R3:=Lib.hid (Top.own_kept hr3 fun k _ h2=>hb2.block k h2);have Y2:=Lib.hid ((hb2.block w.heap.size (Array.getElem?_eq_some_iff.1 Y1.out).1).trans Y1.out);clear hb2 o0 o1 o2 o3 o4 o5 o6 o7 o8 o9 o10;obtain ⟨o0,o1,o2,o3,o4,o5,o6,o7,o8,o9,o10⟩:=op_cells Y2.out;rw [hkI.out] at o0;rw [hpn] at o1)) | (go_at_call 200;(refine (hpar.out _ B2.out).mono ?_;rintro e w3 ⟨rfl,⟨j1,rfl⟩,hi⟩;clear hi)) | (go_at_call 108;(refine (hsq.out _ (by first | exact B2.out | exact draws B2.out _)).mono ?_;rintro e w3 ⟨rfl,j1,rfl⟩)))
              go_wp2_with (first | (go_at_call 108;(refine (hst.out _ (by first | exact B2.out | exact draws B2.out _)).mono ?_;rintro e w3 ⟨rfl,j1,rfl⟩)))
              go_ret3
              exact .inr ⟨v,xs,hr1,by rw [hv.out] <;> rfl,own_mono (Top.own_kept (w':=_) R3.out fun k _ h2=>rfl) z4'.out.size,by first | exact B2.out | exact draws B2.out _⟩
theorem rGap_any (w:World) (o:Ov) (s:OS) (A:Option Addr) (n cp:Nat) (p:List Int) (i:Int) (first:Bool) (hl:Slen o) (ho:OpIn w o s) (hA:Its w A n p) (hn:n≤cp) (hcp:cp≤maxLen) (hnil:A = none→cp = 0) (hfew:n≤400000):Calls Try.prog 204 #[.agg (opCells o s),.slice A n cp,.int .i64 i,.bool first] w (GapA w (nodeV (chV o) p) (gapV (chV o) p i first)):=by
  cases hn0:nodeV (chV o) p with
  | none=>rw [← hn0];exact rgap_gone w o s A n cp p i first hn0 hl ho hA hn hcp hnil hfew
  | some xs =>
    rw [← hn0]
    cases hm:movesV o with
    | false=>exact rgap_still w o s A n cp p i first hm ⟨xs,hn0⟩ hl ho hA hn hcp hnil hfew
    | true =>
      rcases move_kind hm with hk | ⟨hk,hpn⟩ | ⟨hk,hpn,hw⟩
      · exact rgap_ins w o s A n cp p i first hm hk ⟨xs,hn0⟩ hl ho hA hn hcp hnil hfew
      · obtain ⟨r,d,hr⟩:∃ r d,o.path = r ++ [d]:=by
          rcases snoc_cases o.path with h | h
          · exact absurd h hpn
          · exact h
        exact rgap_del w o s A n cp p i first hm hk r d hr ⟨xs,hn0⟩ hl ho hA hn hcp hnil hfew
      · obtain ⟨r,d,hr⟩:∃ r d,o.path = r ++ [d]:=by
          rcases snoc_cases o.path with h | h
          · exact absurd h hpn
          · exact h
        exact rgap_move w o s A n cp p i first hm hk r d hr hw ⟨xs,hn0⟩ hl ho hA hn hcp hnil hfew
end Go.Proofs.Ytidimannfemnmaa.Shf
namespace Go.Proofs.Ytidimannfemnmaa.Top
open Go.RowKit
set_option maxRecDepth 20000

theorem two_rows {w W3 w1 w2:World} {B:Nat} {o1 o2 o3:Obj} (z1:W3.heap[B]? = some o1) (z2:W3.heap[B + 1]? = some o2) (z3:W3.heap[B + 1 + 1]? = some o3) (z5:W3.heap.size = B + 1 + 1 + 1) (h1:Below W3.heap.size W3 w1) (h2:Below w1.heap.size w1 w2) :
    Below W3.heap.size W3 w2∧w2.heap[B]? = some o1∧w2.heap[B + 1]? = some o2∧w2.heap[B + 1 + 1]? = some o3:=by
  have h:=h1.trans (h2.mono h1.size)
  exact ⟨h,(h.block _ (by omega)).trans z1,(h.block _ (by omega)).trans z2,(h.block _ (by omega)).trans z3⟩
set_option maxHeartbeats 4000000 in
theorem rbare_k1 (w:World) (o:Ov) (s:OS) (ho:OpIn w o s) (hk:o.kind = 1) :Calls Try.prog 32 #[.agg (opCells o s)] w (BareA w (bareV o)):=by
  obtain ⟨z1,z2,z3,z4,z5⟩:=three_new w (.cells (opCells o s) 52) (.cells zero11 52) (.cells #[.int .u8 1,.slice none 0 0,.int .i64 0,.slice none 0 0,.int .u64 0,.bool false,.string ⟨#[]⟩,.string ⟨#[]⟩,.string ⟨#[]⟩,.bool false,.slice none 0 0] 52)
  obtain ⟨W3,hW3⟩:∃ W3,W3 = ((w.alloc (.cells (opCells o s) 52)).alloc (.cells zero11 52)).alloc (.cells #[.int .u8 1,.slice none 0 0,.int .i64 0,.slice none 0 0,.int .u64 0,.bool false,.string ⟨#[]⟩,.string ⟨#[]⟩,.string ⟨#[]⟩,.bool false,.slice none 0 0] 52):=⟨_,rfl⟩
  rw [← hW3] at z1 z2 z3 z4 z5
  have hkI:=Lib.hid (show (o.kind:Int) = 1 by omega)
  have ho':=Lib.hid ho
  have z1':=Lib.hid z1
  have z2':=Lib.hid z2
  have z3':=Lib.hid z3
  have z4':=Lib.hid z4
  have z5':=Lib.hid z5
  unfold opCells zero11 at hW3
  unfold opCells
  rw [hkI.out] at hW3 ⊢
  clear ho z1 z2 z3 z4 z5
  go_enter Try.func32,Try.ntmps32
  go_upto_region 3 with fail
  rw [← hW3]
  clear hW3
  have o1u:=z1'.out
  obtain ⟨o0,o1,o2,o3,o4,o5,o6,o7,o8,o9,o10⟩:=op_cells o1u
  clear o1u
  go_upto_region 4 with (at_builtin;(refine P4.wpList_append_its rfl _ (.tmp 11) rfl (w.heap.size + 1 + 1 + 1) (.slice none 0 0) [] o.path rfl (P4.OwnI.nil_ _ _) s.pA s.pn s.pc rfl (ho'.out.below z4'.out).path ho'.out.pnil (by have h7:=ho'.out.path.1;have h8:=ho'.out.pfew;simp only [List.length_nil];omega) (by have:=z5'.out;omega) ?_;intro v1 w1 ho1 hg1 hat1;have hb1:=P4.grown_nil hg1;have B1:=Lib.hid hb1;have V1:=Lib.hid ho1;obtain ⟨A1,n1,c1,rfl,-⟩:=P4.OwnI.shape ho1;have y1:=(hb1.block w.heap.size (by have:=z5'.out;omega)).trans z1'.out;clear o0 o1 o2 o3 o4 o5 o6 o7 o8 o9 o10 ho1 hg1 hat1 hb1;obtain ⟨o0,o1,o2,o3,o4,o5,o6,o7,o8,o9,o10⟩:=op_cells y1;clear y1))
  go_upto_region 5 with (at_builtin;(refine P4.wpList_append_its rfl _ (.tmp 15) rfl (w.heap.size + 1 + 1 + 1) (.slice none 0 0) [] o.to_ rfl (P4.OwnI.nil_ _ _) s.tA s.tn s.tc rfl (ho'.out.below (z4'.out.trans (B1.out.mono z4'.out.size))).to_ ho'.out.tnil (by have h7:=ho'.out.to_.1;have h8:=ho'.out.tfew;simp only [List.length_nil];omega) (by have:=z5'.out;have:=B1.out.size;omega) ?_;intro v2 w2 ho2 hg2 hat2;have hb2:=P4.grown_nil hg2;have B2:=Lib.hid hb2;have V2:=Lib.hid ho2;obtain ⟨A2,n2,c2,rfl,-⟩:=P4.OwnI.shape ho2;clear o0 o1 o2 o3 o4 o5 o6 o7 o8 o9 o10 ho2 hg2 hat2 hb2))
  obtain ⟨b3,y1,y2,y3⟩:=two_rows (w:=w) z1'.out z2'.out z3'.out z5'.out B1.out B2.out
  have B3:=Lib.hid b3
  have Y1:=Lib.hid y1
  have Y2:=Lib.hid y2
  have Y3:=Lib.hid y3
  have yw:=Lib.hid (z4'.out.trans (b3.mono z4'.out.size))
  obtain ⟨o0,o1,o2,o3,o4,o5,o6,o7,o8,o9,o10⟩:=op_cells y1
  obtain ⟨p0,p1,p2,p3,p4,p5,p6,p7,p8,p9,p10,pf⟩:=eleven_cells y3
  have hl3:w.heap.size + 1 + 1 < w2.heap.size:=(Array.getElem?_eq_some_iff.1 y3).1
  clear b3 y1 y2 y3
  go_upto_region 25 with fail
  clear o0 o1 o2 o3 o4 o5 o6 o7 o8 o9 o10 p0 p1 p2 p3 p4 p5 p6 p7 p8 p9 p10 pf
  obtain ⟨X,hX⟩:∃ X,X = ((((w2.setCell ⟨w.heap.size + 1 + 1,2,none⟩ (.int .i64 o.at_)).setCell ⟨w.heap.size + 1 + 1,4,none⟩ (.int .u64 (o.id:Int))).setCell ⟨w.heap.size + 1 + 1,5,none⟩ (.bool o.leaf)).setCell ⟨w.heap.size + 1 + 1,6,none⟩ (.string ⟨o.label.toArray⟩)):=⟨_,rfl⟩
  have x3:X.heap[w.heap.size + 1 + 1]? = some (.cells #[.int .u8 1,.slice none 0 0,.int .i64 o.at_,.slice none 0 0,.int .u64 (o.id:Int),.bool o.leaf,.string ⟨o.label.toArray⟩,.string ⟨#[]⟩,.string ⟨#[]⟩,.bool false,.slice none 0 0] 52 (0,0)):=by rw [hX];have e0:=heap_setCell_same _ _ 2 _ _ (.int .i64 o.at_) Y3.out;have e1:=heap_setCell_same _ _ 4 _ _ (.int .u64 (o.id:Int)) e0;have e2:=heap_setCell_same _ _ 5 _ _ (.bool o.leaf) e1;have e3:=heap_setCell_same _ _ 6 _ _ (.string ⟨o.label.toArray⟩) e2;rw [e3];simp
  have hk5:=Lib.hid (show ∀ k,k ≠ w.heap.size + 1 + 1→X.heap[k]? = w2.heap[k]? by intro k hk;rw [hX];repeat rw [heap_setCell_other _ _ k _ hk])
  have xw:=Lib.hid (show Below w.heap.size w X by rw [hX];exact ((((yw.out.setCell (p:=⟨w.heap.size + 1 + 1,2,none⟩) (by show w.heap.size≤w.heap.size + 1 + 1;omega) _).setCell (p:=⟨w.heap.size + 1 + 1,4,none⟩) (by show w.heap.size≤w.heap.size + 1 + 1;omega) _).setCell (p:=⟨w.heap.size + 1 + 1,5,none⟩) (by show w.heap.size≤w.heap.size + 1 + 1;omega) _).setCell (p:=⟨w.heap.size + 1 + 1,6,none⟩) (by show w.heap.size≤w.heap.size + 1 + 1;omega) _))
  have xz:=Lib.hid (show X.heap.size = w2.heap.size by rw [hX];simp)
  rw [← hX]
  clear hX
  obtain ⟨p0,p1,p2,p3,p4,p5,p6,p7,p8,p9,p10,pf⟩:=eleven_cells x3
  have X3:=Lib.hid x3
  have hlx:w.heap.size + 1 + 1 < X.heap.size:=(Array.getElem?_eq_some_iff.1 x3).1
  clear x3
  go_upto_region 26 with fail
  clear p0 p1 p2 p3 p4 p5 p6 p7 p8 p9 p10 pf
  obtain ⟨W5,hW5⟩:∃ W5,W5 = X.setCell ⟨w.heap.size + 1 + 1,1,none⟩ (.slice A1 n1 c1):=⟨_,rfl⟩
  have r3:W5.heap[w.heap.size + 1 + 1]? = some (.cells #[.int .u8 1,.slice A1 n1 c1,.int .i64 o.at_,.slice none 0 0,.int .u64 (o.id:Int),.bool o.leaf,.string ⟨o.label.toArray⟩,.string ⟨#[]⟩,.string ⟨#[]⟩,.bool false,.slice none 0 0] 52 (0,0)):=by rw [hW5,heap_setCell_same X _ 1 _ _ _ X3.out];simp
  have h5:=Lib.hid (show ∀ k,k ≠ w.heap.size + 1 + 1→W5.heap[k]? = w2.heap[k]? by intro k hk;rw [hW5];exact (heap_setCell_other _ _ k _ hk).trans (hk5.out k hk))
  have w5b:=Lib.hid (show Below w.heap.size w W5 by rw [hW5];exact xw.out.setCell (p:=⟨w.heap.size + 1 + 1,1,none⟩) (by show w.heap.size≤w.heap.size + 1 + 1;omega) _)
  rw [← hW5]
  clear hW5
  have r2:=(h5.out (w.heap.size + 1) (by omega)).trans Y2.out
  unfold zero11 at r2
  have r2h:=Lib.hid r2
  obtain ⟨p0,p1,p2,p3,p4,p5,p6,p7,p8,p9,p10,pf⟩:=eleven_cells r3
  obtain ⟨q0,q1,q2,q3,q4,q5,q6,q7,q8,q9,q10,qf⟩:=eleven_cells r2
  have hl2:w.heap.size + 1 < W5.heap.size:=(Array.getElem?_eq_some_iff.1 r2).1
  clear r2 r3
  go_wp2_with fail
  obtain ⟨W9,hW9,R9,B9,Z9,K9⟩:=end_op (o:=(⟨1,o.path,o.at_,[],o.id,o.leaf,o.label,[],[],false,[]⟩:Ov)) (s:=⟨A1,n1,c1,none,0,0,none,0,0⟩) (r:=w.heap.size + 1) (by omega) w5b.out r2h.out
  have hW9':W9 = (((((((((((W5.setCell ⟨w.heap.size + 1,0,none⟩ (.int .u8 1)).setCell ⟨w.heap.size + 1,1,none⟩ (.slice A1 n1 c1)).setCell ⟨w.heap.size + 1,2,none⟩ (.int .i64 o.at_)).setCell ⟨w.heap.size + 1,3,none⟩ (.slice none 0 0)).setCell ⟨w.heap.size + 1,4,none⟩ (.int .u64 (o.id:Int))).setCell ⟨w.heap.size + 1,5,none⟩ (.bool o.leaf)).setCell ⟨w.heap.size + 1,6,none⟩ (.string ⟨o.label.toArray⟩)).setCell ⟨w.heap.size + 1,7,none⟩ (.string ⟨#[]⟩)).setCell ⟨w.heap.size + 1,8,none⟩ (.string ⟨#[]⟩)).setCell ⟨w.heap.size + 1,9,none⟩ (.bool false)).setCell ⟨w.heap.size + 1,10,none⟩ (.slice none 0 0)):=hW9
  rw [← hW9']
  clear hW9' hW9
  unfold opCells at R9
  obtain ⟨d0,d1,d2,d3,d4,d5,d6,d7,d8,d9,d10,df⟩:=eleven_cells R9
  refine bodyPost_ret (v:=.agg (opCells (⟨1,o.path,o.at_,[],o.id,o.leaf,o.label,[],[],false,[]⟩:Ov) ⟨A1,n1,c1,none,0,0,none,0,0⟩)) (by simp [results,Try.results32,go_sem,d0,d1,d2,d3,d4,d5,d6,d7,d8,d9,d10,opCells]) rfl ?_
  have kk:∀ k,w.heap.size + 1 + 1 + 1≤k→W9.heap[k]? = w2.heap[k]?:=fun k hk=>(K9 k (by omega)).trans (h5.out k (by omega))
  rw [show bareV o = (⟨1,o.path,o.at_,[],o.id,o.leaf,o.label,[],[],false,[]⟩:Ov) by unfold bareV;simp [hk]]
  refine ⟨_,rfl,⟨own_mono (own_kept V1.out fun k h1 h2=>(kk k h1).trans (B2.out.block k h2)) (by omega),P4.OwnI.nil_ _ _,OwnQ.nil_ _ _⟩,B9⟩
set_option maxHeartbeats 4000000 in
theorem rbare_k2 (w:World) (o:Ov) (s:OS) (ho:OpIn w o s) (hk:o.kind = 2) :Calls Try.prog 32 #[.agg (opCells o s)] w (BareA w (bareV o)):=by
  obtain ⟨z1,z2,z3,z4,z5⟩:=three_new w (.cells (opCells o s) 52) (.cells zero11 52) (.cells #[.int .u8 2,.slice none 0 0,.int .i64 0,.slice none 0 0,.int .u64 0,.bool false,.string ⟨#[]⟩,.string ⟨#[]⟩,.string ⟨#[]⟩,.bool false,.slice none 0 0] 52)
  obtain ⟨W3,hW3⟩:∃ W3,W3 = ((w.alloc (.cells (opCells o s) 52)).alloc (.cells zero11 52)).alloc (.cells #[.int .u8 2,.slice none 0 0,.int .i64 0,.slice none 0 0,.int .u64 0,.bool false,.string ⟨#[]⟩,.string ⟨#[]⟩,.string ⟨#[]⟩,.bool false,.slice none 0 0] 52):=⟨_,rfl⟩
  rw [← hW3] at z1 z2 z3 z4 z5
  have hkI:=Lib.hid (show (o.kind:Int) = 2 by omega)
  have ho':=Lib.hid ho
  have z1':=Lib.hid z1
  have z2':=Lib.hid z2
  have z3':=Lib.hid z3
  have z4':=Lib.hid z4
  have z5':=Lib.hid z5
  unfold opCells zero11 at hW3
  unfold opCells
  rw [hkI.out] at hW3 ⊢
  clear ho z1 z2 z3 z4 z5
  go_enter Try.func32,Try.ntmps32
  go_upto_region 3 with fail
  rw [← hW3]
  clear hW3
  have o1u:=z1'.out
  obtain ⟨o0,o1,o2,o3,o4,o5,o6,o7,o8,o9,o10⟩:=op_cells o1u
  clear o1u
  go_upto_region 4 with (at_builtin;(refine P4.wpList_append_its rfl _ (.tmp 11) rfl (w.heap.size + 1 + 1 + 1) (.slice none 0 0) [] o.path rfl (P4.OwnI.nil_ _ _) s.pA s.pn s.pc rfl (ho'.out.below z4'.out).path ho'.out.pnil (by have h7:=ho'.out.path.1;have h8:=ho'.out.pfew;simp only [List.length_nil];omega) (by have:=z5'.out;omega) ?_;intro v1 w1 ho1 hg1 hat1;have hb1:=P4.grown_nil hg1;have B1:=Lib.hid hb1;have V1:=Lib.hid ho1;obtain ⟨A1,n1,c1,rfl,-⟩:=P4.OwnI.shape ho1;have y1:=(hb1.block w.heap.size (by have:=z5'.out;omega)).trans z1'.out;clear o0 o1 o2 o3 o4 o5 o6 o7 o8 o9 o10 ho1 hg1 hat1 hb1;obtain ⟨o0,o1,o2,o3,o4,o5,o6,o7,o8,o9,o10⟩:=op_cells y1;clear y1))
  go_upto_region 5 with (at_builtin;(refine P4.wpList_append_its rfl _ (.tmp 15) rfl (w.heap.size + 1 + 1 + 1) (.slice none 0 0) [] o.to_ rfl (P4.OwnI.nil_ _ _) s.tA s.tn s.tc rfl (ho'.out.below (z4'.out.trans (B1.out.mono z4'.out.size))).to_ ho'.out.tnil (by have h7:=ho'.out.to_.1;have h8:=ho'.out.tfew;simp only [List.length_nil];omega) (by have:=z5'.out;have:=B1.out.size;omega) ?_;intro v2 w2 ho2 hg2 hat2;have hb2:=P4.grown_nil hg2;have B2:=Lib.hid hb2;have V2:=Lib.hid ho2;obtain ⟨A2,n2,c2,rfl,-⟩:=P4.OwnI.shape ho2;clear o0 o1 o2 o3 o4 o5 o6 o7 o8 o9 o10 ho2 hg2 hat2 hb2))
  obtain ⟨b3,y1,y2,y3⟩:=two_rows (w:=w) z1'.out z2'.out z3'.out z5'.out B1.out B2.out
  have B3:=Lib.hid b3
  have Y1:=Lib.hid y1
  have Y2:=Lib.hid y2
  have Y3:=Lib.hid y3
  have yw:=Lib.hid (z4'.out.trans (b3.mono z4'.out.size))
  obtain ⟨o0,o1,o2,o3,o4,o5,o6,o7,o8,o9,o10⟩:=op_cells y1
  obtain ⟨p0,p1,p2,p3,p4,p5,p6,p7,p8,p9,p10,pf⟩:=eleven_cells y3
  have hl3:w.heap.size + 1 + 1 < w2.heap.size:=(Array.getElem?_eq_some_iff.1 y3).1
  clear b3 y1 y2 y3
  go_upto_region 25 with fail
  clear o0 o1 o2 o3 o4 o5 o6 o7 o8 o9 o10 p0 p1 p2 p3 p4 p5 p6 p7 p8 p9 p10 pf
  obtain ⟨X,hX⟩:∃ X,X = w2:=⟨_,rfl⟩
  have x3:X.heap[w.heap.size + 1 + 1]? = some (.cells #[.int .u8 2,.slice none 0 0,.int .i64 0,.slice none 0 0,.int .u64 0,.bool false,.string ⟨#[]⟩,.string ⟨#[]⟩,.string ⟨#[]⟩,.bool false,.slice none 0 0] 52 (0,0)):=by rw [hX];exact Y3.out
  have hk5:=Lib.hid (show ∀ k,k ≠ w.heap.size + 1 + 1→X.heap[k]? = w2.heap[k]? by intro k hk;rw [hX])
  have xw:=Lib.hid (show Below w.heap.size w X by rw [hX];exact yw.out)
  have xz:=Lib.hid (show X.heap.size = w2.heap.size by rw [hX])
  rw [← hX]
  clear hX
  obtain ⟨p0,p1,p2,p3,p4,p5,p6,p7,p8,p9,p10,pf⟩:=eleven_cells x3
  have X3:=Lib.hid x3
  have hlx:w.heap.size + 1 + 1 < X.heap.size:=(Array.getElem?_eq_some_iff.1 x3).1
  clear x3
  go_upto_region 26 with fail
  clear p0 p1 p2 p3 p4 p5 p6 p7 p8 p9 p10 pf
  obtain ⟨W5,hW5⟩:∃ W5,W5 = X.setCell ⟨w.heap.size + 1 + 1,1,none⟩ (.slice A1 n1 c1):=⟨_,rfl⟩
  have r3:W5.heap[w.heap.size + 1 + 1]? = some (.cells #[.int .u8 2,.slice A1 n1 c1,.int .i64 0,.slice none 0 0,.int .u64 0,.bool false,.string ⟨#[]⟩,.string ⟨#[]⟩,.string ⟨#[]⟩,.bool false,.slice none 0 0] 52 (0,0)):=by rw [hW5,heap_setCell_same X _ 1 _ _ _ X3.out];simp
  have h5:=Lib.hid (show ∀ k,k ≠ w.heap.size + 1 + 1→W5.heap[k]? = w2.heap[k]? by intro k hk;rw [hW5];exact (heap_setCell_other _ _ k _ hk).trans (hk5.out k hk))
  have w5b:=Lib.hid (show Below w.heap.size w W5 by rw [hW5];exact xw.out.setCell (p:=⟨w.heap.size + 1 + 1,1,none⟩) (by show w.heap.size≤w.heap.size + 1 + 1;omega) _)
  rw [← hW5]
  clear hW5
  have r2:=(h5.out (w.heap.size + 1) (by omega)).trans Y2.out
  unfold zero11 at r2
  have r2h:=Lib.hid r2
  obtain ⟨p0,p1,p2,p3,p4,p5,p6,p7,p8,p9,p10,pf⟩:=eleven_cells r3
  obtain ⟨q0,q1,q2,q3,q4,q5,q6,q7,q8,q9,q10,qf⟩:=eleven_cells r2
  have hl2:w.heap.size + 1 < W5.heap.size:=(Array.getElem?_eq_some_iff.1 r2).1
  clear r2 r3
  go_wp2_with fail
  obtain ⟨W9,hW9,R9,B9,Z9,K9⟩:=end_op (o:=(⟨2,o.path,0,[],0,false,[],[],[],false,[]⟩:Ov)) (s:=⟨A1,n1,c1,none,0,0,none,0,0⟩) (r:=w.heap.size + 1) (by omega) w5b.out r2h.out
  have hW9':W9 = (((((((((((W5.setCell ⟨w.heap.size + 1,0,none⟩ (.int .u8 2)).setCell ⟨w.heap.size + 1,1,none⟩ (.slice A1 n1 c1)).setCell ⟨w.heap.size + 1,2,none⟩ (.int .i64 0)).setCell ⟨w.heap.size + 1,3,none⟩ (.slice none 0 0)).setCell ⟨w.heap.size + 1,4,none⟩ (.int .u64 0)).setCell ⟨w.heap.size + 1,5,none⟩ (.bool false)).setCell ⟨w.heap.size + 1,6,none⟩ (.string ⟨#[]⟩)).setCell ⟨w.heap.size + 1,7,none⟩ (.string ⟨#[]⟩)).setCell ⟨w.heap.size + 1,8,none⟩ (.string ⟨#[]⟩)).setCell ⟨w.heap.size + 1,9,none⟩ (.bool false)).setCell ⟨w.heap.size + 1,10,none⟩ (.slice none 0 0)):=hW9
  rw [← hW9']
  clear hW9' hW9
  unfold opCells at R9
  obtain ⟨d0,d1,d2,d3,d4,d5,d6,d7,d8,d9,d10,df⟩:=eleven_cells R9
  refine bodyPost_ret (v:=.agg (opCells (⟨2,o.path,0,[],0,false,[],[],[],false,[]⟩:Ov) ⟨A1,n1,c1,none,0,0,none,0,0⟩)) (by simp [results,Try.results32,go_sem,d0,d1,d2,d3,d4,d5,d6,d7,d8,d9,d10,opCells]) rfl ?_
  have kk:∀ k,w.heap.size + 1 + 1 + 1≤k→W9.heap[k]? = w2.heap[k]?:=fun k hk=>(K9 k (by omega)).trans (h5.out k (by omega))
  rw [show bareV o = (⟨2,o.path,0,[],0,false,[],[],[],false,[]⟩:Ov) by unfold bareV;simp [hk]]
  refine ⟨_,rfl,⟨own_mono (own_kept V1.out fun k h1 h2=>(kk k h1).trans (B2.out.block k h2)) (by omega),P4.OwnI.nil_ _ _,OwnQ.nil_ _ _⟩,B9⟩
set_option maxHeartbeats 4000000 in
theorem rbare_k3 (w:World) (o:Ov) (s:OS) (ho:OpIn w o s) (hk:o.kind = 3) :Calls Try.prog 32 #[.agg (opCells o s)] w (BareA w (bareV o)):=by
  obtain ⟨z1,z2,z3,z4,z5⟩:=three_new w (.cells (opCells o s) 52) (.cells zero11 52) (.cells #[.int .u8 3,.slice none 0 0,.int .i64 0,.slice none 0 0,.int .u64 0,.bool false,.string ⟨#[]⟩,.string ⟨#[]⟩,.string ⟨#[]⟩,.bool false,.slice none 0 0] 52)
  obtain ⟨W3,hW3⟩:∃ W3,W3 = ((w.alloc (.cells (opCells o s) 52)).alloc (.cells zero11 52)).alloc (.cells #[.int .u8 3,.slice none 0 0,.int .i64 0,.slice none 0 0,.int .u64 0,.bool false,.string ⟨#[]⟩,.string ⟨#[]⟩,.string ⟨#[]⟩,.bool false,.slice none 0 0] 52):=⟨_,rfl⟩
  rw [← hW3] at z1 z2 z3 z4 z5
  have hkI:=Lib.hid (show (o.kind:Int) = 3 by omega)
  have ho':=Lib.hid ho
  have z1':=Lib.hid z1
  have z2':=Lib.hid z2
  have z3':=Lib.hid z3
  have z4':=Lib.hid z4
  have z5':=Lib.hid z5
  unfold opCells zero11 at hW3
  unfold opCells
  rw [hkI.out] at hW3 ⊢
  clear ho z1 z2 z3 z4 z5
  go_enter Try.func32,Try.ntmps32
  go_upto_region 3 with fail
  rw [← hW3]
  clear hW3
  have o1u:=z1'.out
  obtain ⟨o0,o1,o2,o3,o4,o5,o6,o7,o8,o9,o10⟩:=op_cells o1u
  clear o1u
  go_upto_region 4 with (at_builtin;(refine P4.wpList_append_its rfl _ (.tmp 11) rfl (w.heap.size + 1 + 1 + 1) (.slice none 0 0) [] o.path rfl (P4.OwnI.nil_ _ _) s.pA s.pn s.pc rfl (ho'.out.below z4'.out).path ho'.out.pnil (by have h7:=ho'.out.path.1;have h8:=ho'.out.pfew;simp only [List.length_nil];omega) (by have:=z5'.out;omega) ?_;intro v1 w1 ho1 hg1 hat1;have hb1:=P4.grown_nil hg1;have B1:=Lib.hid hb1;have V1:=Lib.hid ho1;obtain ⟨A1,n1,c1,rfl,-⟩:=P4.OwnI.shape ho1;have y1:=(hb1.block w.heap.size (by have:=z5'.out;omega)).trans z1'.out;clear o0 o1 o2 o3 o4 o5 o6 o7 o8 o9 o10 ho1 hg1 hat1 hb1;obtain ⟨o0,o1,o2,o3,o4,o5,o6,o7,o8,o9,o10⟩:=op_cells y1;clear y1))
  go_upto_region 5 with (at_builtin;(refine P4.wpList_append_its rfl _ (.tmp 15) rfl (w.heap.size + 1 + 1 + 1) (.slice none 0 0) [] o.to_ rfl (P4.OwnI.nil_ _ _) s.tA s.tn s.tc rfl (ho'.out.below (z4'.out.trans (B1.out.mono z4'.out.size))).to_ ho'.out.tnil (by have h7:=ho'.out.to_.1;have h8:=ho'.out.tfew;simp only [List.length_nil];omega) (by have:=z5'.out;have:=B1.out.size;omega) ?_;intro v2 w2 ho2 hg2 hat2;have hb2:=P4.grown_nil hg2;have B2:=Lib.hid hb2;have V2:=Lib.hid ho2;obtain ⟨A2,n2,c2,rfl,-⟩:=P4.OwnI.shape ho2;clear o0 o1 o2 o3 o4 o5 o6 o7 o8 o9 o10 ho2 hg2 hat2 hb2))
  obtain ⟨b3,y1,y2,y3⟩:=two_rows (w:=w) z1'.out z2'.out z3'.out z5'.out B1.out B2.out
  have B3:=Lib.hid b3
  have Y1:=Lib.hid y1
  have Y2:=Lib.hid y2
  have Y3:=Lib.hid y3
  have yw:=Lib.hid (z4'.out.trans (b3.mono z4'.out.size))
  obtain ⟨o0,o1,o2,o3,o4,o5,o6,o7,o8,o9,o10⟩:=op_cells y1
  obtain ⟨p0,p1,p2,p3,p4,p5,p6,p7,p8,p9,p10,pf⟩:=eleven_cells y3
  have hl3:w.heap.size + 1 + 1 < w2.heap.size:=(Array.getElem?_eq_some_iff.1 y3).1
  clear b3 y1 y2 y3
  go_upto_region 25 with fail
  clear o0 o1 o2 o3 o4 o5 o6 o7 o8 o9 o10 p0 p1 p2 p3 p4 p5 p6 p7 p8 p9 p10 pf
  obtain ⟨X,hX⟩:∃ X,X = ((w2.setCell ⟨w.heap.size + 1 + 1,2,none⟩ (.int .i64 o.at_)).setCell ⟨w.heap.size + 1 + 1,3,none⟩ (.slice A2 n2 c2)):=⟨_,rfl⟩
  have x3:X.heap[w.heap.size + 1 + 1]? = some (.cells #[.int .u8 3,.slice none 0 0,.int .i64 o.at_,.slice A2 n2 c2,.int .u64 0,.bool false,.string ⟨#[]⟩,.string ⟨#[]⟩,.string ⟨#[]⟩,.bool false,.slice none 0 0] 52 (0,0)):=by rw [hX];have e0:=heap_setCell_same _ _ 2 _ _ (.int .i64 o.at_) Y3.out;have e1:=heap_setCell_same _ _ 3 _ _ (.slice A2 n2 c2) e0;rw [e1];simp
  have hk5:=Lib.hid (show ∀ k,k ≠ w.heap.size + 1 + 1→X.heap[k]? = w2.heap[k]? by intro k hk;rw [hX];repeat rw [heap_setCell_other _ _ k _ hk])
  have xw:=Lib.hid (show Below w.heap.size w X by rw [hX];exact ((yw.out.setCell (p:=⟨w.heap.size + 1 + 1,2,none⟩) (by show w.heap.size≤w.heap.size + 1 + 1;omega) _).setCell (p:=⟨w.heap.size + 1 + 1,3,none⟩) (by show w.heap.size≤w.heap.size + 1 + 1;omega) _))
  have xz:=Lib.hid (show X.heap.size = w2.heap.size by rw [hX];simp)
  rw [← hX]
  clear hX
  obtain ⟨p0,p1,p2,p3,p4,p5,p6,p7,p8,p9,p10,pf⟩:=eleven_cells x3
  have X3:=Lib.hid x3
  have hlx:w.heap.size + 1 + 1 < X.heap.size:=(Array.getElem?_eq_some_iff.1 x3).1
  clear x3
  go_upto_region 26 with fail
  clear p0 p1 p2 p3 p4 p5 p6 p7 p8 p9 p10 pf
  obtain ⟨W5,hW5⟩:∃ W5,W5 = X.setCell ⟨w.heap.size + 1 + 1,1,none⟩ (.slice A1 n1 c1):=⟨_,rfl⟩
  have r3:W5.heap[w.heap.size + 1 + 1]? = some (.cells #[.int .u8 3,.slice A1 n1 c1,.int .i64 o.at_,.slice A2 n2 c2,.int .u64 0,.bool false,.string ⟨#[]⟩,.string ⟨#[]⟩,.string ⟨#[]⟩,.bool false,.slice none 0 0] 52 (0,0)):=by rw [hW5,heap_setCell_same X _ 1 _ _ _ X3.out];simp
  have h5:=Lib.hid (show ∀ k,k ≠ w.heap.size + 1 + 1→W5.heap[k]? = w2.heap[k]? by intro k hk;rw [hW5];exact (heap_setCell_other _ _ k _ hk).trans (hk5.out k hk))
  have w5b:=Lib.hid (show Below w.heap.size w W5 by rw [hW5];exact xw.out.setCell (p:=⟨w.heap.size + 1 + 1,1,none⟩) (by show w.heap.size≤w.heap.size + 1 + 1;omega) _)
  rw [← hW5]
  clear hW5
  have r2:=(h5.out (w.heap.size + 1) (by omega)).trans Y2.out
  unfold zero11 at r2
  have r2h:=Lib.hid r2
  obtain ⟨p0,p1,p2,p3,p4,p5,p6,p7,p8,p9,p10,pf⟩:=eleven_cells r3
  obtain ⟨q0,q1,q2,q3,q4,q5,q6,q7,q8,q9,q10,qf⟩:=eleven_cells r2
  have hl2:w.heap.size + 1 < W5.heap.size:=(Array.getElem?_eq_some_iff.1 r2).1
  clear r2 r3
  go_wp2_with fail
  obtain ⟨W9,hW9,R9,B9,Z9,K9⟩:=end_op (o:=(⟨3,o.path,o.at_,o.to_,0,false,[],[],[],false,[]⟩:Ov)) (s:=⟨A1,n1,c1,A2,n2,c2,none,0,0⟩) (r:=w.heap.size + 1) (by omega) w5b.out r2h.out
  have hW9':W9 = (((((((((((W5.setCell ⟨w.heap.size + 1,0,none⟩ (.int .u8 3)).setCell ⟨w.heap.size + 1,1,none⟩ (.slice A1 n1 c1)).setCell ⟨w.heap.size + 1,2,none⟩ (.int .i64 o.at_)).setCell ⟨w.heap.size + 1,3,none⟩ (.slice A2 n2 c2)).setCell ⟨w.heap.size + 1,4,none⟩ (.int .u64 0)).setCell ⟨w.heap.size + 1,5,none⟩ (.bool false)).setCell ⟨w.heap.size + 1,6,none⟩ (.string ⟨#[]⟩)).setCell ⟨w.heap.size + 1,7,none⟩ (.string ⟨#[]⟩)).setCell ⟨w.heap.size + 1,8,none⟩ (.string ⟨#[]⟩)).setCell ⟨w.heap.size + 1,9,none⟩ (.bool false)).setCell ⟨w.heap.size + 1,10,none⟩ (.slice none 0 0)):=hW9
  rw [← hW9']
  clear hW9' hW9
  unfold opCells at R9
  obtain ⟨d0,d1,d2,d3,d4,d5,d6,d7,d8,d9,d10,df⟩:=eleven_cells R9
  refine bodyPost_ret (v:=.agg (opCells (⟨3,o.path,o.at_,o.to_,0,false,[],[],[],false,[]⟩:Ov) ⟨A1,n1,c1,A2,n2,c2,none,0,0⟩)) (by simp [results,Try.results32,go_sem,d0,d1,d2,d3,d4,d5,d6,d7,d8,d9,d10,opCells]) rfl ?_
  have kk:∀ k,w.heap.size + 1 + 1 + 1≤k→W9.heap[k]? = w2.heap[k]?:=fun k hk=>(K9 k (by omega)).trans (h5.out k (by omega))
  rw [show bareV o = (⟨3,o.path,o.at_,o.to_,0,false,[],[],[],false,[]⟩:Ov) by unfold bareV;simp [hk]]
  refine ⟨_,rfl,⟨own_mono (own_kept V1.out fun k h1 h2=>(kk k h1).trans (B2.out.block k h2)) (by omega),own_mono (own_kept V2.out fun k h1 h2=>kk k h1) (by omega),OwnQ.nil_ _ _⟩,B9⟩
set_option maxHeartbeats 4000000 in
theorem rbare_k4 (w:World) (o:Ov) (s:OS) (ho:OpIn w o s) (hk:o.kind = 4) (hg:o.gone = false):Calls Try.prog 32 #[.agg (opCells o s)] w (BareA w (bareV o)):=by
  obtain ⟨z1,z2,z3,z4,z5⟩:=three_new w (.cells (opCells o s) 52) (.cells zero11 52) (.cells #[.int .u8 4,.slice none 0 0,.int .i64 0,.slice none 0 0,.int .u64 0,.bool false,.string ⟨#[]⟩,.string ⟨#[]⟩,.string ⟨#[]⟩,.bool false,.slice none 0 0] 52)
  obtain ⟨W3,hW3⟩:∃ W3,W3 = ((w.alloc (.cells (opCells o s) 52)).alloc (.cells zero11 52)).alloc (.cells #[.int .u8 4,.slice none 0 0,.int .i64 0,.slice none 0 0,.int .u64 0,.bool false,.string ⟨#[]⟩,.string ⟨#[]⟩,.string ⟨#[]⟩,.bool false,.slice none 0 0] 52):=⟨_,rfl⟩
  rw [← hW3] at z1 z2 z3 z4 z5
  have hkI:=Lib.hid (show (o.kind:Int) = 4 by omega)
  have hg':=Lib.hid hg
  have ho':=Lib.hid ho
  have z1':=Lib.hid z1
  have z2':=Lib.hid z2
  have z3':=Lib.hid z3
  have z4':=Lib.hid z4
  have z5':=Lib.hid z5
  unfold opCells zero11 at hW3
  unfold opCells
  rw [hkI.out,hg] at hW3 ⊢
  clear ho z1 z2 z3 z4 z5
  go_enter Try.func32,Try.ntmps32
  go_upto_region 3 with fail
  rw [← hW3]
  clear hW3
  have o1u:=z1'.out
  obtain ⟨o0,o1,o2,o3,o4,o5,o6,o7,o8,o9,o10⟩:=op_cells o1u
  clear o1u
  go_upto_region 4 with (at_builtin;(refine P4.wpList_append_its rfl _ (.tmp 11) rfl (w.heap.size + 1 + 1 + 1) (.slice none 0 0) [] o.path rfl (P4.OwnI.nil_ _ _) s.pA s.pn s.pc rfl (ho'.out.below z4'.out).path ho'.out.pnil (by have h7:=ho'.out.path.1;have h8:=ho'.out.pfew;simp only [List.length_nil];omega) (by have:=z5'.out;omega) ?_;intro v1 w1 ho1 hg1 hat1;have hb1:=P4.grown_nil hg1;have B1:=Lib.hid hb1;have V1:=Lib.hid ho1;obtain ⟨A1,n1,c1,rfl,-⟩:=P4.OwnI.shape ho1;have y1:=(hb1.block w.heap.size (by have:=z5'.out;omega)).trans z1'.out;clear o0 o1 o2 o3 o4 o5 o6 o7 o8 o9 o10 ho1 hg1 hat1 hb1;obtain ⟨o0,o1,o2,o3,o4,o5,o6,o7,o8,o9,o10⟩:=op_cells y1;clear y1))
  go_upto_region 5 with (at_builtin;(refine P4.wpList_append_its rfl _ (.tmp 15) rfl (w.heap.size + 1 + 1 + 1) (.slice none 0 0) [] o.to_ rfl (P4.OwnI.nil_ _ _) s.tA s.tn s.tc rfl (ho'.out.below (z4'.out.trans (B1.out.mono z4'.out.size))).to_ ho'.out.tnil (by have h7:=ho'.out.to_.1;have h8:=ho'.out.tfew;simp only [List.length_nil];omega) (by have:=z5'.out;have:=B1.out.size;omega) ?_;intro v2 w2 ho2 hg2 hat2;have hb2:=P4.grown_nil hg2;have B2:=Lib.hid hb2;have V2:=Lib.hid ho2;obtain ⟨A2,n2,c2,rfl,-⟩:=P4.OwnI.shape ho2;clear o0 o1 o2 o3 o4 o5 o6 o7 o8 o9 o10 ho2 hg2 hat2 hb2))
  obtain ⟨b3,y1,y2,y3⟩:=two_rows (w:=w) z1'.out z2'.out z3'.out z5'.out B1.out B2.out
  have B3:=Lib.hid b3
  have Y1:=Lib.hid y1
  have Y2:=Lib.hid y2
  have Y3:=Lib.hid y3
  have yw:=Lib.hid (z4'.out.trans (b3.mono z4'.out.size))
  obtain ⟨o0,o1,o2,o3,o4,o5,o6,o7,o8,o9,o10⟩:=op_cells y1
  obtain ⟨p0,p1,p2,p3,p4,p5,p6,p7,p8,p9,p10,pf⟩:=eleven_cells y3
  have hl3:w.heap.size + 1 + 1 < w2.heap.size:=(Array.getElem?_eq_some_iff.1 y3).1
  clear b3 y1 y2 y3
  go_upto_region 25 with fail
  clear o0 o1 o2 o3 o4 o5 o6 o7 o8 o9 o10 p0 p1 p2 p3 p4 p5 p6 p7 p8 p9 p10 pf
  obtain ⟨X,hX⟩:∃ X,X = (((w2.setCell ⟨w.heap.size + 1 + 1,7,none⟩ (.string ⟨o.key.toArray⟩)).setCell ⟨w.heap.size + 1 + 1,9,none⟩ (.bool false)).setCell ⟨w.heap.size + 1 + 1,8,none⟩ (.string ⟨o.value.toArray⟩)):=⟨_,rfl⟩
  have x3:X.heap[w.heap.size + 1 + 1]? = some (.cells #[.int .u8 4,.slice none 0 0,.int .i64 0,.slice none 0 0,.int .u64 0,.bool false,.string ⟨#[]⟩,.string ⟨o.key.toArray⟩,.string ⟨o.value.toArray⟩,.bool false,.slice none 0 0] 52 (0,0)):=by rw [hX];have e0:=heap_setCell_same _ _ 7 _ _ (.string ⟨o.key.toArray⟩) Y3.out;have e1:=heap_setCell_same _ _ 9 _ _ (.bool false) e0;have e2:=heap_setCell_same _ _ 8 _ _ (.string ⟨o.value.toArray⟩) e1;rw [e2];simp
  have hk5:=Lib.hid (show ∀ k,k ≠ w.heap.size + 1 + 1→X.heap[k]? = w2.heap[k]? by intro k hk;rw [hX];repeat rw [heap_setCell_other _ _ k _ hk])
  have xw:=Lib.hid (show Below w.heap.size w X by rw [hX];exact (((yw.out.setCell (p:=⟨w.heap.size + 1 + 1,7,none⟩) (by show w.heap.size≤w.heap.size + 1 + 1;omega) _).setCell (p:=⟨w.heap.size + 1 + 1,9,none⟩) (by show w.heap.size≤w.heap.size + 1 + 1;omega) _).setCell (p:=⟨w.heap.size + 1 + 1,8,none⟩) (by show w.heap.size≤w.heap.size + 1 + 1;omega) _))
  have xz:=Lib.hid (show X.heap.size = w2.heap.size by rw [hX];simp)
  rw [← hX]
  clear hX
  obtain ⟨p0,p1,p2,p3,p4,p5,p6,p7,p8,p9,p10,pf⟩:=eleven_cells x3
  have X3:=Lib.hid x3
  have hlx:w.heap.size + 1 + 1 < X.heap.size:=(Array.getElem?_eq_some_iff.1 x3).1
  clear x3
  go_upto_region 26 with fail
  clear p0 p1 p2 p3 p4 p5 p6 p7 p8 p9 p10 pf
  obtain ⟨W5,hW5⟩:∃ W5,W5 = X.setCell ⟨w.heap.size + 1 + 1,1,none⟩ (.slice A1 n1 c1):=⟨_,rfl⟩
  have r3:W5.heap[w.heap.size + 1 + 1]? = some (.cells #[.int .u8 4,.slice A1 n1 c1,.int .i64 0,.slice none 0 0,.int .u64 0,.bool false,.string ⟨#[]⟩,.string ⟨o.key.toArray⟩,.string ⟨o.value.toArray⟩,.bool false,.slice none 0 0] 52 (0,0)):=by rw [hW5,heap_setCell_same X _ 1 _ _ _ X3.out];simp
  have h5:=Lib.hid (show ∀ k,k ≠ w.heap.size + 1 + 1→W5.heap[k]? = w2.heap[k]? by intro k hk;rw [hW5];exact (heap_setCell_other _ _ k _ hk).trans (hk5.out k hk))
  have w5b:=Lib.hid (show Below w.heap.size w W5 by rw [hW5];exact xw.out.setCell (p:=⟨w.heap.size + 1 + 1,1,none⟩) (by show w.heap.size≤w.heap.size + 1 + 1;omega) _)
  rw [← hW5]
  clear hW5
  have r2:=(h5.out (w.heap.size + 1) (by omega)).trans Y2.out
  unfold zero11 at r2
  have r2h:=Lib.hid r2
  obtain ⟨p0,p1,p2,p3,p4,p5,p6,p7,p8,p9,p10,pf⟩:=eleven_cells r3
  obtain ⟨q0,q1,q2,q3,q4,q5,q6,q7,q8,q9,q10,qf⟩:=eleven_cells r2
  have hl2:w.heap.size + 1 < W5.heap.size:=(Array.getElem?_eq_some_iff.1 r2).1
  clear r2 r3
  go_wp2_with fail
  obtain ⟨W9,hW9,R9,B9,Z9,K9⟩:=end_op (o:=(⟨4,o.path,0,[],0,false,[],o.key,o.value,false,[]⟩:Ov)) (s:=⟨A1,n1,c1,none,0,0,none,0,0⟩) (r:=w.heap.size + 1) (by omega) w5b.out r2h.out
  have hW9':W9 = (((((((((((W5.setCell ⟨w.heap.size + 1,0,none⟩ (.int .u8 4)).setCell ⟨w.heap.size + 1,1,none⟩ (.slice A1 n1 c1)).setCell ⟨w.heap.size + 1,2,none⟩ (.int .i64 0)).setCell ⟨w.heap.size + 1,3,none⟩ (.slice none 0 0)).setCell ⟨w.heap.size + 1,4,none⟩ (.int .u64 0)).setCell ⟨w.heap.size + 1,5,none⟩ (.bool false)).setCell ⟨w.heap.size + 1,6,none⟩ (.string ⟨#[]⟩)).setCell ⟨w.heap.size + 1,7,none⟩ (.string ⟨o.key.toArray⟩)).setCell ⟨w.heap.size + 1,8,none⟩ (.string ⟨o.value.toArray⟩)).setCell ⟨w.heap.size + 1,9,none⟩ (.bool false)).setCell ⟨w.heap.size + 1,10,none⟩ (.slice none 0 0)):=hW9
  rw [← hW9']
  clear hW9' hW9
  unfold opCells at R9
  obtain ⟨d0,d1,d2,d3,d4,d5,d6,d7,d8,d9,d10,df⟩:=eleven_cells R9
  refine bodyPost_ret (v:=.agg (opCells (⟨4,o.path,0,[],0,false,[],o.key,o.value,false,[]⟩:Ov) ⟨A1,n1,c1,none,0,0,none,0,0⟩)) (by simp [results,Try.results32,go_sem,d0,d1,d2,d3,d4,d5,d6,d7,d8,d9,d10,opCells]) rfl ?_
  have kk:∀ k,w.heap.size + 1 + 1 + 1≤k→W9.heap[k]? = w2.heap[k]?:=fun k hk=>(K9 k (by omega)).trans (h5.out k (by omega))
  rw [show bareV o = (⟨4,o.path,0,[],0,false,[],o.key,o.value,false,[]⟩:Ov) by unfold bareV;simp [hk,hg]]
  refine ⟨_,rfl,⟨own_mono (own_kept V1.out fun k h1 h2=>(kk k h1).trans (B2.out.block k h2)) (by omega),P4.OwnI.nil_ _ _,OwnQ.nil_ _ _⟩,B9⟩
set_option maxHeartbeats 4000000 in
theorem rbare_k4g (w:World) (o:Ov) (s:OS) (ho:OpIn w o s) (hk:o.kind = 4) (hg:o.gone = true):Calls Try.prog 32 #[.agg (opCells o s)] w (BareA w (bareV o)):=by
  obtain ⟨z1,z2,z3,z4,z5⟩:=three_new w (.cells (opCells o s) 52) (.cells zero11 52) (.cells #[.int .u8 4,.slice none 0 0,.int .i64 0,.slice none 0 0,.int .u64 0,.bool false,.string ⟨#[]⟩,.string ⟨#[]⟩,.string ⟨#[]⟩,.bool false,.slice none 0 0] 52)
  obtain ⟨W3,hW3⟩:∃ W3,W3 = ((w.alloc (.cells (opCells o s) 52)).alloc (.cells zero11 52)).alloc (.cells #[.int .u8 4,.slice none 0 0,.int .i64 0,.slice none 0 0,.int .u64 0,.bool false,.string ⟨#[]⟩,.string ⟨#[]⟩,.string ⟨#[]⟩,.bool false,.slice none 0 0] 52):=⟨_,rfl⟩
  rw [← hW3] at z1 z2 z3 z4 z5
  have hkI:=Lib.hid (show (o.kind:Int) = 4 by omega)
  have hg':=Lib.hid hg
  have ho':=Lib.hid ho
  have z1':=Lib.hid z1
  have z2':=Lib.hid z2
  have z3':=Lib.hid z3
  have z4':=Lib.hid z4
  have z5':=Lib.hid z5
  unfold opCells zero11 at hW3
  unfold opCells
  rw [hkI.out,hg] at hW3 ⊢
  clear ho z1 z2 z3 z4 z5
  go_enter Try.func32,Try.ntmps32
  go_upto_region 3 with fail
  rw [← hW3]
  clear hW3
  have o1u:=z1'.out
  obtain ⟨o0,o1,o2,o3,o4,o5,o6,o7,o8,o9,o10⟩:=op_cells o1u
  clear o1u
  go_upto_region 4 with (at_builtin;(refine P4.wpList_append_its rfl _ (.tmp 11) rfl (w.heap.size + 1 + 1 + 1) (.slice none 0 0) [] o.path rfl (P4.OwnI.nil_ _ _) s.pA s.pn s.pc rfl (ho'.out.below z4'.out).path ho'.out.pnil (by have h7:=ho'.out.path.1;have h8:=ho'.out.pfew;simp only [List.length_nil];omega) (by have:=z5'.out;omega) ?_;intro v1 w1 ho1 hg1 hat1;have hb1:=P4.grown_nil hg1;have B1:=Lib.hid hb1;have V1:=Lib.hid ho1;obtain ⟨A1,n1,c1,rfl,-⟩:=P4.OwnI.shape ho1;have y1:=(hb1.block w.heap.size (by have:=z5'.out;omega)).trans z1'.out;clear o0 o1 o2 o3 o4 o5 o6 o7 o8 o9 o10 ho1 hg1 hat1 hb1;obtain ⟨o0,o1,o2,o3,o4,o5,o6,o7,o8,o9,o10⟩:=op_cells y1;clear y1))
  go_upto_region 5 with (at_builtin;(refine P4.wpList_append_its rfl _ (.tmp 15) rfl (w.heap.size + 1 + 1 + 1) (.slice none 0 0) [] o.to_ rfl (P4.OwnI.nil_ _ _) s.tA s.tn s.tc rfl (ho'.out.below (z4'.out.trans (B1.out.mono z4'.out.size))).to_ ho'.out.tnil (by have h7:=ho'.out.to_.1;have h8:=ho'.out.tfew;simp only [List.length_nil];omega) (by have:=z5'.out;have:=B1.out.size;omega) ?_;intro v2 w2 ho2 hg2 hat2;have hb2:=P4.grown_nil hg2;have B2:=Lib.hid hb2;have V2:=Lib.hid ho2;obtain ⟨A2,n2,c2,rfl,-⟩:=P4.OwnI.shape ho2;clear o0 o1 o2 o3 o4 o5 o6 o7 o8 o9 o10 ho2 hg2 hat2 hb2))
  obtain ⟨b3,y1,y2,y3⟩:=two_rows (w:=w) z1'.out z2'.out z3'.out z5'.out B1.out B2.out
  have B3:=Lib.hid b3
  have Y1:=Lib.hid y1
  have Y2:=Lib.hid y2
  have Y3:=Lib.hid y3
  have yw:=Lib.hid (z4'.out.trans (b3.mono z4'.out.size))
  obtain ⟨o0,o1,o2,o3,o4,o5,o6,o7,o8,o9,o10⟩:=op_cells y1
  obtain ⟨p0,p1,p2,p3,p4,p5,p6,p7,p8,p9,p10,pf⟩:=eleven_cells y3
  have hl3:w.heap.size + 1 + 1 < w2.heap.size:=(Array.getElem?_eq_some_iff.1 y3).1
  clear b3 y1 y2 y3
  go_upto_region 25 with fail
  clear o0 o1 o2 o3 o4 o5 o6 o7 o8 o9 o10 p0 p1 p2 p3 p4 p5 p6 p7 p8 p9 p10 pf
  obtain ⟨X,hX⟩:∃ X,X = ((w2.setCell ⟨w.heap.size + 1 + 1,7,none⟩ (.string ⟨o.key.toArray⟩)).setCell ⟨w.heap.size + 1 + 1,9,none⟩ (.bool true)):=⟨_,rfl⟩
  have x3:X.heap[w.heap.size + 1 + 1]? = some (.cells #[.int .u8 4,.slice none 0 0,.int .i64 0,.slice none 0 0,.int .u64 0,.bool false,.string ⟨#[]⟩,.string ⟨o.key.toArray⟩,.string ⟨#[]⟩,.bool true,.slice none 0 0] 52 (0,0)):=by rw [hX];have e0:=heap_setCell_same _ _ 7 _ _ (.string ⟨o.key.toArray⟩) Y3.out;have e1:=heap_setCell_same _ _ 9 _ _ (.bool true) e0;rw [e1];simp
  have hk5:=Lib.hid (show ∀ k,k ≠ w.heap.size + 1 + 1→X.heap[k]? = w2.heap[k]? by intro k hk;rw [hX];repeat rw [heap_setCell_other _ _ k _ hk])
  have xw:=Lib.hid (show Below w.heap.size w X by rw [hX];exact ((yw.out.setCell (p:=⟨w.heap.size + 1 + 1,7,none⟩) (by show w.heap.size≤w.heap.size + 1 + 1;omega) _).setCell (p:=⟨w.heap.size + 1 + 1,9,none⟩) (by show w.heap.size≤w.heap.size + 1 + 1;omega) _))
  have xz:=Lib.hid (show X.heap.size = w2.heap.size by rw [hX];simp)
  rw [← hX]
  clear hX
  obtain ⟨p0,p1,p2,p3,p4,p5,p6,p7,p8,p9,p10,pf⟩:=eleven_cells x3
  have X3:=Lib.hid x3
  have hlx:w.heap.size + 1 + 1 < X.heap.size:=(Array.getElem?_eq_some_iff.1 x3).1
  clear x3
  go_upto_region 26 with fail
  clear p0 p1 p2 p3 p4 p5 p6 p7 p8 p9 p10 pf
  obtain ⟨W5,hW5⟩:∃ W5,W5 = X.setCell ⟨w.heap.size + 1 + 1,1,none⟩ (.slice A1 n1 c1):=⟨_,rfl⟩
  have r3:W5.heap[w.heap.size + 1 + 1]? = some (.cells #[.int .u8 4,.slice A1 n1 c1,.int .i64 0,.slice none 0 0,.int .u64 0,.bool false,.string ⟨#[]⟩,.string ⟨o.key.toArray⟩,.string ⟨#[]⟩,.bool true,.slice none 0 0] 52 (0,0)):=by rw [hW5,heap_setCell_same X _ 1 _ _ _ X3.out];simp
  have h5:=Lib.hid (show ∀ k,k ≠ w.heap.size + 1 + 1→W5.heap[k]? = w2.heap[k]? by intro k hk;rw [hW5];exact (heap_setCell_other _ _ k _ hk).trans (hk5.out k hk))
  have w5b:=Lib.hid (show Below w.heap.size w W5 by rw [hW5];exact xw.out.setCell (p:=⟨w.heap.size + 1 + 1,1,none⟩) (by show w.heap.size≤w.heap.size + 1 + 1;omega) _)
  rw [← hW5]
  clear hW5
  have r2:=(h5.out (w.heap.size + 1) (by omega)).trans Y2.out
  unfold zero11 at r2
  have r2h:=Lib.hid r2
  obtain ⟨p0,p1,p2,p3,p4,p5,p6,p7,p8,p9,p10,pf⟩:=eleven_cells r3
  obtain ⟨q0,q1,q2,q3,q4,q5,q6,q7,q8,q9,q10,qf⟩:=eleven_cells r2
  have hl2:w.heap.size + 1 < W5.heap.size:=(Array.getElem?_eq_some_iff.1 r2).1
  clear r2 r3
  go_wp2_with fail
  obtain ⟨W9,hW9,R9,B9,Z9,K9⟩:=end_op (o:=(⟨4,o.path,0,[],0,false,[],o.key,[],true,[]⟩:Ov)) (s:=⟨A1,n1,c1,none,0,0,none,0,0⟩) (r:=w.heap.size + 1) (by omega) w5b.out r2h.out
  have hW9':W9 = (((((((((((W5.setCell ⟨w.heap.size + 1,0,none⟩ (.int .u8 4)).setCell ⟨w.heap.size + 1,1,none⟩ (.slice A1 n1 c1)).setCell ⟨w.heap.size + 1,2,none⟩ (.int .i64 0)).setCell ⟨w.heap.size + 1,3,none⟩ (.slice none 0 0)).setCell ⟨w.heap.size + 1,4,none⟩ (.int .u64 0)).setCell ⟨w.heap.size + 1,5,none⟩ (.bool false)).setCell ⟨w.heap.size + 1,6,none⟩ (.string ⟨#[]⟩)).setCell ⟨w.heap.size + 1,7,none⟩ (.string ⟨o.key.toArray⟩)).setCell ⟨w.heap.size + 1,8,none⟩ (.string ⟨#[]⟩)).setCell ⟨w.heap.size + 1,9,none⟩ (.bool true)).setCell ⟨w.heap.size + 1,10,none⟩ (.slice none 0 0)):=hW9
  rw [← hW9']
  clear hW9' hW9
  unfold opCells at R9
  obtain ⟨d0,d1,d2,d3,d4,d5,d6,d7,d8,d9,d10,df⟩:=eleven_cells R9
  refine bodyPost_ret (v:=.agg (opCells (⟨4,o.path,0,[],0,false,[],o.key,[],true,[]⟩:Ov) ⟨A1,n1,c1,none,0,0,none,0,0⟩)) (by simp [results,Try.results32,go_sem,d0,d1,d2,d3,d4,d5,d6,d7,d8,d9,d10,opCells]) rfl ?_
  have kk:∀ k,w.heap.size + 1 + 1 + 1≤k→W9.heap[k]? = w2.heap[k]?:=fun k hk=>(K9 k (by omega)).trans (h5.out k (by omega))
  rw [show bareV o = (⟨4,o.path,0,[],0,false,[],o.key,[],true,[]⟩:Ov) by unfold bareV;simp [hk,hg]]
  refine ⟨_,rfl,⟨own_mono (own_kept V1.out fun k h1 h2=>(kk k h1).trans (B2.out.block k h2)) (by omega),P4.OwnI.nil_ _ _,OwnQ.nil_ _ _⟩,B9⟩
set_option maxHeartbeats 4000000 in
theorem rbare_k5 (w:World) (o:Ov) (s:OS) (ho:OpIn w o s) (hk:o.kind = 5) :Calls Try.prog 32 #[.agg (opCells o s)] w (BareA w (bareV o)):=by
  obtain ⟨z1,z2,z3,z4,z5⟩:=three_new w (.cells (opCells o s) 52) (.cells zero11 52) (.cells #[.int .u8 5,.slice none 0 0,.int .i64 0,.slice none 0 0,.int .u64 0,.bool false,.string ⟨#[]⟩,.string ⟨#[]⟩,.string ⟨#[]⟩,.bool false,.slice none 0 0] 52)
  obtain ⟨W3,hW3⟩:∃ W3,W3 = ((w.alloc (.cells (opCells o s) 52)).alloc (.cells zero11 52)).alloc (.cells #[.int .u8 5,.slice none 0 0,.int .i64 0,.slice none 0 0,.int .u64 0,.bool false,.string ⟨#[]⟩,.string ⟨#[]⟩,.string ⟨#[]⟩,.bool false,.slice none 0 0] 52):=⟨_,rfl⟩
  rw [← hW3] at z1 z2 z3 z4 z5
  have hkI:=Lib.hid (show (o.kind:Int) = 5 by omega)
  have ho':=Lib.hid ho
  have z1':=Lib.hid z1
  have z2':=Lib.hid z2
  have z3':=Lib.hid z3
  have z4':=Lib.hid z4
  have z5':=Lib.hid z5
  unfold opCells zero11 at hW3
  unfold opCells
  rw [hkI.out] at hW3 ⊢
  clear ho z1 z2 z3 z4 z5
  go_enter Try.func32,Try.ntmps32
  go_upto_region 3 with fail
  rw [← hW3]
  clear hW3
  have o1u:=z1'.out
  obtain ⟨o0,o1,o2,o3,o4,o5,o6,o7,o8,o9,o10⟩:=op_cells o1u
  clear o1u
  go_upto_region 4 with (at_builtin;(refine P4.wpList_append_its rfl _ (.tmp 11) rfl (w.heap.size + 1 + 1 + 1) (.slice none 0 0) [] o.path rfl (P4.OwnI.nil_ _ _) s.pA s.pn s.pc rfl (ho'.out.below z4'.out).path ho'.out.pnil (by have h7:=ho'.out.path.1;have h8:=ho'.out.pfew;simp only [List.length_nil];omega) (by have:=z5'.out;omega) ?_;intro v1 w1 ho1 hg1 hat1;have hb1:=P4.grown_nil hg1;have B1:=Lib.hid hb1;have V1:=Lib.hid ho1;obtain ⟨A1,n1,c1,rfl,-⟩:=P4.OwnI.shape ho1;have y1:=(hb1.block w.heap.size (by have:=z5'.out;omega)).trans z1'.out;clear o0 o1 o2 o3 o4 o5 o6 o7 o8 o9 o10 ho1 hg1 hat1 hb1;obtain ⟨o0,o1,o2,o3,o4,o5,o6,o7,o8,o9,o10⟩:=op_cells y1;clear y1))
  go_upto_region 5 with (at_builtin;(refine P4.wpList_append_its rfl _ (.tmp 15) rfl (w.heap.size + 1 + 1 + 1) (.slice none 0 0) [] o.to_ rfl (P4.OwnI.nil_ _ _) s.tA s.tn s.tc rfl (ho'.out.below (z4'.out.trans (B1.out.mono z4'.out.size))).to_ ho'.out.tnil (by have h7:=ho'.out.to_.1;have h8:=ho'.out.tfew;simp only [List.length_nil];omega) (by have:=z5'.out;have:=B1.out.size;omega) ?_;intro v2 w2 ho2 hg2 hat2;have hb2:=P4.grown_nil hg2;have B2:=Lib.hid hb2;have V2:=Lib.hid ho2;obtain ⟨A2,n2,c2,rfl,-⟩:=P4.OwnI.shape ho2;clear o0 o1 o2 o3 o4 o5 o6 o7 o8 o9 o10 ho2 hg2 hat2 hb2))
  obtain ⟨b3,y1,y2,y3⟩:=two_rows (w:=w) z1'.out z2'.out z3'.out z5'.out B1.out B2.out
  have B3:=Lib.hid b3
  have Y1:=Lib.hid y1
  have Y2:=Lib.hid y2
  have Y3:=Lib.hid y3
  have yw:=Lib.hid (z4'.out.trans (b3.mono z4'.out.size))
  obtain ⟨o0,o1,o2,o3,o4,o5,o6,o7,o8,o9,o10⟩:=op_cells y1
  obtain ⟨p0,p1,p2,p3,p4,p5,p6,p7,p8,p9,p10,pf⟩:=eleven_cells y3
  have hl3:w.heap.size + 1 + 1 < w2.heap.size:=(Array.getElem?_eq_some_iff.1 y3).1
  clear b3 y1 y2 y3
  go_upto_region 25 with fail
  clear o0 o1 o2 o3 o4 o5 o6 o7 o8 o9 o10 p0 p1 p2 p3 p4 p5 p6 p7 p8 p9 p10 pf
  obtain ⟨X,hX⟩:∃ X,X = (w2.setCell ⟨w.heap.size + 1 + 1,6,none⟩ (.string ⟨o.label.toArray⟩)):=⟨_,rfl⟩
  have x3:X.heap[w.heap.size + 1 + 1]? = some (.cells #[.int .u8 5,.slice none 0 0,.int .i64 0,.slice none 0 0,.int .u64 0,.bool false,.string ⟨o.label.toArray⟩,.string ⟨#[]⟩,.string ⟨#[]⟩,.bool false,.slice none 0 0] 52 (0,0)):=by rw [hX];have e0:=heap_setCell_same _ _ 6 _ _ (.string ⟨o.label.toArray⟩) Y3.out;rw [e0];simp
  have hk5:=Lib.hid (show ∀ k,k ≠ w.heap.size + 1 + 1→X.heap[k]? = w2.heap[k]? by intro k hk;rw [hX];repeat rw [heap_setCell_other _ _ k _ hk])
  have xw:=Lib.hid (show Below w.heap.size w X by rw [hX];exact (yw.out.setCell (p:=⟨w.heap.size + 1 + 1,6,none⟩) (by show w.heap.size≤w.heap.size + 1 + 1;omega) _))
  have xz:=Lib.hid (show X.heap.size = w2.heap.size by rw [hX];simp)
  rw [← hX]
  clear hX
  obtain ⟨p0,p1,p2,p3,p4,p5,p6,p7,p8,p9,p10,pf⟩:=eleven_cells x3
  have X3:=Lib.hid x3
  have hlx:w.heap.size + 1 + 1 < X.heap.size:=(Array.getElem?_eq_some_iff.1 x3).1
  clear x3
  go_upto_region 26 with fail
  clear p0 p1 p2 p3 p4 p5 p6 p7 p8 p9 p10 pf
  obtain ⟨W5,hW5⟩:∃ W5,W5 = X.setCell ⟨w.heap.size + 1 + 1,1,none⟩ (.slice A1 n1 c1):=⟨_,rfl⟩
  have r3:W5.heap[w.heap.size + 1 + 1]? = some (.cells #[.int .u8 5,.slice A1 n1 c1,.int .i64 0,.slice none 0 0,.int .u64 0,.bool false,.string ⟨o.label.toArray⟩,.string ⟨#[]⟩,.string ⟨#[]⟩,.bool false,.slice none 0 0] 52 (0,0)):=by rw [hW5,heap_setCell_same X _ 1 _ _ _ X3.out];simp
  have h5:=Lib.hid (show ∀ k,k ≠ w.heap.size + 1 + 1→W5.heap[k]? = w2.heap[k]? by intro k hk;rw [hW5];exact (heap_setCell_other _ _ k _ hk).trans (hk5.out k hk))
  have w5b:=Lib.hid (show Below w.heap.size w W5 by rw [hW5];exact xw.out.setCell (p:=⟨w.heap.size + 1 + 1,1,none⟩) (by show w.heap.size≤w.heap.size + 1 + 1;omega) _)
  rw [← hW5]
  clear hW5
  have r2:=(h5.out (w.heap.size + 1) (by omega)).trans Y2.out
  unfold zero11 at r2
  have r2h:=Lib.hid r2
  obtain ⟨p0,p1,p2,p3,p4,p5,p6,p7,p8,p9,p10,pf⟩:=eleven_cells r3
  obtain ⟨q0,q1,q2,q3,q4,q5,q6,q7,q8,q9,q10,qf⟩:=eleven_cells r2
  have hl2:w.heap.size + 1 < W5.heap.size:=(Array.getElem?_eq_some_iff.1 r2).1
  clear r2 r3
  go_wp2_with fail
  obtain ⟨W9,hW9,R9,B9,Z9,K9⟩:=end_op (o:=(⟨5,o.path,0,[],0,false,o.label,[],[],false,[]⟩:Ov)) (s:=⟨A1,n1,c1,none,0,0,none,0,0⟩) (r:=w.heap.size + 1) (by omega) w5b.out r2h.out
  have hW9':W9 = (((((((((((W5.setCell ⟨w.heap.size + 1,0,none⟩ (.int .u8 5)).setCell ⟨w.heap.size + 1,1,none⟩ (.slice A1 n1 c1)).setCell ⟨w.heap.size + 1,2,none⟩ (.int .i64 0)).setCell ⟨w.heap.size + 1,3,none⟩ (.slice none 0 0)).setCell ⟨w.heap.size + 1,4,none⟩ (.int .u64 0)).setCell ⟨w.heap.size + 1,5,none⟩ (.bool false)).setCell ⟨w.heap.size + 1,6,none⟩ (.string ⟨o.label.toArray⟩)).setCell ⟨w.heap.size + 1,7,none⟩ (.string ⟨#[]⟩)).setCell ⟨w.heap.size + 1,8,none⟩ (.string ⟨#[]⟩)).setCell ⟨w.heap.size + 1,9,none⟩ (.bool false)).setCell ⟨w.heap.size + 1,10,none⟩ (.slice none 0 0)):=hW9
  rw [← hW9']
  clear hW9' hW9
  unfold opCells at R9
  obtain ⟨d0,d1,d2,d3,d4,d5,d6,d7,d8,d9,d10,df⟩:=eleven_cells R9
  refine bodyPost_ret (v:=.agg (opCells (⟨5,o.path,0,[],0,false,o.label,[],[],false,[]⟩:Ov) ⟨A1,n1,c1,none,0,0,none,0,0⟩)) (by simp [results,Try.results32,go_sem,d0,d1,d2,d3,d4,d5,d6,d7,d8,d9,d10,opCells]) rfl ?_
  have kk:∀ k,w.heap.size + 1 + 1 + 1≤k→W9.heap[k]? = w2.heap[k]?:=fun k hk=>(K9 k (by omega)).trans (h5.out k (by omega))
  rw [show bareV o = (⟨5,o.path,0,[],0,false,o.label,[],[],false,[]⟩:Ov) by unfold bareV;simp [hk]]
  refine ⟨_,rfl,⟨own_mono (own_kept V1.out fun k h1 h2=>(kk k h1).trans (B2.out.block k h2)) (by omega),P4.OwnI.nil_ _ _,OwnQ.nil_ _ _⟩,B9⟩
set_option maxHeartbeats 4000000 in
theorem rbare_k6 (w:World) (o:Ov) (s:OS) (ho:OpIn w o s) (hk:o.kind = 6) :Calls Try.prog 32 #[.agg (opCells o s)] w (BareA w (bareV o)):=by
  obtain ⟨z1,z2,z3,z4,z5⟩:=three_new w (.cells (opCells o s) 52) (.cells zero11 52) (.cells #[.int .u8 6,.slice none 0 0,.int .i64 0,.slice none 0 0,.int .u64 0,.bool false,.string ⟨#[]⟩,.string ⟨#[]⟩,.string ⟨#[]⟩,.bool false,.slice none 0 0] 52)
  obtain ⟨W3,hW3⟩:∃ W3,W3 = ((w.alloc (.cells (opCells o s) 52)).alloc (.cells zero11 52)).alloc (.cells #[.int .u8 6,.slice none 0 0,.int .i64 0,.slice none 0 0,.int .u64 0,.bool false,.string ⟨#[]⟩,.string ⟨#[]⟩,.string ⟨#[]⟩,.bool false,.slice none 0 0] 52):=⟨_,rfl⟩
  rw [← hW3] at z1 z2 z3 z4 z5
  have hkI:=Lib.hid (show (o.kind:Int) = 6 by omega)
  have ho':=Lib.hid ho
  have z1':=Lib.hid z1
  have z2':=Lib.hid z2
  have z3':=Lib.hid z3
  have z4':=Lib.hid z4
  have z5':=Lib.hid z5
  unfold opCells zero11 at hW3
  unfold opCells
  rw [hkI.out] at hW3 ⊢
  clear ho z1 z2 z3 z4 z5
  go_enter Try.func32,Try.ntmps32
  go_upto_region 3 with fail
  rw [← hW3]
  clear hW3
  have o1u:=z1'.out
  obtain ⟨o0,o1,o2,o3,o4,o5,o6,o7,o8,o9,o10⟩:=op_cells o1u
  clear o1u
  go_upto_region 4 with (at_builtin;(refine P4.wpList_append_its rfl _ (.tmp 11) rfl (w.heap.size + 1 + 1 + 1) (.slice none 0 0) [] o.path rfl (P4.OwnI.nil_ _ _) s.pA s.pn s.pc rfl (ho'.out.below z4'.out).path ho'.out.pnil (by have h7:=ho'.out.path.1;have h8:=ho'.out.pfew;simp only [List.length_nil];omega) (by have:=z5'.out;omega) ?_;intro v1 w1 ho1 hg1 hat1;have hb1:=P4.grown_nil hg1;have B1:=Lib.hid hb1;have V1:=Lib.hid ho1;obtain ⟨A1,n1,c1,rfl,-⟩:=P4.OwnI.shape ho1;have y1:=(hb1.block w.heap.size (by have:=z5'.out;omega)).trans z1'.out;clear o0 o1 o2 o3 o4 o5 o6 o7 o8 o9 o10 ho1 hg1 hat1 hb1;obtain ⟨o0,o1,o2,o3,o4,o5,o6,o7,o8,o9,o10⟩:=op_cells y1;clear y1))
  go_upto_region 5 with (at_builtin;(refine P4.wpList_append_its rfl _ (.tmp 15) rfl (w.heap.size + 1 + 1 + 1) (.slice none 0 0) [] o.to_ rfl (P4.OwnI.nil_ _ _) s.tA s.tn s.tc rfl (ho'.out.below (z4'.out.trans (B1.out.mono z4'.out.size))).to_ ho'.out.tnil (by have h7:=ho'.out.to_.1;have h8:=ho'.out.tfew;simp only [List.length_nil];omega) (by have:=z5'.out;have:=B1.out.size;omega) ?_;intro v2 w2 ho2 hg2 hat2;have hb2:=P4.grown_nil hg2;have B2:=Lib.hid hb2;have V2:=Lib.hid ho2;obtain ⟨A2,n2,c2,rfl,-⟩:=P4.OwnI.shape ho2;clear o0 o1 o2 o3 o4 o5 o6 o7 o8 o9 o10 ho2 hg2 hat2 hb2))
  obtain ⟨b3,y1,y2,y3⟩:=two_rows (w:=w) z1'.out z2'.out z3'.out z5'.out B1.out B2.out
  have B3:=Lib.hid b3
  have Y1:=Lib.hid y1
  have Y2:=Lib.hid y2
  have Y3:=Lib.hid y3
  have yw:=Lib.hid (z4'.out.trans (b3.mono z4'.out.size))
  obtain ⟨o0,o1,o2,o3,o4,o5,o6,o7,o8,o9,o10⟩:=op_cells y1
  obtain ⟨p0,p1,p2,p3,p4,p5,p6,p7,p8,p9,p10,pf⟩:=eleven_cells y3
  have hl3:w.heap.size + 1 + 1 < w2.heap.size:=(Array.getElem?_eq_some_iff.1 y3).1
  clear b3 y1 y2 y3
  have hpc:=Lib.hid (ho'.out.pieces.below yw.out)
  go_upto_region 25 with (at_builtin;(refine wpList_append_pcs rfl _ (.tmp 67) rfl (w.heap.size + 1 + 1 + 1) (.slice none 0 0) [] o.pieces rfl (OwnQ.nil_ _ _) s.qA s.qn s.qc rfl hpc.out ho'.out.qnil (by have h7:=hpc.out.1;have h8:=ho'.out.qfew;simp only [List.length_nil];omega) (by omega) ?_;intro v4 w4 ho4 hg4 hat4;have hb4:=P4.grown_nil hg4;have B4:=Lib.hid hb4;have V4:=Lib.hid ho4;obtain ⟨A4,n4,c4,rfl,-⟩:=OwnQ.shape ho4 (pcs_ok hpc.out);have y3:=(hb4.block (w.heap.size + 1 + 1) hl3).trans Y3.out;have Y3':=Lib.hid y3;have Y2':=Lib.hid ((hb4.block (w.heap.size + 1) (by omega)).trans Y2.out);have yw':=Lib.hid (yw.out.trans (hb4.mono yw.out.size));have hl4:w.heap.size + 1 + 1 < w4.heap.size:=(Array.getElem?_eq_some_iff.1 y3).1;clear o0 o1 o2 o3 o4 o5 o6 o7 o8 o9 o10 p0 p1 p2 p3 p4 p5 p6 p7 p8 p9 p10 pf ho4 hg4 hat4 hb4;obtain ⟨p0,p1,p2,p3,p4,p5,p6,p7,p8,p9,p10,pf⟩:=eleven_cells y3;clear y3))
  clear p0 p1 p2 p3 p4 p5 p6 p7 p8 p9 p10 pf
  obtain ⟨X,hX⟩:∃ X,X = (w4.setCell ⟨w.heap.size + 1 + 1,10,none⟩ (.slice A4 n4 c4)):=⟨_,rfl⟩
  have x3:X.heap[w.heap.size + 1 + 1]? = some (.cells #[.int .u8 6,.slice none 0 0,.int .i64 0,.slice none 0 0,.int .u64 0,.bool false,.string ⟨#[]⟩,.string ⟨#[]⟩,.string ⟨#[]⟩,.bool false,.slice A4 n4 c4] 52 (0,0)):=by rw [hX];have e0:=heap_setCell_same _ _ 10 _ _ (.slice A4 n4 c4) Y3'.out;rw [e0];simp
  have hk5:=Lib.hid (show ∀ k,k ≠ w.heap.size + 1 + 1→X.heap[k]? = w4.heap[k]? by intro k hk;rw [hX];repeat rw [heap_setCell_other _ _ k _ hk])
  have xw:=Lib.hid (show Below w.heap.size w X by rw [hX];exact (yw'.out.setCell (p:=⟨w.heap.size + 1 + 1,10,none⟩) (by show w.heap.size≤w.heap.size + 1 + 1;omega) _))
  have xz:=Lib.hid (show X.heap.size = w4.heap.size by rw [hX];simp)
  rw [← hX]
  clear hX
  obtain ⟨p0,p1,p2,p3,p4,p5,p6,p7,p8,p9,p10,pf⟩:=eleven_cells x3
  have X3:=Lib.hid x3
  have hlx:w.heap.size + 1 + 1 < X.heap.size:=(Array.getElem?_eq_some_iff.1 x3).1
  clear x3
  go_upto_region 26 with fail
  clear p0 p1 p2 p3 p4 p5 p6 p7 p8 p9 p10 pf
  obtain ⟨W5,hW5⟩:∃ W5,W5 = X.setCell ⟨w.heap.size + 1 + 1,1,none⟩ (.slice A1 n1 c1):=⟨_,rfl⟩
  have r3:W5.heap[w.heap.size + 1 + 1]? = some (.cells #[.int .u8 6,.slice A1 n1 c1,.int .i64 0,.slice none 0 0,.int .u64 0,.bool false,.string ⟨#[]⟩,.string ⟨#[]⟩,.string ⟨#[]⟩,.bool false,.slice A4 n4 c4] 52 (0,0)):=by rw [hW5,heap_setCell_same X _ 1 _ _ _ X3.out];simp
  have h5:=Lib.hid (show ∀ k,k ≠ w.heap.size + 1 + 1→W5.heap[k]? = w4.heap[k]? by intro k hk;rw [hW5];exact (heap_setCell_other _ _ k _ hk).trans (hk5.out k hk))
  have w5b:=Lib.hid (show Below w.heap.size w W5 by rw [hW5];exact xw.out.setCell (p:=⟨w.heap.size + 1 + 1,1,none⟩) (by show w.heap.size≤w.heap.size + 1 + 1;omega) _)
  rw [← hW5]
  clear hW5
  have r2:=(h5.out (w.heap.size + 1) (by omega)).trans Y2'.out
  unfold zero11 at r2
  have r2h:=Lib.hid r2
  obtain ⟨p0,p1,p2,p3,p4,p5,p6,p7,p8,p9,p10,pf⟩:=eleven_cells r3
  obtain ⟨q0,q1,q2,q3,q4,q5,q6,q7,q8,q9,q10,qf⟩:=eleven_cells r2
  have hl2:w.heap.size + 1 < W5.heap.size:=(Array.getElem?_eq_some_iff.1 r2).1
  clear r2 r3
  go_wp2_with fail
  obtain ⟨W9,hW9,R9,B9,Z9,K9⟩:=end_op (o:=(⟨6,o.path,0,[],0,false,[],[],[],false,o.pieces⟩:Ov)) (s:=⟨A1,n1,c1,none,0,0,A4,n4,c4⟩) (r:=w.heap.size + 1) (by omega) w5b.out r2h.out
  have hW9':W9 = (((((((((((W5.setCell ⟨w.heap.size + 1,0,none⟩ (.int .u8 6)).setCell ⟨w.heap.size + 1,1,none⟩ (.slice A1 n1 c1)).setCell ⟨w.heap.size + 1,2,none⟩ (.int .i64 0)).setCell ⟨w.heap.size + 1,3,none⟩ (.slice none 0 0)).setCell ⟨w.heap.size + 1,4,none⟩ (.int .u64 0)).setCell ⟨w.heap.size + 1,5,none⟩ (.bool false)).setCell ⟨w.heap.size + 1,6,none⟩ (.string ⟨#[]⟩)).setCell ⟨w.heap.size + 1,7,none⟩ (.string ⟨#[]⟩)).setCell ⟨w.heap.size + 1,8,none⟩ (.string ⟨#[]⟩)).setCell ⟨w.heap.size + 1,9,none⟩ (.bool false)).setCell ⟨w.heap.size + 1,10,none⟩ (.slice A4 n4 c4)):=hW9
  rw [← hW9']
  clear hW9' hW9
  unfold opCells at R9
  obtain ⟨d0,d1,d2,d3,d4,d5,d6,d7,d8,d9,d10,df⟩:=eleven_cells R9
  refine bodyPost_ret (v:=.agg (opCells (⟨6,o.path,0,[],0,false,[],[],[],false,o.pieces⟩:Ov) ⟨A1,n1,c1,none,0,0,A4,n4,c4⟩)) (by simp [results,Try.results32,go_sem,d0,d1,d2,d3,d4,d5,d6,d7,d8,d9,d10,opCells]) rfl ?_
  have kk:∀ k,w.heap.size + 1 + 1 + 1≤k→W9.heap[k]? = w4.heap[k]?:=fun k hk=>(K9 k (by omega)).trans (h5.out k (by omega))
  rw [show bareV o = (⟨6,o.path,0,[],0,false,[],[],[],false,o.pieces⟩:Ov) by unfold bareV;simp [hk]]
  refine ⟨_,rfl,⟨own_mono (own_kept V1.out fun k h1 h2=>(kk k h1).trans ((B4.out.block k (by have:=B2.out.size;omega)).trans (B2.out.block k h2))) (by omega),P4.OwnI.nil_ _ _,own_mono (own_kept V4.out fun k h1 h2=>kk k h1) (by omega)⟩,B9⟩
set_option maxHeartbeats 4000000 in
theorem rbare_no (w:World) (o:Ov) (s:OS) (ho:OpIn w o s) (hk:¬ (1≤o.kind∧o.kind≤6)) :Calls Try.prog 32 #[.agg (opCells o s)] w (BareA w (bareV o)):=by
  obtain ⟨z1,z2,z3,z4,z5⟩:=three_new w (.cells (opCells o s) 52) (.cells zero11 52) (.cells #[.int .u8 (o.kind:Int),.slice none 0 0,.int .i64 0,.slice none 0 0,.int .u64 0,.bool false,.string ⟨#[]⟩,.string ⟨#[]⟩,.string ⟨#[]⟩,.bool false,.slice none 0 0] 52)
  obtain ⟨W3,hW3⟩:∃ W3,W3 = ((w.alloc (.cells (opCells o s) 52)).alloc (.cells zero11 52)).alloc (.cells #[.int .u8 (o.kind:Int),.slice none 0 0,.int .i64 0,.slice none 0 0,.int .u64 0,.bool false,.string ⟨#[]⟩,.string ⟨#[]⟩,.string ⟨#[]⟩,.bool false,.slice none 0 0] 52):=⟨_,rfl⟩
  rw [← hW3] at z1 z2 z3 z4 z5
  have e1:((o.kind:Int) == 1) = false:=by simp;omega
  have e2:((o.kind:Int) == 2) = false:=by simp;omega
  have e3:((o.kind:Int) == 3) = false:=by simp;omega
  have e4:((o.kind:Int) == 4) = false:=by simp;omega
  have e5:((o.kind:Int) == 5) = false:=by simp;omega
  have e6:((o.kind:Int) == 6) = false:=by simp;omega
  have hk':=Lib.hid hk
  have ho':=Lib.hid ho
  have z1':=Lib.hid z1
  have z2':=Lib.hid z2
  have z3':=Lib.hid z3
  have z4':=Lib.hid z4
  have z5':=Lib.hid z5
  unfold opCells zero11 at hW3
  unfold opCells
  clear ho z1 z2 z3 z4 z5
  go_enter Try.func32,Try.ntmps32
  go_upto_region 3 with fail
  rw [← hW3]
  clear hW3
  have o1u:=z1'.out
  obtain ⟨o0,o1,o2,o3,o4,o5,o6,o7,o8,o9,o10⟩:=op_cells o1u
  clear o1u
  go_upto_region 4 with (at_builtin;(refine P4.wpList_append_its rfl _ (.tmp 11) rfl (w.heap.size + 1 + 1 + 1) (.slice none 0 0) [] o.path rfl (P4.OwnI.nil_ _ _) s.pA s.pn s.pc rfl (ho'.out.below z4'.out).path ho'.out.pnil (by have h7:=ho'.out.path.1;have h8:=ho'.out.pfew;simp only [List.length_nil];omega) (by have:=z5'.out;omega) ?_;intro v1 w1 ho1 hg1 hat1;have hb1:=P4.grown_nil hg1;have B1:=Lib.hid hb1;have V1:=Lib.hid ho1;obtain ⟨A1,n1,c1,rfl,-⟩:=P4.OwnI.shape ho1;have y1:=(hb1.block w.heap.size (by have:=z5'.out;omega)).trans z1'.out;clear o0 o1 o2 o3 o4 o5 o6 o7 o8 o9 o10 ho1 hg1 hat1 hb1;obtain ⟨o0,o1,o2,o3,o4,o5,o6,o7,o8,o9,o10⟩:=op_cells y1;clear y1))
  go_upto_region 5 with (at_builtin;(refine P4.wpList_append_its rfl _ (.tmp 15) rfl (w.heap.size + 1 + 1 + 1) (.slice none 0 0) [] o.to_ rfl (P4.OwnI.nil_ _ _) s.tA s.tn s.tc rfl (ho'.out.below (z4'.out.trans (B1.out.mono z4'.out.size))).to_ ho'.out.tnil (by have h7:=ho'.out.to_.1;have h8:=ho'.out.tfew;simp only [List.length_nil];omega) (by have:=z5'.out;have:=B1.out.size;omega) ?_;intro v2 w2 ho2 hg2 hat2;have hb2:=P4.grown_nil hg2;have B2:=Lib.hid hb2;have V2:=Lib.hid ho2;obtain ⟨A2,n2,c2,rfl,-⟩:=P4.OwnI.shape ho2;clear o0 o1 o2 o3 o4 o5 o6 o7 o8 o9 o10 ho2 hg2 hat2 hb2))
  obtain ⟨b3,y1,y2,y3⟩:=two_rows (w:=w) z1'.out z2'.out z3'.out z5'.out B1.out B2.out
  have B3:=Lib.hid b3
  have Y1:=Lib.hid y1
  have Y2:=Lib.hid y2
  have Y3:=Lib.hid y3
  have yw:=Lib.hid (z4'.out.trans (b3.mono z4'.out.size))
  obtain ⟨o0,o1,o2,o3,o4,o5,o6,o7,o8,o9,o10⟩:=op_cells y1
  obtain ⟨p0,p1,p2,p3,p4,p5,p6,p7,p8,p9,p10,pf⟩:=eleven_cells y3
  have hl3:w.heap.size + 1 + 1 < w2.heap.size:=(Array.getElem?_eq_some_iff.1 y3).1
  clear b3 y1 y2 y3
  go_upto_region 6 with fail
  clear o0 o1 o2 o3 o4 o5 o6 o7 o8 o9 o10
  have r2:=Y2.out
  unfold zero11 at r2
  have r2h:=Lib.hid r2
  obtain ⟨q0,q1,q2,q3,q4,q5,q6,q7,q8,q9,q10,qf⟩:=eleven_cells r2
  have hl2:w.heap.size + 1 < w2.heap.size:=(Array.getElem?_eq_some_iff.1 r2).1
  clear r2
  go_wp2_with fail
  obtain ⟨W9,hW9,R9,B9,Z9,K9⟩:=end_op (o:=(⟨o.kind,[],0,[],0,false,[],[],[],false,[]⟩:Ov)) (s:=⟨none,0,0,none,0,0,none,0,0⟩) (r:=w.heap.size + 1) (by omega) yw.out r2h.out
  have hW9':W9 = (((((((((((w2.setCell ⟨w.heap.size + 1,0,none⟩ (.int .u8 (o.kind:Int))).setCell ⟨w.heap.size + 1,1,none⟩ (.slice none 0 0)).setCell ⟨w.heap.size + 1,2,none⟩ (.int .i64 0)).setCell ⟨w.heap.size + 1,3,none⟩ (.slice none 0 0)).setCell ⟨w.heap.size + 1,4,none⟩ (.int .u64 0)).setCell ⟨w.heap.size + 1,5,none⟩ (.bool false)).setCell ⟨w.heap.size + 1,6,none⟩ (.string ⟨#[]⟩)).setCell ⟨w.heap.size + 1,7,none⟩ (.string ⟨#[]⟩)).setCell ⟨w.heap.size + 1,8,none⟩ (.string ⟨#[]⟩)).setCell ⟨w.heap.size + 1,9,none⟩ (.bool false)).setCell ⟨w.heap.size + 1,10,none⟩ (.slice none 0 0)):=hW9
  rw [← hW9']
  clear hW9' hW9
  unfold opCells at R9
  obtain ⟨d0,d1,d2,d3,d4,d5,d6,d7,d8,d9,d10,df⟩:=eleven_cells R9
  refine bodyPost_ret (v:=.agg (opCells (⟨o.kind,[],0,[],0,false,[],[],[],false,[]⟩:Ov) ⟨none,0,0,none,0,0,none,0,0⟩)) (by simp [results,Try.results32,go_sem,d0,d1,d2,d3,d4,d5,d6,d7,d8,d9,d10,opCells]) rfl ?_
  rw [show bareV o = (⟨o.kind,[],0,[],0,false,[],[],[],false,[]⟩:Ov) by unfold bareV;rw [if_neg hk,if_neg (by omega),if_neg (by omega),if_neg (show ¬ (o.kind = 4∧o.gone = false) from fun h=>by omega),if_neg (by omega),if_neg (by omega),if_neg (by omega),if_neg (by omega),if_neg (by omega),if_neg (by omega)]]
  exact ⟨_,rfl,⟨P4.OwnI.nil_ _ _,P4.OwnI.nil_ _ _,OwnQ.nil_ _ _⟩,B9⟩
theorem rbare_any (w:World) (o:Ov) (s:OS) (ho:OpIn w o s):Calls Try.prog 32 #[.agg (opCells o s)] w (BareA w (bareV o)):=by
  by_cases k1:o.kind = 1
  · exact rbare_k1 w o s ho k1
  · by_cases k2:o.kind = 2
    · exact rbare_k2 w o s ho k2
    · by_cases k3:o.kind = 3
      · exact rbare_k3 w o s ho k3
      · by_cases k4:o.kind = 4
        · cases hg:o.gone with
          | true=>exact rbare_k4g w o s ho k4 hg
          | false=>exact rbare_k4 w o s ho k4 hg
        · by_cases k5:o.kind = 5
          · exact rbare_k5 w o s ho k5
          · by_cases k6:o.kind = 6
            · exact rbare_k6 w o s ho k6
            · exact rbare_no w o s ho (by omega)
end Go.Proofs.Ytidimannfemnmaa.Top
