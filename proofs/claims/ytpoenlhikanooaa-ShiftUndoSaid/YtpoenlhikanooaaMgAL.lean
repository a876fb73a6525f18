/- MgAL: ShfF ShfW ShfRf -/
import Derived.Test.YtpoenlhikanooaaMgAK
import Derived.Deep.RegionHeld3
set_option linter.all false
namespace Go.Proofs.Ytpoenlhikanooaa.Shf
open Go.RowKit Top
set_option maxRecDepth 20000
set_option linter.unusedVariables false

theorem two_news (w:World) (o1 o2:Obj):(((w.alloc o1).alloc o2).heap[w.heap.size]? = some o1)∧(((w.alloc o1).alloc o2).heap[w.heap.size + 1]? = some o2)∧Below w.heap.size w ((w.alloc o1).alloc o2)∧((w.alloc o1).alloc o2).heap.size = w.heap.size + 1 + 1:=by
  have h2:=heap_alloc_new (w.alloc o1) o2
  rw [World.size_alloc] at h2
  exact ⟨(Go.heap_alloc_old _ _ (by simp)).trans (heap_alloc_new w o1),h2,((Below.refl _ _).alloc (Nat.le_refl _) _).alloc (by simp) _,by simp⟩
def zeroO:Ov:=⟨0,[],0,[],0,false,[],[],[],false,[]⟩
def backV (c:Ch):Int:=if P4.eqV c.from_ c.to_ && decide (landV c < c.child) then IntKind.i64.wrap (c.child + 1) else c.child
def undoV (c:Ch):Ov:=if c.takes && c.puts then ⟨3,toV c ++ [landV c],backV c,plainR c c.from_.reverse,0,false,[],[],[],false,[]⟩ else zeroO
theorem from_clear (c:Ch):Clear c c.from_:=fun q k r e=>by
  unfold hitV P4.eqV
  have:q ≠ c.from_:=fun h=>by
    have:=congrArg List.length e
    rw [h] at this
    simp at this
  rw [decide_eq_false this]
  simp
theorem node_from (c:Ch):nodeV c c.from_ = some (plainR c c.from_.reverse):=nodeV_clear _ _ rfl (from_clear c)
theorem node_path {o:Ov} (h1:(chV o).takes = true) (h2:(chV o).puts = true):nodeV (chV o) o.path = some (toV (chV o) ++ [landV (chV o)])∧o.path = (chV o).from_ ++ [(chV o).child]:=by
  have hp:o.path = (chV o).from_ ++ [(chV o).child]:=by
    by_cases hf:formedV o = true
    · by_cases k1:o.kind = 1
      · unfold chV at h1;rw [if_pos hf,if_pos k1] at h1;cases h1
      · by_cases k2:o.kind = 2
        · by_cases hp:o.path = []
          · unfold chV at h1;rw [if_pos hf,if_neg k1,if_pos k2,if_pos hp] at h1;cases h1
          · unfold chV at h2;rw [if_pos hf,if_neg k1,if_pos k2,if_neg hp] at h2;cases h2
        · by_cases k3:o.kind = 3
          · cases hw:P4.withinV o.path o.to_ with
            | true=>unfold chV at h1;rw [if_pos hf,if_neg k1,if_neg k2,if_pos k3,if_pos hw] at h1;cases h1
            | false =>
              have hp:o.path ≠ []:=by
                intro e
                rw [e] at hw
                unfold P4.withinV at hw
                exact absurd hw (by cases o.to_ <;> simp [P4.commonV])
              obtain ⟨q,d,hq⟩:∃ q d,o.path = q ++ [d]:=by
                rcases snoc_cases o.path with h | h
                · exact absurd h hp
                · exact h
              have:chV o = ⟨true,q,d,true,o.to_,o.at_⟩:=by unfold chV;rw [if_pos hf,if_neg k1,if_neg k2,if_pos k3,if_neg (by rw [hw];simp),hq,List.dropLast_concat,List.getLastD_concat]
              rw [this,hq]
          · unfold chV at h1;rw [if_pos hf,if_neg k1,if_neg k2,if_neg k3] at h1;cases h1
    · unfold chV at h1;rw [if_neg hf] at h1;cases h1
  refine ⟨?_,hp⟩
  rw [hp,nodeV_snoc,if_pos,if_pos h2]
  unfold hitV P4.eqV
  simp [h1]
theorem set_op1 {w:World} {g:Nat} {o:Ov} {s:OS} {ty:TypeId} (A:Option Addr) (n c:Nat) (q:List Int) (h:w.heap[g]? = some (.cells (opCells o s) ty (0,0))):(w.setCell ⟨g,1,none⟩ (.slice A n c)).heap[g]? = some (.cells (opCells { o with path:=q } { s with pA:=A,pn:=n,pc:=c }) ty (0,0)):=by
  rw [heap_setCell_same w g 1 _ _ _ h]
  simp [opCells]
theorem set_op3 {w:World} {g:Nat} {o:Ov} {s:OS} {ty:TypeId} (A:Option Addr) (n c:Nat) (q:List Int) (h:w.heap[g]? = some (.cells (opCells o s) ty (0,0))):(w.setCell ⟨g,3,none⟩ (.slice A n c)).heap[g]? = some (.cells (opCells { o with to_:=q } { s with tA:=A,tn:=n,tc:=c }) ty (0,0)):=by
  rw [heap_setCell_same w g 3 _ _ _ h]
  simp [opCells]
theorem op_frozen {W:World} {b:Nat} {o:Ov} {s:OS} {ty:TypeId} (h:W.heap[b]? = some (.cells (opCells o s) ty (0,0))):∀ k,W.frozen? ⟨b,k,none⟩ = false:=fun k=>frozen_of_row W b k _ _ h
set_option maxHeartbeats 16000000 in
theorem Undo_any (w:World) (o:Ov) (s:OS) (ho:OpIn w o s) (hl:Slen o):Calls Try.prog 22 #[.agg (opCells o s)] w fun e w'=>∃ s',e = .returned (.agg (opCells (undoV (chV o)) s'))∧OwnOp w.heap.size w' (undoV (chV o)) s'∧Below w.heap.size w w':=by
  obtain ⟨z1,z2,z4,z5⟩:=two_news w (.cells (opCells o s) 26) (.cells zero11 26)
  obtain ⟨W2,hW2⟩:∃ W2,W2 = ((w.alloc (.cells (opCells o s) 26)).alloc (.cells zero11 26)):=⟨_,rfl⟩
  rw [← hW2] at z1 z2 z4 z5
  have z1':=Lib.hid z1
  have z2':=Lib.hid z2
  have z4':=Lib.hid z4
  have z5':=Lib.hid z5
  have hch:=Lib.hid (changeOf_any W2 o s (ho.below z4))
  have hop:=Lib.hid (fun (W:World) (hb:Below w.heap.size w W)=>ho.below hb)
  obtain ⟨o0,o1,o2,o3,o4,o5,o6,o7,o8,o9,o10⟩:=op_cells z1
  rw [hW2] at o0 o1 o2 o3 o4 o5 o6 o7 o8 o9 o10
  have hcl:=Lib.hid (ch_clear o)
  have hct:=Lib.hid (ch_few hl)
  have hnp:=Lib.hid (@node_path o)
  have hl':=Lib.hid hl
  generalize chV o = c at *
  obtain ⟨tk,fr,chd,pt,tp,gp⟩:=c
  dsimp only at hch hcl hct hnp
  have ho1:=Lib.hid (show s.pn≤s.pc∧s.pc≤maxLen∧s.pn≤400000 from ⟨ho.pnc,ho.pcm,by have:=ho.path.1;have:=hl.1;omega⟩)
  clear ho hl z1 z2 z4 z5
  unfold opCells at hW2 hch
  unfold zero11 at hW2
  conv=>arg 3;unfold opCells
  go_enter Try.func22,Try.ntmps22
  go_upto_region 2 with (go_at_call 55;go_loud (rw [← hW2];refine hch.out.mono ?_;rintro e w1 ⟨cs,rfl,hc1,hb1⟩;have hc1':=Lib.hid hc1;have B1:=Lib.hid hb1;unfold chCells;dsimp only;clear hc1 hb1 o0 o1 o2 o3 o4 o5 o6 o7 o8 o9 o10))
  obtain ⟨X,hX⟩:∃ X,X = w1.alloc (.cells (chCells ⟨tk,fr,chd,pt,tp,gp⟩ cs) 77):=⟨_,rfl⟩
  have hX':X = w1.alloc (.cells #[.bool tk,.slice cs.fA cs.fn cs.fc,.int .i64 chd,.bool pt,.slice cs.tA cs.tn cs.tc,.int .i64 gp] 77):=hX
  rw [← hX']
  have x1:X.heap[w1.heap.size]? = some (.cells (chCells ⟨tk,fr,chd,pt,tp,gp⟩ cs) 77 (0,0)):=by rw [hX];exact heap_alloc_new w1 _
  have xB:=Lib.hid (show Below w1.heap.size w1 X by rw [hX];exact (Below.refl _ _).alloc (Nat.le_refl _) _)
  have xS:X.heap.size = w1.heap.size + 1:=by rw [hX];simp
  have B2:=Lib.hid (B1.out.trans (xB.out.mono B1.out.size))
  have BX:=Lib.hid (z4'.out.trans (B2.out.mono z4'.out.size))
  have x1':=Lib.hid x1
  obtain ⟨c0,c1,c2,c3,c4,c5⟩:=ch_cells x1
  dsimp only at c0 c1 c2 c3 c4 c5
  have y1':=Lib.hid ((B2.out.block w.heap.size (by have:=z5'.out;omega)).trans z1'.out)
  have y2':=Lib.hid ((B2.out.block (w.heap.size + 1) (by have:=z5'.out;omega)).trans z2'.out)
  obtain ⟨o0,o1,o2,o3,o4,o5,o6,o7,o8,o9,o10⟩:=op_cells y1'.out
  have y2:=y2'.out
  unfold zero11 at y2
  obtain ⟨q0,q1,q2,q3,q4,q5,q6,q7,q8,q9,q10,qf⟩:=eleven_cells y2
  have hlt:w.heap.size + 1 + 1≤w1.heap.size:=by have:=B1.out.size;have:=z5'.out;omega
  clear hX hX' x1 y2
  have nil_case:Hid ((tk && pt) = false→undoV ⟨tk,fr,chd,pt,tp,gp⟩ = zeroO):=Lib.hid (fun h=>by unfold undoV;dsimp only;rw [h];rfl)
  cases tk with
  | false =>
    go_wp2_with fail
    obtain ⟨W9,hW9,R9,B9,Z9,K9⟩:=end_op (o:=zeroO) (s:=⟨none,0,0,none,0,0,none,0,0⟩) (r:=w.heap.size + 1) (by omega) BX.out (show X.heap[w.heap.size + 1]? = some (.cells #[.int .u8 0,.slice none 0 0,.int .i64 0,.slice none 0 0,.int .u64 0,.bool false,.string ⟨#[]⟩,.string ⟨#[]⟩,.string ⟨#[]⟩,.bool false,.slice none 0 0] _ (0,0)) from y2'.out)
    have hW9':W9 = (((((((((((X.setCell ⟨w.heap.size + 1,0,none⟩ (.int .u8 0)).setCell ⟨w.heap.size + 1,1,none⟩ (.slice none 0 0)).setCell ⟨w.heap.size + 1,2,none⟩ (.int .i64 0)).setCell ⟨w.heap.size + 1,3,none⟩ (.slice none 0 0)).setCell ⟨w.heap.size + 1,4,none⟩ (.int .u64 0)).setCell ⟨w.heap.size + 1,5,none⟩ (.bool false)).setCell ⟨w.heap.size + 1,6,none⟩ (.string ⟨#[]⟩)).setCell ⟨w.heap.size + 1,7,none⟩ (.string ⟨#[]⟩)).setCell ⟨w.heap.size + 1,8,none⟩ (.string ⟨#[]⟩)).setCell ⟨w.heap.size + 1,9,none⟩ (.bool false)).setCell ⟨w.heap.size + 1,10,none⟩ (.slice none 0 0)):=hW9
    rw [← hW9']
    clear hW9' hW9
    unfold opCells at R9
    obtain ⟨d0,d1,d2,d3,d4,d5,d6,d7,d8,d9,d10,df⟩:=eleven_cells R9
    refine bodyPost_ret (v:=.agg (opCells zeroO ⟨none,0,0,none,0,0,none,0,0⟩)) (by simp [results,Try.results22,go_sem,d0,d1,d2,d3,d4,d5,d6,d7,d8,d9,d10,opCells,zeroO]) rfl ?_
    rw [nil_case.out (by simp)]
    exact ⟨_,rfl,⟨P4.OwnI.nil_ _ _,P4.OwnI.nil_ _ _,OwnQ.nil_ _ _⟩,B9⟩
  | true =>
    cases pt with
    | false =>
      go_wp2_with fail
      obtain ⟨W9,hW9,R9,B9,Z9,K9⟩:=end_op (o:=zeroO) (s:=⟨none,0,0,none,0,0,none,0,0⟩) (r:=w.heap.size + 1) (by omega) BX.out (show X.heap[w.heap.size + 1]? = some (.cells #[.int .u8 0,.slice none 0 0,.int .i64 0,.slice none 0 0,.int .u64 0,.bool false,.string ⟨#[]⟩,.string ⟨#[]⟩,.string ⟨#[]⟩,.bool false,.slice none 0 0] _ (0,0)) from y2'.out)
      have hW9':W9 = (((((((((((X.setCell ⟨w.heap.size + 1,0,none⟩ (.int .u8 0)).setCell ⟨w.heap.size + 1,1,none⟩ (.slice none 0 0)).setCell ⟨w.heap.size + 1,2,none⟩ (.int .i64 0)).setCell ⟨w.heap.size + 1,3,none⟩ (.slice none 0 0)).setCell ⟨w.heap.size + 1,4,none⟩ (.int .u64 0)).setCell ⟨w.heap.size + 1,5,none⟩ (.bool false)).setCell ⟨w.heap.size + 1,6,none⟩ (.string ⟨#[]⟩)).setCell ⟨w.heap.size + 1,7,none⟩ (.string ⟨#[]⟩)).setCell ⟨w.heap.size + 1,8,none⟩ (.string ⟨#[]⟩)).setCell ⟨w.heap.size + 1,9,none⟩ (.bool false)).setCell ⟨w.heap.size + 1,10,none⟩ (.slice none 0 0)):=hW9
      rw [← hW9']
      clear hW9' hW9
      unfold opCells at R9
      obtain ⟨d0,d1,d2,d3,d4,d5,d6,d7,d8,d9,d10,df⟩:=eleven_cells R9
      refine bodyPost_ret (v:=.agg (opCells zeroO ⟨none,0,0,none,0,0,none,0,0⟩)) (by simp [results,Try.results22,go_sem,d0,d1,d2,d3,d4,d5,d6,d7,d8,d9,d10,opCells,zeroO]) rfl ?_
      rw [nil_case.out (by simp)]
      exact ⟨_,rfl,⟨P4.OwnI.nil_ _ _,P4.OwnI.nil_ _ _,OwnQ.nil_ _ _⟩,B9⟩
    | true =>
      clear nil_case q0 q1 q2 q3 q4 q5 q6 q7 q8 q9 q10 qf
      obtain ⟨hnp1,hnp2⟩:=hnp.out rfl rfl
      have hnp1':=Lib.hid hnp1
      go_upto_region 5 with fail
      obtain ⟨Y,hY⟩:∃ Y,Y = X.alloc (.cells (opCells ⟨3,[],chd,[],0,false,[],[],[],false,[]⟩ ⟨none,0,0,none,0,0,none,0,0⟩) 26):=⟨_,rfl⟩
      have hY':Y = X.alloc (.cells #[.int .u8 3,.slice none 0 0,.int .i64 chd,.slice none 0 0,.int .u64 0,.bool false,.string ⟨#[]⟩,.string ⟨#[]⟩,.string ⟨#[]⟩,.bool false,.slice none 0 0] 26):=hY
      rw [← hY']
      have H4Y:=Lib.hid (show Y.heap[w1.heap.size + 1]? = some (.cells (opCells ⟨3,[],chd,[],0,false,[],[],[],false,[]⟩ ⟨none,0,0,none,0,0,none,0,0⟩) 26 (0,0)) by rw [hY,← xS];exact heap_alloc_new X _)
      have YB:=Lib.hid (show Below X.heap.size X Y by rw [hY];exact (Below.refl _ _).alloc (Nat.le_refl _) _)
      have YS:=Lib.hid (show Y.heap.size = X.heap.size + 1 by rw [hY];simp)
      have H0Y:=Lib.hid ((YB.out.block w.heap.size (by omega)).trans y1'.out)
      have H1Y:=Lib.hid ((YB.out.block w1.heap.size (by omega)).trans x1'.out)
      have H2Y:=Lib.hid ((YB.out.block (w.heap.size + 1) (by omega)).trans y2'.out)
      have BY:=Lib.hid (BX.out.trans (YB.out.mono BX.out.size))
      have BY1:=Lib.hid (xB.out.trans (YB.out.mono xB.out.size))
      clear hY hY' o0 o1 o2 o3 o4 o5 o6 o7 o8 o9 o10 c0 c1 c2 c3 c4 c5
      have c1r:=H1Y.out
      obtain ⟨c0,c1,c2,c3,c4,c5⟩:=ch_cells c1r
      dsimp only at c0 c1 c2 c3 c4 c5
      obtain ⟨o0,o1,o2,o3,o4,o5,o6,o7,o8,o9,o10⟩:=op_cells H0Y.out
      obtain ⟨b0,b1,b2,b3,b4,b5,b6,b7,b8,b9,b10⟩:=op_cells H4Y.out
      have bf:=op_frozen H4Y.out
      dsimp only at b0 b1 b2 b3 b4 b5 b6 b7 b8 b9 b10
      clear c1r
      have hn1:=Lib.hid (node_any Y ⟨true,fr,chd,true,tp,gp⟩ cs s.pA s.pn s.pc o.path (hc1'.out.below BY1.out) (hop.out Y BY.out).path ho1.out.1 ho1.out.2.1 ho1.out.2.2 (by have:=hc1'.out.to_.1;have:=hct.out;dsimp only at *;omega) hcl.out)
      unfold chCells at hn1
      dsimp only at hn1
      have B1Y:=BY1
      go_upto_region 6 with (go_at_call 56;go_loud (refine hn1.out.mono ?_;rintro e wa (⟨hr1,-⟩ | ⟨v,xs,hr1,rfl,hr3,hb2⟩);(exfalso;rw [hnp1'.out] at hr1;cases hr1);rw [hnp1'.out] at hr1;injection hr1 with hr1;subst hr1;obtain ⟨yA,yn,yc,rfl,-⟩:=P4.OwnI.shape hr3;have O1:=Lib.hid hr3;have E1:=Lib.hid hb2;have Bwa:=Lib.hid (BY.out.trans (hb2.mono BY.out.size));have H0wa:=Lib.hid ((hb2.block _ (Array.getElem?_eq_some_iff.1 H0Y.out).1).trans H0Y.out);have H1wa:=Lib.hid ((hb2.block _ (Array.getElem?_eq_some_iff.1 H1Y.out).1).trans H1Y.out);have H2wa:=Lib.hid ((hb2.block _ (Array.getElem?_eq_some_iff.1 H2Y.out).1).trans H2Y.out);have H4wa:=Lib.hid ((hb2.block _ (Array.getElem?_eq_some_iff.1 H4Y.out).1).trans H4Y.out);clear hr3 hb2 o0 o1 o2 o3 o4 o5 o6 o7 o8 o9 o10 c0 c1 c2 c3 c4 c5 b0 b1 b2 b3 b4 b5 b6 b7 b8 b9 b10 bf;have c1r:=H1wa.out;obtain ⟨c0,c1,c2,c3,c4,c5⟩:=ch_cells c1r;dsimp only at c0 c1 c2 c3 c4 c5;obtain ⟨o0,o1,o2,o3,o4,o5,o6,o7,o8,o9,o10⟩:=op_cells H0wa.out;obtain ⟨b0,b1,b2,b3,b4,b5,b6,b7,b8,b9,b10⟩:=op_cells H4wa.out;have bf:=op_frozen H4wa.out;dsimp only at b0 b1 b2 b3 b4 b5 b6 b7 b8 b9 b10;clear c1r))
      have B1wa:=Lib.hid (B1Y.out.trans (E1.out.mono B1Y.out.size))
      obtain ⟨Z,hZ⟩:∃ Q9,Q9 = wa.setCell ⟨w1.heap.size + 1,1,none⟩ (.slice yA yn yc):=⟨_,rfl⟩
      rw [← hZ]
      have ZK:=Lib.hid (show ∀ k,k ≠ w1.heap.size + 1→Z.heap[k]? = wa.heap[k]? by intro k hk;rw [hZ];exact heap_setCell_other _ _ k _ hk)
      have ZS:=Lib.hid (show Z.heap.size = wa.heap.size by rw [hZ];simp)
      have H0Z:=Lib.hid ((ZK.out _ (by omega)).trans H0wa.out)
      have H1Z:=Lib.hid ((ZK.out _ (by omega)).trans H1wa.out)
      have H2Z:=Lib.hid ((ZK.out _ (by omega)).trans H2wa.out)
      have H4Z:=Lib.hid (show Z.heap[w1.heap.size + 1]? = some (.cells (opCells ⟨3,toV ⟨true,fr,chd,true,tp,gp⟩ ++ [landV ⟨true,fr,chd,true,tp,gp⟩],chd,[],0,false,[],[],[],false,[]⟩ ⟨yA,yn,yc,none,0,0,none,0,0⟩) 26 (0,0)) by rw [hZ];exact set_op1 yA yn yc (toV ⟨true,fr,chd,true,tp,gp⟩ ++ [landV ⟨true,fr,chd,true,tp,gp⟩]) H4wa.out)
      have BZ:=Lib.hid (show Below w.heap.size w Z by rw [hZ];exact Bwa.out.setCell (p:=⟨w1.heap.size + 1,1,none⟩) (by show w.heap.size≤w1.heap.size + 1;omega) _)
      have B1Z:=Lib.hid (show Below w1.heap.size w1 Z by rw [hZ];exact B1wa.out.setCell (p:=⟨w1.heap.size + 1,1,none⟩) (by show w1.heap.size≤w1.heap.size + 1;omega) _)
      clear hZ o0 o1 o2 o3 o4 o5 o6 o7 o8 o9 o10 c0 c1 c2 c3 c4 c5 b0 b1 b2 b3 b4 b5 b6 b7 b8 b9 b10 bf
      have c1r:=H1Z.out;obtain ⟨c0,c1,c2,c3,c4,c5⟩:=ch_cells c1r;dsimp only at c0 c1 c2 c3 c4 c5;obtain ⟨o0,o1,o2,o3,o4,o5,o6,o7,o8,o9,o10⟩:=op_cells H0Z.out;obtain ⟨b0,b1,b2,b3,b4,b5,b6,b7,b8,b9,b10⟩:=op_cells H4Z.out;have bf:=op_frozen H4Z.out;dsimp only at b0 b1 b2 b3 b4 b5 b6 b7 b8 b9 b10;clear c1r
      have hfl:=Lib.hid (show cs.fn≤400000 by have h1:=hc1'.out.from_.1;have h2:=ho1.out.2.2;have h3:=(hop.out w (Below.refl _ _)).path.1;dsimp only at h1 hnp2;rw [hnp2,List.length_append] at h3;simp at h3;omega)
      have hn2:=Lib.hid (node_any Z ⟨true,fr,chd,true,tp,gp⟩ cs cs.fA cs.fn cs.fc fr (hc1'.out.below B1Z.out) (hc1'.out.below B1Z.out).from_ hc1'.out.fnc hc1'.out.fcm hfl.out (by have:=hc1'.out.to_.1;have:=hct.out;dsimp only at *;omega) hcl.out)
      have hnf:=Lib.hid (node_from ⟨true,fr,chd,true,tp,gp⟩)
      dsimp only at hnf
      unfold chCells at hn2
      dsimp only at hn2
      go_upto_region 7 with (go_at_call 56;go_loud (refine hn2.out.mono ?_;rintro e wb (⟨hr1,-⟩ | ⟨v,xs,hr1,rfl,hr3,hb2⟩);(exfalso;rw [hnf.out] at hr1;cases hr1);rw [hnf.out] at hr1;injection hr1 with hr1;subst hr1;obtain ⟨tA,tn,tc,rfl,-⟩:=P4.OwnI.shape hr3;have O2:=Lib.hid hr3;have E2:=Lib.hid hb2;have Bwb:=Lib.hid (BZ.out.trans (hb2.mono BZ.out.size));have H0wb:=Lib.hid ((hb2.block _ (Array.getElem?_eq_some_iff.1 H0Z.out).1).trans H0Z.out);have H1wb:=Lib.hid ((hb2.block _ (Array.getElem?_eq_some_iff.1 H1Z.out).1).trans H1Z.out);have H2wb:=Lib.hid ((hb2.block _ (Array.getElem?_eq_some_iff.1 H2Z.out).1).trans H2Z.out);have H4wb:=Lib.hid ((hb2.block _ (Array.getElem?_eq_some_iff.1 H4Z.out).1).trans H4Z.out);clear hr3 hb2 o0 o1 o2 o3 o4 o5 o6 o7 o8 o9 o10 c0 c1 c2 c3 c4 c5 b0 b1 b2 b3 b4 b5 b6 b7 b8 b9 b10 bf;have c1r:=H1wb.out;obtain ⟨c0,c1,c2,c3,c4,c5⟩:=ch_cells c1r;dsimp only at c0 c1 c2 c3 c4 c5;obtain ⟨o0,o1,o2,o3,o4,o5,o6,o7,o8,o9,o10⟩:=op_cells H0wb.out;obtain ⟨b0,b1,b2,b3,b4,b5,b6,b7,b8,b9,b10⟩:=op_cells H4wb.out;have bf:=op_frozen H4wb.out;dsimp only at b0 b1 b2 b3 b4 b5 b6 b7 b8 b9 b10;clear c1r))
      have B1wb:=Lib.hid (B1Z.out.trans (E2.out.mono B1Z.out.size))
      obtain ⟨V,hV⟩:∃ Q9,Q9 = wb.setCell ⟨w1.heap.size + 1,3,none⟩ (.slice tA tn tc):=⟨_,rfl⟩
      rw [← hV]
      have VK:=Lib.hid (show ∀ k,k ≠ w1.heap.size + 1→V.heap[k]? = wb.heap[k]? by intro k hk;rw [hV];exact heap_setCell_other _ _ k _ hk)
      have VS:=Lib.hid (show V.heap.size = wb.heap.size by rw [hV];simp)
      have H0V:=Lib.hid ((VK.out _ (by omega)).trans H0wb.out)
      have H1V:=Lib.hid ((VK.out _ (by omega)).trans H1wb.out)
      have H2V:=Lib.hid ((VK.out _ (by omega)).trans H2wb.out)
      have H4V:=Lib.hid (show V.heap[w1.heap.size + 1]? = some (.cells (opCells ⟨3,toV ⟨true,fr,chd,true,tp,gp⟩ ++ [landV ⟨true,fr,chd,true,tp,gp⟩],chd,plainR ⟨true,fr,chd,true,tp,gp⟩ fr.reverse,0,false,[],[],[],false,[]⟩ ⟨yA,yn,yc,tA,tn,tc,none,0,0⟩) 26 (0,0)) by rw [hV];exact set_op3 tA tn tc (plainR ⟨true,fr,chd,true,tp,gp⟩ fr.reverse) H4wb.out)
      have BV:=Lib.hid (show Below w.heap.size w V by rw [hV];exact Bwb.out.setCell (p:=⟨w1.heap.size + 1,3,none⟩) (by show w.heap.size≤w1.heap.size + 1;omega) _)
      have B1V:=Lib.hid (show Below w1.heap.size w1 V by rw [hV];exact B1wb.out.setCell (p:=⟨w1.heap.size + 1,3,none⟩) (by show w1.heap.size≤w1.heap.size + 1;omega) _)
      clear hV o0 o1 o2 o3 o4 o5 o6 o7 o8 o9 o10 c0 c1 c2 c3 c4 c5 b0 b1 b2 b3 b4 b5 b6 b7 b8 b9 b10 bf
      have c1r:=H1V.out;obtain ⟨c0,c1,c2,c3,c4,c5⟩:=ch_cells c1r;dsimp only at c0 c1 c2 c3 c4 c5;obtain ⟨o0,o1,o2,o3,o4,o5,o6,o7,o8,o9,o10⟩:=op_cells H0V.out;obtain ⟨b0,b1,b2,b3,b4,b5,b6,b7,b8,b9,b10⟩:=op_cells H4V.out;have bf:=op_frozen H4V.out;dsimp only at b0 b1 b2 b3 b4 b5 b6 b7 b8 b9 b10;clear c1r
      have hsame:=Lib.hid (fun (W:World) (hb:Below V.heap.size V W)=>same_its W cs.fA cs.tA cs.fn cs.fc cs.tn cs.tc fr tp (hc1'.out.below (B1V.out.trans (hb.mono B1V.out.size))).from_ (hc1'.out.below (B1V.out.trans (hb.mono B1V.out.size))).to_ (Nat.le_trans hc1'.out.fnc hc1'.out.fcm))
      have hland:=Lib.hid (fun (W:World) (hb:Below V.heap.size V W)=>landing_any W ⟨true,fr,chd,true,tp,gp⟩ cs (hc1'.out.below (B1V.out.trans (hb.mono B1V.out.size))))
      have hH4:=Lib.hid (fun (W:World) (hb:Below V.heap.size V W)=>(hb.block _ (Array.getElem?_eq_some_iff.1 H4V.out).1).trans H4V.out)
      have hH2:=Lib.hid (fun (W:World) (hb:Below V.heap.size V W)=>(hb.block _ (Array.getElem?_eq_some_iff.1 H2V.out).1).trans H2V.out)
      have hBW:=Lib.hid (fun (W:World) (hb:Below V.heap.size V W)=>BV.out.trans (hb.mono BV.out.size))
      have hVs:=Lib.hid (show wb.heap.size≤V.heap.size∧wa.heap.size≤wb.heap.size∧w1.heap.size + 1 < wa.heap.size by refine ⟨Nat.le_of_eq VS.out.symm,?_,(Array.getElem?_eq_some_iff.1 H4wa.out).1⟩;have:=E2.out.size;have:=ZS.out;omega)
      unfold chCells at hland
      dsimp only at hland
      obtain ⟨e1,he1⟩:∃ b,b = P4.eqV fr tp:=⟨_,rfl⟩
      obtain ⟨m,hm⟩:∃ m,m = landV ⟨true,fr,chd,true,tp,gp⟩:=⟨_,rfl⟩
      have hback:=Lib.hid (show undoV ⟨true,fr,chd,true,tp,gp⟩ = ⟨3,toV ⟨true,fr,chd,true,tp,gp⟩ ++ [m],if e1 && decide (m < chd) then wrap64 (chd + 1) else chd,plainR ⟨true,fr,chd,true,tp,gp⟩ fr.reverse,0,false,[],[],[],false,[]⟩ by rw [he1,hm,← IntWalk.i64_left];rfl)
      rw [← he1] at hsame
      rw [← hm] at hland H4V hH4 O1
      clear he1 hm hnp hnp1 hnp2 hnp1'
      clear c0 c1 c2 c3 c4 c5 o0 o1 o2 o3 o4 o5 o6 o7 o8 o9 o10 b0 b1 b2 b3 b4 b5 b6 b7 b8 b9 b10 bf
      cases e1 with
      | false =>
        have hback1:=Lib.hid (show undoV ⟨true,fr,chd,true,tp,gp⟩ = ⟨3,toV ⟨true,fr,chd,true,tp,gp⟩ ++ [m],chd,plainR ⟨true,fr,chd,true,tp,gp⟩ fr.reverse,0,false,[],[],[],false,[]⟩ by rw [hback.out];rfl)
        rename_i K0 hK0
        refine wp_region_held_drew (S:=fun W=>Below V.heap.size V W) (by kernel_rfl) ((Below.refl V.heap.size V).drew) (fun hHeld=>?_)
        refine wpAnyH_take (i:=0) (oi:={ dst:=some 35,op:=Go.Op.fieldAddr 77 (Go.Operand.tmp 3) 1,type:=0,pos:="shift.go:32",after:=#[],guard:=none }) (v:=?_) rfl (by kernel_rfl) (by kernel_rfl) (by kernel_rfl) (fun _ _ _ h=>h) (Or.inl ⟨by rfl,?_⟩) hHeld ?_
        rotate_left 1
        · intro W hSw;have c1r:=(hSw.block _ (Array.getElem?_eq_some_iff.1 H1V.out).1).trans H1V.out;obtain ⟨c0,c1,c2,c3,c4,c5⟩:=ch_cells c1r;dsimp only at c0 c1 c2 c3 c4 c5;go_simp;try with_reducible rfl
        try simp only [Act.put,List.setIfInBounds_toArray,List.set_cons_zero,List.set_cons_succ]
        refine wpAnyH_take (i:=1) (oi:={ dst:=some 36,op:=Go.Op.load 22 (Go.Operand.tmp 35),type:=22,pos:="shift.go:32",after:=#[{ on:=0,ground:=Go.Ground.data }],guard:=none }) (v:=?_) rfl (by kernel_rfl) (by kernel_rfl) (by kernel_rfl) (fun _ _ _ h=>h) (Or.inl ⟨by rfl,?_⟩) hHeld ?_
        rotate_left 1
        · intro W hSw;have c1r:=(hSw.block _ (Array.getElem?_eq_some_iff.1 H1V.out).1).trans H1V.out;obtain ⟨c0,c1,c2,c3,c4,c5⟩:=ch_cells c1r;dsimp only at c0 c1 c2 c3 c4 c5;go_simp;try with_reducible rfl
        try simp only [Act.put,List.setIfInBounds_toArray,List.set_cons_zero,List.set_cons_succ]
        refine wpAnyH_take (i:=2) (oi:={ dst:=some 37,op:=Go.Op.fieldAddr 77 (Go.Operand.tmp 3) 4,type:=0,pos:="shift.go:32",after:=#[],guard:=none }) (v:=?_) rfl (by kernel_rfl) (by kernel_rfl) (by kernel_rfl) (fun _ _ _ h=>h) (Or.inl ⟨by rfl,?_⟩) hHeld ?_
        rotate_left 1
        · intro W hSw;have c1r:=(hSw.block _ (Array.getElem?_eq_some_iff.1 H1V.out).1).trans H1V.out;obtain ⟨c0,c1,c2,c3,c4,c5⟩:=ch_cells c1r;dsimp only at c0 c1 c2 c3 c4 c5;go_simp;try with_reducible rfl
        try simp only [Act.put,List.setIfInBounds_toArray,List.set_cons_zero,List.set_cons_succ]
        refine wpAnyH_take (i:=3) (oi:={ dst:=some 38,op:=Go.Op.load 22 (Go.Operand.tmp 37),type:=22,pos:="shift.go:32",after:=#[{ on:=2,ground:=Go.Ground.data }],guard:=none }) (v:=?_) rfl (by kernel_rfl) (by kernel_rfl) (by kernel_rfl) (fun _ _ _ h=>h) (Or.inl ⟨by rfl,?_⟩) hHeld ?_
        rotate_left 1
        · intro W hSw;have c1r:=(hSw.block _ (Array.getElem?_eq_some_iff.1 H1V.out).1).trans H1V.out;obtain ⟨c0,c1,c2,c3,c4,c5⟩:=ch_cells c1r;dsimp only at c0 c1 c2 c3 c4 c5;go_simp;try with_reducible rfl
        try simp only [Act.put,List.setIfInBounds_toArray,List.set_cons_zero,List.set_cons_succ]
        refine wpAnyH_ready (rs:=[4]) (by kernel_rfl) (by simp) ?_
        refine AllReadyH.cons (o:={ dst:=some 39,op:=Go.Op.call { callee:=Go.Callee.value (Go.Operand.func 62),args:=#[Go.Operand.tmp 36,Go.Operand.tmp 38],argTypes:=#[22,22] },type:=4,pos:="shift.go:32",after:=#[{ on:=1,ground:=Go.Ground.data },{ on:=3,ground:=Go.Ground.data }],guard:=none }) rfl (fun K hK=>?_) AllReadyH.nil
        go_simp
        refine (hsame.out _ hHeld).mono ?_
        rintro e w5 ⟨rfl,k5,rfl⟩
        have h5:=Lib.hid (draws (Below.refl V.heap.size V) (1 + k5))
        go_simp
        refine hK.out _ _ ?_ (fun hNew=>?_)
        · exact h5.out
        clear hK K hHeld
        have hHeld:=hNew
        clear hNew
        try simp only [Act.put,List.setIfInBounds_toArray,List.set_cons_zero,List.set_cons_succ]
        refine wpAnyH_take (i:=5) (oi:={ dst:=some 40,op:=Go.Op.move (Go.Operand.tmp 39),type:=4,pos:="shift.go:32",after:=#[{ on:=4,ground:=Go.Ground.data },{ on:=4,ground:=Go.Ground.chain }],guard:=none }) (v:=?_) rfl (by kernel_rfl) (by kernel_rfl) (by kernel_rfl) (fun _ _ _ h=>h) (Or.inl ⟨by rfl,?_⟩) hHeld ?_
        rotate_left 1
        · intro W hSw;have c1r:=(hSw.block _ (Array.getElem?_eq_some_iff.1 H1V.out).1).trans H1V.out;obtain ⟨c0,c1,c2,c3,c4,c5⟩:=ch_cells c1r;dsimp only at c0 c1 c2 c3 c4 c5;go_simp;try with_reducible rfl
        try simp only [Act.put,List.setIfInBounds_toArray,List.set_cons_zero,List.set_cons_succ]
        refine wpAnyH_take (i:=6) (oi:={ dst:=some 41,op:=Go.Op.load 77 (Go.Operand.tmp 3),type:=77,pos:="shift.go:32",after:=#[{ on:=5,ground:=Go.Ground.guard }],guard:=some (5,true) }) (v:=undef) rfl (by kernel_rfl) (by kernel_rfl) (by kernel_rfl) (fun _ _ _ h=>h) (Or.inr ⟨by rfl,rfl⟩) hHeld ?_
        try simp only [Act.put,List.setIfInBounds_toArray,List.set_cons_zero,List.set_cons_succ]
        refine wpAnyH_take (i:=7) (oi:={ dst:=some 42,op:=Go.Op.call { callee:=Go.Callee.value (Go.Operand.func 63),args:=#[Go.Operand.tmp 41],argTypes:=#[77] },type:=3,pos:="shift.go:32",after:=#[{ on:=6,ground:=Go.Ground.data },{ on:=5,ground:=Go.Ground.chain },{ on:=5,ground:=Go.Ground.guard }],guard:=some (5,true) }) (v:=undef) rfl (by kernel_rfl) (by kernel_rfl) (by kernel_rfl) (fun _ _ _ h=>h) (Or.inr ⟨by rfl,rfl⟩) hHeld ?_
        try simp only [Act.put,List.setIfInBounds_toArray,List.set_cons_zero,List.set_cons_succ]
        refine wpAnyH_take (i:=8) (oi:={ dst:=some 43,op:=Go.Op.fieldAddr 77 (Go.Operand.tmp 3) 2,type:=0,pos:="shift.go:32",after:=#[{ on:=5,ground:=Go.Ground.guard }],guard:=some (5,true) }) (v:=undef) rfl (by kernel_rfl) (by kernel_rfl) (by kernel_rfl) (fun _ _ _ h=>h) (Or.inr ⟨by rfl,rfl⟩) hHeld ?_
        try simp only [Act.put,List.setIfInBounds_toArray,List.set_cons_zero,List.set_cons_succ]
        refine wpAnyH_take (i:=9) (oi:={ dst:=some 44,op:=Go.Op.load 3 (Go.Operand.tmp 43),type:=3,pos:="shift.go:32",after:=#[{ on:=8,ground:=Go.Ground.data },{ on:=5,ground:=Go.Ground.guard }],guard:=some (5,true) }) (v:=undef) rfl (by kernel_rfl) (by kernel_rfl) (by kernel_rfl) (fun _ _ _ h=>h) (Or.inr ⟨by rfl,rfl⟩) hHeld ?_
        try simp only [Act.put,List.setIfInBounds_toArray,List.set_cons_zero,List.set_cons_succ]
        refine wpAnyH_take (i:=10) (oi:={ dst:=some 45,op:=Go.Op.binOp Go.BinOp.lss 3 (Go.Operand.tmp 42) (Go.Operand.tmp 44) 3,type:=4,pos:="shift.go:32",after:=#[{ on:=7,ground:=Go.Ground.data },{ on:=9,ground:=Go.Ground.data },{ on:=5,ground:=Go.Ground.guard }],guard:=some (5,true) }) (v:=undef) rfl (by kernel_rfl) (by kernel_rfl) (by kernel_rfl) (fun _ _ _ h=>h) (Or.inr ⟨by rfl,rfl⟩) hHeld ?_
        try simp only [Act.put,List.setIfInBounds_toArray,List.set_cons_zero,List.set_cons_succ]
        refine wpAnyH_take (i:=11) (oi:={ dst:=some 46,op:=Go.Op.pick (Go.Operand.tmp 40) (Go.Operand.tmp 45) (Go.Operand.const (Go.Value.bool false)),type:=4,pos:="shift.go:32",after:=#[{ on:=5,ground:=Go.Ground.data },{ on:=10,ground:=Go.Ground.data }],guard:=none }) (v:=?_) rfl (by kernel_rfl) (by kernel_rfl) (by kernel_rfl) (fun _ _ _ h=>h) (Or.inl ⟨by rfl,?_⟩) hHeld ?_
        rotate_left 1
        · intro W hSw;have c1r:=(hSw.block _ (Array.getElem?_eq_some_iff.1 H1V.out).1).trans H1V.out;obtain ⟨c0,c1,c2,c3,c4,c5⟩:=ch_cells c1r;dsimp only at c0 c1 c2 c3 c4 c5;go_simp;try with_reducible rfl
        try simp only [Act.put,List.setIfInBounds_toArray,List.set_cons_zero,List.set_cons_succ]
        refine wpAnyH_done (by kernel_rfl) ?_ _
        refine hK0 _ _ ?_
        clear hK0
        have H2:=Lib.hid (hH2.out _ h5.out)
        have H4:=Lib.hid (hH4.out _ h5.out)
        have HB:=Lib.hid (hBW.out _ h5.out)
        have HS:=Lib.hid (Below.size h5.out)
        have HV:=Lib.hid (fun k (hk:k < V.heap.size)=>Below.block h5.out k hk)
        have s1:=hVs.out
        have s2:=ZS.out
        have s3:=VS.out
        have s4:=YS.out
        generalize V.drewN (1 + k5) = W5 at *
        obtain ⟨b0,b1,b2,b3,b4,b5,b6,b7,b8,b9,b10⟩:=op_cells H4.out
        have bf:=op_frozen H4.out
        have y2:=H2.out
        unfold zero11 at y2
        obtain ⟨q0,q1,q2,q3,q4,q5,q6,q7,q8,q9,q10,qf⟩:=eleven_cells y2
        dsimp only at b0 b1 b2 b3 b4 b5 b6 b7 b8 b9 b10
        clear y2
        go_wp2_with fail
        obtain ⟨W9,hW9,R9,B9,Z9,K9⟩:=end_op (o:=⟨3,toV ⟨true,fr,chd,true,tp,gp⟩ ++ [m],chd,plainR ⟨true,fr,chd,true,tp,gp⟩ fr.reverse,0,false,[],[],[],false,[]⟩) (s:=⟨yA,yn,yc,tA,tn,tc,none,0,0⟩) (r:=w.heap.size + 1) (by omega) HB.out (show W5.heap[w.heap.size + 1]? = some (.cells #[.int .u8 0,.slice none 0 0,.int .i64 0,.slice none 0 0,.int .u64 0,.bool false,.string ⟨#[]⟩,.string ⟨#[]⟩,.string ⟨#[]⟩,.bool false,.slice none 0 0] _ (0,0)) from H2.out)
        have hW9':W9 = (((((((((((W5.setCell ⟨w.heap.size + 1,0,none⟩ (.int .u8 3)).setCell ⟨w.heap.size + 1,1,none⟩ (.slice yA yn yc)).setCell ⟨w.heap.size + 1,2,none⟩ (.int .i64 (chd))).setCell ⟨w.heap.size + 1,3,none⟩ (.slice tA tn tc)).setCell ⟨w.heap.size + 1,4,none⟩ (.int .u64 0)).setCell ⟨w.heap.size + 1,5,none⟩ (.bool false)).setCell ⟨w.heap.size + 1,6,none⟩ (.string ⟨#[]⟩)).setCell ⟨w.heap.size + 1,7,none⟩ (.string ⟨#[]⟩)).setCell ⟨w.heap.size + 1,8,none⟩ (.string ⟨#[]⟩)).setCell ⟨w.heap.size + 1,9,none⟩ (.bool false)).setCell ⟨w.heap.size + 1,10,none⟩ (.slice none 0 0)):=hW9
        rw [← hW9']
        clear hW9' hW9
        unfold opCells at R9
        clear q0 q1 q2 q3 q4 q5 q6 q7 q8 q9 q10 qf
        obtain ⟨d0,d1,d2,d3,d4,d5,d6,d7,d8,d9,d10,df⟩:=eleven_cells R9
        refine bodyPost_ret (v:=.agg (opCells ⟨3,toV ⟨true,fr,chd,true,tp,gp⟩ ++ [m],chd,plainR ⟨true,fr,chd,true,tp,gp⟩ fr.reverse,0,false,[],[],[],false,[]⟩ ⟨yA,yn,yc,tA,tn,tc,none,0,0⟩)) (by simp [results,Try.results22,go_sem,d0,d1,d2,d3,d4,d5,d6,d7,d8,d9,d10,opCells]) rfl ?_
        rw [hback1.out]
        have keep:=Lib.hid (show ∀ k,k ≠ w.heap.size + 1→k ≠ w1.heap.size + 1→k < V.heap.size→W9.heap[k]? = V.heap[k]? from fun k k1 k2 k3=>(K9 k k1).trans ((HV.out k k3)))
        exact ⟨⟨yA,yn,yc,tA,tn,tc,none,0,0⟩,rfl,⟨own_mono (Top.own_kept O1.out (w':=W9) fun k hk1 hk2=>(keep.out k (by omega) (by omega) (by omega)).trans ((VK.out k (by omega)).trans ((E2.out.block k (by omega)).trans (ZK.out k (by omega))))) (by omega),own_mono (Top.own_kept O2.out (w':=W9) fun k hk1 hk2=>(keep.out k (by omega) (by omega) (by omega)).trans (VK.out k (by omega))) (by omega),OwnQ.nil_ _ _⟩,B9⟩
      | true =>
        by_cases hlt:m < chd
        · have hback1:=Lib.hid (show undoV ⟨true,fr,chd,true,tp,gp⟩ = ⟨3,toV ⟨true,fr,chd,true,tp,gp⟩ ++ [m],wrap64 (chd + 1),plainR ⟨true,fr,chd,true,tp,gp⟩ fr.reverse,0,false,[],[],[],false,[]⟩ by rw [hback.out];simp [hlt])
          rename_i K0 hK0
          refine wp_region_held_drew (S:=fun W=>Below V.heap.size V W) (by kernel_rfl) ((Below.refl V.heap.size V).drew) (fun hHeld=>?_)
          refine wpAnyH_take (i:=0) (oi:={ dst:=some 35,op:=Go.Op.fieldAddr 77 (Go.Operand.tmp 3) 1,type:=0,pos:="shift.go:32",after:=#[],guard:=none }) (v:=?_) rfl (by kernel_rfl) (by kernel_rfl) (by kernel_rfl) (fun _ _ _ h=>h) (Or.inl ⟨by rfl,?_⟩) hHeld ?_
          rotate_left 1
          · intro W hSw;have c1r:=(hSw.block _ (Array.getElem?_eq_some_iff.1 H1V.out).1).trans H1V.out;obtain ⟨c0,c1,c2,c3,c4,c5⟩:=ch_cells c1r;dsimp only at c0 c1 c2 c3 c4 c5;go_simp;try with_reducible rfl
          try simp only [Act.put,List.setIfInBounds_toArray,List.set_cons_zero,List.set_cons_succ]
          refine wpAnyH_take (i:=1) (oi:={ dst:=some 36,op:=Go.Op.load 22 (Go.Operand.tmp 35),type:=22,pos:="shift.go:32",after:=#[{ on:=0,ground:=Go.Ground.data }],guard:=none }) (v:=?_) rfl (by kernel_rfl) (by kernel_rfl) (by kernel_rfl) (fun _ _ _ h=>h) (Or.inl ⟨by rfl,?_⟩) hHeld ?_
          rotate_left 1
          · intro W hSw;have c1r:=(hSw.block _ (Array.getElem?_eq_some_iff.1 H1V.out).1).trans H1V.out;obtain ⟨c0,c1,c2,c3,c4,c5⟩:=ch_cells c1r;dsimp only at c0 c1 c2 c3 c4 c5;go_simp;try with_reducible rfl
          try simp only [Act.put,List.setIfInBounds_toArray,List.set_cons_zero,List.set_cons_succ]
          refine wpAnyH_take (i:=2) (oi:={ dst:=some 37,op:=Go.Op.fieldAddr 77 (Go.Operand.tmp 3) 4,type:=0,pos:="shift.go:32",after:=#[],guard:=none }) (v:=?_) rfl (by kernel_rfl) (by kernel_rfl) (by kernel_rfl) (fun _ _ _ h=>h) (Or.inl ⟨by rfl,?_⟩) hHeld ?_
          rotate_left 1
          · intro W hSw;have c1r:=(hSw.block _ (Array.getElem?_eq_some_iff.1 H1V.out).1).trans H1V.out;obtain ⟨c0,c1,c2,c3,c4,c5⟩:=ch_cells c1r;dsimp only at c0 c1 c2 c3 c4 c5;go_simp;try with_reducible rfl
          try simp only [Act.put,List.setIfInBounds_toArray,List.set_cons_zero,List.set_cons_succ]
          refine wpAnyH_take (i:=3) (oi:={ dst:=some 38,op:=Go.Op.load 22 (Go.Operand.tmp 37),type:=22,pos:="shift.go:32",after:=#[{ on:=2,ground:=Go.Ground.data }],guard:=none }) (v:=?_) rfl (by kernel_rfl) (by kernel_rfl) (by kernel_rfl) (fun _ _ _ h=>h) (Or.inl ⟨by rfl,?_⟩) hHeld ?_
          rotate_left 1
          · intro W hSw;have c1r:=(hSw.block _ (Array.getElem?_eq_some_iff.1 H1V.out).1).trans H1V.out;obtain ⟨c0,c1,c2,c3,c4,c5⟩:=ch_cells c1r;dsimp only at c0 c1 c2 c3 c4 c5;go_simp;try with_reducible rfl
          try simp only [Act.put,List.setIfInBounds_toArray,List.set_cons_zero,List.set_cons_succ]
          refine wpAnyH_ready (rs:=[4]) (by kernel_rfl) (by simp) ?_
          refine AllReadyH.cons (o:={ dst:=some 39,op:=Go.Op.call { callee:=Go.Callee.value (Go.Operand.func 62),args:=#[Go.Operand.tmp 36,Go.Operand.tmp 38],argTypes:=#[22,22] },type:=4,pos:="shift.go:32",after:=#[{ on:=1,ground:=Go.Ground.data },{ on:=3,ground:=Go.Ground.data }],guard:=none }) rfl (fun K hK=>?_) AllReadyH.nil
          go_simp
          refine (hsame.out _ hHeld).mono ?_
          rintro e w5 ⟨rfl,k5,rfl⟩
          have h5:=Lib.hid (draws (Below.refl V.heap.size V) (1 + k5))
          go_simp
          refine hK.out _ _ ?_ (fun hNew=>?_)
          · exact h5.out
          clear hK K hHeld
          have hHeld:=hNew
          clear hNew
          try simp only [Act.put,List.setIfInBounds_toArray,List.set_cons_zero,List.set_cons_succ]
          refine wpAnyH_take (i:=5) (oi:={ dst:=some 40,op:=Go.Op.move (Go.Operand.tmp 39),type:=4,pos:="shift.go:32",after:=#[{ on:=4,ground:=Go.Ground.data },{ on:=4,ground:=Go.Ground.chain }],guard:=none }) (v:=?_) rfl (by kernel_rfl) (by kernel_rfl) (by kernel_rfl) (fun _ _ _ h=>h) (Or.inl ⟨by rfl,?_⟩) hHeld ?_
          rotate_left 1
          · intro W hSw;have c1r:=(hSw.block _ (Array.getElem?_eq_some_iff.1 H1V.out).1).trans H1V.out;obtain ⟨c0,c1,c2,c3,c4,c5⟩:=ch_cells c1r;dsimp only at c0 c1 c2 c3 c4 c5;go_simp;try with_reducible rfl
          try simp only [Act.put,List.setIfInBounds_toArray,List.set_cons_zero,List.set_cons_succ]
          refine wpAnyH_take (i:=6) (oi:={ dst:=some 41,op:=Go.Op.load 77 (Go.Operand.tmp 3),type:=77,pos:="shift.go:32",after:=#[{ on:=5,ground:=Go.Ground.guard }],guard:=some (5,true) }) (v:=?_) rfl (by kernel_rfl) (by kernel_rfl) (by kernel_rfl) (fun _ _ _ h=>h) (Or.inl ⟨by rfl,?_⟩) hHeld ?_
          rotate_left 1
          · intro W hSw;have c1r:=(hSw.block _ (Array.getElem?_eq_some_iff.1 H1V.out).1).trans H1V.out;obtain ⟨c0,c1,c2,c3,c4,c5⟩:=ch_cells c1r;dsimp only at c0 c1 c2 c3 c4 c5;go_simp;try with_reducible rfl
          try simp only [Act.put,List.setIfInBounds_toArray,List.set_cons_zero,List.set_cons_succ]
          refine wpAnyH_take (i:=8) (oi:={ dst:=some 43,op:=Go.Op.fieldAddr 77 (Go.Operand.tmp 3) 2,type:=0,pos:="shift.go:32",after:=#[{ on:=5,ground:=Go.Ground.guard }],guard:=some (5,true) }) (v:=?_) rfl (by kernel_rfl) (by kernel_rfl) (by kernel_rfl) (fun _ _ _ h=>h) (Or.inl ⟨by rfl,?_⟩) hHeld ?_
          rotate_left 1
          · intro W hSw;have c1r:=(hSw.block _ (Array.getElem?_eq_some_iff.1 H1V.out).1).trans H1V.out;obtain ⟨c0,c1,c2,c3,c4,c5⟩:=ch_cells c1r;dsimp only at c0 c1 c2 c3 c4 c5;go_simp;try with_reducible rfl
          try simp only [Act.put,List.setIfInBounds_toArray,List.set_cons_zero,List.set_cons_succ]
          refine wpAnyH_take (i:=9) (oi:={ dst:=some 44,op:=Go.Op.load 3 (Go.Operand.tmp 43),type:=3,pos:="shift.go:32",after:=#[{ on:=8,ground:=Go.Ground.data },{ on:=5,ground:=Go.Ground.guard }],guard:=some (5,true) }) (v:=?_) rfl (by kernel_rfl) (by kernel_rfl) (by kernel_rfl) (fun _ _ _ h=>h) (Or.inl ⟨by rfl,?_⟩) hHeld ?_
          rotate_left 1
          · intro W hSw;have c1r:=(hSw.block _ (Array.getElem?_eq_some_iff.1 H1V.out).1).trans H1V.out;obtain ⟨c0,c1,c2,c3,c4,c5⟩:=ch_cells c1r;dsimp only at c0 c1 c2 c3 c4 c5;go_simp;try with_reducible rfl
          try simp only [Act.put,List.setIfInBounds_toArray,List.set_cons_zero,List.set_cons_succ]
          refine wpAnyH_ready (rs:=[7]) (by kernel_rfl) (by simp) ?_
          refine AllReadyH.cons (o:={ dst:=some 42,op:=Go.Op.call { callee:=Go.Callee.value (Go.Operand.func 63),args:=#[Go.Operand.tmp 41],argTypes:=#[77] },type:=3,pos:="shift.go:32",after:=#[{ on:=6,ground:=Go.Ground.data },{ on:=5,ground:=Go.Ground.chain },{ on:=5,ground:=Go.Ground.guard }],guard:=some (5,true) }) rfl (fun K hK=>?_) AllReadyH.nil
          go_simp
          refine (hland.out _ hHeld).mono ?_
          rintro e w6 ⟨rfl,hb6⟩
          have h6:=Lib.hid (hHeld.trans (hb6.mono hHeld.size))
          go_simp
          refine hK.out _ _ ?_ (fun hNew=>?_)
          · exact h6.out
          clear hK K hHeld
          have hHeld:=hNew
          clear hNew
          try simp only [Act.put,List.setIfInBounds_toArray,List.set_cons_zero,List.set_cons_succ]
          refine wpAnyH_take (i:=10) (oi:={ dst:=some 45,op:=Go.Op.binOp Go.BinOp.lss 3 (Go.Operand.tmp 42) (Go.Operand.tmp 44) 3,type:=4,pos:="shift.go:32",after:=#[{ on:=7,ground:=Go.Ground.data },{ on:=9,ground:=Go.Ground.data },{ on:=5,ground:=Go.Ground.guard }],guard:=some (5,true) }) (v:=?_) rfl (by kernel_rfl) (by kernel_rfl) (by kernel_rfl) (fun _ _ _ h=>h) (Or.inl ⟨by rfl,?_⟩) hHeld ?_
          rotate_left 1
          · intro W hSw;have c1r:=(hSw.block _ (Array.getElem?_eq_some_iff.1 H1V.out).1).trans H1V.out;obtain ⟨c0,c1,c2,c3,c4,c5⟩:=ch_cells c1r;dsimp only at c0 c1 c2 c3 c4 c5;go_simp;try with_reducible rfl
          try simp only [Act.put,List.setIfInBounds_toArray,List.set_cons_zero,List.set_cons_succ]
          refine wpAnyH_take (i:=11) (oi:={ dst:=some 46,op:=Go.Op.pick (Go.Operand.tmp 40) (Go.Operand.tmp 45) (Go.Operand.const (Go.Value.bool false)),type:=4,pos:="shift.go:32",after:=#[{ on:=5,ground:=Go.Ground.data },{ on:=10,ground:=Go.Ground.data }],guard:=none }) (v:=?_) rfl (by kernel_rfl) (by kernel_rfl) (by kernel_rfl) (fun _ _ _ h=>h) (Or.inl ⟨by rfl,?_⟩) hHeld ?_
          rotate_left 1
          · intro W hSw;have c1r:=(hSw.block _ (Array.getElem?_eq_some_iff.1 H1V.out).1).trans H1V.out;obtain ⟨c0,c1,c2,c3,c4,c5⟩:=ch_cells c1r;dsimp only at c0 c1 c2 c3 c4 c5;go_simp;try with_reducible rfl
          try simp only [Act.put,List.setIfInBounds_toArray,List.set_cons_zero,List.set_cons_succ]
          refine wpAnyH_done (by kernel_rfl) ?_ _
          refine hK0 _ _ ?_
          clear hK0
          have H2:=Lib.hid (hH2.out _ h6.out)
          have H4:=Lib.hid (hH4.out _ h6.out)
          have HB:=Lib.hid (hBW.out _ h6.out)
          have HS:=Lib.hid (Below.size h6.out)
          have HV:=Lib.hid (fun k (hk:k < V.heap.size)=>Below.block h6.out k hk)
          have s1:=hVs.out
          have s2:=ZS.out
          have s3:=VS.out
          have s4:=YS.out
          obtain ⟨b0,b1,b2,b3,b4,b5,b6,b7,b8,b9,b10⟩:=op_cells H4.out
          have bf:=op_frozen H4.out
          have y2:=H2.out
          unfold zero11 at y2
          obtain ⟨q0,q1,q2,q3,q4,q5,q6,q7,q8,q9,q10,qf⟩:=eleven_cells y2
          dsimp only at b0 b1 b2 b3 b4 b5 b6 b7 b8 b9 b10
          clear y2
          go_wp2_with fail
          obtain ⟨U,hU⟩:∃ Q9,Q9 = w6.setCell ⟨w1.heap.size + 1,2,none⟩ (.int .i64 (wrap64 (chd + 1))):=⟨_,rfl⟩
          rw [← hU]
          have UK:=Lib.hid (show ∀ k,k ≠ w1.heap.size + 1→U.heap[k]? = w6.heap[k]? by intro k hk;rw [hU];exact heap_setCell_other _ _ k _ hk)
          have H2U:=Lib.hid ((UK.out _ (by omega)).trans H2.out)
          have HBU:=Lib.hid (show Below w.heap.size w U by rw [hU];exact HB.out.setCell (p:=⟨w1.heap.size + 1,2,none⟩) (by show w.heap.size≤w1.heap.size + 1;omega) _)
          clear hU
          obtain ⟨W9,hW9,R9,B9,Z9,K9⟩:=end_op (o:=⟨3,toV ⟨true,fr,chd,true,tp,gp⟩ ++ [m],wrap64 (chd + 1),plainR ⟨true,fr,chd,true,tp,gp⟩ fr.reverse,0,false,[],[],[],false,[]⟩) (s:=⟨yA,yn,yc,tA,tn,tc,none,0,0⟩) (r:=w.heap.size + 1) (by omega) HBU.out (show U.heap[w.heap.size + 1]? = some (.cells #[.int .u8 0,.slice none 0 0,.int .i64 0,.slice none 0 0,.int .u64 0,.bool false,.string ⟨#[]⟩,.string ⟨#[]⟩,.string ⟨#[]⟩,.bool false,.slice none 0 0] _ (0,0)) from H2U.out)
          have hW9':W9 = (((((((((((U.setCell ⟨w.heap.size + 1,0,none⟩ (.int .u8 3)).setCell ⟨w.heap.size + 1,1,none⟩ (.slice yA yn yc)).setCell ⟨w.heap.size + 1,2,none⟩ (.int .i64 (wrap64 (chd + 1)))).setCell ⟨w.heap.size + 1,3,none⟩ (.slice tA tn tc)).setCell ⟨w.heap.size + 1,4,none⟩ (.int .u64 0)).setCell ⟨w.heap.size + 1,5,none⟩ (.bool false)).setCell ⟨w.heap.size + 1,6,none⟩ (.string ⟨#[]⟩)).setCell ⟨w.heap.size + 1,7,none⟩ (.string ⟨#[]⟩)).setCell ⟨w.heap.size + 1,8,none⟩ (.string ⟨#[]⟩)).setCell ⟨w.heap.size + 1,9,none⟩ (.bool false)).setCell ⟨w.heap.size + 1,10,none⟩ (.slice none 0 0)):=hW9
          rw [← hW9']
          clear hW9' hW9
          unfold opCells at R9
          clear q0 q1 q2 q3 q4 q5 q6 q7 q8 q9 q10 qf
          obtain ⟨d0,d1,d2,d3,d4,d5,d6,d7,d8,d9,d10,df⟩:=eleven_cells R9
          refine bodyPost_ret (v:=.agg (opCells ⟨3,toV ⟨true,fr,chd,true,tp,gp⟩ ++ [m],wrap64 (chd + 1),plainR ⟨true,fr,chd,true,tp,gp⟩ fr.reverse,0,false,[],[],[],false,[]⟩ ⟨yA,yn,yc,tA,tn,tc,none,0,0⟩)) (by simp [results,Try.results22,go_sem,d0,d1,d2,d3,d4,d5,d6,d7,d8,d9,d10,opCells]) rfl ?_
          rw [hback1.out]
          have keep:=Lib.hid (show ∀ k,k ≠ w.heap.size + 1→k ≠ w1.heap.size + 1→k < V.heap.size→W9.heap[k]? = V.heap[k]? from fun k k1 k2 k3=>(K9 k k1).trans ((UK.out k k2).trans (HV.out k k3)))
          exact ⟨⟨yA,yn,yc,tA,tn,tc,none,0,0⟩,rfl,⟨own_mono (Top.own_kept O1.out (w':=W9) fun k hk1 hk2=>(keep.out k (by omega) (by omega) (by omega)).trans ((VK.out k (by omega)).trans ((E2.out.block k (by omega)).trans (ZK.out k (by omega))))) (by omega),own_mono (Top.own_kept O2.out (w':=W9) fun k hk1 hk2=>(keep.out k (by omega) (by omega) (by omega)).trans (VK.out k (by omega))) (by omega),OwnQ.nil_ _ _⟩,B9⟩
        · have hback1:=Lib.hid (show undoV ⟨true,fr,chd,true,tp,gp⟩ = ⟨3,toV ⟨true,fr,chd,true,tp,gp⟩ ++ [m],chd,plainR ⟨true,fr,chd,true,tp,gp⟩ fr.reverse,0,false,[],[],[],false,[]⟩ by rw [hback.out];simp [hlt])
          rename_i K0 hK0
          refine wp_region_held_drew (S:=fun W=>Below V.heap.size V W) (by kernel_rfl) ((Below.refl V.heap.size V).drew) (fun hHeld=>?_)
          refine wpAnyH_take (i:=0) (oi:={ dst:=some 35,op:=Go.Op.fieldAddr 77 (Go.Operand.tmp 3) 1,type:=0,pos:="shift.go:32",after:=#[],guard:=none }) (v:=?_) rfl (by kernel_rfl) (by kernel_rfl) (by kernel_rfl) (fun _ _ _ h=>h) (Or.inl ⟨by rfl,?_⟩) hHeld ?_
          rotate_left 1
          · intro W hSw;have c1r:=(hSw.block _ (Array.getElem?_eq_some_iff.1 H1V.out).1).trans H1V.out;obtain ⟨c0,c1,c2,c3,c4,c5⟩:=ch_cells c1r;dsimp only at c0 c1 c2 c3 c4 c5;go_simp;try with_reducible rfl
          try simp only [Act.put,List.setIfInBounds_toArray,List.set_cons_zero,List.set_cons_succ]
          refine wpAnyH_take (i:=1) (oi:={ dst:=some 36,op:=Go.Op.load 22 (Go.Operand.tmp 35),type:=22,pos:="shift.go:32",after:=#[{ on:=0,ground:=Go.Ground.data }],guard:=none }) (v:=?_) rfl (by kernel_rfl) (by kernel_rfl) (by kernel_rfl) (fun _ _ _ h=>h) (Or.inl ⟨by rfl,?_⟩) hHeld ?_
          rotate_left 1
          · intro W hSw;have c1r:=(hSw.block _ (Array.getElem?_eq_some_iff.1 H1V.out).1).trans H1V.out;obtain ⟨c0,c1,c2,c3,c4,c5⟩:=ch_cells c1r;dsimp only at c0 c1 c2 c3 c4 c5;go_simp;try with_reducible rfl
          try simp only [Act.put,List.setIfInBounds_toArray,List.set_cons_zero,List.set_cons_succ]
          refine wpAnyH_take (i:=2) (oi:={ dst:=some 37,op:=Go.Op.fieldAddr 77 (Go.Operand.tmp 3) 4,type:=0,pos:="shift.go:32",after:=#[],guard:=none }) (v:=?_) rfl (by kernel_rfl) (by kernel_rfl) (by kernel_rfl) (fun _ _ _ h=>h) (Or.inl ⟨by rfl,?_⟩) hHeld ?_
          rotate_left 1
          · intro W hSw;have c1r:=(hSw.block _ (Array.getElem?_eq_some_iff.1 H1V.out).1).trans H1V.out;obtain ⟨c0,c1,c2,c3,c4,c5⟩:=ch_cells c1r;dsimp only at c0 c1 c2 c3 c4 c5;go_simp;try with_reducible rfl
          try simp only [Act.put,List.setIfInBounds_toArray,List.set_cons_zero,List.set_cons_succ]
          refine wpAnyH_take (i:=3) (oi:={ dst:=some 38,op:=Go.Op.load 22 (Go.Operand.tmp 37),type:=22,pos:="shift.go:32",after:=#[{ on:=2,ground:=Go.Ground.data }],guard:=none }) (v:=?_) rfl (by kernel_rfl) (by kernel_rfl) (by kernel_rfl) (fun _ _ _ h=>h) (Or.inl ⟨by rfl,?_⟩) hHeld ?_
          rotate_left 1
          · intro W hSw;have c1r:=(hSw.block _ (Array.getElem?_eq_some_iff.1 H1V.out).1).trans H1V.out;obtain ⟨c0,c1,c2,c3,c4,c5⟩:=ch_cells c1r;dsimp only at c0 c1 c2 c3 c4 c5;go_simp;try with_reducible rfl
          try simp only [Act.put,List.setIfInBounds_toArray,List.set_cons_zero,List.set_cons_succ]
          refine wpAnyH_ready (rs:=[4]) (by kernel_rfl) (by simp) ?_
          refine AllReadyH.cons (o:={ dst:=some 39,op:=Go.Op.call { callee:=Go.Callee.value (Go.Operand.func 62),args:=#[Go.Operand.tmp 36,Go.Operand.tmp 38],argTypes:=#[22,22] },type:=4,pos:="shift.go:32",after:=#[{ on:=1,ground:=Go.Ground.data },{ on:=3,ground:=Go.Ground.data }],guard:=none }) rfl (fun K hK=>?_) AllReadyH.nil
          go_simp
          refine (hsame.out _ hHeld).mono ?_
          rintro e w5 ⟨rfl,k5,rfl⟩
          have h5:=Lib.hid (draws (Below.refl V.heap.size V) (1 + k5))
          go_simp
          refine hK.out _ _ ?_ (fun hNew=>?_)
          · exact h5.out
          clear hK K hHeld
          have hHeld:=hNew
          clear hNew
          try simp only [Act.put,List.setIfInBounds_toArray,List.set_cons_zero,List.set_cons_succ]
          refine wpAnyH_take (i:=5) (oi:={ dst:=some 40,op:=Go.Op.move (Go.Operand.tmp 39),type:=4,pos:="shift.go:32",after:=#[{ on:=4,ground:=Go.Ground.data },{ on:=4,ground:=Go.Ground.chain }],guard:=none }) (v:=?_) rfl (by kernel_rfl) (by kernel_rfl) (by kernel_rfl) (fun _ _ _ h=>h) (Or.inl ⟨by rfl,?_⟩) hHeld ?_
          rotate_left 1
          · intro W hSw;have c1r:=(hSw.block _ (Array.getElem?_eq_some_iff.1 H1V.out).1).trans H1V.out;obtain ⟨c0,c1,c2,c3,c4,c5⟩:=ch_cells c1r;dsimp only at c0 c1 c2 c3 c4 c5;go_simp;try with_reducible rfl
          try simp only [Act.put,List.setIfInBounds_toArray,List.set_cons_zero,List.set_cons_succ]
          refine wpAnyH_take (i:=6) (oi:={ dst:=some 41,op:=Go.Op.load 77 (Go.Operand.tmp 3),type:=77,pos:="shift.go:32",after:=#[{ on:=5,ground:=Go.Ground.guard }],guard:=some (5,true) }) (v:=?_) rfl (by kernel_rfl) (by kernel_rfl) (by kernel_rfl) (fun _ _ _ h=>h) (Or.inl ⟨by rfl,?_⟩) hHeld ?_
          rotate_left 1
          · intro W hSw;have c1r:=(hSw.block _ (Array.getElem?_eq_some_iff.1 H1V.out).1).trans H1V.out;obtain ⟨c0,c1,c2,c3,c4,c5⟩:=ch_cells c1r;dsimp only at c0 c1 c2 c3 c4 c5;go_simp;try with_reducible rfl
          try simp only [Act.put,List.setIfInBounds_toArray,List.set_cons_zero,List.set_cons_succ]
          refine wpAnyH_take (i:=8) (oi:={ dst:=some 43,op:=Go.Op.fieldAddr 77 (Go.Operand.tmp 3) 2,type:=0,pos:="shift.go:32",after:=#[{ on:=5,ground:=Go.Ground.guard }],guard:=some (5,true) }) (v:=?_) rfl (by kernel_rfl) (by kernel_rfl) (by kernel_rfl) (fun _ _ _ h=>h) (Or.inl ⟨by rfl,?_⟩) hHeld ?_
          rotate_left 1
          · intro W hSw;have c1r:=(hSw.block _ (Array.getElem?_eq_some_iff.1 H1V.out).1).trans H1V.out;obtain ⟨c0,c1,c2,c3,c4,c5⟩:=ch_cells c1r;dsimp only at c0 c1 c2 c3 c4 c5;go_simp;try with_reducible rfl
          try simp only [Act.put,List.setIfInBounds_toArray,List.set_cons_zero,List.set_cons_succ]
          refine wpAnyH_take (i:=9) (oi:={ dst:=some 44,op:=Go.Op.load 3 (Go.Operand.tmp 43),type:=3,pos:="shift.go:32",after:=#[{ on:=8,ground:=Go.Ground.data },{ on:=5,ground:=Go.Ground.guard }],guard:=some (5,true) }) (v:=?_) rfl (by kernel_rfl) (by kernel_rfl) (by kernel_rfl) (fun _ _ _ h=>h) (Or.inl ⟨by rfl,?_⟩) hHeld ?_
          rotate_left 1
          · intro W hSw;have c1r:=(hSw.block _ (Array.getElem?_eq_some_iff.1 H1V.out).1).trans H1V.out;obtain ⟨c0,c1,c2,c3,c4,c5⟩:=ch_cells c1r;dsimp only at c0 c1 c2 c3 c4 c5;go_simp;try with_reducible rfl
          try simp only [Act.put,List.setIfInBounds_toArray,List.set_cons_zero,List.set_cons_succ]
          refine wpAnyH_ready (rs:=[7]) (by kernel_rfl) (by simp) ?_
          refine AllReadyH.cons (o:={ dst:=some 42,op:=Go.Op.call { callee:=Go.Callee.value (Go.Operand.func 63),args:=#[Go.Operand.tmp 41],argTypes:=#[77] },type:=3,pos:="shift.go:32",after:=#[{ on:=6,ground:=Go.Ground.data },{ on:=5,ground:=Go.Ground.chain },{ on:=5,ground:=Go.Ground.guard }],guard:=some (5,true) }) rfl (fun K hK=>?_) AllReadyH.nil
          go_simp
          refine (hland.out _ hHeld).mono ?_
          rintro e w6 ⟨rfl,hb6⟩
          have h6:=Lib.hid (hHeld.trans (hb6.mono hHeld.size))
          go_simp
          refine hK.out _ _ ?_ (fun hNew=>?_)
          · exact h6.out
          clear hK K hHeld
          have hHeld:=hNew
          clear hNew
          try simp only [Act.put,List.setIfInBounds_toArray,List.set_cons_zero,List.set_cons_succ]
          refine wpAnyH_take (i:=10) (oi:={ dst:=some 45,op:=Go.Op.binOp Go.BinOp.lss 3 (Go.Operand.tmp 42) (Go.Operand.tmp 44) 3,type:=4,pos:="shift.go:32",after:=#[{ on:=7,ground:=Go.Ground.data },{ on:=9,ground:=Go.Ground.data },{ on:=5,ground:=Go.Ground.guard }],guard:=some (5,true) }) (v:=?_) rfl (by kernel_rfl) (by kernel_rfl) (by kernel_rfl) (fun _ _ _ h=>h) (Or.inl ⟨by rfl,?_⟩) hHeld ?_
          rotate_left 1
          · intro W hSw;have c1r:=(hSw.block _ (Array.getElem?_eq_some_iff.1 H1V.out).1).trans H1V.out;obtain ⟨c0,c1,c2,c3,c4,c5⟩:=ch_cells c1r;dsimp only at c0 c1 c2 c3 c4 c5;go_simp;try with_reducible rfl
          try simp only [Act.put,List.setIfInBounds_toArray,List.set_cons_zero,List.set_cons_succ]
          refine wpAnyH_take (i:=11) (oi:={ dst:=some 46,op:=Go.Op.pick (Go.Operand.tmp 40) (Go.Operand.tmp 45) (Go.Operand.const (Go.Value.bool false)),type:=4,pos:="shift.go:32",after:=#[{ on:=5,ground:=Go.Ground.data },{ on:=10,ground:=Go.Ground.data }],guard:=none }) (v:=?_) rfl (by kernel_rfl) (by kernel_rfl) (by kernel_rfl) (fun _ _ _ h=>h) (Or.inl ⟨by rfl,?_⟩) hHeld ?_
          rotate_left 1
          · intro W hSw;have c1r:=(hSw.block _ (Array.getElem?_eq_some_iff.1 H1V.out).1).trans H1V.out;obtain ⟨c0,c1,c2,c3,c4,c5⟩:=ch_cells c1r;dsimp only at c0 c1 c2 c3 c4 c5;go_simp;try with_reducible rfl
          try simp only [Act.put,List.setIfInBounds_toArray,List.set_cons_zero,List.set_cons_succ]
          refine wpAnyH_done (by kernel_rfl) ?_ _
          refine hK0 _ _ ?_
          clear hK0
          have H2:=Lib.hid (hH2.out _ h6.out)
          have H4:=Lib.hid (hH4.out _ h6.out)
          have HB:=Lib.hid (hBW.out _ h6.out)
          have HS:=Lib.hid (Below.size h6.out)
          have HV:=Lib.hid (fun k (hk:k < V.heap.size)=>Below.block h6.out k hk)
          have s1:=hVs.out
          have s2:=ZS.out
          have s3:=VS.out
          have s4:=YS.out
          obtain ⟨b0,b1,b2,b3,b4,b5,b6,b7,b8,b9,b10⟩:=op_cells H4.out
          have bf:=op_frozen H4.out
          have y2:=H2.out
          unfold zero11 at y2
          obtain ⟨q0,q1,q2,q3,q4,q5,q6,q7,q8,q9,q10,qf⟩:=eleven_cells y2
          dsimp only at b0 b1 b2 b3 b4 b5 b6 b7 b8 b9 b10
          clear y2
          go_wp2_with fail
          obtain ⟨W9,hW9,R9,B9,Z9,K9⟩:=end_op (o:=⟨3,toV ⟨true,fr,chd,true,tp,gp⟩ ++ [m],chd,plainR ⟨true,fr,chd,true,tp,gp⟩ fr.reverse,0,false,[],[],[],false,[]⟩) (s:=⟨yA,yn,yc,tA,tn,tc,none,0,0⟩) (r:=w.heap.size + 1) (by omega) HB.out (show w6.heap[w.heap.size + 1]? = some (.cells #[.int .u8 0,.slice none 0 0,.int .i64 0,.slice none 0 0,.int .u64 0,.bool false,.string ⟨#[]⟩,.string ⟨#[]⟩,.string ⟨#[]⟩,.bool false,.slice none 0 0] _ (0,0)) from H2.out)
          have hW9':W9 = (((((((((((w6.setCell ⟨w.heap.size + 1,0,none⟩ (.int .u8 3)).setCell ⟨w.heap.size + 1,1,none⟩ (.slice yA yn yc)).setCell ⟨w.heap.size + 1,2,none⟩ (.int .i64 (chd))).setCell ⟨w.heap.size + 1,3,none⟩ (.slice tA tn tc)).setCell ⟨w.heap.size + 1,4,none⟩ (.int .u64 0)).setCell ⟨w.heap.size + 1,5,none⟩ (.bool false)).setCell ⟨w.heap.size + 1,6,none⟩ (.string ⟨#[]⟩)).setCell ⟨w.heap.size + 1,7,none⟩ (.string ⟨#[]⟩)).setCell ⟨w.heap.size + 1,8,none⟩ (.string ⟨#[]⟩)).setCell ⟨w.heap.size + 1,9,none⟩ (.bool false)).setCell ⟨w.heap.size + 1,10,none⟩ (.slice none 0 0)):=hW9
          rw [← hW9']
          clear hW9' hW9
          unfold opCells at R9
          clear q0 q1 q2 q3 q4 q5 q6 q7 q8 q9 q10 qf
          obtain ⟨d0,d1,d2,d3,d4,d5,d6,d7,d8,d9,d10,df⟩:=eleven_cells R9
          refine bodyPost_ret (v:=.agg (opCells ⟨3,toV ⟨true,fr,chd,true,tp,gp⟩ ++ [m],chd,plainR ⟨true,fr,chd,true,tp,gp⟩ fr.reverse,0,false,[],[],[],false,[]⟩ ⟨yA,yn,yc,tA,tn,tc,none,0,0⟩)) (by simp [results,Try.results22,go_sem,d0,d1,d2,d3,d4,d5,d6,d7,d8,d9,d10,opCells]) rfl ?_
          rw [hback1.out]
          have keep:=Lib.hid (show ∀ k,k ≠ w.heap.size + 1→k ≠ w1.heap.size + 1→k < V.heap.size→W9.heap[k]? = V.heap[k]? from fun k k1 k2 k3=>(K9 k k1).trans ((HV.out k k3)))
          exact ⟨⟨yA,yn,yc,tA,tn,tc,none,0,0⟩,rfl,⟨own_mono (Top.own_kept O1.out (w':=W9) fun k hk1 hk2=>(keep.out k (by omega) (by omega) (by omega)).trans ((VK.out k (by omega)).trans ((E2.out.block k (by omega)).trans (ZK.out k (by omega))))) (by omega),own_mono (Top.own_kept O2.out (w':=W9) fun k hk1 hk2=>(keep.out k (by omega) (by omega) (by omega)).trans (VK.out k (by omega))) (by omega),OwnQ.nil_ _ _⟩,B9⟩
end Go.Proofs.Ytpoenlhikanooaa.Shf
namespace Go.Proofs.Ytpoenlhikanooaa.Shf
open Go.RowKit Top
set_option maxRecDepth 20000
set_option linter.unusedVariables false

theorem lit_fit {l:List Int} (h:(l.all fun x=>decide (-9223372036854775808≤x∧x≤9223372036854775807)) = true:=by decide):Fit l:=fun x hx=>of_decide_eq_true (List.all_eq_true.1 h x hx)
theorem lit_op {W:World} {o:Ov} {s:OS} (hk:o.kind < 256:=by decide) (hp:Its W s.pA s.pn o.path) (hp2:s.pn≤s.pc∧s.pc≤4:=by (dsimp only;decide)) (hp3:s.pA = none→s.pc = 0) (ha:-9223372036854775808≤o.at_∧o.at_≤9223372036854775807:=by decide) (ht:Its W s.tA s.tn o.to_) (ht2:s.tn≤s.tc∧s.tc≤4:=by (dsimp only;decide)) (ht3:s.tA = none→s.tc = 0)
    (hi:o.id < 18446744073709551616:=by decide) (hl:o.label.length≤4∧o.key.length≤4∧o.value.length≤4:=by decide) (hq:P5.PcsIn W s.qA s.qn o.pieces) (hq2:s.qn≤s.qc∧s.qc≤4:=by (dsimp only;decide)) (hq3:s.qA = none→s.qc = 0) (f1:Fit o.path) (f2:Fit o.to_):OpIn W o s :=
  ⟨hk,hp,hp2.1,by unfold maxLen;omega,hp3,ha,ht,ht2.1,by unfold maxLen;omega,ht3,hi,by unfold maxLen;omega,by unfold maxLen;omega,by unfold maxLen;omega,hq,hq2.1,by unfold maxLen;omega,hq3,by omega,by omega,by omega,f1,f2⟩
theorem lit_its2 {w:World} {g:Nat} {xs:List Int} {t:TypeId} (h:w.heap[g]? = some (.cells (xs.map fun x=>Value.int .i64 x).toArray t (0,0))):Its w (some ⟨g,0,none⟩) xs.length xs:=P4.Its.of_block h rfl rfl
theorem lit_pcs (W:World):P5.PcsIn W none 0 []:=P5.PcsIn.nil W
def ea:Ov:=⟨1,[0],1,[],0,false,[],[],[],false,[]⟩
def eb:Ov:=⟨2,[0,1],0,[],0,false,[],[],[],false,[]⟩
def ec:Ov:=⟨3,[0,1],0,[2],0,false,[],[],[],false,[]⟩
def ed:Ov:=⟨3,[0],1,[2],0,false,[],[],[],false,[]⟩
theorem lit_its (Z:World) (l:List Int):Its (Z.alloc (.cells (l.map P4.intV).toArray 3)) (some ⟨Z.heap.size,0,none⟩) l.length l :=
  P4.Its.of_block (heap_alloc_new Z _) rfl rfl
theorem wkN (Z:World) (o:Ov) (s:OS) (l r:List Int) (ho:OpIn Z o s) (hl:Slen o) (hn:l.length≤1000) (hv:nodeV (chV o) l = some r) :
    Calls Try.prog 17 #[.agg (opCells o s),.slice (some ⟨Z.heap.size,0,none⟩) l.length l.length] (Z.alloc (.cells (l.map P4.intV).toArray 3)) fun e w'=>∃ A c,e = .returned (.tuple #[.slice A r.length c,.bool true])∧Its w' A r.length r∧Below Z.heap.size Z w':=by
  have hb:Below Z.heap.size Z (Z.alloc (.cells (l.map P4.intV).toArray 3)):=(Below.refl _ _).alloc (Nat.le_refl _) _
  refine (Node_any _ o s _ _ _ l (ho.below hb) hl (lit_its Z l) (Nat.le_refl _) (by unfold maxLen;omega) (by omega)).mono ?_
  rw [hv]
  rintro e w' (⟨h1,-⟩ | ⟨v,xs,h1,rfl,h3,h4⟩)
  · cases h1
  · injection h1 with h1
    subst h1
    obtain ⟨A,n,c,rfl,rfl,-,-,h5,-⟩:=P4.OwnI.shape h3
    exact ⟨A,c,rfl,h5,hb.trans (h4.mono hb.size)⟩
theorem wkG (Z:World) (o:Ov) (s:OS) (l:List Int) (ho:OpIn Z o s) (hl:Slen o) (hn:l.length≤1000) (hv:nodeV (chV o) l = none) :
    Calls Try.prog 17 #[.agg (opCells o s),.slice (some ⟨Z.heap.size,0,none⟩) l.length l.length] (Z.alloc (.cells (l.map P4.intV).toArray 3)) fun e w'=>e = .returned (.tuple #[.slice none 0 0,.bool false])∧Below Z.heap.size Z w':=by
  have hb:Below Z.heap.size Z (Z.alloc (.cells (l.map P4.intV).toArray 3)):=(Below.refl _ _).alloc (Nat.le_refl _) _
  refine (Node_any _ o s _ _ _ l (ho.below hb) hl (lit_its Z l) (Nat.le_refl _) (by unfold maxLen;omega) (by omega)).mono ?_
  rw [hv]
  rintro e w' (⟨h1,rfl,h4⟩ | ⟨v,xs,h1,-⟩)
  · exact ⟨rfl,hb.trans (h4.mono hb.size)⟩
  · cases h1
theorem wkP (Z:World) (o:Ov) (s:OS) (l r:List Int) (i:Int) (first:Bool) (g:Int) (ho:OpIn Z o s) (hl:Slen o) (hn:l.length≤1000) (hv:nodeV (chV o) l = some r) (hg:gapV (chV o) l i first = g) :
    Calls Try.prog 20 #[.agg (opCells o s),.slice (some ⟨Z.heap.size,0,none⟩) l.length l.length,.int .i64 i,.bool first] (Z.alloc (.cells (l.map P4.intV).toArray 3)) fun e w'=>∃ v,e = .returned (.tuple #[v,.int .i64 g,.bool true])∧Below Z.heap.size Z w':=by
  have hb:Below Z.heap.size Z (Z.alloc (.cells (l.map P4.intV).toArray 3)):=(Below.refl _ _).alloc (Nat.le_refl _) _
  refine (Gap_any _ o s _ _ _ l i first (ho.below hb) hl (lit_its Z l) (Nat.le_refl _) (by unfold maxLen;omega) (by omega)).mono ?_
  rw [hv,hg]
  rintro e w' (⟨h1,-⟩ | ⟨v,xs,h1,rfl,h3,h4⟩)
  · cases h1
  · exact ⟨v,rfl,hb.trans (h4.mono hb.size)⟩
theorem kit_same (w:World) (A B:Option Addr) (n c m d:Nat) (xs ys:List Int) (hA:Its w A n xs) (hB:Its w B m ys) (hn:n≤maxLen) (hm:m≤maxLen) :
    Calls Try.prog 19 #[.slice A n c,.slice B m d] w fun e w'=>e = .returned (.bool (P4.eqV xs ys))∧∃ k,w' = w.drewN k:=P4.sameInts_any w A B n c m d xs ys (its4 hA) (its4 hB) hn
theorem wkS (Z:World) (A:Option Addr) (c:Nat) (r:List Int) (hA:Its Z A r.length r) (hn:r.length≤1000) :
    Calls Try.prog 19 #[.slice A r.length c,.slice (some ⟨Z.heap.size,0,none⟩) r.length r.length] (Z.alloc (.cells (r.map P4.intV).toArray 3)) fun e w'=>e = .returned (.bool true)∧Below Z.heap.size Z w':=by
  have hb:Below Z.heap.size Z (Z.alloc (.cells (r.map P4.intV).toArray 3)):=(Below.refl _ _).alloc (Nat.le_refl _) _
  refine (kit_same _ A _ _ c _ r.length r r (hA.below hb) (lit_its Z r) (by unfold maxLen;omega) (by unfold maxLen;omega)).mono ?_
  rw [show P4.eqV r r = true by unfold P4.eqV;simp]
  rintro e w' ⟨rfl,k,rfl⟩
  exact ⟨rfl,draws hb k⟩
theorem undo_ec:undoV (chV ec) = ⟨3,[2,0],1,[0],0,false,[],[],[],false,[]⟩:=by kernel_rfl
set_option maxHeartbeats 16000000 in
theorem works_any (w:World):Calls Try.prog 15 #[] w fun e w'=>e = .returned (.bool true)∧Below w.heap.size w w':=by
  go_enter Try.func15,Try.ntmps15
  go_upto_region 2 with fail
  obtain ⟨X1,hX1⟩:∃ Q9,Q9 = (w.alloc (.cells #[.int .i64 0] 3)).alloc (.cells (opCells ea ⟨some ⟨w.heap.size,0,none⟩,1,1,none,0,0,none,0,0⟩) 26):=⟨_,rfl⟩
  have hX1':X1 = (w.alloc (.cells #[.int .i64 0] 3)).alloc (.cells #[.int .u8 1,.slice (some ⟨w.heap.size,0,none⟩) 1 1,.int .i64 1,.slice none 0 0,.int .u64 0,.bool false,.string ⟨#[]⟩,.string ⟨#[]⟩,.string ⟨#[]⟩,.bool false,.slice none 0 0] 26):=hX1
  rw [← hX1']
  obtain ⟨n0,n1,nB,nS⟩:=two_news w (.cells #[.int .i64 0] 3) (.cells (opCells ea ⟨some ⟨w.heap.size,0,none⟩,1,1,none,0,0,none,0,0⟩) 26)
  rw [← hX1] at n0 n1 nB nS
  have rowea:=Lib.hid (fun (Z:World) (hb:Below X1.heap.size X1 Z)=>(hb.block _ (Array.getElem?_eq_some_iff.1 n1).1).trans n1)
  have opea:=Lib.hid (fun (Z:World) (hb:Below X1.heap.size X1 Z)=>(lit_op (o:=ea) (hp:=lit_its2 (xs:=[0]) n0) (hp3:=fun e=>by cases e) (ht:=Its.none_ _) (ht3:=fun _=>rfl) (hq:=lit_pcs _) (hq3:=fun _=>rfl) (f1:=lit_fit) (f2:=lit_fit):OpIn X1 ea ⟨some ⟨w.heap.size,0,none⟩,1,1,none,0,0,none,0,0⟩).below hb)
  have belX1:=Lib.hid nB
  have sizX1:=Lib.hid nS
  clear hX1 hX1' n0 n1 nB nS
  go_upto_region 3 with fail
  obtain ⟨X2,hX2⟩:∃ Q9,Q9 = (X1.alloc (.cells #[.int .i64 0,.int .i64 1] 3)).alloc (.cells (opCells eb ⟨some ⟨X1.heap.size,0,none⟩,2,2,none,0,0,none,0,0⟩) 26):=⟨_,rfl⟩
  have hX2':X2 = (X1.alloc (.cells #[.int .i64 0,.int .i64 1] 3)).alloc (.cells #[.int .u8 2,.slice (some ⟨X1.heap.size,0,none⟩) 2 2,.int .i64 0,.slice none 0 0,.int .u64 0,.bool false,.string ⟨#[]⟩,.string ⟨#[]⟩,.string ⟨#[]⟩,.bool false,.slice none 0 0] 26):=hX2
  rw [← hX2']
  obtain ⟨n0,n1,nB,nS⟩:=two_news X1 (.cells #[.int .i64 0,.int .i64 1] 3) (.cells (opCells eb ⟨some ⟨X1.heap.size,0,none⟩,2,2,none,0,0,none,0,0⟩) 26)
  rw [← hX2] at n0 n1 nB nS
  have roweb:=Lib.hid (fun (Z:World) (hb:Below X2.heap.size X2 Z)=>(hb.block _ (Array.getElem?_eq_some_iff.1 n1).1).trans n1)
  have opeb:=Lib.hid (fun (Z:World) (hb:Below X2.heap.size X2 Z)=>(lit_op (o:=eb) (hp:=lit_its2 (xs:=[0,1]) n0) (hp3:=fun e=>by cases e) (ht:=Its.none_ _) (ht3:=fun _=>rfl) (hq:=lit_pcs _) (hq3:=fun _=>rfl) (f1:=lit_fit) (f2:=lit_fit):OpIn X2 eb ⟨some ⟨X1.heap.size,0,none⟩,2,2,none,0,0,none,0,0⟩).below hb)
  have belX2:=Lib.hid nB
  have sizX2:=Lib.hid nS
  clear hX2 hX2' n0 n1 nB nS
  go_upto_region 4 with fail
  obtain ⟨X3,hX3⟩:∃ Q9,Q9 = ((X2.alloc (.cells #[.int .i64 0,.int .i64 1] 3)).alloc (.cells #[.int .i64 2] 3)).alloc (.cells (opCells ec ⟨some ⟨X2.heap.size,0,none⟩,2,2,some ⟨X2.heap.size + 1,0,none⟩,1,1,none,0,0⟩) 26):=⟨_,rfl⟩
  have hX3':X3 = ((X2.alloc (.cells #[.int .i64 0,.int .i64 1] 3)).alloc (.cells #[.int .i64 2] 3)).alloc (.cells #[.int .u8 3,.slice (some ⟨X2.heap.size,0,none⟩) 2 2,.int .i64 0,.slice (some ⟨X2.heap.size + 1,0,none⟩) 1 1,.int .u64 0,.bool false,.string ⟨#[]⟩,.string ⟨#[]⟩,.string ⟨#[]⟩,.bool false,.slice none 0 0] 26):=hX3
  rw [← hX3']
  obtain ⟨n0,n1,n2,nB,nS⟩:=Top.three_new X2 (.cells #[.int .i64 0,.int .i64 1] 3) (.cells #[.int .i64 2] 3) (.cells (opCells ec ⟨some ⟨X2.heap.size,0,none⟩,2,2,some ⟨X2.heap.size + 1,0,none⟩,1,1,none,0,0⟩) 26)
  rw [← hX3] at n0 n1 n2 nB nS
  have rowec:=Lib.hid (fun (Z:World) (hb:Below X3.heap.size X3 Z)=>(hb.block _ (Array.getElem?_eq_some_iff.1 n2).1).trans n2)
  have opec:=Lib.hid (fun (Z:World) (hb:Below X3.heap.size X3 Z)=>(lit_op (o:=ec) (hp:=lit_its2 (xs:=[0,1]) n0) (hp3:=fun e=>by cases e) (ht:=lit_its2 (xs:=[2]) n1) (ht3:=fun e=>by cases e) (hq:=lit_pcs _) (hq3:=fun _=>rfl) (f1:=lit_fit) (f2:=lit_fit):OpIn X3 ec ⟨some ⟨X2.heap.size,0,none⟩,2,2,some ⟨X2.heap.size + 1,0,none⟩,1,1,none,0,0⟩).below hb)
  have belX3:=Lib.hid nB
  clear hX3 hX3' n0 n1 n2 nB nS
  have b23:=Lib.hid belX3.out
  have b13:=Lib.hid (belX2.out.trans (belX3.out.mono belX2.out.size))
  have b03:=Lib.hid (belX1.out.trans (b13.out.mono belX1.out.size))
  have z0:=Lib.hid (Below.refl X3.heap.size X3)
  obtain ⟨p0,p1,p2,p3,p4,p5,p6,p7,p8,p9,p10⟩:=op_cells (rowea.out X3 (b13.out.trans (z0.out.mono b13.out.size)))
  dsimp only [ea] at p0 p1 p2 p3 p4 p5 p6 p7 p8 p9 p10
  go_upto_region 5 with (go_at_call 17;go_loud (refine (wkN X3 ea _ [0,1,5] [0,2,5] (opea.out X3 (b13.out.trans (z0.out.mono b13.out.size))) ⟨by decide,by decide⟩ (by decide) (by decide +kernel)).mono ?_;rintro e y1 ⟨A0,c0,rfl,hi,hb⟩;have I0:=Lib.hid hi;have z1:=Lib.hid (z0.out.trans (hb.mono z0.out.size));have e1:=Lib.hid hb;clear hi hb p0 p1 p2 p3 p4 p5 p6 p7 p8 p9 p10))
  obtain ⟨p0,p1,p2,p3,p4,p5,p6,p7,p8,p9,p10⟩:=op_cells (rowea.out y1 (b13.out.trans (z1.out.mono b13.out.size)))
  dsimp only [ea] at p0 p1 p2 p3 p4 p5 p6 p7 p8 p9 p10
  go_upto_region 6 with (go_at_call 20;go_loud (refine (wkP y1 ea _ [0] [0] 1 true 1 (opea.out y1 (b13.out.trans (z1.out.mono b13.out.size))) ⟨by decide,by decide⟩ (by decide) (by decide +kernel) (by decide +kernel)).mono ?_;rintro e y2 ⟨v1,rfl,hb⟩;have z2:=Lib.hid (z1.out.trans (hb.mono z1.out.size));have e2:=Lib.hid hb;clear hb p0 p1 p2 p3 p4 p5 p6 p7 p8 p9 p10))
  obtain ⟨p0,p1,p2,p3,p4,p5,p6,p7,p8,p9,p10⟩:=op_cells (rowea.out y2 (b13.out.trans (z2.out.mono b13.out.size)))
  dsimp only [ea] at p0 p1 p2 p3 p4 p5 p6 p7 p8 p9 p10
  go_upto_region 7 with (go_at_call 20;go_loud (refine (wkP y2 ea _ [0] [0] 1 false 2 (opea.out y2 (b13.out.trans (z2.out.mono b13.out.size))) ⟨by decide,by decide⟩ (by decide) (by decide +kernel) (by decide +kernel)).mono ?_;rintro e y3 ⟨v2,rfl,hb⟩;have z3:=Lib.hid (z2.out.trans (hb.mono z2.out.size));have e3:=Lib.hid hb;clear hb p0 p1 p2 p3 p4 p5 p6 p7 p8 p9 p10))
  obtain ⟨p0,p1,p2,p3,p4,p5,p6,p7,p8,p9,p10⟩:=op_cells (roweb.out y3 (b23.out.trans (z3.out.mono b23.out.size)))
  dsimp only [eb] at p0 p1 p2 p3 p4 p5 p6 p7 p8 p9 p10
  go_upto_region 8 with (go_at_call 17;go_loud (refine (wkN y3 eb _ [0,2] [0,1] (opeb.out y3 (b23.out.trans (z3.out.mono b23.out.size))) ⟨by decide,by decide⟩ (by decide) (by decide +kernel)).mono ?_;rintro e y4 ⟨A3,c3,rfl,hi,hb⟩;have I3:=Lib.hid hi;have z4:=Lib.hid (z3.out.trans (hb.mono z3.out.size));have e4:=Lib.hid hb;clear hi hb p0 p1 p2 p3 p4 p5 p6 p7 p8 p9 p10))
  obtain ⟨p0,p1,p2,p3,p4,p5,p6,p7,p8,p9,p10⟩:=op_cells (roweb.out y4 (b23.out.trans (z4.out.mono b23.out.size)))
  dsimp only [eb] at p0 p1 p2 p3 p4 p5 p6 p7 p8 p9 p10
  go_upto_region 9 with (go_at_call 17;go_loud (refine (wkG y4 eb _ [0,1,3] (opeb.out y4 (b23.out.trans (z4.out.mono b23.out.size))) ⟨by decide,by decide⟩ (by decide) (by decide +kernel)).mono ?_;rintro e y5 ⟨rfl,hb⟩;have z5:=Lib.hid (z4.out.trans (hb.mono z4.out.size));have e5:=Lib.hid hb;clear hb p0 p1 p2 p3 p4 p5 p6 p7 p8 p9 p10))
  obtain ⟨p0,p1,p2,p3,p4,p5,p6,p7,p8,p9,p10⟩:=op_cells (roweb.out y5 (b23.out.trans (z5.out.mono b23.out.size)))
  dsimp only [eb] at p0 p1 p2 p3 p4 p5 p6 p7 p8 p9 p10
  go_upto_region 10 with (go_at_call 20;go_loud (refine (wkP y5 eb _ [0] [0] 2 true 1 (opeb.out y5 (b23.out.trans (z5.out.mono b23.out.size))) ⟨by decide,by decide⟩ (by decide) (by decide +kernel) (by decide +kernel)).mono ?_;rintro e y6 ⟨v5,rfl,hb⟩;have z6:=Lib.hid (z5.out.trans (hb.mono z5.out.size));have e6:=Lib.hid hb;clear hb p0 p1 p2 p3 p4 p5 p6 p7 p8 p9 p10))
  obtain ⟨p0,p1,p2,p3,p4,p5,p6,p7,p8,p9,p10⟩:=op_cells (rowec.out y6 z6.out)
  dsimp only [ec] at p0 p1 p2 p3 p4 p5 p6 p7 p8 p9 p10
  go_upto_region 11 with (go_at_call 17;go_loud (refine (wkN y6 ec _ [0,1,4] [2,0,4] (opec.out y6 z6.out) ⟨by decide,by decide⟩ (by decide) (by decide +kernel)).mono ?_;rintro e y7 ⟨A6,c6,rfl,hi,hb⟩;have I6:=Lib.hid hi;have z7:=Lib.hid (z6.out.trans (hb.mono z6.out.size));have e7:=Lib.hid hb;clear hi hb p0 p1 p2 p3 p4 p5 p6 p7 p8 p9 p10))
  obtain ⟨p0,p1,p2,p3,p4,p5,p6,p7,p8,p9,p10⟩:=op_cells (rowec.out y7 z7.out)
  dsimp only [ec] at p0 p1 p2 p3 p4 p5 p6 p7 p8 p9 p10
  go_upto_region 12 with (go_at_call 17;go_loud (refine (wkN y7 ec _ [2,0] [2,1] (opec.out y7 z7.out) ⟨by decide,by decide⟩ (by decide) (by decide +kernel)).mono ?_;rintro e y8 ⟨A7,c7,rfl,hi,hb⟩;have I7:=Lib.hid hi;have z8:=Lib.hid (z7.out.trans (hb.mono z7.out.size));have e8:=Lib.hid hb;clear hi hb p0 p1 p2 p3 p4 p5 p6 p7 p8 p9 p10))
  have oped:=Lib.hid (show OpIn ((y8.alloc (.cells #[.int .i64 0] 3)).alloc (.cells #[.int .i64 2] 3)) ed ⟨some ⟨y8.heap.size,0,none⟩,1,1,some ⟨y8.heap.size + 1,0,none⟩,1,1,none,0,0⟩ by
    obtain ⟨n0,n1,nB,nS⟩:=two_news y8 (.cells #[.int .i64 0] 3) (.cells #[.int .i64 2] 3)
    exact lit_op (o:=ed) (hp:=lit_its2 (xs:=[0]) n0) (hp3:=fun e=>by cases e) (ht:=lit_its2 (xs:=[2]) n1) (ht3:=fun e=>by cases e) (hq:=lit_pcs _) (hq3:=fun _=>rfl) (f1:=lit_fit) (f2:=lit_fit))
  have belD:=Lib.hid (two_news y8 (.cells #[.int .i64 0] 3) (.cells #[.int .i64 2] 3)).2.2.1
  have hsD:=(two_news y8 (.cells #[.int .i64 0] 3) (.cells #[.int .i64 2] 3)).2.2.2
  have cD0:=wkN ((y8.alloc (.cells #[.int .i64 0] 3)).alloc (.cells #[.int .i64 2] 3)) ed ⟨some ⟨y8.heap.size,0,none⟩,1,1,some ⟨y8.heap.size + 1,0,none⟩,1,1,none,0,0⟩ [0] [1,1] oped.out ⟨by decide,by decide⟩ (by decide) (by decide +kernel)
  rw [hsD] at cD0
  have cD:=Lib.hid (show Calls Try.prog 17 #[.agg #[.int .u8 3,.slice (some ⟨y8.heap.size,0,none⟩) 1 1,.int .i64 1,.slice (some ⟨y8.heap.size + 1,0,none⟩) 1 1,.int .u64 0,.bool false,.string ⟨#[]⟩,.string ⟨#[]⟩,.string ⟨#[]⟩,.bool false,.slice none 0 0],.slice (some ⟨y8.heap.size + 1 + 1,0,none⟩) 1 1] (((y8.alloc (.cells #[.int .i64 0] 3)).alloc (.cells #[.int .i64 2] 3)).alloc (.cells #[.int .i64 0] 3)) (fun e w'=>∃ A c,e = .returned (.tuple #[.slice A 2 c,.bool true])∧Its w' A 2 [1,1]∧Below y8.heap.size y8 w') from cD0.mono fun e w' ⟨A,c,h1,h2,h3⟩=>⟨A,c,h1,h2,belD.out.trans (h3.mono (by omega))⟩)
  clear cD0 hsD
  go_upto_region 13 with (go_at_call 17;go_loud (refine cD.out.mono ?_;rintro e y9 ⟨A8,c8,rfl,hi,hb⟩;have I8:=Lib.hid hi;have e9:=Lib.hid hb;have z9:=Lib.hid (z8.out.trans (e9.out.mono z8.out.size));clear hi hb))
  have J0:=Lib.hid (fun (W:World) (hb:Below y9.heap.size y9 W)=>I0.out.below (Below.trans ((((((((e2.out.trans (e3.out.mono e2.out.size)).trans (e4.out.mono (e2.out.trans (e3.out.mono e2.out.size)).size)).trans (e5.out.mono ((e2.out.trans (e3.out.mono e2.out.size)).trans (e4.out.mono (e2.out.trans (e3.out.mono e2.out.size)).size)).size)).trans (e6.out.mono (((e2.out.trans (e3.out.mono e2.out.size)).trans (e4.out.mono (e2.out.trans (e3.out.mono e2.out.size)).size)).trans (e5.out.mono ((e2.out.trans (e3.out.mono e2.out.size)).trans (e4.out.mono (e2.out.trans (e3.out.mono e2.out.size)).size)).size)).size)).trans (e7.out.mono ((((e2.out.trans (e3.out.mono e2.out.size)).trans (e4.out.mono (e2.out.trans (e3.out.mono e2.out.size)).size)).trans (e5.out.mono ((e2.out.trans (e3.out.mono e2.out.size)).trans (e4.out.mono (e2.out.trans (e3.out.mono e2.out.size)).size)).size)).trans (e6.out.mono (((e2.out.trans (e3.out.mono e2.out.size)).trans (e4.out.mono (e2.out.trans (e3.out.mono e2.out.size)).size)).trans (e5.out.mono ((e2.out.trans (e3.out.mono e2.out.size)).trans (e4.out.mono (e2.out.trans (e3.out.mono e2.out.size)).size)).size)).size)).size)).trans (e8.out.mono (((((e2.out.trans (e3.out.mono e2.out.size)).trans (e4.out.mono (e2.out.trans (e3.out.mono e2.out.size)).size)).trans (e5.out.mono ((e2.out.trans (e3.out.mono e2.out.size)).trans (e4.out.mono (e2.out.trans (e3.out.mono e2.out.size)).size)).size)).trans (e6.out.mono (((e2.out.trans (e3.out.mono e2.out.size)).trans (e4.out.mono (e2.out.trans (e3.out.mono e2.out.size)).size)).trans (e5.out.mono ((e2.out.trans (e3.out.mono e2.out.size)).trans (e4.out.mono (e2.out.trans (e3.out.mono e2.out.size)).size)).size)).size)).trans (e7.out.mono ((((e2.out.trans (e3.out.mono e2.out.size)).trans (e4.out.mono (e2.out.trans (e3.out.mono e2.out.size)).size)).trans (e5.out.mono ((e2.out.trans (e3.out.mono e2.out.size)).trans (e4.out.mono (e2.out.trans (e3.out.mono e2.out.size)).size)).size)).trans (e6.out.mono (((e2.out.trans (e3.out.mono e2.out.size)).trans (e4.out.mono (e2.out.trans (e3.out.mono e2.out.size)).size)).trans (e5.out.mono ((e2.out.trans (e3.out.mono e2.out.size)).trans (e4.out.mono (e2.out.trans (e3.out.mono e2.out.size)).size)).size)).size)).size)).size)).trans (e9.out.mono ((((((e2.out.trans (e3.out.mono e2.out.size)).trans (e4.out.mono (e2.out.trans (e3.out.mono e2.out.size)).size)).trans (e5.out.mono ((e2.out.trans (e3.out.mono e2.out.size)).trans (e4.out.mono (e2.out.trans (e3.out.mono e2.out.size)).size)).size)).trans (e6.out.mono (((e2.out.trans (e3.out.mono e2.out.size)).trans (e4.out.mono (e2.out.trans (e3.out.mono e2.out.size)).size)).trans (e5.out.mono ((e2.out.trans (e3.out.mono e2.out.size)).trans (e4.out.mono (e2.out.trans (e3.out.mono e2.out.size)).size)).size)).size)).trans (e7.out.mono ((((e2.out.trans (e3.out.mono e2.out.size)).trans (e4.out.mono (e2.out.trans (e3.out.mono e2.out.size)).size)).trans (e5.out.mono ((e2.out.trans (e3.out.mono e2.out.size)).trans (e4.out.mono (e2.out.trans (e3.out.mono e2.out.size)).size)).size)).trans (e6.out.mono (((e2.out.trans (e3.out.mono e2.out.size)).trans (e4.out.mono (e2.out.trans (e3.out.mono e2.out.size)).size)).trans (e5.out.mono ((e2.out.trans (e3.out.mono e2.out.size)).trans (e4.out.mono (e2.out.trans (e3.out.mono e2.out.size)).size)).size)).size)).size)).trans (e8.out.mono (((((e2.out.trans (e3.out.mono e2.out.size)).trans (e4.out.mono (e2.out.trans (e3.out.mono e2.out.size)).size)).trans (e5.out.mono ((e2.out.trans (e3.out.mono e2.out.size)).trans (e4.out.mono (e2.out.trans (e3.out.mono e2.out.size)).size)).size)).trans (e6.out.mono (((e2.out.trans (e3.out.mono e2.out.size)).trans (e4.out.mono (e2.out.trans (e3.out.mono e2.out.size)).size)).trans (e5.out.mono ((e2.out.trans (e3.out.mono e2.out.size)).trans (e4.out.mono (e2.out.trans (e3.out.mono e2.out.size)).size)).size)).size)).trans (e7.out.mono ((((e2.out.trans (e3.out.mono e2.out.size)).trans (e4.out.mono (e2.out.trans (e3.out.mono e2.out.size)).size)).trans (e5.out.mono ((e2.out.trans (e3.out.mono e2.out.size)).trans (e4.out.mono (e2.out.trans (e3.out.mono e2.out.size)).size)).size)).trans (e6.out.mono (((e2.out.trans (e3.out.mono e2.out.size)).trans (e4.out.mono (e2.out.trans (e3.out.mono e2.out.size)).size)).trans (e5.out.mono ((e2.out.trans (e3.out.mono e2.out.size)).trans (e4.out.mono (e2.out.trans (e3.out.mono e2.out.size)).size)).size)).size)).size)).size)).size))) (hb.mono (Below.size ((((((((e2.out.trans (e3.out.mono e2.out.size)).trans (e4.out.mono (e2.out.trans (e3.out.mono e2.out.size)).size)).trans (e5.out.mono ((e2.out.trans (e3.out.mono e2.out.size)).trans (e4.out.mono (e2.out.trans (e3.out.mono e2.out.size)).size)).size)).trans (e6.out.mono (((e2.out.trans (e3.out.mono e2.out.size)).trans (e4.out.mono (e2.out.trans (e3.out.mono e2.out.size)).size)).trans (e5.out.mono ((e2.out.trans (e3.out.mono e2.out.size)).trans (e4.out.mono (e2.out.trans (e3.out.mono e2.out.size)).size)).size)).size)).trans (e7.out.mono ((((e2.out.trans (e3.out.mono e2.out.size)).trans (e4.out.mono (e2.out.trans (e3.out.mono e2.out.size)).size)).trans (e5.out.mono ((e2.out.trans (e3.out.mono e2.out.size)).trans (e4.out.mono (e2.out.trans (e3.out.mono e2.out.size)).size)).size)).trans (e6.out.mono (((e2.out.trans (e3.out.mono e2.out.size)).trans (e4.out.mono (e2.out.trans (e3.out.mono e2.out.size)).size)).trans (e5.out.mono ((e2.out.trans (e3.out.mono e2.out.size)).trans (e4.out.mono (e2.out.trans (e3.out.mono e2.out.size)).size)).size)).size)).size)).trans (e8.out.mono (((((e2.out.trans (e3.out.mono e2.out.size)).trans (e4.out.mono (e2.out.trans (e3.out.mono e2.out.size)).size)).trans (e5.out.mono ((e2.out.trans (e3.out.mono e2.out.size)).trans (e4.out.mono (e2.out.trans (e3.out.mono e2.out.size)).size)).size)).trans (e6.out.mono (((e2.out.trans (e3.out.mono e2.out.size)).trans (e4.out.mono (e2.out.trans (e3.out.mono e2.out.size)).size)).trans (e5.out.mono ((e2.out.trans (e3.out.mono e2.out.size)).trans (e4.out.mono (e2.out.trans (e3.out.mono e2.out.size)).size)).size)).size)).trans (e7.out.mono ((((e2.out.trans (e3.out.mono e2.out.size)).trans (e4.out.mono (e2.out.trans (e3.out.mono e2.out.size)).size)).trans (e5.out.mono ((e2.out.trans (e3.out.mono e2.out.size)).trans (e4.out.mono (e2.out.trans (e3.out.mono e2.out.size)).size)).size)).trans (e6.out.mono (((e2.out.trans (e3.out.mono e2.out.size)).trans (e4.out.mono (e2.out.trans (e3.out.mono e2.out.size)).size)).trans (e5.out.mono ((e2.out.trans (e3.out.mono e2.out.size)).trans (e4.out.mono (e2.out.trans (e3.out.mono e2.out.size)).size)).size)).size)).size)).size)).trans (e9.out.mono ((((((e2.out.trans (e3.out.mono e2.out.size)).trans (e4.out.mono (e2.out.trans (e3.out.mono e2.out.size)).size)).trans (e5.out.mono ((e2.out.trans (e3.out.mono e2.out.size)).trans (e4.out.mono (e2.out.trans (e3.out.mono e2.out.size)).size)).size)).trans (e6.out.mono (((e2.out.trans (e3.out.mono e2.out.size)).trans (e4.out.mono (e2.out.trans (e3.out.mono e2.out.size)).size)).trans (e5.out.mono ((e2.out.trans (e3.out.mono e2.out.size)).trans (e4.out.mono (e2.out.trans (e3.out.mono e2.out.size)).size)).size)).size)).trans (e7.out.mono ((((e2.out.trans (e3.out.mono e2.out.size)).trans (e4.out.mono (e2.out.trans (e3.out.mono e2.out.size)).size)).trans (e5.out.mono ((e2.out.trans (e3.out.mono e2.out.size)).trans (e4.out.mono (e2.out.trans (e3.out.mono e2.out.size)).size)).size)).trans (e6.out.mono (((e2.out.trans (e3.out.mono e2.out.size)).trans (e4.out.mono (e2.out.trans (e3.out.mono e2.out.size)).size)).trans (e5.out.mono ((e2.out.trans (e3.out.mono e2.out.size)).trans (e4.out.mono (e2.out.trans (e3.out.mono e2.out.size)).size)).size)).size)).size)).trans (e8.out.mono (((((e2.out.trans (e3.out.mono e2.out.size)).trans (e4.out.mono (e2.out.trans (e3.out.mono e2.out.size)).size)).trans (e5.out.mono ((e2.out.trans (e3.out.mono e2.out.size)).trans (e4.out.mono (e2.out.trans (e3.out.mono e2.out.size)).size)).size)).trans (e6.out.mono (((e2.out.trans (e3.out.mono e2.out.size)).trans (e4.out.mono (e2.out.trans (e3.out.mono e2.out.size)).size)).trans (e5.out.mono ((e2.out.trans (e3.out.mono e2.out.size)).trans (e4.out.mono (e2.out.trans (e3.out.mono e2.out.size)).size)).size)).size)).trans (e7.out.mono ((((e2.out.trans (e3.out.mono e2.out.size)).trans (e4.out.mono (e2.out.trans (e3.out.mono e2.out.size)).size)).trans (e5.out.mono ((e2.out.trans (e3.out.mono e2.out.size)).trans (e4.out.mono (e2.out.trans (e3.out.mono e2.out.size)).size)).size)).trans (e6.out.mono (((e2.out.trans (e3.out.mono e2.out.size)).trans (e4.out.mono (e2.out.trans (e3.out.mono e2.out.size)).size)).trans (e5.out.mono ((e2.out.trans (e3.out.mono e2.out.size)).trans (e4.out.mono (e2.out.trans (e3.out.mono e2.out.size)).size)).size)).size)).size)).size)).size)))))))
  have J3:=Lib.hid (fun (W:World) (hb:Below y9.heap.size y9 W)=>I3.out.below (Below.trans (((((e5.out.trans (e6.out.mono e5.out.size)).trans (e7.out.mono (e5.out.trans (e6.out.mono e5.out.size)).size)).trans (e8.out.mono ((e5.out.trans (e6.out.mono e5.out.size)).trans (e7.out.mono (e5.out.trans (e6.out.mono e5.out.size)).size)).size)).trans (e9.out.mono (((e5.out.trans (e6.out.mono e5.out.size)).trans (e7.out.mono (e5.out.trans (e6.out.mono e5.out.size)).size)).trans (e8.out.mono ((e5.out.trans (e6.out.mono e5.out.size)).trans (e7.out.mono (e5.out.trans (e6.out.mono e5.out.size)).size)).size)).size))) (hb.mono (Below.size (((((e5.out.trans (e6.out.mono e5.out.size)).trans (e7.out.mono (e5.out.trans (e6.out.mono e5.out.size)).size)).trans (e8.out.mono ((e5.out.trans (e6.out.mono e5.out.size)).trans (e7.out.mono (e5.out.trans (e6.out.mono e5.out.size)).size)).size)).trans (e9.out.mono (((e5.out.trans (e6.out.mono e5.out.size)).trans (e7.out.mono (e5.out.trans (e6.out.mono e5.out.size)).size)).trans (e8.out.mono ((e5.out.trans (e6.out.mono e5.out.size)).trans (e7.out.mono (e5.out.trans (e6.out.mono e5.out.size)).size)).size)).size)))))))
  have J6:=Lib.hid (fun (W:World) (hb:Below y9.heap.size y9 W)=>I6.out.below (Below.trans ((e8.out.trans (e9.out.mono e8.out.size))) (hb.mono (Below.size ((e8.out.trans (e9.out.mono e8.out.size)))))))
  have J7:=Lib.hid (fun (W:World) (hb:Below y9.heap.size y9 W)=>I7.out.below (Below.trans (e9.out) (hb.mono (Below.size (e9.out)))))
  have J8:=Lib.hid (fun (W:World) (hb:Below y9.heap.size y9 W)=>I8.out.below hb)
  obtain ⟨p0,p1,p2,p3,p4,p5,p6,p7,p8,p9,p10⟩:=op_cells (rowec.out y9 z9.out)
  have celX:=Lib.hid (fun (W:World) (hb:Below y9.heap.size y9 W)=>op_cells (rowec.out W (z9.out.trans (hb.mono z9.out.size))))
  clear p0 p1 p2 p3 p4 p5 p6 p7 p8 p9 p10
  have hfd:∀ (W:World) (A B C:Option Addr) (a1 a2 b1 b2 d1 d2:Nat),(Instr.field 26 (.agg #[.int .u8 3,.slice A a1 a2,.int .i64 1,.slice B b1 b2,.int .u64 0,.bool false,.string ⟨#[]⟩,.string ⟨#[]⟩,.string ⟨#[]⟩,.bool false,.slice C d1 d2]) 0).run Try.prog W = .ok (.int .u8 3) W:=fun _ _ _ _ _ _ _ _ _ _=>by kernel_rfl
  go_wp2_with (first | (go_at_call 22;(refine (Undo_any x5 ec ⟨some ⟨X2.heap.size,0,none⟩,2,2,some ⟨X2.heap.size + 1,0,none⟩,1,1,none,0,0⟩ (opec.out x5 (z9.out.trans (u5.out.mono z9.out.size))) ⟨by decide,by decide⟩).mono ?_;rw [undo_ec];rintro e x6 ⟨s6,rfl,-,hb⟩;unfold opCells;dsimp only;have u6:=Lib.hid (u5.out.trans (hb.mono u5.out.size));clear hb)) | (go_at_call 19;(refine (wkS x4 A8 c8 [1,1] (J8.out x4 (u4.out)) (by decide)).mono ?_;rintro e x5 ⟨rfl,hb⟩;have u5:=Lib.hid (Below.trans (u4.out) (hb.mono (Below.size (u4.out))));clear hb;obtain ⟨p0,p1,p2,p3,p4,p5,p6,p7,p8,p9,p10⟩:=celX.out x5 u5.out;dsimp only [ec] at p0 p1 p2 p3 p4 p5 p6 p7 p8 p9 p10)) | (go_at_call 19;(refine (wkS x3 A7 c7 [2,1] (J7.out x3 (u3.out)) (by decide)).mono ?_;rintro e x4 ⟨rfl,hb⟩;have u4:=Lib.hid (Below.trans (u3.out) (hb.mono (Below.size (u3.out))));clear hb)) | (go_at_call 19;(refine (wkS x2 A6 c6 [2,0,4] (J6.out x2 (u2.out)) (by decide)).mono ?_;rintro e x3 ⟨rfl,hb⟩;have u3:=Lib.hid (Below.trans (u2.out) (hb.mono (Below.size (u2.out))));clear hb)) | (go_at_call 19;(refine (wkS x1 A3 c3 [0,1] (J3.out x1 (u1.out)) (by decide)).mono ?_;rintro e x2 ⟨rfl,hb⟩;have u2:=Lib.hid (Below.trans (u1.out) (hb.mono (Below.size (u1.out))));clear hb)) | (go_at_call 19;(refine (wkS y9 A0 c0 [0,2,5] (J0.out y9 (Below.refl y9.heap.size y9)) (by decide)).mono ?_;rintro e x1 ⟨rfl,hb⟩;have u1:=Lib.hid (Below.trans (Below.refl y9.heap.size y9) (hb.mono (Below.size (Below.refl y9.heap.size y9))));clear hb)))
  go_ret
  exact ⟨rfl,b03.out.trans ((z9.out.trans (u6.out.mono z9.out.size)).mono b03.out.size)⟩
end Go.Proofs.Ytpoenlhikanooaa.Shf
namespace Go.Proofs.Ytpoenlhikanooaa.Shf
open Go.RowKit Top
set_option maxRecDepth 20000
set_option linter.unusedVariables false

theorem undo_no {o:Ov} (h:¬ (o.kind = 3∧movesV o = true)):undoV (chV o) = zeroO:=by
  unfold undoV
  cases hm:movesV o with
  | false=>rw [moves_no hm];rfl
  | true =>
    rcases move_kind hm with hk | ⟨hk,hpn⟩ | ⟨hk,-⟩
    · rw [ch_one (formed_of hm) hk];rfl
    · obtain ⟨r,d,hr⟩:∃ r d,o.path = r ++ [d]:=by
        rcases snoc_cases o.path with h | h
        · exact absurd h hpn
        · exact h
      rw [ch_two (formed_of hm) hk hr];rfl
    · exact absurd ⟨hk,hm⟩ h
set_option maxHeartbeats 16000000 in
theorem rundo_other (w:World) (o:Ov) (s:OS) (ho:OpIn w o s) (hl:Slen o) (hk:o.kind ≠ 3):Calls Try.prog 23 #[.agg (opCells o s)] w fun e w'=>∃ s',e = .returned (.agg (opCells (undoV (chV o)) s'))∧OwnOp w.heap.size w' (undoV (chV o)) s'∧Below w.heap.size w w':=by
  obtain ⟨z1,z2,z4,z5⟩:=two_news w (.cells (opCells o s) 26) (.cells zero11 26)
  obtain ⟨W2,hW2⟩:∃ W2,W2 = ((w.alloc (.cells (opCells o s) 26)).alloc (.cells zero11 26)):=⟨_,rfl⟩
  rw [← hW2] at z1 z2 z4 z5
  have z1':=Lib.hid z1
  have z2':=Lib.hid z2
  have z4':=Lib.hid z4
  have z5':=Lib.hid z5
  obtain ⟨o0,o1,o2,o3,o4,o5,o6,o7,o8,o9,o10⟩:=op_cells z1
  have y2:=z2
  unfold zero11 at y2
  obtain ⟨q0,q1,q2,q3,q4,q5,q6,q7,q8,q9,q10,qf⟩:=eleven_cells y2
  rw [hW2] at o0 o1 o2 o3 o4 o5 o6 o7 o8 o9 o10 q0 q1 q2 q3 q4 q5 q6 q7 q8 q9 q10 qf
  have hv:=Lib.hid (show undoV (chV o) = zeroO from undo_no fun h=>hk h.1)
  have hkI:((o.kind:Int) == 3) = false:=by simp;omega
  have hkJ:((o.kind:Int) != 3) = true:=by rw [bne,hkI];rfl
  unfold opCells at hW2
  unfold zero11 at hW2
  conv=>arg 3;unfold opCells
  clear ho hl z1 z2 z4 z5 y2 hk
  go_enter Try.func23,Try.ntmps23
  go_wp2_with fail
  rw [← hW2]
  have y2:=z2'.out
  unfold zero11 at y2
  clear q0 q1 q2 q3 q4 q5 q6 q7 q8 q9 q10 qf
  obtain ⟨d0,d1,d2,d3,d4,d5,d6,d7,d8,d9,d10,df⟩:=eleven_cells y2
  refine bodyPost_ret (v:=.agg (opCells zeroO ⟨none,0,0,none,0,0,none,0,0⟩)) (by simp [results,Try.results23,go_sem,d0,d1,d2,d3,d4,d5,d6,d7,d8,d9,d10,opCells,zeroO]) rfl ?_
  rw [hv.out]
  exact ⟨⟨none,0,0,none,0,0,none,0,0⟩,rfl,⟨P4.OwnI.nil_ _ _,P4.OwnI.nil_ _ _,OwnQ.nil_ _ _⟩,z4'.out⟩
set_option maxHeartbeats 16000000 in
theorem rundo_same (w:World) (o:Ov) (s:OS) (ho:OpIn w o s) (hl:Slen o) (hk:o.kind = 3) (hm:movesV o = false):Calls Try.prog 23 #[.agg (opCells o s)] w fun e w'=>∃ s',e = .returned (.agg (opCells (undoV (chV o)) s'))∧OwnOp w.heap.size w' (undoV (chV o)) s'∧Below w.heap.size w w':=by
  obtain ⟨z1,z2,z4,z5⟩:=two_news w (.cells (opCells o s) 26) (.cells zero11 26)
  obtain ⟨W2,hW2⟩:∃ W2,W2 = ((w.alloc (.cells (opCells o s) 26)).alloc (.cells zero11 26)):=⟨_,rfl⟩
  rw [← hW2] at z1 z2 z4 z5
  have z1':=Lib.hid z1
  have z2':=Lib.hid z2
  have z4':=Lib.hid z4
  have z5':=Lib.hid z5
  obtain ⟨o0,o1,o2,o3,o4,o5,o6,o7,o8,o9,o10⟩:=op_cells z1
  have y2:=z2
  unfold zero11 at y2
  obtain ⟨q0,q1,q2,q3,q4,q5,q6,q7,q8,q9,q10,qf⟩:=eleven_cells y2
  rw [hW2] at o0 o1 o2 o3 o4 o5 o6 o7 o8 o9 o10 q0 q1 q2 q3 q4 q5 q6 q7 q8 q9 q10 qf
  have hv:=Lib.hid (show undoV (chV o) = zeroO from undo_no fun h=>by rw [hm] at h;cases h.2)
  have hmv:=Lib.hid (rmoves_any W2 o s (ho.below z4))
  rw [hm] at hmv
  have hkI:=Lib.hid (show (o.kind:Int) = 3 by omega)
  rw [hkI.out] at o0
  unfold opCells at hW2 hmv
  unfold zero11 at hW2
  conv=>arg 3;unfold opCells
  rw [hkI.out] at hW2 hmv ⊢
  clear ho hl z1 z2 z4 z5 y2 hk hm
  go_enter Try.func23,Try.ntmps23
  go_wp2_with (go_at_call 57;go_loud (rw [← hW2];refine hmv.out.mono ?_;rintro e w1 ⟨rfl,hb1⟩;have E1:=Lib.hid hb1;have B1:=Lib.hid (z4'.out.trans (hb1.mono z4'.out.size));have Y1:=Lib.hid ((hb1.block w.heap.size (by have:=z5'.out;omega)).trans z1'.out);have Y2:=Lib.hid ((hb1.block (w.heap.size + 1) (by have:=z5'.out;omega)).trans z2'.out);clear o0 o1 o2 o3 o4 o5 o6 o7 o8 o9 o10 q0 q1 q2 q3 q4 q5 q6 q7 q8 q9 q10 qf;obtain ⟨o0,o1,o2,o3,o4,o5,o6,o7,o8,o9,o10⟩:=op_cells Y1.out;rw [hkI.out] at o0;skip;have y2:=Y2.out;unfold zero11 at y2;obtain ⟨q0,q1,q2,q3,q4,q5,q6,q7,q8,q9,q10,qf⟩:=eleven_cells y2;clear y2;clear hb1))
  obtain ⟨W9,hW9,R9,B9,Z9,K9⟩:=end_op (o:=zeroO) (s:=⟨none,0,0,none,0,0,none,0,0⟩) (r:=w.heap.size + 1) (by omega) B1.out (show w1.heap[w.heap.size + 1]? = some (.cells #[.int .u8 0,.slice none 0 0,.int .i64 0,.slice none 0 0,.int .u64 0,.bool false,.string ⟨#[]⟩,.string ⟨#[]⟩,.string ⟨#[]⟩,.bool false,.slice none 0 0] _ (0,0)) from Y2.out)
  have hW9':W9 = (((((((((((w1.setCell ⟨w.heap.size + 1,0,none⟩ (.int .u8 0)).setCell ⟨w.heap.size + 1,1,none⟩ (.slice none 0 0)).setCell ⟨w.heap.size + 1,2,none⟩ (.int .i64 (0))).setCell ⟨w.heap.size + 1,3,none⟩ (.slice none 0 0)).setCell ⟨w.heap.size + 1,4,none⟩ (.int .u64 0)).setCell ⟨w.heap.size + 1,5,none⟩ (.bool false)).setCell ⟨w.heap.size + 1,6,none⟩ (.string ⟨#[]⟩)).setCell ⟨w.heap.size + 1,7,none⟩ (.string ⟨#[]⟩)).setCell ⟨w.heap.size + 1,8,none⟩ (.string ⟨#[]⟩)).setCell ⟨w.heap.size + 1,9,none⟩ (.bool false)).setCell ⟨w.heap.size + 1,10,none⟩ (.slice none 0 0)):=hW9
  rw [← hW9']
  clear hW9' hW9
  unfold opCells at R9
  clear q0 q1 q2 q3 q4 q5 q6 q7 q8 q9 q10 qf
  obtain ⟨d0,d1,d2,d3,d4,d5,d6,d7,d8,d9,d10,df⟩:=eleven_cells R9
  refine bodyPost_ret (v:=.agg (opCells zeroO ⟨none,0,0,none,0,0,none,0,0⟩)) (by simp [results,Try.results23,go_sem,d0,d1,d2,d3,d4,d5,d6,d7,d8,d9,d10,opCells,zeroO]) rfl ?_
  rw [hv.out]
  exact ⟨⟨none,0,0,none,0,0,none,0,0⟩,rfl,⟨P4.OwnI.nil_ _ _,P4.OwnI.nil_ _ _,OwnQ.nil_ _ _⟩,B9⟩
set_option maxHeartbeats 16000000 in
theorem rundo_move (w:World) (o:Ov) (s:OS) (ho:OpIn w o s) (hl:Slen o) (hk:o.kind = 3) (hm:movesV o = true) (hw:P4.withinV o.path o.to_ = false) (r:List Int) (d:Int) (hr:o.path = r ++ [d]):Calls Try.prog 23 #[.agg (opCells o s)] w fun e w'=>∃ s',e = .returned (.agg (opCells (undoV (chV o)) s'))∧OwnOp w.heap.size w' (undoV (chV o)) s'∧Below w.heap.size w w':=by
  obtain ⟨z1,z2,z4,z5⟩:=two_news w (.cells (opCells o s) 26) (.cells zero11 26)
  obtain ⟨W2,hW2⟩:∃ W2,W2 = ((w.alloc (.cells (opCells o s) 26)).alloc (.cells zero11 26)):=⟨_,rfl⟩
  rw [← hW2] at z1 z2 z4 z5
  have z1':=Lib.hid z1
  have z2':=Lib.hid z2
  have z4':=Lib.hid z4
  have z5':=Lib.hid z5
  obtain ⟨o0,o1,o2,o3,o4,o5,o6,o7,o8,o9,o10⟩:=op_cells z1
  have y2:=z2
  unfold zero11 at y2
  obtain ⟨q0,q1,q2,q3,q4,q5,q6,q7,q8,q9,q10,qf⟩:=eleven_cells y2
  rw [hW2] at o0 o1 o2 o3 o4 o5 o6 o7 o8 o9 o10 q0 q1 q2 q3 q4 q5 q6 q7 q8 q9 q10 qf
  have hmv:=Lib.hid (rmoves_any W2 o s (ho.below z4))
  rw [hm] at hmv
  have hkI:=Lib.hid (show (o.kind:Int) = 3 by omega)
  have hch:=ch_three (formed_of hm) hk hr hw
  obtain ⟨c,hcE⟩:∃ c,c = chV o:=⟨_,rfl⟩
  have hpn:s.pn = r.length + 1:=by have h1:=ho.path.1;rw [hr] at h1;simp at h1;omega
  have hpar:=Lib.hid (fun (W:World) (hb:Below w.heap.size w W)=>rparent_any W s.pA r.length s.pc r d (by have h:=(ho.below hb).path;rw [hr,hpn] at h;exact h) (by have:=ho.pnc;omega) ho.pcm)
  have hrit:=Lib.hid (fun (W:World) (hb:Below w.heap.size w W)=>(show Its W s.pA r.length r from (by
    have h:=P4.Its.upto (its4 (ho.below hb).path) (q:=r.length) (by omega)
    rw [hr,List.take_append_of_le_length (Nat.le_refl _),List.take_of_length_le (Nat.le_refl _)] at h
    exact h)))
  have hrl:r.length≤s.pc:=by have:=ho.pnc;omega
  have hrf:r.length≤400000:=by have:=hl.1;rw [hr] at this;simp at this;omega
  have hn1:=Lib.hid (fun (W:World) (hb:Below w.heap.size w W)=>rNode_any W o s s.pA (r.length + 1) s.pc o.path (ho.below hb) hl (by have h:=(ho.below hb).path;rw [hpn] at h;exact h) (by have:=ho.pnc;omega) ho.pcm ho.pnil (by have:=hl.1;rw [hr] at this;simp at this;omega))
  have hn2:=Lib.hid (fun (W:World) (hb:Below w.heap.size w W)=>rNode_any W o s s.pA r.length s.pc r (ho.below hb) hl (hrit.out W hb) hrl ho.pcm ho.pnil hrf)
  have hst:=Lib.hid (fun (W:World) (hb:Below w.heap.size w W)=>rsame_its W s.pA s.tA r.length s.pc s.tn s.tc r o.to_ (hrit.out W hb) (ho.below hb).to_ (Nat.le_trans hrl ho.pcm) (Nat.le_trans ho.tnc ho.tcm))
  obtain ⟨b,hb⟩:∃ b,b = P4.eqV r o.to_:=⟨_,rfl⟩
  rw [← hb] at hst
  obtain ⟨L,hL⟩:∃ L,L = landV (chV o):=⟨_,rfl⟩
  obtain ⟨T,hT⟩:∃ T,T = toV (chV o):=⟨_,rfl⟩
  obtain ⟨F,hF⟩:∃ F,F = plainR (chV o) r.reverse:=⟨_,rfl⟩
  have hnp:=(@node_path o (by rw [hch]) (by rw [hch])).1
  rw [← hL,← hT] at hnp
  simp only [hnp] at hn1
  have hnf:nodeV (chV o) r = some F:=by have:=node_from (chV o);rw [hch] at this ⊢;rw [hF,hch];exact this
  simp only [hnf] at hn2
  have hv0:=Lib.hid (show undoV (chV o) = ⟨3,T ++ [L],if (b && decide (L < d)) = true then wrap64 (d + 1) else d,F,0,false,[],[],[],false,[]⟩ by rw [hT,hL,hF,hb,← IntWalk.i64_left,hch];rfl)
  obtain ⟨m,hm9⟩:∃ m,m = r.length:=⟨_,rfl⟩
  rw [← hm9] at hpn hst hpar hn1 hn2
  rw [hkI.out] at o0
  rw [hpn] at o1
  unfold opCells at hW2 hmv hn1 hn2
  unfold zero11 at hW2
  conv=>arg 3;unfold opCells
  rw [hkI.out] at hW2 hmv hn1 hn2 ⊢
  rw [hpn] at hW2 hmv hn1 hn2 ⊢
  clear ho hl z1 z2 z4 z5 y2 hk hm hr hw hch hcE hb hL hT hF hnp hnf hrl hrf hrit hm9
  cases b with
  | false =>
    have hv:=Lib.hid (show undoV (chV o) = ⟨3,T ++ [L],d,F,0,false,[],[],[],false,[]⟩ by rw [hv0.out];simp [Bool.false_and])
    clear hv0
    go_enter Try.func23,Try.ntmps23
    go_upto_region 4 with (first | (go_at_call 57;go_loud (rw [← hW2];refine hmv.out.mono ?_;rintro e w1 ⟨rfl,hb1⟩;have E1:=Lib.hid hb1;have B1:=Lib.hid (z4'.out.trans (hb1.mono z4'.out.size));have Y1:=Lib.hid ((hb1.block w.heap.size (by have:=z5'.out;omega)).trans z1'.out);have Y2:=Lib.hid ((hb1.block (w.heap.size + 1) (by have:=z5'.out;omega)).trans z2'.out);clear o0 o1 o2 o3 o4 o5 o6 o7 o8 o9 o10 q0 q1 q2 q3 q4 q5 q6 q7 q8 q9 q10 qf;obtain ⟨o0,o1,o2,o3,o4,o5,o6,o7,o8,o9,o10⟩:=op_cells Y1.out;rw [hkI.out] at o0;rw [hpn] at o1;have y2:=Y2.out;unfold zero11 at y2;obtain ⟨q0,q1,q2,q3,q4,q5,q6,q7,q8,q9,q10,qf⟩:=eleven_cells y2;clear y2;clear hb1)) | (go_at_call 58;go_loud (refine (hpar.out _ B1.out).mono ?_;rintro e w2 ⟨rfl,⟨j1,rfl⟩,hi⟩;clear hi)))
    go_upto_region 5 with (go_at_call 18;go_loud (refine (hn1.out _ (draws B1.out _)).mono ?_;rintro e w3 (⟨hr1,-⟩ | ⟨v,xs,hr1,rfl,hr3,hb3⟩);(exfalso;cases hr1);injection hr1 with hr1;subst hr1;obtain ⟨yA,yn,yc,rfl,-⟩:=P4.OwnI.shape hr3;have O1:=Lib.hid hr3;have hb3':Below w1.heap.size w1 w3:=(draws (Below.refl _ _) _).trans hb3;have S13:=Lib.hid hb3'.size;have E3:=Lib.hid (E1.out.trans (hb3'.mono E1.out.size));have B3:=Lib.hid (z4'.out.trans (E3.out.mono z4'.out.size));have S1:=Lib.hid (show w.heap.size + 1 + 1≤w1.heap.size by have:=E1.out.size;have:=z5'.out;omega);have Y1:=Lib.hid ((E3.out.block w.heap.size (by have:=z5'.out;omega)).trans z1'.out);have Y2:=Lib.hid ((E3.out.block (w.heap.size + 1) (by have:=z5'.out;omega)).trans z2'.out);clear o0 o1 o2 o3 o4 o5 o6 o7 o8 o9 o10 q0 q1 q2 q3 q4 q5 q6 q7 q8 q9 q10 qf;obtain ⟨o0,o1,o2,o3,o4,o5,o6,o7,o8,o9,o10⟩:=op_cells Y1.out;rw [hkI.out] at o0;rw [hpn] at o1;have y2:=Y2.out;unfold zero11 at y2;obtain ⟨q0,q1,q2,q3,q4,q5,q6,q7,q8,q9,q10,qf⟩:=eleven_cells y2;clear y2;clear hr3 hb3 hb3'))
    go_upto_region 6 with (go_at_call 18;go_loud (refine (hn2.out _ B3.out).mono ?_;rintro e w4 (⟨hr1,-⟩ | ⟨v,xs,hr1,rfl,hr3,hb4⟩);(exfalso;cases hr1);injection hr1 with hr1;subst hr1;obtain ⟨tA,tn,tc,rfl,-⟩:=P4.OwnI.shape hr3;have O2:=Lib.hid hr3;have E4:=Lib.hid (E3.out.trans (hb4.mono E3.out.size));have B4:=Lib.hid (z4'.out.trans (E4.out.mono z4'.out.size));have O1b:=Lib.hid (Top.own_kept (w':=w4) O1.out fun k _ h2=>hb4.block k h2);have Y1:=Lib.hid ((E4.out.block w.heap.size (by have:=z5'.out;omega)).trans z1'.out);have Y2:=Lib.hid ((E4.out.block (w.heap.size + 1) (by have:=z5'.out;omega)).trans z2'.out);clear o0 o1 o2 o3 o4 o5 o6 o7 o8 o9 o10 q0 q1 q2 q3 q4 q5 q6 q7 q8 q9 q10 qf;obtain ⟨o0,o1,o2,o3,o4,o5,o6,o7,o8,o9,o10⟩:=op_cells Y1.out;rw [hkI.out] at o0;rw [hpn] at o1;have y2:=Y2.out;unfold zero11 at y2;obtain ⟨q0,q1,q2,q3,q4,q5,q6,q7,q8,q9,q10,qf⟩:=eleven_cells y2;clear y2;clear hr3 hb4))
    go_upto_region 7 with (go_at_call 58;go_loud (obtain ⟨f1,f2,f3,f4,f5⟩:=own_facts O1b.out;rw [List.length_append] at f5;simp only [List.length_cons,List.length_nil,Nat.zero_add] at f5;subst f5;refine (rparent_any w4 yA T.length yc T L f1 f2 f3).mono ?_;rintro e w5 ⟨rfl,⟨j5,rfl⟩,hi⟩;clear hi f1))
    go_wp2_with (go_at_call 37;go_loud (refine (hst.out _ (draws B4.out _)).mono ?_;rintro e w6 ⟨rfl,j6,rfl⟩))
    generalize hW5:w4.drewN (j5 + j6) = W5
    have K5:=Lib.hid (show ∀ k:Nat,W5.heap[k]? = w4.heap[k]? from fun k=>by rw [← hW5];rfl)
    have B5:=Lib.hid (show Below w.heap.size w W5 by rw [← hW5];exact draws B4.out _)
    clear hW5
    obtain ⟨W9,hW9,R9,B9,Z9,K9⟩:=end_op (o:=⟨3,T ++ [L],d,F,0,false,[],[],[],false,[]⟩) (s:=⟨yA,T.length + 1,yc,tA,tn,tc,none,0,0⟩) (r:=w.heap.size + 1) (by omega) B5.out (show W5.heap[w.heap.size + 1]? = some (.cells #[.int .u8 0,.slice none 0 0,.int .i64 0,.slice none 0 0,.int .u64 0,.bool false,.string ⟨#[]⟩,.string ⟨#[]⟩,.string ⟨#[]⟩,.bool false,.slice none 0 0] _ (0,0)) from ((K5.out _).trans Y2.out))
    have hW9':W9 = (((((((((((W5.setCell ⟨w.heap.size + 1,0,none⟩ (.int .u8 3)).setCell ⟨w.heap.size + 1,1,none⟩ (.slice yA (T.length + 1) yc)).setCell ⟨w.heap.size + 1,2,none⟩ (.int .i64 (d))).setCell ⟨w.heap.size + 1,3,none⟩ (.slice tA tn tc)).setCell ⟨w.heap.size + 1,4,none⟩ (.int .u64 0)).setCell ⟨w.heap.size + 1,5,none⟩ (.bool false)).setCell ⟨w.heap.size + 1,6,none⟩ (.string ⟨#[]⟩)).setCell ⟨w.heap.size + 1,7,none⟩ (.string ⟨#[]⟩)).setCell ⟨w.heap.size + 1,8,none⟩ (.string ⟨#[]⟩)).setCell ⟨w.heap.size + 1,9,none⟩ (.bool false)).setCell ⟨w.heap.size + 1,10,none⟩ (.slice none 0 0)):=hW9
    rw [← hW9']
    clear hW9' hW9
    unfold opCells at R9
    clear q0 q1 q2 q3 q4 q5 q6 q7 q8 q9 q10 qf
    obtain ⟨d0,d1,d2,d3,d4,d5,d6,d7,d8,d9,d10,df⟩:=eleven_cells R9
    refine bodyPost_ret (v:=.agg (opCells ⟨3,T ++ [L],d,F,0,false,[],[],[],false,[]⟩ ⟨yA,T.length + 1,yc,tA,tn,tc,none,0,0⟩)) (by simp [results,Try.results23,go_sem,d0,d1,d2,d3,d4,d5,d6,d7,d8,d9,d10,opCells,zeroO]) rfl ?_
    rw [hv.out]
    exact ⟨⟨yA,T.length + 1,yc,tA,tn,tc,none,0,0⟩,rfl,⟨own_mono (Top.own_kept O1b.out (w':=W9) fun k hk1 hk2=>(K9 k (by have:=S1.out;have h8:w1.heap.size≤k:=hk1;omega)).trans (K5.out k)) (by have:=S1.out;show w.heap.size≤w1.heap.size;omega),own_mono (Top.own_kept O2.out (w':=W9) fun k hk1 hk2=>(K9 k (by have:=S1.out;have:=S13.out;omega)).trans (K5.out k)) (by have:=S1.out;have:=S13.out;omega),OwnQ.nil_ _ _⟩,B9⟩
  | true =>
    by_cases j:L < d
    · skip
      have hv:=Lib.hid (show undoV (chV o) = ⟨3,T ++ [L],wrap64 (d + 1),F,0,false,[],[],[],false,[]⟩ by rw [hv0.out];simp [j])
      clear hv0
      go_enter Try.func23,Try.ntmps23
      go_upto_region 4 with (first | (go_at_call 57;go_loud (rw [← hW2];refine hmv.out.mono ?_;rintro e w1 ⟨rfl,hb1⟩;have E1:=Lib.hid hb1;have B1:=Lib.hid (z4'.out.trans (hb1.mono z4'.out.size));have Y1:=Lib.hid ((hb1.block w.heap.size (by have:=z5'.out;omega)).trans z1'.out);have Y2:=Lib.hid ((hb1.block (w.heap.size + 1) (by have:=z5'.out;omega)).trans z2'.out);clear o0 o1 o2 o3 o4 o5 o6 o7 o8 o9 o10 q0 q1 q2 q3 q4 q5 q6 q7 q8 q9 q10 qf;obtain ⟨o0,o1,o2,o3,o4,o5,o6,o7,o8,o9,o10⟩:=op_cells Y1.out;rw [hkI.out] at o0;rw [hpn] at o1;have y2:=Y2.out;unfold zero11 at y2;obtain ⟨q0,q1,q2,q3,q4,q5,q6,q7,q8,q9,q10,qf⟩:=eleven_cells y2;clear y2;clear hb1)) | (go_at_call 58;go_loud (refine (hpar.out _ B1.out).mono ?_;rintro e w2 ⟨rfl,⟨j1,rfl⟩,hi⟩;clear hi)))
      go_upto_region 5 with (go_at_call 18;go_loud (refine (hn1.out _ (draws B1.out _)).mono ?_;rintro e w3 (⟨hr1,-⟩ | ⟨v,xs,hr1,rfl,hr3,hb3⟩);(exfalso;cases hr1);injection hr1 with hr1;subst hr1;obtain ⟨yA,yn,yc,rfl,-⟩:=P4.OwnI.shape hr3;have O1:=Lib.hid hr3;have hb3':Below w1.heap.size w1 w3:=(draws (Below.refl _ _) _).trans hb3;have S13:=Lib.hid hb3'.size;have E3:=Lib.hid (E1.out.trans (hb3'.mono E1.out.size));have B3:=Lib.hid (z4'.out.trans (E3.out.mono z4'.out.size));have S1:=Lib.hid (show w.heap.size + 1 + 1≤w1.heap.size by have:=E1.out.size;have:=z5'.out;omega);have Y1:=Lib.hid ((E3.out.block w.heap.size (by have:=z5'.out;omega)).trans z1'.out);have Y2:=Lib.hid ((E3.out.block (w.heap.size + 1) (by have:=z5'.out;omega)).trans z2'.out);clear o0 o1 o2 o3 o4 o5 o6 o7 o8 o9 o10 q0 q1 q2 q3 q4 q5 q6 q7 q8 q9 q10 qf;obtain ⟨o0,o1,o2,o3,o4,o5,o6,o7,o8,o9,o10⟩:=op_cells Y1.out;rw [hkI.out] at o0;rw [hpn] at o1;have y2:=Y2.out;unfold zero11 at y2;obtain ⟨q0,q1,q2,q3,q4,q5,q6,q7,q8,q9,q10,qf⟩:=eleven_cells y2;clear y2;clear hr3 hb3 hb3'))
      go_upto_region 6 with (go_at_call 18;go_loud (refine (hn2.out _ B3.out).mono ?_;rintro e w4 (⟨hr1,-⟩ | ⟨v,xs,hr1,rfl,hr3,hb4⟩);(exfalso;cases hr1);injection hr1 with hr1;subst hr1;obtain ⟨tA,tn,tc,rfl,-⟩:=P4.OwnI.shape hr3;have O2:=Lib.hid hr3;have E4:=Lib.hid (E3.out.trans (hb4.mono E3.out.size));have B4:=Lib.hid (z4'.out.trans (E4.out.mono z4'.out.size));have O1b:=Lib.hid (Top.own_kept (w':=w4) O1.out fun k _ h2=>hb4.block k h2);have Y1:=Lib.hid ((E4.out.block w.heap.size (by have:=z5'.out;omega)).trans z1'.out);have Y2:=Lib.hid ((E4.out.block (w.heap.size + 1) (by have:=z5'.out;omega)).trans z2'.out);clear o0 o1 o2 o3 o4 o5 o6 o7 o8 o9 o10 q0 q1 q2 q3 q4 q5 q6 q7 q8 q9 q10 qf;obtain ⟨o0,o1,o2,o3,o4,o5,o6,o7,o8,o9,o10⟩:=op_cells Y1.out;rw [hkI.out] at o0;rw [hpn] at o1;have y2:=Y2.out;unfold zero11 at y2;obtain ⟨q0,q1,q2,q3,q4,q5,q6,q7,q8,q9,q10,qf⟩:=eleven_cells y2;clear y2;clear hr3 hb4))
      go_upto_region 7 with (go_at_call 58;go_loud (obtain ⟨f1,f2,f3,f4,f5⟩:=own_facts O1b.out;rw [List.length_append] at f5;simp only [List.length_cons,List.length_nil,Nat.zero_add] at f5;subst f5;refine (rparent_any w4 yA T.length yc T L f1 f2 f3).mono ?_;rintro e w5 ⟨rfl,⟨j5,rfl⟩,hi⟩;clear hi f1))
      go_wp2_with (go_at_call 37;go_loud (refine (hst.out _ (draws B4.out _)).mono ?_;rintro e w6 ⟨rfl,j6,rfl⟩))
      generalize hW5:w4.drewN (j5 + j6) = W5
      have K5:=Lib.hid (show ∀ k:Nat,W5.heap[k]? = w4.heap[k]? from fun k=>by rw [← hW5];rfl)
      have B5:=Lib.hid (show Below w.heap.size w W5 by rw [← hW5];exact draws B4.out _)
      clear hW5
      obtain ⟨W9,hW9,R9,B9,Z9,K9⟩:=end_op (o:=⟨3,T ++ [L],wrap64 (d + 1),F,0,false,[],[],[],false,[]⟩) (s:=⟨yA,T.length + 1,yc,tA,tn,tc,none,0,0⟩) (r:=w.heap.size + 1) (by omega) B5.out (show W5.heap[w.heap.size + 1]? = some (.cells #[.int .u8 0,.slice none 0 0,.int .i64 0,.slice none 0 0,.int .u64 0,.bool false,.string ⟨#[]⟩,.string ⟨#[]⟩,.string ⟨#[]⟩,.bool false,.slice none 0 0] _ (0,0)) from ((K5.out _).trans Y2.out))
      have hW9':W9 = (((((((((((W5.setCell ⟨w.heap.size + 1,0,none⟩ (.int .u8 3)).setCell ⟨w.heap.size + 1,1,none⟩ (.slice yA (T.length + 1) yc)).setCell ⟨w.heap.size + 1,2,none⟩ (.int .i64 (wrap64 (d + 1)))).setCell ⟨w.heap.size + 1,3,none⟩ (.slice tA tn tc)).setCell ⟨w.heap.size + 1,4,none⟩ (.int .u64 0)).setCell ⟨w.heap.size + 1,5,none⟩ (.bool false)).setCell ⟨w.heap.size + 1,6,none⟩ (.string ⟨#[]⟩)).setCell ⟨w.heap.size + 1,7,none⟩ (.string ⟨#[]⟩)).setCell ⟨w.heap.size + 1,8,none⟩ (.string ⟨#[]⟩)).setCell ⟨w.heap.size + 1,9,none⟩ (.bool false)).setCell ⟨w.heap.size + 1,10,none⟩ (.slice none 0 0)):=hW9
      rw [← hW9']
      clear hW9' hW9
      unfold opCells at R9
      clear q0 q1 q2 q3 q4 q5 q6 q7 q8 q9 q10 qf
      obtain ⟨d0,d1,d2,d3,d4,d5,d6,d7,d8,d9,d10,df⟩:=eleven_cells R9
      refine bodyPost_ret (v:=.agg (opCells ⟨3,T ++ [L],wrap64 (d + 1),F,0,false,[],[],[],false,[]⟩ ⟨yA,T.length + 1,yc,tA,tn,tc,none,0,0⟩)) (by simp [results,Try.results23,go_sem,d0,d1,d2,d3,d4,d5,d6,d7,d8,d9,d10,opCells,zeroO]) rfl ?_
      rw [hv.out]
      exact ⟨⟨yA,T.length + 1,yc,tA,tn,tc,none,0,0⟩,rfl,⟨own_mono (Top.own_kept O1b.out (w':=W9) fun k hk1 hk2=>(K9 k (by have:=S1.out;have h8:w1.heap.size≤k:=hk1;omega)).trans (K5.out k)) (by have:=S1.out;show w.heap.size≤w1.heap.size;omega),own_mono (Top.own_kept O2.out (w':=W9) fun k hk1 hk2=>(K9 k (by have:=S1.out;have:=S13.out;omega)).trans (K5.out k)) (by have:=S1.out;have:=S13.out;omega),OwnQ.nil_ _ _⟩,B9⟩
    · skip
      have hv:=Lib.hid (show undoV (chV o) = ⟨3,T ++ [L],d,F,0,false,[],[],[],false,[]⟩ by rw [hv0.out];simp [j])
      clear hv0
      go_enter Try.func23,Try.ntmps23
      go_upto_region 4 with (first | (go_at_call 57;go_loud (rw [← hW2];refine hmv.out.mono ?_;rintro e w1 ⟨rfl,hb1⟩;have E1:=Lib.hid hb1;have B1:=Lib.hid (z4'.out.trans (hb1.mono z4'.out.size));have Y1:=Lib.hid ((hb1.block w.heap.size (by have:=z5'.out;omega)).trans z1'.out);have Y2:=Lib.hid ((hb1.block (w.heap.size + 1) (by have:=z5'.out;omega)).trans z2'.out);clear o0 o1 o2 o3 o4 o5 o6 o7 o8 o9 o10 q0 q1 q2 q3 q4 q5 q6 q7 q8 q9 q10 qf;obtain ⟨o0,o1,o2,o3,o4,o5,o6,o7,o8,o9,o10⟩:=op_cells Y1.out;rw [hkI.out] at o0;rw [hpn] at o1;have y2:=Y2.out;unfold zero11 at y2;obtain ⟨q0,q1,q2,q3,q4,q5,q6,q7,q8,q9,q10,qf⟩:=eleven_cells y2;clear y2;clear hb1)) | (go_at_call 58;go_loud (refine (hpar.out _ B1.out).mono ?_;rintro e w2 ⟨rfl,⟨j1,rfl⟩,hi⟩;clear hi)))
      go_upto_region 5 with (go_at_call 18;go_loud (refine (hn1.out _ (draws B1.out _)).mono ?_;rintro e w3 (⟨hr1,-⟩ | ⟨v,xs,hr1,rfl,hr3,hb3⟩);(exfalso;cases hr1);injection hr1 with hr1;subst hr1;obtain ⟨yA,yn,yc,rfl,-⟩:=P4.OwnI.shape hr3;have O1:=Lib.hid hr3;have hb3':Below w1.heap.size w1 w3:=(draws (Below.refl _ _) _).trans hb3;have S13:=Lib.hid hb3'.size;have E3:=Lib.hid (E1.out.trans (hb3'.mono E1.out.size));have B3:=Lib.hid (z4'.out.trans (E3.out.mono z4'.out.size));have S1:=Lib.hid (show w.heap.size + 1 + 1≤w1.heap.size by have:=E1.out.size;have:=z5'.out;omega);have Y1:=Lib.hid ((E3.out.block w.heap.size (by have:=z5'.out;omega)).trans z1'.out);have Y2:=Lib.hid ((E3.out.block (w.heap.size + 1) (by have:=z5'.out;omega)).trans z2'.out);clear o0 o1 o2 o3 o4 o5 o6 o7 o8 o9 o10 q0 q1 q2 q3 q4 q5 q6 q7 q8 q9 q10 qf;obtain ⟨o0,o1,o2,o3,o4,o5,o6,o7,o8,o9,o10⟩:=op_cells Y1.out;rw [hkI.out] at o0;rw [hpn] at o1;have y2:=Y2.out;unfold zero11 at y2;obtain ⟨q0,q1,q2,q3,q4,q5,q6,q7,q8,q9,q10,qf⟩:=eleven_cells y2;clear y2;clear hr3 hb3 hb3'))
      go_upto_region 6 with (go_at_call 18;go_loud (refine (hn2.out _ B3.out).mono ?_;rintro e w4 (⟨hr1,-⟩ | ⟨v,xs,hr1,rfl,hr3,hb4⟩);(exfalso;cases hr1);injection hr1 with hr1;subst hr1;obtain ⟨tA,tn,tc,rfl,-⟩:=P4.OwnI.shape hr3;have O2:=Lib.hid hr3;have E4:=Lib.hid (E3.out.trans (hb4.mono E3.out.size));have B4:=Lib.hid (z4'.out.trans (E4.out.mono z4'.out.size));have O1b:=Lib.hid (Top.own_kept (w':=w4) O1.out fun k _ h2=>hb4.block k h2);have Y1:=Lib.hid ((E4.out.block w.heap.size (by have:=z5'.out;omega)).trans z1'.out);have Y2:=Lib.hid ((E4.out.block (w.heap.size + 1) (by have:=z5'.out;omega)).trans z2'.out);clear o0 o1 o2 o3 o4 o5 o6 o7 o8 o9 o10 q0 q1 q2 q3 q4 q5 q6 q7 q8 q9 q10 qf;obtain ⟨o0,o1,o2,o3,o4,o5,o6,o7,o8,o9,o10⟩:=op_cells Y1.out;rw [hkI.out] at o0;rw [hpn] at o1;have y2:=Y2.out;unfold zero11 at y2;obtain ⟨q0,q1,q2,q3,q4,q5,q6,q7,q8,q9,q10,qf⟩:=eleven_cells y2;clear y2;clear hr3 hb4))
      go_upto_region 7 with (go_at_call 58;go_loud (obtain ⟨f1,f2,f3,f4,f5⟩:=own_facts O1b.out;rw [List.length_append] at f5;simp only [List.length_cons,List.length_nil,Nat.zero_add] at f5;subst f5;refine (rparent_any w4 yA T.length yc T L f1 f2 f3).mono ?_;rintro e w5 ⟨rfl,⟨j5,rfl⟩,hi⟩;clear hi f1))
      go_wp2_with (go_at_call 37;go_loud (refine (hst.out _ (draws B4.out _)).mono ?_;rintro e w6 ⟨rfl,j6,rfl⟩))
      generalize hW5:w4.drewN (j5 + j6) = W5
      have K5:=Lib.hid (show ∀ k:Nat,W5.heap[k]? = w4.heap[k]? from fun k=>by rw [← hW5];rfl)
      have B5:=Lib.hid (show Below w.heap.size w W5 by rw [← hW5];exact draws B4.out _)
      clear hW5
      obtain ⟨W9,hW9,R9,B9,Z9,K9⟩:=end_op (o:=⟨3,T ++ [L],d,F,0,false,[],[],[],false,[]⟩) (s:=⟨yA,T.length + 1,yc,tA,tn,tc,none,0,0⟩) (r:=w.heap.size + 1) (by omega) B5.out (show W5.heap[w.heap.size + 1]? = some (.cells #[.int .u8 0,.slice none 0 0,.int .i64 0,.slice none 0 0,.int .u64 0,.bool false,.string ⟨#[]⟩,.string ⟨#[]⟩,.string ⟨#[]⟩,.bool false,.slice none 0 0] _ (0,0)) from ((K5.out _).trans Y2.out))
      have hW9':W9 = (((((((((((W5.setCell ⟨w.heap.size + 1,0,none⟩ (.int .u8 3)).setCell ⟨w.heap.size + 1,1,none⟩ (.slice yA (T.length + 1) yc)).setCell ⟨w.heap.size + 1,2,none⟩ (.int .i64 (d))).setCell ⟨w.heap.size + 1,3,none⟩ (.slice tA tn tc)).setCell ⟨w.heap.size + 1,4,none⟩ (.int .u64 0)).setCell ⟨w.heap.size + 1,5,none⟩ (.bool false)).setCell ⟨w.heap.size + 1,6,none⟩ (.string ⟨#[]⟩)).setCell ⟨w.heap.size + 1,7,none⟩ (.string ⟨#[]⟩)).setCell ⟨w.heap.size + 1,8,none⟩ (.string ⟨#[]⟩)).setCell ⟨w.heap.size + 1,9,none⟩ (.bool false)).setCell ⟨w.heap.size + 1,10,none⟩ (.slice none 0 0)):=hW9
      rw [← hW9']
      clear hW9' hW9
      unfold opCells at R9
      clear q0 q1 q2 q3 q4 q5 q6 q7 q8 q9 q10 qf
      obtain ⟨d0,d1,d2,d3,d4,d5,d6,d7,d8,d9,d10,df⟩:=eleven_cells R9
      refine bodyPost_ret (v:=.agg (opCells ⟨3,T ++ [L],d,F,0,false,[],[],[],false,[]⟩ ⟨yA,T.length + 1,yc,tA,tn,tc,none,0,0⟩)) (by simp [results,Try.results23,go_sem,d0,d1,d2,d3,d4,d5,d6,d7,d8,d9,d10,opCells,zeroO]) rfl ?_
      rw [hv.out]
      exact ⟨⟨yA,T.length + 1,yc,tA,tn,tc,none,0,0⟩,rfl,⟨own_mono (Top.own_kept O1b.out (w':=W9) fun k hk1 hk2=>(K9 k (by have:=S1.out;have h8:w1.heap.size≤k:=hk1;omega)).trans (K5.out k)) (by have:=S1.out;show w.heap.size≤w1.heap.size;omega),own_mono (Top.own_kept O2.out (w':=W9) fun k hk1 hk2=>(K9 k (by have:=S1.out;have:=S13.out;omega)).trans (K5.out k)) (by have:=S1.out;have:=S13.out;omega),OwnQ.nil_ _ _⟩,B9⟩
theorem rUndo_any (w:World) (o:Ov) (s:OS) (ho:OpIn w o s) (hl:Slen o):Calls Try.prog 23 #[.agg (opCells o s)] w fun e w'=>∃ s',e = .returned (.agg (opCells (undoV (chV o)) s'))∧OwnOp w.heap.size w' (undoV (chV o)) s'∧Below w.heap.size w w':=by
  by_cases hk:o.kind = 3
  · cases hm:movesV o with
    | false=>exact rundo_same w o s ho hl hk hm
    | true =>
      rcases move_kind hm with h | ⟨h,-⟩ | ⟨-,hpn,hw⟩
      · omega
      · omega
      · obtain ⟨r,d,hr⟩:∃ r d,o.path = r ++ [d]:=by
          rcases snoc_cases o.path with h | h
          · exact absurd h hpn
          · exact h
        exact rundo_move w o s ho hl hk hm hw r d hr
  · exact rundo_other w o s ho hl hk
end Go.Proofs.Ytpoenlhikanooaa.Shf
