/- MgAM: TopLi ShfLa -/
import Derived.Test.YtpoenlhikanooaaTopFo
import Derived.Test.YtpoenlhikanooaaMgAK
import Derived.Test.YtpoenlhikanooaaMgAL
set_option linter.all false
namespace Go.Proofs.Ytpoenlhikanooaa.Top
open Go.RowKit
set_option maxRecDepth 20000
set_option linter.unusedVariables false

def lightB (o:Ov) (top:Nat):Bool:=decide (o.path.length≤top∧o.to_.length≤top∧o.label.length≤top∧o.key.length≤top∧o.value.length≤top∧o.pieces.length≤top∧P5.putsI o.pieces≤top)
theorem puts_upto:∀ (l:List P5.IP) (q:Nat),P5.putsI (l.take q)≤P5.putsI l
  | [],q=>by simp [P5.putsI]
  | x :: r,0=>by simp [P5.putsI]
  | x :: r,q + 1=>by rw [List.take_succ_cons,P5.putsI,P5.putsI];have:=puts_upto r q;omega
set_option maxHeartbeats 4000000 in
theorem light_any (w:World) (o:Ov) (s:OS) (h:OpRaw w o s) (top:Nat) (ht:top≤1000):Calls Try.prog 14 #[.agg (opCells o s),.int .i64 (top:Int)] w fun e w'=>e = .returned (.bool (lightB o top))∧Below w.heap.size w w':=by
  obtain ⟨W1,hW1⟩:∃ W1,W1 = w.alloc (.cells (opCells o s) 26):=⟨_,rfl⟩
  have z1:W1.heap[w.heap.size]? = some (.cells (opCells o s) 26 (0,0)):=by rw [hW1];exact heap_alloc_new w _
  have hb1:=Lib.hid (show Below w.heap.size w W1 by rw [hW1];exact (Below.refl _ _).alloc (Nat.le_refl _) _)
  obtain ⟨o0,o1,o2,o3,o4,o5,o6,o7,o8,o9,o10⟩:=op_cells z1
  have e1:=Lib.hid h.path.1
  have e2:=Lib.hid h.to_.1
  have e6:=Lib.hid h.pieces.1
  have hp:=Lib.hid (h.pieces.below hb1.out)
  have b1:=Nat.le_trans h.pnc h.pcm
  have b2:=Nat.le_trans h.tnc h.tcm
  have b3:=h.label
  have b4:=h.key
  have b5:=h.value
  have b6:=Nat.le_trans h.qnc h.qcm
  clear h z1
  unfold maxLen at b1 b2 b3 b4 b5 b6
  unfold opCells at hW1
  unfold opCells
  by_cases c0:top < s.pn
  · have hv:=Lib.hid (show lightB o top = false from decide_eq_false fun hh=>by have:=hh.2;have:=hh.2.2;have:=hh.2.2.2;have:=hh.2.2.2.2;have:=hh.2.2.2.2.2;have:=hh.2.2.2.2.2.2;have:=e1.out;have:=e2.out;have:=e6.out;omega)
    have d0:(top:Int) < (s.pn:Int):=by omega
    rw [hW1] at o1 o3 o6 o7 o8 o10
    clear hp
    go_enter Try.func14,Try.ntmps14
    go_wp2_with fail
    go_ret
    exact ⟨by rw [hv.out] <;> rfl,by rw [← hW1];exact hb1.out⟩
  · have d0:¬ (top:Int) < (s.pn:Int):=by omega
    by_cases c1:top < s.tn
    · have hv:=Lib.hid (show lightB o top = false from decide_eq_false fun hh=>by have:=hh.2;have:=hh.2.2;have:=hh.2.2.2;have:=hh.2.2.2.2;have:=hh.2.2.2.2.2;have:=hh.2.2.2.2.2.2;have:=e1.out;have:=e2.out;have:=e6.out;omega)
      have d1:(top:Int) < (s.tn:Int):=by omega
      rw [hW1] at o1 o3 o6 o7 o8 o10
      clear hp
      go_enter Try.func14,Try.ntmps14
      go_wp2_with fail
      go_ret
      exact ⟨by rw [hv.out] <;> rfl,by rw [← hW1];exact hb1.out⟩
    · have d1:¬ (top:Int) < (s.tn:Int):=by omega
      by_cases c2:top < o.label.length
      · have hv:=Lib.hid (show lightB o top = false from decide_eq_false fun hh=>by have:=hh.2;have:=hh.2.2;have:=hh.2.2.2;have:=hh.2.2.2.2;have:=hh.2.2.2.2.2;have:=hh.2.2.2.2.2.2;have:=e1.out;have:=e2.out;have:=e6.out;omega)
        have d2:(top:Int) < (o.label.length:Int):=by omega
        rw [hW1] at o1 o3 o6 o7 o8 o10
        clear hp
        go_enter Try.func14,Try.ntmps14
        go_wp2_with fail
        go_ret
        exact ⟨by rw [hv.out] <;> rfl,by rw [← hW1];exact hb1.out⟩
      · have d2:¬ (top:Int) < (o.label.length:Int):=by omega
        by_cases c3:top < o.key.length
        · have hv:=Lib.hid (show lightB o top = false from decide_eq_false fun hh=>by have:=hh.2;have:=hh.2.2;have:=hh.2.2.2;have:=hh.2.2.2.2;have:=hh.2.2.2.2.2;have:=hh.2.2.2.2.2.2;have:=e1.out;have:=e2.out;have:=e6.out;omega)
          have d3:(top:Int) < (o.key.length:Int):=by omega
          rw [hW1] at o1 o3 o6 o7 o8 o10
          clear hp
          go_enter Try.func14,Try.ntmps14
          go_wp2_with fail
          go_ret
          exact ⟨by rw [hv.out] <;> rfl,by rw [← hW1];exact hb1.out⟩
        · have d3:¬ (top:Int) < (o.key.length:Int):=by omega
          by_cases c4:top < o.value.length
          · have hv:=Lib.hid (show lightB o top = false from decide_eq_false fun hh=>by have:=hh.2;have:=hh.2.2;have:=hh.2.2.2;have:=hh.2.2.2.2;have:=hh.2.2.2.2.2;have:=hh.2.2.2.2.2.2;have:=e1.out;have:=e2.out;have:=e6.out;omega)
            have d4:(top:Int) < (o.value.length:Int):=by omega
            rw [hW1] at o1 o3 o6 o7 o8 o10
            clear hp
            go_enter Try.func14,Try.ntmps14
            go_wp2_with fail
            go_ret
            exact ⟨by rw [hv.out] <;> rfl,by rw [← hW1];exact hb1.out⟩
          · have d4:¬ (top:Int) < (o.value.length:Int):=by omega
            by_cases c5:top < s.qn
            · have hv:=Lib.hid (show lightB o top = false from decide_eq_false fun hh=>by have:=hh.2;have:=hh.2.2;have:=hh.2.2.2;have:=hh.2.2.2.2;have:=hh.2.2.2.2.2;have:=hh.2.2.2.2.2.2;have:=e1.out;have:=e2.out;have:=e6.out;omega)
              have d5:(top:Int) < (s.qn:Int):=by omega
              rw [hW1] at o1 o3 o6 o7 o8 o10
              clear hp
              go_enter Try.func14,Try.ntmps14
              go_wp2_with fail
              go_ret
              exact ⟨by rw [hv.out] <;> rfl,by rw [← hW1];exact hb1.out⟩
            · have d5:¬ (top:Int) < (s.qn:Int):=by omega
              have hle:=Lib.hid (puts_upto o.pieces)
              have w1:=Lib.hid o10
              rw [hW1] at o1 o3 o6 o7 o8 o10
              clear o0 o2 o4 o5 o9
              go_enter Try.func14,Try.ntmps14
              go_wp2_with fail
              rw [← hW1]
              clear hW1
              go_loopw [5,6] (fun v5 v6 wr=>∃ q:Nat,q≤s.qn∧v6 = .int .i64 (q:Int)∧v5 = .int .i64 ((P5.putsI (o.pieces.take q):Nat):Int)∧P5.putsI (o.pieces.take q)≤top∧wr = W1) (fun _ v6 _=>s.qn - (intOf v6).toNat)
              case atStart=>exact ⟨0,Nat.zero_le _,rfl,rfl,Nat.zero_le _,rfl⟩
              case round =>
                obtain ⟨q,hq,rfl,rfl,hz,rfl⟩:=hrel
                obtain ⟨z,hze⟩:∃ z,z = P5.putsI (o.pieces.take q):=⟨_,rfl⟩
                rw [← hze] at hz ⊢
                have x10:=w1.out
                clear o1 o3 o6 o7 o8 o10
                by_cases hqn:q < s.qn
                · have hqI:(q:Int) < (s.qn:Int):=by omega
                  obtain ⟨ad,x,hA,hx,-,hpc⟩:=hp.out.at_ hqn
                  have hst:=Lib.hid (P5.putsI_take o.pieces q x hx)
                  have hl1:=hle.out (q + 1)
                  obtain ⟨kp,dr,pu⟩:=x
                  obtain ⟨-,-,-,-,hpl,k0,k1,k2⟩:=hpc
                  dsimp only at k0 k1 k2 hst hpl
                  rw [← hze] at hst
                  rw [hA] at x10
                  unfold maxLen at hpl
                  have hze':=Lib.hid hze
                  have hA':=Lib.hid hA
                  clear hze hx hA k0 k1
                  by_cases hg:pu.length + z≤top
                  · have g1:¬ (top:Int) - (z:Int) < (pu.length:Int):=by omega
                    go_wp2_with fail
                    go_roundw
                    case rel=>exact ⟨q + 1,by omega,by go_num,by rw [hst.out];go_num,by rw [hst.out];omega,trivial⟩
                    case measure=>simp [intOf];omega
                  · have g1:(top:Int) - (z:Int) < (pu.length:Int):=by omega
                    have hv:=Lib.hid (show lightB o top = false from decide_eq_false fun hh=>by have h7:=hh.2.2.2.2.2.2;rw [hst.out] at hl1;omega)
                    clear hl1
                    go_wp2_with fail
                    go_ret
                    exact ⟨by rw [hv.out] <;> rfl,hb1.out⟩
                · have hqI:¬ (q:Int) < (s.qn:Int):=by omega
                  have hv:=Lib.hid (show lightB o top = true from decide_eq_true ⟨by have:=e1.out;omega,by have:=e2.out;omega,by omega,by omega,by omega,by have:=e6.out;omega,by rw [hze,List.take_of_length_le (by have:=e6.out;omega)] at hz;exact hz⟩)
                  clear hze
                  go_wp2_with fail
                  go_ret
                  exact ⟨by rw [hv.out] <;> rfl,hb1.out⟩
end Go.Proofs.Ytpoenlhikanooaa.Top
namespace Go.Proofs.Ytpoenlhikanooaa.Shf
open Go.RowKit Top
set_option maxRecDepth 20000
set_option linter.unusedVariables false

theorem light_slen {o:Ov} {t:Nat} (h:lightB o t = true) (ht:t≤1000):Slen o∧o.path.length≤500000∧o.to_.length≤500000∧o.pieces.length≤500000:=by
  have h2:=of_decide_eq_true h
  obtain ⟨a,b,-,-,-,c,-⟩:=h2
  exact ⟨⟨by omega,by omega⟩,by omega,by omega,by omega⟩
theorem setCell_row2 {w:World} {g i:Nat} {cur:Array Value} {T:TypeId} {v:Value} (h:w.heap[g]? = some (.cells cur T (0,0))):∃ cur',(w.setCell ⟨g,i,none⟩ v).heap[g]? = some (.cells cur' T (0,0))∧cur'.size = cur.size :=
  ⟨cur.setIfInBounds i v,heap_setCell_same w g i _ _ _ h,by simp⟩
theorem own_writable {base:Nat} {w:World} {A:Option Addr} {n c:Nat} {xs:List Int} (h:P4.OwnI base w (.slice A n c) xs) (hn:0 < n):∃ g cur,A = some ⟨g,0,none⟩∧base≤g∧w.heap[g]? = some (.cells cur 3 (0,0))∧n≤cur.size:=by
  obtain ⟨A',n',c',e,hl,-⟩:=h.shape
  injection e with e1 e2 e3
  subst e1 e2 e3
  rcases h.2 with ⟨e,h0⟩ | ⟨g,cap,cur,e,hb,hg,hnc,hcm,hcs,-⟩
  · omega
  · injection e with e1 e2 e3
    subst e1 e3
    exact ⟨g,cur,rfl,hb,hg,by omega⟩
set_option maxHeartbeats 16000000 in
theorem lawGap_any (w:World) (o:Ov) (s:OS) (A:Option Addr) (n cp:Nat) (p:List Int) (i:Int) (first:Bool) (h:OpRaw w o s) (hA:Its w A n p) (hn:n≤cp) (hcp:cp≤maxLen) (hnil:A = none→cp = 0):Calls Try.prog 4 #[.agg (opCells o s),.slice A n cp,.int .i64 i,.bool first] w fun e w'=>e = .returned (.bool true)∧Below w.heap.size w w':=by
  obtain ⟨W1,hW1⟩:∃ W1,W1 = w.alloc (.cells (opCells o s) 26):=⟨_,rfl⟩
  have z1:=Lib.hid (show W1.heap[w.heap.size]? = some (.cells (opCells o s) 26 (0,0)) by rw [hW1];exact heap_alloc_new w _)
  have z4':=Lib.hid (show Below w.heap.size w W1 by rw [hW1];exact (Below.refl _ _).alloc (Nat.le_refl _) _)
  have z5':=Lib.hid (show W1.heap.size = w.heap.size + 1 by rw [hW1];simp)
  have hrow:=Lib.hid (fun (W:World) (hb:Below W1.heap.size W1 W)=>(hb.block w.heap.size (Array.getElem?_eq_some_iff.1 z1.out).1).trans z1.out)
  have hli:=Lib.hid (light_any W1 o s (h.below z4'.out) 300 (by omega))
  have hop:=Lib.hid (fun (hl:lightB o 300 = true) (W:World) (hb:Below w.heap.size w W)=>(h.below hb).op (light_slen hl (by omega)).2.1 (light_slen hl (by omega)).2.2.1 (light_slen hl (by omega)).2.2.2)
  obtain ⟨o0,o1,o2,o3,o4,o5,o6,o7,o8,o9,o10⟩:=op_cells z1.out
  rw [hW1] at o0 o1 o2 o3 o4 o5 o6 o7 o8 o9 o10
  cases hlb:lightB o 300 with
  | false =>
    rw [hlb] at hli
    unfold opCells at hW1 hli
    unfold opCells
    clear h hop hlb hA
    go_enter Try.func4,Try.ntmps4
    go_wp2_with (first | (go_at_call 14;go_loud (rw [← hW1];refine hli.out.mono ?_;rintro e w1 ⟨rfl,hb1⟩;have E1:=Lib.hid hb1;have B1:=Lib.hid (z4'.out.trans (hb1.mono z4'.out.size));clear hb1 o0 o1 o2 o3 o4 o5 o6 o7 o8 o9 o10;obtain ⟨o0,o1,o2,o3,o4,o5,o6,o7,o8,o9,o10⟩:=op_cells (hrow.out w1 E1.out))) | (go_at_call 15;go_loud (refine (works_any _).mono ?_;rintro e w9 ⟨rfl,hb9⟩;have B9:=Lib.hid (B1.out.trans (hb9.mono (Below.size B1.out)));clear hb9)))
    go_ret
    exact ⟨rfl,B9.out⟩
  | true =>
    rw [hlb] at hli
    by_cases hbig:300 < n
    · have hbI:(300:Int) < (n:Int):=by omega
      unfold opCells at hW1 hli
      unfold opCells
      clear h hop hlb hA hbig
      go_enter Try.func4,Try.ntmps4
      go_wp2_with (first | (go_at_call 14;go_loud (rw [← hW1];refine hli.out.mono ?_;rintro e w1 ⟨rfl,hb1⟩;have E1:=Lib.hid hb1;have B1:=Lib.hid (z4'.out.trans (hb1.mono z4'.out.size));clear hb1 o0 o1 o2 o3 o4 o5 o6 o7 o8 o9 o10;obtain ⟨o0,o1,o2,o3,o4,o5,o6,o7,o8,o9,o10⟩:=op_cells (hrow.out w1 E1.out))) | (go_at_call 15;go_loud (refine (works_any _).mono ?_;rintro e w9 ⟨rfl,hb9⟩;have B9:=Lib.hid (B1.out.trans (hb9.mono (Below.size B1.out)));clear hb9)))
      go_ret
      exact ⟨rfl,B9.out⟩
    · have hbI:¬ (300:Int) < (n:Int):=by omega
      have hsl:=(light_slen hlb (by omega)).1
      have hA':=Lib.hid (fun (W:World) (hb:Below w.heap.size w W)=>hA.below hb)
      have hg1:=Lib.hid (fun (W:World) (hb:Below w.heap.size w W)=>Gap_any W o s A n cp p i first (hop.out hlb W hb) hsl (hA'.out W hb) hn hcp (by omega))
      have hg2:=Lib.hid (fun (W:World) (hb:Below w.heap.size w W)=>rGap_any W o s A n cp p i first hsl (hop.out hlb W hb) (hA'.out W hb) hn hcp hnil (by omega))
      obtain ⟨V,hV⟩:∃ V,V = nodeV (chV o) p:=⟨_,rfl⟩
      obtain ⟨G,hG⟩:∃ G,G = gapV (chV o) p i first:=⟨_,rfl⟩
      rw [← hV,← hG] at hg1 hg2
      unfold opCells at hW1 hli hg1 hg2
      unfold opCells
      clear h hop hlb hA hbig hsl hA' hV hG
      go_enter Try.func4,Try.ntmps4
      go_upto_region 4 with (first | (go_at_call 14;go_loud (rw [← hW1];refine hli.out.mono ?_;rintro e w1 ⟨rfl,hb1⟩;have E1:=Lib.hid hb1;have B1:=Lib.hid (z4'.out.trans (hb1.mono z4'.out.size));clear hb1 o0 o1 o2 o3 o4 o5 o6 o7 o8 o9 o10;obtain ⟨o0,o1,o2,o3,o4,o5,o6,o7,o8,o9,o10⟩:=op_cells (hrow.out w1 E1.out))) | (go_at_call 20;go_loud (refine (hg1.out w1 B1.out).mono ?_;rintro e w2 (⟨hr1,rfl,hb2⟩ | ⟨v2,xs,hr1,rfl,hr3,hb2⟩) <;> (have E2:=Lib.hid (E1.out.trans (hb2.mono E1.out.size));have F2:=Lib.hid hb2;have B2:=Lib.hid (z4'.out.trans (E2.out.mono z4'.out.size));clear hb2 o0 o1 o2 o3 o4 o5 o6 o7 o8 o9 o10;obtain ⟨o0,o1,o2,o3,o4,o5,o6,o7,o8,o9,o10⟩:=op_cells (hrow.out w2 E2.out)))))
      · go_wp2_with (first | (go_at_call 21;go_loud (refine (hg2.out w2 B2.out).mono ?_;rintro e w3 (⟨hq1,rfl,hb3⟩ | ⟨v3,ys,hq1,rfl,hq3,hb3⟩);rotate_left 1;(exfalso;rw [hr1] at hq1;cases hq1);have B3:=Lib.hid (B2.out.trans (hb3.mono B2.out.size));clear hb3 o0 o1 o2 o3 o4 o5 o6 o7 o8 o9 o10)) | (go_at_call 19;go_loud (refine (kit_same w3 none none 0 0 0 0 [] [] (Its.none_ _) (Its.none_ _) (by unfold maxLen;omega) (by unfold maxLen;omega)).mono ?_;rw [show P4.eqV [] [] = true by unfold P4.eqV;simp];rintro e w4 ⟨rfl,j4,rfl⟩)) | (go_at_call 15;go_loud (refine (works_any _).mono ?_;rintro e w9 ⟨rfl,hb9⟩;have B9:=Lib.hid ((draws B3.out j4).trans (hb9.mono (Below.size (draws B3.out j4))));clear hb9)))
        go_ret
        exact ⟨rfl,B9.out⟩
      · go_wp2_with (first | (go_at_call 21;go_loud (refine (hg2.out w2 B2.out).mono ?_;rintro e w3 (⟨hq1,rfl,hb3⟩ | ⟨v3,ys,hq1,rfl,hq3,hb3⟩);(exfalso;rw [hr1] at hq1;cases hq1);rw [hr1] at hq1;injection hq1 with hq1;subst hq1;obtain ⟨xA,xn,xc,rfl,hx1,hx2,hx3,hx4,-⟩:=P4.OwnI.shape hr3;obtain ⟨yA,yn,yc,rfl,hy1,hy2,hy3,hy4,-⟩:=P4.OwnI.shape hq3;have X3:=Lib.hid ((show Its w2 xA xn xs from hx4).below hb3);have Y3:=Lib.hid (show Its w3 yA yn xs from hy4);have m1:=Lib.hid (Nat.le_trans hx2 hx3);have m2:=Lib.hid (Nat.le_trans hy2 hy3);clear hx1 hx2 hx3 hx4 hy1 hy2 hy3 hy4 hr3 hq3;have B3:=Lib.hid (B2.out.trans (hb3.mono B2.out.size));clear hb3 o0 o1 o2 o3 o4 o5 o6 o7 o8 o9 o10)) | (go_at_call 19;go_loud (refine (kit_same w3 xA yA xn xc yn yc xs xs X3.out Y3.out m1.out m2.out).mono ?_;rw [show P4.eqV xs xs = true by unfold P4.eqV;simp];rintro e w4 ⟨rfl,j4,rfl⟩)) | (go_at_call 15;go_loud (refine (works_any _).mono ?_;rintro e w9 ⟨rfl,hb9⟩;have B9:=Lib.hid ((draws B3.out j4).trans (hb9.mono (Below.size (draws B3.out j4))));clear hb9)))
        go_ret
        exact ⟨rfl,B9.out⟩
set_option maxHeartbeats 16000000 in
theorem lawNode_any (w:World) (o:Ov) (s:OS) (A:Option Addr) (n cp:Nat) (p:List Int) (h:OpRaw w o s) (hA:Its w A n p) (hn:n≤cp) (hcp:cp≤maxLen) (hnil:A = none→cp = 0):Calls Try.prog 3 #[.agg (opCells o s),.slice A n cp] w fun e w'=>e = .returned (.bool true)∧Below w.heap.size w w':=by
  obtain ⟨W1,hW1⟩:∃ W1,W1 = w.alloc (.cells (opCells o s) 26):=⟨_,rfl⟩
  have z1:=Lib.hid (show W1.heap[w.heap.size]? = some (.cells (opCells o s) 26 (0,0)) by rw [hW1];exact heap_alloc_new w _)
  have z4':=Lib.hid (show Below w.heap.size w W1 by rw [hW1];exact (Below.refl _ _).alloc (Nat.le_refl _) _)
  have z5':=Lib.hid (show W1.heap.size = w.heap.size + 1 by rw [hW1];simp)
  have hrow:=Lib.hid (fun (W:World) (hb:Below W1.heap.size W1 W)=>(hb.block w.heap.size (Array.getElem?_eq_some_iff.1 z1.out).1).trans z1.out)
  have hli:=Lib.hid (light_any W1 o s (h.below z4'.out) 300 (by omega))
  have hop:=Lib.hid (fun (hl:lightB o 300 = true) (W:World) (hb:Below w.heap.size w W)=>(h.below hb).op (light_slen hl (by omega)).2.1 (light_slen hl (by omega)).2.2.1 (light_slen hl (by omega)).2.2.2)
  obtain ⟨o0,o1,o2,o3,o4,o5,o6,o7,o8,o9,o10⟩:=op_cells z1.out
  rw [hW1] at o0 o1 o2 o3 o4 o5 o6 o7 o8 o9 o10
  cases hlb:lightB o 300 with
  | false =>
    rw [hlb] at hli
    unfold opCells at hW1 hli
    unfold opCells
    clear h hop hlb hA
    go_enter Try.func3,Try.ntmps3
    go_wp2_with (first | (go_at_call 14;go_loud (rw [← hW1];refine hli.out.mono ?_;rintro e w1 ⟨rfl,hb1⟩;have E1:=Lib.hid hb1;have B1:=Lib.hid (z4'.out.trans (hb1.mono z4'.out.size));clear hb1 o0 o1 o2 o3 o4 o5 o6 o7 o8 o9 o10;obtain ⟨o0,o1,o2,o3,o4,o5,o6,o7,o8,o9,o10⟩:=op_cells (hrow.out w1 E1.out))) | (go_at_call 15;go_loud (refine (works_any _).mono ?_;rintro e w9 ⟨rfl,hb9⟩;have B9:=Lib.hid (B1.out.trans (hb9.mono (Below.size B1.out)));clear hb9)))
    go_ret
    exact ⟨rfl,B9.out⟩
  | true =>
    rw [hlb] at hli
    by_cases hbig:300 < n
    · have hbI:(300:Int) < (n:Int):=by omega
      unfold opCells at hW1 hli
      unfold opCells
      clear h hop hlb hA hbig
      go_enter Try.func3,Try.ntmps3
      go_wp2_with (first | (go_at_call 14;go_loud (rw [← hW1];refine hli.out.mono ?_;rintro e w1 ⟨rfl,hb1⟩;have E1:=Lib.hid hb1;have B1:=Lib.hid (z4'.out.trans (hb1.mono z4'.out.size));clear hb1 o0 o1 o2 o3 o4 o5 o6 o7 o8 o9 o10;obtain ⟨o0,o1,o2,o3,o4,o5,o6,o7,o8,o9,o10⟩:=op_cells (hrow.out w1 E1.out))) | (go_at_call 15;go_loud (refine (works_any _).mono ?_;rintro e w9 ⟨rfl,hb9⟩;have B9:=Lib.hid (B1.out.trans (hb9.mono (Below.size B1.out)));clear hb9)))
      go_ret
      exact ⟨rfl,B9.out⟩
    · have hbI:¬ (300:Int) < (n:Int):=by omega
      have hsl:=(light_slen hlb (by omega)).1
      have hA':=Lib.hid (fun (W:World) (hb:Below w.heap.size w W)=>hA.below hb)
      have hpl:=Lib.hid (show p.length≤300 by have:=hA.1;omega)
      have hg1:=Lib.hid (fun (W:World) (hb:Below w.heap.size w W) (uA:Option Addr) (un uc:Nat) (hu:Its W uA un p) (h1:un≤uc) (h2:uc≤maxLen) (h3:un≤400000)=>Node_any W o s uA un uc p (hop.out hlb W hb) hsl hu h1 h2 h3)
      have hg2:=Lib.hid (fun (W:World) (hb:Below w.heap.size w W)=>rNode_any W o s A n cp p (hop.out hlb W hb) hsl (hA'.out W hb) hn hcp hnil (by omega))
      obtain ⟨V,hV⟩:∃ V,V = nodeV (chV o) p:=⟨_,rfl⟩
      rw [← hV] at hg1 hg2
      unfold opCells at hW1 hli hg1 hg2
      unfold opCells
      clear h hop hlb hA hbig hsl hV
      go_enter Try.func3,Try.ntmps3
      go_upto_region 5 with (first | (go_at_call 14;go_loud (rw [← hW1];refine hli.out.mono ?_;rintro e w1 ⟨rfl,hb1⟩;have E1:=Lib.hid hb1;have B1:=Lib.hid (z4'.out.trans (hb1.mono z4'.out.size));clear hb1 o0 o1 o2 o3 o4 o5 o6 o7 o8 o9 o10;obtain ⟨o0,o1,o2,o3,o4,o5,o6,o7,o8,o9,o10⟩:=op_cells (hrow.out w1 E1.out))) | (go_at_call 16;go_loud (refine (P4.refCopied_any w1 A n cp p (its4 (hA'.out w1 B1.out)) hnil (by omega)).mono ?_;rintro e w2 ⟨v2,rfl,ho2,hb2⟩;obtain ⟨uA,un,uc,rfl,hu1,hu2,hu3,hu4,-⟩:=P4.OwnI.shape ho2;have U2:=Lib.hid (show Its w2 uA un p from hu4);have un2:=Lib.hid (show un≤uc∧uc≤maxLen∧un = p.length from ⟨hu2,hu3,hu1⟩);have E2:=Lib.hid (E1.out.trans (hb2.mono E1.out.size));have B2:=Lib.hid (z4'.out.trans (E2.out.mono z4'.out.size));clear hb2 ho2 hu1 hu2 hu3 hu4 o0 o1 o2 o3 o4 o5 o6 o7 o8 o9 o10;obtain ⟨o0,o1,o2,o3,o4,o5,o6,o7,o8,o9,o10⟩:=op_cells (hrow.out w2 E2.out))) | (go_at_call 17;go_loud (refine (hg1.out w2 B2.out uA un uc U2.out un2.out.1 un2.out.2.1 (by have:=un2.out.2.2;have:=hpl.out;omega)).mono ?_;rintro e w3 (⟨hr1,rfl,hb3⟩ | ⟨v3,xs,hr1,rfl,hr3,hb3⟩) <;> (have E3:=Lib.hid (E2.out.trans (hb3.mono E2.out.size));have F3:=Lib.hid hb3;have B3:=Lib.hid (z4'.out.trans (E3.out.mono z4'.out.size));clear hb3 o0 o1 o2 o3 o4 o5 o6 o7 o8 o9 o10;obtain ⟨o0,o1,o2,o3,o4,o5,o6,o7,o8,o9,o10⟩:=op_cells (hrow.out w3 E3.out)))))
      · go_upto_region 8 with (first | (go_at_call 18;go_loud (refine (hg2.out w3 B3.out).mono ?_;rintro e w4 (⟨hq1,rfl,hb4⟩ | ⟨v4,ys,hq1,rfl,hq3,hb4⟩);rotate_left 1;(exfalso;rw [hr1] at hq1;cases hq1);have B4:=Lib.hid (B3.out.trans (hb4.mono B3.out.size));have F4:=Lib.hid (Below.trans F3.out (hb4.mono F3.out.size));clear hb4 o0 o1 o2 o3 o4 o5 o6 o7 o8 o9 o10)) | (go_at_call 19;go_loud (refine (kit_same w4 none none 0 0 0 0 [] [] (Its.none_ _) (Its.none_ _) (by unfold maxLen;omega) (by unfold maxLen;omega)).mono ?_;rw [show P4.eqV [] [] = true by unfold P4.eqV;simp];rintro e w5 ⟨rfl,j4,rfl⟩)))
        go_wp2_with fail
        have BL:=Lib.hid (draws B4.out j4)
        have UL:=Lib.hid (U2.out.below (show Below w2.heap.size w2 (w4.drewN j4) from draws F4.out j4))
        generalize hW5:w4.drewN j4 = W5 at *
        clear hW5
        go_loopw [10] (fun i wr=>i = .int .i64 0∧wr = W5) (fun _ _=>0)
        case atStart=>exact ⟨rfl,rfl⟩
        case round =>
          obtain ⟨rfl,rfl⟩:=hrel
          go_wp2_with (first | (go_at_call 19;go_loud (refine (kit_same wr uA A un uc n cp p p UL.out (hA'.out wr BL.out) (Nat.le_trans un2.out.1 un2.out.2.1) (Nat.le_trans hn hcp)).mono ?_;rw [show P4.eqV p p = true by unfold P4.eqV;simp];rintro e w7 ⟨rfl,j7,rfl⟩)) | (go_at_call 15;go_loud (refine (works_any _).mono ?_;rintro e w9 ⟨rfl,hb9⟩;have B9:=Lib.hid ((draws BL.out j7).trans (hb9.mono (Below.size (draws BL.out j7))));clear hb9)))
          go_ret
          exact ⟨rfl,B9.out⟩
      · go_upto_region 8 with (first | (go_at_call 18;go_loud (refine (hg2.out w3 B3.out).mono ?_;rintro e w4 (⟨hq1,rfl,hb4⟩ | ⟨v4,ys,hq1,rfl,hq3,hb4⟩);(exfalso;rw [hr1] at hq1;cases hq1);rw [hr1] at hq1;injection hq1 with hq1;subst hq1;obtain ⟨xA,xn,xc,rfl,hx1,hx2,hx3,hx4,-⟩:=P4.OwnI.shape hr3;obtain ⟨yA,yn,yc,rfl,hy1,hy2,hy3,hy4,-⟩:=P4.OwnI.shape hq3;have R4:=Lib.hid (Top.own_kept hr3 fun k _ h2=>hb4.block k h2);have X3:=Lib.hid ((show Its w3 xA xn xs from hx4).below hb4);have Y3:=Lib.hid (show Its w4 yA yn xs from hy4);have m1:=Lib.hid (Nat.le_trans hx2 hx3);have m2:=Lib.hid (Nat.le_trans hy2 hy3);clear hx1 hx2 hx3 hx4 hy1 hy2 hy3 hy4 hr3 hq3;have B4:=Lib.hid (B3.out.trans (hb4.mono B3.out.size));have F4:=Lib.hid (Below.trans F3.out (hb4.mono F3.out.size));clear hb4 o0 o1 o2 o3 o4 o5 o6 o7 o8 o9 o10)) | (go_at_call 19;go_loud (refine (kit_same w4 xA yA xn xc yn yc xs xs X3.out Y3.out m1.out m2.out).mono ?_;rw [show P4.eqV xs xs = true by unfold P4.eqV;simp];rintro e w5 ⟨rfl,j4,rfl⟩)))
        go_wp2_with fail
        have BL:=Lib.hid (draws B4.out j4)
        have FL:=Lib.hid (show Below w2.heap.size w2 (w4.drewN j4) from draws F4.out j4)
        have RL:=Lib.hid (show P4.OwnI w2.heap.size (w4.drewN j4) (.slice xA xn xc) xs from Top.own_kept (w':=w4.drewN j4) R4.out fun k _ h2=>rfl)
        generalize hW5:w4.drewN j4 = W5 at *
        clear hW5
        have hxm:xn≤9223372036854775807:=by have:=m1.out;unfold maxLen at this;omega
        go_loopw [10] (fun i wr=>∃ q:Nat,q≤xn∧i = .int .i64 (q:Int)∧Below w.heap.size w wr∧Below w2.heap.size w2 wr∧∀ g,xA = some ⟨g,0,none⟩→∀ cur,W5.heap[g]? = some (.cells cur 3 (0,0))→∃ cur',wr.heap[g]? = some (.cells cur' 3 (0,0))∧cur'.size = cur.size) (fun i _=>xn - (intOf i).toNat)
        case atStart=>exact ⟨0,Nat.zero_le _,rfl,BL.out,FL.out,fun g _ cur h=>⟨cur,h,rfl⟩⟩
        case round =>
          obtain ⟨q,hq,rfl,hwr,hw2,hcur⟩:=hrel
          have hwr':=Lib.hid hwr
          have hw2':=Lib.hid hw2
          have hcur':=Lib.hid hcur
          clear hwr hw2 hcur
          by_cases hlt:q < xn
          · have hltI:(q:Int) < (xn:Int):=by omega
            have e0:(0:Int)≤(q:Int):=by omega
            obtain ⟨g,cur,rfl,hg1',hg2',hg3'⟩:=own_writable RL.out (by omega)
            obtain ⟨cur',hc1,hc2⟩:=hcur'.out g rfl cur hg2'
            have hcell:∃ v,wr.cell? ⟨g,q,none⟩ = some v:=by
              rw [cell_of_row wr g q _ _ _ hc1]
              exact ⟨_,Array.getElem?_eq_getElem (by omega)⟩
            obtain ⟨v0,hv0⟩:=hcell
            have hfz:=frozen_of_row wr g q _ _ hc1
            have hc1':=Lib.hid hc1
            have hadd:(⟨g,0,none⟩:Addr).add q = ⟨g,q,none⟩:=add_zero_off g q
            have hg0:=Lib.hid hg1'
            have hge:=Lib.hid (show ∀ cur,W5.heap[g]? = some (.cells cur 3 (0,0))→∃ c2,(wr.setCell ⟨g,q,none⟩ (.int .i64 (-5))).heap[g]? = some (.cells c2 3 (0,0))∧c2.size = cur.size from fun cu hcu=>by
              obtain ⟨c1,k1,k2⟩:=hcur'.out g rfl cu hcu
              obtain ⟨c2,k3,k4⟩:=setCell_row2 (i:=q) (v:=.int .i64 (-5)) k1
              exact ⟨c2,k3,by omega⟩)
            have hbase:=Lib.hid (show w.heap.size≤w2.heap.size from B2.out.size)
            clear hc1 hg1' hg2' hg3' hc2
            go_wp2_with fail
            go_roundw
            case rel =>
              refine ⟨q + 1,by omega,by go_num,hwr'.out.setCell (p:=⟨g,q,none⟩) (by have h1:=hg0.out;have h2:=hbase.out;show w.heap.size≤g;omega) _,hw2'.out.setCell (p:=⟨g,q,none⟩) hg0.out _,fun g2 hg2 cu hcu=>?_⟩
              have:g = g2:=by injection hg2 with hg2;injection hg2
              subst this
              exact hge.out cu hcu
            case measure=>simp [intOf];omega
          · have hltI:¬ (q:Int) < (xn:Int):=by omega
            go_wp2_with (first | (go_at_call 19;go_loud (refine (kit_same wr uA A un uc n cp p p (U2.out.below hw2'.out) (hA'.out wr hwr'.out) (Nat.le_trans un2.out.1 un2.out.2.1) (Nat.le_trans hn hcp)).mono ?_;rw [show P4.eqV p p = true by unfold P4.eqV;simp];rintro e w7 ⟨rfl,j7,rfl⟩)) | (go_at_call 15;go_loud (refine (works_any _).mono ?_;rintro e w9 ⟨rfl,hb9⟩;have B9:=Lib.hid ((draws hwr'.out j7).trans (hb9.mono (Below.size (draws hwr'.out j7))));clear hb9)))
            go_ret
            exact ⟨rfl,B9.out⟩
end Go.Proofs.Ytpoenlhikanooaa.Shf
