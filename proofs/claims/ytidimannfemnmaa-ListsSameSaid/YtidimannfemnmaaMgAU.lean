/- MgAU: TopLi SimD -/
import Derived.Test.YtidimannfemnmaaTopFo
import Derived.Test.YtidimannfemnmaaMgAN
import Derived.Test.YtidimannfemnmaaMgAL
import Derived.Test.YtidimannfemnmaaMgAK
import Derived.Test.YtidimannfemnmaaLtxB
set_option linter.all false
namespace Go.Proofs.Ytidimannfemnmaa.Top
open Go.RowKit
set_option maxRecDepth 20000

def lightB (o:Ov) (top:Nat):Bool:=decide (o.path.length≤top∧o.to_.length≤top∧o.label.length≤top∧o.key.length≤top∧o.value.length≤top∧o.pieces.length≤top∧P5.putsI o.pieces≤top)
theorem puts_upto:∀ (l:List P5.IP) (q:Nat),P5.putsI (l.take q)≤P5.putsI l
  | [],q=>by simp [P5.putsI]
  | x :: r,0=>by simp [P5.putsI]
  | x :: r,q + 1=>by rw [List.take_succ_cons,P5.putsI,P5.putsI];have:=puts_upto r q;omega
set_option maxHeartbeats 4000000 in
theorem light_any (w:World) (o:Ov) (s:OS) (h:OpRaw w o s) (top:Nat) (ht:top≤1000):Calls Try.prog 43 #[.agg (opCells o s),.int .i64 (top:Int)] w fun e w'=>e = .returned (.bool (lightB o top))∧Below w.heap.size w w':=by
  obtain ⟨W1,hW1⟩:∃ W1,W1 = w.alloc (.cells (opCells o s) 52):=⟨_,rfl⟩
  have z1:W1.heap[w.heap.size]? = some (.cells (opCells o s) 52 (0,0)):=by rw [hW1];exact heap_alloc_new w _
  have hb1:=Lib.hid (show Below w.heap.size w W1 by rw [hW1];exact (Below.refl _ _).alloc (Nat.le_refl _) _)
  obtain ⟨o0,o1,o2,o3,o4,o5,o6,o7,o8,o9,o10⟩:=op_cells z1
  have e1:=Lib.hid h.path.1
  have e2:=Lib.hid h.to_.1
  have e6:=Lib.hid h.pieces.1
  have hp:=Lib.hid (h.pieces.below hb1.out)
  have b1:=Nat.le_trans h.pnc h.pcm
  have b2:=Nat.le_trans h.tnc h.tcm
  have b3:=h.label
  have b4:=h.key
  have b5:=h.value
  have b6:=Nat.le_trans h.qnc h.qcm
  clear h z1
  unfold maxLen at b1 b2 b3 b4 b5 b6
  unfold opCells at hW1
  unfold opCells
  by_cases c0:top < s.pn
  · have hv:=Lib.hid (show lightB o top = false from decide_eq_false fun hh=>by have:=hh.2;have:=hh.2.2;have:=hh.2.2.2;have:=hh.2.2.2.2;have:=hh.2.2.2.2.2;have:=hh.2.2.2.2.2.2;have:=e1.out;have:=e2.out;have:=e6.out;omega)
    have d0:(top:Int) < (s.pn:Int):=by omega
    rw [hW1] at o1 o3 o6 o7 o8 o10
    clear hp
    go_enter Try.func43,Try.ntmps43
    go_wp2_with fail
    go_ret
    exact ⟨by rw [hv.out] <;> rfl,by rw [← hW1];exact hb1.out⟩
  · have d0:¬ (top:Int) < (s.pn:Int):=by omega
    by_cases c1:top < s.tn
    · have hv:=Lib.hid (show lightB o top = false from decide_eq_false fun hh=>by have:=hh.2;have:=hh.2.2;have:=hh.2.2.2;have:=hh.2.2.2.2;have:=hh.2.2.2.2.2;have:=hh.2.2.2.2.2.2;have:=e1.out;have:=e2.out;have:=e6.out;omega)
      have d1:(top:Int) < (s.tn:Int):=by omega
      rw [hW1] at o1 o3 o6 o7 o8 o10
      clear hp
      go_enter Try.func43,Try.ntmps43
      go_wp2_with fail
      go_ret
      exact ⟨by rw [hv.out] <;> rfl,by rw [← hW1];exact hb1.out⟩
    · have d1:¬ (top:Int) < (s.tn:Int):=by omega
      by_cases c2:top < o.label.length
      · have hv:=Lib.hid (show lightB o top = false from decide_eq_false fun hh=>by have:=hh.2;have:=hh.2.2;have:=hh.2.2.2;have:=hh.2.2.2.2;have:=hh.2.2.2.2.2;have:=hh.2.2.2.2.2.2;have:=e1.out;have:=e2.out;have:=e6.out;omega)
        have d2:(top:Int) < (o.label.length:Int):=by omega
        rw [hW1] at o1 o3 o6 o7 o8 o10
        clear hp
        go_enter Try.func43,Try.ntmps43
        go_wp2_with fail
        go_ret
        exact ⟨by rw [hv.out] <;> rfl,by rw [← hW1];exact hb1.out⟩
      · have d2:¬ (top:Int) < (o.label.length:Int):=by omega
        by_cases c3:top < o.key.length
        · have hv:=Lib.hid (show lightB o top = false from decide_eq_false fun hh=>by have:=hh.2;have:=hh.2.2;have:=hh.2.2.2;have:=hh.2.2.2.2;have:=hh.2.2.2.2.2;have:=hh.2.2.2.2.2.2;have:=e1.out;have:=e2.out;have:=e6.out;omega)
          have d3:(top:Int) < (o.key.length:Int):=by omega
          rw [hW1] at o1 o3 o6 o7 o8 o10
          clear hp
          go_enter Try.func43,Try.ntmps43
          go_wp2_with fail
          go_ret
          exact ⟨by rw [hv.out] <;> rfl,by rw [← hW1];exact hb1.out⟩
        · have d3:¬ (top:Int) < (o.key.length:Int):=by omega
          by_cases c4:top < o.value.length
          · have hv:=Lib.hid (show lightB o top = false from decide_eq_false fun hh=>by have:=hh.2;have:=hh.2.2;have:=hh.2.2.2;have:=hh.2.2.2.2;have:=hh.2.2.2.2.2;have:=hh.2.2.2.2.2.2;have:=e1.out;have:=e2.out;have:=e6.out;omega)
            have d4:(top:Int) < (o.value.length:Int):=by omega
            rw [hW1] at o1 o3 o6 o7 o8 o10
            clear hp
            go_enter Try.func43,Try.ntmps43
            go_wp2_with fail
            go_ret
            exact ⟨by rw [hv.out] <;> rfl,by rw [← hW1];exact hb1.out⟩
          · have d4:¬ (top:Int) < (o.value.length:Int):=by omega
            by_cases c5:top < s.qn
            · have hv:=Lib.hid (show lightB o top = false from decide_eq_false fun hh=>by have:=hh.2;have:=hh.2.2;have:=hh.2.2.2;have:=hh.2.2.2.2;have:=hh.2.2.2.2.2;have:=hh.2.2.2.2.2.2;have:=e1.out;have:=e2.out;have:=e6.out;omega)
              have d5:(top:Int) < (s.qn:Int):=by omega
              rw [hW1] at o1 o3 o6 o7 o8 o10
              clear hp
              go_enter Try.func43,Try.ntmps43
              go_wp2_with fail
              go_ret
              exact ⟨by rw [hv.out] <;> rfl,by rw [← hW1];exact hb1.out⟩
            · have d5:¬ (top:Int) < (s.qn:Int):=by omega
              have hle:=Lib.hid (puts_upto o.pieces)
              have w1:=Lib.hid o10
              rw [hW1] at o1 o3 o6 o7 o8 o10
              clear o0 o2 o4 o5 o9
              go_enter Try.func43,Try.ntmps43
              go_wp2_with fail
              rw [← hW1]
              clear hW1
              go_loopw [5,6] (fun v5 v6 wr=>∃ q:Nat,q≤s.qn∧v6 = .int .i64 (q:Int)∧v5 = .int .i64 ((P5.putsI (o.pieces.take q):Nat):Int)∧P5.putsI (o.pieces.take q)≤top∧wr = W1) (fun _ v6 _=>s.qn - (intOf v6).toNat)
              case atStart=>exact ⟨0,Nat.zero_le _,rfl,rfl,Nat.zero_le _,rfl⟩
              case round =>
                obtain ⟨q,hq,rfl,rfl,hz,rfl⟩:=hrel
                obtain ⟨z,hze⟩:∃ z,z = P5.putsI (o.pieces.take q):=⟨_,rfl⟩
                rw [← hze] at hz ⊢
                have x10:=w1.out
                clear o1 o3 o6 o7 o8 o10
                by_cases hqn:q < s.qn
                · have hqI:(q:Int) < (s.qn:Int):=by omega
                  obtain ⟨ad,x,hA,hx,-,hpc⟩:=hp.out.at_ hqn
                  have hst:=Lib.hid (P5.putsI_take o.pieces q x hx)
                  have hl1:=hle.out (q + 1)
                  obtain ⟨kp,dr,pu⟩:=x
                  obtain ⟨-,-,-,-,hpl,k0,k1,k2⟩:=hpc
                  dsimp only at k0 k1 k2 hst hpl
                  rw [← hze] at hst
                  rw [hA] at x10
                  unfold maxLen at hpl
                  have hze':=Lib.hid hze
                  have hA':=Lib.hid hA
                  clear hze hx hA k0 k1
                  by_cases hg:pu.length + z≤top
                  · have g1:¬ (top:Int) - (z:Int) < (pu.length:Int):=by omega
                    go_wp2_with fail
                    go_roundw
                    case rel=>exact ⟨q + 1,by omega,by go_num,by rw [hst.out];go_num,by rw [hst.out];omega,trivial⟩
                    case measure=>simp [intOf];omega
                  · have g1:(top:Int) - (z:Int) < (pu.length:Int):=by omega
                    have hv:=Lib.hid (show lightB o top = false from decide_eq_false fun hh=>by have h7:=hh.2.2.2.2.2.2;rw [hst.out] at hl1;omega)
                    clear hl1
                    go_wp2_with fail
                    go_ret
                    exact ⟨by rw [hv.out] <;> rfl,hb1.out⟩
                · have hqI:¬ (q:Int) < (s.qn:Int):=by omega
                  have hv:=Lib.hid (show lightB o top = true from decide_eq_true ⟨by have:=e1.out;omega,by have:=e2.out;omega,by omega,by omega,by omega,by have:=e6.out;omega,by rw [hze,List.take_of_length_le (by have:=e6.out;omega)] at hz;exact hz⟩)
                  clear hze
                  go_wp2_with fail
                  go_ret
                  exact ⟨by rw [hv.out] <;> rfl,hb1.out⟩
end Go.Proofs.Ytidimannfemnmaa.Top
namespace Go.Proofs.Ytidimannfemnmaa.Sim
open Go.RowKit Top
set_option maxRecDepth 20000

def countsB (o:Ov):Bool:=formedV o && !idleV o
def subjV (o:Ov):List Int:=if o.kind = 1 then o.path ++ [o.at_] else o.path
end Go.Proofs.Ytidimannfemnmaa.Sim
