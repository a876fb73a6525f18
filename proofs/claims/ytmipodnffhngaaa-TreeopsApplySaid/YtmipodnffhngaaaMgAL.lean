/- MgAL: TopLi TopEb -/
import Derived.Test.YtmipodnffhngaaaTopFo
import Derived.Test.YtmipodnffhngaaaMgAK
set_option linter.all false
namespace Go.Proofs.Ytmipodnffhngaaa.Top
open Go.RowKit
set_option maxRecDepth 20000
set_option linter.unusedVariables false

def lightB (o:Ov) (top:Nat):Bool:=decide (o.path.length≤top∧o.to_.length≤top∧o.label.length≤top∧o.key.length≤top∧o.value.length≤top∧o.pieces.length≤top∧P5.putsI o.pieces≤top)
theorem puts_upto:∀ (l:List P5.IP) (q:Nat),P5.putsI (l.take q)≤P5.putsI l
  | [],q=>by simp [P5.putsI]
  | x :: r,0=>by simp [P5.putsI]
  | x :: r,q + 1=>by rw [List.take_succ_cons,P5.putsI,P5.putsI];have:=puts_upto r q;omega
set_option maxHeartbeats 4000000 in
theorem light_any (w:World) (o:Ov) (s:OS) (h:OpRaw w o s) (top:Nat) (ht:top≤1000):Calls Try.prog 13 #[.agg (opCells o s),.int .i64 (top:Int)] w fun e w'=>e = .returned (.bool (lightB o top))∧Below w.heap.size w w':=by
  obtain ⟨W1,hW1⟩:∃ W1,W1 = w.alloc (.cells (opCells o s) 26):=⟨_,rfl⟩
  have z1:W1.heap[w.heap.size]? = some (.cells (opCells o s) 26 (0,0)):=by rw [hW1];exact heap_alloc_new w _
  have hb1:=Lib.hid (show Below w.heap.size w W1 by rw [hW1];exact (Below.refl _ _).alloc (Nat.le_refl _) _)
  obtain ⟨o0,o1,o2,o3,o4,o5,o6,o7,o8,o9,o10⟩:=op_cells z1
  have e1:=Lib.hid h.path.1
  have e2:=Lib.hid h.to_.1
  have e6:=Lib.hid h.pieces.1
  have hp:=Lib.hid (h.pieces.below hb1.out)
  have b1:=Nat.le_trans h.pnc h.pcm
  have b2:=Nat.le_trans h.tnc h.tcm
  have b3:=h.label
  have b4:=h.key
  have b5:=h.value
  have b6:=Nat.le_trans h.qnc h.qcm
  clear h z1
  unfold maxLen at b1 b2 b3 b4 b5 b6
  unfold opCells at hW1
  unfold opCells
  by_cases c0:top < s.pn
  · have hv:=Lib.hid (show lightB o top = false from decide_eq_false fun hh=>by have:=hh.2;have:=hh.2.2;have:=hh.2.2.2;have:=hh.2.2.2.2;have:=hh.2.2.2.2.2;have:=hh.2.2.2.2.2.2;have:=e1.out;have:=e2.out;have:=e6.out;omega)
    have d0:(top:Int) < (s.pn:Int):=by omega
    rw [hW1] at o1 o3 o6 o7 o8 o10
    clear hp
    go_enter Try.func13,Try.ntmps13
    go_wp2_with fail
    go_ret
    exact ⟨by rw [hv.out] <;> rfl,by rw [← hW1];exact hb1.out⟩
  · have d0:¬ (top:Int) < (s.pn:Int):=by omega
    by_cases c1:top < s.tn
    · have hv:=Lib.hid (show lightB o top = false from decide_eq_false fun hh=>by have:=hh.2;have:=hh.2.2;have:=hh.2.2.2;have:=hh.2.2.2.2;have:=hh.2.2.2.2.2;have:=hh.2.2.2.2.2.2;have:=e1.out;have:=e2.out;have:=e6.out;omega)
      have d1:(top:Int) < (s.tn:Int):=by omega
      rw [hW1] at o1 o3 o6 o7 o8 o10
      clear hp
      go_enter Try.func13,Try.ntmps13
      go_wp2_with fail
      go_ret
      exact ⟨by rw [hv.out] <;> rfl,by rw [← hW1];exact hb1.out⟩
    · have d1:¬ (top:Int) < (s.tn:Int):=by omega
      by_cases c2:top < o.label.length
      · have hv:=Lib.hid (show lightB o top = false from decide_eq_false fun hh=>by have:=hh.2;have:=hh.2.2;have:=hh.2.2.2;have:=hh.2.2.2.2;have:=hh.2.2.2.2.2;have:=hh.2.2.2.2.2.2;have:=e1.out;have:=e2.out;have:=e6.out;omega)
        have d2:(top:Int) < (o.label.length:Int):=by omega
        rw [hW1] at o1 o3 o6 o7 o8 o10
        clear hp
        go_enter Try.func13,Try.ntmps13
        go_wp2_with fail
        go_ret
        exact ⟨by rw [hv.out] <;> rfl,by rw [← hW1];exact hb1.out⟩
      · have d2:¬ (top:Int) < (o.label.length:Int):=by omega
        by_cases c3:top < o.key.length
        · have hv:=Lib.hid (show lightB o top = false from decide_eq_false fun hh=>by have:=hh.2;have:=hh.2.2;have:=hh.2.2.2;have:=hh.2.2.2.2;have:=hh.2.2.2.2.2;have:=hh.2.2.2.2.2.2;have:=e1.out;have:=e2.out;have:=e6.out;omega)
          have d3:(top:Int) < (o.key.length:Int):=by omega
          rw [hW1] at o1 o3 o6 o7 o8 o10
          clear hp
          go_enter Try.func13,Try.ntmps13
          go_wp2_with fail
          go_ret
          exact ⟨by rw [hv.out] <;> rfl,by rw [← hW1];exact hb1.out⟩
        · have d3:¬ (top:Int) < (o.key.length:Int):=by omega
          by_cases c4:top < o.value.length
          · have hv:=Lib.hid (show lightB o top = false from decide_eq_false fun hh=>by have:=hh.2;have:=hh.2.2;have:=hh.2.2.2;have:=hh.2.2.2.2;have:=hh.2.2.2.2.2;have:=hh.2.2.2.2.2.2;have:=e1.out;have:=e2.out;have:=e6.out;omega)
            have d4:(top:Int) < (o.value.length:Int):=by omega
            rw [hW1] at o1 o3 o6 o7 o8 o10
            clear hp
            go_enter Try.func13,Try.ntmps13
            go_wp2_with fail
            go_ret
            exact ⟨by rw [hv.out] <;> rfl,by rw [← hW1];exact hb1.out⟩
          · have d4:¬ (top:Int) < (o.value.length:Int):=by omega
            by_cases c5:top < s.qn
            · have hv:=Lib.hid (show lightB o top = false from decide_eq_false fun hh=>by have:=hh.2;have:=hh.2.2;have:=hh.2.2.2;have:=hh.2.2.2.2;have:=hh.2.2.2.2.2;have:=hh.2.2.2.2.2.2;have:=e1.out;have:=e2.out;have:=e6.out;omega)
              have d5:(top:Int) < (s.qn:Int):=by omega
              rw [hW1] at o1 o3 o6 o7 o8 o10
              clear hp
              go_enter Try.func13,Try.ntmps13
              go_wp2_with fail
              go_ret
              exact ⟨by rw [hv.out] <;> rfl,by rw [← hW1];exact hb1.out⟩
            · have d5:¬ (top:Int) < (s.qn:Int):=by omega
              have hle:=Lib.hid (puts_upto o.pieces)
              have w1:=Lib.hid o10
              rw [hW1] at o1 o3 o6 o7 o8 o10
              clear o0 o2 o4 o5 o9
              go_enter Try.func13,Try.ntmps13
              go_wp2_with fail
              rw [← hW1]
              clear hW1
              go_loopw [5,6] (fun v5 v6 wr=>∃ q:Nat,q≤s.qn∧v6 = .int .i64 (q:Int)∧v5 = .int .i64 ((P5.putsI (o.pieces.take q):Nat):Int)∧P5.putsI (o.pieces.take q)≤top∧wr = W1) (fun _ v6 _=>s.qn - (intOf v6).toNat)
              case atStart=>exact ⟨0,Nat.zero_le _,rfl,rfl,Nat.zero_le _,rfl⟩
              case round =>
                obtain ⟨q,hq,rfl,rfl,hz,rfl⟩:=hrel
                obtain ⟨z,hze⟩:∃ z,z = P5.putsI (o.pieces.take q):=⟨_,rfl⟩
                rw [← hze] at hz ⊢
                have x10:=w1.out
                clear o1 o3 o6 o7 o8 o10
                by_cases hqn:q < s.qn
                · have hqI:(q:Int) < (s.qn:Int):=by omega
                  obtain ⟨ad,x,hA,hx,-,hpc⟩:=hp.out.at_ hqn
                  have hst:=Lib.hid (P5.putsI_take o.pieces q x hx)
                  have hl1:=hle.out (q + 1)
                  obtain ⟨kp,dr,pu⟩:=x
                  obtain ⟨-,-,-,-,hpl,k0,k1,k2⟩:=hpc
                  dsimp only at k0 k1 k2 hst hpl
                  rw [← hze] at hst
                  rw [hA] at x10
                  unfold maxLen at hpl
                  have hze':=Lib.hid hze
                  have hA':=Lib.hid hA
                  clear hze hx hA k0 k1
                  by_cases hg:pu.length + z≤top
                  · have g1:¬ (top:Int) - (z:Int) < (pu.length:Int):=by omega
                    go_wp2_with fail
                    go_roundw
                    case rel=>exact ⟨q + 1,by omega,by go_num,by rw [hst.out];go_num,by rw [hst.out];omega,trivial⟩
                    case measure=>simp [intOf];omega
                  · have g1:(top:Int) - (z:Int) < (pu.length:Int):=by omega
                    have hv:=Lib.hid (show lightB o top = false from decide_eq_false fun hh=>by have h7:=hh.2.2.2.2.2.2;rw [hst.out] at hl1;omega)
                    clear hl1
                    go_wp2_with fail
                    go_ret
                    exact ⟨by rw [hv.out] <;> rfl,hb1.out⟩
                · have hqI:¬ (q:Int) < (s.qn:Int):=by omega
                  have hv:=Lib.hid (show lightB o top = true from decide_eq_true ⟨by have:=e1.out;omega,by have:=e2.out;omega,by omega,by omega,by omega,by have:=e6.out;omega,by rw [hze,List.take_of_length_le (by have:=e6.out;omega)] at hz;exact hz⟩)
                  clear hze
                  go_wp2_with fail
                  go_ret
                  exact ⟨by rw [hv.out] <;> rfl,hb1.out⟩
end Go.Proofs.Ytmipodnffhngaaa.Top
namespace Go.Proofs.Ytmipodnffhngaaa.Top
open Go.RowKit
set_option maxRecDepth 20000
set_option linter.unusedVariables false

def Nts (w:World) (A:Option Addr) (n:Nat) (l:List Nat):Prop:=l.length = n∧∀ (q i:Nat),l[q]? = some i→∃ ad,A = some ad∧ad.block < w.heap.size∧w.cell? (ad.add q) = some (.int .u64 (i:Int))
theorem Nts.below {w w':World} {A:Option Addr} {n:Nat} {l:List Nat} (h:Nts w A n l) (hb:Below w.heap.size w w'):Nts w' A n l :=
  ⟨h.1,fun q i hi=>by
    obtain ⟨ad,e,hlt,hc⟩:=h.2 q i hi
    have hk:(ad.add q).block = ad.block:=by unfold Addr.add;split <;> rfl
    exact ⟨ad,e,Nat.lt_of_lt_of_le hlt hb.size,(World.cell?_of_block (a:=ad.add q) (by rw [hk];exact hb.block _ hlt)).trans hc⟩⟩
theorem Nts.at_ {w:World} {A:Option Addr} {n k:Nat} {l:List Nat} (h:Nts w A n l) (hk:k < n):∃ ad i,A = some ad∧l[k]? = some i∧w.cell? (ad.add k) = some (.int .u64 (i:Int)):=by
  have hl:k < l.length:=by rw [h.1];exact hk
  obtain ⟨ad,e,-,hc⟩:=h.2 k _ (List.getElem?_eq_getElem hl)
  exact ⟨ad,_,e,List.getElem?_eq_getElem hl,hc⟩
theorem Nts.nil_ (w:World):Nts w none 0 []:=⟨rfl,fun q i h=>by simp at h⟩
theorem own_nts {base:Nat} {w:World} {v:Value} {l:List Nat} (h:OwnId base w v l):∃ (A:Option Addr) (c:Nat),v = .slice A l.length c∧l.length≤c∧c≤maxLen∧Nts w A l.length l:=by
  obtain ⟨A,c,rfl,h1,h2,-,h3⟩:=own_form h
  refine ⟨A,c,rfl,h1,h2,rfl,fun q i hi=>?_⟩
  have hq:=(List.getElem?_eq_some_iff.1 hi).1
  obtain ⟨g,rfl,-,hg,hc⟩:=h3 (by omega)
  refine ⟨_,rfl,hg,?_⟩
  have hadd:(⟨g,0,none⟩:Addr).add q = ⟨g,q,none⟩:=by unfold Addr.add;split <;> simp_all
  rw [hadd]
  exact hc q _ (by rw [List.getElem?_map,hi];rfl)
theorem count_take {l:List Nat} {q x:Nat} (h:l[q]? = some x) (i:Nat):(l.take (q + 1)).count i = (l.take q).count i + if x = i then 1 else 0:=by
  rw [List.take_add_one,h,List.count_append]
  simp [List.count_singleton]
set_option maxHeartbeats 4000000 in
theorem count_any (w:World) (A:Option Addr) (n c:Nat) (l:List Nat) (h:Nts w A n l) (hn:n≤maxLen) (i:Nat):Calls Try.prog 37 #[.slice A n c,.int .u64 (i:Int)] w fun e w'=>e = .returned (.int .i64 ((l.count i:Nat):Int))∧Below w.heap.size w w':=by
  have h':=Lib.hid h
  have hlen:=Lib.hid h.1
  clear h
  unfold maxLen at hn
  go_enter Try.func37,Try.ntmps37
  go_wp2_with fail
  go_loopw [5,6] (fun v5 v6 wr=>∃ q:Nat,q≤n∧v6 = .int .i64 (q:Int)∧v5 = .int .i64 (((l.take q).count i:Nat):Int)∧wr = w) (fun _ v6 _=>n - (intOf v6).toNat)
  case atStart=>exact ⟨0,Nat.zero_le _,rfl,rfl,rfl⟩
  case round =>
    obtain ⟨q,hq,rfl,rfl,rfl⟩:=hrel
    obtain ⟨z,hze⟩:∃ z,z = (l.take q).count i:=⟨_,rfl⟩
    have hzq:z≤q:=by rw [hze];exact Nat.le_trans List.count_le_length (by rw [List.length_take];omega)
    rw [← hze]
    by_cases hqn:q < n
    · have hqI:(q:Int) < (n:Int):=by omega
      obtain ⟨ad,x,hA,hx,hc⟩:=h'.out.at_ hqn
      have hst:=Lib.hid (count_take hx i)
      rw [← hze] at hst
      have hze':=Lib.hid hze
      subst hA
      clear hze hx
      by_cases hxi:x = i
      · subst hxi
        go_wp2_with fail
        go_roundw
        case rel=>exact ⟨q + 1,by omega,by go_num,by rw [hst.out,if_pos rfl];go_num,trivial⟩
        case measure=>simp [intOf];omega
      · have hb:((x:Int) == (i:Int)) = false:=by simp;omega
        go_wp2_with fail
        go_roundw
        case rel=>exact ⟨q + 1,by omega,by go_num,by rw [hst.out,if_neg hxi];rfl,trivial⟩
        case measure=>simp [intOf];omega
    · have hqI:¬ (q:Int) < (n:Int):=by omega
      have hv:=Lib.hid (show z = l.count i by rw [hze,List.take_of_length_le (by have:=hlen.out;omega)])
      clear hze
      go_wp2_with fail
      go_ret
      exact ⟨by rw [hv.out] <;> rfl,Below.refl _ _⟩
end Go.Proofs.Ytmipodnffhngaaa.Top
