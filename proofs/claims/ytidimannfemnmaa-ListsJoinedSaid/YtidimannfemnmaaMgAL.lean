/- MgAL: LtxL TopOp TopFp LtxS LtxT LtxU LtxV LtxW LtxX LtxY LtxZ LtxCs LtxCt -/
import Derived.Shelf.Strings.Builder1
import Derived.Test.YtidimannfemnmaaMgAK
import Derived.Test.YtidimannfemnmaaMgAF
import Derived.Test.YtidimannfemnmaaMgAH
import Derived.IntWalk
import Derived.Maps.AppendAt
import Derived.Deep.RegionHeld3
import Derived.Deep.LoopGhost
import Derived.ScopeJumps
set_option linter.all false
namespace Go.Proofs.Ytidimannfemnmaa.P5
open Go.RowKit
set_option maxRecDepth 20000
open Ltx (Pc)

theorem Bld.below {w w':World} {S:Nat→Prop} {base b:Nat} {bs:List UInt8} (h:Bld w S base b bs) (hb:Below w.heap.size w w'):Bld w' S base b bs:=by
  obtain ⟨h1,h2,p,v,hp,hh,hown,hs⟩:=h
  exact ⟨fun k hk=>⟨(h1 k hk).1,Nat.lt_of_lt_of_le (h1 k hk).2 hb.size⟩,h2,p,v,hp,(hb.block b (h1 b h2).2).trans hh,own_kept hown fun k hk=>hb.block k (h1 k (hs k hk)).2,hs⟩
theorem Bld.new {w:World} {base:Nat} (hb:base≤w.heap.size):Bld (w.alloc (.cells #[.pointer none,.slice none 0 0] 116)) (fun k=>k = w.heap.size) base w.heap.size [] :=
  ⟨fun k hk=>by subst hk;exact ⟨hb,by simp⟩,rfl,.pointer none,.slice none 0 0,.inl rfl,heap_alloc_new w _,OwnB.nil_ _ _,fun k hk=>by cases hk⟩
theorem ext_drop (bs:List UInt8) (k:Nat):(⟨bs.toArray⟩:ByteArray).extract k bs.length = ⟨(bs.drop k).toArray⟩:=by
  apply ByteArray.ext
  simp
  exact List.take_of_length_le (by simp)
end Go.Proofs.Ytidimannfemnmaa.P5
namespace Go.Proofs.Ytidimannfemnmaa
open Go.RowKit
set_option maxRecDepth 20000

structure Ov where
  kind:Nat
  path:List Int
  at_:Int
  to_:List Int
  id:Nat
  leaf:Bool
  label:Txt
  key:Txt
  value:Txt
  gone:Bool
  pieces:List P5.IP
structure OS where
  pA:Option Addr
  pn:Nat
  pc:Nat
  tA:Option Addr
  tn:Nat
  tc:Nat
  qA:Option Addr
  qn:Nat
  qc:Nat
def opCells (o:Ov) (s:OS):Array Value :=
  #[.int .u8 (o.kind:Int),.slice s.pA s.pn s.pc,.int .i64 o.at_,.slice s.tA s.tn s.tc,.int .u64 (o.id:Int),.bool o.leaf,.string ⟨o.label.toArray⟩,.string ⟨o.key.toArray⟩,.string ⟨o.value.toArray⟩,.bool o.gone,.slice s.qA s.qn s.qc]
structure OpIn (w:World) (o:Ov) (s:OS):Prop where
  kind:o.kind < 256
  path:Its w s.pA s.pn o.path
  pnc:s.pn≤s.pc
  pcm:s.pc≤maxLen
  pnil:s.pA = none→s.pc = 0
  at_:-9223372036854775808≤o.at_∧o.at_≤9223372036854775807
  to_:Its w s.tA s.tn o.to_
  tnc:s.tn≤s.tc
  tcm:s.tc≤maxLen
  tnil:s.tA = none→s.tc = 0
  id:o.id < 18446744073709551616
  label:o.label.length≤maxLen
  key:o.key.length≤maxLen
  value:o.value.length≤maxLen
  pieces:P5.PcsIn w s.qA s.qn o.pieces
  qnc:s.qn≤s.qc
  qcm:s.qc≤maxLen
  qnil:s.qA = none→s.qc = 0
  pfew:s.pn≤500000
  tfew:s.tn≤500000
  qfew:s.qn≤500000
  pfit:Fit o.path
  tfit:Fit o.to_
theorem OpIn.below {w w':World} {o:Ov} {s:OS} (h:OpIn w o s) (hb:Below w.heap.size w w'):OpIn w' o s :=
  { h with path:=h.path.below hb,to_:=h.to_.below hb,pieces:=h.pieces.below hb }
structure Ox (W:World) (b:Nat) (o:Ov) (s:OS):Prop where
  lt:b < W.heap.size
  row:W.heap[b]? = some (.cells (opCells o s) 52 (0,0))
  op:OpIn W o s
section
variable {W W':World} {b:Nat} {o:Ov} {s:OS}
theorem Ox.below (h:Ox W b o s) (hb:Below W.heap.size W W'):Ox W' b o s:=⟨Nat.lt_of_lt_of_le h.lt hb.size,(hb.block b h.lt).trans h.row,h.op.below hb⟩
theorem Ox.new (h:OpIn W o s):Ox (W.alloc (.cells (opCells o s) 52)) W.heap.size o s :=
  ⟨by simp,heap_alloc_new W _,h.below ((Below.refl _ _).alloc (Nat.le_refl _) _)⟩
theorem Ox.cells (h:Ox W b o s):W.cell? ⟨b,0,none⟩ = some (.int .u8 (o.kind:Int))∧W.cell? ⟨b,1,none⟩ = some (.slice s.pA s.pn s.pc)∧W.cell? ⟨b,2,none⟩ = some (.int .i64 o.at_)∧W.cell? ⟨b,3,none⟩ = some (.slice s.tA s.tn s.tc)∧W.cell? ⟨b,4,none⟩ = some (.int .u64 (o.id:Int)) ∧
    W.cell? ⟨b,5,none⟩ = some (.bool o.leaf)∧W.cell? ⟨b,6,none⟩ = some (.string ⟨o.label.toArray⟩)∧W.cell? ⟨b,7,none⟩ = some (.string ⟨o.key.toArray⟩)∧W.cell? ⟨b,8,none⟩ = some (.string ⟨o.value.toArray⟩)∧W.cell? ⟨b,9,none⟩ = some (.bool o.gone)∧W.cell? ⟨b,10,none⟩ = some (.slice s.qA s.qn s.qc):=by
  have h:=h.row
  unfold opCells at h
  exact ⟨cell_of_row W b 0 _ _ _ h,cell_of_row W b 1 _ _ _ h,cell_of_row W b 2 _ _ _ h,cell_of_row W b 3 _ _ _ h,cell_of_row W b 4 _ _ _ h,cell_of_row W b 5 _ _ _ h,cell_of_row W b 6 _ _ _ h,cell_of_row W b 7 _ _ _ h,cell_of_row W b 8 _ _ _ h,cell_of_row W b 9 _ _ _ h,cell_of_row W b 10 _ _ _ h⟩
end
def gapB (i:Int):Bool:=decide (0≤i∧i≤1048576)
def lblB (s:Txt):Bool:=decide (s.length≤64)
def valB (s:Txt):Bool:=decide (s.length≤256)
theorem isGap_any (w:World) (i:Int):Calls Try.prog 181 #[.int .i64 i] w fun e w'=>e = .returned (.bool (gapB i))∧w = w':=by
  by_cases h0:0≤i
  · by_cases h1:i≤1048576
    · have hv:=Lib.hid (show gapB i = true from decide_eq_true ⟨h0,h1⟩)
      go_enter Try.func181,Try.ntmps181
      go_wp2_with fail
      go_ret
      exact ⟨by rw [hv.out];rfl,rfl⟩
    · have hv:=Lib.hid (show gapB i = false from decide_eq_false fun h=>h1 h.2)
      go_enter Try.func181,Try.ntmps181
      go_wp2_with fail
      go_ret
      exact ⟨by rw [hv.out];rfl,rfl⟩
  · have hv:=Lib.hid (show gapB i = false from decide_eq_false fun h=>h0 h.1)
    go_enter Try.func181,Try.ntmps181
    go_wp2_with fail
    go_ret
    exact ⟨by rw [hv.out];rfl,rfl⟩
theorem isLabel_any (w:World) (l:Txt) (hl:l.length≤maxLen):Calls Try.prog 182 #[.string ⟨l.toArray⟩] w fun e w'=>e = .returned (.bool (lblB l))∧w = w':=by
  unfold maxLen at hl
  by_cases h0:l.length≤64
  · have hv:=Lib.hid (show lblB l = true from decide_eq_true h0)
    have h0I:(l.length:Int)≤64:=by omega
    go_enter Try.func182,Try.ntmps182
    go_wp2_with fail
    go_ret
    exact ⟨by rw [hv.out];rfl,rfl⟩
  · have hv:=Lib.hid (show lblB l = false from decide_eq_false h0)
    have h0I:¬ (l.length:Int)≤64:=by omega
    go_enter Try.func182,Try.ntmps182
    go_wp2_with fail
    go_ret
    exact ⟨by rw [hv.out];rfl,rfl⟩
theorem isValue_any (w:World) (l:Txt) (hl:l.length≤maxLen):Calls Try.prog 183 #[.string ⟨l.toArray⟩] w fun e w'=>e = .returned (.bool (valB l))∧w = w':=by
  unfold maxLen at hl
  by_cases h0:l.length≤256
  · have hv:=Lib.hid (show valB l = true from decide_eq_true h0)
    have h0I:(l.length:Int)≤256:=by omega
    go_enter Try.func183,Try.ntmps183
    go_wp2_with fail
    go_ret
    exact ⟨by rw [hv.out];rfl,rfl⟩
  · have hv:=Lib.hid (show valB l = false from decide_eq_false h0)
    have h0I:¬ (l.length:Int)≤256:=by omega
    go_enter Try.func183,Try.ntmps183
    go_wp2_with fail
    go_ret
    exact ⟨by rw [hv.out];rfl,rfl⟩
def formedV (o:Ov):Bool :=
  P4.mayV o.path && (if o.kind = 1 then gapB o.at_ && lblB o.label else if o.kind = 2 then true else if o.kind = 3 then gapB o.at_ && P4.mayV o.to_ else if o.kind = 4 then keyB o.key && (o.gone || valB o.value)
    else if o.kind = 5 then lblB o.label else if o.kind = 6 then P5.rightV o.pieces else false)
end Go.Proofs.Ytidimannfemnmaa
namespace Go.Proofs.Ytidimannfemnmaa
open Go.RowKit
set_option maxRecDepth 20000

set_option maxHeartbeats 4000000 in
theorem formed_any (w:World) (o:Ov) (s:OS) (h:OpIn w o s):Calls Try.prog 151 #[.agg (opCells o s)] w fun e w'=>e = .returned (.bool (formedV o))∧Below w.heap.size w w':=by
  have hal:=Lib.hid (fun o=>(Below.refl w.heap.size w).alloc (Nat.le_refl _) o)
  have hmay:=Lib.hid (fun W (hb:Below w.heap.size w W)=>P4.may_any W s.pA s.pn s.pc o.path (h.below hb).path (Nat.le_trans h.pnc h.pcm))
  have hmay2:=Lib.hid (fun W (hb:Below w.heap.size w W)=>P4.may_any W s.tA s.tn s.tc o.to_ (h.below hb).to_ (Nat.le_trans h.tnc h.tcm))
  have hrig:=Lib.hid (fun W (hb:Below w.heap.size w W)=>P5.right_any W s.qA s.qn s.qc o.pieces (h.below hb).pieces (Nat.le_trans h.qnc h.qcm))
  have hlab:=Lib.hid (fun W=>isLabel_any W o.label h.label)
  have hval:=Lib.hid (fun W=>isValue_any W o.value h.value)
  have hkey:=Lib.hid (fun W=>key_any o.key W h.key)
  have hat:=h.at_
  clear h
  cases hm:P4.mayV o.path with
  | false =>
    have hm':=Lib.hid hm
    have hv:=Lib.hid (show formedV o = false by unfold formedV;rw [hm];rfl)
    clear hm
    unfold opCells
    go_enter Try.func151,Try.ntmps151
    go_wp2_with (first
      | (go_at_call 180;go_at_call_of 180 s.pA;refine (hmay.out _ (hal.out _)).mono ?_;rintro e w7 ⟨rfl,rfl⟩;rw [hm'.out]))
    go_ret
    exact ⟨by rw [hv.out] <;> rfl,(hal.out _)⟩
  | true =>
    have hm':=Lib.hid hm
    by_cases k1:o.kind = 1
    · have kI:=Lib.hid k1
      have b1:((o.kind:Int) == 1) = true:=by simp;omega
      cases hg:gapB o.at_ with
      | false =>
        have hv:=Lib.hid (show formedV o = false by unfold formedV;rw [hm,if_pos k1,hg];rfl)
        have hg':=Lib.hid hg
        clear k1 hm hg
        unfold opCells
        go_enter Try.func151,Try.ntmps151
        go_wp2_with (first
          | (go_at_call 180;go_at_call_of 180 s.pA;refine (hmay.out _ (hal.out _)).mono ?_;rintro e w7 ⟨rfl,rfl⟩;rw [hm'.out])
          | (go_at_call 181;refine (isGap_any _ o.at_).mono ?_;rintro e w7 ⟨rfl,rfl⟩;rw [hg'.out]))
        go_ret
        exact ⟨by rw [hv.out] <;> rfl,(hal.out _)⟩
      | true =>
        have hv:=Lib.hid (show formedV o = lblB o.label by unfold formedV;rw [hm,if_pos k1,hg];rfl)
        have hg':=Lib.hid hg
        clear k1 hm hg
        unfold opCells
        go_enter Try.func151,Try.ntmps151
        go_wp2_with (first
          | (go_at_call 180;go_at_call_of 180 s.pA;refine (hmay.out _ (hal.out _)).mono ?_;rintro e w7 ⟨rfl,rfl⟩;rw [hm'.out])
          | (go_at_call 181;refine (isGap_any _ o.at_).mono ?_;rintro e w7 ⟨rfl,rfl⟩;rw [hg'.out])
          | (go_at_call 182;refine (hlab.out _).mono ?_;rintro e w7 ⟨rfl,rfl⟩))
        go_ret
        exact ⟨by rw [hv.out] <;> first | rfl | simp,(hal.out _)⟩
    · skip
      by_cases k2:o.kind = 2
      · have kI:=Lib.hid k2
        have b1:((o.kind:Int) == 1) = false:=by simp;omega
        have b2:((o.kind:Int) == 2) = true:=by simp;omega
        have hv:=Lib.hid (show formedV o = true by unfold formedV;rw [hm,if_neg k1,if_pos k2];rfl)
        clear k1 k2 hm
        unfold opCells
        go_enter Try.func151,Try.ntmps151
        go_wp2_with (first
          | (go_at_call 180;go_at_call_of 180 s.pA;refine (hmay.out _ (hal.out _)).mono ?_;rintro e w7 ⟨rfl,rfl⟩;rw [hm'.out]))
        go_ret
        exact ⟨by rw [hv.out] <;> rfl,(hal.out _)⟩
      · skip
        by_cases k3:o.kind = 3
        · have kI:=Lib.hid k3
          have b1:((o.kind:Int) == 1) = false:=by simp;omega
          have b2:((o.kind:Int) == 2) = false:=by simp;omega
          have b3:((o.kind:Int) == 3) = true:=by simp;omega
          cases hg:P4.mayV o.to_ with
          | false =>
            have hv:=Lib.hid (show formedV o = false by unfold formedV;rw [hm,if_neg k1,if_neg k2,if_pos k3,hg,Bool.and_false];rfl)
            have hg':=Lib.hid hg
            clear k1 k2 k3 hm hg
            unfold opCells
            go_enter Try.func151,Try.ntmps151
            go_wp2_with (first
              | (go_at_call 180;go_at_call_of 180 s.pA;refine (hmay.out _ (hal.out _)).mono ?_;rintro e w7 ⟨rfl,rfl⟩;rw [hm'.out])
              | (go_at_call 180;refine (hmay2.out _ (hal.out _)).mono ?_;rintro e w7 ⟨rfl,rfl⟩;first | rw [hg'.out] | skip))
            go_ret
            exact ⟨by rw [hv.out] <;> rfl,(hal.out _)⟩
          | true =>
            have hv:=Lib.hid (show formedV o = gapB o.at_ by unfold formedV;rw [hm,if_neg k1,if_neg k2,if_pos k3,hg,Bool.and_true];rfl)
            have hg':=Lib.hid hg
            clear k1 k2 k3 hm hg
            unfold opCells
            go_enter Try.func151,Try.ntmps151
            go_wp2_with (first
              | (go_at_call 180;go_at_call_of 180 s.pA;refine (hmay.out _ (hal.out _)).mono ?_;rintro e w7 ⟨rfl,rfl⟩;rw [hm'.out])
              | (go_at_call 180;refine (hmay2.out _ (hal.out _)).mono ?_;rintro e w7 ⟨rfl,rfl⟩;first | rw [hg'.out] | skip)
              | (go_at_call 181;refine (isGap_any _ o.at_).mono ?_;rintro e w7 ⟨rfl,rfl⟩))
            go_ret
            exact ⟨by rw [hv.out] <;> first | rfl | simp,(hal.out _)⟩
        · skip
          by_cases k4:o.kind = 4
          · have kI:=Lib.hid k4
            have b1:((o.kind:Int) == 1) = false:=by simp;omega
            have b2:((o.kind:Int) == 2) = false:=by simp;omega
            have b3:((o.kind:Int) == 3) = false:=by simp;omega
            have b4:((o.kind:Int) == 4) = true:=by simp;omega
            cases hg:keyB o.key with
            | false =>
              have hv:=Lib.hid (show formedV o = false by unfold formedV;rw [hm,if_neg k1,if_neg k2,if_neg k3,if_pos k4,hg];rfl)
              have hg':=Lib.hid hg
              clear k1 k2 k3 k4 hm hg
              unfold opCells
              go_enter Try.func151,Try.ntmps151
              go_wp2_with (first
                | (go_at_call 180;go_at_call_of 180 s.pA;refine (hmay.out _ (hal.out _)).mono ?_;rintro e w7 ⟨rfl,rfl⟩;rw [hm'.out])
                | (go_at_call 89;refine (hkey.out _).mono ?_;rintro e w7 ⟨rfl,rfl⟩;rw [hg'.out]))
              go_ret
              exact ⟨by rw [hv.out] <;> rfl,(hal.out _)⟩
            | true =>
              have hg':=Lib.hid hg
              cases hgo:o.gone with
              | true =>
                have hv:=Lib.hid (show formedV o = true by unfold formedV;rw [hm,if_neg k1,if_neg k2,if_neg k3,if_pos k4,hg,hgo];rfl)
                clear k1 k2 k3 k4 hm hg
                unfold opCells
                go_enter Try.func151,Try.ntmps151
                go_wp2_with (first
                  | (go_at_call 180;go_at_call_of 180 s.pA;refine (hmay.out _ (hal.out _)).mono ?_;rintro e w7 ⟨rfl,rfl⟩;rw [hm'.out])
                  | (go_at_call 89;refine (hkey.out _).mono ?_;rintro e w7 ⟨rfl,rfl⟩;rw [hg'.out]))
                go_ret
                exact ⟨by rw [hv.out] <;> rfl,(hal.out _)⟩
              | false =>
                have hv:=Lib.hid (show formedV o = valB o.value by unfold formedV;rw [hm,if_neg k1,if_neg k2,if_neg k3,if_pos k4,hg,hgo];rfl)
                clear k1 k2 k3 k4 hm hg
                unfold opCells
                go_enter Try.func151,Try.ntmps151
                go_wp2_with (first
                  | (go_at_call 180;go_at_call_of 180 s.pA;refine (hmay.out _ (hal.out _)).mono ?_;rintro e w7 ⟨rfl,rfl⟩;rw [hm'.out])
                  | (go_at_call 89;refine (hkey.out _).mono ?_;rintro e w7 ⟨rfl,rfl⟩;rw [hg'.out])
                  | (go_at_call 183;refine (hval.out _).mono ?_;rintro e w7 ⟨rfl,rfl⟩))
                go_ret
                exact ⟨by rw [hv.out] <;> first | rfl | simp,(hal.out _)⟩
          · skip
            by_cases k5:o.kind = 5
            · have kI:=Lib.hid k5
              have b1:((o.kind:Int) == 1) = false:=by simp;omega
              have b2:((o.kind:Int) == 2) = false:=by simp;omega
              have b3:((o.kind:Int) == 3) = false:=by simp;omega
              have b4:((o.kind:Int) == 4) = false:=by simp;omega
              have b5:((o.kind:Int) == 5) = true:=by simp;omega
              have hv:=Lib.hid (show formedV o = lblB o.label by unfold formedV;rw [hm,if_neg k1,if_neg k2,if_neg k3,if_neg k4,if_pos k5];rfl)
              clear k1 k2 k3 k4 k5 hm
              unfold opCells
              go_enter Try.func151,Try.ntmps151
              go_wp2_with (first
                | (go_at_call 180;go_at_call_of 180 s.pA;refine (hmay.out _ (hal.out _)).mono ?_;rintro e w7 ⟨rfl,rfl⟩;rw [hm'.out])
                | (go_at_call 182;refine (hlab.out _).mono ?_;rintro e w7 ⟨rfl,rfl⟩))
              go_ret
              exact ⟨by rw [hv.out] <;> first | rfl | simp,(hal.out _)⟩
            · skip
              by_cases k6:o.kind = 6
              · have kI:=Lib.hid k6
                have b1:((o.kind:Int) == 1) = false:=by simp;omega
                have b2:((o.kind:Int) == 2) = false:=by simp;omega
                have b3:((o.kind:Int) == 3) = false:=by simp;omega
                have b4:((o.kind:Int) == 4) = false:=by simp;omega
                have b5:((o.kind:Int) == 5) = false:=by simp;omega
                have b6:((o.kind:Int) == 6) = true:=by simp;omega
                have hv:=Lib.hid (show formedV o = P5.rightV o.pieces by unfold formedV;rw [hm,if_neg k1,if_neg k2,if_neg k3,if_neg k4,if_neg k5,if_pos k6];rfl)
                clear k1 k2 k3 k4 k5 k6 hm
                unfold opCells
                go_enter Try.func151,Try.ntmps151
                go_wp2_with (first
                  | (go_at_call 180;go_at_call_of 180 s.pA;refine (hmay.out _ (hal.out _)).mono ?_;rintro e w7 ⟨rfl,rfl⟩;rw [hm'.out])
                  | (go_at_call 67;refine (hrig.out _ (hal.out _)).mono ?_;rintro e w7 ⟨rfl,hb7⟩;have hb7':=Lib.hid ((hal.out _).trans (hb7.mono (hal.out _).size));clear hb7))
                go_ret
                exact ⟨by rw [hv.out] <;> first | rfl | simp,hb7'.out⟩
              · skip
                have b1:((o.kind:Int) == 1) = false:=by simp;omega
                have b2:((o.kind:Int) == 2) = false:=by simp;omega
                have b3:((o.kind:Int) == 3) = false:=by simp;omega
                have b4:((o.kind:Int) == 4) = false:=by simp;omega
                have b5:((o.kind:Int) == 5) = false:=by simp;omega
                have b6:((o.kind:Int) == 6) = false:=by simp;omega
                have hv:=Lib.hid (show formedV o = false by unfold formedV;rw [hm,if_neg k1,if_neg k2,if_neg k3,if_neg k4,if_neg k5,if_neg k6];rfl)
                clear k1 k2 k3 k4 k5 k6 hm
                unfold opCells
                go_enter Try.func151,Try.ntmps151
                go_wp2_with (first
                  | (go_at_call 180;go_at_call_of 180 s.pA;refine (hmay.out _ (hal.out _)).mono ?_;rintro e w7 ⟨rfl,rfl⟩;rw [hm'.out]))
                go_ret
                exact ⟨by rw [hv.out] <;> rfl,(hal.out _)⟩
end Go.Proofs.Ytidimannfemnmaa
namespace Go.Proofs.Ytidimannfemnmaa.P5
open Go.RowKit
set_option maxRecDepth 20000
open Ltx (Pc)

def St.code:St→Int
  | .keep _=>1
  | .put _=>2
  | .drop _=>3
def St.text:St→List UInt8
  | .put t=>t
  | _=>[]
def St.cells (s:St):List Value:=[.int .u8 s.code,.int .i64 (s.size:Int),.string ⟨s.text.toArray⟩]
def endC:List Value:=[.int .u8 4,.int .i64 9223372036854775807,.string ⟨#[]⟩]
def headC:List St→List Value
  | []=>endC
  | s :: _=>s.cells
def stepV (l:List Value):Value:=.agg l.toArray
theorem Try.infoS:(Try.prog.info? 98).map (fun i=>(i.zero,i.size,i.bytes)) = some (some (.agg #[.int .u8 0,.int .i64 0,.string ⟨#[]⟩]),3,32):=by kernel_rfl
theorem new2 {w:World} (o1 o2:Obj):Below w.heap.size w ((w.alloc o1).alloc o2):=((Below.refl w.heap.size w).alloc (Nat.le_refl _) _).alloc (by simp) _
set_option maxHeartbeats 1000000 in
theorem sbehind_end (w:World) (n:Nat) :
    Calls Try.prog 174 #[.agg #[.int .u8 4,.int .i64 9223372036854775807,.string ⟨#[]⟩],.int .i64 (n:Int)] w fun e w'=>e = .returned (.agg #[.int .u8 4,.int .i64 9223372036854775807,.string ⟨#[]⟩])∧Below w.heap.size w w':=by
  go_enter Try.func174,Try.ntmps174
  go_wp2_with fail
  exact bodyPost_ret (v:=.agg #[.int .u8 4,.int .i64 9223372036854775807,.string ⟨#[]⟩]) (by simp [results,Try.results174,go_sem]) rfl ⟨rfl,new2 _ _⟩
set_option maxHeartbeats 1000000 in
theorem sbehind_keep (w:World) (n m:Nat) (h:m≤n) (hn:n≤1000000000) :
    Calls Try.prog 174 #[.agg #[.int .u8 1,.int .i64 (n:Int),.string ⟨#[]⟩],.int .i64 (m:Int)] w fun e w'=>e = .returned (.agg #[.int .u8 1,.int .i64 ((n - m:Nat):Int),.string ⟨#[]⟩])∧Below w.heap.size w w':=by
  have he:((n - m:Nat):Int) = (n:Int) - (m:Int):=by omega
  have he':=Lib.hid he
  clear he
  go_enter Try.func174,Try.ntmps174
  go_wp2_with fail
  exact bodyPost_ret (v:=.agg #[.int .u8 1,.int .i64 ((n:Int) - (m:Int)),.string ⟨#[]⟩]) (by simp [results,Try.results174,go_sem]) rfl ⟨by rw [he'.out],new2 _ _⟩
set_option maxHeartbeats 1000000 in
theorem sbehind_drop (w:World) (n m:Nat) (h:m≤n) (hn:n≤1000000000) :
    Calls Try.prog 174 #[.agg #[.int .u8 3,.int .i64 (n:Int),.string ⟨#[]⟩],.int .i64 (m:Int)] w fun e w'=>e = .returned (.agg #[.int .u8 3,.int .i64 ((n - m:Nat):Int),.string ⟨#[]⟩])∧Below w.heap.size w w':=by
  have he:((n - m:Nat):Int) = (n:Int) - (m:Int):=by omega
  have he':=Lib.hid he
  clear he
  go_enter Try.func174,Try.ntmps174
  go_wp2_with fail
  exact bodyPost_ret (v:=.agg #[.int .u8 3,.int .i64 ((n:Int) - (m:Int)),.string ⟨#[]⟩]) (by simp [results,Try.results174,go_sem]) rfl ⟨by rw [he'.out],new2 _ _⟩
set_option maxHeartbeats 1000000 in
theorem sbehind_put (w:World) (t:List UInt8) (m:Nat) (h:m≤t.length) (hn:t.length≤1000000000) :
    Calls Try.prog 174 #[.agg #[.int .u8 2,.int .i64 (t.length:Int),.string ⟨t.toArray⟩],.int .i64 (m:Int)] w fun e w'=>e = .returned (.agg #[.int .u8 2,.int .i64 ((t.drop m).length:Int),.string ⟨(t.drop m).toArray⟩])∧Below w.heap.size w w':=by
  have he:(((t.drop m).length:Nat):Int) = (t.length:Int) - (m:Int):=by rw [List.length_drop];omega
  have he':=Lib.hid he
  have hI:(m:Int)≤(t.length:Int):=by omega
  clear he
  go_enter Try.func174,Try.ntmps174
  go_wp2_with fail
  exact bodyPost_ret (v:=.agg #[.int .u8 2,.int .i64 ((t.length:Int) - (m:Int)),.string ((⟨t.toArray⟩:ByteArray).extract m t.length)]) (by simp [results,Try.results174,go_sem]) rfl ⟨by rw [he'.out,ext_drop],new2 _ _⟩
theorem sbehind_any (w:World) (s:St) (m:Nat) (h:m≤s.size) (hn:s.size≤1000000000) :
    Calls Try.prog 174 #[stepV s.cells,.int .i64 (m:Int)] w fun e w'=>e = .returned (stepV (s.cut m).cells)∧Below w.heap.size w w':=by
  cases s with
  | keep n=>exact sbehind_keep w n m h hn
  | put t=>exact sbehind_put w t m h hn
  | drop n=>exact sbehind_drop w n m h hn
end Go.Proofs.Ytidimannfemnmaa.P5
namespace Go.Proofs.Ytidimannfemnmaa.P5
open Go.RowKit
set_option maxRecDepth 20000
open Ltx (Pc)

structure RowAt (w:World) (S:Nat→Prop) (base P:Nat) (sts:List St):Prop where
  own:∀ k,S k→base≤k∧k < w.heap.size
  here:S P
  dat:∃ (g o c:Nat) (cur:Array Value),w.heap[P]? = some (.cells #[.slice (some ⟨g,o,none⟩) (sts.length + 1) c] 183 (0,0))∧S g∧w.heap[g]? = some (.cells cur 98 (0,0))∧sts.length + 1≤c∧c≤maxLen ∧
    ∀ (j:Nat) (v:Value),(sts.flatMap St.cells ++ endC)[j]? = some v→cur[o + j]? = some v
theorem RowAt.kept {w w':World} {S:Nat→Prop} {base P:Nat} {sts:List St} (h:RowAt w S base P sts) (hs:w.heap.size≤w'.heap.size) (hk:∀ k,S k→w'.heap[k]? = w.heap[k]?):RowAt w' S base P sts:=by
  obtain ⟨h1,h2,g,o,c,cur,hP,hg,hh,rest⟩:=h
  exact ⟨fun k hS=>⟨(h1 k hS).1,Nat.lt_of_lt_of_le (h1 k hS).2 hs⟩,h2,g,o,c,cur,(hk P h2).trans hP,hg,(hk g hg).trans hh,rest⟩
theorem RowAt.below {w w':World} {S:Nat→Prop} {base P:Nat} {sts:List St} (h:RowAt w S base P sts) (hb:Below w.heap.size w w'):RowAt w' S base P sts :=
  h.kept hb.size fun k hk=>hb.block k (h.own k hk).2
theorem scells_len (l:List St):(l.flatMap St.cells).length = l.length * 3:=by
  induction l with
  | nil=>rfl
  | cons p r ih=>rw [List.flatMap_cons,List.length_append,ih];simp [St.cells];omega
theorem row_take (l:List Pc) (q:Nat) (p:Pc) (h:l[q]? = some p):rowS (l.take (q + 1)) = rowS (l.take q) ++ [.keep p.keep,.put p.put,.drop p.drop]:=by
  rw [List.take_add_one,h]
  unfold rowS
  rw [List.flatMap_append]
  rfl
theorem rowS_len (l:List Pc):(rowS l).length = l.length * 3:=by
  unfold rowS
  induction l with
  | nil=>rfl
  | cons p r ih=>rw [List.flatMap_cons,List.length_append,ih];simp;omega
set_option maxHeartbeats 2000000 in
theorem row_any (w:World) (A:Option Addr) (n c:Nat) (l:List Pc) (hx:PcsIn w A n (l.map ipc)) (hn:n≤100000) :
    Calls Try.prog 138 #[.slice A n c] w fun e w'=>∃ (P:Nat) (S:Nat→Prop),e = .returned (.func (.func 173) #[] #[.pointer (some ⟨P,0,none⟩)])∧RowAt w' S w.heap.size P (rowS l)∧Below w.heap.size w w':=by
  have hx':=Lib.hid hx
  have hlen:=Lib.hid (show l.length = n by have:=hx.1;simpa using this)
  clear hx
  have hn':(n:Int)≤9223372036854775807:=by omega
  obtain ⟨i0,hi0,hz0,hz1,hz2⟩:=info_parts Try.infoS
  have hi0':=Lib.hid hi0
  have hz0':=Lib.hid hz0
  have hz1':=Lib.hid hz1
  have hz2':=Lib.hid hz2
  clear hi0 hz0 hz1 hz2
  go_enter Try.func138,Try.ntmps138
  go_wp2_with fail
  go_loopw [8] (fun k wr=>∃ (q:Nat) (v:Value),q≤n∧k = .int .i64 (q:Int)∧wr.heap[w.heap.size]? = some (.cells #[v] 183 (0,0))∧wr.ownsRow w.heap.size 98 3 v (q * 3) ((rowS (l.take q)).flatMap St.cells)∧Below w.heap.size w wr) (fun k _=>n - (intOf k).toNat)
  case atStart=>exact ⟨0,.slice none 0 0,Nat.zero_le _,rfl,heap_alloc_new w _,World.ownsRow_nil _ _ _ _,(Below.refl w.heap.size w).alloc (Nat.le_refl _) _⟩
  case round =>
    obtain ⟨q,v,hq,rfl,hP,hown,hbel⟩:=hrel
    obtain ⟨A1,k1,rfl,hnk1,hkm1,hA1,_⟩:=own_form hown
    have hPlt:w.heap.size < wr.heap.size:=(Array.getElem?_eq_some_iff.1 hP).1
    have cP:=cell_of_row wr w.heap.size 0 _ _ _ hP
    have fP:=frozen_of_row wr w.heap.size 0 _ _ hP
    simp at cP
    have hP':=Lib.hid hP
    have hown':=Lib.hid hown
    have hbel':=Lib.hid hbel
    by_cases h1:q < n
    · have h1I:(q:Int) < (n:Int):=by omega
      obtain ⟨ad,p,rfl,hpq,hlt,hp⟩:=(hx'.out.below hbel).pc h1
      obtain ⟨x1,x2,x3,x4,x5,x6,x7,x8⟩:=hp
      have hrt:=Lib.hid (row_take l q p hpq)
      obtain ⟨kp,dr,pu⟩:=p
      simp only [ipc] at *
      unfold maxLen at x5
      clear hP hown hbel hpq
      have hnews:=Lib.hid (show ∀ (o:Obj) (j:Nat) (u:Value),([.int .u8 1,.int .i64 (kp:Int),.string ⟨#[]⟩,.int .u8 2,.int .i64 (pu.length:Int),.string ⟨pu.toArray⟩,.int .u8 3,.int .i64 (dr:Int),.string ⟨#[]⟩]:List Value)[j]? = some u→((wr.alloc o).alloc (.cells #[.int .u8 1,.int .i64 (kp:Int),.string ⟨#[]⟩,.int .u8 2,.int .i64 (pu.length:Int),.string ⟨pu.toArray⟩,.int .u8 3,.int .i64 (dr:Int),.string ⟨#[]⟩] 98)).cell? ((⟨wr.heap.size + 1,0,none⟩:Addr).add j) = some u from fun o=>by
        have h:=heap_alloc_new (wr.alloc o) (.cells #[.int .u8 1,.int .i64 (kp:Int),.string ⟨#[]⟩,.int .u8 2,.int .i64 (pu.length:Int),.string ⟨pu.toArray⟩,.int .u8 3,.int .i64 (dr:Int),.string ⟨#[]⟩] 98)
        rw [show (wr.alloc o).heap.size = wr.heap.size + 1 from by simp] at h
        exact World.news_of_block h)
      have hone:=Lib.hid (show ∀ u ∈ ([.int .u8 1,.int .i64 (kp:Int),.string ⟨#[]⟩,.int .u8 2,.int .i64 (pu.length:Int),.string ⟨pu.toArray⟩,.int .u8 3,.int .i64 (dr:Int),.string ⟨#[]⟩]:List Value),u.oneCell' = true from by simp [Value.oneCell'])
      have hsz:=Lib.hid (show ∀ o1 o2,((wr.alloc o1).alloc o2).heap.size = wr.heap.size + 2 from fun o1 o2=>by simp)
      have hold:=Lib.hid (show ∀ o1 o2 k,k < wr.heap.size→((wr.alloc o1).alloc o2).heap[k]? = wr.heap[k]? from fun o1 o2 k hk=>(Go.heap_alloc_old (wr.alloc o1) o2 (by simp;omega)).trans (Go.heap_alloc_old wr o1 hk))
      go_wp2_with (at_builtin;refine wpList_append_own_at _ rfl (.tmp 12) (.tmp 25) 183 rfl w.heap.size 98 i0 _ 3 32 Try.underlying183 hi0'.out hz0'.out hz1'.out hz2'.out rfl (by decide) (.slice A1 (q * 3) k1) (q * 3) _ rfl ((hown'.out.alloc _).alloc _) ⟨wr.heap.size + 1,0,none⟩ 3 3 [.int .u8 1,.int .i64 (kp:Int),.string ⟨#[]⟩,.int .u8 2,.int .i64 (pu.length:Int),.string ⟨pu.toArray⟩,.int .u8 3,.int .i64 (dr:Int),.string ⟨#[]⟩] rfl rfl (hnews.out _) hone.out (by unfold maxLen;omega) (by omega) (by rw [hsz.out];omega) ?_;intro v' w2 ho hg _ hat;obtain ⟨A2,k2,rfl,-,-,-,-⟩:=own_form ho;have hq:=(hg.block w.heap.size (by rw [hsz.out];omega) (fun e=>own_ne hown'.out hP'.out (by decide) e.symm)).trans ((hold.out _ _ _ hPlt).trans hP'.out);have cP2:=cell_of_row w2 w.heap.size 0 _ _ _ hq;have fP2:=frozen_of_row w2 w.heap.size 0 _ _ hq;simp at cP2;have hq':=Lib.hid hq;have ho':=Lib.hid ho;have hg':=Lib.hid hg;clear hq ho hg hat)
      go_roundw
      case rel =>
        have hset:=heap_setCell_same w2 w.heap.size 0 _ _ (.slice A2 (q * 3 + 3) k2) hq'.out
        refine ⟨q + 1,_,by omega,by go_num,hset,?_,?_⟩
        · rw [hrt.out,List.flatMap_append,show (q + 1) * 3 = q * 3 + 3 by omega]
          exact own_kept ho'.out fun k hk=>heap_setCell_other w2 ⟨w.heap.size,0,none⟩ k _ (fun e=>by have e2:k = w.heap.size:=e;subst e2;exact own_ne ho'.out hq'.out (by decide) hk)
        · exact (Below.grown (w:=(wr.alloc (.cells #[.int .i64 (kp:Int),.int .i64 (dr:Int),.string ⟨pu.toArray⟩] 60)).alloc (.cells #[.int .u8 1,.int .i64 (kp:Int),.string ⟨#[]⟩,.int .u8 2,.int .i64 (pu.length:Int),.string ⟨pu.toArray⟩,.int .u8 3,.int .i64 (dr:Int),.string ⟨#[]⟩] 98)) ((hbel'.out.alloc (by omega) _).alloc (by simp;omega) _) hg'.out (by rw [hsz.out];omega) (fun k hk=>(World.ownsRow.lt hown'.out k hk).1)).setCell (Nat.le_refl _) _
      case measure=>simp [intOf];omega
    · have hqn:q = n:=by omega
      have h1I:¬ (q:Int) < (n:Int):=by omega
      have hrow:=Lib.hid (show rowS (l.take q) = rowS l by rw [hqn,← hlen.out,List.take_length])
      have hrl:=Lib.hid (show (rowS l).length = q * 3 by rw [rowS_len,hlen.out,hqn])
      have hnews:=Lib.hid (show ∀ (j:Nat) (u:Value),([.int .u8 4,.int .i64 9223372036854775807,.string ⟨#[]⟩]:List Value)[j]? = some u→(wr.alloc (.cells #[.int .u8 4,.int .i64 9223372036854775807,.string ⟨#[]⟩] 98)).cell? ((⟨wr.heap.size,0,none⟩:Addr).add j) = some u from
        World.news_of_block (heap_alloc_new wr (.cells #[.int .u8 4,.int .i64 9223372036854775807,.string ⟨#[]⟩] 98)))
      have hone:=Lib.hid (show ∀ u ∈ ([.int .u8 4,.int .i64 9223372036854775807,.string ⟨#[]⟩]:List Value),u.oneCell' = true from by simp [Value.oneCell'])
      have hsz:=Lib.hid (show ∀ o1,(wr.alloc o1).heap.size = wr.heap.size + 1 from fun o1=>by simp)
      clear hqn h1 hP hown hbel
      go_wp2_with (at_builtin;refine wpList_append_own_at _ rfl (.tmp 28) (.tmp 30) 183 rfl w.heap.size 98 i0 _ 3 32 Try.underlying183 hi0'.out hz0'.out hz1'.out hz2'.out rfl (by decide) (.slice A1 (q * 3) k1) (q * 3) _ rfl (hown'.out.alloc _) ⟨wr.heap.size,0,none⟩ 1 1 [.int .u8 4,.int .i64 9223372036854775807,.string ⟨#[]⟩] rfl rfl hnews.out hone.out (by unfold maxLen;omega) (by omega) (by rw [hsz.out];omega) ?_;intro v' w2 ho hg _ hat;obtain ⟨A2,k2,rfl,-,-,-,-⟩:=own_form ho;have hq:=(hg.block w.heap.size (by rw [hsz.out];omega) (fun e=>own_ne hown'.out hP'.out (by decide) e.symm)).trans ((Go.heap_alloc_old wr _ hPlt).trans hP'.out);have cP2:=cell_of_row w2 w.heap.size 0 _ _ _ hq;have fP2:=frozen_of_row w2 w.heap.size 0 _ _ hq;simp at cP2;have hq':=Lib.hid hq;have ho':=Lib.hid ho;have hg':=Lib.hid hg;clear hq ho hg hat)
      go_ret
      have hset:=heap_setCell_same w2 w.heap.size 0 _ _ (.slice A2 (q * 3 + 1) k2) hq'.out
      have hot:∀ k,k ≠ w.heap.size→(w2.setCell ⟨w.heap.size,0,none⟩ (.slice A2 (q * 3 + 1) k2)).heap[k]? = w2.heap[k]?:=fun k hk=>heap_setCell_other w2 ⟨w.heap.size,0,none⟩ k _ hk
      have hb3:Below w.heap.size w (w2.setCell ⟨w.heap.size,0,none⟩ (.slice A2 (q * 3 + 1) k2)):=(Below.grown (w:=wr.alloc (.cells #[.int .u8 4,.int .i64 9223372036854775807,.string ⟨#[]⟩] 98)) (hbel'.out.alloc (by omega) _) hg'.out (by rw [hsz.out];omega) (fun k hk=>(World.ownsRow.lt hown'.out k hk).1)).setCell (Nat.le_refl _) _
      have ho2:=ho'.out
      rw [hrow.out] at ho2
      rcases ho2.2 with ⟨e,h0⟩ | ⟨g,cap,cur,e,hgb,hgg,hnc,hcm,hcs,htk⟩
      · omega
      · injection e with e1 e2 e3
        subst e1 e3
        have hgl:g < w2.heap.size:=(Array.getElem?_eq_some_iff.1 hgg).1
        have hgne:g ≠ w.heap.size:=fun e=>by subst e;rw [hq'.out] at hgg;injection hgg with hgg;injection hgg with _ h2 _;revert h2;decide
        have hsz3:(w2.setCell ⟨w.heap.size,0,none⟩ (.slice (some ⟨g,0,none⟩) (q * 3 + 1) k2)).heap.size = w2.heap.size:=by simp
        have hsz2:wr.heap.size + 1≤w2.heap.size:=by have:=hg'.out.size;rw [hsz.out] at this;exact this
        have hset2:(w2.setCell ⟨w.heap.size,0,none⟩ (.slice (some ⟨g,0,none⟩) (q * 3 + 1) k2)).heap[w.heap.size]? = some (.cells #[.slice (some ⟨g,0,none⟩) ((rowS l).length + 1) k2] 183 (0,0)):=by rw [hrl.out];exact hset
        refine ⟨w.heap.size,rfl,⟨fun k=>k = w.heap.size∨k = g,fun k hk=>?_,.inl rfl,g,0,k2,cur,hset2,.inr rfl,(hot g hgne).trans hgg,by rw [hrl.out];exact hnc,hcm,fun j v hj=>?_⟩,hb3⟩
        · rcases hk with rfl | rfl
          · exact ⟨Nat.le_refl _,by omega⟩
          · exact ⟨hgb,by omega⟩
        · have hjl:=(List.getElem?_eq_some_iff.1 hj).1
          rw [List.length_append,scells_len,hrl.out] at hjl
          simp only [endC,List.length_cons,List.length_nil] at hjl
          have h2:(cur.toList.take ((q * 3 + 1) * 3))[j]? = some v:=by rw [htk];exact hj
          rw [List.getElem?_take,if_pos (by omega)] at h2
          rw [Nat.zero_add,← Array.getElem?_toList]
          exact h2
end Go.Proofs.Ytidimannfemnmaa.P5
namespace Go.Proofs.Ytidimannfemnmaa.P5
open Go.RowKit
set_option maxRecDepth 20000
open Ltx (Pc)

theorem RowAt.front {w:World} {S:Nat→Prop} {base P:Nat} {sts:List St} (h:RowAt w S base P sts):∃ (g o c:Nat) (a b:Int) (t:List UInt8),headC sts = [.int .u8 a,.int .i64 b,.string ⟨t.toArray⟩]∧P < w.heap.size∧g < w.heap.size∧g ≠ P∧S g ∧
    sts.length + 1≤c∧c≤maxLen∧w.cell? ⟨P,0,none⟩ = some (.slice (some ⟨g,o,none⟩) (sts.length + 1) c)∧w.frozen? ⟨P,0,none⟩ = false ∧
    (w.cell? ⟨g,o,none⟩ = some (.int .u8 a)∧w.cell? ⟨g,o + 1,none⟩ = some (.int .i64 b)∧w.cell? ⟨g,o + 2,none⟩ = some (.string ⟨t.toArray⟩))∧(∀ i,w.frozen? ⟨g,i,none⟩ = false) ∧
    (∀ (w':World),w'.heap.size = w.heap.size→(∀ k,k ≠ g→w'.heap[k]? = w.heap[k]?)→∀ (sts':List St) (rest:List Value) (x y z:Value),sts'.length = sts.length→sts.flatMap St.cells ++ endC = headC sts ++ rest→sts'.flatMap St.cells ++ endC = [x,y,z] ++ rest →
      (∀ cur,w.heap[g]? = some (.cells cur 98 (0,0))→w'.heap[g]? = some (.cells (((cur.setIfInBounds o x).setIfInBounds (o + 1) y).setIfInBounds (o + 2) z) 98 (0,0)))→RowAt w' S base P sts') ∧
    (∀ (w':World),w'.heap.size = w.heap.size→(∀ k,k ≠ P→w'.heap[k]? = w.heap[k]?)→∀ s r,sts = s :: r→w'.heap[P]? = some (.cells #[.slice (some ⟨g,o + 3,none⟩) (r.length + 1) (c - 1)] 183 (0,0))→RowAt w' S base P r):=by
  obtain ⟨h1,h2,g,o,c,cur,hP,hgS,hg,hc1,hc2,hcur⟩:=h
  have hne:g ≠ P:=fun e=>by subst e;rw [hP] at hg;injection hg with hg;injection hg with _ h3 _;revert h3;decide
  obtain ⟨a,b,t,hh⟩:∃ (a b:Int) (t:List UInt8),headC sts = [.int .u8 a,.int .i64 b,.string ⟨t.toArray⟩]:=by
    cases sts with
    | nil=>exact ⟨_,_,[],rfl⟩
    | cons s r=>exact ⟨_,_,_,rfl⟩
  have hpre:∃ rest,sts.flatMap St.cells ++ endC = headC sts ++ rest:=by
    cases sts with
    | nil=>exact ⟨[],rfl⟩
    | cons s r=>exact ⟨r.flatMap St.cells ++ endC,by rw [List.flatMap_cons,List.append_assoc];rfl⟩
  obtain ⟨rest,hre⟩:=hpre
  rw [hh] at hre
  have hcell:∀ j v,([.int .u8 a,.int .i64 b,.string ⟨t.toArray⟩]:List Value)[j]? = some v→w.cell? ⟨g,o + j,none⟩ = some v:=fun j v hj=>by
    rw [cell_of_row w g (o + j) _ _ _ hg]
    refine hcur j v ?_
    rw [hre,List.getElem?_append_left (List.getElem?_eq_some_iff.1 hj).1]
    exact hj
  refine ⟨g,o,c,a,b,t,hh,(h1 P h2).2,(h1 g hgS).2,hne,hgS,hc1,hc2,cell_of_row w P 0 _ _ _ hP,frozen_of_row w P 0 _ _ hP,⟨hcell 0 _ rfl,hcell 1 _ rfl,hcell 2 _ rfl⟩,fun i=>frozen_of_row w g i _ _ hg,?_,?_⟩
  · intro w' hs hk sts' rest x y z hl e1 e2 hg1
    have hg2:=hg1 cur hg
    refine ⟨fun k hk'=>⟨(h1 k hk').1,by rw [hs];exact (h1 k hk').2⟩,h2,g,o,c,_,(hk P (fun e=>hne e.symm)).trans (by rw [hl];exact hP),hgS,hg2,by omega,hc2,fun j v hj=>?_⟩
    have hle:∀ j v,(headC sts ++ rest)[j]? = some v→cur[o + j]? = some v:=fun j v hj=>hcur j v (by rw [e1];exact hj)
    rw [hh] at hle
    have hbnd:o + 2 < cur.size:=(Array.getElem?_eq_some_iff.1 (hle 2 _ rfl)).1
    rw [e2] at hj
    match j,hj with
    | 0,hj =>
      simp only [List.cons_append,List.getElem?_cons_zero,Option.some.injEq] at hj
      rw [← hj,Array.getElem?_setIfInBounds_ne (by omega),Array.getElem?_setIfInBounds_ne (by omega)]
      show (cur.setIfInBounds o _)[o]? = _
      rw [Array.getElem?_setIfInBounds_self_of_lt (by omega)]
    | 1,hj =>
      simp only [List.cons_append,List.getElem?_cons_succ,List.getElem?_cons_zero,Option.some.injEq] at hj
      rw [← hj,Array.getElem?_setIfInBounds_ne (by omega),Array.getElem?_setIfInBounds_self_of_lt (by simp;omega)]
    | 2,hj =>
      simp only [List.cons_append,List.getElem?_cons_succ,List.getElem?_cons_zero,Option.some.injEq] at hj
      rw [← hj,Array.getElem?_setIfInBounds_self_of_lt (by simp;omega)]
    | j + 3,hj =>
      rw [Array.getElem?_setIfInBounds_ne (by omega),Array.getElem?_setIfInBounds_ne (by omega),Array.getElem?_setIfInBounds_ne (by omega)]
      exact hle (j + 3) v hj
  · intro w' hs hk s r e hP'
    subst e
    simp only [List.length_cons] at hc1
    refine ⟨fun k hk'=>⟨(h1 k hk').1,by rw [hs];exact (h1 k hk').2⟩,h2,g,o + 3,c - 1,cur,hP',hgS,(hk g hne).trans hg,by omega,by omega,fun j v hj=>?_⟩
    rw [show o + 3 + j = o + (j + 3) by omega]
    refine hcur (j + 3) v ?_
    rw [List.flatMap_cons,List.append_assoc]
    exact hj
theorem headC_cut (sts:List St) (m:Nat):∃ (a b:Int) (t:List UInt8),(match sts with | []=>endC | s :: _=>(s.cut m).cells) = [.int .u8 a,.int .i64 b,.string ⟨t.toArray⟩]:=by
  cases sts with
  | nil=>exact ⟨_,_,[],rfl⟩
  | cons s r=>exact ⟨_,_,_,rfl⟩
def cut1 (sts:List St) (m:Nat):List St:=match sts with | []=>[] | s :: r=>s.cut m :: r
theorem cut1_len (sts:List St) (m:Nat):(cut1 sts m).length = sts.length:=by cases sts <;> rfl
theorem cut1_cut (sts:List St) (m:Nat):trim (cut1 sts m) = cutS sts m:=by cases sts <;> rfl
theorem sbehind_head (w:World) (sts:List St) (m:Nat) (h:∀ s r,sts = s :: r→m≤s.size∧s.size≤1000000000) :
    Calls Try.prog 174 #[stepV (headC sts),.int .i64 (m:Int)] w fun e w'=>e = .returned (stepV (headC (cut1 sts m)))∧Below w.heap.size w w':=by
  cases sts with
  | nil=>exact sbehind_end w m
  | cons s r=>exact sbehind_any w s m (h s r rfl).1 (h s r rfl).2
def lenAt (w:World) (P:Nat):Nat:=match w.cell? ⟨P,0,none⟩ with | some (.slice _ n _)=>n | _=>0
set_option maxHeartbeats 2000000 in
theorem cut_any (w:World) (S:Nat→Prop) (base P:Nat) (sts:List St) (m:Nat) (hR:RowAt w S base P sts) (h:∀ s r,sts = s :: r→m≤s.size∧s.size≤1000000000) (hz:∀ s ∈ sts,s.size≤1000000000) :
    Calls Try.prog 173 #[.int .i64 (m:Int),.pointer (some ⟨P,0,none⟩)] w fun e w'=>e = .returned (stepV (headC (cutS sts m)))∧RowAt w' S base P (cutS sts m)∧FrX S w w':=by
  have hbeh:=Lib.hid (fun W=>sbehind_head W sts m h)
  have hR':=Lib.hid hR
  have hz':=Lib.hid hz
  clear h hR hz
  go_enter Try.func173,Try.ntmps173
  go_wp2_with fail
  obtain ⟨wA,hA⟩:∃ wA,wA = w.alloc (.cells #[.int .u8 0,.int .i64 0,.string ⟨#[]⟩] 98):=⟨_,rfl⟩
  rw [← hA]
  have hbA:Below w.heap.size w wA:=by rw [hA];exact (Below.refl w.heap.size w).alloc (Nat.le_refl _) _
  have hRes:wA.heap[w.heap.size]? = some (.cells #[.int .u8 0,.int .i64 0,.string ⟨#[]⟩] 98 (0,0)):=by rw [hA];exact heap_alloc_new w _
  have hRA:=hR'.out.below hbA
  have hSA:=Lib.hid (fun k (hk:S k)=>(hR'.out.own k hk).2)
  obtain ⟨g,o,c,a,b,t,hh,hPl,hgl,hne,hgS,hc1,hc2,cP,fP,⟨c0,c1,c2⟩,fz,hset,hcut⟩:=hRA.front
  obtain ⟨a',b',t',hh'⟩:∃ (a b:Int) (t:List UInt8),headC (cut1 sts m) = [.int .u8 a,.int .i64 b,.string ⟨t.toArray⟩]:=by
    cases sts with
    | nil=>exact ⟨_,_,[],rfl⟩
    | cons s r=>exact ⟨_,_,_,rfl⟩
  have hbehind:=Lib.hid (fun W=>show Calls Try.prog 174 #[.agg #[.int .u8 a,.int .i64 b,.string ⟨t.toArray⟩],.int .i64 (m:Int)] W fun e w'=>e = .returned (.agg #[.int .u8 a',.int .i64 b',.string ⟨t'.toArray⟩])∧Below W.heap.size W w' from by
    have:=hbeh.out W
    rw [hh,hh'] at this
    exact this)
  obtain ⟨n1,hn1⟩:∃ n1,n1 = sts.length + 1:=⟨_,rfl⟩
  rw [← hn1] at hc1 cP
  have hn1':=Lib.hid hn1
  have hI:(0:Int) < (n1:Int):=by omega
  have hI2:0 < n1:=by omega
  have hRes':=Lib.hid hRes
  have hbA':=Lib.hid hbA
  have hA':=Lib.hid hA
  have hh1:=Lib.hid hh
  have hh2:=Lib.hid hh'
  have hset':=Lib.hid hset
  have hcut':=Lib.hid hcut
  have hRA':=Lib.hid hRA
  clear hn1 hRes hbA hA hh hh' hset hcut hbeh hRA
  have hS3:∀ (W:World) (i:Nat) (v:Value),W.cell? ⟨P,0,none⟩ = some (.slice (some ⟨g,o,none⟩) n1 c)→(W.setCell ⟨g,i,none⟩ v).cell? ⟨P,0,none⟩ = some (.slice (some ⟨g,o,none⟩) n1 c):=fun W i v hw=>(World.cell?_setCell_other W ⟨g,i,none⟩ ⟨P,0,none⟩ v (by intro e;injection e with e _;first | exact hne e | exact hne e.symm)).trans hw
  refine wp_region_held_drew (S:=fun w'=>w'.cell? ⟨P,0,none⟩ = some (.slice (some ⟨g,o,none⟩) n1 c)) (by kernel_rfl) ?_ (fun hHeld=>?_)
  · exact cP
  refine wpAnyH_take (i:=0) (v:=?_) rfl (by kernel_rfl) (by kernel_rfl) (by kernel_rfl) (fun _ _ _ h=>h) (Or.inl ⟨by rfl,?_⟩) hHeld ?_
  rotate_left 1
  · intro w hSw;have q1:w.cell? ⟨P,0,none⟩ = some (.slice (some ⟨g,o,none⟩) n1 c):=hSw;go_simp;try with_reducible rfl
  try simp only [Act.put,zA,zB,zC]
  refine wpAnyH_take (i:=1) (v:=?_) rfl (by kernel_rfl) (by kernel_rfl) (by kernel_rfl) (fun _ _ _ h=>h) (Or.inl ⟨by rfl,?_⟩) hHeld ?_
  rotate_left 1
  · intro w hSw;have q1:w.cell? ⟨P,0,none⟩ = some (.slice (some ⟨g,o,none⟩) n1 c):=hSw;go_simp;try with_reducible rfl
  try simp only [Act.put,zA,zB,zC]
  refine wpAnyH_take (i:=2) (v:=?_) rfl (by kernel_rfl) (by kernel_rfl) (by kernel_rfl) (fun _ _ _ h=>h) (Or.inl ⟨by rfl,?_⟩) hHeld ?_
  rotate_left 1
  · intro w hSw;have q1:w.cell? ⟨P,0,none⟩ = some (.slice (some ⟨g,o,none⟩) n1 c):=hSw;go_simp;try with_reducible rfl
  try simp only [Act.put,zA,zB,zC]
  refine wpAnyH_take (i:=4) (v:=?_) rfl (by kernel_rfl) (by kernel_rfl) (by kernel_rfl) (fun _ _ _ h=>h) (Or.inl ⟨by rfl,?_⟩) hHeld ?_
  rotate_left 1
  · intro w hSw;have q1:w.cell? ⟨P,0,none⟩ = some (.slice (some ⟨g,o,none⟩) n1 c):=hSw;go_simp;try with_reducible rfl
  try simp only [Act.put,zA,zB,zC]
  refine wpAnyH_ready (rs:=[3]) (by kernel_rfl) (by simp) ?_
  refine AllReadyH.cons rfl (fun K hK=>?_) AllReadyH.nil
  go_simp
  refine hK.out _ _ ?_ (fun hNew=>?_)
  · first | assumption | exact hS2 | exact hS3 _ _ _ (hS3 _ _ _ (hS3 _ _ _ hS2))
  clear hK K hHeld
  have hHeld:=hNew
  clear hNew
  try simp only [Act.put,zA,zB,zC]
  refine wpAnyH_ready (rs:=[5]) (by kernel_rfl) (by simp) ?_
  refine AllReadyH.cons rfl (fun K hK=>?_) AllReadyH.nil
  (go_simp;go_at_call 174;refine (hbehind.out _).mono ?_;rintro e w2 ⟨rfl,hb2⟩;have cP2:=(hb2.cell (p:=⟨P,0,none⟩) hPl).trans cP;have fP2:=(hb2.frozen (p:=⟨P,0,none⟩) hPl).trans fP;have d0:=(hb2.cell (p:=⟨g,o,none⟩) hgl).trans c0;have d1:=(hb2.cell (p:=⟨g,o + 1,none⟩) hgl).trans c1;have d2:=(hb2.cell (p:=⟨g,o + 2,none⟩) hgl).trans c2;have e0:=(hb2.frozen (p:=⟨g,o,none⟩) hgl).trans (fz o);have e1:=(hb2.frozen (p:=⟨g,o + 1,none⟩) hgl).trans (fz (o + 1));have e2:=(hb2.frozen (p:=⟨g,o + 2,none⟩) hgl).trans (fz (o + 2));have hS2:w2.cell? ⟨P,0,none⟩ = some (.slice (some ⟨g,o,none⟩) n1 c):=cP2;have hb2':=Lib.hid hb2;clear hb2)
  refine hK.out _ _ ?_ (fun hNew=>?_)
  · first | assumption | exact hS2 | exact hS3 _ _ _ (hS3 _ _ _ (hS3 _ _ _ hS2))
  clear hK K hHeld
  have hHeld:=hNew
  clear hNew
  try simp only [Act.put,zA,zB,zC]
  refine wpAnyH_take (i:=6) (v:=?_) rfl (by kernel_rfl) (by kernel_rfl) (by kernel_rfl) (fun _ _ _ h=>h) (Or.inl ⟨by rfl,?_⟩) hHeld ?_
  rotate_left 1
  · intro w hSw;have q1:w.cell? ⟨P,0,none⟩ = some (.slice (some ⟨g,o,none⟩) n1 c):=hSw;go_simp;try with_reducible rfl
  try simp only [Act.put,zA,zB,zC]
  refine wpAnyH_ready (rs:=[7]) (by kernel_rfl) (by simp) ?_
  refine AllReadyH.cons rfl (fun K hK=>?_) AllReadyH.nil
  go_simp
  refine hK.out _ _ ?_ (fun hNew=>?_)
  · first | assumption | exact hS2 | exact hS3 _ _ _ (hS3 _ _ _ (hS3 _ _ _ hS2))
  clear hK K hHeld
  have hHeld:=hNew
  clear hNew
  try simp only [Act.put,zA,zB,zC]
  refine wpAnyH_done (by kernel_rfl) ?_ _
  go_wp2_with fail
  obtain ⟨w3,hw3⟩:∃ w3,w3 = ((w2.setCell ⟨g,o,none⟩ (.int .u8 a')).setCell ⟨g,o + 1,none⟩ (.int .i64 b')).setCell ⟨g,o + 2,none⟩ (.string ⟨t'.toArray⟩):=⟨_,rfl⟩
  rw [← hw3]
  have hR2:RowAt w2 S base P sts:=hRA'.out.below ⟨hb2'.out.os,hb2'.out.tape,hb2'.out.output,hb2'.out.size,hb2'.out.block⟩
  have hR3:RowAt w3 S base P (cut1 sts m):=by
    obtain ⟨g2,o2,cc2,_,_,_,_,_,_,_,_,_,_,hcP2,_,_,_,hset2,_⟩:=hR2.front
    have hcc:=hcP2.symm.trans cP2
    injection hcc with hcc
    injection hcc with hcc _ _
    injection hcc with hcc
    injection hcc with hc1 hc2 _
    subst hc1 hc2
    obtain ⟨rest,e1,e2⟩:∃ rest,sts.flatMap St.cells ++ endC = headC sts ++ rest∧(cut1 sts m).flatMap St.cells ++ endC = headC (cut1 sts m) ++ rest:=by
      cases sts with
      | nil=>exact ⟨[],rfl,rfl⟩
      | cons s r=>exact ⟨r.flatMap St.cells ++ endC,by rw [List.flatMap_cons,List.append_assoc];rfl,by unfold cut1;rw [List.flatMap_cons,List.append_assoc];rfl⟩
    rw [hh2.out] at e2
    refine hset2 w3 (by rw [hw3];simp) (fun k hk=>?_) (cut1 sts m) rest _ _ _ (cut1_len sts m) e1 e2 (fun cur hg=>?_)
    · rw [hw3,heap_setCell_other _ ⟨g2,o2 + 2,none⟩ k _ hk,heap_setCell_other _ ⟨g2,o2 + 1,none⟩ k _ hk,heap_setCell_other _ ⟨g2,o2,none⟩ k _ hk]
    · rw [hw3,heap_setCell_same _ g2 (o2 + 2) _ _ _ (heap_setCell_same _ g2 (o2 + 1) _ _ _ (heap_setCell_same w2 g2 o2 _ _ _ hg))]
  have hs2:wA.heap.size≤w2.heap.size:=hb2'.out.size
  have hsA:wA.heap.size = w.heap.size + 1:=by rw [hA'.out];simp
  have hs3:w3.heap.size = w2.heap.size:=by rw [hw3];simp
  have hgw:g < w.heap.size:=hSA.out g hgS
  have hF3:FrX S w w3:=by
    rw [hw3]
    refine FrX.setCell (FrX.setCell (FrX.setCell ⟨?_,?_,?_,by omega,fun k hk _=>?_⟩ hgS) hgS) hgS
    · exact hb2'.out.os.trans hbA'.out.os
    · exact hb2'.out.tape.trans hbA'.out.tape
    · exact hb2'.out.output.trans hbA'.out.output
    · exact (hb2'.out.block k (show k < wA.heap.size by omega)).trans (hbA'.out.block k hk)
  have hRes3:w3.heap[w.heap.size]? = some (.cells #[.int .u8 0,.int .i64 0,.string ⟨#[]⟩] 98 (0,0)):=by
    have hkn:w.heap.size ≠ g:=by omega
    rw [hw3,heap_setCell_other _ ⟨g,o + 2,none⟩ _ _ hkn,heap_setCell_other _ ⟨g,o + 1,none⟩ _ _ hkn,heap_setCell_other _ ⟨g,o,none⟩ _ _ hkn]
    exact (hb2'.out.block w.heap.size (show w.heap.size < wA.heap.size by omega)).trans hRes'.out
  have hR3':=Lib.hid hR3
  have hF3':=Lib.hid hF3
  have hRes3':=Lib.hid hRes3
  have htr:=Lib.hid (cut1_cut sts m)
  clear hR3 hF3 hRes3 hw3 hR2 hs2 hsA hs3 cP fP c0 c1 c2 fz cP2 fP2 d0 d1 d2 e0 e1 e2 hS2 hS3 hgw hPl hgl hc1 hI hI2 hc2
  go_loopw [] (fun wr=>∃ sts',trim sts' = cutS sts m∧RowAt wr S base P sts'∧FrX S w wr∧wr.heap[w.heap.size]? = some (.cells #[.int .u8 0,.int .i64 0,.string ⟨#[]⟩] 98 (0,0))) (fun wr=>lenAt wr P)
  case atStart=>exact ⟨cut1 sts m,htr.out,hR3'.out,hF3'.out,hRes3'.out⟩
  case round =>
    obtain ⟨sts',htr',hRr,hFr,hRr0⟩:=hrel
    obtain ⟨g,o,c,a,b,t,hh,hPl,hgl,hne,hgS,hc1,hc2,cP,fP,⟨c0,c1,c2⟩,fz,hset,hcut⟩:=hRr.front
    have hRR:=hRr.own
    have r0:=cell_of_row wr w.heap.size 0 _ _ _ hRr0
    have r1:=cell_of_row wr w.heap.size 1 _ _ _ hRr0
    have r2:=cell_of_row wr w.heap.size 2 _ _ _ hRr0
    have rf0:=frozen_of_row wr w.heap.size 0 _ _ hRr0
    have rf1:=frozen_of_row wr w.heap.size 1 _ _ hRr0
    have rf2:=frozen_of_row wr w.heap.size 2 _ _ hRr0
    simp at r0 r1 r2
    obtain ⟨n1,hn1⟩:∃ n1,n1 = sts'.length + 1:=⟨_,rfl⟩
    rw [← hn1] at hc1 cP
    have hI:(0:Int) < (n1:Int):=by omega
    have hI2:0 < n1:=by omega
    have hPne:P ≠ w.heap.size:=by have:=hR'.out.own P hR'.out.here;omega
    have hgne:g ≠ w.heap.size:=by have:=hR'.out.own g hgS;omega
    have htr2:=Lib.hid htr'
    have hRr2:=Lib.hid hRr
    have hFr2:=Lib.hid hFr
    have hRr02:=Lib.hid hRr0
    have hh2':=Lib.hid hh
    have hcut':=Lib.hid hcut
    have hn1':=Lib.hid hn1
    have hRR':=Lib.hid hRR
    clear htr' hRr hFr hRr0 hset hcut hRR
    by_cases hz0:∃ s r,sts' = s :: r∧s.size = 0
    · obtain ⟨s,r,hsr,hs0⟩:=hz0
      have hb0:b = 0:=by
        have h:=hh2'.out
        rw [hsr] at h
        injection h with _ h
        injection h with h _
        injection h with _ h
        rw [← h,hs0]
        rfl
      subst hb0
      have hn2:2≤n1:=by rw [hn1,hsr];simp
      have hI3:(1:Int)≤(n1:Int):=by omega
      have hI4:¬ c = 1:=by omega
      have hI5:(n1:Int)≤(c:Int):=by omega
      have hI6:(1:Int)≤(c:Int):=by omega
      clear hh hn1
      go_wp2_with fail
      subst hsr
      have hr1:n1 - 1 = r.length + 1:=by rw [hn1'.out];simp
      have hPh:∃ cs,wr.heap[P]? = some (.cells cs 183 (0,0))∧cs.size = 1:=by
        obtain ⟨_,_,g',o',c',cur',hP',_⟩:=hRr2.out
        exact ⟨_,hP',rfl⟩
      obtain ⟨cs,hcs,hcs1⟩:=hPh
      have hset:=heap_setCell_same wr P 0 _ _ (.slice (some ⟨g,o + 3,none⟩) (n1 - 1) (c - 1)) hcs
      have hset1:(wr.setCell ⟨P,0,none⟩ (.slice (some ⟨g,o + 3,none⟩) (n1 - 1) (c - 1))).heap[P]? = some (.cells #[.slice (some ⟨g,o + 3,none⟩) (r.length + 1) (c - 1)] 183 (0,0)):=by
        rw [hset,hr1]
        congr 2
        obtain ⟨l⟩:=cs
        match l,hcs1 with
        | [x],_=>rfl
      refine ⟨⟨r,?_,hcut'.out _ (by simp) (fun k hk=>heap_setCell_other wr ⟨P,0,none⟩ k _ hk) s r rfl hset1,hFr2.out.setCell hR'.out.here,?_⟩,?_⟩
      · rw [← htr2.out,trim,if_pos hs0]
      · rw [heap_setCell_other wr ⟨P,0,none⟩ _ _ (fun e=>hPne e.symm)]
        exact hRr02.out
      · have l1:lenAt wr P = n1:=by unfold lenAt;rw [cP]
        have l2:lenAt (wr.setCell ⟨P,0,none⟩ (.slice (some ⟨g,o + 3,none⟩) (n1 - 1) (c - 1))) P = r.length + 1:=by
          unfold lenAt
          rw [cell_of_row _ P 0 _ _ _ hset1]
          rfl
        rw [l1,l2]
        omega
    · have hbz:(b == 0) = false:=by
        have h:=hh2'.out
        cases hsc:sts' with
        | nil =>
          rw [hsc] at h
          injection h with _ h
          injection h with h _
          injection h with _ h
          rw [← h]
          rfl
        | cons s r =>
          rw [hsc] at h
          injection h with _ h
          injection h with h _
          injection h with _ h
          rw [← h]
          have:s.size ≠ 0:=fun e=>hz0 ⟨s,r,hsc,e⟩
          simp
          exact this
      have hfin:=Lib.hid (show cutS sts m = sts' by
        rw [← htr2.out]
        cases hsc:sts' with
        | nil=>rfl
        | cons s r =>
          have:s.size ≠ 0:=fun e=>hz0 ⟨s,r,hsc,e⟩
          rw [trim,if_neg this])
      clear hh hn1 hz0
      go_wp2_with fail
      have hRs:∀ k,S k→k ≠ w.heap.size:=fun k hk e=>by have:=hR'.out.own k hk;omega
      obtain ⟨w4,hw4⟩:∃ w4,w4 = ((wr.setCell ⟨w.heap.size,0,none⟩ (.int .u8 a)).setCell ⟨w.heap.size,1,none⟩ (.int .i64 b)).setCell ⟨w.heap.size,2,none⟩ (.string ⟨t.toArray⟩):=⟨_,rfl⟩
      have hR4:w4.heap[w.heap.size]? = some (.cells #[.int .u8 a,.int .i64 b,.string ⟨t.toArray⟩] 98 (0,0)):=by
        rw [hw4,heap_setCell_same _ _ 2 _ _ _ (heap_setCell_same _ _ 1 _ _ _ (heap_setCell_same wr _ 0 _ _ _ hRr02.out))]
        rfl
      have v0:=cell_of_row w4 w.heap.size 0 _ _ _ hR4
      have v1:=cell_of_row w4 w.heap.size 1 _ _ _ hR4
      have v2:=cell_of_row w4 w.heap.size 2 _ _ _ hR4
      simp at v0 v1 v2
      rw [← hw4]
      have hot:∀ k,k ≠ w.heap.size→w4.heap[k]? = wr.heap[k]?:=fun k hk=>by
        rw [hw4,heap_setCell_other _ ⟨w.heap.size,2,none⟩ k _ hk,heap_setCell_other _ ⟨w.heap.size,1,none⟩ k _ hk,heap_setCell_other _ ⟨w.heap.size,0,none⟩ k _ hk]
      have hs4:w4.heap.size = wr.heap.size:=by rw [hw4];simp
      have hR5:RowAt w4 S base P (cutS sts m):=by rw [hfin.out];exact hRr2.out.kept (by omega) (fun k hk=>hot k (hRs k hk))
      have hF5:FrX S w w4:=⟨by rw [hw4];exact hFr2.out.os,by rw [hw4];exact hFr2.out.tape,by rw [hw4];exact hFr2.out.output,by have:=hFr2.out.size;omega,fun k hk hn=>(hot k (by omega)).trans (hFr2.out.block k hk hn)⟩
      have hv:stepV (headC (cutS sts m)) = .agg #[.int .u8 a,.int .i64 b,.string ⟨t.toArray⟩]:=by rw [hfin.out,hh2'.out];rfl
      rw [hv]
      exact bodyPost_ret (v:=.agg #[.int .u8 a,.int .i64 b,.string ⟨t.toArray⟩]) (by simp [results,Try.results173,go_sem,v0,v1,v2]) rfl ⟨rfl,hR5,hF5⟩
end Go.Proofs.Ytidimannfemnmaa.P5
namespace Go.Proofs.Ytidimannfemnmaa.P5
open Go.RowKit
set_option maxRecDepth 20000
open Ltx (Pc)

structure Pr (w:World) (SB SA:Nat→Prop) (base pB pA:Nat) (rawB rawA:List Pc):Prop where
  b:Drf w SB base pB rawB
  a:Drf w SA base pA rawA
  ap:∀ k,SB k→¬ SA k
section
variable {w w':World} {SB SA:Nat→Prop} {base pB pA:Nat} {rawB rawA raw':List Pc}
theorem Pr.below (h:Pr w SB SA base pB pA rawB rawA) (hb:Below w.heap.size w w'):Pr w' SB SA base pB pA rawB rawA:=⟨h.b.below hb,h.a.below hb,h.ap⟩
theorem Pr.swap (h:Pr w SB SA base pB pA rawB rawA):Pr w SA SB base pA pB rawA rawB:=⟨h.a,h.b,fun k h1 h2=>h.ap k h2 h1⟩
def Dst (w w':World) (S:Nat→Prop) (base p:Nat) (raw:List Pc):Prop:=∃ S',Drf w' S' base p raw∧(∀ k,S' k→S k∨w.heap.size≤k)∧FrX S w w'
theorem Dst.of {S:Nat→Prop} {p:Nat} {raw:List Pc} (hd:Drf w' (Also S w w') base p raw) (hF:FrX S w w'):Dst w w' S base p raw:=⟨_,hd,fun k hk=>by rcases hk with hk | hk;exact .inl hk;exact .inr hk.1,hF⟩
theorem Dst.from_ {w0:World} {S:Nat→Prop} {p:Nat} {raw:List Pc} (hb:Below w.heap.size w w0) (hd:Dst w0 w' S base p raw):Dst w w' S base p raw:=by
  obtain ⟨S',h1,h2,h3⟩:=hd
  refine ⟨S',h1,fun k hk=>?_,(FrX.of_below (S:=S) hb).trans h3 fun k hk=>.inl hk⟩
  rcases h2 k hk with e | e
  · exact .inl e
  · exact .inr (by have:=hb.size;omega)
theorem Pr.step {rawB rawA raw':List Pc} {pB pA:Nat} {SB SA:Nat→Prop} (h:Pr w SB SA base pB pA rawB rawA) (hd:Dst w w' SB base pB raw'):∃ SB',Pr w' SB' SA base pB pA raw' rawA∧(∀ k,SB' k→SB k∨w.heap.size≤k)∧FrX SB w w':=by
  obtain ⟨SB',h1,h2,hF⟩:=hd
  refine ⟨SB',⟨h1,h.a.kept hF.size fun k hk=>hF.block k (h.a.lt k hk).2 (fun e=>h.ap k e hk),fun k hk hA=>?_⟩,h2,hF⟩
  rcases h2 k hk with e | e
  · exact h.ap k e hA
  · have:=(h.a.lt k hA).2
    omega
end
set_option maxHeartbeats 1000000 in
theorem beside_any (w:World) (S:Nat→Prop) (base p:Nat) (raw:List Pc) (a1 a2 b1 b2:Int) (t1 t2:List UInt8) (m:Nat) (X Y:Bool) (hX:X = decide (a1 = 3)) (hY:Y = decide (a2 = 3)) (h:Drf w S base p raw) (hb:totP raw + m≤1000000) (hbase:base≤w.heap.size) :
    Calls Try.prog 136 #[.agg #[.int .u8 a1,.int .i64 b1,.string ⟨t1.toArray⟩],.agg #[.int .u8 a2,.int .i64 b2,.string ⟨t2.toArray⟩],.int .i64 (m:Int),.pointer (some ⟨p,0,none⟩)] w fun e w'=>e = .returned (.tuple #[])∧Dst w w' S base p (raw ++ run X Y m):=by
  have h1:=Lib.hid (fun o1 o2=>h.below (new2 (w:=w) o1 o2))
  have hsz:=Lib.hid (show ∀ o1 o2,((w.alloc o1).alloc o2).heap.size = w.heap.size + 2 from fun o1 o2=>by simp)
  have hnew:=Lib.hid (fun o1 o2=>new2 (w:=w) o1 o2)
  clear h
  by_cases ha2:a2 = 3
  · subst ha2
    have hr:=Lib.hid (show raw ++ run X Y m = raw by rw [hY];simp [run])
    clear hX hY
    go_enter Try.func136,Try.ntmps136
    go_wp2_with fail
    first | go_end0 | skip
    refine ⟨rfl,Dst.from_ (hnew.out _ _) ⟨S,?_,fun k hk=>.inl hk,FrX.refl _ _⟩⟩
    rw [hr.out]
    exact h1.out _ _
  · have hb2:((a2:Int) == 3) = false:=by simpa using ha2
    by_cases ha1:a1 = 3
    · subst ha1
      have hr:=Lib.hid (show run X Y m = [⟨0,m,[]⟩] by rw [hX,hY];simp [run,ha2])
      clear ha2 hX hY
      go_enter Try.func136,Try.ntmps136
      go_wp2_with (go_at_call 70;refine (ddrop_any (h1.out _ _) m hb).mono ?_;rintro e w3 ⟨rfl,hd3,hF3⟩;have hd3':=Lib.hid hd3;have hF3':=Lib.hid hF3;clear hd3 hF3)
      first | go_end0 | skip
      have hd:=Dst.of hd3'.out hF3'.out
      rw [← hr.out] at hd
      exact ⟨rfl,Dst.from_ (hnew.out _ _) hd⟩
    · have hb1:((a1:Int) == 3) = false:=by simpa using ha1
      have hr:=Lib.hid (show run X Y m = [⟨m,0,[]⟩] by rw [hX,hY];simp [run,ha2,ha1])
      clear ha2 ha1 hX hY
      go_enter Try.func136,Try.ntmps136
      go_wp2_with (go_at_call 72;refine (dkeep_any (h1.out _ _) m hb (by rw [hsz.out];omega)).mono ?_;rintro e w3 ⟨rfl,hd3,hF3⟩;have hd3':=Lib.hid hd3;have hF3':=Lib.hid hF3;clear hd3 hF3)
      first | go_end0 | skip
      have hd:=Dst.of hd3'.out hF3'.out
      rw [← hr.out] at hd
      exact ⟨rfl,Dst.from_ (hnew.out _ _) hd⟩
def Pst (w w':World) (SB SA:Nat→Prop) (base pB pA:Nat) (rawB rawA:List Pc):Prop :=
  ∃ SB' SA',Pr w' SB' SA' base pB pA rawB rawA∧(∀ k,SB' k→SB k∨w.heap.size≤k)∧(∀ k,SA' k→SA k∨w.heap.size≤k)∧FrX (fun k=>SB k∨SA k) w w'
theorem Pr.both {w w1 w2:World} {SB SA:Nat→Prop} {base pB pA:Nat} {rawB rawA rawB' rawA':List Pc} (h:Pr w SB SA base pB pA rawB rawA) (h1:Dst w w1 SB base pB rawB') (h2:Dst w1 w2 SA base pA rawA'):Pst w w2 SB SA base pB pA rawB' rawA':=by
  obtain ⟨SB',p1,s1,f1⟩:=h.step h1
  obtain ⟨SA',p2,s2,f2⟩:=p1.swap.step h2
  refine ⟨SB',SA',p2.swap,s1,fun k hk=>?_,(f1.mono fun k _ hk=>.inl hk).trans f2 fun k hk=>.inl (.inr hk)⟩
  rcases s2 k hk with e | e
  · exact .inl e
  · exact .inr (by have:=f1.size;omega)
theorem Pst.from_ {w w0 w':World} {SB SA:Nat→Prop} {base pB pA:Nat} {rawB rawA:List Pc} (hb:Below w.heap.size w w0) (h:Pst w0 w' SB SA base pB pA rawB rawA):Pst w w' SB SA base pB pA rawB rawA:=by
  obtain ⟨SB',SA',p,s1,s2,f⟩:=h
  have:=hb.size
  refine ⟨SB',SA',p,fun k hk=>?_,fun k hk=>?_,(FrX.of_below (S:=fun k=>SB k∨SA k) hb).trans f fun k hk=>.inl hk⟩
  · rcases s1 k hk with e | e
    · exact .inl e
    · exact .inr (by omega)
  · rcases s2 k hk with e | e
    · exact .inl e
    · exact .inr (by omega)
section
variable {w:World} {SB SA:Nat→Prop} {base pB pA Q:Nat} {rawB rawA:List Pc} {prior:Bool}
set_option maxHeartbeats 2000000 in
theorem tmeet_x (h:Pr w SB SA base pB pA rawB rawA) (hQ:w.heap[Q]? = some (.cells #[.bool prior] 4 (0,0))) (t1:List UInt8) (a2 b2:Int) (t2:List UInt8) (hg:prior = true∨a2 ≠ 2)
    (hb1:totP rawB + t1.length≤1000000) (hb2:totP rawA + t1.length≤1000000) (hbase:base≤w.heap.size) :
    Calls Try.prog 135 #[.agg #[.int .u8 2,.int .i64 (t1.length:Int),.string ⟨t1.toArray⟩],.agg #[.int .u8 a2,.int .i64 b2,.string ⟨t2.toArray⟩],.pointer (some ⟨Q,0,none⟩),.pointer (some ⟨pB,0,none⟩),.pointer (some ⟨pA,0,none⟩)] w fun e w' =>
      e = .returned (.tuple #[.int .i64 (t1.length:Int),.int .i64 0])∧Pst w w' SB SA base pB pA (rawB ++ [⟨0,0,t1⟩]) (rawA ++ [⟨t1.length,0,[]⟩]):=by
  have h1:=Lib.hid (fun o1 o2=>h.below (new2 (w:=w) o1 o2))
  have hsz:=Lib.hid (show ∀ o1 o2,((w.alloc o1).alloc o2).heap.size = w.heap.size + 2 from fun o1 o2=>by simp)
  have hnew:=Lib.hid (fun o1 o2=>new2 (w:=w) o1 o2)
  have hlt:=Lib.hid (fun k (hk:SB k)=>(h.b.lt k hk).2)
  have hltA:=Lib.hid (fun k (hk:SA k)=>(h.a.lt k hk).2)
  have hQl:Q < w.heap.size:=(Array.getElem?_eq_some_iff.1 hQ).1
  have cQ:=cell_of_row w Q 0 _ _ _ hQ
  simp at cQ
  have hxb:=Lib.hid (show ∀ o,((w.alloc (.cells #[.int .u8 2,.int .i64 (t1.length:Int),.string ⟨t1.toArray⟩] 98)).alloc o).heap[w.heap.size]? = some (.cells #[.int .u8 2,.int .i64 (t1.length:Int),.string ⟨t1.toArray⟩] 98 (0,0)) from fun o=>(Go.heap_alloc_old _ o (by simp)).trans (heap_alloc_new w _))
  have hgI:prior = true∨(prior = false∧((a2:Int) != 2) = true):=by
    rcases hg with e | e
    · exact .inl e
    · cases prior
      · exact .inr ⟨rfl,by simpa using e⟩
      · exact .inl rfl
  clear h hQ hg
  rcases hgI with rfl | ⟨rfl,hg2⟩
  all_goals
    go_enter Try.func135,Try.ntmps135
    go_wp2_with (first
      | (go_at_call 71;refine (dput_any (h1.out _ _).b t1 hb1 (by rw [hsz.out];omega)).mono ?_;rintro e w3 ⟨rfl,hd3,hF3⟩;have hx3:=hF3.cells (hxb.out _) (fun e=>by have:=hlt.out _ e;omega);have q1:=cell_of_row w3 w.heap.size 1 _ _ _ hx3;simp at q1;have hx3':=Lib.hid hx3;have hdst:=Lib.hid (Dst.of hd3 hF3);have hF3':=Lib.hid hF3;have hs3:=hF3.size;rw [hsz.out] at hs3;clear hx3 hd3 hF3;obtain ⟨SB3,hp3,hsb3,-⟩:=(h1.out _ _).step hdst.out;have hp3':=Lib.hid hp3;clear hp3 hsb3)
      | (go_at_call 72;refine (dkeep_any hp3'.out.a t1.length hb2 (by omega)).mono ?_;rintro e w4 ⟨rfl,hd4,hF4⟩;have hx4:=hF4.cells hx3'.out (fun e=>by have:=hltA.out _ e;omega);have q4:=cell_of_row w4 w.heap.size 1 _ _ _ hx4;simp at q4;have hdst4:=Lib.hid (Dst.of hd4 hF4);clear hx4 hd4 hF4))
    go_ret2
    exact ⟨rfl,Pst.from_ (hnew.out _ _) ((h1.out _ _).both hdst.out hdst4.out)⟩
set_option maxHeartbeats 2000000 in
theorem tmeet_y (h:Pr w SB SA base pB pA rawB rawA) (hQ:w.heap[Q]? = some (.cells #[.bool prior] 4 (0,0))) (t2:List UInt8) (a1 b1:Int) (t1:List UInt8) (hg:prior = false∨a1 ≠ 2)
    (hb1:totP rawA + t2.length≤1000000) (hb2:totP rawB + t2.length≤1000000) (hbase:base≤w.heap.size) :
    Calls Try.prog 135 #[.agg #[.int .u8 a1,.int .i64 b1,.string ⟨t1.toArray⟩],.agg #[.int .u8 2,.int .i64 (t2.length:Int),.string ⟨t2.toArray⟩],.pointer (some ⟨Q,0,none⟩),.pointer (some ⟨pB,0,none⟩),.pointer (some ⟨pA,0,none⟩)] w fun e w' =>
      e = .returned (.tuple #[.int .i64 0,.int .i64 (t2.length:Int)])∧Pst w w' SB SA base pB pA (rawB ++ [⟨t2.length,0,[]⟩]) (rawA ++ [⟨0,0,t2⟩]):=by
  have h1:=Lib.hid (fun o1 o2=>h.below (new2 (w:=w) o1 o2))
  have hsz:=Lib.hid (show ∀ o1 o2,((w.alloc o1).alloc o2).heap.size = w.heap.size + 2 from fun o1 o2=>by simp)
  have hnew:=Lib.hid (fun o1 o2=>new2 (w:=w) o1 o2)
  have hltA:=Lib.hid (fun k (hk:SA k)=>(h.a.lt k hk).2)
  have hltB:=Lib.hid (fun k (hk:SB k)=>(h.b.lt k hk).2)
  have hQl:Q < w.heap.size:=(Array.getElem?_eq_some_iff.1 hQ).1
  have cQ:=cell_of_row w Q 0 _ _ _ hQ
  simp at cQ
  have hxb:=Lib.hid (show ∀ o,((w.alloc o).alloc (.cells #[.int .u8 2,.int .i64 (t2.length:Int),.string ⟨t2.toArray⟩] 98)).heap[w.heap.size + 1]? = some (.cells #[.int .u8 2,.int .i64 (t2.length:Int),.string ⟨t2.toArray⟩] 98 (0,0)) from fun o=>by
    have:=heap_alloc_new (w.alloc o) (.cells #[.int .u8 2,.int .i64 (t2.length:Int),.string ⟨t2.toArray⟩] 98)
    rwa [show (w.alloc o).heap.size = w.heap.size + 1 from by simp] at this)
  have hgI:((a1:Int) == 2) = false∨(((a1:Int) == 2) = true∧prior = false):=by
    by_cases e:a1 = 2
    · exact .inr ⟨by simpa using e,by rcases hg with e2 | e2;exact e2;exact absurd e e2⟩
    · exact .inl (by simpa using e)
  clear h hQ hg
  rcases hgI with g1 | ⟨g1,rfl⟩
  all_goals
    go_enter Try.func135,Try.ntmps135
    go_wp2_with (first
      | (go_at_call 71;refine (dput_any (h1.out _ _).a t2 hb1 (by rw [hsz.out];omega)).mono ?_;rintro e w3 ⟨rfl,hd3,hF3⟩;have hx3:=hF3.cells (hxb.out _) (fun e=>by have:=hltA.out _ e;omega);have q1:=cell_of_row w3 (w.heap.size + 1) 1 _ _ _ hx3;simp at q1;have hx3':=Lib.hid hx3;have hdst:=Lib.hid (Dst.of hd3 hF3);have hF3':=Lib.hid hF3;have hs3:=hF3.size;rw [hsz.out] at hs3;clear hx3 hd3 hF3;obtain ⟨SA3,hp3,hsa3,-⟩:=(h1.out _ _).swap.step hdst.out;have hp3':=Lib.hid hp3;clear hp3 hsa3)
      | (go_at_call 72;refine (dkeep_any hp3'.out.a t2.length hb2 (by omega)).mono ?_;rintro e w4 ⟨rfl,hd4,hF4⟩;have hx4:=hF4.cells hx3'.out (fun e=>by have:=hltB.out _ e;omega);have q4:=cell_of_row w4 (w.heap.size + 1) 1 _ _ _ hx4;simp at q4;have hdst4:=Lib.hid (Dst.of hd4 hF4);clear hx4 hd4 hF4))
    go_quiet (fail)
    go_wp2_with fail
    go_ret2
    obtain ⟨SB',SA',p,s1,s2,f⟩:=Pst.from_ (hnew.out _ _) ((h1.out _ _).swap.both hdst.out hdst4.out)
    exact ⟨rfl,SA',SB',(p.swap).below (draws (Below.refl _ _) _),s2,s1,(f.mono fun k _ hk=>by rcases hk with e | e;exact .inr e;exact .inl e).drew _⟩
set_option maxHeartbeats 2000000 in
theorem tmeet_both (h:Pr w SB SA base pB pA rawB rawA) (a1 b1 a2 b2:Int) (t1 t2:List UInt8) (m:Nat) (X Y:Bool) (hX:X = decide (a1 = 3)) (hY:Y = decide (a2 = 3)) (h1:a1 ≠ 2) (h2:a2 ≠ 2) (hm:min b1 b2 = (m:Int))
    (hb1:totP rawA + m≤1000000) (hb2:totP rawB + m≤1000000) (hbase:base≤w.heap.size) :
    Calls Try.prog 135 #[.agg #[.int .u8 a1,.int .i64 b1,.string ⟨t1.toArray⟩],.agg #[.int .u8 a2,.int .i64 b2,.string ⟨t2.toArray⟩],.pointer (some ⟨Q,0,none⟩),.pointer (some ⟨pB,0,none⟩),.pointer (some ⟨pA,0,none⟩)] w fun e w' =>
      e = .returned (.tuple #[.int .i64 (m:Int),.int .i64 (m:Int)])∧Pst w w' SB SA base pB pA (rawB ++ run X Y m) (rawA ++ run Y X m):=by
  have hh:=Lib.hid (fun o1 o2=>h.below (new2 (w:=w) o1 o2))
  have hsz:=Lib.hid (show ∀ o1 o2,((w.alloc o1).alloc o2).heap.size = w.heap.size + 2 from fun o1 o2=>by simp)
  have hnew:=Lib.hid (fun o1 o2=>new2 (w:=w) o1 o2)
  have hltB:=Lib.hid (fun k (hk:SB k)=>(h.b.lt k hk).2)
  have hxb:=Lib.hid (show ∀ o1 o2,((w.alloc o1).alloc o2).heap[w.heap.size]? = some o1 from fun o1 o2=>(Go.heap_alloc_old _ o2 (by simp)).trans (heap_alloc_new w _))
  have hyb:=Lib.hid (show ∀ o1 o2,((w.alloc o1).alloc o2).heap[w.heap.size + 1]? = some o2 from fun o1 o2=>by
    have:=heap_alloc_new (w.alloc o1) o2
    rwa [show (w.alloc o1).heap.size = w.heap.size + 1 from by simp] at this)
  have g1:((a1:Int) == 2) = false:=by simpa using h1
  have g2:((a2:Int) == 2) = false:=by simpa using h2
  have hX':=Lib.hid hX
  have hY':=Lib.hid hY
  have hm':=Lib.hid hm
  clear h h1 h2 hX hY hm
  go_enter Try.func135,Try.ntmps135
  go_wp2_with fail
  rw [hm'.out]
  refine (beside_any _ SB base pB rawB a1 a2 b1 b2 t1 t2 m X Y hX'.out hY'.out (hh.out _ _).b hb2 (by rw [hsz.out];omega)).mono ?_
  rintro e w3 ⟨rfl,hd3⟩
  have hdst:=Lib.hid hd3
  obtain ⟨SB3,hp3,hs3,hF3⟩:=(hh.out _ _).step hd3
  have hx3:=hF3.cells (hxb.out _ _) (fun e=>by have:=hltB.out _ e;omega)
  have hy3:=hF3.cells (hyb.out _ _) (fun e=>by have:=hltB.out _ e;omega)
  have x0:=cell_of_row w3 w.heap.size 0 _ _ _ hx3
  have x1:=cell_of_row w3 w.heap.size 1 _ _ _ hx3
  have x2:=cell_of_row w3 w.heap.size 2 _ _ _ hx3
  have y0:=cell_of_row w3 (w.heap.size + 1) 0 _ _ _ hy3
  have y1:=cell_of_row w3 (w.heap.size + 1) 1 _ _ _ hy3
  have y2:=cell_of_row w3 (w.heap.size + 1) 2 _ _ _ hy3
  simp at x0 x1 x2 y0 y1 y2
  have hz3:=hF3.size
  rw [hsz.out] at hz3
  have hp3':=Lib.hid hp3
  clear hd3 hp3 hs3 hF3 hx3 hy3
  go_wp2_with (go_at_call 136;refine (beside_any w3 SA base pA rawA a2 a1 b2 b1 t2 t1 m Y X hY'.out hX'.out hp3'.out.a hb1 (by omega)).mono ?_;rintro e w4 ⟨rfl,hd4⟩;have hdst4:=Lib.hid hd4;clear hd4)
  go_ret2
  exact ⟨rfl,Pst.from_ (hnew.out _ _) ((hh.out _ _).both hdst.out hdst4.out)⟩
end
end Go.Proofs.Ytidimannfemnmaa.P5
namespace Go.Proofs.Ytidimannfemnmaa.P5
open Go.RowKit
set_option maxRecDepth 20000
open Ltx (Pc)

def szS:List St→Nat
  | []=>0
  | s :: r=>s.size + szS r
theorem szS_trim:∀ l:List St,szS (trim l) = szS l
  | []=>rfl
  | s :: r=>by
    unfold trim
    split
    · rename_i h
      rw [szS_trim r,szS,h,Nat.zero_add]
    · rfl
theorem szS_cut (s:St) (r:List St) (m:Nat):szS (cutS (s :: r) m) = (s.size - m) + szS r:=by
  rw [cutS,szS_trim,szS,St.cut_size]
def Head (l:List St):Prop:=∀ s r,l = s :: r→s.size ≠ 0
theorem head_trim:∀ l:List St,Head (trim l)
  | []=>fun s r h=>by cases h
  | s :: r=>by
    unfold trim
    split
    · exact head_trim r
    · rename_i h
      intro s' r' e
      injection e with e1 _
      rw [← e1]
      exact h
theorem head_cut (l:List St) (m:Nat):Head (cutS l m):=by
  cases l with
  | nil=>exact fun s r h=>by cases h
  | cons s r=>exact head_trim _
theorem cut_zero (s:St):s.cut 0 = s:=by cases s <;> simp [St.cut]
theorem cutS_zero {l:List St} (h:Head l):cutS l 0 = l:=by
  cases l with
  | nil=>rfl
  | cons s r=>rw [cutS,cut_zero,trim,if_neg (h s r rfl)]
theorem look_cut (s:St) (r:List St) (m:Nat):Look (pcs (cutS (s :: r) m)) ((s.cut m).pc :: pcs r):=look_trim _
def isDrop:List St→Bool
  | .drop _ :: _=>true
  | _=>false
def isPut:List St→Bool
  | .put _ :: _=>true
  | _=>false
theorem front_S {l:List St} {m:Nat} (hp:isPut l = false) (hm:∀ s r,l = s :: r→m≤s.size):Front (pcs l) m (isDrop l) (pcs (cutS l m)):=by
  cases l with
  | nil=>exact front_nil m
  | cons s r =>
    have h:=hm s r rfl
    cases s with
    | keep n=>exact (front_keep (pcs r) h).look (look_cut (.keep n) r m).symm
    | drop n=>exact (front_drop (pcs r) h).look (look_cut (.drop n) r m).symm
    | put t=>cases hp
theorem put0_S {l:List St} (hp:isPut l = false) (hh:Head l):Ltx.putAt (pcs l) 0 = []:=by
  cases l with
  | nil=>rfl
  | cons s r =>
    have h:=hh s r rfl
    cases s with
    | keep n=>show Ltx.putAt (⟨n,0,[]⟩ :: pcs r) 0 = [];rw [pa_keep,if_pos (by have:n ≠ 0:=h;omega)]
    | drop n=>show Ltx.putAt (⟨0,n,[]⟩ :: pcs r) 0 = [];rw [pa_drop,if_pos (by have:n ≠ 0:=h;omega)]
    | put t=>cases hp
theorem ext_S {l:List St} (hp:isPut l = false) (hh:Head l) (hn:l ≠ []):Ltx.extent (pcs l) ≠ 0:=by
  cases l with
  | nil=>exact absurd rfl hn
  | cons s r =>
    have h:=hh s r rfl
    cases s with
    | keep n=>show Ltx.extent (⟨n,0,[]⟩ :: pcs r) ≠ 0;simp only [Ltx.extent];have:n ≠ 0:=h;omega
    | drop n=>show Ltx.extent (⟨0,n,[]⟩ :: pcs r) ≠ 0;simp only [Ltx.extent];have:n ≠ 0:=h;omega
    | put t=>cases hp
theorem isPut_iff {l:List St} (h:isPut l = true):∃ t r,l = .put t :: r:=by
  cases l with
  | nil=>cases h
  | cons s r=>cases s with
    | put t=>exact ⟨t,r,rfl⟩
    | keep n=>cases h
    | drop n=>cases h
structure TVal (prior:Bool) (TB TA:List Pc) (C:Nat) (sx sy:List St) (rawB rawA:List Pc):Prop where
  b:Eqv (rawB ++ docB prior (pcs sx) (pcs sy)) TB
  a:Eqv (rawA ++ docB (!prior) (pcs sy) (pcs sx)) TA
  cb:totP rawB + szS sx + szS sy≤C
  ca:totP rawA + szS sx + szS sy≤C
theorem TVal.x {prior:Bool} {TB TA:List Pc} {C:Nat} {t:List UInt8} {r sy:List St} {rawB rawA:List Pc} (h:TVal prior TB TA C (.put t :: r) sy rawB rawA) (hy:Head sy) (hg:prior = true∨isPut sy = false) :
    TVal prior TB TA C (cutS (.put t :: r) t.length) (cutS sy 0) (rawB ++ [⟨0,0,t⟩]) (rawA ++ [⟨t.length,0,[]⟩]):=by
  have hz:=szS_cut (.put t) r t.length
  have hl:Look (pcs (cutS (.put t :: r) t.length)) (pcs r):=(look_cut (.put t) r t.length).trans (look_zero _ _ (by simp [St.cut,St.size]))
  have hg2:prior = true∨Ltx.putAt (pcs sy) 0 = []:=hg.imp id (fun e=>put0_S e hy)
  obtain ⟨m1,m2⟩:=meet_put (t:=t) (r:=pcs r) hg2
  have h1:=h.b
  have h2:=h.a
  have h3:=h.cb
  have h4:=h.ca
  simp only [szS,St.size] at h3 h4 hz
  rw [cutS_zero hy]
  refine ⟨?_,?_,?_,?_⟩
  · rw [docB_look hl (Look.refl _),List.append_assoc]
    exact ((Eqv.refl rawB).app m1).symm.trans h1
  · rw [docB_look (Look.refl _) hl,List.append_assoc]
    exact ((Eqv.refl rawA).app m2).symm.trans h2
  · rw [totP_append,totP_one,hz];omega
  · rw [totP_append,totP_one,hz];simp only [List.length_nil];omega
theorem TVal.swap {prior:Bool} {TB TA:List Pc} {C:Nat} {sx sy:List St} {rawB rawA:List Pc} (h:TVal prior TB TA C sx sy rawB rawA):TVal (!prior) TA TB C sy sx rawA rawB :=
  ⟨h.a,by rw [Bool.not_not];exact h.b,by have:=h.ca;omega,by have:=h.cb;omega⟩
theorem TVal.both {prior:Bool} {TB TA:List Pc} {C m:Nat} {sx sy:List St} {rawB rawA:List Pc} (h:TVal prior TB TA C sx sy rawB rawA) (hx:Head sx) (hy:Head sy) (px:isPut sx = false) (py:isPut sy = false) (hm:0 < m) (mx:∀ s r,sx = s :: r→m≤s.size) (my:∀ s r,sy = s :: r→m≤s.size) (hn:sx ≠ []∨sy ≠ []) :
    TVal prior TB TA C (cutS sx m) (cutS sy m) (rawB ++ run (isDrop sx) (isDrop sy) m) (rawA ++ run (isDrop sy) (isDrop sx) m)∧szS (cutS sx m) + szS (cutS sy m) + m≤szS sx + szS sy:=by
  have fx:=front_S px mx
  have fy:=front_S py my
  have hne:Ltx.extent (pcs sx) ≠ 0∨Ltx.extent (pcs sy) ≠ 0:=hn.imp (ext_S px hx) (ext_S py hy)
  have e1:=meet_run (first:=prior) hm fx fy hne
  have e2:=meet_run (first:=!prior) hm fy fx hne.symm
  have hr:∀ A B,totP (run A B m)≤m:=fun A B=>by
    unfold run
    cases A <;> cases B <;> simp [totP,Ltx.extent,Ltx.puts]
  have hs:szS (cutS sx m) + szS (cutS sy m) + m≤szS sx + szS sy:=by
    have c:∀ l:List St,(∀ s r,l = s :: r→m≤s.size)→(l = []∧szS (cutS l m) = 0)∨szS (cutS l m) + m = szS l:=fun l hl=>by
      cases l with
      | nil=>exact .inl ⟨rfl,rfl⟩
      | cons s r =>
        have:=hl s r rfl
        rw [szS_cut,szS]
        exact .inr (by omega)
    rcases c sx mx with ⟨a1,a2⟩ | a1 <;> rcases c sy my with ⟨b1,b2⟩ | b1
    · rcases hn with e | e
      · exact absurd a1 e
      · exact absurd b1 e
    · omega
    · omega
    · omega
  refine ⟨⟨?_,?_,?_,?_⟩,hs⟩
  · rw [List.append_assoc]
    exact ((Eqv.refl rawB).app e1).symm.trans h.b
  · rw [List.append_assoc]
    exact ((Eqv.refl rawA).app e2).symm.trans h.a
  · have:=hr (isDrop sx) (isDrop sy)
    have:=h.cb
    rw [totP_append]
    omega
  · have:=hr (isDrop sy) (isDrop sx)
    have:=h.ca
    rw [totP_append]
    omega
section
variable {w:World} {SB SA:Nat→Prop} {base pB pA Q:Nat} {rawB rawA TB TA:List Pc} {prior:Bool} {sx sy:List St}
theorem tmeet_any (h:Pr w SB SA base pB pA rawB rawA) (hQ:w.heap[Q]? = some (.cells #[.bool prior] 4 (0,0))) (hv:TVal prior TB TA 200000 sx sy rawB rawA) (hx:Head sx) (hy:Head sy) (hn:sx ≠ []∨sy ≠ []) (hbase:base≤w.heap.size) :
    Calls Try.prog 135 #[stepV (headC sx),stepV (headC sy),.pointer (some ⟨Q,0,none⟩),.pointer (some ⟨pB,0,none⟩),.pointer (some ⟨pA,0,none⟩)] w fun e w' =>
      ∃ (n m:Nat) (rawB' rawA':List Pc),e = .returned (.tuple #[.int .i64 (n:Int),.int .i64 (m:Int)])∧Pst w w' SB SA base pB pA rawB' rawA'∧TVal prior TB TA 200000 (cutS sx n) (cutS sy m) rawB' rawA' ∧
        (∀ s r,sx = s :: r→n≤s.size)∧(∀ s r,sy = s :: r→m≤s.size)∧szS (cutS sx n) + szS (cutS sy m) < szS sx + szS sy∧n≤200000∧m≤200000:=by
  have hcb:=hv.cb
  have hca:=hv.ca
  by_cases c1:isPut sx = true∧(prior = true∨isPut sy = false)
  · obtain ⟨p1,p2⟩:=c1
    obtain ⟨t,r,rfl⟩:=isPut_iff p1
    have ht0:t.length ≠ 0:=hx _ _ rfl
    simp only [szS,St.size] at hcb hca
    have hyc:∃ (a2 b2:Int) (t2:List UInt8),headC sy = [.int .u8 a2,.int .i64 b2,.string ⟨t2.toArray⟩]∧(prior = true∨a2 ≠ 2):=by
      cases sy with
      | nil=>exact ⟨_,_,[],rfl,.inr (by decide)⟩
      | cons s r'=>cases s with
        | keep n=>exact ⟨_,_,_,rfl,.inr (show (1:Int) ≠ 2 by decide)⟩
        | drop n=>exact ⟨_,_,_,rfl,.inr (show (3:Int) ≠ 2 by decide)⟩
        | put t'=>exact ⟨_,_,_,rfl,.inl (p2.resolve_right (by simp [isPut]))⟩
    obtain ⟨a2,b2,t2,e2,hg⟩:=hyc
    rw [show stepV (headC (.put t :: r)) = .agg #[.int .u8 2,.int .i64 (t.length:Int),.string ⟨t.toArray⟩] from rfl,show stepV (headC sy) = .agg #[.int .u8 a2,.int .i64 b2,.string ⟨t2.toArray⟩] by rw [e2];rfl]
    refine (tmeet_x h hQ t a2 b2 t2 hg (by omega) (by omega) hbase).mono ?_
    rintro e w' ⟨rfl,hp⟩
    refine ⟨t.length,0,_,_,rfl,hp,hv.x hy p2,(fun s r e=>by injection e with e _;rw [← e];exact Nat.le_refl _),(fun s r _=>Nat.zero_le _),?_,by omega,by omega⟩
    rw [szS_cut,cutS_zero hy]
    simp only [szS,St.size]
    omega
  · by_cases c2:isPut sy = true
    · have hg:(!prior) = true∨isPut sx = false:=by
        cases hpx:isPut sx with
        | false=>exact .inr rfl
        | true =>
          left
          cases prior with
          | true=>exact absurd ⟨hpx,.inl rfl⟩ c1
          | false=>rfl
      obtain ⟨t,r,rfl⟩:=isPut_iff c2
      have ht0:t.length ≠ 0:=hy _ _ rfl
      simp only [szS,St.size] at hcb hca
      have hxc:∃ (a1 b1:Int) (t1:List UInt8),headC sx = [.int .u8 a1,.int .i64 b1,.string ⟨t1.toArray⟩]∧(prior = false∨a1 ≠ 2):=by
        cases sx with
        | nil=>exact ⟨_,_,[],rfl,.inr (by decide)⟩
        | cons s r'=>cases s with
          | keep n=>exact ⟨_,_,_,rfl,.inr (show (1:Int) ≠ 2 by decide)⟩
          | drop n=>exact ⟨_,_,_,rfl,.inr (show (3:Int) ≠ 2 by decide)⟩
          | put t'=>exact ⟨_,_,_,rfl,.inl (by have:=hg.resolve_right (by simp [isPut]);simpa using this)⟩
      obtain ⟨a1,b1,t1,e1,hg1⟩:=hxc
      rw [show stepV (headC (.put t :: r)) = .agg #[.int .u8 2,.int .i64 (t.length:Int),.string ⟨t.toArray⟩] from rfl,show stepV (headC sx) = .agg #[.int .u8 a1,.int .i64 b1,.string ⟨t1.toArray⟩] by rw [e1];rfl]
      refine (tmeet_y h hQ t a1 b1 t1 hg1 (by omega) (by omega) hbase).mono ?_
      rintro e w' ⟨rfl,hp⟩
      have hv2:=(hv.swap.x hx hg).swap
      rw [Bool.not_not] at hv2
      refine ⟨0,t.length,_,_,rfl,hp,hv2,(fun s r _=>Nat.zero_le _),(fun s r e=>by injection e with e _;rw [← e];exact Nat.le_refl _),?_,by omega,by omega⟩
      rw [szS_cut,cutS_zero hx]
      simp only [szS,St.size]
      omega
    · have py:isPut sy = false:=by simpa using c2
      have px:isPut sx = false:=by
        cases hpx:isPut sx with
        | false=>rfl
        | true=>exact absurd ⟨hpx,.inr py⟩ c1
      have code:∀ l:List St,isPut l = false→szS l≤200000→∃ (a b:Int) (t:List UInt8),headC l = [.int .u8 a,.int .i64 b,.string ⟨t.toArray⟩]∧a ≠ 2∧isDrop l = decide (a = 3)∧((l = []∧b = 9223372036854775807)∨∃ s r,l = s :: r∧b = (s.size:Int)∧s.size≤200000):=fun l hl hs=>by
        cases l with
        | nil=>exact ⟨_,_,[],rfl,by decide,rfl,.inl ⟨rfl,rfl⟩⟩
        | cons s r =>
          simp only [szS] at hs
          cases s with
          | keep n=>exact ⟨_,_,_,rfl,(show (1:Int) ≠ 2 by decide),rfl,.inr ⟨_,_,rfl,rfl,by omega⟩⟩
          | drop n=>exact ⟨_,_,_,rfl,(show (3:Int) ≠ 2 by decide),rfl,.inr ⟨_,_,rfl,rfl,by omega⟩⟩
          | put t=>cases hl
      obtain ⟨a1,b1,t1,e1,n1,d1,s1⟩:=code sx px (by omega)
      obtain ⟨a2,b2,t2,e2,n2,d2,s2⟩:=code sy py (by omega)
      obtain ⟨m,hm0,hmm,mx,my,hmC⟩:∃ m:Nat,0 < m∧min b1 b2 = (m:Int)∧(∀ s r,sx = s :: r→m≤s.size)∧(∀ s r,sy = s :: r→m≤s.size)∧m≤200000:=by
        rcases s1 with ⟨rfl,rfl⟩ | ⟨u,r,rfl,rfl,hu⟩ <;> rcases s2 with ⟨rfl,rfl⟩ | ⟨u2,r2,rfl,rfl,hu2⟩
        · rcases hn with e | e <;> exact absurd rfl e
        · have:=hy _ _ rfl
          exact ⟨u2.size,by omega,by omega,(fun s r e=>by cases e),(fun s r e=>by injection e with e _;rw [← e];exact Nat.le_refl _),hu2⟩
        · have:=hx _ _ rfl
          exact ⟨u.size,by omega,by omega,(fun s r e=>by injection e with e _;rw [← e];exact Nat.le_refl _),(fun s r e=>by cases e),hu⟩
        · have:=hx _ _ rfl
          have:=hy _ _ rfl
          exact ⟨min u.size u2.size,by omega,by omega,(fun s r e=>by injection e with e _;rw [← e];omega),(fun s r e=>by injection e with e _;rw [← e];omega),by omega⟩
      obtain ⟨hv2,hsz⟩:=hv.both hx hy px py hm0 mx my hn
      rw [show stepV (headC sx) = .agg #[.int .u8 a1,.int .i64 b1,.string ⟨t1.toArray⟩] by rw [e1];rfl,show stepV (headC sy) = .agg #[.int .u8 a2,.int .i64 b2,.string ⟨t2.toArray⟩] by rw [e2];rfl]
      refine (tmeet_both h a1 b1 a2 b2 t1 t2 m _ _ d1 d2 n1 n2 hmm (by omega) (by omega) hbase).mono ?_
      rintro e w' ⟨rfl,hp⟩
      exact ⟨m,m,_,_,rfl,hp,hv2,mx,my,by omega,hmC,hmC⟩
end
end Go.Proofs.Ytidimannfemnmaa.P5
namespace Go.Proofs.Ytidimannfemnmaa.P5
open Go.RowKit
set_option maxRecDepth 20000
open Ltx (Pc)

theorem szS_mem:∀ {l:List St} {s:St},s ∈ l→s.size≤szS l
  | a :: r,s,h=>by
    rcases List.mem_cons.1 h with rfl | h
    · rw [szS];omega
    · have:=szS_mem h;rw [szS];omega
theorem szS_row:∀ l:List Pc,szS (rowS l) = totP l
  | []=>rfl
  | p :: r=>by
    have:=szS_row r
    have e:rowS (p :: r) = .keep p.keep :: .put p.put :: .drop p.drop :: rowS r:=rfl
    rw [e,szS,szS,szS,this]
    simp only [St.size,totP,Ltx.extent,Ltx.puts]
    omega
theorem szS_cut0 (l:List St):szS (cutS l 0) = szS l:=by
  cases l with
  | nil=>rfl
  | cons s r=>rw [szS_cut,szS,Nat.sub_zero]
theorem look_cut0 (l:List Pc):Look (pcs (cutS (rowS l) 0)) l:=by
  have h:Look (pcs (cutS (rowS l) 0)) (pcs (rowS l)):=by
    cases rowS l with
    | nil=>exact Look.refl _
    | cons s r=>have:=look_cut s r 0;rw [cut_zero] at this;exact this
  rw [pcs_row] at h
  exact h.trans (look_prim l)
theorem headC_form (l:List St):∃ (a b:Int) (t:List UInt8),headC l = [.int .u8 a,.int .i64 b,.string ⟨t.toArray⟩]∧(l = []→a = 4)∧(l ≠ []→¬ a = 4):=by
  cases l with
  | nil=>exact ⟨_,_,[],rfl,fun _=>rfl,fun h=>absurd rfl h⟩
  | cons s r=>cases s with
    | keep n=>exact ⟨_,_,_,rfl,(fun h=>by cases h),fun _=>show ¬ (1:Int) = 4 by decide⟩
    | put t=>exact ⟨_,_,_,rfl,(fun h=>by cases h),fun _=>show ¬ (2:Int) = 4 by decide⟩
    | drop n=>exact ⟨_,_,_,rfl,(fun h=>by cases h),fun _=>show ¬ (3:Int) = 4 by decide⟩
theorem RowAt.low {w:World} {S:Nat→Prop} {base b2 P:Nat} {sts:List St} (h:RowAt w S base P sts) (hb:b2≤base):RowAt w S b2 P sts :=
  ⟨fun k hk=>⟨by have:=(h.own k hk).1;omega,(h.own k hk).2⟩,h.here,h.dat⟩
structure Meets (F:Nat) (fv:Array Value) (b0:Nat) (J:World→(Nat→Prop)→List St→List St→Prop):Prop where
  fn:∀ (args:Array Value) (w:World),Sem.run Try.prog (callFunc F args) w = .ok (.enter F args) w
  lt:∀ {w S x y},J w S x y→∀ k,S k→k < w.heap.size
  kept:∀ {w w':World} {S x y},J w S x y→w.heap.size≤w'.heap.size→(∀ k,S k→w'.heap[k]? = w.heap[k]?)→J w' S x y
  sz:∀ {w S x y},J w S x y→szS x + szS y≤200000
  call:∀ {w S x y},J w S x y→Head x→Head y→(x ≠ []∨y ≠ [])→b0≤w.heap.size →
    Calls Try.prog F (#[stepV (headC x),stepV (headC y)] ++ fv) w fun e w'=>∃ (n m:Nat) (S':Nat→Prop),e = .returned (.tuple #[.int .i64 (n:Int),.int .i64 (m:Int)])∧J w' S' (cutS x n) (cutS y m)∧(∀ k,S' k→S k∨w.heap.size≤k)∧FrX S w w' ∧
      (∀ s r,x = s :: r→n≤s.size)∧(∀ s r,y = s :: r→m≤s.size)∧szS (cutS x n) + szS (cutS y m) < szS x + szS y∧n≤200000∧m≤200000
def Mem (w wr:World) (S0:Nat→Prop) (J:World→(Nat→Prop)→List St→List St→Prop) (P1 P2:Nat) (sx sy tx ty:List St):Prop :=
  ∃ S1 S2 S,RowAt wr S1 w.heap.size P1 sx∧RowAt wr S2 w.heap.size P2 sy∧J wr S tx ty∧(∀ k,S1 k→¬ S2 k∧¬ S k)∧(∀ k,S2 k→¬ S k)∧(∀ k,S k→S0 k∨w.heap.size≤k)∧FrX S0 w wr
section
variable {w wr w':World} {S0:Nat→Prop} {J:World→(Nat→Prop)→List St→List St→Prop} {F b0 P1 P2:Nat} {fv:Array Value} {sx sy tx ty:List St}
theorem Mem.fr (h:Mem w wr S0 J P1 P2 sx sy tx ty):FrX S0 w wr:=by
  obtain ⟨_,_,_,_,_,_,_,_,_,f⟩:=h
  exact f
theorem Mem.ow (h:Mem w wr S0 J P1 P2 sx sy tx ty):∃ S,J wr S tx ty∧(∀ k,S k→S0 k∨w.heap.size≤k):=by
  obtain ⟨_,_,S,_,_,p,_,_,i,_⟩:=h
  exact ⟨S,p,i⟩
theorem Mem.below (hM:Meets F fv b0 J) (h:Mem w wr S0 J P1 P2 sx sy tx ty) (hb:Below wr.heap.size wr w'):Mem w w' S0 J P1 P2 sx sy tx ty:=by
  obtain ⟨S1,S2,S,r1,r2,p,d1,d2,i1,f⟩:=h
  exact ⟨S1,S2,S,r1.below hb,r2.below hb,hM.kept p hb.size (fun k hk=>hb.block k (hM.lt p k hk)),d1,d2,i1,f.trans (FrX.of_below (S:=S0) hb) fun k hk=>.inl hk⟩
theorem Mem.cut1 (hM:Meets F fv b0 J) (h:Mem w wr S0 J P1 P2 sx sy tx ty) (m:Nat) (hm:∀ s r,sx = s :: r→m≤s.size) (hz:∀ s ∈ sx,s.size≤1000000000) :
    Calls Try.prog 173 #[.int .i64 (m:Int),.pointer (some ⟨P1,0,none⟩)] wr fun e w'=>e = .returned (stepV (headC (cutS sx m)))∧Mem w w' S0 J P1 P2 (cutS sx m) sy tx ty:=by
  obtain ⟨S1,S2,S,r1,r2,p,d1,d2,i1,f⟩:=h
  refine (cut_any wr S1 w.heap.size P1 sx m r1 (fun s r e=>⟨hm s r e,hz s (by rw [e];exact List.mem_cons_self)⟩) hz).mono ?_
  rintro e w1 ⟨he,q1,f1⟩
  exact ⟨he,S1,S2,S,q1,r2.kept f1.size fun k hk=>f1.block k (r2.own k hk).2 (fun e=>(d1 k e).1 hk),hM.kept p f1.size (fun k hk=>f1.block k (hM.lt p k hk) (fun e=>(d1 k e).2 hk)),d1,d2,i1,f.trans f1 fun k hk=>.inr (r1.own k hk).1⟩
theorem Mem.cut2 (hM:Meets F fv b0 J) (h:Mem w wr S0 J P1 P2 sx sy tx ty) (m:Nat) (hm:∀ s r,sy = s :: r→m≤s.size) (hz:∀ s ∈ sy,s.size≤1000000000) :
    Calls Try.prog 173 #[.int .i64 (m:Int),.pointer (some ⟨P2,0,none⟩)] wr fun e w'=>e = .returned (stepV (headC (cutS sy m)))∧Mem w w' S0 J P1 P2 sx (cutS sy m) tx ty:=by
  obtain ⟨S1,S2,S,r1,r2,p,d1,d2,i1,f⟩:=h
  refine (cut_any wr S2 w.heap.size P2 sy m r2 (fun s r e=>⟨hm s r e,hz s (by rw [e];exact List.mem_cons_self)⟩) hz).mono ?_
  rintro e w1 ⟨he,q1,f1⟩
  exact ⟨he,S1,S2,S,r1.kept f1.size fun k hk=>f1.block k (r1.own k hk).2 (fun e=>(d1 k hk).1 e),q1,hM.kept p f1.size (fun k hk=>f1.block k (hM.lt p k hk) (fun e=>d2 k e hk)),d1,d2,i1,f.trans f1 fun k hk=>.inr (r2.own k hk).1⟩
theorem Mem.meet (hM:Meets F fv b0 J) (h:Mem w wr S0 J P1 P2 sx sy tx ty) (hx:Head tx) (hy:Head ty) (hn:tx ≠ []∨ty ≠ []) (hb:b0≤w.heap.size) :
    Calls Try.prog F (#[stepV (headC tx),stepV (headC ty)] ++ fv) wr fun e w'=>∃ (n m:Nat),e = .returned (.tuple #[.int .i64 (n:Int),.int .i64 (m:Int)])∧Mem w w' S0 J P1 P2 sx sy (cutS tx n) (cutS ty m) ∧
      (∀ s r,tx = s :: r→n≤s.size)∧(∀ s r,ty = s :: r→m≤s.size)∧szS (cutS tx n) + szS (cutS ty m) < szS tx + szS ty∧n≤200000∧m≤200000:=by
  obtain ⟨S1,S2,S,r1,r2,p,d1,d2,i1,f⟩:=h
  refine (hM.call p hx hy hn (by have:=f.size;omega)).mono ?_
  rintro e w1 ⟨n,m,S',he,q,hs,f1,rest⟩
  refine ⟨n,m,he,⟨S1,S2,S',r1.kept f1.size fun k hk=>f1.block k (r1.own k hk).2 (fun e=>(d1 k hk).2 e),r2.kept f1.size fun k hk=>f1.block k (r2.own k hk).2 (fun e=>d2 k hk e),q,fun k hk=>⟨(d1 k hk).1,fun e=>?_⟩,fun k hk e=>?_,fun k hk=>?_,f.trans f1 fun k hk=>i1 k hk⟩,rest⟩
  · rcases hs k e with e | e
    · exact (d1 k hk).2 e
    · have:=(r1.own k hk).2;omega
  · rcases hs k e with e | e
    · exact d2 k hk e
    · have:=(r2.own k hk).2;omega
  · rcases hs k hk with e | e
    · exact i1 k e
    · exact .inr (by have:=f.size;omega)
end
end Go.Proofs.Ytidimannfemnmaa.P5
namespace Go.Proofs.Ytidimannfemnmaa.P5
open Go.RowKit
set_option maxRecDepth 20000
open Ltx (Pc)
set_option maxHeartbeats 2000000 in
theorem along_any (w:World) (S0:Nat→Prop) (A B:Option Addr) (n c m k:Nat) (la lb:List Pc) (ha:PcsIn w A n (la.map ipc)) (hb:PcsIn w B m (lb.map ipc)) (hn:n≤100000) (hm:m≤100000) (hsa:totP la≤100000) (hsb:totP lb≤100000)
    (F b0:Nat) (fv:Array Value) (J:World→(Nat→Prop)→List St→List St→Prop) (hM:Meets F fv b0 J) (h0:J w S0 (cutS (rowS (Ltx.norm la)) 0) (cutS (rowS (Ltx.norm lb)) 0)) (hb0:b0≤w.heap.size) :
    Calls Try.prog 68 #[.slice A n c,.slice B m k,.func (.func F) #[] fv] w fun e w'=>∃ S,e = .returned (.tuple #[])∧J w' S [] []∧(∀ k,S k→S0 k∨w.heap.size≤k)∧FrX S0 w w':=by
  have hta:=Nat.le_trans (totP_norm la) hsa
  have htb:=Nat.le_trans (totP_norm lb) hsb
  have hna:=Nat.le_trans (normal_tot (Ltx.norm_normal la)) hta
  have hnb:=Nat.le_trans (normal_tot (Ltx.norm_normal lb)) htb
  have ha':=Lib.hid ha
  have hb':=Lib.hid hb
  have hM':=Lib.hid hM
  have h0':=Lib.hid h0
  have hb0':=Lib.hid hb0
  have hnm:n≤maxLen:=by unfold maxLen;omega
  have hmm:m≤maxLen:=by unfold maxLen;omega
  clear ha hb hM h0 hb0
  go_enter Try.func68,Try.ntmps68
  go_wp2_with fail
  refine wp_scope_jumps 0 (fun a' w'=>(∃ S,J w' S [] []∧(∀ k,S k→S0 k∨w.heap.size≤k)∧FrX S0 w w')∧a'.defers = []) (fun _ _=>0) rfl ?_ ?_
  · go_wp2_with fail
    refine (normal_any w A n c la ha'.out hnm hsa).mono ?_
    rintro e w1 ⟨v1,rfl,hv1,hb1⟩
    obtain ⟨A1,n1,k1,rfl,hn1,-,-,hP1,-⟩:=hv1.shape (low_of (by omega))
    have hn1':n1≤100000:=by omega
    have hP1':=Lib.hid hP1
    have hb1':=Lib.hid hb1
    clear hv1 hn1 hP1 hb1
    go_wp2_with fail
    refine (row_any w1 A1 n1 k1 (Ltx.norm la) hP1'.out hn1').mono ?_
    rintro e w2 ⟨P1,S1,rfl,hR1,hb2⟩
    have hR1':=Lib.hid hR1
    have hb2':=Lib.hid hb2
    clear hR1 hb2
    go_wp2_with fail
    refine (normal_any w2 B m k lb ((hb'.out.below hb1'.out).below hb2'.out) hmm hsb).mono ?_
    rintro e w3 ⟨v3,rfl,hv3,hb3⟩
    obtain ⟨A3,n3,k3,rfl,hn3,-,-,hP3,-⟩:=hv3.shape (low_of (by omega))
    have hn3':n3≤100000:=by omega
    have hP3':=Lib.hid hP3
    have hb3':=Lib.hid hb3
    clear hv3 hn3 hP3 hb3
    go_wp2_with fail
    refine (row_any w3 A3 n3 k3 (Ltx.norm lb) hP3'.out hn3').mono ?_
    rintro e w4 ⟨P2,S2,rfl,hR2,hb4⟩
    have hR2':=Lib.hid hR2
    have hb4':=Lib.hid hb4
    clear hR2 hb4
    go_wp2_with fail
    have hMem:=Lib.hid (show Mem w w4 S0 J P1 P2 (rowS (Ltx.norm la)) (rowS (Ltx.norm lb)) (cutS (rowS (Ltx.norm la)) 0) (cutS (rowS (Ltx.norm lb)) 0) from by
      have s1:=hb1'.out.size
      have s2:=hb2'.out.size
      have s3:=hb3'.out.size
      have s4:=hb4'.out.size
      have b1:Below w.heap.size w w4:=((hb1'.out.trans (hb2'.out.mono s1)).trans (hb3'.out.mono (by omega))).trans (hb4'.out.mono (by omega))
      have b2:Below w2.heap.size w2 w4:=hb3'.out.trans (hb4'.out.mono s3)
      refine ⟨S1,S2,S0,(hR1'.out.below b2).low s1,hR2'.out.low (by omega),hM'.out.kept h0'.out b1.size (fun k hk=>b1.block k (hM'.out.lt h0'.out k hk)),fun k hk=>⟨fun e=>?_,fun e=>?_⟩,fun k hk e=>?_,fun k hk=>.inl hk,FrX.of_below b1⟩
      · have:=(hR1'.out.own k hk).2
        have:=(hR2'.out.own k e).1
        omega
      · have:=(hR1'.out.own k hk).1
        have:=hM'.out.lt h0'.out k e
        omega
      · have:=(hR2'.out.own k hk).1
        have:=hM'.out.lt h0'.out k e
        omega)
    clear hta htb hna hnb hn1' hn3' hnm hmm
    go_loopg [8,9] (szS (cutS (rowS (Ltx.norm la)) 0) + szS (cutS (rowS (Ltx.norm lb)) 0)) (fun gk d1 d2 wr=>∃ (sx sy:List St) (dA dB:Nat),d1 = .int .i64 (dA:Int)∧d2 = .int .i64 (dB:Int)∧Mem w wr S0 J P1 P2 sx sy (cutS sx dA) (cutS sy dB)∧(∀ s r,sx = s :: r→dA≤s.size)∧(∀ s r,sy = s :: r→dB≤s.size)∧(∀ s ∈ sx,s.size≤1000000000)∧(∀ s ∈ sy,s.size≤1000000000)∧gk = szS (cutS sx dA) + szS (cutS sy dB)∧dA≤200000∧dB≤200000)
    case atStart =>
      have hz:=hM'.out.sz h0'.out
      rw [szS_cut0,szS_cut0] at hz
      exact ⟨_,_,0,0,rfl,rfl,hMem.out,fun s r _=>Nat.zero_le _,fun s r _=>Nat.zero_le _,(fun s hs=>by have:=szS_mem hs;omega),(fun s hs=>by have:=szS_mem hs;omega),rfl,Nat.zero_le _,Nat.zero_le _⟩
    case round =>
      obtain ⟨sx,sy,dA,dB,rfl,rfl,hm,hdx,hdy,hzx,hzy,hgk,hdA,hdB⟩:=hrel
      have hm':=Lib.hid hm
      have hdx':=Lib.hid hdx
      have hdy':=Lib.hid hdy
      have hzx':=Lib.hid hzx
      have hzy':=Lib.hid hzy
      have hgk':=Lib.hid hgk
      clear hm hdx hdy hzx hzy hgk
      go_wp2_with fail
      refine (hm'.out.cut1 hM'.out dA hdx'.out hzx'.out).mono ?_
      rintro e w5 ⟨rfl,hm5⟩
      have hm5':=Lib.hid hm5
      clear hm5
      go_wp2_with fail
      refine (hm5'.out.cut2 hM'.out dB hdy'.out hzy'.out).mono ?_
      rintro e w6 ⟨rfl,hm6⟩
      have hm6':=Lib.hid hm6
      clear hm6
      obtain ⟨x,hx⟩:∃ x,x = cutS sx dA:=⟨_,rfl⟩
      obtain ⟨y,hy⟩:∃ y,y = cutS sy dB:=⟨_,rfl⟩
      rw [← hx,← hy] at hm6'
      rw [← hx,← hy] at hgk'
      rw [← hx,← hy]
      have hhx:=Lib.hid (show Head x by rw [hx];exact head_cut sx dA)
      have hhy:=Lib.hid (show Head y by rw [hy];exact head_cut sy dB)
      obtain ⟨a1,b1,t1,e1,n1x,n1y⟩:=headC_form x
      obtain ⟨a2,b2,t2,e2,n2x,n2y⟩:=headC_form y
      have e1':=Lib.hid e1
      have e2':=Lib.hid e2
      rw [show stepV (headC x) = .agg #[.int .u8 a1,.int .i64 b1,.string ⟨t1.toArray⟩] by rw [e1];rfl,show stepV (headC y) = .agg #[.int .u8 a2,.int .i64 b2,.string ⟨t2.toArray⟩] by rw [e2];rfl]
      clear hx hy e1 e2
      by_cases hx0:x = []
      · by_cases hy0:y = []
        · obtain rfl:a1 = 4:=n1x hx0
          obtain rfl:a2 = 4:=n2x hy0
          have hend:=Lib.hid (show ∃ S,J w6 S [] []∧(∀ k,S k→S0 k∨w.heap.size≤k)∧FrX S0 w w6 from by
            obtain ⟨S,hJ,hS⟩:=hm6'.out.ow
            rw [hx0,hy0] at hJ
            exact ⟨S,hJ,hS,hm6'.out.fr⟩)
          clear n1x n1y n2x n2y hx0 hy0
          go_wp2_with fail
          try go_step3
          obtain ⟨S,hJ,hS,hF⟩:=hend.out
          exact ⟨rfl,⟨S,hM'.out.kept hJ (new2 _ _).size (fun k hk=>(new2 _ _).block k (hM'.out.lt hJ k hk)),hS,(hF.alloc _).alloc _⟩,rfl⟩
        · obtain rfl:a1 = 4:=n1x hx0
          have h4:¬ a2 = 4:=n2y hy0
          have hne:=Lib.hid (show x ≠ []∨y ≠ [] from .inr hy0)
          clear n1x hx0 hy0
          clear n1y n2x n2y
          go_wp2_with fail
          rw [show (.agg #[.int .u8 4,.int .i64 b1,.string ⟨t1.toArray⟩]:Value) = stepV (headC x) by rw [e1'.out];rfl,show (.agg #[.int .u8 a2,.int .i64 b2,.string ⟨t2.toArray⟩]:Value) = stepV (headC y) by rw [e2'.out];rfl]
          rw [hM'.out.fn,Oper.upon_enter]
          refine ((hm6'.out.below hM'.out (new2 _ _)).meet hM'.out hhx.out hhy.out hne.out hb0'.out).mono ?_
          rintro e w8 ⟨q1,q2,rfl,hm8,hq1,hq2,hlt,hl1,hl2⟩
          have hm8':=Lib.hid hm8
          have hq1':=Lib.hid hq1
          have hq2':=Lib.hid hq2
          have hlt':=Lib.hid hlt
          clear hm8 hq1 hq2 hlt
          go_wp2_with fail
          go_roundg (szS (cutS x q1) + szS (cutS y q2))
          case measure=>have:=hlt'.out;have:=hgk'.out;omega
          case rel =>
            have hz:=hm6'.out.ow
            obtain ⟨S,hJ,_⟩:=hz
            have hz:=hM'.out.sz hJ
            exact ⟨x,y,q1,q2,rfl,rfl,hm8'.out,hq1'.out,hq2'.out,(fun s hs=>by have:=szS_mem hs;omega),(fun s hs=>by have:=szS_mem hs;omega),rfl,hl1,hl2⟩
      · have h4:¬ a1 = 4:=n1y hx0
        have hne:=Lib.hid (show x ≠ []∨y ≠ [] from .inl hx0)
        clear hx0
        clear n1x n1y n2x n2y
        go_wp2_with fail
        rw [show (.agg #[.int .u8 a1,.int .i64 b1,.string ⟨t1.toArray⟩]:Value) = stepV (headC x) by rw [e1'.out];rfl,show (.agg #[.int .u8 a2,.int .i64 b2,.string ⟨t2.toArray⟩]:Value) = stepV (headC y) by rw [e2'.out];rfl]
        rw [hM'.out.fn,Oper.upon_enter]
        refine ((hm6'.out.below hM'.out (new2 _ _)).meet hM'.out hhx.out hhy.out hne.out hb0'.out).mono ?_
        rintro e w8 ⟨q1,q2,rfl,hm8,hq1,hq2,hlt,hl1,hl2⟩
        have hm8':=Lib.hid hm8
        have hq1':=Lib.hid hq1
        have hq2':=Lib.hid hq2
        have hlt':=Lib.hid hlt
        clear hm8 hq1 hq2 hlt
        go_wp2_with fail
        go_roundg (szS (cutS x q1) + szS (cutS y q2))
        case measure=>have:=hlt'.out;have:=hgk'.out;omega
        case rel =>
          have hz:=hm6'.out.ow
          obtain ⟨S,hJ,_⟩:=hz
          have hz:=hM'.out.sz hJ
          exact ⟨x,y,q1,q2,rfl,rfl,hm8'.out,hq1'.out,hq2'.out,(fun s hs=>by have:=szS_mem hs;omega),(fun s hs=>by have:=szS_mem hs;omega),rfl,hl1,hl2⟩
  · rintro a' w' ⟨⟨S,h1,h2,h3⟩,h4⟩
    obtain ⟨tm,df⟩:=a'
    simp only at h4
    subst h4
    go_wp2_with fail
    simp only [Exit.jump]
    exact bodyPost_end (results_none rfl _ _ _) rfl ⟨S,rfl,h1,h2,h3⟩
end Go.Proofs.Ytidimannfemnmaa.P5
namespace Go.Proofs.Ytidimannfemnmaa.P5
open Go.RowKit
set_option maxRecDepth 20000
open Ltx (Pc)

def JT (prior:Bool) (base Q pB pA:Nat) (TB TA:List Pc) (w:World) (S:Nat→Prop) (x y:List St):Prop :=
  ∃ SB SA rawB rawA,Pr w SB SA base pB pA rawB rawA∧w.heap[Q]? = some (.cells #[.bool prior] 4 (0,0))∧¬ SB Q∧¬ SA Q∧TVal prior TB TA 200000 x y rawB rawA∧∀ k,S k ↔ (SB k∨SA k∨k = Q)
theorem meetsT (prior:Bool) (base Q pB pA:Nat) (TB TA:List Pc):Meets 135 #[.pointer (some ⟨Q,0,none⟩),.pointer (some ⟨pB,0,none⟩),.pointer (some ⟨pA,0,none⟩)] base (JT prior base Q pB pA TB TA) where
  fn:=fun args w=>rfl
  lt:=by
    rintro w S x y ⟨SB,SA,rawB,rawA,hp,hQ,-,-,-,hS⟩ k hk
    rcases (hS k).1 hk with h | h | rfl
    · exact (hp.b.lt k h).2
    · exact (hp.a.lt k h).2
    · exact (Array.getElem?_eq_some_iff.1 hQ).1
  kept:=by
    rintro w w' S x y ⟨SB,SA,rawB,rawA,hp,hQ,q1,q2,hv,hS⟩ hs hk
    exact ⟨SB,SA,rawB,rawA,⟨hp.b.kept hs fun k h=>hk k ((hS k).2 (.inl h)),hp.a.kept hs fun k h=>hk k ((hS k).2 (.inr (.inl h))),hp.ap⟩,(hk Q ((hS Q).2 (.inr (.inr rfl)))).trans hQ,q1,q2,hv,hS⟩
  sz:=by
    rintro w S x y ⟨SB,SA,rawB,rawA,hp,hQ,q1,q2,hv,hS⟩
    have:=hv.cb
    omega
  call:=by
    rintro w S x y ⟨SB,SA,rawB,rawA,hp,hQ,q1,q2,hv,hS⟩ hx hy hn hb
    refine (tmeet_any hp hQ hv hx hy hn hb).mono ?_
    rintro e w' ⟨n,m,rawB',rawA',he,⟨SB',SA',p',s1,s2,f'⟩,hv',r1,r2,r3,r4,r5⟩
    have hQl:=(Array.getElem?_eq_some_iff.1 hQ).1
    refine ⟨n,m,fun k=>SB' k∨SA' k∨k = Q,he,⟨SB',SA',rawB',rawA',p',(f'.block Q hQl (fun e=>by rcases e with e | e;exact q1 e;exact q2 e)).trans hQ,fun e=>?_,fun e=>?_,hv',fun k=>Iff.rfl⟩,fun k hk=>?_,f'.mono fun k _ hk=>(hS k).2 (by rcases hk with e | e;exact .inl e;exact .inr (.inl e)),r1,r2,r3,r4,r5⟩
    · rcases s1 Q e with e | e
      · exact q1 e
      · omega
    · rcases s2 Q e with e | e
      · exact q2 e
      · omega
    · rcases hk with e | e | e
      · rcases s1 k e with e | e
        · exact .inl ((hS k).2 (.inl e))
        · exact .inr e
      · rcases s2 k e with e | e
        · exact .inl ((hS k).2 (.inr (.inl e)))
        · exact .inr e
      · exact .inl ((hS k).2 (.inr (.inr e)))
theorem tval_start (prior:Bool) (la lb:List Pc) (ha:totP la≤100000) (hb:totP lb≤100000):TVal prior (docB prior la lb) (docB (!prior) lb la) 200000 (cutS (rowS la) 0) (cutS (rowS lb) 0) [] []:=by
  have e1:=szS_cut0 (rowS la)
  have e2:=szS_cut0 (rowS lb)
  rw [szS_row] at e1 e2
  have e3:totP ([]:List Pc) = 0:=rfl
  refine ⟨?_,?_,by omega,by omega⟩
  · rw [List.nil_append,docB_look (look_cut0 la) (look_cut0 lb)]
    exact Eqv.refl _
  · rw [List.nil_append,docB_look (look_cut0 lb) (look_cut0 la)]
    exact Eqv.refl _
set_option maxHeartbeats 2000000 in
theorem transform_ok (w:World) (A B:Option Addr) (n c m k:Nat) (la lb:List Pc) (prior:Bool) (ha:PcsIn w A n (la.map ipc)) (hb:PcsIn w B m (lb.map ipc)) (hn:n≤100000) (hm:m≤100000) (hsa:totP la≤2000) (hsb:totP lb≤2000)
    (hra:rightV (la.map ipc) = true) (hrb:rightV (lb.map ipc) = true) :
    Calls Try.prog 65 #[.slice A n c,.slice B m k,.bool prior] w fun e w'=>∃ v1 v2,e = .returned (.tuple #[v1,v2,.int .i64 0])∧OwnP w.heap.size w' v1 (Ltx.trans (Ltx.norm la) (Ltx.norm lb) prior)∧OwnP w.heap.size w' v2 (Ltx.trans (Ltx.norm lb) (Ltx.norm la) (!prior))∧Below w.heap.size w w':=by
  have hta:=Lib.hid (Nat.le_trans (totP_norm la) hsa)
  have htb:=Lib.hid (Nat.le_trans (totP_norm lb) hsb)
  have ha':=Lib.hid ha
  have hb':=Lib.hid hb
  have hra':=Lib.hid hra
  have hrb':=Lib.hid hrb
  have hnm:n≤maxLen:=by unfold maxLen;omega
  have hmm:m≤maxLen:=by unfold maxLen;omega
  clear ha hb hra hrb
  go_enter Try.func65,Try.ntmps65
  go_wp2_with fail
  have hq0:=Lib.hid (Go.heap_alloc_new w (.cells #[.bool prior] 4 (0,0)))
  have hbl0:=Lib.hid ((Below.refl w.heap.size w).alloc (Nat.le_refl _) (.cells #[.bool prior] 4 (0,0)))
  have hsz0:=Lib.hid (show (w.alloc (.cells #[.bool prior] 4 (0,0))).heap.size = w.heap.size + 1 by simp)
  generalize w.alloc (.cells #[.bool prior] 4 (0,0)) = w0 at hq0 hbl0 hsz0 ⊢
  have hr1:=right_any w0 A n c _ (ha'.out.below hbl0.out) hnm
  rw [hra'.out] at hr1
  refine hr1.mono ?_
  rintro e w1 ⟨rfl,hb1⟩
  have hb1':=Lib.hid hb1
  clear hb1 hr1
  go_wp2_with fail
  have hr2:=right_any w1 B m k _ ((hb'.out.below hbl0.out).below hb1'.out) hmm
  rw [hrb'.out] at hr2
  refine hr2.mono ?_
  rintro e w2 ⟨rfl,hb2⟩
  have hb2':=Lib.hid hb2
  clear hb2 hr2
  have hbl2:=Lib.hid (show Below w.heap.size w w2 from (hbl0.out.trans (hb1'.out.mono hbl0.out.size)).trans (hb2'.out.mono (by have:=hbl0.out.size;have:=hb1'.out.size;omega)))
  have hsz2:=Lib.hid (show w.heap.size < w2.heap.size by have:=hb1'.out.size;have:=hb2'.out.size;have:=hsz0.out;omega)
  have hq2:=Lib.hid (show w2.heap[w.heap.size]? = some (.cells #[.bool prior] 4 (0,0)) from (hb2'.out.block w.heap.size (by have:=hb1'.out.size;have:=hsz0.out;omega)).trans ((hb1'.out.block w.heap.size (by have:=hsz0.out;omega)).trans hq0.out))
  go_upto_region 4 with fail
  have hz2:∀ o,(w2.alloc o).heap.size = w2.heap.size + 1:=fun o=>by simp
  have hz2':=Lib.hid hz2
  have hPr:=Lib.hid (show Pr ((w2.alloc (.cells #[.slice none 0 0,.int .i64 0,.slice none 0 0,.int .i64 0] 95)).alloc (.cells #[.slice none 0 0,.int .i64 0,.slice none 0 0,.int .i64 0] 95)) (fun k=>k = w2.heap.size) (fun k=>k = w2.heap.size + 1) w.heap.size w2.heap.size (w2.heap.size + 1) [] [] from by
    have d1:=Drf.new (w:=w2) (base:=w.heap.size) (by have:=hsz2.out;omega)
    have d2:=Drf.new (w:=w2.alloc (.cells #[.slice none 0 0,.int .i64 0,.slice none 0 0,.int .i64 0] 95)) (base:=w.heap.size) (by rw [hz2];have:=hsz2.out;omega)
    rw [hz2] at d2
    exact ⟨d1.below ((Below.refl _ _).alloc (Nat.le_refl _) _),d2,fun k e1 e2=>by omega⟩)
  have hq3:=Lib.hid (show ((w2.alloc (.cells #[.slice none 0 0,.int .i64 0,.slice none 0 0,.int .i64 0] 95)).alloc (.cells #[.slice none 0 0,.int .i64 0,.slice none 0 0,.int .i64 0] 95)).heap[w.heap.size]? = some (.cells #[.bool prior] 4 (0,0)) from (Go.heap_alloc_old _ _ (by rw [hz2];have:=hsz2.out;omega)).trans ((Go.heap_alloc_old w2 _ hsz2.out).trans hq2.out))
  have hbl3:=Lib.hid (show Below w.heap.size w ((w2.alloc (.cells #[.slice none 0 0,.int .i64 0,.slice none 0 0,.int .i64 0] 95)).alloc (.cells #[.slice none 0 0,.int .i64 0,.slice none 0 0,.int .i64 0] 95)) from (hbl2.out.alloc (by have:=hsz2.out;omega) _).alloc (by rw [hz2];have:=hsz2.out;omega) _)
  have hsz3:=Lib.hid (show ((w2.alloc (.cells #[.slice none 0 0,.int .i64 0,.slice none 0 0,.int .i64 0] 95)).alloc (.cells #[.slice none 0 0,.int .i64 0,.slice none 0 0,.int .i64 0] 95)).heap.size = w2.heap.size + 2 by simp)
  clear hz2
  generalize (w2.alloc (.cells #[.slice none 0 0,.int .i64 0,.slice none 0 0,.int .i64 0] 95)).alloc (.cells #[.slice none 0 0,.int .i64 0,.slice none 0 0,.int .i64 0] 95) = w3 at hPr hq3 hbl3 hsz3 ⊢
  obtain ⟨z2,hz⟩:∃ z,z = w2.heap.size:=⟨_,rfl⟩
  rw [← hz] at hPr hsz3 hsz2
  rw [← hz]
  clear hz
  go_wp2_with fail
  refine (along_any w3 (fun j=>j = z2∨j = z2 + 1∨j = w.heap.size) A B n c m k la lb (ha'.out.below hbl3.out) (hb'.out.below hbl3.out) hn hm (by omega) (by omega) _ w.heap.size _ (JT prior w.heap.size w.heap.size z2 (z2 + 1) (docB prior (Ltx.norm la) (Ltx.norm lb)) (docB (!prior) (Ltx.norm lb) (Ltx.norm la))) (meetsT _ _ _ _ _ _ _) ?_ (by have:=hbl3.out.size;omega)).mono ?_
  · exact ⟨_,_,[],[],hPr.out,hq3.out,(fun e=>by have:=hsz2.out;omega),(fun e=>by have:=hsz2.out;omega),tval_start prior _ _ (by have:=hta.out;omega) (by have:=htb.out;omega),fun j=>Iff.rfl⟩
  rintro e w4 ⟨S,rfl,⟨SB,SA,rawB,rawA,hp,hQ,-,-,hv,hS⟩,hSs,hF⟩
  have hbl4:=Lib.hid (show Below w.heap.size w w4 from hbl3.out.trans (hF.below (fun j hj=>by have:=hsz2.out;omega) hbl3.out.size))
  have hN1:=Lib.hid (show Ltx.norm rawB = Ltx.trans (Ltx.norm la) (Ltx.norm lb) prior from by
    have h:=hv.b
    have h2:=(Eqv.refl rawB).app (docB_nil prior)
    rw [List.append_nil] at h2
    exact norm_eqv (h2.symm.trans h))
  have hN2:=Lib.hid (show Ltx.norm rawA = Ltx.trans (Ltx.norm lb) (Ltx.norm la) (!prior) from by
    have h:=hv.a
    have h2:=(Eqv.refl rawA).app (docB_nil (!prior))
    rw [List.append_nil] at h2
    exact norm_eqv (h2.symm.trans h))
  have hfB:=Lib.hid (show Ltx.Fine (Ltx.norm rawB) by rw [hN1.out];exact Ltx.trans_fine (n:=2000) (Nat.le_refl _) _ hta.out htb.out)
  have hfA:=Lib.hid (show Ltx.Fine (Ltx.norm rawA) by rw [hN2.out];exact Ltx.trans_fine (n:=2000) (Nat.le_refl _) _ htb.out hta.out)
  have hcB:=Lib.hid (show totP rawB≤200000 from by have:=hv.cb;omega)
  have hcA:=Lib.hid (show totP rawA≤200000 from by have:=hv.ca;omega)
  have hp':=Lib.hid hp
  clear hp hQ hv hS hSs hF
  go_wp2_with fail
  refine (dwhole_any hp'.out.b (by have:=hcB.out;omega) hbl4.out.size hfB.out).mono ?_
  rintro e w5 ⟨v1,rfl,hv1,hs1,hF5⟩
  have hl1:=low_of (l:=Ltx.norm rawB) (Nat.le_trans (totP_norm rawB) (by have:=hcB.out;omega))
  obtain ⟨A1,n1,k1,rfl,-,-,-,-,-⟩:=hv1.shape hl1
  have hv1':=Lib.hid hv1
  have hs1':=Lib.hid hs1
  have hF5':=Lib.hid hF5
  clear hv1 hs1 hF5 hl1
  go_wp2_with fail
  have hdA:=hp'.out.a.kept hF5'.out.size fun j hj=>hF5'.out.block j (hp'.out.a.lt j hj).2 (fun e=>hp'.out.ap j e hj)
  refine (dwhole_any hdA (by have:=hcA.out;omega) (by have:=hF5'.out.size;have:=hbl4.out.size;omega) hfA.out).mono ?_
  rintro e w6 ⟨v2,rfl,hv2,hs2,hF6⟩
  have hl2:=low_of (l:=Ltx.norm rawA) (Nat.le_trans (totP_norm rawA) (by have:=hcA.out;omega))
  obtain ⟨A2,n2,k2,rfl,-,-,-,-,-⟩:=hv2.shape hl2
  have hv2':=Lib.hid hv2
  have hF6':=Lib.hid hF6
  clear hv2 hs2 hF6 hl2 hdA
  go_wp2_with fail
  go_ret3
  refine ⟨_,_,rfl,?_,?_,?_⟩
  · rw [← hN1.out]
    refine own_kept hv1'.out fun j hj=>hF6'.out.block j ?_ fun e=>?_
    · exact (World.ownsRow.lt hv1'.out j hj).2
    · rcases hs1'.out j hj with h | h
      · exact hp'.out.ap j h e
      · have:=(hp'.out.a.lt j e).2
        omega
  · rw [← hN2.out]
    exact hv2'.out
  · have b5:=hbl4.out.trans (hF5'.out.below (B:=w.heap.size) (fun j hj=>(hp'.out.b.lt j hj).1) hbl4.out.size)
    exact b5.trans (hF6'.out.below (B:=w.heap.size) (fun j hj=>(hp'.out.a.lt j hj).1) b5.size)
end Go.Proofs.Ytidimannfemnmaa.P5
namespace Go.Proofs.Ytidimannfemnmaa.P5
open Ltx (Pc It applyP places)

def emitP:List It→List Pc→List It
  | _,[]=>[]
  | t,p :: r=>t.take p.keep ++ p.put.map It.new ++ emitP (t.drop (p.keep + p.drop)) r
theorem emitP_append:∀ (l m:List Pc) (t:List It),emitP t (l ++ m) = emitP t l ++ emitP (t.drop (Ltx.extent l)) m
  | [],m,t=>rfl
  | p :: r,m,t=>by
    rw [List.cons_append,emitP,emitP,emitP_append r m,List.drop_drop]
    have e:Ltx.extent (p :: r) = p.keep + p.drop + Ltx.extent r:=rfl
    rw [e]
    simp only [List.append_assoc]
theorem applyP_zero (s:St) (h:s.size = 0) (r:List Pc) (t:List It):applyP It.new t (s.pc :: r) = applyP It.new t r:=by
  cases s with
  | keep n=>obtain rfl:n = 0:=h;simp [applyP,St.pc]
  | put u=>obtain rfl:u = []:=List.length_eq_zero_iff.1 h;simp [applyP,St.pc]
  | drop n=>obtain rfl:n = 0:=h;simp [applyP,St.pc]
theorem applyP_trim:∀ (l:List St) (t:List It),applyP It.new t (pcs (trim l)) = applyP It.new t (pcs l)
  | [],t=>rfl
  | s :: r,t=>by
    unfold trim
    split
    · rename_i h
      rw [applyP_trim r]
      exact (applyP_zero s h (pcs r) t).symm
    · rfl
theorem ext_trim:∀ (l:List St),Ltx.extent (pcs (trim l)) = Ltx.extent (pcs l)
  | []=>rfl
  | s :: r=>by
    unfold trim
    split
    · rename_i h
      rw [ext_trim r]
      have e:Ltx.extent (pcs (s :: r)) = (s.pc).keep + (s.pc).drop + Ltx.extent (pcs r):=rfl
      rw [e]
      cases s with
      | keep n=>obtain rfl:n = 0:=h;simp [St.pc]
      | put u=>simp [St.pc]
      | drop n=>obtain rfl:n = 0:=h;simp [St.pc]
    · rfl
end Go.Proofs.Ytidimannfemnmaa.P5
namespace Go.Proofs.Ytidimannfemnmaa.P5
open Ltx (Pc It applyP places)

structure CVal (a b:List Pc) (K C:Nat) (sx sy:List St) (raw:List Pc):Prop where
  ext:Ltx.extent raw + Ltx.extent (pcs sx) + Ltx.extent (pcs sy)≤K
  does:∀ T:List It,T.length = K→applyP It.new (applyP It.new T a) b = emitP T raw ++ applyP It.new (applyP It.new (T.drop (Ltx.extent raw)) (pcs sx)) (pcs sy)
  bound:totP raw + szS sx + szS sy≤C
section
variable {a b:List Pc} {K C:Nat} {sx sy:List St} {raw:List Pc}
theorem emit_one (T:List It) (k d:Nat) (t:List UInt8):emitP T [⟨k,d,t⟩] = T.take k ++ t.map It.new:=by
  show T.take k ++ t.map It.new ++ [] = _
  rw [List.append_nil]
theorem ext_one (k d:Nat) (t:List UInt8):Ltx.extent [(⟨k,d,t⟩:Pc)] = k + d:=by simp [Ltx.extent]
theorem CVal.drop {n:Nat} {r:List St} (h:CVal a b K C (.drop n :: r) sy raw) (hy:Head sy):CVal a b K C (cutS (.drop n :: r) n) (cutS sy 0) (raw ++ [⟨0,n,[]⟩]):=by
  have hc:∀ T,applyP It.new T (pcs (cutS (.drop n :: r) n)) = applyP It.new T (pcs r):=fun T=>by
    rw [cutS,applyP_trim]
    exact applyP_zero _ (by simp [St.cut,St.size]) (pcs r) T
  have he:Ltx.extent (pcs (cutS (.drop n :: r) n)) = Ltx.extent (pcs r):=by
    rw [cutS,ext_trim]
    show 0 + (n - n) + Ltx.extent (pcs r) = _
    omega
  have he2:Ltx.extent (pcs (.drop n :: r)) = 0 + n + Ltx.extent (pcs r):=rfl
  have h1:=h.ext
  have h3:=h.bound
  have hz:=szS_cut (.drop n) r n
  simp only [szS,St.size] at h3 hz
  rw [cutS_zero hy]
  refine ⟨?_,fun T hT=>?_,?_⟩
  · rw [Ltx.extent_append,ext_one,he];omega
  · rw [h.does T hT,emitP_append,emit_one,Ltx.extent_append,ext_one,hc]
    have e:applyP It.new (T.drop (Ltx.extent raw)) (pcs (.drop n :: r)) = applyP It.new (T.drop (Ltx.extent raw + (0 + n))) (pcs r):=by
      show (T.drop (Ltx.extent raw)).take 0 ++ [] ++ applyP It.new ((T.drop (Ltx.extent raw)).drop (0 + n)) (pcs r) = _
      rw [List.take_zero,List.nil_append,List.nil_append,List.drop_drop]
    rw [e,List.take_zero,List.map_nil,List.append_nil,List.append_nil]
  · rw [totP_append,totP_one,hz];simp only [List.length_nil];omega
theorem CVal.put {t:List UInt8} {r:List St} (h:CVal a b K C sx (.put t :: r) raw) (hx:Head sx):CVal a b K C (cutS sx 0) (cutS (.put t :: r) t.length) (raw ++ [⟨0,0,t⟩]):=by
  have hc:∀ T,applyP It.new T (pcs (cutS (.put t :: r) t.length)) = applyP It.new T (pcs r):=fun T=>by
    rw [cutS,applyP_trim]
    exact applyP_zero _ (by simp [St.cut,St.size]) (pcs r) T
  have he:Ltx.extent (pcs (cutS (.put t :: r) t.length)) = Ltx.extent (pcs r):=by
    rw [cutS,ext_trim]
    show 0 + 0 + Ltx.extent (pcs r) = _
    omega
  have he2:Ltx.extent (pcs (.put t :: r)) = 0 + 0 + Ltx.extent (pcs r):=rfl
  have h1:=h.ext
  have h3:=h.bound
  have hz:=szS_cut (.put t) r t.length
  simp only [szS,St.size] at h3 hz
  rw [cutS_zero hx]
  refine ⟨?_,fun T hT=>?_,?_⟩
  · rw [Ltx.extent_append,ext_one,he];omega
  · rw [h.does T hT,emitP_append,emit_one,Ltx.extent_append,ext_one,hc,Nat.add_zero]
    show emitP T raw ++ ((applyP It.new (T.drop (Ltx.extent raw)) (pcs sx)).take 0 ++ t.map It.new ++ applyP It.new ((applyP It.new (T.drop (Ltx.extent raw)) (pcs sx)).drop (0 + 0)) (pcs r)) = _
    rw [List.take_zero,List.take_zero,List.nil_append,Nat.add_zero,List.drop_zero,List.append_assoc]
  · rw [totP_append,totP_one,hz];omega
end
end Go.Proofs.Ytidimannfemnmaa.P5
