/- MgAI: LtxShelf LtxL LtxM TopOp TopFp TopFr -/
import Derived.Shelf.Strings.Builder1
import Derived.Test.YtpoenlhikanooaaMgAF
import Derived.Test.YtpoenlhikanooaaMgAH
set_option linter.all false
namespace Go.Proofs
open Go.Shelf
end Go.Proofs
namespace Go.Proofs.Ytpoenlhikanooaa.P5
set_option linter.unusedVariables false
open Go.RowKit
end Go.Proofs.Ytpoenlhikanooaa.P5
namespace Go.Proofs.Ytpoenlhikanooaa.P5
set_option linter.unusedVariables false
open Go.RowKit
set_option maxRecDepth 20000
open Ltx (Pc)

theorem Bld.below {w w':World} {S:Nat→Prop} {base b:Nat} {bs:List UInt8} (h:Bld w S base b bs) (hb:Below w.heap.size w w'):Bld w' S base b bs:=by
  obtain ⟨h1,h2,p,v,hp,hh,hown,hs⟩:=h
  exact ⟨fun k hk=>⟨(h1 k hk).1,Nat.lt_of_lt_of_le (h1 k hk).2 hb.size⟩,h2,p,v,hp,(hb.block b (h1 b h2).2).trans hh,own_kept hown fun k hk=>hb.block k (h1 k (hs k hk)).2,hs⟩
theorem Bld.new {w:World} {base:Nat} (hb:base≤w.heap.size):Bld (w.alloc (.cells #[.pointer none,.slice none 0 0] 166)) (fun k=>k = w.heap.size) base w.heap.size [] :=
  ⟨fun k hk=>by subst hk;exact ⟨hb,by simp⟩,rfl,.pointer none,.slice none 0 0,.inl rfl,heap_alloc_new w _,OwnB.nil_ _ _,fun k hk=>by cases hk⟩
end Go.Proofs.Ytpoenlhikanooaa.P5
namespace Go.Proofs.Ytpoenlhikanooaa.P5
set_option linter.unusedVariables false
open Go.RowKit
set_option maxRecDepth 20000
open Ltx (Pc)

end Go.Proofs.Ytpoenlhikanooaa.P5
namespace Go.Proofs.Ytpoenlhikanooaa
open Go.RowKit
set_option maxRecDepth 20000
set_option linter.unusedVariables false

structure Ov where
  kind:Nat
  path:List Int
  at_:Int
  to_:List Int
  id:Nat
  leaf:Bool
  label:Txt
  key:Txt
  value:Txt
  gone:Bool
  pieces:List P5.IP
structure OS where
  pA:Option Addr
  pn:Nat
  pc:Nat
  tA:Option Addr
  tn:Nat
  tc:Nat
  qA:Option Addr
  qn:Nat
  qc:Nat
def opCells (o:Ov) (s:OS):Array Value :=
  #[.int .u8 (o.kind:Int),.slice s.pA s.pn s.pc,.int .i64 o.at_,.slice s.tA s.tn s.tc,.int .u64 (o.id:Int),.bool o.leaf,.string ⟨o.label.toArray⟩,.string ⟨o.key.toArray⟩,.string ⟨o.value.toArray⟩,.bool o.gone,.slice s.qA s.qn s.qc]
structure OpIn (w:World) (o:Ov) (s:OS):Prop where
  kind:o.kind < 256
  path:Its w s.pA s.pn o.path
  pnc:s.pn≤s.pc
  pcm:s.pc≤maxLen
  pnil:s.pA = none→s.pc = 0
  at_:-9223372036854775808≤o.at_∧o.at_≤9223372036854775807
  to_:Its w s.tA s.tn o.to_
  tnc:s.tn≤s.tc
  tcm:s.tc≤maxLen
  tnil:s.tA = none→s.tc = 0
  id:o.id < 18446744073709551616
  label:o.label.length≤maxLen
  key:o.key.length≤maxLen
  value:o.value.length≤maxLen
  pieces:P5.PcsIn w s.qA s.qn o.pieces
  qnc:s.qn≤s.qc
  qcm:s.qc≤maxLen
  qnil:s.qA = none→s.qc = 0
  pfew:s.pn≤500000
  tfew:s.tn≤500000
  qfew:s.qn≤500000
  pfit:Fit o.path
  tfit:Fit o.to_
theorem OpIn.below {w w':World} {o:Ov} {s:OS} (h:OpIn w o s) (hb:Below w.heap.size w w'):OpIn w' o s :=
  { h with path:=h.path.below hb,to_:=h.to_.below hb,pieces:=h.pieces.below hb }
structure Ox (W:World) (b:Nat) (o:Ov) (s:OS):Prop where
  lt:b < W.heap.size
  row:W.heap[b]? = some (.cells (opCells o s) 26 (0,0))
  op:OpIn W o s
section
variable {W W':World} {b:Nat} {o:Ov} {s:OS}
theorem Ox.below (h:Ox W b o s) (hb:Below W.heap.size W W'):Ox W' b o s:=⟨Nat.lt_of_lt_of_le h.lt hb.size,(hb.block b h.lt).trans h.row,h.op.below hb⟩
theorem Ox.new (h:OpIn W o s):Ox (W.alloc (.cells (opCells o s) 26)) W.heap.size o s :=
  ⟨by simp,heap_alloc_new W _,h.below ((Below.refl _ _).alloc (Nat.le_refl _) _)⟩
theorem Ox.cells (h:Ox W b o s):W.cell? ⟨b,0,none⟩ = some (.int .u8 (o.kind:Int))∧W.cell? ⟨b,1,none⟩ = some (.slice s.pA s.pn s.pc)∧W.cell? ⟨b,2,none⟩ = some (.int .i64 o.at_)∧W.cell? ⟨b,3,none⟩ = some (.slice s.tA s.tn s.tc)∧W.cell? ⟨b,4,none⟩ = some (.int .u64 (o.id:Int)) ∧
    W.cell? ⟨b,5,none⟩ = some (.bool o.leaf)∧W.cell? ⟨b,6,none⟩ = some (.string ⟨o.label.toArray⟩)∧W.cell? ⟨b,7,none⟩ = some (.string ⟨o.key.toArray⟩)∧W.cell? ⟨b,8,none⟩ = some (.string ⟨o.value.toArray⟩)∧W.cell? ⟨b,9,none⟩ = some (.bool o.gone)∧W.cell? ⟨b,10,none⟩ = some (.slice s.qA s.qn s.qc):=by
  have h:=h.row
  unfold opCells at h
  exact ⟨cell_of_row W b 0 _ _ _ h,cell_of_row W b 1 _ _ _ h,cell_of_row W b 2 _ _ _ h,cell_of_row W b 3 _ _ _ h,cell_of_row W b 4 _ _ _ h,cell_of_row W b 5 _ _ _ h,cell_of_row W b 6 _ _ _ h,cell_of_row W b 7 _ _ _ h,cell_of_row W b 8 _ _ _ h,cell_of_row W b 9 _ _ _ h,cell_of_row W b 10 _ _ _ h⟩
end
def gapB (i:Int):Bool:=decide (0≤i∧i≤1048576)
def lblB (s:Txt):Bool:=decide (s.length≤64)
def valB (s:Txt):Bool:=decide (s.length≤256)
theorem isGap_any (w:World) (i:Int):Calls Try.prog 134 #[.int .i64 i] w fun e w'=>e = .returned (.bool (gapB i))∧w = w':=by
  by_cases h0:0≤i
  · by_cases h1:i≤1048576
    · have hv:=Lib.hid (show gapB i = true from decide_eq_true ⟨h0,h1⟩)
      go_enter Try.func134,Try.ntmps134
      go_wp2_with fail
      go_ret
      exact ⟨by rw [hv.out];rfl,rfl⟩
    · have hv:=Lib.hid (show gapB i = false from decide_eq_false fun h=>h1 h.2)
      go_enter Try.func134,Try.ntmps134
      go_wp2_with fail
      go_ret
      exact ⟨by rw [hv.out];rfl,rfl⟩
  · have hv:=Lib.hid (show gapB i = false from decide_eq_false fun h=>h0 h.1)
    go_enter Try.func134,Try.ntmps134
    go_wp2_with fail
    go_ret
    exact ⟨by rw [hv.out];rfl,rfl⟩
theorem isLabel_any (w:World) (l:Txt) (hl:l.length≤maxLen):Calls Try.prog 135 #[.string ⟨l.toArray⟩] w fun e w'=>e = .returned (.bool (lblB l))∧w = w':=by
  unfold maxLen at hl
  by_cases h0:l.length≤64
  · have hv:=Lib.hid (show lblB l = true from decide_eq_true h0)
    have h0I:(l.length:Int)≤64:=by omega
    go_enter Try.func135,Try.ntmps135
    go_wp2_with fail
    go_ret
    exact ⟨by rw [hv.out];rfl,rfl⟩
  · have hv:=Lib.hid (show lblB l = false from decide_eq_false h0)
    have h0I:¬ (l.length:Int)≤64:=by omega
    go_enter Try.func135,Try.ntmps135
    go_wp2_with fail
    go_ret
    exact ⟨by rw [hv.out];rfl,rfl⟩
theorem isValue_any (w:World) (l:Txt) (hl:l.length≤maxLen):Calls Try.prog 137 #[.string ⟨l.toArray⟩] w fun e w'=>e = .returned (.bool (valB l))∧w = w':=by
  unfold maxLen at hl
  by_cases h0:l.length≤256
  · have hv:=Lib.hid (show valB l = true from decide_eq_true h0)
    have h0I:(l.length:Int)≤256:=by omega
    go_enter Try.func137,Try.ntmps137
    go_wp2_with fail
    go_ret
    exact ⟨by rw [hv.out];rfl,rfl⟩
  · have hv:=Lib.hid (show valB l = false from decide_eq_false h0)
    have h0I:¬ (l.length:Int)≤256:=by omega
    go_enter Try.func137,Try.ntmps137
    go_wp2_with fail
    go_ret
    exact ⟨by rw [hv.out];rfl,rfl⟩
def formedV (o:Ov):Bool :=
  P4.mayV o.path && (if o.kind = 1 then gapB o.at_ && lblB o.label else if o.kind = 2 then true else if o.kind = 3 then gapB o.at_ && P4.mayV o.to_ else if o.kind = 4 then keyB o.key && (o.gone || valB o.value)
    else if o.kind = 5 then lblB o.label else if o.kind = 6 then P5.rightV o.pieces else false)
end Go.Proofs.Ytpoenlhikanooaa
namespace Go.Proofs.Ytpoenlhikanooaa
open Go.RowKit
set_option maxRecDepth 20000
set_option linter.unusedVariables false

set_option maxHeartbeats 4000000 in
theorem formed_any (w:World) (o:Ov) (s:OS) (h:OpIn w o s):Calls Try.prog 93 #[.agg (opCells o s)] w fun e w'=>e = .returned (.bool (formedV o))∧Below w.heap.size w w':=by
  have hal:=Lib.hid (fun o=>(Below.refl w.heap.size w).alloc (Nat.le_refl _) o)
  have hmay:=Lib.hid (fun W (hb:Below w.heap.size w W)=>P4.may_any W s.pA s.pn s.pc o.path (h.below hb).path (Nat.le_trans h.pnc h.pcm))
  have hmay2:=Lib.hid (fun W (hb:Below w.heap.size w W)=>P4.may_any W s.tA s.tn s.tc o.to_ (h.below hb).to_ (Nat.le_trans h.tnc h.tcm))
  have hrig:=Lib.hid (fun W (hb:Below w.heap.size w W)=>P5.right_any W s.qA s.qn s.qc o.pieces (h.below hb).pieces (Nat.le_trans h.qnc h.qcm))
  have hlab:=Lib.hid (fun W=>isLabel_any W o.label h.label)
  have hval:=Lib.hid (fun W=>isValue_any W o.value h.value)
  have hkey:=Lib.hid (fun W=>key_any o.key W h.key)
  have hat:=h.at_
  clear h
  cases hm:P4.mayV o.path with
  | false =>
    have hm':=Lib.hid hm
    have hv:=Lib.hid (show formedV o = false by unfold formedV;rw [hm];rfl)
    clear hm
    unfold opCells
    go_enter Try.func93,Try.ntmps93
    go_wp2_with (first
      | (go_at_call 133;go_at_call_of 133 s.pA;refine (hmay.out _ (hal.out _)).mono ?_;rintro e w7 ⟨rfl,rfl⟩;rw [hm'.out]))
    go_ret
    exact ⟨by rw [hv.out] <;> rfl,(hal.out _)⟩
  | true =>
    have hm':=Lib.hid hm
    by_cases k1:o.kind = 1
    · have kI:=Lib.hid k1
      have b1:((o.kind:Int) == 1) = true:=by simp;omega
      cases hg:gapB o.at_ with
      | false =>
        have hv:=Lib.hid (show formedV o = false by unfold formedV;rw [hm,if_pos k1,hg];rfl)
        have hg':=Lib.hid hg
        clear k1 hm hg
        unfold opCells
        go_enter Try.func93,Try.ntmps93
        go_wp2_with (first
          | (go_at_call 133;go_at_call_of 133 s.pA;refine (hmay.out _ (hal.out _)).mono ?_;rintro e w7 ⟨rfl,rfl⟩;rw [hm'.out])
          | (go_at_call 134;refine (isGap_any _ o.at_).mono ?_;rintro e w7 ⟨rfl,rfl⟩;rw [hg'.out]))
        go_ret
        exact ⟨by rw [hv.out] <;> rfl,(hal.out _)⟩
      | true =>
        have hv:=Lib.hid (show formedV o = lblB o.label by unfold formedV;rw [hm,if_pos k1,hg];rfl)
        have hg':=Lib.hid hg
        clear k1 hm hg
        unfold opCells
        go_enter Try.func93,Try.ntmps93
        go_wp2_with (first
          | (go_at_call 133;go_at_call_of 133 s.pA;refine (hmay.out _ (hal.out _)).mono ?_;rintro e w7 ⟨rfl,rfl⟩;rw [hm'.out])
          | (go_at_call 134;refine (isGap_any _ o.at_).mono ?_;rintro e w7 ⟨rfl,rfl⟩;rw [hg'.out])
          | (go_at_call 135;refine (hlab.out _).mono ?_;rintro e w7 ⟨rfl,rfl⟩))
        go_ret
        exact ⟨by rw [hv.out] <;> first | rfl | simp,(hal.out _)⟩
    · skip
      by_cases k2:o.kind = 2
      · have kI:=Lib.hid k2
        have b1:((o.kind:Int) == 1) = false:=by simp;omega
        have b2:((o.kind:Int) == 2) = true:=by simp;omega
        have hv:=Lib.hid (show formedV o = true by unfold formedV;rw [hm,if_neg k1,if_pos k2];rfl)
        clear k1 k2 hm
        unfold opCells
        go_enter Try.func93,Try.ntmps93
        go_wp2_with (first
          | (go_at_call 133;go_at_call_of 133 s.pA;refine (hmay.out _ (hal.out _)).mono ?_;rintro e w7 ⟨rfl,rfl⟩;rw [hm'.out]))
        go_ret
        exact ⟨by rw [hv.out] <;> rfl,(hal.out _)⟩
      · skip
        by_cases k3:o.kind = 3
        · have kI:=Lib.hid k3
          have b1:((o.kind:Int) == 1) = false:=by simp;omega
          have b2:((o.kind:Int) == 2) = false:=by simp;omega
          have b3:((o.kind:Int) == 3) = true:=by simp;omega
          cases hg:P4.mayV o.to_ with
          | false =>
            have hv:=Lib.hid (show formedV o = false by unfold formedV;rw [hm,if_neg k1,if_neg k2,if_pos k3,hg,Bool.and_false];rfl)
            have hg':=Lib.hid hg
            clear k1 k2 k3 hm hg
            unfold opCells
            go_enter Try.func93,Try.ntmps93
            go_wp2_with (first
              | (go_at_call 133;go_at_call_of 133 s.pA;refine (hmay.out _ (hal.out _)).mono ?_;rintro e w7 ⟨rfl,rfl⟩;rw [hm'.out])
              | (go_at_call 133;refine (hmay2.out _ (hal.out _)).mono ?_;rintro e w7 ⟨rfl,rfl⟩;first | rw [hg'.out] | skip))
            go_ret
            exact ⟨by rw [hv.out] <;> rfl,(hal.out _)⟩
          | true =>
            have hv:=Lib.hid (show formedV o = gapB o.at_ by unfold formedV;rw [hm,if_neg k1,if_neg k2,if_pos k3,hg,Bool.and_true];rfl)
            have hg':=Lib.hid hg
            clear k1 k2 k3 hm hg
            unfold opCells
            go_enter Try.func93,Try.ntmps93
            go_wp2_with (first
              | (go_at_call 133;go_at_call_of 133 s.pA;refine (hmay.out _ (hal.out _)).mono ?_;rintro e w7 ⟨rfl,rfl⟩;rw [hm'.out])
              | (go_at_call 133;refine (hmay2.out _ (hal.out _)).mono ?_;rintro e w7 ⟨rfl,rfl⟩;first | rw [hg'.out] | skip)
              | (go_at_call 134;refine (isGap_any _ o.at_).mono ?_;rintro e w7 ⟨rfl,rfl⟩))
            go_ret
            exact ⟨by rw [hv.out] <;> first | rfl | simp,(hal.out _)⟩
        · skip
          by_cases k4:o.kind = 4
          · have kI:=Lib.hid k4
            have b1:((o.kind:Int) == 1) = false:=by simp;omega
            have b2:((o.kind:Int) == 2) = false:=by simp;omega
            have b3:((o.kind:Int) == 3) = false:=by simp;omega
            have b4:((o.kind:Int) == 4) = true:=by simp;omega
            cases hg:keyB o.key with
            | false =>
              have hv:=Lib.hid (show formedV o = false by unfold formedV;rw [hm,if_neg k1,if_neg k2,if_neg k3,if_pos k4,hg];rfl)
              have hg':=Lib.hid hg
              clear k1 k2 k3 k4 hm hg
              unfold opCells
              go_enter Try.func93,Try.ntmps93
              go_wp2_with (first
                | (go_at_call 133;go_at_call_of 133 s.pA;refine (hmay.out _ (hal.out _)).mono ?_;rintro e w7 ⟨rfl,rfl⟩;rw [hm'.out])
                | (go_at_call 136;refine (hkey.out _).mono ?_;rintro e w7 ⟨rfl,rfl⟩;rw [hg'.out]))
              go_ret
              exact ⟨by rw [hv.out] <;> rfl,(hal.out _)⟩
            | true =>
              have hg':=Lib.hid hg
              cases hgo:o.gone with
              | true =>
                have hv:=Lib.hid (show formedV o = true by unfold formedV;rw [hm,if_neg k1,if_neg k2,if_neg k3,if_pos k4,hg,hgo];rfl)
                clear k1 k2 k3 k4 hm hg
                unfold opCells
                go_enter Try.func93,Try.ntmps93
                go_wp2_with (first
                  | (go_at_call 133;go_at_call_of 133 s.pA;refine (hmay.out _ (hal.out _)).mono ?_;rintro e w7 ⟨rfl,rfl⟩;rw [hm'.out])
                  | (go_at_call 136;refine (hkey.out _).mono ?_;rintro e w7 ⟨rfl,rfl⟩;rw [hg'.out]))
                go_ret
                exact ⟨by rw [hv.out] <;> rfl,(hal.out _)⟩
              | false =>
                have hv:=Lib.hid (show formedV o = valB o.value by unfold formedV;rw [hm,if_neg k1,if_neg k2,if_neg k3,if_pos k4,hg,hgo];rfl)
                clear k1 k2 k3 k4 hm hg
                unfold opCells
                go_enter Try.func93,Try.ntmps93
                go_wp2_with (first
                  | (go_at_call 133;go_at_call_of 133 s.pA;refine (hmay.out _ (hal.out _)).mono ?_;rintro e w7 ⟨rfl,rfl⟩;rw [hm'.out])
                  | (go_at_call 136;refine (hkey.out _).mono ?_;rintro e w7 ⟨rfl,rfl⟩;rw [hg'.out])
                  | (go_at_call 137;refine (hval.out _).mono ?_;rintro e w7 ⟨rfl,rfl⟩))
                go_ret
                exact ⟨by rw [hv.out] <;> first | rfl | simp,(hal.out _)⟩
          · skip
            by_cases k5:o.kind = 5
            · have kI:=Lib.hid k5
              have b1:((o.kind:Int) == 1) = false:=by simp;omega
              have b2:((o.kind:Int) == 2) = false:=by simp;omega
              have b3:((o.kind:Int) == 3) = false:=by simp;omega
              have b4:((o.kind:Int) == 4) = false:=by simp;omega
              have b5:((o.kind:Int) == 5) = true:=by simp;omega
              have hv:=Lib.hid (show formedV o = lblB o.label by unfold formedV;rw [hm,if_neg k1,if_neg k2,if_neg k3,if_neg k4,if_pos k5];rfl)
              clear k1 k2 k3 k4 k5 hm
              unfold opCells
              go_enter Try.func93,Try.ntmps93
              go_wp2_with (first
                | (go_at_call 133;go_at_call_of 133 s.pA;refine (hmay.out _ (hal.out _)).mono ?_;rintro e w7 ⟨rfl,rfl⟩;rw [hm'.out])
                | (go_at_call 135;refine (hlab.out _).mono ?_;rintro e w7 ⟨rfl,rfl⟩))
              go_ret
              exact ⟨by rw [hv.out] <;> first | rfl | simp,(hal.out _)⟩
            · skip
              by_cases k6:o.kind = 6
              · have kI:=Lib.hid k6
                have b1:((o.kind:Int) == 1) = false:=by simp;omega
                have b2:((o.kind:Int) == 2) = false:=by simp;omega
                have b3:((o.kind:Int) == 3) = false:=by simp;omega
                have b4:((o.kind:Int) == 4) = false:=by simp;omega
                have b5:((o.kind:Int) == 5) = false:=by simp;omega
                have b6:((o.kind:Int) == 6) = true:=by simp;omega
                have hv:=Lib.hid (show formedV o = P5.rightV o.pieces by unfold formedV;rw [hm,if_neg k1,if_neg k2,if_neg k3,if_neg k4,if_neg k5,if_pos k6];rfl)
                clear k1 k2 k3 k4 k5 k6 hm
                unfold opCells
                go_enter Try.func93,Try.ntmps93
                go_wp2_with (first
                  | (go_at_call 133;go_at_call_of 133 s.pA;refine (hmay.out _ (hal.out _)).mono ?_;rintro e w7 ⟨rfl,rfl⟩;rw [hm'.out])
                  | (go_at_call 119;refine (hrig.out _ (hal.out _)).mono ?_;rintro e w7 ⟨rfl,hb7⟩;have hb7':=Lib.hid ((hal.out _).trans (hb7.mono (hal.out _).size));clear hb7))
                go_ret
                exact ⟨by rw [hv.out] <;> first | rfl | simp,hb7'.out⟩
              · skip
                have b1:((o.kind:Int) == 1) = false:=by simp;omega
                have b2:((o.kind:Int) == 2) = false:=by simp;omega
                have b3:((o.kind:Int) == 3) = false:=by simp;omega
                have b4:((o.kind:Int) == 4) = false:=by simp;omega
                have b5:((o.kind:Int) == 5) = false:=by simp;omega
                have b6:((o.kind:Int) == 6) = false:=by simp;omega
                have hv:=Lib.hid (show formedV o = false by unfold formedV;rw [hm,if_neg k1,if_neg k2,if_neg k3,if_neg k4,if_neg k5,if_neg k6];rfl)
                clear k1 k2 k3 k4 k5 k6 hm
                unfold opCells
                go_enter Try.func93,Try.ntmps93
                go_wp2_with (first
                  | (go_at_call 133;go_at_call_of 133 s.pA;refine (hmay.out _ (hal.out _)).mono ?_;rintro e w7 ⟨rfl,rfl⟩;rw [hm'.out]))
                go_ret
                exact ⟨by rw [hv.out] <;> rfl,(hal.out _)⟩
end Go.Proofs.Ytpoenlhikanooaa
namespace Go.Proofs.Ytpoenlhikanooaa
open Go.RowKit
set_option maxRecDepth 20000
set_option linter.unusedVariables false

set_option maxHeartbeats 4000000 in
theorem rformed_any (w:World) (o:Ov) (s:OS) (h:OpIn w o s):Calls Try.prog 86 #[.agg (opCells o s)] w fun e w'=>e = .returned (.bool (formedV o))∧Below w.heap.size w w':=by
  have hal:=Lib.hid (fun o=>(Below.refl w.heap.size w).alloc (Nat.le_refl _) o)
  have hmay:=Lib.hid (fun W (hb:Below w.heap.size w W)=>P4.refMay_any W s.pA s.pn s.pc o.path (h.below hb).path (Nat.le_trans h.pnc h.pcm))
  have hmay2:=Lib.hid (fun W (hb:Below w.heap.size w W)=>P4.refMay_any W s.tA s.tn s.tc o.to_ (h.below hb).to_ (Nat.le_trans h.tnc h.tcm))
  have hrig:=Lib.hid (fun W (hb:Below w.heap.size w W)=>P5.rright_any W s.qA s.qn s.qc o.pieces (h.below hb).pieces (Nat.le_trans h.qnc h.qcm))
  have hkey:=Lib.hid (fun W=>rkey_any o.key W h.key)
  have hlm:=h.label
  have hvm:=h.value
  unfold maxLen at hlm hvm
  have hat:=h.at_
  clear h
  cases hm:P4.mayV o.path with
  | false =>
    have hm':=Lib.hid hm
    have hv:=Lib.hid (show formedV o = false by unfold formedV;rw [hm];rfl)
    clear hm
    unfold opCells
    go_enter Try.func86,Try.ntmps86
    go_wp2_with (first
      | (go_at_call 127;go_at_call_of 127 s.pA;refine (hmay.out _ (hal.out _)).mono ?_;rintro e w7 ⟨rfl,rfl⟩;rw [hm'.out]))
    go_ret
    exact ⟨by rw [hv.out] <;> first | rfl | simp [hlI] | simp,(hal.out _)⟩
  | true =>
    have hm':=Lib.hid hm
    by_cases k1:o.kind = 1
    · have kI:=Lib.hid k1
      have b1:((o.kind:Int) == 1) = true:=by simp;omega
      by_cases hl:o.label.length≤64
      · have hlI:(o.label.length:Int)≤64:=by omega
        by_cases g0:0≤o.at_
        · by_cases g1:o.at_≤1048576
          · have hgp:=Lib.hid (show gapB o.at_ = true from decide_eq_true ⟨g0,g1⟩)
            have hv:=Lib.hid (show formedV o = (gapB o.at_ && true) by unfold formedV lblB;rw [hm,if_pos k1,decide_eq_true hl];rfl)
            clear k1 hm hl
            unfold opCells
            go_enter Try.func86,Try.ntmps86
            go_wp2_with (first
              | (go_at_call 127;go_at_call_of 127 s.pA;refine (hmay.out _ (hal.out _)).mono ?_;rintro e w7 ⟨rfl,rfl⟩;rw [hm'.out]))
            go_ret
            exact ⟨by rw [hv.out,hgp.out] <;> first | rfl | simp [hlI] | simp,(hal.out _)⟩
          · have hgp:=Lib.hid (show gapB o.at_ = false from decide_eq_false fun h=>g1 h.2)
            have hv:=Lib.hid (show formedV o = (gapB o.at_ && true) by unfold formedV lblB;rw [hm,if_pos k1,decide_eq_true hl];rfl)
            clear k1 hm hl
            unfold opCells
            go_enter Try.func86,Try.ntmps86
            go_wp2_with (first
              | (go_at_call 127;go_at_call_of 127 s.pA;refine (hmay.out _ (hal.out _)).mono ?_;rintro e w7 ⟨rfl,rfl⟩;rw [hm'.out]))
            go_ret
            exact ⟨by rw [hv.out,hgp.out] <;> first | rfl | simp [hlI] | simp,(hal.out _)⟩
        · have hgp:=Lib.hid (show gapB o.at_ = false from decide_eq_false fun h=>g0 h.1)
          have hv:=Lib.hid (show formedV o = (gapB o.at_ && true) by unfold formedV lblB;rw [hm,if_pos k1,decide_eq_true hl];rfl)
          clear k1 hm hl
          unfold opCells
          go_enter Try.func86,Try.ntmps86
          go_wp2_with (first
            | (go_at_call 127;go_at_call_of 127 s.pA;refine (hmay.out _ (hal.out _)).mono ?_;rintro e w7 ⟨rfl,rfl⟩;rw [hm'.out]))
          go_ret
          exact ⟨by rw [hv.out,hgp.out] <;> first | rfl | simp [hlI] | simp,(hal.out _)⟩
      · have hlI:¬ (o.label.length:Int)≤64:=by omega
        by_cases g0:0≤o.at_
        · by_cases g1:o.at_≤1048576
          · have hgp:=Lib.hid (show gapB o.at_ = true from decide_eq_true ⟨g0,g1⟩)
            have hv:=Lib.hid (show formedV o = (gapB o.at_ && false) by unfold formedV lblB;rw [hm,if_pos k1,decide_eq_false hl];rfl)
            clear k1 hm hl
            unfold opCells
            go_enter Try.func86,Try.ntmps86
            go_wp2_with (first
              | (go_at_call 127;go_at_call_of 127 s.pA;refine (hmay.out _ (hal.out _)).mono ?_;rintro e w7 ⟨rfl,rfl⟩;rw [hm'.out]))
            go_ret
            exact ⟨by rw [hv.out,hgp.out] <;> first | rfl | simp [hlI] | simp,(hal.out _)⟩
          · have hgp:=Lib.hid (show gapB o.at_ = false from decide_eq_false fun h=>g1 h.2)
            have hv:=Lib.hid (show formedV o = (gapB o.at_ && false) by unfold formedV lblB;rw [hm,if_pos k1,decide_eq_false hl];rfl)
            clear k1 hm hl
            unfold opCells
            go_enter Try.func86,Try.ntmps86
            go_wp2_with (first
              | (go_at_call 127;go_at_call_of 127 s.pA;refine (hmay.out _ (hal.out _)).mono ?_;rintro e w7 ⟨rfl,rfl⟩;rw [hm'.out]))
            go_ret
            exact ⟨by rw [hv.out,hgp.out] <;> first | rfl | simp [hlI] | simp,(hal.out _)⟩
        · have hgp:=Lib.hid (show gapB o.at_ = false from decide_eq_false fun h=>g0 h.1)
          have hv:=Lib.hid (show formedV o = (gapB o.at_ && false) by unfold formedV lblB;rw [hm,if_pos k1,decide_eq_false hl];rfl)
          clear k1 hm hl
          unfold opCells
          go_enter Try.func86,Try.ntmps86
          go_wp2_with (first
            | (go_at_call 127;go_at_call_of 127 s.pA;refine (hmay.out _ (hal.out _)).mono ?_;rintro e w7 ⟨rfl,rfl⟩;rw [hm'.out]))
          go_ret
          exact ⟨by rw [hv.out,hgp.out] <;> first | rfl | simp [hlI] | simp,(hal.out _)⟩
    · skip
      by_cases k2:o.kind = 2
      · have kI:=Lib.hid k2
        have b1:((o.kind:Int) == 1) = false:=by simp;omega
        have b2:((o.kind:Int) == 2) = true:=by simp;omega
        by_cases g0:0≤o.at_
        · by_cases g1:o.at_≤1048576
          · have hgp:=Lib.hid (show gapB o.at_ = true from decide_eq_true ⟨g0,g1⟩)
            have hv:=Lib.hid (show formedV o = true by unfold formedV;rw [hm,if_neg k1,if_pos k2];rfl)
            clear k1 k2 hm
            unfold opCells
            go_enter Try.func86,Try.ntmps86
            go_wp2_with (first
              | (go_at_call 127;go_at_call_of 127 s.pA;refine (hmay.out _ (hal.out _)).mono ?_;rintro e w7 ⟨rfl,rfl⟩;rw [hm'.out]))
            go_ret
            exact ⟨by rw [hv.out] <;> first | rfl | simp [hlI] | simp,(hal.out _)⟩
          · have hgp:=Lib.hid (show gapB o.at_ = false from decide_eq_false fun h=>g1 h.2)
            have hv:=Lib.hid (show formedV o = true by unfold formedV;rw [hm,if_neg k1,if_pos k2];rfl)
            clear k1 k2 hm
            unfold opCells
            go_enter Try.func86,Try.ntmps86
            go_wp2_with (first
              | (go_at_call 127;go_at_call_of 127 s.pA;refine (hmay.out _ (hal.out _)).mono ?_;rintro e w7 ⟨rfl,rfl⟩;rw [hm'.out]))
            go_ret
            exact ⟨by rw [hv.out] <;> first | rfl | simp [hlI] | simp,(hal.out _)⟩
        · have hgp:=Lib.hid (show gapB o.at_ = false from decide_eq_false fun h=>g0 h.1)
          have hv:=Lib.hid (show formedV o = true by unfold formedV;rw [hm,if_neg k1,if_pos k2];rfl)
          clear k1 k2 hm
          unfold opCells
          go_enter Try.func86,Try.ntmps86
          go_wp2_with (first
            | (go_at_call 127;go_at_call_of 127 s.pA;refine (hmay.out _ (hal.out _)).mono ?_;rintro e w7 ⟨rfl,rfl⟩;rw [hm'.out]))
          go_ret
          exact ⟨by rw [hv.out] <;> first | rfl | simp [hlI] | simp,(hal.out _)⟩
      · skip
        by_cases k3:o.kind = 3
        · have kI:=Lib.hid k3
          have b1:((o.kind:Int) == 1) = false:=by simp;omega
          have b2:((o.kind:Int) == 2) = false:=by simp;omega
          have b3:((o.kind:Int) == 3) = true:=by simp;omega
          by_cases g0:0≤o.at_
          · by_cases g1:o.at_≤1048576
            · have hgp:=Lib.hid (show gapB o.at_ = true from decide_eq_true ⟨g0,g1⟩)
              have hv:=Lib.hid (show formedV o = (gapB o.at_ && P4.mayV o.to_) by unfold formedV;rw [hm,if_neg k1,if_neg k2,if_pos k3];rfl)
              clear k1 k2 k3 hm
              unfold opCells
              go_enter Try.func86,Try.ntmps86
              go_wp2_with (first
                | (go_at_call 127;go_at_call_of 127 s.pA;refine (hmay.out _ (hal.out _)).mono ?_;rintro e w7 ⟨rfl,rfl⟩;rw [hm'.out])
                | (go_at_call 127;refine (hmay2.out _ (hal.out _)).mono ?_;rintro e w7 ⟨rfl,rfl⟩))
              go_ret
              exact ⟨by rw [hv.out,hgp.out];first | rfl | simp,(hal.out _)⟩
            · have hgp:=Lib.hid (show gapB o.at_ = false from decide_eq_false fun h=>g1 h.2)
              have hv:=Lib.hid (show formedV o = (gapB o.at_ && P4.mayV o.to_) by unfold formedV;rw [hm,if_neg k1,if_neg k2,if_pos k3];rfl)
              clear k1 k2 k3 hm
              unfold opCells
              go_enter Try.func86,Try.ntmps86
              go_wp2_with (first
                | (go_at_call 127;go_at_call_of 127 s.pA;refine (hmay.out _ (hal.out _)).mono ?_;rintro e w7 ⟨rfl,rfl⟩;rw [hm'.out])
                | (go_at_call 127;refine (hmay2.out _ (hal.out _)).mono ?_;rintro e w7 ⟨rfl,rfl⟩))
              go_ret
              exact ⟨by rw [hv.out,hgp.out];first | rfl | simp,(hal.out _)⟩
          · have hgp:=Lib.hid (show gapB o.at_ = false from decide_eq_false fun h=>g0 h.1)
            have hv:=Lib.hid (show formedV o = (gapB o.at_ && P4.mayV o.to_) by unfold formedV;rw [hm,if_neg k1,if_neg k2,if_pos k3];rfl)
            clear k1 k2 k3 hm
            unfold opCells
            go_enter Try.func86,Try.ntmps86
            go_wp2_with (first
              | (go_at_call 127;go_at_call_of 127 s.pA;refine (hmay.out _ (hal.out _)).mono ?_;rintro e w7 ⟨rfl,rfl⟩;rw [hm'.out])
              | (go_at_call 127;refine (hmay2.out _ (hal.out _)).mono ?_;rintro e w7 ⟨rfl,rfl⟩))
            go_ret
            exact ⟨by rw [hv.out,hgp.out];first | rfl | simp,(hal.out _)⟩
        · skip
          by_cases k4:o.kind = 4
          · have kI:=Lib.hid k4
            have b1:((o.kind:Int) == 1) = false:=by simp;omega
            have b2:((o.kind:Int) == 2) = false:=by simp;omega
            have b3:((o.kind:Int) == 3) = false:=by simp;omega
            have b4:((o.kind:Int) == 4) = true:=by simp;omega
            by_cases g0:0≤o.at_
            · by_cases g1:o.at_≤1048576
              · have hgp:=Lib.hid (show gapB o.at_ = true from decide_eq_true ⟨g0,g1⟩)
                cases hg:keyB o.key with
                | false =>
                  have hv:=Lib.hid (show formedV o = false by unfold formedV;rw [hm,if_neg k1,if_neg k2,if_neg k3,if_pos k4,hg];rfl)
                  have hg':=Lib.hid hg
                  clear k1 k2 k3 k4 hm hg
                  unfold opCells
                  go_enter Try.func86,Try.ntmps86
                  go_wp2_with (first
                    | (go_at_call 127;go_at_call_of 127 s.pA;refine (hmay.out _ (hal.out _)).mono ?_;rintro e w7 ⟨rfl,rfl⟩;rw [hm'.out])
                    | (go_at_call 128;refine (hkey.out _).mono ?_;rintro e w7 ⟨rfl,rfl⟩;rw [hg'.out]))
                  go_ret
                  exact ⟨by rw [hv.out] <;> first | rfl | simp [hlI] | simp,(hal.out _)⟩
                | true =>
                  have hg':=Lib.hid hg
                  cases hgo:o.gone with
                  | true =>
                    have hv:=Lib.hid (show formedV o = true by unfold formedV;rw [hm,if_neg k1,if_neg k2,if_neg k3,if_pos k4,hg,hgo];rfl)
                    clear k1 k2 k3 k4 hm hg
                    unfold opCells
                    go_enter Try.func86,Try.ntmps86
                    go_wp2_with (first
                      | (go_at_call 127;go_at_call_of 127 s.pA;refine (hmay.out _ (hal.out _)).mono ?_;rintro e w7 ⟨rfl,rfl⟩;rw [hm'.out])
                      | (go_at_call 128;refine (hkey.out _).mono ?_;rintro e w7 ⟨rfl,rfl⟩;rw [hg'.out]))
                    go_ret
                    exact ⟨by rw [hv.out] <;> first | rfl | simp [hlI] | simp,(hal.out _)⟩
                  | false =>
                    by_cases hl:o.value.length≤256
                    · have hlI:(o.value.length:Int)≤256:=by omega
                      have hv:=Lib.hid (show formedV o = true by unfold formedV valB;rw [hm,if_neg k1,if_neg k2,if_neg k3,if_pos k4,hg,hgo,decide_eq_true hl];rfl)
                      clear k1 k2 k3 k4 hm hg hl
                      unfold opCells
                      go_enter Try.func86,Try.ntmps86
                      go_wp2_with (first
                        | (go_at_call 127;go_at_call_of 127 s.pA;refine (hmay.out _ (hal.out _)).mono ?_;rintro e w7 ⟨rfl,rfl⟩;rw [hm'.out])
                        | (go_at_call 128;refine (hkey.out _).mono ?_;rintro e w7 ⟨rfl,rfl⟩;rw [hg'.out]))
                      go_ret
                      exact ⟨by rw [hv.out] <;> first | rfl | simp [hlI] | simp,(hal.out _)⟩
                    · have hlI:¬ (o.value.length:Int)≤256:=by omega
                      have hv:=Lib.hid (show formedV o = false by unfold formedV valB;rw [hm,if_neg k1,if_neg k2,if_neg k3,if_pos k4,hg,hgo,decide_eq_false hl];rfl)
                      clear k1 k2 k3 k4 hm hg hl
                      unfold opCells
                      go_enter Try.func86,Try.ntmps86
                      go_wp2_with (first
                        | (go_at_call 127;go_at_call_of 127 s.pA;refine (hmay.out _ (hal.out _)).mono ?_;rintro e w7 ⟨rfl,rfl⟩;rw [hm'.out])
                        | (go_at_call 128;refine (hkey.out _).mono ?_;rintro e w7 ⟨rfl,rfl⟩;rw [hg'.out]))
                      go_ret
                      exact ⟨by rw [hv.out] <;> first | rfl | simp [hlI] | simp,(hal.out _)⟩
              · have hgp:=Lib.hid (show gapB o.at_ = false from decide_eq_false fun h=>g1 h.2)
                cases hg:keyB o.key with
                | false =>
                  have hv:=Lib.hid (show formedV o = false by unfold formedV;rw [hm,if_neg k1,if_neg k2,if_neg k3,if_pos k4,hg];rfl)
                  have hg':=Lib.hid hg
                  clear k1 k2 k3 k4 hm hg
                  unfold opCells
                  go_enter Try.func86,Try.ntmps86
                  go_wp2_with (first
                    | (go_at_call 127;go_at_call_of 127 s.pA;refine (hmay.out _ (hal.out _)).mono ?_;rintro e w7 ⟨rfl,rfl⟩;rw [hm'.out])
                    | (go_at_call 128;refine (hkey.out _).mono ?_;rintro e w7 ⟨rfl,rfl⟩;rw [hg'.out]))
                  go_ret
                  exact ⟨by rw [hv.out] <;> first | rfl | simp [hlI] | simp,(hal.out _)⟩
                | true =>
                  have hg':=Lib.hid hg
                  cases hgo:o.gone with
                  | true =>
                    have hv:=Lib.hid (show formedV o = true by unfold formedV;rw [hm,if_neg k1,if_neg k2,if_neg k3,if_pos k4,hg,hgo];rfl)
                    clear k1 k2 k3 k4 hm hg
                    unfold opCells
                    go_enter Try.func86,Try.ntmps86
                    go_wp2_with (first
                      | (go_at_call 127;go_at_call_of 127 s.pA;refine (hmay.out _ (hal.out _)).mono ?_;rintro e w7 ⟨rfl,rfl⟩;rw [hm'.out])
                      | (go_at_call 128;refine (hkey.out _).mono ?_;rintro e w7 ⟨rfl,rfl⟩;rw [hg'.out]))
                    go_ret
                    exact ⟨by rw [hv.out] <;> first | rfl | simp [hlI] | simp,(hal.out _)⟩
                  | false =>
                    by_cases hl:o.value.length≤256
                    · have hlI:(o.value.length:Int)≤256:=by omega
                      have hv:=Lib.hid (show formedV o = true by unfold formedV valB;rw [hm,if_neg k1,if_neg k2,if_neg k3,if_pos k4,hg,hgo,decide_eq_true hl];rfl)
                      clear k1 k2 k3 k4 hm hg hl
                      unfold opCells
                      go_enter Try.func86,Try.ntmps86
                      go_wp2_with (first
                        | (go_at_call 127;go_at_call_of 127 s.pA;refine (hmay.out _ (hal.out _)).mono ?_;rintro e w7 ⟨rfl,rfl⟩;rw [hm'.out])
                        | (go_at_call 128;refine (hkey.out _).mono ?_;rintro e w7 ⟨rfl,rfl⟩;rw [hg'.out]))
                      go_ret
                      exact ⟨by rw [hv.out] <;> first | rfl | simp [hlI] | simp,(hal.out _)⟩
                    · have hlI:¬ (o.value.length:Int)≤256:=by omega
                      have hv:=Lib.hid (show formedV o = false by unfold formedV valB;rw [hm,if_neg k1,if_neg k2,if_neg k3,if_pos k4,hg,hgo,decide_eq_false hl];rfl)
                      clear k1 k2 k3 k4 hm hg hl
                      unfold opCells
                      go_enter Try.func86,Try.ntmps86
                      go_wp2_with (first
                        | (go_at_call 127;go_at_call_of 127 s.pA;refine (hmay.out _ (hal.out _)).mono ?_;rintro e w7 ⟨rfl,rfl⟩;rw [hm'.out])
                        | (go_at_call 128;refine (hkey.out _).mono ?_;rintro e w7 ⟨rfl,rfl⟩;rw [hg'.out]))
                      go_ret
                      exact ⟨by rw [hv.out] <;> first | rfl | simp [hlI] | simp,(hal.out _)⟩
            · have hgp:=Lib.hid (show gapB o.at_ = false from decide_eq_false fun h=>g0 h.1)
              cases hg:keyB o.key with
              | false =>
                have hv:=Lib.hid (show formedV o = false by unfold formedV;rw [hm,if_neg k1,if_neg k2,if_neg k3,if_pos k4,hg];rfl)
                have hg':=Lib.hid hg
                clear k1 k2 k3 k4 hm hg
                unfold opCells
                go_enter Try.func86,Try.ntmps86
                go_wp2_with (first
                  | (go_at_call 127;go_at_call_of 127 s.pA;refine (hmay.out _ (hal.out _)).mono ?_;rintro e w7 ⟨rfl,rfl⟩;rw [hm'.out])
                  | (go_at_call 128;refine (hkey.out _).mono ?_;rintro e w7 ⟨rfl,rfl⟩;rw [hg'.out]))
                go_ret
                exact ⟨by rw [hv.out] <;> first | rfl | simp [hlI] | simp,(hal.out _)⟩
              | true =>
                have hg':=Lib.hid hg
                cases hgo:o.gone with
                | true =>
                  have hv:=Lib.hid (show formedV o = true by unfold formedV;rw [hm,if_neg k1,if_neg k2,if_neg k3,if_pos k4,hg,hgo];rfl)
                  clear k1 k2 k3 k4 hm hg
                  unfold opCells
                  go_enter Try.func86,Try.ntmps86
                  go_wp2_with (first
                    | (go_at_call 127;go_at_call_of 127 s.pA;refine (hmay.out _ (hal.out _)).mono ?_;rintro e w7 ⟨rfl,rfl⟩;rw [hm'.out])
                    | (go_at_call 128;refine (hkey.out _).mono ?_;rintro e w7 ⟨rfl,rfl⟩;rw [hg'.out]))
                  go_ret
                  exact ⟨by rw [hv.out] <;> first | rfl | simp [hlI] | simp,(hal.out _)⟩
                | false =>
                  by_cases hl:o.value.length≤256
                  · have hlI:(o.value.length:Int)≤256:=by omega
                    have hv:=Lib.hid (show formedV o = true by unfold formedV valB;rw [hm,if_neg k1,if_neg k2,if_neg k3,if_pos k4,hg,hgo,decide_eq_true hl];rfl)
                    clear k1 k2 k3 k4 hm hg hl
                    unfold opCells
                    go_enter Try.func86,Try.ntmps86
                    go_wp2_with (first
                      | (go_at_call 127;go_at_call_of 127 s.pA;refine (hmay.out _ (hal.out _)).mono ?_;rintro e w7 ⟨rfl,rfl⟩;rw [hm'.out])
                      | (go_at_call 128;refine (hkey.out _).mono ?_;rintro e w7 ⟨rfl,rfl⟩;rw [hg'.out]))
                    go_ret
                    exact ⟨by rw [hv.out] <;> first | rfl | simp [hlI] | simp,(hal.out _)⟩
                  · have hlI:¬ (o.value.length:Int)≤256:=by omega
                    have hv:=Lib.hid (show formedV o = false by unfold formedV valB;rw [hm,if_neg k1,if_neg k2,if_neg k3,if_pos k4,hg,hgo,decide_eq_false hl];rfl)
                    clear k1 k2 k3 k4 hm hg hl
                    unfold opCells
                    go_enter Try.func86,Try.ntmps86
                    go_wp2_with (first
                      | (go_at_call 127;go_at_call_of 127 s.pA;refine (hmay.out _ (hal.out _)).mono ?_;rintro e w7 ⟨rfl,rfl⟩;rw [hm'.out])
                      | (go_at_call 128;refine (hkey.out _).mono ?_;rintro e w7 ⟨rfl,rfl⟩;rw [hg'.out]))
                    go_ret
                    exact ⟨by rw [hv.out] <;> first | rfl | simp [hlI] | simp,(hal.out _)⟩
          · skip
            by_cases k5:o.kind = 5
            · have kI:=Lib.hid k5
              have b1:((o.kind:Int) == 1) = false:=by simp;omega
              have b2:((o.kind:Int) == 2) = false:=by simp;omega
              have b3:((o.kind:Int) == 3) = false:=by simp;omega
              have b4:((o.kind:Int) == 4) = false:=by simp;omega
              have b5:((o.kind:Int) == 5) = true:=by simp;omega
              by_cases g0:0≤o.at_
              · by_cases g1:o.at_≤1048576
                · have hgp:=Lib.hid (show gapB o.at_ = true from decide_eq_true ⟨g0,g1⟩)
                  by_cases hl:o.label.length≤64
                  · have hlI:(o.label.length:Int)≤64:=by omega
                    have hv:=Lib.hid (show formedV o = true by unfold formedV lblB;rw [hm,if_neg k1,if_neg k2,if_neg k3,if_neg k4,if_pos k5,decide_eq_true hl];rfl)
                    clear k1 k2 k3 k4 k5 hm hl
                    unfold opCells
                    go_enter Try.func86,Try.ntmps86
                    go_wp2_with (first
                      | (go_at_call 127;go_at_call_of 127 s.pA;refine (hmay.out _ (hal.out _)).mono ?_;rintro e w7 ⟨rfl,rfl⟩;rw [hm'.out]))
                    go_ret
                    exact ⟨by rw [hv.out] <;> first | rfl | simp [hlI] | simp,(hal.out _)⟩
                  · have hlI:¬ (o.label.length:Int)≤64:=by omega
                    have hv:=Lib.hid (show formedV o = false by unfold formedV lblB;rw [hm,if_neg k1,if_neg k2,if_neg k3,if_neg k4,if_pos k5,decide_eq_false hl];rfl)
                    clear k1 k2 k3 k4 k5 hm hl
                    unfold opCells
                    go_enter Try.func86,Try.ntmps86
                    go_wp2_with (first
                      | (go_at_call 127;go_at_call_of 127 s.pA;refine (hmay.out _ (hal.out _)).mono ?_;rintro e w7 ⟨rfl,rfl⟩;rw [hm'.out]))
                    go_ret
                    exact ⟨by rw [hv.out] <;> first | rfl | simp [hlI] | simp,(hal.out _)⟩
                · have hgp:=Lib.hid (show gapB o.at_ = false from decide_eq_false fun h=>g1 h.2)
                  by_cases hl:o.label.length≤64
                  · have hlI:(o.label.length:Int)≤64:=by omega
                    have hv:=Lib.hid (show formedV o = true by unfold formedV lblB;rw [hm,if_neg k1,if_neg k2,if_neg k3,if_neg k4,if_pos k5,decide_eq_true hl];rfl)
                    clear k1 k2 k3 k4 k5 hm hl
                    unfold opCells
                    go_enter Try.func86,Try.ntmps86
                    go_wp2_with (first
                      | (go_at_call 127;go_at_call_of 127 s.pA;refine (hmay.out _ (hal.out _)).mono ?_;rintro e w7 ⟨rfl,rfl⟩;rw [hm'.out]))
                    go_ret
                    exact ⟨by rw [hv.out] <;> first | rfl | simp [hlI] | simp,(hal.out _)⟩
                  · have hlI:¬ (o.label.length:Int)≤64:=by omega
                    have hv:=Lib.hid (show formedV o = false by unfold formedV lblB;rw [hm,if_neg k1,if_neg k2,if_neg k3,if_neg k4,if_pos k5,decide_eq_false hl];rfl)
                    clear k1 k2 k3 k4 k5 hm hl
                    unfold opCells
                    go_enter Try.func86,Try.ntmps86
                    go_wp2_with (first
                      | (go_at_call 127;go_at_call_of 127 s.pA;refine (hmay.out _ (hal.out _)).mono ?_;rintro e w7 ⟨rfl,rfl⟩;rw [hm'.out]))
                    go_ret
                    exact ⟨by rw [hv.out] <;> first | rfl | simp [hlI] | simp,(hal.out _)⟩
              · have hgp:=Lib.hid (show gapB o.at_ = false from decide_eq_false fun h=>g0 h.1)
                by_cases hl:o.label.length≤64
                · have hlI:(o.label.length:Int)≤64:=by omega
                  have hv:=Lib.hid (show formedV o = true by unfold formedV lblB;rw [hm,if_neg k1,if_neg k2,if_neg k3,if_neg k4,if_pos k5,decide_eq_true hl];rfl)
                  clear k1 k2 k3 k4 k5 hm hl
                  unfold opCells
                  go_enter Try.func86,Try.ntmps86
                  go_wp2_with (first
                    | (go_at_call 127;go_at_call_of 127 s.pA;refine (hmay.out _ (hal.out _)).mono ?_;rintro e w7 ⟨rfl,rfl⟩;rw [hm'.out]))
                  go_ret
                  exact ⟨by rw [hv.out] <;> first | rfl | simp [hlI] | simp,(hal.out _)⟩
                · have hlI:¬ (o.label.length:Int)≤64:=by omega
                  have hv:=Lib.hid (show formedV o = false by unfold formedV lblB;rw [hm,if_neg k1,if_neg k2,if_neg k3,if_neg k4,if_pos k5,decide_eq_false hl];rfl)
                  clear k1 k2 k3 k4 k5 hm hl
                  unfold opCells
                  go_enter Try.func86,Try.ntmps86
                  go_wp2_with (first
                    | (go_at_call 127;go_at_call_of 127 s.pA;refine (hmay.out _ (hal.out _)).mono ?_;rintro e w7 ⟨rfl,rfl⟩;rw [hm'.out]))
                  go_ret
                  exact ⟨by rw [hv.out] <;> first | rfl | simp [hlI] | simp,(hal.out _)⟩
            · skip
              by_cases k6:o.kind = 6
              · have kI:=Lib.hid k6
                have b1:((o.kind:Int) == 1) = false:=by simp;omega
                have b2:((o.kind:Int) == 2) = false:=by simp;omega
                have b3:((o.kind:Int) == 3) = false:=by simp;omega
                have b4:((o.kind:Int) == 4) = false:=by simp;omega
                have b5:((o.kind:Int) == 5) = false:=by simp;omega
                have b6:((o.kind:Int) == 6) = true:=by simp;omega
                by_cases g0:0≤o.at_
                · by_cases g1:o.at_≤1048576
                  · have hgp:=Lib.hid (show gapB o.at_ = true from decide_eq_true ⟨g0,g1⟩)
                    have hv:=Lib.hid (show formedV o = P5.rightV o.pieces by unfold formedV;rw [hm,if_neg k1,if_neg k2,if_neg k3,if_neg k4,if_neg k5,if_pos k6];rfl)
                    clear k1 k2 k3 k4 k5 k6 hm
                    unfold opCells
                    go_enter Try.func86,Try.ntmps86
                    go_wp2_with (first
                      | (go_at_call 127;go_at_call_of 127 s.pA;refine (hmay.out _ (hal.out _)).mono ?_;rintro e w7 ⟨rfl,rfl⟩;rw [hm'.out])
                      | (go_at_call 105;refine (hrig.out _ (hal.out _)).mono ?_;rintro e w7 ⟨rfl,hb7⟩;have hb7':=Lib.hid ((hal.out _).trans (hb7.mono (hal.out _).size));clear hb7))
                    go_ret
                    exact ⟨by rw [hv.out] <;> first | rfl | simp,hb7'.out⟩
                  · have hgp:=Lib.hid (show gapB o.at_ = false from decide_eq_false fun h=>g1 h.2)
                    have hv:=Lib.hid (show formedV o = P5.rightV o.pieces by unfold formedV;rw [hm,if_neg k1,if_neg k2,if_neg k3,if_neg k4,if_neg k5,if_pos k6];rfl)
                    clear k1 k2 k3 k4 k5 k6 hm
                    unfold opCells
                    go_enter Try.func86,Try.ntmps86
                    go_wp2_with (first
                      | (go_at_call 127;go_at_call_of 127 s.pA;refine (hmay.out _ (hal.out _)).mono ?_;rintro e w7 ⟨rfl,rfl⟩;rw [hm'.out])
                      | (go_at_call 105;refine (hrig.out _ (hal.out _)).mono ?_;rintro e w7 ⟨rfl,hb7⟩;have hb7':=Lib.hid ((hal.out _).trans (hb7.mono (hal.out _).size));clear hb7))
                    go_ret
                    exact ⟨by rw [hv.out] <;> first | rfl | simp,hb7'.out⟩
                · have hgp:=Lib.hid (show gapB o.at_ = false from decide_eq_false fun h=>g0 h.1)
                  have hv:=Lib.hid (show formedV o = P5.rightV o.pieces by unfold formedV;rw [hm,if_neg k1,if_neg k2,if_neg k3,if_neg k4,if_neg k5,if_pos k6];rfl)
                  clear k1 k2 k3 k4 k5 k6 hm
                  unfold opCells
                  go_enter Try.func86,Try.ntmps86
                  go_wp2_with (first
                    | (go_at_call 127;go_at_call_of 127 s.pA;refine (hmay.out _ (hal.out _)).mono ?_;rintro e w7 ⟨rfl,rfl⟩;rw [hm'.out])
                    | (go_at_call 105;refine (hrig.out _ (hal.out _)).mono ?_;rintro e w7 ⟨rfl,hb7⟩;have hb7':=Lib.hid ((hal.out _).trans (hb7.mono (hal.out _).size));clear hb7))
                  go_ret
                  exact ⟨by rw [hv.out] <;> first | rfl | simp,hb7'.out⟩
              · skip
                have b1:((o.kind:Int) == 1) = false:=by simp;omega
                have b2:((o.kind:Int) == 2) = false:=by simp;omega
                have b3:((o.kind:Int) == 3) = false:=by simp;omega
                have b4:((o.kind:Int) == 4) = false:=by simp;omega
                have b5:((o.kind:Int) == 5) = false:=by simp;omega
                have b6:((o.kind:Int) == 6) = false:=by simp;omega
                by_cases g0:0≤o.at_
                · by_cases g1:o.at_≤1048576
                  · have hgp:=Lib.hid (show gapB o.at_ = true from decide_eq_true ⟨g0,g1⟩)
                    have hv:=Lib.hid (show formedV o = false by unfold formedV;rw [hm,if_neg k1,if_neg k2,if_neg k3,if_neg k4,if_neg k5,if_neg k6];rfl)
                    clear k1 k2 k3 k4 k5 k6 hm
                    unfold opCells
                    go_enter Try.func86,Try.ntmps86
                    go_wp2_with (first
                      | (go_at_call 127;go_at_call_of 127 s.pA;refine (hmay.out _ (hal.out _)).mono ?_;rintro e w7 ⟨rfl,rfl⟩;rw [hm'.out]))
                    go_ret
                    exact ⟨by rw [hv.out] <;> first | rfl | simp [hlI] | simp,(hal.out _)⟩
                  · have hgp:=Lib.hid (show gapB o.at_ = false from decide_eq_false fun h=>g1 h.2)
                    have hv:=Lib.hid (show formedV o = false by unfold formedV;rw [hm,if_neg k1,if_neg k2,if_neg k3,if_neg k4,if_neg k5,if_neg k6];rfl)
                    clear k1 k2 k3 k4 k5 k6 hm
                    unfold opCells
                    go_enter Try.func86,Try.ntmps86
                    go_wp2_with (first
                      | (go_at_call 127;go_at_call_of 127 s.pA;refine (hmay.out _ (hal.out _)).mono ?_;rintro e w7 ⟨rfl,rfl⟩;rw [hm'.out]))
                    go_ret
                    exact ⟨by rw [hv.out] <;> first | rfl | simp [hlI] | simp,(hal.out _)⟩
                · have hgp:=Lib.hid (show gapB o.at_ = false from decide_eq_false fun h=>g0 h.1)
                  have hv:=Lib.hid (show formedV o = false by unfold formedV;rw [hm,if_neg k1,if_neg k2,if_neg k3,if_neg k4,if_neg k5,if_neg k6];rfl)
                  clear k1 k2 k3 k4 k5 k6 hm
                  unfold opCells
                  go_enter Try.func86,Try.ntmps86
                  go_wp2_with (first
                    | (go_at_call 127;go_at_call_of 127 s.pA;refine (hmay.out _ (hal.out _)).mono ?_;rintro e w7 ⟨rfl,rfl⟩;rw [hm'.out]))
                  go_ret
                  exact ⟨by rw [hv.out] <;> first | rfl | simp [hlI] | simp,(hal.out _)⟩
end Go.Proofs.Ytpoenlhikanooaa
