/- What is wrong with an operation: values; the small questions: the program's. -/
import Derived.Test.YtmipodnffhngaaaMgAI
import Derived.Test.YtmipodnffhngaaaMgAJ
set_option linter.all false
namespace Go.Proofs.Ytmipodnffhngaaa
open Go.RowKit
set_option maxRecDepth 20000
set_option linter.unusedVariables false

def pcs (l:List P5.IP):List Ltx.Pc:=l.map fun x=>⟨x.keep.toNat,x.drop.toNat,x.put⟩
theorem pcs_right {l:List P5.IP} (h:P5.rightV l = true):(pcs l).map P5.ipc = l:=by
  obtain ⟨l',rfl⟩:=P5.right_pcs h
  have:pcs (l'.map P5.ipc) = l':=by
    unfold pcs
    rw [List.map_map]
    conv=>rhs;rw [← List.map_id l']
    apply List.map_congr_left
    intro x _
    simp [P5.ipc]
  rw [this]
def gapE (y:Nd) (i:Int):Int:=if y.leaf then 83 else if (y.kids.length:Int) < i then 81 else 0
def fitE (s:Txt) (l:List P5.IP):Int:=if Ltx.extent (pcs l)≤s.length then 0 else 50
def editE (x:Nd) (l:List P5.IP):Int:=if x.leaf then fitE x.text l else 83
def faultV (t:Nd) (o:Ov):Int :=
  if formedV o = false then 80 else if (o.kind = 2∨o.kind = 3)∧o.path = [] then 82 else
    match atV t o.path with
    | none=>81
    | some x=>if o.kind = 1 then gapE x o.at_ else if o.kind = 3 then (if P4.withinV o.path o.to_ then 84 else match atV t o.to_ with
        | none=>81
        | some y=>gapE y o.at_) else if o.kind = 6 then editE x o.pieces else 0
def validV (t:Nd) (o:Ov):Int:=if rightV ltB t then faultV t o else 2

theorem takesOut_any (w:World) (o:Ov) (s:OS) (hk:o.kind < 256):Calls Try.prog 97 #[.agg (opCells o s)] w fun e w'=>e = .returned (.bool (decide (o.kind = 2∨o.kind = 3)))∧Below w.heap.size w w':=by
  have hal:=Lib.hid (fun o=>(Below.refl w.heap.size w).alloc (Nat.le_refl _) o)
  by_cases k2:o.kind = 2
  · have b2:((o.kind:Int) == 2) = true:=by simp;omega
    have hv:=Lib.hid (show decide (o.kind = 2∨o.kind = 3) = true from decide_eq_true (.inl k2))
    clear k2
    unfold opCells
    go_enter Try.func97,Try.ntmps97
    go_wp2_with fail
    go_ret
    exact ⟨by rw [hv.out] <;> rfl,hal.out _⟩
  · have b2:((o.kind:Int) == 2) = false:=by simp;omega
    by_cases k3:o.kind = 3
    · have b3:((o.kind:Int) == 3) = true:=by simp;omega
      have hv:=Lib.hid (show decide (o.kind = 2∨o.kind = 3) = true from decide_eq_true (.inr k3))
      clear k2 k3
      unfold opCells
      go_enter Try.func97,Try.ntmps97
      go_wp2_with fail
      go_ret
      exact ⟨by rw [hv.out] <;> rfl,hal.out _⟩
    · have b3:((o.kind:Int) == 3) = false:=by simp;omega
      have hv:=Lib.hid (show decide (o.kind = 2∨o.kind = 3) = false from decide_eq_false fun h=>by rcases h with h | h;exact k2 h;exact k3 h)
      clear k2 k3
      unfold opCells
      go_enter Try.func97,Try.ntmps97
      go_wp2_with fail
      go_ret
      exact ⟨by rw [hv.out] <;> rfl,hal.out _⟩
theorem putsIn_any (w:World) (o:Ov) (s:OS) (hk:o.kind < 256):Calls Try.prog 99 #[.agg (opCells o s)] w fun e w'=>e = .returned (.bool (decide (o.kind = 1∨o.kind = 3)))∧Below w.heap.size w w':=by
  have hal:=Lib.hid (fun o=>(Below.refl w.heap.size w).alloc (Nat.le_refl _) o)
  by_cases k2:o.kind = 1
  · have b2:((o.kind:Int) == 1) = true:=by simp;omega
    have hv:=Lib.hid (show decide (o.kind = 1∨o.kind = 3) = true from decide_eq_true (.inl k2))
    clear k2
    unfold opCells
    go_enter Try.func99,Try.ntmps99
    go_wp2_with fail
    go_ret
    exact ⟨by rw [hv.out] <;> rfl,hal.out _⟩
  · have b2:((o.kind:Int) == 1) = false:=by simp;omega
    by_cases k3:o.kind = 3
    · have b3:((o.kind:Int) == 3) = true:=by simp;omega
      have hv:=Lib.hid (show decide (o.kind = 1∨o.kind = 3) = true from decide_eq_true (.inr k3))
      clear k2 k3
      unfold opCells
      go_enter Try.func99,Try.ntmps99
      go_wp2_with fail
      go_ret
      exact ⟨by rw [hv.out] <;> rfl,hal.out _⟩
    · have b3:((o.kind:Int) == 3) = false:=by simp;omega
      have hv:=Lib.hid (show decide (o.kind = 1∨o.kind = 3) = false from decide_eq_false fun h=>by rcases h with h | h;exact k2 h;exact k3 h)
      clear k2 k3
      unfold opCells
      go_enter Try.func99,Try.ntmps99
      go_wp2_with fail
      go_ret
      exact ⟨by rw [hv.out] <;> rfl,hal.out _⟩
theorem gapFault_any (w:World) (y:Nd) (aA kA:Option Addr) (an ac kn kc:Nat) (hk:y.kids.length = kn) (i:Int):Calls Try.prog 100 #[.agg (val6 y aA an ac kA kn kc),.int .i64 i] w fun e w'=>e = .returned (.int .i64 (gapE y i))∧Below w.heap.size w w':=by
  have hal:=Lib.hid (fun o=>(Below.refl w.heap.size w).alloc (Nat.le_refl _) o)
  have hk':=Lib.hid hk
  clear hk
  unfold val6
  cases hl:y.leaf with
  | true =>
    have hv:=Lib.hid (show gapE y i = 83 by unfold gapE;rw [hl];rfl)
    clear hl
    go_enter Try.func100,Try.ntmps100
    go_wp2_with fail
    go_ret
    exact ⟨by rw [hv.out] <;> rfl,hal.out _⟩
  | false =>
    by_cases hg:(kn:Int) < i
    · have hv:=Lib.hid (show gapE y i = 81 by unfold gapE;rw [hl,hk'.out,if_pos hg];rfl)
      clear hl
      go_enter Try.func100,Try.ntmps100
      go_wp2_with fail
      go_ret
      exact ⟨by rw [hv.out] <;> rfl,hal.out _⟩
    · have hv:=Lib.hid (show gapE y i = 0 by unfold gapE;rw [hl,hk'.out,if_neg hg];rfl)
      clear hl
      go_enter Try.func100,Try.ntmps100
      go_wp2_with fail
      go_ret
      exact ⟨by rw [hv.out] <;> rfl,hal.out _⟩
theorem editFault_any (w:World) (y:Nd) (aA kA:Option Addr) (an ac kn kc:Nat) (hy:y.text.length≤10000000) (A:Option Addr) (n c:Nat) (l:List P5.IP) (hl:P5.PcsIn w A n l) (hn:n≤maxLen) (hr:P5.rightV l = true) :
    Calls Try.prog 101 #[.agg (val6 y aA an ac kA kn kc),.slice A n c] w fun e w'=>e = .returned (.int .i64 (editE y l))∧Below w.heap.size w w':=by
  have hal:=Lib.hid (fun o=>(Below.refl w.heap.size w).alloc (Nat.le_refl _) o)
  have hpr:=pcs_right hr
  unfold val6
  cases hlf:y.leaf with
  | false =>
    have hv:=Lib.hid (show editE y l = 83 by unfold editE;rw [hlf];rfl)
    clear hlf hpr
    go_enter Try.func101,Try.ntmps101
    go_wp2_with fail
    go_ret
    exact ⟨by rw [hv.out] <;> rfl,hal.out _⟩
  | true =>
    by_cases hf:Ltx.extent (pcs l)≤y.text.length
    · have hv:=Lib.hid (show editE y l = 0 by unfold editE fitE;rw [hlf,if_pos hf];rfl)
      have hap:=Lib.hid (fun W (hb:Below w.heap.size w W)=>P5.apply_ok W y.text A n c (pcs l) (by rw [hpr];exact hl.below hb) hn hy (by rw [hpr];exact hr) hf)
      clear hlf hpr hf hl hr
      go_enter Try.func101,Try.ntmps101
      go_wp2_with (go_at_call 108;refine (hap.out _ (hal.out _)).mono ?_;rintro e w7 ⟨rfl,hb7⟩;have hb7':=Lib.hid ((hal.out _).trans (hb7.mono (hal.out _).size));clear hb7)
      go_ret
      exact ⟨by rw [hv.out] <;> rfl,hb7'.out⟩
    · have hv:=Lib.hid (show editE y l = 50 by unfold editE fitE;rw [hlf,if_neg hf];rfl)
      have hap:=Lib.hid (fun W (hb:Below w.heap.size w W)=>P5.apply_far W y.text A n c (pcs l) (by rw [hpr];exact hl.below hb) hn hy (by rw [hpr];exact hr) (by omega))
      clear hlf hpr hf hl hr
      go_enter Try.func101,Try.ntmps101
      go_wp2_with (go_at_call 108;refine (hap.out _ (hal.out _)).mono ?_;rintro e w7 ⟨rfl,hb7⟩;have hb7':=Lib.hid ((hal.out _).trans (hb7.mono (hal.out _).size));clear hb7)
      go_ret
      exact ⟨by rw [hv.out] <;> rfl,hb7'.out⟩
end Go.Proofs.Ytmipodnffhngaaa

