/- MgAK: TopA TopB TopK TopBa TopBb TopBe TopBi TopBg -/
import Derived.Test.YtmipodnffhngaaaMgAI
import Derived.Test.YtmipodnffhngaaaMgAJ
import Derived.Test.YtmipodnffhngaaaMgAF
import Derived.Test.YtmipodnffhngaaaMgAH
import Derived.Test.YtmipodnffhngaaaMgAC
set_option linter.all false
namespace Go.Proofs.Ytmipodnffhngaaa
open Go.RowKit
set_option maxRecDepth 20000
set_option linter.unusedVariables false

def pcs (l:List P5.IP):List Ltx.Pc:=l.map fun x=>⟨x.keep.toNat,x.drop.toNat,x.put⟩
theorem pcs_right {l:List P5.IP} (h:P5.rightV l = true):(pcs l).map P5.ipc = l:=by
  obtain ⟨l',rfl⟩:=P5.right_pcs h
  have:pcs (l'.map P5.ipc) = l':=by
    unfold pcs
    rw [List.map_map]
    conv=>rhs;rw [← List.map_id l']
    apply List.map_congr_left
    intro x _
    simp [P5.ipc]
  rw [this]
def gapE (y:Nd) (i:Int):Int:=if y.leaf then 83 else if (y.kids.length:Int) < i then 81 else 0
def fitE (s:Txt) (l:List P5.IP):Int:=if Ltx.extent (pcs l)≤s.length then 0 else 50
def editE (x:Nd) (l:List P5.IP):Int:=if x.leaf then fitE x.text l else 83
def faultV (t:Nd) (o:Ov):Int :=
  if formedV o = false then 80 else if (o.kind = 2∨o.kind = 3)∧o.path = [] then 82 else
    match atV t o.path with
    | none=>81
    | some x=>if o.kind = 1 then gapE x o.at_ else if o.kind = 3 then (if P4.withinV o.path o.to_ then 84 else match atV t o.to_ with
        | none=>81
        | some y=>gapE y o.at_) else if o.kind = 6 then editE x o.pieces else 0
def validV (t:Nd) (o:Ov):Int:=if rightV ltB t then faultV t o else 2

theorem takesOut_any (w:World) (o:Ov) (s:OS) (hk:o.kind < 256):Calls Try.prog 97 #[.agg (opCells o s)] w fun e w'=>e = .returned (.bool (decide (o.kind = 2∨o.kind = 3)))∧Below w.heap.size w w':=by
  have hal:=Lib.hid (fun o=>(Below.refl w.heap.size w).alloc (Nat.le_refl _) o)
  by_cases k2:o.kind = 2
  · have b2:((o.kind:Int) == 2) = true:=by simp;omega
    have hv:=Lib.hid (show decide (o.kind = 2∨o.kind = 3) = true from decide_eq_true (.inl k2))
    clear k2
    unfold opCells
    go_enter Try.func97,Try.ntmps97
    go_wp2_with fail
    go_ret
    exact ⟨by rw [hv.out] <;> rfl,hal.out _⟩
  · have b2:((o.kind:Int) == 2) = false:=by simp;omega
    by_cases k3:o.kind = 3
    · have b3:((o.kind:Int) == 3) = true:=by simp;omega
      have hv:=Lib.hid (show decide (o.kind = 2∨o.kind = 3) = true from decide_eq_true (.inr k3))
      clear k2 k3
      unfold opCells
      go_enter Try.func97,Try.ntmps97
      go_wp2_with fail
      go_ret
      exact ⟨by rw [hv.out] <;> rfl,hal.out _⟩
    · have b3:((o.kind:Int) == 3) = false:=by simp;omega
      have hv:=Lib.hid (show decide (o.kind = 2∨o.kind = 3) = false from decide_eq_false fun h=>by rcases h with h | h;exact k2 h;exact k3 h)
      clear k2 k3
      unfold opCells
      go_enter Try.func97,Try.ntmps97
      go_wp2_with fail
      go_ret
      exact ⟨by rw [hv.out] <;> rfl,hal.out _⟩
theorem putsIn_any (w:World) (o:Ov) (s:OS) (hk:o.kind < 256):Calls Try.prog 99 #[.agg (opCells o s)] w fun e w'=>e = .returned (.bool (decide (o.kind = 1∨o.kind = 3)))∧Below w.heap.size w w':=by
  have hal:=Lib.hid (fun o=>(Below.refl w.heap.size w).alloc (Nat.le_refl _) o)
  by_cases k2:o.kind = 1
  · have b2:((o.kind:Int) == 1) = true:=by simp;omega
    have hv:=Lib.hid (show decide (o.kind = 1∨o.kind = 3) = true from decide_eq_true (.inl k2))
    clear k2
    unfold opCells
    go_enter Try.func99,Try.ntmps99
    go_wp2_with fail
    go_ret
    exact ⟨by rw [hv.out] <;> rfl,hal.out _⟩
  · have b2:((o.kind:Int) == 1) = false:=by simp;omega
    by_cases k3:o.kind = 3
    · have b3:((o.kind:Int) == 3) = true:=by simp;omega
      have hv:=Lib.hid (show decide (o.kind = 1∨o.kind = 3) = true from decide_eq_true (.inr k3))
      clear k2 k3
      unfold opCells
      go_enter Try.func99,Try.ntmps99
      go_wp2_with fail
      go_ret
      exact ⟨by rw [hv.out] <;> rfl,hal.out _⟩
    · have b3:((o.kind:Int) == 3) = false:=by simp;omega
      have hv:=Lib.hid (show decide (o.kind = 1∨o.kind = 3) = false from decide_eq_false fun h=>by rcases h with h | h;exact k2 h;exact k3 h)
      clear k2 k3
      unfold opCells
      go_enter Try.func99,Try.ntmps99
      go_wp2_with fail
      go_ret
      exact ⟨by rw [hv.out] <;> rfl,hal.out _⟩
theorem gapFault_any (w:World) (y:Nd) (aA kA:Option Addr) (an ac kn kc:Nat) (hk:y.kids.length = kn) (i:Int):Calls Try.prog 100 #[.agg (val6 y aA an ac kA kn kc),.int .i64 i] w fun e w'=>e = .returned (.int .i64 (gapE y i))∧Below w.heap.size w w':=by
  have hal:=Lib.hid (fun o=>(Below.refl w.heap.size w).alloc (Nat.le_refl _) o)
  have hk':=Lib.hid hk
  clear hk
  unfold val6
  cases hl:y.leaf with
  | true =>
    have hv:=Lib.hid (show gapE y i = 83 by unfold gapE;rw [hl];rfl)
    clear hl
    go_enter Try.func100,Try.ntmps100
    go_wp2_with fail
    go_ret
    exact ⟨by rw [hv.out] <;> rfl,hal.out _⟩
  | false =>
    by_cases hg:(kn:Int) < i
    · have hv:=Lib.hid (show gapE y i = 81 by unfold gapE;rw [hl,hk'.out,if_pos hg];rfl)
      clear hl
      go_enter Try.func100,Try.ntmps100
      go_wp2_with fail
      go_ret
      exact ⟨by rw [hv.out] <;> rfl,hal.out _⟩
    · have hv:=Lib.hid (show gapE y i = 0 by unfold gapE;rw [hl,hk'.out,if_neg hg];rfl)
      clear hl
      go_enter Try.func100,Try.ntmps100
      go_wp2_with fail
      go_ret
      exact ⟨by rw [hv.out] <;> rfl,hal.out _⟩
theorem editFault_any (w:World) (y:Nd) (aA kA:Option Addr) (an ac kn kc:Nat) (hy:y.text.length≤10000000) (A:Option Addr) (n c:Nat) (l:List P5.IP) (hl:P5.PcsIn w A n l) (hn:n≤maxLen) (hr:P5.rightV l = true) :
    Calls Try.prog 101 #[.agg (val6 y aA an ac kA kn kc),.slice A n c] w fun e w'=>e = .returned (.int .i64 (editE y l))∧Below w.heap.size w w':=by
  have hal:=Lib.hid (fun o=>(Below.refl w.heap.size w).alloc (Nat.le_refl _) o)
  have hpr:=pcs_right hr
  unfold val6
  cases hlf:y.leaf with
  | false =>
    have hv:=Lib.hid (show editE y l = 83 by unfold editE;rw [hlf];rfl)
    clear hlf hpr
    go_enter Try.func101,Try.ntmps101
    go_wp2_with fail
    go_ret
    exact ⟨by rw [hv.out] <;> rfl,hal.out _⟩
  | true =>
    by_cases hf:Ltx.extent (pcs l)≤y.text.length
    · have hv:=Lib.hid (show editE y l = 0 by unfold editE fitE;rw [hlf,if_pos hf];rfl)
      have hap:=Lib.hid (fun W (hb:Below w.heap.size w W)=>P5.apply_ok W y.text A n c (pcs l) (by rw [hpr];exact hl.below hb) hn hy (by rw [hpr];exact hr) hf)
      clear hlf hpr hf hl hr
      go_enter Try.func101,Try.ntmps101
      go_wp2_with (go_at_call 108;refine (hap.out _ (hal.out _)).mono ?_;rintro e w7 ⟨rfl,hb7⟩;have hb7':=Lib.hid ((hal.out _).trans (hb7.mono (hal.out _).size));clear hb7)
      go_ret
      exact ⟨by rw [hv.out] <;> rfl,hb7'.out⟩
    · have hv:=Lib.hid (show editE y l = 50 by unfold editE fitE;rw [hlf,if_neg hf];rfl)
      have hap:=Lib.hid (fun W (hb:Below w.heap.size w W)=>P5.apply_far W y.text A n c (pcs l) (by rw [hpr];exact hl.below hb) hn hy (by rw [hpr];exact hr) (by omega))
      clear hlf hpr hf hl hr
      go_enter Try.func101,Try.ntmps101
      go_wp2_with (go_at_call 108;refine (hap.out _ (hal.out _)).mono ?_;rintro e w7 ⟨rfl,hb7⟩;have hb7':=Lib.hid ((hal.out _).trans (hb7.mono (hal.out _).size));clear hb7)
      go_ret
      exact ⟨by rw [hv.out] <;> rfl,hb7'.out⟩
end Go.Proofs.Ytmipodnffhngaaa
namespace Go.Proofs.Ytmipodnffhngaaa.Top
open Go.RowKit
set_option maxRecDepth 20000
set_option linter.unusedVariables false

theorem its4 {w:World} {A:Option Addr} {n:Nat} {xs:List Int} (h:Its w A n xs):P4.Its w A n xs:=h
theorem wp_scope_once {P:Program} {a:Act} {w:World} {Q:Exit→Act→World→Prop} {c rest:Code} (l:Nat) (hf:findLabel c l = some rest)
    (first:c.wp P (Exit.jump l (fun a' w'=>rest.wp P (Exit.jump l (fun _ _=>False) Q) a' w') Q) a w):(Code.scope c).wp P Q a w :=
  wp_scope_jumps l (fun a' w'=>rest.wp P (Exit.jump l (fun _ _=>False) Q) a' w') (fun _ _=>0) hf first fun a w h=>Code.wp_mono (fun e a w hq=>by
    cases e <;> first | exact hq | exact absurd hq.2 id) h
structure Four (w:World) (v2 v3 v5 v6:Array Value) (W:World):Prop where
  rn:W.heap[w.heap.size]? = some (.cells v2 33 (0,0))
  ro:W.heap[w.heap.size + 1]? = some (.cells v3 26 (0,0))
  r5:W.heap[w.heap.size + 1 + 1]? = some (.cells v5 33 (0,0))
  r6:W.heap[w.heap.size + 1 + 1 + 1]? = some (.cells v6 33 (0,0))
  bel:Below w.heap.size w W
section
variable {w W W':World} {v2 v3 v5 v6:Array Value}
theorem Four.below (h:Four w v2 v3 v5 v6 W) (hb:Below W.heap.size W W'):Four w v2 v3 v5 v6 W' :=
  ⟨(hb.block _ (Array.getElem?_eq_some_iff.1 h.rn).1).trans h.rn,(hb.block _ (Array.getElem?_eq_some_iff.1 h.ro).1).trans h.ro,(hb.block _ (Array.getElem?_eq_some_iff.1 h.r5).1).trans h.r5,(hb.block _ (Array.getElem?_eq_some_iff.1 h.r6).1).trans h.r6,h.bel.trans (hb.mono h.bel.size)⟩
theorem Four.drew (h:Four w v2 v3 v5 v6 W) {k:Nat} (e:W' = W.drewN k):Four w v2 v3 v5 v6 W':=by
  subst e
  exact h.below (draws (Below.refl _ _) k)
theorem Four.start (w:World) (v2 v3 v5 v6:Array Value) :
    Four w v2 v3 v5 v6 ((((w.alloc (.cells v2 33)).alloc (.cells v3 26)).alloc (.cells v5 33)).alloc (.cells v6 33)):=by
  have h1:=heap_alloc_new w (.cells v2 33)
  have h2:=heap_alloc_new (w.alloc (.cells v2 33)) (.cells v3 26)
  have h3:=heap_alloc_new ((w.alloc (.cells v2 33)).alloc (.cells v3 26)) (.cells v5 33)
  have h4:=heap_alloc_new (((w.alloc (.cells v2 33)).alloc (.cells v3 26)).alloc (.cells v5 33)) (.cells v6 33)
  rw [World.size_alloc] at h2
  rw [World.size_alloc,World.size_alloc] at h3
  rw [World.size_alloc,World.size_alloc,World.size_alloc] at h4
  refine ⟨(Go.heap_alloc_old _ _ (by simp <;> omega)).trans ((Go.heap_alloc_old _ _ (by simp <;> omega)).trans ((Go.heap_alloc_old _ _ (by simp)).trans h1)),(Go.heap_alloc_old _ _ (by simp <;> omega)).trans ((Go.heap_alloc_old _ _ (by simp)).trans h2),(Go.heap_alloc_old _ _ (by simp)).trans h3,h4,
    ((((Below.refl _ _).alloc (Nat.le_refl _) _).alloc (by simp) _).alloc (by simp <;> omega) _).alloc (by simp <;> omega) _⟩
theorem Four.set5 {a0 a1 a2 a3 a4 a5:Value} (h:Four w v2 v3 #[a0,a1,a2,a3,a4,a5] v6 W) (b0 b1 b2 b3 b4 b5:Value):Four w v2 v3 #[b0,b1,b2,b3,b4,b5] v6
    ((((((W.setCell ⟨w.heap.size + 1 + 1,0,none⟩ b0).setCell ⟨w.heap.size + 1 + 1,1,none⟩ b1).setCell ⟨w.heap.size + 1 + 1,2,none⟩ b2).setCell ⟨w.heap.size + 1 + 1,3,none⟩ b3).setCell ⟨w.heap.size + 1 + 1,4,none⟩ b4).setCell ⟨w.heap.size + 1 + 1,5,none⟩ b5) :=
  ⟨(set_six_other (by omega)).trans h.rn,(set_six_other (by omega)).trans h.ro,set_six h.r5,(set_six_other (by omega)).trans h.r6,below_six h.bel (by omega)⟩
theorem Four.set6 {a0 a1 a2 a3 a4 a5:Value} (h:Four w v2 v3 v5 #[a0,a1,a2,a3,a4,a5] W) (b0 b1 b2 b3 b4 b5:Value):Four w v2 v3 v5 #[b0,b1,b2,b3,b4,b5]
    ((((((W.setCell ⟨w.heap.size + 1 + 1 + 1,0,none⟩ b0).setCell ⟨w.heap.size + 1 + 1 + 1,1,none⟩ b1).setCell ⟨w.heap.size + 1 + 1 + 1,2,none⟩ b2).setCell ⟨w.heap.size + 1 + 1 + 1,3,none⟩ b3).setCell ⟨w.heap.size + 1 + 1 + 1,4,none⟩ b4).setCell ⟨w.heap.size + 1 + 1 + 1,5,none⟩ b5) :=
  ⟨(set_six_other (by omega)).trans h.rn,(set_six_other (by omega)).trans h.ro,(set_six_other (by omega)).trans h.r5,set_six h.r6,below_six h.bel (by omega)⟩
end
theorem op_cells {W:World} {b:Nat} {o:Ov} {s:OS} (h:W.heap[b]? = some (.cells (opCells o s) 26 (0,0))):W.cell? ⟨b,0,none⟩ = some (.int .u8 (o.kind:Int))∧W.cell? ⟨b,1,none⟩ = some (.slice s.pA s.pn s.pc)∧W.cell? ⟨b,2,none⟩ = some (.int .i64 o.at_)∧W.cell? ⟨b,3,none⟩ = some (.slice s.tA s.tn s.tc)∧W.cell? ⟨b,4,none⟩ = some (.int .u64 (o.id:Int)) ∧
    W.cell? ⟨b,5,none⟩ = some (.bool o.leaf)∧W.cell? ⟨b,6,none⟩ = some (.string ⟨o.label.toArray⟩)∧W.cell? ⟨b,7,none⟩ = some (.string ⟨o.key.toArray⟩)∧W.cell? ⟨b,8,none⟩ = some (.string ⟨o.value.toArray⟩)∧W.cell? ⟨b,9,none⟩ = some (.bool o.gone)∧W.cell? ⟨b,10,none⟩ = some (.slice s.qA s.qn s.qc):=by
  unfold opCells at h
  exact ⟨cell_of_row W b 0 _ _ _ h,cell_of_row W b 1 _ _ _ h,cell_of_row W b 2 _ _ _ h,cell_of_row W b 3 _ _ _ h,cell_of_row W b 4 _ _ _ h,cell_of_row W b 5 _ _ _ h,cell_of_row W b 6 _ _ _ h,cell_of_row W b 7 _ _ _ h,cell_of_row W b 8 _ _ _ h,cell_of_row W b 9 _ _ _ h,cell_of_row W b 10 _ _ _ h⟩
set_option maxHeartbeats 8000000 in
theorem fault_c0 (w:World) (t:Nd) (aA kA:Option Addr) (an ac kn kc:Nat) (o:Ov) (s:OS) (h:NodeV (Old w) w aA an ac kA kn kc t) (ho:OpIn w o s) (hbig:weighV t≤1000000) (hf:formedV o = false) :
    Calls Try.prog 60 #[.agg (val6 t aA an ac kA kn kc),.agg (opCells o s)] w fun e w'=>e = .returned (.int .i64 (80))∧Below w.heap.size w w':=by
  obtain ⟨v2,hv2⟩:∃ v2,v2 = val6 t aA an ac kA kn kc:=⟨_,rfl⟩
  obtain ⟨v3,hv3⟩:∃ v3,v3 = opCells o s:=⟨_,rfl⟩
  have hF1:=Lib.hid (Four.start w (val6 t aA an ac kA kn kc) (opCells o s) zero6 zero6)
  have hn:=Lib.hid (fun W (hb:Below w.heap.size w W)=>h.below hb)
  have hop:=Lib.hid (fun W (hb:Below w.heap.size w W)=>ho.below hb)
  have ho':=Lib.hid ho
  have hbig':=Lib.hid hbig
  have hpm:=Nat.le_trans ho.pnc ho.pcm
  have htm:=Nat.le_trans ho.tnc ho.tcm
  have hqm:=Nat.le_trans ho.qnc ho.qcm
  have hpm':=Lib.hid hpm
  have htm':=Lib.hid htm
  have hqm':=Lib.hid hqm
  have hkr:=ho.kind
  have hf':=Lib.hid hf
  clear hf
  clear h ho hbig hv2 v2 hv3 v3 hpm htm hqm
  unfold zero6 val6 opCells at hF1
  unfold val6 opCells
  go_enter Try.func60,Try.ntmps60
  go_wp2_with fail
  refine wp_scope_once 0 rfl ?_
  go_wp2_with (first
    | (go_at_call 14;go_loud (refine (formed_any _ o s (hop.out _ hF1.out.bel)).mono ?_;rintro e w2 ⟨rfl,hb⟩;rw [hf'.out];have hFz:=Lib.hid (hF1.out.below hb);(try (clear o0 o1 o2 o3 o4 o5 o6 o7 o8 o9 o10));(try (clear n0 n1 n2 n3 n4 n5 nf));(try (clear p0 p1 p2 p3 p4 p5 pf));(try (clear q0 q1 q2 q3 q4 q5 qf));obtain ⟨o0,o1,o2,o3,o4,o5,o6,o7,o8,o9,o10⟩:=op_cells hFz.out.ro;clear hb)))
  go_step3
  refine ⟨rfl,?_⟩
  go_wp2_with fail
  try simp only [Exit.jump]
  go_ret
  exact ⟨rfl,by first | exact hFz.out.bel | exact below_six hFz.out.bel (by omega)⟩
set_option maxHeartbeats 8000000 in
theorem fault_c1 (w:World) (t:Nd) (aA kA:Option Addr) (an ac kn kc:Nat) (o:Ov) (s:OS) (h:NodeV (Old w) w aA an ac kA kn kc t) (ho:OpIn w o s) (hbig:weighV t≤1000000) (hf:formedV o = true) (hk:o.kind = 2∨o.kind = 3) (hp:o.path = []) :
    Calls Try.prog 60 #[.agg (val6 t aA an ac kA kn kc),.agg (opCells o s)] w fun e w'=>e = .returned (.int .i64 (82))∧Below w.heap.size w w':=by
  obtain ⟨v2,hv2⟩:∃ v2,v2 = val6 t aA an ac kA kn kc:=⟨_,rfl⟩
  obtain ⟨v3,hv3⟩:∃ v3,v3 = opCells o s:=⟨_,rfl⟩
  have hF1:=Lib.hid (Four.start w (val6 t aA an ac kA kn kc) (opCells o s) zero6 zero6)
  have hn:=Lib.hid (fun W (hb:Below w.heap.size w W)=>h.below hb)
  have hop:=Lib.hid (fun W (hb:Below w.heap.size w W)=>ho.below hb)
  have ho':=Lib.hid ho
  have hbig':=Lib.hid hbig
  have hpm:=Nat.le_trans ho.pnc ho.pcm
  have htm:=Nat.le_trans ho.tnc ho.tcm
  have hqm:=Nat.le_trans ho.qnc ho.qcm
  have hpm':=Lib.hid hpm
  have htm':=Lib.hid htm
  have hqm':=Lib.hid hqm
  have hkr:=ho.kind
  have hf':=Lib.hid hf
  clear hf
  have htk:=Lib.hid (show decide (o.kind = 2∨o.kind = 3) = true from decide_eq_true hk)
  have hplen:s.pn = 0:=by have:=ho'.out.path.1;rw [hp] at this;exact this.symm
  have hplen2:((s.pn:Int) == 0) = true:=by simp;omega
  clear hplen hp hk
  clear h ho hbig hv2 v2 hv3 v3 hpm htm hqm
  unfold zero6 val6 opCells at hF1
  unfold val6 opCells
  go_enter Try.func60,Try.ntmps60
  go_wp2_with fail
  refine wp_scope_once 0 rfl ?_
  go_wp2_with (first
    | (go_at_call 14;go_loud (refine (formed_any _ o s (hop.out _ hF1.out.bel)).mono ?_;rintro e w2 ⟨rfl,hb⟩;rw [hf'.out];have hF2:=Lib.hid (hF1.out.below hb);(try (clear o0 o1 o2 o3 o4 o5 o6 o7 o8 o9 o10));(try (clear n0 n1 n2 n3 n4 n5 nf));(try (clear p0 p1 p2 p3 p4 p5 pf));(try (clear q0 q1 q2 q3 q4 q5 qf));obtain ⟨o0,o1,o2,o3,o4,o5,o6,o7,o8,o9,o10⟩:=op_cells hF2.out.ro;clear hb))
    | (go_at_call 97;go_loud (refine (takesOut_any _ o s ho'.out.kind).mono ?_;rintro e w3 ⟨rfl,hb⟩;rw [htk.out];have hFz:=Lib.hid (hF2.out.below hb);(try (clear o0 o1 o2 o3 o4 o5 o6 o7 o8 o9 o10));(try (clear n0 n1 n2 n3 n4 n5 nf));(try (clear p0 p1 p2 p3 p4 p5 pf));(try (clear q0 q1 q2 q3 q4 q5 qf));obtain ⟨o0,o1,o2,o3,o4,o5,o6,o7,o8,o9,o10⟩:=op_cells hFz.out.ro;obtain ⟨n0,n1,n2,n3,n4,n5,nf⟩:=six_cells hFz.out.rn;clear hb)))
  go_step3
  refine ⟨rfl,?_⟩
  go_wp2_with fail
  try simp only [Exit.jump]
  go_ret
  exact ⟨rfl,by first | exact hFz.out.bel | exact below_six hFz.out.bel (by omega)⟩
set_option maxHeartbeats 8000000 in
theorem fault_c2a (w:World) (t:Nd) (aA kA:Option Addr) (an ac kn kc:Nat) (o:Ov) (s:OS) (h:NodeV (Old w) w aA an ac kA kn kc t) (ho:OpIn w o s) (hbig:weighV t≤1000000) (hf:formedV o = true) (hk:o.kind = 2∨o.kind = 3) (hp:o.path ≠ []) (hx:atV t o.path = none) :
    Calls Try.prog 60 #[.agg (val6 t aA an ac kA kn kc),.agg (opCells o s)] w fun e w'=>e = .returned (.int .i64 (81))∧Below w.heap.size w w':=by
  obtain ⟨v2,hv2⟩:∃ v2,v2 = val6 t aA an ac kA kn kc:=⟨_,rfl⟩
  obtain ⟨v3,hv3⟩:∃ v3,v3 = opCells o s:=⟨_,rfl⟩
  have hF1:=Lib.hid (Four.start w (val6 t aA an ac kA kn kc) (opCells o s) zero6 zero6)
  have hn:=Lib.hid (fun W (hb:Below w.heap.size w W)=>h.below hb)
  have hop:=Lib.hid (fun W (hb:Below w.heap.size w W)=>ho.below hb)
  have ho':=Lib.hid ho
  have hbig':=Lib.hid hbig
  have hpm:=Nat.le_trans ho.pnc ho.pcm
  have htm:=Nat.le_trans ho.tnc ho.tcm
  have hqm:=Nat.le_trans ho.qnc ho.qcm
  have hpm':=Lib.hid hpm
  have htm':=Lib.hid htm
  have hqm':=Lib.hid hqm
  have hkr:=ho.kind
  have hf':=Lib.hid hf
  clear hf
  have htk:=Lib.hid (show decide (o.kind = 2∨o.kind = 3) = true from decide_eq_true hk)
  have hplen:¬ ((s.pn:Int) = 0):=by
    have:=ho'.out.path.1
    cases hc:o.path with
    | nil=>exact absurd hc hp
    | cons a b=>rw [hc] at this;simp at this;omega
  have hplen2:((s.pn:Int) == 0) = false:=by simpa using hplen
  clear hplen hp
  have hx':=Lib.hid hx
  clear hx
  clear hk
  clear h ho hbig hv2 v2 hv3 v3 hpm htm hqm
  unfold zero6 val6 opCells at hF1
  unfold val6 opCells
  go_enter Try.func60,Try.ntmps60
  go_wp2_with fail
  refine wp_scope_once 0 rfl ?_
  go_wp2_with (first
    | (go_at_call 14;go_loud (refine (formed_any _ o s (hop.out _ hF1.out.bel)).mono ?_;rintro e w2 ⟨rfl,hb⟩;rw [hf'.out];have hF2:=Lib.hid (hF1.out.below hb);(try (clear o0 o1 o2 o3 o4 o5 o6 o7 o8 o9 o10));(try (clear n0 n1 n2 n3 n4 n5 nf));(try (clear p0 p1 p2 p3 p4 p5 pf));(try (clear q0 q1 q2 q3 q4 q5 qf));obtain ⟨o0,o1,o2,o3,o4,o5,o6,o7,o8,o9,o10⟩:=op_cells hF2.out.ro;clear hb))
    | (go_at_call 97;go_loud (refine (takesOut_any _ o s ho'.out.kind).mono ?_;rintro e w3 ⟨rfl,hb⟩;rw [htk.out];have hF3:=Lib.hid (hF2.out.below hb);(try (clear o0 o1 o2 o3 o4 o5 o6 o7 o8 o9 o10));(try (clear n0 n1 n2 n3 n4 n5 nf));(try (clear p0 p1 p2 p3 p4 p5 pf));(try (clear q0 q1 q2 q3 q4 q5 qf));obtain ⟨o0,o1,o2,o3,o4,o5,o6,o7,o8,o9,o10⟩:=op_cells hF3.out.ro;obtain ⟨n0,n1,n2,n3,n4,n5,nf⟩:=six_cells hF3.out.rn;clear hb))
    | (go_at_call 36;go_at_call_of 36 s.pA;go_loud (refine (at_any _ t aA kA an ac kn kc (hn.out _ hF3.out.bel) s.pA s.pn s.pc o.path (hop.out _ hF3.out.bel).path hpm'.out hbig'.out).mono ?_;rintro e w4 ⟨xA,xn,xc,xK,xm,xd,rfl,hnx,hb⟩;clear hnx;rw [hx'.out];unfold val6;have hFz:=Lib.hid (hF3.out.below hb);(try (clear o0 o1 o2 o3 o4 o5 o6 o7 o8 o9 o10));(try (clear n0 n1 n2 n3 n4 n5 nf));(try (clear p0 p1 p2 p3 p4 p5 pf));(try (clear q0 q1 q2 q3 q4 q5 qf));obtain ⟨p0,p1,p2,p3,p4,p5,pf⟩:=six_cells hFz.out.r5;clear hb)))
  go_step3
  refine ⟨rfl,?_⟩
  go_wp2_with fail
  try simp only [Exit.jump]
  go_ret
  exact ⟨rfl,by first | exact hFz.out.bel | exact below_six hFz.out.bel (by omega)⟩
set_option maxHeartbeats 8000000 in
theorem fault_kxa (w:World) (t:Nd) (aA kA:Option Addr) (an ac kn kc:Nat) (o:Ov) (s:OS) (h:NodeV (Old w) w aA an ac kA kn kc t) (ho:OpIn w o s) (hbig:weighV t≤1000000) (hf:formedV o = true) (hk:o.kind = 2∨o.kind = 3) (hp:o.path ≠ []) (h1:o.kind ≠ 1) (h3:o.kind ≠ 3) (h6:o.kind ≠ 6) (x:Nd) (hx:atV t o.path = some x) :
    Calls Try.prog 60 #[.agg (val6 t aA an ac kA kn kc),.agg (opCells o s)] w fun e w'=>e = .returned (.int .i64 (0))∧Below w.heap.size w w':=by
  obtain ⟨v2,hv2⟩:∃ v2,v2 = val6 t aA an ac kA kn kc:=⟨_,rfl⟩
  obtain ⟨v3,hv3⟩:∃ v3,v3 = opCells o s:=⟨_,rfl⟩
  have hF1:=Lib.hid (Four.start w (val6 t aA an ac kA kn kc) (opCells o s) zero6 zero6)
  have hn:=Lib.hid (fun W (hb:Below w.heap.size w W)=>h.below hb)
  have hop:=Lib.hid (fun W (hb:Below w.heap.size w W)=>ho.below hb)
  have ho':=Lib.hid ho
  have hbig':=Lib.hid hbig
  have hpm:=Nat.le_trans ho.pnc ho.pcm
  have htm:=Nat.le_trans ho.tnc ho.tcm
  have hqm:=Nat.le_trans ho.qnc ho.qcm
  have hpm':=Lib.hid hpm
  have htm':=Lib.hid htm
  have hqm':=Lib.hid hqm
  have hkr:=ho.kind
  have hf':=Lib.hid hf
  clear hf
  have htk:=Lib.hid (show decide (o.kind = 2∨o.kind = 3) = true from decide_eq_true hk)
  have hpi:=Lib.hid (show decide (o.kind = 1∨o.kind = 3) = false from decide_eq_false fun h=>by rcases h with h | h;exact h1 h;exact h3 h)
  have hplen:¬ ((s.pn:Int) = 0):=by
    have:=ho'.out.path.1
    cases hc:o.path with
    | nil=>exact absurd hc hp
    | cons a b=>rw [hc] at this;simp at this;omega
  have hplen2:((s.pn:Int) == 0) = false:=by simpa using hplen
  clear hplen hp
  have hx':=Lib.hid hx
  clear hx
  have b3:((o.kind:Int) == 3) = false:=by simp;omega
  have b6:((o.kind:Int) == 6) = false:=by simp;omega
  clear hk h1 h3 h6
  clear h ho hbig hv2 v2 hv3 v3 hpm htm hqm
  unfold zero6 val6 opCells at hF1
  unfold val6 opCells
  go_enter Try.func60,Try.ntmps60
  go_wp2_with fail
  refine wp_scope_once 0 rfl ?_
  go_wp2_with (first
    | (go_at_call 14;go_loud (refine (formed_any _ o s (hop.out _ hF1.out.bel)).mono ?_;rintro e w2 ⟨rfl,hb⟩;rw [hf'.out];have hF2:=Lib.hid (hF1.out.below hb);(try (clear o0 o1 o2 o3 o4 o5 o6 o7 o8 o9 o10));(try (clear n0 n1 n2 n3 n4 n5 nf));(try (clear p0 p1 p2 p3 p4 p5 pf));(try (clear q0 q1 q2 q3 q4 q5 qf));obtain ⟨o0,o1,o2,o3,o4,o5,o6,o7,o8,o9,o10⟩:=op_cells hF2.out.ro;clear hb))
    | (go_at_call 97;go_loud (refine (takesOut_any _ o s ho'.out.kind).mono ?_;rintro e w3 ⟨rfl,hb⟩;rw [htk.out];have hF3:=Lib.hid (hF2.out.below hb);(try (clear o0 o1 o2 o3 o4 o5 o6 o7 o8 o9 o10));(try (clear n0 n1 n2 n3 n4 n5 nf));(try (clear p0 p1 p2 p3 p4 p5 pf));(try (clear q0 q1 q2 q3 q4 q5 qf));obtain ⟨o0,o1,o2,o3,o4,o5,o6,o7,o8,o9,o10⟩:=op_cells hF3.out.ro;obtain ⟨n0,n1,n2,n3,n4,n5,nf⟩:=six_cells hF3.out.rn;clear hb))
    | (go_at_call 36;go_at_call_of 36 s.pA;go_loud (refine (at_any _ t aA kA an ac kn kc (hn.out _ hF3.out.bel) s.pA s.pn s.pc o.path (hop.out _ hF3.out.bel).path hpm'.out hbig'.out).mono ?_;rintro e w4 ⟨xA,xn,xc,xK,xm,xd,rfl,hnx,hb⟩;rw [hx'.out] at hnx ⊢;have hxk:=hnx.facts.kl;unfold val6;have hF4:=Lib.hid (hF3.out.below hb);(try (clear o0 o1 o2 o3 o4 o5 o6 o7 o8 o9 o10));(try (clear n0 n1 n2 n3 n4 n5 nf));(try (clear p0 p1 p2 p3 p4 p5 pf));(try (clear q0 q1 q2 q3 q4 q5 qf));obtain ⟨o0,o1,o2,o3,o4,o5,o6,o7,o8,o9,o10⟩:=op_cells hF4.out.ro;obtain ⟨p0,p1,p2,p3,p4,p5,pf⟩:=six_cells hF4.out.r5;obtain ⟨q0,q1,q2,q3,q4,q5,qf⟩:=six_cells hF4.out.r6;clear hb))
    | (go_at_call 99;go_loud (have hG:=((hF4.out.set5 (.int .u64 (x.id:Int)) (.bool x.leaf) (.string ⟨x.label.toArray⟩) (.slice xA xn xc) (.string ⟨x.text.toArray⟩) (.slice xK xm xd)).set6 (.int .u64 (x.id:Int)) (.bool x.leaf) (.string ⟨x.label.toArray⟩) (.slice xA xn xc) (.string ⟨x.text.toArray⟩) (.slice xK xm xd));refine (putsIn_any _ o s ho'.out.kind).mono ?_;rintro e w7 ⟨rfl,hb⟩;rw [hpi.out];have hFz:=Lib.hid (hG.below hb);(try (clear o0 o1 o2 o3 o4 o5 o6 o7 o8 o9 o10));(try (clear n0 n1 n2 n3 n4 n5 nf));(try (clear p0 p1 p2 p3 p4 p5 pf));(try (clear q0 q1 q2 q3 q4 q5 qf));obtain ⟨o0,o1,o2,o3,o4,o5,o6,o7,o8,o9,o10⟩:=op_cells hFz.out.ro;obtain ⟨p0,p1,p2,p3,p4,p5,pf⟩:=six_cells hFz.out.r5;obtain ⟨q0,q1,q2,q3,q4,q5,qf⟩:=six_cells hFz.out.r6;clear hb)))
  go_step3
  go_wp2_with fail
  try simp only [Exit.jump]
  go_ret
  exact ⟨rfl,by first | exact hFz.out.bel | exact below_six hFz.out.bel (by omega)⟩
set_option maxHeartbeats 8000000 in
theorem fault_c2b (w:World) (t:Nd) (aA kA:Option Addr) (an ac kn kc:Nat) (o:Ov) (s:OS) (h:NodeV (Old w) w aA an ac kA kn kc t) (ho:OpIn w o s) (hbig:weighV t≤1000000) (hf:formedV o = true) (hk:¬ (o.kind = 2∨o.kind = 3)) (hx:atV t o.path = none) :
    Calls Try.prog 60 #[.agg (val6 t aA an ac kA kn kc),.agg (opCells o s)] w fun e w'=>e = .returned (.int .i64 (81))∧Below w.heap.size w w':=by
  obtain ⟨v2,hv2⟩:∃ v2,v2 = val6 t aA an ac kA kn kc:=⟨_,rfl⟩
  obtain ⟨v3,hv3⟩:∃ v3,v3 = opCells o s:=⟨_,rfl⟩
  have hF1:=Lib.hid (Four.start w (val6 t aA an ac kA kn kc) (opCells o s) zero6 zero6)
  have hn:=Lib.hid (fun W (hb:Below w.heap.size w W)=>h.below hb)
  have hop:=Lib.hid (fun W (hb:Below w.heap.size w W)=>ho.below hb)
  have ho':=Lib.hid ho
  have hbig':=Lib.hid hbig
  have hpm:=Nat.le_trans ho.pnc ho.pcm
  have htm:=Nat.le_trans ho.tnc ho.tcm
  have hqm:=Nat.le_trans ho.qnc ho.qcm
  have hpm':=Lib.hid hpm
  have htm':=Lib.hid htm
  have hqm':=Lib.hid hqm
  have hkr:=ho.kind
  have hf':=Lib.hid hf
  clear hf
  have htk:=Lib.hid (show decide (o.kind = 2∨o.kind = 3) = false from decide_eq_false hk)
  have hx':=Lib.hid hx
  clear hx
  clear hk
  clear h ho hbig hv2 v2 hv3 v3 hpm htm hqm
  unfold zero6 val6 opCells at hF1
  unfold val6 opCells
  go_enter Try.func60,Try.ntmps60
  go_wp2_with fail
  refine wp_scope_once 0 rfl ?_
  go_wp2_with (first
    | (go_at_call 14;go_loud (refine (formed_any _ o s (hop.out _ hF1.out.bel)).mono ?_;rintro e w2 ⟨rfl,hb⟩;rw [hf'.out];have hF2:=Lib.hid (hF1.out.below hb);(try (clear o0 o1 o2 o3 o4 o5 o6 o7 o8 o9 o10));(try (clear n0 n1 n2 n3 n4 n5 nf));(try (clear p0 p1 p2 p3 p4 p5 pf));(try (clear q0 q1 q2 q3 q4 q5 qf));obtain ⟨o0,o1,o2,o3,o4,o5,o6,o7,o8,o9,o10⟩:=op_cells hF2.out.ro;clear hb))
    | (go_at_call 97;go_loud (refine (takesOut_any _ o s ho'.out.kind).mono ?_;rintro e w3 ⟨rfl,hb⟩;rw [htk.out];have hF3:=Lib.hid (hF2.out.below hb);(try (clear o0 o1 o2 o3 o4 o5 o6 o7 o8 o9 o10));(try (clear n0 n1 n2 n3 n4 n5 nf));(try (clear p0 p1 p2 p3 p4 p5 pf));(try (clear q0 q1 q2 q3 q4 q5 qf));obtain ⟨o0,o1,o2,o3,o4,o5,o6,o7,o8,o9,o10⟩:=op_cells hF3.out.ro;obtain ⟨n0,n1,n2,n3,n4,n5,nf⟩:=six_cells hF3.out.rn;clear hb))
    | (go_at_call 36;go_at_call_of 36 s.pA;go_loud (refine (at_any _ t aA kA an ac kn kc (hn.out _ hF3.out.bel) s.pA s.pn s.pc o.path (hop.out _ hF3.out.bel).path hpm'.out hbig'.out).mono ?_;rintro e w4 ⟨xA,xn,xc,xK,xm,xd,rfl,hnx,hb⟩;clear hnx;rw [hx'.out];unfold val6;have hFz:=Lib.hid (hF3.out.below hb);(try (clear o0 o1 o2 o3 o4 o5 o6 o7 o8 o9 o10));(try (clear n0 n1 n2 n3 n4 n5 nf));(try (clear p0 p1 p2 p3 p4 p5 pf));(try (clear q0 q1 q2 q3 q4 q5 qf));obtain ⟨p0,p1,p2,p3,p4,p5,pf⟩:=six_cells hFz.out.r5;clear hb)))
  go_step3
  refine ⟨rfl,?_⟩
  go_wp2_with fail
  try simp only [Exit.jump]
  go_ret
  exact ⟨rfl,by first | exact hFz.out.bel | exact below_six hFz.out.bel (by omega)⟩
set_option maxHeartbeats 8000000 in
theorem fault_kxb (w:World) (t:Nd) (aA kA:Option Addr) (an ac kn kc:Nat) (o:Ov) (s:OS) (h:NodeV (Old w) w aA an ac kA kn kc t) (ho:OpIn w o s) (hbig:weighV t≤1000000) (hf:formedV o = true) (hk:¬ (o.kind = 2∨o.kind = 3)) (h1:o.kind ≠ 1) (h3:o.kind ≠ 3) (h6:o.kind ≠ 6) (x:Nd) (hx:atV t o.path = some x) :
    Calls Try.prog 60 #[.agg (val6 t aA an ac kA kn kc),.agg (opCells o s)] w fun e w'=>e = .returned (.int .i64 (0))∧Below w.heap.size w w':=by
  obtain ⟨v2,hv2⟩:∃ v2,v2 = val6 t aA an ac kA kn kc:=⟨_,rfl⟩
  obtain ⟨v3,hv3⟩:∃ v3,v3 = opCells o s:=⟨_,rfl⟩
  have hF1:=Lib.hid (Four.start w (val6 t aA an ac kA kn kc) (opCells o s) zero6 zero6)
  have hn:=Lib.hid (fun W (hb:Below w.heap.size w W)=>h.below hb)
  have hop:=Lib.hid (fun W (hb:Below w.heap.size w W)=>ho.below hb)
  have ho':=Lib.hid ho
  have hbig':=Lib.hid hbig
  have hpm:=Nat.le_trans ho.pnc ho.pcm
  have htm:=Nat.le_trans ho.tnc ho.tcm
  have hqm:=Nat.le_trans ho.qnc ho.qcm
  have hpm':=Lib.hid hpm
  have htm':=Lib.hid htm
  have hqm':=Lib.hid hqm
  have hkr:=ho.kind
  have hf':=Lib.hid hf
  clear hf
  have htk:=Lib.hid (show decide (o.kind = 2∨o.kind = 3) = false from decide_eq_false hk)
  have hpi:=Lib.hid (show decide (o.kind = 1∨o.kind = 3) = false from decide_eq_false fun h=>by rcases h with h | h;exact h1 h;exact h3 h)
  have hx':=Lib.hid hx
  clear hx
  have b3:((o.kind:Int) == 3) = false:=by simp;omega
  have b6:((o.kind:Int) == 6) = false:=by simp;omega
  clear hk h1 h3 h6
  clear h ho hbig hv2 v2 hv3 v3 hpm htm hqm
  unfold zero6 val6 opCells at hF1
  unfold val6 opCells
  go_enter Try.func60,Try.ntmps60
  go_wp2_with fail
  refine wp_scope_once 0 rfl ?_
  go_wp2_with (first
    | (go_at_call 14;go_loud (refine (formed_any _ o s (hop.out _ hF1.out.bel)).mono ?_;rintro e w2 ⟨rfl,hb⟩;rw [hf'.out];have hF2:=Lib.hid (hF1.out.below hb);(try (clear o0 o1 o2 o3 o4 o5 o6 o7 o8 o9 o10));(try (clear n0 n1 n2 n3 n4 n5 nf));(try (clear p0 p1 p2 p3 p4 p5 pf));(try (clear q0 q1 q2 q3 q4 q5 qf));obtain ⟨o0,o1,o2,o3,o4,o5,o6,o7,o8,o9,o10⟩:=op_cells hF2.out.ro;clear hb))
    | (go_at_call 97;go_loud (refine (takesOut_any _ o s ho'.out.kind).mono ?_;rintro e w3 ⟨rfl,hb⟩;rw [htk.out];have hF3:=Lib.hid (hF2.out.below hb);(try (clear o0 o1 o2 o3 o4 o5 o6 o7 o8 o9 o10));(try (clear n0 n1 n2 n3 n4 n5 nf));(try (clear p0 p1 p2 p3 p4 p5 pf));(try (clear q0 q1 q2 q3 q4 q5 qf));obtain ⟨o0,o1,o2,o3,o4,o5,o6,o7,o8,o9,o10⟩:=op_cells hF3.out.ro;obtain ⟨n0,n1,n2,n3,n4,n5,nf⟩:=six_cells hF3.out.rn;clear hb))
    | (go_at_call 36;go_at_call_of 36 s.pA;go_loud (refine (at_any _ t aA kA an ac kn kc (hn.out _ hF3.out.bel) s.pA s.pn s.pc o.path (hop.out _ hF3.out.bel).path hpm'.out hbig'.out).mono ?_;rintro e w4 ⟨xA,xn,xc,xK,xm,xd,rfl,hnx,hb⟩;rw [hx'.out] at hnx ⊢;have hxk:=hnx.facts.kl;unfold val6;have hF4:=Lib.hid (hF3.out.below hb);(try (clear o0 o1 o2 o3 o4 o5 o6 o7 o8 o9 o10));(try (clear n0 n1 n2 n3 n4 n5 nf));(try (clear p0 p1 p2 p3 p4 p5 pf));(try (clear q0 q1 q2 q3 q4 q5 qf));obtain ⟨o0,o1,o2,o3,o4,o5,o6,o7,o8,o9,o10⟩:=op_cells hF4.out.ro;obtain ⟨p0,p1,p2,p3,p4,p5,pf⟩:=six_cells hF4.out.r5;obtain ⟨q0,q1,q2,q3,q4,q5,qf⟩:=six_cells hF4.out.r6;clear hb))
    | (go_at_call 99;go_loud (have hG:=((hF4.out.set5 (.int .u64 (x.id:Int)) (.bool x.leaf) (.string ⟨x.label.toArray⟩) (.slice xA xn xc) (.string ⟨x.text.toArray⟩) (.slice xK xm xd)).set6 (.int .u64 (x.id:Int)) (.bool x.leaf) (.string ⟨x.label.toArray⟩) (.slice xA xn xc) (.string ⟨x.text.toArray⟩) (.slice xK xm xd));refine (putsIn_any _ o s ho'.out.kind).mono ?_;rintro e w7 ⟨rfl,hb⟩;rw [hpi.out];have hFz:=Lib.hid (hG.below hb);(try (clear o0 o1 o2 o3 o4 o5 o6 o7 o8 o9 o10));(try (clear n0 n1 n2 n3 n4 n5 nf));(try (clear p0 p1 p2 p3 p4 p5 pf));(try (clear q0 q1 q2 q3 q4 q5 qf));obtain ⟨o0,o1,o2,o3,o4,o5,o6,o7,o8,o9,o10⟩:=op_cells hFz.out.ro;obtain ⟨p0,p1,p2,p3,p4,p5,pf⟩:=six_cells hFz.out.r5;obtain ⟨q0,q1,q2,q3,q4,q5,qf⟩:=six_cells hFz.out.r6;clear hb)))
  go_step3
  go_wp2_with fail
  try simp only [Exit.jump]
  go_ret
  exact ⟨rfl,by first | exact hFz.out.bel | exact below_six hFz.out.bel (by omega)⟩
set_option maxHeartbeats 8000000 in
theorem fault_k1 (w:World) (t:Nd) (aA kA:Option Addr) (an ac kn kc:Nat) (o:Ov) (s:OS) (h:NodeV (Old w) w aA an ac kA kn kc t) (ho:OpIn w o s) (hbig:weighV t≤1000000) (hf:formedV o = true) (k1:o.kind = 1) (x:Nd) (hx:atV t o.path = some x) :
    Calls Try.prog 60 #[.agg (val6 t aA an ac kA kn kc),.agg (opCells o s)] w fun e w'=>e = .returned (.int .i64 (gapE x o.at_))∧Below w.heap.size w w':=by
  obtain ⟨v2,hv2⟩:∃ v2,v2 = val6 t aA an ac kA kn kc:=⟨_,rfl⟩
  obtain ⟨v3,hv3⟩:∃ v3,v3 = opCells o s:=⟨_,rfl⟩
  have hF1:=Lib.hid (Four.start w (val6 t aA an ac kA kn kc) (opCells o s) zero6 zero6)
  have hn:=Lib.hid (fun W (hb:Below w.heap.size w W)=>h.below hb)
  have hop:=Lib.hid (fun W (hb:Below w.heap.size w W)=>ho.below hb)
  have ho':=Lib.hid ho
  have hbig':=Lib.hid hbig
  have hpm:=Nat.le_trans ho.pnc ho.pcm
  have htm:=Nat.le_trans ho.tnc ho.tcm
  have hqm:=Nat.le_trans ho.qnc ho.qcm
  have hpm':=Lib.hid hpm
  have htm':=Lib.hid htm
  have hqm':=Lib.hid hqm
  have hkr:=ho.kind
  have hf':=Lib.hid hf
  clear hf
  have htk:=Lib.hid (show decide (o.kind = 2∨o.kind = 3) = false from decide_eq_false fun h=>by omega)
  have hpi:=Lib.hid (show decide (o.kind = 1∨o.kind = 3) = true from decide_eq_true (.inl k1))
  have hx':=Lib.hid hx
  clear hx
  have b3:((o.kind:Int) == 3) = false:=by simp;omega
  clear k1
  clear h ho hbig hv2 v2 hv3 v3 hpm htm hqm
  unfold zero6 val6 opCells at hF1
  unfold val6 opCells
  go_enter Try.func60,Try.ntmps60
  go_wp2_with fail
  refine wp_scope_once 0 rfl ?_
  go_wp2_with (first
    | (go_at_call 14;go_loud (refine (formed_any _ o s (hop.out _ hF1.out.bel)).mono ?_;rintro e w2 ⟨rfl,hb⟩;rw [hf'.out];have hF2:=Lib.hid (hF1.out.below hb);(try (clear o0 o1 o2 o3 o4 o5 o6 o7 o8 o9 o10));(try (clear n0 n1 n2 n3 n4 n5 nf));(try (clear p0 p1 p2 p3 p4 p5 pf));(try (clear q0 q1 q2 q3 q4 q5 qf));obtain ⟨o0,o1,o2,o3,o4,o5,o6,o7,o8,o9,o10⟩:=op_cells hF2.out.ro;clear hb))
    | (go_at_call 97;go_loud (refine (takesOut_any _ o s ho'.out.kind).mono ?_;rintro e w3 ⟨rfl,hb⟩;rw [htk.out];have hF3:=Lib.hid (hF2.out.below hb);(try (clear o0 o1 o2 o3 o4 o5 o6 o7 o8 o9 o10));(try (clear n0 n1 n2 n3 n4 n5 nf));(try (clear p0 p1 p2 p3 p4 p5 pf));(try (clear q0 q1 q2 q3 q4 q5 qf));obtain ⟨o0,o1,o2,o3,o4,o5,o6,o7,o8,o9,o10⟩:=op_cells hF3.out.ro;obtain ⟨n0,n1,n2,n3,n4,n5,nf⟩:=six_cells hF3.out.rn;clear hb))
    | (go_at_call 36;go_at_call_of 36 s.pA;go_loud (refine (at_any _ t aA kA an ac kn kc (hn.out _ hF3.out.bel) s.pA s.pn s.pc o.path (hop.out _ hF3.out.bel).path hpm'.out hbig'.out).mono ?_;rintro e w4 ⟨xA,xn,xc,xK,xm,xd,rfl,hnx,hb⟩;rw [hx'.out] at hnx ⊢;have hxk:=hnx.facts.kl;unfold val6;have hF4:=Lib.hid (hF3.out.below hb);(try (clear o0 o1 o2 o3 o4 o5 o6 o7 o8 o9 o10));(try (clear n0 n1 n2 n3 n4 n5 nf));(try (clear p0 p1 p2 p3 p4 p5 pf));(try (clear q0 q1 q2 q3 q4 q5 qf));obtain ⟨o0,o1,o2,o3,o4,o5,o6,o7,o8,o9,o10⟩:=op_cells hF4.out.ro;obtain ⟨p0,p1,p2,p3,p4,p5,pf⟩:=six_cells hF4.out.r5;obtain ⟨q0,q1,q2,q3,q4,q5,qf⟩:=six_cells hF4.out.r6;clear hb))
    | (go_at_call 99;go_loud (have hG:=((hF4.out.set5 (.int .u64 (x.id:Int)) (.bool x.leaf) (.string ⟨x.label.toArray⟩) (.slice xA xn xc) (.string ⟨x.text.toArray⟩) (.slice xK xm xd)).set6 (.int .u64 (x.id:Int)) (.bool x.leaf) (.string ⟨x.label.toArray⟩) (.slice xA xn xc) (.string ⟨x.text.toArray⟩) (.slice xK xm xd));refine (putsIn_any _ o s ho'.out.kind).mono ?_;rintro e w7 ⟨rfl,hb⟩;rw [hpi.out];have hF7:=Lib.hid (hG.below hb);(try (clear o0 o1 o2 o3 o4 o5 o6 o7 o8 o9 o10));(try (clear n0 n1 n2 n3 n4 n5 nf));(try (clear p0 p1 p2 p3 p4 p5 pf));(try (clear q0 q1 q2 q3 q4 q5 qf));obtain ⟨o0,o1,o2,o3,o4,o5,o6,o7,o8,o9,o10⟩:=op_cells hF7.out.ro;obtain ⟨p0,p1,p2,p3,p4,p5,pf⟩:=six_cells hF7.out.r5;obtain ⟨q0,q1,q2,q3,q4,q5,qf⟩:=six_cells hF7.out.r6;clear hb))
    | (go_at_call 100;go_loud (refine (gapFault_any _ x xA xK xn xc xm xd hxk o.at_).mono ?_;rintro e w8 ⟨rfl,hb⟩;have hFz:=Lib.hid (hF7.out.below hb);(try (clear o0 o1 o2 o3 o4 o5 o6 o7 o8 o9 o10));(try (clear n0 n1 n2 n3 n4 n5 nf));(try (clear p0 p1 p2 p3 p4 p5 pf));(try (clear q0 q1 q2 q3 q4 q5 qf));clear hb)))
  go_step3
  go_wp2_with fail
  try simp only [Exit.jump]
  go_ret
  exact ⟨rfl,by first | exact hFz.out.bel | exact below_six hFz.out.bel (by omega)⟩
set_option maxHeartbeats 8000000 in
theorem fault_k6 (w:World) (t:Nd) (aA kA:Option Addr) (an ac kn kc:Nat) (o:Ov) (s:OS) (h:NodeV (Old w) w aA an ac kA kn kc t) (ho:OpIn w o s) (hbig:weighV t≤1000000) (hf:formedV o = true) (k6:o.kind = 6) (x:Nd) (hx:atV t o.path = some x) (hr:P5.rightV o.pieces = true) (hxl:x.text.length≤10000000) :
    Calls Try.prog 60 #[.agg (val6 t aA an ac kA kn kc),.agg (opCells o s)] w fun e w'=>e = .returned (.int .i64 (editE x o.pieces))∧Below w.heap.size w w':=by
  obtain ⟨v2,hv2⟩:∃ v2,v2 = val6 t aA an ac kA kn kc:=⟨_,rfl⟩
  obtain ⟨v3,hv3⟩:∃ v3,v3 = opCells o s:=⟨_,rfl⟩
  have hF1:=Lib.hid (Four.start w (val6 t aA an ac kA kn kc) (opCells o s) zero6 zero6)
  have hn:=Lib.hid (fun W (hb:Below w.heap.size w W)=>h.below hb)
  have hop:=Lib.hid (fun W (hb:Below w.heap.size w W)=>ho.below hb)
  have ho':=Lib.hid ho
  have hbig':=Lib.hid hbig
  have hpm:=Nat.le_trans ho.pnc ho.pcm
  have htm:=Nat.le_trans ho.tnc ho.tcm
  have hqm:=Nat.le_trans ho.qnc ho.qcm
  have hpm':=Lib.hid hpm
  have htm':=Lib.hid htm
  have hqm':=Lib.hid hqm
  have hkr:=ho.kind
  have hf':=Lib.hid hf
  clear hf
  have htk:=Lib.hid (show decide (o.kind = 2∨o.kind = 3) = false from decide_eq_false fun h=>by omega)
  have hpi:=Lib.hid (show decide (o.kind = 1∨o.kind = 3) = false from decide_eq_false fun h=>by omega)
  have hx':=Lib.hid hx
  clear hx
  have b3:((o.kind:Int) == 3) = false:=by simp;omega
  have b6:((o.kind:Int) == 6) = true:=by simp;omega
  have hrg:=Lib.hid hr
  have hxt:=Lib.hid hxl
  clear k6 hr hxl
  clear h ho hbig hv2 v2 hv3 v3 hpm htm hqm
  unfold zero6 val6 opCells at hF1
  unfold val6 opCells
  go_enter Try.func60,Try.ntmps60
  go_wp2_with fail
  refine wp_scope_once 0 rfl ?_
  go_wp2_with (first
    | (go_at_call 14;go_loud (refine (formed_any _ o s (hop.out _ hF1.out.bel)).mono ?_;rintro e w2 ⟨rfl,hb⟩;rw [hf'.out];have hF2:=Lib.hid (hF1.out.below hb);(try (clear o0 o1 o2 o3 o4 o5 o6 o7 o8 o9 o10));(try (clear n0 n1 n2 n3 n4 n5 nf));(try (clear p0 p1 p2 p3 p4 p5 pf));(try (clear q0 q1 q2 q3 q4 q5 qf));obtain ⟨o0,o1,o2,o3,o4,o5,o6,o7,o8,o9,o10⟩:=op_cells hF2.out.ro;clear hb))
    | (go_at_call 97;go_loud (refine (takesOut_any _ o s ho'.out.kind).mono ?_;rintro e w3 ⟨rfl,hb⟩;rw [htk.out];have hF3:=Lib.hid (hF2.out.below hb);(try (clear o0 o1 o2 o3 o4 o5 o6 o7 o8 o9 o10));(try (clear n0 n1 n2 n3 n4 n5 nf));(try (clear p0 p1 p2 p3 p4 p5 pf));(try (clear q0 q1 q2 q3 q4 q5 qf));obtain ⟨o0,o1,o2,o3,o4,o5,o6,o7,o8,o9,o10⟩:=op_cells hF3.out.ro;obtain ⟨n0,n1,n2,n3,n4,n5,nf⟩:=six_cells hF3.out.rn;clear hb))
    | (go_at_call 36;go_at_call_of 36 s.pA;go_loud (refine (at_any _ t aA kA an ac kn kc (hn.out _ hF3.out.bel) s.pA s.pn s.pc o.path (hop.out _ hF3.out.bel).path hpm'.out hbig'.out).mono ?_;rintro e w4 ⟨xA,xn,xc,xK,xm,xd,rfl,hnx,hb⟩;rw [hx'.out] at hnx ⊢;have hxk:=hnx.facts.kl;unfold val6;have hF4:=Lib.hid (hF3.out.below hb);(try (clear o0 o1 o2 o3 o4 o5 o6 o7 o8 o9 o10));(try (clear n0 n1 n2 n3 n4 n5 nf));(try (clear p0 p1 p2 p3 p4 p5 pf));(try (clear q0 q1 q2 q3 q4 q5 qf));obtain ⟨o0,o1,o2,o3,o4,o5,o6,o7,o8,o9,o10⟩:=op_cells hF4.out.ro;obtain ⟨p0,p1,p2,p3,p4,p5,pf⟩:=six_cells hF4.out.r5;obtain ⟨q0,q1,q2,q3,q4,q5,qf⟩:=six_cells hF4.out.r6;clear hb))
    | (go_at_call 99;go_loud (have hG:=((hF4.out.set5 (.int .u64 (x.id:Int)) (.bool x.leaf) (.string ⟨x.label.toArray⟩) (.slice xA xn xc) (.string ⟨x.text.toArray⟩) (.slice xK xm xd)).set6 (.int .u64 (x.id:Int)) (.bool x.leaf) (.string ⟨x.label.toArray⟩) (.slice xA xn xc) (.string ⟨x.text.toArray⟩) (.slice xK xm xd));refine (putsIn_any _ o s ho'.out.kind).mono ?_;rintro e w7 ⟨rfl,hb⟩;rw [hpi.out];have hF7:=Lib.hid (hG.below hb);(try (clear o0 o1 o2 o3 o4 o5 o6 o7 o8 o9 o10));(try (clear n0 n1 n2 n3 n4 n5 nf));(try (clear p0 p1 p2 p3 p4 p5 pf));(try (clear q0 q1 q2 q3 q4 q5 qf));obtain ⟨o0,o1,o2,o3,o4,o5,o6,o7,o8,o9,o10⟩:=op_cells hF7.out.ro;obtain ⟨p0,p1,p2,p3,p4,p5,pf⟩:=six_cells hF7.out.r5;obtain ⟨q0,q1,q2,q3,q4,q5,qf⟩:=six_cells hF7.out.r6;clear hb))
    | (go_at_call 101;go_loud (refine (editFault_any _ x xA xK xn xc xm xd hxt.out s.qA s.qn s.qc o.pieces (hop.out _ hF7.out.bel).pieces hqm'.out hrg.out).mono ?_;rintro e w8 ⟨rfl,hb⟩;have hFz:=Lib.hid (hF7.out.below hb);(try (clear o0 o1 o2 o3 o4 o5 o6 o7 o8 o9 o10));(try (clear n0 n1 n2 n3 n4 n5 nf));(try (clear p0 p1 p2 p3 p4 p5 pf));(try (clear q0 q1 q2 q3 q4 q5 qf));clear hb)))
  go_step3
  go_wp2_with fail
  try simp only [Exit.jump]
  go_ret
  exact ⟨rfl,by first | exact hFz.out.bel | exact below_six hFz.out.bel (by omega)⟩
set_option maxHeartbeats 8000000 in
theorem fault_k3a (w:World) (t:Nd) (aA kA:Option Addr) (an ac kn kc:Nat) (o:Ov) (s:OS) (h:NodeV (Old w) w aA an ac kA kn kc t) (ho:OpIn w o s) (hbig:weighV t≤1000000) (hf:formedV o = true) (k3:o.kind = 3) (hp:o.path ≠ []) (x:Nd) (hx:atV t o.path = some x) (hw:P4.withinV o.path o.to_ = true) :
    Calls Try.prog 60 #[.agg (val6 t aA an ac kA kn kc),.agg (opCells o s)] w fun e w'=>e = .returned (.int .i64 (84))∧Below w.heap.size w w':=by
  obtain ⟨v2,hv2⟩:∃ v2,v2 = val6 t aA an ac kA kn kc:=⟨_,rfl⟩
  obtain ⟨v3,hv3⟩:∃ v3,v3 = opCells o s:=⟨_,rfl⟩
  have hF1:=Lib.hid (Four.start w (val6 t aA an ac kA kn kc) (opCells o s) zero6 zero6)
  have hn:=Lib.hid (fun W (hb:Below w.heap.size w W)=>h.below hb)
  have hop:=Lib.hid (fun W (hb:Below w.heap.size w W)=>ho.below hb)
  have ho':=Lib.hid ho
  have hbig':=Lib.hid hbig
  have hpm:=Nat.le_trans ho.pnc ho.pcm
  have htm:=Nat.le_trans ho.tnc ho.tcm
  have hqm:=Nat.le_trans ho.qnc ho.qcm
  have hpm':=Lib.hid hpm
  have htm':=Lib.hid htm
  have hqm':=Lib.hid hqm
  have hkr:=ho.kind
  have hf':=Lib.hid hf
  clear hf
  have htk:=Lib.hid (show decide (o.kind = 2∨o.kind = 3) = true from decide_eq_true (.inr k3))
  have hpi:=Lib.hid (show decide (o.kind = 1∨o.kind = 3) = true from decide_eq_true (.inr k3))
  have b3:((o.kind:Int) == 3) = true:=by simp;omega
  have hplen:¬ ((s.pn:Int) = 0):=by
    have:=ho'.out.path.1
    cases hc:o.path with
    | nil=>exact absurd hc hp
    | cons a b=>rw [hc] at this;simp at this;omega
  have hplen2:((s.pn:Int) == 0) = false:=by simpa using hplen
  clear hplen hp
  have hx':=Lib.hid hx
  clear hx
  have hw':=Lib.hid hw
  clear k3 hw
  clear h ho hbig hv2 v2 hv3 v3 hpm htm hqm
  unfold zero6 val6 opCells at hF1
  unfold val6 opCells
  go_enter Try.func60,Try.ntmps60
  go_wp2_with fail
  refine wp_scope_once 0 rfl ?_
  go_wp2_with (first
    | (go_at_call 14;go_loud (refine (formed_any _ o s (hop.out _ hF1.out.bel)).mono ?_;rintro e w2 ⟨rfl,hb⟩;rw [hf'.out];have hF2:=Lib.hid (hF1.out.below hb);(try (clear o0 o1 o2 o3 o4 o5 o6 o7 o8 o9 o10));(try (clear n0 n1 n2 n3 n4 n5 nf));(try (clear p0 p1 p2 p3 p4 p5 pf));(try (clear q0 q1 q2 q3 q4 q5 qf));obtain ⟨o0,o1,o2,o3,o4,o5,o6,o7,o8,o9,o10⟩:=op_cells hF2.out.ro;clear hb))
    | (go_at_call 97;go_loud (refine (takesOut_any _ o s ho'.out.kind).mono ?_;rintro e w3 ⟨rfl,hb⟩;rw [htk.out];have hF3:=Lib.hid (hF2.out.below hb);(try (clear o0 o1 o2 o3 o4 o5 o6 o7 o8 o9 o10));(try (clear n0 n1 n2 n3 n4 n5 nf));(try (clear p0 p1 p2 p3 p4 p5 pf));(try (clear q0 q1 q2 q3 q4 q5 qf));obtain ⟨o0,o1,o2,o3,o4,o5,o6,o7,o8,o9,o10⟩:=op_cells hF3.out.ro;obtain ⟨n0,n1,n2,n3,n4,n5,nf⟩:=six_cells hF3.out.rn;clear hb))
    | (go_at_call 36;go_at_call_of 36 s.pA;go_loud (refine (at_any _ t aA kA an ac kn kc (hn.out _ hF3.out.bel) s.pA s.pn s.pc o.path (hop.out _ hF3.out.bel).path hpm'.out hbig'.out).mono ?_;rintro e w4 ⟨xA,xn,xc,xK,xm,xd,rfl,hnx,hb⟩;rw [hx'.out] at hnx ⊢;have hxk:=hnx.facts.kl;unfold val6;have hF4:=Lib.hid (hF3.out.below hb);(try (clear o0 o1 o2 o3 o4 o5 o6 o7 o8 o9 o10));(try (clear n0 n1 n2 n3 n4 n5 nf));(try (clear p0 p1 p2 p3 p4 p5 pf));(try (clear q0 q1 q2 q3 q4 q5 qf));obtain ⟨o0,o1,o2,o3,o4,o5,o6,o7,o8,o9,o10⟩:=op_cells hF4.out.ro;obtain ⟨p0,p1,p2,p3,p4,p5,pf⟩:=six_cells hF4.out.r5;obtain ⟨q0,q1,q2,q3,q4,q5,qf⟩:=six_cells hF4.out.r6;clear hb))
    | (go_at_call 98;go_loud (have hG:=((hF4.out.set5 (.int .u64 (x.id:Int)) (.bool x.leaf) (.string ⟨x.label.toArray⟩) (.slice xA xn xc) (.string ⟨x.text.toArray⟩) (.slice xK xm xd)).set6 (.int .u64 (x.id:Int)) (.bool x.leaf) (.string ⟨x.label.toArray⟩) (.slice xA xn xc) (.string ⟨x.text.toArray⟩) (.slice xK xm xd));refine (P4.within_any _ s.pA s.tA s.pn s.pc s.tn s.tc o.path o.to_ (hop.out _ hG.bel).path (hop.out _ hG.bel).to_ hpm'.out htm'.out).mono ?_;rw [hw'.out];rintro e w5 ⟨rfl,k5,hk5⟩;have hFz:=Lib.hid (hG.drew hk5);(try (clear o0 o1 o2 o3 o4 o5 o6 o7 o8 o9 o10));(try (clear n0 n1 n2 n3 n4 n5 nf));(try (clear p0 p1 p2 p3 p4 p5 pf));(try (clear q0 q1 q2 q3 q4 q5 qf));obtain ⟨o0,o1,o2,o3,o4,o5,o6,o7,o8,o9,o10⟩:=op_cells hFz.out.ro;obtain ⟨n0,n1,n2,n3,n4,n5,nf⟩:=six_cells hFz.out.rn;clear hk5)))
  go_step3
  refine ⟨rfl,?_⟩
  go_wp2_with fail
  try simp only [Exit.jump]
  go_ret
  exact ⟨rfl,by first | exact hFz.out.bel | exact below_six hFz.out.bel (by omega)⟩
set_option maxHeartbeats 8000000 in
theorem fault_k3b (w:World) (t:Nd) (aA kA:Option Addr) (an ac kn kc:Nat) (o:Ov) (s:OS) (h:NodeV (Old w) w aA an ac kA kn kc t) (ho:OpIn w o s) (hbig:weighV t≤1000000) (hf:formedV o = true) (k3:o.kind = 3) (hp:o.path ≠ []) (x:Nd) (hx:atV t o.path = some x) (hw:P4.withinV o.path o.to_ = false) (hy:atV t o.to_ = none) :
    Calls Try.prog 60 #[.agg (val6 t aA an ac kA kn kc),.agg (opCells o s)] w fun e w'=>e = .returned (.int .i64 (81))∧Below w.heap.size w w':=by
  obtain ⟨v2,hv2⟩:∃ v2,v2 = val6 t aA an ac kA kn kc:=⟨_,rfl⟩
  obtain ⟨v3,hv3⟩:∃ v3,v3 = opCells o s:=⟨_,rfl⟩
  have hF1:=Lib.hid (Four.start w (val6 t aA an ac kA kn kc) (opCells o s) zero6 zero6)
  have hn:=Lib.hid (fun W (hb:Below w.heap.size w W)=>h.below hb)
  have hop:=Lib.hid (fun W (hb:Below w.heap.size w W)=>ho.below hb)
  have ho':=Lib.hid ho
  have hbig':=Lib.hid hbig
  have hpm:=Nat.le_trans ho.pnc ho.pcm
  have htm:=Nat.le_trans ho.tnc ho.tcm
  have hqm:=Nat.le_trans ho.qnc ho.qcm
  have hpm':=Lib.hid hpm
  have htm':=Lib.hid htm
  have hqm':=Lib.hid hqm
  have hkr:=ho.kind
  have hf':=Lib.hid hf
  clear hf
  have htk:=Lib.hid (show decide (o.kind = 2∨o.kind = 3) = true from decide_eq_true (.inr k3))
  have hpi:=Lib.hid (show decide (o.kind = 1∨o.kind = 3) = true from decide_eq_true (.inr k3))
  have b3:((o.kind:Int) == 3) = true:=by simp;omega
  have hplen:¬ ((s.pn:Int) = 0):=by
    have:=ho'.out.path.1
    cases hc:o.path with
    | nil=>exact absurd hc hp
    | cons a b=>rw [hc] at this;simp at this;omega
  have hplen2:((s.pn:Int) == 0) = false:=by simpa using hplen
  clear hplen hp
  have hx':=Lib.hid hx
  clear hx
  have hw':=Lib.hid hw
  have hy':=Lib.hid hy
  clear k3 hw hy
  clear h ho hbig hv2 v2 hv3 v3 hpm htm hqm
  unfold zero6 val6 opCells at hF1
  unfold val6 opCells
  go_enter Try.func60,Try.ntmps60
  go_wp2_with fail
  refine wp_scope_once 0 rfl ?_
  go_wp2_with (first
    | (go_at_call 14;go_loud (refine (formed_any _ o s (hop.out _ hF1.out.bel)).mono ?_;rintro e w2 ⟨rfl,hb⟩;rw [hf'.out];have hF2:=Lib.hid (hF1.out.below hb);(try (clear o0 o1 o2 o3 o4 o5 o6 o7 o8 o9 o10));(try (clear n0 n1 n2 n3 n4 n5 nf));(try (clear p0 p1 p2 p3 p4 p5 pf));(try (clear q0 q1 q2 q3 q4 q5 qf));obtain ⟨o0,o1,o2,o3,o4,o5,o6,o7,o8,o9,o10⟩:=op_cells hF2.out.ro;clear hb))
    | (go_at_call 97;go_loud (refine (takesOut_any _ o s ho'.out.kind).mono ?_;rintro e w3 ⟨rfl,hb⟩;rw [htk.out];have hF3:=Lib.hid (hF2.out.below hb);(try (clear o0 o1 o2 o3 o4 o5 o6 o7 o8 o9 o10));(try (clear n0 n1 n2 n3 n4 n5 nf));(try (clear p0 p1 p2 p3 p4 p5 pf));(try (clear q0 q1 q2 q3 q4 q5 qf));obtain ⟨o0,o1,o2,o3,o4,o5,o6,o7,o8,o9,o10⟩:=op_cells hF3.out.ro;obtain ⟨n0,n1,n2,n3,n4,n5,nf⟩:=six_cells hF3.out.rn;clear hb))
    | (go_at_call 36;go_at_call_of 36 s.pA;go_loud (refine (at_any _ t aA kA an ac kn kc (hn.out _ hF3.out.bel) s.pA s.pn s.pc o.path (hop.out _ hF3.out.bel).path hpm'.out hbig'.out).mono ?_;rintro e w4 ⟨xA,xn,xc,xK,xm,xd,rfl,hnx,hb⟩;rw [hx'.out] at hnx ⊢;have hxk:=hnx.facts.kl;unfold val6;have hF4:=Lib.hid (hF3.out.below hb);(try (clear o0 o1 o2 o3 o4 o5 o6 o7 o8 o9 o10));(try (clear n0 n1 n2 n3 n4 n5 nf));(try (clear p0 p1 p2 p3 p4 p5 pf));(try (clear q0 q1 q2 q3 q4 q5 qf));obtain ⟨o0,o1,o2,o3,o4,o5,o6,o7,o8,o9,o10⟩:=op_cells hF4.out.ro;obtain ⟨p0,p1,p2,p3,p4,p5,pf⟩:=six_cells hF4.out.r5;obtain ⟨q0,q1,q2,q3,q4,q5,qf⟩:=six_cells hF4.out.r6;clear hb))
    | (go_at_call 98;go_loud (have hG:=((hF4.out.set5 (.int .u64 (x.id:Int)) (.bool x.leaf) (.string ⟨x.label.toArray⟩) (.slice xA xn xc) (.string ⟨x.text.toArray⟩) (.slice xK xm xd)).set6 (.int .u64 (x.id:Int)) (.bool x.leaf) (.string ⟨x.label.toArray⟩) (.slice xA xn xc) (.string ⟨x.text.toArray⟩) (.slice xK xm xd));refine (P4.within_any _ s.pA s.tA s.pn s.pc s.tn s.tc o.path o.to_ (hop.out _ hG.bel).path (hop.out _ hG.bel).to_ hpm'.out htm'.out).mono ?_;rw [hw'.out];rintro e w5 ⟨rfl,k5,hk5⟩;have hF5:=Lib.hid (hG.drew hk5);(try (clear o0 o1 o2 o3 o4 o5 o6 o7 o8 o9 o10));(try (clear n0 n1 n2 n3 n4 n5 nf));(try (clear p0 p1 p2 p3 p4 p5 pf));(try (clear q0 q1 q2 q3 q4 q5 qf));obtain ⟨o0,o1,o2,o3,o4,o5,o6,o7,o8,o9,o10⟩:=op_cells hF5.out.ro;obtain ⟨n0,n1,n2,n3,n4,n5,nf⟩:=six_cells hF5.out.rn;clear hk5))
    | (go_at_call 36;go_at_call_of 36 s.tA;go_loud (refine (at_any _ t aA kA an ac kn kc (hn.out _ hF5.out.bel) s.tA s.tn s.tc o.to_ (hop.out _ hF5.out.bel).to_ htm'.out hbig'.out).mono ?_;rintro e w6 ⟨yA,yn,yc,yK,ym,yd,rfl,hny,hb⟩;clear hny;rw [hy'.out];unfold val6;have hFz:=Lib.hid (hF5.out.below hb);(try (clear o0 o1 o2 o3 o4 o5 o6 o7 o8 o9 o10));(try (clear n0 n1 n2 n3 n4 n5 nf));(try (clear p0 p1 p2 p3 p4 p5 pf));(try (clear q0 q1 q2 q3 q4 q5 qf));obtain ⟨q0,q1,q2,q3,q4,q5,qf⟩:=six_cells hFz.out.r6;clear hb)))
  go_step3
  refine ⟨rfl,?_⟩
  go_wp2_with fail
  try simp only [Exit.jump]
  go_ret
  exact ⟨rfl,by first | exact hFz.out.bel | exact below_six hFz.out.bel (by omega)⟩
set_option maxHeartbeats 8000000 in
theorem fault_k3c (w:World) (t:Nd) (aA kA:Option Addr) (an ac kn kc:Nat) (o:Ov) (s:OS) (h:NodeV (Old w) w aA an ac kA kn kc t) (ho:OpIn w o s) (hbig:weighV t≤1000000) (hf:formedV o = true) (k3:o.kind = 3) (hp:o.path ≠ []) (x:Nd) (hx:atV t o.path = some x) (hw:P4.withinV o.path o.to_ = false) (y:Nd) (hy:atV t o.to_ = some y) :
    Calls Try.prog 60 #[.agg (val6 t aA an ac kA kn kc),.agg (opCells o s)] w fun e w'=>e = .returned (.int .i64 (gapE y o.at_))∧Below w.heap.size w w':=by
  obtain ⟨v2,hv2⟩:∃ v2,v2 = val6 t aA an ac kA kn kc:=⟨_,rfl⟩
  obtain ⟨v3,hv3⟩:∃ v3,v3 = opCells o s:=⟨_,rfl⟩
  have hF1:=Lib.hid (Four.start w (val6 t aA an ac kA kn kc) (opCells o s) zero6 zero6)
  have hn:=Lib.hid (fun W (hb:Below w.heap.size w W)=>h.below hb)
  have hop:=Lib.hid (fun W (hb:Below w.heap.size w W)=>ho.below hb)
  have ho':=Lib.hid ho
  have hbig':=Lib.hid hbig
  have hpm:=Nat.le_trans ho.pnc ho.pcm
  have htm:=Nat.le_trans ho.tnc ho.tcm
  have hqm:=Nat.le_trans ho.qnc ho.qcm
  have hpm':=Lib.hid hpm
  have htm':=Lib.hid htm
  have hqm':=Lib.hid hqm
  have hkr:=ho.kind
  have hf':=Lib.hid hf
  clear hf
  have htk:=Lib.hid (show decide (o.kind = 2∨o.kind = 3) = true from decide_eq_true (.inr k3))
  have hpi:=Lib.hid (show decide (o.kind = 1∨o.kind = 3) = true from decide_eq_true (.inr k3))
  have b3:((o.kind:Int) == 3) = true:=by simp;omega
  have hplen:¬ ((s.pn:Int) = 0):=by
    have:=ho'.out.path.1
    cases hc:o.path with
    | nil=>exact absurd hc hp
    | cons a b=>rw [hc] at this;simp at this;omega
  have hplen2:((s.pn:Int) == 0) = false:=by simpa using hplen
  clear hplen hp
  have hx':=Lib.hid hx
  clear hx
  have hw':=Lib.hid hw
  have hy':=Lib.hid hy
  clear k3 hw hy
  clear h ho hbig hv2 v2 hv3 v3 hpm htm hqm
  unfold zero6 val6 opCells at hF1
  unfold val6 opCells
  go_enter Try.func60,Try.ntmps60
  go_wp2_with fail
  refine wp_scope_once 0 rfl ?_
  go_wp2_with (first
    | (go_at_call 14;go_loud (refine (formed_any _ o s (hop.out _ hF1.out.bel)).mono ?_;rintro e w2 ⟨rfl,hb⟩;rw [hf'.out];have hF2:=Lib.hid (hF1.out.below hb);(try (clear o0 o1 o2 o3 o4 o5 o6 o7 o8 o9 o10));(try (clear n0 n1 n2 n3 n4 n5 nf));(try (clear p0 p1 p2 p3 p4 p5 pf));(try (clear q0 q1 q2 q3 q4 q5 qf));obtain ⟨o0,o1,o2,o3,o4,o5,o6,o7,o8,o9,o10⟩:=op_cells hF2.out.ro;clear hb))
    | (go_at_call 97;go_loud (refine (takesOut_any _ o s ho'.out.kind).mono ?_;rintro e w3 ⟨rfl,hb⟩;rw [htk.out];have hF3:=Lib.hid (hF2.out.below hb);(try (clear o0 o1 o2 o3 o4 o5 o6 o7 o8 o9 o10));(try (clear n0 n1 n2 n3 n4 n5 nf));(try (clear p0 p1 p2 p3 p4 p5 pf));(try (clear q0 q1 q2 q3 q4 q5 qf));obtain ⟨o0,o1,o2,o3,o4,o5,o6,o7,o8,o9,o10⟩:=op_cells hF3.out.ro;obtain ⟨n0,n1,n2,n3,n4,n5,nf⟩:=six_cells hF3.out.rn;clear hb))
    | (go_at_call 36;go_at_call_of 36 s.pA;go_loud (refine (at_any _ t aA kA an ac kn kc (hn.out _ hF3.out.bel) s.pA s.pn s.pc o.path (hop.out _ hF3.out.bel).path hpm'.out hbig'.out).mono ?_;rintro e w4 ⟨xA,xn,xc,xK,xm,xd,rfl,hnx,hb⟩;rw [hx'.out] at hnx ⊢;have hxk:=hnx.facts.kl;unfold val6;have hF4:=Lib.hid (hF3.out.below hb);(try (clear o0 o1 o2 o3 o4 o5 o6 o7 o8 o9 o10));(try (clear n0 n1 n2 n3 n4 n5 nf));(try (clear p0 p1 p2 p3 p4 p5 pf));(try (clear q0 q1 q2 q3 q4 q5 qf));obtain ⟨o0,o1,o2,o3,o4,o5,o6,o7,o8,o9,o10⟩:=op_cells hF4.out.ro;obtain ⟨p0,p1,p2,p3,p4,p5,pf⟩:=six_cells hF4.out.r5;obtain ⟨q0,q1,q2,q3,q4,q5,qf⟩:=six_cells hF4.out.r6;clear hb))
    | (go_at_call 98;go_loud (have hG:=((hF4.out.set5 (.int .u64 (x.id:Int)) (.bool x.leaf) (.string ⟨x.label.toArray⟩) (.slice xA xn xc) (.string ⟨x.text.toArray⟩) (.slice xK xm xd)).set6 (.int .u64 (x.id:Int)) (.bool x.leaf) (.string ⟨x.label.toArray⟩) (.slice xA xn xc) (.string ⟨x.text.toArray⟩) (.slice xK xm xd));refine (P4.within_any _ s.pA s.tA s.pn s.pc s.tn s.tc o.path o.to_ (hop.out _ hG.bel).path (hop.out _ hG.bel).to_ hpm'.out htm'.out).mono ?_;rw [hw'.out];rintro e w5 ⟨rfl,k5,hk5⟩;have hF5:=Lib.hid (hG.drew hk5);(try (clear o0 o1 o2 o3 o4 o5 o6 o7 o8 o9 o10));(try (clear n0 n1 n2 n3 n4 n5 nf));(try (clear p0 p1 p2 p3 p4 p5 pf));(try (clear q0 q1 q2 q3 q4 q5 qf));obtain ⟨o0,o1,o2,o3,o4,o5,o6,o7,o8,o9,o10⟩:=op_cells hF5.out.ro;obtain ⟨n0,n1,n2,n3,n4,n5,nf⟩:=six_cells hF5.out.rn;clear hk5))
    | (go_at_call 36;go_at_call_of 36 s.tA;go_loud (refine (at_any _ t aA kA an ac kn kc (hn.out _ hF5.out.bel) s.tA s.tn s.tc o.to_ (hop.out _ hF5.out.bel).to_ htm'.out hbig'.out).mono ?_;rintro e w6 ⟨yA,yn,yc,yK,ym,yd,rfl,hny,hb⟩;rw [hy'.out] at hny ⊢;have hyk:=hny.facts.kl;unfold val6;have hF6:=Lib.hid (hF5.out.below hb);(try (clear o0 o1 o2 o3 o4 o5 o6 o7 o8 o9 o10));(try (clear n0 n1 n2 n3 n4 n5 nf));(try (clear p0 p1 p2 p3 p4 p5 pf));(try (clear q0 q1 q2 q3 q4 q5 qf));obtain ⟨o0,o1,o2,o3,o4,o5,o6,o7,o8,o9,o10⟩:=op_cells hF6.out.ro;obtain ⟨q0,q1,q2,q3,q4,q5,qf⟩:=six_cells hF6.out.r6;clear hb))
    | (go_at_call 99;go_loud (have hG:=(hF6.out.set6 (.int .u64 (y.id:Int)) (.bool y.leaf) (.string ⟨y.label.toArray⟩) (.slice yA yn yc) (.string ⟨y.text.toArray⟩) (.slice yK ym yd));refine (putsIn_any _ o s ho'.out.kind).mono ?_;rintro e w7 ⟨rfl,hb⟩;rw [hpi.out];have hF7:=Lib.hid (hG.below hb);(try (clear o0 o1 o2 o3 o4 o5 o6 o7 o8 o9 o10));(try (clear n0 n1 n2 n3 n4 n5 nf));(try (clear p0 p1 p2 p3 p4 p5 pf));(try (clear q0 q1 q2 q3 q4 q5 qf));obtain ⟨o0,o1,o2,o3,o4,o5,o6,o7,o8,o9,o10⟩:=op_cells hF7.out.ro;obtain ⟨p0,p1,p2,p3,p4,p5,pf⟩:=six_cells hF7.out.r5;obtain ⟨q0,q1,q2,q3,q4,q5,qf⟩:=six_cells hF7.out.r6;clear hb))
    | (go_at_call 100;go_loud (refine (gapFault_any _ y yA yK yn yc ym yd hyk o.at_).mono ?_;rintro e w8 ⟨rfl,hb⟩;have hFz:=Lib.hid (hF7.out.below hb);(try (clear o0 o1 o2 o3 o4 o5 o6 o7 o8 o9 o10));(try (clear n0 n1 n2 n3 n4 n5 nf));(try (clear p0 p1 p2 p3 p4 p5 pf));(try (clear q0 q1 q2 q3 q4 q5 qf));clear hb)))
  go_step3
  go_wp2_with fail
  try simp only [Exit.jump]
  go_ret
  exact ⟨rfl,by first | exact hFz.out.bel | exact below_six hFz.out.bel (by omega)⟩
theorem at_text {t x:Nd} {p:List Int} (h:atV t p = some x) (hb:weighV t≤1000000):x.text.length≤10000000:=by
  have h1:=(at_count p t x h).2
  have h2:=weighV_eq x
  omega
theorem fault_any (w:World) (t:Nd) (aA kA:Option Addr) (an ac kn kc:Nat) (o:Ov) (s:OS) (h:NodeV (Old w) w aA an ac kA kn kc t) (ho:OpIn w o s) (hbig:weighV t≤1000000) :
    Calls Try.prog 60 #[.agg (val6 t aA an ac kA kn kc),.agg (opCells o s)] w fun e w'=>e = .returned (.int .i64 (faultV t o))∧Below w.heap.size w w':=by
  cases hf:formedV o with
  | false =>
    have:=fault_c0 w t aA kA an ac kn kc o s h ho hbig hf
    rw [show faultV t o = 80 by unfold faultV;rw [if_pos hf]]
    exact this
  | true =>
    have e0:¬ formedV o = false:=by rw [hf];decide
    by_cases hk:o.kind = 2∨o.kind = 3
    · by_cases hp:o.path = []
      · rw [show faultV t o = 82 by unfold faultV;rw [if_neg e0,if_pos ⟨hk,hp⟩]]
        exact fault_c1 w t aA kA an ac kn kc o s h ho hbig hf hk hp
      · have e1:¬ ((o.kind = 2∨o.kind = 3)∧o.path = []):=fun h=>hp h.2
        cases hx:atV t o.path with
        | none =>
          rw [show faultV t o = 81 by unfold faultV;rw [if_neg e0,if_neg e1,hx]]
          exact fault_c2a w t aA kA an ac kn kc o s h ho hbig hf hk hp hx
        | some x =>
          by_cases k3:o.kind = 3
          · have e3:¬ o.kind = 1:=by omega
            cases hw:P4.withinV o.path o.to_ with
            | true =>
              rw [show faultV t o = 84 by unfold faultV;rw [if_neg e0,if_neg e1,hx];dsimp only;rw [if_neg e3,if_pos k3,hw];rfl]
              exact fault_k3a w t aA kA an ac kn kc o s h ho hbig hf k3 hp x hx hw
            | false =>
              cases hy:atV t o.to_ with
              | none =>
                rw [show faultV t o = 81 by unfold faultV;rw [if_neg e0,if_neg e1,hx];dsimp only;rw [if_neg e3,if_pos k3,hw,hy];rfl]
                exact fault_k3b w t aA kA an ac kn kc o s h ho hbig hf k3 hp x hx hw hy
              | some y =>
                rw [show faultV t o = gapE y o.at_ by unfold faultV;rw [if_neg e0,if_neg e1,hx];dsimp only;rw [if_neg e3,if_pos k3,hw,hy];rfl]
                exact fault_k3c w t aA kA an ac kn kc o s h ho hbig hf k3 hp x hx hw y hy
          · rw [show faultV t o = 0 by unfold faultV;rw [if_neg e0,if_neg e1,hx];dsimp only;rw [if_neg (by omega),if_neg k3,if_neg (by omega)]]
            exact fault_kxa w t aA kA an ac kn kc o s h ho hbig hf hk hp (by omega) k3 (by omega) x hx
    · have e1:¬ ((o.kind = 2∨o.kind = 3)∧o.path = []):=fun h=>hk h.1
      cases hx:atV t o.path with
      | none =>
        rw [show faultV t o = 81 by unfold faultV;rw [if_neg e0,if_neg e1,hx]]
        exact fault_c2b w t aA kA an ac kn kc o s h ho hbig hf hk hx
      | some x =>
        by_cases k1:o.kind = 1
        · rw [show faultV t o = gapE x o.at_ by unfold faultV;rw [if_neg e0,if_neg e1,hx];dsimp only;rw [if_pos k1]]
          exact fault_k1 w t aA kA an ac kn kc o s h ho hbig hf k1 x hx
        · by_cases k6:o.kind = 6
          · rw [show faultV t o = editE x o.pieces by unfold faultV;rw [if_neg e0,if_neg e1,hx];dsimp only;rw [if_neg k1,if_neg (by omega),if_pos k6]]
            have hr:P5.rightV o.pieces = true:=by
              unfold formedV at hf
              rw [if_neg k1,if_neg (by omega),if_neg (by omega),if_neg (by omega),if_neg (by omega),if_pos k6,Bool.and_eq_true] at hf
              exact hf.2
            exact fault_k6 w t aA kA an ac kn kc o s h ho hbig hf k6 x hx hr (at_text hx hbig)
          · rw [show faultV t o = 0 by unfold faultV;rw [if_neg e0,if_neg e1,hx];dsimp only;rw [if_neg k1,if_neg (by omega),if_neg k6]]
            exact fault_kxb w t aA kA an ac kn kc o s h ho hbig hf hk k1 (by omega) k6 x hx
end Go.Proofs.Ytmipodnffhngaaa.Top
namespace Go.Proofs.Ytmipodnffhngaaa.Top
open Go.RowKit
set_option maxRecDepth 20000
set_option linter.unusedVariables false

theorem copied_any (w:World) (A:Option Addr) (n c:Nat) (xs:List Int) (hA:Its w A n xs) (hnil:A = none→c = 0) (hn:n≤500000) :
    Calls Try.prog 73 #[.slice A n c] w (P4.NewRow w xs):=by
  have hA':=Lib.hid hA
  have hl:=Lib.hid hA.1
  have hn':=Lib.hid hnil
  clear hA hnil
  go_enter Try.func73,Try.ntmps73
  go_wp2_with (at_builtin;go_loud (refine P4.wpList_append_its rfl _ (.tmp 3) rfl w.heap.size (.slice none 0 0) [] xs rfl (P4.OwnI.nil_ _ _) A n c rfl hA'.out hn'.out (by have:=hl.out;simp;omega) (Nat.le_refl _) ?_;intro v1 w1 ho1 hg1 hat1))
  go_ret
  exact ⟨_,rfl,ho1,P4.grown_nil hg1⟩
set_option maxHeartbeats 2000000 in
theorem valid_any (w:World) (t:Nd) (aA kA:Option Addr) (an ac kn kc:Nat) (o:Ov) (s:OS) (h:NodeV (Old w) w aA an ac kA kn kc t) (ho:OpIn w o s) (hbig:weighV t≤100000) :
    Calls Try.prog 18 #[.agg (val6 t aA an ac kA kn kc),.agg (opCells o s)] w fun e w'=>e = .returned (.int .i64 (validV t o))∧Below w.heap.size w w':=by
  obtain ⟨W2,hW2⟩:∃ W2,W2 = (w.alloc (.cells (val6 t aA an ac kA kn kc) 33)).alloc (.cells (opCells o s) 26):=⟨_,rfl⟩
  have z1:W2.heap[w.heap.size]? = some (.cells (val6 t aA an ac kA kn kc) 33 (0,0)):=by rw [hW2];exact (Go.heap_alloc_old _ _ (by simp)).trans (heap_alloc_new w _)
  have z2:W2.heap[w.heap.size + 1]? = some (.cells (opCells o s) 26 (0,0)):=by rw [hW2];have h1:=heap_alloc_new (w.alloc (.cells (val6 t aA an ac kA kn kc) 33)) (.cells (opCells o s) 26);rw [World.size_alloc] at h1;exact h1
  have z4':=Lib.hid (show Below w.heap.size w W2 by rw [hW2];exact ((Below.refl _ _).alloc (Nat.le_refl _) _).alloc (by simp) _)
  have z5:W2.heap.size = w.heap.size + 1 + 1:=by rw [hW2];simp
  have hr:=Lib.hid (right_any W2 t aA kA an ac kn kc (h.below z4'.out) (by have:=(count_le t);omega))
  rw [hW2] at hr
  have hf:=Lib.hid (fun (W:World) (hb:Below w.heap.size w W)=>fault_any W t aA kA an ac kn kc o s (h.below hb) (ho.below hb) (by omega))
  have hz1:=Lib.hid z1
  have hz2:=Lib.hid z2
  have hz5:=Lib.hid z5
  clear h ho z1 z2 z5
  cases hv:rightV ltB t with
  | false =>
    have hv':=Lib.hid hv
    rw [show validV t o = 2 by unfold validV;rw [hv];rfl]
    clear hv
    unfold val6 opCells at hr hW2
    unfold val6 opCells
    go_enter Try.func18,Try.ntmps18
    go_wp2_with (go_at_call 38;go_loud (refine hr.out.mono ?_;rw [← hW2];rintro e w3 ⟨rfl,hb⟩;rw [hv'.out];have hb':=Lib.hid hb;clear hb))
    go_ret
    exact ⟨rfl,z4'.out.trans (hb'.out.mono z4'.out.size)⟩
  | true =>
    have hv':=Lib.hid hv
    rw [show validV t o = faultV t o by unfold validV;rw [hv];rfl]
    clear hv
    unfold val6 opCells at hr hW2
    have hf':=Lib.hid (fun (W:World) (hb:Below w.heap.size w W)=>hf.out W hb)
    unfold val6 opCells at hf'
    unfold val6 opCells
    go_enter Try.func18,Try.ntmps18
    go_wp2_with (first
      | (go_at_call 38;go_loud (refine hr.out.mono ?_;rw [← hW2];rintro e w3 ⟨rfl,hb⟩;rw [hv'.out];have hb':=Lib.hid hb;have r2:=(hb.block _ (by have:=hz5.out;omega)).trans hz2.out;have r1:=(hb.block _ (by have:=hz5.out;omega)).trans hz1.out;unfold val6 at r1;obtain ⟨p0,p1,p2,p3,p4,p5,pf⟩:=six_cells r1;obtain ⟨o0,o1,o2,o3,o4,o5,o6,o7,o8,o9,o10⟩:=op_cells r2;clear hb r1 r2))
      | (go_at_call 60;go_loud (refine (hf'.out w3 (z4'.out.trans (hb'.out.mono z4'.out.size))).mono ?_;rintro e w4 ⟨rfl,hb4⟩;have hb4':=Lib.hid hb4;clear hb4)))
    go_ret
    exact ⟨rfl,(z4'.out.trans (hb'.out.mono z4'.out.size)).trans (hb4'.out.mono ((z4'.out.trans (hb'.out.mono z4'.out.size)).size))⟩
end Go.Proofs.Ytmipodnffhngaaa.Top
namespace Go.Proofs.Ytmipodnffhngaaa.Top
open Go.RowKit
set_option maxRecDepth 20000
set_option linter.unusedVariables false

def ipCells (x:P5.IP):List Value:=[.int .i64 x.keep,.int .i64 x.drop,.string ⟨x.put.toArray⟩]
theorem ip_len (l:List P5.IP):(l.flatMap ipCells).length = l.length * 3:=by
  induction l with
  | nil=>rfl
  | cons p r ih=>rw [List.flatMap_cons,List.length_append,ih];simp [ipCells];omega
theorem ip_at:∀ (l:List P5.IP) (q:Nat) (p:P5.IP),l[q]? = some p→∀ j v,(ipCells p)[j]? = some v→(l.flatMap ipCells)[q * 3 + j]? = some v
  | a :: r,0,p,h,j,v,hj=>by
    simp at h
    subst h
    have hjl:=(List.getElem?_eq_some_iff.1 hj).1
    rw [List.flatMap_cons,Nat.zero_mul,Nat.zero_add,List.getElem?_append_left hjl,hj]
  | a :: r,q + 1,p,h,j,v,hj=>by
    have ih:=ip_at r q p (by simpa using h) j v hj
    rw [List.flatMap_cons,List.getElem?_append_right (by simp [ipCells];omega)]
    rw [show (q + 1) * 3 + j - (ipCells a).length = q * 3 + j by simp [ipCells];omega]
    exact ih
theorem ip_of:∀ (l:List P5.IP) (i:Nat) (v:Value),(l.flatMap ipCells)[i]? = some v→∃ p j,l[i / 3]? = some p∧j = i % 3∧(ipCells p)[j]? = some v
  | [],i,v,h=>by simp at h
  | a :: r,i,v,h=>by
    rw [List.flatMap_cons] at h
    by_cases hi:i < 3
    · rw [List.getElem?_append_left (by simp [ipCells];omega)] at h
      refine ⟨a,i,by rw [show i / 3 = 0 by omega];rfl,by omega,h⟩
    · rw [List.getElem?_append_right (by simp [ipCells];omega)] at h
      obtain ⟨p,j,h1,h2,h3⟩:=ip_of r _ v h
      refine ⟨p,j,?_,?_,h3⟩
      · rw [show i / 3 = (i - 3) / 3 + 1 by omega]
        simpa [ipCells] using h1
      · simp [ipCells] at h2
        omega
def OwnQ (base:Nat) (w:World) (v:Value) (l:List P5.IP):Prop:=w.ownsRow base 53 3 v l.length (l.flatMap ipCells)
theorem OwnQ.nil_ (base:Nat) (w:World):OwnQ base w (.slice none 0 0) []:=World.ownsRow_nil w base _ _
def IPok (x:P5.IP):Prop:=-9223372036854775808≤x.keep∧x.keep≤9223372036854775807∧-9223372036854775808≤x.drop∧x.drop≤9223372036854775807∧x.put.length≤maxLen
theorem pcs_ok {w:World} {A:Option Addr} {n:Nat} {l:List P5.IP} (h:P5.PcsIn w A n l):∀ x ∈ l,IPok x:=fun x hx=>by
  obtain ⟨q,hq⟩:=List.mem_iff_getElem?.1 hx
  obtain ⟨ad,-,-,h1,h2,h3,h4,h5,-⟩:=h.2 q x hq
  exact ⟨h1,h2,h3,h4,h5⟩
theorem OwnQ.shape {base:Nat} {w:World} {v:Value} {l:List P5.IP} (h:OwnQ base w v l) (hl:∀ x ∈ l,IPok x):∃ (A:Option Addr) (n c:Nat),v = .slice A n c∧n = l.length∧n≤c∧c≤maxLen∧P5.PcsIn w A n l∧(A = none→c = 0):=by
  obtain ⟨A,c,rfl,h1,h2,h3,h4⟩:=own_form h
  refine ⟨A,_,c,rfl,rfl,h1,h2,⟨rfl,fun q p hp=>?_⟩,h3⟩
  have hq:=(List.getElem?_eq_some_iff.1 hp).1
  obtain ⟨g,rfl,hb,hlt,hc⟩:=h4 (by omega)
  obtain ⟨m1,m2,m3,m4,m5⟩:=hl p (List.mem_of_getElem? hp)
  have c0:=hc _ _ (ip_at l q p hp 0 _ rfl)
  have c1:=hc _ _ (ip_at l q p hp 1 _ rfl)
  have c2:=hc _ _ (ip_at l q p hp 2 _ rfl)
  have hadd:(⟨g,0,none⟩:Addr).add (q * 3) = ⟨g,q * 3,none⟩:=by unfold Addr.add;split <;> simp_all
  refine ⟨_,rfl,hlt,?_⟩
  rw [hadd]
  exact ⟨m1,m2,m3,m4,m5,c0,c1,c2⟩
theorem wpList_append_pcs {w:World} {ops:Array Oper} {rest:List Oper} {o:Oper} {a:Act} {Q:Exit→Act→World→Prop} (hgd:o.guard = none) (s x:Operand)
    (ho:o.op = .call { callee:=.builtin .append,args:=#[s,x],argTypes:=#[24,24] })
    (base:Nat) (v:Value) (xs ys:List P5.IP) (hs:a.eval s = v) (hown:OwnQ base w v xs)
    (A:Option Addr) (m c:Nat) (hx:a.eval x = .slice A m c) (hB:P5.PcsIn w A m ys) (hnil:A = none→c = 0)
    (hlen:xs.length + ys.length≤1000000) (hbase:base≤w.heap.size)
    (h:∀ v' w',OwnQ base w' v' (xs ++ ys)→w.grownBy w' v.ownBlock→(v'.ownBlock = v.ownBlock∨v'.ownBlock = some w.heap.size)→wpList Try.prog ops Q rest (a.put o.dst v') w') :
    wpList Try.prog ops Q (o :: rest) a w:=by
  obtain ⟨i0,hi,hz0,hz1,hz2⟩:=info_parts P5.Try.infoP
  obtain rfl:=hB.1
  cases A with
  | none =>
    obtain rfl:=hB.none_nil
    obtain rfl:=hnil rfl
    refine wpList_append_own_none hgd s x _ ho base 53 i0 3 Try.underlying24 hi v _ _ hs hown hx ?_
    exact h v w (by rw [List.append_nil];exact hown) (World.grownBy.refl w _) (.inl rfl)
  | some ad =>
    refine wpList_append_own_at w hgd s x _ ho base 53 i0 _ 3 32 Try.underlying24 hi hz0 hz1 hz2 rfl (by omega) v xs.length (xs.flatMap ipCells) hs hown ad ys.length c (ys.flatMap ipCells) hx (by rw [ip_len])
      (fun j u hj=>?_) (fun u hu=>?_) (by unfold maxLen;omega) (by omega) hbase ?_
    · obtain ⟨p,k,h1,h2,h3⟩:=ip_of ys j u hj
      obtain ⟨ad',e,_,-,-,-,-,-,c0,c1,c2⟩:=hB.2 _ p h1
      cases Option.some.inj e
      have hj3:j = (j / 3) * 3 + k:=by omega
      have hk:k = 0∨k = 1∨k = 2:=by omega
      have haa:∀ (E:Addr) (i:Nat),(⟨E.block,E.off + (i + 1),none⟩:Addr) = E.add (i + 1):=fun E i=>rfl
      rw [hj3,← P4.add_add]
      rcases hk with rfl | rfl | rfl
      · simp only [ipCells] at h3
        injection h3 with h3
        rw [← h3]
        exact c0
      · simp only [ipCells] at h3
        injection h3 with h3
        rw [← h3]
        exact c1
      · simp only [ipCells] at h3
        injection h3 with h3
        rw [← h3]
        exact c2
    · obtain ⟨p,-,h2⟩:=List.mem_flatMap.1 hu
      simp only [ipCells,List.mem_cons,List.not_mem_nil,or_false] at h2
      rcases h2 with rfl | rfl | rfl <;> rfl
    · intro v' w' hown' hgrow _ hat
      refine h v' w' ?_ hgrow hat
      unfold OwnQ
      rw [List.length_append,List.flatMap_append]
      exact hown'
end Go.Proofs.Ytmipodnffhngaaa.Top
namespace Go.Proofs.Ytmipodnffhngaaa.Top
open Go.RowKit
set_option maxRecDepth 20000
set_option linter.unusedVariables false

def bareV (o:Ov):Ov where
  kind:=o.kind
  path:=if 1≤o.kind∧o.kind≤6 then o.path else []
  at_:=if o.kind = 1∨o.kind = 3 then o.at_ else 0
  to_:=if o.kind = 3 then o.to_ else []
  id:=if o.kind = 1 then o.id else 0
  leaf:=if o.kind = 1 then o.leaf else false
  label:=if o.kind = 1∨o.kind = 5 then o.label else []
  key:=if o.kind = 4 then o.key else []
  value:=if o.kind = 4∧o.gone = false then o.value else []
  gone:=if o.kind = 4 then o.gone else false
  pieces:=if o.kind = 6 then o.pieces else []
theorem own_kept {w w':World} {base:Nat} {e:TypeId} {size:Nat} {v:Value} {n:Nat} {xs:List Value} (h:w.ownsRow base e size v n xs) (hk:∀ k,base≤k→k < w.heap.size→w'.heap[k]? = w.heap[k]?):w'.ownsRow base e size v n xs:=by
  obtain ⟨h1,h2 | ⟨g,cap,cur,rfl,hb,hg,hr⟩⟩:=h
  · exact ⟨h1,.inl h2⟩
  · exact ⟨h1,.inr ⟨g,cap,cur,rfl,hb,(hk g hb (Array.getElem?_eq_some_iff.1 hg).1).trans hg,hr⟩⟩
theorem own_mono {w:World} {base base':Nat} {e:TypeId} {size:Nat} {v:Value} {n:Nat} {xs:List Value} (h:w.ownsRow base e size v n xs) (hb:base'≤base):w.ownsRow base' e size v n xs:=by
  obtain ⟨h1,h2 | ⟨g,cap,cur,rfl,hbb,hr⟩⟩:=h
  · exact ⟨h1,.inl h2⟩
  · exact ⟨h1,.inr ⟨g,cap,cur,rfl,Nat.le_trans hb hbb,hr⟩⟩
structure OwnOp (base:Nat) (w:World) (o:Ov) (s:OS):Prop where
  path:P4.OwnI base w (.slice s.pA s.pn s.pc) o.path
  to_:P4.OwnI base w (.slice s.tA s.tn s.tc) o.to_
  pieces:OwnQ base w (.slice s.qA s.qn s.qc) o.pieces
theorem OwnOp.kept {w w':World} {base:Nat} {o:Ov} {s:OS} (h:OwnOp base w o s) (hk:∀ k,base≤k→k < w.heap.size→w'.heap[k]? = w.heap[k]?):OwnOp base w' o s :=
  ⟨own_kept h.path hk,own_kept h.to_ hk,own_kept h.pieces hk⟩
theorem OwnOp.mono {w:World} {base base':Nat} {o:Ov} {s:OS} (h:OwnOp base w o s) (hb:base'≤base):OwnOp base' w o s :=
  ⟨own_mono h.path hb,own_mono h.to_ hb,own_mono h.pieces hb⟩
structure OvOk (o:Ov):Prop where
  kind:o.kind < 256
  at_:-9223372036854775808≤o.at_∧o.at_≤9223372036854775807
  id:o.id < 18446744073709551616
  label:o.label.length≤maxLen
  key:o.key.length≤maxLen
  value:o.value.length≤maxLen
  pfew:o.path.length≤500000
  tfew:o.to_.length≤500000
  qfew:o.pieces.length≤500000
  pfit:Fit o.path
  tfit:Fit o.to_
  pieces:∀ x ∈ o.pieces,IPok x
theorem op_ok {w:World} {o:Ov} {s:OS} (h:OpIn w o s):OvOk o :=
  ⟨h.kind,h.at_,h.id,h.label,h.key,h.value,by rw [h.path.1];exact h.pfew,by rw [h.to_.1];exact h.tfew,by rw [h.pieces.1];exact h.qfew,h.pfit,h.tfit,pcs_ok h.pieces⟩
theorem OvOk.bare {o:Ov} (h:OvOk o):OvOk (bareV o):=by
  have nilP:Fit []:=fun x hx=>by cases hx
  refine ⟨h.kind,?_,?_,?_,?_,?_,?_,?_,?_,?_,?_,?_⟩ <;> unfold bareV <;> dsimp only <;> split
  · exact h.at_
  · omega
  · exact h.id
  · omega
  · exact h.label
  · exact Nat.zero_le _
  · exact h.key
  · exact Nat.zero_le _
  · exact h.value
  · exact Nat.zero_le _
  · exact h.pfew
  · exact Nat.zero_le _
  · exact h.tfew
  · exact Nat.zero_le _
  · exact h.qfew
  · exact Nat.zero_le _
  · exact h.pfit
  · exact nilP
  · exact h.tfit
  · exact nilP
  · exact h.pieces
  · intro x hx;cases hx
theorem OwnOp.op {base:Nat} {w:World} {o:Ov} {s:OS} (h:OwnOp base w o s) (hok:OvOk o):OpIn w o s:=by
  obtain ⟨A1,n1,c1,e1,hn1,hc1,hm1,hi1,hz1⟩:=P4.OwnI.shape h.path
  obtain ⟨A2,n2,c2,e2,hn2,hc2,hm2,hi2,hz2⟩:=P4.OwnI.shape h.to_
  obtain ⟨A3,n3,c3,e3,hn3,hc3,hm3,hi3,hz3⟩:=OwnQ.shape h.pieces hok.pieces
  injection e1 with a1 b1 d1
  injection e2 with a2 b2 d2
  injection e3 with a3 b3 d3
  subst a1 b1 d1 a2 b2 d2 a3 b3 d3
  exact ⟨hok.kind,hi1,hc1,hm1,hz1,hok.at_,hi2,hc2,hm2,hz2,hok.id,hok.label,hok.key,hok.value,hi3,hc3,hm3,hz3,by rw [hn1];exact hok.pfew,by rw [hn2];exact hok.tfew,by rw [hn3];exact hok.qfew,hok.pfit,hok.tfit⟩
theorem set_op {w:World} {g:Nat} {a0 a1 a2 a3 a4 a5 a6 a7 a8 a9 a10 b0 b1 b2 b3 b4 b5 b6 b7 b8 b9 b10:Value} {ty:TypeId} (h:w.heap[g]? = some (.cells #[a0,a1,a2,a3,a4,a5,a6,a7,a8,a9,a10] ty (0,0))) :
    (((((((((((w.setCell ⟨g,0,none⟩ (b0)).setCell ⟨g,1,none⟩ (b1)).setCell ⟨g,2,none⟩ (b2)).setCell ⟨g,3,none⟩ (b3)).setCell ⟨g,4,none⟩ (b4)).setCell ⟨g,5,none⟩ (b5)).setCell ⟨g,6,none⟩ (b6)).setCell ⟨g,7,none⟩ (b7)).setCell ⟨g,8,none⟩ (b8)).setCell ⟨g,9,none⟩ (b9)).setCell ⟨g,10,none⟩ (b10)).heap[g]? = some (.cells #[b0,b1,b2,b3,b4,b5,b6,b7,b8,b9,b10] ty (0,0)):=by
  have e0:=heap_setCell_same w g 0 _ _ b0 h
  have e1:=heap_setCell_same _ g 1 _ _ b1 e0
  have e2:=heap_setCell_same _ g 2 _ _ b2 e1
  have e3:=heap_setCell_same _ g 3 _ _ b3 e2
  have e4:=heap_setCell_same _ g 4 _ _ b4 e3
  have e5:=heap_setCell_same _ g 5 _ _ b5 e4
  have e6:=heap_setCell_same _ g 6 _ _ b6 e5
  have e7:=heap_setCell_same _ g 7 _ _ b7 e6
  have e8:=heap_setCell_same _ g 8 _ _ b8 e7
  have e9:=heap_setCell_same _ g 9 _ _ b9 e8
  have e10:=heap_setCell_same _ g 10 _ _ b10 e9
  rw [e10]
  simp
theorem set_op_other {w:World} {g k:Nat} {b0 b1 b2 b3 b4 b5 b6 b7 b8 b9 b10:Value} (h:k ≠ g):(((((((((((w.setCell ⟨g,0,none⟩ (b0)).setCell ⟨g,1,none⟩ (b1)).setCell ⟨g,2,none⟩ (b2)).setCell ⟨g,3,none⟩ (b3)).setCell ⟨g,4,none⟩ (b4)).setCell ⟨g,5,none⟩ (b5)).setCell ⟨g,6,none⟩ (b6)).setCell ⟨g,7,none⟩ (b7)).setCell ⟨g,8,none⟩ (b8)).setCell ⟨g,9,none⟩ (b9)).setCell ⟨g,10,none⟩ (b10)).heap[k]? = w.heap[k]?:=by
  repeat rw [heap_setCell_other _ _ k _ h]
theorem below_op {B:Nat} {w0 w:World} {g:Nat} {b0 b1 b2 b3 b4 b5 b6 b7 b8 b9 b10:Value} (h:Below B w0 w) (hg:B≤g):Below B w0 (((((((((((w.setCell ⟨g,0,none⟩ (b0)).setCell ⟨g,1,none⟩ (b1)).setCell ⟨g,2,none⟩ (b2)).setCell ⟨g,3,none⟩ (b3)).setCell ⟨g,4,none⟩ (b4)).setCell ⟨g,5,none⟩ (b5)).setCell ⟨g,6,none⟩ (b6)).setCell ⟨g,7,none⟩ (b7)).setCell ⟨g,8,none⟩ (b8)).setCell ⟨g,9,none⟩ (b9)).setCell ⟨g,10,none⟩ (b10)) :=
  ((((((((((h.setCell hg _).setCell hg _).setCell hg _).setCell hg _).setCell hg _).setCell hg _).setCell hg _).setCell hg _).setCell hg _).setCell hg _).setCell hg _
theorem end_op {w w1:World} {r:Nat} {ty:TypeId} {o:Ov} {s:OS} {a0 a1 a2 a3 a4 a5 a6 a7 a8 a9 a10:Value} (hw:w.heap.size≤r) (hb:Below w.heap.size w w1) (hr:w1.heap[r]? = some (.cells #[a0,a1,a2,a3,a4,a5,a6,a7,a8,a9,a10] ty (0,0))) :
    ∃ W9,W9 = (((((((((((w1.setCell ⟨r,0,none⟩ (.int .u8 (o.kind:Int))).setCell ⟨r,1,none⟩ (.slice s.pA s.pn s.pc)).setCell ⟨r,2,none⟩ (.int .i64 o.at_)).setCell ⟨r,3,none⟩ (.slice s.tA s.tn s.tc)).setCell ⟨r,4,none⟩ (.int .u64 (o.id:Int))).setCell ⟨r,5,none⟩ (.bool o.leaf)).setCell ⟨r,6,none⟩ (.string ⟨o.label.toArray⟩)).setCell ⟨r,7,none⟩ (.string ⟨o.key.toArray⟩)).setCell ⟨r,8,none⟩ (.string ⟨o.value.toArray⟩)).setCell ⟨r,9,none⟩ (.bool o.gone)).setCell ⟨r,10,none⟩ (.slice s.qA s.qn s.qc))∧W9.heap[r]? = some (.cells (opCells o s) ty (0,0))∧Below w.heap.size w W9∧W9.heap.size = w1.heap.size∧∀ k,k ≠ r→W9.heap[k]? = w1.heap[k]? :=
  ⟨_,rfl,set_op hr,below_op hb hw,by simp only [World.size_setCell],fun k hk=>set_op_other hk⟩
def zero11:Array Value:=#[.int .u8 0,.slice none 0 0,.int .i64 0,.slice none 0 0,.int .u64 0,.bool false,.string ⟨#[]⟩,.string ⟨#[]⟩,.string ⟨#[]⟩,.bool false,.slice none 0 0]
def BareA (w:World) (b:Ov) (e:Ending) (w':World):Prop:=∃ s,e = .returned (.agg (opCells b s))∧OwnOp w.heap.size w' b s∧Below w.heap.size w w'
theorem eleven_cells {w:World} {g:Nat} {b0 b1 b2 b3 b4 b5 b6 b7 b8 b9 b10:Value} {t:TypeId} (h:w.heap[g]? = some (.cells #[b0,b1,b2,b3,b4,b5,b6,b7,b8,b9,b10] t (0,0))) :
    w.cell? ⟨g,0,none⟩ = some b0∧w.cell? ⟨g,1,none⟩ = some b1∧w.cell? ⟨g,2,none⟩ = some b2∧w.cell? ⟨g,3,none⟩ = some b3∧w.cell? ⟨g,4,none⟩ = some b4∧w.cell? ⟨g,5,none⟩ = some b5∧w.cell? ⟨g,6,none⟩ = some b6∧w.cell? ⟨g,7,none⟩ = some b7∧w.cell? ⟨g,8,none⟩ = some b8∧w.cell? ⟨g,9,none⟩ = some b9∧w.cell? ⟨g,10,none⟩ = some b10∧∀ o,w.frozen? ⟨g,o,none⟩ = false :=
  ⟨cell_of_row w g 0 _ _ _ h,cell_of_row w g 1 _ _ _ h,cell_of_row w g 2 _ _ _ h,cell_of_row w g 3 _ _ _ h,cell_of_row w g 4 _ _ _ h,cell_of_row w g 5 _ _ _ h,cell_of_row w g 6 _ _ _ h,cell_of_row w g 7 _ _ _ h,cell_of_row w g 8 _ _ _ h,cell_of_row w g 9 _ _ _ h,cell_of_row w g 10 _ _ _ h,fun o=>frozen_of_row w g o _ _ h⟩
end Go.Proofs.Ytmipodnffhngaaa.Top
namespace Go.Proofs.Ytmipodnffhngaaa.Top
open Go.RowKit
set_option maxRecDepth 20000
set_option linter.unusedVariables false

theorem two_rows {w W3 w1 w2:World} {B:Nat} {o1 o2 o3:Obj} (z1:W3.heap[B]? = some o1) (z2:W3.heap[B + 1]? = some o2) (z3:W3.heap[B + 1 + 1]? = some o3) (z5:W3.heap.size = B + 1 + 1 + 1) (h1:Below W3.heap.size W3 w1) (h2:Below w1.heap.size w1 w2) :
    Below W3.heap.size W3 w2∧w2.heap[B]? = some o1∧w2.heap[B + 1]? = some o2∧w2.heap[B + 1 + 1]? = some o3:=by
  have h:=h1.trans (h2.mono h1.size)
  exact ⟨h,(h.block _ (by omega)).trans z1,(h.block _ (by omega)).trans z2,(h.block _ (by omega)).trans z3⟩
set_option maxHeartbeats 4000000 in
theorem rbare_k1 (w:World) (o:Ov) (s:OS) (ho:OpIn w o s) (hk:o.kind = 1) :Calls Try.prog 29 #[.agg (opCells o s)] w (BareA w (bareV o)):=by
  obtain ⟨z1,z2,z3,z4,z5⟩:=three_new w (.cells (opCells o s) 26) (.cells zero11 26) (.cells #[.int .u8 1,.slice none 0 0,.int .i64 0,.slice none 0 0,.int .u64 0,.bool false,.string ⟨#[]⟩,.string ⟨#[]⟩,.string ⟨#[]⟩,.bool false,.slice none 0 0] 26)
  obtain ⟨W3,hW3⟩:∃ W3,W3 = ((w.alloc (.cells (opCells o s) 26)).alloc (.cells zero11 26)).alloc (.cells #[.int .u8 1,.slice none 0 0,.int .i64 0,.slice none 0 0,.int .u64 0,.bool false,.string ⟨#[]⟩,.string ⟨#[]⟩,.string ⟨#[]⟩,.bool false,.slice none 0 0] 26):=⟨_,rfl⟩
  rw [← hW3] at z1 z2 z3 z4 z5
  have hkI:=Lib.hid (show (o.kind:Int) = 1 by omega)
  have ho':=Lib.hid ho
  have z1':=Lib.hid z1
  have z2':=Lib.hid z2
  have z3':=Lib.hid z3
  have z4':=Lib.hid z4
  have z5':=Lib.hid z5
  unfold opCells zero11 at hW3
  unfold opCells
  rw [hkI.out] at hW3 ⊢
  clear ho z1 z2 z3 z4 z5
  go_enter Try.func29,Try.ntmps29
  go_upto_region 3 with fail
  rw [← hW3]
  clear hW3
  have o1u:=z1'.out
  obtain ⟨o0,o1,o2,o3,o4,o5,o6,o7,o8,o9,o10⟩:=op_cells o1u
  clear o1u
  go_upto_region 4 with (at_builtin;go_loud (refine P4.wpList_append_its rfl _ (.tmp 11) rfl (w.heap.size + 1 + 1 + 1) (.slice none 0 0) [] o.path rfl (P4.OwnI.nil_ _ _) s.pA s.pn s.pc rfl (ho'.out.below z4'.out).path ho'.out.pnil (by have h7:=ho'.out.path.1;have h8:=ho'.out.pfew;simp only [List.length_nil];omega) (by have:=z5'.out;omega) ?_;intro v1 w1 ho1 hg1 hat1;have hb1:=P4.grown_nil hg1;have B1:=Lib.hid hb1;have V1:=Lib.hid ho1;obtain ⟨A1,n1,c1,rfl,-⟩:=P4.OwnI.shape ho1;have y1:=(hb1.block w.heap.size (by have:=z5'.out;omega)).trans z1'.out;clear o0 o1 o2 o3 o4 o5 o6 o7 o8 o9 o10 ho1 hg1 hat1 hb1;obtain ⟨o0,o1,o2,o3,o4,o5,o6,o7,o8,o9,o10⟩:=op_cells y1;clear y1))
  go_upto_region 5 with (at_builtin;go_loud (refine P4.wpList_append_its rfl _ (.tmp 15) rfl (w.heap.size + 1 + 1 + 1) (.slice none 0 0) [] o.to_ rfl (P4.OwnI.nil_ _ _) s.tA s.tn s.tc rfl (ho'.out.below (z4'.out.trans (B1.out.mono z4'.out.size))).to_ ho'.out.tnil (by have h7:=ho'.out.to_.1;have h8:=ho'.out.tfew;simp only [List.length_nil];omega) (by have:=z5'.out;have:=B1.out.size;omega) ?_;intro v2 w2 ho2 hg2 hat2;have hb2:=P4.grown_nil hg2;have B2:=Lib.hid hb2;have V2:=Lib.hid ho2;obtain ⟨A2,n2,c2,rfl,-⟩:=P4.OwnI.shape ho2;clear o0 o1 o2 o3 o4 o5 o6 o7 o8 o9 o10 ho2 hg2 hat2 hb2))
  obtain ⟨b3,y1,y2,y3⟩:=two_rows (w:=w) z1'.out z2'.out z3'.out z5'.out B1.out B2.out
  have B3:=Lib.hid b3
  have Y1:=Lib.hid y1
  have Y2:=Lib.hid y2
  have Y3:=Lib.hid y3
  have yw:=Lib.hid (z4'.out.trans (b3.mono z4'.out.size))
  obtain ⟨o0,o1,o2,o3,o4,o5,o6,o7,o8,o9,o10⟩:=op_cells y1
  obtain ⟨p0,p1,p2,p3,p4,p5,p6,p7,p8,p9,p10,pf⟩:=eleven_cells y3
  have hl3:w.heap.size + 1 + 1 < w2.heap.size:=(Array.getElem?_eq_some_iff.1 y3).1
  clear b3 y1 y2 y3
  go_upto_region 25 with fail
  clear o0 o1 o2 o3 o4 o5 o6 o7 o8 o9 o10 p0 p1 p2 p3 p4 p5 p6 p7 p8 p9 p10 pf
  obtain ⟨X,hX⟩:∃ X,X = ((((w2.setCell ⟨w.heap.size + 1 + 1,2,none⟩ (.int .i64 o.at_)).setCell ⟨w.heap.size + 1 + 1,4,none⟩ (.int .u64 (o.id:Int))).setCell ⟨w.heap.size + 1 + 1,5,none⟩ (.bool o.leaf)).setCell ⟨w.heap.size + 1 + 1,6,none⟩ (.string ⟨o.label.toArray⟩)):=⟨_,rfl⟩
  have x3:X.heap[w.heap.size + 1 + 1]? = some (.cells #[.int .u8 1,.slice none 0 0,.int .i64 o.at_,.slice none 0 0,.int .u64 (o.id:Int),.bool o.leaf,.string ⟨o.label.toArray⟩,.string ⟨#[]⟩,.string ⟨#[]⟩,.bool false,.slice none 0 0] 26 (0,0)):=by rw [hX];have e0:=heap_setCell_same _ _ 2 _ _ (.int .i64 o.at_) Y3.out;have e1:=heap_setCell_same _ _ 4 _ _ (.int .u64 (o.id:Int)) e0;have e2:=heap_setCell_same _ _ 5 _ _ (.bool o.leaf) e1;have e3:=heap_setCell_same _ _ 6 _ _ (.string ⟨o.label.toArray⟩) e2;rw [e3];simp
  have hk5:=Lib.hid (show ∀ k,k ≠ w.heap.size + 1 + 1→X.heap[k]? = w2.heap[k]? by intro k hk;rw [hX];repeat rw [heap_setCell_other _ _ k _ hk])
  have xw:=Lib.hid (show Below w.heap.size w X by rw [hX];exact ((((yw.out.setCell (p:=⟨w.heap.size + 1 + 1,2,none⟩) (by show w.heap.size≤w.heap.size + 1 + 1;omega) _).setCell (p:=⟨w.heap.size + 1 + 1,4,none⟩) (by show w.heap.size≤w.heap.size + 1 + 1;omega) _).setCell (p:=⟨w.heap.size + 1 + 1,5,none⟩) (by show w.heap.size≤w.heap.size + 1 + 1;omega) _).setCell (p:=⟨w.heap.size + 1 + 1,6,none⟩) (by show w.heap.size≤w.heap.size + 1 + 1;omega) _))
  have xz:=Lib.hid (show X.heap.size = w2.heap.size by rw [hX];simp)
  rw [← hX]
  clear hX
  obtain ⟨p0,p1,p2,p3,p4,p5,p6,p7,p8,p9,p10,pf⟩:=eleven_cells x3
  have X3:=Lib.hid x3
  have hlx:w.heap.size + 1 + 1 < X.heap.size:=(Array.getElem?_eq_some_iff.1 x3).1
  clear x3
  go_upto_region 26 with fail
  clear p0 p1 p2 p3 p4 p5 p6 p7 p8 p9 p10 pf
  obtain ⟨W5,hW5⟩:∃ W5,W5 = X.setCell ⟨w.heap.size + 1 + 1,1,none⟩ (.slice A1 n1 c1):=⟨_,rfl⟩
  have r3:W5.heap[w.heap.size + 1 + 1]? = some (.cells #[.int .u8 1,.slice A1 n1 c1,.int .i64 o.at_,.slice none 0 0,.int .u64 (o.id:Int),.bool o.leaf,.string ⟨o.label.toArray⟩,.string ⟨#[]⟩,.string ⟨#[]⟩,.bool false,.slice none 0 0] 26 (0,0)):=by rw [hW5,heap_setCell_same X _ 1 _ _ _ X3.out];simp
  have h5:=Lib.hid (show ∀ k,k ≠ w.heap.size + 1 + 1→W5.heap[k]? = w2.heap[k]? by intro k hk;rw [hW5];exact (heap_setCell_other _ _ k _ hk).trans (hk5.out k hk))
  have w5b:=Lib.hid (show Below w.heap.size w W5 by rw [hW5];exact xw.out.setCell (p:=⟨w.heap.size + 1 + 1,1,none⟩) (by show w.heap.size≤w.heap.size + 1 + 1;omega) _)
  rw [← hW5]
  clear hW5
  have r2:=(h5.out (w.heap.size + 1) (by omega)).trans Y2.out
  unfold zero11 at r2
  have r2h:=Lib.hid r2
  obtain ⟨p0,p1,p2,p3,p4,p5,p6,p7,p8,p9,p10,pf⟩:=eleven_cells r3
  obtain ⟨q0,q1,q2,q3,q4,q5,q6,q7,q8,q9,q10,qf⟩:=eleven_cells r2
  have hl2:w.heap.size + 1 < W5.heap.size:=(Array.getElem?_eq_some_iff.1 r2).1
  clear r2 r3
  go_wp2_with fail
  obtain ⟨W9,hW9,R9,B9,Z9,K9⟩:=end_op (o:=(⟨1,o.path,o.at_,[],o.id,o.leaf,o.label,[],[],false,[]⟩:Ov)) (s:=⟨A1,n1,c1,none,0,0,none,0,0⟩) (r:=w.heap.size + 1) (by omega) w5b.out r2h.out
  have hW9':W9 = (((((((((((W5.setCell ⟨w.heap.size + 1,0,none⟩ (.int .u8 1)).setCell ⟨w.heap.size + 1,1,none⟩ (.slice A1 n1 c1)).setCell ⟨w.heap.size + 1,2,none⟩ (.int .i64 o.at_)).setCell ⟨w.heap.size + 1,3,none⟩ (.slice none 0 0)).setCell ⟨w.heap.size + 1,4,none⟩ (.int .u64 (o.id:Int))).setCell ⟨w.heap.size + 1,5,none⟩ (.bool o.leaf)).setCell ⟨w.heap.size + 1,6,none⟩ (.string ⟨o.label.toArray⟩)).setCell ⟨w.heap.size + 1,7,none⟩ (.string ⟨#[]⟩)).setCell ⟨w.heap.size + 1,8,none⟩ (.string ⟨#[]⟩)).setCell ⟨w.heap.size + 1,9,none⟩ (.bool false)).setCell ⟨w.heap.size + 1,10,none⟩ (.slice none 0 0)):=hW9
  rw [← hW9']
  clear hW9' hW9
  unfold opCells at R9
  obtain ⟨d0,d1,d2,d3,d4,d5,d6,d7,d8,d9,d10,df⟩:=eleven_cells R9
  refine bodyPost_ret (v:=.agg (opCells (⟨1,o.path,o.at_,[],o.id,o.leaf,o.label,[],[],false,[]⟩:Ov) ⟨A1,n1,c1,none,0,0,none,0,0⟩)) (by simp [results,Try.results29,go_sem,d0,d1,d2,d3,d4,d5,d6,d7,d8,d9,d10,opCells]) rfl ?_
  have kk:∀ k,w.heap.size + 1 + 1 + 1≤k→W9.heap[k]? = w2.heap[k]?:=fun k hk=>(K9 k (by omega)).trans (h5.out k (by omega))
  rw [show bareV o = (⟨1,o.path,o.at_,[],o.id,o.leaf,o.label,[],[],false,[]⟩:Ov) by unfold bareV;simp [hk]]
  refine ⟨_,rfl,⟨own_mono (own_kept V1.out fun k h1 h2=>(kk k h1).trans (B2.out.block k h2)) (by omega),P4.OwnI.nil_ _ _,OwnQ.nil_ _ _⟩,B9⟩
set_option maxHeartbeats 4000000 in
theorem rbare_k2 (w:World) (o:Ov) (s:OS) (ho:OpIn w o s) (hk:o.kind = 2) :Calls Try.prog 29 #[.agg (opCells o s)] w (BareA w (bareV o)):=by
  obtain ⟨z1,z2,z3,z4,z5⟩:=three_new w (.cells (opCells o s) 26) (.cells zero11 26) (.cells #[.int .u8 2,.slice none 0 0,.int .i64 0,.slice none 0 0,.int .u64 0,.bool false,.string ⟨#[]⟩,.string ⟨#[]⟩,.string ⟨#[]⟩,.bool false,.slice none 0 0] 26)
  obtain ⟨W3,hW3⟩:∃ W3,W3 = ((w.alloc (.cells (opCells o s) 26)).alloc (.cells zero11 26)).alloc (.cells #[.int .u8 2,.slice none 0 0,.int .i64 0,.slice none 0 0,.int .u64 0,.bool false,.string ⟨#[]⟩,.string ⟨#[]⟩,.string ⟨#[]⟩,.bool false,.slice none 0 0] 26):=⟨_,rfl⟩
  rw [← hW3] at z1 z2 z3 z4 z5
  have hkI:=Lib.hid (show (o.kind:Int) = 2 by omega)
  have ho':=Lib.hid ho
  have z1':=Lib.hid z1
  have z2':=Lib.hid z2
  have z3':=Lib.hid z3
  have z4':=Lib.hid z4
  have z5':=Lib.hid z5
  unfold opCells zero11 at hW3
  unfold opCells
  rw [hkI.out] at hW3 ⊢
  clear ho z1 z2 z3 z4 z5
  go_enter Try.func29,Try.ntmps29
  go_upto_region 3 with fail
  rw [← hW3]
  clear hW3
  have o1u:=z1'.out
  obtain ⟨o0,o1,o2,o3,o4,o5,o6,o7,o8,o9,o10⟩:=op_cells o1u
  clear o1u
  go_upto_region 4 with (at_builtin;go_loud (refine P4.wpList_append_its rfl _ (.tmp 11) rfl (w.heap.size + 1 + 1 + 1) (.slice none 0 0) [] o.path rfl (P4.OwnI.nil_ _ _) s.pA s.pn s.pc rfl (ho'.out.below z4'.out).path ho'.out.pnil (by have h7:=ho'.out.path.1;have h8:=ho'.out.pfew;simp only [List.length_nil];omega) (by have:=z5'.out;omega) ?_;intro v1 w1 ho1 hg1 hat1;have hb1:=P4.grown_nil hg1;have B1:=Lib.hid hb1;have V1:=Lib.hid ho1;obtain ⟨A1,n1,c1,rfl,-⟩:=P4.OwnI.shape ho1;have y1:=(hb1.block w.heap.size (by have:=z5'.out;omega)).trans z1'.out;clear o0 o1 o2 o3 o4 o5 o6 o7 o8 o9 o10 ho1 hg1 hat1 hb1;obtain ⟨o0,o1,o2,o3,o4,o5,o6,o7,o8,o9,o10⟩:=op_cells y1;clear y1))
  go_upto_region 5 with (at_builtin;go_loud (refine P4.wpList_append_its rfl _ (.tmp 15) rfl (w.heap.size + 1 + 1 + 1) (.slice none 0 0) [] o.to_ rfl (P4.OwnI.nil_ _ _) s.tA s.tn s.tc rfl (ho'.out.below (z4'.out.trans (B1.out.mono z4'.out.size))).to_ ho'.out.tnil (by have h7:=ho'.out.to_.1;have h8:=ho'.out.tfew;simp only [List.length_nil];omega) (by have:=z5'.out;have:=B1.out.size;omega) ?_;intro v2 w2 ho2 hg2 hat2;have hb2:=P4.grown_nil hg2;have B2:=Lib.hid hb2;have V2:=Lib.hid ho2;obtain ⟨A2,n2,c2,rfl,-⟩:=P4.OwnI.shape ho2;clear o0 o1 o2 o3 o4 o5 o6 o7 o8 o9 o10 ho2 hg2 hat2 hb2))
  obtain ⟨b3,y1,y2,y3⟩:=two_rows (w:=w) z1'.out z2'.out z3'.out z5'.out B1.out B2.out
  have B3:=Lib.hid b3
  have Y1:=Lib.hid y1
  have Y2:=Lib.hid y2
  have Y3:=Lib.hid y3
  have yw:=Lib.hid (z4'.out.trans (b3.mono z4'.out.size))
  obtain ⟨o0,o1,o2,o3,o4,o5,o6,o7,o8,o9,o10⟩:=op_cells y1
  obtain ⟨p0,p1,p2,p3,p4,p5,p6,p7,p8,p9,p10,pf⟩:=eleven_cells y3
  have hl3:w.heap.size + 1 + 1 < w2.heap.size:=(Array.getElem?_eq_some_iff.1 y3).1
  clear b3 y1 y2 y3
  go_upto_region 25 with fail
  clear o0 o1 o2 o3 o4 o5 o6 o7 o8 o9 o10 p0 p1 p2 p3 p4 p5 p6 p7 p8 p9 p10 pf
  obtain ⟨X,hX⟩:∃ X,X = w2:=⟨_,rfl⟩
  have x3:X.heap[w.heap.size + 1 + 1]? = some (.cells #[.int .u8 2,.slice none 0 0,.int .i64 0,.slice none 0 0,.int .u64 0,.bool false,.string ⟨#[]⟩,.string ⟨#[]⟩,.string ⟨#[]⟩,.bool false,.slice none 0 0] 26 (0,0)):=by rw [hX];exact Y3.out
  have hk5:=Lib.hid (show ∀ k,k ≠ w.heap.size + 1 + 1→X.heap[k]? = w2.heap[k]? by intro k hk;rw [hX])
  have xw:=Lib.hid (show Below w.heap.size w X by rw [hX];exact yw.out)
  have xz:=Lib.hid (show X.heap.size = w2.heap.size by rw [hX])
  rw [← hX]
  clear hX
  obtain ⟨p0,p1,p2,p3,p4,p5,p6,p7,p8,p9,p10,pf⟩:=eleven_cells x3
  have X3:=Lib.hid x3
  have hlx:w.heap.size + 1 + 1 < X.heap.size:=(Array.getElem?_eq_some_iff.1 x3).1
  clear x3
  go_upto_region 26 with fail
  clear p0 p1 p2 p3 p4 p5 p6 p7 p8 p9 p10 pf
  obtain ⟨W5,hW5⟩:∃ W5,W5 = X.setCell ⟨w.heap.size + 1 + 1,1,none⟩ (.slice A1 n1 c1):=⟨_,rfl⟩
  have r3:W5.heap[w.heap.size + 1 + 1]? = some (.cells #[.int .u8 2,.slice A1 n1 c1,.int .i64 0,.slice none 0 0,.int .u64 0,.bool false,.string ⟨#[]⟩,.string ⟨#[]⟩,.string ⟨#[]⟩,.bool false,.slice none 0 0] 26 (0,0)):=by rw [hW5,heap_setCell_same X _ 1 _ _ _ X3.out];simp
  have h5:=Lib.hid (show ∀ k,k ≠ w.heap.size + 1 + 1→W5.heap[k]? = w2.heap[k]? by intro k hk;rw [hW5];exact (heap_setCell_other _ _ k _ hk).trans (hk5.out k hk))
  have w5b:=Lib.hid (show Below w.heap.size w W5 by rw [hW5];exact xw.out.setCell (p:=⟨w.heap.size + 1 + 1,1,none⟩) (by show w.heap.size≤w.heap.size + 1 + 1;omega) _)
  rw [← hW5]
  clear hW5
  have r2:=(h5.out (w.heap.size + 1) (by omega)).trans Y2.out
  unfold zero11 at r2
  have r2h:=Lib.hid r2
  obtain ⟨p0,p1,p2,p3,p4,p5,p6,p7,p8,p9,p10,pf⟩:=eleven_cells r3
  obtain ⟨q0,q1,q2,q3,q4,q5,q6,q7,q8,q9,q10,qf⟩:=eleven_cells r2
  have hl2:w.heap.size + 1 < W5.heap.size:=(Array.getElem?_eq_some_iff.1 r2).1
  clear r2 r3
  go_wp2_with fail
  obtain ⟨W9,hW9,R9,B9,Z9,K9⟩:=end_op (o:=(⟨2,o.path,0,[],0,false,[],[],[],false,[]⟩:Ov)) (s:=⟨A1,n1,c1,none,0,0,none,0,0⟩) (r:=w.heap.size + 1) (by omega) w5b.out r2h.out
  have hW9':W9 = (((((((((((W5.setCell ⟨w.heap.size + 1,0,none⟩ (.int .u8 2)).setCell ⟨w.heap.size + 1,1,none⟩ (.slice A1 n1 c1)).setCell ⟨w.heap.size + 1,2,none⟩ (.int .i64 0)).setCell ⟨w.heap.size + 1,3,none⟩ (.slice none 0 0)).setCell ⟨w.heap.size + 1,4,none⟩ (.int .u64 0)).setCell ⟨w.heap.size + 1,5,none⟩ (.bool false)).setCell ⟨w.heap.size + 1,6,none⟩ (.string ⟨#[]⟩)).setCell ⟨w.heap.size + 1,7,none⟩ (.string ⟨#[]⟩)).setCell ⟨w.heap.size + 1,8,none⟩ (.string ⟨#[]⟩)).setCell ⟨w.heap.size + 1,9,none⟩ (.bool false)).setCell ⟨w.heap.size + 1,10,none⟩ (.slice none 0 0)):=hW9
  rw [← hW9']
  clear hW9' hW9
  unfold opCells at R9
  obtain ⟨d0,d1,d2,d3,d4,d5,d6,d7,d8,d9,d10,df⟩:=eleven_cells R9
  refine bodyPost_ret (v:=.agg (opCells (⟨2,o.path,0,[],0,false,[],[],[],false,[]⟩:Ov) ⟨A1,n1,c1,none,0,0,none,0,0⟩)) (by simp [results,Try.results29,go_sem,d0,d1,d2,d3,d4,d5,d6,d7,d8,d9,d10,opCells]) rfl ?_
  have kk:∀ k,w.heap.size + 1 + 1 + 1≤k→W9.heap[k]? = w2.heap[k]?:=fun k hk=>(K9 k (by omega)).trans (h5.out k (by omega))
  rw [show bareV o = (⟨2,o.path,0,[],0,false,[],[],[],false,[]⟩:Ov) by unfold bareV;simp [hk]]
  refine ⟨_,rfl,⟨own_mono (own_kept V1.out fun k h1 h2=>(kk k h1).trans (B2.out.block k h2)) (by omega),P4.OwnI.nil_ _ _,OwnQ.nil_ _ _⟩,B9⟩
set_option maxHeartbeats 4000000 in
theorem rbare_k3 (w:World) (o:Ov) (s:OS) (ho:OpIn w o s) (hk:o.kind = 3) :Calls Try.prog 29 #[.agg (opCells o s)] w (BareA w (bareV o)):=by
  obtain ⟨z1,z2,z3,z4,z5⟩:=three_new w (.cells (opCells o s) 26) (.cells zero11 26) (.cells #[.int .u8 3,.slice none 0 0,.int .i64 0,.slice none 0 0,.int .u64 0,.bool false,.string ⟨#[]⟩,.string ⟨#[]⟩,.string ⟨#[]⟩,.bool false,.slice none 0 0] 26)
  obtain ⟨W3,hW3⟩:∃ W3,W3 = ((w.alloc (.cells (opCells o s) 26)).alloc (.cells zero11 26)).alloc (.cells #[.int .u8 3,.slice none 0 0,.int .i64 0,.slice none 0 0,.int .u64 0,.bool false,.string ⟨#[]⟩,.string ⟨#[]⟩,.string ⟨#[]⟩,.bool false,.slice none 0 0] 26):=⟨_,rfl⟩
  rw [← hW3] at z1 z2 z3 z4 z5
  have hkI:=Lib.hid (show (o.kind:Int) = 3 by omega)
  have ho':=Lib.hid ho
  have z1':=Lib.hid z1
  have z2':=Lib.hid z2
  have z3':=Lib.hid z3
  have z4':=Lib.hid z4
  have z5':=Lib.hid z5
  unfold opCells zero11 at hW3
  unfold opCells
  rw [hkI.out] at hW3 ⊢
  clear ho z1 z2 z3 z4 z5
  go_enter Try.func29,Try.ntmps29
  go_upto_region 3 with fail
  rw [← hW3]
  clear hW3
  have o1u:=z1'.out
  obtain ⟨o0,o1,o2,o3,o4,o5,o6,o7,o8,o9,o10⟩:=op_cells o1u
  clear o1u
  go_upto_region 4 with (at_builtin;go_loud (refine P4.wpList_append_its rfl _ (.tmp 11) rfl (w.heap.size + 1 + 1 + 1) (.slice none 0 0) [] o.path rfl (P4.OwnI.nil_ _ _) s.pA s.pn s.pc rfl (ho'.out.below z4'.out).path ho'.out.pnil (by have h7:=ho'.out.path.1;have h8:=ho'.out.pfew;simp only [List.length_nil];omega) (by have:=z5'.out;omega) ?_;intro v1 w1 ho1 hg1 hat1;have hb1:=P4.grown_nil hg1;have B1:=Lib.hid hb1;have V1:=Lib.hid ho1;obtain ⟨A1,n1,c1,rfl,-⟩:=P4.OwnI.shape ho1;have y1:=(hb1.block w.heap.size (by have:=z5'.out;omega)).trans z1'.out;clear o0 o1 o2 o3 o4 o5 o6 o7 o8 o9 o10 ho1 hg1 hat1 hb1;obtain ⟨o0,o1,o2,o3,o4,o5,o6,o7,o8,o9,o10⟩:=op_cells y1;clear y1))
  go_upto_region 5 with (at_builtin;go_loud (refine P4.wpList_append_its rfl _ (.tmp 15) rfl (w.heap.size + 1 + 1 + 1) (.slice none 0 0) [] o.to_ rfl (P4.OwnI.nil_ _ _) s.tA s.tn s.tc rfl (ho'.out.below (z4'.out.trans (B1.out.mono z4'.out.size))).to_ ho'.out.tnil (by have h7:=ho'.out.to_.1;have h8:=ho'.out.tfew;simp only [List.length_nil];omega) (by have:=z5'.out;have:=B1.out.size;omega) ?_;intro v2 w2 ho2 hg2 hat2;have hb2:=P4.grown_nil hg2;have B2:=Lib.hid hb2;have V2:=Lib.hid ho2;obtain ⟨A2,n2,c2,rfl,-⟩:=P4.OwnI.shape ho2;clear o0 o1 o2 o3 o4 o5 o6 o7 o8 o9 o10 ho2 hg2 hat2 hb2))
  obtain ⟨b3,y1,y2,y3⟩:=two_rows (w:=w) z1'.out z2'.out z3'.out z5'.out B1.out B2.out
  have B3:=Lib.hid b3
  have Y1:=Lib.hid y1
  have Y2:=Lib.hid y2
  have Y3:=Lib.hid y3
  have yw:=Lib.hid (z4'.out.trans (b3.mono z4'.out.size))
  obtain ⟨o0,o1,o2,o3,o4,o5,o6,o7,o8,o9,o10⟩:=op_cells y1
  obtain ⟨p0,p1,p2,p3,p4,p5,p6,p7,p8,p9,p10,pf⟩:=eleven_cells y3
  have hl3:w.heap.size + 1 + 1 < w2.heap.size:=(Array.getElem?_eq_some_iff.1 y3).1
  clear b3 y1 y2 y3
  go_upto_region 25 with fail
  clear o0 o1 o2 o3 o4 o5 o6 o7 o8 o9 o10 p0 p1 p2 p3 p4 p5 p6 p7 p8 p9 p10 pf
  obtain ⟨X,hX⟩:∃ X,X = ((w2.setCell ⟨w.heap.size + 1 + 1,2,none⟩ (.int .i64 o.at_)).setCell ⟨w.heap.size + 1 + 1,3,none⟩ (.slice A2 n2 c2)):=⟨_,rfl⟩
  have x3:X.heap[w.heap.size + 1 + 1]? = some (.cells #[.int .u8 3,.slice none 0 0,.int .i64 o.at_,.slice A2 n2 c2,.int .u64 0,.bool false,.string ⟨#[]⟩,.string ⟨#[]⟩,.string ⟨#[]⟩,.bool false,.slice none 0 0] 26 (0,0)):=by rw [hX];have e0:=heap_setCell_same _ _ 2 _ _ (.int .i64 o.at_) Y3.out;have e1:=heap_setCell_same _ _ 3 _ _ (.slice A2 n2 c2) e0;rw [e1];simp
  have hk5:=Lib.hid (show ∀ k,k ≠ w.heap.size + 1 + 1→X.heap[k]? = w2.heap[k]? by intro k hk;rw [hX];repeat rw [heap_setCell_other _ _ k _ hk])
  have xw:=Lib.hid (show Below w.heap.size w X by rw [hX];exact ((yw.out.setCell (p:=⟨w.heap.size + 1 + 1,2,none⟩) (by show w.heap.size≤w.heap.size + 1 + 1;omega) _).setCell (p:=⟨w.heap.size + 1 + 1,3,none⟩) (by show w.heap.size≤w.heap.size + 1 + 1;omega) _))
  have xz:=Lib.hid (show X.heap.size = w2.heap.size by rw [hX];simp)
  rw [← hX]
  clear hX
  obtain ⟨p0,p1,p2,p3,p4,p5,p6,p7,p8,p9,p10,pf⟩:=eleven_cells x3
  have X3:=Lib.hid x3
  have hlx:w.heap.size + 1 + 1 < X.heap.size:=(Array.getElem?_eq_some_iff.1 x3).1
  clear x3
  go_upto_region 26 with fail
  clear p0 p1 p2 p3 p4 p5 p6 p7 p8 p9 p10 pf
  obtain ⟨W5,hW5⟩:∃ W5,W5 = X.setCell ⟨w.heap.size + 1 + 1,1,none⟩ (.slice A1 n1 c1):=⟨_,rfl⟩
  have r3:W5.heap[w.heap.size + 1 + 1]? = some (.cells #[.int .u8 3,.slice A1 n1 c1,.int .i64 o.at_,.slice A2 n2 c2,.int .u64 0,.bool false,.string ⟨#[]⟩,.string ⟨#[]⟩,.string ⟨#[]⟩,.bool false,.slice none 0 0] 26 (0,0)):=by rw [hW5,heap_setCell_same X _ 1 _ _ _ X3.out];simp
  have h5:=Lib.hid (show ∀ k,k ≠ w.heap.size + 1 + 1→W5.heap[k]? = w2.heap[k]? by intro k hk;rw [hW5];exact (heap_setCell_other _ _ k _ hk).trans (hk5.out k hk))
  have w5b:=Lib.hid (show Below w.heap.size w W5 by rw [hW5];exact xw.out.setCell (p:=⟨w.heap.size + 1 + 1,1,none⟩) (by show w.heap.size≤w.heap.size + 1 + 1;omega) _)
  rw [← hW5]
  clear hW5
  have r2:=(h5.out (w.heap.size + 1) (by omega)).trans Y2.out
  unfold zero11 at r2
  have r2h:=Lib.hid r2
  obtain ⟨p0,p1,p2,p3,p4,p5,p6,p7,p8,p9,p10,pf⟩:=eleven_cells r3
  obtain ⟨q0,q1,q2,q3,q4,q5,q6,q7,q8,q9,q10,qf⟩:=eleven_cells r2
  have hl2:w.heap.size + 1 < W5.heap.size:=(Array.getElem?_eq_some_iff.1 r2).1
  clear r2 r3
  go_wp2_with fail
  obtain ⟨W9,hW9,R9,B9,Z9,K9⟩:=end_op (o:=(⟨3,o.path,o.at_,o.to_,0,false,[],[],[],false,[]⟩:Ov)) (s:=⟨A1,n1,c1,A2,n2,c2,none,0,0⟩) (r:=w.heap.size + 1) (by omega) w5b.out r2h.out
  have hW9':W9 = (((((((((((W5.setCell ⟨w.heap.size + 1,0,none⟩ (.int .u8 3)).setCell ⟨w.heap.size + 1,1,none⟩ (.slice A1 n1 c1)).setCell ⟨w.heap.size + 1,2,none⟩ (.int .i64 o.at_)).setCell ⟨w.heap.size + 1,3,none⟩ (.slice A2 n2 c2)).setCell ⟨w.heap.size + 1,4,none⟩ (.int .u64 0)).setCell ⟨w.heap.size + 1,5,none⟩ (.bool false)).setCell ⟨w.heap.size + 1,6,none⟩ (.string ⟨#[]⟩)).setCell ⟨w.heap.size + 1,7,none⟩ (.string ⟨#[]⟩)).setCell ⟨w.heap.size + 1,8,none⟩ (.string ⟨#[]⟩)).setCell ⟨w.heap.size + 1,9,none⟩ (.bool false)).setCell ⟨w.heap.size + 1,10,none⟩ (.slice none 0 0)):=hW9
  rw [← hW9']
  clear hW9' hW9
  unfold opCells at R9
  obtain ⟨d0,d1,d2,d3,d4,d5,d6,d7,d8,d9,d10,df⟩:=eleven_cells R9
  refine bodyPost_ret (v:=.agg (opCells (⟨3,o.path,o.at_,o.to_,0,false,[],[],[],false,[]⟩:Ov) ⟨A1,n1,c1,A2,n2,c2,none,0,0⟩)) (by simp [results,Try.results29,go_sem,d0,d1,d2,d3,d4,d5,d6,d7,d8,d9,d10,opCells]) rfl ?_
  have kk:∀ k,w.heap.size + 1 + 1 + 1≤k→W9.heap[k]? = w2.heap[k]?:=fun k hk=>(K9 k (by omega)).trans (h5.out k (by omega))
  rw [show bareV o = (⟨3,o.path,o.at_,o.to_,0,false,[],[],[],false,[]⟩:Ov) by unfold bareV;simp [hk]]
  refine ⟨_,rfl,⟨own_mono (own_kept V1.out fun k h1 h2=>(kk k h1).trans (B2.out.block k h2)) (by omega),own_mono (own_kept V2.out fun k h1 h2=>kk k h1) (by omega),OwnQ.nil_ _ _⟩,B9⟩
set_option maxHeartbeats 4000000 in
theorem rbare_k4 (w:World) (o:Ov) (s:OS) (ho:OpIn w o s) (hk:o.kind = 4) (hg:o.gone = false):Calls Try.prog 29 #[.agg (opCells o s)] w (BareA w (bareV o)):=by
  obtain ⟨z1,z2,z3,z4,z5⟩:=three_new w (.cells (opCells o s) 26) (.cells zero11 26) (.cells #[.int .u8 4,.slice none 0 0,.int .i64 0,.slice none 0 0,.int .u64 0,.bool false,.string ⟨#[]⟩,.string ⟨#[]⟩,.string ⟨#[]⟩,.bool false,.slice none 0 0] 26)
  obtain ⟨W3,hW3⟩:∃ W3,W3 = ((w.alloc (.cells (opCells o s) 26)).alloc (.cells zero11 26)).alloc (.cells #[.int .u8 4,.slice none 0 0,.int .i64 0,.slice none 0 0,.int .u64 0,.bool false,.string ⟨#[]⟩,.string ⟨#[]⟩,.string ⟨#[]⟩,.bool false,.slice none 0 0] 26):=⟨_,rfl⟩
  rw [← hW3] at z1 z2 z3 z4 z5
  have hkI:=Lib.hid (show (o.kind:Int) = 4 by omega)
  have hg':=Lib.hid hg
  have ho':=Lib.hid ho
  have z1':=Lib.hid z1
  have z2':=Lib.hid z2
  have z3':=Lib.hid z3
  have z4':=Lib.hid z4
  have z5':=Lib.hid z5
  unfold opCells zero11 at hW3
  unfold opCells
  rw [hkI.out,hg] at hW3 ⊢
  clear ho z1 z2 z3 z4 z5
  go_enter Try.func29,Try.ntmps29
  go_upto_region 3 with fail
  rw [← hW3]
  clear hW3
  have o1u:=z1'.out
  obtain ⟨o0,o1,o2,o3,o4,o5,o6,o7,o8,o9,o10⟩:=op_cells o1u
  clear o1u
  go_upto_region 4 with (at_builtin;go_loud (refine P4.wpList_append_its rfl _ (.tmp 11) rfl (w.heap.size + 1 + 1 + 1) (.slice none 0 0) [] o.path rfl (P4.OwnI.nil_ _ _) s.pA s.pn s.pc rfl (ho'.out.below z4'.out).path ho'.out.pnil (by have h7:=ho'.out.path.1;have h8:=ho'.out.pfew;simp only [List.length_nil];omega) (by have:=z5'.out;omega) ?_;intro v1 w1 ho1 hg1 hat1;have hb1:=P4.grown_nil hg1;have B1:=Lib.hid hb1;have V1:=Lib.hid ho1;obtain ⟨A1,n1,c1,rfl,-⟩:=P4.OwnI.shape ho1;have y1:=(hb1.block w.heap.size (by have:=z5'.out;omega)).trans z1'.out;clear o0 o1 o2 o3 o4 o5 o6 o7 o8 o9 o10 ho1 hg1 hat1 hb1;obtain ⟨o0,o1,o2,o3,o4,o5,o6,o7,o8,o9,o10⟩:=op_cells y1;clear y1))
  go_upto_region 5 with (at_builtin;go_loud (refine P4.wpList_append_its rfl _ (.tmp 15) rfl (w.heap.size + 1 + 1 + 1) (.slice none 0 0) [] o.to_ rfl (P4.OwnI.nil_ _ _) s.tA s.tn s.tc rfl (ho'.out.below (z4'.out.trans (B1.out.mono z4'.out.size))).to_ ho'.out.tnil (by have h7:=ho'.out.to_.1;have h8:=ho'.out.tfew;simp only [List.length_nil];omega) (by have:=z5'.out;have:=B1.out.size;omega) ?_;intro v2 w2 ho2 hg2 hat2;have hb2:=P4.grown_nil hg2;have B2:=Lib.hid hb2;have V2:=Lib.hid ho2;obtain ⟨A2,n2,c2,rfl,-⟩:=P4.OwnI.shape ho2;clear o0 o1 o2 o3 o4 o5 o6 o7 o8 o9 o10 ho2 hg2 hat2 hb2))
  obtain ⟨b3,y1,y2,y3⟩:=two_rows (w:=w) z1'.out z2'.out z3'.out z5'.out B1.out B2.out
  have B3:=Lib.hid b3
  have Y1:=Lib.hid y1
  have Y2:=Lib.hid y2
  have Y3:=Lib.hid y3
  have yw:=Lib.hid (z4'.out.trans (b3.mono z4'.out.size))
  obtain ⟨o0,o1,o2,o3,o4,o5,o6,o7,o8,o9,o10⟩:=op_cells y1
  obtain ⟨p0,p1,p2,p3,p4,p5,p6,p7,p8,p9,p10,pf⟩:=eleven_cells y3
  have hl3:w.heap.size + 1 + 1 < w2.heap.size:=(Array.getElem?_eq_some_iff.1 y3).1
  clear b3 y1 y2 y3
  go_upto_region 25 with fail
  clear o0 o1 o2 o3 o4 o5 o6 o7 o8 o9 o10 p0 p1 p2 p3 p4 p5 p6 p7 p8 p9 p10 pf
  obtain ⟨X,hX⟩:∃ X,X = (((w2.setCell ⟨w.heap.size + 1 + 1,7,none⟩ (.string ⟨o.key.toArray⟩)).setCell ⟨w.heap.size + 1 + 1,9,none⟩ (.bool false)).setCell ⟨w.heap.size + 1 + 1,8,none⟩ (.string ⟨o.value.toArray⟩)):=⟨_,rfl⟩
  have x3:X.heap[w.heap.size + 1 + 1]? = some (.cells #[.int .u8 4,.slice none 0 0,.int .i64 0,.slice none 0 0,.int .u64 0,.bool false,.string ⟨#[]⟩,.string ⟨o.key.toArray⟩,.string ⟨o.value.toArray⟩,.bool false,.slice none 0 0] 26 (0,0)):=by rw [hX];have e0:=heap_setCell_same _ _ 7 _ _ (.string ⟨o.key.toArray⟩) Y3.out;have e1:=heap_setCell_same _ _ 9 _ _ (.bool false) e0;have e2:=heap_setCell_same _ _ 8 _ _ (.string ⟨o.value.toArray⟩) e1;rw [e2];simp
  have hk5:=Lib.hid (show ∀ k,k ≠ w.heap.size + 1 + 1→X.heap[k]? = w2.heap[k]? by intro k hk;rw [hX];repeat rw [heap_setCell_other _ _ k _ hk])
  have xw:=Lib.hid (show Below w.heap.size w X by rw [hX];exact (((yw.out.setCell (p:=⟨w.heap.size + 1 + 1,7,none⟩) (by show w.heap.size≤w.heap.size + 1 + 1;omega) _).setCell (p:=⟨w.heap.size + 1 + 1,9,none⟩) (by show w.heap.size≤w.heap.size + 1 + 1;omega) _).setCell (p:=⟨w.heap.size + 1 + 1,8,none⟩) (by show w.heap.size≤w.heap.size + 1 + 1;omega) _))
  have xz:=Lib.hid (show X.heap.size = w2.heap.size by rw [hX];simp)
  rw [← hX]
  clear hX
  obtain ⟨p0,p1,p2,p3,p4,p5,p6,p7,p8,p9,p10,pf⟩:=eleven_cells x3
  have X3:=Lib.hid x3
  have hlx:w.heap.size + 1 + 1 < X.heap.size:=(Array.getElem?_eq_some_iff.1 x3).1
  clear x3
  go_upto_region 26 with fail
  clear p0 p1 p2 p3 p4 p5 p6 p7 p8 p9 p10 pf
  obtain ⟨W5,hW5⟩:∃ W5,W5 = X.setCell ⟨w.heap.size + 1 + 1,1,none⟩ (.slice A1 n1 c1):=⟨_,rfl⟩
  have r3:W5.heap[w.heap.size + 1 + 1]? = some (.cells #[.int .u8 4,.slice A1 n1 c1,.int .i64 0,.slice none 0 0,.int .u64 0,.bool false,.string ⟨#[]⟩,.string ⟨o.key.toArray⟩,.string ⟨o.value.toArray⟩,.bool false,.slice none 0 0] 26 (0,0)):=by rw [hW5,heap_setCell_same X _ 1 _ _ _ X3.out];simp
  have h5:=Lib.hid (show ∀ k,k ≠ w.heap.size + 1 + 1→W5.heap[k]? = w2.heap[k]? by intro k hk;rw [hW5];exact (heap_setCell_other _ _ k _ hk).trans (hk5.out k hk))
  have w5b:=Lib.hid (show Below w.heap.size w W5 by rw [hW5];exact xw.out.setCell (p:=⟨w.heap.size + 1 + 1,1,none⟩) (by show w.heap.size≤w.heap.size + 1 + 1;omega) _)
  rw [← hW5]
  clear hW5
  have r2:=(h5.out (w.heap.size + 1) (by omega)).trans Y2.out
  unfold zero11 at r2
  have r2h:=Lib.hid r2
  obtain ⟨p0,p1,p2,p3,p4,p5,p6,p7,p8,p9,p10,pf⟩:=eleven_cells r3
  obtain ⟨q0,q1,q2,q3,q4,q5,q6,q7,q8,q9,q10,qf⟩:=eleven_cells r2
  have hl2:w.heap.size + 1 < W5.heap.size:=(Array.getElem?_eq_some_iff.1 r2).1
  clear r2 r3
  go_wp2_with fail
  obtain ⟨W9,hW9,R9,B9,Z9,K9⟩:=end_op (o:=(⟨4,o.path,0,[],0,false,[],o.key,o.value,false,[]⟩:Ov)) (s:=⟨A1,n1,c1,none,0,0,none,0,0⟩) (r:=w.heap.size + 1) (by omega) w5b.out r2h.out
  have hW9':W9 = (((((((((((W5.setCell ⟨w.heap.size + 1,0,none⟩ (.int .u8 4)).setCell ⟨w.heap.size + 1,1,none⟩ (.slice A1 n1 c1)).setCell ⟨w.heap.size + 1,2,none⟩ (.int .i64 0)).setCell ⟨w.heap.size + 1,3,none⟩ (.slice none 0 0)).setCell ⟨w.heap.size + 1,4,none⟩ (.int .u64 0)).setCell ⟨w.heap.size + 1,5,none⟩ (.bool false)).setCell ⟨w.heap.size + 1,6,none⟩ (.string ⟨#[]⟩)).setCell ⟨w.heap.size + 1,7,none⟩ (.string ⟨o.key.toArray⟩)).setCell ⟨w.heap.size + 1,8,none⟩ (.string ⟨o.value.toArray⟩)).setCell ⟨w.heap.size + 1,9,none⟩ (.bool false)).setCell ⟨w.heap.size + 1,10,none⟩ (.slice none 0 0)):=hW9
  rw [← hW9']
  clear hW9' hW9
  unfold opCells at R9
  obtain ⟨d0,d1,d2,d3,d4,d5,d6,d7,d8,d9,d10,df⟩:=eleven_cells R9
  refine bodyPost_ret (v:=.agg (opCells (⟨4,o.path,0,[],0,false,[],o.key,o.value,false,[]⟩:Ov) ⟨A1,n1,c1,none,0,0,none,0,0⟩)) (by simp [results,Try.results29,go_sem,d0,d1,d2,d3,d4,d5,d6,d7,d8,d9,d10,opCells]) rfl ?_
  have kk:∀ k,w.heap.size + 1 + 1 + 1≤k→W9.heap[k]? = w2.heap[k]?:=fun k hk=>(K9 k (by omega)).trans (h5.out k (by omega))
  rw [show bareV o = (⟨4,o.path,0,[],0,false,[],o.key,o.value,false,[]⟩:Ov) by unfold bareV;simp [hk,hg]]
  refine ⟨_,rfl,⟨own_mono (own_kept V1.out fun k h1 h2=>(kk k h1).trans (B2.out.block k h2)) (by omega),P4.OwnI.nil_ _ _,OwnQ.nil_ _ _⟩,B9⟩
set_option maxHeartbeats 4000000 in
theorem rbare_k4g (w:World) (o:Ov) (s:OS) (ho:OpIn w o s) (hk:o.kind = 4) (hg:o.gone = true):Calls Try.prog 29 #[.agg (opCells o s)] w (BareA w (bareV o)):=by
  obtain ⟨z1,z2,z3,z4,z5⟩:=three_new w (.cells (opCells o s) 26) (.cells zero11 26) (.cells #[.int .u8 4,.slice none 0 0,.int .i64 0,.slice none 0 0,.int .u64 0,.bool false,.string ⟨#[]⟩,.string ⟨#[]⟩,.string ⟨#[]⟩,.bool false,.slice none 0 0] 26)
  obtain ⟨W3,hW3⟩:∃ W3,W3 = ((w.alloc (.cells (opCells o s) 26)).alloc (.cells zero11 26)).alloc (.cells #[.int .u8 4,.slice none 0 0,.int .i64 0,.slice none 0 0,.int .u64 0,.bool false,.string ⟨#[]⟩,.string ⟨#[]⟩,.string ⟨#[]⟩,.bool false,.slice none 0 0] 26):=⟨_,rfl⟩
  rw [← hW3] at z1 z2 z3 z4 z5
  have hkI:=Lib.hid (show (o.kind:Int) = 4 by omega)
  have hg':=Lib.hid hg
  have ho':=Lib.hid ho
  have z1':=Lib.hid z1
  have z2':=Lib.hid z2
  have z3':=Lib.hid z3
  have z4':=Lib.hid z4
  have z5':=Lib.hid z5
  unfold opCells zero11 at hW3
  unfold opCells
  rw [hkI.out,hg] at hW3 ⊢
  clear ho z1 z2 z3 z4 z5
  go_enter Try.func29,Try.ntmps29
  go_upto_region 3 with fail
  rw [← hW3]
  clear hW3
  have o1u:=z1'.out
  obtain ⟨o0,o1,o2,o3,o4,o5,o6,o7,o8,o9,o10⟩:=op_cells o1u
  clear o1u
  go_upto_region 4 with (at_builtin;go_loud (refine P4.wpList_append_its rfl _ (.tmp 11) rfl (w.heap.size + 1 + 1 + 1) (.slice none 0 0) [] o.path rfl (P4.OwnI.nil_ _ _) s.pA s.pn s.pc rfl (ho'.out.below z4'.out).path ho'.out.pnil (by have h7:=ho'.out.path.1;have h8:=ho'.out.pfew;simp only [List.length_nil];omega) (by have:=z5'.out;omega) ?_;intro v1 w1 ho1 hg1 hat1;have hb1:=P4.grown_nil hg1;have B1:=Lib.hid hb1;have V1:=Lib.hid ho1;obtain ⟨A1,n1,c1,rfl,-⟩:=P4.OwnI.shape ho1;have y1:=(hb1.block w.heap.size (by have:=z5'.out;omega)).trans z1'.out;clear o0 o1 o2 o3 o4 o5 o6 o7 o8 o9 o10 ho1 hg1 hat1 hb1;obtain ⟨o0,o1,o2,o3,o4,o5,o6,o7,o8,o9,o10⟩:=op_cells y1;clear y1))
  go_upto_region 5 with (at_builtin;go_loud (refine P4.wpList_append_its rfl _ (.tmp 15) rfl (w.heap.size + 1 + 1 + 1) (.slice none 0 0) [] o.to_ rfl (P4.OwnI.nil_ _ _) s.tA s.tn s.tc rfl (ho'.out.below (z4'.out.trans (B1.out.mono z4'.out.size))).to_ ho'.out.tnil (by have h7:=ho'.out.to_.1;have h8:=ho'.out.tfew;simp only [List.length_nil];omega) (by have:=z5'.out;have:=B1.out.size;omega) ?_;intro v2 w2 ho2 hg2 hat2;have hb2:=P4.grown_nil hg2;have B2:=Lib.hid hb2;have V2:=Lib.hid ho2;obtain ⟨A2,n2,c2,rfl,-⟩:=P4.OwnI.shape ho2;clear o0 o1 o2 o3 o4 o5 o6 o7 o8 o9 o10 ho2 hg2 hat2 hb2))
  obtain ⟨b3,y1,y2,y3⟩:=two_rows (w:=w) z1'.out z2'.out z3'.out z5'.out B1.out B2.out
  have B3:=Lib.hid b3
  have Y1:=Lib.hid y1
  have Y2:=Lib.hid y2
  have Y3:=Lib.hid y3
  have yw:=Lib.hid (z4'.out.trans (b3.mono z4'.out.size))
  obtain ⟨o0,o1,o2,o3,o4,o5,o6,o7,o8,o9,o10⟩:=op_cells y1
  obtain ⟨p0,p1,p2,p3,p4,p5,p6,p7,p8,p9,p10,pf⟩:=eleven_cells y3
  have hl3:w.heap.size + 1 + 1 < w2.heap.size:=(Array.getElem?_eq_some_iff.1 y3).1
  clear b3 y1 y2 y3
  go_upto_region 25 with fail
  clear o0 o1 o2 o3 o4 o5 o6 o7 o8 o9 o10 p0 p1 p2 p3 p4 p5 p6 p7 p8 p9 p10 pf
  obtain ⟨X,hX⟩:∃ X,X = ((w2.setCell ⟨w.heap.size + 1 + 1,7,none⟩ (.string ⟨o.key.toArray⟩)).setCell ⟨w.heap.size + 1 + 1,9,none⟩ (.bool true)):=⟨_,rfl⟩
  have x3:X.heap[w.heap.size + 1 + 1]? = some (.cells #[.int .u8 4,.slice none 0 0,.int .i64 0,.slice none 0 0,.int .u64 0,.bool false,.string ⟨#[]⟩,.string ⟨o.key.toArray⟩,.string ⟨#[]⟩,.bool true,.slice none 0 0] 26 (0,0)):=by rw [hX];have e0:=heap_setCell_same _ _ 7 _ _ (.string ⟨o.key.toArray⟩) Y3.out;have e1:=heap_setCell_same _ _ 9 _ _ (.bool true) e0;rw [e1];simp
  have hk5:=Lib.hid (show ∀ k,k ≠ w.heap.size + 1 + 1→X.heap[k]? = w2.heap[k]? by intro k hk;rw [hX];repeat rw [heap_setCell_other _ _ k _ hk])
  have xw:=Lib.hid (show Below w.heap.size w X by rw [hX];exact ((yw.out.setCell (p:=⟨w.heap.size + 1 + 1,7,none⟩) (by show w.heap.size≤w.heap.size + 1 + 1;omega) _).setCell (p:=⟨w.heap.size + 1 + 1,9,none⟩) (by show w.heap.size≤w.heap.size + 1 + 1;omega) _))
  have xz:=Lib.hid (show X.heap.size = w2.heap.size by rw [hX];simp)
  rw [← hX]
  clear hX
  obtain ⟨p0,p1,p2,p3,p4,p5,p6,p7,p8,p9,p10,pf⟩:=eleven_cells x3
  have X3:=Lib.hid x3
  have hlx:w.heap.size + 1 + 1 < X.heap.size:=(Array.getElem?_eq_some_iff.1 x3).1
  clear x3
  go_upto_region 26 with fail
  clear p0 p1 p2 p3 p4 p5 p6 p7 p8 p9 p10 pf
  obtain ⟨W5,hW5⟩:∃ W5,W5 = X.setCell ⟨w.heap.size + 1 + 1,1,none⟩ (.slice A1 n1 c1):=⟨_,rfl⟩
  have r3:W5.heap[w.heap.size + 1 + 1]? = some (.cells #[.int .u8 4,.slice A1 n1 c1,.int .i64 0,.slice none 0 0,.int .u64 0,.bool false,.string ⟨#[]⟩,.string ⟨o.key.toArray⟩,.string ⟨#[]⟩,.bool true,.slice none 0 0] 26 (0,0)):=by rw [hW5,heap_setCell_same X _ 1 _ _ _ X3.out];simp
  have h5:=Lib.hid (show ∀ k,k ≠ w.heap.size + 1 + 1→W5.heap[k]? = w2.heap[k]? by intro k hk;rw [hW5];exact (heap_setCell_other _ _ k _ hk).trans (hk5.out k hk))
  have w5b:=Lib.hid (show Below w.heap.size w W5 by rw [hW5];exact xw.out.setCell (p:=⟨w.heap.size + 1 + 1,1,none⟩) (by show w.heap.size≤w.heap.size + 1 + 1;omega) _)
  rw [← hW5]
  clear hW5
  have r2:=(h5.out (w.heap.size + 1) (by omega)).trans Y2.out
  unfold zero11 at r2
  have r2h:=Lib.hid r2
  obtain ⟨p0,p1,p2,p3,p4,p5,p6,p7,p8,p9,p10,pf⟩:=eleven_cells r3
  obtain ⟨q0,q1,q2,q3,q4,q5,q6,q7,q8,q9,q10,qf⟩:=eleven_cells r2
  have hl2:w.heap.size + 1 < W5.heap.size:=(Array.getElem?_eq_some_iff.1 r2).1
  clear r2 r3
  go_wp2_with fail
  obtain ⟨W9,hW9,R9,B9,Z9,K9⟩:=end_op (o:=(⟨4,o.path,0,[],0,false,[],o.key,[],true,[]⟩:Ov)) (s:=⟨A1,n1,c1,none,0,0,none,0,0⟩) (r:=w.heap.size + 1) (by omega) w5b.out r2h.out
  have hW9':W9 = (((((((((((W5.setCell ⟨w.heap.size + 1,0,none⟩ (.int .u8 4)).setCell ⟨w.heap.size + 1,1,none⟩ (.slice A1 n1 c1)).setCell ⟨w.heap.size + 1,2,none⟩ (.int .i64 0)).setCell ⟨w.heap.size + 1,3,none⟩ (.slice none 0 0)).setCell ⟨w.heap.size + 1,4,none⟩ (.int .u64 0)).setCell ⟨w.heap.size + 1,5,none⟩ (.bool false)).setCell ⟨w.heap.size + 1,6,none⟩ (.string ⟨#[]⟩)).setCell ⟨w.heap.size + 1,7,none⟩ (.string ⟨o.key.toArray⟩)).setCell ⟨w.heap.size + 1,8,none⟩ (.string ⟨#[]⟩)).setCell ⟨w.heap.size + 1,9,none⟩ (.bool true)).setCell ⟨w.heap.size + 1,10,none⟩ (.slice none 0 0)):=hW9
  rw [← hW9']
  clear hW9' hW9
  unfold opCells at R9
  obtain ⟨d0,d1,d2,d3,d4,d5,d6,d7,d8,d9,d10,df⟩:=eleven_cells R9
  refine bodyPost_ret (v:=.agg (opCells (⟨4,o.path,0,[],0,false,[],o.key,[],true,[]⟩:Ov) ⟨A1,n1,c1,none,0,0,none,0,0⟩)) (by simp [results,Try.results29,go_sem,d0,d1,d2,d3,d4,d5,d6,d7,d8,d9,d10,opCells]) rfl ?_
  have kk:∀ k,w.heap.size + 1 + 1 + 1≤k→W9.heap[k]? = w2.heap[k]?:=fun k hk=>(K9 k (by omega)).trans (h5.out k (by omega))
  rw [show bareV o = (⟨4,o.path,0,[],0,false,[],o.key,[],true,[]⟩:Ov) by unfold bareV;simp [hk,hg]]
  refine ⟨_,rfl,⟨own_mono (own_kept V1.out fun k h1 h2=>(kk k h1).trans (B2.out.block k h2)) (by omega),P4.OwnI.nil_ _ _,OwnQ.nil_ _ _⟩,B9⟩
set_option maxHeartbeats 4000000 in
theorem rbare_k5 (w:World) (o:Ov) (s:OS) (ho:OpIn w o s) (hk:o.kind = 5) :Calls Try.prog 29 #[.agg (opCells o s)] w (BareA w (bareV o)):=by
  obtain ⟨z1,z2,z3,z4,z5⟩:=three_new w (.cells (opCells o s) 26) (.cells zero11 26) (.cells #[.int .u8 5,.slice none 0 0,.int .i64 0,.slice none 0 0,.int .u64 0,.bool false,.string ⟨#[]⟩,.string ⟨#[]⟩,.string ⟨#[]⟩,.bool false,.slice none 0 0] 26)
  obtain ⟨W3,hW3⟩:∃ W3,W3 = ((w.alloc (.cells (opCells o s) 26)).alloc (.cells zero11 26)).alloc (.cells #[.int .u8 5,.slice none 0 0,.int .i64 0,.slice none 0 0,.int .u64 0,.bool false,.string ⟨#[]⟩,.string ⟨#[]⟩,.string ⟨#[]⟩,.bool false,.slice none 0 0] 26):=⟨_,rfl⟩
  rw [← hW3] at z1 z2 z3 z4 z5
  have hkI:=Lib.hid (show (o.kind:Int) = 5 by omega)
  have ho':=Lib.hid ho
  have z1':=Lib.hid z1
  have z2':=Lib.hid z2
  have z3':=Lib.hid z3
  have z4':=Lib.hid z4
  have z5':=Lib.hid z5
  unfold opCells zero11 at hW3
  unfold opCells
  rw [hkI.out] at hW3 ⊢
  clear ho z1 z2 z3 z4 z5
  go_enter Try.func29,Try.ntmps29
  go_upto_region 3 with fail
  rw [← hW3]
  clear hW3
  have o1u:=z1'.out
  obtain ⟨o0,o1,o2,o3,o4,o5,o6,o7,o8,o9,o10⟩:=op_cells o1u
  clear o1u
  go_upto_region 4 with (at_builtin;go_loud (refine P4.wpList_append_its rfl _ (.tmp 11) rfl (w.heap.size + 1 + 1 + 1) (.slice none 0 0) [] o.path rfl (P4.OwnI.nil_ _ _) s.pA s.pn s.pc rfl (ho'.out.below z4'.out).path ho'.out.pnil (by have h7:=ho'.out.path.1;have h8:=ho'.out.pfew;simp only [List.length_nil];omega) (by have:=z5'.out;omega) ?_;intro v1 w1 ho1 hg1 hat1;have hb1:=P4.grown_nil hg1;have B1:=Lib.hid hb1;have V1:=Lib.hid ho1;obtain ⟨A1,n1,c1,rfl,-⟩:=P4.OwnI.shape ho1;have y1:=(hb1.block w.heap.size (by have:=z5'.out;omega)).trans z1'.out;clear o0 o1 o2 o3 o4 o5 o6 o7 o8 o9 o10 ho1 hg1 hat1 hb1;obtain ⟨o0,o1,o2,o3,o4,o5,o6,o7,o8,o9,o10⟩:=op_cells y1;clear y1))
  go_upto_region 5 with (at_builtin;go_loud (refine P4.wpList_append_its rfl _ (.tmp 15) rfl (w.heap.size + 1 + 1 + 1) (.slice none 0 0) [] o.to_ rfl (P4.OwnI.nil_ _ _) s.tA s.tn s.tc rfl (ho'.out.below (z4'.out.trans (B1.out.mono z4'.out.size))).to_ ho'.out.tnil (by have h7:=ho'.out.to_.1;have h8:=ho'.out.tfew;simp only [List.length_nil];omega) (by have:=z5'.out;have:=B1.out.size;omega) ?_;intro v2 w2 ho2 hg2 hat2;have hb2:=P4.grown_nil hg2;have B2:=Lib.hid hb2;have V2:=Lib.hid ho2;obtain ⟨A2,n2,c2,rfl,-⟩:=P4.OwnI.shape ho2;clear o0 o1 o2 o3 o4 o5 o6 o7 o8 o9 o10 ho2 hg2 hat2 hb2))
  obtain ⟨b3,y1,y2,y3⟩:=two_rows (w:=w) z1'.out z2'.out z3'.out z5'.out B1.out B2.out
  have B3:=Lib.hid b3
  have Y1:=Lib.hid y1
  have Y2:=Lib.hid y2
  have Y3:=Lib.hid y3
  have yw:=Lib.hid (z4'.out.trans (b3.mono z4'.out.size))
  obtain ⟨o0,o1,o2,o3,o4,o5,o6,o7,o8,o9,o10⟩:=op_cells y1
  obtain ⟨p0,p1,p2,p3,p4,p5,p6,p7,p8,p9,p10,pf⟩:=eleven_cells y3
  have hl3:w.heap.size + 1 + 1 < w2.heap.size:=(Array.getElem?_eq_some_iff.1 y3).1
  clear b3 y1 y2 y3
  go_upto_region 25 with fail
  clear o0 o1 o2 o3 o4 o5 o6 o7 o8 o9 o10 p0 p1 p2 p3 p4 p5 p6 p7 p8 p9 p10 pf
  obtain ⟨X,hX⟩:∃ X,X = (w2.setCell ⟨w.heap.size + 1 + 1,6,none⟩ (.string ⟨o.label.toArray⟩)):=⟨_,rfl⟩
  have x3:X.heap[w.heap.size + 1 + 1]? = some (.cells #[.int .u8 5,.slice none 0 0,.int .i64 0,.slice none 0 0,.int .u64 0,.bool false,.string ⟨o.label.toArray⟩,.string ⟨#[]⟩,.string ⟨#[]⟩,.bool false,.slice none 0 0] 26 (0,0)):=by rw [hX];have e0:=heap_setCell_same _ _ 6 _ _ (.string ⟨o.label.toArray⟩) Y3.out;rw [e0];simp
  have hk5:=Lib.hid (show ∀ k,k ≠ w.heap.size + 1 + 1→X.heap[k]? = w2.heap[k]? by intro k hk;rw [hX];repeat rw [heap_setCell_other _ _ k _ hk])
  have xw:=Lib.hid (show Below w.heap.size w X by rw [hX];exact (yw.out.setCell (p:=⟨w.heap.size + 1 + 1,6,none⟩) (by show w.heap.size≤w.heap.size + 1 + 1;omega) _))
  have xz:=Lib.hid (show X.heap.size = w2.heap.size by rw [hX];simp)
  rw [← hX]
  clear hX
  obtain ⟨p0,p1,p2,p3,p4,p5,p6,p7,p8,p9,p10,pf⟩:=eleven_cells x3
  have X3:=Lib.hid x3
  have hlx:w.heap.size + 1 + 1 < X.heap.size:=(Array.getElem?_eq_some_iff.1 x3).1
  clear x3
  go_upto_region 26 with fail
  clear p0 p1 p2 p3 p4 p5 p6 p7 p8 p9 p10 pf
  obtain ⟨W5,hW5⟩:∃ W5,W5 = X.setCell ⟨w.heap.size + 1 + 1,1,none⟩ (.slice A1 n1 c1):=⟨_,rfl⟩
  have r3:W5.heap[w.heap.size + 1 + 1]? = some (.cells #[.int .u8 5,.slice A1 n1 c1,.int .i64 0,.slice none 0 0,.int .u64 0,.bool false,.string ⟨o.label.toArray⟩,.string ⟨#[]⟩,.string ⟨#[]⟩,.bool false,.slice none 0 0] 26 (0,0)):=by rw [hW5,heap_setCell_same X _ 1 _ _ _ X3.out];simp
  have h5:=Lib.hid (show ∀ k,k ≠ w.heap.size + 1 + 1→W5.heap[k]? = w2.heap[k]? by intro k hk;rw [hW5];exact (heap_setCell_other _ _ k _ hk).trans (hk5.out k hk))
  have w5b:=Lib.hid (show Below w.heap.size w W5 by rw [hW5];exact xw.out.setCell (p:=⟨w.heap.size + 1 + 1,1,none⟩) (by show w.heap.size≤w.heap.size + 1 + 1;omega) _)
  rw [← hW5]
  clear hW5
  have r2:=(h5.out (w.heap.size + 1) (by omega)).trans Y2.out
  unfold zero11 at r2
  have r2h:=Lib.hid r2
  obtain ⟨p0,p1,p2,p3,p4,p5,p6,p7,p8,p9,p10,pf⟩:=eleven_cells r3
  obtain ⟨q0,q1,q2,q3,q4,q5,q6,q7,q8,q9,q10,qf⟩:=eleven_cells r2
  have hl2:w.heap.size + 1 < W5.heap.size:=(Array.getElem?_eq_some_iff.1 r2).1
  clear r2 r3
  go_wp2_with fail
  obtain ⟨W9,hW9,R9,B9,Z9,K9⟩:=end_op (o:=(⟨5,o.path,0,[],0,false,o.label,[],[],false,[]⟩:Ov)) (s:=⟨A1,n1,c1,none,0,0,none,0,0⟩) (r:=w.heap.size + 1) (by omega) w5b.out r2h.out
  have hW9':W9 = (((((((((((W5.setCell ⟨w.heap.size + 1,0,none⟩ (.int .u8 5)).setCell ⟨w.heap.size + 1,1,none⟩ (.slice A1 n1 c1)).setCell ⟨w.heap.size + 1,2,none⟩ (.int .i64 0)).setCell ⟨w.heap.size + 1,3,none⟩ (.slice none 0 0)).setCell ⟨w.heap.size + 1,4,none⟩ (.int .u64 0)).setCell ⟨w.heap.size + 1,5,none⟩ (.bool false)).setCell ⟨w.heap.size + 1,6,none⟩ (.string ⟨o.label.toArray⟩)).setCell ⟨w.heap.size + 1,7,none⟩ (.string ⟨#[]⟩)).setCell ⟨w.heap.size + 1,8,none⟩ (.string ⟨#[]⟩)).setCell ⟨w.heap.size + 1,9,none⟩ (.bool false)).setCell ⟨w.heap.size + 1,10,none⟩ (.slice none 0 0)):=hW9
  rw [← hW9']
  clear hW9' hW9
  unfold opCells at R9
  obtain ⟨d0,d1,d2,d3,d4,d5,d6,d7,d8,d9,d10,df⟩:=eleven_cells R9
  refine bodyPost_ret (v:=.agg (opCells (⟨5,o.path,0,[],0,false,o.label,[],[],false,[]⟩:Ov) ⟨A1,n1,c1,none,0,0,none,0,0⟩)) (by simp [results,Try.results29,go_sem,d0,d1,d2,d3,d4,d5,d6,d7,d8,d9,d10,opCells]) rfl ?_
  have kk:∀ k,w.heap.size + 1 + 1 + 1≤k→W9.heap[k]? = w2.heap[k]?:=fun k hk=>(K9 k (by omega)).trans (h5.out k (by omega))
  rw [show bareV o = (⟨5,o.path,0,[],0,false,o.label,[],[],false,[]⟩:Ov) by unfold bareV;simp [hk]]
  refine ⟨_,rfl,⟨own_mono (own_kept V1.out fun k h1 h2=>(kk k h1).trans (B2.out.block k h2)) (by omega),P4.OwnI.nil_ _ _,OwnQ.nil_ _ _⟩,B9⟩
set_option maxHeartbeats 4000000 in
theorem rbare_k6 (w:World) (o:Ov) (s:OS) (ho:OpIn w o s) (hk:o.kind = 6) :Calls Try.prog 29 #[.agg (opCells o s)] w (BareA w (bareV o)):=by
  obtain ⟨z1,z2,z3,z4,z5⟩:=three_new w (.cells (opCells o s) 26) (.cells zero11 26) (.cells #[.int .u8 6,.slice none 0 0,.int .i64 0,.slice none 0 0,.int .u64 0,.bool false,.string ⟨#[]⟩,.string ⟨#[]⟩,.string ⟨#[]⟩,.bool false,.slice none 0 0] 26)
  obtain ⟨W3,hW3⟩:∃ W3,W3 = ((w.alloc (.cells (opCells o s) 26)).alloc (.cells zero11 26)).alloc (.cells #[.int .u8 6,.slice none 0 0,.int .i64 0,.slice none 0 0,.int .u64 0,.bool false,.string ⟨#[]⟩,.string ⟨#[]⟩,.string ⟨#[]⟩,.bool false,.slice none 0 0] 26):=⟨_,rfl⟩
  rw [← hW3] at z1 z2 z3 z4 z5
  have hkI:=Lib.hid (show (o.kind:Int) = 6 by omega)
  have ho':=Lib.hid ho
  have z1':=Lib.hid z1
  have z2':=Lib.hid z2
  have z3':=Lib.hid z3
  have z4':=Lib.hid z4
  have z5':=Lib.hid z5
  unfold opCells zero11 at hW3
  unfold opCells
  rw [hkI.out] at hW3 ⊢
  clear ho z1 z2 z3 z4 z5
  go_enter Try.func29,Try.ntmps29
  go_upto_region 3 with fail
  rw [← hW3]
  clear hW3
  have o1u:=z1'.out
  obtain ⟨o0,o1,o2,o3,o4,o5,o6,o7,o8,o9,o10⟩:=op_cells o1u
  clear o1u
  go_upto_region 4 with (at_builtin;go_loud (refine P4.wpList_append_its rfl _ (.tmp 11) rfl (w.heap.size + 1 + 1 + 1) (.slice none 0 0) [] o.path rfl (P4.OwnI.nil_ _ _) s.pA s.pn s.pc rfl (ho'.out.below z4'.out).path ho'.out.pnil (by have h7:=ho'.out.path.1;have h8:=ho'.out.pfew;simp only [List.length_nil];omega) (by have:=z5'.out;omega) ?_;intro v1 w1 ho1 hg1 hat1;have hb1:=P4.grown_nil hg1;have B1:=Lib.hid hb1;have V1:=Lib.hid ho1;obtain ⟨A1,n1,c1,rfl,-⟩:=P4.OwnI.shape ho1;have y1:=(hb1.block w.heap.size (by have:=z5'.out;omega)).trans z1'.out;clear o0 o1 o2 o3 o4 o5 o6 o7 o8 o9 o10 ho1 hg1 hat1 hb1;obtain ⟨o0,o1,o2,o3,o4,o5,o6,o7,o8,o9,o10⟩:=op_cells y1;clear y1))
  go_upto_region 5 with (at_builtin;go_loud (refine P4.wpList_append_its rfl _ (.tmp 15) rfl (w.heap.size + 1 + 1 + 1) (.slice none 0 0) [] o.to_ rfl (P4.OwnI.nil_ _ _) s.tA s.tn s.tc rfl (ho'.out.below (z4'.out.trans (B1.out.mono z4'.out.size))).to_ ho'.out.tnil (by have h7:=ho'.out.to_.1;have h8:=ho'.out.tfew;simp only [List.length_nil];omega) (by have:=z5'.out;have:=B1.out.size;omega) ?_;intro v2 w2 ho2 hg2 hat2;have hb2:=P4.grown_nil hg2;have B2:=Lib.hid hb2;have V2:=Lib.hid ho2;obtain ⟨A2,n2,c2,rfl,-⟩:=P4.OwnI.shape ho2;clear o0 o1 o2 o3 o4 o5 o6 o7 o8 o9 o10 ho2 hg2 hat2 hb2))
  obtain ⟨b3,y1,y2,y3⟩:=two_rows (w:=w) z1'.out z2'.out z3'.out z5'.out B1.out B2.out
  have B3:=Lib.hid b3
  have Y1:=Lib.hid y1
  have Y2:=Lib.hid y2
  have Y3:=Lib.hid y3
  have yw:=Lib.hid (z4'.out.trans (b3.mono z4'.out.size))
  obtain ⟨o0,o1,o2,o3,o4,o5,o6,o7,o8,o9,o10⟩:=op_cells y1
  obtain ⟨p0,p1,p2,p3,p4,p5,p6,p7,p8,p9,p10,pf⟩:=eleven_cells y3
  have hl3:w.heap.size + 1 + 1 < w2.heap.size:=(Array.getElem?_eq_some_iff.1 y3).1
  clear b3 y1 y2 y3
  have hpc:=Lib.hid (ho'.out.pieces.below yw.out)
  go_upto_region 25 with (at_builtin;go_loud (refine wpList_append_pcs rfl _ (.tmp 67) rfl (w.heap.size + 1 + 1 + 1) (.slice none 0 0) [] o.pieces rfl (OwnQ.nil_ _ _) s.qA s.qn s.qc rfl hpc.out ho'.out.qnil (by have h7:=hpc.out.1;have h8:=ho'.out.qfew;simp only [List.length_nil];omega) (by omega) ?_;intro v4 w4 ho4 hg4 hat4;have hb4:=P4.grown_nil hg4;have B4:=Lib.hid hb4;have V4:=Lib.hid ho4;obtain ⟨A4,n4,c4,rfl,-⟩:=OwnQ.shape ho4 (pcs_ok hpc.out);have y3:=(hb4.block (w.heap.size + 1 + 1) hl3).trans Y3.out;have Y3':=Lib.hid y3;have Y2':=Lib.hid ((hb4.block (w.heap.size + 1) (by omega)).trans Y2.out);have yw':=Lib.hid (yw.out.trans (hb4.mono yw.out.size));have hl4:w.heap.size + 1 + 1 < w4.heap.size:=(Array.getElem?_eq_some_iff.1 y3).1;clear o0 o1 o2 o3 o4 o5 o6 o7 o8 o9 o10 p0 p1 p2 p3 p4 p5 p6 p7 p8 p9 p10 pf ho4 hg4 hat4 hb4;obtain ⟨p0,p1,p2,p3,p4,p5,p6,p7,p8,p9,p10,pf⟩:=eleven_cells y3;clear y3))
  clear p0 p1 p2 p3 p4 p5 p6 p7 p8 p9 p10 pf
  obtain ⟨X,hX⟩:∃ X,X = (w4.setCell ⟨w.heap.size + 1 + 1,10,none⟩ (.slice A4 n4 c4)):=⟨_,rfl⟩
  have x3:X.heap[w.heap.size + 1 + 1]? = some (.cells #[.int .u8 6,.slice none 0 0,.int .i64 0,.slice none 0 0,.int .u64 0,.bool false,.string ⟨#[]⟩,.string ⟨#[]⟩,.string ⟨#[]⟩,.bool false,.slice A4 n4 c4] 26 (0,0)):=by rw [hX];have e0:=heap_setCell_same _ _ 10 _ _ (.slice A4 n4 c4) Y3'.out;rw [e0];simp
  have hk5:=Lib.hid (show ∀ k,k ≠ w.heap.size + 1 + 1→X.heap[k]? = w4.heap[k]? by intro k hk;rw [hX];repeat rw [heap_setCell_other _ _ k _ hk])
  have xw:=Lib.hid (show Below w.heap.size w X by rw [hX];exact (yw'.out.setCell (p:=⟨w.heap.size + 1 + 1,10,none⟩) (by show w.heap.size≤w.heap.size + 1 + 1;omega) _))
  have xz:=Lib.hid (show X.heap.size = w4.heap.size by rw [hX];simp)
  rw [← hX]
  clear hX
  obtain ⟨p0,p1,p2,p3,p4,p5,p6,p7,p8,p9,p10,pf⟩:=eleven_cells x3
  have X3:=Lib.hid x3
  have hlx:w.heap.size + 1 + 1 < X.heap.size:=(Array.getElem?_eq_some_iff.1 x3).1
  clear x3
  go_upto_region 26 with fail
  clear p0 p1 p2 p3 p4 p5 p6 p7 p8 p9 p10 pf
  obtain ⟨W5,hW5⟩:∃ W5,W5 = X.setCell ⟨w.heap.size + 1 + 1,1,none⟩ (.slice A1 n1 c1):=⟨_,rfl⟩
  have r3:W5.heap[w.heap.size + 1 + 1]? = some (.cells #[.int .u8 6,.slice A1 n1 c1,.int .i64 0,.slice none 0 0,.int .u64 0,.bool false,.string ⟨#[]⟩,.string ⟨#[]⟩,.string ⟨#[]⟩,.bool false,.slice A4 n4 c4] 26 (0,0)):=by rw [hW5,heap_setCell_same X _ 1 _ _ _ X3.out];simp
  have h5:=Lib.hid (show ∀ k,k ≠ w.heap.size + 1 + 1→W5.heap[k]? = w4.heap[k]? by intro k hk;rw [hW5];exact (heap_setCell_other _ _ k _ hk).trans (hk5.out k hk))
  have w5b:=Lib.hid (show Below w.heap.size w W5 by rw [hW5];exact xw.out.setCell (p:=⟨w.heap.size + 1 + 1,1,none⟩) (by show w.heap.size≤w.heap.size + 1 + 1;omega) _)
  rw [← hW5]
  clear hW5
  have r2:=(h5.out (w.heap.size + 1) (by omega)).trans Y2'.out
  unfold zero11 at r2
  have r2h:=Lib.hid r2
  obtain ⟨p0,p1,p2,p3,p4,p5,p6,p7,p8,p9,p10,pf⟩:=eleven_cells r3
  obtain ⟨q0,q1,q2,q3,q4,q5,q6,q7,q8,q9,q10,qf⟩:=eleven_cells r2
  have hl2:w.heap.size + 1 < W5.heap.size:=(Array.getElem?_eq_some_iff.1 r2).1
  clear r2 r3
  go_wp2_with fail
  obtain ⟨W9,hW9,R9,B9,Z9,K9⟩:=end_op (o:=(⟨6,o.path,0,[],0,false,[],[],[],false,o.pieces⟩:Ov)) (s:=⟨A1,n1,c1,none,0,0,A4,n4,c4⟩) (r:=w.heap.size + 1) (by omega) w5b.out r2h.out
  have hW9':W9 = (((((((((((W5.setCell ⟨w.heap.size + 1,0,none⟩ (.int .u8 6)).setCell ⟨w.heap.size + 1,1,none⟩ (.slice A1 n1 c1)).setCell ⟨w.heap.size + 1,2,none⟩ (.int .i64 0)).setCell ⟨w.heap.size + 1,3,none⟩ (.slice none 0 0)).setCell ⟨w.heap.size + 1,4,none⟩ (.int .u64 0)).setCell ⟨w.heap.size + 1,5,none⟩ (.bool false)).setCell ⟨w.heap.size + 1,6,none⟩ (.string ⟨#[]⟩)).setCell ⟨w.heap.size + 1,7,none⟩ (.string ⟨#[]⟩)).setCell ⟨w.heap.size + 1,8,none⟩ (.string ⟨#[]⟩)).setCell ⟨w.heap.size + 1,9,none⟩ (.bool false)).setCell ⟨w.heap.size + 1,10,none⟩ (.slice A4 n4 c4)):=hW9
  rw [← hW9']
  clear hW9' hW9
  unfold opCells at R9
  obtain ⟨d0,d1,d2,d3,d4,d5,d6,d7,d8,d9,d10,df⟩:=eleven_cells R9
  refine bodyPost_ret (v:=.agg (opCells (⟨6,o.path,0,[],0,false,[],[],[],false,o.pieces⟩:Ov) ⟨A1,n1,c1,none,0,0,A4,n4,c4⟩)) (by simp [results,Try.results29,go_sem,d0,d1,d2,d3,d4,d5,d6,d7,d8,d9,d10,opCells]) rfl ?_
  have kk:∀ k,w.heap.size + 1 + 1 + 1≤k→W9.heap[k]? = w4.heap[k]?:=fun k hk=>(K9 k (by omega)).trans (h5.out k (by omega))
  rw [show bareV o = (⟨6,o.path,0,[],0,false,[],[],[],false,o.pieces⟩:Ov) by unfold bareV;simp [hk]]
  refine ⟨_,rfl,⟨own_mono (own_kept V1.out fun k h1 h2=>(kk k h1).trans ((B4.out.block k (by have:=B2.out.size;omega)).trans (B2.out.block k h2))) (by omega),P4.OwnI.nil_ _ _,own_mono (own_kept V4.out fun k h1 h2=>kk k h1) (by omega)⟩,B9⟩
set_option maxHeartbeats 4000000 in
theorem rbare_no (w:World) (o:Ov) (s:OS) (ho:OpIn w o s) (hk:¬ (1≤o.kind∧o.kind≤6)) :Calls Try.prog 29 #[.agg (opCells o s)] w (BareA w (bareV o)):=by
  obtain ⟨z1,z2,z3,z4,z5⟩:=three_new w (.cells (opCells o s) 26) (.cells zero11 26) (.cells #[.int .u8 (o.kind:Int),.slice none 0 0,.int .i64 0,.slice none 0 0,.int .u64 0,.bool false,.string ⟨#[]⟩,.string ⟨#[]⟩,.string ⟨#[]⟩,.bool false,.slice none 0 0] 26)
  obtain ⟨W3,hW3⟩:∃ W3,W3 = ((w.alloc (.cells (opCells o s) 26)).alloc (.cells zero11 26)).alloc (.cells #[.int .u8 (o.kind:Int),.slice none 0 0,.int .i64 0,.slice none 0 0,.int .u64 0,.bool false,.string ⟨#[]⟩,.string ⟨#[]⟩,.string ⟨#[]⟩,.bool false,.slice none 0 0] 26):=⟨_,rfl⟩
  rw [← hW3] at z1 z2 z3 z4 z5
  have e1:((o.kind:Int) == 1) = false:=by simp;omega
  have e2:((o.kind:Int) == 2) = false:=by simp;omega
  have e3:((o.kind:Int) == 3) = false:=by simp;omega
  have e4:((o.kind:Int) == 4) = false:=by simp;omega
  have e5:((o.kind:Int) == 5) = false:=by simp;omega
  have e6:((o.kind:Int) == 6) = false:=by simp;omega
  have hk':=Lib.hid hk
  have ho':=Lib.hid ho
  have z1':=Lib.hid z1
  have z2':=Lib.hid z2
  have z3':=Lib.hid z3
  have z4':=Lib.hid z4
  have z5':=Lib.hid z5
  unfold opCells zero11 at hW3
  unfold opCells
  clear ho z1 z2 z3 z4 z5
  go_enter Try.func29,Try.ntmps29
  go_upto_region 3 with fail
  rw [← hW3]
  clear hW3
  have o1u:=z1'.out
  obtain ⟨o0,o1,o2,o3,o4,o5,o6,o7,o8,o9,o10⟩:=op_cells o1u
  clear o1u
  go_upto_region 4 with (at_builtin;go_loud (refine P4.wpList_append_its rfl _ (.tmp 11) rfl (w.heap.size + 1 + 1 + 1) (.slice none 0 0) [] o.path rfl (P4.OwnI.nil_ _ _) s.pA s.pn s.pc rfl (ho'.out.below z4'.out).path ho'.out.pnil (by have h7:=ho'.out.path.1;have h8:=ho'.out.pfew;simp only [List.length_nil];omega) (by have:=z5'.out;omega) ?_;intro v1 w1 ho1 hg1 hat1;have hb1:=P4.grown_nil hg1;have B1:=Lib.hid hb1;have V1:=Lib.hid ho1;obtain ⟨A1,n1,c1,rfl,-⟩:=P4.OwnI.shape ho1;have y1:=(hb1.block w.heap.size (by have:=z5'.out;omega)).trans z1'.out;clear o0 o1 o2 o3 o4 o5 o6 o7 o8 o9 o10 ho1 hg1 hat1 hb1;obtain ⟨o0,o1,o2,o3,o4,o5,o6,o7,o8,o9,o10⟩:=op_cells y1;clear y1))
  go_upto_region 5 with (at_builtin;go_loud (refine P4.wpList_append_its rfl _ (.tmp 15) rfl (w.heap.size + 1 + 1 + 1) (.slice none 0 0) [] o.to_ rfl (P4.OwnI.nil_ _ _) s.tA s.tn s.tc rfl (ho'.out.below (z4'.out.trans (B1.out.mono z4'.out.size))).to_ ho'.out.tnil (by have h7:=ho'.out.to_.1;have h8:=ho'.out.tfew;simp only [List.length_nil];omega) (by have:=z5'.out;have:=B1.out.size;omega) ?_;intro v2 w2 ho2 hg2 hat2;have hb2:=P4.grown_nil hg2;have B2:=Lib.hid hb2;have V2:=Lib.hid ho2;obtain ⟨A2,n2,c2,rfl,-⟩:=P4.OwnI.shape ho2;clear o0 o1 o2 o3 o4 o5 o6 o7 o8 o9 o10 ho2 hg2 hat2 hb2))
  obtain ⟨b3,y1,y2,y3⟩:=two_rows (w:=w) z1'.out z2'.out z3'.out z5'.out B1.out B2.out
  have B3:=Lib.hid b3
  have Y1:=Lib.hid y1
  have Y2:=Lib.hid y2
  have Y3:=Lib.hid y3
  have yw:=Lib.hid (z4'.out.trans (b3.mono z4'.out.size))
  obtain ⟨o0,o1,o2,o3,o4,o5,o6,o7,o8,o9,o10⟩:=op_cells y1
  obtain ⟨p0,p1,p2,p3,p4,p5,p6,p7,p8,p9,p10,pf⟩:=eleven_cells y3
  have hl3:w.heap.size + 1 + 1 < w2.heap.size:=(Array.getElem?_eq_some_iff.1 y3).1
  clear b3 y1 y2 y3
  go_upto_region 6 with fail
  clear o0 o1 o2 o3 o4 o5 o6 o7 o8 o9 o10
  have r2:=Y2.out
  unfold zero11 at r2
  have r2h:=Lib.hid r2
  obtain ⟨q0,q1,q2,q3,q4,q5,q6,q7,q8,q9,q10,qf⟩:=eleven_cells r2
  have hl2:w.heap.size + 1 < w2.heap.size:=(Array.getElem?_eq_some_iff.1 r2).1
  clear r2
  go_wp2_with fail
  obtain ⟨W9,hW9,R9,B9,Z9,K9⟩:=end_op (o:=(⟨o.kind,[],0,[],0,false,[],[],[],false,[]⟩:Ov)) (s:=⟨none,0,0,none,0,0,none,0,0⟩) (r:=w.heap.size + 1) (by omega) yw.out r2h.out
  have hW9':W9 = (((((((((((w2.setCell ⟨w.heap.size + 1,0,none⟩ (.int .u8 (o.kind:Int))).setCell ⟨w.heap.size + 1,1,none⟩ (.slice none 0 0)).setCell ⟨w.heap.size + 1,2,none⟩ (.int .i64 0)).setCell ⟨w.heap.size + 1,3,none⟩ (.slice none 0 0)).setCell ⟨w.heap.size + 1,4,none⟩ (.int .u64 0)).setCell ⟨w.heap.size + 1,5,none⟩ (.bool false)).setCell ⟨w.heap.size + 1,6,none⟩ (.string ⟨#[]⟩)).setCell ⟨w.heap.size + 1,7,none⟩ (.string ⟨#[]⟩)).setCell ⟨w.heap.size + 1,8,none⟩ (.string ⟨#[]⟩)).setCell ⟨w.heap.size + 1,9,none⟩ (.bool false)).setCell ⟨w.heap.size + 1,10,none⟩ (.slice none 0 0)):=hW9
  rw [← hW9']
  clear hW9' hW9
  unfold opCells at R9
  obtain ⟨d0,d1,d2,d3,d4,d5,d6,d7,d8,d9,d10,df⟩:=eleven_cells R9
  refine bodyPost_ret (v:=.agg (opCells (⟨o.kind,[],0,[],0,false,[],[],[],false,[]⟩:Ov) ⟨none,0,0,none,0,0,none,0,0⟩)) (by simp [results,Try.results29,go_sem,d0,d1,d2,d3,d4,d5,d6,d7,d8,d9,d10,opCells]) rfl ?_
  rw [show bareV o = (⟨o.kind,[],0,[],0,false,[],[],[],false,[]⟩:Ov) by unfold bareV;rw [if_neg hk,if_neg (by omega),if_neg (by omega),if_neg (show ¬ (o.kind = 4∧o.gone = false) from fun h=>by omega),if_neg (by omega),if_neg (by omega),if_neg (by omega),if_neg (by omega),if_neg (by omega),if_neg (by omega)]]
  exact ⟨_,rfl,⟨P4.OwnI.nil_ _ _,P4.OwnI.nil_ _ _,OwnQ.nil_ _ _⟩,B9⟩
theorem rbare_any (w:World) (o:Ov) (s:OS) (ho:OpIn w o s):Calls Try.prog 29 #[.agg (opCells o s)] w (BareA w (bareV o)):=by
  by_cases k1:o.kind = 1
  · exact rbare_k1 w o s ho k1
  · by_cases k2:o.kind = 2
    · exact rbare_k2 w o s ho k2
    · by_cases k3:o.kind = 3
      · exact rbare_k3 w o s ho k3
      · by_cases k4:o.kind = 4
        · cases hg:o.gone with
          | true=>exact rbare_k4g w o s ho k4 hg
          | false=>exact rbare_k4 w o s ho k4 hg
        · by_cases k5:o.kind = 5
          · exact rbare_k5 w o s ho k5
          · by_cases k6:o.kind = 6
            · exact rbare_k6 w o s ho k6
            · exact rbare_no w o s ho (by omega)
end Go.Proofs.Ytmipodnffhngaaa.Top
namespace Go.Proofs.Ytmipodnffhngaaa.Top
open Go.RowKit
set_option maxRecDepth 20000
set_option linter.unusedVariables false

def sameB (A B:Ov):Bool:=((A.kind:Int) == (B.kind:Int)) && (P4.eqV A.path B.path && ((A.at_ == B.at_) && (P4.eqV A.to_ B.to_ && (((A.id:Int) == (B.id:Int)) && ((A.leaf == B.leaf) && ((A.label == B.label) && ((A.key == B.key) && ((A.value == B.value) && ((A.gone == B.gone) && P5.sameP A.pieces B.pieces)))))))))
theorem sameB_iff {A B:Ov}:sameB A B = true ↔ A = B:=by
  unfold sameB P4.eqV
  simp only [Bool.and_eq_true,beq_iff_eq,decide_eq_true_eq,P5.sameP_iff]
  constructor
  · rintro ⟨h1,h2,h3,h4,h5,h6,h7,h8,h9,h10,h11⟩
    cases A;cases B
    simp only at *
    have e1:=Int.ofNat.inj h1
    have e5:=Int.ofNat.inj h5
    subst h2 h3 h4 h6 h7 h8 h9 h10 h11 e1 e5
    rfl
  · rintro rfl
    exact ⟨rfl,rfl,rfl,rfl,rfl,rfl,rfl,rfl,rfl,rfl,rfl⟩
theorem sameB_refl (A:Ov):sameB A A = true:=sameB_iff.2 rfl
theorem pair_new (w:World) (o1 o2:Obj):(((w.alloc o1).alloc o2).heap[w.heap.size]? = some o1)∧(((w.alloc o1).alloc o2).heap[w.heap.size + 1]? = some o2)∧Below w.heap.size w ((w.alloc o1).alloc o2)∧((w.alloc o1).alloc o2).heap.size = w.heap.size + 1 + 1:=by
  have h1:=heap_alloc_new w o1
  have h2:=heap_alloc_new (w.alloc o1) o2
  rw [World.size_alloc] at h2
  exact ⟨(Go.heap_alloc_old _ _ (by simp)).trans h1,h2,((Below.refl _ _).alloc (Nat.le_refl _) _).alloc (by simp) _,by simp⟩
end Go.Proofs.Ytmipodnffhngaaa.Top
namespace Go.Proofs.Ytmipodnffhngaaa.Top
open Go.RowKit
set_option maxRecDepth 20000
set_option linter.unusedVariables false

set_option maxHeartbeats 8000000 in
theorem rsame_any8 (w:World) (a b:Ov) (sa sb:OS) (ha:OpIn w a sa) (hb:OpIn w b sb):Calls Try.prog 33 #[.agg (opCells a sa),.agg (opCells b sb)] w fun e w'=>e = .returned (.bool (sameB (bareV a) (bareV b)))∧Below w.heap.size w w':=by
  obtain ⟨z1,z2,z4,z5⟩:=pair_new w (.cells (opCells a sa) 26) (.cells (opCells b sb) 26)
  obtain ⟨W2,hW2⟩:∃ W2,W2 = (w.alloc (.cells (opCells a sa) 26)).alloc (.cells (opCells b sb) 26):=⟨_,rfl⟩
  rw [← hW2] at z1 z2 z4 z5
  have hba:=Lib.hid (rbare_any W2 a sa (ha.below z4))
  have hbb:=Lib.hid (fun (W:World) (h:Below w.heap.size w W)=>rbare_any W b sb (hb.below h))
  have hoka:=Lib.hid (op_ok ha).bare
  have hokb:=Lib.hid (op_ok hb).bare
  obtain ⟨A,hA⟩:∃ A,A = bareV a:=⟨_,rfl⟩
  obtain ⟨B,hB⟩:∃ B,B = bareV b:=⟨_,rfl⟩
  rw [← hA] at hba hoka
  rw [← hB] at hbb hokb
  rw [← hA,← hB]
  clear ha hb hA hB
  have z1':=Lib.hid z1
  have z2':=Lib.hid z2
  have z4':=Lib.hid z4
  have z5':=Lib.hid z5
  unfold opCells at z1 hW2 hba
  obtain ⟨p0,p1,p2,p3,p4,p5,p6,p7,p8,p9,p10,pf⟩:=eleven_cells z1
  rw [hW2] at p0 p1 p2 p3 p4 p5 p6 p7 p8 p9 p10 pf hba
  clear z1 z2 z4 z5
  unfold opCells
  unfold BareA opCells at hba hbb
  go_enter Try.func33,Try.ntmps33
  go_upto_region 2 with (go_at_call 29;go_loud (refine hba.out.mono ?_;rw [← hW2];rintro e w1 ⟨s1,rfl,ho1,hb1⟩;have O1:=Lib.hid ho1;have B1:=Lib.hid hb1;have y1:=(hb1.block w.heap.size (by have:=z5'.out;omega)).trans z1'.out;have Y1:=Lib.hid y1;clear p0 p1 p2 p3 p4 p5 p6 p7 p8 p9 p10 pf;unfold opCells at y1;obtain ⟨p0,p1,p2,p3,p4,p5,p6,p7,p8,p9,p10,pf⟩:=eleven_cells y1;have hl1:w.heap.size < w1.heap.size:=(Array.getElem?_eq_some_iff.1 y1).1;clear ho1 hb1 y1))
  have y1:=Y1.out
  unfold opCells at y1
  obtain ⟨W3,hW3,R3,C3,Z3,K3⟩:=end_op (o:=A) (s:=s1) (w:=w) (r:=w.heap.size) (Nat.le_refl _) (z4'.out.trans (B1.out.mono z4'.out.size)) y1
  rw [← hW3]
  clear hW3 y1 p0 p1 p2 p3 p4 p5 p6 p7 p8 p9 p10 pf
  have R3':=Lib.hid R3
  have C3':=Lib.hid C3
  have K3':=Lib.hid K3
  have sz3:=Lib.hid (show W2.heap.size≤W3.heap.size by rw [Z3];exact B1.out.size)
  have O3:=Lib.hid (O1.out.kept (w':=W3) fun k h1 h2=>K3 k (by have:=z5'.out;omega))
  have y2:=(K3 (w.heap.size + 1) (by omega)).trans ((B1.out.block (w.heap.size + 1) (by have:=z5'.out;omega)).trans z2'.out)
  have Y2:=Lib.hid y2
  unfold opCells at y2
  obtain ⟨q0,q1,q2,q3,q4,q5,q6,q7,q8,q9,q10,qf⟩:=eleven_cells y2
  clear R3 C3 Z3 K3 y2
  have hbb3:=Lib.hid (hbb.out W3 C3'.out)
  clear hbb
  go_wp2_with (first
    | (go_at_call 29;go_loud (refine hbb3.out.mono ?_;rintro e w4 ⟨s2,rfl,ho2,hb2⟩;have O2:=Lib.hid ho2;have B2:=Lib.hid hb2;have y2:=(hb2.block (w.heap.size + 1) (by have:=z5'.out;have:=sz3.out;omega)).trans Y2.out;have Y4:=Lib.hid y2;have x1:=(hb2.block w.heap.size (by have:=z5'.out;have:=sz3.out;omega)).trans R3'.out;have X1:=Lib.hid x1;clear q0 q1 q2 q3 q4 q5 q6 q7 q8 q9 q10 qf;unfold opCells at y2 x1;obtain ⟨q0,q1,q2,q3,q4,q5,q6,q7,q8,q9,q10,qf⟩:=eleven_cells y2;obtain ⟨p0,p1,p2,p3,p4,p5,p6,p7,p8,p9,p10,pf⟩:=eleven_cells x1;have hl2:w.heap.size + 1 < w4.heap.size:=(Array.getElem?_eq_some_iff.1 y2).1;clear ho2 hb2 y2 x1))
    | (go_at_call_of 30 s1.pA;go_loud (have y4:=Y4.out;unfold opCells at y4;obtain ⟨W5,hW5,R5,C5,Z5,K5⟩:=end_op (o:=B) (s:=s2) (w:=w) (r:=w.heap.size + 1) (by omega) (C3'.out.trans (B2.out.mono C3'.out.size)) y4;rw [← hW5];have O1':=Lib.hid ((O3.out.kept (w':=W5) fun k h1 h2=>(K5 k (by have:=z5'.out;omega)).trans (B2.out.block k h2)).op hoka.out);have O2':=Lib.hid ((O2.out.kept (w':=W5) fun k h1 h2=>K5 k (by have:=z5'.out;have:=sz3.out;omega)).op hokb.out);have C5':=Lib.hid C5;have x1:=(K5 w.heap.size (by omega)).trans X1.out;have x2:=R5;clear hW5 y4 K5 Z5 C5 p0 p1 p2 p3 p4 p5 p6 p7 p8 p9 p10 pf q0 q1 q2 q3 q4 q5 q6 q7 q8 q9 q10 qf;unfold opCells at x1 x2;obtain ⟨p0,p1,p2,p3,p4,p5,p6,p7,p8,p9,p10,pf⟩:=eleven_cells x1;obtain ⟨q0,q1,q2,q3,q4,q5,q6,q7,q8,q9,q10,qf⟩:=eleven_cells x2;clear x1 x2 R5;refine (P4.refSame_any W5 s1.pA s2.pA s1.pn s1.pc s2.pn s2.pc A.path B.path O1'.out.path O2'.out.path (Nat.le_trans O1'.out.pnc O1'.out.pcm) (Nat.le_trans O2'.out.pnc O2'.out.pcm)).mono ?_;rintro e w6 ⟨rfl,k6,rfl⟩))
    | (go_at_call_of 30 s1.tA;go_loud (refine (P4.refSame_any _ s1.tA s2.tA s1.tn s1.tc s2.tn s2.tc A.to_ B.to_ (P4.Its.drewN O1'.out.to_ _) (P4.Its.drewN O2'.out.to_ _) (Nat.le_trans O1'.out.tnc O1'.out.tcm) (Nat.le_trans O2'.out.tnc O2'.out.tcm)).mono ?_;rintro e w7 ⟨rfl,k7,rfl⟩))
    | (go_at_call 77;go_loud (refine (P5.rsamep_any _ s1.qA s2.qA s1.qn s1.qc s2.qn s2.qc A.pieces B.pieces (O1'.out.pieces.below (draws (Below.refl _ _) _)) (O2'.out.pieces.below (draws (Below.refl _ _) _)) (Nat.le_trans O1'.out.qnc O1'.out.qcm) (Nat.le_trans O2'.out.qnc O2'.out.qcm)).mono ?_;rintro e w8 ⟨rfl,hb8⟩;have B8:=Lib.hid hb8;clear hb8)))
  all_goals clear p0 p1 p2 p3 p4 p5 p6 p7 p8 p9 p10 pf q0 q1 q2 q3 q4 q5 q6 q7 q8 q9 q10 qf
  all_goals go_ret
  all_goals refine ⟨?_,?_⟩
  all_goals first
    | (rw [show sameB A B = false by unfold sameB;simp [*]];rfl)
    | (rw [show sameB A B = P5.sameP A.pieces B.pieces by unfold sameB;simp [*]];rfl)
    | exact draws C5'.out _
    | exact (draws C5'.out _).trans (B8.out.mono (draws C5'.out _).size)
    | exact below_op (C3'.out.trans (B2.out.mono C3'.out.size)) (by omega)
end Go.Proofs.Ytmipodnffhngaaa.Top
