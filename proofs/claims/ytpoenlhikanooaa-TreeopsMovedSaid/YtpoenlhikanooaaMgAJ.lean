/- MgAJ: TopA TopB TopK TopBa TopBb TopMa TopN ShfVal TopP TopQ SimA SimB -/
import Derived.Test.YtpoenlhikanooaaMgAI
import Derived.Test.YtpoenlhikanooaaMgAF
import Derived.Test.YtpoenlhikanooaaMgAE
import Derived.Test.YtpoenlhikanooaaMgAH
import Derived.Test.YtpoenlhikanooaaMgAD
set_option linter.all false
/- What is wrong with an operation: values; the small questions: the program's. -/
namespace Go.Proofs.Ytpoenlhikanooaa
open Go.RowKit
set_option maxRecDepth 20000
set_option linter.unusedVariables false

def pcs (l : List P5.IP) : List Ltx.Pc := l.map fun x => ⟨x.keep.toNat, x.drop.toNat, x.put⟩
theorem pcs_right {l : List P5.IP} (h : P5.rightV l = true) : (pcs l).map P5.ipc = l := by
  obtain ⟨l', rfl⟩ := P5.right_pcs h
  have : pcs (l'.map P5.ipc) = l' := by
    unfold pcs
    rw [List.map_map]
    conv => rhs; rw [← List.map_id l']
    apply List.map_congr_left
    intro x _
    simp [P5.ipc]
  rw [this]
def gapE (y : Nd) (i : Int) : Int := if y.leaf then 83 else if (y.kids.length : Int) < i then 81 else 0
def fitE (s : Txt) (l : List P5.IP) : Int := if Ltx.extent (pcs l) ≤ s.length then 0 else 50
def editE (x : Nd) (l : List P5.IP) : Int := if x.leaf then fitE x.text l else 83
/-- what is wrong with an operation on a right tree -/
def faultV (t : Nd) (o : Ov) : Int :=
  if formedV o = false then 80 else if (o.kind = 2 ∨ o.kind = 3) ∧ o.path = [] then 82 else
    match atV t o.path with
    | none => 81
    | some x => if o.kind = 1 then gapE x o.at_ else if o.kind = 3 then (if P4.withinV o.path o.to_ then 84 else match atV t o.to_ with
        | none => 81
        | some y => gapE y o.at_) else if o.kind = 6 then editE x o.pieces else 0
def validV (t : Nd) (o : Ov) : Int := if rightV ltB t then faultV t o else 2

theorem takesOut_any (w : World) (o : Ov) (s : OS) (hk : o.kind < 256) : Calls Try.prog 142 #[.agg (opCells o s)] w fun e w' => e = .returned (.bool (decide (o.kind = 2 ∨ o.kind = 3))) ∧ Below w.heap.size w w' := by
  have hal := Lib.hid (fun o => (Below.refl w.heap.size w).alloc (Nat.le_refl _) o)
  by_cases k2 : o.kind = 2
  · have b2 : ((o.kind : Int) == 2) = true := by simp; omega
    have hv := Lib.hid (show decide (o.kind = 2 ∨ o.kind = 3) = true from decide_eq_true (.inl k2))
    clear k2
    unfold opCells
    go_enter Try.func142, Try.ntmps142
    go_wp2_with fail
    go_ret
    exact ⟨by rw [hv.out] <;> rfl, hal.out _⟩
  · have b2 : ((o.kind : Int) == 2) = false := by simp; omega
    by_cases k3 : o.kind = 3
    · have b3 : ((o.kind : Int) == 3) = true := by simp; omega
      have hv := Lib.hid (show decide (o.kind = 2 ∨ o.kind = 3) = true from decide_eq_true (.inr k3))
      clear k2 k3
      unfold opCells
      go_enter Try.func142, Try.ntmps142
      go_wp2_with fail
      go_ret
      exact ⟨by rw [hv.out] <;> rfl, hal.out _⟩
    · have b3 : ((o.kind : Int) == 3) = false := by simp; omega
      have hv := Lib.hid (show decide (o.kind = 2 ∨ o.kind = 3) = false from decide_eq_false fun h => by rcases h with h | h; exact k2 h; exact k3 h)
      clear k2 k3
      unfold opCells
      go_enter Try.func142, Try.ntmps142
      go_wp2_with fail
      go_ret
      exact ⟨by rw [hv.out] <;> rfl, hal.out _⟩
theorem putsIn_any (w : World) (o : Ov) (s : OS) (hk : o.kind < 256) : Calls Try.prog 143 #[.agg (opCells o s)] w fun e w' => e = .returned (.bool (decide (o.kind = 1 ∨ o.kind = 3))) ∧ Below w.heap.size w w' := by
  have hal := Lib.hid (fun o => (Below.refl w.heap.size w).alloc (Nat.le_refl _) o)
  by_cases k2 : o.kind = 1
  · have b2 : ((o.kind : Int) == 1) = true := by simp; omega
    have hv := Lib.hid (show decide (o.kind = 1 ∨ o.kind = 3) = true from decide_eq_true (.inl k2))
    clear k2
    unfold opCells
    go_enter Try.func143, Try.ntmps143
    go_wp2_with fail
    go_ret
    exact ⟨by rw [hv.out] <;> rfl, hal.out _⟩
  · have b2 : ((o.kind : Int) == 1) = false := by simp; omega
    by_cases k3 : o.kind = 3
    · have b3 : ((o.kind : Int) == 3) = true := by simp; omega
      have hv := Lib.hid (show decide (o.kind = 1 ∨ o.kind = 3) = true from decide_eq_true (.inr k3))
      clear k2 k3
      unfold opCells
      go_enter Try.func143, Try.ntmps143
      go_wp2_with fail
      go_ret
      exact ⟨by rw [hv.out] <;> rfl, hal.out _⟩
    · have b3 : ((o.kind : Int) == 3) = false := by simp; omega
      have hv := Lib.hid (show decide (o.kind = 1 ∨ o.kind = 3) = false from decide_eq_false fun h => by rcases h with h | h; exact k2 h; exact k3 h)
      clear k2 k3
      unfold opCells
      go_enter Try.func143, Try.ntmps143
      go_wp2_with fail
      go_ret
      exact ⟨by rw [hv.out] <;> rfl, hal.out _⟩
theorem gapFault_any (w : World) (y : Nd) (aA kA : Option Addr) (an ac kn kc : Nat) (hk : y.kids.length = kn) (i : Int) : Calls Try.prog 144 #[.agg (val6 y aA an ac kA kn kc), .int .i64 i] w fun e w' => e = .returned (.int .i64 (gapE y i)) ∧ Below w.heap.size w w' := by
  have hal := Lib.hid (fun o => (Below.refl w.heap.size w).alloc (Nat.le_refl _) o)
  have hk' := Lib.hid hk
  clear hk
  unfold val6
  cases hl : y.leaf with
  | true =>
    have hv := Lib.hid (show gapE y i = 83 by unfold gapE; rw [hl]; rfl)
    clear hl
    go_enter Try.func144, Try.ntmps144
    go_wp2_with fail
    go_ret
    exact ⟨by rw [hv.out] <;> rfl, hal.out _⟩
  | false =>
    by_cases hg : (kn : Int) < i
    · have hv := Lib.hid (show gapE y i = 81 by unfold gapE; rw [hl, hk'.out, if_pos hg]; rfl)
      clear hl
      go_enter Try.func144, Try.ntmps144
      go_wp2_with fail
      go_ret
      exact ⟨by rw [hv.out] <;> rfl, hal.out _⟩
    · have hv := Lib.hid (show gapE y i = 0 by unfold gapE; rw [hl, hk'.out, if_neg hg]; rfl)
      clear hl
      go_enter Try.func144, Try.ntmps144
      go_wp2_with fail
      go_ret
      exact ⟨by rw [hv.out] <;> rfl, hal.out _⟩
theorem editFault_any (w : World) (y : Nd) (aA kA : Option Addr) (an ac kn kc : Nat) (hy : y.text.length ≤ 10000000) (A : Option Addr) (n c : Nat) (l : List P5.IP) (hl : P5.PcsIn w A n l) (hn : n ≤ maxLen) (hr : P5.rightV l = true) :
    Calls Try.prog 145 #[.agg (val6 y aA an ac kA kn kc), .slice A n c] w fun e w' => e = .returned (.int .i64 (editE y l)) ∧ Below w.heap.size w w' := by
  have hal := Lib.hid (fun o => (Below.refl w.heap.size w).alloc (Nat.le_refl _) o)
  have hpr := pcs_right hr
  unfold val6
  cases hlf : y.leaf with
  | false =>
    have hv := Lib.hid (show editE y l = 83 by unfold editE; rw [hlf]; rfl)
    clear hlf hpr
    go_enter Try.func145, Try.ntmps145
    go_wp2_with fail
    go_ret
    exact ⟨by rw [hv.out] <;> rfl, hal.out _⟩
  | true =>
    by_cases hf : Ltx.extent (pcs l) ≤ y.text.length
    · have hv := Lib.hid (show editE y l = 0 by unfold editE fitE; rw [hlf, if_pos hf]; rfl)
      have hap := Lib.hid (fun W (hb : Below w.heap.size w W) => P5.apply_ok W y.text A n c (pcs l) (by rw [hpr]; exact hl.below hb) hn hy (by rw [hpr]; exact hr) hf)
      clear hlf hpr hf hl hr
      go_enter Try.func145, Try.ntmps145
      go_wp2_with (go_at_call 113; refine (hap.out _ (hal.out _)).mono ?_; rintro e w7 ⟨rfl, hb7⟩; have hb7' := Lib.hid ((hal.out _).trans (hb7.mono (hal.out _).size)); clear hb7)
      go_ret
      exact ⟨by rw [hv.out] <;> rfl, hb7'.out⟩
    · have hv := Lib.hid (show editE y l = 50 by unfold editE fitE; rw [hlf, if_neg hf]; rfl)
      have hap := Lib.hid (fun W (hb : Below w.heap.size w W) => P5.apply_far W y.text A n c (pcs l) (by rw [hpr]; exact hl.below hb) hn hy (by rw [hpr]; exact hr) (by omega))
      clear hlf hpr hf hl hr
      go_enter Try.func145, Try.ntmps145
      go_wp2_with (go_at_call 113; refine (hap.out _ (hal.out _)).mono ?_; rintro e w7 ⟨rfl, hb7⟩; have hb7' := Lib.hid ((hal.out _).trans (hb7.mono (hal.out _).size)); clear hb7)
      go_ret
      exact ⟨by rw [hv.out] <;> rfl, hb7'.out⟩
end Go.Proofs.Ytpoenlhikanooaa
/- What is wrong with an operation on a right tree: the program's fault. -/
namespace Go.Proofs.Ytpoenlhikanooaa.Top
open Go.RowKit
set_option maxRecDepth 20000
set_option linter.unusedVariables false

theorem its4 {w : World} {A : Option Addr} {n : Nat} {xs : List Int} (h : Its w A n xs) : P4.Its w A n xs := h
theorem wp_scope_once {P : Program} {a : Act} {w : World} {Q : Exit → Act → World → Prop} {c rest : Code} (l : Nat) (hf : findLabel c l = some rest)
    (first : c.wp P (Exit.jump l (fun a' w' => rest.wp P (Exit.jump l (fun _ _ => False) Q) a' w') Q) a w) : (Code.scope c).wp P Q a w :=
  wp_scope_jumps l (fun a' w' => rest.wp P (Exit.jump l (fun _ _ => False) Q) a' w') (fun _ _ => 0) hf first fun a w h => Code.wp_mono (fun e a w hq => by
    cases e <;> first | exact hq | exact absurd hq.2 id) h
/-- four boxes: the tree, the operation, two nodes -/
structure Four (w : World) (v2 v3 v5 v6 : Array Value) (W : World) : Prop where
  rn : W.heap[w.heap.size]? = some (.cells v2 42 (0, 0))
  ro : W.heap[w.heap.size + 1]? = some (.cells v3 26 (0, 0))
  r5 : W.heap[w.heap.size + 1 + 1]? = some (.cells v5 42 (0, 0))
  r6 : W.heap[w.heap.size + 1 + 1 + 1]? = some (.cells v6 42 (0, 0))
  bel : Below w.heap.size w W
section
variable {w W W' : World} {v2 v3 v5 v6 : Array Value}
theorem Four.below (h : Four w v2 v3 v5 v6 W) (hb : Below W.heap.size W W') : Four w v2 v3 v5 v6 W' :=
  ⟨(hb.block _ (Array.getElem?_eq_some_iff.1 h.rn).1).trans h.rn, (hb.block _ (Array.getElem?_eq_some_iff.1 h.ro).1).trans h.ro, (hb.block _ (Array.getElem?_eq_some_iff.1 h.r5).1).trans h.r5, (hb.block _ (Array.getElem?_eq_some_iff.1 h.r6).1).trans h.r6, h.bel.trans (hb.mono h.bel.size)⟩
theorem Four.drew (h : Four w v2 v3 v5 v6 W) {k : Nat} (e : W' = W.drewN k) : Four w v2 v3 v5 v6 W' := by
  subst e
  exact h.below (draws (Below.refl _ _) k)
theorem Four.start (w : World) (v2 v3 v5 v6 : Array Value) :
    Four w v2 v3 v5 v6 ((((w.alloc (.cells v2 42)).alloc (.cells v3 26)).alloc (.cells v5 42)).alloc (.cells v6 42)) := by
  have h1 := heap_alloc_new w (.cells v2 42)
  have h2 := heap_alloc_new (w.alloc (.cells v2 42)) (.cells v3 26)
  have h3 := heap_alloc_new ((w.alloc (.cells v2 42)).alloc (.cells v3 26)) (.cells v5 42)
  have h4 := heap_alloc_new (((w.alloc (.cells v2 42)).alloc (.cells v3 26)).alloc (.cells v5 42)) (.cells v6 42)
  rw [World.size_alloc] at h2
  rw [World.size_alloc, World.size_alloc] at h3
  rw [World.size_alloc, World.size_alloc, World.size_alloc] at h4
  refine ⟨(Go.heap_alloc_old _ _ (by simp <;> omega)).trans ((Go.heap_alloc_old _ _ (by simp <;> omega)).trans ((Go.heap_alloc_old _ _ (by simp)).trans h1)), (Go.heap_alloc_old _ _ (by simp <;> omega)).trans ((Go.heap_alloc_old _ _ (by simp)).trans h2), (Go.heap_alloc_old _ _ (by simp)).trans h3, h4,
    ((((Below.refl _ _).alloc (Nat.le_refl _) _).alloc (by simp) _).alloc (by simp <;> omega) _).alloc (by simp <;> omega) _⟩
theorem Four.set5 {a0 a1 a2 a3 a4 a5 : Value} (h : Four w v2 v3 #[a0, a1, a2, a3, a4, a5] v6 W) (b0 b1 b2 b3 b4 b5 : Value) : Four w v2 v3 #[b0, b1, b2, b3, b4, b5] v6
    ((((((W.setCell ⟨w.heap.size + 1 + 1, 0, none⟩ b0).setCell ⟨w.heap.size + 1 + 1, 1, none⟩ b1).setCell ⟨w.heap.size + 1 + 1, 2, none⟩ b2).setCell ⟨w.heap.size + 1 + 1, 3, none⟩ b3).setCell ⟨w.heap.size + 1 + 1, 4, none⟩ b4).setCell ⟨w.heap.size + 1 + 1, 5, none⟩ b5) :=
  ⟨(set_six_other (by omega)).trans h.rn, (set_six_other (by omega)).trans h.ro, set_six h.r5, (set_six_other (by omega)).trans h.r6, below_six h.bel (by omega)⟩
theorem Four.set6 {a0 a1 a2 a3 a4 a5 : Value} (h : Four w v2 v3 v5 #[a0, a1, a2, a3, a4, a5] W) (b0 b1 b2 b3 b4 b5 : Value) : Four w v2 v3 v5 #[b0, b1, b2, b3, b4, b5]
    ((((((W.setCell ⟨w.heap.size + 1 + 1 + 1, 0, none⟩ b0).setCell ⟨w.heap.size + 1 + 1 + 1, 1, none⟩ b1).setCell ⟨w.heap.size + 1 + 1 + 1, 2, none⟩ b2).setCell ⟨w.heap.size + 1 + 1 + 1, 3, none⟩ b3).setCell ⟨w.heap.size + 1 + 1 + 1, 4, none⟩ b4).setCell ⟨w.heap.size + 1 + 1 + 1, 5, none⟩ b5) :=
  ⟨(set_six_other (by omega)).trans h.rn, (set_six_other (by omega)).trans h.ro, (set_six_other (by omega)).trans h.r5, set_six h.r6, below_six h.bel (by omega)⟩
end
theorem op_cells {W : World} {b : Nat} {o : Ov} {s : OS} (h : W.heap[b]? = some (.cells (opCells o s) 26 (0, 0))) : W.cell? ⟨b, 0, none⟩ = some (.int .u8 (o.kind : Int)) ∧ W.cell? ⟨b, 1, none⟩ = some (.slice s.pA s.pn s.pc) ∧ W.cell? ⟨b, 2, none⟩ = some (.int .i64 o.at_) ∧ W.cell? ⟨b, 3, none⟩ = some (.slice s.tA s.tn s.tc) ∧ W.cell? ⟨b, 4, none⟩ = some (.int .u64 (o.id : Int)) ∧
    W.cell? ⟨b, 5, none⟩ = some (.bool o.leaf) ∧ W.cell? ⟨b, 6, none⟩ = some (.string ⟨o.label.toArray⟩) ∧ W.cell? ⟨b, 7, none⟩ = some (.string ⟨o.key.toArray⟩) ∧ W.cell? ⟨b, 8, none⟩ = some (.string ⟨o.value.toArray⟩) ∧ W.cell? ⟨b, 9, none⟩ = some (.bool o.gone) ∧ W.cell? ⟨b, 10, none⟩ = some (.slice s.qA s.qn s.qc) := by
  unfold opCells at h
  exact ⟨cell_of_row W b 0 _ _ _ h, cell_of_row W b 1 _ _ _ h, cell_of_row W b 2 _ _ _ h, cell_of_row W b 3 _ _ _ h, cell_of_row W b 4 _ _ _ h, cell_of_row W b 5 _ _ _ h, cell_of_row W b 6 _ _ _ h, cell_of_row W b 7 _ _ _ h, cell_of_row W b 8 _ _ _ h, cell_of_row W b 9 _ _ _ h, cell_of_row W b 10 _ _ _ h⟩
set_option maxHeartbeats 8000000 in
theorem fault_c0 (w : World) (t : Nd) (aA kA : Option Addr) (an ac kn kc : Nat) (o : Ov) (s : OS) (h : NodeV (Old w) w aA an ac kA kn kc t) (ho : OpIn w o s) (hbig : weighV t ≤ 1000000) (hf : formedV o = false) :
    Calls Try.prog 108 #[.agg (val6 t aA an ac kA kn kc), .agg (opCells o s)] w fun e w' => e = .returned (.int .i64 (80)) ∧ Below w.heap.size w w' := by
  obtain ⟨v2, hv2⟩ : ∃ v2, v2 = val6 t aA an ac kA kn kc := ⟨_, rfl⟩
  obtain ⟨v3, hv3⟩ : ∃ v3, v3 = opCells o s := ⟨_, rfl⟩
  have hF1 := Lib.hid (Four.start w (val6 t aA an ac kA kn kc) (opCells o s) zero6 zero6)
  have hn := Lib.hid (fun W (hb : Below w.heap.size w W) => h.below hb)
  have hop := Lib.hid (fun W (hb : Below w.heap.size w W) => ho.below hb)
  have ho' := Lib.hid ho
  have hbig' := Lib.hid hbig
  have hpm := Nat.le_trans ho.pnc ho.pcm
  have htm := Nat.le_trans ho.tnc ho.tcm
  have hqm := Nat.le_trans ho.qnc ho.qcm
  have hpm' := Lib.hid hpm
  have htm' := Lib.hid htm
  have hqm' := Lib.hid hqm
  have hkr := ho.kind
  have hf' := Lib.hid hf
  clear hf
  clear h ho hbig hv2 v2 hv3 v3 hpm htm hqm
  unfold zero6 val6 opCells at hF1
  unfold val6 opCells
  go_enter Try.func108, Try.ntmps108
  go_wp2_with fail
  refine wp_scope_once 0 rfl ?_
  go_wp2_with (first
    | (go_at_call 93; go_loud (refine (formed_any _ o s (hop.out _ hF1.out.bel)).mono ?_; rintro e w2 ⟨rfl, hb⟩; rw [hf'.out]; have hFz := Lib.hid (hF1.out.below hb); (try (clear o0 o1 o2 o3 o4 o5 o6 o7 o8 o9 o10)); (try (clear n0 n1 n2 n3 n4 n5 nf)); (try (clear p0 p1 p2 p3 p4 p5 pf)); (try (clear q0 q1 q2 q3 q4 q5 qf)); obtain ⟨o0, o1, o2, o3, o4, o5, o6, o7, o8, o9, o10⟩ := op_cells hFz.out.ro; clear hb)))
  go_step3
  refine ⟨rfl, ?_⟩
  go_wp2_with fail
  try simp only [Exit.jump]
  go_ret
  exact ⟨rfl, by first | exact hFz.out.bel | exact below_six hFz.out.bel (by omega)⟩
set_option maxHeartbeats 8000000 in
theorem fault_c1 (w : World) (t : Nd) (aA kA : Option Addr) (an ac kn kc : Nat) (o : Ov) (s : OS) (h : NodeV (Old w) w aA an ac kA kn kc t) (ho : OpIn w o s) (hbig : weighV t ≤ 1000000) (hf : formedV o = true) (hk : o.kind = 2 ∨ o.kind = 3) (hp : o.path = []) :
    Calls Try.prog 108 #[.agg (val6 t aA an ac kA kn kc), .agg (opCells o s)] w fun e w' => e = .returned (.int .i64 (82)) ∧ Below w.heap.size w w' := by
  obtain ⟨v2, hv2⟩ : ∃ v2, v2 = val6 t aA an ac kA kn kc := ⟨_, rfl⟩
  obtain ⟨v3, hv3⟩ : ∃ v3, v3 = opCells o s := ⟨_, rfl⟩
  have hF1 := Lib.hid (Four.start w (val6 t aA an ac kA kn kc) (opCells o s) zero6 zero6)
  have hn := Lib.hid (fun W (hb : Below w.heap.size w W) => h.below hb)
  have hop := Lib.hid (fun W (hb : Below w.heap.size w W) => ho.below hb)
  have ho' := Lib.hid ho
  have hbig' := Lib.hid hbig
  have hpm := Nat.le_trans ho.pnc ho.pcm
  have htm := Nat.le_trans ho.tnc ho.tcm
  have hqm := Nat.le_trans ho.qnc ho.qcm
  have hpm' := Lib.hid hpm
  have htm' := Lib.hid htm
  have hqm' := Lib.hid hqm
  have hkr := ho.kind
  have hf' := Lib.hid hf
  clear hf
  have htk := Lib.hid (show decide (o.kind = 2 ∨ o.kind = 3) = true from decide_eq_true hk)
  have hplen : s.pn = 0 := by have := ho'.out.path.1; rw [hp] at this; exact this.symm
  have hplen2 : ((s.pn : Int) == 0) = true := by simp; omega
  clear hplen hp hk
  clear h ho hbig hv2 v2 hv3 v3 hpm htm hqm
  unfold zero6 val6 opCells at hF1
  unfold val6 opCells
  go_enter Try.func108, Try.ntmps108
  go_wp2_with fail
  refine wp_scope_once 0 rfl ?_
  go_wp2_with (first
    | (go_at_call 93; go_loud (refine (formed_any _ o s (hop.out _ hF1.out.bel)).mono ?_; rintro e w2 ⟨rfl, hb⟩; rw [hf'.out]; have hF2 := Lib.hid (hF1.out.below hb); (try (clear o0 o1 o2 o3 o4 o5 o6 o7 o8 o9 o10)); (try (clear n0 n1 n2 n3 n4 n5 nf)); (try (clear p0 p1 p2 p3 p4 p5 pf)); (try (clear q0 q1 q2 q3 q4 q5 qf)); obtain ⟨o0, o1, o2, o3, o4, o5, o6, o7, o8, o9, o10⟩ := op_cells hF2.out.ro; clear hb))
    | (go_at_call 142; go_loud (refine (takesOut_any _ o s ho'.out.kind).mono ?_; rintro e w3 ⟨rfl, hb⟩; rw [htk.out]; have hFz := Lib.hid (hF2.out.below hb); (try (clear o0 o1 o2 o3 o4 o5 o6 o7 o8 o9 o10)); (try (clear n0 n1 n2 n3 n4 n5 nf)); (try (clear p0 p1 p2 p3 p4 p5 pf)); (try (clear q0 q1 q2 q3 q4 q5 qf)); obtain ⟨o0, o1, o2, o3, o4, o5, o6, o7, o8, o9, o10⟩ := op_cells hFz.out.ro; obtain ⟨n0, n1, n2, n3, n4, n5, nf⟩ := six_cells hFz.out.rn; clear hb)))
  go_step3
  refine ⟨rfl, ?_⟩
  go_wp2_with fail
  try simp only [Exit.jump]
  go_ret
  exact ⟨rfl, by first | exact hFz.out.bel | exact below_six hFz.out.bel (by omega)⟩
set_option maxHeartbeats 8000000 in
theorem fault_c2a (w : World) (t : Nd) (aA kA : Option Addr) (an ac kn kc : Nat) (o : Ov) (s : OS) (h : NodeV (Old w) w aA an ac kA kn kc t) (ho : OpIn w o s) (hbig : weighV t ≤ 1000000) (hf : formedV o = true) (hk : o.kind = 2 ∨ o.kind = 3) (hp : o.path ≠ []) (hx : atV t o.path = none) :
    Calls Try.prog 108 #[.agg (val6 t aA an ac kA kn kc), .agg (opCells o s)] w fun e w' => e = .returned (.int .i64 (81)) ∧ Below w.heap.size w w' := by
  obtain ⟨v2, hv2⟩ : ∃ v2, v2 = val6 t aA an ac kA kn kc := ⟨_, rfl⟩
  obtain ⟨v3, hv3⟩ : ∃ v3, v3 = opCells o s := ⟨_, rfl⟩
  have hF1 := Lib.hid (Four.start w (val6 t aA an ac kA kn kc) (opCells o s) zero6 zero6)
  have hn := Lib.hid (fun W (hb : Below w.heap.size w W) => h.below hb)
  have hop := Lib.hid (fun W (hb : Below w.heap.size w W) => ho.below hb)
  have ho' := Lib.hid ho
  have hbig' := Lib.hid hbig
  have hpm := Nat.le_trans ho.pnc ho.pcm
  have htm := Nat.le_trans ho.tnc ho.tcm
  have hqm := Nat.le_trans ho.qnc ho.qcm
  have hpm' := Lib.hid hpm
  have htm' := Lib.hid htm
  have hqm' := Lib.hid hqm
  have hkr := ho.kind
  have hf' := Lib.hid hf
  clear hf
  have htk := Lib.hid (show decide (o.kind = 2 ∨ o.kind = 3) = true from decide_eq_true hk)
  have hplen : ¬ ((s.pn : Int) = 0) := by
    have := ho'.out.path.1
    cases hc : o.path with
    | nil => exact absurd hc hp
    | cons a b => rw [hc] at this; simp at this; omega
  have hplen2 : ((s.pn : Int) == 0) = false := by simpa using hplen
  clear hplen hp
  have hx' := Lib.hid hx
  clear hx
  clear hk
  clear h ho hbig hv2 v2 hv3 v3 hpm htm hqm
  unfold zero6 val6 opCells at hF1
  unfold val6 opCells
  go_enter Try.func108, Try.ntmps108
  go_wp2_with fail
  refine wp_scope_once 0 rfl ?_
  go_wp2_with (first
    | (go_at_call 93; go_loud (refine (formed_any _ o s (hop.out _ hF1.out.bel)).mono ?_; rintro e w2 ⟨rfl, hb⟩; rw [hf'.out]; have hF2 := Lib.hid (hF1.out.below hb); (try (clear o0 o1 o2 o3 o4 o5 o6 o7 o8 o9 o10)); (try (clear n0 n1 n2 n3 n4 n5 nf)); (try (clear p0 p1 p2 p3 p4 p5 pf)); (try (clear q0 q1 q2 q3 q4 q5 qf)); obtain ⟨o0, o1, o2, o3, o4, o5, o6, o7, o8, o9, o10⟩ := op_cells hF2.out.ro; clear hb))
    | (go_at_call 142; go_loud (refine (takesOut_any _ o s ho'.out.kind).mono ?_; rintro e w3 ⟨rfl, hb⟩; rw [htk.out]; have hF3 := Lib.hid (hF2.out.below hb); (try (clear o0 o1 o2 o3 o4 o5 o6 o7 o8 o9 o10)); (try (clear n0 n1 n2 n3 n4 n5 nf)); (try (clear p0 p1 p2 p3 p4 p5 pf)); (try (clear q0 q1 q2 q3 q4 q5 qf)); obtain ⟨o0, o1, o2, o3, o4, o5, o6, o7, o8, o9, o10⟩ := op_cells hF3.out.ro; obtain ⟨n0, n1, n2, n3, n4, n5, nf⟩ := six_cells hF3.out.rn; clear hb))
    | (go_at_call 35; go_at_call_of 35 s.pA; go_loud (refine (at_any _ t aA kA an ac kn kc (hn.out _ hF3.out.bel) s.pA s.pn s.pc o.path (hop.out _ hF3.out.bel).path hpm'.out hbig'.out).mono ?_; rintro e w4 ⟨xA, xn, xc, xK, xm, xd, rfl, hnx, hb⟩; clear hnx; rw [hx'.out]; unfold val6; have hFz := Lib.hid (hF3.out.below hb); (try (clear o0 o1 o2 o3 o4 o5 o6 o7 o8 o9 o10)); (try (clear n0 n1 n2 n3 n4 n5 nf)); (try (clear p0 p1 p2 p3 p4 p5 pf)); (try (clear q0 q1 q2 q3 q4 q5 qf)); obtain ⟨p0, p1, p2, p3, p4, p5, pf⟩ := six_cells hFz.out.r5; clear hb)))
  go_step3
  refine ⟨rfl, ?_⟩
  go_wp2_with fail
  try simp only [Exit.jump]
  go_ret
  exact ⟨rfl, by first | exact hFz.out.bel | exact below_six hFz.out.bel (by omega)⟩
set_option maxHeartbeats 8000000 in
theorem fault_kxa (w : World) (t : Nd) (aA kA : Option Addr) (an ac kn kc : Nat) (o : Ov) (s : OS) (h : NodeV (Old w) w aA an ac kA kn kc t) (ho : OpIn w o s) (hbig : weighV t ≤ 1000000) (hf : formedV o = true) (hk : o.kind = 2 ∨ o.kind = 3) (hp : o.path ≠ []) (h1 : o.kind ≠ 1) (h3 : o.kind ≠ 3) (h6 : o.kind ≠ 6) (x : Nd) (hx : atV t o.path = some x) :
    Calls Try.prog 108 #[.agg (val6 t aA an ac kA kn kc), .agg (opCells o s)] w fun e w' => e = .returned (.int .i64 (0)) ∧ Below w.heap.size w w' := by
  obtain ⟨v2, hv2⟩ : ∃ v2, v2 = val6 t aA an ac kA kn kc := ⟨_, rfl⟩
  obtain ⟨v3, hv3⟩ : ∃ v3, v3 = opCells o s := ⟨_, rfl⟩
  have hF1 := Lib.hid (Four.start w (val6 t aA an ac kA kn kc) (opCells o s) zero6 zero6)
  have hn := Lib.hid (fun W (hb : Below w.heap.size w W) => h.below hb)
  have hop := Lib.hid (fun W (hb : Below w.heap.size w W) => ho.below hb)
  have ho' := Lib.hid ho
  have hbig' := Lib.hid hbig
  have hpm := Nat.le_trans ho.pnc ho.pcm
  have htm := Nat.le_trans ho.tnc ho.tcm
  have hqm := Nat.le_trans ho.qnc ho.qcm
  have hpm' := Lib.hid hpm
  have htm' := Lib.hid htm
  have hqm' := Lib.hid hqm
  have hkr := ho.kind
  have hf' := Lib.hid hf
  clear hf
  have htk := Lib.hid (show decide (o.kind = 2 ∨ o.kind = 3) = true from decide_eq_true hk)
  have hpi := Lib.hid (show decide (o.kind = 1 ∨ o.kind = 3) = false from decide_eq_false fun h => by rcases h with h | h; exact h1 h; exact h3 h)
  have hplen : ¬ ((s.pn : Int) = 0) := by
    have := ho'.out.path.1
    cases hc : o.path with
    | nil => exact absurd hc hp
    | cons a b => rw [hc] at this; simp at this; omega
  have hplen2 : ((s.pn : Int) == 0) = false := by simpa using hplen
  clear hplen hp
  have hx' := Lib.hid hx
  clear hx
  have b3 : ((o.kind : Int) == 3) = false := by simp; omega
  have b6 : ((o.kind : Int) == 6) = false := by simp; omega
  clear hk h1 h3 h6
  clear h ho hbig hv2 v2 hv3 v3 hpm htm hqm
  unfold zero6 val6 opCells at hF1
  unfold val6 opCells
  go_enter Try.func108, Try.ntmps108
  go_wp2_with fail
  refine wp_scope_once 0 rfl ?_
  go_wp2_with (first
    | (go_at_call 93; go_loud (refine (formed_any _ o s (hop.out _ hF1.out.bel)).mono ?_; rintro e w2 ⟨rfl, hb⟩; rw [hf'.out]; have hF2 := Lib.hid (hF1.out.below hb); (try (clear o0 o1 o2 o3 o4 o5 o6 o7 o8 o9 o10)); (try (clear n0 n1 n2 n3 n4 n5 nf)); (try (clear p0 p1 p2 p3 p4 p5 pf)); (try (clear q0 q1 q2 q3 q4 q5 qf)); obtain ⟨o0, o1, o2, o3, o4, o5, o6, o7, o8, o9, o10⟩ := op_cells hF2.out.ro; clear hb))
    | (go_at_call 142; go_loud (refine (takesOut_any _ o s ho'.out.kind).mono ?_; rintro e w3 ⟨rfl, hb⟩; rw [htk.out]; have hF3 := Lib.hid (hF2.out.below hb); (try (clear o0 o1 o2 o3 o4 o5 o6 o7 o8 o9 o10)); (try (clear n0 n1 n2 n3 n4 n5 nf)); (try (clear p0 p1 p2 p3 p4 p5 pf)); (try (clear q0 q1 q2 q3 q4 q5 qf)); obtain ⟨o0, o1, o2, o3, o4, o5, o6, o7, o8, o9, o10⟩ := op_cells hF3.out.ro; obtain ⟨n0, n1, n2, n3, n4, n5, nf⟩ := six_cells hF3.out.rn; clear hb))
    | (go_at_call 35; go_at_call_of 35 s.pA; go_loud (refine (at_any _ t aA kA an ac kn kc (hn.out _ hF3.out.bel) s.pA s.pn s.pc o.path (hop.out _ hF3.out.bel).path hpm'.out hbig'.out).mono ?_; rintro e w4 ⟨xA, xn, xc, xK, xm, xd, rfl, hnx, hb⟩; rw [hx'.out] at hnx ⊢; have hxk := hnx.facts.kl; unfold val6; have hF4 := Lib.hid (hF3.out.below hb); (try (clear o0 o1 o2 o3 o4 o5 o6 o7 o8 o9 o10)); (try (clear n0 n1 n2 n3 n4 n5 nf)); (try (clear p0 p1 p2 p3 p4 p5 pf)); (try (clear q0 q1 q2 q3 q4 q5 qf)); obtain ⟨o0, o1, o2, o3, o4, o5, o6, o7, o8, o9, o10⟩ := op_cells hF4.out.ro; obtain ⟨p0, p1, p2, p3, p4, p5, pf⟩ := six_cells hF4.out.r5; obtain ⟨q0, q1, q2, q3, q4, q5, qf⟩ := six_cells hF4.out.r6; clear hb))
    | (go_at_call 143; go_loud (have hG := ((hF4.out.set5 (.int .u64 (x.id : Int)) (.bool x.leaf) (.string ⟨x.label.toArray⟩) (.slice xA xn xc) (.string ⟨x.text.toArray⟩) (.slice xK xm xd)).set6 (.int .u64 (x.id : Int)) (.bool x.leaf) (.string ⟨x.label.toArray⟩) (.slice xA xn xc) (.string ⟨x.text.toArray⟩) (.slice xK xm xd)); refine (putsIn_any _ o s ho'.out.kind).mono ?_; rintro e w7 ⟨rfl, hb⟩; rw [hpi.out]; have hFz := Lib.hid (hG.below hb); (try (clear o0 o1 o2 o3 o4 o5 o6 o7 o8 o9 o10)); (try (clear n0 n1 n2 n3 n4 n5 nf)); (try (clear p0 p1 p2 p3 p4 p5 pf)); (try (clear q0 q1 q2 q3 q4 q5 qf)); obtain ⟨o0, o1, o2, o3, o4, o5, o6, o7, o8, o9, o10⟩ := op_cells hFz.out.ro; obtain ⟨p0, p1, p2, p3, p4, p5, pf⟩ := six_cells hFz.out.r5; obtain ⟨q0, q1, q2, q3, q4, q5, qf⟩ := six_cells hFz.out.r6; clear hb)))
  go_step3
  go_wp2_with fail
  try simp only [Exit.jump]
  go_ret
  exact ⟨rfl, by first | exact hFz.out.bel | exact below_six hFz.out.bel (by omega)⟩
set_option maxHeartbeats 8000000 in
theorem fault_c2b (w : World) (t : Nd) (aA kA : Option Addr) (an ac kn kc : Nat) (o : Ov) (s : OS) (h : NodeV (Old w) w aA an ac kA kn kc t) (ho : OpIn w o s) (hbig : weighV t ≤ 1000000) (hf : formedV o = true) (hk : ¬ (o.kind = 2 ∨ o.kind = 3)) (hx : atV t o.path = none) :
    Calls Try.prog 108 #[.agg (val6 t aA an ac kA kn kc), .agg (opCells o s)] w fun e w' => e = .returned (.int .i64 (81)) ∧ Below w.heap.size w w' := by
  obtain ⟨v2, hv2⟩ : ∃ v2, v2 = val6 t aA an ac kA kn kc := ⟨_, rfl⟩
  obtain ⟨v3, hv3⟩ : ∃ v3, v3 = opCells o s := ⟨_, rfl⟩
  have hF1 := Lib.hid (Four.start w (val6 t aA an ac kA kn kc) (opCells o s) zero6 zero6)
  have hn := Lib.hid (fun W (hb : Below w.heap.size w W) => h.below hb)
  have hop := Lib.hid (fun W (hb : Below w.heap.size w W) => ho.below hb)
  have ho' := Lib.hid ho
  have hbig' := Lib.hid hbig
  have hpm := Nat.le_trans ho.pnc ho.pcm
  have htm := Nat.le_trans ho.tnc ho.tcm
  have hqm := Nat.le_trans ho.qnc ho.qcm
  have hpm' := Lib.hid hpm
  have htm' := Lib.hid htm
  have hqm' := Lib.hid hqm
  have hkr := ho.kind
  have hf' := Lib.hid hf
  clear hf
  have htk := Lib.hid (show decide (o.kind = 2 ∨ o.kind = 3) = false from decide_eq_false hk)
  have hx' := Lib.hid hx
  clear hx
  clear hk
  clear h ho hbig hv2 v2 hv3 v3 hpm htm hqm
  unfold zero6 val6 opCells at hF1
  unfold val6 opCells
  go_enter Try.func108, Try.ntmps108
  go_wp2_with fail
  refine wp_scope_once 0 rfl ?_
  go_wp2_with (first
    | (go_at_call 93; go_loud (refine (formed_any _ o s (hop.out _ hF1.out.bel)).mono ?_; rintro e w2 ⟨rfl, hb⟩; rw [hf'.out]; have hF2 := Lib.hid (hF1.out.below hb); (try (clear o0 o1 o2 o3 o4 o5 o6 o7 o8 o9 o10)); (try (clear n0 n1 n2 n3 n4 n5 nf)); (try (clear p0 p1 p2 p3 p4 p5 pf)); (try (clear q0 q1 q2 q3 q4 q5 qf)); obtain ⟨o0, o1, o2, o3, o4, o5, o6, o7, o8, o9, o10⟩ := op_cells hF2.out.ro; clear hb))
    | (go_at_call 142; go_loud (refine (takesOut_any _ o s ho'.out.kind).mono ?_; rintro e w3 ⟨rfl, hb⟩; rw [htk.out]; have hF3 := Lib.hid (hF2.out.below hb); (try (clear o0 o1 o2 o3 o4 o5 o6 o7 o8 o9 o10)); (try (clear n0 n1 n2 n3 n4 n5 nf)); (try (clear p0 p1 p2 p3 p4 p5 pf)); (try (clear q0 q1 q2 q3 q4 q5 qf)); obtain ⟨o0, o1, o2, o3, o4, o5, o6, o7, o8, o9, o10⟩ := op_cells hF3.out.ro; obtain ⟨n0, n1, n2, n3, n4, n5, nf⟩ := six_cells hF3.out.rn; clear hb))
    | (go_at_call 35; go_at_call_of 35 s.pA; go_loud (refine (at_any _ t aA kA an ac kn kc (hn.out _ hF3.out.bel) s.pA s.pn s.pc o.path (hop.out _ hF3.out.bel).path hpm'.out hbig'.out).mono ?_; rintro e w4 ⟨xA, xn, xc, xK, xm, xd, rfl, hnx, hb⟩; clear hnx; rw [hx'.out]; unfold val6; have hFz := Lib.hid (hF3.out.below hb); (try (clear o0 o1 o2 o3 o4 o5 o6 o7 o8 o9 o10)); (try (clear n0 n1 n2 n3 n4 n5 nf)); (try (clear p0 p1 p2 p3 p4 p5 pf)); (try (clear q0 q1 q2 q3 q4 q5 qf)); obtain ⟨p0, p1, p2, p3, p4, p5, pf⟩ := six_cells hFz.out.r5; clear hb)))
  go_step3
  refine ⟨rfl, ?_⟩
  go_wp2_with fail
  try simp only [Exit.jump]
  go_ret
  exact ⟨rfl, by first | exact hFz.out.bel | exact below_six hFz.out.bel (by omega)⟩
set_option maxHeartbeats 8000000 in
theorem fault_kxb (w : World) (t : Nd) (aA kA : Option Addr) (an ac kn kc : Nat) (o : Ov) (s : OS) (h : NodeV (Old w) w aA an ac kA kn kc t) (ho : OpIn w o s) (hbig : weighV t ≤ 1000000) (hf : formedV o = true) (hk : ¬ (o.kind = 2 ∨ o.kind = 3)) (h1 : o.kind ≠ 1) (h3 : o.kind ≠ 3) (h6 : o.kind ≠ 6) (x : Nd) (hx : atV t o.path = some x) :
    Calls Try.prog 108 #[.agg (val6 t aA an ac kA kn kc), .agg (opCells o s)] w fun e w' => e = .returned (.int .i64 (0)) ∧ Below w.heap.size w w' := by
  obtain ⟨v2, hv2⟩ : ∃ v2, v2 = val6 t aA an ac kA kn kc := ⟨_, rfl⟩
  obtain ⟨v3, hv3⟩ : ∃ v3, v3 = opCells o s := ⟨_, rfl⟩
  have hF1 := Lib.hid (Four.start w (val6 t aA an ac kA kn kc) (opCells o s) zero6 zero6)
  have hn := Lib.hid (fun W (hb : Below w.heap.size w W) => h.below hb)
  have hop := Lib.hid (fun W (hb : Below w.heap.size w W) => ho.below hb)
  have ho' := Lib.hid ho
  have hbig' := Lib.hid hbig
  have hpm := Nat.le_trans ho.pnc ho.pcm
  have htm := Nat.le_trans ho.tnc ho.tcm
  have hqm := Nat.le_trans ho.qnc ho.qcm
  have hpm' := Lib.hid hpm
  have htm' := Lib.hid htm
  have hqm' := Lib.hid hqm
  have hkr := ho.kind
  have hf' := Lib.hid hf
  clear hf
  have htk := Lib.hid (show decide (o.kind = 2 ∨ o.kind = 3) = false from decide_eq_false hk)
  have hpi := Lib.hid (show decide (o.kind = 1 ∨ o.kind = 3) = false from decide_eq_false fun h => by rcases h with h | h; exact h1 h; exact h3 h)
  have hx' := Lib.hid hx
  clear hx
  have b3 : ((o.kind : Int) == 3) = false := by simp; omega
  have b6 : ((o.kind : Int) == 6) = false := by simp; omega
  clear hk h1 h3 h6
  clear h ho hbig hv2 v2 hv3 v3 hpm htm hqm
  unfold zero6 val6 opCells at hF1
  unfold val6 opCells
  go_enter Try.func108, Try.ntmps108
  go_wp2_with fail
  refine wp_scope_once 0 rfl ?_
  go_wp2_with (first
    | (go_at_call 93; go_loud (refine (formed_any _ o s (hop.out _ hF1.out.bel)).mono ?_; rintro e w2 ⟨rfl, hb⟩; rw [hf'.out]; have hF2 := Lib.hid (hF1.out.below hb); (try (clear o0 o1 o2 o3 o4 o5 o6 o7 o8 o9 o10)); (try (clear n0 n1 n2 n3 n4 n5 nf)); (try (clear p0 p1 p2 p3 p4 p5 pf)); (try (clear q0 q1 q2 q3 q4 q5 qf)); obtain ⟨o0, o1, o2, o3, o4, o5, o6, o7, o8, o9, o10⟩ := op_cells hF2.out.ro; clear hb))
    | (go_at_call 142; go_loud (refine (takesOut_any _ o s ho'.out.kind).mono ?_; rintro e w3 ⟨rfl, hb⟩; rw [htk.out]; have hF3 := Lib.hid (hF2.out.below hb); (try (clear o0 o1 o2 o3 o4 o5 o6 o7 o8 o9 o10)); (try (clear n0 n1 n2 n3 n4 n5 nf)); (try (clear p0 p1 p2 p3 p4 p5 pf)); (try (clear q0 q1 q2 q3 q4 q5 qf)); obtain ⟨o0, o1, o2, o3, o4, o5, o6, o7, o8, o9, o10⟩ := op_cells hF3.out.ro; obtain ⟨n0, n1, n2, n3, n4, n5, nf⟩ := six_cells hF3.out.rn; clear hb))
    | (go_at_call 35; go_at_call_of 35 s.pA; go_loud (refine (at_any _ t aA kA an ac kn kc (hn.out _ hF3.out.bel) s.pA s.pn s.pc o.path (hop.out _ hF3.out.bel).path hpm'.out hbig'.out).mono ?_; rintro e w4 ⟨xA, xn, xc, xK, xm, xd, rfl, hnx, hb⟩; rw [hx'.out] at hnx ⊢; have hxk := hnx.facts.kl; unfold val6; have hF4 := Lib.hid (hF3.out.below hb); (try (clear o0 o1 o2 o3 o4 o5 o6 o7 o8 o9 o10)); (try (clear n0 n1 n2 n3 n4 n5 nf)); (try (clear p0 p1 p2 p3 p4 p5 pf)); (try (clear q0 q1 q2 q3 q4 q5 qf)); obtain ⟨o0, o1, o2, o3, o4, o5, o6, o7, o8, o9, o10⟩ := op_cells hF4.out.ro; obtain ⟨p0, p1, p2, p3, p4, p5, pf⟩ := six_cells hF4.out.r5; obtain ⟨q0, q1, q2, q3, q4, q5, qf⟩ := six_cells hF4.out.r6; clear hb))
    | (go_at_call 143; go_loud (have hG := ((hF4.out.set5 (.int .u64 (x.id : Int)) (.bool x.leaf) (.string ⟨x.label.toArray⟩) (.slice xA xn xc) (.string ⟨x.text.toArray⟩) (.slice xK xm xd)).set6 (.int .u64 (x.id : Int)) (.bool x.leaf) (.string ⟨x.label.toArray⟩) (.slice xA xn xc) (.string ⟨x.text.toArray⟩) (.slice xK xm xd)); refine (putsIn_any _ o s ho'.out.kind).mono ?_; rintro e w7 ⟨rfl, hb⟩; rw [hpi.out]; have hFz := Lib.hid (hG.below hb); (try (clear o0 o1 o2 o3 o4 o5 o6 o7 o8 o9 o10)); (try (clear n0 n1 n2 n3 n4 n5 nf)); (try (clear p0 p1 p2 p3 p4 p5 pf)); (try (clear q0 q1 q2 q3 q4 q5 qf)); obtain ⟨o0, o1, o2, o3, o4, o5, o6, o7, o8, o9, o10⟩ := op_cells hFz.out.ro; obtain ⟨p0, p1, p2, p3, p4, p5, pf⟩ := six_cells hFz.out.r5; obtain ⟨q0, q1, q2, q3, q4, q5, qf⟩ := six_cells hFz.out.r6; clear hb)))
  go_step3
  go_wp2_with fail
  try simp only [Exit.jump]
  go_ret
  exact ⟨rfl, by first | exact hFz.out.bel | exact below_six hFz.out.bel (by omega)⟩
set_option maxHeartbeats 8000000 in
theorem fault_k1 (w : World) (t : Nd) (aA kA : Option Addr) (an ac kn kc : Nat) (o : Ov) (s : OS) (h : NodeV (Old w) w aA an ac kA kn kc t) (ho : OpIn w o s) (hbig : weighV t ≤ 1000000) (hf : formedV o = true) (k1 : o.kind = 1) (x : Nd) (hx : atV t o.path = some x) :
    Calls Try.prog 108 #[.agg (val6 t aA an ac kA kn kc), .agg (opCells o s)] w fun e w' => e = .returned (.int .i64 (gapE x o.at_)) ∧ Below w.heap.size w w' := by
  obtain ⟨v2, hv2⟩ : ∃ v2, v2 = val6 t aA an ac kA kn kc := ⟨_, rfl⟩
  obtain ⟨v3, hv3⟩ : ∃ v3, v3 = opCells o s := ⟨_, rfl⟩
  have hF1 := Lib.hid (Four.start w (val6 t aA an ac kA kn kc) (opCells o s) zero6 zero6)
  have hn := Lib.hid (fun W (hb : Below w.heap.size w W) => h.below hb)
  have hop := Lib.hid (fun W (hb : Below w.heap.size w W) => ho.below hb)
  have ho' := Lib.hid ho
  have hbig' := Lib.hid hbig
  have hpm := Nat.le_trans ho.pnc ho.pcm
  have htm := Nat.le_trans ho.tnc ho.tcm
  have hqm := Nat.le_trans ho.qnc ho.qcm
  have hpm' := Lib.hid hpm
  have htm' := Lib.hid htm
  have hqm' := Lib.hid hqm
  have hkr := ho.kind
  have hf' := Lib.hid hf
  clear hf
  have htk := Lib.hid (show decide (o.kind = 2 ∨ o.kind = 3) = false from decide_eq_false fun h => by omega)
  have hpi := Lib.hid (show decide (o.kind = 1 ∨ o.kind = 3) = true from decide_eq_true (.inl k1))
  have hx' := Lib.hid hx
  clear hx
  have b3 : ((o.kind : Int) == 3) = false := by simp; omega
  clear k1
  clear h ho hbig hv2 v2 hv3 v3 hpm htm hqm
  unfold zero6 val6 opCells at hF1
  unfold val6 opCells
  go_enter Try.func108, Try.ntmps108
  go_wp2_with fail
  refine wp_scope_once 0 rfl ?_
  go_wp2_with (first
    | (go_at_call 93; go_loud (refine (formed_any _ o s (hop.out _ hF1.out.bel)).mono ?_; rintro e w2 ⟨rfl, hb⟩; rw [hf'.out]; have hF2 := Lib.hid (hF1.out.below hb); (try (clear o0 o1 o2 o3 o4 o5 o6 o7 o8 o9 o10)); (try (clear n0 n1 n2 n3 n4 n5 nf)); (try (clear p0 p1 p2 p3 p4 p5 pf)); (try (clear q0 q1 q2 q3 q4 q5 qf)); obtain ⟨o0, o1, o2, o3, o4, o5, o6, o7, o8, o9, o10⟩ := op_cells hF2.out.ro; clear hb))
    | (go_at_call 142; go_loud (refine (takesOut_any _ o s ho'.out.kind).mono ?_; rintro e w3 ⟨rfl, hb⟩; rw [htk.out]; have hF3 := Lib.hid (hF2.out.below hb); (try (clear o0 o1 o2 o3 o4 o5 o6 o7 o8 o9 o10)); (try (clear n0 n1 n2 n3 n4 n5 nf)); (try (clear p0 p1 p2 p3 p4 p5 pf)); (try (clear q0 q1 q2 q3 q4 q5 qf)); obtain ⟨o0, o1, o2, o3, o4, o5, o6, o7, o8, o9, o10⟩ := op_cells hF3.out.ro; obtain ⟨n0, n1, n2, n3, n4, n5, nf⟩ := six_cells hF3.out.rn; clear hb))
    | (go_at_call 35; go_at_call_of 35 s.pA; go_loud (refine (at_any _ t aA kA an ac kn kc (hn.out _ hF3.out.bel) s.pA s.pn s.pc o.path (hop.out _ hF3.out.bel).path hpm'.out hbig'.out).mono ?_; rintro e w4 ⟨xA, xn, xc, xK, xm, xd, rfl, hnx, hb⟩; rw [hx'.out] at hnx ⊢; have hxk := hnx.facts.kl; unfold val6; have hF4 := Lib.hid (hF3.out.below hb); (try (clear o0 o1 o2 o3 o4 o5 o6 o7 o8 o9 o10)); (try (clear n0 n1 n2 n3 n4 n5 nf)); (try (clear p0 p1 p2 p3 p4 p5 pf)); (try (clear q0 q1 q2 q3 q4 q5 qf)); obtain ⟨o0, o1, o2, o3, o4, o5, o6, o7, o8, o9, o10⟩ := op_cells hF4.out.ro; obtain ⟨p0, p1, p2, p3, p4, p5, pf⟩ := six_cells hF4.out.r5; obtain ⟨q0, q1, q2, q3, q4, q5, qf⟩ := six_cells hF4.out.r6; clear hb))
    | (go_at_call 143; go_loud (have hG := ((hF4.out.set5 (.int .u64 (x.id : Int)) (.bool x.leaf) (.string ⟨x.label.toArray⟩) (.slice xA xn xc) (.string ⟨x.text.toArray⟩) (.slice xK xm xd)).set6 (.int .u64 (x.id : Int)) (.bool x.leaf) (.string ⟨x.label.toArray⟩) (.slice xA xn xc) (.string ⟨x.text.toArray⟩) (.slice xK xm xd)); refine (putsIn_any _ o s ho'.out.kind).mono ?_; rintro e w7 ⟨rfl, hb⟩; rw [hpi.out]; have hF7 := Lib.hid (hG.below hb); (try (clear o0 o1 o2 o3 o4 o5 o6 o7 o8 o9 o10)); (try (clear n0 n1 n2 n3 n4 n5 nf)); (try (clear p0 p1 p2 p3 p4 p5 pf)); (try (clear q0 q1 q2 q3 q4 q5 qf)); obtain ⟨o0, o1, o2, o3, o4, o5, o6, o7, o8, o9, o10⟩ := op_cells hF7.out.ro; obtain ⟨p0, p1, p2, p3, p4, p5, pf⟩ := six_cells hF7.out.r5; obtain ⟨q0, q1, q2, q3, q4, q5, qf⟩ := six_cells hF7.out.r6; clear hb))
    | (go_at_call 144; go_loud (refine (gapFault_any _ x xA xK xn xc xm xd hxk o.at_).mono ?_; rintro e w8 ⟨rfl, hb⟩; have hFz := Lib.hid (hF7.out.below hb); (try (clear o0 o1 o2 o3 o4 o5 o6 o7 o8 o9 o10)); (try (clear n0 n1 n2 n3 n4 n5 nf)); (try (clear p0 p1 p2 p3 p4 p5 pf)); (try (clear q0 q1 q2 q3 q4 q5 qf)); clear hb)))
  go_step3
  go_wp2_with fail
  try simp only [Exit.jump]
  go_ret
  exact ⟨rfl, by first | exact hFz.out.bel | exact below_six hFz.out.bel (by omega)⟩
set_option maxHeartbeats 8000000 in
theorem fault_k6 (w : World) (t : Nd) (aA kA : Option Addr) (an ac kn kc : Nat) (o : Ov) (s : OS) (h : NodeV (Old w) w aA an ac kA kn kc t) (ho : OpIn w o s) (hbig : weighV t ≤ 1000000) (hf : formedV o = true) (k6 : o.kind = 6) (x : Nd) (hx : atV t o.path = some x) (hr : P5.rightV o.pieces = true) (hxl : x.text.length ≤ 10000000) :
    Calls Try.prog 108 #[.agg (val6 t aA an ac kA kn kc), .agg (opCells o s)] w fun e w' => e = .returned (.int .i64 (editE x o.pieces)) ∧ Below w.heap.size w w' := by
  obtain ⟨v2, hv2⟩ : ∃ v2, v2 = val6 t aA an ac kA kn kc := ⟨_, rfl⟩
  obtain ⟨v3, hv3⟩ : ∃ v3, v3 = opCells o s := ⟨_, rfl⟩
  have hF1 := Lib.hid (Four.start w (val6 t aA an ac kA kn kc) (opCells o s) zero6 zero6)
  have hn := Lib.hid (fun W (hb : Below w.heap.size w W) => h.below hb)
  have hop := Lib.hid (fun W (hb : Below w.heap.size w W) => ho.below hb)
  have ho' := Lib.hid ho
  have hbig' := Lib.hid hbig
  have hpm := Nat.le_trans ho.pnc ho.pcm
  have htm := Nat.le_trans ho.tnc ho.tcm
  have hqm := Nat.le_trans ho.qnc ho.qcm
  have hpm' := Lib.hid hpm
  have htm' := Lib.hid htm
  have hqm' := Lib.hid hqm
  have hkr := ho.kind
  have hf' := Lib.hid hf
  clear hf
  have htk := Lib.hid (show decide (o.kind = 2 ∨ o.kind = 3) = false from decide_eq_false fun h => by omega)
  have hpi := Lib.hid (show decide (o.kind = 1 ∨ o.kind = 3) = false from decide_eq_false fun h => by omega)
  have hx' := Lib.hid hx
  clear hx
  have b3 : ((o.kind : Int) == 3) = false := by simp; omega
  have b6 : ((o.kind : Int) == 6) = true := by simp; omega
  have hrg := Lib.hid hr
  have hxt := Lib.hid hxl
  clear k6 hr hxl
  clear h ho hbig hv2 v2 hv3 v3 hpm htm hqm
  unfold zero6 val6 opCells at hF1
  unfold val6 opCells
  go_enter Try.func108, Try.ntmps108
  go_wp2_with fail
  refine wp_scope_once 0 rfl ?_
  go_wp2_with (first
    | (go_at_call 93; go_loud (refine (formed_any _ o s (hop.out _ hF1.out.bel)).mono ?_; rintro e w2 ⟨rfl, hb⟩; rw [hf'.out]; have hF2 := Lib.hid (hF1.out.below hb); (try (clear o0 o1 o2 o3 o4 o5 o6 o7 o8 o9 o10)); (try (clear n0 n1 n2 n3 n4 n5 nf)); (try (clear p0 p1 p2 p3 p4 p5 pf)); (try (clear q0 q1 q2 q3 q4 q5 qf)); obtain ⟨o0, o1, o2, o3, o4, o5, o6, o7, o8, o9, o10⟩ := op_cells hF2.out.ro; clear hb))
    | (go_at_call 142; go_loud (refine (takesOut_any _ o s ho'.out.kind).mono ?_; rintro e w3 ⟨rfl, hb⟩; rw [htk.out]; have hF3 := Lib.hid (hF2.out.below hb); (try (clear o0 o1 o2 o3 o4 o5 o6 o7 o8 o9 o10)); (try (clear n0 n1 n2 n3 n4 n5 nf)); (try (clear p0 p1 p2 p3 p4 p5 pf)); (try (clear q0 q1 q2 q3 q4 q5 qf)); obtain ⟨o0, o1, o2, o3, o4, o5, o6, o7, o8, o9, o10⟩ := op_cells hF3.out.ro; obtain ⟨n0, n1, n2, n3, n4, n5, nf⟩ := six_cells hF3.out.rn; clear hb))
    | (go_at_call 35; go_at_call_of 35 s.pA; go_loud (refine (at_any _ t aA kA an ac kn kc (hn.out _ hF3.out.bel) s.pA s.pn s.pc o.path (hop.out _ hF3.out.bel).path hpm'.out hbig'.out).mono ?_; rintro e w4 ⟨xA, xn, xc, xK, xm, xd, rfl, hnx, hb⟩; rw [hx'.out] at hnx ⊢; have hxk := hnx.facts.kl; unfold val6; have hF4 := Lib.hid (hF3.out.below hb); (try (clear o0 o1 o2 o3 o4 o5 o6 o7 o8 o9 o10)); (try (clear n0 n1 n2 n3 n4 n5 nf)); (try (clear p0 p1 p2 p3 p4 p5 pf)); (try (clear q0 q1 q2 q3 q4 q5 qf)); obtain ⟨o0, o1, o2, o3, o4, o5, o6, o7, o8, o9, o10⟩ := op_cells hF4.out.ro; obtain ⟨p0, p1, p2, p3, p4, p5, pf⟩ := six_cells hF4.out.r5; obtain ⟨q0, q1, q2, q3, q4, q5, qf⟩ := six_cells hF4.out.r6; clear hb))
    | (go_at_call 143; go_loud (have hG := ((hF4.out.set5 (.int .u64 (x.id : Int)) (.bool x.leaf) (.string ⟨x.label.toArray⟩) (.slice xA xn xc) (.string ⟨x.text.toArray⟩) (.slice xK xm xd)).set6 (.int .u64 (x.id : Int)) (.bool x.leaf) (.string ⟨x.label.toArray⟩) (.slice xA xn xc) (.string ⟨x.text.toArray⟩) (.slice xK xm xd)); refine (putsIn_any _ o s ho'.out.kind).mono ?_; rintro e w7 ⟨rfl, hb⟩; rw [hpi.out]; have hF7 := Lib.hid (hG.below hb); (try (clear o0 o1 o2 o3 o4 o5 o6 o7 o8 o9 o10)); (try (clear n0 n1 n2 n3 n4 n5 nf)); (try (clear p0 p1 p2 p3 p4 p5 pf)); (try (clear q0 q1 q2 q3 q4 q5 qf)); obtain ⟨o0, o1, o2, o3, o4, o5, o6, o7, o8, o9, o10⟩ := op_cells hF7.out.ro; obtain ⟨p0, p1, p2, p3, p4, p5, pf⟩ := six_cells hF7.out.r5; obtain ⟨q0, q1, q2, q3, q4, q5, qf⟩ := six_cells hF7.out.r6; clear hb))
    | (go_at_call 145; go_loud (refine (editFault_any _ x xA xK xn xc xm xd hxt.out s.qA s.qn s.qc o.pieces (hop.out _ hF7.out.bel).pieces hqm'.out hrg.out).mono ?_; rintro e w8 ⟨rfl, hb⟩; have hFz := Lib.hid (hF7.out.below hb); (try (clear o0 o1 o2 o3 o4 o5 o6 o7 o8 o9 o10)); (try (clear n0 n1 n2 n3 n4 n5 nf)); (try (clear p0 p1 p2 p3 p4 p5 pf)); (try (clear q0 q1 q2 q3 q4 q5 qf)); clear hb)))
  go_step3
  go_wp2_with fail
  try simp only [Exit.jump]
  go_ret
  exact ⟨rfl, by first | exact hFz.out.bel | exact below_six hFz.out.bel (by omega)⟩
set_option maxHeartbeats 8000000 in
theorem fault_k3a (w : World) (t : Nd) (aA kA : Option Addr) (an ac kn kc : Nat) (o : Ov) (s : OS) (h : NodeV (Old w) w aA an ac kA kn kc t) (ho : OpIn w o s) (hbig : weighV t ≤ 1000000) (hf : formedV o = true) (k3 : o.kind = 3) (hp : o.path ≠ []) (x : Nd) (hx : atV t o.path = some x) (hw : P4.withinV o.path o.to_ = true) :
    Calls Try.prog 108 #[.agg (val6 t aA an ac kA kn kc), .agg (opCells o s)] w fun e w' => e = .returned (.int .i64 (84)) ∧ Below w.heap.size w w' := by
  obtain ⟨v2, hv2⟩ : ∃ v2, v2 = val6 t aA an ac kA kn kc := ⟨_, rfl⟩
  obtain ⟨v3, hv3⟩ : ∃ v3, v3 = opCells o s := ⟨_, rfl⟩
  have hF1 := Lib.hid (Four.start w (val6 t aA an ac kA kn kc) (opCells o s) zero6 zero6)
  have hn := Lib.hid (fun W (hb : Below w.heap.size w W) => h.below hb)
  have hop := Lib.hid (fun W (hb : Below w.heap.size w W) => ho.below hb)
  have ho' := Lib.hid ho
  have hbig' := Lib.hid hbig
  have hpm := Nat.le_trans ho.pnc ho.pcm
  have htm := Nat.le_trans ho.tnc ho.tcm
  have hqm := Nat.le_trans ho.qnc ho.qcm
  have hpm' := Lib.hid hpm
  have htm' := Lib.hid htm
  have hqm' := Lib.hid hqm
  have hkr := ho.kind
  have hf' := Lib.hid hf
  clear hf
  have htk := Lib.hid (show decide (o.kind = 2 ∨ o.kind = 3) = true from decide_eq_true (.inr k3))
  have hpi := Lib.hid (show decide (o.kind = 1 ∨ o.kind = 3) = true from decide_eq_true (.inr k3))
  have b3 : ((o.kind : Int) == 3) = true := by simp; omega
  have hplen : ¬ ((s.pn : Int) = 0) := by
    have := ho'.out.path.1
    cases hc : o.path with
    | nil => exact absurd hc hp
    | cons a b => rw [hc] at this; simp at this; omega
  have hplen2 : ((s.pn : Int) == 0) = false := by simpa using hplen
  clear hplen hp
  have hx' := Lib.hid hx
  clear hx
  have hw' := Lib.hid hw
  clear k3 hw
  clear h ho hbig hv2 v2 hv3 v3 hpm htm hqm
  unfold zero6 val6 opCells at hF1
  unfold val6 opCells
  go_enter Try.func108, Try.ntmps108
  go_wp2_with fail
  refine wp_scope_once 0 rfl ?_
  go_wp2_with (first
    | (go_at_call 93; go_loud (refine (formed_any _ o s (hop.out _ hF1.out.bel)).mono ?_; rintro e w2 ⟨rfl, hb⟩; rw [hf'.out]; have hF2 := Lib.hid (hF1.out.below hb); (try (clear o0 o1 o2 o3 o4 o5 o6 o7 o8 o9 o10)); (try (clear n0 n1 n2 n3 n4 n5 nf)); (try (clear p0 p1 p2 p3 p4 p5 pf)); (try (clear q0 q1 q2 q3 q4 q5 qf)); obtain ⟨o0, o1, o2, o3, o4, o5, o6, o7, o8, o9, o10⟩ := op_cells hF2.out.ro; clear hb))
    | (go_at_call 142; go_loud (refine (takesOut_any _ o s ho'.out.kind).mono ?_; rintro e w3 ⟨rfl, hb⟩; rw [htk.out]; have hF3 := Lib.hid (hF2.out.below hb); (try (clear o0 o1 o2 o3 o4 o5 o6 o7 o8 o9 o10)); (try (clear n0 n1 n2 n3 n4 n5 nf)); (try (clear p0 p1 p2 p3 p4 p5 pf)); (try (clear q0 q1 q2 q3 q4 q5 qf)); obtain ⟨o0, o1, o2, o3, o4, o5, o6, o7, o8, o9, o10⟩ := op_cells hF3.out.ro; obtain ⟨n0, n1, n2, n3, n4, n5, nf⟩ := six_cells hF3.out.rn; clear hb))
    | (go_at_call 35; go_at_call_of 35 s.pA; go_loud (refine (at_any _ t aA kA an ac kn kc (hn.out _ hF3.out.bel) s.pA s.pn s.pc o.path (hop.out _ hF3.out.bel).path hpm'.out hbig'.out).mono ?_; rintro e w4 ⟨xA, xn, xc, xK, xm, xd, rfl, hnx, hb⟩; rw [hx'.out] at hnx ⊢; have hxk := hnx.facts.kl; unfold val6; have hF4 := Lib.hid (hF3.out.below hb); (try (clear o0 o1 o2 o3 o4 o5 o6 o7 o8 o9 o10)); (try (clear n0 n1 n2 n3 n4 n5 nf)); (try (clear p0 p1 p2 p3 p4 p5 pf)); (try (clear q0 q1 q2 q3 q4 q5 qf)); obtain ⟨o0, o1, o2, o3, o4, o5, o6, o7, o8, o9, o10⟩ := op_cells hF4.out.ro; obtain ⟨p0, p1, p2, p3, p4, p5, pf⟩ := six_cells hF4.out.r5; obtain ⟨q0, q1, q2, q3, q4, q5, qf⟩ := six_cells hF4.out.r6; clear hb))
    | (go_at_call 98; go_loud (have hG := ((hF4.out.set5 (.int .u64 (x.id : Int)) (.bool x.leaf) (.string ⟨x.label.toArray⟩) (.slice xA xn xc) (.string ⟨x.text.toArray⟩) (.slice xK xm xd)).set6 (.int .u64 (x.id : Int)) (.bool x.leaf) (.string ⟨x.label.toArray⟩) (.slice xA xn xc) (.string ⟨x.text.toArray⟩) (.slice xK xm xd)); refine (P4.within_any _ s.pA s.tA s.pn s.pc s.tn s.tc o.path o.to_ (hop.out _ hG.bel).path (hop.out _ hG.bel).to_ hpm'.out htm'.out).mono ?_; rw [hw'.out]; rintro e w5 ⟨rfl, k5, hk5⟩; have hFz := Lib.hid (hG.drew hk5); (try (clear o0 o1 o2 o3 o4 o5 o6 o7 o8 o9 o10)); (try (clear n0 n1 n2 n3 n4 n5 nf)); (try (clear p0 p1 p2 p3 p4 p5 pf)); (try (clear q0 q1 q2 q3 q4 q5 qf)); obtain ⟨o0, o1, o2, o3, o4, o5, o6, o7, o8, o9, o10⟩ := op_cells hFz.out.ro; obtain ⟨n0, n1, n2, n3, n4, n5, nf⟩ := six_cells hFz.out.rn; clear hk5)))
  go_step3
  refine ⟨rfl, ?_⟩
  go_wp2_with fail
  try simp only [Exit.jump]
  go_ret
  exact ⟨rfl, by first | exact hFz.out.bel | exact below_six hFz.out.bel (by omega)⟩
set_option maxHeartbeats 8000000 in
theorem fault_k3b (w : World) (t : Nd) (aA kA : Option Addr) (an ac kn kc : Nat) (o : Ov) (s : OS) (h : NodeV (Old w) w aA an ac kA kn kc t) (ho : OpIn w o s) (hbig : weighV t ≤ 1000000) (hf : formedV o = true) (k3 : o.kind = 3) (hp : o.path ≠ []) (x : Nd) (hx : atV t o.path = some x) (hw : P4.withinV o.path o.to_ = false) (hy : atV t o.to_ = none) :
    Calls Try.prog 108 #[.agg (val6 t aA an ac kA kn kc), .agg (opCells o s)] w fun e w' => e = .returned (.int .i64 (81)) ∧ Below w.heap.size w w' := by
  obtain ⟨v2, hv2⟩ : ∃ v2, v2 = val6 t aA an ac kA kn kc := ⟨_, rfl⟩
  obtain ⟨v3, hv3⟩ : ∃ v3, v3 = opCells o s := ⟨_, rfl⟩
  have hF1 := Lib.hid (Four.start w (val6 t aA an ac kA kn kc) (opCells o s) zero6 zero6)
  have hn := Lib.hid (fun W (hb : Below w.heap.size w W) => h.below hb)
  have hop := Lib.hid (fun W (hb : Below w.heap.size w W) => ho.below hb)
  have ho' := Lib.hid ho
  have hbig' := Lib.hid hbig
  have hpm := Nat.le_trans ho.pnc ho.pcm
  have htm := Nat.le_trans ho.tnc ho.tcm
  have hqm := Nat.le_trans ho.qnc ho.qcm
  have hpm' := Lib.hid hpm
  have htm' := Lib.hid htm
  have hqm' := Lib.hid hqm
  have hkr := ho.kind
  have hf' := Lib.hid hf
  clear hf
  have htk := Lib.hid (show decide (o.kind = 2 ∨ o.kind = 3) = true from decide_eq_true (.inr k3))
  have hpi := Lib.hid (show decide (o.kind = 1 ∨ o.kind = 3) = true from decide_eq_true (.inr k3))
  have b3 : ((o.kind : Int) == 3) = true := by simp; omega
  have hplen : ¬ ((s.pn : Int) = 0) := by
    have := ho'.out.path.1
    cases hc : o.path with
    | nil => exact absurd hc hp
    | cons a b => rw [hc] at this; simp at this; omega
  have hplen2 : ((s.pn : Int) == 0) = false := by simpa using hplen
  clear hplen hp
  have hx' := Lib.hid hx
  clear hx
  have hw' := Lib.hid hw
  have hy' := Lib.hid hy
  clear k3 hw hy
  clear h ho hbig hv2 v2 hv3 v3 hpm htm hqm
  unfold zero6 val6 opCells at hF1
  unfold val6 opCells
  go_enter Try.func108, Try.ntmps108
  go_wp2_with fail
  refine wp_scope_once 0 rfl ?_
  go_wp2_with (first
    | (go_at_call 93; go_loud (refine (formed_any _ o s (hop.out _ hF1.out.bel)).mono ?_; rintro e w2 ⟨rfl, hb⟩; rw [hf'.out]; have hF2 := Lib.hid (hF1.out.below hb); (try (clear o0 o1 o2 o3 o4 o5 o6 o7 o8 o9 o10)); (try (clear n0 n1 n2 n3 n4 n5 nf)); (try (clear p0 p1 p2 p3 p4 p5 pf)); (try (clear q0 q1 q2 q3 q4 q5 qf)); obtain ⟨o0, o1, o2, o3, o4, o5, o6, o7, o8, o9, o10⟩ := op_cells hF2.out.ro; clear hb))
    | (go_at_call 142; go_loud (refine (takesOut_any _ o s ho'.out.kind).mono ?_; rintro e w3 ⟨rfl, hb⟩; rw [htk.out]; have hF3 := Lib.hid (hF2.out.below hb); (try (clear o0 o1 o2 o3 o4 o5 o6 o7 o8 o9 o10)); (try (clear n0 n1 n2 n3 n4 n5 nf)); (try (clear p0 p1 p2 p3 p4 p5 pf)); (try (clear q0 q1 q2 q3 q4 q5 qf)); obtain ⟨o0, o1, o2, o3, o4, o5, o6, o7, o8, o9, o10⟩ := op_cells hF3.out.ro; obtain ⟨n0, n1, n2, n3, n4, n5, nf⟩ := six_cells hF3.out.rn; clear hb))
    | (go_at_call 35; go_at_call_of 35 s.pA; go_loud (refine (at_any _ t aA kA an ac kn kc (hn.out _ hF3.out.bel) s.pA s.pn s.pc o.path (hop.out _ hF3.out.bel).path hpm'.out hbig'.out).mono ?_; rintro e w4 ⟨xA, xn, xc, xK, xm, xd, rfl, hnx, hb⟩; rw [hx'.out] at hnx ⊢; have hxk := hnx.facts.kl; unfold val6; have hF4 := Lib.hid (hF3.out.below hb); (try (clear o0 o1 o2 o3 o4 o5 o6 o7 o8 o9 o10)); (try (clear n0 n1 n2 n3 n4 n5 nf)); (try (clear p0 p1 p2 p3 p4 p5 pf)); (try (clear q0 q1 q2 q3 q4 q5 qf)); obtain ⟨o0, o1, o2, o3, o4, o5, o6, o7, o8, o9, o10⟩ := op_cells hF4.out.ro; obtain ⟨p0, p1, p2, p3, p4, p5, pf⟩ := six_cells hF4.out.r5; obtain ⟨q0, q1, q2, q3, q4, q5, qf⟩ := six_cells hF4.out.r6; clear hb))
    | (go_at_call 98; go_loud (have hG := ((hF4.out.set5 (.int .u64 (x.id : Int)) (.bool x.leaf) (.string ⟨x.label.toArray⟩) (.slice xA xn xc) (.string ⟨x.text.toArray⟩) (.slice xK xm xd)).set6 (.int .u64 (x.id : Int)) (.bool x.leaf) (.string ⟨x.label.toArray⟩) (.slice xA xn xc) (.string ⟨x.text.toArray⟩) (.slice xK xm xd)); refine (P4.within_any _ s.pA s.tA s.pn s.pc s.tn s.tc o.path o.to_ (hop.out _ hG.bel).path (hop.out _ hG.bel).to_ hpm'.out htm'.out).mono ?_; rw [hw'.out]; rintro e w5 ⟨rfl, k5, hk5⟩; have hF5 := Lib.hid (hG.drew hk5); (try (clear o0 o1 o2 o3 o4 o5 o6 o7 o8 o9 o10)); (try (clear n0 n1 n2 n3 n4 n5 nf)); (try (clear p0 p1 p2 p3 p4 p5 pf)); (try (clear q0 q1 q2 q3 q4 q5 qf)); obtain ⟨o0, o1, o2, o3, o4, o5, o6, o7, o8, o9, o10⟩ := op_cells hF5.out.ro; obtain ⟨n0, n1, n2, n3, n4, n5, nf⟩ := six_cells hF5.out.rn; clear hk5))
    | (go_at_call 35; go_at_call_of 35 s.tA; go_loud (refine (at_any _ t aA kA an ac kn kc (hn.out _ hF5.out.bel) s.tA s.tn s.tc o.to_ (hop.out _ hF5.out.bel).to_ htm'.out hbig'.out).mono ?_; rintro e w6 ⟨yA, yn, yc, yK, ym, yd, rfl, hny, hb⟩; clear hny; rw [hy'.out]; unfold val6; have hFz := Lib.hid (hF5.out.below hb); (try (clear o0 o1 o2 o3 o4 o5 o6 o7 o8 o9 o10)); (try (clear n0 n1 n2 n3 n4 n5 nf)); (try (clear p0 p1 p2 p3 p4 p5 pf)); (try (clear q0 q1 q2 q3 q4 q5 qf)); obtain ⟨q0, q1, q2, q3, q4, q5, qf⟩ := six_cells hFz.out.r6; clear hb)))
  go_step3
  refine ⟨rfl, ?_⟩
  go_wp2_with fail
  try simp only [Exit.jump]
  go_ret
  exact ⟨rfl, by first | exact hFz.out.bel | exact below_six hFz.out.bel (by omega)⟩
set_option maxHeartbeats 8000000 in
theorem fault_k3c (w : World) (t : Nd) (aA kA : Option Addr) (an ac kn kc : Nat) (o : Ov) (s : OS) (h : NodeV (Old w) w aA an ac kA kn kc t) (ho : OpIn w o s) (hbig : weighV t ≤ 1000000) (hf : formedV o = true) (k3 : o.kind = 3) (hp : o.path ≠ []) (x : Nd) (hx : atV t o.path = some x) (hw : P4.withinV o.path o.to_ = false) (y : Nd) (hy : atV t o.to_ = some y) :
    Calls Try.prog 108 #[.agg (val6 t aA an ac kA kn kc), .agg (opCells o s)] w fun e w' => e = .returned (.int .i64 (gapE y o.at_)) ∧ Below w.heap.size w w' := by
  obtain ⟨v2, hv2⟩ : ∃ v2, v2 = val6 t aA an ac kA kn kc := ⟨_, rfl⟩
  obtain ⟨v3, hv3⟩ : ∃ v3, v3 = opCells o s := ⟨_, rfl⟩
  have hF1 := Lib.hid (Four.start w (val6 t aA an ac kA kn kc) (opCells o s) zero6 zero6)
  have hn := Lib.hid (fun W (hb : Below w.heap.size w W) => h.below hb)
  have hop := Lib.hid (fun W (hb : Below w.heap.size w W) => ho.below hb)
  have ho' := Lib.hid ho
  have hbig' := Lib.hid hbig
  have hpm := Nat.le_trans ho.pnc ho.pcm
  have htm := Nat.le_trans ho.tnc ho.tcm
  have hqm := Nat.le_trans ho.qnc ho.qcm
  have hpm' := Lib.hid hpm
  have htm' := Lib.hid htm
  have hqm' := Lib.hid hqm
  have hkr := ho.kind
  have hf' := Lib.hid hf
  clear hf
  have htk := Lib.hid (show decide (o.kind = 2 ∨ o.kind = 3) = true from decide_eq_true (.inr k3))
  have hpi := Lib.hid (show decide (o.kind = 1 ∨ o.kind = 3) = true from decide_eq_true (.inr k3))
  have b3 : ((o.kind : Int) == 3) = true := by simp; omega
  have hplen : ¬ ((s.pn : Int) = 0) := by
    have := ho'.out.path.1
    cases hc : o.path with
    | nil => exact absurd hc hp
    | cons a b => rw [hc] at this; simp at this; omega
  have hplen2 : ((s.pn : Int) == 0) = false := by simpa using hplen
  clear hplen hp
  have hx' := Lib.hid hx
  clear hx
  have hw' := Lib.hid hw
  have hy' := Lib.hid hy
  clear k3 hw hy
  clear h ho hbig hv2 v2 hv3 v3 hpm htm hqm
  unfold zero6 val6 opCells at hF1
  unfold val6 opCells
  go_enter Try.func108, Try.ntmps108
  go_wp2_with fail
  refine wp_scope_once 0 rfl ?_
  go_wp2_with (first
    | (go_at_call 93; go_loud (refine (formed_any _ o s (hop.out _ hF1.out.bel)).mono ?_; rintro e w2 ⟨rfl, hb⟩; rw [hf'.out]; have hF2 := Lib.hid (hF1.out.below hb); (try (clear o0 o1 o2 o3 o4 o5 o6 o7 o8 o9 o10)); (try (clear n0 n1 n2 n3 n4 n5 nf)); (try (clear p0 p1 p2 p3 p4 p5 pf)); (try (clear q0 q1 q2 q3 q4 q5 qf)); obtain ⟨o0, o1, o2, o3, o4, o5, o6, o7, o8, o9, o10⟩ := op_cells hF2.out.ro; clear hb))
    | (go_at_call 142; go_loud (refine (takesOut_any _ o s ho'.out.kind).mono ?_; rintro e w3 ⟨rfl, hb⟩; rw [htk.out]; have hF3 := Lib.hid (hF2.out.below hb); (try (clear o0 o1 o2 o3 o4 o5 o6 o7 o8 o9 o10)); (try (clear n0 n1 n2 n3 n4 n5 nf)); (try (clear p0 p1 p2 p3 p4 p5 pf)); (try (clear q0 q1 q2 q3 q4 q5 qf)); obtain ⟨o0, o1, o2, o3, o4, o5, o6, o7, o8, o9, o10⟩ := op_cells hF3.out.ro; obtain ⟨n0, n1, n2, n3, n4, n5, nf⟩ := six_cells hF3.out.rn; clear hb))
    | (go_at_call 35; go_at_call_of 35 s.pA; go_loud (refine (at_any _ t aA kA an ac kn kc (hn.out _ hF3.out.bel) s.pA s.pn s.pc o.path (hop.out _ hF3.out.bel).path hpm'.out hbig'.out).mono ?_; rintro e w4 ⟨xA, xn, xc, xK, xm, xd, rfl, hnx, hb⟩; rw [hx'.out] at hnx ⊢; have hxk := hnx.facts.kl; unfold val6; have hF4 := Lib.hid (hF3.out.below hb); (try (clear o0 o1 o2 o3 o4 o5 o6 o7 o8 o9 o10)); (try (clear n0 n1 n2 n3 n4 n5 nf)); (try (clear p0 p1 p2 p3 p4 p5 pf)); (try (clear q0 q1 q2 q3 q4 q5 qf)); obtain ⟨o0, o1, o2, o3, o4, o5, o6, o7, o8, o9, o10⟩ := op_cells hF4.out.ro; obtain ⟨p0, p1, p2, p3, p4, p5, pf⟩ := six_cells hF4.out.r5; obtain ⟨q0, q1, q2, q3, q4, q5, qf⟩ := six_cells hF4.out.r6; clear hb))
    | (go_at_call 98; go_loud (have hG := ((hF4.out.set5 (.int .u64 (x.id : Int)) (.bool x.leaf) (.string ⟨x.label.toArray⟩) (.slice xA xn xc) (.string ⟨x.text.toArray⟩) (.slice xK xm xd)).set6 (.int .u64 (x.id : Int)) (.bool x.leaf) (.string ⟨x.label.toArray⟩) (.slice xA xn xc) (.string ⟨x.text.toArray⟩) (.slice xK xm xd)); refine (P4.within_any _ s.pA s.tA s.pn s.pc s.tn s.tc o.path o.to_ (hop.out _ hG.bel).path (hop.out _ hG.bel).to_ hpm'.out htm'.out).mono ?_; rw [hw'.out]; rintro e w5 ⟨rfl, k5, hk5⟩; have hF5 := Lib.hid (hG.drew hk5); (try (clear o0 o1 o2 o3 o4 o5 o6 o7 o8 o9 o10)); (try (clear n0 n1 n2 n3 n4 n5 nf)); (try (clear p0 p1 p2 p3 p4 p5 pf)); (try (clear q0 q1 q2 q3 q4 q5 qf)); obtain ⟨o0, o1, o2, o3, o4, o5, o6, o7, o8, o9, o10⟩ := op_cells hF5.out.ro; obtain ⟨n0, n1, n2, n3, n4, n5, nf⟩ := six_cells hF5.out.rn; clear hk5))
    | (go_at_call 35; go_at_call_of 35 s.tA; go_loud (refine (at_any _ t aA kA an ac kn kc (hn.out _ hF5.out.bel) s.tA s.tn s.tc o.to_ (hop.out _ hF5.out.bel).to_ htm'.out hbig'.out).mono ?_; rintro e w6 ⟨yA, yn, yc, yK, ym, yd, rfl, hny, hb⟩; rw [hy'.out] at hny ⊢; have hyk := hny.facts.kl; unfold val6; have hF6 := Lib.hid (hF5.out.below hb); (try (clear o0 o1 o2 o3 o4 o5 o6 o7 o8 o9 o10)); (try (clear n0 n1 n2 n3 n4 n5 nf)); (try (clear p0 p1 p2 p3 p4 p5 pf)); (try (clear q0 q1 q2 q3 q4 q5 qf)); obtain ⟨o0, o1, o2, o3, o4, o5, o6, o7, o8, o9, o10⟩ := op_cells hF6.out.ro; obtain ⟨q0, q1, q2, q3, q4, q5, qf⟩ := six_cells hF6.out.r6; clear hb))
    | (go_at_call 143; go_loud (have hG := (hF6.out.set6 (.int .u64 (y.id : Int)) (.bool y.leaf) (.string ⟨y.label.toArray⟩) (.slice yA yn yc) (.string ⟨y.text.toArray⟩) (.slice yK ym yd)); refine (putsIn_any _ o s ho'.out.kind).mono ?_; rintro e w7 ⟨rfl, hb⟩; rw [hpi.out]; have hF7 := Lib.hid (hG.below hb); (try (clear o0 o1 o2 o3 o4 o5 o6 o7 o8 o9 o10)); (try (clear n0 n1 n2 n3 n4 n5 nf)); (try (clear p0 p1 p2 p3 p4 p5 pf)); (try (clear q0 q1 q2 q3 q4 q5 qf)); obtain ⟨o0, o1, o2, o3, o4, o5, o6, o7, o8, o9, o10⟩ := op_cells hF7.out.ro; obtain ⟨p0, p1, p2, p3, p4, p5, pf⟩ := six_cells hF7.out.r5; obtain ⟨q0, q1, q2, q3, q4, q5, qf⟩ := six_cells hF7.out.r6; clear hb))
    | (go_at_call 144; go_loud (refine (gapFault_any _ y yA yK yn yc ym yd hyk o.at_).mono ?_; rintro e w8 ⟨rfl, hb⟩; have hFz := Lib.hid (hF7.out.below hb); (try (clear o0 o1 o2 o3 o4 o5 o6 o7 o8 o9 o10)); (try (clear n0 n1 n2 n3 n4 n5 nf)); (try (clear p0 p1 p2 p3 p4 p5 pf)); (try (clear q0 q1 q2 q3 q4 q5 qf)); clear hb)))
  go_step3
  go_wp2_with fail
  try simp only [Exit.jump]
  go_ret
  exact ⟨rfl, by first | exact hFz.out.bel | exact below_six hFz.out.bel (by omega)⟩
theorem at_text {t x : Nd} {p : List Int} (h : atV t p = some x) (hb : weighV t ≤ 1000000) : x.text.length ≤ 10000000 := by
  have h1 := (at_count p t x h).2
  have h2 := weighV_eq x
  omega
/-- what is wrong: in all cases -/
theorem fault_any (w : World) (t : Nd) (aA kA : Option Addr) (an ac kn kc : Nat) (o : Ov) (s : OS) (h : NodeV (Old w) w aA an ac kA kn kc t) (ho : OpIn w o s) (hbig : weighV t ≤ 1000000) :
    Calls Try.prog 108 #[.agg (val6 t aA an ac kA kn kc), .agg (opCells o s)] w fun e w' => e = .returned (.int .i64 (faultV t o)) ∧ Below w.heap.size w w' := by
  cases hf : formedV o with
  | false =>
    have := fault_c0 w t aA kA an ac kn kc o s h ho hbig hf
    rw [show faultV t o = 80 by unfold faultV; rw [if_pos hf]]
    exact this
  | true =>
    have e0 : ¬ formedV o = false := by rw [hf]; decide
    by_cases hk : o.kind = 2 ∨ o.kind = 3
    · by_cases hp : o.path = []
      · rw [show faultV t o = 82 by unfold faultV; rw [if_neg e0, if_pos ⟨hk, hp⟩]]
        exact fault_c1 w t aA kA an ac kn kc o s h ho hbig hf hk hp
      · have e1 : ¬ ((o.kind = 2 ∨ o.kind = 3) ∧ o.path = []) := fun h => hp h.2
        cases hx : atV t o.path with
        | none =>
          rw [show faultV t o = 81 by unfold faultV; rw [if_neg e0, if_neg e1, hx]]
          exact fault_c2a w t aA kA an ac kn kc o s h ho hbig hf hk hp hx
        | some x =>
          by_cases k3 : o.kind = 3
          · have e3 : ¬ o.kind = 1 := by omega
            cases hw : P4.withinV o.path o.to_ with
            | true =>
              rw [show faultV t o = 84 by unfold faultV; rw [if_neg e0, if_neg e1, hx]; dsimp only; rw [if_neg e3, if_pos k3, hw]; rfl]
              exact fault_k3a w t aA kA an ac kn kc o s h ho hbig hf k3 hp x hx hw
            | false =>
              cases hy : atV t o.to_ with
              | none =>
                rw [show faultV t o = 81 by unfold faultV; rw [if_neg e0, if_neg e1, hx]; dsimp only; rw [if_neg e3, if_pos k3, hw, hy]; rfl]
                exact fault_k3b w t aA kA an ac kn kc o s h ho hbig hf k3 hp x hx hw hy
              | some y =>
                rw [show faultV t o = gapE y o.at_ by unfold faultV; rw [if_neg e0, if_neg e1, hx]; dsimp only; rw [if_neg e3, if_pos k3, hw, hy]; rfl]
                exact fault_k3c w t aA kA an ac kn kc o s h ho hbig hf k3 hp x hx hw y hy
          · rw [show faultV t o = 0 by unfold faultV; rw [if_neg e0, if_neg e1, hx]; dsimp only; rw [if_neg (by omega), if_neg k3, if_neg (by omega)]]
            exact fault_kxa w t aA kA an ac kn kc o s h ho hbig hf hk hp (by omega) k3 (by omega) x hx
    · have e1 : ¬ ((o.kind = 2 ∨ o.kind = 3) ∧ o.path = []) := fun h => hk h.1
      cases hx : atV t o.path with
      | none =>
        rw [show faultV t o = 81 by unfold faultV; rw [if_neg e0, if_neg e1, hx]]
        exact fault_c2b w t aA kA an ac kn kc o s h ho hbig hf hk hx
      | some x =>
        by_cases k1 : o.kind = 1
        · rw [show faultV t o = gapE x o.at_ by unfold faultV; rw [if_neg e0, if_neg e1, hx]; dsimp only; rw [if_pos k1]]
          exact fault_k1 w t aA kA an ac kn kc o s h ho hbig hf k1 x hx
        · by_cases k6 : o.kind = 6
          · rw [show faultV t o = editE x o.pieces by unfold faultV; rw [if_neg e0, if_neg e1, hx]; dsimp only; rw [if_neg k1, if_neg (by omega), if_pos k6]]
            have hr : P5.rightV o.pieces = true := by
              unfold formedV at hf
              rw [if_neg k1, if_neg (by omega), if_neg (by omega), if_neg (by omega), if_neg (by omega), if_pos k6, Bool.and_eq_true] at hf
              exact hf.2
            exact fault_k6 w t aA kA an ac kn kc o s h ho hbig hf k6 x hx hr (at_text hx hbig)
          · rw [show faultV t o = 0 by unfold faultV; rw [if_neg e0, if_neg e1, hx]; dsimp only; rw [if_neg k1, if_neg (by omega), if_neg k6]]
            exact fault_kxb w t aA kA an ac kn kc o s h ho hbig hf hk k1 (by omega) k6 x hx
end Go.Proofs.Ytpoenlhikanooaa.Top
/- copied and Valid. -/
namespace Go.Proofs.Ytpoenlhikanooaa.Top
open Go.RowKit
set_option maxRecDepth 20000
set_option linter.unusedVariables false

theorem copied_any (w : World) (A : Option Addr) (n c : Nat) (xs : List Int) (hA : Its w A n xs) (hnil : A = none → c = 0) (hn : n ≤ 500000) :
    Calls Try.prog 126 #[.slice A n c] w (P4.NewRow w xs) := by
  have hA' := Lib.hid hA
  have hl := Lib.hid hA.1
  have hn' := Lib.hid hnil
  clear hA hnil
  go_enter Try.func126, Try.ntmps126
  go_wp2_with (at_builtin; go_loud (refine P4.wpList_append_its rfl _ (.tmp 3) rfl w.heap.size (.slice none 0 0) [] xs rfl (P4.OwnI.nil_ _ _) A n c rfl hA'.out hn'.out (by have := hl.out; simp; omega) (Nat.le_refl _) ?_; intro v1 w1 ho1 hg1 hat1))
  go_ret
  exact ⟨_, rfl, ho1, P4.grown_nil hg1⟩
set_option maxHeartbeats 2000000 in
theorem valid_any (w : World) (t : Nd) (aA kA : Option Addr) (an ac kn kc : Nat) (o : Ov) (s : OS) (h : NodeV (Old w) w aA an ac kA kn kc t) (ho : OpIn w o s) (hbig : weighV t ≤ 100000) :
    Calls Try.prog 73 #[.agg (val6 t aA an ac kA kn kc), .agg (opCells o s)] w fun e w' => e = .returned (.int .i64 (validV t o)) ∧ Below w.heap.size w w' := by
  obtain ⟨W2, hW2⟩ : ∃ W2, W2 = (w.alloc (.cells (val6 t aA an ac kA kn kc) 42)).alloc (.cells (opCells o s) 26) := ⟨_, rfl⟩
  have z1 : W2.heap[w.heap.size]? = some (.cells (val6 t aA an ac kA kn kc) 42 (0, 0)) := by rw [hW2]; exact (Go.heap_alloc_old _ _ (by simp)).trans (heap_alloc_new w _)
  have z2 : W2.heap[w.heap.size + 1]? = some (.cells (opCells o s) 26 (0, 0)) := by rw [hW2]; have h1 := heap_alloc_new (w.alloc (.cells (val6 t aA an ac kA kn kc) 42)) (.cells (opCells o s) 26); rw [World.size_alloc] at h1; exact h1
  have z4' := Lib.hid (show Below w.heap.size w W2 by rw [hW2]; exact ((Below.refl _ _).alloc (Nat.le_refl _) _).alloc (by simp) _)
  have z5 : W2.heap.size = w.heap.size + 1 + 1 := by rw [hW2]; simp
  have hr := Lib.hid (right_any W2 t aA kA an ac kn kc (h.below z4'.out) (by have := (count_le t); omega))
  rw [hW2] at hr
  have hf := Lib.hid (fun (W : World) (hb : Below w.heap.size w W) => fault_any W t aA kA an ac kn kc o s (h.below hb) (ho.below hb) (by omega))
  have hz1 := Lib.hid z1
  have hz2 := Lib.hid z2
  have hz5 := Lib.hid z5
  clear h ho z1 z2 z5
  cases hv : rightV ltB t with
  | false =>
    have hv' := Lib.hid hv
    rw [show validV t o = 2 by unfold validV; rw [hv]; rfl]
    clear hv
    unfold val6 opCells at hr hW2
    unfold val6 opCells
    go_enter Try.func73, Try.ntmps73
    go_wp2_with (go_at_call 107; go_loud (refine hr.out.mono ?_; rw [← hW2]; rintro e w3 ⟨rfl, hb⟩; rw [hv'.out]; have hb' := Lib.hid hb; clear hb))
    go_ret
    exact ⟨rfl, z4'.out.trans (hb'.out.mono z4'.out.size)⟩
  | true =>
    have hv' := Lib.hid hv
    rw [show validV t o = faultV t o by unfold validV; rw [hv]; rfl]
    clear hv
    unfold val6 opCells at hr hW2
    have hf' := Lib.hid (fun (W : World) (hb : Below w.heap.size w W) => hf.out W hb)
    unfold val6 opCells at hf'
    unfold val6 opCells
    go_enter Try.func73, Try.ntmps73
    go_wp2_with (first
      | (go_at_call 107; go_loud (refine hr.out.mono ?_; rw [← hW2]; rintro e w3 ⟨rfl, hb⟩; rw [hv'.out]; have hb' := Lib.hid hb; have r2 := (hb.block _ (by have := hz5.out; omega)).trans hz2.out; have r1 := (hb.block _ (by have := hz5.out; omega)).trans hz1.out; unfold val6 at r1; obtain ⟨p0, p1, p2, p3, p4, p5, pf⟩ := six_cells r1; obtain ⟨o0, o1, o2, o3, o4, o5, o6, o7, o8, o9, o10⟩ := op_cells r2; clear hb r1 r2))
      | (go_at_call 108; go_loud (refine (hf'.out w3 (z4'.out.trans (hb'.out.mono z4'.out.size))).mono ?_; rintro e w4 ⟨rfl, hb4⟩; have hb4' := Lib.hid hb4; clear hb4)))
    go_ret
    exact ⟨rfl, (z4'.out.trans (hb'.out.mono z4'.out.size)).trans (hb4'.out.mono ((z4'.out.trans (hb'.out.mono z4'.out.size)).size))⟩
end Go.Proofs.Ytpoenlhikanooaa.Top
/- Rows of pieces of a call's own; what an operation says, and nothing else: the program's Bare. -/
namespace Go.Proofs.Ytpoenlhikanooaa.Top
open Go.RowKit
set_option maxRecDepth 20000
set_option linter.unusedVariables false

def ipCells (x : P5.IP) : List Value := [.int .i64 x.keep, .int .i64 x.drop, .string ⟨x.put.toArray⟩]
theorem ip_at : ∀ (l : List P5.IP) (q : Nat) (p : P5.IP), l[q]? = some p → ∀ j v, (ipCells p)[j]? = some v → (l.flatMap ipCells)[q * 3 + j]? = some v
  | a :: r, 0, p, h, j, v, hj => by
    simp at h
    subst h
    have hjl := (List.getElem?_eq_some_iff.1 hj).1
    rw [List.flatMap_cons, Nat.zero_mul, Nat.zero_add, List.getElem?_append_left hjl, hj]
  | a :: r, q + 1, p, h, j, v, hj => by
    have ih := ip_at r q p (by simpa using h) j v hj
    rw [List.flatMap_cons, List.getElem?_append_right (by simp [ipCells]; omega)]
    rw [show (q + 1) * 3 + j - (ipCells a).length = q * 3 + j by simp [ipCells]; omega]
    exact ih
/-- the slice value v owns the pieces l -/
def OwnQ (base : Nat) (w : World) (v : Value) (l : List P5.IP) : Prop := w.ownsRow base 66 3 v l.length (l.flatMap ipCells)
theorem OwnQ.nil_ (base : Nat) (w : World) : OwnQ base w (.slice none 0 0) [] := World.ownsRow_nil w base _ _
/-- pieces that can be -/
def IPok (x : P5.IP) : Prop := -9223372036854775808 ≤ x.keep ∧ x.keep ≤ 9223372036854775807 ∧ -9223372036854775808 ≤ x.drop ∧ x.drop ≤ 9223372036854775807 ∧ x.put.length ≤ maxLen
theorem OwnQ.shape {base : Nat} {w : World} {v : Value} {l : List P5.IP} (h : OwnQ base w v l) (hl : ∀ x ∈ l, IPok x) : ∃ (A : Option Addr) (n c : Nat), v = .slice A n c ∧ n = l.length ∧ n ≤ c ∧ c ≤ maxLen ∧ P5.PcsIn w A n l ∧ (A = none → c = 0) := by
  obtain ⟨A, c, rfl, h1, h2, h3, h4⟩ := own_form h
  refine ⟨A, _, c, rfl, rfl, h1, h2, ⟨rfl, fun q p hp => ?_⟩, h3⟩
  have hq := (List.getElem?_eq_some_iff.1 hp).1
  obtain ⟨g, rfl, hb, hlt, hc⟩ := h4 (by omega)
  obtain ⟨m1, m2, m3, m4, m5⟩ := hl p (List.mem_of_getElem? hp)
  have c0 := hc _ _ (ip_at l q p hp 0 _ rfl)
  have c1 := hc _ _ (ip_at l q p hp 1 _ rfl)
  have c2 := hc _ _ (ip_at l q p hp 2 _ rfl)
  have hadd : (⟨g, 0, none⟩ : Addr).add (q * 3) = ⟨g, q * 3, none⟩ := by unfold Addr.add; split <;> simp_all
  refine ⟨_, rfl, hlt, ?_⟩
  rw [hadd]
  exact ⟨m1, m2, m3, m4, m5, c0, c1, c2⟩
end Go.Proofs.Ytpoenlhikanooaa.Top
/- What an operation says, and nothing else: by value; an operation of a call's own. -/
namespace Go.Proofs.Ytpoenlhikanooaa.Top
open Go.RowKit
set_option maxRecDepth 20000
set_option linter.unusedVariables false

theorem own_kept {w w' : World} {base : Nat} {e : TypeId} {size : Nat} {v : Value} {n : Nat} {xs : List Value} (h : w.ownsRow base e size v n xs) (hk : ∀ k, base ≤ k → k < w.heap.size → w'.heap[k]? = w.heap[k]?) : w'.ownsRow base e size v n xs := by
  obtain ⟨h1, h2 | ⟨g, cap, cur, rfl, hb, hg, hr⟩⟩ := h
  · exact ⟨h1, .inl h2⟩
  · exact ⟨h1, .inr ⟨g, cap, cur, rfl, hb, (hk g hb (Array.getElem?_eq_some_iff.1 hg).1).trans hg, hr⟩⟩
theorem own_mono {w : World} {base base' : Nat} {e : TypeId} {size : Nat} {v : Value} {n : Nat} {xs : List Value} (h : w.ownsRow base e size v n xs) (hb : base' ≤ base) : w.ownsRow base' e size v n xs := by
  obtain ⟨h1, h2 | ⟨g, cap, cur, rfl, hbb, hr⟩⟩ := h
  · exact ⟨h1, .inl h2⟩
  · exact ⟨h1, .inr ⟨g, cap, cur, rfl, Nat.le_trans hb hbb, hr⟩⟩
/-- an operation whose rows are a call's own -/
structure OwnOp (base : Nat) (w : World) (o : Ov) (s : OS) : Prop where
  path : P4.OwnI base w (.slice s.pA s.pn s.pc) o.path
  to_ : P4.OwnI base w (.slice s.tA s.tn s.tc) o.to_
  pieces : OwnQ base w (.slice s.qA s.qn s.qc) o.pieces
theorem OwnOp.kept {w w' : World} {base : Nat} {o : Ov} {s : OS} (h : OwnOp base w o s) (hk : ∀ k, base ≤ k → k < w.heap.size → w'.heap[k]? = w.heap[k]?) : OwnOp base w' o s :=
  ⟨own_kept h.path hk, own_kept h.to_ hk, own_kept h.pieces hk⟩
theorem OwnOp.mono {w : World} {base base' : Nat} {o : Ov} {s : OS} (h : OwnOp base w o s) (hb : base' ≤ base) : OwnOp base' w o s :=
  ⟨own_mono h.path hb, own_mono h.to_ hb, own_mono h.pieces hb⟩
/-- an operation as it may be -/
structure OvOk (o : Ov) : Prop where
  kind : o.kind < 256
  at_ : -9223372036854775808 ≤ o.at_ ∧ o.at_ ≤ 9223372036854775807
  id : o.id < 18446744073709551616
  label : o.label.length ≤ maxLen
  key : o.key.length ≤ maxLen
  value : o.value.length ≤ maxLen
  pfew : o.path.length ≤ 500000
  tfew : o.to_.length ≤ 500000
  qfew : o.pieces.length ≤ 500000
  pfit : Fit o.path
  tfit : Fit o.to_
  pieces : ∀ x ∈ o.pieces, IPok x
/-- its own rows at hand: it reads as it -/
theorem OwnOp.op {base : Nat} {w : World} {o : Ov} {s : OS} (h : OwnOp base w o s) (hok : OvOk o) : OpIn w o s := by
  obtain ⟨A1, n1, c1, e1, hn1, hc1, hm1, hi1, hz1⟩ := P4.OwnI.shape h.path
  obtain ⟨A2, n2, c2, e2, hn2, hc2, hm2, hi2, hz2⟩ := P4.OwnI.shape h.to_
  obtain ⟨A3, n3, c3, e3, hn3, hc3, hm3, hi3, hz3⟩ := OwnQ.shape h.pieces hok.pieces
  injection e1 with a1 b1 d1
  injection e2 with a2 b2 d2
  injection e3 with a3 b3 d3
  subst a1 b1 d1 a2 b2 d2 a3 b3 d3
  exact ⟨hok.kind, hi1, hc1, hm1, hz1, hok.at_, hi2, hc2, hm2, hz2, hok.id, hok.label, hok.key, hok.value, hi3, hc3, hm3, hz3, by rw [hn1]; exact hok.pfew, by rw [hn2]; exact hok.tfew, by rw [hn3]; exact hok.qfew, hok.pfit, hok.tfit⟩
end Go.Proofs.Ytpoenlhikanooaa.Top
/- Rows of paths of a call's own; the paths of a tree: bowerkit.Paths. -/
namespace Go.Proofs.Ytpoenlhikanooaa.Top
open Go.RowKit
set_option maxRecDepth 20000
set_option linter.unusedVariables false

mutual
def pathsV : Nd → List (List Int)
  | .mk _ _ _ _ _ ks => [] :: pathssV 0 ks
def pathssV (i : Nat) : List Nd → List (List Int)
  | [] => []
  | k :: r => (pathsV k).map (fun p => (i : Int) :: p) ++ pathssV (i + 1) r
end
theorem pathsV_eq (t : Nd) : pathsV t = [] :: pathssV 0 t.kids := by cases t; rfl
theorem pathssV_append : ∀ (a b : List Nd) (i : Nat), pathssV i (a ++ b) = pathssV i a ++ pathssV (i + a.length) b
  | [], b, i => by simp [pathssV]
  | k :: r, b, i => by
    rw [List.cons_append, pathssV, pathssV, pathssV_append r b (i + 1), List.append_assoc, List.length_cons, show i + 1 + r.length = i + (r.length + 1) by omega]
mutual
theorem paths_count : ∀ t : Nd, (pathsV t).length = countV t
  | .mk i l b ps x ks => by
    simp only [pathsV, countV, List.length_cons]
    rw [pathss_count 0 ks]
    omega
theorem pathss_count : ∀ (i : Nat) (l : List Nd), (pathssV i l).length = countsV l
  | i, [] => by simp [pathssV, countsV]
  | i, k :: r => by
    simp only [pathssV, countsV, List.length_append, List.length_map]
    rw [paths_count k, pathss_count (i + 1) r]
end
mutual
/-- a path of a tree is no longer than the tree has nodes -/
theorem paths_short : ∀ (t : Nd) (p : List Int), p ∈ pathsV t → p.length < countV t
  | .mk i l b ps x ks, p, h => by
    simp only [pathsV, List.mem_cons] at h
    simp only [countV]
    rcases h with rfl | h
    · simp only [List.length_nil]; omega
    · have := pathss_short 0 ks p h
      omega
theorem pathss_short : ∀ (i : Nat) (l : List Nd) (p : List Int), p ∈ pathssV i l → p.length ≤ countsV l
  | i, [], p, h => by simp [pathssV] at h
  | i, k :: r, p, h => by
    simp only [pathssV, List.mem_append, List.mem_map] at h
    simp only [countsV]
    rcases h with ⟨q, hq, rfl⟩ | h
    · have := paths_short k q hq
      simp only [List.length_cons]
      omega
    · have := pathss_short (i + 1) r p h
      omega
end
/-- the slice value v owns the rows of numbers, each a row of its own -/
structure OwnPp (base : Nat) (w : World) (v : Value) (l : List (Value × List Int)) : Prop where
  row : w.ownsRow base 22 1 v l.length (l.map (·.1))
  own : ∀ x ∈ l, P4.OwnI base w x.1 x.2
theorem OwnPp.kept {w w' : World} {base : Nat} {v : Value} {l : List (Value × List Int)} (h : OwnPp base w v l) (hk : ∀ k, base ≤ k → k < w.heap.size → w'.heap[k]? = w.heap[k]?) : OwnPp base w' v l :=
  ⟨own_kept h.row hk, fun x hx => own_kept (h.own x hx) hk⟩
theorem OwnPp.mono {w : World} {base base' : Nat} {v : Value} {l : List (Value × List Int)} (h : OwnPp base w v l) (hb : base' ≤ base) : OwnPp base' w v l :=
  ⟨own_mono h.row hb, fun x hx => own_mono (h.own x hx) hb⟩
theorem Try.infoP : (Try.prog.info? 22).map (fun i => (i.zero, i.size, i.bytes)) = some (some (.slice none 0 0), 1, 24) := by kernel_rfl
/-- a row of numbers lies apart from a row of rows -/
theorem rows_apart2 {base base' : Nat} {w w' : World} {v V : Value} {xs : List Int} {n : Nat} {vs : List Value} (h : P4.OwnI base w v xs) (hV : w.ownsRow base' 22 1 V n vs) (hg : w.grownBy w' V.ownBlock) : P4.OwnI base w' v xs := by
  refine ⟨h.1, ?_⟩
  rcases h.2 with h2 | ⟨g, cap, cur, rfl, hb, hgg, hr⟩
  · exact .inl h2
  · have hlt := (Array.getElem?_eq_some_iff.1 hgg).1
    refine .inr ⟨g, cap, cur, rfl, hb, ?_, hr⟩
    rw [hg.block g hlt ?_]
    · exact hgg
    · intro e1
      rcases hV.2 with ⟨rfl, _⟩ | ⟨g', cap', cur', rfl, hb', hg', _⟩
      · cases e1
      · have e2 : g' = g := by simpa [Value.ownBlock] using e1.symm
        subst e2
        rw [hgg] at hg'
        injection hg' with h3
        injection h3 with h4 h5 h6
        exact absurd h5 (by decide)
/-- append(v, x), v the call's own row of rows, x in a new block of its own -/
theorem wpList_append_pp {w : World} {ops : Array Oper} {rest : List Oper} {o : Oper} {a : Act} {Q : Exit → Act → World → Prop} (hgd : o.guard = none) (s x : Operand)
    (ho : o.op = .call { callee := .builtin .append, args := #[s, x], argTypes := #[49, 49] })
    (base : Nat) (v : Value) (l : List (Value × List Int)) (hs : a.eval s = v) (hown : OwnPp base w v l)
    (y : Value × List Int) (hy : P4.OwnI base w y.1 y.2) (hx : a.eval x = .slice (some ⟨w.heap.size, 0, none⟩) 1 1)
    (hlen : l.length ≤ 1000000) (hbase : base ≤ w.heap.size)
    (h : ∀ v' w', OwnPp base w' v' (l ++ [y]) → (w.alloc (.cells #[y.1] 22)).grownBy w' v.ownBlock → (∀ k, v.ownBlock = some k → base ≤ k) → (v'.ownBlock = v.ownBlock ∨ v'.ownBlock = some (w.heap.size + 1)) → wpList Try.prog ops Q rest (a.put o.dst v') w') :
    wpList Try.prog ops Q (o :: rest) a (w.alloc (.cells #[y.1] 22)) := by
  obtain ⟨i0, hi, hz0, hz1, hz2⟩ := info_parts Try.infoP
  have hown1 : OwnPp base (w.alloc (.cells #[y.1] 22)) v l := hown.kept fun k _ hk => heap_alloc_old _ _ hk
  have hy1 : P4.OwnI base (w.alloc (.cells #[y.1] 22)) y.1 y.2 := own_kept hy fun k _ hk => heap_alloc_old _ _ hk
  obtain ⟨yA, yn, yc, ey, -⟩ := P4.OwnI.shape hy
  refine wpList_append_own_at _ hgd s x _ ho base 22 i0 _ 1 24 Try.underlying49 hi hz0 hz1 hz2 rfl (by omega) v l.length (l.map (·.1)) hs hown1.row ⟨w.heap.size, 0, none⟩ 1 1 [y.1] hx rfl
      (fun j u hj => ?_) (fun u hu => ?_) (by unfold maxLen; omega) (by omega) (by rw [World.size_alloc]; omega) ?_
  · rw [add_zero_off]
    match j, hj with
    | 0, hj => injection hj with hj; rw [← hj]; exact cell_of_row _ _ 0 _ _ _ (heap_alloc_new w _)
    | j + 1, hj => simp at hj
  · simp only [List.mem_cons, List.not_mem_nil, or_false] at hu
    subst hu
    rw [ey]
    rfl
  · intro v' w' hown' hgrow _ hat
    refine h v' w' ⟨by rw [List.length_append, List.map_append]; simpa using hown', fun z hz => ?_⟩ hgrow (fun k hk => (World.ownsRow.lt hown.row k hk).1) (by rw [World.size_alloc] at hat; exact hat)
    rw [List.mem_append, List.mem_singleton] at hz
    rcases hz with hz | rfl
    · exact rows_apart2 (hown1.own z hz) hown1.row hgrow
    · exact rows_apart2 hy1 hown1.row hgrow
end Go.Proofs.Ytpoenlhikanooaa.Top
/- A Move told with the node taken out first: values. -/
namespace Go.Proofs.Ytpoenlhikanooaa
open Go.RowKit
set_option maxRecDepth 20000
set_option linter.unusedVariables false

/-- what the target has behind the taking out: the gap is there -/
theorem at_after : ∀ (from_ to_ : List Int) (t x0 y : Nd) (at_ : Nat), atV t from_ = some x0 → atV t to_ = some y → from_ ≠ [] → ¬ from_ <+: to_ → at_ ≤ y.kids.length →
    ∃ m2 y', delAt t from_ = some m2 ∧ atV m2 (progTo from_ to_ at_).1 = some y' ∧ (progTo from_ to_ at_).2 ≤ y'.kids.length
  | [], to_, t, x0, y, at_, _, _, h, _, _ => absurd rfl h
  | [ci], [], t, x0, y, at_, h1, h2, _, _, h5 => by
    obtain ⟨c, k, rfl, hk, -⟩ := atV_cons h1
    have hc : c < t.kids.length := (List.getElem?_eq_some_iff.1 hk).1
    simp only [atV, Option.some.injEq] at h2
    subst h2
    refine ⟨_, _, rfl, rfl, ?_⟩
    simp only [progTo]
    rw [with_kids]
    have hd := delK_len hc
    have e2 : (c : Int).toNat = c := by omega
    show (if (c : Int) < (at_ : Int) then at_ - 1 else at_) ≤ (delK (c : Int).toNat t.kids).length
    rw [e2]
    split <;> omega
  | fi :: g :: r, [], t, x0, y, at_, h1, h2, _, _, h5 => by
    obtain ⟨f, k, rfl, hk, hx⟩ := atV_cons h1
    simp only [atV, Option.some.injEq] at h2
    subst h2
    obtain ⟨k', hk'⟩ : ∃ k', delAt k (g :: r) = some k' := by
      have : ∀ (p : List Int) (k x0 : Nd) (g : Int), atV k (g :: p) = some x0 → ∃ k', delAt k (g :: p) = some k' := by
        intro p
        induction p with
        | nil => intro k x0 g h; exact ⟨_, rfl⟩
        | cons b p ih =>
          intro k x0 g h
          obtain ⟨j, z, rfl, hz, hw⟩ := atV_cons h
          obtain ⟨k', hk'⟩ := ih z x0 b hw
          rw [delAt_cons hz, hk']
          exact ⟨_, rfl⟩
      exact this r k x0 g hx
    refine ⟨_, _, by rw [delAt_cons hk, hk']; rfl, rfl, ?_⟩
    simp only [progTo]
    rw [with_kids, List.length_set]
    exact h5
  | [ci], ei :: s, t, x0, y, at_, h1, h2, _, h4, h5 => by
    obtain ⟨c, k, rfl, hk, -⟩ := atV_cons h1
    obtain ⟨e, ke, rfl, hke, hy⟩ := atV_cons h2
    have hc : c < t.kids.length := (List.getElem?_eq_some_iff.1 hk).1
    have he : e < t.kids.length := (List.getElem?_eq_some_iff.1 hke).1
    have hne : e ≠ c := fun h => h4 (by subst h; exact ⟨s, rfl⟩)
    have hg : (t.withKids (delK c t.kids)).kids[if c < e then e - 1 else e]? = some ke := by
      rw [with_kids, get_del hc]
      by_cases h : c < e
      · rw [if_pos h, if_neg (by omega), show e - 1 + 1 = e by omega]; exact hke
      · rw [if_neg h, if_pos (by omega)]; exact hke
    have e1 : (if (c : Int) < (e : Int) then (e : Int) - 1 else (e : Int)) = ((if c < e then e - 1 else e : Nat) : Int) := by split <;> split <;> omega
    refine ⟨_, y, rfl, ?_, ?_⟩
    · simp only [progTo]
      rw [e1]
      show atV (t.withKids (delK c t.kids)) _ = _
      rw [atV_nat hg]
      exact hy
    · simp only [progTo]
      exact h5
  | fi :: g :: r, ei :: s, t, x0, y, at_, h1, h2, _, h4, h5 => by
    obtain ⟨f, k, rfl, hk, hx⟩ := atV_cons h1
    obtain ⟨e, ke, rfl, hke, hy⟩ := atV_cons h2
    have hf : f < t.kids.length := (List.getElem?_eq_some_iff.1 hk).1
    have he : e < t.kids.length := (List.getElem?_eq_some_iff.1 hke).1
    by_cases hfe : f = e
    · subst hfe
      rw [hk] at hke
      injection hke with hke
      subst hke
      obtain ⟨m2, y', i1, i2, i3⟩ := at_after (g :: r) s k x0 y at_ hx hy (by simp) (fun h => h4 (by obtain ⟨z, hz⟩ := h; exact ⟨z, by rw [List.cons_append, hz]⟩)) h5
      have g2 : (t.withKids (t.kids.set f m2)).kids[f]? = some m2 := by rw [with_kids, List.getElem?_set_self hf]
      refine ⟨t.withKids (t.kids.set f m2), y', by rw [delAt_cons hk, i1]; rfl, ?_, ?_⟩
      · simp only [progTo, if_true]
        rw [atV_nat g2]
        exact i2
      · simp only [progTo, if_true]
        exact i3
    · obtain ⟨k', hk'⟩ : ∃ k', delAt k (g :: r) = some k' := by
        have : ∀ (p : List Int) (k x0 : Nd) (g : Int), atV k (g :: p) = some x0 → ∃ k', delAt k (g :: p) = some k' := by
          intro p
          induction p with
          | nil => intro k x0 g h; exact ⟨_, rfl⟩
          | cons b p ih =>
            intro k x0 g h
            obtain ⟨j, z, rfl, hz, hw⟩ := atV_cons h
            obtain ⟨k', hk'⟩ := ih z x0 b hw
            rw [delAt_cons hz, hk']
            exact ⟨_, rfl⟩
        exact this r k x0 g hx
      have g2 : (t.withKids (t.kids.set f k')).kids[e]? = some ke := by rw [with_kids, List.getElem?_set_ne hfe]; exact hke
      refine ⟨t.withKids (t.kids.set f k'), y, by rw [delAt_cons hk, hk']; rfl, ?_, ?_⟩
      · simp only [progTo]
        rw [if_neg (by omega), atV_nat g2]
        exact hy
      · simp only [progTo]
        rw [if_neg (by omega)]
        exact h5
theorem progTo_same : ∀ (q : List Int) (c : Int) (g : Nat), progTo (q ++ [c]) q g = (q, if c < (g : Int) then g - 1 else g)
  | [], c, g => rfl
  | [a], c, g => by simp [progTo]
  | a :: b :: r, c, g => by
    have ih := progTo_same (b :: r) c g
    rw [show (a :: b :: r) ++ [c] = a :: b :: (r ++ [c]) from rfl]
    simp only [progTo, if_true]
    rw [show b :: (r ++ [c]) = (b :: r) ++ [c] from rfl, ih]
theorem progTo_in : ∀ (q : List Int) (c e : Int) (s : List Int) (g : Nat), progTo (q ++ [c]) (q ++ e :: s) g = (q ++ (if c < e then e - 1 else e) :: s, g)
  | [], c, e, s, g => rfl
  | [a], c, e, s, g => by simp [progTo]
  | a :: b :: r, c, e, s, g => by
    have ih := progTo_in (b :: r) c e s g
    rw [show (a :: b :: r) ++ [c] = a :: b :: (r ++ [c]) from rfl, show (a :: b :: r) ++ e :: s = a :: b :: (r ++ e :: s) from rfl]
    simp only [progTo, if_true]
    rw [show b :: (r ++ [c]) = (b :: r) ++ [c] from rfl, show b :: (r ++ e :: s) = (b :: r) ++ e :: s from rfl, ih]
    rfl
theorem progTo_out : ∀ (q : List Int) (c : Int) (to_ : List Int) (g : Nat), ¬ q <+: to_ → progTo (q ++ [c]) to_ g = (to_, g)
  | [], c, to_, g, h => absurd (List.nil_prefix) h
  | [a], c, [], g, h => rfl
  | a :: b :: r, c, [], g, h => rfl
  | [a], c, e :: s, g, h => by
    have hne : a ≠ e := fun he => h (by subst he; exact ⟨s, rfl⟩)
    show progTo [a, c] (e :: s) g = _
    simp only [progTo]
    rw [if_neg hne]
  | a :: b :: r, c, e :: s, g, h => by
    rw [show (a :: b :: r) ++ [c] = a :: b :: (r ++ [c]) from rfl]
    simp only [progTo]
    by_cases he : a = e
    · subst he
      have hn : ¬ (b :: r) <+: s := fun h2 => h (by obtain ⟨z, hz⟩ := h2; exact ⟨z, by rw [List.cons_append, hz]⟩)
      have ih := progTo_out (b :: r) c s g hn
      rw [if_pos rfl, show b :: (r ++ [c]) = (b :: r) ++ [c] from rfl, ih]
    · rw [if_neg he]
theorem common_pre : ∀ (p q : List Int), P4.commonV p q = p.length ↔ p <+: q
  | [], q => by simp [P4.commonV]
  | a :: p, [] => by simp [P4.commonV]
  | a :: p, b :: q => by
    have ih := common_pre p q
    unfold P4.commonV
    by_cases h : a = b
    · subst h
      simp only [if_true, List.length_cons, List.cons_prefix_cons, true_and]
      constructor
      · intro h; exact ih.1 (by omega)
      · intro h; have := ih.2 h; omega
    · simp [h]
theorem within_pre (p q : List Int) : P4.withinV p q = decide (p <+: q) := by
  unfold P4.withinV
  exact decide_eq_decide.2 (common_pre p q)
end Go.Proofs.Ytpoenlhikanooaa
/- Where nodes and gaps are behind an operation: by value. -/
namespace Go.Proofs.Ytpoenlhikanooaa.Shf
open Go.RowKit
set_option maxRecDepth 20000
set_option linter.unusedVariables false

/-- what an operation does to the numbers of nodes -/
structure Ch where
  takes : Bool
  from_ : List Int
  child : Int
  puts : Bool
  to_ : List Int
  gap : Int
def noCh : Ch := ⟨false, [], 0, false, [], 0⟩
def chV (o : Ov) : Ch :=
  if formedV o = true then
    (if o.kind = 1 then ⟨false, [], 0, true, o.path, o.at_⟩
    else if o.kind = 2 then (if o.path = [] then noCh else ⟨true, o.path.dropLast, o.path.getLastD 0, false, [], 0⟩)
    else if o.kind = 3 then (if P4.withinV o.path o.to_ = true then noCh else ⟨true, o.path.dropLast, o.path.getLastD 0, true, o.to_, o.at_⟩)
    else noCh)
  else noCh
/-- is a child the one that is taken out? -/
def hitV (c : Ch) (over : List Int) (k : Int) : Bool := c.takes && ((k == c.child) && P4.eqV over c.from_)
/-- the number that a child has behind it, is it not the one that is taken out -/
def lessV (c : Ch) (over : List Int) (k : Int) : Int := if c.takes && (decide (k > c.child) && P4.eqV over c.from_) then IntKind.i64.wrap (k - 1) else k
def numV (c : Ch) (over : List Int) (k : Int) : Int :=
  if c.puts && (decide (k ≥ c.gap) && P4.eqV over c.to_) then IntKind.i64.wrap (lessV c over k + 1) else lessV c over k
/-- the way along a path that is told from its end, where nothing of it is taken out -/
def plainR (c : Ch) : List Int → List Int
  | [] => []
  | k :: r => plainR c r ++ [numV c r.reverse k]
def toV (c : Ch) : List Int := plainR c c.to_.reverse
/-- is nothing of a path taken out? -/
def Clear (c : Ch) (p : List Int) : Prop := ∀ q k r, p = q ++ k :: r → hitV c q k = false

theorem Clear.init {c : Ch} {q : List Int} {k : Int} (h : Clear c (q ++ [k])) : Clear c q := fun a b r e => h a b (r ++ [k]) (by rw [e]; simp)
theorem Clear.last {c : Ch} {q : List Int} {k : Int} (h : Clear c (q ++ [k])) : hitV c q k = false := h q k [] rfl
theorem Clear.nil (c : Ch) : Clear c [] := fun q k r e => by simp at e
theorem snoc_cases (p : List Int) : p = [] ∨ ∃ q k, p = q ++ [k] := by
  rcases List.eq_nil_or_concat p with h | ⟨q, k, h⟩
  · exact .inl h
  · exact .inr ⟨q, k, by rw [h]; simp⟩
/-- of a change that is an operation's, the one to which a child is moved is not within that child -/
theorem ch_clear (o : Ov) : Clear (chV o) (chV o).to_ := by
  unfold chV
  split
  · split
    · exact fun q k r e => rfl
    · split
      · split
        · exact Clear.nil _
        · exact Clear.nil _
      · split
        · split
          · exact Clear.nil _
          · rename_i h3 hw
            intro q k r e
            show (true && ((k == o.path.getLastD 0) && P4.eqV q o.path.dropLast)) = false
            cases h : ((k == o.path.getLastD 0) && P4.eqV q o.path.dropLast) with
            | false => rfl
            | true =>
              rw [Bool.and_eq_true] at h
              have h1 := beq_iff_eq.1 h.1
              have h2 : q = o.path.dropLast := of_decide_eq_true h.2
              exfalso
              apply hw
              have e' : o.to_ = q ++ k :: r := e
              rcases snoc_cases o.path with hp | ⟨a, b, hp⟩
              · rw [hp]
                unfold P4.withinV
                exact decide_eq_true (by cases o.to_ <;> rfl)
              · rw [hp, List.getLastD_concat] at h1
                rw [hp, List.dropLast_concat] at h2
                subst h1 h2
                rw [within_pre, hp, e']
                exact decide_eq_true ⟨r, by simp⟩
        · exact Clear.nil _
  · exact Clear.nil _
theorem ch_one {o : Ov} (hf : formedV o = true) (h : o.kind = 1) : chV o = ⟨false, [], 0, true, o.path, o.at_⟩ := by unfold chV; rw [if_pos hf, if_pos h]
theorem ch_two {o : Ov} {q : List Int} {d : Int} (hf : formedV o = true) (h : o.kind = 2) (hp : o.path = q ++ [d]) : chV o = ⟨true, q, d, false, [], 0⟩ := by
  unfold chV
  rw [if_pos hf, if_neg (by omega), if_pos h, if_neg (by rw [hp]; simp), hp, List.dropLast_concat, List.getLastD_concat]
theorem ch_three {o : Ov} {q : List Int} {d : Int} (hf : formedV o = true) (h : o.kind = 3) (hp : o.path = q ++ [d]) (hw : P4.withinV o.path o.to_ = false) : chV o = ⟨true, q, d, true, o.to_, o.at_⟩ := by
  unfold chV
  rw [if_pos hf, if_neg (by omega), if_neg (by omega), if_pos h, if_neg (by rw [hw]; simp), hp, List.dropLast_concat, List.getLastD_concat]
end Go.Proofs.Ytpoenlhikanooaa.Shf
/- What a Move asks of paths: a parent that is there, a shift by one less. -/
namespace Go.Proofs.Ytpoenlhikanooaa.Top
open Go.RowKit
set_option maxRecDepth 20000
set_option linter.unusedVariables false

theorem parent_c (w : World) (pA : Option Addr) (pn pc : Nat) (q : List Int) (c : Int) (hp : Its w pA pn (q ++ [c])) (hpnil : pA = none → pc = 0) (hpn : pn ≤ 500000) (hpnc : pn ≤ pc) (hpcm : pc ≤ maxLen) :
    Calls Try.prog 97 #[.slice pA pn pc] w fun e w' => ∃ qA qn qc, e = .returned (.tuple #[.slice qA qn qc, .int .i64 c, .bool true]) ∧ Its w' qA qn q ∧ qn ≤ qc ∧ qc ≤ maxLen ∧ (qA = none → qc = 0) ∧ Below w.heap.size w w' := by
  refine (P4.parent_any w pA pn pc (q ++ [c]) hp hpnil hpn hpnc hpcm).mono ?_
  rintro e w' hpr
  rcases hpr with ⟨h0, -⟩ | ⟨v, ys, z, hyz, rfl, hown, hb0⟩
  · exact absurd h0 (by simp)
  · have h1 := congrArg List.reverse hyz
    simp only [List.reverse_append, List.reverse_cons, List.reverse_nil, List.nil_append, List.singleton_append, List.cons.injEq] at h1
    obtain ⟨rfl, h2⟩ := h1
    have h3 : q = ys := List.reverse_inj.1 h2
    subst h3
    obtain ⟨A, n, k, rfl, hn, hnk, hkm, hits, hnil⟩ := hown.shape
    exact ⟨A, n, k, rfl, hits, hnk, hkm, hnil, hb0⟩
/-- the shift by one less at a place -/
def m1 : Nat := 13830554455654793216
def shOk : Bool := (List.range 64).all fun k => P4.fineS m1 (P4.fOf (k : Int)) && decide (P4.partsV m1 (P4.fOf (k : Int)) = some ((k : Int), -1))
theorem shOk_yes : shOk = true := by kernel_rfl
theorem sh_at {k : Nat} (hk : k ≤ 63) : P4.fineS m1 (P4.fOf (k : Int)) = true ∧ P4.partsV m1 (P4.fOf (k : Int)) = some ((k : Int), -1) := by
  have h := List.all_eq_true.1 shOk_yes k (List.mem_range.2 (by omega))
  rw [Bool.and_eq_true] at h
  exact ⟨h.1, of_decide_eq_true h.2⟩
theorem shift_less (w : World) (A : Option Addr) (n c : Nat) (q s : List Int) (e : Int) (hA : Its w A n (q ++ e :: s)) (hnil : A = none → c = 0) (hm : P4.mayV (q ++ e :: s) = true) (he : 0 < e) (k : Nat) (hk : q.length = k) :
    Calls Try.prog 147 #[.slice A n c, .complex .f64 m1 (P4.fOf (k : Int))] w fun r w' => ∃ A' n' c', r = .returned (.tuple #[.slice A' n' c', .int .i64 0]) ∧ Its w' A' n' (q ++ (e - 1) :: s) ∧ n' ≤ c' ∧ c' ≤ maxLen ∧ Below w.heap.size w w' := by
  subst hk
  have hmm := of_decide_eq_true hm
  have hl : (q ++ e :: s).length = q.length + s.length + 1 := by simp; omega
  obtain ⟨f1, f2⟩ := sh_at (k := q.length) (by omega)
  have hs : P4.shiftV (q ++ e :: s) m1 (P4.fOf (q.length : Int)) = (0, q ++ (e - 1) :: s) := by
    unfold P4.shiftV
    rw [f2]
    have e1 : (q ++ e :: s).getD ((q.length : Int).toNat) 0 = e := by
      rw [List.getD_eq_getElem?_getD, Int.toNat_natCast, List.getElem?_append_right (Nat.le_refl _), Nat.sub_self]
      rfl
    have e2 : P4.stands (e + -1) = true := decide_eq_true ⟨by omega, by have := (hmm.2 e (by simp)).2; omega⟩
    simp only [hm, Bool.true_and]
    rw [if_pos (decide_eq_true (by rw [Int.toNat_natCast]; omega)), e1, if_pos e2, Int.toNat_natCast]
    congr 1
    rw [List.set_append_right _ _ (Nat.le_refl _), Nat.sub_self]
    rfl
  refine (P4.shift_any w A n c _ (its4 hA) hnil (by have := hA.1; omega) m1 _ f1).mono ?_
  rw [hs]
  rintro r w' ⟨v, rfl, hown, hb⟩
  obtain ⟨A', n', c', rfl, hn, hnc, hcm, hits, -⟩ := hown.shape
  exact ⟨A', n', c', rfl, hits, hnc, hcm, hb⟩
end Go.Proofs.Ytpoenlhikanooaa.Top
/- Attributes behind a SetAttr: values. -/
namespace Go.Proofs.Ytpoenlhikanooaa
open Go.RowKit
set_option maxRecDepth 20000
set_option linter.unusedVariables false

theorem u8_tri (a b : UInt8) : a < b ∨ a = b ∨ b < a := by
  rcases Nat.lt_trichotomy a.toNat b.toNat with h | h | h
  · exact .inl (UInt8.lt_iff_toNat_lt.2 h)
  · exact .inr (.inl (UInt8.toNat_inj.1 h))
  · exact .inr (.inr (UInt8.lt_iff_toNat_lt.2 h))
theorem less_cons (a b : UInt8) (x y : List UInt8) : Op.bytesLess (a :: x) (b :: y) = true ↔ a < b ∨ (a = b ∧ Op.bytesLess x y = true) := by
  simp [Op.bytesLess]
theorem less_self : ∀ a : Txt, Op.bytesLess a a = false
  | [] => rfl
  | x :: a => by
    cases h : Op.bytesLess (x :: a) (x :: a) with
    | false => rfl
    | true =>
      rcases (less_cons _ _ _ _).1 h with h | h
      · exact absurd (UInt8.lt_iff_toNat_lt.1 h) (by omega)
      · rw [less_self a] at h
        cases h.2
theorem less_trans : ∀ a b c : Txt, Op.bytesLess a b = true → Op.bytesLess b c = true → Op.bytesLess a c = true
  | _, [], c, h1, _ => by simp [Op.bytesLess] at h1
  | a, y :: b, [], _, h2 => by simp [Op.bytesLess] at h2
  | [], y :: b, z :: c, _, _ => by simp [Op.bytesLess]
  | x :: a, y :: b, z :: c, h1, h2 => by
    rw [less_cons] at h1 h2 ⊢
    rcases h1 with h1 | h1
    · rcases h2 with h2 | h2
      · exact .inl (UInt8.lt_iff_toNat_lt.2 (Nat.lt_trans (UInt8.lt_iff_toNat_lt.1 h1) (UInt8.lt_iff_toNat_lt.1 h2)))
      · rw [← h2.1]; exact .inl h1
    · rcases h2 with h2 | h2
      · rw [h1.1]; exact .inl h2
      · exact .inr ⟨h1.1.trans h2.1, less_trans a b c h1.2 h2.2⟩
theorem less_tri : ∀ a b : Txt, Op.bytesLess a b = true ∨ a = b ∨ Op.bytesLess b a = true
  | [], [] => .inr (.inl rfl)
  | [], y :: b => .inl (by simp [Op.bytesLess])
  | x :: a, [] => .inr (.inr (by simp [Op.bytesLess]))
  | x :: a, y :: b => by
    rw [less_cons, less_cons]
    rcases u8_tri x y with h | h | h
    · exact .inl (.inl h)
    · subst h
      rcases less_tri a b with h | h | h
      · exact .inl (.inr ⟨rfl, h⟩)
      · exact .inr (.inl (by rw [h]))
      · exact .inr (.inr (.inr ⟨rfl, h⟩))
    · exact .inr (.inr (.inl h))
theorem lt_iff (a b : Txt) : ltB a b = true ↔ Op.bytesLess a b = true := by
  unfold ltB
  simp only [Bool.not_eq_true', Bool.or_eq_false_iff, beq_eq_false_iff_ne]
  constructor
  · intro h
    rcases less_tri a b with h2 | h2 | h2
    · exact h2
    · exact absurd h2.symm h.2
    · rw [h2] at h; cases h.1
  · intro h
    constructor
    · cases h2 : Op.bytesLess b a with
      | false => rfl
      | true => have := less_trans a b a h h2; rw [less_self] at this; cases this
    · intro e; subst e; rw [less_self] at h; cases h
theorem lt_on {a b c : Txt} (h1 : ltB a b = true) (h2 : ltB b c = true) : ltB a c = true := (lt_iff _ _).2 (less_trans _ _ _ ((lt_iff _ _).1 h1) ((lt_iff _ _).1 h2))
theorem not_less {a k : Txt} (h : Op.bytesLess a k = false) : a = k ∨ ltB k a = true := by
  rcases less_tri a k with h2 | h2 | h2
  · rw [h] at h2; cases h2
  · exact .inl h2
  · exact .inr ((lt_iff _ _).2 h2)
/-- how many keys are less than one -/
def placeP (k : Txt) (l : List (Txt × Txt)) : Nat := l.countP fun a => Op.bytesLess a.1 k
/-- the program's way -/
def progA (k v : Txt) (gone : Bool) (l : List (Txt × Txt)) : List (Txt × Txt) :=
  l.take (placeP k l) ++ ((if gone then [] else [(k, v)]) ++ (if (l[placeP k l]?).map (·.1) = some k then l.drop (placeP k l + 1) else l.drop (placeP k l)))
/-- the document's way -/
def docA (k v : Txt) : List (Txt × Txt) → Bool → List (Txt × Txt)
  | [], d => if d then [] else [(k, v)]
  | a :: r, d => (if !d && !Op.bytesLess a.1 k then [(k, v)] else []) ++ ((if a.1 = k then [] else [a]) ++ docA k v r (d || !Op.bytesLess a.1 k))
theorem ok_cons {last : Txt} {a : Txt × Txt} {r : List (Txt × Txt)} : attrsOk ltB last (a :: r) = true ↔ keyB a.1 = true ∧ ltB last a.1 = true ∧ a.2.length ≤ 256 ∧ attrsOk ltB a.1 r = true := by
  simp [attrsOk, and_assoc]
theorem ok_over : ∀ (r : List (Txt × Txt)) (last : Txt), attrsOk ltB last r = true → ∀ b ∈ r, ltB last b.1 = true
  | [], last, _, b, hb => by cases hb
  | a :: r, last, h, b, hb => by
    obtain ⟨-, h2, -, h4⟩ := ok_cons.1 h
    cases hb with
    | head => exact h2
    | tail _ hb => exact lt_on h2 (ok_over r a.1 h4 b hb)
theorem over_place (k : Txt) (r : List (Txt × Txt)) (h : ∀ b ∈ r, ltB k b.1 = true) : placeP k r = 0 := by
  unfold placeP
  rw [List.countP_eq_zero]
  intro b hb
  have h2 := (lt_iff _ _).1 (h b hb)
  cases h3 : Op.bytesLess b.1 k with
  | false => decide
  | true => have := less_trans _ _ _ h2 h3; rw [less_self] at this; cases this
theorem over_doc (k v : Txt) : ∀ (r : List (Txt × Txt)), (∀ b ∈ r, ltB k b.1 = true) → docA k v r true = r
  | [], _ => rfl
  | a :: r, h => by
    have h1 : a.1 ≠ k := fun e => by have := (lt_iff _ _).1 (h a (by simp)); rw [e, less_self] at this; cases this
    show (if !true && _ then _ else _) ++ _ = _
    rw [if_neg (by simp), if_neg h1]
    show [a] ++ docA k v r (true || _) = _
    rw [Bool.true_or, over_doc k v r fun b hb => h b (by simp [hb])]
    rfl
theorem attr_both (k v : Txt) (gone : Bool) : ∀ (l : List (Txt × Txt)) (last : Txt), attrsOk ltB last l = true → progA k v gone l = docA k v l gone
  | [], last, _ => by cases gone <;> rfl
  | a :: r, last, h => by
    obtain ⟨h1, h2, h3, h4⟩ := ok_cons.1 h
    cases hl : Op.bytesLess a.1 k with
    | true =>
      have ih := attr_both k v gone r a.1 h4
      have hp : placeP k (a :: r) = placeP k r + 1 := by unfold placeP; rw [List.countP_cons, if_pos hl]
      have hne : a.1 ≠ k := fun e => by rw [e, less_self] at hl; cases hl
      unfold progA at ih ⊢
      rw [hp, List.take_succ_cons, List.getElem?_cons_succ, List.drop_succ_cons, List.drop_succ_cons, List.cons_append, ih]
      show _ = (if !gone && !Op.bytesLess a.1 k then _ else _) ++ _
      rw [hl, if_neg (by simp), if_neg hne]
      simp
    | false =>
      have hov : ∀ b ∈ r, ltB k b.1 = true := fun b hb => by
        have h5 := ok_over r a.1 h4 b hb
        rcases not_less hl with e | e
        · rw [← e]; exact h5
        · exact lt_on e h5
      have hp : placeP k (a :: r) = 0 := by
        have := over_place k r hov
        unfold placeP at this ⊢
        rw [List.countP_cons, this, if_neg (by rw [hl]; decide)]
      unfold progA
      rw [hp]
      show [] ++ (_ ++ if (some a.1 : Option Txt) = some k then r else a :: r) = (if !gone && !Op.bytesLess a.1 k then _ else _) ++ ((if a.1 = k then [] else [a]) ++ docA k v r (gone || !Op.bytesLess a.1 k))
      rw [hl]
      have hd : (gone || !false) = true := by cases gone <;> rfl
      rw [hd, over_doc k v r hov]
      by_cases e : a.1 = k
      · have e3 : (some a.1 : Option Txt) = some k := by rw [e]
        rw [if_pos e, if_pos e3]
        cases gone <;> rfl
      · have e3 : ¬ (some a.1 : Option Txt) = some k := fun h => e (Option.some.inj h)
        rw [if_neg e, if_neg e3]
        cases gone <;> rfl
theorem doc_weigh (k v : Txt) : ∀ (l : List (Txt × Txt)) (gone : Bool), attrsW (docA k v l gone) ≤ attrsW l + (if gone then 0 else 1 + k.length + v.length)
  | [], gone => by cases gone <;> simp [docA, attrsW]
  | a :: r, gone => by
    have ih := doc_weigh k v r (gone || !Op.bytesLess a.1 k)
    show attrsW (_ ++ (_ ++ _)) ≤ _
    rw [attrsW_append, attrsW_append]
    have e1 : attrsW (if a.1 = k then [] else [a]) ≤ 1 + a.1.length + a.2.length := by split <;> simp [attrsW]
    have e2 : attrsW (a :: r) = 1 + a.1.length + a.2.length + attrsW r := by simp [attrsW]
    cases gone with
    | true =>
      simp only [Bool.not_true, Bool.false_and, Bool.true_or, if_true] at ih ⊢
      simp only [attrsW] at *
      simp only [Bool.false_eq_true, if_false, attrsW]
      omega
    | false =>
      cases hl : Op.bytesLess a.1 k with
      | true =>
        rw [hl] at ih
        simp only [Bool.not_true, Bool.and_false, Bool.or_false, Bool.false_eq_true, if_false, attrsW] at ih ⊢
        omega
      | false =>
        rw [hl] at ih
        simp only [Bool.not_false, Bool.and_true, Bool.false_or, if_true, Bool.false_eq_true, if_false, attrsW] at ih ⊢
        omega
end Go.Proofs.Ytpoenlhikanooaa
/- Which operations are idle: by value; the program's Idle. -/
namespace Go.Proofs.Ytpoenlhikanooaa.Sim
open Go.RowKit Top
set_option maxRecDepth 20000
set_option linter.unusedVariables false

/-- does a Move leave its node where it is? -/
def staysV (o : Ov) : Bool := decide (o.path ≠ [] ∧ o.path.dropLast = o.to_ ∧ (o.at_ = o.path.getLastD 0 ∨ o.at_ = o.path.getLastD 0 + 1))
theorem stays_at {o : Ov} {q : List Int} {c : Int} (h : o.path = q ++ [c]) : staysV o = (P4.eqV q o.to_ && ((o.at_ == c) || (o.at_ == c + 1))) := by
  unfold staysV P4.eqV
  rw [h]
  simp [Bool.decide_and, Bool.decide_or]
  rfl
theorem path_end {p : List Int} (h : p ≠ []) (hm : P4.mayV p = true) : ∃ q, ∃ c : Nat, p = q ++ [(c : Int)] := by
  obtain ⟨q, c, rfl⟩ : ∃ q c, p = q ++ [c] := ⟨p.dropLast, p.getLast h, (List.dropLast_concat_getLast h).symm⟩
  have := (of_decide_eq_true hm).2 c (by simp)
  exact ⟨q, c.toNat, by rw [Int.toNat_of_nonneg this.1]⟩
end Go.Proofs.Ytpoenlhikanooaa.Sim
/- The program's Idle, whole. -/
namespace Go.Proofs.Ytpoenlhikanooaa.Sim
open Go.RowKit Top
set_option maxRecDepth 20000
set_option linter.unusedVariables false

theorem formed_may {o : Ov} (h : formedV o = true) : P4.mayV o.path = true := by
  unfold formedV at h
  rw [Bool.and_eq_true] at h
  exact h.1
end Go.Proofs.Ytpoenlhikanooaa.Sim
