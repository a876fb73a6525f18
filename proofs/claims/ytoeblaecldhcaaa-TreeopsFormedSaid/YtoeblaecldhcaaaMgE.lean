/- MgE: TopB TopH TopI TopK -/
import Derived.Test.YtoeblaecldhcaaaMgD
import Derived.Deep.RegionWith
import Derived.Deep.RegionLaw
import Derived.Deep.RegionHeld3
import Derived.Test.YtoeblaecldhcaaaMgB
/- What is wrong with an operation on a right tree: the program's fault. -/
namespace Go.Proofs.Ytoeblaecldhcaaa.Top
open Go.RowKit
set_option maxRecDepth 20000
set_option linter.unusedVariables false

theorem its4 {w : World} {A : Option Addr} {n : Nat} {xs : List Int} (h : Its w A n xs) : P4.Its w A n xs := h
theorem wp_scope_once {P : Program} {a : Act} {w : World} {Q : Exit → Act → World → Prop} {c rest : Code} (l : Nat) (hf : findLabel c l = some rest)
    (first : c.wp P (Exit.jump l (fun a' w' => rest.wp P (Exit.jump l (fun _ _ => False) Q) a' w') Q) a w) : (Code.scope c).wp P Q a w :=
  wp_scope_jumps l (fun a' w' => rest.wp P (Exit.jump l (fun _ _ => False) Q) a' w') (fun _ _ => 0) hf first fun a w h => Code.wp_mono (fun e a w hq => by
    cases e <;> first | exact hq | exact absurd hq.2 id) h
/-- four boxes: the tree, the operation, two nodes -/
structure Four (w : World) (v2 v3 v5 v6 : Array Value) (W : World) : Prop where
  rn : W.heap[w.heap.size]? = some (.cells v2 33 (0, 0))
  ro : W.heap[w.heap.size + 1]? = some (.cells v3 26 (0, 0))
  r5 : W.heap[w.heap.size + 1 + 1]? = some (.cells v5 33 (0, 0))
  r6 : W.heap[w.heap.size + 1 + 1 + 1]? = some (.cells v6 33 (0, 0))
  bel : Below w.heap.size w W
section
variable {w W W' : World} {v2 v3 v5 v6 : Array Value}
theorem Four.below (h : Four w v2 v3 v5 v6 W) (hb : Below W.heap.size W W') : Four w v2 v3 v5 v6 W' :=
  ⟨(hb.block _ (Array.getElem?_eq_some_iff.1 h.rn).1).trans h.rn, (hb.block _ (Array.getElem?_eq_some_iff.1 h.ro).1).trans h.ro, (hb.block _ (Array.getElem?_eq_some_iff.1 h.r5).1).trans h.r5, (hb.block _ (Array.getElem?_eq_some_iff.1 h.r6).1).trans h.r6, h.bel.trans (hb.mono h.bel.size)⟩
theorem Four.drew (h : Four w v2 v3 v5 v6 W) {k : Nat} (e : W' = W.drewN k) : Four w v2 v3 v5 v6 W' := by
  subst e
  exact h.below (draws (Below.refl _ _) k)
theorem Four.start (w : World) (v2 v3 v5 v6 : Array Value) :
    Four w v2 v3 v5 v6 ((((w.alloc (.cells v2 33)).alloc (.cells v3 26)).alloc (.cells v5 33)).alloc (.cells v6 33)) := by
  have h1 := heap_alloc_new w (.cells v2 33)
  have h2 := heap_alloc_new (w.alloc (.cells v2 33)) (.cells v3 26)
  have h3 := heap_alloc_new ((w.alloc (.cells v2 33)).alloc (.cells v3 26)) (.cells v5 33)
  have h4 := heap_alloc_new (((w.alloc (.cells v2 33)).alloc (.cells v3 26)).alloc (.cells v5 33)) (.cells v6 33)
  rw [World.size_alloc] at h2
  rw [World.size_alloc, World.size_alloc] at h3
  rw [World.size_alloc, World.size_alloc, World.size_alloc] at h4
  refine ⟨(Go.heap_alloc_old _ _ (by simp <;> omega)).trans ((Go.heap_alloc_old _ _ (by simp <;> omega)).trans ((Go.heap_alloc_old _ _ (by simp)).trans h1)), (Go.heap_alloc_old _ _ (by simp <;> omega)).trans ((Go.heap_alloc_old _ _ (by simp)).trans h2), (Go.heap_alloc_old _ _ (by simp)).trans h3, h4,
    ((((Below.refl _ _).alloc (Nat.le_refl _) _).alloc (by simp) _).alloc (by simp <;> omega) _).alloc (by simp <;> omega) _⟩
theorem Four.set5 {a0 a1 a2 a3 a4 a5 : Value} (h : Four w v2 v3 #[a0, a1, a2, a3, a4, a5] v6 W) (b0 b1 b2 b3 b4 b5 : Value) : Four w v2 v3 #[b0, b1, b2, b3, b4, b5] v6
    ((((((W.setCell ⟨w.heap.size + 1 + 1, 0, none⟩ b0).setCell ⟨w.heap.size + 1 + 1, 1, none⟩ b1).setCell ⟨w.heap.size + 1 + 1, 2, none⟩ b2).setCell ⟨w.heap.size + 1 + 1, 3, none⟩ b3).setCell ⟨w.heap.size + 1 + 1, 4, none⟩ b4).setCell ⟨w.heap.size + 1 + 1, 5, none⟩ b5) :=
  ⟨(set_six_other (by omega)).trans h.rn, (set_six_other (by omega)).trans h.ro, set_six h.r5, (set_six_other (by omega)).trans h.r6, below_six h.bel (by omega)⟩
theorem Four.set6 {a0 a1 a2 a3 a4 a5 : Value} (h : Four w v2 v3 v5 #[a0, a1, a2, a3, a4, a5] W) (b0 b1 b2 b3 b4 b5 : Value) : Four w v2 v3 v5 #[b0, b1, b2, b3, b4, b5]
    ((((((W.setCell ⟨w.heap.size + 1 + 1 + 1, 0, none⟩ b0).setCell ⟨w.heap.size + 1 + 1 + 1, 1, none⟩ b1).setCell ⟨w.heap.size + 1 + 1 + 1, 2, none⟩ b2).setCell ⟨w.heap.size + 1 + 1 + 1, 3, none⟩ b3).setCell ⟨w.heap.size + 1 + 1 + 1, 4, none⟩ b4).setCell ⟨w.heap.size + 1 + 1 + 1, 5, none⟩ b5) :=
  ⟨(set_six_other (by omega)).trans h.rn, (set_six_other (by omega)).trans h.ro, (set_six_other (by omega)).trans h.r5, set_six h.r6, below_six h.bel (by omega)⟩
end
theorem op_cells {W : World} {b : Nat} {o : Ov} {s : OS} (h : W.heap[b]? = some (.cells (opCells o s) 26 (0, 0))) : W.cell? ⟨b, 0, none⟩ = some (.int .u8 (o.kind : Int)) ∧ W.cell? ⟨b, 1, none⟩ = some (.slice s.pA s.pn s.pc) ∧ W.cell? ⟨b, 2, none⟩ = some (.int .i64 o.at_) ∧ W.cell? ⟨b, 3, none⟩ = some (.slice s.tA s.tn s.tc) ∧ W.cell? ⟨b, 4, none⟩ = some (.int .u64 (o.id : Int)) ∧
    W.cell? ⟨b, 5, none⟩ = some (.bool o.leaf) ∧ W.cell? ⟨b, 6, none⟩ = some (.string ⟨o.label.toArray⟩) ∧ W.cell? ⟨b, 7, none⟩ = some (.string ⟨o.key.toArray⟩) ∧ W.cell? ⟨b, 8, none⟩ = some (.string ⟨o.value.toArray⟩) ∧ W.cell? ⟨b, 9, none⟩ = some (.bool o.gone) ∧ W.cell? ⟨b, 10, none⟩ = some (.slice s.qA s.qn s.qc) := by
  unfold opCells at h
  exact ⟨cell_of_row W b 0 _ _ _ h, cell_of_row W b 1 _ _ _ h, cell_of_row W b 2 _ _ _ h, cell_of_row W b 3 _ _ _ h, cell_of_row W b 4 _ _ _ h, cell_of_row W b 5 _ _ _ h, cell_of_row W b 6 _ _ _ h, cell_of_row W b 7 _ _ _ h, cell_of_row W b 8 _ _ _ h, cell_of_row W b 9 _ _ _ h, cell_of_row W b 10 _ _ _ h⟩
set_option maxHeartbeats 8000000 in
theorem fault_c0 (w : World) (t : Nd) (aA kA : Option Addr) (an ac kn kc : Nat) (o : Ov) (s : OS) (h : NodeV (Old w) w aA an ac kA kn kc t) (ho : OpIn w o s) (hbig : weighV t ≤ 1000000) (hf : formedV o = false) :
    Calls Try.prog 47 #[.agg (val6 t aA an ac kA kn kc), .agg (opCells o s)] w fun e w' => e = .returned (.int .i64 (80)) ∧ Below w.heap.size w w' := by
  obtain ⟨v2, hv2⟩ : ∃ v2, v2 = val6 t aA an ac kA kn kc := ⟨_, rfl⟩
  obtain ⟨v3, hv3⟩ : ∃ v3, v3 = opCells o s := ⟨_, rfl⟩
  have hF1 := Lib.hid (Four.start w (val6 t aA an ac kA kn kc) (opCells o s) zero6 zero6)
  have hn := Lib.hid (fun W (hb : Below w.heap.size w W) => h.below hb)
  have hop := Lib.hid (fun W (hb : Below w.heap.size w W) => ho.below hb)
  have ho' := Lib.hid ho
  have hbig' := Lib.hid hbig
  have hpm := Nat.le_trans ho.pnc ho.pcm
  have htm := Nat.le_trans ho.tnc ho.tcm
  have hqm := Nat.le_trans ho.qnc ho.qcm
  have hpm' := Lib.hid hpm
  have htm' := Lib.hid htm
  have hqm' := Lib.hid hqm
  have hkr := ho.kind
  have hf' := Lib.hid hf
  clear hf
  clear h ho hbig hv2 v2 hv3 v3 hpm htm hqm
  unfold zero6 val6 opCells at hF1
  unfold val6 opCells
  go_enter Try.func47, Try.ntmps47
  go_wp2_with fail
  refine wp_scope_once 0 rfl ?_
  go_wp2_with (first
    | (go_at_call 11; go_loud (refine (formed_any _ o s (hop.out _ hF1.out.bel)).mono ?_; rintro e w2 ⟨rfl, hb⟩; rw [hf'.out]; have hFz := Lib.hid (hF1.out.below hb); (try (clear o0 o1 o2 o3 o4 o5 o6 o7 o8 o9 o10)); (try (clear n0 n1 n2 n3 n4 n5 nf)); (try (clear p0 p1 p2 p3 p4 p5 pf)); (try (clear q0 q1 q2 q3 q4 q5 qf)); obtain ⟨o0, o1, o2, o3, o4, o5, o6, o7, o8, o9, o10⟩ := op_cells hFz.out.ro; clear hb)))
  go_step3
  refine ⟨rfl, ?_⟩
  go_wp2_with fail
  try simp only [Exit.jump]
  go_ret
  exact ⟨rfl, by first | exact hFz.out.bel | exact below_six hFz.out.bel (by omega)⟩
set_option maxHeartbeats 8000000 in
theorem fault_c1 (w : World) (t : Nd) (aA kA : Option Addr) (an ac kn kc : Nat) (o : Ov) (s : OS) (h : NodeV (Old w) w aA an ac kA kn kc t) (ho : OpIn w o s) (hbig : weighV t ≤ 1000000) (hf : formedV o = true) (hk : o.kind = 2 ∨ o.kind = 3) (hp : o.path = []) :
    Calls Try.prog 47 #[.agg (val6 t aA an ac kA kn kc), .agg (opCells o s)] w fun e w' => e = .returned (.int .i64 (82)) ∧ Below w.heap.size w w' := by
  obtain ⟨v2, hv2⟩ : ∃ v2, v2 = val6 t aA an ac kA kn kc := ⟨_, rfl⟩
  obtain ⟨v3, hv3⟩ : ∃ v3, v3 = opCells o s := ⟨_, rfl⟩
  have hF1 := Lib.hid (Four.start w (val6 t aA an ac kA kn kc) (opCells o s) zero6 zero6)
  have hn := Lib.hid (fun W (hb : Below w.heap.size w W) => h.below hb)
  have hop := Lib.hid (fun W (hb : Below w.heap.size w W) => ho.below hb)
  have ho' := Lib.hid ho
  have hbig' := Lib.hid hbig
  have hpm := Nat.le_trans ho.pnc ho.pcm
  have htm := Nat.le_trans ho.tnc ho.tcm
  have hqm := Nat.le_trans ho.qnc ho.qcm
  have hpm' := Lib.hid hpm
  have htm' := Lib.hid htm
  have hqm' := Lib.hid hqm
  have hkr := ho.kind
  have hf' := Lib.hid hf
  clear hf
  have htk := Lib.hid (show decide (o.kind = 2 ∨ o.kind = 3) = true from decide_eq_true hk)
  have hplen : s.pn = 0 := by have := ho'.out.path.1; rw [hp] at this; exact this.symm
  have hplen2 : ((s.pn : Int) == 0) = true := by simp; omega
  clear hplen hp hk
  clear h ho hbig hv2 v2 hv3 v3 hpm htm hqm
  unfold zero6 val6 opCells at hF1
  unfold val6 opCells
  go_enter Try.func47, Try.ntmps47
  go_wp2_with fail
  refine wp_scope_once 0 rfl ?_
  go_wp2_with (first
    | (go_at_call 11; go_loud (refine (formed_any _ o s (hop.out _ hF1.out.bel)).mono ?_; rintro e w2 ⟨rfl, hb⟩; rw [hf'.out]; have hF2 := Lib.hid (hF1.out.below hb); (try (clear o0 o1 o2 o3 o4 o5 o6 o7 o8 o9 o10)); (try (clear n0 n1 n2 n3 n4 n5 nf)); (try (clear p0 p1 p2 p3 p4 p5 pf)); (try (clear q0 q1 q2 q3 q4 q5 qf)); obtain ⟨o0, o1, o2, o3, o4, o5, o6, o7, o8, o9, o10⟩ := op_cells hF2.out.ro; clear hb))
    | (go_at_call 73; go_loud (refine (takesOut_any _ o s ho'.out.kind).mono ?_; rintro e w3 ⟨rfl, hb⟩; rw [htk.out]; have hFz := Lib.hid (hF2.out.below hb); (try (clear o0 o1 o2 o3 o4 o5 o6 o7 o8 o9 o10)); (try (clear n0 n1 n2 n3 n4 n5 nf)); (try (clear p0 p1 p2 p3 p4 p5 pf)); (try (clear q0 q1 q2 q3 q4 q5 qf)); obtain ⟨o0, o1, o2, o3, o4, o5, o6, o7, o8, o9, o10⟩ := op_cells hFz.out.ro; obtain ⟨n0, n1, n2, n3, n4, n5, nf⟩ := six_cells hFz.out.rn; clear hb)))
  go_step3
  refine ⟨rfl, ?_⟩
  go_wp2_with fail
  try simp only [Exit.jump]
  go_ret
  exact ⟨rfl, by first | exact hFz.out.bel | exact below_six hFz.out.bel (by omega)⟩
set_option maxHeartbeats 8000000 in
theorem fault_c2a (w : World) (t : Nd) (aA kA : Option Addr) (an ac kn kc : Nat) (o : Ov) (s : OS) (h : NodeV (Old w) w aA an ac kA kn kc t) (ho : OpIn w o s) (hbig : weighV t ≤ 1000000) (hf : formedV o = true) (hk : o.kind = 2 ∨ o.kind = 3) (hp : o.path ≠ []) (hx : atV t o.path = none) :
    Calls Try.prog 47 #[.agg (val6 t aA an ac kA kn kc), .agg (opCells o s)] w fun e w' => e = .returned (.int .i64 (81)) ∧ Below w.heap.size w w' := by
  obtain ⟨v2, hv2⟩ : ∃ v2, v2 = val6 t aA an ac kA kn kc := ⟨_, rfl⟩
  obtain ⟨v3, hv3⟩ : ∃ v3, v3 = opCells o s := ⟨_, rfl⟩
  have hF1 := Lib.hid (Four.start w (val6 t aA an ac kA kn kc) (opCells o s) zero6 zero6)
  have hn := Lib.hid (fun W (hb : Below w.heap.size w W) => h.below hb)
  have hop := Lib.hid (fun W (hb : Below w.heap.size w W) => ho.below hb)
  have ho' := Lib.hid ho
  have hbig' := Lib.hid hbig
  have hpm := Nat.le_trans ho.pnc ho.pcm
  have htm := Nat.le_trans ho.tnc ho.tcm
  have hqm := Nat.le_trans ho.qnc ho.qcm
  have hpm' := Lib.hid hpm
  have htm' := Lib.hid htm
  have hqm' := Lib.hid hqm
  have hkr := ho.kind
  have hf' := Lib.hid hf
  clear hf
  have htk := Lib.hid (show decide (o.kind = 2 ∨ o.kind = 3) = true from decide_eq_true hk)
  have hplen : ¬ ((s.pn : Int) = 0) := by
    have := ho'.out.path.1
    cases hc : o.path with
    | nil => exact absurd hc hp
    | cons a b => rw [hc] at this; simp at this; omega
  have hplen2 : ((s.pn : Int) == 0) = false := by simpa using hplen
  clear hplen hp
  have hx' := Lib.hid hx
  clear hx
  clear hk
  clear h ho hbig hv2 v2 hv3 v3 hpm htm hqm
  unfold zero6 val6 opCells at hF1
  unfold val6 opCells
  go_enter Try.func47, Try.ntmps47
  go_wp2_with fail
  refine wp_scope_once 0 rfl ?_
  go_wp2_with (first
    | (go_at_call 11; go_loud (refine (formed_any _ o s (hop.out _ hF1.out.bel)).mono ?_; rintro e w2 ⟨rfl, hb⟩; rw [hf'.out]; have hF2 := Lib.hid (hF1.out.below hb); (try (clear o0 o1 o2 o3 o4 o5 o6 o7 o8 o9 o10)); (try (clear n0 n1 n2 n3 n4 n5 nf)); (try (clear p0 p1 p2 p3 p4 p5 pf)); (try (clear q0 q1 q2 q3 q4 q5 qf)); obtain ⟨o0, o1, o2, o3, o4, o5, o6, o7, o8, o9, o10⟩ := op_cells hF2.out.ro; clear hb))
    | (go_at_call 73; go_loud (refine (takesOut_any _ o s ho'.out.kind).mono ?_; rintro e w3 ⟨rfl, hb⟩; rw [htk.out]; have hF3 := Lib.hid (hF2.out.below hb); (try (clear o0 o1 o2 o3 o4 o5 o6 o7 o8 o9 o10)); (try (clear n0 n1 n2 n3 n4 n5 nf)); (try (clear p0 p1 p2 p3 p4 p5 pf)); (try (clear q0 q1 q2 q3 q4 q5 qf)); obtain ⟨o0, o1, o2, o3, o4, o5, o6, o7, o8, o9, o10⟩ := op_cells hF3.out.ro; obtain ⟨n0, n1, n2, n3, n4, n5, nf⟩ := six_cells hF3.out.rn; clear hb))
    | (go_at_call 33; go_at_call_of 33 s.pA; go_loud (refine (at_any _ t aA kA an ac kn kc (hn.out _ hF3.out.bel) s.pA s.pn s.pc o.path (hop.out _ hF3.out.bel).path hpm'.out hbig'.out).mono ?_; rintro e w4 ⟨xA, xn, xc, xK, xm, xd, rfl, hnx, hb⟩; clear hnx; rw [hx'.out]; unfold val6; have hFz := Lib.hid (hF3.out.below hb); (try (clear o0 o1 o2 o3 o4 o5 o6 o7 o8 o9 o10)); (try (clear n0 n1 n2 n3 n4 n5 nf)); (try (clear p0 p1 p2 p3 p4 p5 pf)); (try (clear q0 q1 q2 q3 q4 q5 qf)); obtain ⟨p0, p1, p2, p3, p4, p5, pf⟩ := six_cells hFz.out.r5; clear hb)))
  go_step3
  refine ⟨rfl, ?_⟩
  go_wp2_with fail
  try simp only [Exit.jump]
  go_ret
  exact ⟨rfl, by first | exact hFz.out.bel | exact below_six hFz.out.bel (by omega)⟩
set_option maxHeartbeats 8000000 in
theorem fault_kxa (w : World) (t : Nd) (aA kA : Option Addr) (an ac kn kc : Nat) (o : Ov) (s : OS) (h : NodeV (Old w) w aA an ac kA kn kc t) (ho : OpIn w o s) (hbig : weighV t ≤ 1000000) (hf : formedV o = true) (hk : o.kind = 2 ∨ o.kind = 3) (hp : o.path ≠ []) (h1 : o.kind ≠ 1) (h3 : o.kind ≠ 3) (h6 : o.kind ≠ 6) (x : Nd) (hx : atV t o.path = some x) :
    Calls Try.prog 47 #[.agg (val6 t aA an ac kA kn kc), .agg (opCells o s)] w fun e w' => e = .returned (.int .i64 (0)) ∧ Below w.heap.size w w' := by
  obtain ⟨v2, hv2⟩ : ∃ v2, v2 = val6 t aA an ac kA kn kc := ⟨_, rfl⟩
  obtain ⟨v3, hv3⟩ : ∃ v3, v3 = opCells o s := ⟨_, rfl⟩
  have hF1 := Lib.hid (Four.start w (val6 t aA an ac kA kn kc) (opCells o s) zero6 zero6)
  have hn := Lib.hid (fun W (hb : Below w.heap.size w W) => h.below hb)
  have hop := Lib.hid (fun W (hb : Below w.heap.size w W) => ho.below hb)
  have ho' := Lib.hid ho
  have hbig' := Lib.hid hbig
  have hpm := Nat.le_trans ho.pnc ho.pcm
  have htm := Nat.le_trans ho.tnc ho.tcm
  have hqm := Nat.le_trans ho.qnc ho.qcm
  have hpm' := Lib.hid hpm
  have htm' := Lib.hid htm
  have hqm' := Lib.hid hqm
  have hkr := ho.kind
  have hf' := Lib.hid hf
  clear hf
  have htk := Lib.hid (show decide (o.kind = 2 ∨ o.kind = 3) = true from decide_eq_true hk)
  have hpi := Lib.hid (show decide (o.kind = 1 ∨ o.kind = 3) = false from decide_eq_false fun h => by rcases h with h | h; exact h1 h; exact h3 h)
  have hplen : ¬ ((s.pn : Int) = 0) := by
    have := ho'.out.path.1
    cases hc : o.path with
    | nil => exact absurd hc hp
    | cons a b => rw [hc] at this; simp at this; omega
  have hplen2 : ((s.pn : Int) == 0) = false := by simpa using hplen
  clear hplen hp
  have hx' := Lib.hid hx
  clear hx
  have b3 : ((o.kind : Int) == 3) = false := by simp; omega
  have b6 : ((o.kind : Int) == 6) = false := by simp; omega
  clear hk h1 h3 h6
  clear h ho hbig hv2 v2 hv3 v3 hpm htm hqm
  unfold zero6 val6 opCells at hF1
  unfold val6 opCells
  go_enter Try.func47, Try.ntmps47
  go_wp2_with fail
  refine wp_scope_once 0 rfl ?_
  go_wp2_with (first
    | (go_at_call 11; go_loud (refine (formed_any _ o s (hop.out _ hF1.out.bel)).mono ?_; rintro e w2 ⟨rfl, hb⟩; rw [hf'.out]; have hF2 := Lib.hid (hF1.out.below hb); (try (clear o0 o1 o2 o3 o4 o5 o6 o7 o8 o9 o10)); (try (clear n0 n1 n2 n3 n4 n5 nf)); (try (clear p0 p1 p2 p3 p4 p5 pf)); (try (clear q0 q1 q2 q3 q4 q5 qf)); obtain ⟨o0, o1, o2, o3, o4, o5, o6, o7, o8, o9, o10⟩ := op_cells hF2.out.ro; clear hb))
    | (go_at_call 73; go_loud (refine (takesOut_any _ o s ho'.out.kind).mono ?_; rintro e w3 ⟨rfl, hb⟩; rw [htk.out]; have hF3 := Lib.hid (hF2.out.below hb); (try (clear o0 o1 o2 o3 o4 o5 o6 o7 o8 o9 o10)); (try (clear n0 n1 n2 n3 n4 n5 nf)); (try (clear p0 p1 p2 p3 p4 p5 pf)); (try (clear q0 q1 q2 q3 q4 q5 qf)); obtain ⟨o0, o1, o2, o3, o4, o5, o6, o7, o8, o9, o10⟩ := op_cells hF3.out.ro; obtain ⟨n0, n1, n2, n3, n4, n5, nf⟩ := six_cells hF3.out.rn; clear hb))
    | (go_at_call 33; go_at_call_of 33 s.pA; go_loud (refine (at_any _ t aA kA an ac kn kc (hn.out _ hF3.out.bel) s.pA s.pn s.pc o.path (hop.out _ hF3.out.bel).path hpm'.out hbig'.out).mono ?_; rintro e w4 ⟨xA, xn, xc, xK, xm, xd, rfl, hnx, hb⟩; rw [hx'.out] at hnx ⊢; have hxk := hnx.facts.kl; unfold val6; have hF4 := Lib.hid (hF3.out.below hb); (try (clear o0 o1 o2 o3 o4 o5 o6 o7 o8 o9 o10)); (try (clear n0 n1 n2 n3 n4 n5 nf)); (try (clear p0 p1 p2 p3 p4 p5 pf)); (try (clear q0 q1 q2 q3 q4 q5 qf)); obtain ⟨o0, o1, o2, o3, o4, o5, o6, o7, o8, o9, o10⟩ := op_cells hF4.out.ro; obtain ⟨p0, p1, p2, p3, p4, p5, pf⟩ := six_cells hF4.out.r5; obtain ⟨q0, q1, q2, q3, q4, q5, qf⟩ := six_cells hF4.out.r6; clear hb))
    | (go_at_call 75; go_loud (have hG := ((hF4.out.set5 (.int .u64 (x.id : Int)) (.bool x.leaf) (.string ⟨x.label.toArray⟩) (.slice xA xn xc) (.string ⟨x.text.toArray⟩) (.slice xK xm xd)).set6 (.int .u64 (x.id : Int)) (.bool x.leaf) (.string ⟨x.label.toArray⟩) (.slice xA xn xc) (.string ⟨x.text.toArray⟩) (.slice xK xm xd)); refine (putsIn_any _ o s ho'.out.kind).mono ?_; rintro e w7 ⟨rfl, hb⟩; rw [hpi.out]; have hFz := Lib.hid (hG.below hb); (try (clear o0 o1 o2 o3 o4 o5 o6 o7 o8 o9 o10)); (try (clear n0 n1 n2 n3 n4 n5 nf)); (try (clear p0 p1 p2 p3 p4 p5 pf)); (try (clear q0 q1 q2 q3 q4 q5 qf)); obtain ⟨o0, o1, o2, o3, o4, o5, o6, o7, o8, o9, o10⟩ := op_cells hFz.out.ro; obtain ⟨p0, p1, p2, p3, p4, p5, pf⟩ := six_cells hFz.out.r5; obtain ⟨q0, q1, q2, q3, q4, q5, qf⟩ := six_cells hFz.out.r6; clear hb)))
  go_step3
  go_wp2_with fail
  try simp only [Exit.jump]
  go_ret
  exact ⟨rfl, by first | exact hFz.out.bel | exact below_six hFz.out.bel (by omega)⟩
set_option maxHeartbeats 8000000 in
theorem fault_c2b (w : World) (t : Nd) (aA kA : Option Addr) (an ac kn kc : Nat) (o : Ov) (s : OS) (h : NodeV (Old w) w aA an ac kA kn kc t) (ho : OpIn w o s) (hbig : weighV t ≤ 1000000) (hf : formedV o = true) (hk : ¬ (o.kind = 2 ∨ o.kind = 3)) (hx : atV t o.path = none) :
    Calls Try.prog 47 #[.agg (val6 t aA an ac kA kn kc), .agg (opCells o s)] w fun e w' => e = .returned (.int .i64 (81)) ∧ Below w.heap.size w w' := by
  obtain ⟨v2, hv2⟩ : ∃ v2, v2 = val6 t aA an ac kA kn kc := ⟨_, rfl⟩
  obtain ⟨v3, hv3⟩ : ∃ v3, v3 = opCells o s := ⟨_, rfl⟩
  have hF1 := Lib.hid (Four.start w (val6 t aA an ac kA kn kc) (opCells o s) zero6 zero6)
  have hn := Lib.hid (fun W (hb : Below w.heap.size w W) => h.below hb)
  have hop := Lib.hid (fun W (hb : Below w.heap.size w W) => ho.below hb)
  have ho' := Lib.hid ho
  have hbig' := Lib.hid hbig
  have hpm := Nat.le_trans ho.pnc ho.pcm
  have htm := Nat.le_trans ho.tnc ho.tcm
  have hqm := Nat.le_trans ho.qnc ho.qcm
  have hpm' := Lib.hid hpm
  have htm' := Lib.hid htm
  have hqm' := Lib.hid hqm
  have hkr := ho.kind
  have hf' := Lib.hid hf
  clear hf
  have htk := Lib.hid (show decide (o.kind = 2 ∨ o.kind = 3) = false from decide_eq_false hk)
  have hx' := Lib.hid hx
  clear hx
  clear hk
  clear h ho hbig hv2 v2 hv3 v3 hpm htm hqm
  unfold zero6 val6 opCells at hF1
  unfold val6 opCells
  go_enter Try.func47, Try.ntmps47
  go_wp2_with fail
  refine wp_scope_once 0 rfl ?_
  go_wp2_with (first
    | (go_at_call 11; go_loud (refine (formed_any _ o s (hop.out _ hF1.out.bel)).mono ?_; rintro e w2 ⟨rfl, hb⟩; rw [hf'.out]; have hF2 := Lib.hid (hF1.out.below hb); (try (clear o0 o1 o2 o3 o4 o5 o6 o7 o8 o9 o10)); (try (clear n0 n1 n2 n3 n4 n5 nf)); (try (clear p0 p1 p2 p3 p4 p5 pf)); (try (clear q0 q1 q2 q3 q4 q5 qf)); obtain ⟨o0, o1, o2, o3, o4, o5, o6, o7, o8, o9, o10⟩ := op_cells hF2.out.ro; clear hb))
    | (go_at_call 73; go_loud (refine (takesOut_any _ o s ho'.out.kind).mono ?_; rintro e w3 ⟨rfl, hb⟩; rw [htk.out]; have hF3 := Lib.hid (hF2.out.below hb); (try (clear o0 o1 o2 o3 o4 o5 o6 o7 o8 o9 o10)); (try (clear n0 n1 n2 n3 n4 n5 nf)); (try (clear p0 p1 p2 p3 p4 p5 pf)); (try (clear q0 q1 q2 q3 q4 q5 qf)); obtain ⟨o0, o1, o2, o3, o4, o5, o6, o7, o8, o9, o10⟩ := op_cells hF3.out.ro; obtain ⟨n0, n1, n2, n3, n4, n5, nf⟩ := six_cells hF3.out.rn; clear hb))
    | (go_at_call 33; go_at_call_of 33 s.pA; go_loud (refine (at_any _ t aA kA an ac kn kc (hn.out _ hF3.out.bel) s.pA s.pn s.pc o.path (hop.out _ hF3.out.bel).path hpm'.out hbig'.out).mono ?_; rintro e w4 ⟨xA, xn, xc, xK, xm, xd, rfl, hnx, hb⟩; clear hnx; rw [hx'.out]; unfold val6; have hFz := Lib.hid (hF3.out.below hb); (try (clear o0 o1 o2 o3 o4 o5 o6 o7 o8 o9 o10)); (try (clear n0 n1 n2 n3 n4 n5 nf)); (try (clear p0 p1 p2 p3 p4 p5 pf)); (try (clear q0 q1 q2 q3 q4 q5 qf)); obtain ⟨p0, p1, p2, p3, p4, p5, pf⟩ := six_cells hFz.out.r5; clear hb)))
  go_step3
  refine ⟨rfl, ?_⟩
  go_wp2_with fail
  try simp only [Exit.jump]
  go_ret
  exact ⟨rfl, by first | exact hFz.out.bel | exact below_six hFz.out.bel (by omega)⟩
set_option maxHeartbeats 8000000 in
theorem fault_kxb (w : World) (t : Nd) (aA kA : Option Addr) (an ac kn kc : Nat) (o : Ov) (s : OS) (h : NodeV (Old w) w aA an ac kA kn kc t) (ho : OpIn w o s) (hbig : weighV t ≤ 1000000) (hf : formedV o = true) (hk : ¬ (o.kind = 2 ∨ o.kind = 3)) (h1 : o.kind ≠ 1) (h3 : o.kind ≠ 3) (h6 : o.kind ≠ 6) (x : Nd) (hx : atV t o.path = some x) :
    Calls Try.prog 47 #[.agg (val6 t aA an ac kA kn kc), .agg (opCells o s)] w fun e w' => e = .returned (.int .i64 (0)) ∧ Below w.heap.size w w' := by
  obtain ⟨v2, hv2⟩ : ∃ v2, v2 = val6 t aA an ac kA kn kc := ⟨_, rfl⟩
  obtain ⟨v3, hv3⟩ : ∃ v3, v3 = opCells o s := ⟨_, rfl⟩
  have hF1 := Lib.hid (Four.start w (val6 t aA an ac kA kn kc) (opCells o s) zero6 zero6)
  have hn := Lib.hid (fun W (hb : Below w.heap.size w W) => h.below hb)
  have hop := Lib.hid (fun W (hb : Below w.heap.size w W) => ho.below hb)
  have ho' := Lib.hid ho
  have hbig' := Lib.hid hbig
  have hpm := Nat.le_trans ho.pnc ho.pcm
  have htm := Nat.le_trans ho.tnc ho.tcm
  have hqm := Nat.le_trans ho.qnc ho.qcm
  have hpm' := Lib.hid hpm
  have htm' := Lib.hid htm
  have hqm' := Lib.hid hqm
  have hkr := ho.kind
  have hf' := Lib.hid hf
  clear hf
  have htk := Lib.hid (show decide (o.kind = 2 ∨ o.kind = 3) = false from decide_eq_false hk)
  have hpi := Lib.hid (show decide (o.kind = 1 ∨ o.kind = 3) = false from decide_eq_false fun h => by rcases h with h | h; exact h1 h; exact h3 h)
  have hx' := Lib.hid hx
  clear hx
  have b3 : ((o.kind : Int) == 3) = false := by simp; omega
  have b6 : ((o.kind : Int) == 6) = false := by simp; omega
  clear hk h1 h3 h6
  clear h ho hbig hv2 v2 hv3 v3 hpm htm hqm
  unfold zero6 val6 opCells at hF1
  unfold val6 opCells
  go_enter Try.func47, Try.ntmps47
  go_wp2_with fail
  refine wp_scope_once 0 rfl ?_
  go_wp2_with (first
    | (go_at_call 11; go_loud (refine (formed_any _ o s (hop.out _ hF1.out.bel)).mono ?_; rintro e w2 ⟨rfl, hb⟩; rw [hf'.out]; have hF2 := Lib.hid (hF1.out.below hb); (try (clear o0 o1 o2 o3 o4 o5 o6 o7 o8 o9 o10)); (try (clear n0 n1 n2 n3 n4 n5 nf)); (try (clear p0 p1 p2 p3 p4 p5 pf)); (try (clear q0 q1 q2 q3 q4 q5 qf)); obtain ⟨o0, o1, o2, o3, o4, o5, o6, o7, o8, o9, o10⟩ := op_cells hF2.out.ro; clear hb))
    | (go_at_call 73; go_loud (refine (takesOut_any _ o s ho'.out.kind).mono ?_; rintro e w3 ⟨rfl, hb⟩; rw [htk.out]; have hF3 := Lib.hid (hF2.out.below hb); (try (clear o0 o1 o2 o3 o4 o5 o6 o7 o8 o9 o10)); (try (clear n0 n1 n2 n3 n4 n5 nf)); (try (clear p0 p1 p2 p3 p4 p5 pf)); (try (clear q0 q1 q2 q3 q4 q5 qf)); obtain ⟨o0, o1, o2, o3, o4, o5, o6, o7, o8, o9, o10⟩ := op_cells hF3.out.ro; obtain ⟨n0, n1, n2, n3, n4, n5, nf⟩ := six_cells hF3.out.rn; clear hb))
    | (go_at_call 33; go_at_call_of 33 s.pA; go_loud (refine (at_any _ t aA kA an ac kn kc (hn.out _ hF3.out.bel) s.pA s.pn s.pc o.path (hop.out _ hF3.out.bel).path hpm'.out hbig'.out).mono ?_; rintro e w4 ⟨xA, xn, xc, xK, xm, xd, rfl, hnx, hb⟩; rw [hx'.out] at hnx ⊢; have hxk := hnx.facts.kl; unfold val6; have hF4 := Lib.hid (hF3.out.below hb); (try (clear o0 o1 o2 o3 o4 o5 o6 o7 o8 o9 o10)); (try (clear n0 n1 n2 n3 n4 n5 nf)); (try (clear p0 p1 p2 p3 p4 p5 pf)); (try (clear q0 q1 q2 q3 q4 q5 qf)); obtain ⟨o0, o1, o2, o3, o4, o5, o6, o7, o8, o9, o10⟩ := op_cells hF4.out.ro; obtain ⟨p0, p1, p2, p3, p4, p5, pf⟩ := six_cells hF4.out.r5; obtain ⟨q0, q1, q2, q3, q4, q5, qf⟩ := six_cells hF4.out.r6; clear hb))
    | (go_at_call 75; go_loud (have hG := ((hF4.out.set5 (.int .u64 (x.id : Int)) (.bool x.leaf) (.string ⟨x.label.toArray⟩) (.slice xA xn xc) (.string ⟨x.text.toArray⟩) (.slice xK xm xd)).set6 (.int .u64 (x.id : Int)) (.bool x.leaf) (.string ⟨x.label.toArray⟩) (.slice xA xn xc) (.string ⟨x.text.toArray⟩) (.slice xK xm xd)); refine (putsIn_any _ o s ho'.out.kind).mono ?_; rintro e w7 ⟨rfl, hb⟩; rw [hpi.out]; have hFz := Lib.hid (hG.below hb); (try (clear o0 o1 o2 o3 o4 o5 o6 o7 o8 o9 o10)); (try (clear n0 n1 n2 n3 n4 n5 nf)); (try (clear p0 p1 p2 p3 p4 p5 pf)); (try (clear q0 q1 q2 q3 q4 q5 qf)); obtain ⟨o0, o1, o2, o3, o4, o5, o6, o7, o8, o9, o10⟩ := op_cells hFz.out.ro; obtain ⟨p0, p1, p2, p3, p4, p5, pf⟩ := six_cells hFz.out.r5; obtain ⟨q0, q1, q2, q3, q4, q5, qf⟩ := six_cells hFz.out.r6; clear hb)))
  go_step3
  go_wp2_with fail
  try simp only [Exit.jump]
  go_ret
  exact ⟨rfl, by first | exact hFz.out.bel | exact below_six hFz.out.bel (by omega)⟩
set_option maxHeartbeats 8000000 in
theorem fault_k1 (w : World) (t : Nd) (aA kA : Option Addr) (an ac kn kc : Nat) (o : Ov) (s : OS) (h : NodeV (Old w) w aA an ac kA kn kc t) (ho : OpIn w o s) (hbig : weighV t ≤ 1000000) (hf : formedV o = true) (k1 : o.kind = 1) (x : Nd) (hx : atV t o.path = some x) :
    Calls Try.prog 47 #[.agg (val6 t aA an ac kA kn kc), .agg (opCells o s)] w fun e w' => e = .returned (.int .i64 (gapE x o.at_)) ∧ Below w.heap.size w w' := by
  obtain ⟨v2, hv2⟩ : ∃ v2, v2 = val6 t aA an ac kA kn kc := ⟨_, rfl⟩
  obtain ⟨v3, hv3⟩ : ∃ v3, v3 = opCells o s := ⟨_, rfl⟩
  have hF1 := Lib.hid (Four.start w (val6 t aA an ac kA kn kc) (opCells o s) zero6 zero6)
  have hn := Lib.hid (fun W (hb : Below w.heap.size w W) => h.below hb)
  have hop := Lib.hid (fun W (hb : Below w.heap.size w W) => ho.below hb)
  have ho' := Lib.hid ho
  have hbig' := Lib.hid hbig
  have hpm := Nat.le_trans ho.pnc ho.pcm
  have htm := Nat.le_trans ho.tnc ho.tcm
  have hqm := Nat.le_trans ho.qnc ho.qcm
  have hpm' := Lib.hid hpm
  have htm' := Lib.hid htm
  have hqm' := Lib.hid hqm
  have hkr := ho.kind
  have hf' := Lib.hid hf
  clear hf
  have htk := Lib.hid (show decide (o.kind = 2 ∨ o.kind = 3) = false from decide_eq_false fun h => by omega)
  have hpi := Lib.hid (show decide (o.kind = 1 ∨ o.kind = 3) = true from decide_eq_true (.inl k1))
  have hx' := Lib.hid hx
  clear hx
  have b3 : ((o.kind : Int) == 3) = false := by simp; omega
  clear k1
  clear h ho hbig hv2 v2 hv3 v3 hpm htm hqm
  unfold zero6 val6 opCells at hF1
  unfold val6 opCells
  go_enter Try.func47, Try.ntmps47
  go_wp2_with fail
  refine wp_scope_once 0 rfl ?_
  go_wp2_with (first
    | (go_at_call 11; go_loud (refine (formed_any _ o s (hop.out _ hF1.out.bel)).mono ?_; rintro e w2 ⟨rfl, hb⟩; rw [hf'.out]; have hF2 := Lib.hid (hF1.out.below hb); (try (clear o0 o1 o2 o3 o4 o5 o6 o7 o8 o9 o10)); (try (clear n0 n1 n2 n3 n4 n5 nf)); (try (clear p0 p1 p2 p3 p4 p5 pf)); (try (clear q0 q1 q2 q3 q4 q5 qf)); obtain ⟨o0, o1, o2, o3, o4, o5, o6, o7, o8, o9, o10⟩ := op_cells hF2.out.ro; clear hb))
    | (go_at_call 73; go_loud (refine (takesOut_any _ o s ho'.out.kind).mono ?_; rintro e w3 ⟨rfl, hb⟩; rw [htk.out]; have hF3 := Lib.hid (hF2.out.below hb); (try (clear o0 o1 o2 o3 o4 o5 o6 o7 o8 o9 o10)); (try (clear n0 n1 n2 n3 n4 n5 nf)); (try (clear p0 p1 p2 p3 p4 p5 pf)); (try (clear q0 q1 q2 q3 q4 q5 qf)); obtain ⟨o0, o1, o2, o3, o4, o5, o6, o7, o8, o9, o10⟩ := op_cells hF3.out.ro; obtain ⟨n0, n1, n2, n3, n4, n5, nf⟩ := six_cells hF3.out.rn; clear hb))
    | (go_at_call 33; go_at_call_of 33 s.pA; go_loud (refine (at_any _ t aA kA an ac kn kc (hn.out _ hF3.out.bel) s.pA s.pn s.pc o.path (hop.out _ hF3.out.bel).path hpm'.out hbig'.out).mono ?_; rintro e w4 ⟨xA, xn, xc, xK, xm, xd, rfl, hnx, hb⟩; rw [hx'.out] at hnx ⊢; have hxk := hnx.facts.kl; unfold val6; have hF4 := Lib.hid (hF3.out.below hb); (try (clear o0 o1 o2 o3 o4 o5 o6 o7 o8 o9 o10)); (try (clear n0 n1 n2 n3 n4 n5 nf)); (try (clear p0 p1 p2 p3 p4 p5 pf)); (try (clear q0 q1 q2 q3 q4 q5 qf)); obtain ⟨o0, o1, o2, o3, o4, o5, o6, o7, o8, o9, o10⟩ := op_cells hF4.out.ro; obtain ⟨p0, p1, p2, p3, p4, p5, pf⟩ := six_cells hF4.out.r5; obtain ⟨q0, q1, q2, q3, q4, q5, qf⟩ := six_cells hF4.out.r6; clear hb))
    | (go_at_call 75; go_loud (have hG := ((hF4.out.set5 (.int .u64 (x.id : Int)) (.bool x.leaf) (.string ⟨x.label.toArray⟩) (.slice xA xn xc) (.string ⟨x.text.toArray⟩) (.slice xK xm xd)).set6 (.int .u64 (x.id : Int)) (.bool x.leaf) (.string ⟨x.label.toArray⟩) (.slice xA xn xc) (.string ⟨x.text.toArray⟩) (.slice xK xm xd)); refine (putsIn_any _ o s ho'.out.kind).mono ?_; rintro e w7 ⟨rfl, hb⟩; rw [hpi.out]; have hF7 := Lib.hid (hG.below hb); (try (clear o0 o1 o2 o3 o4 o5 o6 o7 o8 o9 o10)); (try (clear n0 n1 n2 n3 n4 n5 nf)); (try (clear p0 p1 p2 p3 p4 p5 pf)); (try (clear q0 q1 q2 q3 q4 q5 qf)); obtain ⟨o0, o1, o2, o3, o4, o5, o6, o7, o8, o9, o10⟩ := op_cells hF7.out.ro; obtain ⟨p0, p1, p2, p3, p4, p5, pf⟩ := six_cells hF7.out.r5; obtain ⟨q0, q1, q2, q3, q4, q5, qf⟩ := six_cells hF7.out.r6; clear hb))
    | (go_at_call 76; go_loud (refine (gapFault_any _ x xA xK xn xc xm xd hxk o.at_).mono ?_; rintro e w8 ⟨rfl, hb⟩; have hFz := Lib.hid (hF7.out.below hb); (try (clear o0 o1 o2 o3 o4 o5 o6 o7 o8 o9 o10)); (try (clear n0 n1 n2 n3 n4 n5 nf)); (try (clear p0 p1 p2 p3 p4 p5 pf)); (try (clear q0 q1 q2 q3 q4 q5 qf)); clear hb)))
  go_step3
  go_wp2_with fail
  try simp only [Exit.jump]
  go_ret
  exact ⟨rfl, by first | exact hFz.out.bel | exact below_six hFz.out.bel (by omega)⟩
set_option maxHeartbeats 8000000 in
theorem fault_k6 (w : World) (t : Nd) (aA kA : Option Addr) (an ac kn kc : Nat) (o : Ov) (s : OS) (h : NodeV (Old w) w aA an ac kA kn kc t) (ho : OpIn w o s) (hbig : weighV t ≤ 1000000) (hf : formedV o = true) (k6 : o.kind = 6) (x : Nd) (hx : atV t o.path = some x) (hr : P5.rightV o.pieces = true) (hxl : x.text.length ≤ 10000000) :
    Calls Try.prog 47 #[.agg (val6 t aA an ac kA kn kc), .agg (opCells o s)] w fun e w' => e = .returned (.int .i64 (editE x o.pieces)) ∧ Below w.heap.size w w' := by
  obtain ⟨v2, hv2⟩ : ∃ v2, v2 = val6 t aA an ac kA kn kc := ⟨_, rfl⟩
  obtain ⟨v3, hv3⟩ : ∃ v3, v3 = opCells o s := ⟨_, rfl⟩
  have hF1 := Lib.hid (Four.start w (val6 t aA an ac kA kn kc) (opCells o s) zero6 zero6)
  have hn := Lib.hid (fun W (hb : Below w.heap.size w W) => h.below hb)
  have hop := Lib.hid (fun W (hb : Below w.heap.size w W) => ho.below hb)
  have ho' := Lib.hid ho
  have hbig' := Lib.hid hbig
  have hpm := Nat.le_trans ho.pnc ho.pcm
  have htm := Nat.le_trans ho.tnc ho.tcm
  have hqm := Nat.le_trans ho.qnc ho.qcm
  have hpm' := Lib.hid hpm
  have htm' := Lib.hid htm
  have hqm' := Lib.hid hqm
  have hkr := ho.kind
  have hf' := Lib.hid hf
  clear hf
  have htk := Lib.hid (show decide (o.kind = 2 ∨ o.kind = 3) = false from decide_eq_false fun h => by omega)
  have hpi := Lib.hid (show decide (o.kind = 1 ∨ o.kind = 3) = false from decide_eq_false fun h => by omega)
  have hx' := Lib.hid hx
  clear hx
  have b3 : ((o.kind : Int) == 3) = false := by simp; omega
  have b6 : ((o.kind : Int) == 6) = true := by simp; omega
  have hrg := Lib.hid hr
  have hxt := Lib.hid hxl
  clear k6 hr hxl
  clear h ho hbig hv2 v2 hv3 v3 hpm htm hqm
  unfold zero6 val6 opCells at hF1
  unfold val6 opCells
  go_enter Try.func47, Try.ntmps47
  go_wp2_with fail
  refine wp_scope_once 0 rfl ?_
  go_wp2_with (first
    | (go_at_call 11; go_loud (refine (formed_any _ o s (hop.out _ hF1.out.bel)).mono ?_; rintro e w2 ⟨rfl, hb⟩; rw [hf'.out]; have hF2 := Lib.hid (hF1.out.below hb); (try (clear o0 o1 o2 o3 o4 o5 o6 o7 o8 o9 o10)); (try (clear n0 n1 n2 n3 n4 n5 nf)); (try (clear p0 p1 p2 p3 p4 p5 pf)); (try (clear q0 q1 q2 q3 q4 q5 qf)); obtain ⟨o0, o1, o2, o3, o4, o5, o6, o7, o8, o9, o10⟩ := op_cells hF2.out.ro; clear hb))
    | (go_at_call 73; go_loud (refine (takesOut_any _ o s ho'.out.kind).mono ?_; rintro e w3 ⟨rfl, hb⟩; rw [htk.out]; have hF3 := Lib.hid (hF2.out.below hb); (try (clear o0 o1 o2 o3 o4 o5 o6 o7 o8 o9 o10)); (try (clear n0 n1 n2 n3 n4 n5 nf)); (try (clear p0 p1 p2 p3 p4 p5 pf)); (try (clear q0 q1 q2 q3 q4 q5 qf)); obtain ⟨o0, o1, o2, o3, o4, o5, o6, o7, o8, o9, o10⟩ := op_cells hF3.out.ro; obtain ⟨n0, n1, n2, n3, n4, n5, nf⟩ := six_cells hF3.out.rn; clear hb))
    | (go_at_call 33; go_at_call_of 33 s.pA; go_loud (refine (at_any _ t aA kA an ac kn kc (hn.out _ hF3.out.bel) s.pA s.pn s.pc o.path (hop.out _ hF3.out.bel).path hpm'.out hbig'.out).mono ?_; rintro e w4 ⟨xA, xn, xc, xK, xm, xd, rfl, hnx, hb⟩; rw [hx'.out] at hnx ⊢; have hxk := hnx.facts.kl; unfold val6; have hF4 := Lib.hid (hF3.out.below hb); (try (clear o0 o1 o2 o3 o4 o5 o6 o7 o8 o9 o10)); (try (clear n0 n1 n2 n3 n4 n5 nf)); (try (clear p0 p1 p2 p3 p4 p5 pf)); (try (clear q0 q1 q2 q3 q4 q5 qf)); obtain ⟨o0, o1, o2, o3, o4, o5, o6, o7, o8, o9, o10⟩ := op_cells hF4.out.ro; obtain ⟨p0, p1, p2, p3, p4, p5, pf⟩ := six_cells hF4.out.r5; obtain ⟨q0, q1, q2, q3, q4, q5, qf⟩ := six_cells hF4.out.r6; clear hb))
    | (go_at_call 75; go_loud (have hG := ((hF4.out.set5 (.int .u64 (x.id : Int)) (.bool x.leaf) (.string ⟨x.label.toArray⟩) (.slice xA xn xc) (.string ⟨x.text.toArray⟩) (.slice xK xm xd)).set6 (.int .u64 (x.id : Int)) (.bool x.leaf) (.string ⟨x.label.toArray⟩) (.slice xA xn xc) (.string ⟨x.text.toArray⟩) (.slice xK xm xd)); refine (putsIn_any _ o s ho'.out.kind).mono ?_; rintro e w7 ⟨rfl, hb⟩; rw [hpi.out]; have hF7 := Lib.hid (hG.below hb); (try (clear o0 o1 o2 o3 o4 o5 o6 o7 o8 o9 o10)); (try (clear n0 n1 n2 n3 n4 n5 nf)); (try (clear p0 p1 p2 p3 p4 p5 pf)); (try (clear q0 q1 q2 q3 q4 q5 qf)); obtain ⟨o0, o1, o2, o3, o4, o5, o6, o7, o8, o9, o10⟩ := op_cells hF7.out.ro; obtain ⟨p0, p1, p2, p3, p4, p5, pf⟩ := six_cells hF7.out.r5; obtain ⟨q0, q1, q2, q3, q4, q5, qf⟩ := six_cells hF7.out.r6; clear hb))
    | (go_at_call 77; go_loud (refine (editFault_any _ x xA xK xn xc xm xd hxt.out s.qA s.qn s.qc o.pieces (hop.out _ hF7.out.bel).pieces hqm'.out hrg.out).mono ?_; rintro e w8 ⟨rfl, hb⟩; have hFz := Lib.hid (hF7.out.below hb); (try (clear o0 o1 o2 o3 o4 o5 o6 o7 o8 o9 o10)); (try (clear n0 n1 n2 n3 n4 n5 nf)); (try (clear p0 p1 p2 p3 p4 p5 pf)); (try (clear q0 q1 q2 q3 q4 q5 qf)); clear hb)))
  go_step3
  go_wp2_with fail
  try simp only [Exit.jump]
  go_ret
  exact ⟨rfl, by first | exact hFz.out.bel | exact below_six hFz.out.bel (by omega)⟩
set_option maxHeartbeats 8000000 in
theorem fault_k3a (w : World) (t : Nd) (aA kA : Option Addr) (an ac kn kc : Nat) (o : Ov) (s : OS) (h : NodeV (Old w) w aA an ac kA kn kc t) (ho : OpIn w o s) (hbig : weighV t ≤ 1000000) (hf : formedV o = true) (k3 : o.kind = 3) (hp : o.path ≠ []) (x : Nd) (hx : atV t o.path = some x) (hw : P4.withinV o.path o.to_ = true) :
    Calls Try.prog 47 #[.agg (val6 t aA an ac kA kn kc), .agg (opCells o s)] w fun e w' => e = .returned (.int .i64 (84)) ∧ Below w.heap.size w w' := by
  obtain ⟨v2, hv2⟩ : ∃ v2, v2 = val6 t aA an ac kA kn kc := ⟨_, rfl⟩
  obtain ⟨v3, hv3⟩ : ∃ v3, v3 = opCells o s := ⟨_, rfl⟩
  have hF1 := Lib.hid (Four.start w (val6 t aA an ac kA kn kc) (opCells o s) zero6 zero6)
  have hn := Lib.hid (fun W (hb : Below w.heap.size w W) => h.below hb)
  have hop := Lib.hid (fun W (hb : Below w.heap.size w W) => ho.below hb)
  have ho' := Lib.hid ho
  have hbig' := Lib.hid hbig
  have hpm := Nat.le_trans ho.pnc ho.pcm
  have htm := Nat.le_trans ho.tnc ho.tcm
  have hqm := Nat.le_trans ho.qnc ho.qcm
  have hpm' := Lib.hid hpm
  have htm' := Lib.hid htm
  have hqm' := Lib.hid hqm
  have hkr := ho.kind
  have hf' := Lib.hid hf
  clear hf
  have htk := Lib.hid (show decide (o.kind = 2 ∨ o.kind = 3) = true from decide_eq_true (.inr k3))
  have hpi := Lib.hid (show decide (o.kind = 1 ∨ o.kind = 3) = true from decide_eq_true (.inr k3))
  have b3 : ((o.kind : Int) == 3) = true := by simp; omega
  have hplen : ¬ ((s.pn : Int) = 0) := by
    have := ho'.out.path.1
    cases hc : o.path with
    | nil => exact absurd hc hp
    | cons a b => rw [hc] at this; simp at this; omega
  have hplen2 : ((s.pn : Int) == 0) = false := by simpa using hplen
  clear hplen hp
  have hx' := Lib.hid hx
  clear hx
  have hw' := Lib.hid hw
  clear k3 hw
  clear h ho hbig hv2 v2 hv3 v3 hpm htm hqm
  unfold zero6 val6 opCells at hF1
  unfold val6 opCells
  go_enter Try.func47, Try.ntmps47
  go_wp2_with fail
  refine wp_scope_once 0 rfl ?_
  go_wp2_with (first
    | (go_at_call 11; go_loud (refine (formed_any _ o s (hop.out _ hF1.out.bel)).mono ?_; rintro e w2 ⟨rfl, hb⟩; rw [hf'.out]; have hF2 := Lib.hid (hF1.out.below hb); (try (clear o0 o1 o2 o3 o4 o5 o6 o7 o8 o9 o10)); (try (clear n0 n1 n2 n3 n4 n5 nf)); (try (clear p0 p1 p2 p3 p4 p5 pf)); (try (clear q0 q1 q2 q3 q4 q5 qf)); obtain ⟨o0, o1, o2, o3, o4, o5, o6, o7, o8, o9, o10⟩ := op_cells hF2.out.ro; clear hb))
    | (go_at_call 73; go_loud (refine (takesOut_any _ o s ho'.out.kind).mono ?_; rintro e w3 ⟨rfl, hb⟩; rw [htk.out]; have hF3 := Lib.hid (hF2.out.below hb); (try (clear o0 o1 o2 o3 o4 o5 o6 o7 o8 o9 o10)); (try (clear n0 n1 n2 n3 n4 n5 nf)); (try (clear p0 p1 p2 p3 p4 p5 pf)); (try (clear q0 q1 q2 q3 q4 q5 qf)); obtain ⟨o0, o1, o2, o3, o4, o5, o6, o7, o8, o9, o10⟩ := op_cells hF3.out.ro; obtain ⟨n0, n1, n2, n3, n4, n5, nf⟩ := six_cells hF3.out.rn; clear hb))
    | (go_at_call 33; go_at_call_of 33 s.pA; go_loud (refine (at_any _ t aA kA an ac kn kc (hn.out _ hF3.out.bel) s.pA s.pn s.pc o.path (hop.out _ hF3.out.bel).path hpm'.out hbig'.out).mono ?_; rintro e w4 ⟨xA, xn, xc, xK, xm, xd, rfl, hnx, hb⟩; rw [hx'.out] at hnx ⊢; have hxk := hnx.facts.kl; unfold val6; have hF4 := Lib.hid (hF3.out.below hb); (try (clear o0 o1 o2 o3 o4 o5 o6 o7 o8 o9 o10)); (try (clear n0 n1 n2 n3 n4 n5 nf)); (try (clear p0 p1 p2 p3 p4 p5 pf)); (try (clear q0 q1 q2 q3 q4 q5 qf)); obtain ⟨o0, o1, o2, o3, o4, o5, o6, o7, o8, o9, o10⟩ := op_cells hF4.out.ro; obtain ⟨p0, p1, p2, p3, p4, p5, pf⟩ := six_cells hF4.out.r5; obtain ⟨q0, q1, q2, q3, q4, q5, qf⟩ := six_cells hF4.out.r6; clear hb))
    | (go_at_call 74; go_loud (have hG := ((hF4.out.set5 (.int .u64 (x.id : Int)) (.bool x.leaf) (.string ⟨x.label.toArray⟩) (.slice xA xn xc) (.string ⟨x.text.toArray⟩) (.slice xK xm xd)).set6 (.int .u64 (x.id : Int)) (.bool x.leaf) (.string ⟨x.label.toArray⟩) (.slice xA xn xc) (.string ⟨x.text.toArray⟩) (.slice xK xm xd)); refine (P4.within_any _ s.pA s.tA s.pn s.pc s.tn s.tc o.path o.to_ (hop.out _ hG.bel).path (hop.out _ hG.bel).to_ hpm'.out htm'.out).mono ?_; rw [hw'.out]; rintro e w5 ⟨rfl, k5, hk5⟩; have hFz := Lib.hid (hG.drew hk5); (try (clear o0 o1 o2 o3 o4 o5 o6 o7 o8 o9 o10)); (try (clear n0 n1 n2 n3 n4 n5 nf)); (try (clear p0 p1 p2 p3 p4 p5 pf)); (try (clear q0 q1 q2 q3 q4 q5 qf)); obtain ⟨o0, o1, o2, o3, o4, o5, o6, o7, o8, o9, o10⟩ := op_cells hFz.out.ro; obtain ⟨n0, n1, n2, n3, n4, n5, nf⟩ := six_cells hFz.out.rn; clear hk5)))
  go_step3
  refine ⟨rfl, ?_⟩
  go_wp2_with fail
  try simp only [Exit.jump]
  go_ret
  exact ⟨rfl, by first | exact hFz.out.bel | exact below_six hFz.out.bel (by omega)⟩
set_option maxHeartbeats 8000000 in
theorem fault_k3b (w : World) (t : Nd) (aA kA : Option Addr) (an ac kn kc : Nat) (o : Ov) (s : OS) (h : NodeV (Old w) w aA an ac kA kn kc t) (ho : OpIn w o s) (hbig : weighV t ≤ 1000000) (hf : formedV o = true) (k3 : o.kind = 3) (hp : o.path ≠ []) (x : Nd) (hx : atV t o.path = some x) (hw : P4.withinV o.path o.to_ = false) (hy : atV t o.to_ = none) :
    Calls Try.prog 47 #[.agg (val6 t aA an ac kA kn kc), .agg (opCells o s)] w fun e w' => e = .returned (.int .i64 (81)) ∧ Below w.heap.size w w' := by
  obtain ⟨v2, hv2⟩ : ∃ v2, v2 = val6 t aA an ac kA kn kc := ⟨_, rfl⟩
  obtain ⟨v3, hv3⟩ : ∃ v3, v3 = opCells o s := ⟨_, rfl⟩
  have hF1 := Lib.hid (Four.start w (val6 t aA an ac kA kn kc) (opCells o s) zero6 zero6)
  have hn := Lib.hid (fun W (hb : Below w.heap.size w W) => h.below hb)
  have hop := Lib.hid (fun W (hb : Below w.heap.size w W) => ho.below hb)
  have ho' := Lib.hid ho
  have hbig' := Lib.hid hbig
  have hpm := Nat.le_trans ho.pnc ho.pcm
  have htm := Nat.le_trans ho.tnc ho.tcm
  have hqm := Nat.le_trans ho.qnc ho.qcm
  have hpm' := Lib.hid hpm
  have htm' := Lib.hid htm
  have hqm' := Lib.hid hqm
  have hkr := ho.kind
  have hf' := Lib.hid hf
  clear hf
  have htk := Lib.hid (show decide (o.kind = 2 ∨ o.kind = 3) = true from decide_eq_true (.inr k3))
  have hpi := Lib.hid (show decide (o.kind = 1 ∨ o.kind = 3) = true from decide_eq_true (.inr k3))
  have b3 : ((o.kind : Int) == 3) = true := by simp; omega
  have hplen : ¬ ((s.pn : Int) = 0) := by
    have := ho'.out.path.1
    cases hc : o.path with
    | nil => exact absurd hc hp
    | cons a b => rw [hc] at this; simp at this; omega
  have hplen2 : ((s.pn : Int) == 0) = false := by simpa using hplen
  clear hplen hp
  have hx' := Lib.hid hx
  clear hx
  have hw' := Lib.hid hw
  have hy' := Lib.hid hy
  clear k3 hw hy
  clear h ho hbig hv2 v2 hv3 v3 hpm htm hqm
  unfold zero6 val6 opCells at hF1
  unfold val6 opCells
  go_enter Try.func47, Try.ntmps47
  go_wp2_with fail
  refine wp_scope_once 0 rfl ?_
  go_wp2_with (first
    | (go_at_call 11; go_loud (refine (formed_any _ o s (hop.out _ hF1.out.bel)).mono ?_; rintro e w2 ⟨rfl, hb⟩; rw [hf'.out]; have hF2 := Lib.hid (hF1.out.below hb); (try (clear o0 o1 o2 o3 o4 o5 o6 o7 o8 o9 o10)); (try (clear n0 n1 n2 n3 n4 n5 nf)); (try (clear p0 p1 p2 p3 p4 p5 pf)); (try (clear q0 q1 q2 q3 q4 q5 qf)); obtain ⟨o0, o1, o2, o3, o4, o5, o6, o7, o8, o9, o10⟩ := op_cells hF2.out.ro; clear hb))
    | (go_at_call 73; go_loud (refine (takesOut_any _ o s ho'.out.kind).mono ?_; rintro e w3 ⟨rfl, hb⟩; rw [htk.out]; have hF3 := Lib.hid (hF2.out.below hb); (try (clear o0 o1 o2 o3 o4 o5 o6 o7 o8 o9 o10)); (try (clear n0 n1 n2 n3 n4 n5 nf)); (try (clear p0 p1 p2 p3 p4 p5 pf)); (try (clear q0 q1 q2 q3 q4 q5 qf)); obtain ⟨o0, o1, o2, o3, o4, o5, o6, o7, o8, o9, o10⟩ := op_cells hF3.out.ro; obtain ⟨n0, n1, n2, n3, n4, n5, nf⟩ := six_cells hF3.out.rn; clear hb))
    | (go_at_call 33; go_at_call_of 33 s.pA; go_loud (refine (at_any _ t aA kA an ac kn kc (hn.out _ hF3.out.bel) s.pA s.pn s.pc o.path (hop.out _ hF3.out.bel).path hpm'.out hbig'.out).mono ?_; rintro e w4 ⟨xA, xn, xc, xK, xm, xd, rfl, hnx, hb⟩; rw [hx'.out] at hnx ⊢; have hxk := hnx.facts.kl; unfold val6; have hF4 := Lib.hid (hF3.out.below hb); (try (clear o0 o1 o2 o3 o4 o5 o6 o7 o8 o9 o10)); (try (clear n0 n1 n2 n3 n4 n5 nf)); (try (clear p0 p1 p2 p3 p4 p5 pf)); (try (clear q0 q1 q2 q3 q4 q5 qf)); obtain ⟨o0, o1, o2, o3, o4, o5, o6, o7, o8, o9, o10⟩ := op_cells hF4.out.ro; obtain ⟨p0, p1, p2, p3, p4, p5, pf⟩ := six_cells hF4.out.r5; obtain ⟨q0, q1, q2, q3, q4, q5, qf⟩ := six_cells hF4.out.r6; clear hb))
    | (go_at_call 74; go_loud (have hG := ((hF4.out.set5 (.int .u64 (x.id : Int)) (.bool x.leaf) (.string ⟨x.label.toArray⟩) (.slice xA xn xc) (.string ⟨x.text.toArray⟩) (.slice xK xm xd)).set6 (.int .u64 (x.id : Int)) (.bool x.leaf) (.string ⟨x.label.toArray⟩) (.slice xA xn xc) (.string ⟨x.text.toArray⟩) (.slice xK xm xd)); refine (P4.within_any _ s.pA s.tA s.pn s.pc s.tn s.tc o.path o.to_ (hop.out _ hG.bel).path (hop.out _ hG.bel).to_ hpm'.out htm'.out).mono ?_; rw [hw'.out]; rintro e w5 ⟨rfl, k5, hk5⟩; have hF5 := Lib.hid (hG.drew hk5); (try (clear o0 o1 o2 o3 o4 o5 o6 o7 o8 o9 o10)); (try (clear n0 n1 n2 n3 n4 n5 nf)); (try (clear p0 p1 p2 p3 p4 p5 pf)); (try (clear q0 q1 q2 q3 q4 q5 qf)); obtain ⟨o0, o1, o2, o3, o4, o5, o6, o7, o8, o9, o10⟩ := op_cells hF5.out.ro; obtain ⟨n0, n1, n2, n3, n4, n5, nf⟩ := six_cells hF5.out.rn; clear hk5))
    | (go_at_call 33; go_at_call_of 33 s.tA; go_loud (refine (at_any _ t aA kA an ac kn kc (hn.out _ hF5.out.bel) s.tA s.tn s.tc o.to_ (hop.out _ hF5.out.bel).to_ htm'.out hbig'.out).mono ?_; rintro e w6 ⟨yA, yn, yc, yK, ym, yd, rfl, hny, hb⟩; clear hny; rw [hy'.out]; unfold val6; have hFz := Lib.hid (hF5.out.below hb); (try (clear o0 o1 o2 o3 o4 o5 o6 o7 o8 o9 o10)); (try (clear n0 n1 n2 n3 n4 n5 nf)); (try (clear p0 p1 p2 p3 p4 p5 pf)); (try (clear q0 q1 q2 q3 q4 q5 qf)); obtain ⟨q0, q1, q2, q3, q4, q5, qf⟩ := six_cells hFz.out.r6; clear hb)))
  go_step3
  refine ⟨rfl, ?_⟩
  go_wp2_with fail
  try simp only [Exit.jump]
  go_ret
  exact ⟨rfl, by first | exact hFz.out.bel | exact below_six hFz.out.bel (by omega)⟩
set_option maxHeartbeats 8000000 in
theorem fault_k3c (w : World) (t : Nd) (aA kA : Option Addr) (an ac kn kc : Nat) (o : Ov) (s : OS) (h : NodeV (Old w) w aA an ac kA kn kc t) (ho : OpIn w o s) (hbig : weighV t ≤ 1000000) (hf : formedV o = true) (k3 : o.kind = 3) (hp : o.path ≠ []) (x : Nd) (hx : atV t o.path = some x) (hw : P4.withinV o.path o.to_ = false) (y : Nd) (hy : atV t o.to_ = some y) :
    Calls Try.prog 47 #[.agg (val6 t aA an ac kA kn kc), .agg (opCells o s)] w fun e w' => e = .returned (.int .i64 (gapE y o.at_)) ∧ Below w.heap.size w w' := by
  obtain ⟨v2, hv2⟩ : ∃ v2, v2 = val6 t aA an ac kA kn kc := ⟨_, rfl⟩
  obtain ⟨v3, hv3⟩ : ∃ v3, v3 = opCells o s := ⟨_, rfl⟩
  have hF1 := Lib.hid (Four.start w (val6 t aA an ac kA kn kc) (opCells o s) zero6 zero6)
  have hn := Lib.hid (fun W (hb : Below w.heap.size w W) => h.below hb)
  have hop := Lib.hid (fun W (hb : Below w.heap.size w W) => ho.below hb)
  have ho' := Lib.hid ho
  have hbig' := Lib.hid hbig
  have hpm := Nat.le_trans ho.pnc ho.pcm
  have htm := Nat.le_trans ho.tnc ho.tcm
  have hqm := Nat.le_trans ho.qnc ho.qcm
  have hpm' := Lib.hid hpm
  have htm' := Lib.hid htm
  have hqm' := Lib.hid hqm
  have hkr := ho.kind
  have hf' := Lib.hid hf
  clear hf
  have htk := Lib.hid (show decide (o.kind = 2 ∨ o.kind = 3) = true from decide_eq_true (.inr k3))
  have hpi := Lib.hid (show decide (o.kind = 1 ∨ o.kind = 3) = true from decide_eq_true (.inr k3))
  have b3 : ((o.kind : Int) == 3) = true := by simp; omega
  have hplen : ¬ ((s.pn : Int) = 0) := by
    have := ho'.out.path.1
    cases hc : o.path with
    | nil => exact absurd hc hp
    | cons a b => rw [hc] at this; simp at this; omega
  have hplen2 : ((s.pn : Int) == 0) = false := by simpa using hplen
  clear hplen hp
  have hx' := Lib.hid hx
  clear hx
  have hw' := Lib.hid hw
  have hy' := Lib.hid hy
  clear k3 hw hy
  clear h ho hbig hv2 v2 hv3 v3 hpm htm hqm
  unfold zero6 val6 opCells at hF1
  unfold val6 opCells
  go_enter Try.func47, Try.ntmps47
  go_wp2_with fail
  refine wp_scope_once 0 rfl ?_
  go_wp2_with (first
    | (go_at_call 11; go_loud (refine (formed_any _ o s (hop.out _ hF1.out.bel)).mono ?_; rintro e w2 ⟨rfl, hb⟩; rw [hf'.out]; have hF2 := Lib.hid (hF1.out.below hb); (try (clear o0 o1 o2 o3 o4 o5 o6 o7 o8 o9 o10)); (try (clear n0 n1 n2 n3 n4 n5 nf)); (try (clear p0 p1 p2 p3 p4 p5 pf)); (try (clear q0 q1 q2 q3 q4 q5 qf)); obtain ⟨o0, o1, o2, o3, o4, o5, o6, o7, o8, o9, o10⟩ := op_cells hF2.out.ro; clear hb))
    | (go_at_call 73; go_loud (refine (takesOut_any _ o s ho'.out.kind).mono ?_; rintro e w3 ⟨rfl, hb⟩; rw [htk.out]; have hF3 := Lib.hid (hF2.out.below hb); (try (clear o0 o1 o2 o3 o4 o5 o6 o7 o8 o9 o10)); (try (clear n0 n1 n2 n3 n4 n5 nf)); (try (clear p0 p1 p2 p3 p4 p5 pf)); (try (clear q0 q1 q2 q3 q4 q5 qf)); obtain ⟨o0, o1, o2, o3, o4, o5, o6, o7, o8, o9, o10⟩ := op_cells hF3.out.ro; obtain ⟨n0, n1, n2, n3, n4, n5, nf⟩ := six_cells hF3.out.rn; clear hb))
    | (go_at_call 33; go_at_call_of 33 s.pA; go_loud (refine (at_any _ t aA kA an ac kn kc (hn.out _ hF3.out.bel) s.pA s.pn s.pc o.path (hop.out _ hF3.out.bel).path hpm'.out hbig'.out).mono ?_; rintro e w4 ⟨xA, xn, xc, xK, xm, xd, rfl, hnx, hb⟩; rw [hx'.out] at hnx ⊢; have hxk := hnx.facts.kl; unfold val6; have hF4 := Lib.hid (hF3.out.below hb); (try (clear o0 o1 o2 o3 o4 o5 o6 o7 o8 o9 o10)); (try (clear n0 n1 n2 n3 n4 n5 nf)); (try (clear p0 p1 p2 p3 p4 p5 pf)); (try (clear q0 q1 q2 q3 q4 q5 qf)); obtain ⟨o0, o1, o2, o3, o4, o5, o6, o7, o8, o9, o10⟩ := op_cells hF4.out.ro; obtain ⟨p0, p1, p2, p3, p4, p5, pf⟩ := six_cells hF4.out.r5; obtain ⟨q0, q1, q2, q3, q4, q5, qf⟩ := six_cells hF4.out.r6; clear hb))
    | (go_at_call 74; go_loud (have hG := ((hF4.out.set5 (.int .u64 (x.id : Int)) (.bool x.leaf) (.string ⟨x.label.toArray⟩) (.slice xA xn xc) (.string ⟨x.text.toArray⟩) (.slice xK xm xd)).set6 (.int .u64 (x.id : Int)) (.bool x.leaf) (.string ⟨x.label.toArray⟩) (.slice xA xn xc) (.string ⟨x.text.toArray⟩) (.slice xK xm xd)); refine (P4.within_any _ s.pA s.tA s.pn s.pc s.tn s.tc o.path o.to_ (hop.out _ hG.bel).path (hop.out _ hG.bel).to_ hpm'.out htm'.out).mono ?_; rw [hw'.out]; rintro e w5 ⟨rfl, k5, hk5⟩; have hF5 := Lib.hid (hG.drew hk5); (try (clear o0 o1 o2 o3 o4 o5 o6 o7 o8 o9 o10)); (try (clear n0 n1 n2 n3 n4 n5 nf)); (try (clear p0 p1 p2 p3 p4 p5 pf)); (try (clear q0 q1 q2 q3 q4 q5 qf)); obtain ⟨o0, o1, o2, o3, o4, o5, o6, o7, o8, o9, o10⟩ := op_cells hF5.out.ro; obtain ⟨n0, n1, n2, n3, n4, n5, nf⟩ := six_cells hF5.out.rn; clear hk5))
    | (go_at_call 33; go_at_call_of 33 s.tA; go_loud (refine (at_any _ t aA kA an ac kn kc (hn.out _ hF5.out.bel) s.tA s.tn s.tc o.to_ (hop.out _ hF5.out.bel).to_ htm'.out hbig'.out).mono ?_; rintro e w6 ⟨yA, yn, yc, yK, ym, yd, rfl, hny, hb⟩; rw [hy'.out] at hny ⊢; have hyk := hny.facts.kl; unfold val6; have hF6 := Lib.hid (hF5.out.below hb); (try (clear o0 o1 o2 o3 o4 o5 o6 o7 o8 o9 o10)); (try (clear n0 n1 n2 n3 n4 n5 nf)); (try (clear p0 p1 p2 p3 p4 p5 pf)); (try (clear q0 q1 q2 q3 q4 q5 qf)); obtain ⟨o0, o1, o2, o3, o4, o5, o6, o7, o8, o9, o10⟩ := op_cells hF6.out.ro; obtain ⟨q0, q1, q2, q3, q4, q5, qf⟩ := six_cells hF6.out.r6; clear hb))
    | (go_at_call 75; go_loud (have hG := (hF6.out.set6 (.int .u64 (y.id : Int)) (.bool y.leaf) (.string ⟨y.label.toArray⟩) (.slice yA yn yc) (.string ⟨y.text.toArray⟩) (.slice yK ym yd)); refine (putsIn_any _ o s ho'.out.kind).mono ?_; rintro e w7 ⟨rfl, hb⟩; rw [hpi.out]; have hF7 := Lib.hid (hG.below hb); (try (clear o0 o1 o2 o3 o4 o5 o6 o7 o8 o9 o10)); (try (clear n0 n1 n2 n3 n4 n5 nf)); (try (clear p0 p1 p2 p3 p4 p5 pf)); (try (clear q0 q1 q2 q3 q4 q5 qf)); obtain ⟨o0, o1, o2, o3, o4, o5, o6, o7, o8, o9, o10⟩ := op_cells hF7.out.ro; obtain ⟨p0, p1, p2, p3, p4, p5, pf⟩ := six_cells hF7.out.r5; obtain ⟨q0, q1, q2, q3, q4, q5, qf⟩ := six_cells hF7.out.r6; clear hb))
    | (go_at_call 76; go_loud (refine (gapFault_any _ y yA yK yn yc ym yd hyk o.at_).mono ?_; rintro e w8 ⟨rfl, hb⟩; have hFz := Lib.hid (hF7.out.below hb); (try (clear o0 o1 o2 o3 o4 o5 o6 o7 o8 o9 o10)); (try (clear n0 n1 n2 n3 n4 n5 nf)); (try (clear p0 p1 p2 p3 p4 p5 pf)); (try (clear q0 q1 q2 q3 q4 q5 qf)); clear hb)))
  go_step3
  go_wp2_with fail
  try simp only [Exit.jump]
  go_ret
  exact ⟨rfl, by first | exact hFz.out.bel | exact below_six hFz.out.bel (by omega)⟩
theorem at_text {t x : Nd} {p : List Int} (h : atV t p = some x) (hb : weighV t ≤ 1000000) : x.text.length ≤ 10000000 := by
  have h1 := (at_count p t x h).2
  have h2 := weighV_eq x
  omega
/-- what is wrong: in all cases -/
theorem fault_any (w : World) (t : Nd) (aA kA : Option Addr) (an ac kn kc : Nat) (o : Ov) (s : OS) (h : NodeV (Old w) w aA an ac kA kn kc t) (ho : OpIn w o s) (hbig : weighV t ≤ 1000000) :
    Calls Try.prog 47 #[.agg (val6 t aA an ac kA kn kc), .agg (opCells o s)] w fun e w' => e = .returned (.int .i64 (faultV t o)) ∧ Below w.heap.size w w' := by
  cases hf : formedV o with
  | false =>
    have := fault_c0 w t aA kA an ac kn kc o s h ho hbig hf
    rw [show faultV t o = 80 by unfold faultV; rw [if_pos hf]]
    exact this
  | true =>
    have e0 : ¬ formedV o = false := by rw [hf]; decide
    by_cases hk : o.kind = 2 ∨ o.kind = 3
    · by_cases hp : o.path = []
      · rw [show faultV t o = 82 by unfold faultV; rw [if_neg e0, if_pos ⟨hk, hp⟩]]
        exact fault_c1 w t aA kA an ac kn kc o s h ho hbig hf hk hp
      · have e1 : ¬ ((o.kind = 2 ∨ o.kind = 3) ∧ o.path = []) := fun h => hp h.2
        cases hx : atV t o.path with
        | none =>
          rw [show faultV t o = 81 by unfold faultV; rw [if_neg e0, if_neg e1, hx]]
          exact fault_c2a w t aA kA an ac kn kc o s h ho hbig hf hk hp hx
        | some x =>
          by_cases k3 : o.kind = 3
          · have e3 : ¬ o.kind = 1 := by omega
            cases hw : P4.withinV o.path o.to_ with
            | true =>
              rw [show faultV t o = 84 by unfold faultV; rw [if_neg e0, if_neg e1, hx]; dsimp only; rw [if_neg e3, if_pos k3, hw]; rfl]
              exact fault_k3a w t aA kA an ac kn kc o s h ho hbig hf k3 hp x hx hw
            | false =>
              cases hy : atV t o.to_ with
              | none =>
                rw [show faultV t o = 81 by unfold faultV; rw [if_neg e0, if_neg e1, hx]; dsimp only; rw [if_neg e3, if_pos k3, hw, hy]; rfl]
                exact fault_k3b w t aA kA an ac kn kc o s h ho hbig hf k3 hp x hx hw hy
              | some y =>
                rw [show faultV t o = gapE y o.at_ by unfold faultV; rw [if_neg e0, if_neg e1, hx]; dsimp only; rw [if_neg e3, if_pos k3, hw, hy]; rfl]
                exact fault_k3c w t aA kA an ac kn kc o s h ho hbig hf k3 hp x hx hw y hy
          · rw [show faultV t o = 0 by unfold faultV; rw [if_neg e0, if_neg e1, hx]; dsimp only; rw [if_neg (by omega), if_neg k3, if_neg (by omega)]]
            exact fault_kxa w t aA kA an ac kn kc o s h ho hbig hf hk hp (by omega) k3 (by omega) x hx
    · have e1 : ¬ ((o.kind = 2 ∨ o.kind = 3) ∧ o.path = []) := fun h => hk h.1
      cases hx : atV t o.path with
      | none =>
        rw [show faultV t o = 81 by unfold faultV; rw [if_neg e0, if_neg e1, hx]]
        exact fault_c2b w t aA kA an ac kn kc o s h ho hbig hf hk hx
      | some x =>
        by_cases k1 : o.kind = 1
        · rw [show faultV t o = gapE x o.at_ by unfold faultV; rw [if_neg e0, if_neg e1, hx]; dsimp only; rw [if_pos k1]]
          exact fault_k1 w t aA kA an ac kn kc o s h ho hbig hf k1 x hx
        · by_cases k6 : o.kind = 6
          · rw [show faultV t o = editE x o.pieces by unfold faultV; rw [if_neg e0, if_neg e1, hx]; dsimp only; rw [if_neg k1, if_neg (by omega), if_pos k6]]
            have hr : P5.rightV o.pieces = true := by
              unfold formedV at hf
              rw [if_neg k1, if_neg (by omega), if_neg (by omega), if_neg (by omega), if_neg (by omega), if_pos k6, Bool.and_eq_true] at hf
              exact hf.2
            exact fault_k6 w t aA kA an ac kn kc o s h ho hbig hf k6 x hx hr (at_text hx hbig)
          · rw [show faultV t o = 0 by unfold faultV; rw [if_neg e0, if_neg e1, hx]; dsimp only; rw [if_neg k1, if_neg (by omega), if_neg k6]]
            exact fault_kxb w t aA kA an ac kn kc o s h ho hbig hf hk k1 (by omega) k6 x hx
end Go.Proofs.Ytoeblaecldhcaaa.Top
/- A node more at a gap; a node less: the program's. -/
namespace Go.Proofs.Ytoeblaecldhcaaa.Top
open Go.RowKit
set_option maxRecDepth 20000
set_option linter.unusedVariables false

/-- a row of nodes as a part that is read -/
theorem row_prt {T : Nat → Prop} {w : World} {A : Option Addr} {n c : Nat} {l : List Nd} (hl : l.length = n) (h : RowAt T w A 0 l) (hT : ∀ k, T k → k < w.heap.size) (hnil : A = none → c = 0) (hnc : n ≤ c) (hn : n ≤ 100000) : ∃ ks : List KV, ks.map KV.t = l ∧ (∀ k ∈ ks, k.ok T w) ∧ (Prt.mk A n c (ks.flatMap KV.cells)).Ok 6 w ∧ ks.length = n := by
  obtain ⟨ks, k1, k2, k3⟩ := RowAt.kvs l 0 h
  have hkl : ks.length = n := by rw [← hl, ← k1, List.length_map]
  refine ⟨ks, k1, k2, ⟨by rw [chunk_len KV.cells 6 KV.cells_len, hkl], KV.one ks, fun j u hj => ?_, hnil, hnc, hn⟩, hkl⟩
  obtain ⟨q, i, x, rfl, -, h3, h4⟩ := chunk_at KV.cells 6 KV.cells_len (by omega) ks j u hj
  obtain ⟨ad, e, hTd, hs⟩ := k3 q x h3
  refine ⟨ad, e, hT _ hTd, ?_⟩
  rw [← add_add]
  rw [Nat.zero_add] at hs
  exact KV.cell hs i u h4
theorem chunk_take {α : Type} (f : α → List Value) (S : Nat) (hf : ∀ x, (f x).length = S) : ∀ (l : List α) (k : Nat), (l.take k).flatMap f = (l.flatMap f).take (k * S)
  | [], k => by simp
  | a :: r, 0 => by simp
  | a :: r, k + 1 => by
    rw [List.take_succ_cons, List.flatMap_cons, List.flatMap_cons, chunk_take f S hf r k, List.take_append, hf, List.take_of_length_le (l := f a) (by rw [hf, Nat.succ_mul]; omega), show (k + 1) * S - S = k * S by rw [Nat.succ_mul]; omega]
theorem chunk_drop {α : Type} (f : α → List Value) (S : Nat) (hf : ∀ x, (f x).length = S) : ∀ (l : List α) (k : Nat), (l.drop k).flatMap f = (l.flatMap f).drop (k * S)
  | [], k => by simp
  | a :: r, 0 => by simp
  | a :: r, k + 1 => by
    rw [List.drop_succ_cons, List.flatMap_cons, chunk_drop f S hf r k, List.drop_append, hf, List.drop_of_length_le (l := f a) (by rw [hf, Nat.succ_mul]; omega), List.nil_append, show (k + 1) * S - S = k * S by rw [Nat.succ_mul]; omega]
/-- where the rest of a row begins -/
def restA (A : Option Addr) (c k : Nat) : Option Addr := if c = k then A else A.map fun a => a.add (k * 6)
theorem restA_same (A : Option Addr) (k : Nat) : restA A k k = A := if_pos rfl
theorem restA_ne {ad : Addr} {c k : Nat} (h : ¬ c = k) : restA (some ad) c k = some (ad.add (k * 6)) := if_neg h
theorem Prt.Ok.take {w : World} {A : Option Addr} {n c k : Nat} {ks : List KV} (h : (Prt.mk A n c (ks.flatMap KV.cells)).Ok 6 w) (hl : ks.length = n) (hk : k ≤ n) : (Prt.mk A k c ((ks.take k).flatMap KV.cells)).Ok 6 w := by
  have hnc := h.nc
  have hfew := h.few
  dsimp only at hnc hfew
  refine ⟨by rw [chunk_len KV.cells 6 KV.cells_len, List.length_take]; show min k ks.length * 6 = k * 6; rw [Nat.min_eq_left (by omega)], KV.one _, fun j u hj => ?_, h.nil_, by show k ≤ c; omega, by show k ≤ 100000; omega⟩
  have hj2 : ((ks.take k).flatMap KV.cells)[j]? = some u := hj
  rw [chunk_take KV.cells 6 KV.cells_len, List.getElem?_take] at hj2
  split at hj2
  · exact h.cells j u hj2
  · cases hj2
theorem Prt.Ok.drop {w : World} {A : Option Addr} {n c k : Nat} {ks : List KV} (h : (Prt.mk A n c (ks.flatMap KV.cells)).Ok 6 w) (hl : ks.length = n) (hk : k ≤ n) : (Prt.mk (restA A c k) (n - k) (c - k) ((ks.drop k).flatMap KV.cells)).Ok 6 w := by
  have hnc := h.nc
  have hfew := h.few
  dsimp only at hnc hfew
  refine ⟨by rw [chunk_len KV.cells 6 KV.cells_len, List.length_drop]; show (ks.length - k) * 6 = (n - k) * 6; rw [hl], KV.one _, fun j u hj => ?_, fun e => ?_, by show n - k ≤ c - k; omega, by show n - k ≤ 100000; omega⟩
  · have hj2 : ((ks.drop k).flatMap KV.cells)[j]? = some u := hj
    rw [chunk_drop KV.cells 6 KV.cells_len, List.getElem?_drop] at hj2
    obtain ⟨ad, e, hlt, hc⟩ := h.cells _ u hj2
    have e : A = some ad := e
    have hlen := (List.getElem?_eq_some_iff.1 hj2).1
    rw [chunk_len KV.cells 6 KV.cells_len, hl] at hlen
    have hck : ¬ c = k := by
      intro e2
      have : n = k := by omega
      subst this
      omega
    subst e
    exact ⟨ad.add (k * 6), restA_ne hck, by rw [block_add]; exact hlt, by rw [add_add]; exact hc⟩
  · have e : restA A c k = none := e
    unfold restA at e
    by_cases hck : c = k
    · rw [if_pos hck] at e
      have : c = 0 := h.nil_ e
      show c - k = 0
      omega
    · rw [if_neg hck] at e
      cases A with
      | none => have : c = 0 := h.nil_ rfl; show c - k = 0; omega
      | some ad => cases e
/-- a node with another row of children -/
theorem newKids {T : Nat → Prop} {W : World} {yA yK : Option Addr} {yn yc ym yd base : Nat} {y : Nd} {kvs : List KV} {v : Value} {n : Nat} (hy : NodeV T W yA yn yc yK ym yd y) (hok : ∀ k ∈ kvs, k.ok T W) (hown : W.ownsRow base 33 6 v n (kvs.flatMap KV.cells)) (hn : n = kvs.length) (hT : ∀ k, base ≤ k → k < W.heap.size → T k) :
    ∃ A c, v = .slice A n c ∧ NodeV T W yA yn yc A n c (y.withKids (kvs.map KV.t)) := by
  have hf := hy.facts
  subst hn
  have ho : OwnK base W v kvs := hown
  obtain ⟨A, n, c, e, rfl, h1, h2, h3, h4⟩ := ho.shape
  refine ⟨A, c, e, NFacts.node ?_⟩
  have hw : (y.withKids (kvs.map KV.t)).id = y.id ∧ (y.withKids (kvs.map KV.t)).label = y.label ∧ (y.withKids (kvs.map KV.t)).text = y.text ∧ (y.withKids (kvs.map KV.t)).attrs = y.attrs := by cases y; exact ⟨rfl, rfl, rfl, rfl⟩
  obtain ⟨w1, w2, w3, w4⟩ := hw
  refine ⟨by rw [w1]; exact hf.id, by rw [w2]; exact hf.label, by rw [w3]; exact hf.text, by rw [w4]; exact hf.ats, hf.anc, hf.acm, hf.anil, by rw [with_kids, List.length_map], h1, h2, h3, ?_⟩
  rw [with_kids]
  refine RowAt.of_kvs kvs hok fun q k hk => ?_
  obtain ⟨g, e2, hb, hlt, hs⟩ := h4 q k hk
  exact ⟨⟨g, 0, none⟩, e2, hT g hb hlt, by rw [add_zero_off]; exact hs⟩
theorem x_cells {W : World} {b : Nat} {x : Nd} {xA xK : Option Addr} {xn xc xm xd : Nat} (h : W.heap[b]? = some (.cells (val6 x xA xn xc xK xm xd) 33 (0, 0))) : W.cell? ⟨b, 0, none⟩ = some (.int .u64 (x.id : Int)) ∧ W.cell? ⟨b, 1, none⟩ = some (.bool x.leaf) ∧ W.cell? ⟨b, 2, none⟩ = some (.string ⟨x.label.toArray⟩) ∧ W.cell? ⟨b, 3, none⟩ = some (.slice xA xn xc) ∧ W.cell? ⟨b, 4, none⟩ = some (.string ⟨x.text.toArray⟩) ∧ W.cell? ⟨b, 5, none⟩ = some (.slice xK xm xd) := by
  unfold val6 at h
  obtain ⟨c0, c1, c2, c3, c4, c5, -⟩ := six_cells h
  exact ⟨c0, c1, c2, c3, c4, c5⟩
theorem with_id (y : Nd) (l : List Nd) : (y.withKids l).id = y.id ∧ (y.withKids l).leaf = y.leaf ∧ (y.withKids l).label = y.label ∧ (y.withKids l).text = y.text ∧ (y.withKids l).attrs = y.attrs := by cases y; exact ⟨rfl, rfl, rfl, rfl, rfl⟩
theorem weighs_ins (at_ : Nat) (x : Nd) (l : List Nd) : weighsV (insK at_ x l) = weighsV l + weighV x := by
  unfold insK
  rw [weighsV_append, weighsV]
  have := weighsV_append (l.take at_) (l.drop at_)
  rw [List.take_append_drop] at this
  omega
end Go.Proofs.Ytoeblaecldhcaaa.Top
/- putIn: a node among another's children. -/
namespace Go.Proofs.Ytoeblaecldhcaaa.Top
open Go.RowKit
set_option maxRecDepth 20000
set_option linter.unusedVariables false

/-- old blocks and those of the call, but one -/
def But1 (T : Nat → Prop) (W3 W : World) (b9 : Nat) (k : Nat) : Prop := T k ∨ (W3.heap.size ≤ k ∧ k < W.heap.size ∧ k ≠ b9)
theorem putIn_mid {T : Nat → Prop} {w W3 w1 W5 w8 : World} {b9 n c8 at_ : Nat} {x y : Nd} {yA yK xA xK A8 : Option Addr} {yn yc ym yd xn xc xm xd : Nat} {ks : List KV} (hT : ∀ k, T k → k < w.heap.size) (h3 : w.heap.size ≤ W3.heap.size) (h31 : W3.heap.size ≤ w1.heap.size) (hb9 : b9 = w1.heap.size) (s5 : W5.heap.size = b9 + 1)
    (o5 : ∀ k, k < w1.heap.size → W5.heap[k]? = w1.heap[k]?) (hb8 : Below W5.heap.size W5 w8) (hny : NodeV (Nw T W3 w1) w1 yA yn yc yK ym yd y) (hks : ks.map KV.t = y.kids) (hkok : ∀ k ∈ ks, k.ok (Nw T W3 w1) w1) (hx : NodeV T w8 xA xn xc xK xm xd x) (kx : KV) (hkx : kx = ⟨x, xA, xn, xc, xK, xm, xd⟩)
    (ho8 : w8.ownsRow (W5.heap.size + 1 + 1) 33 6 (.slice A8 n c8) n ((ks.take at_ ++ kx :: ks.drop at_).flatMap KV.cells)) (hn : n = (ks.take at_ ++ kx :: ks.drop at_).length) :
    NodeV (But1 T W3 (w8.setCell ⟨b9, 5, none⟩ (.slice A8 n c8)) b9) (w8.setCell ⟨b9, 5, none⟩ (.slice A8 n c8)) yA yn yc A8 n c8 (y.withKids (insK at_ x y.kids)) := by
  subst hkx
  have hsz : (w8.setCell ⟨b9, 5, none⟩ (.slice A8 n c8)).heap.size = w8.heap.size := by simp [World.setCell]
  have hs8 := hb8.size
  have hto : ∀ k, Nw T W3 w1 k → But1 T W3 (w8.setCell ⟨b9, 5, none⟩ (.slice A8 n c8)) b9 k := fun k hk => by
    rcases hk with hk | hk
    · exact .inl hk
    · exact .inr ⟨hk.1, by rw [hsz]; omega, by omega⟩
  have hsame : ∀ k, Nw T W3 w1 k → (w8.setCell ⟨b9, 5, none⟩ (.slice A8 n c8)).heap[k]? = w1.heap[k]? := fun k hk => by
    have hk1 : k < w1.heap.size := by
      rcases hk with hk | hk
      · have := hT k hk; omega
      · exact hk.2
    exact (heap_setCell_other _ _ k _ (by show k ≠ b9; omega)).trans ((hb8.block k (by omega)).trans (o5 k hk1))
  have hg : w8.grownBy (w8.setCell ⟨b9, 5, none⟩ (.slice A8 n c8)) (some b9) := ⟨rfl, rfl, rfl, Nat.le_of_eq hsz.symm, fun k hk hne => heap_setCell_other _ _ k _ (fun e => hne (by rw [e]))⟩
  have hown := ho8.kept hg (by
    cases hA : (Value.slice A8 n c8).ownBlock with
    | none => exact .inl rfl
    | some g => exact .inr (fun e => by injection e with e; have := (ho8.lt g hA).1; omega))
  obtain ⟨A, c, e, hnode⟩ := newKids (T := But1 T W3 (w8.setCell ⟨b9, 5, none⟩ (.slice A8 n c8)) b9) (hny.kept hto hsame) (fun k hk => by
    rcases List.mem_append.1 hk with hk | hk
    · exact KV.ok_kept hto hsame (hkok k (List.mem_of_mem_take hk))
    · rcases List.mem_cons.1 hk with rfl | hk
      · exact NodeV.kept (fun k hk => .inl hk) (fun k hk => heap_setCell_other _ _ k _ (by show k ≠ b9; have := hT k hk; omega)) _ _ _ _ _ _ _ hx
      · exact KV.ok_kept hto hsame (hkok k (List.mem_of_mem_drop hk))) hown hn (fun k h1 h2 => .inr ⟨by omega, h2, by omega⟩)
  injection e with e1 e2 e3
  subst e1 e3
  have hmap : (ks.take at_ ++ (⟨x, xA, xn, xc, xK, xm, xd⟩ : KV) :: ks.drop at_).map KV.t = insK at_ x y.kids := by
    unfold insK
    rw [← hks, List.map_append, List.map_cons, List.map_take, List.map_drop]
  rw [hmap] at hnode
  exact hnode
/-- the answer stored, cell by cell -/
theorem end_node0 {T : Nat → Prop} {w w1 : World} {b r : Nat} {ty : TypeId} {a : Nd} {yA yK : Option Addr} {yn yc ym yd : Nat} {a0 a1 a2 a3 a4 a5 : Value} (hT : ∀ k, T k → k < w.heap.size) (hw : w.heap.size ≤ r) (hrb : r < b) (hb : Below w.heap.size w w1)
    (hr : w1.heap[r]? = some (.cells #[a0, a1, a2, a3, a4, a5] ty (0, 0))) (hy : NodeV (fun k => T k ∨ (b ≤ k ∧ k < w1.heap.size)) w1 yA yn yc yK ym yd a) :
    ∃ W9, W9 = ((((((w1.setCell ⟨r, 0, none⟩ (.int .u64 (a.id : Int))).setCell ⟨r, 1, none⟩ (.bool a.leaf)).setCell ⟨r, 2, none⟩ (.string ⟨a.label.toArray⟩)).setCell ⟨r, 3, none⟩ (.slice yA yn yc)).setCell ⟨r, 4, none⟩ (.string ⟨a.text.toArray⟩)).setCell ⟨r, 5, none⟩ (.slice yK ym yd)) ∧
      W9.heap[r]? = some (.cells (val6 a yA yn yc yK ym yd) ty (0, 0)) ∧ NodeV (Nw T w W9) W9 yA yn yc yK ym yd a ∧ Below w.heap.size w W9 := by
  have hlt := (Array.getElem?_eq_some_iff.1 hr).1
  have hb6 := below_six (b0 := .int .u64 (a.id : Int)) (b1 := .bool a.leaf) (b2 := .string ⟨a.label.toArray⟩) (b3 := .slice yA yn yc) (b4 := .string ⟨a.text.toArray⟩) (b5 := .slice yK ym yd) hb hw
  refine ⟨_, rfl, set_six hr, hy.kept (fun k hk => ?_) (fun k hk => ?_), hb6⟩
  · show T k ∨ _
    simp only [World.size_setCell]
    rcases hk with hk | hk
    · exact .inl hk
    · exact .inr ⟨by omega, by omega⟩
  · have hk2 : k < w1.heap.size ∧ k ≠ r := by
      rcases hk with hk | hk
      · have := hT k hk; have := hb.size; omega
      · omega
    exact set_six_other hk2.2

set_option maxHeartbeats 8000000 in
theorem putIn_T (T : Nat → Prop) (w : World) (hT : ∀ k, T k → k < w.heap.size) (t x y : Nd) (aA kA xA xK : Option Addr) (an ac kn kc xn xc xm xd : Nat) (h : NodeV T w aA an ac kA kn kc t) (hx : NodeV T w xA xn xc xK xm xd x) (pA : Option Addr) (pn pc : Nat) (p : List Int) (hp : Its w pA pn p) (hpn : pn ≤ maxLen) (hbig : weighV t ≤ 90000) (hbigx : weighV x ≤ 90000)
    (hy : atV t p = some y) (at_ : Nat) (hat : at_ ≤ y.kids.length) :
    Calls Try.prog 80 #[.agg (val6 t aA an ac kA kn kc), .slice pA pn pc, .int .i64 (at_ : Int), .agg (val6 x xA xn xc xK xm xd)] w (NodeA T w ((putV t p (y.withKids (insK at_ x y.kids))).getD Nd.zero)) := by
  obtain ⟨z1, z2, z3, z4, z5⟩ := three_new w (.cells (val6 t aA an ac kA kn kc) 33) (.cells (val6 x xA xn xc xK xm xd) 33) (.cells zero6 33)
  obtain ⟨W3, hW3⟩ : ∃ W3, W3 = ((w.alloc (.cells (val6 t aA an ac kA kn kc) 33)).alloc (.cells (val6 x xA xn xc xK xm xd) 33)).alloc (.cells zero6 33) := ⟨_, rfl⟩
  rw [← hW3] at z1 z2 z3 z4 z5
  have hT3 : ∀ k, T k → k < W3.heap.size := fun k hk => by have := hT k hk; omega
  have hatc := Lib.hid (at_T T W3 hT3 t aA kA an ac kn kc (h.kept (fun _ h => h) fun k hk => z4.block k (hT k hk)) pA pn pc p (hp.below z4) hpn (by omega))
  rw [hW3] at hatc
  have z1' := Lib.hid z1
  have z2' := Lib.hid z2
  have z3' := Lib.hid z3
  have z4' := Lib.hid z4
  have z5' := Lib.hid z5
  have hT' := Lib.hid hT
  have hy' := Lib.hid hy
  have hyw := (at_count p t y hy).2
  have hyl := weigh_rows y
  have hh := Lib.hid (fun (W : World) (hb : Below w.heap.size w W) => h.kept (w' := W) (T' := T) (fun _ h => h) fun k hk => hb.block k (hT k hk))
  have hhx := Lib.hid (fun (W : World) (hb : Below w.heap.size w W) => hx.kept (w' := W) (T' := T) (fun _ h => h) fun k hk => hb.block k (hT k hk))
  have hp' := Lib.hid hp
  have hbig' := Lib.hid hbig
  have hbigx' := Lib.hid hbigx
  have hpn' := Lib.hid hpn
  clear z1 z2 z3 z4 z5 h hx hp hT hT3 hy
  unfold zero6 val6 at hW3 hatc
  unfold val6
  go_enter Try.func80, Try.ntmps80
  go_wp2_with (go_at_call 33; go_loud (refine hatc.out.mono ?_; rw [← hW3]; rintro e w1 ⟨yA, yn, yc, yK, ym, yd, rfl, hny, hb⟩; rw [hy'.out] at hny ⊢; have hf := hny.facts; have hykl : y.kids.length = ym := hf.kl; have hyc : ym ≤ yd := hf.knc; have hycm : yd ≤ maxLen := hf.kcm; have hynil := Lib.hid hf.knil; have hyrow := Lib.hid hf.row; have hny' := Lib.hid hny; have hb' := Lib.hid hb; clear hf hny hb; unfold val6))
  rename_i K0 hK0
  obtain ⟨W5, hW5⟩ : ∃ W5, W5 = w1.alloc (.cells #[.int .u64 (y.id : Int), .bool y.leaf, .string ⟨y.label.toArray⟩, .slice yA yn yc, .string ⟨y.text.toArray⟩, .slice yK ym yd] 33) := ⟨_, rfl⟩
  obtain ⟨b9, hb9⟩ : ∃ b9, b9 = w1.heap.size := ⟨_, rfl⟩
  have r9 := Lib.hid (show W5.heap[b9]? = some (.cells #[.int .u64 (y.id : Int), .bool y.leaf, .string ⟨y.label.toArray⟩, .slice yA yn yc, .string ⟨y.text.toArray⟩, .slice yK ym yd] 33 (0, 0)) by rw [hW5, hb9]; exact heap_alloc_new w1 _)
  have o5 : ∀ k, k < w1.heap.size → W5.heap[k]? = w1.heap[k]? := fun k hk => by rw [hW5]; exact Go.heap_alloc_old _ _ hk
  have s5 : W5.heap.size = b9 + 1 := by rw [hW5, hb9]; simp
  have z1b := hb'.out.size
  have r7 := Lib.hid (show W5.heap[w.heap.size + 1]? = some (.cells (val6 x xA xn xc xK xm xd) 33 (0, 0)) from (o5 _ (by have := z5'.out; omega)).trans ((hb'.out.block _ (by have := z5'.out; omega)).trans z2'.out))
  have r4 := Lib.hid (show W5.heap[w.heap.size]? = some (.cells (val6 t aA an ac kA kn kc) 33 (0, 0)) from (o5 _ (by have := z5'.out; omega)).trans ((hb'.out.block _ (by have := z5'.out; omega)).trans z1'.out))
  have r8 := Lib.hid (show W5.heap[w.heap.size + 1 + 1]? = some (.cells zero6 33 (0, 0)) from (o5 _ (by have := z5'.out; omega)).trans ((hb'.out.block _ (by have := z5'.out; omega)).trans z3'.out))
  have b5 := Lib.hid (show Below w.heap.size w W5 by rw [hW5]; exact (z4'.out.trans (hb'.out.mono z4'.out.size)).alloc (Nat.le_trans z4'.out.size z1b) _)
  rw [← hW5, ← hb9]
  have hb9' := Lib.hid hb9
  have hW5' := Lib.hid hW5
  have z5w := z5'.out
  obtain ⟨kx, hkx⟩ : ∃ kx : KV, kx = ⟨x, xA, xn, xc, xK, xm, xd⟩ := ⟨_, rfl⟩
  obtain ⟨ks, hk1, hk2, hk3, hk4⟩ := row_prt hykl hyrow.out (fun k hk => by rcases hk with hk | hk; (have := hT'.out k hk; omega); exact hk.2) hynil.out hyc (by omega)
  have hkl := Lib.hid hk4
  have hkt := Lib.hid hk1
  have hkok := Lib.hid hk2
  have hatm2 : at_ ≤ ym := by omega
  have hcat := Lib.hid (fun (A3 : Option Addr) (n3 c3 : Nat) (h3 : A3 = restA yK yd at_ ∧ n3 = ym - at_ ∧ c3 = yd - at_) =>
    show Calls Try.prog 95 #[.slice (some ⟨W5.heap.size + 1, 0, none⟩) 3 3] ((W5.alloc (.cells #[.int .u64 (x.id : Int), .bool x.leaf, .string ⟨x.label.toArray⟩, .slice xA xn xc, .string ⟨x.text.toArray⟩, .slice xK xm xd] 33)).alloc (.cells #[.slice yK at_ yd, .slice (some ⟨W5.heap.size, 0, none⟩) 1 1, .slice A3 n3 c3] 31)).drew fun e w' => ∃ v, e = .returned v ∧ w'.ownsRow (W5.heap.size + 1 + 1) 33 6 v (ym + 1) ((ks.take at_ ++ kx :: ks.drop at_).flatMap KV.cells) ∧ Below W5.heap.size W5 w' from by
      obtain ⟨e1, e2, e3⟩ := h3
      subst e1 e2 e3
      obtain ⟨W7, hW7⟩ : ∃ W7, W7 = ((W5.alloc (.cells #[.int .u64 (x.id : Int), .bool x.leaf, .string ⟨x.label.toArray⟩, .slice xA xn xc, .string ⟨x.text.toArray⟩, .slice xK xm xd] 33)).alloc (.cells #[.slice yK at_ yd, .slice (some ⟨W5.heap.size, 0, none⟩) 1 1, .slice (restA yK yd at_) (ym - at_) (yd - at_)] 31)).drew := ⟨_, rfl⟩
      rw [← hW7]
      have hb57 : Below W5.heap.size W5 W7 := by
        rw [hW7]
        exact (((Below.refl W5.heap.size W5).alloc (Nat.le_refl _) _).alloc (by simp) _).drew
      have hbw : Below w1.heap.size w1 W7 := (show Below w1.heap.size w1 W5 by rw [hW5]; exact (Below.refl _ _).alloc (Nat.le_refl _) _).trans (hb57.mono (by omega))
      have hs7 : W7.heap.size = W5.heap.size + 1 + 1 := by rw [hW7]; show (World.alloc _ _).heap.size = _; simp
      have g2 : W7.heap[W5.heap.size]? = some (.cells #[.int .u64 (x.id : Int), .bool x.leaf, .string ⟨x.label.toArray⟩, .slice xA xn xc, .string ⟨x.text.toArray⟩, .slice xK xm xd] 33 (0, 0)) := by rw [hW7]; exact (Go.heap_alloc_old _ _ (by simp)).trans (heap_alloc_new W5 _)
      have g3 : W7.heap[W5.heap.size + 1]? = some (.cells #[.slice yK at_ yd, .slice (some ⟨W5.heap.size, 0, none⟩) 1 1, .slice (restA yK yd at_) (ym - at_) (yd - at_)] 31 (0, 0)) := by
        have := heap_alloc_new (W5.alloc (.cells #[.int .u64 (x.id : Int), .bool x.leaf, .string ⟨x.label.toArray⟩, .slice xA xn xc, .string ⟨x.text.toArray⟩, .slice xK xm xd] 33)) (.cells #[.slice yK at_ yd, .slice (some ⟨W5.heap.size, 0, none⟩) 1 1, .slice (restA yK yd at_) (ym - at_) (yd - at_)] 31)
        rw [World.size_alloc] at this
        rw [hW7]
        exact this
      have hk7 := hk3.below hbw
      have hsumE : sumN [Prt.mk yK at_ yd ((ks.take at_).flatMap KV.cells), Prt.mk (some ⟨W5.heap.size, 0, none⟩) 1 1 kx.cells, Prt.mk (restA yK yd at_) (ym - at_) (yd - at_) ((ks.drop at_).flatMap KV.cells)] = ym + 1 := by simp only [sumN]; omega
      have hcatE : catV [Prt.mk yK at_ yd ((ks.take at_).flatMap KV.cells), Prt.mk (some ⟨W5.heap.size, 0, none⟩) 1 1 kx.cells, Prt.mk (restA yK yd at_) (ym - at_) (yd - at_) ((ks.drop at_).flatMap KV.cells)] = (ks.take at_ ++ kx :: ks.drop at_).flatMap KV.cells := by
        simp only [catV, List.flatMap_append, List.flatMap_cons, List.append_nil]
      have := concatN W7 (W5.heap.size + 1) 3 3 [Prt.mk yK at_ yd ((ks.take at_).flatMap KV.cells), Prt.mk (some ⟨W5.heap.size, 0, none⟩) 1 1 kx.cells, Prt.mk (restA yK yd at_) (ym - at_) (yd - at_) ((ks.drop at_).flatMap KV.cells)] rfl (by decide) (fun i p hp => by
        rw [add_zero_off]
        match i, hp with
        | 0, hp => injection hp with hp; subst hp; exact cell_of_row W7 _ 0 _ _ _ g3
        | 1, hp => injection hp with hp; subst hp; exact cell_of_row W7 _ 1 _ _ _ g3
        | 2, hp => injection hp with hp; subst hp; exact cell_of_row W7 _ 2 _ _ _ g3
        | i + 3, hp => simp at hp) (by omega) (fun p hp => by
        simp only [List.mem_cons, List.not_mem_nil, or_false] at hp
        rcases hp with rfl | rfl | rfl
        · exact hk7.take hk4 hatm2
        · refine ⟨rfl, ?_, fun j u hj => ⟨⟨W5.heap.size, 0, none⟩, rfl, by show W5.heap.size < _; omega, ?_⟩, fun e => (by cases e), Nat.le_refl _, (show (1 : Nat) ≤ 100000 by omega)⟩
          · have := KV.one [kx]
            simpa using this
          · rw [add_zero_off]
            refine (cell_of_row W7 W5.heap.size j _ _ _ g2).trans ?_
            have hj2 : kx.cells[j]? = some u := hj
            rw [hkx] at hj2
            rw [← Array.getElem?_toList]
            exact hj2
        · exact hk7.drop hk4 hatm2) (by rw [hsumE]; omega)
      rw [hsumE, hcatE, hs7] at this
      refine this.mono ?_
      rintro e w8 ⟨v8, rfl, ho8, hb8⟩
      exact ⟨v8, rfl, ho8, hb57.trans (hb8.mono (by omega))⟩)
  clear hW5 hb9 hW3 hk1 hk2 hk3 hk4
  have r7' := r7.out
  unfold val6 at r7'
  obtain ⟨p0, p1, p2, p3, p4, p5, pf⟩ := six_cells r9.out
  obtain ⟨q0, q1, q2, q3, q4, q5, qf⟩ := six_cells r7'
  clear r7'
  have hlt9 : b9 < W5.heap.size := (Array.getElem?_eq_some_iff.1 r9.out).1
  have hlt7 : w.heap.size + 1 < W5.heap.size := (Array.getElem?_eq_some_iff.1 r7.out).1
  have hne9 : b9 ≠ W5.heap.size := by omega
  have hne7 : w.heap.size + 1 ≠ W5.heap.size := by omega
  have hatm : (at_ : Int) ≤ (yd : Int) := by omega
  have hatn : (at_ : Int) ≤ (ym : Int) := by omega
  have hat0 : (0 : Int) ≤ (at_ : Int) := by omega
  have ho5 := Lib.hid o5
  have hs5 := Lib.hid s5
  have hz5w := Lib.hid z5w
  have hz1b := Lib.hid z1b
  clear o5 s5 z5w z1b
  unfold maxLen at hycm
  cases yK with
  | none =>
    obtain rfl : yd = 0 := hynil.out rfl
    obtain rfl : ym = 0 := by omega
    obtain rfl : at_ = 0 := by omega
    have hS : Hid (∀ W : World, Below W5.heap.size W5 W → Below W5.heap.size W5 W ∧ W.cell? ⟨b9, 5, none⟩ = some (.slice none 0 0) ∧ W.cell? ⟨w.heap.size + 1, 0, none⟩ = some (.int .u64 (x.id : Int)) ∧ W.cell? ⟨w.heap.size + 1, 1, none⟩ = some (.bool x.leaf) ∧ W.cell? ⟨w.heap.size + 1, 2, none⟩ = some (.string ⟨x.label.toArray⟩) ∧ W.cell? ⟨w.heap.size + 1, 3, none⟩ = some (.slice xA xn xc) ∧ W.cell? ⟨w.heap.size + 1, 4, none⟩ = some (.string ⟨x.text.toArray⟩) ∧ W.cell? ⟨w.heap.size + 1, 5, none⟩ = some (.slice xK xm xd)) := fun W hb => ⟨hb, (hb.cell (p := ⟨b9, 5, none⟩) hlt9).trans p5, (hb.cell (p := ⟨w.heap.size + 1, 0, none⟩) hlt7).trans q0, (hb.cell (p := ⟨w.heap.size + 1, 1, none⟩) hlt7).trans q1, (hb.cell (p := ⟨w.heap.size + 1, 2, none⟩) hlt7).trans q2, (hb.cell (p := ⟨w.heap.size + 1, 3, none⟩) hlt7).trans q3, (hb.cell (p := ⟨w.heap.size + 1, 4, none⟩) hlt7).trans q4, (hb.cell (p := ⟨w.heap.size + 1, 5, none⟩) hlt7).trans q5⟩
    clear p0 p1 p2 p3 p4 p5 pf q0 q1 q2 q3 q4 q5 qf
    refine wp_region_L (fun w' => Below W5.heap.size W5 w' ∧ w'.cell? ⟨b9, 5, none⟩ = some (.slice none 0 0) ∧ w'.cell? ⟨w.heap.size + 1, 0, none⟩ = some (.int .u64 (x.id : Int)) ∧ w'.cell? ⟨w.heap.size + 1, 1, none⟩ = some (.bool x.leaf) ∧ w'.cell? ⟨w.heap.size + 1, 2, none⟩ = some (.string ⟨x.label.toArray⟩) ∧ w'.cell? ⟨w.heap.size + 1, 3, none⟩ = some (.slice xA xn xc) ∧ w'.cell? ⟨w.heap.size + 1, 4, none⟩ = some (.string ⟨x.text.toArray⟩) ∧ w'.cell? ⟨w.heap.size + 1, 5, none⟩ = some (.slice xK xm xd)) 13 rfl (hS.out _ (Below.refl W5.heap.size W5).drew) (fun hHeld => ?_)
    refine wpAnyL_take (i := 0) (oi := { dst := some 17, op := Go.Op.fieldAddr 33 (Go.Operand.tmp 9) 5, type := 0, pos := "done.go:58", after := #[], guard := none }) (v := ?_) rfl (by kernel_rfl) (by kernel_rfl) (by kernel_rfl) (by kernel_rfl) (fun _ _ _ h => h) (Or.inl ⟨by rfl, ?_⟩) hHeld ?_
    rotate_left 1
    · intro w hSw; (try dsimp only at hSw); obtain ⟨-, s5, s0, s1, s2, s3, s4, s6⟩ := hSw; go_simp; try with_reducible rfl
    try simp only [Act.put, List.setIfInBounds_toArray, List.set_cons_zero, List.set_cons_succ]
    refine wpAnyL_take (i := 1) (oi := { dst := some 18, op := Go.Op.load 31 (Go.Operand.tmp 17), type := 31, pos := "done.go:58", after := #[{ on := 0, ground := Go.Ground.data }], guard := none }) (v := ?_) rfl (by kernel_rfl) (by kernel_rfl) (by kernel_rfl) (by kernel_rfl) (fun _ _ _ h => h) (Or.inl ⟨by rfl, ?_⟩) hHeld ?_
    rotate_left 1
    · intro w hSw; (try dsimp only at hSw); obtain ⟨-, s5, s0, s1, s2, s3, s4, s6⟩ := hSw; go_simp; try with_reducible rfl
    try simp only [Act.put, List.setIfInBounds_toArray, List.set_cons_zero, List.set_cons_succ]
    refine wpAnyL_take (i := 2) (oi := { dst := some 19, op := Go.Op.move (Go.Operand.tmp 2), type := 3, pos := "done.go:58", after := #[], guard := none }) (v := ?_) rfl (by kernel_rfl) (by kernel_rfl) (by kernel_rfl) (by kernel_rfl) (fun _ _ _ h => h) (Or.inl ⟨by rfl, ?_⟩) hHeld ?_
    rotate_left 1
    · intro w hSw; (try dsimp only at hSw); obtain ⟨-, s5, s0, s1, s2, s3, s4, s6⟩ := hSw; go_simp; try with_reducible rfl
    try simp only [Act.put, List.setIfInBounds_toArray, List.set_cons_zero, List.set_cons_succ]
    refine wpAnyL_take (i := 3) (oi := { dst := some 20, op := Go.Op.slice 31 (Go.Operand.tmp 18) none (some (Go.Operand.tmp 19)) none, type := 31, pos := "done.go:58", after := #[{ on := 1, ground := Go.Ground.data }, { on := 2, ground := Go.Ground.data }], guard := none }) (v := ?_) rfl (by kernel_rfl) (by kernel_rfl) (by kernel_rfl) (by kernel_rfl) (fun _ _ _ h => h) (Or.inl ⟨by rfl, ?_⟩) hHeld ?_
    rotate_left 1
    · intro w hSw; (try dsimp only at hSw); obtain ⟨-, s5, s0, s1, s2, s3, s4, s6⟩ := hSw; go_simp; try with_reducible rfl
    try simp only [Act.put, List.setIfInBounds_toArray, List.set_cons_zero, List.set_cons_succ]
    refine wpAnyL_take (i := 4) (oi := { dst := some 21, op := Go.Op.load 33 (Go.Operand.tmp 7), type := 33, pos := "done.go:58", after := #[], guard := none }) (v := ?_) rfl (by kernel_rfl) (by kernel_rfl) (by kernel_rfl) (by kernel_rfl) (fun _ _ _ h => h) (Or.inl ⟨by rfl, ?_⟩) hHeld ?_
    rotate_left 1
    · intro w hSw; (try dsimp only at hSw); obtain ⟨-, s5, s0, s1, s2, s3, s4, s6⟩ := hSw; go_simp; try with_reducible rfl
    try simp only [Act.put, List.setIfInBounds_toArray, List.set_cons_zero, List.set_cons_succ]
    refine wpAnyL_take (i := 6) (oi := { dst := some 23, op := Go.Op.fieldAddr 33 (Go.Operand.tmp 9) 5, type := 0, pos := "done.go:58", after := #[], guard := none }) (v := ?_) rfl (by kernel_rfl) (by kernel_rfl) (by kernel_rfl) (by kernel_rfl) (fun _ _ _ h => h) (Or.inl ⟨by rfl, ?_⟩) hHeld ?_
    rotate_left 1
    · intro w hSw; (try dsimp only at hSw); obtain ⟨-, s5, s0, s1, s2, s3, s4, s6⟩ := hSw; go_simp; try with_reducible rfl
    try simp only [Act.put, List.setIfInBounds_toArray, List.set_cons_zero, List.set_cons_succ]
    refine wpAnyL_take (i := 7) (oi := { dst := some 24, op := Go.Op.load 31 (Go.Operand.tmp 23), type := 31, pos := "done.go:58", after := #[{ on := 6, ground := Go.Ground.data }], guard := none }) (v := ?_) rfl (by kernel_rfl) (by kernel_rfl) (by kernel_rfl) (by kernel_rfl) (fun _ _ _ h => h) (Or.inl ⟨by rfl, ?_⟩) hHeld ?_
    rotate_left 1
    · intro w hSw; (try dsimp only at hSw); obtain ⟨-, s5, s0, s1, s2, s3, s4, s6⟩ := hSw; go_simp; try with_reducible rfl
    try simp only [Act.put, List.setIfInBounds_toArray, List.set_cons_zero, List.set_cons_succ]
    refine wpAnyL_take (i := 8) (oi := { dst := some 25, op := Go.Op.move (Go.Operand.tmp 2), type := 3, pos := "done.go:58", after := #[], guard := none }) (v := ?_) rfl (by kernel_rfl) (by kernel_rfl) (by kernel_rfl) (by kernel_rfl) (fun _ _ _ h => h) (Or.inl ⟨by rfl, ?_⟩) hHeld ?_
    rotate_left 1
    · intro w hSw; (try dsimp only at hSw); obtain ⟨-, s5, s0, s1, s2, s3, s4, s6⟩ := hSw; go_simp; try with_reducible rfl
    try simp only [Act.put, List.setIfInBounds_toArray, List.set_cons_zero, List.set_cons_succ]
    refine wpAnyL_take (i := 9) (oi := { dst := some 26, op := Go.Op.slice 31 (Go.Operand.tmp 24) (some (Go.Operand.tmp 25)) none none, type := 31, pos := "done.go:58", after := #[{ on := 7, ground := Go.Ground.data }, { on := 8, ground := Go.Ground.data }], guard := none }) (v := ?_) rfl (by kernel_rfl) (by kernel_rfl) (by kernel_rfl) (by kernel_rfl) (fun _ _ _ h => h) (Or.inl ⟨by rfl, ?_⟩) hHeld ?_
    rotate_left 1
    · intro w hSw; (try dsimp only at hSw); obtain ⟨-, s5, s0, s1, s2, s3, s4, s6⟩ := hSw; go_simp; try with_reducible rfl
    try simp only [Act.put, List.setIfInBounds_toArray, List.set_cons_zero, List.set_cons_succ]
    refine wpAnyL_one (i := 5) (o := { dst := some 22, op := Go.Op.buildSlice 31 1 #[(0, Go.Operand.tmp 21)], type := 31, pos := "done.go:58", after := #[{ on := 4, ground := Go.Ground.data }], guard := none }) (by kernel_rfl) rfl (by decide) (fun K hK => ?_)
    go_simp
    refine hK.out _ _ ?_ (fun hNew => ?_)
    · exact hS.out _ (hHeld.1.alloc hHeld.1.size _)
    clear hK K hHeld
    have hHeld := hNew
    clear hNew
    try simp only [Act.put, List.setIfInBounds_toArray, List.set_cons_zero, List.set_cons_succ]
    refine wpAnyL_one (i := 10) (o := { dst := some 27, op := Go.Op.buildSlice 94 3 #[(0, Go.Operand.tmp 20), (1, Go.Operand.tmp 22), (2, Go.Operand.tmp 26)], type := 94, pos := "done.go:58", after := #[{ on := 3, ground := Go.Ground.data }, { on := 5, ground := Go.Ground.data }, { on := 9, ground := Go.Ground.data }], guard := none }) (by kernel_rfl) rfl (by decide) (fun K hK => ?_)
    go_simp
    refine hK.out _ _ ?_ (fun hNew => ?_)
    · exact hS.out _ (hHeld.1.alloc hHeld.1.size _)
    clear hK K hHeld
    have hHeld := hNew
    clear hNew
    try simp only [Act.put, List.setIfInBounds_toArray, List.set_cons_zero, List.set_cons_succ]
    refine wpAnyL_one (i := 11) (o := { dst := some 28, op := Go.Op.call { callee := Go.Callee.value (Go.Operand.func 95), args := #[Go.Operand.tmp 27], argTypes := #[94] }, type := 31, pos := "done.go:58", after := #[{ on := 10, ground := Go.Ground.data }], guard := none }) (by kernel_rfl) rfl (by decide) (fun K hK => ?_)
    go_simp
    refine (hcat.out _ _ _ ⟨rfl, rfl, rfl⟩).mono ?_
    rintro e w8 ⟨v8, rfl, ho8, hb8⟩
    obtain ⟨A8, c8, rfl, -⟩ := own_form ho8
    have hb8' := Lib.hid hb8
    have ho8' := Lib.hid ho8
    go_simp
    refine hK.out _ _ ?_ (fun hNew => ?_)
    · exact hS.out _ hb8
    clear hK K hHeld ho8 hb8
    have hHeld := hNew
    clear hNew
    try simp only [Act.put, List.setIfInBounds_toArray, List.set_cons_zero, List.set_cons_succ]
    refine wpAnyL_take (i := 12) (oi := { dst := some 29, op := Go.Op.fieldAddr 33 (Go.Operand.tmp 9) 5, type := 0, pos := "done.go:58", after := #[{ on := 0, ground := Go.Ground.phase }, { on := 1, ground := Go.Ground.phase }, { on := 2, ground := Go.Ground.phase }, { on := 3, ground := Go.Ground.phase }, { on := 4, ground := Go.Ground.phase }, { on := 5, ground := Go.Ground.phase }, { on := 6, ground := Go.Ground.phase }, { on := 7, ground := Go.Ground.phase }, { on := 8, ground := Go.Ground.phase }, { on := 9, ground := Go.Ground.phase }, { on := 10, ground := Go.Ground.phase }, { on := 11, ground := Go.Ground.phase }], guard := none }) (v := ?_) rfl (by kernel_rfl) (by kernel_rfl) (by kernel_rfl) (by kernel_rfl) (fun _ _ _ h => h) (Or.inl ⟨by rfl, ?_⟩) hHeld ?_
    rotate_left 1
    · intro w hSw; go_simp; try with_reducible rfl
    try simp only [Act.put, List.setIfInBounds_toArray, List.set_cons_zero, List.set_cons_succ]
    have g9 := Lib.hid ((hb8'.out.block b9 hlt9).trans r9.out)
    clear hHeld hS
    obtain ⟨p0, p1, p2, p3, p4, p5, pf⟩ := six_cells g9.out
    refine wpAnyL_last (o := { dst := none, op := Go.Op.store 31 (Go.Operand.tmp 29) (Go.Operand.tmp 28), type := 0, pos := "done.go:58", after := #[{ on := 12, ground := Go.Ground.data }, { on := 11, ground := Go.Ground.data }, { on := 11, ground := Go.Ground.chain }, { on := 0, ground := Go.Ground.phase }, { on := 1, ground := Go.Ground.phase }, { on := 2, ground := Go.Ground.phase }, { on := 3, ground := Go.Ground.phase }, { on := 4, ground := Go.Ground.phase }, { on := 5, ground := Go.Ground.phase }, { on := 6, ground := Go.Ground.phase }, { on := 7, ground := Go.Ground.phase }, { on := 8, ground := Go.Ground.phase }, { on := 9, ground := Go.Ground.phase }, { on := 10, ground := Go.Ground.phase }, { on := 11, ground := Go.Ground.phase }], guard := none }) (by kernel_rfl) rfl (fun K hK => ?_)
    go_simp
    refine hK _ _ ?_
    clear hK K
    try simp only [Act.put, List.setIfInBounds_toArray, List.set_cons_zero, List.set_cons_succ]
    refine wpAny_done (by kernel_rfl) ?_ _
    refine hK0 _ _ ?_
    have hmid := Lib.hid (putIn_mid (W3 := W3) (b9 := b9) (n := (0 + 1)) (c8 := c8) (at_ := 0) hT'.out (by have := z5'.out; omega) hz1b.out hb9'.out hs5.out ho5.out hb8'.out hny'.out hkt.out hkok.out (hhx.out w8 (b5.out.trans (hb8'.out.mono b5.out.size))) kx hkx ho8'.out (by rw [List.length_append, List.length_cons, List.length_take, List.length_drop, hkl.out]; omega))
    have hb86 := Lib.hid ((b5.out.trans (hb8'.out.mono b5.out.size)).setCell (p := ⟨b9, 5, none⟩) (by show w.heap.size ≤ b9; have := z5'.out; have := hz1b.out; have := hb9'.out; omega) (.slice A8 (0 + 1) c8))
    have hW6s : (w8.setCell ⟨b9, 5, none⟩ (.slice A8 (0 + 1) c8)).heap.size = w8.heap.size := by simp [World.setCell]
    have hT6 : ∀ k, But1 T W3 (w8.setCell ⟨b9, 5, none⟩ (.slice A8 (0 + 1) c8)) b9 k → k < (w8.setCell ⟨b9, 5, none⟩ (.slice A8 (0 + 1) c8)).heap.size := fun k hk => by
      rcases hk with hk | hk
      · have := hT'.out k hk; have := hb86.out.size; omega
      · exact hk.2.1
    have hputc := Lib.hid (tput_T _ _ hT6 t (y.withKids (insK 0 x y.kids)) aA kA yA A8 an ac kn kc yn yc (0 + 1) c8 (NodeV.kept (fun k hk => .inl hk) (fun _ _ => rfl) _ _ _ _ _ _ _ (hh.out _ hb86.out)) hmid.out pA pn pc p (hp'.out.below hb86.out) hpn'.out (by have := hbig'.out; omega) (by have h1 := weighV_with y (insK 0 x y.kids); have h2 := weighs_ins 0 x y.kids; have h3 := hbig'.out; have h4 := hbigx'.out; omega))
    have G9 := Lib.hid (show (w8.setCell ⟨b9, 5, none⟩ (.slice A8 (0 + 1) c8)).heap[b9]? = some (.cells #[.int .u64 (y.id : Int), .bool y.leaf, .string ⟨y.label.toArray⟩, .slice yA yn yc, .string ⟨y.text.toArray⟩, .slice A8 (0 + 1) c8] 33 (0, 0)) from heap_setCell_same w8 b9 5 _ _ _ g9.out)
    have G4 := Lib.hid (show (w8.setCell ⟨b9, 5, none⟩ (.slice A8 (0 + 1) c8)).heap[w.heap.size]? = some (.cells (val6 t aA an ac kA kn kc) 33 (0, 0)) from (heap_setCell_other _ _ _ _ (by show w.heap.size ≠ b9; have := z5'.out; have := hz1b.out; have := hb9'.out; omega)).trans ((hb8'.out.block _ (by have := z5'.out; have := hz1b.out; have := hb9'.out; have := hs5.out; omega)).trans r4.out))
    have G8 := Lib.hid (show (w8.setCell ⟨b9, 5, none⟩ (.slice A8 (0 + 1) c8)).heap[w.heap.size + 1 + 1]? = some (.cells zero6 33 (0, 0)) from (heap_setCell_other _ _ _ _ (by show w.heap.size + 1 + 1 ≠ b9; have := z5'.out; have := hz1b.out; have := hb9'.out; omega)).trans ((hb8'.out.block _ (by have := z5'.out; have := hz1b.out; have := hb9'.out; have := hs5.out; omega)).trans r8.out))
    obtain ⟨W6, hW6⟩ : ∃ W6, W6 = w8.setCell ⟨b9, 5, none⟩ (.slice A8 ((0 + 1)) c8) := ⟨_, rfl⟩
    have G9' := G9.out
    have G4' := G4.out
    have G8' := G8.out
    unfold val6 at G4'
    rw [← hW6] at hputc hb86 G9' G4' G8' hmid
    have hputc' := hputc.out
    unfold val6 at hputc'
    obtain ⟨we1, we2, we3, we4, -⟩ := with_id y (insK 0 x y.kids)
    rw [we1, we2, we3, we4] at hputc'
    clear we1 we2 we3 we4
    have hpc := Lib.hid hputc'
    have G8w := Lib.hid G8'
    have hbW := Lib.hid hb86.out
    first
      | rw [← hW6]
      | (rw [show (Value.slice A8 1 c8) = .slice A8 (0 + 1) c8 from rfl, ← hW6])
    have hW6s' := Lib.hid (show W6.heap.size = w8.heap.size by rw [hW6]; exact hW6s)
    clear hW6s hT6
    have hnW : w.heap.size + 1 + 1 < W6.heap.size := (Array.getElem?_eq_some_iff.1 G8').1
    obtain ⟨p0, p1, p2, p3, p4, p5, pf⟩ := six_cells G9'
    obtain ⟨q0, q1, q2, q3, q4, q5, qf⟩ := six_cells G4'
    have hW6' := Lib.hid hW6
    clear hputc' hputc G9 G4 G8 G9' G4' G8' hb86 hatc hW6 hcat hmid
    go_wp2_with (go_at_call 85; go_loud (refine hpc.out.mono ?_; rintro e w9 ⟨zA, zn, zc, zK, zm, zd, rfl, hz, hbz⟩; have r3 := (hbz.block _ hnW).trans G8w.out; have hr := Lib.hid r3; have hz' := Lib.hid hz; have hbz' := Lib.hid hbz; unfold zero6 at r3; clear p0 p1 p2 p3 p4 p5 pf q0 q1 q2 q3 q4 q5 qf; obtain ⟨q0, q1, q2, q3, q4, q5, qf⟩ := six_cells r3; have hne : w.heap.size + 1 + 1 < w9.heap.size := (Array.getElem?_eq_some_iff.1 r3).1; have hne2 : w9.heap.size ≠ w.heap.size + 1 + 1 := (by omega); have hne3 : w.heap.size + 1 + 1 ≠ w9.heap.size := (by omega); unfold val6; clear hz hbz r3))
    obtain ⟨a, ha⟩ : ∃ a, a = (putV t p (y.withKids (insK 0 x y.kids))).getD Nd.zero := ⟨_, rfl⟩
    rw [← ha] at hz' ⊢
    obtain ⟨W9, hW9, R9, N9, B9⟩ := end_node0 hT'.out (r := w.heap.size + 1 + 1) (b := W3.heap.size) (by omega) (by have := z5'.out; omega) (hbW.out.trans (hbz'.out.mono hbW.out.size)) hr.out (hz'.out.kept (fun k hk => by
      have hs := hbz'.out.size
      rcases hk with hk | hk
      · rcases hk with hk | hk
        · exact .inl hk
        · exact .inr ⟨hk.1, by have h2 := hk.2.1; omega⟩
      · exact .inr ⟨by have h2 := hW6s'.out; have := hb8'.out.size; have := hs5.out; have := hz1b.out; have := hb9'.out; omega, hk.2⟩) (fun _ _ => rfl))
    rw [← hW9]
    unfold val6 at R9
    obtain ⟨d0, d1, d2, d3, d4, d5, df⟩ := six_cells R9
    refine bodyPost_ret (v := .agg (val6 a zA zn zc zK zm zd)) (by simp [results, Try.results80, go_sem, d0, d1, d2, d3, d4, d5, val6]) rfl ?_
    exact ⟨zA, zn, zc, zK, zm, zd, rfl, N9, B9⟩
  | some ky =>
    by_cases hdc : yd = at_
    · subst hdc
      obtain rfl : ym = yd := by omega
      have hS : Hid (∀ W : World, Below W5.heap.size W5 W → Below W5.heap.size W5 W ∧ W.cell? ⟨b9, 5, none⟩ = some (.slice (some ky) ym ym) ∧ W.cell? ⟨w.heap.size + 1, 0, none⟩ = some (.int .u64 (x.id : Int)) ∧ W.cell? ⟨w.heap.size + 1, 1, none⟩ = some (.bool x.leaf) ∧ W.cell? ⟨w.heap.size + 1, 2, none⟩ = some (.string ⟨x.label.toArray⟩) ∧ W.cell? ⟨w.heap.size + 1, 3, none⟩ = some (.slice xA xn xc) ∧ W.cell? ⟨w.heap.size + 1, 4, none⟩ = some (.string ⟨x.text.toArray⟩) ∧ W.cell? ⟨w.heap.size + 1, 5, none⟩ = some (.slice xK xm xd)) := fun W hb => ⟨hb, (hb.cell (p := ⟨b9, 5, none⟩) hlt9).trans p5, (hb.cell (p := ⟨w.heap.size + 1, 0, none⟩) hlt7).trans q0, (hb.cell (p := ⟨w.heap.size + 1, 1, none⟩) hlt7).trans q1, (hb.cell (p := ⟨w.heap.size + 1, 2, none⟩) hlt7).trans q2, (hb.cell (p := ⟨w.heap.size + 1, 3, none⟩) hlt7).trans q3, (hb.cell (p := ⟨w.heap.size + 1, 4, none⟩) hlt7).trans q4, (hb.cell (p := ⟨w.heap.size + 1, 5, none⟩) hlt7).trans q5⟩
      clear p0 p1 p2 p3 p4 p5 pf q0 q1 q2 q3 q4 q5 qf
      refine wp_region_L (fun w' => Below W5.heap.size W5 w' ∧ w'.cell? ⟨b9, 5, none⟩ = some (.slice (some ky) ym ym) ∧ w'.cell? ⟨w.heap.size + 1, 0, none⟩ = some (.int .u64 (x.id : Int)) ∧ w'.cell? ⟨w.heap.size + 1, 1, none⟩ = some (.bool x.leaf) ∧ w'.cell? ⟨w.heap.size + 1, 2, none⟩ = some (.string ⟨x.label.toArray⟩) ∧ w'.cell? ⟨w.heap.size + 1, 3, none⟩ = some (.slice xA xn xc) ∧ w'.cell? ⟨w.heap.size + 1, 4, none⟩ = some (.string ⟨x.text.toArray⟩) ∧ w'.cell? ⟨w.heap.size + 1, 5, none⟩ = some (.slice xK xm xd)) 13 rfl (hS.out _ (Below.refl W5.heap.size W5).drew) (fun hHeld => ?_)
      refine wpAnyL_take (i := 0) (oi := { dst := some 17, op := Go.Op.fieldAddr 33 (Go.Operand.tmp 9) 5, type := 0, pos := "done.go:58", after := #[], guard := none }) (v := ?_) rfl (by kernel_rfl) (by kernel_rfl) (by kernel_rfl) (by kernel_rfl) (fun _ _ _ h => h) (Or.inl ⟨by rfl, ?_⟩) hHeld ?_
      rotate_left 1
      · intro w hSw; (try dsimp only at hSw); obtain ⟨-, s5, s0, s1, s2, s3, s4, s6⟩ := hSw; go_simp; try with_reducible rfl
      try simp only [Act.put, List.setIfInBounds_toArray, List.set_cons_zero, List.set_cons_succ]
      refine wpAnyL_take (i := 1) (oi := { dst := some 18, op := Go.Op.load 31 (Go.Operand.tmp 17), type := 31, pos := "done.go:58", after := #[{ on := 0, ground := Go.Ground.data }], guard := none }) (v := ?_) rfl (by kernel_rfl) (by kernel_rfl) (by kernel_rfl) (by kernel_rfl) (fun _ _ _ h => h) (Or.inl ⟨by rfl, ?_⟩) hHeld ?_
      rotate_left 1
      · intro w hSw; (try dsimp only at hSw); obtain ⟨-, s5, s0, s1, s2, s3, s4, s6⟩ := hSw; go_simp; try with_reducible rfl
      try simp only [Act.put, List.setIfInBounds_toArray, List.set_cons_zero, List.set_cons_succ]
      refine wpAnyL_take (i := 2) (oi := { dst := some 19, op := Go.Op.move (Go.Operand.tmp 2), type := 3, pos := "done.go:58", after := #[], guard := none }) (v := ?_) rfl (by kernel_rfl) (by kernel_rfl) (by kernel_rfl) (by kernel_rfl) (fun _ _ _ h => h) (Or.inl ⟨by rfl, ?_⟩) hHeld ?_
      rotate_left 1
      · intro w hSw; (try dsimp only at hSw); obtain ⟨-, s5, s0, s1, s2, s3, s4, s6⟩ := hSw; go_simp; try with_reducible rfl
      try simp only [Act.put, List.setIfInBounds_toArray, List.set_cons_zero, List.set_cons_succ]
      refine wpAnyL_take (i := 3) (oi := { dst := some 20, op := Go.Op.slice 31 (Go.Operand.tmp 18) none (some (Go.Operand.tmp 19)) none, type := 31, pos := "done.go:58", after := #[{ on := 1, ground := Go.Ground.data }, { on := 2, ground := Go.Ground.data }], guard := none }) (v := ?_) rfl (by kernel_rfl) (by kernel_rfl) (by kernel_rfl) (by kernel_rfl) (fun _ _ _ h => h) (Or.inl ⟨by rfl, ?_⟩) hHeld ?_
      rotate_left 1
      · intro w hSw; (try dsimp only at hSw); obtain ⟨-, s5, s0, s1, s2, s3, s4, s6⟩ := hSw; go_simp; try with_reducible rfl
      try simp only [Act.put, List.setIfInBounds_toArray, List.set_cons_zero, List.set_cons_succ]
      refine wpAnyL_take (i := 4) (oi := { dst := some 21, op := Go.Op.load 33 (Go.Operand.tmp 7), type := 33, pos := "done.go:58", after := #[], guard := none }) (v := ?_) rfl (by kernel_rfl) (by kernel_rfl) (by kernel_rfl) (by kernel_rfl) (fun _ _ _ h => h) (Or.inl ⟨by rfl, ?_⟩) hHeld ?_
      rotate_left 1
      · intro w hSw; (try dsimp only at hSw); obtain ⟨-, s5, s0, s1, s2, s3, s4, s6⟩ := hSw; go_simp; try with_reducible rfl
      try simp only [Act.put, List.setIfInBounds_toArray, List.set_cons_zero, List.set_cons_succ]
      refine wpAnyL_take (i := 6) (oi := { dst := some 23, op := Go.Op.fieldAddr 33 (Go.Operand.tmp 9) 5, type := 0, pos := "done.go:58", after := #[], guard := none }) (v := ?_) rfl (by kernel_rfl) (by kernel_rfl) (by kernel_rfl) (by kernel_rfl) (fun _ _ _ h => h) (Or.inl ⟨by rfl, ?_⟩) hHeld ?_
      rotate_left 1
      · intro w hSw; (try dsimp only at hSw); obtain ⟨-, s5, s0, s1, s2, s3, s4, s6⟩ := hSw; go_simp; try with_reducible rfl
      try simp only [Act.put, List.setIfInBounds_toArray, List.set_cons_zero, List.set_cons_succ]
      refine wpAnyL_take (i := 7) (oi := { dst := some 24, op := Go.Op.load 31 (Go.Operand.tmp 23), type := 31, pos := "done.go:58", after := #[{ on := 6, ground := Go.Ground.data }], guard := none }) (v := ?_) rfl (by kernel_rfl) (by kernel_rfl) (by kernel_rfl) (by kernel_rfl) (fun _ _ _ h => h) (Or.inl ⟨by rfl, ?_⟩) hHeld ?_
      rotate_left 1
      · intro w hSw; (try dsimp only at hSw); obtain ⟨-, s5, s0, s1, s2, s3, s4, s6⟩ := hSw; go_simp; try with_reducible rfl
      try simp only [Act.put, List.setIfInBounds_toArray, List.set_cons_zero, List.set_cons_succ]
      refine wpAnyL_take (i := 8) (oi := { dst := some 25, op := Go.Op.move (Go.Operand.tmp 2), type := 3, pos := "done.go:58", after := #[], guard := none }) (v := ?_) rfl (by kernel_rfl) (by kernel_rfl) (by kernel_rfl) (by kernel_rfl) (fun _ _ _ h => h) (Or.inl ⟨by rfl, ?_⟩) hHeld ?_
      rotate_left 1
      · intro w hSw; (try dsimp only at hSw); obtain ⟨-, s5, s0, s1, s2, s3, s4, s6⟩ := hSw; go_simp; try with_reducible rfl
      try simp only [Act.put, List.setIfInBounds_toArray, List.set_cons_zero, List.set_cons_succ]
      refine wpAnyL_take (i := 9) (oi := { dst := some 26, op := Go.Op.slice 31 (Go.Operand.tmp 24) (some (Go.Operand.tmp 25)) none none, type := 31, pos := "done.go:58", after := #[{ on := 7, ground := Go.Ground.data }, { on := 8, ground := Go.Ground.data }], guard := none }) (v := ?_) rfl (by kernel_rfl) (by kernel_rfl) (by kernel_rfl) (by kernel_rfl) (fun _ _ _ h => h) (Or.inl ⟨by rfl, ?_⟩) hHeld ?_
      rotate_left 1
      · intro w hSw; (try dsimp only at hSw); obtain ⟨-, s5, s0, s1, s2, s3, s4, s6⟩ := hSw; go_simp; try with_reducible rfl
      try simp only [Act.put, List.setIfInBounds_toArray, List.set_cons_zero, List.set_cons_succ]
      refine wpAnyL_one (i := 5) (o := { dst := some 22, op := Go.Op.buildSlice 31 1 #[(0, Go.Operand.tmp 21)], type := 31, pos := "done.go:58", after := #[{ on := 4, ground := Go.Ground.data }], guard := none }) (by kernel_rfl) rfl (by decide) (fun K hK => ?_)
      go_simp
      refine hK.out _ _ ?_ (fun hNew => ?_)
      · exact hS.out _ (hHeld.1.alloc hHeld.1.size _)
      clear hK K hHeld
      have hHeld := hNew
      clear hNew
      try simp only [Act.put, List.setIfInBounds_toArray, List.set_cons_zero, List.set_cons_succ]
      refine wpAnyL_one (i := 10) (o := { dst := some 27, op := Go.Op.buildSlice 94 3 #[(0, Go.Operand.tmp 20), (1, Go.Operand.tmp 22), (2, Go.Operand.tmp 26)], type := 94, pos := "done.go:58", after := #[{ on := 3, ground := Go.Ground.data }, { on := 5, ground := Go.Ground.data }, { on := 9, ground := Go.Ground.data }], guard := none }) (by kernel_rfl) rfl (by decide) (fun K hK => ?_)
      go_simp
      refine hK.out _ _ ?_ (fun hNew => ?_)
      · exact hS.out _ (hHeld.1.alloc hHeld.1.size _)
      clear hK K hHeld
      have hHeld := hNew
      clear hNew
      try simp only [Act.put, List.setIfInBounds_toArray, List.set_cons_zero, List.set_cons_succ]
      refine wpAnyL_one (i := 11) (o := { dst := some 28, op := Go.Op.call { callee := Go.Callee.value (Go.Operand.func 95), args := #[Go.Operand.tmp 27], argTypes := #[94] }, type := 31, pos := "done.go:58", after := #[{ on := 10, ground := Go.Ground.data }], guard := none }) (by kernel_rfl) rfl (by decide) (fun K hK => ?_)
      go_simp
      refine (hcat.out _ _ _ ⟨by rw [restA_same], by omega, by omega⟩).mono ?_
      rintro e w8 ⟨v8, rfl, ho8, hb8⟩
      obtain ⟨A8, c8, rfl, -⟩ := own_form ho8
      have hb8' := Lib.hid hb8
      have ho8' := Lib.hid ho8
      go_simp
      refine hK.out _ _ ?_ (fun hNew => ?_)
      · exact hS.out _ hb8
      clear hK K hHeld ho8 hb8
      have hHeld := hNew
      clear hNew
      try simp only [Act.put, List.setIfInBounds_toArray, List.set_cons_zero, List.set_cons_succ]
      refine wpAnyL_take (i := 12) (oi := { dst := some 29, op := Go.Op.fieldAddr 33 (Go.Operand.tmp 9) 5, type := 0, pos := "done.go:58", after := #[{ on := 0, ground := Go.Ground.phase }, { on := 1, ground := Go.Ground.phase }, { on := 2, ground := Go.Ground.phase }, { on := 3, ground := Go.Ground.phase }, { on := 4, ground := Go.Ground.phase }, { on := 5, ground := Go.Ground.phase }, { on := 6, ground := Go.Ground.phase }, { on := 7, ground := Go.Ground.phase }, { on := 8, ground := Go.Ground.phase }, { on := 9, ground := Go.Ground.phase }, { on := 10, ground := Go.Ground.phase }, { on := 11, ground := Go.Ground.phase }], guard := none }) (v := ?_) rfl (by kernel_rfl) (by kernel_rfl) (by kernel_rfl) (by kernel_rfl) (fun _ _ _ h => h) (Or.inl ⟨by rfl, ?_⟩) hHeld ?_
      rotate_left 1
      · intro w hSw; go_simp; try with_reducible rfl
      try simp only [Act.put, List.setIfInBounds_toArray, List.set_cons_zero, List.set_cons_succ]
      have g9 := Lib.hid ((hb8'.out.block b9 hlt9).trans r9.out)
      clear hHeld hS
      obtain ⟨p0, p1, p2, p3, p4, p5, pf⟩ := six_cells g9.out
      refine wpAnyL_last (o := { dst := none, op := Go.Op.store 31 (Go.Operand.tmp 29) (Go.Operand.tmp 28), type := 0, pos := "done.go:58", after := #[{ on := 12, ground := Go.Ground.data }, { on := 11, ground := Go.Ground.data }, { on := 11, ground := Go.Ground.chain }, { on := 0, ground := Go.Ground.phase }, { on := 1, ground := Go.Ground.phase }, { on := 2, ground := Go.Ground.phase }, { on := 3, ground := Go.Ground.phase }, { on := 4, ground := Go.Ground.phase }, { on := 5, ground := Go.Ground.phase }, { on := 6, ground := Go.Ground.phase }, { on := 7, ground := Go.Ground.phase }, { on := 8, ground := Go.Ground.phase }, { on := 9, ground := Go.Ground.phase }, { on := 10, ground := Go.Ground.phase }, { on := 11, ground := Go.Ground.phase }], guard := none }) (by kernel_rfl) rfl (fun K hK => ?_)
      go_simp
      refine hK _ _ ?_
      clear hK K
      try simp only [Act.put, List.setIfInBounds_toArray, List.set_cons_zero, List.set_cons_succ]
      refine wpAny_done (by kernel_rfl) ?_ _
      refine hK0 _ _ ?_
      have hmid := Lib.hid (putIn_mid (W3 := W3) (b9 := b9) (n := (ym + 1)) (c8 := c8) (at_ := ym) hT'.out (by have := z5'.out; omega) hz1b.out hb9'.out hs5.out ho5.out hb8'.out hny'.out hkt.out hkok.out (hhx.out w8 (b5.out.trans (hb8'.out.mono b5.out.size))) kx hkx ho8'.out (by rw [List.length_append, List.length_cons, List.length_take, List.length_drop, hkl.out]; omega))
      have hb86 := Lib.hid ((b5.out.trans (hb8'.out.mono b5.out.size)).setCell (p := ⟨b9, 5, none⟩) (by show w.heap.size ≤ b9; have := z5'.out; have := hz1b.out; have := hb9'.out; omega) (.slice A8 (ym + 1) c8))
      have hW6s : (w8.setCell ⟨b9, 5, none⟩ (.slice A8 (ym + 1) c8)).heap.size = w8.heap.size := by simp [World.setCell]
      have hT6 : ∀ k, But1 T W3 (w8.setCell ⟨b9, 5, none⟩ (.slice A8 (ym + 1) c8)) b9 k → k < (w8.setCell ⟨b9, 5, none⟩ (.slice A8 (ym + 1) c8)).heap.size := fun k hk => by
        rcases hk with hk | hk
        · have := hT'.out k hk; have := hb86.out.size; omega
        · exact hk.2.1
      have hputc := Lib.hid (tput_T _ _ hT6 t (y.withKids (insK ym x y.kids)) aA kA yA A8 an ac kn kc yn yc (ym + 1) c8 (NodeV.kept (fun k hk => .inl hk) (fun _ _ => rfl) _ _ _ _ _ _ _ (hh.out _ hb86.out)) hmid.out pA pn pc p (hp'.out.below hb86.out) hpn'.out (by have := hbig'.out; omega) (by have h1 := weighV_with y (insK ym x y.kids); have h2 := weighs_ins ym x y.kids; have h3 := hbig'.out; have h4 := hbigx'.out; omega))
      have G9 := Lib.hid (show (w8.setCell ⟨b9, 5, none⟩ (.slice A8 (ym + 1) c8)).heap[b9]? = some (.cells #[.int .u64 (y.id : Int), .bool y.leaf, .string ⟨y.label.toArray⟩, .slice yA yn yc, .string ⟨y.text.toArray⟩, .slice A8 (ym + 1) c8] 33 (0, 0)) from heap_setCell_same w8 b9 5 _ _ _ g9.out)
      have G4 := Lib.hid (show (w8.setCell ⟨b9, 5, none⟩ (.slice A8 (ym + 1) c8)).heap[w.heap.size]? = some (.cells (val6 t aA an ac kA kn kc) 33 (0, 0)) from (heap_setCell_other _ _ _ _ (by show w.heap.size ≠ b9; have := z5'.out; have := hz1b.out; have := hb9'.out; omega)).trans ((hb8'.out.block _ (by have := z5'.out; have := hz1b.out; have := hb9'.out; have := hs5.out; omega)).trans r4.out))
      have G8 := Lib.hid (show (w8.setCell ⟨b9, 5, none⟩ (.slice A8 (ym + 1) c8)).heap[w.heap.size + 1 + 1]? = some (.cells zero6 33 (0, 0)) from (heap_setCell_other _ _ _ _ (by show w.heap.size + 1 + 1 ≠ b9; have := z5'.out; have := hz1b.out; have := hb9'.out; omega)).trans ((hb8'.out.block _ (by have := z5'.out; have := hz1b.out; have := hb9'.out; have := hs5.out; omega)).trans r8.out))
      obtain ⟨W6, hW6⟩ : ∃ W6, W6 = w8.setCell ⟨b9, 5, none⟩ (.slice A8 ((ym + 1)) c8) := ⟨_, rfl⟩
      have G9' := G9.out
      have G4' := G4.out
      have G8' := G8.out
      unfold val6 at G4'
      rw [← hW6] at hputc hb86 G9' G4' G8' hmid
      have hputc' := hputc.out
      unfold val6 at hputc'
      obtain ⟨we1, we2, we3, we4, -⟩ := with_id y (insK ym x y.kids)
      rw [we1, we2, we3, we4] at hputc'
      clear we1 we2 we3 we4
      have hpc := Lib.hid hputc'
      have G8w := Lib.hid G8'
      have hbW := Lib.hid hb86.out
      first
        | rw [← hW6]
        | (rw [show (Value.slice A8 1 c8) = .slice A8 (0 + 1) c8 from rfl, ← hW6])
      have hW6s' := Lib.hid (show W6.heap.size = w8.heap.size by rw [hW6]; exact hW6s)
      clear hW6s hT6
      have hnW : w.heap.size + 1 + 1 < W6.heap.size := (Array.getElem?_eq_some_iff.1 G8').1
      obtain ⟨p0, p1, p2, p3, p4, p5, pf⟩ := six_cells G9'
      obtain ⟨q0, q1, q2, q3, q4, q5, qf⟩ := six_cells G4'
      have hW6' := Lib.hid hW6
      clear hputc' hputc G9 G4 G8 G9' G4' G8' hb86 hatc hW6 hcat hmid
      go_wp2_with (go_at_call 85; go_loud (refine hpc.out.mono ?_; rintro e w9 ⟨zA, zn, zc, zK, zm, zd, rfl, hz, hbz⟩; have r3 := (hbz.block _ hnW).trans G8w.out; have hr := Lib.hid r3; have hz' := Lib.hid hz; have hbz' := Lib.hid hbz; unfold zero6 at r3; clear p0 p1 p2 p3 p4 p5 pf q0 q1 q2 q3 q4 q5 qf; obtain ⟨q0, q1, q2, q3, q4, q5, qf⟩ := six_cells r3; have hne : w.heap.size + 1 + 1 < w9.heap.size := (Array.getElem?_eq_some_iff.1 r3).1; have hne2 : w9.heap.size ≠ w.heap.size + 1 + 1 := (by omega); have hne3 : w.heap.size + 1 + 1 ≠ w9.heap.size := (by omega); unfold val6; clear hz hbz r3))
      obtain ⟨a, ha⟩ : ∃ a, a = (putV t p (y.withKids (insK ym x y.kids))).getD Nd.zero := ⟨_, rfl⟩
      rw [← ha] at hz' ⊢
      obtain ⟨W9, hW9, R9, N9, B9⟩ := end_node0 hT'.out (r := w.heap.size + 1 + 1) (b := W3.heap.size) (by omega) (by have := z5'.out; omega) (hbW.out.trans (hbz'.out.mono hbW.out.size)) hr.out (hz'.out.kept (fun k hk => by
        have hs := hbz'.out.size
        rcases hk with hk | hk
        · rcases hk with hk | hk
          · exact .inl hk
          · exact .inr ⟨hk.1, by have h2 := hk.2.1; omega⟩
        · exact .inr ⟨by have h2 := hW6s'.out; have := hb8'.out.size; have := hs5.out; have := hz1b.out; have := hb9'.out; omega, hk.2⟩) (fun _ _ => rfl))
      rw [← hW9]
      unfold val6 at R9
      obtain ⟨d0, d1, d2, d3, d4, d5, df⟩ := six_cells R9
      refine bodyPost_ret (v := .agg (val6 a zA zn zc zK zm zd)) (by simp [results, Try.results80, go_sem, d0, d1, d2, d3, d4, d5, val6]) rfl ?_
      exact ⟨zA, zn, zc, zK, zm, zd, rfl, N9, B9⟩
    · have hdc' : (yd = at_) = False := by simp [hdc]
      have hS : Hid (∀ W : World, Below W5.heap.size W5 W → Below W5.heap.size W5 W ∧ W.cell? ⟨b9, 5, none⟩ = some (.slice (some ky) ym yd) ∧ W.cell? ⟨w.heap.size + 1, 0, none⟩ = some (.int .u64 (x.id : Int)) ∧ W.cell? ⟨w.heap.size + 1, 1, none⟩ = some (.bool x.leaf) ∧ W.cell? ⟨w.heap.size + 1, 2, none⟩ = some (.string ⟨x.label.toArray⟩) ∧ W.cell? ⟨w.heap.size + 1, 3, none⟩ = some (.slice xA xn xc) ∧ W.cell? ⟨w.heap.size + 1, 4, none⟩ = some (.string ⟨x.text.toArray⟩) ∧ W.cell? ⟨w.heap.size + 1, 5, none⟩ = some (.slice xK xm xd)) := fun W hb => ⟨hb, (hb.cell (p := ⟨b9, 5, none⟩) hlt9).trans p5, (hb.cell (p := ⟨w.heap.size + 1, 0, none⟩) hlt7).trans q0, (hb.cell (p := ⟨w.heap.size + 1, 1, none⟩) hlt7).trans q1, (hb.cell (p := ⟨w.heap.size + 1, 2, none⟩) hlt7).trans q2, (hb.cell (p := ⟨w.heap.size + 1, 3, none⟩) hlt7).trans q3, (hb.cell (p := ⟨w.heap.size + 1, 4, none⟩) hlt7).trans q4, (hb.cell (p := ⟨w.heap.size + 1, 5, none⟩) hlt7).trans q5⟩
      clear p0 p1 p2 p3 p4 p5 pf q0 q1 q2 q3 q4 q5 qf
      refine wp_region_L (fun w' => Below W5.heap.size W5 w' ∧ w'.cell? ⟨b9, 5, none⟩ = some (.slice (some ky) ym yd) ∧ w'.cell? ⟨w.heap.size + 1, 0, none⟩ = some (.int .u64 (x.id : Int)) ∧ w'.cell? ⟨w.heap.size + 1, 1, none⟩ = some (.bool x.leaf) ∧ w'.cell? ⟨w.heap.size + 1, 2, none⟩ = some (.string ⟨x.label.toArray⟩) ∧ w'.cell? ⟨w.heap.size + 1, 3, none⟩ = some (.slice xA xn xc) ∧ w'.cell? ⟨w.heap.size + 1, 4, none⟩ = some (.string ⟨x.text.toArray⟩) ∧ w'.cell? ⟨w.heap.size + 1, 5, none⟩ = some (.slice xK xm xd)) 13 rfl (hS.out _ (Below.refl W5.heap.size W5).drew) (fun hHeld => ?_)
      refine wpAnyL_take (i := 0) (oi := { dst := some 17, op := Go.Op.fieldAddr 33 (Go.Operand.tmp 9) 5, type := 0, pos := "done.go:58", after := #[], guard := none }) (v := ?_) rfl (by kernel_rfl) (by kernel_rfl) (by kernel_rfl) (by kernel_rfl) (fun _ _ _ h => h) (Or.inl ⟨by rfl, ?_⟩) hHeld ?_
      rotate_left 1
      · intro w hSw; (try dsimp only at hSw); obtain ⟨-, s5, s0, s1, s2, s3, s4, s6⟩ := hSw; go_simp; try with_reducible rfl
      try simp only [Act.put, List.setIfInBounds_toArray, List.set_cons_zero, List.set_cons_succ]
      refine wpAnyL_take (i := 1) (oi := { dst := some 18, op := Go.Op.load 31 (Go.Operand.tmp 17), type := 31, pos := "done.go:58", after := #[{ on := 0, ground := Go.Ground.data }], guard := none }) (v := ?_) rfl (by kernel_rfl) (by kernel_rfl) (by kernel_rfl) (by kernel_rfl) (fun _ _ _ h => h) (Or.inl ⟨by rfl, ?_⟩) hHeld ?_
      rotate_left 1
      · intro w hSw; (try dsimp only at hSw); obtain ⟨-, s5, s0, s1, s2, s3, s4, s6⟩ := hSw; go_simp; try with_reducible rfl
      try simp only [Act.put, List.setIfInBounds_toArray, List.set_cons_zero, List.set_cons_succ]
      refine wpAnyL_take (i := 2) (oi := { dst := some 19, op := Go.Op.move (Go.Operand.tmp 2), type := 3, pos := "done.go:58", after := #[], guard := none }) (v := ?_) rfl (by kernel_rfl) (by kernel_rfl) (by kernel_rfl) (by kernel_rfl) (fun _ _ _ h => h) (Or.inl ⟨by rfl, ?_⟩) hHeld ?_
      rotate_left 1
      · intro w hSw; (try dsimp only at hSw); obtain ⟨-, s5, s0, s1, s2, s3, s4, s6⟩ := hSw; go_simp; try with_reducible rfl
      try simp only [Act.put, List.setIfInBounds_toArray, List.set_cons_zero, List.set_cons_succ]
      refine wpAnyL_take (i := 3) (oi := { dst := some 20, op := Go.Op.slice 31 (Go.Operand.tmp 18) none (some (Go.Operand.tmp 19)) none, type := 31, pos := "done.go:58", after := #[{ on := 1, ground := Go.Ground.data }, { on := 2, ground := Go.Ground.data }], guard := none }) (v := ?_) rfl (by kernel_rfl) (by kernel_rfl) (by kernel_rfl) (by kernel_rfl) (fun _ _ _ h => h) (Or.inl ⟨by rfl, ?_⟩) hHeld ?_
      rotate_left 1
      · intro w hSw; (try dsimp only at hSw); obtain ⟨-, s5, s0, s1, s2, s3, s4, s6⟩ := hSw; go_simp; try with_reducible rfl
      try simp only [Act.put, List.setIfInBounds_toArray, List.set_cons_zero, List.set_cons_succ]
      refine wpAnyL_take (i := 4) (oi := { dst := some 21, op := Go.Op.load 33 (Go.Operand.tmp 7), type := 33, pos := "done.go:58", after := #[], guard := none }) (v := ?_) rfl (by kernel_rfl) (by kernel_rfl) (by kernel_rfl) (by kernel_rfl) (fun _ _ _ h => h) (Or.inl ⟨by rfl, ?_⟩) hHeld ?_
      rotate_left 1
      · intro w hSw; (try dsimp only at hSw); obtain ⟨-, s5, s0, s1, s2, s3, s4, s6⟩ := hSw; go_simp; try with_reducible rfl
      try simp only [Act.put, List.setIfInBounds_toArray, List.set_cons_zero, List.set_cons_succ]
      refine wpAnyL_take (i := 6) (oi := { dst := some 23, op := Go.Op.fieldAddr 33 (Go.Operand.tmp 9) 5, type := 0, pos := "done.go:58", after := #[], guard := none }) (v := ?_) rfl (by kernel_rfl) (by kernel_rfl) (by kernel_rfl) (by kernel_rfl) (fun _ _ _ h => h) (Or.inl ⟨by rfl, ?_⟩) hHeld ?_
      rotate_left 1
      · intro w hSw; (try dsimp only at hSw); obtain ⟨-, s5, s0, s1, s2, s3, s4, s6⟩ := hSw; go_simp; try with_reducible rfl
      try simp only [Act.put, List.setIfInBounds_toArray, List.set_cons_zero, List.set_cons_succ]
      refine wpAnyL_take (i := 7) (oi := { dst := some 24, op := Go.Op.load 31 (Go.Operand.tmp 23), type := 31, pos := "done.go:58", after := #[{ on := 6, ground := Go.Ground.data }], guard := none }) (v := ?_) rfl (by kernel_rfl) (by kernel_rfl) (by kernel_rfl) (by kernel_rfl) (fun _ _ _ h => h) (Or.inl ⟨by rfl, ?_⟩) hHeld ?_
      rotate_left 1
      · intro w hSw; (try dsimp only at hSw); obtain ⟨-, s5, s0, s1, s2, s3, s4, s6⟩ := hSw; go_simp; try with_reducible rfl
      try simp only [Act.put, List.setIfInBounds_toArray, List.set_cons_zero, List.set_cons_succ]
      refine wpAnyL_take (i := 8) (oi := { dst := some 25, op := Go.Op.move (Go.Operand.tmp 2), type := 3, pos := "done.go:58", after := #[], guard := none }) (v := ?_) rfl (by kernel_rfl) (by kernel_rfl) (by kernel_rfl) (by kernel_rfl) (fun _ _ _ h => h) (Or.inl ⟨by rfl, ?_⟩) hHeld ?_
      rotate_left 1
      · intro w hSw; (try dsimp only at hSw); obtain ⟨-, s5, s0, s1, s2, s3, s4, s6⟩ := hSw; go_simp; try with_reducible rfl
      try simp only [Act.put, List.setIfInBounds_toArray, List.set_cons_zero, List.set_cons_succ]
      refine wpAnyL_take (i := 9) (oi := { dst := some 26, op := Go.Op.slice 31 (Go.Operand.tmp 24) (some (Go.Operand.tmp 25)) none none, type := 31, pos := "done.go:58", after := #[{ on := 7, ground := Go.Ground.data }, { on := 8, ground := Go.Ground.data }], guard := none }) (v := ?_) rfl (by kernel_rfl) (by kernel_rfl) (by kernel_rfl) (by kernel_rfl) (fun _ _ _ h => h) (Or.inl ⟨by rfl, ?_⟩) hHeld ?_
      rotate_left 1
      · intro w hSw; (try dsimp only at hSw); obtain ⟨-, s5, s0, s1, s2, s3, s4, s6⟩ := hSw; go_simp; try with_reducible rfl
      try simp only [Act.put, List.setIfInBounds_toArray, List.set_cons_zero, List.set_cons_succ]
      refine wpAnyL_one (i := 5) (o := { dst := some 22, op := Go.Op.buildSlice 31 1 #[(0, Go.Operand.tmp 21)], type := 31, pos := "done.go:58", after := #[{ on := 4, ground := Go.Ground.data }], guard := none }) (by kernel_rfl) rfl (by decide) (fun K hK => ?_)
      go_simp
      refine hK.out _ _ ?_ (fun hNew => ?_)
      · exact hS.out _ (hHeld.1.alloc hHeld.1.size _)
      clear hK K hHeld
      have hHeld := hNew
      clear hNew
      try simp only [Act.put, List.setIfInBounds_toArray, List.set_cons_zero, List.set_cons_succ]
      refine wpAnyL_one (i := 10) (o := { dst := some 27, op := Go.Op.buildSlice 94 3 #[(0, Go.Operand.tmp 20), (1, Go.Operand.tmp 22), (2, Go.Operand.tmp 26)], type := 94, pos := "done.go:58", after := #[{ on := 3, ground := Go.Ground.data }, { on := 5, ground := Go.Ground.data }, { on := 9, ground := Go.Ground.data }], guard := none }) (by kernel_rfl) rfl (by decide) (fun K hK => ?_)
      go_simp
      refine hK.out _ _ ?_ (fun hNew => ?_)
      · exact hS.out _ (hHeld.1.alloc hHeld.1.size _)
      clear hK K hHeld
      have hHeld := hNew
      clear hNew
      try simp only [Act.put, List.setIfInBounds_toArray, List.set_cons_zero, List.set_cons_succ]
      refine wpAnyL_one (i := 11) (o := { dst := some 28, op := Go.Op.call { callee := Go.Callee.value (Go.Operand.func 95), args := #[Go.Operand.tmp 27], argTypes := #[94] }, type := 31, pos := "done.go:58", after := #[{ on := 10, ground := Go.Ground.data }], guard := none }) (by kernel_rfl) rfl (by decide) (fun K hK => ?_)
      go_simp
      refine (hcat.out _ _ _ ⟨by rw [restA_ne hdc], by omega, by omega⟩).mono ?_
      rintro e w8 ⟨v8, rfl, ho8, hb8⟩
      obtain ⟨A8, c8, rfl, -⟩ := own_form ho8
      have hb8' := Lib.hid hb8
      have ho8' := Lib.hid ho8
      go_simp
      refine hK.out _ _ ?_ (fun hNew => ?_)
      · exact hS.out _ hb8
      clear hK K hHeld ho8 hb8
      have hHeld := hNew
      clear hNew
      try simp only [Act.put, List.setIfInBounds_toArray, List.set_cons_zero, List.set_cons_succ]
      refine wpAnyL_take (i := 12) (oi := { dst := some 29, op := Go.Op.fieldAddr 33 (Go.Operand.tmp 9) 5, type := 0, pos := "done.go:58", after := #[{ on := 0, ground := Go.Ground.phase }, { on := 1, ground := Go.Ground.phase }, { on := 2, ground := Go.Ground.phase }, { on := 3, ground := Go.Ground.phase }, { on := 4, ground := Go.Ground.phase }, { on := 5, ground := Go.Ground.phase }, { on := 6, ground := Go.Ground.phase }, { on := 7, ground := Go.Ground.phase }, { on := 8, ground := Go.Ground.phase }, { on := 9, ground := Go.Ground.phase }, { on := 10, ground := Go.Ground.phase }, { on := 11, ground := Go.Ground.phase }], guard := none }) (v := ?_) rfl (by kernel_rfl) (by kernel_rfl) (by kernel_rfl) (by kernel_rfl) (fun _ _ _ h => h) (Or.inl ⟨by rfl, ?_⟩) hHeld ?_
      rotate_left 1
      · intro w hSw; go_simp; try with_reducible rfl
      try simp only [Act.put, List.setIfInBounds_toArray, List.set_cons_zero, List.set_cons_succ]
      have g9 := Lib.hid ((hb8'.out.block b9 hlt9).trans r9.out)
      clear hHeld hS
      obtain ⟨p0, p1, p2, p3, p4, p5, pf⟩ := six_cells g9.out
      refine wpAnyL_last (o := { dst := none, op := Go.Op.store 31 (Go.Operand.tmp 29) (Go.Operand.tmp 28), type := 0, pos := "done.go:58", after := #[{ on := 12, ground := Go.Ground.data }, { on := 11, ground := Go.Ground.data }, { on := 11, ground := Go.Ground.chain }, { on := 0, ground := Go.Ground.phase }, { on := 1, ground := Go.Ground.phase }, { on := 2, ground := Go.Ground.phase }, { on := 3, ground := Go.Ground.phase }, { on := 4, ground := Go.Ground.phase }, { on := 5, ground := Go.Ground.phase }, { on := 6, ground := Go.Ground.phase }, { on := 7, ground := Go.Ground.phase }, { on := 8, ground := Go.Ground.phase }, { on := 9, ground := Go.Ground.phase }, { on := 10, ground := Go.Ground.phase }, { on := 11, ground := Go.Ground.phase }], guard := none }) (by kernel_rfl) rfl (fun K hK => ?_)
      go_simp
      refine hK _ _ ?_
      clear hK K
      try simp only [Act.put, List.setIfInBounds_toArray, List.set_cons_zero, List.set_cons_succ]
      refine wpAny_done (by kernel_rfl) ?_ _
      refine hK0 _ _ ?_
      have hmid := Lib.hid (putIn_mid (W3 := W3) (b9 := b9) (n := (ym + 1)) (c8 := c8) (at_ := at_) hT'.out (by have := z5'.out; omega) hz1b.out hb9'.out hs5.out ho5.out hb8'.out hny'.out hkt.out hkok.out (hhx.out w8 (b5.out.trans (hb8'.out.mono b5.out.size))) kx hkx ho8'.out (by rw [List.length_append, List.length_cons, List.length_take, List.length_drop, hkl.out]; omega))
      have hb86 := Lib.hid ((b5.out.trans (hb8'.out.mono b5.out.size)).setCell (p := ⟨b9, 5, none⟩) (by show w.heap.size ≤ b9; have := z5'.out; have := hz1b.out; have := hb9'.out; omega) (.slice A8 (ym + 1) c8))
      have hW6s : (w8.setCell ⟨b9, 5, none⟩ (.slice A8 (ym + 1) c8)).heap.size = w8.heap.size := by simp [World.setCell]
      have hT6 : ∀ k, But1 T W3 (w8.setCell ⟨b9, 5, none⟩ (.slice A8 (ym + 1) c8)) b9 k → k < (w8.setCell ⟨b9, 5, none⟩ (.slice A8 (ym + 1) c8)).heap.size := fun k hk => by
        rcases hk with hk | hk
        · have := hT'.out k hk; have := hb86.out.size; omega
        · exact hk.2.1
      have hputc := Lib.hid (tput_T _ _ hT6 t (y.withKids (insK at_ x y.kids)) aA kA yA A8 an ac kn kc yn yc (ym + 1) c8 (NodeV.kept (fun k hk => .inl hk) (fun _ _ => rfl) _ _ _ _ _ _ _ (hh.out _ hb86.out)) hmid.out pA pn pc p (hp'.out.below hb86.out) hpn'.out (by have := hbig'.out; omega) (by have h1 := weighV_with y (insK at_ x y.kids); have h2 := weighs_ins at_ x y.kids; have h3 := hbig'.out; have h4 := hbigx'.out; omega))
      have G9 := Lib.hid (show (w8.setCell ⟨b9, 5, none⟩ (.slice A8 (ym + 1) c8)).heap[b9]? = some (.cells #[.int .u64 (y.id : Int), .bool y.leaf, .string ⟨y.label.toArray⟩, .slice yA yn yc, .string ⟨y.text.toArray⟩, .slice A8 (ym + 1) c8] 33 (0, 0)) from heap_setCell_same w8 b9 5 _ _ _ g9.out)
      have G4 := Lib.hid (show (w8.setCell ⟨b9, 5, none⟩ (.slice A8 (ym + 1) c8)).heap[w.heap.size]? = some (.cells (val6 t aA an ac kA kn kc) 33 (0, 0)) from (heap_setCell_other _ _ _ _ (by show w.heap.size ≠ b9; have := z5'.out; have := hz1b.out; have := hb9'.out; omega)).trans ((hb8'.out.block _ (by have := z5'.out; have := hz1b.out; have := hb9'.out; have := hs5.out; omega)).trans r4.out))
      have G8 := Lib.hid (show (w8.setCell ⟨b9, 5, none⟩ (.slice A8 (ym + 1) c8)).heap[w.heap.size + 1 + 1]? = some (.cells zero6 33 (0, 0)) from (heap_setCell_other _ _ _ _ (by show w.heap.size + 1 + 1 ≠ b9; have := z5'.out; have := hz1b.out; have := hb9'.out; omega)).trans ((hb8'.out.block _ (by have := z5'.out; have := hz1b.out; have := hb9'.out; have := hs5.out; omega)).trans r8.out))
      obtain ⟨W6, hW6⟩ : ∃ W6, W6 = w8.setCell ⟨b9, 5, none⟩ (.slice A8 ((ym + 1)) c8) := ⟨_, rfl⟩
      have G9' := G9.out
      have G4' := G4.out
      have G8' := G8.out
      unfold val6 at G4'
      rw [← hW6] at hputc hb86 G9' G4' G8' hmid
      have hputc' := hputc.out
      unfold val6 at hputc'
      obtain ⟨we1, we2, we3, we4, -⟩ := with_id y (insK at_ x y.kids)
      rw [we1, we2, we3, we4] at hputc'
      clear we1 we2 we3 we4
      have hpc := Lib.hid hputc'
      have G8w := Lib.hid G8'
      have hbW := Lib.hid hb86.out
      first
        | rw [← hW6]
        | (rw [show (Value.slice A8 1 c8) = .slice A8 (0 + 1) c8 from rfl, ← hW6])
      have hW6s' := Lib.hid (show W6.heap.size = w8.heap.size by rw [hW6]; exact hW6s)
      clear hW6s hT6
      have hnW : w.heap.size + 1 + 1 < W6.heap.size := (Array.getElem?_eq_some_iff.1 G8').1
      obtain ⟨p0, p1, p2, p3, p4, p5, pf⟩ := six_cells G9'
      obtain ⟨q0, q1, q2, q3, q4, q5, qf⟩ := six_cells G4'
      have hW6' := Lib.hid hW6
      clear hputc' hputc G9 G4 G8 G9' G4' G8' hb86 hatc hW6 hcat hmid
      go_wp2_with (go_at_call 85; go_loud (refine hpc.out.mono ?_; rintro e w9 ⟨zA, zn, zc, zK, zm, zd, rfl, hz, hbz⟩; have r3 := (hbz.block _ hnW).trans G8w.out; have hr := Lib.hid r3; have hz' := Lib.hid hz; have hbz' := Lib.hid hbz; unfold zero6 at r3; clear p0 p1 p2 p3 p4 p5 pf q0 q1 q2 q3 q4 q5 qf; obtain ⟨q0, q1, q2, q3, q4, q5, qf⟩ := six_cells r3; have hne : w.heap.size + 1 + 1 < w9.heap.size := (Array.getElem?_eq_some_iff.1 r3).1; have hne2 : w9.heap.size ≠ w.heap.size + 1 + 1 := (by omega); have hne3 : w.heap.size + 1 + 1 ≠ w9.heap.size := (by omega); unfold val6; clear hz hbz r3))
      obtain ⟨a, ha⟩ : ∃ a, a = (putV t p (y.withKids (insK at_ x y.kids))).getD Nd.zero := ⟨_, rfl⟩
      rw [← ha] at hz' ⊢
      obtain ⟨W9, hW9, R9, N9, B9⟩ := end_node0 hT'.out (r := w.heap.size + 1 + 1) (b := W3.heap.size) (by omega) (by have := z5'.out; omega) (hbW.out.trans (hbz'.out.mono hbW.out.size)) hr.out (hz'.out.kept (fun k hk => by
        have hs := hbz'.out.size
        rcases hk with hk | hk
        · rcases hk with hk | hk
          · exact .inl hk
          · exact .inr ⟨hk.1, by have h2 := hk.2.1; omega⟩
        · exact .inr ⟨by have h2 := hW6s'.out; have := hb8'.out.size; have := hs5.out; have := hz1b.out; have := hb9'.out; omega, hk.2⟩) (fun _ _ => rfl))
      rw [← hW9]
      unfold val6 at R9
      obtain ⟨d0, d1, d2, d3, d4, d5, df⟩ := six_cells R9
      refine bodyPost_ret (v := .agg (val6 a zA zn zc zK zm zd)) (by simp [results, Try.results80, go_sem, d0, d1, d2, d3, d4, d5, val6]) rfl ?_
      exact ⟨zA, zn, zc, zK, zm, zd, rfl, N9, B9⟩
end Go.Proofs.Ytoeblaecldhcaaa.Top
/- copied and Valid. -/
namespace Go.Proofs.Ytoeblaecldhcaaa.Top
open Go.RowKit
set_option maxRecDepth 20000
set_option linter.unusedVariables false

theorem copied_any (w : World) (A : Option Addr) (n c : Nat) (xs : List Int) (hA : Its w A n xs) (hnil : A = none → c = 0) (hn : n ≤ 500000) :
    Calls Try.prog 60 #[.slice A n c] w (P4.NewRow w xs) := by
  have hA' := Lib.hid hA
  have hl := Lib.hid hA.1
  have hn' := Lib.hid hnil
  clear hA hnil
  go_enter Try.func60, Try.ntmps60
  go_wp2_with (at_builtin; go_loud (refine P4.wpList_append_its rfl _ (.tmp 3) rfl w.heap.size (.slice none 0 0) [] xs rfl (P4.OwnI.nil_ _ _) A n c rfl hA'.out hn'.out (by have := hl.out; simp; omega) (Nat.le_refl _) ?_; intro v1 w1 ho1 hg1 hat1))
  go_ret
  exact ⟨_, rfl, ho1, P4.grown_nil hg1⟩
set_option maxHeartbeats 2000000 in
theorem valid_any (w : World) (t : Nd) (aA kA : Option Addr) (an ac kn kc : Nat) (o : Ov) (s : OS) (h : NodeV (Old w) w aA an ac kA kn kc t) (ho : OpIn w o s) (hbig : weighV t ≤ 100000) :
    Calls Try.prog 15 #[.agg (val6 t aA an ac kA kn kc), .agg (opCells o s)] w fun e w' => e = .returned (.int .i64 (validV t o)) ∧ Below w.heap.size w w' := by
  obtain ⟨W2, hW2⟩ : ∃ W2, W2 = (w.alloc (.cells (val6 t aA an ac kA kn kc) 33)).alloc (.cells (opCells o s) 26) := ⟨_, rfl⟩
  have z1 : W2.heap[w.heap.size]? = some (.cells (val6 t aA an ac kA kn kc) 33 (0, 0)) := by rw [hW2]; exact (Go.heap_alloc_old _ _ (by simp)).trans (heap_alloc_new w _)
  have z2 : W2.heap[w.heap.size + 1]? = some (.cells (opCells o s) 26 (0, 0)) := by rw [hW2]; have h1 := heap_alloc_new (w.alloc (.cells (val6 t aA an ac kA kn kc) 33)) (.cells (opCells o s) 26); rw [World.size_alloc] at h1; exact h1
  have z4' := Lib.hid (show Below w.heap.size w W2 by rw [hW2]; exact ((Below.refl _ _).alloc (Nat.le_refl _) _).alloc (by simp) _)
  have z5 : W2.heap.size = w.heap.size + 1 + 1 := by rw [hW2]; simp
  have hr := Lib.hid (right_any W2 t aA kA an ac kn kc (h.below z4'.out) (by have := (count_le t); omega))
  rw [hW2] at hr
  have hf := Lib.hid (fun (W : World) (hb : Below w.heap.size w W) => fault_any W t aA kA an ac kn kc o s (h.below hb) (ho.below hb) (by omega))
  have hz1 := Lib.hid z1
  have hz2 := Lib.hid z2
  have hz5 := Lib.hid z5
  clear h ho z1 z2 z5
  cases hv : rightV ltB t with
  | false =>
    have hv' := Lib.hid hv
    rw [show validV t o = 2 by unfold validV; rw [hv]; rfl]
    clear hv
    unfold val6 opCells at hr hW2
    unfold val6 opCells
    go_enter Try.func15, Try.ntmps15
    go_wp2_with (go_at_call 35; go_loud (refine hr.out.mono ?_; rw [← hW2]; rintro e w3 ⟨rfl, hb⟩; rw [hv'.out]; have hb' := Lib.hid hb; clear hb))
    go_ret
    exact ⟨rfl, z4'.out.trans (hb'.out.mono z4'.out.size)⟩
  | true =>
    have hv' := Lib.hid hv
    rw [show validV t o = faultV t o by unfold validV; rw [hv]; rfl]
    clear hv
    unfold val6 opCells at hr hW2
    have hf' := Lib.hid (fun (W : World) (hb : Below w.heap.size w W) => hf.out W hb)
    unfold val6 opCells at hf'
    unfold val6 opCells
    go_enter Try.func15, Try.ntmps15
    go_wp2_with (first
      | (go_at_call 35; go_loud (refine hr.out.mono ?_; rw [← hW2]; rintro e w3 ⟨rfl, hb⟩; rw [hv'.out]; have hb' := Lib.hid hb; have r2 := (hb.block _ (by have := hz5.out; omega)).trans hz2.out; have r1 := (hb.block _ (by have := hz5.out; omega)).trans hz1.out; unfold val6 at r1; obtain ⟨p0, p1, p2, p3, p4, p5, pf⟩ := six_cells r1; obtain ⟨o0, o1, o2, o3, o4, o5, o6, o7, o8, o9, o10⟩ := op_cells r2; clear hb r1 r2))
      | (go_at_call 47; go_loud (refine (hf'.out w3 (z4'.out.trans (hb'.out.mono z4'.out.size))).mono ?_; rintro e w4 ⟨rfl, hb4⟩; have hb4' := Lib.hid hb4; clear hb4)))
    go_ret
    exact ⟨rfl, (z4'.out.trans (hb'.out.mono z4'.out.size)).trans (hb4'.out.mono ((z4'.out.trans (hb'.out.mono z4'.out.size)).size))⟩
end Go.Proofs.Ytoeblaecldhcaaa.Top
