/- How deep, how long: the program's loops over all nodes. -/
import Derived.Stop.RegionWithIn
import Derived.Test.YtacmofhlbebonaaTreI
namespace Go.Proofs.Ytacmofhlbebonaa
open Go.RowKit Go.Shelf
set_option maxRecDepth 20000
attribute [local go_sem] Oper.semAt_some

def MaxF (f : Nat × Nd → Nat) (b : Nat) : Blks → Way → World → Prop := fun G pre W => G b ∧ Var b (.int .i64 (maxOf f pre : Int)) 3 W
theorem maxF_stays (f : Nat × Nd → Nat) (b : Nat) : Stays (MaxF f b) := fun _ _ _ _ h hk => ⟨h.1, (hk b h.1).trans h.2⟩
theorem maxOf_snoc {α : Type} (f : α → Nat) (l : List α) (x : α) : ((maxOf f (l ++ [x]) : Nat) : Int) = max (maxOf f l : Int) (f x : Int) := by
  rw [maxOf_append]
  simp only [maxOf]
  omega
set_option maxHeartbeats 4000000 in
theorem depth_any (w : World) (t : Nd) (aA kA : Option Addr) (an ac kn kc : Nat) (h : NodeV (Old w) w aA an ac kA kn kc t) (hc : countV t ≤ 100000) :
    Calls Try.prog 24 #[.agg #[.int .u64 (t.id : Int), .bool t.leaf, .string ⟨t.label.toArray⟩, .slice aA an ac, .string ⟨t.text.toArray⟩, .slice kA kn kc]] w fun e w' => e = .returned (.int .i64 (depthV t : Int)) ∧ Below w.heap.size w w' := by
  have h' := Lib.hid h
  have hlen := Lib.hid (show maxOf (·.1) (preV 0 t) = depthV t by rw [pre_depth]; omega)
  clear h
  refine (callsIn_wide (n := 2)).1 ?_
  refine callsIn_of_wp_marks Try.func24 rfl trivial ?_ rfl
  simp only [Try.ntmps24, List.size_toArray, List.length_cons, List.length_nil, Nat.reduceAdd, Nat.reduceSub, Array.replicate_succ, Array.replicate_zero, List.push_toArray, List.append_toArray, List.nil_append, List.cons_append]
  gi_wp2
  refine ⟨trivial, (callsIn_wide.2 (nodes_any _ _ _ _ _ _ _ _ _ _ _)).mono ?_⟩
  rintro e W1 ⟨rfl, rfl⟩
  gi_wp2
  obtain ⟨W0, hW0⟩ : ∃ W0, W0 = ((w.alloc (.cells #[.int .u64 (t.id : Int), .bool t.leaf, .string ⟨t.label.toArray⟩, .slice aA an ac, .string ⟨t.text.toArray⟩, .slice kA kn kc] 26)).alloc (.cells #[.int .i64 0] 3)).alloc (.cells #[.int .u64 (t.id : Int), .bool t.leaf, .string ⟨t.label.toArray⟩, .slice aA an ac, .string ⟨t.text.toArray⟩, .slice kA kn kc] 26) := ⟨_, rfl⟩
  obtain ⟨n1, n2, n3⟩ := three_new w (.cells #[.int .u64 (t.id : Int), .bool t.leaf, .string ⟨t.label.toArray⟩, .slice aA an ac, .string ⟨t.text.toArray⟩, .slice kA kn kc] 26) (.cells #[.int .i64 0] 3) (.cells #[.int .u64 (t.id : Int), .bool t.leaf, .string ⟨t.label.toArray⟩, .slice aA an ac, .string ⟨t.text.toArray⟩, .slice kA kn kc] 26)
  have hb0 : Below w.heap.size w W0 := by rw [hW0]; exact (((Below.refl w.heap.size w).alloc (Nat.le_refl _) _).alloc (by simp) _).alloc (by simp; omega) _
  have hz0 : W0.heap.size = w.heap.size + 3 := by rw [hW0]; simp
  rw [← hW0] at n1 n2 n3 ⊢
  clear hW0
  have hw0 : w.heap.size ≤ W0.heap.size := by omega
  have hgo := goes_nodes W0 (Old w) (w.heap.size + 2) t aA kA an ac kn kc n3 (h'.out.kept (fun _ h => h) (fun k hk => hb0.block k hk)) (fun k hk => Nat.lt_of_lt_of_le hk hw0) hc
  refine range_walk (n := 0) (gf := 46) (lb := #[.pointer (some ⟨w.heap.size + 2, 0, none⟩)]) (T0 := Old w) (td := preV 0 t) rfl (enters_of Try.func46 (by kernel_rfl) rfl) (fun k hk => Nat.lt_of_lt_of_le hk hw0) hgo rfl
    (Holds w W0 (MaxF (·.1) (w.heap.size + 1))) (fun _ _ _ _ => False) (minds_holds hw0 (maxF_stays _ _)) (fun _ _ _ _ _ h _ => h)
    ⟨fun k => k = w.heap.size + 1, ⟨hb0, Nat.le_refl _, fun k hk => hk.elim, fun k hk => ⟨fun h => h, by omega, by omega⟩⟩, rfl, n2⟩ ?a1 ?assign ?body ?done ?stop
  case assign =>
    intro l d E W K hK
    unfold two
    gi_wp2
    exact hK
  case body =>
    rintro l S pre d E x W ⟨G, hm, hG, hV⟩ hpre hN hS
    obtain ⟨hc1, hf1⟩ := hV.facts
    have hV' := Lib.hid hV
    have hm' := Lib.hid hm
    have hst := Lib.hid (maxOf_snoc (fun e : Nat × Nd => e.1) pre (d, x))
    clear hV hm hpre hN
    rcases Int.lt_or_le (maxOf (fun e : Nat × Nd => e.1) pre : Int) (d : Int) with hlt | hle
    · have hst2 := Lib.hid (show ((maxOf (fun e : Nat × Nd => e.1) (pre ++ [(d, x)]) : Nat) : Int) = (d : Int) by rw [hst.out]; exact Int.max_eq_right (Int.le_of_lt hlt))
      gi_wp2
      all_goals obtain ⟨q1, q2⟩ := hm'.out.step (G' := G) hS ((FrX.refl G W).setCell hG) (fun k hk => .inl hk) hw0
      all_goals refine ⟨⟨G, q1, hG, ?_⟩, q2⟩
      all_goals rw [hst2.out]
      all_goals exact hV'.out.set
    · have hst2 := Lib.hid (show ((maxOf (fun e : Nat × Nd => e.1) (pre ++ [(d, x)]) : Nat) : Int) = (maxOf (fun e : Nat × Nd => e.1) pre : Int) by rw [hst.out]; exact Int.max_eq_left hle)
      have hle' : ¬ (maxOf (fun e : Nat × Nd => e.1) pre : Int) < (d : Int) := by omega
      gi_wp2
      all_goals obtain ⟨q1, q2⟩ := hm'.out.step (G' := G) hS ((FrX.refl G W).setCell hG) (fun k hk => .inl hk) hw0
      all_goals refine ⟨⟨G, q1, hG, ?_⟩, q2⟩
      all_goals rw [hst2.out]
      all_goals exact hV'.out.set
  case done =>
    rintro D S W hD hSD ⟨G, hm, hG, hV⟩ hK
    obtain ⟨hc1, hf1⟩ := hV.facts
    have hm' := Lib.hid hm
    clear hV hm
    gi_wp2
    refine ⟨by simp, .inl ⟨_, _, rfl, run_takeDeferred hK, ?_⟩⟩
    exact ⟨_, results_tmp rfl _ _ _, by rw [← hlen.out]; rfl, end_below hm'.out.bel (by omega)⟩
  case stop =>
    rintro D c S pre W _ _ h _
    exact h.elim
set_option maxHeartbeats 4000000 in
theorem long_all (w : World) (t : Nd) (aA kA : Option Addr) (an ac kn kc : Nat) (h : NodeV (Old w) w aA an ac kA kn kc t) (hc : countV t ≤ 100000) (hw : longV t ≤ 1000000000) :
    Calls Try.prog 26 #[.agg #[.int .u64 (t.id : Int), .bool t.leaf, .string ⟨t.label.toArray⟩, .slice aA an ac, .string ⟨t.text.toArray⟩, .slice kA kn kc]] w fun e w' => e = .returned (.int .i64 (longV t : Int)) ∧ Below w.heap.size w w' := by
  have h' := Lib.hid h
  have hlen := Lib.hid (pre_long t 0)
  clear h
  refine (callsIn_wide (n := 2)).1 ?_
  refine callsIn_of_wp_marks Try.func26 rfl trivial ?_ rfl
  simp only [Try.ntmps26, List.size_toArray, List.length_cons, List.length_nil, Nat.reduceAdd, Nat.reduceSub, Array.replicate_succ, Array.replicate_zero, List.push_toArray, List.append_toArray, List.nil_append, List.cons_append]
  gi_wp2
  refine ⟨trivial, (callsIn_wide.2 (nodes_any _ _ _ _ _ _ _ _ _ _ _)).mono ?_⟩
  rintro e W1 ⟨rfl, rfl⟩
  gi_wp2
  obtain ⟨W0, hW0⟩ : ∃ W0, W0 = ((w.alloc (.cells #[.int .u64 (t.id : Int), .bool t.leaf, .string ⟨t.label.toArray⟩, .slice aA an ac, .string ⟨t.text.toArray⟩, .slice kA kn kc] 26)).alloc (.cells #[.int .i64 0] 3)).alloc (.cells #[.int .u64 (t.id : Int), .bool t.leaf, .string ⟨t.label.toArray⟩, .slice aA an ac, .string ⟨t.text.toArray⟩, .slice kA kn kc] 26) := ⟨_, rfl⟩
  obtain ⟨n1, n2, n3⟩ := three_new w (.cells #[.int .u64 (t.id : Int), .bool t.leaf, .string ⟨t.label.toArray⟩, .slice aA an ac, .string ⟨t.text.toArray⟩, .slice kA kn kc] 26) (.cells #[.int .i64 0] 3) (.cells #[.int .u64 (t.id : Int), .bool t.leaf, .string ⟨t.label.toArray⟩, .slice aA an ac, .string ⟨t.text.toArray⟩, .slice kA kn kc] 26)
  have hb0 : Below w.heap.size w W0 := by rw [hW0]; exact (((Below.refl w.heap.size w).alloc (Nat.le_refl _) _).alloc (by simp) _).alloc (by simp; omega) _
  have hz0 : W0.heap.size = w.heap.size + 3 := by rw [hW0]; simp
  rw [← hW0] at n1 n2 n3 ⊢
  clear hW0
  have hw0 : w.heap.size ≤ W0.heap.size := by omega
  have hgo := goes_nodes W0 (Old w) (w.heap.size + 2) t aA kA an ac kn kc n3 (h'.out.kept (fun _ h => h) (fun k hk => hb0.block k hk)) (fun k hk => Nat.lt_of_lt_of_le hk hw0) hc
  refine range_walk (n := 0) (gf := 46) (lb := #[.pointer (some ⟨w.heap.size + 2, 0, none⟩)]) (T0 := Old w) (td := preV 0 t) rfl (enters_of Try.func46 (by kernel_rfl) rfl) (fun k hk => Nat.lt_of_lt_of_le hk hw0) hgo rfl
    (Holds w W0 (MaxF (fun e => ownLong e.2) (w.heap.size + 1))) (fun _ _ _ _ => False) (minds_holds hw0 (maxF_stays _ _)) (fun _ _ _ _ _ h _ => h)
    ⟨fun k => k = w.heap.size + 1, ⟨hb0, Nat.le_refl _, fun k hk => hk.elim, fun k hk => ⟨fun h => h, by omega, by omega⟩⟩, rfl, n2⟩ ?a1 ?assign ?body ?done ?stop
  case assign =>
    intro l d E W K hK
    unfold two
    gi_wp2
    exact hK
  case body =>
    rintro l S pre d E x W ⟨G, hm, hG, hV⟩ hpre hN hS
    have hx : ownLong x ≤ 1000000000 := by
      have := hlen.out
      obtain ⟨r, hr⟩ := hpre
      rw [← hr, maxOf_append, maxOf_append] at this
      simp only [maxOf] at this
      omega
    obtain ⟨hc1, hf1⟩ := hV.facts
    have hN' := Lib.hid hN
    have hT' := Lib.hid (show ∀ k, Old w k ∨ S k → k < W.heap.size from fun k hk => by rcases hk with hk | hk; exact Nat.lt_of_lt_of_le hk (Nat.le_trans hw0 hm.size); exact hS k hk)
    have hV' := Lib.hid hV
    have hm' := Lib.hid hm
    have hst := Lib.hid (maxOf_snoc (fun e : Nat × Nd => ownLong e.2) pre (d, x))
    have hcall := Lib.hid (fun (W' : World) (hb : Below W.heap.size W W') => long_any W' (fun k => Old w k ∨ S k) E x (hN.kept (fun _ h => h) (fun k hk => hb.block k (hT'.out k hk))) (fun k hk => Nat.lt_of_lt_of_le (hT'.out k hk) hb.size) hx)
    have hGb : w.heap.size + 1 < W.heap.size := (hm.own _ hG).2.1
    have b1 : Below W.heap.size W W.drew := (Below.refl _ W).drew
    have fin := Lib.hid (show ∀ (m : Int) (W' : World), Below W.heap.size W W' → m = ((maxOf (fun e : Nat × Nd => ownLong e.2) (pre ++ [(d, x)]) : Nat) : Int) → Holds w W0 (MaxF (fun e => ownLong e.2) (w.heap.size + 1)) S (pre ++ [(d, x)]) (W'.setCell ⟨w.heap.size + 1, 0, none⟩ (.int .i64 m)) ∧ Keeps (Old w) S W (W'.setCell ⟨w.heap.size + 1, 0, none⟩ (.int .i64 m)) from fun m W' hb e => by
      obtain ⟨q1, q2⟩ := hm.step (G' := G) hS ((FrX.of_below hb).setCell hG) (fun k hk => .inl hk) hw0
      refine ⟨⟨G, q1, hG, ?_⟩, q2⟩
      rw [← e]
      exact Var.set ((hb.block _ hGb).trans hV))
    clear hV hm hpre hN
    gi_wp2
    gi_region_with (refine ⟨trivial, rfl, (CallsIn.inRound l (callsIn_wide.2 (hcall.out _ (by first | exact b1 | (simp; done))))).mono ?_⟩; rintro e w2 ⟨rfl, hb2⟩; have hb3 := b1.trans hb2; have hc2 := (hb3.cell (p := ⟨w.heap.size + 1, 0, none⟩) hGb).trans hc1; have hf2 := (hb3.frozen (p := ⟨w.heap.size + 1, 0, none⟩) hGb).trans hf1)
    all_goals gi_wp2
    all_goals exact fin.out _ _ hb3 (by rw [hst.out]; omega)
  case done =>
    rintro D S W hD hSD ⟨G, hm, hG, hV⟩ hK
    obtain ⟨hc1, hf1⟩ := hV.facts
    have hm' := Lib.hid hm
    clear hV hm
    gi_wp2
    refine ⟨by simp, .inl ⟨_, _, rfl, run_takeDeferred hK, ?_⟩⟩
    exact ⟨_, results_tmp rfl _ _ _, by rw [← hlen.out]; rfl, end_below hm'.out.bel (by omega)⟩
  case stop =>
    rintro D c S pre W _ _ h _
    exact h.elim
end Go.Proofs.Ytacmofhlbebonaa
