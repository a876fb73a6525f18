/- How many nodes, how deep: the program's loops over all nodes. -/
import Derived.Test.YtacmofhlbebonaaTreH
namespace Go.Proofs.Ytacmofhlbebonaa
open Go.RowKit Go.Shelf
set_option maxRecDepth 20000
attribute [local go_sem] Oper.semAt_some

/-- what the loop's function has of its own: G; S: what the walk has -/
structure Mine (w W0 : World) (G S : Blks) (W : World) : Prop where
  bel : Below w.heap.size w W
  size : W0.heap.size ≤ W.heap.size
  far : ∀ k, S k → W0.heap.size ≤ k
  own : ∀ k, G k → ¬ S k ∧ k < W.heap.size ∧ w.heap.size ≤ k
def Holds (w W0 : World) (F : Blks → Way → World → Prop) : Blks → Way → World → Prop := fun S pre W => ∃ G, Mine w W0 G S W ∧ F G pre W
def Stays (F : Blks → Way → World → Prop) : Prop := ∀ G pre W1 W2, F G pre W1 → (∀ k, G k → W2.heap[k]? = W1.heap[k]?) → F G pre W2
theorem Mine.walked {w W0 : World} {G S S' : Blks} {W1 W2 : World} (hw : w.heap.size ≤ W0.heap.size) (h : Mine w W0 G S W1) (hF : FrX S W1 W2) (hn : ∀ k, S' k → S k ∨ W1.heap.size ≤ k) : Mine w W0 G S' W2 ∧ ∀ k, G k → W2.heap[k]? = W1.heap[k]? := by
  have hb : Below w.heap.size W1 W2 := hF.below (fun k hk => Nat.le_trans hw (h.far k hk)) (Nat.le_trans hw h.size)
  refine ⟨⟨h.bel.trans hb, Nat.le_trans h.size hF.size, fun k hk => ?_, fun k hk => ⟨fun hS => ?_, ?_, (h.own k hk).2.2⟩⟩, fun k hk => hF.block k (h.own k hk).2.1 (h.own k hk).1⟩
  · rcases hn k hk with e | e
    · exact h.far k e
    · exact Nat.le_trans h.size e
  · rcases hn k hS with e | e
    · exact (h.own k hk).1 e
    · have := (h.own k hk).2.1
      omega
  · exact Nat.lt_of_lt_of_le (h.own k hk).2.1 hF.size
theorem minds_holds {w W0 : World} (hw : w.heap.size ≤ W0.heap.size) {F : Blks → Way → World → Prop} (hF : Stays F) : Minds (Holds w W0 F) := by
  rintro S S' pre W1 W2 ⟨G, hm, hf⟩ hX - hn
  obtain ⟨q1, q2⟩ := hm.walked hw hX hn
  exact ⟨G, q1, hF G pre W1 W2 hf q2⟩
theorem Mine.step {w W0 : World} {G G' S : Blks} {W W' : World} (h : Mine w W0 G S W) (hS : ∀ k, S k → k < W.heap.size) (hF : FrX G W W') (hG : ∀ k, G' k → G k ∨ (W.heap.size ≤ k ∧ k < W'.heap.size)) (hw : w.heap.size ≤ W0.heap.size) : Mine w W0 G' S W' ∧ Keeps (Old w) S W W' := by
  have hz := h.size
  have hb : Below w.heap.size W W' := hF.below (fun k hk => (h.own k hk).2.2) (by omega)
  refine ⟨⟨h.bel.trans hb, Nat.le_trans h.size hF.size, h.far, fun k hk => ?_⟩, hF.size, fun k hk => ?_⟩
  · rcases hG k hk with e | e
    · exact ⟨(h.own k e).1, Nat.lt_of_lt_of_le (h.own k e).2.1 hF.size, (h.own k e).2.2⟩
    · exact ⟨fun hk => by have := hS k hk; omega, e.2, by omega⟩
  · rcases hk with hk | hk
    · exact hb.block k hk
    · exact hF.block k (hS k hk) (fun e => (h.own k e).1 hk)
/-- a variable of the function's own -/
def Var (b : Nat) (v : Value) (ty : TypeId) (W : World) : Prop := W.heap[b]? = some (.cells #[v] ty (0, 0))
theorem Var.facts {b : Nat} {v : Value} {ty : TypeId} {W : World} (h : Var b v ty W) : W.cell? ⟨b, 0, none⟩ = some v ∧ W.frozen? ⟨b, 0, none⟩ = false := ⟨cell_of_row W b 0 _ _ _ h, frozen_of_row W b 0 _ _ h⟩
theorem Var.set {b : Nat} {v u : Value} {ty : TypeId} {W : World} (h : Var b v ty W) : Var b u ty (W.setCell ⟨b, 0, none⟩ u) := heap_setCell_same W b 0 _ _ u h
theorem end_below {w W : World} {D : Nat} (h : Below w.heap.size w W) (hD : w.heap.size ≤ D) : Below w.heap.size w (W.putObj D (.deferred none)) :=
  h.trans ⟨rfl, rfl, rfl, by simp, fun k hk => World.putObj_heap_other (by omega)⟩

def CountF (b : Nat) : Blks → Way → World → Prop := fun G pre W => G b ∧ Var b (.int .i64 (pre.length : Int)) 3 W
theorem countF_stays (b : Nat) : Stays (CountF b) := fun _ _ _ _ h hk => ⟨h.1, (hk b h.1).trans h.2⟩
set_option maxHeartbeats 4000000 in
theorem count_any (w : World) (t : Nd) (aA kA : Option Addr) (an ac kn kc : Nat) (h : NodeV (Old w) w aA an ac kA kn kc t) (hc : countV t ≤ 100000) :
    Calls Try.prog 22 #[.agg #[.int .u64 (t.id : Int), .bool t.leaf, .string ⟨t.label.toArray⟩, .slice aA an ac, .string ⟨t.text.toArray⟩, .slice kA kn kc]] w fun e w' => e = .returned (.int .i64 (countV t : Int)) ∧ Below w.heap.size w w' := by
  have h' := Lib.hid h
  have hlen := Lib.hid (pre_len t 0)
  clear h
  refine (callsIn_wide (n := 2)).1 ?_
  refine callsIn_of_wp_marks Try.func22 rfl trivial ?_ rfl
  simp only [Try.ntmps22, List.size_toArray, List.length_cons, List.length_nil, Nat.reduceAdd, Nat.reduceSub, Array.replicate_succ, Array.replicate_zero, List.push_toArray, List.append_toArray, List.nil_append, List.cons_append]
  gi_wp2
  refine ⟨trivial, (callsIn_wide.2 (nodes_any _ _ _ _ _ _ _ _ _ _ _)).mono ?_⟩
  rintro e W1 ⟨rfl, rfl⟩
  gi_wp2
  obtain ⟨W0, hW0⟩ : ∃ W0, W0 = ((w.alloc (.cells #[.int .u64 (t.id : Int), .bool t.leaf, .string ⟨t.label.toArray⟩, .slice aA an ac, .string ⟨t.text.toArray⟩, .slice kA kn kc] 26)).alloc (.cells #[.int .i64 0] 3)).alloc (.cells #[.int .u64 (t.id : Int), .bool t.leaf, .string ⟨t.label.toArray⟩, .slice aA an ac, .string ⟨t.text.toArray⟩, .slice kA kn kc] 26) := ⟨_, rfl⟩
  obtain ⟨n1, n2, n3⟩ := three_new w (.cells #[.int .u64 (t.id : Int), .bool t.leaf, .string ⟨t.label.toArray⟩, .slice aA an ac, .string ⟨t.text.toArray⟩, .slice kA kn kc] 26) (.cells #[.int .i64 0] 3) (.cells #[.int .u64 (t.id : Int), .bool t.leaf, .string ⟨t.label.toArray⟩, .slice aA an ac, .string ⟨t.text.toArray⟩, .slice kA kn kc] 26)
  have hb0 : Below w.heap.size w W0 := by rw [hW0]; exact (((Below.refl w.heap.size w).alloc (Nat.le_refl _) _).alloc (by simp) _).alloc (by simp; omega) _
  have hz0 : W0.heap.size = w.heap.size + 3 := by rw [hW0]; simp
  rw [← hW0] at n1 n2 n3 ⊢
  clear hW0
  have hw0 : w.heap.size ≤ W0.heap.size := by omega
  have hgo := goes_nodes W0 (Old w) (w.heap.size + 2) t aA kA an ac kn kc n3 (h'.out.kept (fun _ h => h) (fun k hk => hb0.block k hk)) (fun k hk => Nat.lt_of_lt_of_le hk hw0) hc
  refine range_walk (n := 0) (gf := 46) (lb := #[.pointer (some ⟨w.heap.size + 2, 0, none⟩)]) (T0 := Old w) (td := preV 0 t) rfl (enters_of Try.func46 (by kernel_rfl) rfl) (fun k hk => Nat.lt_of_lt_of_le hk hw0) hgo rfl
    (Holds w W0 (CountF (w.heap.size + 1))) (fun _ _ _ _ => False) (minds_holds hw0 (countF_stays _)) (fun _ _ _ _ _ h _ => h)
    ⟨fun k => k = w.heap.size + 1, ⟨hb0, Nat.le_refl _, fun k hk => hk.elim, fun k hk => ⟨fun h => h, by omega, by omega⟩⟩, rfl, n2⟩ ?a1 ?assign ?body ?done ?stop
  case assign =>
    intro l d E W K hK
    unfold two
    gi_wp2
    exact hK
  case body =>
    rintro l S pre d E x W ⟨G, hm, hG, hV⟩ hpre hN hS
    obtain ⟨hc1, hf1⟩ := hV.facts
    have hpl : pre.length + 1 ≤ 100000 := by
      obtain ⟨r, hr⟩ := hpre
      have := hlen.out
      rw [← hr] at this
      simp at this
      omega
    have hV' := Lib.hid hV
    have hm' := Lib.hid hm
    clear hV hm hpre hN
    gi_wp2
    obtain ⟨q1, q2⟩ := hm'.out.step (G' := G) hS ((FrX.refl G W).setCell hG) (fun k hk => .inl hk) hw0
    refine ⟨⟨G, q1, hG, ?_⟩, q2⟩
    rw [List.length_append, Int.natCast_add]
    exact hV'.out.set
  case done =>
    rintro D S W hD hSD ⟨G, hm, hG, hV⟩ hK
    obtain ⟨hc1, hf1⟩ := hV.facts
    have hm' := Lib.hid hm
    clear hV hm
    gi_wp2
    refine ⟨by simp, .inl ⟨_, _, rfl, run_takeDeferred hK, ?_⟩⟩
    exact ⟨_, results_tmp rfl _ _ _, by rw [← hlen.out]; rfl, end_below hm'.out.bel (by omega)⟩
  case stop =>
    rintro D c S pre W _ _ h _
    exact h.elim
end Go.Proofs.Ytacmofhlbebonaa
