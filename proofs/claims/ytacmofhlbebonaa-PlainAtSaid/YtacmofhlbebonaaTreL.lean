/- The identities: the program's loop over all nodes. -/
import Derived.Stop.RegionWithIn
import Derived.Deep.AppendLies
import Derived.Test.YtacmofhlbebonaaTreK
namespace Go.Proofs.Ytacmofhlbebonaa
open Go.RowKit Go.Shelf
set_option maxRecDepth 20000
attribute [local go_sem] Oper.semAt_some

theorem Try.info22 : (Try.prog.info? 22).map (fun i => (i.zero, i.size, i.bytes)) = some (some (.int .u64 0), 1, 8) := by kernel_rfl
def idv (i : Nat) : Value := .int .u64 (i : Int)
/-- a row of identities of the call's own -/
def OwnId (base : Nat) (w : World) (v : Value) (is : List Nat) : Prop := w.ownsRow base 22 1 v is.length (is.map idv)
def IdsF (base b : Nat) : Blks → Way → World → Prop := fun G pre W => G b ∧ ∃ v, Var b v 33 W ∧ OwnId base W v (pre.map (·.2.id)) ∧ ∀ k, v.ownBlock = some k → G k ∧ k ≠ b
theorem idsF_stays (base b : Nat) : Stays (IdsF base b) := by
  rintro G pre W1 W2 ⟨h1, v, h2, h3, h4⟩ hk
  exact ⟨h1, v, (hk b h1).trans h2, own_kept h3 (fun k e => hk k (h4 k e).1), h4⟩
theorem ids_append {W : World} {base : Nat} {v : Value} {is : List Nat} (h : OwnId base W v is) (i : Nat) (hb : base ≤ W.heap.size) (hl : is.length + 1 ≤ 1000000) :
    ∃ g cap w1, (Builtin.append_ #[33, 33] 33 #[v, .slice (some ⟨W.heap.size, 0, none⟩) 1 1]).run Try.prog (W.drew.alloc (.cells #[.int .u64 (i : Int)] 22)) = .ok (.slice (some ⟨g, 0, none⟩) (is.length + 1) cap) w1 ∧
      OwnId base w1 (.slice (some ⟨g, 0, none⟩) (is.length + 1) cap) (is ++ [i]) ∧ (W.drew.alloc (.cells #[.int .u64 (i : Int)] 22)).grownBy w1 v.ownBlock ∧ (v.ownBlock = some g ∨ g = W.heap.size + 1) ∧ g < w1.heap.size := by
  obtain ⟨i0, hi0, hz0, hz1, hz2⟩ := info_parts Try.info22
  have hnew : (W.drew.alloc (.cells #[.int .u64 (i : Int)] 22)).heap[W.heap.size]? = some (.cells #[.int .u64 (i : Int)] 22 (0, 0)) := heap_alloc_new W.drew _
  have h' : OwnId base (W.drew.alloc (.cells #[.int .u64 (i : Int)] 22)) v is := World.ownsRow.alloc (own_kept h fun _ _ => rfl) _
  obtain ⟨g, cap, w1, r1, r2, r3, r4, r5⟩ := run_append_lies (P := Try.prog) (W.drew.alloc (.cells #[.int .u64 (i : Int)] 22)) 33 33 base 22 i0 _ 1 8 Try.underlying33 hi0 hz0 hz1 hz2 rfl (by decide) v is.length (is.map idv) h' ⟨W.heap.size, 0, none⟩ 1 1 [.int .u64 (i : Int)] rfl
    (World.news_of_block hnew) (by simp [Value.oneCell']) (by decide) (by unfold maxLen; omega) (by omega) (by simp; omega) (W.heap.size + 1) (by simp)
  refine ⟨g, cap, w1, r1, ?_, r3, r4, r5⟩
  unfold OwnId
  rw [List.length_append, List.map_append]
  exact r2
theorem step_append_in {P : Program} {F : Fence} {n : Nat} {ops : Array Oper} {o : Oper} {a : Act} {K : Act → World → Prop} {Q : Exit → Act → World → Prop} {E : Prop} {w w' : World} {v u r : Value} (hgd : o.guard = none) (s x : Operand) (t : TypeId)
    (ho : o.op = .call { callee := .builtin .append, args := #[s, x], argTypes := #[t, t] }) (hs : a.eval s = v) (hx : a.eval x = u) (hrun : (Builtin.append_ #[t, t] o.type #[v, u]).run P w = .ok r w') (h : K (a.put o.dst r) w') :
    if Region.wanted o (yielded ops a.tmps) = true then Oper.wpIn F n P o a w K Q else E := by
  have hw : Region.wanted o (yielded ops a.tmps) = true := by simp [Region.wanted, hgd]
  rw [if_pos hw]
  unfold Oper.wpIn
  refine ⟨?_, ?_⟩
  · simp [Oper.about, ho, resolve, Target.leads, Sem.run_pure]
  · rw [Oper.semAt_plain F _ _ (by rw [ho]; intro c hc'; cases hc')]
    simp [execOp, ho, resolve, invoke, builtin, hs, hx, hrun, Result.andThen]
    exact h
set_option maxHeartbeats 4000000 in
theorem ids_any (w : World) (t : Nd) (aA kA : Option Addr) (an ac kn kc : Nat) (h : NodeV (Old w) w aA an ac kA kn kc t) (hc : countV t ≤ 100000) :
    Calls Try.prog 20 #[.agg #[.int .u64 (t.id : Int), .bool t.leaf, .string ⟨t.label.toArray⟩, .slice aA an ac, .string ⟨t.text.toArray⟩, .slice kA kn kc]] w fun e w' => ∃ v, e = .returned v ∧ OwnId w.heap.size w' v (idsV t) ∧ Below w.heap.size w w' := by
  have h' := Lib.hid h
  have hlen := Lib.hid (pre_len t 0)
  have hids := Lib.hid (pre_ids t 0)
  clear h
  refine (callsIn_wide (n := 2)).1 ?_
  refine callsIn_of_wp_marks Try.func20 rfl trivial ?_ rfl
  simp only [Try.ntmps20, List.size_toArray, List.length_cons, List.length_nil, Nat.reduceAdd, Nat.reduceSub, Array.replicate_succ, Array.replicate_zero, List.push_toArray, List.append_toArray, List.nil_append, List.cons_append]
  gi_wp2
  refine ⟨trivial, (callsIn_wide.2 (nodes_any _ _ _ _ _ _ _ _ _ _ _)).mono ?_⟩
  rintro e W1 ⟨rfl, rfl⟩
  gi_wp2
  obtain ⟨W0, hW0⟩ : ∃ W0, W0 = ((w.alloc (.cells #[.int .u64 (t.id : Int), .bool t.leaf, .string ⟨t.label.toArray⟩, .slice aA an ac, .string ⟨t.text.toArray⟩, .slice kA kn kc] 26)).alloc (.cells #[.slice none 0 0] 33)).alloc (.cells #[.int .u64 (t.id : Int), .bool t.leaf, .string ⟨t.label.toArray⟩, .slice aA an ac, .string ⟨t.text.toArray⟩, .slice kA kn kc] 26) := ⟨_, rfl⟩
  obtain ⟨n1, n2, n3⟩ := three_new w (.cells #[.int .u64 (t.id : Int), .bool t.leaf, .string ⟨t.label.toArray⟩, .slice aA an ac, .string ⟨t.text.toArray⟩, .slice kA kn kc] 26) (.cells #[.slice none 0 0] 33) (.cells #[.int .u64 (t.id : Int), .bool t.leaf, .string ⟨t.label.toArray⟩, .slice aA an ac, .string ⟨t.text.toArray⟩, .slice kA kn kc] 26)
  have hb0 : Below w.heap.size w W0 := by rw [hW0]; exact (((Below.refl w.heap.size w).alloc (Nat.le_refl _) _).alloc (by simp) _).alloc (by simp; omega) _
  have hz0 : W0.heap.size = w.heap.size + 3 := by rw [hW0]; simp
  rw [← hW0] at n1 n2 n3 ⊢
  clear hW0
  have hw0 : w.heap.size ≤ W0.heap.size := by omega
  have hgo := goes_nodes W0 (Old w) (w.heap.size + 2) t aA kA an ac kn kc n3 (h'.out.kept (fun _ h => h) (fun k hk => hb0.block k hk)) (fun k hk => Nat.lt_of_lt_of_le hk hw0) hc
  refine range_walk (n := 0) (gf := 46) (lb := #[.pointer (some ⟨w.heap.size + 2, 0, none⟩)]) (T0 := Old w) (td := preV 0 t) rfl (enters_of Try.func46 (by kernel_rfl) rfl) (fun k hk => Nat.lt_of_lt_of_le hk hw0) hgo rfl
    (Holds w W0 (IdsF w.heap.size (w.heap.size + 1))) (fun _ _ _ _ => False) (minds_holds hw0 (idsF_stays _ _)) (fun _ _ _ _ _ h _ => h)
    ⟨fun k => k = w.heap.size + 1, ⟨hb0, Nat.le_refl _, fun k hk => hk.elim, fun k hk => ⟨fun h => h, by omega, by omega⟩⟩, rfl, .slice none 0 0, n2, World.ownsRow_nil _ _ _ _, fun k hk => by cases hk⟩ ?a1 ?assign ?body ?done ?stop
  case assign =>
    intro l d E W K hK
    unfold two
    gi_wp2
    exact hK
  case body =>
    rintro l S pre d E x W ⟨G, hm, hG, v, hV, hrow, hown⟩ hpre hN hS
    obtain ⟨hc1, hf1⟩ := hV.facts
    have hpl : pre.length + 1 ≤ 100000 := by
      obtain ⟨r, hr⟩ := hpre
      have := hlen.out
      rw [← hr] at this
      simp at this
      omega
    have hGb : w.heap.size + 1 < W.heap.size := (hm.own _ hG).2.1
    obtain ⟨g, cap, w1, hrun, hrow1, hgrow, hat, hlt⟩ := ids_append hrow x.id (Nat.le_of_lt (Nat.lt_of_le_of_lt (Nat.le_succ _) hGb)) (by rw [List.length_map]; omega)
    have hvb : v.ownBlock ≠ some (w.heap.size + 1) := fun e => (hown _ e).2 rfl
    have hblk : w1.heap[w.heap.size + 1]? = W.heap[w.heap.size + 1]? := (hgrow.block _ (by simp; omega) (fun e => hvb e.symm)).trans (Go.heap_alloc_old W.drew _ hGb)
    have hc2 : w1.cell? ⟨w.heap.size + 1, 0, none⟩ = some v := (World.cell?_of_block (a := ⟨w.heap.size + 1, 0, none⟩) hblk).trans hc1
    have hf2 : w1.frozen? ⟨w.heap.size + 1, 0, none⟩ = false := frozen_of_row w1 _ 0 _ _ (hblk.trans hV)
    obtain ⟨-, aA2, an2, ac2, kA2, kn2, kc2, ⟨c0, -⟩, -⟩ := hN
    have hz1 : W.heap.size < w1.heap.size := by have := hgrow.size; simp at this; omega
    have F1 : FrX G W w1 := by
      refine ((FrX.refl G W).drew.alloc _).trans (FrX.of_grown (S := G) hgrow fun k e => (hown k e).1) (fun k hk => .inl hk)
    have hgb : w.heap.size + 1 ≠ g := by
      rcases hat with hat | hat
      · exact fun e => hvb (e ▸ hat)
      · omega
    have hfin := Lib.hid (show Holds w W0 (IdsF w.heap.size (w.heap.size + 1)) S (pre ++ [(d, x)]) (w1.setCell ⟨w.heap.size + 1, 0, none⟩ (.slice (some ⟨g, 0, none⟩) ((pre.map (·.2.id)).length + 1) cap)) ∧ Keeps (Old w) S W (w1.setCell ⟨w.heap.size + 1, 0, none⟩ (.slice (some ⟨g, 0, none⟩) ((pre.map (·.2.id)).length + 1) cap)) by
      obtain ⟨q1, q2⟩ := hm.step (G' := fun k => G k ∨ k = g) (W' := w1.setCell ⟨w.heap.size + 1, 0, none⟩ (.slice (some ⟨g, 0, none⟩) ((pre.map (·.2.id)).length + 1) cap)) hS (F1.setCell hG) (fun k hk => by
        rcases hk with hk | rfl
        · exact .inl hk
        · rcases hat with hat | hat
          · exact .inl (hown _ hat).1
          · exact .inr ⟨by omega, by simpa using hlt⟩) hw0
      refine ⟨⟨_, q1, .inl hG, _, Var.set (v := v) (hblk.trans hV), ?_, fun k hk => ?_⟩, q2⟩
      · rw [List.map_append]
        exact own_kept hrow1 fun k hk => heap_setCell_other _ _ _ _ (by cases hk; exact fun e => hgb e.symm)
      · cases hk
        exact ⟨.inr rfl, fun e => hgb e.symm⟩)
    have hV' := Lib.hid hV
    have hm' := Lib.hid hm
    clear hV hm hpre hown hrow hrow1 hgrow hat hlt F1 hblk hz1 hvb hgb
    rw [List.length_map] at hrun hfin
    obtain ⟨nl, hnl⟩ : ∃ nl, nl = pre.length := ⟨_, rfl⟩
    rw [← hnl] at hrun hfin
    clear hnl hpl
    gi_wp2
    refine wpIn_region_any (by kernel_rfl) ?_
    change wpAnyIn _ _ _ _ _ _ _ _ _ (World.drew _)
    refine wpAnyIn_ready (rs := [0, 1]) (by kernel_rfl) (by simp) ?_
    refine AllReadyIn.cons rfl (fun K hK => ?_) (AllReadyIn.cons rfl (fun K hK => ?_) AllReadyIn.nil)
    · go_simp
      refine hK _ _ ?_
      clear hK K
      refine wpAnyIn_ready (rs := [1]) (by kernel_rfl) (by simp) ?_
      refine AllReadyIn.cons rfl (fun K hK => ?_) AllReadyIn.nil
      go_simp
      refine hK _ _ ?_
      clear hK K
      refine wpAnyIn_ready (rs := [2]) (by kernel_rfl) (by simp) ?_
      refine AllReadyIn.cons rfl (fun K hK => ?_) AllReadyIn.nil
      go_simp
      refine hK _ _ ?_
      clear hK K
      refine wpAnyIn_ready (rs := [3]) (by kernel_rfl) (by simp) ?_
      refine AllReadyIn.cons rfl (fun K hK => ?_) AllReadyIn.nil
      go_simp
      refine hK _ _ ?_
      clear hK K
      refine wpAnyIn_ready (rs := [4]) (by kernel_rfl) (by simp) ?_
      refine AllReadyIn.cons rfl (fun K hK => ?_) AllReadyIn.nil
      go_simp
      refine hK _ _ ?_
      clear hK K
      refine wpAnyIn_ready (rs := [5]) (by kernel_rfl) (by simp) ?_
      refine AllReadyIn.cons rfl (fun K hK => ?_) AllReadyIn.nil
      go_simp
      refine hK _ _ ?_
      clear hK K
      refine wpAnyIn_ready (rs := [6]) (by kernel_rfl) (by simp) ?_
      refine AllReadyIn.cons rfl (fun K hK => ?_) AllReadyIn.nil
      refine step_append_in (by rfl) (.tmp 10) (.tmp 15) 33 (by rfl) (by rfl) (by rfl) hrun ?_
      refine hK _ _ ?_
      clear hK K
      try simp only [Act.put, List.setIfInBounds_toArray, List.set_cons_zero, List.set_cons_succ]
      refine wpAnyIn_ready (rs := [7]) (by kernel_rfl) (by simp) ?_
      refine AllReadyIn.cons rfl (fun K hK => ?_) AllReadyIn.nil
      go_simp
      refine hK _ _ ?_
      clear hK K
      refine wpAnyIn_done (by kernel_rfl) ?_ _
      gi_wp2
      exact hfin.out
    · go_simp
      refine hK _ _ ?_
      clear hK K
      refine wpAnyIn_ready (rs := [0, 2]) (by kernel_rfl) (by simp) ?_
      refine AllReadyIn.cons rfl (fun K hK => ?_) (AllReadyIn.cons rfl (fun K hK => ?_) AllReadyIn.nil)
      · go_simp
        refine hK _ _ ?_
        clear hK K
        refine wpAnyIn_ready (rs := [2]) (by kernel_rfl) (by simp) ?_
        refine AllReadyIn.cons rfl (fun K hK => ?_) AllReadyIn.nil
        go_simp
        refine hK _ _ ?_
        clear hK K
        refine wpAnyIn_ready (rs := [3]) (by kernel_rfl) (by simp) ?_
        refine AllReadyIn.cons rfl (fun K hK => ?_) AllReadyIn.nil
        go_simp
        refine hK _ _ ?_
        clear hK K
        refine wpAnyIn_ready (rs := [4]) (by kernel_rfl) (by simp) ?_
        refine AllReadyIn.cons rfl (fun K hK => ?_) AllReadyIn.nil
        go_simp
        refine hK _ _ ?_
        clear hK K
        refine wpAnyIn_ready (rs := [5]) (by kernel_rfl) (by simp) ?_
        refine AllReadyIn.cons rfl (fun K hK => ?_) AllReadyIn.nil
        go_simp
        refine hK _ _ ?_
        clear hK K
        refine wpAnyIn_ready (rs := [6]) (by kernel_rfl) (by simp) ?_
        refine AllReadyIn.cons rfl (fun K hK => ?_) AllReadyIn.nil
        refine step_append_in (by rfl) (.tmp 10) (.tmp 15) 33 (by rfl) (by rfl) (by rfl) hrun ?_
        refine hK _ _ ?_
        clear hK K
        try simp only [Act.put, List.setIfInBounds_toArray, List.set_cons_zero, List.set_cons_succ]
        refine wpAnyIn_ready (rs := [7]) (by kernel_rfl) (by simp) ?_
        refine AllReadyIn.cons rfl (fun K hK => ?_) AllReadyIn.nil
        go_simp
        refine hK _ _ ?_
        clear hK K
        refine wpAnyIn_done (by kernel_rfl) ?_ _
        gi_wp2
        exact hfin.out
      · go_simp
        refine hK _ _ ?_
        clear hK K
        refine wpAnyIn_ready (rs := [0, 3]) (by kernel_rfl) (by simp) ?_
        refine AllReadyIn.cons rfl (fun K hK => ?_) (AllReadyIn.cons rfl (fun K hK => ?_) AllReadyIn.nil)
        · go_simp
          refine hK _ _ ?_
          clear hK K
          refine wpAnyIn_ready (rs := [3]) (by kernel_rfl) (by simp) ?_
          refine AllReadyIn.cons rfl (fun K hK => ?_) AllReadyIn.nil
          go_simp
          refine hK _ _ ?_
          clear hK K
          refine wpAnyIn_ready (rs := [4]) (by kernel_rfl) (by simp) ?_
          refine AllReadyIn.cons rfl (fun K hK => ?_) AllReadyIn.nil
          go_simp
          refine hK _ _ ?_
          clear hK K
          refine wpAnyIn_ready (rs := [5]) (by kernel_rfl) (by simp) ?_
          refine AllReadyIn.cons rfl (fun K hK => ?_) AllReadyIn.nil
          go_simp
          refine hK _ _ ?_
          clear hK K
          refine wpAnyIn_ready (rs := [6]) (by kernel_rfl) (by simp) ?_
          refine AllReadyIn.cons rfl (fun K hK => ?_) AllReadyIn.nil
          refine step_append_in (by rfl) (.tmp 10) (.tmp 15) 33 (by rfl) (by rfl) (by rfl) hrun ?_
          refine hK _ _ ?_
          clear hK K
          try simp only [Act.put, List.setIfInBounds_toArray, List.set_cons_zero, List.set_cons_succ]
          refine wpAnyIn_ready (rs := [7]) (by kernel_rfl) (by simp) ?_
          refine AllReadyIn.cons rfl (fun K hK => ?_) AllReadyIn.nil
          go_simp
          refine hK _ _ ?_
          clear hK K
          refine wpAnyIn_done (by kernel_rfl) ?_ _
          gi_wp2
          exact hfin.out
        · go_simp
          refine hK _ _ ?_
          clear hK K
          refine wpAnyIn_ready (rs := [0, 4]) (by kernel_rfl) (by simp) ?_
          refine AllReadyIn.cons rfl (fun K hK => ?_) (AllReadyIn.cons rfl (fun K hK => ?_) AllReadyIn.nil)
          · go_simp
            refine hK _ _ ?_
            clear hK K
            refine wpAnyIn_ready (rs := [4]) (by kernel_rfl) (by simp) ?_
            refine AllReadyIn.cons rfl (fun K hK => ?_) AllReadyIn.nil
            go_simp
            refine hK _ _ ?_
            clear hK K
            refine wpAnyIn_ready (rs := [5]) (by kernel_rfl) (by simp) ?_
            refine AllReadyIn.cons rfl (fun K hK => ?_) AllReadyIn.nil
            go_simp
            refine hK _ _ ?_
            clear hK K
            refine wpAnyIn_ready (rs := [6]) (by kernel_rfl) (by simp) ?_
            refine AllReadyIn.cons rfl (fun K hK => ?_) AllReadyIn.nil
            refine step_append_in (by rfl) (.tmp 10) (.tmp 15) 33 (by rfl) (by rfl) (by rfl) hrun ?_
            refine hK _ _ ?_
            clear hK K
            try simp only [Act.put, List.setIfInBounds_toArray, List.set_cons_zero, List.set_cons_succ]
            refine wpAnyIn_ready (rs := [7]) (by kernel_rfl) (by simp) ?_
            refine AllReadyIn.cons rfl (fun K hK => ?_) AllReadyIn.nil
            go_simp
            refine hK _ _ ?_
            clear hK K
            refine wpAnyIn_done (by kernel_rfl) ?_ _
            gi_wp2
            exact hfin.out
          · go_simp
            refine hK _ _ ?_
            clear hK K
            refine wpAnyIn_ready (rs := [0, 5]) (by kernel_rfl) (by simp) ?_
            refine AllReadyIn.cons rfl (fun K hK => ?_) (AllReadyIn.cons rfl (fun K hK => ?_) AllReadyIn.nil)
            · go_simp
              refine hK _ _ ?_
              clear hK K
              refine wpAnyIn_ready (rs := [5]) (by kernel_rfl) (by simp) ?_
              refine AllReadyIn.cons rfl (fun K hK => ?_) AllReadyIn.nil
              go_simp
              refine hK _ _ ?_
              clear hK K
              refine wpAnyIn_ready (rs := [6]) (by kernel_rfl) (by simp) ?_
              refine AllReadyIn.cons rfl (fun K hK => ?_) AllReadyIn.nil
              refine step_append_in (by rfl) (.tmp 10) (.tmp 15) 33 (by rfl) (by rfl) (by rfl) hrun ?_
              refine hK _ _ ?_
              clear hK K
              try simp only [Act.put, List.setIfInBounds_toArray, List.set_cons_zero, List.set_cons_succ]
              refine wpAnyIn_ready (rs := [7]) (by kernel_rfl) (by simp) ?_
              refine AllReadyIn.cons rfl (fun K hK => ?_) AllReadyIn.nil
              go_simp
              refine hK _ _ ?_
              clear hK K
              refine wpAnyIn_done (by kernel_rfl) ?_ _
              gi_wp2
              exact hfin.out
            · go_simp
              refine hK _ _ ?_
              clear hK K
              refine wpAnyIn_ready (rs := [0]) (by kernel_rfl) (by simp) ?_
              refine AllReadyIn.cons rfl (fun K hK => ?_) AllReadyIn.nil
              go_simp
              refine hK _ _ ?_
              clear hK K
              refine wpAnyIn_ready (rs := [6]) (by kernel_rfl) (by simp) ?_
              refine AllReadyIn.cons rfl (fun K hK => ?_) AllReadyIn.nil
              refine step_append_in (by rfl) (.tmp 10) (.tmp 15) 33 (by rfl) (by rfl) (by rfl) hrun ?_
              refine hK _ _ ?_
              clear hK K
              try simp only [Act.put, List.setIfInBounds_toArray, List.set_cons_zero, List.set_cons_succ]
              refine wpAnyIn_ready (rs := [7]) (by kernel_rfl) (by simp) ?_
              refine AllReadyIn.cons rfl (fun K hK => ?_) AllReadyIn.nil
              go_simp
              refine hK _ _ ?_
              clear hK K
              refine wpAnyIn_done (by kernel_rfl) ?_ _
              gi_wp2
              exact hfin.out
  case done =>
    rintro D S W hD hSD ⟨G, hm, hG, v, hV, hrow, hown⟩ hK
    obtain ⟨hc1, hf1⟩ := hV.facts
    have hm' := Lib.hid hm
    have hrow' := Lib.hid (show OwnId w.heap.size (W.putObj D (.deferred none)) v (idsV t) by
      rw [← hids.out]
      exact own_kept hrow fun k hk => World.putObj_heap_other (fun e => (hm.own k (hown k hk).1).1 (e ▸ hSD)))
    clear hV hm hrow hown
    gi_wp2
    refine ⟨by simp, .inl ⟨_, _, rfl, run_takeDeferred hK, ?_⟩⟩
    exact ⟨_, results_tmp rfl _ _ _, v, rfl, hrow'.out, end_below hm'.out.bel (by omega)⟩
  case stop =>
    rintro D c S pre W _ _ h _
    exact h.elim
end Go.Proofs.Ytacmofhlbebonaa
