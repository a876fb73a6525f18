/- Is a tree right: the program's loop over all nodes. -/
import Derived.Stop.RegionWithIn
import Derived.Test.YtacmofhlbebonaaTreJ
namespace Go.Proofs.Ytacmofhlbebonaa
open Go.RowKit Go.Shelf
set_option maxRecDepth 20000
attribute [local go_sem] Oper.semAt_some

def RightF (b : Nat) : Blks → Way → World → Prop := fun G pre W => G b ∧ Var b (.bool false) 4 W ∧ pre.all (fun e => aloneOk ltB e.2) = true
theorem rightF_stays (b : Nat) : Stays (RightF b) := fun _ _ _ _ h hk => ⟨h.1, (hk b h.1).trans h.2.1, h.2.2⟩
/-- the loop has been left: what the answer's cell holds -/
def LeftF (b : Nat) (v : Value) (ty : TypeId) (q : Prop) : Blks → Way → World → Prop := fun G _ W => G b ∧ Var b v ty W ∧ q
theorem leftF_stays (b : Nat) (v : Value) (ty : TypeId) (q : Prop) : Stays (LeftF b v ty q) := fun _ _ _ _ h hk => ⟨h.1, (hk b h.1).trans h.2.1, h.2.2⟩
def Stopped (w W0 : World) (F : Blks → Way → World → Prop) : Code → Blks → Way → World → Prop := fun c S pre W => c = .ret ∧ Holds w W0 F S pre W
theorem stopped_kept {w W0 : World} (hw : w.heap.size ≤ W0.heap.size) {F : Blks → Way → World → Prop} (hF : Stays F) : ∀ c S pre W1 W2, Stopped w W0 F c S pre W1 → FrX S W1 W2 → Stopped w W0 F c S pre W2 :=
  fun _ _ _ _ _ h hX => ⟨h.1, minds_holds hw hF _ _ _ _ _ h.2 hX (fun _ h => h) (fun _ h => .inl h)⟩
set_option maxHeartbeats 4000000 in
theorem right_any (w : World) (t : Nd) (aA kA : Option Addr) (an ac kn kc : Nat) (h : NodeV (Old w) w aA an ac kA kn kc t) (hc : countV t ≤ 100000) :
    Calls Try.prog 12 #[.agg #[.int .u64 (t.id : Int), .bool t.leaf, .string ⟨t.label.toArray⟩, .slice aA an ac, .string ⟨t.text.toArray⟩, .slice kA kn kc]] w fun e w' => e = .returned (.bool (rightV ltB t)) ∧ Below w.heap.size w w' := by
  have h' := Lib.hid h
  have hlen := Lib.hid (pre_right ltB t 0)
  clear h
  refine (callsIn_wide (n := 2)).1 ?_
  refine callsIn_of_wp_marks Try.func12 rfl trivial ?_ rfl
  simp only [Try.ntmps12, List.size_toArray, List.length_cons, List.length_nil, Nat.reduceAdd, Nat.reduceSub, Array.replicate_succ, Array.replicate_zero, List.push_toArray, List.append_toArray, List.nil_append, List.cons_append]
  cases hlf : t.leaf
  · have hans := Lib.hid (show rightV ltB t = (preV 0 t).all (fun e => aloneOk ltB e.2) by rw [hlen.out]; unfold rightV; rw [hlf]; rfl)
    gi_wp2
    refine ⟨trivial, (callsIn_wide.2 (nodes_any _ _ _ _ _ _ _ _ _ _ _)).mono ?_⟩
    rintro e W1 ⟨rfl, rfl⟩
    gi_wp2
    obtain ⟨W0, hW0⟩ : ∃ W0, W0 = ((w.alloc (.cells #[.int .u64 (t.id : Int), .bool false, .string ⟨t.label.toArray⟩, .slice aA an ac, .string ⟨t.text.toArray⟩, .slice kA kn kc] 26)).alloc (.cells #[.bool false] 4)).alloc (.cells #[.int .u64 (t.id : Int), .bool false, .string ⟨t.label.toArray⟩, .slice aA an ac, .string ⟨t.text.toArray⟩, .slice kA kn kc] 26) := ⟨_, rfl⟩
    obtain ⟨n1, n2, n3⟩ := three_new w (.cells #[.int .u64 (t.id : Int), .bool false, .string ⟨t.label.toArray⟩, .slice aA an ac, .string ⟨t.text.toArray⟩, .slice kA kn kc] 26) (.cells #[.bool false] 4) (.cells #[.int .u64 (t.id : Int), .bool false, .string ⟨t.label.toArray⟩, .slice aA an ac, .string ⟨t.text.toArray⟩, .slice kA kn kc] 26)
    have hb0 : Below w.heap.size w W0 := by rw [hW0]; exact (((Below.refl w.heap.size w).alloc (Nat.le_refl _) _).alloc (by simp) _).alloc (by simp; omega) _
    have hz0 : W0.heap.size = w.heap.size + 3 := by rw [hW0]; simp
    rw [← hW0] at n1 n2 n3 ⊢
    clear hW0
    have hw0 : w.heap.size ≤ W0.heap.size := by omega
    have hgo := goes_nodes W0 (Old w) (w.heap.size + 2) t aA kA an ac kn kc (by unfold val6; rw [hlf]; exact n3) (h'.out.kept (fun _ h => h) (fun k hk => hb0.block k hk)) (fun k hk => Nat.lt_of_lt_of_le hk hw0) hc
    refine range_walk (n := 0) (gf := 46) (lb := #[.pointer (some ⟨w.heap.size + 2, 0, none⟩)]) (T0 := Old w) (td := preV 0 t) rfl (enters_of Try.func46 (by kernel_rfl) rfl) (fun k hk => Nat.lt_of_lt_of_le hk hw0) hgo rfl
      (Holds w W0 (RightF (w.heap.size + 1))) (Stopped w W0 (LeftF (w.heap.size + 1) (.bool false) 4 (rightV ltB t = false))) (minds_holds hw0 (rightF_stays _)) (stopped_kept hw0 (leftF_stays _ _ _ _))
      ⟨fun k => k = w.heap.size + 1, ⟨hb0, Nat.le_refl _, fun k hk => hk.elim, fun k hk => ⟨fun h => h, by omega, by omega⟩⟩, rfl, n2, rfl⟩ ?a1 ?assign ?body ?done ?stop
    case assign =>
      intro l d E W K hK
      unfold two
      gi_wp2
      exact hK
    case body =>
      rintro l S pre d E x W ⟨G, hm, hG, hV, hall⟩ hpre hN hS
      obtain ⟨hc1, hf1⟩ := hV.facts
      have hT : ∀ k, Old w k ∨ S k → k < W.heap.size := fun k hk => by rcases hk with hk | hk; exact Nat.lt_of_lt_of_le hk (Nat.le_trans hw0 hm.size); exact hS k hk
      have hcall := Lib.hid (rightAlone_any W (fun k => Old w k ∨ S k) E x hN hT)
      have hGb : w.heap.size + 1 < W.heap.size := (hm.own _ hG).2.1
      have hV' := Lib.hid hV
      have hm' := Lib.hid hm
      have hT' := Lib.hid hT
      have hall' := Lib.hid hall
      cases hax : aloneOk ltB x
      · have hans2 := Lib.hid (show rightV ltB t = false by
          rw [hans.out]
          obtain ⟨r, hr⟩ := hpre
          rw [← hr]
          simp [hax])
        rw [hax] at hcall
        clear hV hm hpre hN hT hall hax
        gi_wp2
        refine ⟨trivial, rfl, (CallsIn.inRound l (callsIn_wide.2 hcall.out)).mono ?_⟩
        rintro e W1 ⟨rfl, hb⟩
        have hc2 := (hb.cell (p := ⟨w.heap.size + 1, 0, none⟩) hGb).trans hc1
        have hf2 := (hb.frozen (p := ⟨w.heap.size + 1, 0, none⟩) hGb).trans hf1
        have hb' := Lib.hid hb
        clear hb
        gi_wp2
        obtain ⟨q1, q2⟩ := hm'.out.step (G' := G) hS ((FrX.of_below hb'.out).setCell hG) (fun k hk => .inl hk) hw0
        exact ⟨⟨rfl, G, q1, hG, Var.set ((hb'.out.block _ hGb).trans hV'.out), hans2.out⟩, q2⟩
      · rw [hax] at hcall
        have hall2 := Lib.hid (show (pre ++ [(d, x)]).all (fun e => aloneOk ltB e.2) = true by rw [List.all_append, hall]; simp [hax])
        clear hV hm hpre hN hT hall hax
        gi_wp2
        refine ⟨trivial, rfl, (CallsIn.inRound l (callsIn_wide.2 hcall.out)).mono ?_⟩
        rintro e W1 ⟨rfl, hb⟩
        have hb' := Lib.hid hb
        clear hb
        gi_wp2
        obtain ⟨q1, q2⟩ := hm'.out.step (G' := G) hS (FrX.of_below hb'.out) (fun k hk => .inl hk) hw0
        exact ⟨⟨G, q1, hG, (hb'.out.block _ hGb).trans hV'.out, hall2.out⟩, q2⟩
    case done =>
      rintro D S W hD hSD ⟨G, hm, hG, hV, hall⟩ hK
      obtain ⟨hc1, hf1⟩ := hV.facts
      have hGb : w.heap.size + 1 < W.heap.size := (hm.own _ hG).2.1
      have hSG : ¬ S (w.heap.size + 1) := (hm.own _ hG).1
      have hne : w.heap.size + 1 ≠ D := fun e => hSG (e ▸ hSD)
      have hV' := Lib.hid hV
      have hm' := Lib.hid hm
      have hans2 := Lib.hid (hans.out.trans hall)
      clear hV hm hall
      gi_wp2
      refine ⟨by simp, .inl ⟨_, _, rfl, run_takeDeferred (w := W.setCell ⟨w.heap.size + 1, 0, none⟩ (.bool true)) ((heap_setCell_other _ _ _ _ (fun e => hne e.symm)).trans hK), ?_⟩⟩
      have hcell : ((W.setCell ⟨w.heap.size + 1, 0, none⟩ (.bool true)).putObj D (.deferred none)).cell? ⟨w.heap.size + 1, 0, none⟩ = some (.bool true) := cell_of_row _ _ 0 _ _ _ ((World.putObj_heap_other hne).trans hV'.out.set)
      exact ⟨.bool true, by simp [results, Try.results12, go_sem, hcell], by rw [hans2.out], end_below (hm'.out.bel.setCell (by simp) _) (by omega)⟩
    case stop =>
      rintro D c S pre W hD hSD ⟨rfl, G, hm, hG, hV, hq⟩ hK
      obtain ⟨hc1, hf1⟩ := hV.facts
      have hne : w.heap.size + 1 ≠ D := fun e => (hm.own _ hG).1 (e ▸ hSD)
      have hV' := Lib.hid hV
      have hm' := Lib.hid hm
      have hans2 := Lib.hid hq
      clear hV hm hq
      gi_wp2
      refine ⟨by simp, .inl ⟨_, _, rfl, run_takeDeferred hK, ?_⟩⟩
      have hcell : (W.putObj D (.deferred none)).cell? ⟨w.heap.size + 1, 0, none⟩ = some (.bool false) := cell_of_row _ _ 0 _ _ _ ((World.putObj_heap_other hne).trans hV'.out)
      exact ⟨.bool false, by simp [results, Try.results12, go_sem, hcell], by rw [hans2.out], end_below hm'.out.bel (by omega)⟩
  · have hans := Lib.hid (show rightV ltB t = false by unfold rightV; rw [hlf]; rfl)
    gi_wp2
    obtain ⟨W9, hW9⟩ : ∃ W9, W9 = ((w.alloc (.cells #[.int .u64 (t.id : Int), .bool true, .string ⟨t.label.toArray⟩, .slice aA an ac, .string ⟨t.text.toArray⟩, .slice kA kn kc] 26)).alloc (.cells #[.bool false] 4)) := ⟨_, rfl⟩
    have hcell : W9.cell? ⟨w.heap.size + 1, 0, none⟩ = some (.bool false) := by
      rw [hW9]
      exact cell_of_row _ _ 0 _ _ _ (two_second w _ _)
    have hbel : Below w.heap.size w W9 := by
      rw [hW9]
      exact ((Below.refl w.heap.size w).alloc (Nat.le_refl _) _).alloc (by simp) _
    rw [← hW9]
    clear hW9
    exact ⟨.bool false, by simp [results, Try.results12, go_sem, hcell], by rw [hans.out], hbel⟩
end Go.Proofs.Ytacmofhlbebonaa
