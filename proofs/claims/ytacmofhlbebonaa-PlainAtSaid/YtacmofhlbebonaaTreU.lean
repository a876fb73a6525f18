/- Have two trees one shape, and match any two nodes: the program's. -/
import Derived.Test.YtacmofhlbebonaaTreRd
namespace Go.Proofs.Ytacmofhlbebonaa
open Go.RowKit Go.Shelf
set_option maxRecDepth 20000
attribute [local go_sem] Oper.semAt_some

theorem seven_new (w : World) (o0 o1 o2 o3 o4 o5 o6 : Obj) : (((((((w.alloc o0).alloc o1).alloc o2).alloc o3).alloc o4).alloc o5).alloc o6).heap[w.heap.size]? = some o0 ∧ (((((((w.alloc o0).alloc o1).alloc o2).alloc o3).alloc o4).alloc o5).alloc o6).heap[w.heap.size + 1]? = some o1 ∧ (((((((w.alloc o0).alloc o1).alloc o2).alloc o3).alloc o4).alloc o5).alloc o6).heap[w.heap.size + 1 + 1]? = some o2 ∧ (((((((w.alloc o0).alloc o1).alloc o2).alloc o3).alloc o4).alloc o5).alloc o6).heap[w.heap.size + 1 + 1 + 1]? = some o3 ∧ (((((((w.alloc o0).alloc o1).alloc o2).alloc o3).alloc o4).alloc o5).alloc o6).heap[w.heap.size + 1 + 1 + 1 + 1]? = some o4 ∧ (((((((w.alloc o0).alloc o1).alloc o2).alloc o3).alloc o4).alloc o5).alloc o6).heap[w.heap.size + 1 + 1 + 1 + 1 + 1]? = some o5 ∧ (((((((w.alloc o0).alloc o1).alloc o2).alloc o3).alloc o4).alloc o5).alloc o6).heap[w.heap.size + 1 + 1 + 1 + 1 + 1 + 1]? = some o6 ∧ (((((((w.alloc o0).alloc o1).alloc o2).alloc o3).alloc o4).alloc o5).alloc o6).heap.size = w.heap.size + 1 + 1 + 1 + 1 + 1 + 1 + 1 := by
  refine ⟨?_, ?_, ?_, ?_, ?_, ?_, ?_, by simp⟩
  · have h := heap_alloc_new w o0
    exact ((heap_alloc_old _ _ _ (by simp <;> omega)).trans (((heap_alloc_old _ _ _ (by simp <;> omega)).trans (((heap_alloc_old _ _ _ (by simp <;> omega)).trans (((heap_alloc_old _ _ _ (by simp <;> omega)).trans (((heap_alloc_old _ _ _ (by simp <;> omega)).trans (((heap_alloc_old _ _ _ (by simp <;> omega)).trans (h))))))))))))
  · have e : (w.alloc o0).heap.size = w.heap.size + 1 := by simp
    have h := heap_alloc_new (w.alloc o0) o1
    rw [e] at h
    exact ((heap_alloc_old _ _ _ (by simp <;> omega)).trans (((heap_alloc_old _ _ _ (by simp <;> omega)).trans (((heap_alloc_old _ _ _ (by simp <;> omega)).trans (((heap_alloc_old _ _ _ (by simp <;> omega)).trans (((heap_alloc_old _ _ _ (by simp <;> omega)).trans (h))))))))))
  · have e : ((w.alloc o0).alloc o1).heap.size = w.heap.size + 1 + 1 := by simp
    have h := heap_alloc_new ((w.alloc o0).alloc o1) o2
    rw [e] at h
    exact ((heap_alloc_old _ _ _ (by simp <;> omega)).trans (((heap_alloc_old _ _ _ (by simp <;> omega)).trans (((heap_alloc_old _ _ _ (by simp <;> omega)).trans (((heap_alloc_old _ _ _ (by simp <;> omega)).trans (h))))))))
  · have e : (((w.alloc o0).alloc o1).alloc o2).heap.size = w.heap.size + 1 + 1 + 1 := by simp
    have h := heap_alloc_new (((w.alloc o0).alloc o1).alloc o2) o3
    rw [e] at h
    exact ((heap_alloc_old _ _ _ (by simp <;> omega)).trans (((heap_alloc_old _ _ _ (by simp <;> omega)).trans (((heap_alloc_old _ _ _ (by simp <;> omega)).trans (h))))))
  · have e : ((((w.alloc o0).alloc o1).alloc o2).alloc o3).heap.size = w.heap.size + 1 + 1 + 1 + 1 := by simp
    have h := heap_alloc_new ((((w.alloc o0).alloc o1).alloc o2).alloc o3) o4
    rw [e] at h
    exact ((heap_alloc_old _ _ _ (by simp <;> omega)).trans (((heap_alloc_old _ _ _ (by simp <;> omega)).trans (h))))
  · have e : (((((w.alloc o0).alloc o1).alloc o2).alloc o3).alloc o4).heap.size = w.heap.size + 1 + 1 + 1 + 1 + 1 := by simp
    have h := heap_alloc_new (((((w.alloc o0).alloc o1).alloc o2).alloc o3).alloc o4) o5
    rw [e] at h
    exact ((heap_alloc_old _ _ _ (by simp <;> omega)).trans (h))
  · have e : ((((((w.alloc o0).alloc o1).alloc o2).alloc o3).alloc o4).alloc o5).heap.size = w.heap.size + 1 + 1 + 1 + 1 + 1 + 1 := by simp
    have h := heap_alloc_new ((((((w.alloc o0).alloc o1).alloc o2).alloc o3).alloc o4).alloc o5) o6
    rw [e] at h
    exact h
theorem minds_holds2 {w W0 : World} (hw : w.heap.size ≤ W0.heap.size) {F : Blks → Way → World → Prop} (hF : ∀ G pre W1 W2, F G pre W1 → W1.heap.size ≤ W2.heap.size → (∀ k, G k ∨ Old w k → W2.heap[k]? = W1.heap[k]?) → F G pre W2) : Minds (Holds w W0 F) := by
  rintro S S' pre W1 W2 ⟨G, hm, hf⟩ hX - hn
  obtain ⟨q1, q2⟩ := hm.walked hw hX hn
  refine ⟨G, q1, hF G pre W1 W2 hf hX.size fun k hk => ?_⟩
  rcases hk with hk | hk
  · exact q2 k hk
  · exact (q1.bel.block k hk).trans (hm.bel.block k hk).symm
def MF_same (w : World) (b2 : Nat) (t u : Nd) : Blks → Way → World → Prop := fun G pre W => G b2 ∧ G (b2 + 1) ∧ Var b2 (.func (.func 40) #[] #[]) 55 W ∧ Var (b2 + 1) (.bool false) 4 W ∧
  ∃ (S2 : Blks) (s sa : Stk), (∀ k, S2 k → G k) ∧ ¬ S2 b2 ∧ ¬ S2 (b2 + 1) ∧ G (b2 + 2) ∧ WalkAt (fun k => Old w k ∨ k = b2 + 2) S2 (b2 + 2) W (b2 + 4) s ∧ preV 0 t = pre ++ todo sa ∧ shape sa = shape s ∧ eqV sameA t u = lock sameA sa s ∧ sa.length + (todo sa).length ≤ 200000
theorem mF_same_stays (w : World) (b2 : Nat) (t u : Nd) : ∀ G pre W1 W2, MF_same w b2 t u G pre W1 → W1.heap.size ≤ W2.heap.size → (∀ k, G k ∨ Old w k → W2.heap[k]? = W1.heap[k]?) → MF_same w b2 t u G pre W2 := by
  rintro G pre W1 W2 ⟨h1, h2, h3, h4, S2, s, sa, g1, g2, g3, g4, hw, g5⟩ hz hk
  refine ⟨h1, h2, (hk _ (.inl h1)).trans h3, (hk _ (.inl h2)).trans h4, S2, s, sa, g1, g2, g3, g4, WalkAt.kept hw hz (fun k hk' => hk k ?_), g5⟩
  rcases hk' with (hk' | rfl) | hk'
  · exact .inr hk'
  · exact .inl g4
  · exact .inl (g1 k hk')
set_option maxHeartbeats 8000000 in
theorem match_same (w : World) (t u : Nd) (aA kA aA2 kA2 : Option Addr) (an ac kn kc an2 ac2 kn2 kc2 : Nat) (h : NodeV (Old w) w aA an ac kA kn kc t) (h2 : NodeV (Old w) w aA2 an2 ac2 kA2 kn2 kc2 u) (hc : countV t ≤ 100000) :
    Calls Try.prog 39 #[.agg #[.int .u64 (t.id : Int), .bool t.leaf, .string ⟨t.label.toArray⟩, .slice aA an ac, .string ⟨t.text.toArray⟩, .slice kA kn kc], .agg #[.int .u64 (u.id : Int), .bool u.leaf, .string ⟨u.label.toArray⟩, .slice aA2 an2 ac2, .string ⟨u.text.toArray⟩, .slice kA2 kn2 kc2], .func (.func 40) #[] #[]] w fun e w' => e = .returned (.bool (eqV sameA t u)) ∧ Below w.heap.size w w' := by
  have h' := Lib.hid h
  have h2' := Lib.hid h2
  clear h h2
  refine (callsIn_wide (n := 2)).1 ?_
  refine callsIn_of_wp_marks Try.func39 rfl trivial ?_ rfl
  simp only [Try.ntmps39, List.size_toArray, List.length_cons, List.length_nil, Nat.reduceAdd, Nat.reduceSub, Array.replicate_succ, Array.replicate_zero, List.push_toArray, List.append_toArray, List.nil_append, List.cons_append]
  gi_wp2
  obtain ⟨W7, hW7⟩ : ∃ W7, W7 = (((((((w.alloc (.cells #[.int .u64 (t.id : Int), .bool t.leaf, .string ⟨t.label.toArray⟩, .slice aA an ac, .string ⟨t.text.toArray⟩, .slice kA kn kc] 26)).alloc (.cells #[.int .u64 (u.id : Int), .bool u.leaf, .string ⟨u.label.toArray⟩, .slice aA2 an2 ac2, .string ⟨u.text.toArray⟩, .slice kA2 kn2 kc2] 26)).alloc (.cells #[.func (.func 40) #[] #[]] 55)).alloc (.cells #[.bool false] 4)).alloc (.cells #[.int .u64 (u.id : Int), .bool u.leaf, .string ⟨u.label.toArray⟩, .slice aA2 an2 ac2, .string ⟨u.text.toArray⟩, .slice kA2 kn2 kc2] 26)).alloc (.cells #[.slice (some ⟨w.heap.size + 1 + 1 + 1 + 1, 0, none⟩) 1 1] 24)).alloc (.cells #[.slice (some ⟨w.heap.size + 1 + 1 + 1 + 1 + 1, 0, none⟩) 1 1] 62)) := ⟨_, rfl⟩
  obtain ⟨-, -, m2, m3, m4, m5, m6, hz7⟩ := seven_new w (.cells #[.int .u64 (t.id : Int), .bool t.leaf, .string ⟨t.label.toArray⟩, .slice aA an ac, .string ⟨t.text.toArray⟩, .slice kA kn kc] 26) (.cells #[.int .u64 (u.id : Int), .bool u.leaf, .string ⟨u.label.toArray⟩, .slice aA2 an2 ac2, .string ⟨u.text.toArray⟩, .slice kA2 kn2 kc2] 26) (.cells #[.func (.func 40) #[] #[]] 55) (.cells #[.bool false] 4) (.cells #[.int .u64 (u.id : Int), .bool u.leaf, .string ⟨u.label.toArray⟩, .slice aA2 an2 ac2, .string ⟨u.text.toArray⟩, .slice kA2 kn2 kc2] 26) (.cells #[.slice (some ⟨w.heap.size + 1 + 1 + 1 + 1, 0, none⟩) 1 1] 24) (.cells #[.slice (some ⟨w.heap.size + 1 + 1 + 1 + 1 + 1, 0, none⟩) 1 1] 62)
  have hb7 : Below w.heap.size w W7 := by rw [hW7]; exact (((((((Below.refl w.heap.size w).alloc (Nat.le_refl _) _).alloc (by simp) _).alloc (by simp <;> omega) _).alloc (by simp <;> omega) _).alloc (by simp <;> omega) _).alloc (by simp <;> omega) _).alloc (by simp <;> omega) _
  rw [← hW7] at m2 m3 m4 m5 m6 hz7
  rw [← hW7]
  clear hW7
  obtain ⟨b2, hb2⟩ : ∃ b2, b2 = w.heap.size + 1 + 1 := ⟨_, rfl⟩
  rw [← hb2] at m2 m3 m4 m5 m6 hz7 ⊢
  refine ⟨trivial, (callsIn_wide.2 (nodes_any _ _ _ _ _ _ _ _ _ _ _)).mono ?_⟩
  rintro e W1 ⟨rfl, rfl⟩
  have hb2' := Lib.hid hb2
  have hz7' := Lib.hid hz7
  clear hb2 hz7
  gi_wp2
  have hb2 := hb2'.out
  have hz7 := hz7'.out
  obtain ⟨W0, hW0⟩ : ∃ W0, W0 = W7.alloc (.cells #[.int .u64 (t.id : Int), .bool t.leaf, .string ⟨t.label.toArray⟩, .slice aA an ac, .string ⟨t.text.toArray⟩, .slice kA kn kc] 26) := ⟨_, rfl⟩
  have n7 : W0.heap[W7.heap.size]? = some (.cells #[.int .u64 (t.id : Int), .bool t.leaf, .string ⟨t.label.toArray⟩, .slice aA an ac, .string ⟨t.text.toArray⟩, .slice kA kn kc] 26) := by rw [hW0]; exact heap_alloc_new _ _
  have hz0 : W0.heap.size = W7.heap.size + 1 := by rw [hW0]; simp
  have ho0 : ∀ k, k < W7.heap.size → W0.heap[k]? = W7.heap[k]? := fun k hk => by rw [hW0]; exact heap_alloc_old _ _ _ hk
  have hb0 : Below w.heap.size w W0 := by rw [hW0]; exact hb7.alloc (by omega) _
  rw [← hW0]
  clear hW0
  have hw0 : w.heap.size ≤ W0.heap.size := by omega
  have k2 := (ho0 b2 (by omega)).trans m2
  have k3 := (ho0 (b2 + 1) (by omega)).trans m3
  have k4 := (ho0 (b2 + 1 + 1) (by omega)).trans m4
  have k5 := (ho0 (b2 + 1 + 1 + 1) (by omega)).trans m5
  have k6 := (ho0 (b2 + 1 + 1 + 1 + 1) (by omega)).trans m6
  clear m2 m3 m4 m5 m6
  have hgo := goes_nodes W0 (Old w) W7.heap.size t aA kA an ac kn kc n7 (h'.out.kept (fun _ h => h) (fun k hk => hb0.block k hk)) (fun k hk => Nat.lt_of_lt_of_le hk hw0) hc
  have hz0' := Lib.hid hz0
  have hstart : MF_same w b2 t u (fun k => b2 ≤ k ∧ k < W7.heap.size) [] W0 := by
    refine ⟨⟨Nat.le_refl _, by omega⟩, ⟨by omega, by omega⟩, k2, k3, fun k => k = b2 + 3 ∨ k = b2 + 4, [[u]], [[t]], fun k hk => by omega, by omega, by omega, ⟨by omega, by omega⟩, ?_, by rw [todo_root]; rfl, rfl, by simp [lock, eqsV], by rw [todo_root, pre_len]; simp only [List.length_cons, List.length_nil]; omega⟩
    refine ⟨fun k hk => by omega, fun k hk hs => ?_, fun k hk => ?_, .inr rfl, b2 + 3, 1, 1, [.slice (some ⟨b2 + 2, 0, none⟩) 1 1], k6, rfl, ⟨rfl, .inr ⟨b2 + 3, 1, _, rfl, by omega, k5, Nat.le_refl _, by unfold maxLen; omega, rfl, rfl⟩⟩, .inl rfl, ?_⟩
    · rcases hk with hk | hk
      · have : k < w.heap.size := hk
        omega
      · omega
    · rcases hk with hk | hk
      · have : k < w.heap.size := hk
        omega
      · omega
    · intro d row hd
      match d, hd with
      | 0, hd =>
        injection hd with hd
        subst hd
        refine ⟨some ⟨b2 + 2, 0, none⟩, 1, 1, rfl, rfl, Nat.le_refl _, by unfold maxLen; omega, (fun h => by cases h), ?_⟩
        simp only [RowAt, and_true]
        obtain ⟨d0, d1, d2, d3, d4, d5, -⟩ := six_cells k4
        exact ⟨⟨b2 + 2, 0, none⟩, aA2, an2, ac2, kA2, kn2, kc2, rfl, .inr rfl, ⟨d0, d1, d2, d3, d4, d5⟩, h2'.out.kept (fun k hk => .inl hk) (fun k hk => hb0.block k hk)⟩
  clear k2 k3 k4 k5 k6 hb2 hz7
  refine range_walk (n := 0) (gf := 46) (lb := #[.pointer (some ⟨W7.heap.size, 0, none⟩)]) (T0 := Old w) (td := preV 0 t) rfl (enters_of Try.func46 (by kernel_rfl) rfl) (fun k hk => Nat.lt_of_lt_of_le hk hw0) hgo rfl
    (Holds w W0 (MF_same w b2 t u)) (Stopped w W0 (LeftF (b2 + 1) (.bool false) 4 (eqV sameA t u = false))) (minds_holds2 hw0 (mF_same_stays w b2 t u)) (stopped_kept hw0 (leftF_stays _ _ _ _))
    ⟨fun k => b2 ≤ k ∧ k < W7.heap.size, ⟨hb0, Nat.le_refl _, fun k hk => hk.elim, fun k hk => ⟨fun h => h, by omega, by have := hb2'.out; omega⟩⟩, hstart⟩ ?a1 ?assign ?body ?done ?stop
  case assign =>
    intro l d E W K hK
    unfold two
    gi_wp2
    exact hK
  case body =>
    rintro l S pre d E x W ⟨G, hm, hG2, hG3, hV2, hV3, S2, s, sa, hSG, hn2, hn3, hG4, hwk, htd, hsh, hlk, hlen⟩ hpre hN hS
    obtain ⟨c2, -⟩ := hV2.facts
    obtain ⟨c3, f3⟩ := hV3.facts
    have hGb3 : b2 + 1 < W.heap.size := (hm.own _ hG3).2.1
    have hGb2 : b2 < W.heap.size := (hm.own _ hG2).2.1
    have hnx : ∃ sa', nextV sa = some (d, x, sa') := by
      have hn := todo_next sa
      obtain ⟨r, hr⟩ := hpre
      rw [htd, List.append_assoc] at hr
      have hr2 := List.append_cancel_left hr
      cases hq : nextV sa with
      | none =>
        rw [hq] at hn
        dsimp only at hn
        rw [hn] at hr2
        cases hr2
      | some y =>
        obtain ⟨d', x', sa'⟩ := y
        rw [hq] at hn
        dsimp only at hn
        rw [hn] at hr2
        injection hr2 with e1 e2
        injection e1 with e3 e4
        subst e3 e4
        exact ⟨sa', rfl⟩
    obtain ⟨sa', hna⟩ := hnx
    have hns : ∃ d2 y s', nextV s = some (d2, y, s') := by
      have := nextV_shape sa s hsh
      rw [hna] at this
      cases hq : nextV s with
      | none => rw [hq] at this; cases this
      | some z => exact ⟨_, _, _, rfl⟩
    obtain ⟨d2, y, s', hnb⟩ := hns
    have hL := lock_next sameA sa s hsh
    rw [hna, hnb] at hL
    dsimp only at hL
    obtain ⟨hL1, hL2, hL3⟩ := hL
    have htn := todo_next sa
    rw [hna] at htn
    dsimp only at htn
    have hsl : s.length ≤ 1000000 := by
      have := congrArg List.length hsh
      simp only [shape, List.length_map] at this
      omega
    have hnl := nextV_len sa d x sa' hna
    have hcall := Lib.hid (next_any W (fun k => Old w k ∨ k = b2 + 2) S2 (b2 + 2) (b2 + 4) s hwk hsl (by omega))
    unfold NextPost at hcall
    rw [hnb] at hcall
    dsimp only at hcall
    have hT : ∀ k, Old w k ∨ S k → k < W.heap.size ∧ ¬ S2 k := fun k hk => by
      rcases hk with hk | hk
      · have h1 : k < w.heap.size := hk
        exact ⟨by have := hm.size; omega, fun h => by have := (hm.own k (hSG k h)).2.2; omega⟩
      · exact ⟨hS k hk, fun h => (hm.own k (hSG k h)).1 hk⟩
    have hm' := Lib.hid hm
    have hN' := Lib.hid hN
    have hV2' := Lib.hid hV2
    have hV3' := Lib.hid hV3
    have hT' := Lib.hid hT
    have hSG' := Lib.hid hSG
    have hL1' := Lib.hid hL1
    have hL2' := Lib.hid hL2
    have hL3' := Lib.hid hL3
    have hlk' := Lib.hid hlk
    have htd' := Lib.hid htd
    have htn' := Lib.hid htn
    clear hm hN hV2 hV3 hT hSG hL1 hL2 hL3 hlk htd htn hpre hwk hna hnb hsh
    gi_wp2
    refine ⟨trivial, rfl, (CallsIn.inRound l (callsIn_wide.2 hcall.out)).mono ?_⟩
    rintro e W1 ⟨F, rfl, hNy, hW', hFX⟩
    have hxN : NodeAt (fun k => Old w k ∨ S k) W1 E x := hN'.out.kept (fun _ h => h) (fun k hk => hFX.block k (hT'.out k hk).1 (hT'.out k hk).2)
    have c2' : W1.cell? ⟨b2, 0, none⟩ = some (.func (.func 40) #[] #[]) := (World.cell?_of_block (a := ⟨b2, 0, none⟩) (hFX.block b2 hGb2 hn2)).trans c2
    have v3 : Var (b2 + 1) (.bool false) 4 W1 := (hFX.block _ hGb3 hn3).trans hV3'.out
    obtain ⟨c3', f3'⟩ := v3.facts
    have hz1 := hFX.size
    have hal := Lib.hid (fun j => sameAlone_any (W1.drewN j) (fun k => Old w k ∨ S k) (fun k => Old w k ∨ k = b2 + 2) E F x y (hxN.drewN j) (hNy.drewN j) (fun k hk => Nat.lt_of_lt_of_le (hT'.out k hk).1 hz1) (fun k hk => hW'.told k hk))
    obtain ⟨-, xA, xn, xc, xk, xkn, xkc, ⟨-, -, -, -, -, x5⟩, hxv⟩ := hxN
    obtain ⟨-, yA, yn, yc, yk, ykn, ykc, ⟨-, -, -, -, -, y5⟩, hyv⟩ := hNy
    have hxl := hxv.facts.kl
    have hyl := hyv.facts.kl
    have hv3' := Lib.hid v3
    have hFX' := Lib.hid hFX
    have hW'' := Lib.hid hW'
    have hstep := Lib.hid (show ∀ (nq : Nat), Mine w W0 (fun k => G k ∨ (W.heap.size ≤ k ∧ k < W1.heap.size)) S (W1.drewN nq) ∧ Keeps (Old w) S W (W1.drewN nq) from fun nq => hm'.out.step hS ((hFX'.out.mono fun k _ h => hSG'.out k h).drewN nq) (fun k hk => hk) hw0)
    clear hxv hyv v3 hFX hW' hcall c2 c3 f3
    have gkD : ∀ b : Bool, (xkn = ykn ↔ b = true) → decide (xkn = ykn) = b := fun b hb => by cases b <;> simp_all
    cases hr : sameA x y with
    | false =>
      have hans := Lib.hid (show eqV sameA t u = false by rw [hlk'.out, hL1'.out, hr]; rfl)
      rw [hr] at hal
      clear hr hxl hyl gkD
      gi_wp2
      refine wpIn_region_quiet_round (by kernel_rfl) (by kernel_rfl) (by kernel_rfl) ?_
      repeat (refine wpQuietIn_step (fun _ _ _ _ => trivial) (fun K hK => ?_); go_simp; first | (refine hK _ ?_; clear hK K) | (apply Exists.intro; refine ⟨fun _ => ?_, hK _ ?_⟩; (exact ⟨rfl, callsIn_wide.2 (Calls.quiet_of (hal.out _))⟩); clear hK K))
      refine wpQuietIn_nil ?_
      intro _ hw'
      obtain ⟨nq, hw''⟩ := hw'
      subst hw''
      gi_wp2
      obtain ⟨q1, q2⟩ := hm'.out.step (G' := fun k => G k ∨ (W.heap.size ≤ k ∧ k < W1.heap.size)) (W' := (W1.drewN nq).setCell ⟨b2 + 1, 0, none⟩ (.bool false)) hS (((hFX'.out.mono fun k _ h => hSG'.out k h).drewN nq).setCell hG3) (fun k hk => by simpa using hk) hw0
      exact ⟨⟨rfl, _, q1, .inl hG3, Var.set hv3'.out, hans.out⟩, q2⟩
    | true =>
      by_cases gk : xkn = ykn
      · have hkk : x.kids.length = y.kids.length := by rw [hxl, hyl, gk]
        have hcont := Lib.hid (show MF_same w b2 t u (fun k => G k ∨ (W.heap.size ≤ k ∧ k < W1.heap.size)) (pre ++ [(d, x)]) W1 by
          refine ⟨.inl hG2, .inl hG3, (hFX'.out.block _ hGb2 hn2).trans hV2'.out, hv3'.out, Also S2 W W1, s', sa', fun k hk => ?_, fun h => ?_, fun h => ?_, .inl hG4, hW''.out, by rw [htd'.out, htn'.out]; simp, hL2'.out hkk, by rw [hlk'.out, hL1'.out, hr]; simp, by rw [htn'.out] at hlen; simp only [List.length_cons] at hlen; omega⟩
          · rcases hk with hk | hk
            · exact .inl (hSG'.out k hk)
            · exact .inr hk
          · rcases h with h | h
            · exact hn2 h
            · omega
          · rcases h with h | h
            · exact hn3 h
            · omega)
        rw [hr] at hal
        clear hr hxl hyl hkk gkD
        subst gk
        gi_wp2
        refine wpIn_region_quiet_round (by kernel_rfl) (by kernel_rfl) (by kernel_rfl) ?_
        repeat (refine wpQuietIn_step (fun _ _ _ _ => trivial) (fun K hK => ?_); go_simp; first | (refine hK _ ?_; clear hK K) | (apply Exists.intro; refine ⟨fun _ => ?_, hK _ ?_⟩; (exact ⟨rfl, callsIn_wide.2 (Calls.quiet_of (hal.out _))⟩); clear hK K))
        refine wpQuietIn_nil ?_
        intro _ hw'
        obtain ⟨nq, hw''⟩ := hw'
        subst hw''
        gi_wp2
        exact ⟨⟨_, (hstep.out nq).1, mF_same_stays w b2 t u _ _ W1 _ hcont.out (Nat.le_refl _) (fun _ _ => rfl)⟩, (hstep.out nq).2⟩
      · have hans := Lib.hid (show eqV sameA t u = false by rw [hlk'.out]; exact hL3'.out (by rw [hxl, hyl]; exact gk))
        have gkI : ((xkn : Int) == (ykn : Int)) = false := by simp; omega
        have gkd := gkD false (by simp [gk])
        rw [hr] at hal
        clear hr hxl hyl gkD
        gi_wp2
        refine wpIn_region_quiet_round (by kernel_rfl) (by kernel_rfl) (by kernel_rfl) ?_
        repeat (refine wpQuietIn_step (fun _ _ _ _ => trivial) (fun K hK => ?_); go_simp; first | (refine hK _ ?_; clear hK K) | (apply Exists.intro; refine ⟨fun _ => ?_, hK _ ?_⟩; (exact ⟨rfl, callsIn_wide.2 (Calls.quiet_of (hal.out _))⟩); clear hK K))
        refine wpQuietIn_nil ?_
        intro _ hw'
        obtain ⟨nq, hw''⟩ := hw'
        subst hw''
        gi_wp2
        obtain ⟨q1, q2⟩ := hm'.out.step (G' := fun k => G k ∨ (W.heap.size ≤ k ∧ k < W1.heap.size)) (W' := (W1.drewN nq).setCell ⟨b2 + 1, 0, none⟩ (.bool false)) hS (((hFX'.out.mono fun k _ h => hSG'.out k h).drewN nq).setCell hG3) (fun k hk => by simpa using hk) hw0
        exact ⟨⟨rfl, _, q1, .inl hG3, Var.set hv3'.out, hans.out⟩, q2⟩
  case done =>
    rintro D S W hD hSD ⟨G, hm, hG2, hG3, hV2, hV3, S2, s, sa, hSG, hn2, hn3, hG4, hwk, htd, hsh, hlk, hlen⟩ hK
    have hnil : todo sa = [] := by
      have := congrArg List.length htd
      rw [List.length_append] at this
      exact List.length_eq_zero_iff.1 (by omega)
    have hans := Lib.hid (show eqV sameA t u = true by
      rw [hlk]
      have hn := todo_next sa
      have hL := lock_next sameA sa s hsh
      have hs := nextV_shape sa s hsh
      cases hq : nextV sa with
      | some y =>
        rw [hq] at hn
        dsimp only at hn
        rw [hn] at hnil
        cases hnil
      | none =>
        rw [hq] at hL hs
        cases hq2 : nextV s with
        | some y => rw [hq2] at hs; cases hs
        | none =>
          rw [hq2] at hL
          exact hL)
    obtain ⟨c3, f3⟩ := hV3.facts
    have hne : b2 + 1 ≠ D := fun e => (hm.own _ hG3).1 (e ▸ hSD)
    have hV3' := Lib.hid hV3
    have hm' := Lib.hid hm
    clear hV2 hV3 hm hwk htd hsh hlk hlen hnil hSG
    gi_wp2
    refine ⟨by simp, .inl ⟨_, _, rfl, run_takeDeferred (w := W.setCell ⟨b2 + 1, 0, none⟩ (.bool true)) ((heap_setCell_other _ _ _ _ (fun e => hne e.symm)).trans hK), ?_⟩⟩
    have hcell : ((W.setCell ⟨b2 + 1, 0, none⟩ (.bool true)).putObj D (.deferred none)).cell? ⟨b2 + 1, 0, none⟩ = some (.bool true) := cell_of_row _ _ 0 _ _ _ ((World.putObj_heap_other hne).trans hV3'.out.set)
    exact ⟨.bool true, by simp [results, Try.results39, go_sem, hcell], by rw [hans.out], end_below (hm'.out.bel.setCell (by have := hb2'.out; simp; omega) _) (by omega)⟩
  case stop =>
    rintro D c S pre W hD hSD ⟨rfl, G, hm, hG, hV, hq⟩ hK
    obtain ⟨c3, f3⟩ := hV.facts
    have hne : b2 + 1 ≠ D := fun e => (hm.own _ hG).1 (e ▸ hSD)
    have hV' := Lib.hid hV
    have hm' := Lib.hid hm
    have hans2 := Lib.hid hq
    clear hV hm hq
    gi_wp2
    refine ⟨by simp, .inl ⟨_, _, rfl, run_takeDeferred hK, ?_⟩⟩
    have hcell : (W.putObj D (.deferred none)).cell? ⟨b2 + 1, 0, none⟩ = some (.bool false) := cell_of_row _ _ 0 _ _ _ ((World.putObj_heap_other hne).trans hV'.out)
    exact ⟨.bool false, by simp [results, Try.results39, go_sem, hcell], by rw [hans2.out], end_below hm'.out.bel (by omega)⟩
end Go.Proofs.Ytacmofhlbebonaa
