/- What a valid operation makes is right: the law. -/
import Derived.Test.YtoeblaecldhcaaaTopLi
import Derived.Test.YtoeblaecldhcaaaMgAM
import Derived.Test.YtoeblaecldhcaaaTopEa
import Derived.Test.YtoeblaecldhcaaaTopEb
namespace Go.Proofs.Ytoeblaecldhcaaa.Top
open Go.RowKit
set_option maxRecDepth 20000
set_option linter.unusedVariables false

theorem valid_zero {t : Nd} {o : Ov} (h : validV t o = 0) : rightV ltB t = true ∧ faultV t o = 0 := by
  unfold validV at h
  split at h
  · exact ⟨by assumption, h⟩
  · cases h
theorem count_upto (i : Nat) (l : List Nat) : l.count i ≤ l.length := List.count_le_length
set_option maxHeartbeats 8000000 in
theorem lawRight_any (w : World) (t : Nd) (aA kA : Option Addr) (an ac kn kc : Nat) (o : Ov) (s : OS) (h : NodeV (Old w) w aA an ac kA kn kc t) (hraw : OpRaw w o s) : Calls Try.prog 8 #[.agg (val6 t aA an ac kA kn kc), .agg (opCells o s)] w fun e w' => e = .returned (.bool true) ∧ Below w.heap.size w w' := by
  obtain ⟨W2, hW2⟩ : ∃ W2, W2 = (w.alloc (.cells (val6 t aA an ac kA kn kc) 33)).alloc (.cells (opCells o s) 26) := ⟨_, rfl⟩
  have z1 : W2.heap[w.heap.size]? = some (.cells (val6 t aA an ac kA kn kc) 33 (0, 0)) := by rw [hW2]; exact (Go.heap_alloc_old _ _ (by simp)).trans (heap_alloc_new w _)
  have z2 : W2.heap[w.heap.size + 1]? = some (.cells (opCells o s) 26 (0, 0)) := by rw [hW2]; have h1 := heap_alloc_new (w.alloc (.cells (val6 t aA an ac kA kn kc) 33)) (.cells (opCells o s) 26); rw [World.size_alloc] at h1; exact h1
  have z4' := Lib.hid (show Below w.heap.size w W2 by rw [hW2]; exact ((Below.refl _ _).alloc (Nat.le_refl _) _).alloc (by simp) _)
  have z5 := Lib.hid (show W2.heap.size = w.heap.size + 1 + 1 by rw [hW2]; simp)
  have hbx := Lib.hid (fun (W : World) (hb : Below W2.heap.size W2 W) => show W.heap[w.heap.size]? = some (.cells (val6 t aA an ac kA kn kc) 33 (0, 0)) ∧ W.heap[w.heap.size + 1]? = some (.cells (opCells o s) 26 (0, 0)) from ⟨(hb.block _ (by have := z5.out; omega)).trans z1, (hb.block _ (by have := z5.out; omega)).trans z2⟩)
  have hN := Lib.hid (fun (W : World) (hb : Below W2.heap.size W2 W) => (h.below z4'.out).below hb)
  have hO := Lib.hid (fun (W : World) (hb : Below W2.heap.size W2 W) => (hraw.below z4'.out).below hb)
  have hwt := Lib.hid (fun (W : World) (hb : Below W2.heap.size W2 W) => weight_any t W aA kA an ac kn kc 600 (hN.out W hb) (by decide))
  have hli := Lib.hid (fun (W : World) (hb : Below W2.heap.size W2 W) => light_any W o s (hO.out W hb) 500 (by decide))
  have hin := Lib.hid (fun (hl : lightB o 500 = true) (W : World) (hb : Below W2.heap.size W2 W) => (hO.out W hb).op (by have := (of_decide_eq_true hl).1; omega) (by have := (of_decide_eq_true hl).2.1; omega) (by have := (of_decide_eq_true hl).2.2.2.2.2.1; omega))
  have hsl := Lib.hid (fun (hl : lightB o 500 = true) => show Slim o from ⟨by have := (of_decide_eq_true hl).2.2.1; omega, by have := (of_decide_eq_true hl).2.2.2.1; omega, by have := (of_decide_eq_true hl).2.2.2.2.1; omega, by have := (of_decide_eq_true hl).2.2.2.2.2.2; omega⟩)
  obtain ⟨b, hb⟩ : ∃ b, b = lightB o 500 := ⟨_, rfl⟩
  rw [← hb] at hli hin hsl
  clear h hraw hb
  obtain ⟨o0, o1, o2, o3, o4, o5, o6, o7, o8, o9, o10⟩ := op_cells z2
  have z1u := z1
  unfold val6 at z1u
  obtain ⟨p0, p1, p2, p3, p4, p5, pf⟩ := six_cells z1u
  clear z1 z1u z2
  rw [hW2] at o0 o1 o2 o3 o4 o5 o6 o7 o8 o9 o10 p0 p1 p2 p3 p4 p5 pf
  unfold opCells at hli
  unfold val6 at hwt
  unfold val6 opCells at hW2 o0 o1 o2 o3 o4 o5 o6 o7 o8 o9 o10 p0 p1 p2 p3 p4 p5
  unfold val6 opCells
  go_enter Try.func8, Try.ntmps8
  go_wp2_with fail
  rw [← hW2]
  clear hW2 o0 o1 o2 o3 o4 o5 o6 o7 o8 o9 o10 p0 p1 p2 p3 p4 p5 pf
  refine (hwt.out W2 (Below.refl _ _)).mono ?_
  rintro e w1 ⟨x, rfl, hx3, hx, hb1⟩
  have B1 := Lib.hid hb1
  have hx' := Lib.hid hx
  obtain ⟨r1, r2⟩ := hbx.out w1 hb1
  obtain ⟨o0, o1, o2, o3, o4, o5, o6, o7, o8, o9, o10⟩ := op_cells r2
  unfold val6 at r1
  obtain ⟨p0, p1, p2, p3, p4, p5, pf⟩ := six_cells r1
  clear hb1 hx r1 r2 hwt
  by_cases g1 : x ≤ 600
  · have g1I : ¬ (600 : Int) < (x : Int) := by omega
    cases b with
    | false =>
      clear hin hsl
      go_wp2_with (first
        | (go_at_call 13; go_loud (refine (works_any _).mono ?_; rintro e w5 ⟨rfl, hb5⟩; have B5 := Lib.hid (B2.out.trans (hb5.mono B2.out.size)); clear hb5))
        | (go_at_call 10; go_loud (refine (hli.out w1 B1.out).mono ?_; rintro e w2 ⟨rfl, hb2⟩; have B2 := Lib.hid (B1.out.trans (hb2.mono B1.out.size)); obtain ⟨r1, r2⟩ := hbx.out w2 B2.out; clear o0 o1 o2 o3 o4 o5 o6 o7 o8 o9 o10 p0 p1 p2 p3 p4 p5 pf; obtain ⟨o0, o1, o2, o3, o4, o5, o6, o7, o8, o9, o10⟩ := op_cells r2; unfold val6 at r1; obtain ⟨p0, p1, p2, p3, p4, p5, pf⟩ := six_cells r1; clear hb2 r1 r2)))
      go_ret
      exact ⟨rfl, z4'.out.trans (B5.out.mono z4'.out.size)⟩
    | true =>
      have hin1 := Lib.hid (hin.out rfl)
      have hsl1 := Lib.hid (hsl.out rfl)
      clear hin hsl
      go_upto_region 3 with (go_at_call 10; go_loud (refine (hli.out w1 B1.out).mono ?_; rintro e w2 ⟨rfl, hb2⟩; have B2 := Lib.hid (B1.out.trans (hb2.mono B1.out.size)); obtain ⟨r1, r2⟩ := hbx.out w2 B2.out; clear o0 o1 o2 o3 o4 o5 o6 o7 o8 o9 o10 p0 p1 p2 p3 p4 p5 pf; obtain ⟨o0, o1, o2, o3, o4, o5, o6, o7, o8, o9, o10⟩ := op_cells r2; unfold val6 at r1; obtain ⟨p0, p1, p2, p3, p4, p5, pf⟩ := six_cells r1; clear hb2 r1 r2))
      have hap := Lib.hid (apply_any w2 t aA kA an ac kn kc (hN.out w2 B2.out) o s (hin1.out w2 B2.out) hsl1.out (by have := hx'.out g1; omega))
      obtain ⟨vv, hvv⟩ : ∃ vv, vv = validV t o := ⟨_, rfl⟩
      obtain ⟨m, hm⟩ : ∃ m, m = applyV t o := ⟨_, rfl⟩
      rw [← hvv, ← hm] at hap
      have hvv' := Lib.hid hvv
      have hm' := Lib.hid hm
      clear hvv hm hli
      unfold AppA val6 opCells at hap
      go_upto_region 4 with (go_at_call 19; go_loud (refine hap.out.mono ?_; rintro e w3 ⟨mA, mn, mc, mK, mk, md, rfl, hn3, hb3⟩; clear o0 o1 o2 o3 o4 o5 o6 o7 o8 o9 o10 p0 p1 p2 p3 p4 p5 pf))
      obtain ⟨X3, hX3⟩ : ∃ X, X = w3.alloc (.cells (val6 m mA mn mc mK mk md) 33) := ⟨_, rfl⟩
      have m0 := Lib.hid (show X3.heap[w3.heap.size]? = some (.cells (val6 m mA mn mc mK mk md) 33 (0, 0)) by rw [hX3]; exact heap_alloc_new w3 _)
      have hM0 := hn3.kept (fun k hk => show Old w3 k by
        rcases hk with hk | hk
        · exact Nat.lt_of_lt_of_le hk hb3.size
        · exact hk.2) (fun _ _ => rfl)
      have B3 := Lib.hid (show Below W2.heap.size W2 X3 by rw [hX3]; exact B2.out.trans ((hb3.alloc hb3.size _).mono B2.out.size))
      have hM := Lib.hid (fun (W : World) (hb : Below X3.heap.size X3 W) => show NodeV (Old W) W mA mn mc mK mk md m from (show NodeV (Old X3) X3 mA mn mc mK mk md m by rw [hX3]; exact hM0.below ((Below.refl _ _).alloc (Nat.le_refl _) _)).below hb)
      have hs3 : w3.heap.size < X3.heap.size := by rw [hX3]; simp
      unfold val6 at hX3
      rw [← hX3]
      clear hX3 hn3 hM0 hb3 hap
      obtain ⟨b3, hbe⟩ : ∃ b, b = w3.heap.size := ⟨_, rfl⟩
      rw [← hbe] at m0 hs3 ⊢
      clear hbe
      have hMx := Lib.hid (fun (W : World) (hb : Below X3.heap.size X3 W) => show W.heap[b3]? = some (.cells (val6 m mA mn mc mK mk md) 33 (0, 0)) from (hb.block _ hs3).trans m0.out)
      have hMc := Lib.hid (fun (W : World) (hb : Below X3.heap.size X3 W) => six_cells (by have := hMx.out W hb; unfold val6 at this; exact this))
      clear m0 hs3
      by_cases hv0 : vv = 0
      · subst hv0
        obtain ⟨hright, hft⟩ := valid_zero hvv'.out.symm
        have hma : m = afterV t o := by have h := hm'.out; unfold applyV at h; rw [if_pos hvv'.out.symm] at h; exact h
        have hrm := Lib.hid (show rightV ltB m = true by rw [hma]; exact right_after hright hft)
        have hcn := Lib.hid (fun i => show (idsV m).count i + (if o.kind = 2 then (idsV ((atV t o.path).getD Nd.zero)).count i else 0) = (idsV t).count i + (if o.kind = 1 ∧ i = o.id then 1 else 0) by rw [hma]; exact ids_after hft i)
        have hsz := Lib.hid (show (idsV m).length + (if o.kind = 2 then (idsV ((atV t o.path).getD Nd.zero)).length else 0) = (idsV t).length + (if o.kind = 1 then 1 else 0) by rw [hma, ids_count, ids_count, ids_count]; exact size_after hft)
        have hwt' := Lib.hid (show (idsV t).length ≤ 600 by rw [ids_count]; have := hx'.out g1; have := count_le t; omega)
        have hmt' := Lib.hid (show (idsV m).length ≤ 601 by have h1 := hsz.out; have h2 := hwt'.out; split at h1 <;> split at h1 <;> omega)
        have hcm' := Lib.hid (show countV m ≤ 601 by rw [← ids_count]; exact hmt'.out)
        have hgt' := Lib.hid (fun (h2 : o.kind = 2) => show (idsV ((atV t o.path).getD Nd.zero)).length ≤ 600 by have h1 := hsz.out; have h3 := hwt'.out; rw [if_pos h2, if_neg (by omega)] at h1; omega)
        clear hft hright hma hvv' hm'
        have hi1 := Lib.hid (fun (W : World) (hb : Below X3.heap.size X3 W) => ids_any W t aA kA an ac kn kc (hN.out W (B3.out.trans (hb.mono B3.out.size))) (by have := hwt'.out; rw [ids_count] at this; omega))
        have hi2 := Lib.hid (fun (W : World) (hb : Below X3.heap.size X3 W) => ids_any W m mA mK mn mc mk md (hM.out W hb) (by have := hmt'.out; rw [ids_count] at this; omega))
        obtain ⟨ws, hws⟩ : ∃ ws, ws = idsV t := ⟨_, rfl⟩
        obtain ⟨nw, hnw⟩ : ∃ nw, nw = idsV m := ⟨_, rfl⟩
        rw [← hws] at hcn hsz hwt' hi1
        rw [← hnw] at hcn hsz hmt' hi2
        clear hws hnw
        go_upto_region 6 with fail
        rename_i K0 hK0
        refine Top.wp_region_L (fun W => Below X3.heap.size X3 W) 5 rfl ((Below.refl X3.heap.size X3).drew) (fun hHeld => ?_)
        refine Top.wpAnyL_take (i := 0) (oi := { dst := some 39, op := Go.Op.load 33 (Go.Operand.tmp 2), type := 33, pos := "law.go:99", after := #[], guard := none }) (v := ?_) rfl (by kernel_rfl) (by kernel_rfl) (by kernel_rfl) (by kernel_rfl) (fun _ _ _ h => h) (Or.inl ⟨by rfl, ?_⟩) hHeld ?_
        rotate_left 1
        · intro W hSw; obtain ⟨r1, -⟩ := hbx.out W (B3.out.trans (hSw.mono B3.out.size)); unfold val6 at r1; obtain ⟨p0, p1, p2, p3, p4, p5, pf⟩ := six_cells r1; obtain ⟨q0, q1, q2, q3, q4, q5, qf⟩ := hMc.out W hSw; go_simp; try with_reducible rfl
        try simp only [Act.put, List.setIfInBounds_toArray, List.set_cons_zero, List.set_cons_succ]
        refine Top.wpAnyL_take (i := 2) (oi := { dst := some 41, op := Go.Op.load 33 (Go.Operand.tmp 5), type := 33, pos := "law.go:99", after := #[], guard := none }) (v := ?_) rfl (by kernel_rfl) (by kernel_rfl) (by kernel_rfl) (by kernel_rfl) (fun _ _ _ h => h) (Or.inl ⟨by rfl, ?_⟩) hHeld ?_
        rotate_left 1
        · intro W hSw; obtain ⟨r1, -⟩ := hbx.out W (B3.out.trans (hSw.mono B3.out.size)); unfold val6 at r1; obtain ⟨p0, p1, p2, p3, p4, p5, pf⟩ := six_cells r1; obtain ⟨q0, q1, q2, q3, q4, q5, qf⟩ := hMc.out W hSw; go_simp; try with_reducible rfl
        try simp only [Act.put, List.setIfInBounds_toArray, List.set_cons_zero, List.set_cons_succ]
        refine Top.wpAnyL_one (i := 1) (o := { dst := some 40, op := Go.Op.call { callee := Go.Callee.value (Go.Operand.func 32), args := #[Go.Operand.tmp 39], argTypes := #[33] }, type := 38, pos := "law.go:99", after := #[{ on := 0, ground := Go.Ground.data }], guard := none }) (by kernel_rfl) rfl (by decide) (fun K hK => ?_)
        go_simp
        refine (hi1.out _ hHeld).mono ?_
        rintro e w6 ⟨v6, rfl, ho, hb6⟩
        obtain ⟨A1, c1, rfl, hca6, hcb6, hr6⟩ := own_nts ho
        have h6 := Lib.hid (show Below X3.heap.size X3 w6 from hHeld.trans (hb6.mono hHeld.size))
        have hr6 := Lib.hid hr6
        have hz6 := Lib.hid (show c1 ≤ maxLen ∧ ws.length ≤ c1 from ⟨hcb6, hca6⟩)
        clear ho hb6 hca6 hcb6
        go_simp
        refine hK.out _ _ ?_ (fun hNew => ?_)
        · exact h6.out
        clear hK K hHeld
        have hHeld := hNew
        clear hNew
        try simp only [Act.put, List.setIfInBounds_toArray, List.set_cons_zero, List.set_cons_succ]
        refine Top.wpAnyL_one (i := 3) (o := { dst := some 42, op := Go.Op.call { callee := Go.Callee.value (Go.Operand.func 32), args := #[Go.Operand.tmp 41], argTypes := #[33] }, type := 38, pos := "law.go:99", after := #[{ on := 2, ground := Go.Ground.data }, { on := 1, ground := Go.Ground.chain }], guard := none }) (by kernel_rfl) rfl (by decide) (fun K hK => ?_)
        go_simp
        refine (hi2.out _ hHeld).mono ?_
        rintro e w7 ⟨v7, rfl, ho, hb7⟩
        obtain ⟨A2, c2, rfl, hca7, hcb7, hr7⟩ := own_nts ho
        have h7 := Lib.hid (show Below X3.heap.size X3 w7 from hHeld.trans (hb7.mono hHeld.size))
        have hr6' := Lib.hid (show Nts w7 A1 ws.length ws from hr6.out.below hb7)
        have hr7' := Lib.hid hr7
        have hz7 := Lib.hid (show c2 ≤ maxLen ∧ nw.length ≤ c2 from ⟨hcb7, hca7⟩)
        clear ho hb7 hr7 hr6 hca7 hcb7
        go_simp
        refine hK.out _ _ ?_ (fun hNew => ?_)
        · exact h7.out
        clear hK K hHeld
        have hHeld := hNew
        clear hNew
        try simp only [Act.put, List.setIfInBounds_toArray, List.set_cons_zero, List.set_cons_succ]
        refine Top.wpAnyL_take (i := 4) (oi := { dst := some 7, op := Go.Op.assign (Go.Operand.tmp 40), type := 38, pos := "law.go:99", after := #[{ on := 1, ground := Go.Ground.data }, { on := 3, ground := Go.Ground.chain }, { on := 0, ground := Go.Ground.phase }, { on := 1, ground := Go.Ground.phase }, { on := 2, ground := Go.Ground.textOnly Go.Departure.lateStores }, { on := 3, ground := Go.Ground.textOnly Go.Departure.lateStoresUnsure }], guard := none }) (v := ?_) rfl (by kernel_rfl) (by kernel_rfl) (by kernel_rfl) (by kernel_rfl) (fun _ _ _ h => h) (Or.inl ⟨by rfl, ?_⟩) hHeld ?_
        rotate_left 1
        · intro W hSw; obtain ⟨r1, -⟩ := hbx.out W (B3.out.trans (hSw.mono B3.out.size)); unfold val6 at r1; obtain ⟨p0, p1, p2, p3, p4, p5, pf⟩ := six_cells r1; obtain ⟨q0, q1, q2, q3, q4, q5, qf⟩ := hMc.out W hSw; go_simp; try with_reducible rfl
        try simp only [Act.put, List.setIfInBounds_toArray, List.set_cons_zero, List.set_cons_succ]
        refine Top.wpAnyL_last (o := { dst := some 8, op := Go.Op.assign (Go.Operand.tmp 42), type := 38, pos := "law.go:99", after := #[{ on := 3, ground := Go.Ground.data }, { on := 4, ground := Go.Ground.chain }, { on := 0, ground := Go.Ground.phase }, { on := 1, ground := Go.Ground.phase }, { on := 2, ground := Go.Ground.phase }, { on := 3, ground := Go.Ground.phase }, { on := 4, ground := Go.Ground.phase }], guard := none }) (by kernel_rfl) rfl (fun K hK => ?_)
        go_simp
        refine hK _ _ ?_
        clear hK K
        try simp only [Act.put, List.setIfInBounds_toArray, List.set_cons_zero, List.set_cons_succ]
        refine wpAny_done (by kernel_rfl) ?_ _
        refine hK0 _ _ ?_
        clear hK0
        clear hi1 hi2
        obtain ⟨r1, r2⟩ := hbx.out w7 (B3.out.trans (h7.out.mono B3.out.size))
        obtain ⟨o0, o1, o2, o3, o4, o5, o6, o7, o8, o9, o10⟩ := op_cells r2
        unfold val6 at r1
        obtain ⟨p0, p1, p2, p3, p4, p5, pf⟩ := six_cells r1
        clear r1 r2
        by_cases k2 : o.kind = 2
        · have k2b : ((o.kind : Int) == 2) = true := by simp; omega
          have k1b : ((o.kind : Int) == 1) = false := by simp; omega
          have B7 := Lib.hid (B3.out.trans (h7.out.mono B3.out.size))
          obtain ⟨xx, hxe⟩ : ∃ x, x = (atV t o.path).getD Nd.zero := ⟨_, rfl⟩
          have hat := Lib.hid (at_any w7 t aA kA an ac kn kc (hN.out w7 B7.out) s.pA s.pn s.pc o.path (hin1.out w7 B7.out).path (Nat.le_trans (hin1.out w7 B7.out).pnc (hin1.out w7 B7.out).pcm) (by have := hx'.out g1; omega))
          unfold Go.Proofs.Ytoeblaecldhcaaa.AtAns at hat
          rw [← hxe] at hcn hsz hgt' hat
          clear hxe
          unfold val6 at hat
          go_upto_region 10 with (go_at_call 33; go_loud (refine hat.out.mono ?_; rintro e w8 ⟨xA, xn, xc, xK, xk, xd, rfl, hx8, hb8⟩; clear o0 o1 o2 o3 o4 o5 o6 o7 o8 o9 o10 p0 p1 p2 p3 p4 p5 pf))
          obtain ⟨X8, hX8⟩ : ∃ X, X = w8.alloc (.cells (val6 xx xA xn xc xK xk xd) 33) := ⟨_, rfl⟩
          have m8 := Lib.hid (show X8.heap[w8.heap.size]? = some (.cells (val6 xx xA xn xc xK xk xd) 33 (0, 0)) by rw [hX8]; exact heap_alloc_new w8 _)
          have h8 := Lib.hid (show Below w7.heap.size w7 X8 by rw [hX8]; exact hb8.alloc hb8.size _)
          have hi3 := Lib.hid (ids_any X8 xx xA xK xn xc xk xd (by rw [hX8]; exact hx8.below ((Below.refl _ _).alloc (Nat.le_refl _) _)) (by have := hgt'.out k2; rw [ids_count] at this; omega))
          unfold val6 at hX8
          rw [← hX8]
          clear hX8 hx8 hb8 hat
          obtain ⟨b8, hbe8⟩ : ∃ b, b = w8.heap.size := ⟨_, rfl⟩
          rw [← hbe8] at m8 ⊢
          clear hbe8
          have m8' := m8.out
          unfold val6 at m8'
          obtain ⟨p0, p1, p2, p3, p4, p5, pf⟩ := six_cells m8'
          clear m8 m8'
          obtain ⟨gs, hgs⟩ : ∃ gs, gs = idsV xx := ⟨_, rfl⟩
          rw [← hgs] at hcn hsz hgt' hi3
          clear hgs
          go_upto_region 11 with (go_at_call 32; go_loud (refine hi3.out.mono ?_; rintro e w9 ⟨v9, rfl, ho9, hb9⟩; obtain ⟨A3, c3, rfl, hca9, hcb9, hr9⟩ := own_nts ho9; clear p0 p1 p2 p3 p4 p5 pf ho9))
          have h79 := h8.out.trans (hb9.mono h8.out.size)
          have BC := Lib.hid (B7.out.trans (h79.mono B7.out.size))
          have HX := Lib.hid (h7.out.trans (h79.mono h7.out.size))
          have N1 := Lib.hid (hr6'.out.below h79)
          have N2 := Lib.hid (hr7'.out.below h79)
          have N3 := Lib.hid hr9
          have z3 := Lib.hid (show c3 ≤ maxLen ∧ gs.length ≤ c3 from ⟨hcb9, hca9⟩)
          have hsum := Lib.hid (fun i => show nw.count i + gs.count i = ws.count i + 0 by have h := hcn.out i; rw [if_pos k2, if_neg (by omega)] at h; exact h)
          have hsize := Lib.hid (show nw.length + gs.length = ws.length + 0 by have h := hsz.out; rw [if_pos k2, if_neg (by omega)] at h; exact h)
          have hgb : gs.length ≤ 600 := hgt'.out k2
          clear h79 hb9 hr9 hca9 hcb9 h8 hi3 B7 B3 hr6' hr7' h7 hcn hsz hgt'
          go_wp2_with fail
          go_loopw [12, 13, 14] (fun v12 v13 v14 wr => ∃ q : Nat, q ≤ ws.length + 1 ∧ v12 = .int .i64 (q : Int) ∧ Below w9.heap.size w9 wr) (fun v12 _ _ _ => ws.length + 1 - (intOf v12).toNat)
          case atStart => exact ⟨0, Nat.zero_le _, rfl, Below.refl _ _⟩
          case round =>
            obtain ⟨q, hq, rfl, hbr⟩ := hrel
            have HR := Lib.hid hbr
            have BR := Lib.hid (BC.out.trans (hbr.mono BC.out.size))
            have HXR := Lib.hid (HX.out.trans (hbr.mono HX.out.size))
            obtain ⟨-, r2⟩ := hbx.out _ BR.out
            obtain ⟨o0, -, -, -, o4, -, -, -, -, -, o10⟩ := op_cells r2
            clear r2 hbr
            skip
            have lw := hwt'.out
            have lm := hmt'.out
            by_cases hq1 : q < ws.length + 1
            · have hq1I : (q : Int) < (ws.length : Int) + 1 := by omega
              by_cases hq2 : q < ws.length
              · have hq2I : (q : Int) < (ws.length : Int) := by omega
                obtain ⟨ad, i, hA, -, ci⟩ := (N1.out.below HR.out).at_ hq2
                subst hA
                have ha := Lib.hid (fun (W : World) (hb : Below w9.heap.size w9 W) => count_any W A2 nw.length c2 nw (N2.out.below hb) (Nat.le_trans hz7.out.2 hz7.out.1) i)
                have hb := Lib.hid (fun (W : World) (hb : Below w9.heap.size w9 W) => count_any W (some ad) ws.length c1 ws (N1.out.below hb) (Nat.le_trans hz6.out.2 hz6.out.1) i)
                have hc := Lib.hid (fun (W : World) (hb : Below w9.heap.size w9 W) => count_any W A3 gs.length c3 gs (N3.out.below hb) (Nat.le_trans z3.out.2 z3.out.1) i)
                have hs := hsum.out i
                have u1 := count_upto i nw
                have u2 := count_upto i ws
                have u3 := count_upto i gs
                obtain ⟨cn, hcn⟩ : ∃ c, c = nw.count i := ⟨_, rfl⟩
                obtain ⟨cw, hcw⟩ : ∃ c, c = ws.count i := ⟨_, rfl⟩
                obtain ⟨cg, hcg⟩ : ∃ c, c = List.count i gs := ⟨_, rfl⟩
                rw [← hcn] at ha hs u1
                rw [← hcw] at hb hs u2
                rw [← hcg] at hc hs u3
                have l1 := hwt'.out
                have l2 := hmt'.out
                have l3 : gs.length ≤ 600 := hgb
                have t1 : cn ≤ 601 := by omega
                have t2 : cw ≤ 600 := by omega
                have t3 : cg ≤ 600 := by omega
                have hfin : ((cn : Int) == (cw : Int) + 0 - (cg : Int)) = true := by simp; omega
                clear hcn hcw hcg u1 u2 u3 l1 l2 l3 hs
                go_wp2_with (first | (go_at_call 34; go_loud (refine (ha.out _ HR.out).mono ?_; rintro e w21 ⟨rfl, hb21⟩; have h21 := Lib.hid (HR.out.trans (hb21.mono HR.out.size)); clear ha hb21)) | (go_at_call 34; go_loud (refine (hb.out _ h21.out).mono ?_; rintro e w22 ⟨rfl, hb22⟩; have h22 := Lib.hid (h21.out.trans (hb22.mono h21.out.size)); clear hb hb22)) | (go_at_call 34; go_loud (refine (hc.out _ h22.out).mono ?_; rintro e w23 ⟨rfl, hb23⟩; have h23 := Lib.hid (h22.out.trans (hb23.mono h22.out.size)); clear hc hb23)))
                go_roundw
                case rel => exact ⟨q + 1, by omega, by go_num, h23.out⟩
                case measure => simp [intOf]; omega
              · have hq2I : ¬ (q : Int) < (ws.length : Int) := by omega
                have ha := Lib.hid (fun (W : World) (hb : Below w9.heap.size w9 W) => count_any W A2 nw.length c2 nw (N2.out.below hb) (Nat.le_trans hz7.out.2 hz7.out.1) o.id)
                have hb := Lib.hid (fun (W : World) (hb : Below w9.heap.size w9 W) => count_any W A1 ws.length c1 ws (N1.out.below hb) (Nat.le_trans hz6.out.2 hz6.out.1) o.id)
                have hc := Lib.hid (fun (W : World) (hb : Below w9.heap.size w9 W) => count_any W A3 gs.length c3 gs (N3.out.below hb) (Nat.le_trans z3.out.2 z3.out.1) o.id)
                have hs := hsum.out o.id
                have u1 := count_upto o.id nw
                have u2 := count_upto o.id ws
                have u3 := count_upto o.id gs
                obtain ⟨cn, hcn⟩ : ∃ c, c = nw.count o.id := ⟨_, rfl⟩
                obtain ⟨cw, hcw⟩ : ∃ c, c = ws.count o.id := ⟨_, rfl⟩
                obtain ⟨cg, hcg⟩ : ∃ c, c = List.count o.id gs := ⟨_, rfl⟩
                rw [← hcn] at ha hs u1
                rw [← hcw] at hb hs u2
                rw [← hcg] at hc hs u3
                have l1 := hwt'.out
                have l2 := hmt'.out
                have l3 : gs.length ≤ 600 := hgb
                have t1 : cn ≤ 601 := by omega
                have t2 : cw ≤ 600 := by omega
                have t3 : cg ≤ 600 := by omega
                have hfin : ((cn : Int) == (cw : Int) + 0 - (cg : Int)) = true := by simp; omega
                clear hcn hcw hcg u1 u2 u3 l1 l2 l3 hs
                go_wp2_with (first | (go_at_call 34; go_loud (refine (ha.out _ HR.out).mono ?_; rintro e w21 ⟨rfl, hb21⟩; have h21 := Lib.hid (HR.out.trans (hb21.mono HR.out.size)); clear ha hb21)) | (go_at_call 34; go_loud (refine (hb.out _ h21.out).mono ?_; rintro e w22 ⟨rfl, hb22⟩; have h22 := Lib.hid (h21.out.trans (hb22.mono h21.out.size)); clear hb hb22)) | (go_at_call 34; go_loud (refine (hc.out _ h22.out).mono ?_; rintro e w23 ⟨rfl, hb23⟩; have h23 := Lib.hid (h22.out.trans (hb23.mono h22.out.size)); clear hc hb23)))
                go_roundw
                case rel => exact ⟨q + 1, by omega, by go_num, h23.out⟩
                case measure => simp [intOf]; omega
            · have hq1I : ¬ (q : Int) < (ws.length : Int) + 1 := by omega
              have hss := hsize.out
              have hszI : ((nw.length : Int) == (ws.length : Int) - ((gs.length : Nat) : Int)) = true := by simp; omega
              have hrt := Lib.hid (fun (W : World) (hb : Below X3.heap.size X3 W) => right_any W m mA mK mn mc mk md (hM.out W hb) (by have := hcm'.out; omega))
              rw [hrm.out] at hrt
              obtain ⟨q0, q1, q2, q3, q4, q5, qf⟩ := hMc.out _ HXR.out
              go_wp2_with (first
                | (go_at_call 35; go_loud (refine (hrt.out _ HXR.out).mono ?_; rintro e w11 ⟨rfl, hb11⟩; have B11 := Lib.hid (BR.out.trans (hb11.mono BR.out.size)); clear hb11))
                | (go_at_call 13; go_loud (refine (works_any _).mono ?_; rintro e w12 ⟨rfl, hb12⟩; have B12 := Lib.hid (B11.out.trans (hb12.mono B11.out.size)); clear hb12)))
              go_ret
              exact ⟨rfl, z4'.out.trans (B12.out.mono z4'.out.size)⟩
        · have k2b : ((o.kind : Int) == 2) = false := by simp; omega
          have BC := Lib.hid (B3.out.trans (h7.out.mono B3.out.size))
          have HX := Lib.hid h7.out
          have N1 := Lib.hid hr6'.out
          have N2 := Lib.hid hr7'.out
          have N3 := Lib.hid (Nts.nil_ w7)
          have z3 := Lib.hid (show 0 ≤ maxLen ∧ 0 ≤ 0 by decide)
          clear hr6' hr7' hgt'
          clear o1 o2 o3 o5 o6 o7 o8 o9 p0 p1 p2 p3 p4 p5 pf
          by_cases k1 : o.kind = 1
          · have hkI := Lib.hid (show (o.kind : Int) = 1 by omega)
            rw [hkI.out] at o0 ⊢
            have hsum := Lib.hid (fun i (more : Nat) (hm : (if i = o.id then 1 else 0) = more) => show nw.count i + ([] : List Nat).count i = ws.count i + more by have h := hcn.out i; rw [if_neg k2] at h; simp only [k1, true_and, hm] at h; simpa using h)
            have hsize := Lib.hid (show nw.length + 0 = ws.length + 1 by have h := hsz.out; rw [if_neg k2, if_pos k1] at h; exact h)
            clear hcn hsz
            go_wp2_with fail
            go_loopw [12, 13, 14] (fun v12 v13 v14 wr => ∃ q : Nat, q ≤ ws.length + 1 ∧ v12 = .int .i64 (q : Int) ∧ Below w7.heap.size w7 wr) (fun v12 _ _ _ => ws.length + 1 - (intOf v12).toNat)
            case atStart => exact ⟨0, Nat.zero_le _, rfl, Below.refl _ _⟩
            case round =>
              obtain ⟨q, hq, rfl, hbr⟩ := hrel
              have HR := Lib.hid hbr
              have BR := Lib.hid (BC.out.trans (hbr.mono BC.out.size))
              have HXR := Lib.hid (HX.out.trans (hbr.mono HX.out.size))
              obtain ⟨-, r2⟩ := hbx.out _ BR.out
              obtain ⟨o0, -, -, -, o4, -, -, -, -, -, o10⟩ := op_cells r2
              clear r2 hbr
              rw [hkI.out] at o0
              have lw := hwt'.out
              have lm := hmt'.out
              by_cases hq1 : q < ws.length + 1
              · have hq1I : (q : Int) < (ws.length : Int) + 1 := by omega
                by_cases hq2 : q < ws.length
                · have hq2I : (q : Int) < (ws.length : Int) := by omega
                  obtain ⟨ad, i, hA, -, ci⟩ := (N1.out.below HR.out).at_ hq2
                  subst hA
                  by_cases hi : i = o.id
                  · have hib : ((i : Int) == (o.id : Int)) = true := by simp [hi]
                    have ha := Lib.hid (fun (W : World) (hb : Below w7.heap.size w7 W) => count_any W A2 nw.length c2 nw (N2.out.below hb) (Nat.le_trans hz7.out.2 hz7.out.1) i)
                    have hb := Lib.hid (fun (W : World) (hb : Below w7.heap.size w7 W) => count_any W (some ad) ws.length c1 ws (N1.out.below hb) (Nat.le_trans hz6.out.2 hz6.out.1) i)
                    have hc := Lib.hid (fun (W : World) (hb : Below w7.heap.size w7 W) => count_any W none 0 0 [] (N3.out.below hb) (Nat.le_trans z3.out.2 z3.out.1) i)
                    have hs := hsum.out i 1 (if_pos hi)
                    have u1 := count_upto i nw
                    have u2 := count_upto i ws
                    have u3 := count_upto i []
                    obtain ⟨cn, hcn⟩ : ∃ c, c = nw.count i := ⟨_, rfl⟩
                    obtain ⟨cw, hcw⟩ : ∃ c, c = ws.count i := ⟨_, rfl⟩
                    obtain ⟨cg, hcg⟩ : ∃ c, c = List.count i [] := ⟨_, rfl⟩
                    rw [← hcn] at ha hs u1
                    rw [← hcw] at hb hs u2
                    rw [← hcg] at hc hs u3
                    have l1 := hwt'.out
                    have l2 := hmt'.out
                    have l3 : ([] : List Nat).length ≤ 600 := by simp
                    have t1 : cn ≤ 601 := by omega
                    have t2 : cw ≤ 600 := by omega
                    have t3 : cg ≤ 600 := by omega
                    have hfin : ((cn : Int) == (cw : Int) + 1 - (cg : Int)) = true := by simp; omega
                    clear hcn hcw hcg u1 u2 u3 l1 l2 l3 hs hi
                    go_wp2_with (first | (go_at_call 34; go_loud (refine (ha.out _ HR.out).mono ?_; rintro e w21 ⟨rfl, hb21⟩; have h21 := Lib.hid (HR.out.trans (hb21.mono HR.out.size)); clear ha hb21)) | (go_at_call 34; go_loud (refine (hb.out _ h21.out).mono ?_; rintro e w22 ⟨rfl, hb22⟩; have h22 := Lib.hid (h21.out.trans (hb22.mono h21.out.size)); clear hb hb22)) | (go_at_call 34; go_loud (refine (hc.out _ h22.out).mono ?_; rintro e w23 ⟨rfl, hb23⟩; have h23 := Lib.hid (h22.out.trans (hb23.mono h22.out.size)); clear hc hb23)))
                    go_roundw
                    case rel => exact ⟨q + 1, by omega, by go_num, h23.out⟩
                    case measure => simp [intOf]; omega
                  · have hib : ((i : Int) == (o.id : Int)) = false := by simp; omega
                    have ha := Lib.hid (fun (W : World) (hb : Below w7.heap.size w7 W) => count_any W A2 nw.length c2 nw (N2.out.below hb) (Nat.le_trans hz7.out.2 hz7.out.1) i)
                    have hb := Lib.hid (fun (W : World) (hb : Below w7.heap.size w7 W) => count_any W (some ad) ws.length c1 ws (N1.out.below hb) (Nat.le_trans hz6.out.2 hz6.out.1) i)
                    have hc := Lib.hid (fun (W : World) (hb : Below w7.heap.size w7 W) => count_any W none 0 0 [] (N3.out.below hb) (Nat.le_trans z3.out.2 z3.out.1) i)
                    have hs := hsum.out i 0 (if_neg hi)
                    have u1 := count_upto i nw
                    have u2 := count_upto i ws
                    have u3 := count_upto i []
                    obtain ⟨cn, hcn⟩ : ∃ c, c = nw.count i := ⟨_, rfl⟩
                    obtain ⟨cw, hcw⟩ : ∃ c, c = ws.count i := ⟨_, rfl⟩
                    obtain ⟨cg, hcg⟩ : ∃ c, c = List.count i [] := ⟨_, rfl⟩
                    rw [← hcn] at ha hs u1
                    rw [← hcw] at hb hs u2
                    rw [← hcg] at hc hs u3
                    have l1 := hwt'.out
                    have l2 := hmt'.out
                    have l3 : ([] : List Nat).length ≤ 600 := by simp
                    have t1 : cn ≤ 601 := by omega
                    have t2 : cw ≤ 600 := by omega
                    have t3 : cg ≤ 600 := by omega
                    have hfin : ((cn : Int) == (cw : Int) + 0 - (cg : Int)) = true := by simp; omega
                    clear hcn hcw hcg u1 u2 u3 l1 l2 l3 hs hi
                    go_wp2_with (first | (go_at_call 34; go_loud (refine (ha.out _ HR.out).mono ?_; rintro e w21 ⟨rfl, hb21⟩; have h21 := Lib.hid (HR.out.trans (hb21.mono HR.out.size)); clear ha hb21)) | (go_at_call 34; go_loud (refine (hb.out _ h21.out).mono ?_; rintro e w22 ⟨rfl, hb22⟩; have h22 := Lib.hid (h21.out.trans (hb22.mono h21.out.size)); clear hb hb22)) | (go_at_call 34; go_loud (refine (hc.out _ h22.out).mono ?_; rintro e w23 ⟨rfl, hb23⟩; have h23 := Lib.hid (h22.out.trans (hb23.mono h22.out.size)); clear hc hb23)))
                    go_roundw
                    case rel => exact ⟨q + 1, by omega, by go_num, h23.out⟩
                    case measure => simp [intOf]; omega
                · have hq2I : ¬ (q : Int) < (ws.length : Int) := by omega
                  have hib : ((o.id : Int) == (o.id : Int)) = true := by simp
                  have ha := Lib.hid (fun (W : World) (hb : Below w7.heap.size w7 W) => count_any W A2 nw.length c2 nw (N2.out.below hb) (Nat.le_trans hz7.out.2 hz7.out.1) o.id)
                  have hb := Lib.hid (fun (W : World) (hb : Below w7.heap.size w7 W) => count_any W A1 ws.length c1 ws (N1.out.below hb) (Nat.le_trans hz6.out.2 hz6.out.1) o.id)
                  have hc := Lib.hid (fun (W : World) (hb : Below w7.heap.size w7 W) => count_any W none 0 0 [] (N3.out.below hb) (Nat.le_trans z3.out.2 z3.out.1) o.id)
                  have hs := hsum.out o.id 1 (if_pos rfl)
                  have u1 := count_upto o.id nw
                  have u2 := count_upto o.id ws
                  have u3 := count_upto o.id []
                  obtain ⟨cn, hcn⟩ : ∃ c, c = nw.count o.id := ⟨_, rfl⟩
                  obtain ⟨cw, hcw⟩ : ∃ c, c = ws.count o.id := ⟨_, rfl⟩
                  obtain ⟨cg, hcg⟩ : ∃ c, c = List.count o.id [] := ⟨_, rfl⟩
                  rw [← hcn] at ha hs u1
                  rw [← hcw] at hb hs u2
                  rw [← hcg] at hc hs u3
                  have l1 := hwt'.out
                  have l2 := hmt'.out
                  have l3 : ([] : List Nat).length ≤ 600 := by simp
                  have t1 : cn ≤ 601 := by omega
                  have t2 : cw ≤ 600 := by omega
                  have t3 : cg ≤ 600 := by omega
                  have hfin : ((cn : Int) == (cw : Int) + 1 - (cg : Int)) = true := by simp; omega
                  clear hcn hcw hcg u1 u2 u3 l1 l2 l3 hs
                  go_wp2_with (first | (go_at_call 34; go_loud (refine (ha.out _ HR.out).mono ?_; rintro e w21 ⟨rfl, hb21⟩; have h21 := Lib.hid (HR.out.trans (hb21.mono HR.out.size)); clear ha hb21)) | (go_at_call 34; go_loud (refine (hb.out _ h21.out).mono ?_; rintro e w22 ⟨rfl, hb22⟩; have h22 := Lib.hid (h21.out.trans (hb22.mono h21.out.size)); clear hb hb22)) | (go_at_call 34; go_loud (refine (hc.out _ h22.out).mono ?_; rintro e w23 ⟨rfl, hb23⟩; have h23 := Lib.hid (h22.out.trans (hb23.mono h22.out.size)); clear hc hb23)))
                  go_roundw
                  case rel => exact ⟨q + 1, by omega, by go_num, h23.out⟩
                  case measure => simp [intOf]; omega
              · have hq1I : ¬ (q : Int) < (ws.length : Int) + 1 := by omega
                have hss := hsize.out
                have hszI : ((nw.length : Int) == (ws.length : Int) - ((0 : Nat) : Int) + 1) = true := by simp; omega
                have hrt := Lib.hid (fun (W : World) (hb : Below X3.heap.size X3 W) => right_any W m mA mK mn mc mk md (hM.out W hb) (by have := hcm'.out; omega))
                rw [hrm.out] at hrt
                obtain ⟨q0, q1, q2, q3, q4, q5, qf⟩ := hMc.out _ HXR.out
                go_wp2_with (first
                  | (go_at_call 35; go_loud (refine (hrt.out _ HXR.out).mono ?_; rintro e w11 ⟨rfl, hb11⟩; have B11 := Lib.hid (BR.out.trans (hb11.mono BR.out.size)); clear hb11))
                  | (go_at_call 13; go_loud (refine (works_any _).mono ?_; rintro e w12 ⟨rfl, hb12⟩; have B12 := Lib.hid (B11.out.trans (hb12.mono B11.out.size)); clear hb12)))
                go_ret
                exact ⟨rfl, z4'.out.trans (B12.out.mono z4'.out.size)⟩
          · have k1b : ((o.kind : Int) == 1) = false := by simp; omega
            have hsum := Lib.hid (fun i => show nw.count i + ([] : List Nat).count i = ws.count i + 0 by have h := hcn.out i; rw [if_neg k2, if_neg (fun hh => k1 hh.1)] at h; simpa using h)
            have hsize := Lib.hid (show nw.length + 0 = ws.length + 0 by have h := hsz.out; rw [if_neg k2, if_neg k1] at h; exact h)
            clear hcn hsz
            go_wp2_with fail
            go_loopw [12, 13, 14] (fun v12 v13 v14 wr => ∃ q : Nat, q ≤ ws.length + 1 ∧ v12 = .int .i64 (q : Int) ∧ Below w7.heap.size w7 wr) (fun v12 _ _ _ => ws.length + 1 - (intOf v12).toNat)
            case atStart => exact ⟨0, Nat.zero_le _, rfl, Below.refl _ _⟩
            case round =>
              obtain ⟨q, hq, rfl, hbr⟩ := hrel
              have HR := Lib.hid hbr
              have BR := Lib.hid (BC.out.trans (hbr.mono BC.out.size))
              have HXR := Lib.hid (HX.out.trans (hbr.mono HX.out.size))
              obtain ⟨-, r2⟩ := hbx.out _ BR.out
              obtain ⟨o0, -, -, -, o4, -, -, -, -, -, o10⟩ := op_cells r2
              clear r2 hbr
              skip
              have lw := hwt'.out
              have lm := hmt'.out
              by_cases hq1 : q < ws.length + 1
              · have hq1I : (q : Int) < (ws.length : Int) + 1 := by omega
                by_cases hq2 : q < ws.length
                · have hq2I : (q : Int) < (ws.length : Int) := by omega
                  obtain ⟨ad, i, hA, -, ci⟩ := (N1.out.below HR.out).at_ hq2
                  subst hA
                  have ha := Lib.hid (fun (W : World) (hb : Below w7.heap.size w7 W) => count_any W A2 nw.length c2 nw (N2.out.below hb) (Nat.le_trans hz7.out.2 hz7.out.1) i)
                  have hb := Lib.hid (fun (W : World) (hb : Below w7.heap.size w7 W) => count_any W (some ad) ws.length c1 ws (N1.out.below hb) (Nat.le_trans hz6.out.2 hz6.out.1) i)
                  have hc := Lib.hid (fun (W : World) (hb : Below w7.heap.size w7 W) => count_any W none 0 0 [] (N3.out.below hb) (Nat.le_trans z3.out.2 z3.out.1) i)
                  have hs := hsum.out i
                  have u1 := count_upto i nw
                  have u2 := count_upto i ws
                  have u3 := count_upto i []
                  obtain ⟨cn, hcn⟩ : ∃ c, c = nw.count i := ⟨_, rfl⟩
                  obtain ⟨cw, hcw⟩ : ∃ c, c = ws.count i := ⟨_, rfl⟩
                  obtain ⟨cg, hcg⟩ : ∃ c, c = List.count i [] := ⟨_, rfl⟩
                  rw [← hcn] at ha hs u1
                  rw [← hcw] at hb hs u2
                  rw [← hcg] at hc hs u3
                  have l1 := hwt'.out
                  have l2 := hmt'.out
                  have l3 : ([] : List Nat).length ≤ 600 := by simp
                  have t1 : cn ≤ 601 := by omega
                  have t2 : cw ≤ 600 := by omega
                  have t3 : cg ≤ 600 := by omega
                  have hfin : ((cn : Int) == (cw : Int) + 0 - (cg : Int)) = true := by simp; omega
                  clear hcn hcw hcg u1 u2 u3 l1 l2 l3 hs
                  go_wp2_with (first | (go_at_call 34; go_loud (refine (ha.out _ HR.out).mono ?_; rintro e w21 ⟨rfl, hb21⟩; have h21 := Lib.hid (HR.out.trans (hb21.mono HR.out.size)); clear ha hb21)) | (go_at_call 34; go_loud (refine (hb.out _ h21.out).mono ?_; rintro e w22 ⟨rfl, hb22⟩; have h22 := Lib.hid (h21.out.trans (hb22.mono h21.out.size)); clear hb hb22)) | (go_at_call 34; go_loud (refine (hc.out _ h22.out).mono ?_; rintro e w23 ⟨rfl, hb23⟩; have h23 := Lib.hid (h22.out.trans (hb23.mono h22.out.size)); clear hc hb23)))
                  go_roundw
                  case rel => exact ⟨q + 1, by omega, by go_num, h23.out⟩
                  case measure => simp [intOf]; omega
                · have hq2I : ¬ (q : Int) < (ws.length : Int) := by omega
                  have ha := Lib.hid (fun (W : World) (hb : Below w7.heap.size w7 W) => count_any W A2 nw.length c2 nw (N2.out.below hb) (Nat.le_trans hz7.out.2 hz7.out.1) o.id)
                  have hb := Lib.hid (fun (W : World) (hb : Below w7.heap.size w7 W) => count_any W A1 ws.length c1 ws (N1.out.below hb) (Nat.le_trans hz6.out.2 hz6.out.1) o.id)
                  have hc := Lib.hid (fun (W : World) (hb : Below w7.heap.size w7 W) => count_any W none 0 0 [] (N3.out.below hb) (Nat.le_trans z3.out.2 z3.out.1) o.id)
                  have hs := hsum.out o.id
                  have u1 := count_upto o.id nw
                  have u2 := count_upto o.id ws
                  have u3 := count_upto o.id []
                  obtain ⟨cn, hcn⟩ : ∃ c, c = nw.count o.id := ⟨_, rfl⟩
                  obtain ⟨cw, hcw⟩ : ∃ c, c = ws.count o.id := ⟨_, rfl⟩
                  obtain ⟨cg, hcg⟩ : ∃ c, c = List.count o.id [] := ⟨_, rfl⟩
                  rw [← hcn] at ha hs u1
                  rw [← hcw] at hb hs u2
                  rw [← hcg] at hc hs u3
                  have l1 := hwt'.out
                  have l2 := hmt'.out
                  have l3 : ([] : List Nat).length ≤ 600 := by simp
                  have t1 : cn ≤ 601 := by omega
                  have t2 : cw ≤ 600 := by omega
                  have t3 : cg ≤ 600 := by omega
                  have hfin : ((cn : Int) == (cw : Int) + 0 - (cg : Int)) = true := by simp; omega
                  clear hcn hcw hcg u1 u2 u3 l1 l2 l3 hs
                  go_wp2_with (first | (go_at_call 34; go_loud (refine (ha.out _ HR.out).mono ?_; rintro e w21 ⟨rfl, hb21⟩; have h21 := Lib.hid (HR.out.trans (hb21.mono HR.out.size)); clear ha hb21)) | (go_at_call 34; go_loud (refine (hb.out _ h21.out).mono ?_; rintro e w22 ⟨rfl, hb22⟩; have h22 := Lib.hid (h21.out.trans (hb22.mono h21.out.size)); clear hb hb22)) | (go_at_call 34; go_loud (refine (hc.out _ h22.out).mono ?_; rintro e w23 ⟨rfl, hb23⟩; have h23 := Lib.hid (h22.out.trans (hb23.mono h22.out.size)); clear hc hb23)))
                  go_roundw
                  case rel => exact ⟨q + 1, by omega, by go_num, h23.out⟩
                  case measure => simp [intOf]; omega
              · have hq1I : ¬ (q : Int) < (ws.length : Int) + 1 := by omega
                have hss := hsize.out
                have hszI : ((nw.length : Int) == (ws.length : Int) - ((0 : Nat) : Int)) = true := by simp; omega
                have hrt := Lib.hid (fun (W : World) (hb : Below X3.heap.size X3 W) => right_any W m mA mK mn mc mk md (hM.out W hb) (by have := hcm'.out; omega))
                rw [hrm.out] at hrt
                obtain ⟨q0, q1, q2, q3, q4, q5, qf⟩ := hMc.out _ HXR.out
                go_wp2_with (first
                  | (go_at_call 35; go_loud (refine (hrt.out _ HXR.out).mono ?_; rintro e w11 ⟨rfl, hb11⟩; have B11 := Lib.hid (BR.out.trans (hb11.mono BR.out.size)); clear hb11))
                  | (go_at_call 13; go_loud (refine (works_any _).mono ?_; rintro e w12 ⟨rfl, hb12⟩; have B12 := Lib.hid (B11.out.trans (hb12.mono B11.out.size)); clear hb12)))
                go_ret
                exact ⟨rfl, z4'.out.trans (B12.out.mono z4'.out.size)⟩
      · have hv1 : (vv == 0) = false := by simp [hv0]
        have hmz : m = Nd.zero := by have h := hm'.out; unfold applyV at h; rw [if_neg (by rw [← hvv'.out]; exact hv0)] at h; exact h
        have he : eqV sameA m Nd.zero = true := by rw [hmz]; exact eqV_refl sameA sameA_refl _
        have hsm : Hid (Calls Try.prog 31 #[.agg #[.int .u64 (m.id : Int), .bool m.leaf, .string ⟨m.label.toArray⟩, .slice mA mn mc, .string ⟨m.text.toArray⟩, .slice mK mk md], .agg #[.int .u64 0, .bool false, .string ⟨#[]⟩, .slice none 0 0, .string ⟨#[]⟩, .slice none 0 0]] X3 fun e w' => e = .returned (.bool true) ∧ Below X3.heap.size X3 w') := Lib.hid (by
          have := same_all X3 m Nd.zero mA mK none none mn mc mk md 0 0 0 0 (hM.out X3 (Below.refl _ _)) zero_node (by rw [hmz]; decide)
          rw [he] at this
          exact this)
        obtain ⟨q0, q1, q2, q3, q4, q5, qf⟩ := hMc.out X3 (Below.refl _ _)
        clear hmz he hvv' hm'
        go_wp2_with (first
          | (go_at_call 31; go_loud (refine hsm.out.mono ?_; rintro e w11 ⟨rfl, hb11⟩; have B11 := Lib.hid (B3.out.trans (hb11.mono B3.out.size)); clear hb11 q0 q1 q2 q3 q4 q5 qf))
          | (go_at_call 13; go_loud (refine (works_any _).mono ?_; rintro e w12 ⟨rfl, hb12⟩; have B12 := Lib.hid (B11.out.trans (hb12.mono B11.out.size)); clear hb12)))
        go_ret
        exact ⟨rfl, z4'.out.trans (B12.out.mono z4'.out.size)⟩
  · have g1I : (600 : Int) < (x : Int) := by omega
    clear hin hsl hli
    go_wp2_with (go_at_call 13; go_loud (refine (works_any _).mono ?_; rintro e w5 ⟨rfl, hb5⟩; have B5 := Lib.hid (B1.out.trans (hb5.mono B1.out.size)); clear hb5))
    go_ret
    exact ⟨rfl, z4'.out.trans (B5.out.mono z4'.out.size)⟩
end Go.Proofs.Ytoeblaecldhcaaa.Top
