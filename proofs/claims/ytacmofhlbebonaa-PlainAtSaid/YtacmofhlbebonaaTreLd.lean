/- The law of trees that are the same, or alike. -/
import Derived.Deep.RegionHeld3
import Derived.Test.YtacmofhlbebonaaTreN
import Derived.Test.YtacmofhlbebonaaTreT
import Derived.Test.YtacmofhlbebonaaTreUa
namespace Go.Proofs.Ytacmofhlbebonaa
open Go.RowKit
set_option maxRecDepth 20000

mutual
theorem eqV_refl (f : Nd → Nd → Bool) (hf : ∀ t, f t t = true) : ∀ t : Nd, eqV f t t = true
  | .mk i l b ps x ks => by
    simp only [eqV, hf, Bool.true_and]
    exact eqsV_refl f hf ks
theorem eqsV_refl (f : Nd → Nd → Bool) (hf : ∀ t, f t t = true) : ∀ l : List Nd, eqsV f l l = true
  | [] => by simp [eqsV]
  | k :: r => by simp only [eqsV, eqV_refl f hf k, eqsV_refl f hf r, Bool.true_and]
end
mutual
theorem eqV_imp (f g : Nd → Nd → Bool) (hf : ∀ t u, f t u = true → g t u = true) : ∀ t u : Nd, eqV f t u = true → eqV g t u = true
  | .mk i l b ps x ks, u, h => by
    simp only [eqV, Bool.and_eq_true] at h ⊢
    exact ⟨hf _ _ h.1, eqsV_imp f g hf ks u.kids h.2⟩
theorem eqsV_imp (f g : Nd → Nd → Bool) (hf : ∀ t u, f t u = true → g t u = true) : ∀ l m : List Nd, eqsV f l m = true → eqsV g l m = true
  | [], [], h => by simp [eqsV]
  | [], _ :: _, h => by simp [eqsV] at h
  | _ :: _, [], h => by simp [eqsV] at h
  | k :: r, m :: s, h => by
    simp only [eqsV, Bool.and_eq_true] at h ⊢
    exact ⟨eqV_imp f g hf k m h.1, eqsV_imp f g hf r s h.2⟩
end
theorem alikeA_refl (t : Nd) : alikeA t t = true := by simp [alikeA]
theorem sameA_refl (t : Nd) : sameA t t = true := by simp [sameA, alikeA_refl]
theorem sameA_alike (t u : Nd) (h : sameA t u = true) : alikeA t u = true := by
  unfold sameA at h
  simp only [Bool.and_eq_true] at h
  exact h.2
set_option maxHeartbeats 2000000 in
theorem same_all (w : World) (t u : Nd) (aA kA aA2 kA2 : Option Addr) (an ac kn kc an2 ac2 kn2 kc2 : Nat) (h : NodeV (Old w) w aA an ac kA kn kc t) (h2 : NodeV (Old w) w aA2 an2 ac2 kA2 kn2 kc2 u) (hc : countV t ≤ 100000) :
    Calls Try.prog 16 #[.agg (val6 t aA an ac kA kn kc), .agg (val6 u aA2 an2 ac2 kA2 kn2 kc2)] w fun e w' => e = .returned (.bool (eqV sameA t u)) ∧ Below w.heap.size w w' := by
  have hb0 : Below w.heap.size w ((w.alloc (.cells #[.int .u64 (t.id : Int), .bool t.leaf, .string ⟨t.label.toArray⟩, .slice aA an ac, .string ⟨t.text.toArray⟩, .slice kA kn kc] 26)).alloc (.cells #[.int .u64 (u.id : Int), .bool u.leaf, .string ⟨u.label.toArray⟩, .slice aA2 an2 ac2, .string ⟨u.text.toArray⟩, .slice kA2 kn2 kc2] 26)) := ((Below.refl _ w).alloc (Nat.le_refl _) _).alloc (by simp) _
  have hcall := Lib.hid (match_same _ t u aA kA aA2 kA2 an ac kn kc an2 ac2 kn2 kc2 (h.below hb0) (h2.below hb0) hc)
  have hb0' := Lib.hid hb0
  clear h h2 hb0
  unfold val6
  go_enter Try.func16, Try.ntmps16
  go_wp2_with fail
  refine hcall.out.mono ?_
  rintro e w1 ⟨rfl, hb1⟩
  have hb1' := Lib.hid hb1
  clear hb1 hcall
  go_wp2_with fail
  go_ret
  exact ⟨rfl, hb0'.out.trans (hb1'.out.mono hb0'.out.size)⟩
set_option maxHeartbeats 2000000 in
theorem alike_all (w : World) (t u : Nd) (aA kA aA2 kA2 : Option Addr) (an ac kn kc an2 ac2 kn2 kc2 : Nat) (h : NodeV (Old w) w aA an ac kA kn kc t) (h2 : NodeV (Old w) w aA2 an2 ac2 kA2 kn2 kc2 u) (hc : countV t ≤ 100000) :
    Calls Try.prog 18 #[.agg (val6 t aA an ac kA kn kc), .agg (val6 u aA2 an2 ac2 kA2 kn2 kc2)] w fun e w' => e = .returned (.bool (eqV alikeA t u)) ∧ Below w.heap.size w w' := by
  have hb0 : Below w.heap.size w ((w.alloc (.cells #[.int .u64 (t.id : Int), .bool t.leaf, .string ⟨t.label.toArray⟩, .slice aA an ac, .string ⟨t.text.toArray⟩, .slice kA kn kc] 26)).alloc (.cells #[.int .u64 (u.id : Int), .bool u.leaf, .string ⟨u.label.toArray⟩, .slice aA2 an2 ac2, .string ⟨u.text.toArray⟩, .slice kA2 kn2 kc2] 26)) := ((Below.refl _ w).alloc (Nat.le_refl _) _).alloc (by simp) _
  have hcall := Lib.hid (match_alike _ t u aA kA aA2 kA2 an ac kn kc an2 ac2 kn2 kc2 (h.below hb0) (h2.below hb0) hc)
  have hb0' := Lib.hid hb0
  clear h h2 hb0
  unfold val6
  go_enter Try.func18, Try.ntmps18
  go_wp2_with fail
  refine hcall.out.mono ?_
  rintro e w1 ⟨rfl, hb1⟩
  have hb1' := Lib.hid hb1
  clear hb1 hcall
  go_wp2_with fail
  go_ret
  exact ⟨rfl, hb0'.out.trans (hb1'.out.mono hb0'.out.size)⟩
set_option maxHeartbeats 16000000 in
theorem lawSame_any (w : World) (t u : Nd) (aA kA aA2 kA2 : Option Addr) (an ac kn kc an2 ac2 kn2 kc2 : Nat) (h : NodeV (Old w) w aA an ac kA kn kc t) (h2 : NodeV (Old w) w aA2 an2 ac2 kA2 kn2 kc2 u) :
    Calls Try.prog 4 #[.agg (val6 t aA an ac kA kn kc), .agg (val6 u aA2 an2 ac2 kA2 kn2 kc2)] w fun e w' => e = .returned (.bool true) ∧ Below w.heap.size w w' := by
  obtain ⟨W0, hW0⟩ : ∃ W0, W0 = (w.alloc (.cells (val6 t aA an ac kA kn kc) 26)).alloc (.cells (val6 u aA2 an2 ac2 kA2 kn2 kc2) 26) := ⟨_, rfl⟩
  have hb0 : Below w.heap.size w W0 := by rw [hW0]; exact ((Below.refl _ w).alloc (Nat.le_refl _) _).alloc (by simp) _
  have hB0 := Lib.hid (show W0.heap[w.heap.size]? = some (.cells (val6 t aA an ac kA kn kc) 26 (0, 0)) by rw [hW0]; exact two_first w _ _)
  have hC0 := Lib.hid (show W0.heap[w.heap.size + 1]? = some (.cells (val6 u aA2 an2 ac2 kA2 kn2 kc2) 26 (0, 0)) by rw [hW0]; exact two_second w _ _)
  have hsz := Lib.hid (show w.heap.size + 1 < W0.heap.size by rw [hW0]; simp)
  have h0 := Lib.hid (h.below hb0)
  have g0 := Lib.hid (h2.below hb0)
  have hb0' := Lib.hid hb0
  clear h h2 hb0
  unfold val6 at hW0
  unfold val6
  go_enter Try.func4, Try.ntmps4
  go_wp2_with fail
  rw [← hW0]
  clear hW0
  refine (weight_any t W0 aA kA an ac kn kc 1000 h0.out (by decide)).mono ?_
  rintro e w1 ⟨x, rfl, hx3, hx, hb1⟩
  have hx' := Lib.hid hx
  have hB1 := Lib.hid ((hb1.block _ (by have := hsz.out; omega)).trans hB0.out)
  have hC1 := Lib.hid ((hb1.block _ hsz.out).trans hC0.out)
  have h1 := Lib.hid (h0.out.below hb1)
  have g1 := Lib.hid (g0.out.below hb1)
  have hbl1 := Lib.hid (hb0'.out.trans (hb1.mono hb0'.out.size))
  have hsz1 := Lib.hid (Nat.lt_of_lt_of_le hsz.out hb1.size)
  clear hx hb1 h0 g0 hB0 hC0 hb0' hsz
  by_cases q1 : x ≤ 1000
  · have q1I : ¬ (1000 : Int) < (x : Int) := by omega
    obtain ⟨d0, d1, d2, d3, d4, d5, -⟩ := six_cells hC1.out
    go_wp2_with fail
    refine (weight_any u w1 aA2 kA2 an2 ac2 kn2 kc2 1000 g1.out (by decide)).mono ?_
    rintro e w2 ⟨y, rfl, hy3, hy, hb2⟩
    have hy' := Lib.hid hy
    have hB2 := Lib.hid ((hb2.block _ (by have := hsz1.out; omega)).trans hB1.out)
    have hC2 := Lib.hid ((hb2.block _ hsz1.out).trans hC1.out)
    have hN : Hid (∀ W, Below w2.heap.size w2 W → NodeV (Old W) W aA an ac kA kn kc t) := fun W hb => (h1.out.below hb2).below hb
    have hM : Hid (∀ W, Below w2.heap.size w2 W → NodeV (Old W) W aA2 an2 ac2 kA2 kn2 kc2 u) := fun W hb => (g1.out.below hb2).below hb
    have hbl2 := Lib.hid (hbl1.out.trans (hb2.mono hbl1.out.size))
    have hsz2 := Lib.hid (Nat.lt_of_lt_of_le hsz1.out hb2.size)
    clear hy hb2 h1 g1 hB1 hC1 hbl1 hsz1 d0 d1 d2 d3 d4 d5
    by_cases q2 : y ≤ 1000
    · have q2I : ¬ (1000 : Int) < (y : Int) := by omega
      have hct := Lib.hid (show countV t ≤ 100000 by have := count_le t; have := hx'.out q1; omega)
      have hcu := Lib.hid (show countV u ≤ 100000 by have := count_le u; have := hy'.out q2; omega)
      obtain ⟨sm, hsm⟩ : ∃ sm, sm = eqV sameA t u := ⟨_, rfl⟩
      obtain ⟨al, hal⟩ : ∃ al, al = eqV alikeA t u := ⟨_, rfl⟩
      have himp := Lib.hid (show sm = true → al = true by rw [hsm, hal]; exact eqV_imp _ _ sameA_alike t u)
      have hst : true = eqV sameA t t := (eqV_refl sameA sameA_refl t).symm
      have hau : true = eqV alikeA u u := (eqV_refl alikeA alikeA_refl u).symm
      have hc1 : Hid (∀ W, Below w2.heap.size w2 W → Calls Try.prog 16 #[.agg (val6 t aA an ac kA kn kc), .agg (val6 u aA2 an2 ac2 kA2 kn2 kc2)] W fun e w' => e = .returned (.bool sm) ∧ Below W.heap.size W w') := fun W hb => by rw [hsm]; exact same_all W t u aA kA aA2 kA2 an ac kn kc an2 ac2 kn2 kc2 (hN.out W hb) (hM.out W hb) hct.out
      have hc2 : Hid (∀ W, Below w2.heap.size w2 W → Calls Try.prog 17 #[.agg (val6 t aA an ac kA kn kc), .agg (val6 u aA2 an2 ac2 kA2 kn2 kc2)] W fun e w' => e = .returned (.bool sm) ∧ Below W.heap.size W w') := fun W hb => by rw [hsm]; exact rsame_any t u W aA kA aA2 kA2 an ac kn kc an2 ac2 kn2 kc2 (hN.out W hb) (hM.out W hb)
      have hc3 : Hid (∀ W, Below w2.heap.size w2 W → Calls Try.prog 18 #[.agg (val6 t aA an ac kA kn kc), .agg (val6 u aA2 an2 ac2 kA2 kn2 kc2)] W fun e w' => e = .returned (.bool al) ∧ Below W.heap.size W w') := fun W hb => by rw [hal]; exact alike_all W t u aA kA aA2 kA2 an ac kn kc an2 ac2 kn2 kc2 (hN.out W hb) (hM.out W hb) hct.out
      have hc4 : Hid (∀ W, Below w2.heap.size w2 W → Calls Try.prog 19 #[.agg (val6 t aA an ac kA kn kc), .agg (val6 u aA2 an2 ac2 kA2 kn2 kc2)] W fun e w' => e = .returned (.bool al) ∧ Below W.heap.size W w') := fun W hb => by rw [hal]; exact ralike_any t u W aA kA aA2 kA2 an ac kn kc an2 ac2 kn2 kc2 (hN.out W hb) (hM.out W hb)
      have hc5 : Hid (∀ W, Below w2.heap.size w2 W → Calls Try.prog 16 #[.agg (val6 t aA an ac kA kn kc), .agg (val6 t aA an ac kA kn kc)] W fun e w' => e = .returned (.bool true) ∧ Below W.heap.size W w') := fun W hb => by rw [hst]; exact same_all W t t aA kA aA kA an ac kn kc an ac kn kc (hN.out W hb) (hN.out W hb) hct.out
      have hc6 : Hid (∀ W, Below w2.heap.size w2 W → Calls Try.prog 18 #[.agg (val6 u aA2 an2 ac2 kA2 kn2 kc2), .agg (val6 u aA2 an2 ac2 kA2 kn2 kc2)] W fun e w' => e = .returned (.bool true) ∧ Below W.heap.size W w') := fun W hb => by rw [hau]; exact alike_all W u u aA2 kA2 aA2 kA2 an2 ac2 kn2 kc2 an2 ac2 kn2 kc2 (hM.out W hb) (hM.out W hb) hcu.out
      unfold val6 at hc1 hc2 hc3 hc4 hc5 hc6
      clear hsm hal hst hau
      have hS : Hid (∀ w' : World, Below w2.heap.size w2 w' → Below w2.heap.size w2 w' ∧ w'.cell? ⟨w.heap.size, 0, none⟩ = some (.int .u64 (t.id : Int)) ∧ w'.cell? ⟨w.heap.size, 1, none⟩ = some (.bool t.leaf) ∧ w'.cell? ⟨w.heap.size, 2, none⟩ = some (.string ⟨t.label.toArray⟩) ∧ w'.cell? ⟨w.heap.size, 3, none⟩ = some (.slice aA an ac) ∧ w'.cell? ⟨w.heap.size, 4, none⟩ = some (.string ⟨t.text.toArray⟩) ∧ w'.cell? ⟨w.heap.size, 5, none⟩ = some (.slice kA kn kc) ∧ w'.cell? ⟨w.heap.size + 1, 0, none⟩ = some (.int .u64 (u.id : Int)) ∧ w'.cell? ⟨w.heap.size + 1, 1, none⟩ = some (.bool u.leaf) ∧ w'.cell? ⟨w.heap.size + 1, 2, none⟩ = some (.string ⟨u.label.toArray⟩) ∧ w'.cell? ⟨w.heap.size + 1, 3, none⟩ = some (.slice aA2 an2 ac2) ∧ w'.cell? ⟨w.heap.size + 1, 4, none⟩ = some (.string ⟨u.text.toArray⟩) ∧ w'.cell? ⟨w.heap.size + 1, 5, none⟩ = some (.slice kA2 kn2 kc2)) := fun w' hb => by
        obtain ⟨c0, c1, c2, c3, c4, c5, -⟩ := six_cells ((hb.block _ (by have := hsz2.out; omega)).trans hB2.out)
        obtain ⟨d0, d1, d2, d3, d4, d5, -⟩ := six_cells ((hb.block _ hsz2.out).trans hC2.out)
        exact ⟨hb, c0, c1, c2, c3, c4, c5, d0, d1, d2, d3, d4, d5⟩
      have hd := hS.out w2.drew (Below.refl w2.heap.size w2).drew
      cases sm with
      | true =>
        obtain rfl : al = true := himp.out rfl
        go_wp2_with fail
        go_region_held3 (fun w' => Below w2.heap.size w2 w' ∧ w'.cell? ⟨w.heap.size, 0, none⟩ = some (.int .u64 (t.id : Int)) ∧ w'.cell? ⟨w.heap.size, 1, none⟩ = some (.bool t.leaf) ∧ w'.cell? ⟨w.heap.size, 2, none⟩ = some (.string ⟨t.label.toArray⟩) ∧ w'.cell? ⟨w.heap.size, 3, none⟩ = some (.slice aA an ac) ∧ w'.cell? ⟨w.heap.size, 4, none⟩ = some (.string ⟨t.text.toArray⟩) ∧ w'.cell? ⟨w.heap.size, 5, none⟩ = some (.slice kA kn kc) ∧ w'.cell? ⟨w.heap.size + 1, 0, none⟩ = some (.int .u64 (u.id : Int)) ∧ w'.cell? ⟨w.heap.size + 1, 1, none⟩ = some (.bool u.leaf) ∧ w'.cell? ⟨w.heap.size + 1, 2, none⟩ = some (.string ⟨u.label.toArray⟩) ∧ w'.cell? ⟨w.heap.size + 1, 3, none⟩ = some (.slice aA2 an2 ac2) ∧ w'.cell? ⟨w.heap.size + 1, 4, none⟩ = some (.string ⟨u.text.toArray⟩) ∧ w'.cell? ⟨w.heap.size + 1, 5, none⟩ = some (.slice kA2 kn2 kc2))
          (first | exact hd10 | exact hd9 | exact hd8 | exact hd7 | exact hd6 | exact hd5 | exact hd4 | exact hd3 | exact hd2 | exact hd)
          (first
            | (go_at_call 11; refine (works_any _).mono ?_; rintro e w18 ⟨rfl, hb18⟩; have hd10 := hS.out _ (hd9.1.trans (hb18.mono hd9.1.size)))
            | (go_at_call 18; refine (hc3.out _ hd8.1).mono ?_; rintro e w17 ⟨rfl, hb17⟩; have hd9 := hS.out _ (hd8.1.trans (hb17.mono hd8.1.size)))
            | (go_at_call 16; refine (hc1.out _ hd7.1).mono ?_; rintro e w16 ⟨rfl, hb16⟩; have hd8 := hS.out _ (hd7.1.trans (hb16.mono hd7.1.size)))
            | (go_at_call 18; refine (hc6.out _ hd6.1).mono ?_; rintro e w15 ⟨rfl, hb15⟩; have hd7 := hS.out _ (hd6.1.trans (hb15.mono hd6.1.size)))
            | (go_at_call 16; refine (hc5.out _ hd5.1).mono ?_; rintro e w14 ⟨rfl, hb14⟩; have hd6 := hS.out _ (hd5.1.trans (hb14.mono hd5.1.size)))
            | (go_at_call 19; refine (hc4.out _ hd4.1).mono ?_; rintro e w13 ⟨rfl, hb13⟩; have hd5 := hS.out _ (hd4.1.trans (hb13.mono hd4.1.size)))
            | (go_at_call 18; refine (hc3.out _ hd3.1).mono ?_; rintro e w12 ⟨rfl, hb12⟩; have hd4 := hS.out _ (hd3.1.trans (hb12.mono hd3.1.size)))
            | (go_at_call 17; refine (hc2.out _ hd2.1).mono ?_; rintro e w11 ⟨rfl, hb11⟩; have hd3 := hS.out _ (hd2.1.trans (hb11.mono hd2.1.size)))
            | (go_at_call 16; refine (hc1.out _ hd.1).mono ?_; rintro e w10 ⟨rfl, hb10⟩; have hd2 := hS.out _ (hd.1.trans (hb10.mono hd.1.size))))
        go_wp2_with fail
        go_ret
        exact ⟨rfl, hbl2.out.trans (hd10.1.mono hbl2.out.size)⟩
      | false =>
        have haa : (al == al) = true := by simp
        go_wp2_with fail
        refine wp_region_held_drew (S := fun w' => Below w2.heap.size w2 w' ∧ w'.cell? ⟨w.heap.size, 0, none⟩ = some (.int .u64 (t.id : Int)) ∧ w'.cell? ⟨w.heap.size, 1, none⟩ = some (.bool t.leaf) ∧ w'.cell? ⟨w.heap.size, 2, none⟩ = some (.string ⟨t.label.toArray⟩) ∧ w'.cell? ⟨w.heap.size, 3, none⟩ = some (.slice aA an ac) ∧ w'.cell? ⟨w.heap.size, 4, none⟩ = some (.string ⟨t.text.toArray⟩) ∧ w'.cell? ⟨w.heap.size, 5, none⟩ = some (.slice kA kn kc) ∧ w'.cell? ⟨w.heap.size + 1, 0, none⟩ = some (.int .u64 (u.id : Int)) ∧ w'.cell? ⟨w.heap.size + 1, 1, none⟩ = some (.bool u.leaf) ∧ w'.cell? ⟨w.heap.size + 1, 2, none⟩ = some (.string ⟨u.label.toArray⟩) ∧ w'.cell? ⟨w.heap.size + 1, 3, none⟩ = some (.slice aA2 an2 ac2) ∧ w'.cell? ⟨w.heap.size + 1, 4, none⟩ = some (.string ⟨u.text.toArray⟩) ∧ w'.cell? ⟨w.heap.size + 1, 5, none⟩ = some (.slice kA2 kn2 kc2)) (by kernel_rfl) hd (fun hHeld => ?_)
        refine wpAnyH_take (i := 0) (oi := { dst := some 14, op := Go.Op.load 26 (Go.Operand.tmp 2), type := 26, pos := "law.go:24", after := #[], guard := none }) (v := ?_) rfl (by kernel_rfl) (by kernel_rfl) (by kernel_rfl) (fun _ _ _ h => h) (Or.inl ⟨by rfl, ?_⟩) hHeld ?_
        rotate_left 1
        · intro w hSw; (try dsimp only at hSw); go_simp; try with_reducible rfl
        try simp only [Act.put, List.setIfInBounds_toArray, List.set_cons_zero, List.set_cons_succ]
        refine wpAnyH_take (i := 1) (oi := { dst := some 15, op := Go.Op.load 26 (Go.Operand.tmp 3), type := 26, pos := "law.go:24", after := #[], guard := none }) (v := ?_) rfl (by kernel_rfl) (by kernel_rfl) (by kernel_rfl) (fun _ _ _ h => h) (Or.inl ⟨by rfl, ?_⟩) hHeld ?_
        rotate_left 1
        · intro w hSw; (try dsimp only at hSw); go_simp; try with_reducible rfl
        try simp only [Act.put, List.setIfInBounds_toArray, List.set_cons_zero, List.set_cons_succ]
        refine wpAnyH_take (i := 3) (oi := { dst := some 17, op := Go.Op.load 26 (Go.Operand.tmp 2), type := 26, pos := "law.go:24", after := #[], guard := none }) (v := ?_) rfl (by kernel_rfl) (by kernel_rfl) (by kernel_rfl) (fun _ _ _ h => h) (Or.inl ⟨by rfl, ?_⟩) hHeld ?_
        rotate_left 1
        · intro w hSw; (try dsimp only at hSw); go_simp; try with_reducible rfl
        try simp only [Act.put, List.setIfInBounds_toArray, List.set_cons_zero, List.set_cons_succ]
        refine wpAnyH_take (i := 4) (oi := { dst := some 18, op := Go.Op.load 26 (Go.Operand.tmp 3), type := 26, pos := "law.go:24", after := #[], guard := none }) (v := ?_) rfl (by kernel_rfl) (by kernel_rfl) (by kernel_rfl) (fun _ _ _ h => h) (Or.inl ⟨by rfl, ?_⟩) hHeld ?_
        rotate_left 1
        · intro w hSw; (try dsimp only at hSw); go_simp; try with_reducible rfl
        try simp only [Act.put, List.setIfInBounds_toArray, List.set_cons_zero, List.set_cons_succ]
        refine wpAnyH_ready (rs := [2]) (by kernel_rfl) (by simp) ?_
        refine AllReadyH.cons (o := { dst := some 16, op := Go.Op.call { callee := Go.Callee.value (Go.Operand.func 16), args := #[Go.Operand.tmp 14, Go.Operand.tmp 15], argTypes := #[26, 26] }, type := 4, pos := "law.go:24", after := #[{ on := 0, ground := Go.Ground.data }, { on := 1, ground := Go.Ground.data }], guard := none }) rfl (fun K hK => ?_) AllReadyH.nil
        go_simp
        refine (hc1.out _ hd.1).mono ?_
        rintro e w10 ⟨rfl, hb10⟩
        have hd2 := hS.out _ (hd.1.trans (hb10.mono hd.1.size))
        go_simp
        refine hK.out _ _ ?_ (fun hNew => ?_)
        · exact hd2
        clear hK K hHeld
        have hHeld := hNew
        clear hNew
        try simp only [Act.put, List.setIfInBounds_toArray, List.set_cons_zero, List.set_cons_succ]
        refine wpAnyH_ready (rs := [5]) (by kernel_rfl) (by simp) ?_
        refine AllReadyH.cons (o := { dst := some 19, op := Go.Op.call { callee := Go.Callee.value (Go.Operand.func 17), args := #[Go.Operand.tmp 17, Go.Operand.tmp 18], argTypes := #[26, 26] }, type := 4, pos := "law.go:24", after := #[{ on := 3, ground := Go.Ground.data }, { on := 4, ground := Go.Ground.data }, { on := 2, ground := Go.Ground.chain }], guard := none }) rfl (fun K hK => ?_) AllReadyH.nil
        go_simp
        refine (hc2.out _ hd2.1).mono ?_
        rintro e w11 ⟨rfl, hb11⟩
        have hd3 := hS.out _ (hd2.1.trans (hb11.mono hd2.1.size))
        go_simp
        refine hK.out _ _ ?_ (fun hNew => ?_)
        · exact hd3
        clear hK K hHeld
        have hHeld := hNew
        clear hNew
        try simp only [Act.put, List.setIfInBounds_toArray, List.set_cons_zero, List.set_cons_succ]
        refine wpAnyH_take (i := 6) (oi := { dst := some 20, op := Go.Op.binOp Go.BinOp.eql 4 (Go.Operand.tmp 16) (Go.Operand.tmp 19) 4, type := 4, pos := "law.go:24", after := #[{ on := 2, ground := Go.Ground.data }, { on := 5, ground := Go.Ground.data }], guard := none }) (v := ?_) rfl (by kernel_rfl) (by kernel_rfl) (by kernel_rfl) (fun _ _ _ h => h) (Or.inl ⟨by rfl, ?_⟩) hHeld ?_
        rotate_left 1
        · intro w hSw; (try dsimp only at hSw); go_simp; try with_reducible rfl
        try simp only [Act.put, List.setIfInBounds_toArray, List.set_cons_zero, List.set_cons_succ]
        refine wpAnyH_take (i := 7) (oi := { dst := some 21, op := Go.Op.move (Go.Operand.tmp 20), type := 4, pos := "law.go:24", after := #[{ on := 6, ground := Go.Ground.data }, { on := 5, ground := Go.Ground.chain }], guard := none }) (v := ?_) rfl (by kernel_rfl) (by kernel_rfl) (by kernel_rfl) (fun _ _ _ h => h) (Or.inl ⟨by rfl, ?_⟩) hHeld ?_
        rotate_left 1
        · intro w hSw; (try dsimp only at hSw); go_simp; try with_reducible rfl
        try simp only [Act.put, List.setIfInBounds_toArray, List.set_cons_zero, List.set_cons_succ]
        refine wpAnyH_take (i := 8) (oi := { dst := some 22, op := Go.Op.load 26 (Go.Operand.tmp 2), type := 26, pos := "law.go:24", after := #[{ on := 7, ground := Go.Ground.guard }], guard := some (7, true) }) (v := ?_) rfl (by kernel_rfl) (by kernel_rfl) (by kernel_rfl) (fun _ _ _ h => h) (Or.inl ⟨by rfl, ?_⟩) hHeld ?_
        rotate_left 1
        · intro w hSw; (try dsimp only at hSw); go_simp; try with_reducible rfl
        try simp only [Act.put, List.setIfInBounds_toArray, List.set_cons_zero, List.set_cons_succ]
        refine wpAnyH_take (i := 9) (oi := { dst := some 23, op := Go.Op.load 26 (Go.Operand.tmp 3), type := 26, pos := "law.go:24", after := #[{ on := 7, ground := Go.Ground.guard }], guard := some (7, true) }) (v := ?_) rfl (by kernel_rfl) (by kernel_rfl) (by kernel_rfl) (fun _ _ _ h => h) (Or.inl ⟨by rfl, ?_⟩) hHeld ?_
        rotate_left 1
        · intro w hSw; (try dsimp only at hSw); go_simp; try with_reducible rfl
        try simp only [Act.put, List.setIfInBounds_toArray, List.set_cons_zero, List.set_cons_succ]
        refine wpAnyH_take (i := 11) (oi := { dst := some 25, op := Go.Op.load 26 (Go.Operand.tmp 2), type := 26, pos := "law.go:24", after := #[{ on := 7, ground := Go.Ground.guard }], guard := some (7, true) }) (v := ?_) rfl (by kernel_rfl) (by kernel_rfl) (by kernel_rfl) (fun _ _ _ h => h) (Or.inl ⟨by rfl, ?_⟩) hHeld ?_
        rotate_left 1
        · intro w hSw; (try dsimp only at hSw); go_simp; try with_reducible rfl
        try simp only [Act.put, List.setIfInBounds_toArray, List.set_cons_zero, List.set_cons_succ]
        refine wpAnyH_take (i := 12) (oi := { dst := some 26, op := Go.Op.load 26 (Go.Operand.tmp 3), type := 26, pos := "law.go:24", after := #[{ on := 7, ground := Go.Ground.guard }], guard := some (7, true) }) (v := ?_) rfl (by kernel_rfl) (by kernel_rfl) (by kernel_rfl) (fun _ _ _ h => h) (Or.inl ⟨by rfl, ?_⟩) hHeld ?_
        rotate_left 1
        · intro w hSw; (try dsimp only at hSw); go_simp; try with_reducible rfl
        try simp only [Act.put, List.setIfInBounds_toArray, List.set_cons_zero, List.set_cons_succ]
        refine wpAnyH_ready (rs := [10]) (by kernel_rfl) (by simp) ?_
        refine AllReadyH.cons (o := { dst := some 24, op := Go.Op.call { callee := Go.Callee.value (Go.Operand.func 18), args := #[Go.Operand.tmp 22, Go.Operand.tmp 23], argTypes := #[26, 26] }, type := 4, pos := "law.go:24", after := #[{ on := 8, ground := Go.Ground.data }, { on := 9, ground := Go.Ground.data }, { on := 7, ground := Go.Ground.chain }, { on := 7, ground := Go.Ground.guard }], guard := some (7, true) }) rfl (fun K hK => ?_) AllReadyH.nil
        go_simp
        refine (hc3.out _ hd3.1).mono ?_
        rintro e w12 ⟨rfl, hb12⟩
        have hd4 := hS.out _ (hd3.1.trans (hb12.mono hd3.1.size))
        go_simp
        refine hK.out _ _ ?_ (fun hNew => ?_)
        · exact hd4
        clear hK K hHeld
        have hHeld := hNew
        clear hNew
        try simp only [Act.put, List.setIfInBounds_toArray, List.set_cons_zero, List.set_cons_succ]
        refine wpAnyH_ready (rs := [13]) (by kernel_rfl) (by simp) ?_
        refine AllReadyH.cons (o := { dst := some 27, op := Go.Op.call { callee := Go.Callee.value (Go.Operand.func 19), args := #[Go.Operand.tmp 25, Go.Operand.tmp 26], argTypes := #[26, 26] }, type := 4, pos := "law.go:24", after := #[{ on := 11, ground := Go.Ground.data }, { on := 12, ground := Go.Ground.data }, { on := 10, ground := Go.Ground.chain }, { on := 7, ground := Go.Ground.guard }], guard := some (7, true) }) rfl (fun K hK => ?_) AllReadyH.nil
        go_simp
        refine (hc4.out _ hd4.1).mono ?_
        rintro e w13 ⟨rfl, hb13⟩
        have hd5 := hS.out _ (hd4.1.trans (hb13.mono hd4.1.size))
        go_simp
        refine hK.out _ _ ?_ (fun hNew => ?_)
        · exact hd5
        clear hK K hHeld
        have hHeld := hNew
        clear hNew
        try simp only [Act.put, List.setIfInBounds_toArray, List.set_cons_zero, List.set_cons_succ]
        refine wpAnyH_take (i := 14) (oi := { dst := some 28, op := Go.Op.binOp Go.BinOp.eql 4 (Go.Operand.tmp 24) (Go.Operand.tmp 27) 4, type := 4, pos := "law.go:24", after := #[{ on := 10, ground := Go.Ground.data }, { on := 13, ground := Go.Ground.data }, { on := 7, ground := Go.Ground.guard }], guard := some (7, true) }) (v := ?_) rfl (by kernel_rfl) (by kernel_rfl) (by kernel_rfl) (fun _ _ _ h => h) (Or.inl ⟨by rfl, ?_⟩) hHeld ?_
        rotate_left 1
        · intro w hSw; (try dsimp only at hSw); go_simp; try with_reducible rfl
        try simp only [Act.put, List.setIfInBounds_toArray, List.set_cons_zero, List.set_cons_succ]
        refine wpAnyH_take (i := 15) (oi := { dst := some 29, op := Go.Op.pick (Go.Operand.tmp 21) (Go.Operand.tmp 28) (Go.Operand.const (Go.Value.bool false)), type := 4, pos := "law.go:24", after := #[{ on := 7, ground := Go.Ground.data }, { on := 14, ground := Go.Ground.data }], guard := none }) (v := ?_) rfl (by kernel_rfl) (by kernel_rfl) (by kernel_rfl) (fun _ _ _ h => h) (Or.inl ⟨by rfl, ?_⟩) hHeld ?_
        rotate_left 1
        · intro w hSw; (try dsimp only at hSw); go_simp; try with_reducible rfl
        try simp only [Act.put, List.setIfInBounds_toArray, List.set_cons_zero, List.set_cons_succ]
        refine wpAnyH_take (i := 16) (oi := { dst := some 30, op := Go.Op.move (Go.Operand.tmp 29), type := 4, pos := "law.go:24", after := #[{ on := 15, ground := Go.Ground.data }, { on := 13, ground := Go.Ground.chain }], guard := none }) (v := ?_) rfl (by kernel_rfl) (by kernel_rfl) (by kernel_rfl) (fun _ _ _ h => h) (Or.inl ⟨by rfl, ?_⟩) hHeld ?_
        rotate_left 1
        · intro w hSw; (try dsimp only at hSw); go_simp; try with_reducible rfl
        try simp only [Act.put, List.setIfInBounds_toArray, List.set_cons_zero, List.set_cons_succ]
        refine wpAnyH_take (i := 17) (oi := { dst := some 31, op := Go.Op.load 26 (Go.Operand.tmp 2), type := 26, pos := "law.go:24", after := #[{ on := 16, ground := Go.Ground.guard }], guard := some (16, true) }) (v := ?_) rfl (by kernel_rfl) (by kernel_rfl) (by kernel_rfl) (fun _ _ _ h => h) (Or.inl ⟨by rfl, ?_⟩) hHeld ?_
        rotate_left 1
        · intro w hSw; (try dsimp only at hSw); go_simp; try with_reducible rfl
        try simp only [Act.put, List.setIfInBounds_toArray, List.set_cons_zero, List.set_cons_succ]
        refine wpAnyH_take (i := 18) (oi := { dst := some 32, op := Go.Op.load 26 (Go.Operand.tmp 2), type := 26, pos := "law.go:24", after := #[{ on := 16, ground := Go.Ground.guard }], guard := some (16, true) }) (v := ?_) rfl (by kernel_rfl) (by kernel_rfl) (by kernel_rfl) (fun _ _ _ h => h) (Or.inl ⟨by rfl, ?_⟩) hHeld ?_
        rotate_left 1
        · intro w hSw; (try dsimp only at hSw); go_simp; try with_reducible rfl
        try simp only [Act.put, List.setIfInBounds_toArray, List.set_cons_zero, List.set_cons_succ]
        refine wpAnyH_ready (rs := [19]) (by kernel_rfl) (by simp) ?_
        refine AllReadyH.cons (o := { dst := some 33, op := Go.Op.call { callee := Go.Callee.value (Go.Operand.func 16), args := #[Go.Operand.tmp 31, Go.Operand.tmp 32], argTypes := #[26, 26] }, type := 4, pos := "law.go:24", after := #[{ on := 17, ground := Go.Ground.data }, { on := 18, ground := Go.Ground.data }, { on := 16, ground := Go.Ground.chain }, { on := 16, ground := Go.Ground.guard }], guard := some (16, true) }) rfl (fun K hK => ?_) AllReadyH.nil
        go_simp
        refine (hc5.out _ hd5.1).mono ?_
        rintro e w14 ⟨rfl, hb14⟩
        have hd6 := hS.out _ (hd5.1.trans (hb14.mono hd5.1.size))
        go_simp
        refine hK.out _ _ ?_ (fun hNew => ?_)
        · exact hd6
        clear hK K hHeld
        have hHeld := hNew
        clear hNew
        try simp only [Act.put, List.setIfInBounds_toArray, List.set_cons_zero, List.set_cons_succ]
        refine wpAnyH_take (i := 20) (oi := { dst := some 34, op := Go.Op.pick (Go.Operand.tmp 30) (Go.Operand.tmp 33) (Go.Operand.const (Go.Value.bool false)), type := 4, pos := "law.go:24", after := #[{ on := 16, ground := Go.Ground.data }, { on := 19, ground := Go.Ground.data }], guard := none }) (v := ?_) rfl (by kernel_rfl) (by kernel_rfl) (by kernel_rfl) (fun _ _ _ h => h) (Or.inl ⟨by rfl, ?_⟩) hHeld ?_
        rotate_left 1
        · intro w hSw; (try dsimp only at hSw); go_simp; try with_reducible rfl
        try simp only [Act.put, List.setIfInBounds_toArray, List.set_cons_zero, List.set_cons_succ]
        refine wpAnyH_take (i := 21) (oi := { dst := some 35, op := Go.Op.move (Go.Operand.tmp 34), type := 4, pos := "law.go:24", after := #[{ on := 20, ground := Go.Ground.data }, { on := 19, ground := Go.Ground.chain }], guard := none }) (v := ?_) rfl (by kernel_rfl) (by kernel_rfl) (by kernel_rfl) (fun _ _ _ h => h) (Or.inl ⟨by rfl, ?_⟩) hHeld ?_
        rotate_left 1
        · intro w hSw; (try dsimp only at hSw); go_simp; try with_reducible rfl
        try simp only [Act.put, List.setIfInBounds_toArray, List.set_cons_zero, List.set_cons_succ]
        refine wpAnyH_take (i := 22) (oi := { dst := some 36, op := Go.Op.load 26 (Go.Operand.tmp 3), type := 26, pos := "law.go:24", after := #[{ on := 21, ground := Go.Ground.guard }], guard := some (21, true) }) (v := ?_) rfl (by kernel_rfl) (by kernel_rfl) (by kernel_rfl) (fun _ _ _ h => h) (Or.inl ⟨by rfl, ?_⟩) hHeld ?_
        rotate_left 1
        · intro w hSw; (try dsimp only at hSw); go_simp; try with_reducible rfl
        try simp only [Act.put, List.setIfInBounds_toArray, List.set_cons_zero, List.set_cons_succ]
        refine wpAnyH_take (i := 23) (oi := { dst := some 37, op := Go.Op.load 26 (Go.Operand.tmp 3), type := 26, pos := "law.go:24", after := #[{ on := 21, ground := Go.Ground.guard }], guard := some (21, true) }) (v := ?_) rfl (by kernel_rfl) (by kernel_rfl) (by kernel_rfl) (fun _ _ _ h => h) (Or.inl ⟨by rfl, ?_⟩) hHeld ?_
        rotate_left 1
        · intro w hSw; (try dsimp only at hSw); go_simp; try with_reducible rfl
        try simp only [Act.put, List.setIfInBounds_toArray, List.set_cons_zero, List.set_cons_succ]
        refine wpAnyH_ready (rs := [24]) (by kernel_rfl) (by simp) ?_
        refine AllReadyH.cons (o := { dst := some 38, op := Go.Op.call { callee := Go.Callee.value (Go.Operand.func 18), args := #[Go.Operand.tmp 36, Go.Operand.tmp 37], argTypes := #[26, 26] }, type := 4, pos := "law.go:24", after := #[{ on := 22, ground := Go.Ground.data }, { on := 23, ground := Go.Ground.data }, { on := 21, ground := Go.Ground.chain }, { on := 21, ground := Go.Ground.guard }], guard := some (21, true) }) rfl (fun K hK => ?_) AllReadyH.nil
        go_simp
        refine (hc6.out _ hd6.1).mono ?_
        rintro e w15 ⟨rfl, hb15⟩
        have hd7 := hS.out _ (hd6.1.trans (hb15.mono hd6.1.size))
        go_simp
        refine hK.out _ _ ?_ (fun hNew => ?_)
        · exact hd7
        clear hK K hHeld
        have hHeld := hNew
        clear hNew
        try simp only [Act.put, List.setIfInBounds_toArray, List.set_cons_zero, List.set_cons_succ]
        refine wpAnyH_take (i := 25) (oi := { dst := some 39, op := Go.Op.pick (Go.Operand.tmp 35) (Go.Operand.tmp 38) (Go.Operand.const (Go.Value.bool false)), type := 4, pos := "law.go:24", after := #[{ on := 21, ground := Go.Ground.data }, { on := 24, ground := Go.Ground.data }], guard := none }) (v := ?_) rfl (by kernel_rfl) (by kernel_rfl) (by kernel_rfl) (fun _ _ _ h => h) (Or.inl ⟨by rfl, ?_⟩) hHeld ?_
        rotate_left 1
        · intro w hSw; (try dsimp only at hSw); go_simp; try with_reducible rfl
        try simp only [Act.put, List.setIfInBounds_toArray, List.set_cons_zero, List.set_cons_succ]
        refine wpAnyH_take (i := 26) (oi := { dst := some 40, op := Go.Op.move (Go.Operand.tmp 39), type := 4, pos := "law.go:24", after := #[{ on := 25, ground := Go.Ground.data }, { on := 24, ground := Go.Ground.chain }], guard := none }) (v := ?_) rfl (by kernel_rfl) (by kernel_rfl) (by kernel_rfl) (fun _ _ _ h => h) (Or.inl ⟨by rfl, ?_⟩) hHeld ?_
        rotate_left 1
        · intro w hSw; (try dsimp only at hSw); go_simp; try with_reducible rfl
        try simp only [Act.put, List.setIfInBounds_toArray, List.set_cons_zero, List.set_cons_succ]
        refine wpAnyH_take (i := 27) (oi := { dst := some 41, op := Go.Op.load 26 (Go.Operand.tmp 2), type := 26, pos := "law.go:24", after := #[{ on := 26, ground := Go.Ground.guard }], guard := some (26, true) }) (v := ?_) rfl (by kernel_rfl) (by kernel_rfl) (by kernel_rfl) (fun _ _ _ h => h) (Or.inl ⟨by rfl, ?_⟩) hHeld ?_
        rotate_left 1
        · intro w hSw; (try dsimp only at hSw); go_simp; try with_reducible rfl
        try simp only [Act.put, List.setIfInBounds_toArray, List.set_cons_zero, List.set_cons_succ]
        refine wpAnyH_take (i := 28) (oi := { dst := some 42, op := Go.Op.load 26 (Go.Operand.tmp 3), type := 26, pos := "law.go:24", after := #[{ on := 26, ground := Go.Ground.guard }], guard := some (26, true) }) (v := ?_) rfl (by kernel_rfl) (by kernel_rfl) (by kernel_rfl) (fun _ _ _ h => h) (Or.inl ⟨by rfl, ?_⟩) hHeld ?_
        rotate_left 1
        · intro w hSw; (try dsimp only at hSw); go_simp; try with_reducible rfl
        try simp only [Act.put, List.setIfInBounds_toArray, List.set_cons_zero, List.set_cons_succ]
        refine wpAnyH_ready (rs := [29]) (by kernel_rfl) (by simp) ?_
        refine AllReadyH.cons (o := { dst := some 43, op := Go.Op.call { callee := Go.Callee.value (Go.Operand.func 16), args := #[Go.Operand.tmp 41, Go.Operand.tmp 42], argTypes := #[26, 26] }, type := 4, pos := "law.go:24", after := #[{ on := 27, ground := Go.Ground.data }, { on := 28, ground := Go.Ground.data }, { on := 26, ground := Go.Ground.chain }, { on := 26, ground := Go.Ground.guard }], guard := some (26, true) }) rfl (fun K hK => ?_) AllReadyH.nil
        go_simp
        refine (hc1.out _ hd7.1).mono ?_
        rintro e w16 ⟨rfl, hb16⟩
        have hd8 := hS.out _ (hd7.1.trans (hb16.mono hd7.1.size))
        go_simp
        refine hK.out _ _ ?_ (fun hNew => ?_)
        · exact hd8
        clear hK K hHeld
        have hHeld := hNew
        clear hNew
        try simp only [Act.put, List.setIfInBounds_toArray, List.set_cons_zero, List.set_cons_succ]
        refine wpAnyH_take (i := 30) (oi := { dst := some 44, op := Go.Op.unOp Go.UnOp.not 4 (Go.Operand.tmp 43), type := 4, pos := "law.go:24", after := #[{ on := 29, ground := Go.Ground.data }, { on := 26, ground := Go.Ground.guard }], guard := some (26, true) }) (v := ?_) rfl (by kernel_rfl) (by kernel_rfl) (by kernel_rfl) (fun _ _ _ h => h) (Or.inl ⟨by rfl, ?_⟩) hHeld ?_
        rotate_left 1
        · intro w hSw; (try dsimp only at hSw); go_simp; try with_reducible rfl
        try simp only [Act.put, List.setIfInBounds_toArray, List.set_cons_zero, List.set_cons_succ]
        refine wpAnyH_take (i := 31) (oi := { dst := some 45, op := Go.Op.move (Go.Operand.tmp 44), type := 4, pos := "law.go:24", after := #[{ on := 30, ground := Go.Ground.data }, { on := 29, ground := Go.Ground.chain }, { on := 26, ground := Go.Ground.guard }], guard := some (26, true) }) (v := ?_) rfl (by kernel_rfl) (by kernel_rfl) (by kernel_rfl) (fun _ _ _ h => h) (Or.inl ⟨by rfl, ?_⟩) hHeld ?_
        rotate_left 1
        · intro w hSw; (try dsimp only at hSw); go_simp; try with_reducible rfl
        try simp only [Act.put, List.setIfInBounds_toArray, List.set_cons_zero, List.set_cons_succ]
        refine wpAnyH_take (i := 32) (oi := { dst := some 46, op := Go.Op.load 26 (Go.Operand.tmp 2), type := 26, pos := "law.go:24", after := #[{ on := 31, ground := Go.Ground.guard }], guard := some (31, false) }) (v := undef) rfl (by kernel_rfl) (by kernel_rfl) (by kernel_rfl) (fun _ _ _ h => h) (Or.inr ⟨by rfl, rfl⟩) hHeld ?_
        try simp only [Act.put, List.setIfInBounds_toArray, List.set_cons_zero, List.set_cons_succ]
        refine wpAnyH_take (i := 33) (oi := { dst := some 47, op := Go.Op.load 26 (Go.Operand.tmp 3), type := 26, pos := "law.go:24", after := #[{ on := 31, ground := Go.Ground.guard }], guard := some (31, false) }) (v := undef) rfl (by kernel_rfl) (by kernel_rfl) (by kernel_rfl) (fun _ _ _ h => h) (Or.inr ⟨by rfl, rfl⟩) hHeld ?_
        try simp only [Act.put, List.setIfInBounds_toArray, List.set_cons_zero, List.set_cons_succ]
        refine wpAnyH_take (i := 34) (oi := { dst := some 48, op := Go.Op.call { callee := Go.Callee.value (Go.Operand.func 18), args := #[Go.Operand.tmp 46, Go.Operand.tmp 47], argTypes := #[26, 26] }, type := 4, pos := "law.go:24", after := #[{ on := 32, ground := Go.Ground.data }, { on := 33, ground := Go.Ground.data }, { on := 31, ground := Go.Ground.chain }, { on := 31, ground := Go.Ground.guard }], guard := some (31, false) }) (v := undef) rfl (by kernel_rfl) (by kernel_rfl) (by kernel_rfl) (fun _ _ _ h => h) (Or.inr ⟨by rfl, rfl⟩) hHeld ?_
        try simp only [Act.put, List.setIfInBounds_toArray, List.set_cons_zero, List.set_cons_succ]
        refine wpAnyH_take (i := 35) (oi := { dst := some 49, op := Go.Op.pick (Go.Operand.tmp 45) (Go.Operand.const (Go.Value.bool true)) (Go.Operand.tmp 48), type := 4, pos := "law.go:24", after := #[{ on := 31, ground := Go.Ground.data }, { on := 34, ground := Go.Ground.data }, { on := 26, ground := Go.Ground.guard }], guard := some (26, true) }) (v := ?_) rfl (by kernel_rfl) (by kernel_rfl) (by kernel_rfl) (fun _ _ _ h => h) (Or.inl ⟨by rfl, ?_⟩) hHeld ?_
        rotate_left 1
        · intro w hSw; (try dsimp only at hSw); go_simp; try with_reducible rfl
        try simp only [Act.put, List.setIfInBounds_toArray, List.set_cons_zero, List.set_cons_succ]
        refine wpAnyH_take (i := 36) (oi := { dst := some 50, op := Go.Op.pick (Go.Operand.tmp 40) (Go.Operand.tmp 49) (Go.Operand.const (Go.Value.bool false)), type := 4, pos := "law.go:24", after := #[{ on := 26, ground := Go.Ground.data }, { on := 35, ground := Go.Ground.data }], guard := none }) (v := ?_) rfl (by kernel_rfl) (by kernel_rfl) (by kernel_rfl) (fun _ _ _ h => h) (Or.inl ⟨by rfl, ?_⟩) hHeld ?_
        rotate_left 1
        · intro w hSw; (try dsimp only at hSw); go_simp; try with_reducible rfl
        try simp only [Act.put, List.setIfInBounds_toArray, List.set_cons_zero, List.set_cons_succ]
        refine wpAnyH_take (i := 37) (oi := { dst := some 51, op := Go.Op.move (Go.Operand.tmp 50), type := 4, pos := "law.go:24", after := #[{ on := 36, ground := Go.Ground.data }, { on := 34, ground := Go.Ground.chain }], guard := none }) (v := ?_) rfl (by kernel_rfl) (by kernel_rfl) (by kernel_rfl) (fun _ _ _ h => h) (Or.inl ⟨by rfl, ?_⟩) hHeld ?_
        rotate_left 1
        · intro w hSw; (try dsimp only at hSw); go_simp; try with_reducible rfl
        try simp only [Act.put, List.setIfInBounds_toArray, List.set_cons_zero, List.set_cons_succ]
        refine wpAnyH_ready (rs := [38]) (by kernel_rfl) (by simp) ?_
        refine AllReadyH.cons (o := { dst := some 52, op := Go.Op.call { callee := Go.Callee.value (Go.Operand.func 11), args := #[], argTypes := #[] }, type := 4, pos := "law.go:24", after := #[{ on := 37, ground := Go.Ground.chain }, { on := 37, ground := Go.Ground.guard }], guard := some (37, true) }) rfl (fun K hK => ?_) AllReadyH.nil
        go_simp
        refine (works_any _).mono ?_
        rintro e w17 ⟨rfl, hb17⟩
        have hd9 := hS.out _ (hd8.1.trans (hb17.mono hd8.1.size))
        go_simp
        refine hK.out _ _ ?_ (fun hNew => ?_)
        · exact hd9
        clear hK K hHeld
        have hHeld := hNew
        clear hNew
        try simp only [Act.put, List.setIfInBounds_toArray, List.set_cons_zero, List.set_cons_succ]
        refine wpAnyH_take (i := 39) (oi := { dst := some 53, op := Go.Op.pick (Go.Operand.tmp 51) (Go.Operand.tmp 52) (Go.Operand.const (Go.Value.bool false)), type := 4, pos := "law.go:24", after := #[{ on := 37, ground := Go.Ground.data }, { on := 38, ground := Go.Ground.data }], guard := none }) (v := ?_) rfl (by kernel_rfl) (by kernel_rfl) (by kernel_rfl) (fun _ _ _ h => h) (Or.inl ⟨by rfl, ?_⟩) hHeld ?_
        rotate_left 1
        · intro w hSw; (try dsimp only at hSw); go_simp; try with_reducible rfl
        try simp only [Act.put, List.setIfInBounds_toArray, List.set_cons_zero, List.set_cons_succ]
        refine wpAnyH_take (i := 40) (oi := { dst := some 4, op := Go.Op.assign (Go.Operand.tmp 53), type := 4, pos := "law.go:24", after := #[{ on := 39, ground := Go.Ground.data }, { on := 38, ground := Go.Ground.chain }, { on := 0, ground := Go.Ground.phase }, { on := 1, ground := Go.Ground.phase }, { on := 2, ground := Go.Ground.phase }, { on := 3, ground := Go.Ground.phase }, { on := 4, ground := Go.Ground.phase }, { on := 5, ground := Go.Ground.phase }, { on := 6, ground := Go.Ground.phase }, { on := 7, ground := Go.Ground.phase }, { on := 8, ground := Go.Ground.phase }, { on := 9, ground := Go.Ground.phase }, { on := 10, ground := Go.Ground.phase }, { on := 11, ground := Go.Ground.phase }, { on := 12, ground := Go.Ground.phase }, { on := 13, ground := Go.Ground.phase }, { on := 14, ground := Go.Ground.phase }, { on := 15, ground := Go.Ground.phase }, { on := 16, ground := Go.Ground.phase }, { on := 17, ground := Go.Ground.phase }, { on := 18, ground := Go.Ground.phase }, { on := 19, ground := Go.Ground.phase }, { on := 20, ground := Go.Ground.phase }, { on := 21, ground := Go.Ground.phase }, { on := 22, ground := Go.Ground.phase }, { on := 23, ground := Go.Ground.phase }, { on := 24, ground := Go.Ground.phase }, { on := 25, ground := Go.Ground.phase }, { on := 26, ground := Go.Ground.phase }, { on := 27, ground := Go.Ground.phase }, { on := 28, ground := Go.Ground.phase }, { on := 29, ground := Go.Ground.phase }, { on := 30, ground := Go.Ground.phase }, { on := 31, ground := Go.Ground.phase }, { on := 32, ground := Go.Ground.phase }, { on := 33, ground := Go.Ground.phase }, { on := 34, ground := Go.Ground.phase }, { on := 35, ground := Go.Ground.phase }, { on := 36, ground := Go.Ground.phase }, { on := 37, ground := Go.Ground.phase }, { on := 38, ground := Go.Ground.phase }, { on := 39, ground := Go.Ground.phase }], guard := none }) (v := ?_) rfl (by kernel_rfl) (by kernel_rfl) (by kernel_rfl) (fun _ _ _ h => h) (Or.inl ⟨by rfl, ?_⟩) hHeld ?_
        rotate_left 1
        · intro w hSw; (try dsimp only at hSw); go_simp; try with_reducible rfl
        try simp only [Act.put, List.setIfInBounds_toArray, List.set_cons_zero, List.set_cons_succ]
        refine wpAnyH_done (by kernel_rfl) ?_ _
        all_goals go_wp2_with fail
        all_goals go_ret
        all_goals exact ⟨rfl, hbl2.out.trans (hd9.1.mono hbl2.out.size)⟩
    · have q2I : (1000 : Int) < (y : Int) := by omega
      go_wp2_with fail
      refine (works_any _).mono ?_
      rintro e w3 ⟨rfl, hb3⟩
      have hbl3 := Lib.hid (hbl2.out.trans (hb3.mono hbl2.out.size))
      clear hb3
      go_wp2_with fail
      go_ret
      exact ⟨rfl, hbl3.out⟩
  · have q1I : (1000 : Int) < (x : Int) := by omega
    go_wp2_with fail
    refine (works_any _).mono ?_
    rintro e w2 ⟨rfl, hb2⟩
    have hbl2 := Lib.hid (hbl1.out.trans (hb2.mono hbl1.out.size))
    clear hb2
    go_wp2_with fail
    go_ret
    exact ⟨rfl, hbl2.out⟩
end Go.Proofs.Ytacmofhlbebonaa
