/- MgF: TopJ TopL TopM TopN TopP TopR TopPm TopQ TopTa TopT TopW TopX -/
import Derived.Test.YtoeblaecldhcaaaMgE
import Derived.Test.YtoeblaecldhcaaaMgB
import Derived.Test.YtoeblaecldhcaaaMgD
import Derived.Deep.CutRange
import Derived.Deep.CutBlock
import Derived.Test.YtoeblaecldhcaaaMgA
import Derived.Laws.Cover1
import Derived.Deep.LoopGhost
/- takenOut: a tree without one of its nodes. -/
namespace Go.Proofs.Ytoeblaecldhcaaa.Top
open Go.RowKit
set_option maxRecDepth 20000
set_option linter.unusedVariables false

theorem takenOut_mid {T : Nat → Prop} {w W3 w1 W5 w8 : World} {b9 n c8 at_ : Nat} {y : Nd} {yA yK A8 : Option Addr} {yn yc ym yd : Nat} {ks : List KV} (hT : ∀ k, T k → k < w.heap.size) (h3 : w.heap.size ≤ W3.heap.size) (h31 : W3.heap.size ≤ w1.heap.size) (hb9 : b9 = w1.heap.size) (s5 : W5.heap.size = b9 + 1)
    (o5 : ∀ k, k < w1.heap.size → W5.heap[k]? = w1.heap[k]?) (hb8 : Below W5.heap.size W5 w8) (hny : NodeV (Nw T W3 w1) w1 yA yn yc yK ym yd y) (hks : ks.map KV.t = y.kids) (hkok : ∀ k ∈ ks, k.ok (Nw T W3 w1) w1)
    (ho8 : w8.ownsRow (W5.heap.size + 1) 33 6 (.slice A8 n c8) n ((ks.take at_ ++ ks.drop (at_ + 1)).flatMap KV.cells)) (hn : n = (ks.take at_ ++ ks.drop (at_ + 1)).length) :
    NodeV (But1 T W3 (w8.setCell ⟨b9, 5, none⟩ (.slice A8 n c8)) b9) (w8.setCell ⟨b9, 5, none⟩ (.slice A8 n c8)) yA yn yc A8 n c8 (y.withKids (delK at_ y.kids)) := by
  have hsz : (w8.setCell ⟨b9, 5, none⟩ (.slice A8 n c8)).heap.size = w8.heap.size := by simp [World.setCell]
  have hs8 := hb8.size
  have hto : ∀ k, Nw T W3 w1 k → But1 T W3 (w8.setCell ⟨b9, 5, none⟩ (.slice A8 n c8)) b9 k := fun k hk => by
    rcases hk with hk | hk
    · exact .inl hk
    · exact .inr ⟨hk.1, by rw [hsz]; omega, by omega⟩
  have hsame : ∀ k, Nw T W3 w1 k → (w8.setCell ⟨b9, 5, none⟩ (.slice A8 n c8)).heap[k]? = w1.heap[k]? := fun k hk => by
    have hk1 : k < w1.heap.size := by
      rcases hk with hk | hk
      · have := hT k hk; omega
      · exact hk.2
    exact (heap_setCell_other _ _ k _ (by show k ≠ b9; omega)).trans ((hb8.block k (by omega)).trans (o5 k hk1))
  have hg : w8.grownBy (w8.setCell ⟨b9, 5, none⟩ (.slice A8 n c8)) (some b9) := ⟨rfl, rfl, rfl, Nat.le_of_eq hsz.symm, fun k hk hne => heap_setCell_other _ _ k _ (fun e => hne (by rw [e]))⟩
  have hown := ho8.kept hg (by
    cases hA : (Value.slice A8 n c8).ownBlock with
    | none => exact .inl rfl
    | some g => exact .inr (fun e => by injection e with e; have := (ho8.lt g hA).1; omega))
  obtain ⟨A, c, e, hnode⟩ := newKids (T := But1 T W3 (w8.setCell ⟨b9, 5, none⟩ (.slice A8 n c8)) b9) (hny.kept hto hsame) (fun k hk => by
    rcases List.mem_append.1 hk with hk | hk
    · exact KV.ok_kept hto hsame (hkok k (List.mem_of_mem_take hk))
    · exact KV.ok_kept hto hsame (hkok k (List.mem_of_mem_drop hk))) hown hn (fun k h1 h2 => .inr ⟨by omega, h2, by omega⟩)
  injection e with e1 e2 e3
  subst e1 e3
  have hmap : (ks.take at_ ++ ks.drop (at_ + 1)).map KV.t = delK at_ y.kids := by
    unfold delK
    rw [← hks, List.map_append, List.map_take, List.map_drop]
  rw [hmap] at hnode
  exact hnode
theorem weighs_del (c : Nat) (l : List Nd) : weighsV (delK c l) ≤ weighsV l := by
  unfold delK
  rw [weighsV_append]
  have h1 := weighsV_append (l.take c) (l.drop c)
  rw [List.take_append_drop] at h1
  have h2 : weighsV (l.drop (c + 1)) ≤ weighsV (l.drop c) := by
    cases hd : l.drop c with
    | nil => rw [show l.drop (c + 1) = (l.drop c).drop 1 by rw [List.drop_drop], hd]; exact Nat.le_refl _
    | cons k r => rw [show l.drop (c + 1) = (l.drop c).drop 1 by rw [List.drop_drop], hd]; show weighsV r ≤ weighsV (k :: r); rw [weighsV]; omega
  omega
set_option maxHeartbeats 8000000 in
theorem takenOut_T (T : Nat → Prop) (w : World) (hT : ∀ k, T k → k < w.heap.size) (t y : Nd) (aA kA : Option Addr) (an ac kn kc : Nat) (h : NodeV T w aA an ac kA kn kc t) (pA : Option Addr) (pn pc : Nat) (q : List Int) (c : Nat) (hp : Its w pA pn (q ++ [(c : Int)])) (hpnil : pA = none → pc = 0) (hpn : pn ≤ 500000) (hpnc : pn ≤ pc) (hpcm : pc ≤ maxLen) (hbig : weighV t ≤ 90000)
    (hy : atV t q = some y) (hc : c < y.kids.length) :
    Calls Try.prog 81 #[.agg (val6 t aA an ac kA kn kc), .slice pA pn pc] w (NodeA T w ((putV t q (y.withKids (delK c y.kids))).getD Nd.zero)) := by
  obtain ⟨W2, hW2⟩ : ∃ W2, W2 = (w.alloc (.cells (val6 t aA an ac kA kn kc) 33)).alloc (.cells zero6 33) := ⟨_, rfl⟩
  have z1' := Lib.hid (show W2.heap[w.heap.size]? = some (.cells (val6 t aA an ac kA kn kc) 33 (0, 0)) by rw [hW2]; exact (Go.heap_alloc_old _ _ (by simp)).trans (heap_alloc_new w _))
  have z2' := Lib.hid (show W2.heap[w.heap.size + 1]? = some (.cells zero6 33 (0, 0)) by rw [hW2]; have h1 := heap_alloc_new (w.alloc (.cells (val6 t aA an ac kA kn kc) 33)) (.cells zero6 33); rw [World.size_alloc] at h1; exact h1)
  have z4' := Lib.hid (show Below w.heap.size w W2 by rw [hW2]; exact ((Below.refl _ _).alloc (Nat.le_refl _) _).alloc (by simp) _)
  have z5' := Lib.hid (show W2.heap.size = w.heap.size + 1 + 1 by rw [hW2]; simp)
  have hpar := Lib.hid (show Calls Try.prog 96 #[.slice pA pn pc] W2 (fun e w' => ∃ qA qn qc, e = .returned (.tuple #[.slice qA qn qc, .int .i64 (c : Int), .bool true]) ∧ Its w' qA qn q ∧ qn ≤ maxLen ∧ Below W2.heap.size W2 w') from by
    refine (P4.parent_any W2 pA pn pc (q ++ [(c : Int)]) (hp.below z4'.out) hpnil hpn hpnc hpcm).mono ?_
    rintro e w' hpr
    rcases hpr with ⟨h0, -⟩ | ⟨v, ys, z, hyz, rfl, hown, hb0⟩
    · exact absurd h0 (by simp)
    · have h1 := congrArg List.reverse hyz
      simp only [List.reverse_append, List.reverse_cons, List.reverse_nil, List.nil_append, List.singleton_append, List.cons.injEq] at h1
      obtain ⟨rfl, h2⟩ := h1
      have h3 : q = ys := List.reverse_inj.1 h2
      subst h3
      obtain ⟨A, n, k, rfl, hn, hnk, hkm, hits, -⟩ := hown.shape
      exact ⟨A, n, k, rfl, hits, Nat.le_trans hnk hkm, hb0⟩)
  rw [hW2] at hpar
  have hT' := Lib.hid hT
  have hy' := Lib.hid hy
  have hyw := (at_count q t y hy).2
  have hyl := weigh_rows y
  have hh := Lib.hid (fun (W : World) (hb : Below w.heap.size w W) => h.kept (w' := W) (T' := T) (fun _ h => h) fun k hk => hb.block k (hT k hk))
  have hbig' := Lib.hid hbig
  clear h hp hT hy
  unfold zero6 val6 at hW2 hpar
  unfold val6
  go_enter Try.func81, Try.ntmps81
  go_wp2_with (first
    | (go_at_call 96; go_loud (refine hpar.out.mono ?_; rw [← hW2]; rintro e w0 ⟨qA, qn, qc, rfl, hits, hqn, hb0⟩; have hits' := Lib.hid hits; have hb0' := Lib.hid hb0; have hbw0 := Lib.hid (z4'.out.trans (hb0.mono z4'.out.size)); have hsz0 : w.heap.size + 1 + 1 ≤ w0.heap.size := (by have := hb0.size; have := z5'.out; omega); have hT0 : ∀ k, T k → k < w0.heap.size := (fun k hk => by have := hT'.out k hk; omega); have hatc := Lib.hid (at_T T w0 hT0 t aA kA an ac kn kc (hh.out w0 hbw0.out) qA qn qc q hits hqn (by have := hbig'.out; omega)); unfold val6 at hatc; have r0 := (hb0.block _ (by have := z5'.out; omega)).trans z1'.out; unfold val6 at r0; obtain ⟨p0, p1, p2, p3, p4, p5, pf⟩ := six_cells r0; clear hits hb0 r0 hT0))
    | (go_at_call 33; go_loud (refine hatc.out.mono ?_; rintro e w1 ⟨yA, yn, yc, yK, ym, yd, rfl, hny, hb⟩; rw [hy'.out] at hny ⊢; have hf := hny.facts; have hykl : y.kids.length = ym := hf.kl; have hyc : ym ≤ yd := hf.knc; have hycm : yd ≤ maxLen := hf.kcm; have hynil := Lib.hid hf.knil; have hyrow := Lib.hid hf.row; have hny' := Lib.hid hny; have hb' := Lib.hid hb; clear hf hny hb p0 p1 p2 p3 p4 p5 pf; unfold val6)))
  rename_i K0 hK0
  obtain ⟨W5, hW5⟩ : ∃ W5, W5 = w1.alloc (.cells #[.int .u64 (y.id : Int), .bool y.leaf, .string ⟨y.label.toArray⟩, .slice yA yn yc, .string ⟨y.text.toArray⟩, .slice yK ym yd] 33) := ⟨_, rfl⟩
  obtain ⟨b9, hb9⟩ : ∃ b9, b9 = w1.heap.size := ⟨_, rfl⟩
  have r9 := Lib.hid (show W5.heap[b9]? = some (.cells #[.int .u64 (y.id : Int), .bool y.leaf, .string ⟨y.label.toArray⟩, .slice yA yn yc, .string ⟨y.text.toArray⟩, .slice yK ym yd] 33 (0, 0)) by rw [hW5, hb9]; exact heap_alloc_new w1 _)
  have o5 : ∀ k, k < w1.heap.size → W5.heap[k]? = w1.heap[k]? := fun k hk => by rw [hW5]; exact Go.heap_alloc_old _ _ hk
  have s5 : W5.heap.size = b9 + 1 := by rw [hW5, hb9]; simp
  have z1b := hb'.out.size
  have r4 := Lib.hid (show W5.heap[w.heap.size]? = some (.cells (val6 t aA an ac kA kn kc) 33 (0, 0)) from (o5 _ (by omega)).trans ((hb'.out.block _ (by omega)).trans ((hb0'.out.block _ (by have := z5'.out; omega)).trans z1'.out)))
  have r8 := Lib.hid (show W5.heap[w.heap.size + 1]? = some (.cells zero6 33 (0, 0)) from (o5 _ (by omega)).trans ((hb'.out.block _ (by omega)).trans ((hb0'.out.block _ (by have := z5'.out; omega)).trans z2'.out)))
  have hb05 := Lib.hid (show Below w0.heap.size w0 W5 by rw [hW5]; exact hb'.out.alloc z1b _)
  have b5 := Lib.hid (show Below w.heap.size w W5 by rw [hW5]; exact (hbw0.out.trans (hb'.out.mono (by omega))).alloc (by omega) _)
  rw [← hW5, ← hb9]
  have hb9' := Lib.hid hb9
  have hyr : yd ≤ maxLen := hycm
  obtain ⟨ks, hk1, hk2, hk3, hk4⟩ := row_prt hykl hyrow.out (fun k hk => by rcases hk with hk | hk; (have := hT'.out k hk; omega); exact hk.2) hynil.out hyc (by have := hbig'.out; omega)
  have hkl := Lib.hid hk4
  have hkt := Lib.hid hk1
  have hkok := Lib.hid hk2
  have hcm2 : c < ym := by omega
  have hcat := Lib.hid (fun (A3 : Option Addr) (n3 c3 : Nat) (h3 : A3 = restA yK yd (c + 1) ∧ n3 = ym - (c + 1) ∧ c3 = yd - (c + 1)) =>
    show Calls Try.prog 95 #[.slice (some ⟨W5.heap.size, 0, none⟩) 2 2] (W5.alloc (.cells #[.slice yK c yd, .slice A3 n3 c3] 31)).drew fun e w' => ∃ v, e = .returned v ∧ w'.ownsRow (W5.heap.size + 1) 33 6 v (ym - 1) ((ks.take c ++ ks.drop (c + 1)).flatMap KV.cells) ∧ Below W5.heap.size W5 w' from by
      obtain ⟨e1, e2, e3⟩ := h3
      subst e1 e2 e3
      obtain ⟨W7, hW7⟩ : ∃ W7, W7 = (W5.alloc (.cells #[.slice yK c yd, .slice (restA yK yd (c + 1)) (ym - (c + 1)) (yd - (c + 1))] 31)).drew := ⟨_, rfl⟩
      rw [← hW7]
      have hb57 : Below W5.heap.size W5 W7 := by
        rw [hW7]
        exact ((Below.refl W5.heap.size W5).alloc (Nat.le_refl _) _).drew
      have hbw : Below w1.heap.size w1 W7 := (show Below w1.heap.size w1 W5 by rw [hW5]; exact (Below.refl _ _).alloc (Nat.le_refl _) _).trans (hb57.mono (by omega))
      have hs7 : W7.heap.size = W5.heap.size + 1 := by rw [hW7]; show (World.alloc _ _).heap.size = _; simp
      have g3 : W7.heap[W5.heap.size]? = some (.cells #[.slice yK c yd, .slice (restA yK yd (c + 1)) (ym - (c + 1)) (yd - (c + 1))] 31 (0, 0)) := by rw [hW7]; exact heap_alloc_new W5 _
      have hk7 := hk3.below hbw
      have hsumE : sumN [Prt.mk yK c yd ((ks.take c).flatMap KV.cells), Prt.mk (restA yK yd (c + 1)) (ym - (c + 1)) (yd - (c + 1)) ((ks.drop (c + 1)).flatMap KV.cells)] = ym - 1 := by simp only [sumN]; omega
      have hcatE : catV [Prt.mk yK c yd ((ks.take c).flatMap KV.cells), Prt.mk (restA yK yd (c + 1)) (ym - (c + 1)) (yd - (c + 1)) ((ks.drop (c + 1)).flatMap KV.cells)] = (ks.take c ++ ks.drop (c + 1)).flatMap KV.cells := by
        simp only [catV, List.flatMap_append, List.append_nil]
      have := concatN W7 W5.heap.size 2 2 [Prt.mk yK c yd ((ks.take c).flatMap KV.cells), Prt.mk (restA yK yd (c + 1)) (ym - (c + 1)) (yd - (c + 1)) ((ks.drop (c + 1)).flatMap KV.cells)] rfl (by decide) (fun i p hp => by
        rw [add_zero_off]
        match i, hp with
        | 0, hp => injection hp with hp; subst hp; exact cell_of_row W7 _ 0 _ _ _ g3
        | 1, hp => injection hp with hp; subst hp; exact cell_of_row W7 _ 1 _ _ _ g3
        | i + 2, hp => simp at hp) (by omega) (fun p hp => by
        simp only [List.mem_cons, List.not_mem_nil, or_false] at hp
        rcases hp with rfl | rfl
        · exact hk7.take hk4 (by omega)
        · exact hk7.drop hk4 (by omega)) (by rw [hsumE]; omega)
      rw [hsumE, hcatE, hs7] at this
      refine this.mono ?_
      rintro e w8 ⟨v8, rfl, ho8, hb8⟩
      exact ⟨v8, rfl, ho8, hb57.trans (hb8.mono (by omega))⟩)
  clear hW5 hb9 hW2 hk1 hk2 hk3 hk4
  obtain ⟨p0, p1, p2, p3, p4, p5, pf⟩ := six_cells r9.out
  have hlt9 : b9 < W5.heap.size := (Array.getElem?_eq_some_iff.1 r9.out).1
  have hne9 : b9 ≠ W5.heap.size := by omega
  have hatm : (c : Int) ≤ (yd : Int) := by omega
  have hatn : (c : Int) ≤ (ym : Int) := by omega
  have hat0 : (0 : Int) ≤ (c : Int) := by omega
  have hat1 : (0 : Int) ≤ (c : Int) + 1 := by omega
  have hat2 : (c : Int) + 1 ≤ (ym : Int) := by omega
  have hat3 : (c : Int) + 1 ≤ (yd : Int) := by omega
  have hat4 : ((c : Int) + 1).toNat = c + 1 := by omega
  have ho5 := Lib.hid o5
  have hs5 := Lib.hid s5
  have hz1b := Lib.hid z1b
  clear o5 s5 z1b
  unfold maxLen at hycm
  have hwrap : IntKind.i64.wrap ((c : Int) + 1) = (c : Int) + 1 := IntWalk.i64_in _ (by omega)
  cases yK with
  | none =>
    exfalso
    have h1 := hynil.out rfl
    omega
  | some ky =>
    by_cases hdc : yd = c + 1
    · subst hdc
      obtain rfl : ym = c + 1 := by omega
      have hatz : (c : Int) ≤ (c : Int) + 1 := by omega
      have hS : Hid (∀ W : World, Below W5.heap.size W5 W → Below W5.heap.size W5 W ∧ W.cell? ⟨b9, 5, none⟩ = some (.slice (some ky) (c + 1) (c + 1))) := fun W hb => ⟨hb, (hb.cell (p := ⟨b9, 5, none⟩) hlt9).trans p5⟩
      clear p0 p1 p2 p3 p4 p5 pf
      refine wp_region_L (fun w' => Below W5.heap.size W5 w' ∧ w'.cell? ⟨b9, 5, none⟩ = some (.slice (some ky) (c + 1) (c + 1))) 12 rfl (hS.out _ (Below.refl W5.heap.size W5).drew) (fun hHeld => ?_)
      refine wpAnyL_take (i := 0) (oi := { dst := some 22, op := Go.Op.fieldAddr 33 (Go.Operand.tmp 8) 5, type := 0, pos := "done.go:66", after := #[], guard := none }) (v := ?_) rfl (by kernel_rfl) (by kernel_rfl) (by kernel_rfl) (by kernel_rfl) (fun _ _ _ h => h) (Or.inl ⟨by rfl, ?_⟩) hHeld ?_
      rotate_left 1
      · intro w hSw; (try dsimp only at hSw); obtain ⟨-, s5⟩ := hSw; go_simp; try with_reducible rfl
      try simp only [Act.put, List.setIfInBounds_toArray, List.set_cons_zero, List.set_cons_succ]
      refine wpAnyL_take (i := 1) (oi := { dst := some 23, op := Go.Op.load 31 (Go.Operand.tmp 22), type := 31, pos := "done.go:66", after := #[{ on := 0, ground := Go.Ground.data }], guard := none }) (v := ?_) rfl (by kernel_rfl) (by kernel_rfl) (by kernel_rfl) (by kernel_rfl) (fun _ _ _ h => h) (Or.inl ⟨by rfl, ?_⟩) hHeld ?_
      rotate_left 1
      · intro w hSw; (try dsimp only at hSw); obtain ⟨-, s5⟩ := hSw; go_simp; try with_reducible rfl
      try simp only [Act.put, List.setIfInBounds_toArray, List.set_cons_zero, List.set_cons_succ]
      refine wpAnyL_take (i := 2) (oi := { dst := some 24, op := Go.Op.move (Go.Operand.tmp 6), type := 3, pos := "done.go:66", after := #[], guard := none }) (v := ?_) rfl (by kernel_rfl) (by kernel_rfl) (by kernel_rfl) (by kernel_rfl) (fun _ _ _ h => h) (Or.inl ⟨by rfl, ?_⟩) hHeld ?_
      rotate_left 1
      · intro w hSw; (try dsimp only at hSw); obtain ⟨-, s5⟩ := hSw; go_simp; try with_reducible rfl
      try simp only [Act.put, List.setIfInBounds_toArray, List.set_cons_zero, List.set_cons_succ]
      refine wpAnyL_take (i := 3) (oi := { dst := some 25, op := Go.Op.slice 31 (Go.Operand.tmp 23) none (some (Go.Operand.tmp 24)) none, type := 31, pos := "done.go:66", after := #[{ on := 1, ground := Go.Ground.data }, { on := 2, ground := Go.Ground.data }], guard := none }) (v := ?_) rfl (by kernel_rfl) (by kernel_rfl) (by kernel_rfl) (by kernel_rfl) (fun _ _ _ h => h) (Or.inl ⟨by rfl, ?_⟩) hHeld ?_
      rotate_left 1
      · intro w hSw; (try dsimp only at hSw); obtain ⟨-, s5⟩ := hSw; go_simp; try with_reducible rfl
      try simp only [Act.put, List.setIfInBounds_toArray, List.set_cons_zero, List.set_cons_succ]
      refine wpAnyL_take (i := 4) (oi := { dst := some 26, op := Go.Op.fieldAddr 33 (Go.Operand.tmp 8) 5, type := 0, pos := "done.go:66", after := #[], guard := none }) (v := ?_) rfl (by kernel_rfl) (by kernel_rfl) (by kernel_rfl) (by kernel_rfl) (fun _ _ _ h => h) (Or.inl ⟨by rfl, ?_⟩) hHeld ?_
      rotate_left 1
      · intro w hSw; (try dsimp only at hSw); obtain ⟨-, s5⟩ := hSw; go_simp; try with_reducible rfl
      try simp only [Act.put, List.setIfInBounds_toArray, List.set_cons_zero, List.set_cons_succ]
      refine wpAnyL_take (i := 5) (oi := { dst := some 27, op := Go.Op.load 31 (Go.Operand.tmp 26), type := 31, pos := "done.go:66", after := #[{ on := 4, ground := Go.Ground.data }], guard := none }) (v := ?_) rfl (by kernel_rfl) (by kernel_rfl) (by kernel_rfl) (by kernel_rfl) (fun _ _ _ h => h) (Or.inl ⟨by rfl, ?_⟩) hHeld ?_
      rotate_left 1
      · intro w hSw; (try dsimp only at hSw); obtain ⟨-, s5⟩ := hSw; go_simp; try with_reducible rfl
      try simp only [Act.put, List.setIfInBounds_toArray, List.set_cons_zero, List.set_cons_succ]
      refine wpAnyL_take (i := 6) (oi := { dst := some 28, op := Go.Op.move (Go.Operand.tmp 6), type := 3, pos := "done.go:66", after := #[], guard := none }) (v := ?_) rfl (by kernel_rfl) (by kernel_rfl) (by kernel_rfl) (by kernel_rfl) (fun _ _ _ h => h) (Or.inl ⟨by rfl, ?_⟩) hHeld ?_
      rotate_left 1
      · intro w hSw; (try dsimp only at hSw); obtain ⟨-, s5⟩ := hSw; go_simp; try with_reducible rfl
      try simp only [Act.put, List.setIfInBounds_toArray, List.set_cons_zero, List.set_cons_succ]
      refine wpAnyL_take (i := 7) (oi := { dst := some 29, op := Go.Op.binOp Go.BinOp.add 3 (Go.Operand.tmp 28) (Go.Operand.const (Go.Value.int Go.IntKind.i64 1)) 3, type := 3, pos := "done.go:66", after := #[{ on := 6, ground := Go.Ground.data }], guard := none }) (v := ?_) rfl (by kernel_rfl) (by kernel_rfl) (by kernel_rfl) (by kernel_rfl) (fun _ _ _ h => h) (Or.inl ⟨by rfl, ?_⟩) hHeld ?_
      rotate_left 1
      · intro w hSw; (try dsimp only at hSw); obtain ⟨-, s5⟩ := hSw; go_simp; try with_reducible rfl
      try simp only [Act.put, List.setIfInBounds_toArray, List.set_cons_zero, List.set_cons_succ]
      refine wpAnyL_take (i := 8) (oi := { dst := some 30, op := Go.Op.slice 31 (Go.Operand.tmp 27) (some (Go.Operand.tmp 29)) none none, type := 31, pos := "done.go:66", after := #[{ on := 5, ground := Go.Ground.data }, { on := 7, ground := Go.Ground.data }], guard := none }) (v := ?_) rfl (by kernel_rfl) (by kernel_rfl) (by kernel_rfl) (by kernel_rfl) (fun _ _ _ h => h) (Or.inl ⟨by rfl, ?_⟩) hHeld ?_
      rotate_left 1
      · intro w hSw; (try dsimp only at hSw); obtain ⟨-, s5⟩ := hSw; go_simp; try with_reducible rfl
      try simp only [Act.put, List.setIfInBounds_toArray, List.set_cons_zero, List.set_cons_succ]
      refine wpAnyL_one (i := 9) (o := { dst := some 31, op := Go.Op.buildSlice 94 2 #[(0, Go.Operand.tmp 25), (1, Go.Operand.tmp 30)], type := 94, pos := "done.go:66", after := #[{ on := 3, ground := Go.Ground.data }, { on := 8, ground := Go.Ground.data }], guard := none }) (by kernel_rfl) rfl (by decide) (fun K hK => ?_)
      go_simp
      refine hK.out _ _ ?_ (fun hNew => ?_)
      · exact hS.out _ (hHeld.1.alloc hHeld.1.size _)
      clear hK K hHeld
      have hHeld := hNew
      clear hNew
      try simp only [Act.put, List.setIfInBounds_toArray, List.set_cons_zero, List.set_cons_succ]
      refine wpAnyL_one (i := 10) (o := { dst := some 32, op := Go.Op.call { callee := Go.Callee.value (Go.Operand.func 95), args := #[Go.Operand.tmp 31], argTypes := #[94] }, type := 31, pos := "done.go:66", after := #[{ on := 9, ground := Go.Ground.data }], guard := none }) (by kernel_rfl) rfl (by decide) (fun K hK => ?_)
      go_simp
      refine (hcat.out _ _ _ ⟨by rw [restA_same], by omega, by omega⟩).mono ?_
      rintro e w8 ⟨v8, rfl, ho8, hb8⟩
      obtain ⟨A8, c8, rfl, -⟩ := own_form ho8
      have hb8' := Lib.hid hb8
      have ho8' := Lib.hid ho8
      go_simp
      refine hK.out _ _ ?_ (fun hNew => ?_)
      · exact hS.out _ hb8
      clear hK K hHeld ho8 hb8
      have hHeld := hNew
      clear hNew
      try simp only [Act.put, List.setIfInBounds_toArray, List.set_cons_zero, List.set_cons_succ]
      refine wpAnyL_take (i := 11) (oi := { dst := some 33, op := Go.Op.fieldAddr 33 (Go.Operand.tmp 8) 5, type := 0, pos := "done.go:66", after := #[{ on := 0, ground := Go.Ground.phase }, { on := 1, ground := Go.Ground.phase }, { on := 2, ground := Go.Ground.phase }, { on := 3, ground := Go.Ground.phase }, { on := 4, ground := Go.Ground.phase }, { on := 5, ground := Go.Ground.phase }, { on := 6, ground := Go.Ground.phase }, { on := 7, ground := Go.Ground.phase }, { on := 8, ground := Go.Ground.phase }, { on := 9, ground := Go.Ground.phase }, { on := 10, ground := Go.Ground.phase }], guard := none }) (v := ?_) rfl (by kernel_rfl) (by kernel_rfl) (by kernel_rfl) (by kernel_rfl) (fun _ _ _ h => h) (Or.inl ⟨by rfl, ?_⟩) hHeld ?_
      rotate_left 1
      · intro w hSw; go_simp; try with_reducible rfl
      try simp only [Act.put, List.setIfInBounds_toArray, List.set_cons_zero, List.set_cons_succ]
      have g9 := Lib.hid ((hb8'.out.block b9 hlt9).trans r9.out)
      clear hHeld hS
      obtain ⟨p0, p1, p2, p3, p4, p5, pf⟩ := six_cells g9.out
      refine wpAnyL_last (o := { dst := none, op := Go.Op.store 31 (Go.Operand.tmp 33) (Go.Operand.tmp 32), type := 0, pos := "done.go:66", after := #[{ on := 11, ground := Go.Ground.data }, { on := 10, ground := Go.Ground.data }, { on := 10, ground := Go.Ground.chain }, { on := 0, ground := Go.Ground.phase }, { on := 1, ground := Go.Ground.phase }, { on := 2, ground := Go.Ground.phase }, { on := 3, ground := Go.Ground.phase }, { on := 4, ground := Go.Ground.phase }, { on := 5, ground := Go.Ground.phase }, { on := 6, ground := Go.Ground.phase }, { on := 7, ground := Go.Ground.phase }, { on := 8, ground := Go.Ground.phase }, { on := 9, ground := Go.Ground.phase }, { on := 10, ground := Go.Ground.phase }], guard := none }) (by kernel_rfl) rfl (fun K hK => ?_)
      go_simp
      refine hK _ _ ?_
      clear hK K
      try simp only [Act.put, List.setIfInBounds_toArray, List.set_cons_zero, List.set_cons_succ]
      refine wpAny_done (by kernel_rfl) ?_ _
      refine hK0 _ _ ?_
      have hmid := Lib.hid (takenOut_mid (W3 := w0) (b9 := b9) (n := c) (c8 := c8) (at_ := c) hT'.out (by omega) hz1b.out hb9'.out hs5.out ho5.out hb8'.out hny'.out hkt.out hkok.out (by have h1 := ho8'.out; exact h1) (by rw [List.length_append, List.length_take, List.length_drop, hkl.out]; omega))
      have hb86 := Lib.hid ((b5.out.trans (hb8'.out.mono b5.out.size)).setCell (p := ⟨b9, 5, none⟩) (by show w.heap.size ≤ b9; have := hz1b.out; have := hb9'.out; omega) (.slice A8 (c) c8))
      have hW6s : (w8.setCell ⟨b9, 5, none⟩ (.slice A8 (c) c8)).heap.size = w8.heap.size := by simp [World.setCell]
      have hT6 : ∀ k, But1 T w0 (w8.setCell ⟨b9, 5, none⟩ (.slice A8 (c) c8)) b9 k → k < (w8.setCell ⟨b9, 5, none⟩ (.slice A8 (c) c8)).heap.size := fun k hk => by
        rcases hk with hk | hk
        · have := hT'.out k hk; have := hb86.out.size; omega
        · exact hk.2.1
      have hs80 : w0.heap.size ≤ w8.heap.size := by have := hb8'.out.size; have := hs5.out; have := hz1b.out; have := hb9'.out; omega
      have hb06 : Below w0.heap.size w0 (w8.setCell ⟨b9, 5, none⟩ (.slice A8 (c) c8)) := (hb05.out.trans (hb8'.out.mono (by have := hs5.out; have := hz1b.out; have := hb9'.out; omega))).setCell (p := ⟨b9, 5, none⟩) (by show w0.heap.size ≤ b9; have := hz1b.out; have := hb9'.out; omega) (.slice A8 (c) c8)
      have hputc := Lib.hid (tput_T _ _ hT6 t (y.withKids (delK c y.kids)) aA kA yA A8 an ac kn kc yn yc (c) c8 (NodeV.kept (fun k hk => .inl hk) (fun _ _ => rfl) _ _ _ _ _ _ _ (hh.out _ hb86.out)) hmid.out qA qn qc q (hits'.out.below hb06) hqn (by have := hbig'.out; omega) (by have h1 := weighV_with y (delK c y.kids); have h2 := weighs_del c y.kids; have h3 := hbig'.out; omega))
      have G9 := Lib.hid (show (w8.setCell ⟨b9, 5, none⟩ (.slice A8 (c) c8)).heap[b9]? = some (.cells #[.int .u64 (y.id : Int), .bool y.leaf, .string ⟨y.label.toArray⟩, .slice yA yn yc, .string ⟨y.text.toArray⟩, .slice A8 (c) c8] 33 (0, 0)) from heap_setCell_same w8 b9 5 _ _ _ g9.out)
      have G4 := Lib.hid (show (w8.setCell ⟨b9, 5, none⟩ (.slice A8 (c) c8)).heap[w.heap.size]? = some (.cells (val6 t aA an ac kA kn kc) 33 (0, 0)) from (heap_setCell_other _ _ _ _ (by show w.heap.size ≠ b9; have := hz1b.out; have := hb9'.out; omega)).trans ((hb8'.out.block _ (by have := hz1b.out; have := hb9'.out; have := hs5.out; omega)).trans r4.out))
      have G8 := Lib.hid (show (w8.setCell ⟨b9, 5, none⟩ (.slice A8 (c) c8)).heap[w.heap.size + 1]? = some (.cells zero6 33 (0, 0)) from (heap_setCell_other _ _ _ _ (by show w.heap.size + 1 ≠ b9; have := hz1b.out; have := hb9'.out; omega)).trans ((hb8'.out.block _ (by have := hz1b.out; have := hb9'.out; have := hs5.out; omega)).trans r8.out))
      obtain ⟨W6, hW6⟩ : ∃ W6, W6 = w8.setCell ⟨b9, 5, none⟩ (.slice A8 (c) c8) := ⟨_, rfl⟩
      have G9' := G9.out
      have G4' := G4.out
      have G8' := G8.out
      unfold val6 at G4'
      rw [← hW6] at hputc hb86 G9' G4' G8'
      have hputc' := hputc.out
      unfold val6 at hputc'
      obtain ⟨we1, we2, we3, we4, -⟩ := with_id y (delK c y.kids)
      rw [we1, we2, we3, we4] at hputc'
      clear we1 we2 we3 we4
      have hpc := Lib.hid hputc'
      have G8w := Lib.hid G8'
      have hbW := Lib.hid hb86.out
      rw [← hW6]
      have hW6' := Lib.hid hW6
      have hW6s' := Lib.hid (show W6.heap.size = w8.heap.size by rw [hW6]; exact hW6s)
      clear hputc' hputc G9 G4 G8 hb86 hatc hcat hmid hb06 hT6 hW6s hW6
      have hnW : w.heap.size + 1 < W6.heap.size := (Array.getElem?_eq_some_iff.1 G8').1
      obtain ⟨p0, p1, p2, p3, p4, p5, pf⟩ := six_cells G9'
      obtain ⟨q0, q1, q2, q3, q4, q5, qf⟩ := six_cells G4'
      clear G9' G4' G8'
      go_wp2_with (go_at_call 85; go_loud (refine hpc.out.mono ?_; rintro e w9 ⟨zA, zn, zc, zK, zm, zd, rfl, hz, hbz⟩; have r3 := (hbz.block _ hnW).trans G8w.out; have hr := Lib.hid r3; have hz' := Lib.hid hz; have hbz' := Lib.hid hbz; unfold zero6 at r3; clear p0 p1 p2 p3 p4 p5 pf q0 q1 q2 q3 q4 q5 qf; obtain ⟨q0, q1, q2, q3, q4, q5, qf⟩ := six_cells r3; have hne : w.heap.size + 1 < w9.heap.size := (Array.getElem?_eq_some_iff.1 r3).1; have hne2 : w9.heap.size ≠ w.heap.size + 1 := (by omega); have hne3 : w.heap.size + 1 ≠ w9.heap.size := (by omega); unfold val6; clear hz hbz r3))
      obtain ⟨a, ha⟩ : ∃ a, a = (putV t q (y.withKids (delK c y.kids))).getD Nd.zero := ⟨_, rfl⟩
      rw [← ha] at hz' ⊢
      obtain ⟨W9, hW9, R9, N9, B9⟩ := end_node0 hT'.out (r := w.heap.size + 1) (b := w0.heap.size) (by omega) (by omega) (hbW.out.trans (hbz'.out.mono hbW.out.size)) hr.out (hz'.out.kept (fun k hk => by
        have hs := hbz'.out.size
        rcases hk with hk | hk
        · rcases hk with hk | hk
          · exact .inl hk
          · exact .inr ⟨hk.1, by have h2 := hk.2.1; omega⟩
        · exact .inr ⟨by have h2 := hW6s'.out; omega, hk.2⟩) (fun _ _ => rfl))
      rw [← hW9]
      unfold val6 at R9
      obtain ⟨d0, d1, d2, d3, d4, d5, df⟩ := six_cells R9
      refine bodyPost_ret (v := .agg (val6 a zA zn zc zK zm zd)) (by simp [results, Try.results81, go_sem, d0, d1, d2, d3, d4, d5, val6]) rfl ?_
      exact ⟨zA, zn, zc, zK, zm, zd, rfl, N9, B9⟩
    · have hdc' : (yd = c + 1) = False := by simp [hdc]
      have hS : Hid (∀ W : World, Below W5.heap.size W5 W → Below W5.heap.size W5 W ∧ W.cell? ⟨b9, 5, none⟩ = some (.slice (some ky) ym yd)) := fun W hb => ⟨hb, (hb.cell (p := ⟨b9, 5, none⟩) hlt9).trans p5⟩
      clear p0 p1 p2 p3 p4 p5 pf
      refine wp_region_L (fun w' => Below W5.heap.size W5 w' ∧ w'.cell? ⟨b9, 5, none⟩ = some (.slice (some ky) ym yd)) 12 rfl (hS.out _ (Below.refl W5.heap.size W5).drew) (fun hHeld => ?_)
      refine wpAnyL_take (i := 0) (oi := { dst := some 22, op := Go.Op.fieldAddr 33 (Go.Operand.tmp 8) 5, type := 0, pos := "done.go:66", after := #[], guard := none }) (v := ?_) rfl (by kernel_rfl) (by kernel_rfl) (by kernel_rfl) (by kernel_rfl) (fun _ _ _ h => h) (Or.inl ⟨by rfl, ?_⟩) hHeld ?_
      rotate_left 1
      · intro w hSw; (try dsimp only at hSw); obtain ⟨-, s5⟩ := hSw; go_simp; try with_reducible rfl
      try simp only [Act.put, List.setIfInBounds_toArray, List.set_cons_zero, List.set_cons_succ]
      refine wpAnyL_take (i := 1) (oi := { dst := some 23, op := Go.Op.load 31 (Go.Operand.tmp 22), type := 31, pos := "done.go:66", after := #[{ on := 0, ground := Go.Ground.data }], guard := none }) (v := ?_) rfl (by kernel_rfl) (by kernel_rfl) (by kernel_rfl) (by kernel_rfl) (fun _ _ _ h => h) (Or.inl ⟨by rfl, ?_⟩) hHeld ?_
      rotate_left 1
      · intro w hSw; (try dsimp only at hSw); obtain ⟨-, s5⟩ := hSw; go_simp; try with_reducible rfl
      try simp only [Act.put, List.setIfInBounds_toArray, List.set_cons_zero, List.set_cons_succ]
      refine wpAnyL_take (i := 2) (oi := { dst := some 24, op := Go.Op.move (Go.Operand.tmp 6), type := 3, pos := "done.go:66", after := #[], guard := none }) (v := ?_) rfl (by kernel_rfl) (by kernel_rfl) (by kernel_rfl) (by kernel_rfl) (fun _ _ _ h => h) (Or.inl ⟨by rfl, ?_⟩) hHeld ?_
      rotate_left 1
      · intro w hSw; (try dsimp only at hSw); obtain ⟨-, s5⟩ := hSw; go_simp; try with_reducible rfl
      try simp only [Act.put, List.setIfInBounds_toArray, List.set_cons_zero, List.set_cons_succ]
      refine wpAnyL_take (i := 3) (oi := { dst := some 25, op := Go.Op.slice 31 (Go.Operand.tmp 23) none (some (Go.Operand.tmp 24)) none, type := 31, pos := "done.go:66", after := #[{ on := 1, ground := Go.Ground.data }, { on := 2, ground := Go.Ground.data }], guard := none }) (v := ?_) rfl (by kernel_rfl) (by kernel_rfl) (by kernel_rfl) (by kernel_rfl) (fun _ _ _ h => h) (Or.inl ⟨by rfl, ?_⟩) hHeld ?_
      rotate_left 1
      · intro w hSw; (try dsimp only at hSw); obtain ⟨-, s5⟩ := hSw; go_simp; try with_reducible rfl
      try simp only [Act.put, List.setIfInBounds_toArray, List.set_cons_zero, List.set_cons_succ]
      refine wpAnyL_take (i := 4) (oi := { dst := some 26, op := Go.Op.fieldAddr 33 (Go.Operand.tmp 8) 5, type := 0, pos := "done.go:66", after := #[], guard := none }) (v := ?_) rfl (by kernel_rfl) (by kernel_rfl) (by kernel_rfl) (by kernel_rfl) (fun _ _ _ h => h) (Or.inl ⟨by rfl, ?_⟩) hHeld ?_
      rotate_left 1
      · intro w hSw; (try dsimp only at hSw); obtain ⟨-, s5⟩ := hSw; go_simp; try with_reducible rfl
      try simp only [Act.put, List.setIfInBounds_toArray, List.set_cons_zero, List.set_cons_succ]
      refine wpAnyL_take (i := 5) (oi := { dst := some 27, op := Go.Op.load 31 (Go.Operand.tmp 26), type := 31, pos := "done.go:66", after := #[{ on := 4, ground := Go.Ground.data }], guard := none }) (v := ?_) rfl (by kernel_rfl) (by kernel_rfl) (by kernel_rfl) (by kernel_rfl) (fun _ _ _ h => h) (Or.inl ⟨by rfl, ?_⟩) hHeld ?_
      rotate_left 1
      · intro w hSw; (try dsimp only at hSw); obtain ⟨-, s5⟩ := hSw; go_simp; try with_reducible rfl
      try simp only [Act.put, List.setIfInBounds_toArray, List.set_cons_zero, List.set_cons_succ]
      refine wpAnyL_take (i := 6) (oi := { dst := some 28, op := Go.Op.move (Go.Operand.tmp 6), type := 3, pos := "done.go:66", after := #[], guard := none }) (v := ?_) rfl (by kernel_rfl) (by kernel_rfl) (by kernel_rfl) (by kernel_rfl) (fun _ _ _ h => h) (Or.inl ⟨by rfl, ?_⟩) hHeld ?_
      rotate_left 1
      · intro w hSw; (try dsimp only at hSw); obtain ⟨-, s5⟩ := hSw; go_simp; try with_reducible rfl
      try simp only [Act.put, List.setIfInBounds_toArray, List.set_cons_zero, List.set_cons_succ]
      refine wpAnyL_take (i := 7) (oi := { dst := some 29, op := Go.Op.binOp Go.BinOp.add 3 (Go.Operand.tmp 28) (Go.Operand.const (Go.Value.int Go.IntKind.i64 1)) 3, type := 3, pos := "done.go:66", after := #[{ on := 6, ground := Go.Ground.data }], guard := none }) (v := ?_) rfl (by kernel_rfl) (by kernel_rfl) (by kernel_rfl) (by kernel_rfl) (fun _ _ _ h => h) (Or.inl ⟨by rfl, ?_⟩) hHeld ?_
      rotate_left 1
      · intro w hSw; (try dsimp only at hSw); obtain ⟨-, s5⟩ := hSw; go_simp; try with_reducible rfl
      try simp only [Act.put, List.setIfInBounds_toArray, List.set_cons_zero, List.set_cons_succ]
      refine wpAnyL_take (i := 8) (oi := { dst := some 30, op := Go.Op.slice 31 (Go.Operand.tmp 27) (some (Go.Operand.tmp 29)) none none, type := 31, pos := "done.go:66", after := #[{ on := 5, ground := Go.Ground.data }, { on := 7, ground := Go.Ground.data }], guard := none }) (v := ?_) rfl (by kernel_rfl) (by kernel_rfl) (by kernel_rfl) (by kernel_rfl) (fun _ _ _ h => h) (Or.inl ⟨by rfl, ?_⟩) hHeld ?_
      rotate_left 1
      · intro w hSw; (try dsimp only at hSw); obtain ⟨-, s5⟩ := hSw; go_simp; try with_reducible rfl
      try simp only [Act.put, List.setIfInBounds_toArray, List.set_cons_zero, List.set_cons_succ]
      refine wpAnyL_one (i := 9) (o := { dst := some 31, op := Go.Op.buildSlice 94 2 #[(0, Go.Operand.tmp 25), (1, Go.Operand.tmp 30)], type := 94, pos := "done.go:66", after := #[{ on := 3, ground := Go.Ground.data }, { on := 8, ground := Go.Ground.data }], guard := none }) (by kernel_rfl) rfl (by decide) (fun K hK => ?_)
      go_simp
      refine hK.out _ _ ?_ (fun hNew => ?_)
      · exact hS.out _ (hHeld.1.alloc hHeld.1.size _)
      clear hK K hHeld
      have hHeld := hNew
      clear hNew
      try simp only [Act.put, List.setIfInBounds_toArray, List.set_cons_zero, List.set_cons_succ]
      refine wpAnyL_one (i := 10) (o := { dst := some 32, op := Go.Op.call { callee := Go.Callee.value (Go.Operand.func 95), args := #[Go.Operand.tmp 31], argTypes := #[94] }, type := 31, pos := "done.go:66", after := #[{ on := 9, ground := Go.Ground.data }], guard := none }) (by kernel_rfl) rfl (by decide) (fun K hK => ?_)
      go_simp
      refine (hcat.out _ _ _ ⟨by rw [restA_ne hdc], by omega, by omega⟩).mono ?_
      rintro e w8 ⟨v8, rfl, ho8, hb8⟩
      obtain ⟨A8, c8, rfl, -⟩ := own_form ho8
      have hb8' := Lib.hid hb8
      have ho8' := Lib.hid ho8
      go_simp
      refine hK.out _ _ ?_ (fun hNew => ?_)
      · exact hS.out _ hb8
      clear hK K hHeld ho8 hb8
      have hHeld := hNew
      clear hNew
      try simp only [Act.put, List.setIfInBounds_toArray, List.set_cons_zero, List.set_cons_succ]
      refine wpAnyL_take (i := 11) (oi := { dst := some 33, op := Go.Op.fieldAddr 33 (Go.Operand.tmp 8) 5, type := 0, pos := "done.go:66", after := #[{ on := 0, ground := Go.Ground.phase }, { on := 1, ground := Go.Ground.phase }, { on := 2, ground := Go.Ground.phase }, { on := 3, ground := Go.Ground.phase }, { on := 4, ground := Go.Ground.phase }, { on := 5, ground := Go.Ground.phase }, { on := 6, ground := Go.Ground.phase }, { on := 7, ground := Go.Ground.phase }, { on := 8, ground := Go.Ground.phase }, { on := 9, ground := Go.Ground.phase }, { on := 10, ground := Go.Ground.phase }], guard := none }) (v := ?_) rfl (by kernel_rfl) (by kernel_rfl) (by kernel_rfl) (by kernel_rfl) (fun _ _ _ h => h) (Or.inl ⟨by rfl, ?_⟩) hHeld ?_
      rotate_left 1
      · intro w hSw; go_simp; try with_reducible rfl
      try simp only [Act.put, List.setIfInBounds_toArray, List.set_cons_zero, List.set_cons_succ]
      have g9 := Lib.hid ((hb8'.out.block b9 hlt9).trans r9.out)
      clear hHeld hS
      obtain ⟨p0, p1, p2, p3, p4, p5, pf⟩ := six_cells g9.out
      refine wpAnyL_last (o := { dst := none, op := Go.Op.store 31 (Go.Operand.tmp 33) (Go.Operand.tmp 32), type := 0, pos := "done.go:66", after := #[{ on := 11, ground := Go.Ground.data }, { on := 10, ground := Go.Ground.data }, { on := 10, ground := Go.Ground.chain }, { on := 0, ground := Go.Ground.phase }, { on := 1, ground := Go.Ground.phase }, { on := 2, ground := Go.Ground.phase }, { on := 3, ground := Go.Ground.phase }, { on := 4, ground := Go.Ground.phase }, { on := 5, ground := Go.Ground.phase }, { on := 6, ground := Go.Ground.phase }, { on := 7, ground := Go.Ground.phase }, { on := 8, ground := Go.Ground.phase }, { on := 9, ground := Go.Ground.phase }, { on := 10, ground := Go.Ground.phase }], guard := none }) (by kernel_rfl) rfl (fun K hK => ?_)
      go_simp
      refine hK _ _ ?_
      clear hK K
      try simp only [Act.put, List.setIfInBounds_toArray, List.set_cons_zero, List.set_cons_succ]
      refine wpAny_done (by kernel_rfl) ?_ _
      refine hK0 _ _ ?_
      have hmid := Lib.hid (takenOut_mid (W3 := w0) (b9 := b9) (n := ym - 1) (c8 := c8) (at_ := c) hT'.out (by omega) hz1b.out hb9'.out hs5.out ho5.out hb8'.out hny'.out hkt.out hkok.out (by have h1 := ho8'.out; exact h1) (by rw [List.length_append, List.length_take, List.length_drop, hkl.out]; omega))
      have hb86 := Lib.hid ((b5.out.trans (hb8'.out.mono b5.out.size)).setCell (p := ⟨b9, 5, none⟩) (by show w.heap.size ≤ b9; have := hz1b.out; have := hb9'.out; omega) (.slice A8 (ym - 1) c8))
      have hW6s : (w8.setCell ⟨b9, 5, none⟩ (.slice A8 (ym - 1) c8)).heap.size = w8.heap.size := by simp [World.setCell]
      have hT6 : ∀ k, But1 T w0 (w8.setCell ⟨b9, 5, none⟩ (.slice A8 (ym - 1) c8)) b9 k → k < (w8.setCell ⟨b9, 5, none⟩ (.slice A8 (ym - 1) c8)).heap.size := fun k hk => by
        rcases hk with hk | hk
        · have := hT'.out k hk; have := hb86.out.size; omega
        · exact hk.2.1
      have hs80 : w0.heap.size ≤ w8.heap.size := by have := hb8'.out.size; have := hs5.out; have := hz1b.out; have := hb9'.out; omega
      have hb06 : Below w0.heap.size w0 (w8.setCell ⟨b9, 5, none⟩ (.slice A8 (ym - 1) c8)) := (hb05.out.trans (hb8'.out.mono (by have := hs5.out; have := hz1b.out; have := hb9'.out; omega))).setCell (p := ⟨b9, 5, none⟩) (by show w0.heap.size ≤ b9; have := hz1b.out; have := hb9'.out; omega) (.slice A8 (ym - 1) c8)
      have hputc := Lib.hid (tput_T _ _ hT6 t (y.withKids (delK c y.kids)) aA kA yA A8 an ac kn kc yn yc (ym - 1) c8 (NodeV.kept (fun k hk => .inl hk) (fun _ _ => rfl) _ _ _ _ _ _ _ (hh.out _ hb86.out)) hmid.out qA qn qc q (hits'.out.below hb06) hqn (by have := hbig'.out; omega) (by have h1 := weighV_with y (delK c y.kids); have h2 := weighs_del c y.kids; have h3 := hbig'.out; omega))
      have G9 := Lib.hid (show (w8.setCell ⟨b9, 5, none⟩ (.slice A8 (ym - 1) c8)).heap[b9]? = some (.cells #[.int .u64 (y.id : Int), .bool y.leaf, .string ⟨y.label.toArray⟩, .slice yA yn yc, .string ⟨y.text.toArray⟩, .slice A8 (ym - 1) c8] 33 (0, 0)) from heap_setCell_same w8 b9 5 _ _ _ g9.out)
      have G4 := Lib.hid (show (w8.setCell ⟨b9, 5, none⟩ (.slice A8 (ym - 1) c8)).heap[w.heap.size]? = some (.cells (val6 t aA an ac kA kn kc) 33 (0, 0)) from (heap_setCell_other _ _ _ _ (by show w.heap.size ≠ b9; have := hz1b.out; have := hb9'.out; omega)).trans ((hb8'.out.block _ (by have := hz1b.out; have := hb9'.out; have := hs5.out; omega)).trans r4.out))
      have G8 := Lib.hid (show (w8.setCell ⟨b9, 5, none⟩ (.slice A8 (ym - 1) c8)).heap[w.heap.size + 1]? = some (.cells zero6 33 (0, 0)) from (heap_setCell_other _ _ _ _ (by show w.heap.size + 1 ≠ b9; have := hz1b.out; have := hb9'.out; omega)).trans ((hb8'.out.block _ (by have := hz1b.out; have := hb9'.out; have := hs5.out; omega)).trans r8.out))
      obtain ⟨W6, hW6⟩ : ∃ W6, W6 = w8.setCell ⟨b9, 5, none⟩ (.slice A8 (ym - 1) c8) := ⟨_, rfl⟩
      have G9' := G9.out
      have G4' := G4.out
      have G8' := G8.out
      unfold val6 at G4'
      rw [← hW6] at hputc hb86 G9' G4' G8'
      have hputc' := hputc.out
      unfold val6 at hputc'
      obtain ⟨we1, we2, we3, we4, -⟩ := with_id y (delK c y.kids)
      rw [we1, we2, we3, we4] at hputc'
      clear we1 we2 we3 we4
      have hpc := Lib.hid hputc'
      have G8w := Lib.hid G8'
      have hbW := Lib.hid hb86.out
      rw [← hW6]
      have hW6' := Lib.hid hW6
      have hW6s' := Lib.hid (show W6.heap.size = w8.heap.size by rw [hW6]; exact hW6s)
      clear hputc' hputc G9 G4 G8 hb86 hatc hcat hmid hb06 hT6 hW6s hW6
      have hnW : w.heap.size + 1 < W6.heap.size := (Array.getElem?_eq_some_iff.1 G8').1
      obtain ⟨p0, p1, p2, p3, p4, p5, pf⟩ := six_cells G9'
      obtain ⟨q0, q1, q2, q3, q4, q5, qf⟩ := six_cells G4'
      clear G9' G4' G8'
      go_wp2_with (go_at_call 85; go_loud (refine hpc.out.mono ?_; rintro e w9 ⟨zA, zn, zc, zK, zm, zd, rfl, hz, hbz⟩; have r3 := (hbz.block _ hnW).trans G8w.out; have hr := Lib.hid r3; have hz' := Lib.hid hz; have hbz' := Lib.hid hbz; unfold zero6 at r3; clear p0 p1 p2 p3 p4 p5 pf q0 q1 q2 q3 q4 q5 qf; obtain ⟨q0, q1, q2, q3, q4, q5, qf⟩ := six_cells r3; have hne : w.heap.size + 1 < w9.heap.size := (Array.getElem?_eq_some_iff.1 r3).1; have hne2 : w9.heap.size ≠ w.heap.size + 1 := (by omega); have hne3 : w.heap.size + 1 ≠ w9.heap.size := (by omega); unfold val6; clear hz hbz r3))
      obtain ⟨a, ha⟩ : ∃ a, a = (putV t q (y.withKids (delK c y.kids))).getD Nd.zero := ⟨_, rfl⟩
      rw [← ha] at hz' ⊢
      obtain ⟨W9, hW9, R9, N9, B9⟩ := end_node0 hT'.out (r := w.heap.size + 1) (b := w0.heap.size) (by omega) (by omega) (hbW.out.trans (hbz'.out.mono hbW.out.size)) hr.out (hz'.out.kept (fun k hk => by
        have hs := hbz'.out.size
        rcases hk with hk | hk
        · rcases hk with hk | hk
          · exact .inl hk
          · exact .inr ⟨hk.1, by have h2 := hk.2.1; omega⟩
        · exact .inr ⟨by have h2 := hW6s'.out; omega, hk.2⟩) (fun _ _ => rfl))
      rw [← hW9]
      unfold val6 at R9
      obtain ⟨d0, d1, d2, d3, d4, d5, df⟩ := six_cells R9
      refine bodyPost_ret (v := .agg (val6 a zA zn zc zK zm zd)) (by simp [results, Try.results81, go_sem, d0, d1, d2, d3, d4, d5, val6]) rfl ?_
      exact ⟨zA, zn, zc, zK, zm, zd, rfl, N9, B9⟩
end Go.Proofs.Ytoeblaecldhcaaa.Top
/- done: a Delete, an Insert. -/
namespace Go.Proofs.Ytoeblaecldhcaaa.Top
open Go.RowKit
set_option maxRecDepth 20000
set_option linter.unusedVariables false

set_option maxHeartbeats 4000000 in
theorem done_delete (T : Nat → Prop) (w : World) (hT : ∀ k, T k → k < w.heap.size) (t y : Nd) (aA kA : Option Addr) (an ac kn kc : Nat) (h : NodeV T w aA an ac kA kn kc t) (o : Ov) (s : OS) (ho : OpIn w o s) (hk : o.kind = 2) (hpn : s.pn ≤ 500000) (hpnil : s.pA = none → s.pc = 0) (q : List Int) (c : Nat) (hq : o.path = q ++ [(c : Int)]) (hbig : weighV t ≤ 90000)
    (hy : atV t q = some y) (hc : c < y.kids.length) :
    Calls Try.prog 53 #[.agg (val6 t aA an ac kA kn kc), .agg (opCells o s)] w (NodeA T w ((putV t q (y.withKids (delK c y.kids))).getD Nd.zero)) := by
  obtain ⟨z1, z2, z3, z4, z5⟩ := three_new w (.cells (val6 t aA an ac kA kn kc) 33) (.cells (opCells o s) 26) (.cells zero6 33)
  obtain ⟨W3, hW3⟩ : ∃ W3, W3 = ((w.alloc (.cells (val6 t aA an ac kA kn kc) 33)).alloc (.cells (opCells o s) 26)).alloc (.cells zero6 33) := ⟨_, rfl⟩
  rw [← hW3] at z1 z2 z3 z4 z5
  have hT3 : ∀ k, T k → k < W3.heap.size := fun k hk => by have := hT k hk; omega
  have htk := Lib.hid (takenOut_T T W3 hT3 t y aA kA an ac kn kc (h.kept (fun _ h => h) fun k hk => z4.block k (hT k hk)) s.pA s.pn s.pc q c (hq ▸ ho.path.below z4) hpnil hpn ho.pnc ho.pcm hbig hy hc)
  obtain ⟨o0, o1, o2, o3, o4, o5, o6, o7, o8, o9, o10⟩ := op_cells z2
  have z1u := z1
  unfold val6 at z1u
  obtain ⟨p0, p1, p2, p3, p4, p5, pf⟩ := six_cells z1u
  have hkI : (o.kind : Int) = 2 := by omega
  have z3' := Lib.hid z3
  have z4' := Lib.hid z4
  have z5' := Lib.hid z5
  have hT' := Lib.hid hT
  have hkr := ho.kind
  rw [hW3] at o0 o1 o2 o3 o4 o5 o6 o7 o8 o9 o10 p0 p1 p2 p3 p4 p5 pf htk
  clear h ho hT hT3 z1 z1u z2 z3 z4 z5 hk hq hy
  unfold zero6 val6 opCells at hW3 htk o0 o1 o2 o3 o4 o5 o6 o7 o8 o9 o10 p0 p1 p2 p3 p4 p5 pf
  unfold val6 opCells
  rw [hkI] at hW3 htk o0 o1 o2 o3 o4 o5 o6 o7 o8 o9 o10 p0 p1 p2 p3 p4 p5
  rw [hkI]
  clear hkI hkr
  go_enter Try.func53, Try.ntmps53
  go_wp2_with (go_at_call 81; go_loud (refine htk.out.mono ?_; rw [← hW3]; rintro e w9 ⟨zA, zn, zc, zK, zm, zd, rfl, hz, hbz⟩; have r3 := (hbz.block _ (by have := z5'.out; omega)).trans z3'.out; have hr := Lib.hid r3; have hz' := Lib.hid hz; have hbz' := Lib.hid hbz; unfold zero6 at r3; obtain ⟨q0, q1, q2, q3, q4, q5, qf⟩ := six_cells r3; have hne : w.heap.size + 1 + 1 < w9.heap.size := (Array.getElem?_eq_some_iff.1 r3).1; have hne2 : w9.heap.size ≠ w.heap.size + 1 + 1 := (by omega); have hne3 : w.heap.size + 1 + 1 ≠ w9.heap.size := (by omega); unfold val6; clear hz hbz r3))
  obtain ⟨a, ha⟩ : ∃ a, a = (putV t q (y.withKids (delK c y.kids))).getD Nd.zero := ⟨_, rfl⟩
  rw [← ha] at hz' ⊢
  obtain ⟨W9, hW9, R9, N9, B9⟩ := end_node0 hT'.out (r := w.heap.size + 1 + 1) (b := W3.heap.size) (by omega) (by have := z5'.out; omega) (z4'.out.trans (hbz'.out.mono z4'.out.size)) hr.out hz'.out
  rw [← hW9]
  unfold val6 at R9
  obtain ⟨d0, d1, d2, d3, d4, d5, df⟩ := six_cells R9
  refine bodyPost_ret (v := .agg (val6 a zA zn zc zK zm zd)) (by simp [results, Try.results53, go_sem, d0, d1, d2, d3, d4, d5, val6]) rfl ?_
  exact ⟨zA, zn, zc, zK, zm, zd, rfl, N9, B9⟩
theorem new_node (T : Nat → Prop) (w : World) (id : Nat) (leaf : Bool) (label : Txt) (hid : id < 18446744073709551616) (hl : label.length ≤ maxLen) : NodeV T w none 0 0 none 0 0 (.mk id leaf label [] [] []) := by
  refine NFacts.node ⟨hid, hl, Nat.zero_le _, ⟨rfl, fun q x h => (nomatch (show (none : Option (Txt × Txt)) = some x from h))⟩, Nat.le_refl _, Nat.zero_le _, fun _ => rfl, rfl, Nat.le_refl _, Nat.zero_le _, fun _ => rfl, ?_⟩
  first
    | trivial
    | exact RowAt.of_kvs [] (fun k h => by cases h) fun q k h => by simp at h
set_option maxHeartbeats 4000000 in
theorem done_insert (T : Nat → Prop) (w : World) (hT : ∀ k, T k → k < w.heap.size) (t y : Nd) (aA kA : Option Addr) (an ac kn kc : Nat) (h : NodeV T w aA an ac kA kn kc t) (o : Ov) (s : OS) (ho : OpIn w o s) (hk : o.kind = 1) (hlb : o.label.length ≤ 80000) (g : Nat) (hg : o.at_ = (g : Int)) (hbig : weighV t ≤ 90000)
    (hy : atV t o.path = some y) (hc : g ≤ y.kids.length) :
    Calls Try.prog 53 #[.agg (val6 t aA an ac kA kn kc), .agg (opCells o s)] w (NodeA T w ((putV t o.path (y.withKids (insK g (.mk o.id o.leaf o.label [] [] []) y.kids))).getD Nd.zero)) := by
  obtain ⟨z1, z2, z3, z4, z5⟩ := three_new w (.cells (val6 t aA an ac kA kn kc) 33) (.cells (opCells o s) 26) (.cells zero6 33)
  obtain ⟨W3, hW3⟩ : ∃ W3, W3 = ((w.alloc (.cells (val6 t aA an ac kA kn kc) 33)).alloc (.cells (opCells o s) 26)).alloc (.cells zero6 33) := ⟨_, rfl⟩
  rw [← hW3] at z1 z2 z3 z4 z5
  have hT3 : ∀ k, T k → k < W3.heap.size := fun k hk => by have := hT k hk; omega
  have hpm := Nat.le_trans ho.pnc ho.pcm
  have htk := Lib.hid (putIn_T T W3 hT3 t (.mk o.id o.leaf o.label [] [] []) y aA kA none none an ac kn kc 0 0 0 0 (h.kept (fun _ h => h) fun k hk => z4.block k (hT k hk)) (new_node T W3 o.id o.leaf o.label ho.id ho.label) s.pA s.pn s.pc o.path (ho.path.below z4) hpm hbig (by have h9 : weighV (.mk o.id o.leaf o.label [] [] []) = 1 + o.label.length := (by simp [weighV, attrsW, weighsV]); omega) hy g hc)
  obtain ⟨o0, o1, o2, o3, o4, o5, o6, o7, o8, o9, o10⟩ := op_cells z2
  have z1u := z1
  unfold val6 at z1u
  obtain ⟨p0, p1, p2, p3, p4, p5, pf⟩ := six_cells z1u
  have hkI : (o.kind : Int) = 1 := by omega
  have z3' := Lib.hid z3
  have z4' := Lib.hid z4
  have z5' := Lib.hid z5
  have hT' := Lib.hid hT
  have hkr := ho.kind
  rw [hW3] at o0 o1 o2 o3 o4 o5 o6 o7 o8 o9 o10 p0 p1 p2 p3 p4 p5 pf htk
  rw [← hg] at htk
  clear h ho hT hT3 z1 z1u z2 z3 z4 z5 hk hg hy
  unfold zero6 val6 opCells at hW3 htk o0 o1 o2 o3 o4 o5 o6 o7 o8 o9 o10 p0 p1 p2 p3 p4 p5 pf
  unfold val6 opCells
  rw [hkI] at hW3 htk o0 o1 o2 o3 o4 o5 o6 o7 o8 o9 o10 p0 p1 p2 p3 p4 p5
  rw [hkI]
  clear hkI hkr
  go_enter Try.func53, Try.ntmps53
  go_wp2_with (go_at_call 80; go_loud (refine htk.out.mono ?_; rw [← hW3]; rintro e w9 ⟨zA, zn, zc, zK, zm, zd, rfl, hz, hbz⟩; have r3 := (hbz.block _ (by have := z5'.out; omega)).trans z3'.out; have hr := Lib.hid r3; have hz' := Lib.hid hz; have hbz' := Lib.hid hbz; unfold zero6 at r3; obtain ⟨q0, q1, q2, q3, q4, q5, qf⟩ := six_cells r3; have hne : w.heap.size + 1 + 1 < w9.heap.size := (Array.getElem?_eq_some_iff.1 r3).1; have hne2 : w9.heap.size ≠ w.heap.size + 1 + 1 := (by omega); have hne3 : w.heap.size + 1 + 1 ≠ w9.heap.size := (by omega); unfold val6; clear hz hbz r3))
  obtain ⟨a, ha⟩ : ∃ a, a = (putV t o.path (y.withKids (insK g (.mk o.id o.leaf o.label [] [] []) y.kids))).getD Nd.zero := ⟨_, rfl⟩
  rw [← ha] at hz' ⊢
  obtain ⟨W9, hW9, R9, N9, B9⟩ := end_node0 hT'.out (r := w.heap.size + 1 + 1) (b := W3.heap.size) (by omega) (by have := z5'.out; omega) (z4'.out.trans (hbz'.out.mono z4'.out.size)) hr.out hz'.out
  rw [← hW9]
  unfold val6 at R9
  obtain ⟨d0, d1, d2, d3, d4, d5, df⟩ := six_cells R9
  refine bodyPost_ret (v := .agg (val6 a zA zn zc zK zm zd)) (by simp [results, Try.results53, go_sem, d0, d1, d2, d3, d4, d5, val6]) rfl ?_
  exact ⟨zA, zn, zc, zK, zm, zd, rfl, N9, B9⟩
end Go.Proofs.Ytoeblaecldhcaaa.Top
/- done: a Relabel. -/
namespace Go.Proofs.Ytoeblaecldhcaaa.Top
open Go.RowKit
set_option maxRecDepth 20000
set_option linter.unusedVariables false

/-- a node with another label -/
def labN : Nd → Txt → Nd
  | .mk i f _ a x k, l => .mk i f l a x k
theorem labN_id (y : Nd) (l : Txt) : (labN y l).id = y.id ∧ (labN y l).leaf = y.leaf ∧ (labN y l).label = l ∧ (labN y l).text = y.text ∧ (labN y l).attrs = y.attrs ∧ (labN y l).kids = y.kids := by cases y; exact ⟨rfl, rfl, rfl, rfl, rfl, rfl⟩
theorem labN_weigh (y : Nd) (l : Txt) : weighV (labN y l) ≤ weighV y + l.length := by cases y; simp only [labN, weighV]; omega
theorem labN_node {T : Nat → Prop} {w : World} {aA kA : Option Addr} {an ac kn kc : Nat} {y : Nd} {l : Txt} (h : NodeV T w aA an ac kA kn kc y) (hl : l.length ≤ maxLen) : NodeV T w aA an ac kA kn kc (labN y l) := by
  have hf := h.facts
  obtain ⟨e1, e2, e3, e4, e5, e6⟩ := labN_id y l
  exact NFacts.node ⟨by rw [e1]; exact hf.id, by rw [e3]; exact hl, by rw [e4]; exact hf.text, by rw [e5]; exact hf.ats, hf.anc, hf.acm, hf.anil, by rw [e6]; exact hf.kl, hf.knc, hf.kcm, hf.knil, by rw [e6]; exact hf.row⟩
set_option maxHeartbeats 4000000 in
theorem done_relabel (T : Nat → Prop) (w : World) (hT : ∀ k, T k → k < w.heap.size) (t y : Nd) (aA kA : Option Addr) (an ac kn kc : Nat) (h : NodeV T w aA an ac kA kn kc t) (o : Ov) (s : OS) (ho : OpIn w o s) (hk : o.kind = 5) (hlb : o.label.length ≤ 80000) (hbig : weighV t ≤ 90000)
    (hy : atV t o.path = some y) :
    Calls Try.prog 53 #[.agg (val6 t aA an ac kA kn kc), .agg (opCells o s)] w (NodeA T w ((putV t o.path (labN y o.label)).getD Nd.zero)) := by
  obtain ⟨z1, z2, z3, z4, z5⟩ := three_new w (.cells (val6 t aA an ac kA kn kc) 33) (.cells (opCells o s) 26) (.cells zero6 33)
  obtain ⟨W3, hW3⟩ : ∃ W3, W3 = ((w.alloc (.cells (val6 t aA an ac kA kn kc) 33)).alloc (.cells (opCells o s) 26)).alloc (.cells zero6 33) := ⟨_, rfl⟩
  rw [← hW3] at z1 z2 z3 z4 z5
  have hT3 : ∀ k, T k → k < W3.heap.size := fun k hk => by have := hT k hk; omega
  have hpm := Nat.le_trans ho.pnc ho.pcm
  have hatc := Lib.hid (at_T T W3 hT3 t aA kA an ac kn kc (h.kept (fun _ h => h) fun k hk => z4.block k (hT k hk)) s.pA s.pn s.pc o.path (ho.path.below z4) hpm (by omega))
  have hkI : (o.kind : Int) = 5 := by omega
  have hh := Lib.hid (fun (W : World) (hb : Below w.heap.size w W) => h.kept (w' := W) (T' := T) (fun _ h => h) fun k hk => hb.block k (hT k hk))
  have hop := Lib.hid (fun (W : World) (hb : Below w.heap.size w W) => ho.path.below hb)
  have hyw := (at_count o.path t y hy).2
  have hll := ho.label
  obtain ⟨o0, o1, o2, o3, o4, o5, o6, o7, o8, o9, o10⟩ := op_cells z2
  have z1u := z1
  unfold val6 at z1u
  obtain ⟨p0, p1, p2, p3, p4, p5, pf⟩ := six_cells z1u
  have z1' := Lib.hid z1
  have z2' := Lib.hid z2
  have z3' := Lib.hid z3
  have z4' := Lib.hid z4
  have z5' := Lib.hid z5
  have hT' := Lib.hid hT
  have hy' := Lib.hid hy
  have hbig' := Lib.hid hbig
  have hyw' := Lib.hid hyw
  have hpm' := Lib.hid hpm
  rw [hW3] at o0 o1 o2 o3 o4 o5 o6 o7 o8 o9 o10 p0 p1 p2 p3 p4 p5 pf hatc
  clear h ho hT hT3 z1 z1u z2 z3 z4 z5 hk hy hbig hyw hpm
  unfold zero6 val6 opCells at hW3 hatc o0 o1 o2 o3 o4 o5 o6 o7 o8 o9 o10 p0 p1 p2 p3 p4 p5 pf
  unfold val6 opCells
  rw [hkI] at hW3 hatc o0 o1 o2 o3 o4 o5 o6 o7 o8 o9 o10 p0 p1 p2 p3 p4 p5
  rw [hkI]
  have hkI' := Lib.hid hkI
  clear hkI
  go_enter Try.func53, Try.ntmps53
  go_wp2_with (first
    | (go_at_call 33; go_loud (refine hatc.out.mono ?_; rw [← hW3]; rintro e w1 ⟨yA, yn, yc, yK, ym, yd, rfl, hny, hb⟩; rw [hy'.out] at hny ⊢; have hny' := Lib.hid hny; have hb' := Lib.hid hb; have r1 := (hb.block _ (by have := z5'.out; omega)).trans z1'.out; have r2 := (hb.block _ (by have := z5'.out; omega)).trans z2'.out; clear o0 o1 o2 o3 o4 o5 o6 o7 o8 o9 o10 p0 p1 p2 p3 p4 p5 pf; obtain ⟨o0, o1, o2, o3, o4, o5, o6, o7, o8, o9, o10⟩ := op_cells r2; rw [hkI'.out] at o0; unfold val6 at r1; obtain ⟨p0, p1, p2, p3, p4, p5, pf⟩ := six_cells r1; have hs1 : w.heap.size + 1 + 1 < w1.heap.size := (by have := hb.size; have := z5'.out; omega); have hq0 : w1.heap.size ≠ w.heap.size := (by omega); have hq1 : w1.heap.size ≠ w.heap.size + 1 := (by omega); have hq2 : w.heap.size ≠ w1.heap.size := (by omega); have hq3 : w.heap.size + 1 ≠ w1.heap.size := (by omega); have hq4 : w.heap.size + 1 < w1.heap.size := (by omega); have hq5 : w.heap.size < w1.heap.size := (by omega); have u0 := fun O => (World.cell?_alloc_lt w1 O ⟨w.heap.size + 1, 0, none⟩ hq4).trans o0; have u1 := fun O => (World.cell?_alloc_lt w1 O ⟨w.heap.size + 1, 1, none⟩ hq4).trans o1; have u6 := fun O => (World.cell?_alloc_lt w1 O ⟨w.heap.size + 1, 6, none⟩ hq4).trans o6; have v0 := fun O => (World.cell?_alloc_lt w1 O ⟨w.heap.size, 0, none⟩ hq5).trans p0; have v1 := fun O => (World.cell?_alloc_lt w1 O ⟨w.heap.size, 1, none⟩ hq5).trans p1; have v2 := fun O => (World.cell?_alloc_lt w1 O ⟨w.heap.size, 2, none⟩ hq5).trans p2; have v3 := fun O => (World.cell?_alloc_lt w1 O ⟨w.heap.size, 3, none⟩ hq5).trans p3; have v4 := fun O => (World.cell?_alloc_lt w1 O ⟨w.heap.size, 4, none⟩ hq5).trans p4; have v5 := fun O => (World.cell?_alloc_lt w1 O ⟨w.heap.size, 5, none⟩ hq5).trans p5; have hput := (fun O => tput_T (Nw T W3 w1) (w1.alloc O) (fun k hk => by (have hs2 := World.size_alloc w1 O); (rcases hk with hk | hk); (have := hT'.out k hk; omega); (have := hk.2; omega)) t (labN y o.label) aA kA yA yK an ac kn kc yn yc ym yd (NodeV.kept (fun k hk => .inl hk) (fun _ _ => rfl) _ _ _ _ _ _ _ (hh.out (w1.alloc O) ((z4'.out.trans (hb.mono z4'.out.size)).alloc (by omega) O))) (labN_node (NodeV.kept (fun k hk => hk) (fun k hk => Go.heap_alloc_old _ _ (by (rcases hk with hk | hk); (have := hT'.out k hk; omega); (exact hk.2))) _ _ _ _ _ _ _ hny) hll) s.pA s.pn s.pc o.path (hop.out (w1.alloc O) ((z4'.out.trans (hb.mono z4'.out.size)).alloc (by omega) O)) hpm'.out (by have := hbig'.out; omega) (by have h1 := labN_weigh y o.label; have h2 := hyw'.out; have h3 := hbig'.out; omega)); have we := labN_id y o.label; unfold val6 at hput; rw [we.1, we.2.1, we.2.2.1, we.2.2.2.1] at hput; have hput' := Lib.hid hput; clear hny hb r1 r2 hput we; unfold val6))
    | (go_at_call 85; go_loud (refine (hput'.out _).mono ?_; rintro e w9 ⟨zA, zn, zc, zK, zm, zd, rfl, hz, hbz⟩; have hsa := hbz.size; rw [World.size_alloc] at hsa; have r3 := (hbz.block (w.heap.size + 1 + 1) (by rw [World.size_alloc]; omega)).trans ((Go.heap_alloc_old _ _ (by omega)).trans ((hb'.out.block _ (by have := z5'.out; omega)).trans z3'.out)); have hr := Lib.hid r3; have hz' := Lib.hid hz; have hbz' := Lib.hid hbz; unfold zero6 at r3; clear o0 o1 o2 o3 o4 o5 o6 o7 o8 o9 o10 p0 p1 p2 p3 p4 p5 pf u0 u1 u6 v0 v1 v2 v3 v4 v5; obtain ⟨q0, q1, q2, q3, q4, q5, qf⟩ := six_cells r3; have hne : w.heap.size + 1 + 1 < w9.heap.size := (by omega); have hne2 : w9.heap.size ≠ w.heap.size + 1 + 1 := (by omega); have hne3 : w.heap.size + 1 + 1 ≠ w9.heap.size := (by omega); unfold val6; clear hz hbz r3)))
  obtain ⟨a, ha⟩ : ∃ a, a = (putV t o.path (labN y o.label)).getD Nd.zero := ⟨_, rfl⟩
  rw [← ha] at hz' ⊢
  have hb1w := z4'.out.trans (hb'.out.mono z4'.out.size)
  obtain ⟨W9, hW9, R9, N9, B9⟩ := end_node0 hT'.out (r := w.heap.size + 1 + 1) (b := W3.heap.size) (by omega) (by have := z5'.out; omega) ((hb1w.alloc (by omega) _).trans (hbz'.out.mono (by rw [World.size_alloc]; omega))) hr.out (hz'.out.kept (fun k hk => by
    have hs := hbz'.out.size
    rw [World.size_alloc] at hs
    rcases hk with hk | hk
    · rcases hk with hk | hk
      · exact .inl hk
      · exact .inr ⟨hk.1, by have h2 := hk.2; omega⟩
    · exact .inr ⟨by have h2 := hk.1; rw [World.size_alloc] at h2; have := hb'.out.size; omega, hk.2⟩) (fun _ _ => rfl))
  rw [← hW9]
  unfold val6 at R9
  obtain ⟨d0, d1, d2, d3, d4, d5, df⟩ := six_cells R9
  refine bodyPost_ret (v := .agg (val6 a zA zn zc zK zm zd)) (by simp [results, Try.results53, go_sem, d0, d1, d2, d3, d4, d5, val6]) rfl ?_
  exact ⟨zA, zn, zc, zK, zm, zd, rfl, N9, B9⟩
end Go.Proofs.Ytoeblaecldhcaaa.Top
/- A Move told with the node taken out first: values. -/
namespace Go.Proofs.Ytoeblaecldhcaaa
open Go.RowKit
set_option maxRecDepth 20000
set_option linter.unusedVariables false

theorem at_cons_some {t k y : Nd} {j : Nat} {p : List Int} (h : t.kids[j]? = some k) : atV t ((j : Int) :: p) = atV k p := atV_nat h
/-- what the target has behind the taking out: the gap is there -/
theorem at_after : ∀ (from_ to_ : List Int) (t x0 y : Nd) (at_ : Nat), atV t from_ = some x0 → atV t to_ = some y → from_ ≠ [] → ¬ from_ <+: to_ → at_ ≤ y.kids.length →
    ∃ m2 y', delAt t from_ = some m2 ∧ atV m2 (progTo from_ to_ at_).1 = some y' ∧ (progTo from_ to_ at_).2 ≤ y'.kids.length
  | [], to_, t, x0, y, at_, _, _, h, _, _ => absurd rfl h
  | [ci], [], t, x0, y, at_, h1, h2, _, _, h5 => by
    obtain ⟨c, k, rfl, hk, -⟩ := atV_cons h1
    have hc : c < t.kids.length := (List.getElem?_eq_some_iff.1 hk).1
    simp only [atV, Option.some.injEq] at h2
    subst h2
    refine ⟨_, _, rfl, rfl, ?_⟩
    simp only [progTo]
    rw [with_kids]
    have hd := delK_len hc
    have e2 : (c : Int).toNat = c := by omega
    show (if (c : Int) < (at_ : Int) then at_ - 1 else at_) ≤ (delK (c : Int).toNat t.kids).length
    rw [e2]
    split <;> omega
  | fi :: g :: r, [], t, x0, y, at_, h1, h2, _, _, h5 => by
    obtain ⟨f, k, rfl, hk, hx⟩ := atV_cons h1
    simp only [atV, Option.some.injEq] at h2
    subst h2
    obtain ⟨k', hk'⟩ : ∃ k', delAt k (g :: r) = some k' := by
      have : ∀ (p : List Int) (k x0 : Nd) (g : Int), atV k (g :: p) = some x0 → ∃ k', delAt k (g :: p) = some k' := by
        intro p
        induction p with
        | nil => intro k x0 g h; exact ⟨_, rfl⟩
        | cons b p ih =>
          intro k x0 g h
          obtain ⟨j, z, rfl, hz, hw⟩ := atV_cons h
          obtain ⟨k', hk'⟩ := ih z x0 b hw
          rw [delAt_cons hz, hk']
          exact ⟨_, rfl⟩
      exact this r k x0 g hx
    refine ⟨_, _, by rw [delAt_cons hk, hk']; rfl, rfl, ?_⟩
    simp only [progTo]
    rw [with_kids, List.length_set]
    exact h5
  | [ci], ei :: s, t, x0, y, at_, h1, h2, _, h4, h5 => by
    obtain ⟨c, k, rfl, hk, -⟩ := atV_cons h1
    obtain ⟨e, ke, rfl, hke, hy⟩ := atV_cons h2
    have hc : c < t.kids.length := (List.getElem?_eq_some_iff.1 hk).1
    have he : e < t.kids.length := (List.getElem?_eq_some_iff.1 hke).1
    have hne : e ≠ c := fun h => h4 (by subst h; exact ⟨s, rfl⟩)
    have hg : (t.withKids (delK c t.kids)).kids[if c < e then e - 1 else e]? = some ke := by
      rw [with_kids, get_del hc]
      by_cases h : c < e
      · rw [if_pos h, if_neg (by omega), show e - 1 + 1 = e by omega]; exact hke
      · rw [if_neg h, if_pos (by omega)]; exact hke
    have e1 : (if (c : Int) < (e : Int) then (e : Int) - 1 else (e : Int)) = ((if c < e then e - 1 else e : Nat) : Int) := by split <;> split <;> omega
    refine ⟨_, y, rfl, ?_, ?_⟩
    · simp only [progTo]
      rw [e1]
      show atV (t.withKids (delK c t.kids)) _ = _
      rw [atV_nat hg]
      exact hy
    · simp only [progTo]
      exact h5
  | fi :: g :: r, ei :: s, t, x0, y, at_, h1, h2, _, h4, h5 => by
    obtain ⟨f, k, rfl, hk, hx⟩ := atV_cons h1
    obtain ⟨e, ke, rfl, hke, hy⟩ := atV_cons h2
    have hf : f < t.kids.length := (List.getElem?_eq_some_iff.1 hk).1
    have he : e < t.kids.length := (List.getElem?_eq_some_iff.1 hke).1
    by_cases hfe : f = e
    · subst hfe
      rw [hk] at hke
      injection hke with hke
      subst hke
      obtain ⟨m2, y', i1, i2, i3⟩ := at_after (g :: r) s k x0 y at_ hx hy (by simp) (fun h => h4 (by obtain ⟨z, hz⟩ := h; exact ⟨z, by rw [List.cons_append, hz]⟩)) h5
      have g2 : (t.withKids (t.kids.set f m2)).kids[f]? = some m2 := by rw [with_kids, List.getElem?_set_self hf]
      refine ⟨t.withKids (t.kids.set f m2), y', by rw [delAt_cons hk, i1]; rfl, ?_, ?_⟩
      · simp only [progTo, if_true]
        rw [atV_nat g2]
        exact i2
      · simp only [progTo, if_true]
        exact i3
    · obtain ⟨k', hk'⟩ : ∃ k', delAt k (g :: r) = some k' := by
        have : ∀ (p : List Int) (k x0 : Nd) (g : Int), atV k (g :: p) = some x0 → ∃ k', delAt k (g :: p) = some k' := by
          intro p
          induction p with
          | nil => intro k x0 g h; exact ⟨_, rfl⟩
          | cons b p ih =>
            intro k x0 g h
            obtain ⟨j, z, rfl, hz, hw⟩ := atV_cons h
            obtain ⟨k', hk'⟩ := ih z x0 b hw
            rw [delAt_cons hz, hk']
            exact ⟨_, rfl⟩
        exact this r k x0 g hx
      have g2 : (t.withKids (t.kids.set f k')).kids[e]? = some ke := by rw [with_kids, List.getElem?_set_ne hfe]; exact hke
      refine ⟨t.withKids (t.kids.set f k'), y, by rw [delAt_cons hk, hk']; rfl, ?_, ?_⟩
      · simp only [progTo]
        rw [if_neg (by omega), atV_nat g2]
        exact hy
      · simp only [progTo]
        rw [if_neg (by omega)]
        exact h5
theorem progTo_same : ∀ (q : List Int) (c : Int) (g : Nat), progTo (q ++ [c]) q g = (q, if c < (g : Int) then g - 1 else g)
  | [], c, g => rfl
  | [a], c, g => by simp [progTo]
  | a :: b :: r, c, g => by
    have ih := progTo_same (b :: r) c g
    rw [show (a :: b :: r) ++ [c] = a :: b :: (r ++ [c]) from rfl]
    simp only [progTo, if_true]
    rw [show b :: (r ++ [c]) = (b :: r) ++ [c] from rfl, ih]
theorem progTo_in : ∀ (q : List Int) (c e : Int) (s : List Int) (g : Nat), progTo (q ++ [c]) (q ++ e :: s) g = (q ++ (if c < e then e - 1 else e) :: s, g)
  | [], c, e, s, g => rfl
  | [a], c, e, s, g => by simp [progTo]
  | a :: b :: r, c, e, s, g => by
    have ih := progTo_in (b :: r) c e s g
    rw [show (a :: b :: r) ++ [c] = a :: b :: (r ++ [c]) from rfl, show (a :: b :: r) ++ e :: s = a :: b :: (r ++ e :: s) from rfl]
    simp only [progTo, if_true]
    rw [show b :: (r ++ [c]) = (b :: r) ++ [c] from rfl, show b :: (r ++ e :: s) = (b :: r) ++ e :: s from rfl, ih]
    rfl
theorem progTo_out : ∀ (q : List Int) (c : Int) (to_ : List Int) (g : Nat), ¬ q <+: to_ → progTo (q ++ [c]) to_ g = (to_, g)
  | [], c, to_, g, h => absurd (List.nil_prefix) h
  | [a], c, [], g, h => rfl
  | a :: b :: r, c, [], g, h => rfl
  | [a], c, e :: s, g, h => by
    have hne : a ≠ e := fun he => h (by subst he; exact ⟨s, rfl⟩)
    show progTo [a, c] (e :: s) g = _
    simp only [progTo]
    rw [if_neg hne]
  | a :: b :: r, c, e :: s, g, h => by
    rw [show (a :: b :: r) ++ [c] = a :: b :: (r ++ [c]) from rfl]
    simp only [progTo]
    by_cases he : a = e
    · subst he
      have hn : ¬ (b :: r) <+: s := fun h2 => h (by obtain ⟨z, hz⟩ := h2; exact ⟨z, by rw [List.cons_append, hz]⟩)
      have ih := progTo_out (b :: r) c s g hn
      rw [if_pos rfl, show b :: (r ++ [c]) = (b :: r) ++ [c] from rfl, ih]
    · rw [if_neg he]
theorem common_pre : ∀ (p q : List Int), P4.commonV p q = p.length ↔ p <+: q
  | [], q => by simp [P4.commonV]
  | a :: p, [] => by simp [P4.commonV]
  | a :: p, b :: q => by
    have ih := common_pre p q
    unfold P4.commonV
    by_cases h : a = b
    · subst h
      simp only [if_true, List.length_cons, List.cons_prefix_cons, true_and]
      constructor
      · intro h; exact ih.1 (by omega)
      · intro h; have := ih.2 h; omega
    · simp [h]
theorem within_pre (p q : List Int) : P4.withinV p q = decide (p <+: q) := by
  unfold P4.withinV
  exact decide_eq_decide.2 (common_pre p q)
theorem docFrom_in : ∀ (q : List Int) (f : Int) (s : List Int) (g : Nat), docFrom (q ++ f :: s) q g = q ++ (if (g : Int) ≤ f then f + 1 else f) :: s
  | [], f, s, g => rfl
  | a :: q, f, s, g => by
    rw [show (a :: q) ++ f :: s = a :: (q ++ f :: s) from rfl]
    simp only [docFrom, if_true]
    rw [docFrom_in q f s g]
    rfl
theorem docFrom_eq : ∀ (q : List Int) (g : Nat), docFrom q q g = q
  | [], g => rfl
  | a :: q, g => by
    simp only [docFrom, if_true]
    rw [docFrom_eq q g]
theorem docFrom_out : ∀ (p to_ : List Int) (g : Nat), ¬ to_ <+: p → docFrom p to_ g = p
  | [], to_, g, h => rfl
  | f :: r, [], g, h => absurd (List.nil_prefix) h
  | f :: r, e :: s, g, h => by
    simp only [docFrom]
    by_cases he : f = e
    · subst he
      rw [if_pos rfl, docFrom_out r s g (fun h2 => h (by obtain ⟨z, hz⟩ := h2; exact ⟨z, by rw [List.cons_append, hz]⟩))]
    · rw [if_neg he]
end Go.Proofs.Ytoeblaecldhcaaa
/- What a Move asks of paths: a parent that is there, a shift by one less. -/
namespace Go.Proofs.Ytoeblaecldhcaaa.Top
open Go.RowKit
set_option maxRecDepth 20000
set_option linter.unusedVariables false

theorem parent_c (w : World) (pA : Option Addr) (pn pc : Nat) (q : List Int) (c : Int) (hp : Its w pA pn (q ++ [c])) (hpnil : pA = none → pc = 0) (hpn : pn ≤ 500000) (hpnc : pn ≤ pc) (hpcm : pc ≤ maxLen) :
    Calls Try.prog 96 #[.slice pA pn pc] w fun e w' => ∃ qA qn qc, e = .returned (.tuple #[.slice qA qn qc, .int .i64 c, .bool true]) ∧ Its w' qA qn q ∧ qn ≤ qc ∧ qc ≤ maxLen ∧ (qA = none → qc = 0) ∧ Below w.heap.size w w' := by
  refine (P4.parent_any w pA pn pc (q ++ [c]) hp hpnil hpn hpnc hpcm).mono ?_
  rintro e w' hpr
  rcases hpr with ⟨h0, -⟩ | ⟨v, ys, z, hyz, rfl, hown, hb0⟩
  · exact absurd h0 (by simp)
  · have h1 := congrArg List.reverse hyz
    simp only [List.reverse_append, List.reverse_cons, List.reverse_nil, List.nil_append, List.singleton_append, List.cons.injEq] at h1
    obtain ⟨rfl, h2⟩ := h1
    have h3 : q = ys := List.reverse_inj.1 h2
    subst h3
    obtain ⟨A, n, k, rfl, hn, hnk, hkm, hits, hnil⟩ := hown.shape
    exact ⟨A, n, k, rfl, hits, hnk, hkm, hnil, hb0⟩
/-- the shift by one less at a place -/
def m1 : Nat := 13830554455654793216
def shOk : Bool := (List.range 64).all fun k => P4.fineS m1 (P4.fOf (k : Int)) && decide (P4.partsV m1 (P4.fOf (k : Int)) = some ((k : Int), -1))
theorem shOk_yes : shOk = true := by kernel_rfl
theorem sh_at {k : Nat} (hk : k ≤ 63) : P4.fineS m1 (P4.fOf (k : Int)) = true ∧ P4.partsV m1 (P4.fOf (k : Int)) = some ((k : Int), -1) := by
  have h := List.all_eq_true.1 shOk_yes k (List.mem_range.2 (by omega))
  rw [Bool.and_eq_true] at h
  exact ⟨h.1, of_decide_eq_true h.2⟩
theorem shift_less (w : World) (A : Option Addr) (n c : Nat) (q s : List Int) (e : Int) (hA : Its w A n (q ++ e :: s)) (hnil : A = none → c = 0) (hm : P4.mayV (q ++ e :: s) = true) (he : 0 < e) (k : Nat) (hk : q.length = k) :
    Calls Try.prog 97 #[.slice A n c, .complex .f64 m1 (P4.fOf (k : Int))] w fun r w' => ∃ A' n' c', r = .returned (.tuple #[.slice A' n' c', .int .i64 0]) ∧ Its w' A' n' (q ++ (e - 1) :: s) ∧ n' ≤ c' ∧ c' ≤ maxLen ∧ Below w.heap.size w w' := by
  subst hk
  have hmm := of_decide_eq_true hm
  have hl : (q ++ e :: s).length = q.length + s.length + 1 := by simp; omega
  obtain ⟨f1, f2⟩ := sh_at (k := q.length) (by omega)
  have hs : P4.shiftV (q ++ e :: s) m1 (P4.fOf (q.length : Int)) = (0, q ++ (e - 1) :: s) := by
    unfold P4.shiftV
    rw [f2]
    have e1 : (q ++ e :: s).getD ((q.length : Int).toNat) 0 = e := by
      rw [List.getD_eq_getElem?_getD, Int.toNat_natCast, List.getElem?_append_right (Nat.le_refl _), Nat.sub_self]
      rfl
    have e2 : P4.stands (e + -1) = true := decide_eq_true ⟨by omega, by have := (hmm.2 e (by simp)).2; omega⟩
    simp only [hm, Bool.true_and]
    rw [if_pos (decide_eq_true (by rw [Int.toNat_natCast]; omega)), e1, if_pos e2, Int.toNat_natCast]
    congr 1
    rw [List.set_append_right _ _ (Nat.le_refl _), Nat.sub_self]
    rfl
  refine (P4.shift_any w A n c _ (its4 hA) hnil (by have := hA.1; omega) m1 _ f1).mono ?_
  rw [hs]
  rintro r w' ⟨v, rfl, hown, hb⟩
  obtain ⟨A', n', c', rfl, hn, hnc, hcm, hits, -⟩ := hown.shape
  exact ⟨A', n', c', rfl, hits, hnc, hcm, hb⟩
end Go.Proofs.Ytoeblaecldhcaaa.Top
/- done: an Edit; what is kept when a node's own cell is written. -/
namespace Go.Proofs.Ytoeblaecldhcaaa.Top
open Go.RowKit
set_option maxRecDepth 20000
set_option linter.unusedVariables false

/-- behind a call that was made with a new box, one cell of which is written then -/
theorem mid_kept {w W3 w1 w2 : World} {O : Obj} {c : Nat} {v : Value} (h3 : Below w.heap.size w W3) (hb : Below W3.heap.size W3 w1) (hb2 : Below (w1.alloc O).heap.size (w1.alloc O) w2) :
    (∀ k, k < w1.heap.size → (w2.setCell ⟨w1.heap.size, c, none⟩ v).heap[k]? = w1.heap[k]?) ∧ w1.heap.size + 1 ≤ (w2.setCell ⟨w1.heap.size, c, none⟩ v).heap.size ∧ Below w.heap.size w (w2.setCell ⟨w1.heap.size, c, none⟩ v) := by
  have hs2 := hb2.size
  rw [World.size_alloc] at hs2
  have hs1 := hb.size
  have hs3 := h3.size
  refine ⟨fun k hk => ?_, by simpa using hs2, ?_⟩
  · rw [heap_setCell_other _ _ k _ (show k ≠ w1.heap.size by omega)]
    exact (hb2.block k (by rw [World.size_alloc]; omega)).trans (Go.heap_alloc_old _ _ hk)
  · exact ((((h3.trans (hb.mono h3.size)).alloc (by omega) O).trans (hb2.mono (by rw [World.size_alloc]; omega)))).setCell (show w.heap.size ≤ w1.heap.size by omega) _
theorem node_up {T : Nat → Prop} {W3 w1 W' w9 : World} {aA kA : Option Addr} {an ac kn kc : Nat} {a : Nd} (h : NodeV (Nw (Nw T W3 w1) W' w9) w9 aA an ac kA kn kc a) (h1 : W3.heap.size ≤ w1.heap.size) (h2 : w1.heap.size ≤ W'.heap.size) (h3 : W'.heap.size ≤ w9.heap.size) :
    NodeV (fun k => T k ∨ (W3.heap.size ≤ k ∧ k < w9.heap.size)) w9 aA an ac kA kn kc a := h.kept (fun k hk => by
    rcases hk with hk | hk
    · rcases hk with hk | hk
      · exact .inl hk
      · exact .inr ⟨hk.1, by have h2 := hk.2; omega⟩
    · exact .inr ⟨by have h2 := hk.1; omega, hk.2⟩) (fun _ _ => rfl)
/-- a node with another text -/
def textN : Nd → Txt → Nd
  | .mk i f l a _ k, x => .mk i f l a x k
theorem textN_id (y : Nd) (l : Txt) : (textN y l).id = y.id ∧ (textN y l).leaf = y.leaf ∧ (textN y l).label = y.label ∧ (textN y l).text = l ∧ (textN y l).attrs = y.attrs ∧ (textN y l).kids = y.kids := by cases y; exact ⟨rfl, rfl, rfl, rfl, rfl, rfl⟩
theorem textN_weigh (y : Nd) (l : Txt) : weighV (textN y l) ≤ weighV y + l.length := by cases y; simp only [textN, weighV]; omega
theorem textN_node {T : Nat → Prop} {w : World} {aA kA : Option Addr} {an ac kn kc : Nat} {y : Nd} {l : Txt} (h : NodeV T w aA an ac kA kn kc y) (hl : l.length ≤ maxLen) : NodeV T w aA an ac kA kn kc (textN y l) := by
  have hf := h.facts
  obtain ⟨e1, e2, e3, e4, e5, e6⟩ := textN_id y l
  exact NFacts.node ⟨by rw [e1]; exact hf.id, by rw [e3]; exact hf.label, by rw [e4]; exact hl, by rw [e5]; exact hf.ats, hf.anc, hf.acm, hf.anil, by rw [e6]; exact hf.kl, hf.knc, hf.kcm, hf.knil, by rw [e6]; exact hf.row⟩
set_option maxHeartbeats 4000000 in
theorem done_edit (T : Nat → Prop) (w : World) (hT : ∀ k, T k → k < w.heap.size) (t y : Nd) (aA kA : Option Addr) (an ac kn kc : Nat) (h : NodeV T w aA an ac kA kn kc t) (o : Ov) (s : OS) (ho : OpIn w o s) (hk : o.kind = 6) (hbig : weighV t ≤ 90000)
    (hy : atV t o.path = some y) (hr : P5.rightV o.pieces = true) (hf : Ltx.extent (pcs o.pieces) ≤ y.text.length) (htx : (Ltx.apply y.text (pcs o.pieces)).length ≤ 900000) :
    Calls Try.prog 53 #[.agg (val6 t aA an ac kA kn kc), .agg (opCells o s)] w (NodeA T w ((putV t o.path (textN y (Ltx.apply y.text (pcs o.pieces)))).getD Nd.zero)) := by
  obtain ⟨tx, htxe⟩ : ∃ tx, tx = Ltx.apply y.text (pcs o.pieces) := ⟨_, rfl⟩
  obtain ⟨z1, z2, z3, z4, z5⟩ := three_new w (.cells (val6 t aA an ac kA kn kc) 33) (.cells (opCells o s) 26) (.cells zero6 33)
  obtain ⟨W3, hW3⟩ : ∃ W3, W3 = ((w.alloc (.cells (val6 t aA an ac kA kn kc) 33)).alloc (.cells (opCells o s) 26)).alloc (.cells zero6 33) := ⟨_, rfl⟩
  rw [← hW3] at z1 z2 z3 z4 z5
  have hT3 : ∀ k, T k → k < W3.heap.size := fun k hk => by have := hT k hk; omega
  have hpm := Nat.le_trans ho.pnc ho.pcm
  have hatc := Lib.hid (at_T T W3 hT3 t aA kA an ac kn kc (h.kept (fun _ h => h) fun k hk => z4.block k (hT k hk)) s.pA s.pn s.pc o.path (ho.path.below z4) hpm (by omega))
  have hkI : (o.kind : Int) = 6 := by omega
  have hh := Lib.hid (fun (W : World) (hb : Below w.heap.size w W) => h.kept (w' := W) (T' := T) (fun _ h => h) fun k hk => hb.block k (hT k hk))
  have hop := Lib.hid (fun (W : World) (hb : Below w.heap.size w W) => ho.path.below hb)
  have hpr := pcs_right hr
  have hyt : y.text.length ≤ 10000000 := at_text hy (by omega)
  have hap := Lib.hid (fun (W : World) (hb : Below w.heap.size w W) => P5.apply_ok W y.text s.qA s.qn s.qc (pcs o.pieces) (by rw [hpr]; exact ho.pieces.below hb) (Nat.le_trans ho.qnc ho.qcm) hyt (by rw [hpr]; exact hr) hf)
  rw [← htxe] at hap htx ⊢
  have hyw := (at_count o.path t y hy).2
  obtain ⟨o0, o1, o2, o3, o4, o5, o6, o7, o8, o9, o10⟩ := op_cells z2
  have z1u := z1
  unfold val6 at z1u
  obtain ⟨p0, p1, p2, p3, p4, p5, pf⟩ := six_cells z1u
  have z1' := Lib.hid z1
  have z2' := Lib.hid z2
  have z3' := Lib.hid z3
  have z4' := Lib.hid z4
  have z5' := Lib.hid z5
  have hT' := Lib.hid hT
  have hy' := Lib.hid hy
  have hbig' := Lib.hid hbig
  have hyw' := Lib.hid hyw
  have hpm' := Lib.hid hpm
  have htx' := Lib.hid htx
  rw [hW3] at o0 o1 o2 o3 o4 o5 o6 o7 o8 o9 o10 p0 p1 p2 p3 p4 p5 pf hatc
  clear h ho hT hT3 z1 z1u z2 z3 z4 z5 hk hy hbig hyw hpm hpr hr hf hyt htx htxe
  unfold zero6 val6 opCells at hW3 hatc o0 o1 o2 o3 o4 o5 o6 o7 o8 o9 o10 p0 p1 p2 p3 p4 p5 pf
  unfold val6 opCells
  rw [hkI] at hW3 hatc o0 o1 o2 o3 o4 o5 o6 o7 o8 o9 o10 p0 p1 p2 p3 p4 p5
  rw [hkI]
  have hkI' := Lib.hid hkI
  clear hkI
  go_enter Try.func53, Try.ntmps53
  go_wp2_with (first
    | (go_at_call 33; go_loud (refine hatc.out.mono ?_; rw [← hW3]; rintro e w1 ⟨yA, yn, yc, yK, ym, yd, rfl, hny, hb⟩; rw [hy'.out] at hny ⊢; have hny' := Lib.hid hny; have hb' := Lib.hid hb; have r1 := (hb.block _ (by have := z5'.out; omega)).trans z1'.out; have r2 := (hb.block _ (by have := z5'.out; omega)).trans z2'.out; have r1' := Lib.hid r1; have r2' := Lib.hid r2; clear o0 o1 o2 o3 o4 o5 o6 o7 o8 o9 o10 p0 p1 p2 p3 p4 p5 pf; obtain ⟨o0, o1, o2, o3, o4, o5, o6, o7, o8, o9, o10⟩ := op_cells r2; rw [hkI'.out] at o0; have hs1 : w.heap.size + 1 + 1 < w1.heap.size := (by have := hb.size; have := z5'.out; omega); have hq0 : w1.heap.size ≠ w.heap.size := (by omega); have hq1 : w1.heap.size ≠ w.heap.size + 1 := (by omega); have hq2 : w.heap.size ≠ w1.heap.size := (by omega); have hq3 : w.heap.size + 1 ≠ w1.heap.size := (by omega); have hq4 : w.heap.size + 1 < w1.heap.size := (by omega); have hq5 : w.heap.size < w1.heap.size := (by omega); have u0 := fun O => (World.cell?_alloc_lt w1 O ⟨w.heap.size + 1, 0, none⟩ hq4).trans o0; have u10 := fun O => (World.cell?_alloc_lt w1 O ⟨w.heap.size + 1, 10, none⟩ hq4).trans o10; have hput := (fun (W : World) (hB : Below w.heap.size w W) (hs : w1.heap.size ≤ W.heap.size) (hK : ∀ k, k < w1.heap.size → W.heap[k]? = w1.heap[k]?) => tput_T (Nw T W3 w1) W (fun k hk => by (rcases hk with hk | hk); (have := hT'.out k hk; omega); (have := hk.2; omega)) t (textN y tx) aA kA yA yK an ac kn kc yn yc ym yd (NodeV.kept (fun k hk => .inl hk) (fun _ _ => rfl) _ _ _ _ _ _ _ (hh.out W hB)) (textN_node (NodeV.kept (fun k hk => hk) (fun k hk => hK k (by (rcases hk with hk | hk); (have := hT'.out k hk; omega); (exact hk.2))) _ _ _ _ _ _ _ hny) (Nat.le_trans htx'.out (by decide))) s.pA s.pn s.pc o.path (hop.out W hB) hpm'.out (by have := hbig'.out; omega) (by have h1 := textN_weigh y tx; have h2 := hyw'.out; have h3 := hbig'.out; have h4 := htx'.out; omega)); have we := textN_id y tx; unfold val6 at hput; rw [we.1, we.2.1, we.2.2.1, we.2.2.2.1] at hput; have hput' := Lib.hid hput; clear hny hb r1 r2 hput we; unfold val6))
    | (go_at_call 84; go_loud (refine (hap.out _ ((z4'.out.trans (hb'.out.mono z4'.out.size)).alloc (by omega) _)).mono ?_; rintro e w2 ⟨rfl, hb2⟩; have r9 := (hb2.block w1.heap.size (by rw [World.size_alloc]; omega)).trans (heap_alloc_new w1 _); obtain ⟨g0, g1, g2, g3, g4, g5, gf⟩ := six_cells r9; have hsz2 : w1.heap.size < w2.heap.size := (by have := hb2.size; rw [World.size_alloc] at this; omega); have r1 := (hb2.block w.heap.size (by rw [World.size_alloc]; omega)).trans ((Go.heap_alloc_old w1 _ hq5).trans r1'.out); have r2 := (hb2.block (w.heap.size + 1) (by rw [World.size_alloc]; omega)).trans ((Go.heap_alloc_old w1 _ hq4).trans r2'.out); unfold val6 at r1; obtain ⟨p0, p1, p2, p3, p4, p5, pf⟩ := six_cells r1; clear o0 o1 o2 o3 o4 o5 o6 o7 o8 o9 o10 u0 u10; obtain ⟨o0, o1, o2, o3, o4, o5, o6, o7, o8, o9, o10⟩ := op_cells r2; rw [hkI'.out] at o0; have hmk := (fun v => mid_kept (c := 4) (v := v) z4'.out hb'.out hb2); have hmk' := Lib.hid hmk; clear hb2 r1 r2 r9 hmk))
    | (go_at_call 85; go_loud (refine (hput'.out _ (hmk'.out _).2.2 (by have := (hmk'.out (.string ⟨tx.toArray⟩)).2.1; omega) (hmk'.out _).1).mono ?_; rintro e w9 ⟨zA, zn, zc, zK, zm, zd, rfl, hz, hbz⟩; have hsa := hbz.size; have hm2 := (hmk'.out (.string ⟨tx.toArray⟩)).2.1; have r3 := (hbz.block (w.heap.size + 1 + 1) (by omega)).trans (((hmk'.out _).1 _ hs1).trans ((hb'.out.block _ (by have := z5'.out; omega)).trans z3'.out)); have hr := Lib.hid r3; have hz' := Lib.hid (node_up hz hb'.out.size (by omega) hsa); have hbz' := Lib.hid ((hmk'.out _).2.2.trans (hbz.mono (hmk'.out _).2.2.size)); unfold zero6 at r3; clear o0 o1 o2 o3 o4 o5 o6 o7 o8 o9 o10 p0 p1 p2 p3 p4 p5 pf g0 g1 g2 g3 g4 g5 gf; obtain ⟨q0, q1, q2, q3, q4, q5, qf⟩ := six_cells r3; have hne : w.heap.size + 1 + 1 < w9.heap.size := (by omega); have hne2 : w9.heap.size ≠ w.heap.size + 1 + 1 := (by omega); have hne3 : w.heap.size + 1 + 1 ≠ w9.heap.size := (by omega); unfold val6; clear hz hbz r3 hsa hm2)))
  obtain ⟨a, ha⟩ : ∃ a, a = (putV t o.path (textN y tx)).getD Nd.zero := ⟨_, rfl⟩
  rw [← ha] at hz' ⊢
  obtain ⟨W9, hW9, R9, N9, B9⟩ := end_node0 hT'.out (r := w.heap.size + 1 + 1) (b := W3.heap.size) (by omega) (by have := z5'.out; omega) hbz'.out hr.out hz'.out
  rw [← hW9]
  unfold val6 at R9
  obtain ⟨d0, d1, d2, d3, d4, d5, df⟩ := six_cells R9
  refine bodyPost_ret (v := .agg (val6 a zA zn zc zK zm zd)) (by simp [results, Try.results53, go_sem, d0, d1, d2, d3, d4, d5, val6]) rfl ?_
  exact ⟨zA, zn, zc, zK, zm, zd, rfl, N9, B9⟩
end Go.Proofs.Ytoeblaecldhcaaa.Top
/- The program's moved. -/
namespace Go.Proofs.Ytoeblaecldhcaaa.Top
open Go.RowKit
set_option maxRecDepth 20000
set_option linter.unusedVariables false

theorem at_parent : ∀ (q : List Int) (t x : Nd) (c : Int), atV t (q ++ [c]) = some x → ∃ y j, atV t q = some y ∧ c = (j : Nat) ∧ y.kids[j]? = some x
  | [], t, x, c, h => by
    obtain ⟨j, k, rfl, hk, hx⟩ := atV_cons h
    simp only [atV, Option.some.injEq] at hx
    subst hx
    exact ⟨t, j, rfl, rfl, hk⟩
  | i :: q, t, x, c, h => by
    obtain ⟨j, k, rfl, hk, hx⟩ := atV_cons h
    obtain ⟨y, m, h1, h2, h3⟩ := at_parent q k x c hx
    exact ⟨y, m, by rw [atV_nat hk]; exact h1, h2, h3⟩
/-- the tree without a node, weighed -/
theorem del_all {t x : Nd} {q : List Int} {c : Nat} (h : atV t (q ++ [(c : Int)]) = some x) : ∃ y m, atV t q = some y ∧ c < y.kids.length ∧ putV t q (y.withKids (delK c y.kids)) = some m ∧ delAt t (q ++ [(c : Int)]) = some m ∧ weighV m ≤ weighV t := by
  obtain ⟨y, j, h1, h2, h3⟩ := at_parent q t x _ h
  obtain rfl : c = j := by omega
  obtain ⟨m, p1, -, -, -, p5⟩ := put_all q t (y.withKids (delK c y.kids)) y h1
  have hw := weighV_with y (delK c y.kids)
  have hd := weighs_del c y.kids
  refine ⟨y, m, h1, (List.getElem?_eq_some_iff.1 h3).1, p1, ?_, by omega⟩
  rw [delAt_snoc, mod_at h1]
  exact p1
set_option maxHeartbeats 4000000 in
theorem moved_T (T : Nat → Prop) (w : World) (hT : ∀ k, T k → k < w.heap.size) (t x y m2 y2 : Nd) (aA kA : Option Addr) (an ac kn kc : Nat) (h : NodeV T w aA an ac kA kn kc t) (o : Ov) (s : OS) (ho : OpIn w o s) (q : List Int) (c : Nat) (hq : o.path = q ++ [(c : Int)]) (hbig : weighV t ≤ 40000)
    (hx : atV t o.path = some x) (hy : atV t o.to_ = some y) (g : Nat) (hg : o.at_ = (g : Int)) (hg1 : g ≤ 1048576) (hmay : P4.mayV o.to_ = true) (hm2 : delAt t o.path = some m2) (hy2 : atV m2 (progTo o.path o.to_ g).1 = some y2) (hg2 : (progTo o.path o.to_ g).2 ≤ y2.kids.length) :
    Calls Try.prog 82 #[.agg (val6 t aA an ac kA kn kc), .agg (opCells o s)] w (NodeA T w ((putV m2 (progTo o.path o.to_ g).1 (y2.withKids (insK (progTo o.path o.to_ g).2 x y2.kids))).getD Nd.zero)) := by
  obtain ⟨z1, z2, z3, z4, z5⟩ := three_new w (.cells (val6 t aA an ac kA kn kc) 33) (.cells (opCells o s) 26) (.cells zero6 33)
  obtain ⟨W3, hW3⟩ : ∃ W3, W3 = ((w.alloc (.cells (val6 t aA an ac kA kn kc) 33)).alloc (.cells (opCells o s) 26)).alloc (.cells zero6 33) := ⟨_, rfl⟩
  rw [← hW3] at z1 z2 z3 z4 z5
  have hT3 : ∀ k, T k → k < W3.heap.size := fun k hk => by have := hT k hk; omega
  have hpm := Nat.le_trans ho.pnc ho.pcm
  have hatc := Lib.hid (at_T T W3 hT3 t aA kA an ac kn kc (h.kept (fun _ h => h) fun k hk => z4.block k (hT k hk)) s.pA s.pn s.pc o.path (ho.path.below z4) hpm (by omega))
  have hh := Lib.hid (fun (W : World) (hb : Below w.heap.size w W) => h.kept (w' := W) (T' := T) (fun _ h => h) fun k hk => hb.block k (hT k hk))
  have hop := Lib.hid (fun (W : World) (hb : Below w.heap.size w W) => ho.below hb)
  have hpar := Lib.hid (fun (W : World) (hb : Below w.heap.size w W) => parent_c W s.pA s.pn s.pc q (c : Int) (hq ▸ ho.path.below hb) ho.pnil ho.pfew ho.pnc ho.pcm)
  have hxw := (at_count o.path t x hx).2
  obtain ⟨o0, o1, o2, o3, o4, o5, o6, o7, o8, o9, o10⟩ := op_cells z2
  have z1u := z1
  unfold val6 at z1u
  obtain ⟨p0, p1, p2, p3, p4, p5, pf⟩ := six_cells z1u
  have z1' := Lib.hid z1
  have z2' := Lib.hid z2
  have z3' := Lib.hid z3
  have z4' := Lib.hid z4
  have z5' := Lib.hid z5
  have hT' := Lib.hid hT
  have hx' := Lib.hid hx
  have hbig' := Lib.hid hbig
  have hxw' := Lib.hid hxw
  have hpm' := Lib.hid hpm
  have hg' := Lib.hid hg
  have hq' := Lib.hid hq
  have hm2' := Lib.hid hm2
  have hmay' := Lib.hid hmay
  have hy2' := Lib.hid hy2
  have hg2' := Lib.hid hg2
  rw [hW3] at o0 o1 o2 o3 o4 o5 o6 o7 o8 o9 o10 p0 p1 p2 p3 p4 p5 pf hatc
  clear h ho hT hT3 z1 z1u z2 z3 z4 z5 hx hbig hxw hpm hg hq hm2 hmay hy hy2 hg2
  unfold zero6 val6 opCells at hW3 hatc o0 o1 o2 o3 o4 o5 o6 o7 o8 o9 o10 p0 p1 p2 p3 p4 p5 pf
  unfold val6 opCells
  rw [hg'.out] at hW3 hatc o2 ⊢
  go_enter Try.func82, Try.ntmps82
  go_wp2_with (first
    | (go_at_call 33; go_loud (refine hatc.out.mono ?_; rw [← hW3]; rintro e w1 ⟨yA, yn, yc, yK, ym, yd, rfl, hny, hb⟩; rw [hx'.out] at hny ⊢; have hny' := Lib.hid hny; have hb' := Lib.hid hb; have r1 := (hb.block _ (by have := z5'.out; omega)).trans z1'.out; have r2 := (hb.block _ (by have := z5'.out; omega)).trans z2'.out; have r1' := Lib.hid r1; have r2' := Lib.hid r2; clear o0 o1 o2 o3 o4 o5 o6 o7 o8 o9 o10 p0 p1 p2 p3 p4 p5 pf; obtain ⟨o0, o1, o2, o3, o4, o5, o6, o7, o8, o9, o10⟩ := op_cells r2; have hs1 : w.heap.size + 1 + 1 < w1.heap.size := (by have := hb.size; have := z5'.out; omega); have hq0 : w1.heap.size ≠ w.heap.size := (by omega); have hq1 : w1.heap.size ≠ w.heap.size + 1 := (by omega); have hq2 : w.heap.size ≠ w1.heap.size := (by omega); have hq3 : w.heap.size + 1 ≠ w1.heap.size := (by omega); have hq4 : w.heap.size + 1 < w1.heap.size := (by omega); have hq5 : w.heap.size < w1.heap.size := (by omega); have u1 := fun O => (World.cell?_alloc_lt w1 O ⟨w.heap.size + 1, 1, none⟩ hq4).trans o1; clear hny hb r1 r2; unfold val6))
    | (go_at_call 96; go_loud (refine (hpar.out _ ((z4'.out.trans (hb'.out.mono z4'.out.size)).alloc (by omega) _)).mono ?_; rintro e w2 ⟨qA, qn, qc, rfl, hits, hqc, hqm, hqnil, hb2⟩; have r9 := (hb2.block w1.heap.size (by rw [World.size_alloc]; omega)).trans (heap_alloc_new w1 _); have r9' := Lib.hid r9; have hsz2 : w1.heap.size < w2.heap.size := (by have := hb2.size; rw [World.size_alloc] at this; omega); have r1 := (hb2.block w.heap.size (by rw [World.size_alloc]; omega)).trans ((Go.heap_alloc_old w1 _ hq5).trans r1'.out); have r2 := (hb2.block (w.heap.size + 1) (by rw [World.size_alloc]; omega)).trans ((Go.heap_alloc_old w1 _ hq4).trans r2'.out); have k2 := Lib.hid (fun k (hk : k < w1.heap.size) => (hb2.block k (by rw [World.size_alloc]; omega)).trans (Go.heap_alloc_old w1 _ hk)); have bw2 := Lib.hid (((z4'.out.trans (hb'.out.mono z4'.out.size)).alloc (by omega) _).trans (hb2.mono (by rw [World.size_alloc]; omega))); have q1' := Lib.hid r1; have q2' := Lib.hid r2; have hits' := Lib.hid hits; clear o0 o1 o2 o3 o4 o5 o6 o7 o8 o9 o10 u1; obtain ⟨o0, o1, o2, o3, o4, o5, o6, o7, o8, o9, o10⟩ := op_cells r2; rw [hg'.out] at o2; clear hb2 r1 r2 r9 hits)))
  rename_i K0 hK0
  go_quiet (fail)
  refine hK0 _ _ ?_
  clear hK0
  obtain ⟨W4, hW4⟩ : ∃ W4, W4 = w2.drewN nq := ⟨_, rfl⟩
  have bw4 := Lib.hid (show Below w.heap.size w W4 by rw [hW4]; exact draws bw2.out _)
  have k4 := Lib.hid (fun k (hk : k < w1.heap.size) => show W4.heap[k]? = w1.heap[k]? by rw [hW4]; exact k2.out k hk)
  have q1 := Lib.hid (show W4.heap[w.heap.size]? = some (.cells (val6 t aA an ac kA kn kc) 33 (0, 0)) by rw [hW4]; exact q1'.out)
  have q2 := Lib.hid (show W4.heap[w.heap.size + 1]? = some (.cells (opCells o s) 26 (0, 0)) by rw [hW4]; exact q2'.out)
  have q9 := Lib.hid (show W4.heap[w1.heap.size]? = some (.cells (val6 x yA yn yc yK ym yd) 33 (0, 0)) by rw [hW4]; exact r9'.out)
  have hit4 := Lib.hid (show Its W4 qA qn q by rw [hW4]; exact hits'.out.below (draws (Below.refl _ _) _))
  have hsz4 : w1.heap.size < W4.heap.size := by rw [hW4]; exact hsz2
  rw [← hW4]
  have hop' := Lib.hid hop.out
  clear hW4 o0 o1 o2 o3 o4 o5 o6 o7 o8 o9 o10 hpar hatc hop
  go_upto_block 0 with fail
  go_cut [10, 11] from 31 (fun v10 v11 wc => ∃ (A : Option Addr) (n c : Nat), v10 = .slice A n c ∧ v11 = .int .i64 ((progTo o.path o.to_ g).2 : Int) ∧ Its wc A n (progTo o.path o.to_ g).1 ∧ n ≤ maxLen ∧ Below W4.heap.size W4 wc)
  case first =>
    have hto := Lib.hid (hop'.out W4 bw4.out).to_
    have htoL := Lib.hid hto.out.1
    have htm : s.tn ≤ maxLen := Nat.le_trans (hop'.out W4 bw4.out).tnc (hop'.out W4 bw4.out).tcm
    have htnil := Lib.hid (hop'.out W4 bw4.out).tnil
    have hqL := Lib.hid hit4.out.1
    have hqn2 : qn ≤ maxLen := Nat.le_trans hqc hqm
    clear z1' z2' z3' z4' z5' hx' hy2' hg2' hm2' hny' hb' k4 q1 q2 q9 hxw' hbig' hh r9' q1' q2' bw2 k2 hits'
    have hsame := Lib.hid (P4.same_any W4 qA s.tA qn qc s.tn s.tc q o.to_ (its4 hit4.out) (its4 hto.out) hqn2)
    by_cases he : q = o.to_
    · have hs1 := Lib.hid (show P4.eqV q o.to_ = true from decide_eq_true he)
      rw [hs1.out] at hsame
      have hpt := Lib.hid (show progTo o.path o.to_ g = (o.to_, if (c : Int) < (g : Int) then g - 1 else g) by rw [hq'.out, ← he, progTo_same])
      clear he
      by_cases hcg : (c : Int) < (g : Int)
      · have hw1 : IntKind.i64.wrap ((g : Int) - 1) = (g : Int) - 1 := IntWalk.i64_in _ (by omega)
        have hg3 := Lib.hid (show ((g - 1 : Nat) : Int) = (g : Int) - 1 by omega)
        go_wp2_with (go_at_call 62; go_loud (refine hsame.out.mono ?_; rintro e w5 ⟨rfl, k5, rfl⟩))
        go_meet
        rw [hpt.out, if_pos hcg]
        exact ⟨_, _, _, rfl, by rw [hg3.out], hto.out.below (draws (Below.refl _ _) _), htm, draws (Below.refl _ _) _⟩
      · go_wp2_with (go_at_call 62; go_loud (refine hsame.out.mono ?_; rintro e w5 ⟨rfl, k5, rfl⟩))
        go_meet
        rw [hpt.out, if_neg (show ¬ (c : Int) < (g : Int) by omega)]
        exact ⟨_, _, _, rfl, rfl, hto.out.below (draws (Below.refl _ _) _), htm, draws (Below.refl _ _) _⟩
    · have hs1 := Lib.hid (show P4.eqV q o.to_ = false from decide_eq_false he)
      rw [hs1.out] at hsame
      have hwith := Lib.hid (fun (W : World) (hb : Below W4.heap.size W4 W) => P4.within_any W qA s.tA qn qc s.tn s.tc q o.to_ (its4 (hit4.out.below hb)) (its4 (hto.out.below hb)) hqn2 htm)
      by_cases hpre : q <+: o.to_
      · have hw2 := Lib.hid (show P4.withinV q o.to_ = true by rw [within_pre]; exact decide_eq_true hpre)
        rw [hw2.out] at hwith
        obtain ⟨r, hr⟩ := hpre
        cases r with
        | nil => exact absurd (by simpa using hr) he
        | cons e r =>
          have hpt := Lib.hid (show progTo o.path o.to_ g = (q ++ (if (c : Int) < e then e - 1 else e) :: r, g) by rw [hq'.out, ← hr, progTo_in])
          have hr' := Lib.hid hr
          clear he hr
          have hlen := congrArg List.length hr'.out
          rw [List.length_append, List.length_cons, htoL.out, hqL.out] at hlen
          have hqt : qn < s.tn := by omega
          obtain ⟨ad, e2, hta, he2, hce⟩ := hto.out.at_ hqt
          have hee : e2 = e := by
            rw [← hr'.out, List.getElem?_append_right (by have := hqL.out; omega), hqL.out, Nat.sub_self] at he2
            exact (Option.some.inj he2).symm
          subst hee
          have hqtI : (qn : Int) < (s.tn : Int) := by omega
          have hce' := Lib.hid hce
          clear he2 hlen hqt hce
          by_cases hcg : (c : Int) < e2
          · have hshl := Lib.hid (fun (W : World) (hb : Below W4.heap.size W4 W) => shift_less W s.tA s.tn s.tc q r e2 (by rw [hr'.out]; exact hto.out.below hb) htnil.out (by rw [hr'.out]; exact hmay'.out) (by omega) qn hqL.out)
            rw [hta] at hsame hwith hshl
            go_wp2_with (first
              | (go_at_call 62; go_loud (refine hsame.out.mono ?_; rintro e w5 ⟨rfl, k5, rfl⟩))
              | (go_at_call 74; go_loud (refine (hwith.out _ (draws (Below.refl _ _) _)).mono ?_; rintro e w6 ⟨rfl, k6, hw6⟩; have hce6 : w6.cell? (ad.add qn) = some (.int .i64 e2) := (by rw [hw6]; exact hce'.out); have hbl6 : Below W4.heap.size W4 w6 := (by rw [hw6]; exact draws (draws (Below.refl _ _) _) _); clear hw6))
              | (go_at_call 97; go_loud (refine (hshl.out _ hbl6).mono ?_; rintro e w7 ⟨A7, n7, c7, rfl, hi7, hnc7, hcm7, hb7⟩)))
            rw [← hta]
            go_meet
            rw [hpt.out, if_pos hcg]
            exact ⟨_, _, _, rfl, rfl, hi7, Nat.le_trans hnc7 hcm7, hbl6.trans (hb7.mono hbl6.size)⟩
          · rw [hta] at hsame hwith
            go_wp2_with (first
              | (go_at_call 62; go_loud (refine hsame.out.mono ?_; rintro e w5 ⟨rfl, k5, rfl⟩))
              | (go_at_call 74; go_loud (refine (hwith.out _ (draws (Below.refl _ _) _)).mono ?_; rintro e w6 ⟨rfl, k6, hw6⟩; have hce6 : w6.cell? (ad.add qn) = some (.int .i64 e2) := (by rw [hw6]; exact hce'.out); have hbl6 : Below W4.heap.size W4 w6 := (by rw [hw6]; exact draws (draws (Below.refl _ _) _) _); clear hw6)))
            rw [← hta]
            go_meet
            rw [hpt.out, if_neg (show ¬ (c : Int) < e2 by omega), hr'.out]
            exact ⟨_, _, _, rfl, rfl, hto.out.below hbl6, htm, hbl6⟩
      · have hw2 := Lib.hid (show P4.withinV q o.to_ = false by rw [within_pre]; exact decide_eq_false hpre)
        rw [hw2.out] at hwith
        have hpt := Lib.hid (show progTo o.path o.to_ g = (o.to_, g) by rw [hq'.out, progTo_out _ _ _ _ hpre])
        clear he hpre
        go_wp2_with (first
          | (go_at_call 62; go_loud (refine hsame.out.mono ?_; rintro e w5 ⟨rfl, k5, rfl⟩))
          | (go_at_call 74; go_loud (refine (hwith.out _ (draws (Below.refl _ _) _)).mono ?_; rintro e w6 ⟨rfl, k6, hw6⟩; have hbl6 : Below W4.heap.size W4 w6 := (by rw [hw6]; exact draws (draws (Below.refl _ _) _) _); clear hw6)))
        go_meet
        rw [hpt.out]
        exact ⟨_, _, _, rfl, rfl, hto.out.below hbl6, htm, hbl6⟩
  case rest =>
    obtain ⟨A, n, k, rfl, rfl, hit, hnm, hbc⟩ := hcut
    rename_i K1 hK1
    refine hK1 _ _ ?_
    clear hK1 K1
    have hlw1 : w1.heap.size < wc.heap.size := by have := hbc.size; omega
    have bwc := Lib.hid (bw4.out.trans (hbc.mono bw4.out.size))
    have b3c := Lib.hid (show W3.heap.size ≤ wc.heap.size by have := hb'.out.size; have := hbc.size; omega)
    have b1c := Lib.hid (show ∀ k, k < w1.heap.size → wc.heap[k]? = w1.heap[k]? from fun k hk => (hbc.block k (by omega)).trans (k4.out k hk))
    have g1 := Lib.hid ((hbc.block w.heap.size (by omega)).trans q1.out)
    have g2 := Lib.hid ((hbc.block (w.heap.size + 1) (by omega)).trans q2.out)
    have g9 := Lib.hid ((hbc.block w1.heap.size hsz4).trans q9.out)
    have g3 := Lib.hid (show wc.heap[w.heap.size + 1 + 1]? = some (.cells zero6 33 (0, 0)) from (b1c.out _ (by omega)).trans ((hb'.out.block _ (by have := z5'.out; omega)).trans z3'.out))
    have hnx := Lib.hid (hny'.out.kept (w' := wc) (T' := fun k => T k ∨ (W3.heap.size ≤ k ∧ k < wc.heap.size)) (fun k hk => by
      rcases hk with hk | hk
      · exact .inl hk
      · exact .inr ⟨hk.1, by have h2 := hk.2; omega⟩) (fun k hk => b1c.out k (by
      rcases hk with hk | hk
      · have := hT'.out k hk; omega
      · exact hk.2)))
    have hit' := Lib.hid hit
    obtain ⟨to2, hto2⟩ : ∃ a, a = (progTo o.path o.to_ g).1 := ⟨_, rfl⟩
    obtain ⟨g4, hg4⟩ : ∃ a, a = (progTo o.path o.to_ g).2 := ⟨_, rfl⟩
    rw [← hto2, ← hg4]
    rw [← hto2] at hit' hy2'
    rw [← hg4] at hg2'
    have hpx := hx'.out
    rw [hq'.out] at hpx
    obtain ⟨y0, m, d1, d2, d3, d4, d5⟩ := del_all hpx
    have hmm : m = m2 := by
      have := hm2'.out
      rw [hq'.out, d4] at this
      exact Option.some.inj this
    subst hmm
    have htk := Lib.hid (fun (W : World) (hb : Below w.heap.size w W) => takenOut_T T W (fun k hk => Nat.lt_of_lt_of_le (hT'.out k hk) hb.size) t y0 aA kA an ac kn kc (hh.out W hb) s.pA s.pn s.pc q c (hq'.out ▸ (hop'.out W hb).path) (hop'.out W hb).pnil (hop'.out W hb).pfew (hop'.out W hb).pnc (hop'.out W hb).pcm (by have := hbig'.out; omega) d1 d2)
    rw [d3] at htk
    have hpi := Lib.hid (fun (W : World) (T2 : Nat → Prop) (hT2 : ∀ k, T2 k → k < W.heap.size) (zA zK : Option Addr) (zn zc zm zd : Nat) (hz : NodeV T2 W zA zn zc zK zm zd m) (hx2 : NodeV T2 W yA yn yc yK ym yd x) (hi2 : Its W A n to2) => putIn_T T2 W hT2 m x y2 zA zK yA yK zn zc zm zd yn yc ym yd hz hx2 A n k to2 hi2 hnm (by have := hbig'.out; omega) (by have := hbig'.out; have := hxw'.out; omega) hy2'.out g4 hg2'.out)
    have g2' := g2.out
    have g1' := g1.out
    have g9' := g9.out
    unfold val6 at g1' g9'
    obtain ⟨p0, p1, p2, p3, p4, p5, pf⟩ := six_cells g1'
    obtain ⟨x0, x1, x2, x3, x4, x5, xf⟩ := six_cells g9'
    have s1 := (op_cells g2').2.1
    have hwne : w1.heap.size ≠ w.heap.size + 1 + 1 := by omega
    clear g1' g2' g9' hit hbc pf xf d1 d2 d3 d4 hpx hto2 hg4 hW3 hg2' hy2'
    unfold val6 at htk hpi
    have hst := Lib.hid (fun (W : World) (hb : Below wc.heap.size wc W) => show W.cell? ⟨w.heap.size, 0, none⟩ = some (.int .u64 (t.id : Int)) ∧ W.cell? ⟨w.heap.size, 1, none⟩ = some (.bool t.leaf) ∧ W.cell? ⟨w.heap.size, 2, none⟩ = some (.string ⟨t.label.toArray⟩) ∧ W.cell? ⟨w.heap.size, 3, none⟩ = some (.slice aA an ac) ∧ W.cell? ⟨w.heap.size, 4, none⟩ = some (.string ⟨t.text.toArray⟩) ∧ W.cell? ⟨w.heap.size, 5, none⟩ = some (.slice kA kn kc) ∧ W.cell? ⟨w.heap.size + 1, 1, none⟩ = some (.slice s.pA s.pn s.pc) ∧
      W.cell? ⟨w1.heap.size, 0, none⟩ = some (.int .u64 (x.id : Int)) ∧ W.cell? ⟨w1.heap.size, 1, none⟩ = some (.bool x.leaf) ∧ W.cell? ⟨w1.heap.size, 2, none⟩ = some (.string ⟨x.label.toArray⟩) ∧ W.cell? ⟨w1.heap.size, 3, none⟩ = some (.slice yA yn yc) ∧ W.cell? ⟨w1.heap.size, 4, none⟩ = some (.string ⟨x.text.toArray⟩) ∧ W.cell? ⟨w1.heap.size, 5, none⟩ = some (.slice yK ym yd) from by
      have b0 := (hb.block w.heap.size (by omega)).trans g1.out
      have b9 := (hb.block w1.heap.size hlw1).trans g9.out
      have b1 := (op_cells ((hb.block (w.heap.size + 1) (by omega)).trans g2.out)).2.1
      unfold val6 at b0 b9
      obtain ⟨p0, p1, p2, p3, p4, p5, pf⟩ := six_cells b0
      obtain ⟨x0, x1, x2, x3, x4, x5, xf⟩ := six_cells b9
      exact ⟨p0, p1, p2, p3, p4, p5, b1, x0, x1, x2, x3, x4, x5⟩)
    go_upto_region 11 with fail
    rename_i K0 hK0
    refine wp_region_L (fun W => Below wc.heap.size wc W) 8 rfl (Below.refl wc.heap.size wc).drew (fun hHeld => ?_)
    refine wpAnyL_take (i := 0) (oi := { dst := some 60, op := Go.Op.load 33 (Go.Operand.tmp 2), type := 33, pos := "done.go:52", after := #[], guard := none }) (v := ?_) rfl (by kernel_rfl) (by kernel_rfl) (by kernel_rfl) (by kernel_rfl) (fun _ _ _ h => h) (Or.inl ⟨by rfl, ?_⟩) hHeld ?_
    rotate_left 1
    · intro W hSw; obtain ⟨e0, e1, e2, e3, e4, e5, e6, e7, e8, e9, e10, e11, e12⟩ := hst.out W hSw; go_simp; try with_reducible rfl
    try simp only [Act.put, List.setIfInBounds_toArray, List.set_cons_zero, List.set_cons_succ]
    refine wpAnyL_take (i := 1) (oi := { dst := some 61, op := Go.Op.fieldAddr 26 (Go.Operand.tmp 3) 1, type := 0, pos := "done.go:52", after := #[], guard := none }) (v := ?_) rfl (by kernel_rfl) (by kernel_rfl) (by kernel_rfl) (by kernel_rfl) (fun _ _ _ h => h) (Or.inl ⟨by rfl, ?_⟩) hHeld ?_
    rotate_left 1
    · intro W hSw; obtain ⟨e0, e1, e2, e3, e4, e5, e6, e7, e8, e9, e10, e11, e12⟩ := hst.out W hSw; go_simp; try with_reducible rfl
    try simp only [Act.put, List.setIfInBounds_toArray, List.set_cons_zero, List.set_cons_succ]
    refine wpAnyL_take (i := 2) (oi := { dst := some 62, op := Go.Op.load 22 (Go.Operand.tmp 61), type := 22, pos := "done.go:52", after := #[{ on := 1, ground := Go.Ground.data }], guard := none }) (v := ?_) rfl (by kernel_rfl) (by kernel_rfl) (by kernel_rfl) (by kernel_rfl) (fun _ _ _ h => h) (Or.inl ⟨by rfl, ?_⟩) hHeld ?_
    rotate_left 1
    · intro W hSw; obtain ⟨e0, e1, e2, e3, e4, e5, e6, e7, e8, e9, e10, e11, e12⟩ := hst.out W hSw; go_simp; try with_reducible rfl
    try simp only [Act.put, List.setIfInBounds_toArray, List.set_cons_zero, List.set_cons_succ]
    refine wpAnyL_take (i := 4) (oi := { dst := some 64, op := Go.Op.move (Go.Operand.tmp 10), type := 22, pos := "done.go:52", after := #[], guard := none }) (v := ?_) rfl (by kernel_rfl) (by kernel_rfl) (by kernel_rfl) (by kernel_rfl) (fun _ _ _ h => h) (Or.inl ⟨by rfl, ?_⟩) hHeld ?_
    rotate_left 1
    · intro W hSw; obtain ⟨e0, e1, e2, e3, e4, e5, e6, e7, e8, e9, e10, e11, e12⟩ := hst.out W hSw; go_simp; try with_reducible rfl
    try simp only [Act.put, List.setIfInBounds_toArray, List.set_cons_zero, List.set_cons_succ]
    refine wpAnyL_take (i := 5) (oi := { dst := some 65, op := Go.Op.move (Go.Operand.tmp 11), type := 3, pos := "done.go:52", after := #[], guard := none }) (v := ?_) rfl (by kernel_rfl) (by kernel_rfl) (by kernel_rfl) (by kernel_rfl) (fun _ _ _ h => h) (Or.inl ⟨by rfl, ?_⟩) hHeld ?_
    rotate_left 1
    · intro W hSw; obtain ⟨e0, e1, e2, e3, e4, e5, e6, e7, e8, e9, e10, e11, e12⟩ := hst.out W hSw; go_simp; try with_reducible rfl
    try simp only [Act.put, List.setIfInBounds_toArray, List.set_cons_zero, List.set_cons_succ]
    refine wpAnyL_take (i := 6) (oi := { dst := some 66, op := Go.Op.load 33 (Go.Operand.tmp 5), type := 33, pos := "done.go:52", after := #[], guard := none }) (v := ?_) rfl (by kernel_rfl) (by kernel_rfl) (by kernel_rfl) (by kernel_rfl) (fun _ _ _ h => h) (Or.inl ⟨by rfl, ?_⟩) hHeld ?_
    rotate_left 1
    · intro W hSw; obtain ⟨e0, e1, e2, e3, e4, e5, e6, e7, e8, e9, e10, e11, e12⟩ := hst.out W hSw; go_simp; try with_reducible rfl
    try simp only [Act.put, List.setIfInBounds_toArray, List.set_cons_zero, List.set_cons_succ]
    refine wpAnyL_one (i := 3) (o := { dst := some 63, op := Go.Op.call { callee := Go.Callee.value (Go.Operand.func 81), args := #[Go.Operand.tmp 60, Go.Operand.tmp 62], argTypes := #[33, 22] }, type := 33, pos := "done.go:52", after := #[{ on := 0, ground := Go.Ground.data }, { on := 2, ground := Go.Ground.data }], guard := none }) (by kernel_rfl) rfl (by decide) (fun K hK => ?_)
    go_simp
    refine (htk.out _ (bwc.out.drew)).mono ?_
    rintro e w5 ⟨zA, zn, zc, zK, zm, zd, rfl, hz, hb5⟩
    have b5c := Lib.hid (show Below wc.heap.size wc w5 from (Below.refl wc.heap.size wc).drew.trans hb5)
    have hz5 := Lib.hid (hz.kept (w' := w5) (T' := fun k => T k ∨ (W3.heap.size ≤ k ∧ k < w5.heap.size)) (fun k hk => (by (rcases hk with hk | hk); (exact .inl hk); (exact .inr ⟨Nat.le_trans b3c.out hk.1, hk.2⟩))) (fun _ _ => rfl))
    unfold val6
    go_simp
    refine hK.out _ _ ?_ (fun hNew => ?_)
    · exact b5c.out
    clear hK K hHeld hz hb5
    have hHeld := hNew
    clear hNew
    try simp only [Act.put, List.setIfInBounds_toArray, List.set_cons_zero, List.set_cons_succ]
    refine wpAnyL_one (i := 7) (o := { dst := some 67, op := Go.Op.call { callee := Go.Callee.value (Go.Operand.func 80), args := #[Go.Operand.tmp 63, Go.Operand.tmp 64, Go.Operand.tmp 65, Go.Operand.tmp 66], argTypes := #[33, 22, 3, 33] }, type := 33, pos := "done.go:52", after := #[{ on := 3, ground := Go.Ground.data }, { on := 4, ground := Go.Ground.data }, { on := 5, ground := Go.Ground.data }, { on := 6, ground := Go.Ground.data }, { on := 3, ground := Go.Ground.chain }], guard := none }) (by kernel_rfl) rfl (by decide) (fun K hK => ?_)
    go_simp
    have hT5 := Lib.hid (show ∀ k, (T k ∨ (W3.heap.size ≤ k ∧ k < w5.heap.size)) → k < w5.heap.size from fun k hk => (by (rcases hk with hk | hk); (have := hT'.out k hk; have := b5c.out.size; omega); (exact hk.2)))
    have hx5 := Lib.hid (hnx.out.kept (w' := w5) (T' := fun k => T k ∨ (W3.heap.size ≤ k ∧ k < w5.heap.size)) (fun k hk => (by (rcases hk with hk | hk); (exact .inl hk); (exact .inr ⟨hk.1, Nat.lt_of_lt_of_le hk.2 b5c.out.size⟩))) (fun k hk => b5c.out.block k (by (rcases hk with hk | hk); (have := hT'.out k hk; omega); (exact hk.2))))
    have hi5 := Lib.hid (hit'.out.below b5c.out)
    refine (hpi.out w5 (fun k => T k ∨ (W3.heap.size ≤ k ∧ k < w5.heap.size)) hT5.out zA zK zn zc zm zd hz5.out hx5.out hi5.out).mono ?_
    rintro e w6 ⟨eA, en, ec, eK, em, ed, rfl, he6, hb6⟩
    have b6c := Lib.hid (b5c.out.trans (hb6.mono b5c.out.size))
    have he6' := Lib.hid he6
    have hsz56 := hb6.size
    unfold val6
    go_simp
    refine hK.out _ _ ?_ (fun hNew => ?_)
    · exact b6c.out
    clear hK K hHeld he6 hb6 hNew
    try simp only [Act.put, List.setIfInBounds_toArray, List.set_cons_zero, List.set_cons_succ]
    have r3 := Lib.hid ((b6c.out.block (w.heap.size + 1 + 1) (by omega)).trans g3.out)
    have r3u := r3.out
    unfold zero6 at r3u
    obtain ⟨q0, q1, q2, q3, q4, q5, qf⟩ := six_cells r3u
    have hsz26 : w.heap.size + 1 + 1 < w6.heap.size := (Array.getElem?_eq_some_iff.1 r3u).1
    refine wpAnyL_last (o := { dst := none, op := Go.Op.store 33 (Go.Operand.tmp 4) (Go.Operand.tmp 67), type := 0, pos := "done.go:52", after := #[{ on := 7, ground := Go.Ground.data }, { on := 7, ground := Go.Ground.chain }, { on := 0, ground := Go.Ground.phase }, { on := 1, ground := Go.Ground.phase }, { on := 2, ground := Go.Ground.phase }, { on := 3, ground := Go.Ground.phase }, { on := 4, ground := Go.Ground.phase }, { on := 5, ground := Go.Ground.phase }, { on := 6, ground := Go.Ground.phase }, { on := 7, ground := Go.Ground.phase }], guard := none }) (by kernel_rfl) rfl (fun K hK => ?_)
    go_simp
    refine hK _ _ ?_
    clear hK K
    try simp only [Act.put, List.setIfInBounds_toArray, List.set_cons_zero, List.set_cons_succ]
    refine wpAny_done (by kernel_rfl) ?_ _
    refine hK0 _ _ ?_
    clear hK0 K0
    have hz9 := Lib.hid (he6'.out.kept (w' := w6) (T' := fun k => T k ∨ (W3.heap.size ≤ k ∧ k < w6.heap.size)) (fun k hk => (by
      rcases hk with hk | hk
      · rcases hk with hk | hk
        · exact .inl hk
        · exact .inr ⟨hk.1, Nat.lt_of_lt_of_le hk.2 hsz56⟩
      · exact .inr ⟨Nat.le_trans (Nat.le_trans b3c.out b5c.out.size) hk.1, hk.2⟩)) (fun _ _ => rfl))
    clear he6'
    go_wp2_with fail
    obtain ⟨a, ha⟩ : ∃ a, a = (putV m to2 (y2.withKids (insK g4 x y2.kids))).getD Nd.zero := ⟨_, rfl⟩
    rw [← ha] at hz9 ⊢
    obtain ⟨W9, hW9, R9, N9, B9⟩ := end_node0 hT'.out (r := w.heap.size + 1 + 1) (b := W3.heap.size) (by omega) (by have := z5'.out; omega) (bwc.out.trans (b6c.out.mono bwc.out.size)) r3.out hz9.out
    rw [← hW9]
    unfold val6 at R9
    obtain ⟨d0, d1, d2, d3, d4, d5, df⟩ := six_cells R9
    refine bodyPost_ret (v := .agg (val6 a eA en ec eK em ed)) (by simp [results, Try.results82, go_sem, d0, d1, d2, d3, d4, d5, val6]) rfl ?_
    exact ⟨eA, en, ec, eK, em, ed, rfl, N9, B9⟩
end Go.Proofs.Ytoeblaecldhcaaa.Top
/- Attributes behind a SetAttr: values. -/
namespace Go.Proofs.Ytoeblaecldhcaaa
open Go.RowKit
set_option maxRecDepth 20000
set_option linter.unusedVariables false

theorem u8_tri (a b : UInt8) : a < b ∨ a = b ∨ b < a := by
  rcases Nat.lt_trichotomy a.toNat b.toNat with h | h | h
  · exact .inl (UInt8.lt_iff_toNat_lt.2 h)
  · exact .inr (.inl (UInt8.toNat_inj.1 h))
  · exact .inr (.inr (UInt8.lt_iff_toNat_lt.2 h))
theorem less_cons (a b : UInt8) (x y : List UInt8) : Op.bytesLess (a :: x) (b :: y) = true ↔ a < b ∨ (a = b ∧ Op.bytesLess x y = true) := by
  simp [Op.bytesLess]
theorem less_self : ∀ a : Txt, Op.bytesLess a a = false
  | [] => rfl
  | x :: a => by
    cases h : Op.bytesLess (x :: a) (x :: a) with
    | false => rfl
    | true =>
      rcases (less_cons _ _ _ _).1 h with h | h
      · exact absurd (UInt8.lt_iff_toNat_lt.1 h) (by omega)
      · rw [less_self a] at h
        cases h.2
theorem less_trans : ∀ a b c : Txt, Op.bytesLess a b = true → Op.bytesLess b c = true → Op.bytesLess a c = true
  | _, [], c, h1, _ => by simp [Op.bytesLess] at h1
  | a, y :: b, [], _, h2 => by simp [Op.bytesLess] at h2
  | [], y :: b, z :: c, _, _ => by simp [Op.bytesLess]
  | x :: a, y :: b, z :: c, h1, h2 => by
    rw [less_cons] at h1 h2 ⊢
    rcases h1 with h1 | h1
    · rcases h2 with h2 | h2
      · exact .inl (UInt8.lt_iff_toNat_lt.2 (Nat.lt_trans (UInt8.lt_iff_toNat_lt.1 h1) (UInt8.lt_iff_toNat_lt.1 h2)))
      · rw [← h2.1]; exact .inl h1
    · rcases h2 with h2 | h2
      · rw [h1.1]; exact .inl h2
      · exact .inr ⟨h1.1.trans h2.1, less_trans a b c h1.2 h2.2⟩
theorem less_tri : ∀ a b : Txt, Op.bytesLess a b = true ∨ a = b ∨ Op.bytesLess b a = true
  | [], [] => .inr (.inl rfl)
  | [], y :: b => .inl (by simp [Op.bytesLess])
  | x :: a, [] => .inr (.inr (by simp [Op.bytesLess]))
  | x :: a, y :: b => by
    rw [less_cons, less_cons]
    rcases u8_tri x y with h | h | h
    · exact .inl (.inl h)
    · subst h
      rcases less_tri a b with h | h | h
      · exact .inl (.inr ⟨rfl, h⟩)
      · exact .inr (.inl (by rw [h]))
      · exact .inr (.inr (.inr ⟨rfl, h⟩))
    · exact .inr (.inr (.inl h))
theorem lt_iff (a b : Txt) : ltB a b = true ↔ Op.bytesLess a b = true := by
  unfold ltB
  simp only [Bool.not_eq_true', Bool.or_eq_false_iff, beq_eq_false_iff_ne]
  constructor
  · intro h
    rcases less_tri a b with h2 | h2 | h2
    · exact h2
    · exact absurd h2.symm h.2
    · rw [h2] at h; cases h.1
  · intro h
    constructor
    · cases h2 : Op.bytesLess b a with
      | false => rfl
      | true => have := less_trans a b a h h2; rw [less_self] at this; cases this
    · intro e; subst e; rw [less_self] at h; cases h
theorem lt_on {a b c : Txt} (h1 : ltB a b = true) (h2 : ltB b c = true) : ltB a c = true := (lt_iff _ _).2 (less_trans _ _ _ ((lt_iff _ _).1 h1) ((lt_iff _ _).1 h2))
theorem not_less {a k : Txt} (h : Op.bytesLess a k = false) : a = k ∨ ltB k a = true := by
  rcases less_tri a k with h2 | h2 | h2
  · rw [h] at h2; cases h2
  · exact .inl h2
  · exact .inr ((lt_iff _ _).2 h2)
/-- how many keys are less than one -/
def placeP (k : Txt) (l : List (Txt × Txt)) : Nat := l.countP fun a => Op.bytesLess a.1 k
def setB (l : List (Txt × Txt)) (k v : Txt) (gone : Bool) : List (Txt × Txt) := if gone then [] else [(k, v)]
/-- the program's way -/
def progA (k v : Txt) (gone : Bool) (l : List (Txt × Txt)) : List (Txt × Txt) :=
  l.take (placeP k l) ++ ((if gone then [] else [(k, v)]) ++ (if (l[placeP k l]?).map (·.1) = some k then l.drop (placeP k l + 1) else l.drop (placeP k l)))
/-- the document's way -/
def docA (k v : Txt) : List (Txt × Txt) → Bool → List (Txt × Txt)
  | [], d => if d then [] else [(k, v)]
  | a :: r, d => (if !d && !Op.bytesLess a.1 k then [(k, v)] else []) ++ ((if a.1 = k then [] else [a]) ++ docA k v r (d || !Op.bytesLess a.1 k))
theorem ok_cons {last : Txt} {a : Txt × Txt} {r : List (Txt × Txt)} : attrsOk ltB last (a :: r) = true ↔ keyB a.1 = true ∧ ltB last a.1 = true ∧ a.2.length ≤ 256 ∧ attrsOk ltB a.1 r = true := by
  simp [attrsOk, and_assoc]
theorem ok_over : ∀ (r : List (Txt × Txt)) (last : Txt), attrsOk ltB last r = true → ∀ b ∈ r, ltB last b.1 = true
  | [], last, _, b, hb => by cases hb
  | a :: r, last, h, b, hb => by
    obtain ⟨-, h2, -, h4⟩ := ok_cons.1 h
    cases hb with
    | head => exact h2
    | tail _ hb => exact lt_on h2 (ok_over r a.1 h4 b hb)
theorem ok_less : ∀ (r : List (Txt × Txt)) (x y : Txt), attrsOk ltB x r = true → ltB y x = true → attrsOk ltB y r = true
  | [], x, y, _, _ => rfl
  | a :: r, x, y, h, hy => by
    obtain ⟨h1, h2, h3, h4⟩ := ok_cons.1 h
    exact ok_cons.2 ⟨h1, lt_on hy h2, h3, h4⟩
theorem over_place (k : Txt) (r : List (Txt × Txt)) (h : ∀ b ∈ r, ltB k b.1 = true) : placeP k r = 0 := by
  unfold placeP
  rw [List.countP_eq_zero]
  intro b hb
  have h2 := (lt_iff _ _).1 (h b hb)
  cases h3 : Op.bytesLess b.1 k with
  | false => decide
  | true => have := less_trans _ _ _ h2 h3; rw [less_self] at this; cases this
theorem over_doc (k v : Txt) : ∀ (r : List (Txt × Txt)), (∀ b ∈ r, ltB k b.1 = true) → docA k v r true = r
  | [], _ => rfl
  | a :: r, h => by
    have h1 : a.1 ≠ k := fun e => by have := (lt_iff _ _).1 (h a (by simp)); rw [e, less_self] at this; cases this
    show (if !true && _ then _ else _) ++ _ = _
    rw [if_neg (by simp), if_neg h1]
    show [a] ++ docA k v r (true || _) = _
    rw [Bool.true_or, over_doc k v r fun b hb => h b (by simp [hb])]
    rfl
theorem attr_both (k v : Txt) (gone : Bool) : ∀ (l : List (Txt × Txt)) (last : Txt), attrsOk ltB last l = true → progA k v gone l = docA k v l gone
  | [], last, _ => by cases gone <;> rfl
  | a :: r, last, h => by
    obtain ⟨h1, h2, h3, h4⟩ := ok_cons.1 h
    cases hl : Op.bytesLess a.1 k with
    | true =>
      have ih := attr_both k v gone r a.1 h4
      have hp : placeP k (a :: r) = placeP k r + 1 := by unfold placeP; rw [List.countP_cons, if_pos hl]
      have hne : a.1 ≠ k := fun e => by rw [e, less_self] at hl; cases hl
      unfold progA at ih ⊢
      rw [hp, List.take_succ_cons, List.getElem?_cons_succ, List.drop_succ_cons, List.drop_succ_cons, List.cons_append, ih]
      show _ = (if !gone && !Op.bytesLess a.1 k then _ else _) ++ _
      rw [hl, if_neg (by simp), if_neg hne]
      simp
    | false =>
      have hov : ∀ b ∈ r, ltB k b.1 = true := fun b hb => by
        have h5 := ok_over r a.1 h4 b hb
        rcases not_less hl with e | e
        · rw [← e]; exact h5
        · exact lt_on e h5
      have hp : placeP k (a :: r) = 0 := by
        have := over_place k r hov
        unfold placeP at this ⊢
        rw [List.countP_cons, this, if_neg (by rw [hl]; decide)]
      unfold progA
      rw [hp]
      show [] ++ (_ ++ if (some a.1 : Option Txt) = some k then r else a :: r) = (if !gone && !Op.bytesLess a.1 k then _ else _) ++ ((if a.1 = k then [] else [a]) ++ docA k v r (gone || !Op.bytesLess a.1 k))
      rw [hl]
      have hd : (gone || !false) = true := by cases gone <;> rfl
      rw [hd, over_doc k v r hov]
      by_cases e : a.1 = k
      · have e3 : (some a.1 : Option Txt) = some k := by rw [e]
        rw [if_pos e, if_pos e3]
        cases gone <;> rfl
      · have e3 : ¬ (some a.1 : Option Txt) = some k := fun h => e (Option.some.inj h)
        rw [if_neg e, if_neg e3]
        cases gone <;> rfl
theorem doc_ok (k v : Txt) (hk : keyB k = true) (hv : v.length ≤ 256) : ∀ (l : List (Txt × Txt)) (last : Txt) (gone : Bool), attrsOk ltB last l = true → (gone = false → ltB last k = true) → attrsOk ltB last (docA k v l gone) = true
  | [], last, gone, _, hg => by
    cases gone with
    | true => rfl
    | false => exact ok_cons.2 ⟨hk, hg rfl, hv, rfl⟩
  | a :: r, last, gone, h, hg => by
    obtain ⟨h1, h2, h3, h4⟩ := ok_cons.1 h
    show attrsOk ltB last ((if !gone && !Op.bytesLess a.1 k then _ else _) ++ ((if a.1 = k then [] else [a]) ++ docA k v r (gone || !Op.bytesLess a.1 k))) = true
    cases hl : Op.bytesLess a.1 k with
    | true =>
      have hne : a.1 ≠ k := fun e => by rw [e, less_self] at hl; cases hl
      rw [if_neg (by simp), if_neg hne]
      show attrsOk ltB last (a :: docA k v r (gone || false)) = true
      rw [Bool.or_false]
      exact ok_cons.2 ⟨h1, h2, h3, doc_ok k v hk hv r a.1 gone h4 fun _ => (lt_iff _ _).2 hl⟩
    | false =>
      have hov : ∀ b ∈ r, ltB k b.1 = true := fun b hb => by
        have h5 := ok_over r a.1 h4 b hb
        rcases not_less hl with e | e
        · rw [← e]; exact h5
        · exact lt_on e h5
      have hd : (gone || !false) = true := by cases gone <;> rfl
      rw [hd, over_doc k v r hov]
      by_cases e : a.1 = k
      · rw [if_pos e]
        cases gone with
        | true => exact ok_less r a.1 last h4 h2
        | false => exact ok_cons.2 ⟨hk, hg rfl, hv, by rw [← e]; exact h4⟩
      · rw [if_neg e]
        have hlt : ltB k a.1 = true := (not_less hl).resolve_left e
        cases gone with
        | true => exact ok_cons.2 ⟨h1, h2, h3, h4⟩
        | false => exact ok_cons.2 ⟨hk, hg rfl, hv, ok_cons.2 ⟨h1, hlt, h3, h4⟩⟩
theorem doc_weigh (k v : Txt) : ∀ (l : List (Txt × Txt)) (gone : Bool), attrsW (docA k v l gone) ≤ attrsW l + (if gone then 0 else 1 + k.length + v.length)
  | [], gone => by cases gone <;> simp [docA, attrsW]
  | a :: r, gone => by
    have ih := doc_weigh k v r (gone || !Op.bytesLess a.1 k)
    show attrsW (_ ++ (_ ++ _)) ≤ _
    rw [attrsW_append, attrsW_append]
    have e1 : attrsW (if a.1 = k then [] else [a]) ≤ 1 + a.1.length + a.2.length := by split <;> simp [attrsW]
    have e2 : attrsW (a :: r) = 1 + a.1.length + a.2.length + attrsW r := by simp [attrsW]
    cases gone with
    | true =>
      simp only [Bool.not_true, Bool.false_and, Bool.true_or, if_true] at ih ⊢
      simp only [attrsW] at *
      simp only [Bool.false_eq_true, if_false, attrsW]
      omega
    | false =>
      cases hl : Op.bytesLess a.1 k with
      | true =>
        rw [hl] at ih
        simp only [Bool.not_true, Bool.and_false, Bool.or_false, Bool.false_eq_true, if_false, attrsW] at ih ⊢
        omega
      | false =>
        rw [hl] at ih
        simp only [Bool.not_false, Bool.and_true, Bool.false_or, if_true, Bool.false_eq_true, if_false, attrsW] at ih ⊢
        omega
theorem prog_len (k v : Txt) (gone : Bool) (l : List (Txt × Txt)) : (progA k v gone l).length ≤ l.length + 1 := by
  unfold progA
  have hp : placeP k l ≤ l.length := List.countP_le_length
  rw [List.length_append, List.length_append, List.length_take]
  have e1 : (if gone then [] else [(k, v)] : List (Txt × Txt)).length ≤ 1 := by cases gone <;> simp
  have e2 : (if (l[placeP k l]?).map (·.1) = some k then l.drop (placeP k l + 1) else l.drop (placeP k l)).length ≤ l.length - placeP k l := by split <;> simp <;> omega
  omega
end Go.Proofs.Ytoeblaecldhcaaa
/- Attributes behind a SetAttr: the program's placeOf, attrsBehind. -/
namespace Go.Proofs.Ytoeblaecldhcaaa.Top
open Go.RowKit
set_option maxRecDepth 20000
set_option linter.unusedVariables false

/-- is the key at a place as great as one? -/
def geAt (l : List (Txt × Txt)) (key : Txt) (i : Nat) : Bool := !Op.bytesLess (l.getD i ([], [])).1 key
set_option maxHeartbeats 1000000 in
theorem placeFn_any (w : World) (T : Nat → Prop) (A : Option Addr) (n c : Nat) (l : List (Txt × Txt)) (key : Txt) (hl : AtsIn T w A n l) (b2 b3 : Nat) (h2 : w.cell? ⟨b2, 0, none⟩ = some (.slice A n c)) (h3 : w.cell? ⟨b3, 0, none⟩ = some (.string ⟨key.toArray⟩)) (i : Nat) (hi : i < n) :
    Calls Try.prog 109 #[.int .i64 (i : Int), .pointer (some ⟨b2, 0, none⟩), .pointer (some ⟨b3, 0, none⟩)] w fun e w' => e = .returned (.bool (geAt l key i)) ∧ ∃ k, w' = w.drewN k := by
  obtain ⟨ad, x, rfl, hx, -, -, -, c1, c2⟩ := hl.at_ hi
  have hv := Lib.hid (show geAt l key i = !Op.bytesLess x.1 key by unfold geAt; rw [List.getD_eq_getElem?_getD, hx]; rfl)
  obtain ⟨ky, va⟩ := x
  have hiI : (i : Int) < (n : Int) := by omega
  clear hl hx
  dsimp only at c1 c2 hv
  go_enter Try.func109, Try.ntmps109
  go_wp2_with fail
  go_quiet (fail)
  go_wp2_with fail
  go_ret
  exact ⟨by rw [hv.out]; rfl, _, rfl⟩
set_option maxHeartbeats 2000000 in
theorem search_any (w : World) (g : Nat) (cb : Array Value) (n : Nat) (p : Nat → Bool) (eg : ∀ args w, (callFunc g args).run Try.prog w = .ok (.enter g args) w) (hsz : n ≤ 1000000)
    (hf : ∀ (m i : Nat), i < n → Calls Try.prog g (#[.int .i64 (i : Int)] ++ cb) (w.drewN m) fun e w' => e = .returned (.bool (p i)) ∧ ∃ q, w' = (w.drewN m).drewN q)
    (hmono : ∀ a b, a ≤ b → b < n → p a = true → p b = true) :
    Calls Try.prog 108 #[.int .i64 (n : Int), .func (.func g) #[] cb] w fun e w' => ∃ k : Nat, k ≤ n ∧ (∀ t, t < k → p t = false) ∧ (∀ t, k ≤ t → t < n → p t = true) ∧ e = .returned (.int .i64 (k : Int)) ∧ ∃ q, w' = w.drewN q := by
  have HF := Lib.hid hf
  have M := Lib.hid hmono
  clear hf hmono
  go_enter Try.func108, Try.ntmps108
  go_wp2_with fail
  go_loopg [5, 6] n (fun kx s5 s6 wr => ∃ (lo hi q : Nat), s5 = .int .i64 (lo : Int) ∧ s6 = .int .i64 (hi : Int) ∧ lo ≤ hi ∧ hi ≤ n ∧ hi - lo ≤ kx ∧ wr = w.drewN q ∧
    Hid ((∀ t, t < lo → p t = false) ∧ (∀ t, hi ≤ t → t < n → p t = true)))
  case atStart => exact ⟨0, n, 0, rfl, rfl, Nat.zero_le _, Nat.le_refl _, by omega, rfl, Lib.hid ⟨fun t ht => absurd ht (Nat.not_lt_zero _), fun t h1 h2 => by omega⟩⟩
  case round =>
    obtain ⟨lo, hi, q, rfl, rfl, hlh, hin, hg, rfl, I⟩ := hrel
    by_cases hlt : lo < hi
    · have hltI : (lo : Int) < (hi : Int) := by omega
      obtain ⟨md, hmd⟩ : ∃ md : Nat, md = (lo + hi) / 2 := ⟨_, rfl⟩
      have hc := Lib.hid (HF.out q md (by omega))
      have hmI : ((lo : Int) + (hi : Int)) / 2 = (md : Int) := by omega
      cases hp : p md <;> rw [hp] at hc
      · have HP := Lib.hid hp
        have hmd' := Lib.hid hmd
        clear hp hmd
        go_wp2_with (refine hc.out.mono ?_; rintro e w' ⟨rfl, nq, rfl⟩)
        go_roundg (hi - (md + 1))
        case measure => have := hmd'.out; omega
        case rel =>
          refine ⟨md + 1, hi, q + nq, by first | rfl | go_num, rfl, by have := hmd'.out; omega, hin, Nat.le_refl _, rfl, Lib.hid ⟨fun t ht => ?_, I.out.2⟩⟩
          cases h : p t with
          | false => rfl
          | true => have := M.out t md (by omega) (by have := hmd'.out; omega) h; rw [HP.out] at this; cases this
      · have HP := Lib.hid hp
        have hmd' := Lib.hid hmd
        clear hp hmd
        go_wp2_with (refine hc.out.mono ?_; rintro e w' ⟨rfl, nq, rfl⟩)
        go_roundg (md - lo)
        case measure => have := hmd'.out; omega
        case rel =>
          exact ⟨lo, md, q + nq, rfl, by first | rfl | go_num, by have := hmd'.out; omega, by have := hmd'.out; omega, Nat.le_refl _, rfl, Lib.hid ⟨I.out.1, fun t ht htn => M.out md t ht htn HP.out⟩⟩
    · obtain rfl : hi = lo := by omega
      clear hlt
      go_wp2_with fail
      go_ret
      exact ⟨hi, hin, I.out.1, I.out.2, rfl, q, rfl⟩
theorem asc_at : ∀ (l : List (Txt × Txt)) (last : Txt), attrsOk ltB last l = true → ∀ (a b : Nat) (x y : Txt × Txt), a < b → l[a]? = some x → l[b]? = some y → ltB x.1 y.1 = true
  | [], _, _, a, b, x, y, _, h, _ => by simp at h
  | u :: r, last, h, 0, b + 1, x, y, _, hx, hy => by
    obtain ⟨-, -, -, h4⟩ := ok_cons.1 h
    simp at hx hy
    subst hx
    exact ok_over r _ h4 y (List.mem_of_getElem? hy)
  | u :: r, last, h, a + 1, b + 1, x, y, hab, hx, hy => by
    obtain ⟨-, -, -, h4⟩ := ok_cons.1 h
    simp at hx hy
    exact asc_at r _ h4 a b x y (by omega) hx hy
theorem ge_mono {l : List (Txt × Txt)} {n : Nat} {key : Txt} (hl : l.length = n) (ho : attrsOk ltB [] l = true) : ∀ a b, a ≤ b → b < n → geAt l key a = true → geAt l key b = true := by
  intro a b hab hb h
  rcases Nat.lt_or_ge a b with h1 | h1
  · have ea : l[a]? = some l[a] := List.getElem?_eq_getElem (by omega)
    have eb : l[b]? = some l[b] := List.getElem?_eq_getElem (by omega)
    have hlt := (lt_iff _ _).1 (asc_at l [] ho a b _ _ h1 ea eb)
    unfold geAt at h ⊢
    rw [List.getD_eq_getElem?_getD, ea] at h
    rw [List.getD_eq_getElem?_getD, eb]
    simp only [Option.getD_some, Bool.not_eq_true'] at h ⊢
    cases h2 : Op.bytesLess l[b].1 key with
    | false => rfl
    | true => rw [less_trans _ _ _ hlt h2] at h; cases h
  · obtain rfl : a = b := by omega
    exact h
theorem place_eq {l : List (Txt × Txt)} {n k : Nat} {key : Txt} (hl : l.length = n) (hk : k ≤ n) (h1 : ∀ t, t < k → geAt l key t = false) (h2 : ∀ t, k ≤ t → t < n → geAt l key t = true) : placeP key l = k := by
  unfold placeP
  rw [← List.take_append_drop k l, List.countP_append]
  have e1 : (l.take k).countP (fun a => Op.bytesLess a.1 key) = (l.take k).length := by
    rw [List.countP_eq_length]
    intro a ha
    obtain ⟨j, hj, e⟩ := List.getElem_of_mem ha
    rw [List.length_take] at hj
    have := h1 j (by omega)
    unfold geAt at this
    rw [List.getD_eq_getElem?_getD, List.getElem?_eq_getElem (show j < l.length by omega)] at this
    rw [List.getElem_take] at e
    simp only [Option.getD_some, Bool.not_eq_false'] at this
    rw [← e]
    exact this
  have e2 : (l.drop k).countP (fun a => Op.bytesLess a.1 key) = 0 := by
    rw [List.countP_eq_zero]
    intro a ha
    obtain ⟨j, hj, e⟩ := List.getElem_of_mem ha
    rw [List.length_drop] at hj
    have := h2 (k + j) (by omega) (by omega)
    unfold geAt at this
    rw [List.getD_eq_getElem?_getD, List.getElem?_eq_getElem (show k + j < l.length by omega)] at this
    rw [List.getElem_drop] at e
    simp only [Option.getD_some, Bool.not_eq_true'] at this
    rw [← e, this]
    decide
  rw [e1, e2, List.length_take]
  omega
/-- is a key there? -/
def thereB (key : Txt) (l : List (Txt × Txt)) : Bool := decide ((l[placeP key l]?).map (·.1) = some key)
set_option maxHeartbeats 2000000 in
theorem placeOf_any (w : World) (T : Nat → Prop) (hT : ∀ k, T k → k < w.heap.size) (A : Option Addr) (n c : Nat) (l : List (Txt × Txt)) (key : Txt) (hl : AtsIn T w A n l) (hn : n ≤ 1000000) (ho : attrsOk ltB [] l = true) :
    Calls Try.prog 98 #[.slice A n c, .string ⟨key.toArray⟩] w fun e w' => e = .returned (.tuple #[.int .i64 ((placeP key l : Nat) : Int), .bool (thereB key l)]) ∧ Below w.heap.size w w' := by
  obtain ⟨W2, hW2⟩ : ∃ W2, W2 = (w.alloc (.cells #[.slice A n c] 30)).alloc (.cells #[.string ⟨key.toArray⟩] 9) := ⟨_, rfl⟩
  have r1 : W2.heap[w.heap.size]? = some (.cells #[.slice A n c] 30 (0, 0)) := by rw [hW2]; exact (Go.heap_alloc_old _ _ (by simp)).trans (heap_alloc_new w _)
  have r2 : W2.heap[w.heap.size + 1]? = some (.cells #[.string ⟨key.toArray⟩] 9 (0, 0)) := by rw [hW2]; have h1 := heap_alloc_new (w.alloc (.cells #[.slice A n c] 30)) (.cells #[.string ⟨key.toArray⟩] 9); rw [World.size_alloc] at h1; exact h1
  have hb := Lib.hid (show Below w.heap.size w W2 by rw [hW2]; exact ((Below.refl _ _).alloc (Nat.le_refl _) _).alloc (by simp) _)
  have c1 := cell_of_row W2 w.heap.size 0 _ _ _ r1
  have c2 := cell_of_row W2 (w.heap.size + 1) 0 _ _ _ r2
  have hl2 : AtsIn T W2 A n l := hl.kept (fun _ h => h) fun k hk => hb.out.block k (hT k hk)
  have hs := Lib.hid (search_any W2 109 #[.pointer (some ⟨w.heap.size, 0, none⟩), .pointer (some ⟨w.heap.size + 1, 0, none⟩)] n (geAt l key) (fun _ _ => rfl) hn (fun m i hi => by
    have := placeFn_any (W2.drewN m) T A n c l key (hl2.kept (fun _ h => h) fun _ _ => rfl) w.heap.size (w.heap.size + 1) c1 c2 i hi
    exact this) (ge_mono hl.1 ho))
  have hl2' := Lib.hid hl2
  have hlen := Lib.hid hl.1
  rw [hW2] at c1 c2 hs
  clear r1 r2 hl hl2
  go_enter Try.func98, Try.ntmps98
  go_wp2_with (go_at_call 108; go_loud (refine hs.out.mono ?_; rw [← hW2]; rw [← hW2] at c1 c2; rintro e w3 ⟨k, hkn, hk1, hk2, rfl, hw3⟩; have hpl := Lib.hid (place_eq hlen.out hkn hk1 hk2); have x1 : w3.cell? ⟨w.heap.size, 0, none⟩ = some (.slice A n c) := (by (obtain ⟨nq, rfl⟩ := hw3); exact c1); have x2 : w3.cell? ⟨w.heap.size + 1, 0, none⟩ = some (.string ⟨key.toArray⟩) := (by (obtain ⟨nq, rfl⟩ := hw3); exact c2); have hl3' : Hid (AtsIn T w3 A n l) := (by (obtain ⟨nq, rfl⟩ := hw3); exact Lib.hid (hl2'.out.kept (fun _ h => h) fun _ _ => rfl)); have hbw' : Hid (Below w.heap.size w w3) := (by (obtain ⟨nq, rfl⟩ := hw3); exact Lib.hid (draws hb.out _)); clear hk1 hk2 hw3 c1 c2))
  have hbw := hbw'.out
  clear hs hW2
  by_cases hk : k < n
  · obtain ⟨ad, x, rfl, hx, -, -, -, d1, d2⟩ := hl3'.out.at_ hk
    have hg := show decide ((k : Int) < (n : Int)) = true from decide_eq_true (by omega)
    have hkI : (k : Int) < (n : Int) := by omega
    obtain ⟨ky, va⟩ := x
    dsimp only at d1 d2
    by_cases he : ky = key
    · have hv := Lib.hid (show thereB key l = true by unfold thereB; rw [hpl.out, hx, ← he]; exact decide_eq_true rfl)
      have hbe : (ky == key) = true := by simpa using he
      clear hx he
      go_quiet (fail)
      go_wp2_with fail
      go_ret2
      exact ⟨by rw [hv.out, hpl.out]; rfl, draws hbw _⟩
    · have hv := Lib.hid (show thereB key l = false by unfold thereB; rw [hpl.out, hx]; exact decide_eq_false fun e => he (Option.some.inj e))
      have hbe : (ky == key) = false := by simpa using he
      clear hx he
      go_quiet (fail)
      go_wp2_with fail
      go_ret2
      exact ⟨by rw [hv.out, hpl.out]; rfl, draws hbw _⟩
  · have hg := show decide ((k : Int) < (n : Int)) = false from decide_eq_false (by omega)
    have hg2 := show decide (k < n) = false from decide_eq_false (by omega)
    have hg3 : ¬ (k : Int) < (n : Int) := by omega
    have hv := Lib.hid (show thereB key l = false by unfold thereB; rw [hpl.out, List.getElem?_eq_none (by have := hlen.out; omega)]; exact decide_eq_false fun e => by cases e)
    clear hk
    go_quiet (fail)
    go_wp2_with fail
    go_ret2
    exact ⟨by rw [hv.out, hpl.out]; rfl, draws hbw _⟩
end Go.Proofs.Ytoeblaecldhcaaa.Top
/- Attributes behind a SetAttr: the program's attrsBehind. -/
namespace Go.Proofs.Ytoeblaecldhcaaa.Top
open Go.RowKit
set_option maxRecDepth 20000
set_option linter.unusedVariables false

theorem ats_prt {T : Nat → Prop} {w : World} {A : Option Addr} {n c : Nat} {l : List (Txt × Txt)} (h : AtsIn T w A n l) (hT : ∀ k, T k → k < w.heap.size) (hnil : A = none → c = 0) (hnc : n ≤ c) (hn : n ≤ 100000) : (Prt.mk A n c (l.flatMap atc)).Ok 2 w := by
  refine ⟨by rw [chunk_len atc 2 atc_len, h.1], atc_one l, fun j u hj => ?_, hnil, hnc, hn⟩
  obtain ⟨q, i, x, rfl, -, h3, h4⟩ := chunk_at atc 2 atc_len (by omega) l j u hj
  obtain ⟨ad, e, hTd, -⟩ := h.2 q x h3
  have e' : A = some ad := e
  subst e'
  exact ⟨ad, rfl, hT _ hTd, h.news _ _ hj⟩
def restB (A : Option Addr) (c k : Nat) : Option Addr := if c = k then A else A.map fun a => a.add (k * 2)
theorem restB_ne {ad : Addr} {c k : Nat} (h : ¬ c = k) : restB (some ad) c k = some (ad.add (k * 2)) := if_neg h
theorem ats_take {w : World} {A : Option Addr} {n c k : Nat} {l : List (Txt × Txt)} (h : (Prt.mk A n c (l.flatMap atc)).Ok 2 w) (hl : l.length = n) (hk : k ≤ n) : (Prt.mk A k c ((l.take k).flatMap atc)).Ok 2 w := by
  have hnc := h.nc
  have hfew := h.few
  dsimp only at hnc hfew
  refine ⟨by rw [chunk_len atc 2 atc_len, List.length_take]; show min k l.length * 2 = k * 2; rw [Nat.min_eq_left (by omega)], atc_one _, fun j u hj => ?_, h.nil_, by show k ≤ c; omega, by show k ≤ 100000; omega⟩
  have hj2 : ((l.take k).flatMap atc)[j]? = some u := hj
  rw [chunk_take atc 2 atc_len, List.getElem?_take] at hj2
  split at hj2
  · exact h.cells j u hj2
  · cases hj2
theorem ats_drop {w : World} {A : Option Addr} {n c k : Nat} {l : List (Txt × Txt)} (h : (Prt.mk A n c (l.flatMap atc)).Ok 2 w) (hl : l.length = n) (hk : k ≤ n) : (Prt.mk (restB A c k) (n - k) (c - k) ((l.drop k).flatMap atc)).Ok 2 w := by
  have hnc := h.nc
  have hfew := h.few
  dsimp only at hnc hfew
  refine ⟨by rw [chunk_len atc 2 atc_len, List.length_drop]; show (l.length - k) * 2 = (n - k) * 2; rw [hl], atc_one _, fun j u hj => ?_, fun e => ?_, by show n - k ≤ c - k; omega, by show n - k ≤ 100000; omega⟩
  · have hj2 : ((l.drop k).flatMap atc)[j]? = some u := hj
    rw [chunk_drop atc 2 atc_len, List.getElem?_drop] at hj2
    obtain ⟨ad, e, hlt, hc⟩ := h.cells _ u hj2
    have e : A = some ad := e
    have hlen := (List.getElem?_eq_some_iff.1 hj2).1
    rw [chunk_len atc 2 atc_len, hl] at hlen
    have hck : ¬ c = k := by
      intro e2
      have : n = k := by omega
      subst this
      omega
    subst e
    exact ⟨ad.add (k * 2), restB_ne hck, by rw [block_add]; exact hlt, by rw [add_add]; exact hc⟩
  · have e : restB A c k = none := e
    unfold restB at e
    by_cases hck : c = k
    · rw [if_pos hck] at e
      have : c = 0 := h.nil_ e
      show c - k = 0
      omega
    · rw [if_neg hck] at e
      cases A with
      | none => have : c = 0 := h.nil_ rfl; show c - k = 0; omega
      | some ad => cases e
theorem ats_none {w : World} {A : Option Addr} (c : Nat) (h : A = none → c = 0) : (Prt.mk A 0 c []).Ok 2 w := ⟨rfl, fun u h => (by cases h), fun j u h => (by simp at h), h, Nat.zero_le _, Nat.zero_le _⟩
/-- a new row of attributes, read again -/
theorem ats_back {w : World} {base n : Nat} {v : Value} {l : List (Txt × Txt)} (h : w.ownsRow base 68 2 v n (l.flatMap atc)) (hn : n = l.length) (hs : ∀ x ∈ l, x.1.length ≤ maxLen ∧ x.2.length ≤ maxLen) :
    ∃ A c, v = .slice A n c ∧ AtsIn (fun k => base ≤ k ∧ k < w.heap.size) w A n l ∧ n ≤ c ∧ c ≤ maxLen ∧ (A = none → c = 0) := by
  subst hn
  obtain ⟨A, c, rfl, h1, h2, h3, h4⟩ := own_form h
  refine ⟨A, c, rfl, ⟨rfl, fun q x hx => ?_⟩, h1, h2, h3⟩
  have hq := (List.getElem?_eq_some_iff.1 hx).1
  obtain ⟨g, rfl, hb, hlt, hc⟩ := h4 (by omega)
  have hm := hs x (List.mem_of_getElem? hx)
  refine ⟨⟨g, 0, none⟩, rfl, ⟨hb, hlt⟩, hm.1, hm.2, ?_, ?_⟩
  · have := hc (q * 2 + 0) _ (chunk_of atc 2 atc_len l q 0 x _ hx rfl)
    rw [add_zero_off]
    exact this
  · have := hc (q * 2 + 1) _ (chunk_of atc 2 atc_len l q 1 x _ hx rfl)
    rw [add_zero_off]
    exact this
theorem place_le (k : Txt) (l : List (Txt × Txt)) : placeP k l ≤ l.length := List.countP_le_length
/-- the parts put together: two, or three with a new attribute amid -/
theorem two_parts (W : World) (A A3 : Option Addr) (p c n3 c3 : Nat) (xs ys : List (Txt × Txt)) (h1 : (Prt.mk A p c (xs.flatMap atc)).Ok 2 W) (h3 : (Prt.mk A3 n3 c3 (ys.flatMap atc)).Ok 2 W) (hz : p + n3 ≤ 200000) :
    Calls Try.prog 99 #[.slice (some ⟨W.heap.size, 0, none⟩) 2 2] (W.alloc (.cells #[.slice A p c, .slice A3 n3 c3] 30)) fun e w' => ∃ v, e = .returned v ∧ w'.ownsRow (W.heap.size + 1) 68 2 v (p + n3) ((xs ++ ys).flatMap atc) ∧ Below W.heap.size W w' := by
  obtain ⟨W7, hW7⟩ : ∃ W7, W7 = W.alloc (.cells #[.slice A p c, .slice A3 n3 c3] 30) := ⟨_, rfl⟩
  rw [← hW7]
  have hb : Below W.heap.size W W7 := by rw [hW7]; exact (Below.refl _ _).alloc (Nat.le_refl _) _
  have hs7 : W7.heap.size = W.heap.size + 1 := by rw [hW7]; simp
  have g3 : W7.heap[W.heap.size]? = some (.cells #[.slice A p c, .slice A3 n3 c3] 30 (0, 0)) := by rw [hW7]; exact heap_alloc_new W _
  have hS : sumN [Prt.mk A p c (xs.flatMap atc), Prt.mk A3 n3 c3 (ys.flatMap atc)] = p + n3 := by simp [sumN]
  have hC : catV [Prt.mk A p c (xs.flatMap atc), Prt.mk A3 n3 c3 (ys.flatMap atc)] = (xs ++ ys).flatMap atc := by simp [catV]
  have := concatA W7 W.heap.size 2 2 [Prt.mk A p c (xs.flatMap atc), Prt.mk A3 n3 c3 (ys.flatMap atc)] rfl (by decide) (fun i q hq => by
    rw [add_zero_off]
    match i, hq with
    | 0, hq => injection hq with hq; subst hq; exact cell_of_row W7 _ 0 _ _ _ g3
    | 1, hq => injection hq with hq; subst hq; exact cell_of_row W7 _ 1 _ _ _ g3
    | i + 2, hq => simp at hq) (by omega) (fun q hq => by
    simp only [List.mem_cons, List.not_mem_nil, or_false] at hq
    rcases hq with rfl | rfl
    · exact h1.below hb
    · exact h3.below hb) (by rw [hS]; omega)
  rw [hS, hC, hs7] at this
  refine this.mono ?_
  rintro e w8 ⟨v8, rfl, ho8, hb8⟩
  exact ⟨v8, rfl, ho8, hb.trans (hb8.mono (by omega))⟩
theorem three_parts (W : World) (A A3 : Option Addr) (p c n3 c3 : Nat) (k v : Txt) (xs ys : List (Txt × Txt)) (h1 : (Prt.mk A p c (xs.flatMap atc)).Ok 2 W) (h3 : (Prt.mk A3 n3 c3 (ys.flatMap atc)).Ok 2 W) (hz : p + n3 ≤ 200000) :
    Calls Try.prog 99 #[.slice (some ⟨W.heap.size + 1, 0, none⟩) 3 3] ((W.alloc (.cells #[.string ⟨k.toArray⟩, .string ⟨v.toArray⟩] 68)).alloc (.cells #[.slice A p c, .slice (some ⟨W.heap.size, 0, none⟩) 1 1, .slice A3 n3 c3] 30)) fun e w' => ∃ r, e = .returned r ∧ w'.ownsRow (W.heap.size + 2) 68 2 r (p + (1 + n3)) ((xs ++ ([(k, v)] ++ ys)).flatMap atc) ∧ Below W.heap.size W w' := by
  obtain ⟨W6, hW6⟩ : ∃ W6, W6 = W.alloc (.cells #[.string ⟨k.toArray⟩, .string ⟨v.toArray⟩] 68) := ⟨_, rfl⟩
  have hs6 : W6.heap.size = W.heap.size + 1 := by rw [hW6]; simp
  have hb6 : Below W.heap.size W W6 := by rw [hW6]; exact (Below.refl _ _).alloc (Nat.le_refl _) _
  have g6 : W6.heap[W.heap.size]? = some (.cells #[.string ⟨k.toArray⟩, .string ⟨v.toArray⟩] 68 (0, 0)) := by rw [hW6]; exact heap_alloc_new W _
  rw [← hW6]
  obtain ⟨W7, hW7⟩ : ∃ W7, W7 = W6.alloc (.cells #[.slice A p c, .slice (some ⟨W.heap.size, 0, none⟩) 1 1, .slice A3 n3 c3] 30) := ⟨_, rfl⟩
  rw [← hW7]
  have hb67 : Below W6.heap.size W6 W7 := by rw [hW7]; exact (Below.refl _ _).alloc (Nat.le_refl _) _
  have hb : Below W.heap.size W W7 := hb6.trans (hb67.mono hb6.size)
  have hs7 : W7.heap.size = W.heap.size + 2 := by rw [hW7]; simp; omega
  have g3 : W7.heap[W.heap.size + 1]? = some (.cells #[.slice A p c, .slice (some ⟨W.heap.size, 0, none⟩) 1 1, .slice A3 n3 c3] 30 (0, 0)) := by rw [hW7, ← hs6]; exact heap_alloc_new W6 _
  have g7 : W7.heap[W.heap.size]? = some (.cells #[.string ⟨k.toArray⟩, .string ⟨v.toArray⟩] 68 (0, 0)) := (hb67.block _ (by omega)).trans g6
  have h2 : (Prt.mk (some ⟨W.heap.size, 0, none⟩) 1 1 (([(k, v)] : List (Txt × Txt)).flatMap atc)).Ok 2 W7 := by
    refine ⟨rfl, atc_one _, fun j u hj => ?_, fun e => (by cases e), Nat.le_refl _, (by show (1 : Nat) ≤ 100000; decide)⟩
    refine ⟨_, rfl, by show W.heap.size < _; omega, ?_⟩
    rw [add_zero_off]
    match j, hj with
    | 0, hj => injection hj with hj; subst hj; exact cell_of_row W7 _ 0 _ _ _ g7
    | 1, hj => injection hj with hj; subst hj; exact cell_of_row W7 _ 1 _ _ _ g7
    | j + 2, hj => simp [atc] at hj
  have hS : sumN [Prt.mk A p c (xs.flatMap atc), Prt.mk (some ⟨W.heap.size, 0, none⟩) 1 1 (([(k, v)] : List (Txt × Txt)).flatMap atc), Prt.mk A3 n3 c3 (ys.flatMap atc)] = p + (1 + n3) := by simp [sumN]
  have hC : catV [Prt.mk A p c (xs.flatMap atc), Prt.mk (some ⟨W.heap.size, 0, none⟩) 1 1 (([(k, v)] : List (Txt × Txt)).flatMap atc), Prt.mk A3 n3 c3 (ys.flatMap atc)] = (xs ++ ([(k, v)] ++ ys)).flatMap atc := by simp [catV]
  have := concatA W7 (W.heap.size + 1) 3 3 [Prt.mk A p c (xs.flatMap atc), Prt.mk (some ⟨W.heap.size, 0, none⟩) 1 1 (([(k, v)] : List (Txt × Txt)).flatMap atc), Prt.mk A3 n3 c3 (ys.flatMap atc)] rfl (by decide) (fun i q hq => by
    rw [add_zero_off]
    match i, hq with
    | 0, hq => injection hq with hq; subst hq; exact cell_of_row W7 _ 0 _ _ _ g3
    | 1, hq => injection hq with hq; subst hq; exact cell_of_row W7 _ 1 _ _ _ g3
    | 2, hq => injection hq with hq; subst hq; exact cell_of_row W7 _ 2 _ _ _ g3
    | i + 3, hq => simp at hq) (by omega) (fun q hq => by
    simp only [List.mem_cons, List.not_mem_nil, or_false] at hq
    rcases hq with rfl | rfl | rfl
    · exact h1.below hb
    · exact h2
    · exact h3.below hb) (by rw [hS]; omega)
  rw [hS, hC, hs7] at this
  refine this.mono ?_
  rintro e w8 ⟨v8, rfl, ho8, hb8⟩
  exact ⟨v8, rfl, ho8, hb.trans (hb8.mono (by omega))⟩
/-- attributes are answered, in new blocks -/
def AtsA (w : World) (l : List (Txt × Txt)) (e : Ending) (w' : World) : Prop :=
  ∃ A' n' c', e = .returned (.slice A' n' c') ∧ AtsIn (fun k => w.heap.size ≤ k ∧ k < w'.heap.size) w' A' n' l ∧ n' ≤ c' ∧ c' ≤ maxLen ∧ (A' = none → c' = 0) ∧ Below w.heap.size w w'
theorem AtsA.of {w W w' : World} {l : List (Txt × Txt)} {v : Value} {b n : Nat} (h : w'.ownsRow b 68 2 v n (l.flatMap atc)) (hn : n = l.length) (hs : ∀ x ∈ l, x.1.length ≤ maxLen ∧ x.2.length ≤ maxLen) (hw : Below w.heap.size w W) (hb : Below W.heap.size W w') (hwb : w.heap.size ≤ b) : AtsA w l (.returned v) w' := by
  obtain ⟨A, c, rfl, h1, h2, h3, h4⟩ := ats_back h hn hs
  exact ⟨A, n, c, rfl, h1.kept (fun k hk => ⟨Nat.le_trans hwb hk.1, hk.2⟩) (fun _ _ => rfl), h2, h3, h4, hw.trans (hb.mono hw.size)⟩
set_option maxHeartbeats 8000000 in
theorem attrsBehind_any (w : World) (T : Nat → Prop) (hT : ∀ k, T k → k < w.heap.size) (A : Option Addr) (n c : Nat) (l : List (Txt × Txt)) (o : Ov) (s : OS) (ho : OpIn w o s) (hl : AtsIn T w A n l) (hnil : A = none → c = 0) (hnc : n ≤ c) (hcm : c ≤ maxLen) (hn : n ≤ 90000) (hok : attrsOk ltB [] l = true) :
    Calls Try.prog 83 #[.slice A n c, .agg (opCells o s)] w (AtsA w (progA o.key o.value o.gone l)) := by
  obtain ⟨W1, hW1⟩ : ∃ W1, W1 = w.alloc (.cells (opCells o s) 26) := ⟨_, rfl⟩
  have z1 : W1.heap[w.heap.size]? = some (.cells (opCells o s) 26 (0, 0)) := by rw [hW1]; exact heap_alloc_new w _
  have hb1 : Below w.heap.size w W1 := by rw [hW1]; exact (Below.refl _ _).alloc (Nat.le_refl _) _
  have hT1 : ∀ k, T k → k < W1.heap.size := fun k hk => Nat.lt_of_lt_of_le (hT k hk) hb1.size
  have hpl := Lib.hid (placeOf_any W1 T hT1 A n c l o.key (hl.kept (fun _ h => h) fun k hk => hb1.block k (hT k hk)) (by omega) hok)
  have hprt := ats_prt hl hT hnil hnc (by omega)
  have hp := place_le o.key l
  have hlen := hl.1
  have hst := Lib.hid (fun (x : Txt × Txt) (hx : x ∈ progA o.key o.value o.gone l) => show x.1.length ≤ maxLen ∧ x.2.length ≤ maxLen from by
    have hold : ∀ y ∈ l, y.1.length ≤ maxLen ∧ y.2.length ≤ maxLen := fun y hy => by
      obtain ⟨q, hq, e⟩ := List.getElem_of_mem hy
      obtain ⟨ad, -, -, h1, h2, -⟩ := hl.2 q y (by rw [← e]; exact List.getElem?_eq_getElem hq)
      exact ⟨h1, h2⟩
    unfold progA at hx
    rw [List.mem_append, List.mem_append] at hx
    rcases hx with hx | hx | hx
    · exact hold x (List.mem_of_mem_take hx)
    · cases hgn : o.gone with
      | true => rw [hgn] at hx; simp at hx
      | false => rw [hgn] at hx; simp at hx; subst hx; exact ⟨ho.key, ho.value⟩
    · split at hx
      · exact hold x (List.mem_of_mem_drop hx)
      · exact hold x (List.mem_of_mem_drop hx))
  have hP := Lib.hid (fun (W : World) (hb : Below w.heap.size w W) => (ats_take hprt hlen (k := placeP o.key l) (by omega)).below hb)
  have hD := Lib.hid (fun (k : Nat) (hk : k ≤ n) (W : World) (hb : Below w.heap.size w W) => (ats_drop hprt hlen (k := k) hk).below hb)
  have hdf := Lib.hid (show progA o.key o.value o.gone l = l.take (placeP o.key l) ++ ((if o.gone then [] else [(o.key, o.value)]) ++ (if thereB o.key l = true then l.drop (placeP o.key l + 1) else l.drop (placeP o.key l))) by
    unfold progA thereB
    simp only [decide_eq_true_eq])
  have hthere := Lib.hid (fun (h : thereB o.key l = true) => show placeP o.key l < n from by
    unfold thereB at h
    have h := of_decide_eq_true h
    cases hx : l[placeP o.key l]? with
    | none => rw [hx] at h; cases h
    | some x => have := (List.getElem?_eq_some_iff.1 hx).1; omega)
  obtain ⟨p, hpe⟩ : ∃ p, p = placeP o.key l := ⟨_, rfl⟩
  obtain ⟨th, hthe⟩ : ∃ th, th = thereB o.key l := ⟨_, rfl⟩
  rw [← hpe, ← hthe] at hpl hthere
  rw [← hpe, ← hthe] at hdf
  rw [← hpe] at hP hp
  have hlen' := Lib.hid hlen
  obtain ⟨o0, o1, o2, o3, o4, o5, o6, o7, o8, o9, o10⟩ := op_cells z1
  have hz1 := Lib.hid z1
  have hb1' := Lib.hid hb1
  rw [hW1] at o7 hpl
  rw [hlen] at hp
  clear hT hT1 hl hb1 z1 hprt hlen hok ho o0 o1 o2 o3 o4 o5 o6 o8 o9 o10 hpe hthe
  unfold opCells at hpl o7 hW1
  unfold opCells
  go_enter Try.func83, Try.ntmps83
  go_wp2_with (go_at_call 98; go_loud (refine hpl.out.mono ?_; rw [← hW1]; rintro e w1 ⟨rfl, hb⟩; have hbw := hb1'.out.trans (hb.mono hb1'.out.size); have r1 := (hb.block w.heap.size (Array.getElem?_eq_some_iff.1 hz1.out).1).trans hz1.out; clear o7; obtain ⟨o0, o1, o2, o3, o4, o5, o6, o7, o8, o9, o10⟩ := op_cells r1; clear hb r1))
  have hbw' := Lib.hid hbw
  clear hpl hW1 hbw o0 o1 o2 o3 o4 o5 o6 o10
  have k0 : (0 : Int) ≤ (p : Int) := by omega
  have k1 : (p : Int) ≤ (n : Int) := by omega
  have k2 : (p : Int) ≤ (c : Int) := by omega
  have k3 : (n : Int) ≤ (c : Int) := by omega
  unfold maxLen at hcm
  cases A with
  | none =>
    obtain rfl : c = 0 := hnil rfl
    obtain rfl : n = 0 := by omega
    obtain rfl : p = 0 := by omega
    have hf : th = false := by cases th with
      | false => rfl
      | true => have := hthere.out rfl; omega
    subst hf
    go_quiet (fail)
    obtain ⟨W, hWe⟩ : ∃ W, W = w1.drewN nq := ⟨_, rfl⟩
    have hbW := Lib.hid (show Below w.heap.size w W by rw [hWe]; exact draws hbw'.out _)
    have x7 : W.cell? ⟨w.heap.size, 7, none⟩ = some (.string ⟨o.key.toArray⟩) := by rw [hWe]; exact o7
    have x8 : W.cell? ⟨w.heap.size, 8, none⟩ = some (.string ⟨o.value.toArray⟩) := by rw [hWe]; exact o8
    have x9 : W.cell? ⟨w.heap.size, 9, none⟩ = some (.bool o.gone) := by rw [hWe]; exact o9
    rw [← hWe]
    clear hWe o7 o8 o9
    have hlW : w.heap.size < W.heap.size := World.block_lt_of_cell? _ _ x7
    cases hgn : o.gone with
    | true =>
      rw [hgn] at x9 hdf
      have hgn' := Lib.hid hgn
      clear hgn
      go_wp2_with (go_at_call 99; go_loud (refine (two_parts W _ _ _ _ _ _ (l.take 0) (l.drop 0) (hP.out W hbW.out) (by first | exact hD.out 0 (Nat.le_refl _) W hbW.out) (by omega)).mono ?_; rintro e w8 ⟨v8, rfl, ho8, hb8⟩; have ho8' := Lib.hid ho8; have hb8' := Lib.hid hb8; clear ho8 hb8))
      go_ret
      have hst2 := hst.out
      rw [hgn'.out] at hst2 ⊢
      rw [hdf.out] at hst2 ⊢
      simp only [Bool.false_eq_true, if_true, if_false, List.nil_append] at hst2 ⊢
      exact AtsA.of ho8'.out (by have := hlen'.out; simp only [List.length_append, List.length_take, List.length_drop, List.length_cons, List.length_nil]; omega) hst2 hbW.out hb8'.out (by omega)
    | false =>
      rw [hgn] at x9 hdf
      have hgn' := Lib.hid hgn
      clear hgn
      go_wp2_with (go_at_call 99; go_loud (have y9 := x9; refine (three_parts W _ _ _ _ _ _ o.key o.value (l.take 0) (l.drop 0) (hP.out W hbW.out) (by first | exact hD.out 0 (Nat.le_refl _) W hbW.out) (by omega)).mono ?_; rintro e w8 ⟨v8, rfl, ho8, hb8⟩; have ho8' := Lib.hid ho8; have hb8' := Lib.hid hb8; clear ho8 hb8))
      go_ret
      have hst2 := hst.out
      rw [hgn'.out] at hst2 ⊢
      rw [hdf.out] at hst2 ⊢
      simp only [Bool.false_eq_true, if_true, if_false, List.nil_append] at hst2 ⊢
      exact AtsA.of ho8'.out (by have := hlen'.out; simp only [List.length_append, List.length_take, List.length_drop, List.length_cons, List.length_nil]; omega) hst2 hbW.out hb8'.out (by omega)
  | some ad =>
    cases th with
    | false =>
      by_cases hcp : c = p
      · have hcp2 : p = c := hcp.symm
        subst hcp2
        have hnp : p = n := by omega
        subst hnp
        go_quiet (fail)
        obtain ⟨W, hWe⟩ : ∃ W, W = w1.drewN nq := ⟨_, rfl⟩
        have hbW := Lib.hid (show Below w.heap.size w W by rw [hWe]; exact draws hbw'.out _)
        have x7 : W.cell? ⟨w.heap.size, 7, none⟩ = some (.string ⟨o.key.toArray⟩) := by rw [hWe]; exact o7
        have x8 : W.cell? ⟨w.heap.size, 8, none⟩ = some (.string ⟨o.value.toArray⟩) := by rw [hWe]; exact o8
        have x9 : W.cell? ⟨w.heap.size, 9, none⟩ = some (.bool o.gone) := by rw [hWe]; exact o9
        rw [← hWe]
        clear hWe o7 o8 o9
        have hlW : w.heap.size < W.heap.size := World.block_lt_of_cell? _ _ x7
        cases hgn : o.gone with
        | true =>
          rw [hgn] at x9 hdf
          have hgn' := Lib.hid hgn
          clear hgn
          go_wp2_with (go_at_call 99; go_loud (refine (two_parts W _ _ _ _ _ _ (l.take p) (l.drop p) (hP.out W hbW.out) (by have h9 := hD.out p (Nat.le_refl _) W hbW.out; unfold restB at h9; rw [if_pos rfl] at h9; simpa using h9) (by omega)).mono ?_; rintro e w8 ⟨v8, rfl, ho8, hb8⟩; have ho8' := Lib.hid ho8; have hb8' := Lib.hid hb8; clear ho8 hb8))
          go_ret
          have hst2 := hst.out
          rw [hgn'.out] at hst2 ⊢
          rw [hdf.out] at hst2 ⊢
          simp only [Bool.false_eq_true, if_true, if_false, List.nil_append] at hst2 ⊢
          exact AtsA.of ho8'.out (by have := hlen'.out; simp only [List.length_append, List.length_take, List.length_drop, List.length_cons, List.length_nil]; omega) hst2 hbW.out hb8'.out (by omega)
        | false =>
          rw [hgn] at x9 hdf
          have hgn' := Lib.hid hgn
          clear hgn
          go_wp2_with (go_at_call 99; go_loud (have y9 := x9; refine (three_parts W _ _ _ _ _ _ o.key o.value (l.take p) (l.drop p) (hP.out W hbW.out) (by have h9 := hD.out p (Nat.le_refl _) W hbW.out; unfold restB at h9; rw [if_pos rfl] at h9; simpa using h9) (by omega)).mono ?_; rintro e w8 ⟨v8, rfl, ho8, hb8⟩; have ho8' := Lib.hid ho8; have hb8' := Lib.hid hb8; clear ho8 hb8))
          go_ret
          have hst2 := hst.out
          rw [hgn'.out] at hst2 ⊢
          rw [hdf.out] at hst2 ⊢
          simp only [Bool.false_eq_true, if_true, if_false, List.nil_append] at hst2 ⊢
          exact AtsA.of ho8'.out (by have := hlen'.out; simp only [List.length_append, List.length_take, List.length_drop, List.length_cons, List.length_nil]; omega) hst2 hbW.out hb8'.out (by omega)
      · have hcp2 : (c = p) = False := eq_false hcp
        go_quiet (fail)
        obtain ⟨W, hWe⟩ : ∃ W, W = w1.drewN nq := ⟨_, rfl⟩
        have hbW := Lib.hid (show Below w.heap.size w W by rw [hWe]; exact draws hbw'.out _)
        have x7 : W.cell? ⟨w.heap.size, 7, none⟩ = some (.string ⟨o.key.toArray⟩) := by rw [hWe]; exact o7
        have x8 : W.cell? ⟨w.heap.size, 8, none⟩ = some (.string ⟨o.value.toArray⟩) := by rw [hWe]; exact o8
        have x9 : W.cell? ⟨w.heap.size, 9, none⟩ = some (.bool o.gone) := by rw [hWe]; exact o9
        rw [← hWe]
        clear hWe o7 o8 o9
        have hlW : w.heap.size < W.heap.size := World.block_lt_of_cell? _ _ x7
        cases hgn : o.gone with
        | true =>
          rw [hgn] at x9 hdf
          have hgn' := Lib.hid hgn
          clear hgn
          go_wp2_with (go_at_call 99; go_loud (refine (two_parts W _ _ _ _ _ _ (l.take p) (l.drop p) (hP.out W hbW.out) (by have h9 := hD.out p (by omega) W hbW.out; rw [restB_ne hcp] at h9; exact h9) (by omega)).mono ?_; rintro e w8 ⟨v8, rfl, ho8, hb8⟩; have ho8' := Lib.hid ho8; have hb8' := Lib.hid hb8; clear ho8 hb8))
          go_ret
          have hst2 := hst.out
          rw [hgn'.out] at hst2 ⊢
          rw [hdf.out] at hst2 ⊢
          simp only [Bool.false_eq_true, if_true, if_false, List.nil_append] at hst2 ⊢
          exact AtsA.of ho8'.out (by have := hlen'.out; simp only [List.length_append, List.length_take, List.length_drop, List.length_cons, List.length_nil]; omega) hst2 hbW.out hb8'.out (by omega)
        | false =>
          rw [hgn] at x9 hdf
          have hgn' := Lib.hid hgn
          clear hgn
          go_wp2_with (go_at_call 99; go_loud (have y9 := x9; refine (three_parts W _ _ _ _ _ _ o.key o.value (l.take p) (l.drop p) (hP.out W hbW.out) (by have h9 := hD.out p (by omega) W hbW.out; rw [restB_ne hcp] at h9; exact h9) (by omega)).mono ?_; rintro e w8 ⟨v8, rfl, ho8, hb8⟩; have ho8' := Lib.hid ho8; have hb8' := Lib.hid hb8; clear ho8 hb8))
          go_ret
          have hst2 := hst.out
          rw [hgn'.out] at hst2 ⊢
          rw [hdf.out] at hst2 ⊢
          simp only [Bool.false_eq_true, if_true, if_false, List.nil_append] at hst2 ⊢
          exact AtsA.of ho8'.out (by have := hlen'.out; simp only [List.length_append, List.length_take, List.length_drop, List.length_cons, List.length_nil]; omega) hst2 hbW.out hb8'.out (by omega)
    | true =>
      have hpn := hthere.out rfl
      have hcp : ¬ c = p := by omega
      have k4 : (1 : Int) ≤ (c : Int) - (p : Int) := by omega
      have k5 : (1 : Int) ≤ (n : Int) - (p : Int) := by omega
      have k6 : 1 ≤ c - p := by omega
      have k7 : 1 ≤ n - p := by omega
      by_cases hc1 : c - p = 1
      · obtain rfl : c = p + 1 := by omega
        obtain rfl : n = p + 1 := by omega
        go_quiet (fail)
        obtain ⟨W, hWe⟩ : ∃ W, W = w1.drewN nq := ⟨_, rfl⟩
        have hbW := Lib.hid (show Below w.heap.size w W by rw [hWe]; exact draws hbw'.out _)
        have x7 : W.cell? ⟨w.heap.size, 7, none⟩ = some (.string ⟨o.key.toArray⟩) := by rw [hWe]; exact o7
        have x8 : W.cell? ⟨w.heap.size, 8, none⟩ = some (.string ⟨o.value.toArray⟩) := by rw [hWe]; exact o8
        have x9 : W.cell? ⟨w.heap.size, 9, none⟩ = some (.bool o.gone) := by rw [hWe]; exact o9
        rw [← hWe]
        clear hWe o7 o8 o9
        have hlW : w.heap.size < W.heap.size := World.block_lt_of_cell? _ _ x7
        cases hgn : o.gone with
        | true =>
          rw [hgn] at x9 hdf
          have hgn' := Lib.hid hgn
          clear hgn
          go_wp2_with (go_at_call 99; go_loud (refine (two_parts W _ _ _ _ _ _ (l.take p) (l.drop (p + 1)) (hP.out W hbW.out) (by rw [List.drop_of_length_le (by have := hlen'.out; omega)]; first | exact ats_none _ (fun e => by cases e) | (have h9 := ats_none (w := W) (A := some (ad.add (p * 2))) 0 (fun e => by cases e); simpa using h9)) (by omega)).mono ?_; rintro e w8 ⟨v8, rfl, ho8, hb8⟩; have ho8' := Lib.hid ho8; have hb8' := Lib.hid hb8; clear ho8 hb8))
          go_ret
          have hst2 := hst.out
          rw [hgn'.out] at hst2 ⊢
          rw [hdf.out] at hst2 ⊢
          simp only [Bool.false_eq_true, if_true, if_false, List.nil_append] at hst2 ⊢
          exact AtsA.of ho8'.out (by have := hlen'.out; simp only [List.length_append, List.length_take, List.length_drop, List.length_cons, List.length_nil]; omega) hst2 hbW.out hb8'.out (by omega)
        | false =>
          rw [hgn] at x9 hdf
          have hgn' := Lib.hid hgn
          clear hgn
          go_wp2_with (go_at_call 99; go_loud (have y9 := x9; refine (three_parts W _ _ _ _ _ _ o.key o.value (l.take p) (l.drop (p + 1)) (hP.out W hbW.out) (by rw [List.drop_of_length_le (by have := hlen'.out; omega)]; first | exact ats_none _ (fun e => by cases e) | (have h9 := ats_none (w := W) (A := some (ad.add (p * 2))) 0 (fun e => by cases e); simpa using h9)) (by omega)).mono ?_; rintro e w8 ⟨v8, rfl, ho8, hb8⟩; have ho8' := Lib.hid ho8; have hb8' := Lib.hid hb8; clear ho8 hb8))
          go_ret
          have hst2 := hst.out
          rw [hgn'.out] at hst2 ⊢
          rw [hdf.out] at hst2 ⊢
          simp only [Bool.false_eq_true, if_true, if_false, List.nil_append] at hst2 ⊢
          exact AtsA.of ho8'.out (by have := hlen'.out; simp only [List.length_append, List.length_take, List.length_drop, List.length_cons, List.length_nil]; omega) hst2 hbW.out hb8'.out (by omega)
      · have hcp3 : ¬ c = p + 1 := by omega
        go_quiet (fail)
        obtain ⟨W, hWe⟩ : ∃ W, W = w1.drewN nq := ⟨_, rfl⟩
        have hbW := Lib.hid (show Below w.heap.size w W by rw [hWe]; exact draws hbw'.out _)
        have x7 : W.cell? ⟨w.heap.size, 7, none⟩ = some (.string ⟨o.key.toArray⟩) := by rw [hWe]; exact o7
        have x8 : W.cell? ⟨w.heap.size, 8, none⟩ = some (.string ⟨o.value.toArray⟩) := by rw [hWe]; exact o8
        have x9 : W.cell? ⟨w.heap.size, 9, none⟩ = some (.bool o.gone) := by rw [hWe]; exact o9
        rw [← hWe]
        clear hWe o7 o8 o9
        have hlW : w.heap.size < W.heap.size := World.block_lt_of_cell? _ _ x7
        cases hgn : o.gone with
        | true =>
          rw [hgn] at x9 hdf
          have hgn' := Lib.hid hgn
          clear hgn
          go_wp2_with (go_at_call 99; go_loud (refine (two_parts W _ _ _ _ _ _ (l.take p) (l.drop (p + 1)) (hP.out W hbW.out) (by have h9 := hD.out (p + 1) (by omega) W hbW.out; rw [restB_ne hcp3, show (p + 1) * 2 = p * 2 + 2 by omega, ← add_add, add_off _ 2 (by decide), show n - (p + 1) = n - p - 1 by omega, show c - (p + 1) = c - p - 1 by omega] at h9; exact h9) (by omega)).mono ?_; rintro e w8 ⟨v8, rfl, ho8, hb8⟩; have ho8' := Lib.hid ho8; have hb8' := Lib.hid hb8; clear ho8 hb8))
          go_ret
          have hst2 := hst.out
          rw [hgn'.out] at hst2 ⊢
          rw [hdf.out] at hst2 ⊢
          simp only [Bool.false_eq_true, if_true, if_false, List.nil_append] at hst2 ⊢
          exact AtsA.of ho8'.out (by have := hlen'.out; simp only [List.length_append, List.length_take, List.length_drop, List.length_cons, List.length_nil]; omega) hst2 hbW.out hb8'.out (by omega)
        | false =>
          rw [hgn] at x9 hdf
          have hgn' := Lib.hid hgn
          clear hgn
          go_wp2_with (go_at_call 99; go_loud (have y9 := x9; refine (three_parts W _ _ _ _ _ _ o.key o.value (l.take p) (l.drop (p + 1)) (hP.out W hbW.out) (by have h9 := hD.out (p + 1) (by omega) W hbW.out; rw [restB_ne hcp3, show (p + 1) * 2 = p * 2 + 2 by omega, ← add_add, add_off _ 2 (by decide), show n - (p + 1) = n - p - 1 by omega, show c - (p + 1) = c - p - 1 by omega] at h9; exact h9) (by omega)).mono ?_; rintro e w8 ⟨v8, rfl, ho8, hb8⟩; have ho8' := Lib.hid ho8; have hb8' := Lib.hid hb8; clear ho8 hb8))
          go_ret
          have hst2 := hst.out
          rw [hgn'.out] at hst2 ⊢
          rw [hdf.out] at hst2 ⊢
          simp only [Bool.false_eq_true, if_true, if_false, List.nil_append] at hst2 ⊢
          exact AtsA.of ho8'.out (by have := hlen'.out; simp only [List.length_append, List.length_take, List.length_drop, List.length_cons, List.length_nil]; omega) hst2 hbW.out hb8'.out (by omega)
end Go.Proofs.Ytoeblaecldhcaaa.Top
/- done: a Move, a SetAttr. -/
namespace Go.Proofs.Ytoeblaecldhcaaa.Top
open Go.RowKit
set_option maxRecDepth 20000
set_option linter.unusedVariables false

/-- a node with other attributes -/
def attN : Nd → List (Txt × Txt) → Nd
  | .mk i f l _ x k, a => .mk i f l a x k
theorem attN_id (y : Nd) (l : List (Txt × Txt)) : (attN y l).id = y.id ∧ (attN y l).leaf = y.leaf ∧ (attN y l).label = y.label ∧ (attN y l).text = y.text ∧ (attN y l).attrs = l ∧ (attN y l).kids = y.kids := by cases y; exact ⟨rfl, rfl, rfl, rfl, rfl, rfl⟩
theorem attN_weigh (y : Nd) (l : List (Txt × Txt)) : weighV (attN y l) + attrsW y.attrs = weighV y + attrsW l := by cases y; simp only [attN, weighV, Nd.attrs]; omega
theorem attN_node {T : Nat → Prop} {w : World} {aA kA A : Option Addr} {an ac kn kc n c : Nat} {y : Nd} {l : List (Txt × Txt)} (h : NodeV T w aA an ac kA kn kc y) (hl : AtsIn T w A n l) (hnc : n ≤ c) (hcm : c ≤ maxLen) (hnil : A = none → c = 0) : NodeV T w A n c kA kn kc (attN y l) := by
  have hf := h.facts
  obtain ⟨e1, e2, e3, e4, e5, e6⟩ := attN_id y l
  exact NFacts.node ⟨by rw [e1]; exact hf.id, by rw [e3]; exact hf.label, by rw [e4]; exact hf.text, by rw [e5]; exact hl, hnc, hcm, hnil, by rw [e6]; exact hf.kl, hf.knc, hf.kcm, hf.knil, by rw [e6]; exact hf.row⟩
set_option maxHeartbeats 4000000 in
theorem done_move (T : Nat → Prop) (w : World) (hT : ∀ k, T k → k < w.heap.size) (t x y m2 y2 : Nd) (aA kA : Option Addr) (an ac kn kc : Nat) (h : NodeV T w aA an ac kA kn kc t) (o : Ov) (s : OS) (ho : OpIn w o s) (hk : o.kind = 3) (q : List Int) (c : Nat) (hq : o.path = q ++ [(c : Int)]) (hbig : weighV t ≤ 40000)
    (hx : atV t o.path = some x) (hy : atV t o.to_ = some y) (g : Nat) (hg : o.at_ = (g : Int)) (hg1 : g ≤ 1048576) (hmay : P4.mayV o.to_ = true) (hm2 : delAt t o.path = some m2) (hy2 : atV m2 (progTo o.path o.to_ g).1 = some y2) (hg2 : (progTo o.path o.to_ g).2 ≤ y2.kids.length) :
    Calls Try.prog 53 #[.agg (val6 t aA an ac kA kn kc), .agg (opCells o s)] w (NodeA T w ((putV m2 (progTo o.path o.to_ g).1 (y2.withKids (insK (progTo o.path o.to_ g).2 x y2.kids))).getD Nd.zero)) := by
  obtain ⟨z1, z2, z3, z4, z5⟩ := three_new w (.cells (val6 t aA an ac kA kn kc) 33) (.cells (opCells o s) 26) (.cells zero6 33)
  obtain ⟨W3, hW3⟩ : ∃ W3, W3 = ((w.alloc (.cells (val6 t aA an ac kA kn kc) 33)).alloc (.cells (opCells o s) 26)).alloc (.cells zero6 33) := ⟨_, rfl⟩
  rw [← hW3] at z1 z2 z3 z4 z5
  have hT3 : ∀ k, T k → k < W3.heap.size := fun k hk => by have := hT k hk; omega
  have htk := Lib.hid (moved_T T W3 hT3 t x y m2 y2 aA kA an ac kn kc (h.kept (fun _ h => h) fun k hk => z4.block k (hT k hk)) o s (ho.below z4) q c hq hbig hx hy g hg hg1 hmay hm2 hy2 hg2)
  obtain ⟨a, ha⟩ : ∃ a, a = (putV m2 (progTo o.path o.to_ g).1 (y2.withKids (insK (progTo o.path o.to_ g).2 x y2.kids))).getD Nd.zero := ⟨_, rfl⟩
  rw [← ha] at htk ⊢
  clear ha hx hg hg1 hmay hm2 hy2 hg2
  obtain ⟨o0, o1, o2, o3, o4, o5, o6, o7, o8, o9, o10⟩ := op_cells z2
  have z1u := z1
  unfold val6 at z1u
  obtain ⟨p0, p1, p2, p3, p4, p5, pf⟩ := six_cells z1u
  have hkI : (o.kind : Int) = 3 := by omega
  have z3' := Lib.hid z3
  have z4' := Lib.hid z4
  have z5' := Lib.hid z5
  have hT' := Lib.hid hT
  have hkr := ho.kind
  rw [hW3] at o0 o1 o2 o3 o4 o5 o6 o7 o8 o9 o10 p0 p1 p2 p3 p4 p5 pf htk
  clear h ho hT hT3 z1 z1u z2 z3 z4 z5 hk hq hy
  unfold zero6 val6 opCells at hW3 htk o0 o1 o2 o3 o4 o5 o6 o7 o8 o9 o10 p0 p1 p2 p3 p4 p5 pf
  unfold val6 opCells
  rw [hkI] at hW3 htk o0 o1 o2 o3 o4 o5 o6 o7 o8 o9 o10 p0 p1 p2 p3 p4 p5
  rw [hkI]
  clear hkI hkr
  go_enter Try.func53, Try.ntmps53
  go_wp2_with (go_at_call 82; go_loud (refine htk.out.mono ?_; rw [← hW3]; rintro e w9 ⟨zA, zn, zc, zK, zm, zd, rfl, hz, hbz⟩; have r3 := (hbz.block _ (by have := z5'.out; omega)).trans z3'.out; have hr := Lib.hid r3; have hz' := Lib.hid hz; have hbz' := Lib.hid hbz; unfold zero6 at r3; obtain ⟨q0, q1, q2, q3, q4, q5, qf⟩ := six_cells r3; have hne : w.heap.size + 1 + 1 < w9.heap.size := (Array.getElem?_eq_some_iff.1 r3).1; have hne2 : w9.heap.size ≠ w.heap.size + 1 + 1 := (by omega); have hne3 : w.heap.size + 1 + 1 ≠ w9.heap.size := (by omega); unfold val6; clear hz hbz r3))
  obtain ⟨W9, hW9, R9, N9, B9⟩ := end_node0 hT'.out (r := w.heap.size + 1 + 1) (b := W3.heap.size) (by omega) (by have := z5'.out; omega) (z4'.out.trans (hbz'.out.mono z4'.out.size)) hr.out hz'.out
  rw [← hW9]
  unfold val6 at R9
  obtain ⟨d0, d1, d2, d3, d4, d5, df⟩ := six_cells R9
  refine bodyPost_ret (v := .agg (val6 a zA zn zc zK zm zd)) (by simp [results, Try.results53, go_sem, d0, d1, d2, d3, d4, d5, val6]) rfl ?_
  exact ⟨zA, zn, zc, zK, zm, zd, rfl, N9, B9⟩
set_option maxHeartbeats 4000000 in
theorem done_attr (T : Nat → Prop) (w : World) (hT : ∀ k, T k → k < w.heap.size) (t y : Nd) (aA kA : Option Addr) (an ac kn kc : Nat) (h : NodeV T w aA an ac kA kn kc t) (o : Ov) (s : OS) (ho : OpIn w o s) (hk : o.kind = 4) (hbig : weighV t ≤ 90000)
    (hy : atV t o.path = some y) (hok : attrsOk ltB [] y.attrs = true) (hlk : o.key.length ≤ 80000) (hlv : o.value.length ≤ 80000) :
    Calls Try.prog 53 #[.agg (val6 t aA an ac kA kn kc), .agg (opCells o s)] w (NodeA T w ((putV t o.path (attN y (docA o.key o.value y.attrs o.gone))).getD Nd.zero)) := by
  obtain ⟨la, hlae⟩ : ∃ la, la = docA o.key o.value y.attrs o.gone := ⟨_, rfl⟩
  obtain ⟨z1, z2, z3, z4, z5⟩ := three_new w (.cells (val6 t aA an ac kA kn kc) 33) (.cells (opCells o s) 26) (.cells zero6 33)
  obtain ⟨W3, hW3⟩ : ∃ W3, W3 = ((w.alloc (.cells (val6 t aA an ac kA kn kc) 33)).alloc (.cells (opCells o s) 26)).alloc (.cells zero6 33) := ⟨_, rfl⟩
  rw [← hW3] at z1 z2 z3 z4 z5
  have hT3 : ∀ k, T k → k < W3.heap.size := fun k hk => by have := hT k hk; omega
  have hpm := Nat.le_trans ho.pnc ho.pcm
  have hatc := Lib.hid (at_T T W3 hT3 t aA kA an ac kn kc (h.kept (fun _ h => h) fun k hk => z4.block k (hT k hk)) s.pA s.pn s.pc o.path (ho.path.below z4) hpm (by omega))
  have hkI : (o.kind : Int) = 4 := by omega
  have hh := Lib.hid (fun (W : World) (hb : Below w.heap.size w W) => h.kept (w' := W) (T' := T) (fun _ h => h) fun k hk => hb.block k (hT k hk))
  have hop := Lib.hid (fun (W : World) (hb : Below w.heap.size w W) => ho.path.below hb)
  have hap := Lib.hid (fun (W : World) (hb : Below w.heap.size w W) (T2 : Nat → Prop) (hT2 : ∀ k, T2 k → k < W.heap.size) (A : Option Addr) (n c : Nat) (hl : AtsIn T2 W A n y.attrs) (hnil : A = none → c = 0) (hnc : n ≤ c) (hcm : c ≤ maxLen) (hn : n ≤ 90000) => attrsBehind_any W T2 hT2 A n c y.attrs o s (ho.below hb) hl hnil hnc hcm hn hok)
  have hlaw : attrsW la ≤ attrsW y.attrs + 200000 := by rw [hlae]; have := doc_weigh o.key o.value y.attrs o.gone; revert this; cases o.gone <;> simp <;> omega
  rw [attr_both o.key o.value o.gone y.attrs [] hok, ← hlae] at hap
  rw [← hlae]
  have hyw := (at_count o.path t y hy).2
  obtain ⟨o0, o1, o2, o3, o4, o5, o6, o7, o8, o9, o10⟩ := op_cells z2
  have z1u := z1
  unfold val6 at z1u
  obtain ⟨p0, p1, p2, p3, p4, p5, pf⟩ := six_cells z1u
  have z1' := Lib.hid z1
  have z2' := Lib.hid z2
  have z3' := Lib.hid z3
  have z4' := Lib.hid z4
  have z5' := Lib.hid z5
  have hT' := Lib.hid hT
  have hy' := Lib.hid hy
  have hbig' := Lib.hid hbig
  have hyw' := Lib.hid hyw
  have hpm' := Lib.hid hpm
  have hlaw' := Lib.hid hlaw
  rw [hW3] at o0 o1 o2 o3 o4 o5 o6 o7 o8 o9 o10 p0 p1 p2 p3 p4 p5 pf hatc
  clear h ho hT hT3 z1 z1u z2 z3 z4 z5 hk hy hbig hyw hpm hlaw hlae hok
  unfold zero6 val6 opCells at hW3 hatc o0 o1 o2 o3 o4 o5 o6 o7 o8 o9 o10 p0 p1 p2 p3 p4 p5 pf
  unfold val6 opCells
  rw [hkI] at hW3 hatc o0 o1 o2 o3 o4 o5 o6 o7 o8 o9 o10 p0 p1 p2 p3 p4 p5
  rw [hkI]
  have hkI' := Lib.hid hkI
  clear hkI
  go_enter Try.func53, Try.ntmps53
  go_wp2_with (first
    | (go_at_call 33; go_loud (refine hatc.out.mono ?_; rw [← hW3]; rintro e w1 ⟨yA, yn, yc, yK, ym, yd, rfl, hny, hb⟩; rw [hy'.out] at hny ⊢; have hny' := Lib.hid hny; have hb' := Lib.hid hb; have r1 := (hb.block _ (by have := z5'.out; omega)).trans z1'.out; have r2 := (hb.block _ (by have := z5'.out; omega)).trans z2'.out; have r1' := Lib.hid r1; have r2' := Lib.hid r2; clear o0 o1 o2 o3 o4 o5 o6 o7 o8 o9 o10 p0 p1 p2 p3 p4 p5 pf; obtain ⟨o0, o1, o2, o3, o4, o5, o6, o7, o8, o9, o10⟩ := op_cells r2; rw [hkI'.out] at o0; have hs1 : w.heap.size + 1 + 1 < w1.heap.size := (by have := hb.size; have := z5'.out; omega); have hq0 : w1.heap.size ≠ w.heap.size := (by omega); have hq1 : w1.heap.size ≠ w.heap.size + 1 := (by omega); have hq2 : w.heap.size ≠ w1.heap.size := (by omega); have hq3 : w.heap.size + 1 ≠ w1.heap.size := (by omega); have hq4 : w.heap.size + 1 < w1.heap.size := (by omega); have hq5 : w.heap.size < w1.heap.size := (by omega); have u0 := fun O => (World.cell?_alloc_lt w1 O ⟨w.heap.size + 1, 0, none⟩ hq4).trans o0; have uu := fun O j v (h : w1.cell? ⟨w.heap.size + 1, j, none⟩ = some v) => (World.cell?_alloc_lt w1 O ⟨w.heap.size + 1, j, none⟩ hq4).trans h; have u1 := fun O => uu O 1 _ o1; have u2 := fun O => uu O 2 _ o2; have u3 := fun O => uu O 3 _ o3; have u4 := fun O => uu O 4 _ o4; have u5 := fun O => uu O 5 _ o5; have u6 := fun O => uu O 6 _ o6; have u7 := fun O => uu O 7 _ o7; have u8 := fun O => uu O 8 _ o8; have u9 := fun O => uu O 9 _ o9; have u10 := fun O => uu O 10 _ o10; have hfx := hny.facts; have hyc := hfx.anc; have hycm := hfx.acm; have hats := Lib.hid (show AtsIn (Nw T W3 w1) w1 yA yn y.attrs from hfx.ats); have hyan := Lib.hid hfx.anil; have hyal : y.attrs.length = yn := hfx.ats.1; have hcall := (fun O => hap.out (w1.alloc O) ((z4'.out.trans (hb.mono z4'.out.size)).alloc (by omega) O) (Nw T W3 w1) (fun k hk => by (have hs2 := World.size_alloc w1 O); (rcases hk with hk | hk); (have := hT'.out k hk; omega); (have := hk.2; omega)) yA yn yc (hats.out.kept (fun _ h => h) (fun k hk => Go.heap_alloc_old _ _ (by (rcases hk with hk | hk); (have := hT'.out k hk; omega); (exact hk.2)))) hyan.out hyc hycm (by have h1 := (weigh_rows y).1; have h2 := hyw'.out; have h3 := hbig'.out; omega)); unfold opCells at hcall; rw [hkI'.out] at hcall; have hcall' := Lib.hid hcall; clear uu hfx hyc hycm hyal hcall hny hb r1 r2; unfold val6))
    | (go_at_call 83; go_loud (refine (hcall'.out _).mono ?_; rintro e w2 ⟨A9, n9, c9, rfl, hat9, hnc9, hcm9, hnil9, hb2⟩; have r9 := (hb2.block w1.heap.size (by rw [World.size_alloc]; omega)).trans (heap_alloc_new w1 _); obtain ⟨g0, g1, g2, g3, g4, g5, gf⟩ := six_cells r9; have hsz2 : w1.heap.size < w2.heap.size := (by have := hb2.size; rw [World.size_alloc] at this; omega); have r1 := (hb2.block w.heap.size (by rw [World.size_alloc]; omega)).trans ((Go.heap_alloc_old w1 _ hq5).trans r1'.out); have r2 := (hb2.block (w.heap.size + 1) (by rw [World.size_alloc]; omega)).trans ((Go.heap_alloc_old w1 _ hq4).trans r2'.out); unfold val6 at r1; obtain ⟨p0, p1, p2, p3, p4, p5, pf⟩ := six_cells r1; clear o0 o1 o2 o3 o4 o5 o6 o7 o8 o9 o10 u0 u1 u2 u3 u4 u5 u6 u7 u8 u9 u10; obtain ⟨o0, o1, o2, o3, o4, o5, o6, o7, o8, o9, o10⟩ := op_cells r2; rw [hkI'.out] at o0; have hmk := (fun v => mid_kept (c := 3) (v := v) z4'.out hb'.out hb2); have hmk' := Lib.hid hmk; have hoth := Lib.hid (fun v k (h : k ≠ w1.heap.size) => heap_setCell_other w2 ⟨w1.heap.size, 3, none⟩ k v h); have hs9 : ∀ v, (w2.setCell ⟨w1.heap.size, 3, none⟩ v).heap.size = w2.heap.size := (fun v => by simp); have hs9' := Lib.hid hs9; have hatT : AtsIn (fun k => w1.heap.size + 1 ≤ k ∧ k < w2.heap.size) w2 A9 n9 la := (by (rw [World.size_alloc] at hat9); exact hat9); have hput := (fun v => tput_T (fun k => Nw T W3 w1 k ∨ (w1.heap.size + 1 ≤ k ∧ k < w2.heap.size)) (w2.setCell ⟨w1.heap.size, 3, none⟩ v) (fun k hk => by (rw [hs9]); (rcases hk with hk | hk); (rcases hk with hk | hk); (have := hT'.out k hk; omega); (have := hk.2; omega); (exact hk.2)) t (attN y la) aA kA A9 yK an ac kn kc n9 c9 ym yd (NodeV.kept (fun k hk => .inl (.inl hk)) (fun _ _ => rfl) _ _ _ _ _ _ _ (hh.out _ (hmk v).2.2)) (attN_node (NodeV.kept (fun k hk => .inl hk) (fun k hk => (hmk v).1 k (by (rcases hk with hk | hk); (have := hT'.out k hk; omega); (exact hk.2))) _ _ _ _ _ _ _ hny'.out) (hatT.kept (fun k hk => .inr hk) (fun k hk => hoth.out v k (by have := hk.1; omega))) hnc9 hcm9 hnil9) s.pA s.pn s.pc o.path (hop.out _ (hmk v).2.2) hpm'.out (by have := hbig'.out; omega) (by have h1 := attN_weigh y la; have h2 := hyw'.out; have h3 := hbig'.out; have h4 := hlaw'.out; have h5 := weighV_eq y; omega)); have we := attN_id y la; unfold val6 at hput; rw [we.1, we.2.1, we.2.2.1, we.2.2.2.1] at hput; have hput' := Lib.hid hput; clear hb2 r1 r2 r9 hmk hput we hs9 hatT hat9))
    | (go_at_call 85; go_loud (refine (hput'.out _).mono ?_; rintro e w9 ⟨zA, zn, zc, zK, zm, zd, rfl, hz, hbz⟩; have hsa := hbz.size; rw [hs9'.out] at hsa; have r3 := (hbz.block (w.heap.size + 1 + 1) (by rw [hs9'.out]; omega)).trans (((hmk'.out _).1 _ hs1).trans ((hb'.out.block _ (by have := z5'.out; omega)).trans z3'.out)); have hr := Lib.hid r3; have hz' := Lib.hid (show NodeV (fun k => T k ∨ (W3.heap.size ≤ k ∧ k < w9.heap.size)) w9 zA zn zc zK zm zd _ from hz.kept (fun k hk => by (have hsb := hb'.out.size); (rcases hk with hk | hk); (rcases hk with hk | hk); (rcases hk with hk | hk); (exact .inl hk); (exact .inr ⟨hk.1, by have := hk.2; omega⟩); (exact .inr ⟨by have := hk.1; omega, by have := hk.2; omega⟩); (exact .inr ⟨by have := hk.1; rw [hs9'.out] at this; omega, hk.2⟩)) (fun _ _ => rfl)); have hbz' := Lib.hid ((hmk'.out _).2.2.trans (hbz.mono (hmk'.out _).2.2.size)); unfold zero6 at r3; clear o0 o1 o2 o3 o4 o5 o6 o7 o8 o9 o10 p0 p1 p2 p3 p4 p5 pf g0 g1 g2 g3 g4 g5 gf; obtain ⟨q0, q1, q2, q3, q4, q5, qf⟩ := six_cells r3; have hne : w.heap.size + 1 + 1 < w9.heap.size := (by omega); have hne2 : w9.heap.size ≠ w.heap.size + 1 + 1 := (by omega); have hne3 : w.heap.size + 1 + 1 ≠ w9.heap.size := (by omega); unfold val6; clear hz hbz r3 hsa)))
  obtain ⟨a, ha⟩ : ∃ a, a = (putV t o.path (attN y la)).getD Nd.zero := ⟨_, rfl⟩
  rw [← ha] at hz' ⊢
  obtain ⟨W9, hW9, R9, N9, B9⟩ := end_node0 hT'.out (r := w.heap.size + 1 + 1) (b := W3.heap.size) (by omega) (by have := z5'.out; omega) hbz'.out hr.out hz'.out
  rw [← hW9]
  unfold val6 at R9
  obtain ⟨d0, d1, d2, d3, d4, d5, df⟩ := six_cells R9
  refine bodyPost_ret (v := .agg (val6 a zA zn zc zK zm zd)) (by simp [results, Try.results53, go_sem, d0, d1, d2, d3, d4, d5, val6]) rfl ?_
  exact ⟨zA, zn, zc, zK, zm, zd, rfl, N9, B9⟩
end Go.Proofs.Ytoeblaecldhcaaa.Top
/- done, whole; the program's Apply. -/
namespace Go.Proofs.Ytoeblaecldhcaaa.Top
open Go.RowKit
set_option maxRecDepth 20000
set_option linter.unusedVariables false

/-- an operation that says little -/
structure Slim (o : Ov) : Prop where
  label : o.label.length ≤ 80000
  key : o.key.length ≤ 80000
  value : o.value.length ≤ 80000
  puts : P5.putsI o.pieces ≤ 80000
/-- the tree behind an operation that is valid -/
def afterV (t : Nd) (o : Ov) : Nd :=
  if o.kind = 1 then (modV t o.path (insK o.at_.toNat (.mk o.id o.leaf o.label [] [] []))).getD Nd.zero
  else if o.kind = 2 then (delAt t o.path).getD Nd.zero
  else if o.kind = 3 then ((modV t o.to_ (insK o.at_.toNat ((atV t o.path).getD Nd.zero))).bind fun m => delAt m (docFrom o.path o.to_ o.at_.toNat)).getD Nd.zero
  else if o.kind = 4 then ((atV t o.path).bind fun y => putV t o.path (attN y (docA o.key o.value y.attrs o.gone))).getD Nd.zero
  else if o.kind = 5 then ((atV t o.path).bind fun y => putV t o.path (labN y o.label)).getD Nd.zero
  else ((atV t o.path).bind fun y => putV t o.path (textN y (Ltx.apply y.text (pcs o.pieces)))).getD Nd.zero
theorem puts_pcs : ∀ l : List P5.IP, Ltx.puts (pcs l) = P5.putsI l
  | [] => rfl
  | x :: r => by
    have ih := puts_pcs r
    simp only [pcs, List.map_cons, Ltx.puts, P5.putsI] at ih ⊢
    omega
theorem rights_at : ∀ (p : List Int) (t y : Nd), rightsV ltB t = true → atV t p = some y → rightsV ltB y = true
  | [], t, y, h, ha => by
    simp only [atV, Option.some.injEq] at ha
    subst ha
    exact h
  | i :: p, t, y, h, ha => by
    obtain ⟨j, k, rfl, hk, hw⟩ := atV_cons ha
    rw [rightsV_eq, Bool.and_eq_true] at h
    refine rights_at p k y ?_ hw
    have : ∀ l : List Nd, rightssV ltB l = true → k ∈ l → rightsV ltB k = true := by
      intro l
      induction l with
      | nil => intro _ hm; cases hm
      | cons a r ih =>
        intro hr hm
        rw [rightssV, Bool.and_eq_true] at hr
        cases hm with
        | head => exact hr.1
        | tail _ hm => exact ih hr.2 hm
    exact this _ h.2 (List.mem_of_getElem? hk)
theorem rights_attrs {y : Nd} (h : rightsV ltB y = true) : attrsOk ltB [] y.attrs = true := by
  rw [rightsV_eq, Bool.and_eq_true] at h
  unfold aloneOk at h
  simp only [Bool.and_eq_true] at h
  exact h.1.1.2
theorem may_nat {o : Ov} (h : formedV o = true) : P4.mayV o.path = true := by
  unfold formedV at h
  rw [Bool.and_eq_true] at h
  exact h.1
theorem form_kind {o : Ov} (h : formedV o = true) (h1 : o.kind ≠ 1) (h2 : o.kind ≠ 2) (h3 : o.kind ≠ 3) (h4 : o.kind ≠ 4) (h5 : o.kind ≠ 5) : o.kind = 6 := by
  unfold formedV at h
  rw [if_neg h1, if_neg h2, if_neg h3, if_neg h4, if_neg h5] at h
  by_cases h6 : o.kind = 6
  · exact h6
  · rw [if_neg h6, Bool.and_false] at h; cases h
/-- what holds of an operation with which nothing is wrong -/
theorem fault_none {t : Nd} {o : Ov} (h : faultV t o = 0) : formedV o = true ∧ ¬ ((o.kind = 2 ∨ o.kind = 3) ∧ o.path = []) ∧ ∃ x, atV t o.path = some x ∧ (o.kind = 1 → gapE x o.at_ = 0) ∧ (o.kind = 3 → P4.withinV o.path o.to_ = false ∧ ∃ y, atV t o.to_ = some y ∧ gapE y o.at_ = 0) ∧ (o.kind = 6 → editE x o.pieces = 0) := by
  unfold faultV at h
  by_cases hf : formedV o = false
  · rw [if_pos hf] at h; omega
  · rw [if_neg hf] at h
    have hf' : formedV o = true := by cases hh : formedV o; exact absurd hh hf; rfl
    by_cases hr : (o.kind = 2 ∨ o.kind = 3) ∧ o.path = []
    · rw [if_pos hr] at h; omega
    · rw [if_neg hr] at h
      refine ⟨hf', hr, ?_⟩
      cases hx : atV t o.path with
      | none => rw [hx] at h; dsimp only at h; omega
      | some x =>
        rw [hx] at h
        dsimp only at h
        refine ⟨x, rfl, fun h1 => ?_, fun h3 => ?_, fun h6 => ?_⟩
        · rw [if_pos h1] at h; exact h
        · rw [if_neg (by omega), if_pos h3] at h
          by_cases hw : P4.withinV o.path o.to_ = true
          · rw [if_pos hw] at h; omega
          · rw [if_neg hw] at h
            refine ⟨by cases hh : P4.withinV o.path o.to_; rfl; exact absurd hh hw, ?_⟩
            cases hy : atV t o.to_ with
            | none => rw [hy] at h; dsimp only at h; omega
            | some y => rw [hy] at h; exact ⟨y, rfl, h⟩
        · rw [if_neg (by omega), if_neg (by omega), if_pos h6] at h; exact h
theorem gap_none {y : Nd} {i : Int} (h : gapE y i = 0) : y.leaf = false ∧ i ≤ y.kids.length := by
  unfold gapE at h
  cases hl : y.leaf with
  | true => rw [hl] at h; simp at h
  | false =>
    rw [hl] at h
    simp only [Bool.false_eq_true, if_false] at h
    refine ⟨rfl, ?_⟩
    by_cases hg : (y.kids.length : Int) < i
    · rw [if_pos hg] at h; omega
    · omega
theorem edit_none {x : Nd} {l : List P5.IP} (h : editE x l = 0) : x.leaf = true ∧ Ltx.extent (pcs l) ≤ x.text.length := by
  unfold editE fitE at h
  cases hl : x.leaf with
  | false => rw [hl] at h; simp at h
  | true =>
    rw [hl] at h
    simp only [if_true] at h
    refine ⟨rfl, ?_⟩
    by_cases hg : Ltx.extent (pcs l) ≤ x.text.length
    · exact hg
    · rw [if_neg hg] at h; omega
theorem path_last {p : List Int} (h : p ≠ []) (hm : P4.mayV p = true) : ∃ q, ∃ c : Nat, p = q ++ [(c : Int)] := by
  obtain ⟨q, c, rfl⟩ : ∃ q c, p = q ++ [c] := ⟨p.dropLast, p.getLast h, (List.dropLast_concat_getLast h).symm⟩
  have := (of_decide_eq_true hm).2 c (by simp)
  exact ⟨q, c.toNat, by rw [Int.toNat_of_nonneg this.1]⟩
theorem gap_nat {o : Ov} (h : gapB o.at_ = true) : ∃ g : Nat, o.at_ = (g : Int) ∧ g ≤ 1048576 := by
  have := of_decide_eq_true h
  exact ⟨o.at_.toNat, by omega, by omega⟩
/-- a Move told both ways -/
theorem move_value {t x y : Nd} {o : Ov} {g : Nat} (hk : o.kind = 3) (hg : o.at_ = (g : Int)) (hx : atV t o.path = some x) (hy : atV t o.to_ = some y) (hne : o.path ≠ []) (hw : P4.withinV o.path o.to_ = false) (hgl : g ≤ y.kids.length) :
    ∃ m1 m2 y2 r, modV t o.to_ (insK g x) = some m1 ∧ delAt m1 (docFrom o.path o.to_ g) = some r ∧ delAt t o.path = some m2 ∧ atV m2 (progTo o.path o.to_ g).1 = some y2 ∧ (progTo o.path o.to_ g).2 ≤ y2.kids.length ∧ putV m2 (progTo o.path o.to_ g).1 (y2.withKids (insK (progTo o.path o.to_ g).2 x y2.kids)) = some r ∧ afterV t o = r := by
  have hpre : ¬ o.path <+: o.to_ := by rw [within_pre] at hw; exact of_decide_eq_false hw
  obtain ⟨m1, m2, r, h1, h2, h3, h4⟩ := move_both o.path o.to_ t x y x g hx hy hne hpre hgl
  obtain ⟨m2', y2, h5, h6, h7⟩ := at_after o.path o.to_ t x y g hx hy hne hpre hgl
  rw [h3] at h5
  injection h5 with h5
  subst h5
  rw [mod_at h6] at h4
  refine ⟨m1, m2, y2, r, h1, h2, h3, h6, h7, h4, ?_⟩
  unfold afterV
  rw [if_neg (by omega), if_neg (by omega), if_pos hk, hx, hg]
  simp only [Option.getD_some, Int.toNat_natCast]
  rw [h1]
  simp only [Option.bind_some]
  rw [h2]
  rfl
theorem done_any (T : Nat → Prop) (w : World) (hT : ∀ k, T k → k < w.heap.size) (t : Nd) (aA kA : Option Addr) (an ac kn kc : Nat) (h : NodeV T w aA an ac kA kn kc t) (o : Ov) (s : OS) (ho : OpIn w o s) (hs : Slim o) (hbig : weighV t ≤ 40000) (hr : rightsV ltB t = true) (hf : faultV t o = 0) :
    Calls Try.prog 53 #[.agg (val6 t aA an ac kA kn kc), .agg (opCells o s)] w (NodeA T w (afterV t o)) := by
  obtain ⟨hfm, hroot, x, hx, h1, h3, h6⟩ := fault_none hf
  have hmay := may_nat hfm
  by_cases k1 : o.kind = 1
  · have hgb : gapB o.at_ = true := by
      unfold formedV at hfm
      rw [if_pos k1] at hfm
      simp only [Bool.and_eq_true] at hfm
      exact hfm.2.1
    obtain ⟨g, hg, -⟩ := gap_nat hgb
    have hgl := (gap_none (h1 k1)).2
    rw [show afterV t o = (putV t o.path (x.withKids (insK g (.mk o.id o.leaf o.label [] [] []) x.kids))).getD Nd.zero by
      unfold afterV
      rw [if_pos k1, mod_at hx, hg, Int.toNat_natCast]]
    exact done_insert T w hT t x aA kA an ac kn kc h o s ho k1 hs.label g hg (by omega) hx (by omega)
  · by_cases k2 : o.kind = 2
    · have hne : o.path ≠ [] := fun e => hroot ⟨.inl k2, e⟩
      obtain ⟨q, c, hq⟩ := path_last hne hmay
      have hx2 := hx
      rw [hq] at hx2
      obtain ⟨y, m, d1, d2, d3, d4, -⟩ := del_all hx2
      rw [show afterV t o = (putV t q (y.withKids (delK c y.kids))).getD Nd.zero by
        unfold afterV
        rw [if_neg k1, if_pos k2, hq, d4, d3]]
      exact done_delete T w hT t y aA kA an ac kn kc h o s ho k2 ho.pfew ho.pnil q c hq (by omega) d1 d2
    · by_cases k3 : o.kind = 3
      · have hne : o.path ≠ [] := fun e => hroot ⟨.inr k3, e⟩
        obtain ⟨q, c, hq⟩ := path_last hne hmay
        obtain ⟨hw, y, hy, hge⟩ := h3 k3
        have hfm3 := hfm
        unfold formedV at hfm3
        rw [if_neg k1, if_neg k2, if_pos k3] at hfm3
        simp only [Bool.and_eq_true] at hfm3
        obtain ⟨g, hg, hg1⟩ := gap_nat hfm3.2.1
        have hgl := (gap_none hge).2
        obtain ⟨m1, m2, y2, r, v1, v2, v3, v4, v5, v6, v7⟩ := move_value k3 hg hx hy hne hw (by omega)
        rw [show afterV t o = (putV m2 (progTo o.path o.to_ g).1 (y2.withKids (insK (progTo o.path o.to_ g).2 x y2.kids))).getD Nd.zero by rw [v6, v7]; rfl]
        exact done_move T w hT t x y m2 y2 aA kA an ac kn kc h o s ho k3 q c hq hbig hx hy g hg hg1 hfm3.2.2 v3 v4 v5
      · by_cases k4 : o.kind = 4
        · rw [show afterV t o = (putV t o.path (attN x (docA o.key o.value x.attrs o.gone))).getD Nd.zero by
            unfold afterV
            rw [if_neg k1, if_neg k2, if_neg k3, if_pos k4, hx]
            rfl]
          exact done_attr T w hT t x aA kA an ac kn kc h o s ho k4 (by omega) hx (rights_attrs (rights_at _ _ _ hr hx)) hs.key hs.value
        · by_cases k5 : o.kind = 5
          · rw [show afterV t o = (putV t o.path (labN x o.label)).getD Nd.zero by
              unfold afterV
              rw [if_neg k1, if_neg k2, if_neg k3, if_neg k4, if_pos k5, hx]
              rfl]
            exact done_relabel T w hT t x aA kA an ac kn kc h o s ho k5 hs.label (by omega) hx
          · have k6 := form_kind hfm k1 k2 k3 k4 k5
            have hrp : P5.rightV o.pieces = true := by
              have hh := hfm
              unfold formedV at hh
              rw [if_neg k1, if_neg k2, if_neg k3, if_neg k4, if_neg k5, if_pos k6, Bool.and_eq_true] at hh
              exact hh.2
            rw [show afterV t o = (putV t o.path (textN x (Ltx.apply x.text (pcs o.pieces)))).getD Nd.zero by
              unfold afterV
              rw [if_neg k1, if_neg k2, if_neg k3, if_neg k4, if_neg k5, hx]
              rfl]
            exact done_edit T w hT t x aA kA an ac kn kc h o s ho k6 (by omega) hx hrp (edit_none (h6 k6)).2 (by
              have e1 := Ltx.apply_len (pcs o.pieces) x.text
              have e2 := puts_pcs o.pieces
              have e3 := hs.puts
              have e4 := (at_count o.path t x hx).2
              have e5 := weighV_eq x
              omega)
/-- a tree and an error are answered; the tree lies in T, or in new blocks -/
def AppA (T : Nat → Prop) (w : World) (a : Nd) (k : Int) (e : Ending) (w' : World) : Prop :=
  ∃ aA an ac kA kn kc, e = .returned (.tuple #[.agg (val6 a aA an ac kA kn kc), .int .i64 k]) ∧ NodeV (Nw T w w') w' aA an ac kA kn kc a ∧ Below w.heap.size w w'
def applyV (t : Nd) (o : Ov) : Nd := if validV t o = 0 then afterV t o else Nd.zero
set_option maxHeartbeats 4000000 in
theorem apply_any (w : World) (t : Nd) (aA kA : Option Addr) (an ac kn kc : Nat) (h : NodeV (Old w) w aA an ac kA kn kc t) (o : Ov) (s : OS) (ho : OpIn w o s) (hs : Slim o) (hbig : weighV t ≤ 40000) :
    Calls Try.prog 19 #[.agg (val6 t aA an ac kA kn kc), .agg (opCells o s)] w (AppA (Old w) w (applyV t o) (validV t o)) := by
  obtain ⟨z1, z2, z3, z4, z5⟩ := three_new w (.cells (val6 t aA an ac kA kn kc) 33) (.cells (opCells o s) 26) (.cells zero6 33)
  obtain ⟨W3, hW3⟩ : ∃ W3, W3 = ((w.alloc (.cells (val6 t aA an ac kA kn kc) 33)).alloc (.cells (opCells o s) 26)).alloc (.cells zero6 33) := ⟨_, rfl⟩
  rw [← hW3] at z1 z2 z3 z4 z5
  have hval := Lib.hid (valid_any W3 t aA kA an ac kn kc o s (h.below z4) (ho.below z4) (by omega))
  have hdone := Lib.hid (fun (hv : validV t o = 0) (W : World) (hb : Below w.heap.size w W) => done_any (Old w) W (fun k hk => Nat.lt_of_lt_of_le hk hb.size) t aA kA an ac kn kc (h.kept (fun _ h => h) fun k hk => hb.block k hk) o s (ho.below hb) hs hbig (by
    unfold validV at hv
    cases hr : rightV ltB t with
    | false => rw [hr] at hv; simp at hv
    | true => unfold rightV at hr; rw [Bool.and_eq_true] at hr; exact hr.2) (by
    unfold validV at hv
    cases hr : rightV ltB t with
    | false => rw [hr] at hv; simp at hv
    | true => rw [hr] at hv; simpa using hv))
  obtain ⟨o0, o1, o2, o3, o4, o5, o6, o7, o8, o9, o10⟩ := op_cells z2
  have z1u := z1
  unfold val6 at z1u
  obtain ⟨p0, p1, p2, p3, p4, p5, pf⟩ := six_cells z1u
  have z1' := Lib.hid z1
  have z2' := Lib.hid z2
  have z3' := Lib.hid z3
  have z4' := Lib.hid z4
  have z5' := Lib.hid z5
  rw [hW3] at o0 o1 o2 o3 o4 o5 o6 o7 o8 o9 o10 p0 p1 p2 p3 p4 p5 pf hval
  obtain ⟨vv, hvv⟩ : ∃ vv, vv = validV t o := ⟨_, rfl⟩
  rw [← hvv] at hval hdone ⊢
  have hap := Lib.hid (show applyV t o = if vv = 0 then afterV t o else Nd.zero by unfold applyV; rw [← hvv])
  rw [hap.out]
  clear h ho z1 z1u z2 z3 z4 z5 hvv hap
  unfold val6 opCells at hdone
  unfold zero6 val6 opCells at hW3 hval o0 o1 o2 o3 o4 o5 o6 o7 o8 o9 o10 p0 p1 p2 p3 p4 p5 pf
  unfold val6 opCells
  by_cases hv : vv = 0
  · rw [if_pos hv]
    have hdone' := Lib.hid (hdone.out hv)
    subst hv
    clear hdone
    go_enter Try.func19, Try.ntmps19
    go_wp2_with (first
      | (go_at_call 15; go_loud (refine hval.out.mono ?_; rw [← hW3]; rintro e w1 ⟨rfl, hb⟩; have hb' := Lib.hid hb; have r1 := (hb.block _ (by have := z5'.out; omega)).trans z1'.out; have r2 := (hb.block _ (by have := z5'.out; omega)).trans z2'.out; clear o0 o1 o2 o3 o4 o5 o6 o7 o8 o9 o10 p0 p1 p2 p3 p4 p5 pf; obtain ⟨o0, o1, o2, o3, o4, o5, o6, o7, o8, o9, o10⟩ := op_cells r2; unfold val6 at r1; obtain ⟨p0, p1, p2, p3, p4, p5, pf⟩ := six_cells r1; clear hb r1 r2))
      | (go_at_call 53; go_loud (refine (hdone'.out w1 (z4'.out.trans (hb'.out.mono z4'.out.size))).mono ?_; rintro e w9 ⟨zA, zn, zc, zK, zm, zd, rfl, hz, hbz⟩; have hsa := hbz.size; have hsb := hb'.out.size; have r3 := (hbz.block (w.heap.size + 1 + 1) (by have := z5'.out; omega)).trans ((hb'.out.block _ (by have := z5'.out; omega)).trans z3'.out); have hr := Lib.hid r3; have hz' := Lib.hid (show NodeV (fun k => Old w k ∨ (W3.heap.size ≤ k ∧ k < w9.heap.size)) w9 zA zn zc zK zm zd _ from hz.kept (fun k hk => by (rcases hk with hk | hk); (exact .inl hk); (exact .inr ⟨by have := hk.1; omega, hk.2⟩)) (fun _ _ => rfl)); have hbz' := Lib.hid ((z4'.out.trans (hb'.out.mono z4'.out.size)).trans (hbz.mono (by have := z5'.out; omega))); unfold zero6 at r3; clear o0 o1 o2 o3 o4 o5 o6 o7 o8 o9 o10 p0 p1 p2 p3 p4 p5 pf; obtain ⟨q0, q1, q2, q3, q4, q5, qf⟩ := six_cells r3; have hne : w.heap.size + 1 + 1 < w9.heap.size := (by have := z5'.out; omega); have hne2 : w9.heap.size ≠ w.heap.size + 1 + 1 := (by omega); have hne3 : w.heap.size + 1 + 1 ≠ w9.heap.size := (by omega); unfold val6; clear hz hbz r3 hsa hsb)))
    obtain ⟨a, ha⟩ : ∃ a, a = afterV t o := ⟨_, rfl⟩
    rw [← ha] at hz' ⊢
    obtain ⟨W9, hW9, R9, N9, B9⟩ := end_node0 (T := Old w) (fun k hk => hk) (r := w.heap.size + 1 + 1) (b := W3.heap.size) (by omega) (by have := z5'.out; omega) hbz'.out hr.out hz'.out
    rw [← hW9]
    unfold val6 at R9
    obtain ⟨d0, d1, d2, d3, d4, d5, df⟩ := six_cells R9
    refine bodyPost_ret (v := .tuple #[.agg (val6 a zA zn zc zK zm zd), .int .i64 0]) (by simp [results, Try.results19, go_sem, d0, d1, d2, d3, d4, d5, val6]) rfl ?_
    exact ⟨zA, zn, zc, zK, zm, zd, rfl, N9, B9⟩
  · rw [if_neg hv]
    have hvb : (vv == 0) = false := by simpa using hv
    have hvn : (vv != 0) = true := by simpa using hv
    clear hdone
    go_enter Try.func19, Try.ntmps19
    go_wp2_with (go_at_call 15; go_loud (refine hval.out.mono ?_; rw [← hW3]; rintro e w1 ⟨rfl, hb⟩; have hb' := Lib.hid hb; have hsb := hb.size; have r3 := (hb.block (w.heap.size + 1 + 1) (by have := z5'.out; omega)).trans z3'.out; have hr := Lib.hid r3; clear o0 o1 o2 o3 o4 o5 o6 o7 o8 o9 o10 p0 p1 p2 p3 p4 p5 pf; unfold zero6 at r3; obtain ⟨q0, q1, q2, q3, q4, q5, qf⟩ := six_cells r3; have hne : w.heap.size + 1 + 1 < w1.heap.size := (by have := z5'.out; omega); clear hb hsb r3))
    obtain ⟨W9, hW9, R9, N9, B9⟩ := end_node0 (T := Old w) (a := Nd.zero) (yA := none) (yn := 0) (yc := 0) (yK := none) (ym := 0) (yd := 0) (fun k hk => hk) (r := w.heap.size + 1 + 1) (b := W3.heap.size) (by omega) (by have := z5'.out; omega) (z4'.out.trans (hb'.out.mono z4'.out.size)) hr.out zero_node
    have hW9' : W9 = ((((((w1.setCell ⟨w.heap.size + 1 + 1, 0, none⟩ (.int .u64 0)).setCell ⟨w.heap.size + 1 + 1, 1, none⟩ (.bool false)).setCell ⟨w.heap.size + 1 + 1, 2, none⟩ (.string ⟨#[]⟩)).setCell ⟨w.heap.size + 1 + 1, 3, none⟩ (.slice none 0 0)).setCell ⟨w.heap.size + 1 + 1, 4, none⟩ (.string ⟨#[]⟩)).setCell ⟨w.heap.size + 1 + 1, 5, none⟩ (.slice none 0 0)) := hW9
    rw [← hW9']
    unfold val6 at R9
    obtain ⟨d0, d1, d2, d3, d4, d5, df⟩ := six_cells R9
    refine bodyPost_ret (v := .tuple #[.agg (val6 Nd.zero none 0 0 none 0 0), .int .i64 vv]) (by simp [results, Try.results19, go_sem, d0, d1, d2, d3, d4, d5, val6]) rfl ?_
    exact ⟨none, 0, 0, none, 0, 0, rfl, N9, B9⟩
end Go.Proofs.Ytoeblaecldhcaaa.Top
