/- MgAL: TopPm TopW TopX TopEa TopDe TopDf TopDd TopVa TopDg TopDh ShfAft ShfAfu ShfFol ShfApp TopCa TopMc TopXa TopXb TopXc -/
import Derived.Test.YtpoenlhikanooaaMgAJ
import Derived.Test.YtpoenlhikanooaaMgAK
import Derived.Deep.CutRange
import Derived.Deep.CutBlock
import Derived.Test.YtpoenlhikanooaaMgAF
import Derived.Test.YtpoenlhikanooaaMgAE
import Derived.Deep.Cut
import Derived.Test.YtpoenlhikanooaaMgAI
set_option linter.all false
/- The program's moved. -/
namespace Go.Proofs.Ytpoenlhikanooaa.Top
open Go.RowKit
set_option maxRecDepth 20000
set_option linter.unusedVariables false

theorem at_parent : ∀ (q : List Int) (t x : Nd) (c : Int), atV t (q ++ [c]) = some x → ∃ y j, atV t q = some y ∧ c = (j : Nat) ∧ y.kids[j]? = some x
  | [], t, x, c, h => by
    obtain ⟨j, k, rfl, hk, hx⟩ := atV_cons h
    simp only [atV, Option.some.injEq] at hx
    subst hx
    exact ⟨t, j, rfl, rfl, hk⟩
  | i :: q, t, x, c, h => by
    obtain ⟨j, k, rfl, hk, hx⟩ := atV_cons h
    obtain ⟨y, m, h1, h2, h3⟩ := at_parent q k x c hx
    exact ⟨y, m, by rw [atV_nat hk]; exact h1, h2, h3⟩
/-- the tree without a node, weighed -/
theorem del_all {t x : Nd} {q : List Int} {c : Nat} (h : atV t (q ++ [(c : Int)]) = some x) : ∃ y m, atV t q = some y ∧ c < y.kids.length ∧ putV t q (y.withKids (delK c y.kids)) = some m ∧ delAt t (q ++ [(c : Int)]) = some m ∧ weighV m ≤ weighV t := by
  obtain ⟨y, j, h1, h2, h3⟩ := at_parent q t x _ h
  obtain rfl : c = j := by omega
  obtain ⟨m, p1, -, -, -, p5⟩ := put_all q t (y.withKids (delK c y.kids)) y h1
  have hw := weighV_with y (delK c y.kids)
  have hd := weighs_del c y.kids
  refine ⟨y, m, h1, (List.getElem?_eq_some_iff.1 h3).1, p1, ?_, by omega⟩
  rw [delAt_snoc, mod_at h1]
  exact p1
set_option maxHeartbeats 4000000 in
theorem moved_T (T : Nat → Prop) (w : World) (hT : ∀ k, T k → k < w.heap.size) (t x y m2 y2 : Nd) (aA kA : Option Addr) (an ac kn kc : Nat) (h : NodeV T w aA an ac kA kn kc t) (o : Ov) (s : OS) (ho : OpIn w o s) (q : List Int) (c : Nat) (hq : o.path = q ++ [(c : Int)]) (hbig : weighV t ≤ 40000)
    (hx : atV t o.path = some x) (hy : atV t o.to_ = some y) (g : Nat) (hg : o.at_ = (g : Int)) (hg1 : g ≤ 1048576) (hmay : P4.mayV o.to_ = true) (hm2 : delAt t o.path = some m2) (hy2 : atV m2 (progTo o.path o.to_ g).1 = some y2) (hg2 : (progTo o.path o.to_ g).2 ≤ y2.kids.length) :
    Calls Try.prog 111 #[.agg (val6 t aA an ac kA kn kc), .agg (opCells o s)] w (NodeA T w ((putV m2 (progTo o.path o.to_ g).1 (y2.withKids (insK (progTo o.path o.to_ g).2 x y2.kids))).getD Nd.zero)) := by
  obtain ⟨z1, z2, z3, z4, z5⟩ := three_new w (.cells (val6 t aA an ac kA kn kc) 42) (.cells (opCells o s) 26) (.cells zero6 42)
  obtain ⟨W3, hW3⟩ : ∃ W3, W3 = ((w.alloc (.cells (val6 t aA an ac kA kn kc) 42)).alloc (.cells (opCells o s) 26)).alloc (.cells zero6 42) := ⟨_, rfl⟩
  rw [← hW3] at z1 z2 z3 z4 z5
  have hT3 : ∀ k, T k → k < W3.heap.size := fun k hk => by have := hT k hk; omega
  have hpm := Nat.le_trans ho.pnc ho.pcm
  have hatc := Lib.hid (at_T T W3 hT3 t aA kA an ac kn kc (h.kept (fun _ h => h) fun k hk => z4.block k (hT k hk)) s.pA s.pn s.pc o.path (ho.path.below z4) hpm (by omega))
  have hh := Lib.hid (fun (W : World) (hb : Below w.heap.size w W) => h.kept (w' := W) (T' := T) (fun _ h => h) fun k hk => hb.block k (hT k hk))
  have hop := Lib.hid (fun (W : World) (hb : Below w.heap.size w W) => ho.below hb)
  have hpar := Lib.hid (fun (W : World) (hb : Below w.heap.size w W) => parent_c W s.pA s.pn s.pc q (c : Int) (hq ▸ ho.path.below hb) ho.pnil ho.pfew ho.pnc ho.pcm)
  have hxw := (at_count o.path t x hx).2
  obtain ⟨o0, o1, o2, o3, o4, o5, o6, o7, o8, o9, o10⟩ := op_cells z2
  have z1u := z1
  unfold val6 at z1u
  obtain ⟨p0, p1, p2, p3, p4, p5, pf⟩ := six_cells z1u
  have z1' := Lib.hid z1
  have z2' := Lib.hid z2
  have z3' := Lib.hid z3
  have z4' := Lib.hid z4
  have z5' := Lib.hid z5
  have hT' := Lib.hid hT
  have hx' := Lib.hid hx
  have hbig' := Lib.hid hbig
  have hxw' := Lib.hid hxw
  have hpm' := Lib.hid hpm
  have hg' := Lib.hid hg
  have hq' := Lib.hid hq
  have hm2' := Lib.hid hm2
  have hmay' := Lib.hid hmay
  have hy2' := Lib.hid hy2
  have hg2' := Lib.hid hg2
  rw [hW3] at o0 o1 o2 o3 o4 o5 o6 o7 o8 o9 o10 p0 p1 p2 p3 p4 p5 pf hatc
  clear h ho hT hT3 z1 z1u z2 z3 z4 z5 hx hbig hxw hpm hg hq hm2 hmay hy hy2 hg2
  unfold zero6 val6 opCells at hW3 hatc o0 o1 o2 o3 o4 o5 o6 o7 o8 o9 o10 p0 p1 p2 p3 p4 p5 pf
  unfold val6 opCells
  rw [hg'.out] at hW3 hatc o2 ⊢
  go_enter Try.func111, Try.ntmps111
  go_wp2_with (first
    | (go_at_call 35; go_loud (refine hatc.out.mono ?_; rw [← hW3]; rintro e w1 ⟨yA, yn, yc, yK, ym, yd, rfl, hny, hb⟩; rw [hx'.out] at hny ⊢; have hny' := Lib.hid hny; have hb' := Lib.hid hb; have r1 := (hb.block _ (by have := z5'.out; omega)).trans z1'.out; have r2 := (hb.block _ (by have := z5'.out; omega)).trans z2'.out; have r1' := Lib.hid r1; have r2' := Lib.hid r2; clear o0 o1 o2 o3 o4 o5 o6 o7 o8 o9 o10 p0 p1 p2 p3 p4 p5 pf; obtain ⟨o0, o1, o2, o3, o4, o5, o6, o7, o8, o9, o10⟩ := op_cells r2; have hs1 : w.heap.size + 1 + 1 < w1.heap.size := (by have := hb.size; have := z5'.out; omega); have hq0 : w1.heap.size ≠ w.heap.size := (by omega); have hq1 : w1.heap.size ≠ w.heap.size + 1 := (by omega); have hq2 : w.heap.size ≠ w1.heap.size := (by omega); have hq3 : w.heap.size + 1 ≠ w1.heap.size := (by omega); have hq4 : w.heap.size + 1 < w1.heap.size := (by omega); have hq5 : w.heap.size < w1.heap.size := (by omega); have u1 := fun O => (World.cell?_alloc_lt w1 O ⟨w.heap.size + 1, 1, none⟩ hq4).trans o1; clear hny hb r1 r2; unfold val6))
    | (go_at_call 97; go_loud (refine (hpar.out _ ((z4'.out.trans (hb'.out.mono z4'.out.size)).alloc (by omega) _)).mono ?_; rintro e w2 ⟨qA, qn, qc, rfl, hits, hqc, hqm, hqnil, hb2⟩; have r9 := (hb2.block w1.heap.size (by rw [World.size_alloc]; omega)).trans (heap_alloc_new w1 _); have r9' := Lib.hid r9; have hsz2 : w1.heap.size < w2.heap.size := (by have := hb2.size; rw [World.size_alloc] at this; omega); have r1 := (hb2.block w.heap.size (by rw [World.size_alloc]; omega)).trans ((Go.heap_alloc_old w1 _ hq5).trans r1'.out); have r2 := (hb2.block (w.heap.size + 1) (by rw [World.size_alloc]; omega)).trans ((Go.heap_alloc_old w1 _ hq4).trans r2'.out); have k2 := Lib.hid (fun k (hk : k < w1.heap.size) => (hb2.block k (by rw [World.size_alloc]; omega)).trans (Go.heap_alloc_old w1 _ hk)); have bw2 := Lib.hid (((z4'.out.trans (hb'.out.mono z4'.out.size)).alloc (by omega) _).trans (hb2.mono (by rw [World.size_alloc]; omega))); have q1' := Lib.hid r1; have q2' := Lib.hid r2; have hits' := Lib.hid hits; clear o0 o1 o2 o3 o4 o5 o6 o7 o8 o9 o10 u1; obtain ⟨o0, o1, o2, o3, o4, o5, o6, o7, o8, o9, o10⟩ := op_cells r2; rw [hg'.out] at o2; clear hb2 r1 r2 r9 hits)))
  rename_i K0 hK0
  go_quiet (fail)
  refine hK0 _ _ ?_
  clear hK0
  obtain ⟨W4, hW4⟩ : ∃ W4, W4 = w2.drewN nq := ⟨_, rfl⟩
  have bw4 := Lib.hid (show Below w.heap.size w W4 by rw [hW4]; exact draws bw2.out _)
  have k4 := Lib.hid (fun k (hk : k < w1.heap.size) => show W4.heap[k]? = w1.heap[k]? by rw [hW4]; exact k2.out k hk)
  have q1 := Lib.hid (show W4.heap[w.heap.size]? = some (.cells (val6 t aA an ac kA kn kc) 42 (0, 0)) by rw [hW4]; exact q1'.out)
  have q2 := Lib.hid (show W4.heap[w.heap.size + 1]? = some (.cells (opCells o s) 26 (0, 0)) by rw [hW4]; exact q2'.out)
  have q9 := Lib.hid (show W4.heap[w1.heap.size]? = some (.cells (val6 x yA yn yc yK ym yd) 42 (0, 0)) by rw [hW4]; exact r9'.out)
  have hit4 := Lib.hid (show Its W4 qA qn q by rw [hW4]; exact hits'.out.below (draws (Below.refl _ _) _))
  have hsz4 : w1.heap.size < W4.heap.size := by rw [hW4]; exact hsz2
  rw [← hW4]
  have hop' := Lib.hid hop.out
  clear hW4 o0 o1 o2 o3 o4 o5 o6 o7 o8 o9 o10 hpar hatc hop
  go_upto_block 0 with fail
  go_cut [10, 11] from 31 (fun v10 v11 wc => ∃ (A : Option Addr) (n c : Nat), v10 = .slice A n c ∧ v11 = .int .i64 ((progTo o.path o.to_ g).2 : Int) ∧ Its wc A n (progTo o.path o.to_ g).1 ∧ n ≤ maxLen ∧ Below W4.heap.size W4 wc)
  case first =>
    have hto := Lib.hid (hop'.out W4 bw4.out).to_
    have htoL := Lib.hid hto.out.1
    have htm : s.tn ≤ maxLen := Nat.le_trans (hop'.out W4 bw4.out).tnc (hop'.out W4 bw4.out).tcm
    have htnil := Lib.hid (hop'.out W4 bw4.out).tnil
    have hqL := Lib.hid hit4.out.1
    have hqn2 : qn ≤ maxLen := Nat.le_trans hqc hqm
    clear z1' z2' z3' z4' z5' hx' hy2' hg2' hm2' hny' hb' k4 q1 q2 q9 hxw' hbig' hh r9' q1' q2' bw2 k2 hits'
    have hsame := Lib.hid (P4.same_any W4 qA s.tA qn qc s.tn s.tc q o.to_ (its4 hit4.out) (its4 hto.out) hqn2)
    by_cases he : q = o.to_
    · have hs1 := Lib.hid (show P4.eqV q o.to_ = true from decide_eq_true he)
      rw [hs1.out] at hsame
      have hpt := Lib.hid (show progTo o.path o.to_ g = (o.to_, if (c : Int) < (g : Int) then g - 1 else g) by rw [hq'.out, ← he, progTo_same])
      clear he
      by_cases hcg : (c : Int) < (g : Int)
      · have hw1 : IntKind.i64.wrap ((g : Int) - 1) = (g : Int) - 1 := IntWalk.i64_in _ (by omega)
        have hg3 := Lib.hid (show ((g - 1 : Nat) : Int) = (g : Int) - 1 by omega)
        go_wp2_with (go_at_call 62; go_loud (refine hsame.out.mono ?_; rintro e w5 ⟨rfl, k5, rfl⟩))
        go_meet
        rw [hpt.out, if_pos hcg]
        exact ⟨_, _, _, rfl, by rw [hg3.out], hto.out.below (draws (Below.refl _ _) _), htm, draws (Below.refl _ _) _⟩
      · go_wp2_with (go_at_call 62; go_loud (refine hsame.out.mono ?_; rintro e w5 ⟨rfl, k5, rfl⟩))
        go_meet
        rw [hpt.out, if_neg (show ¬ (c : Int) < (g : Int) by omega)]
        exact ⟨_, _, _, rfl, rfl, hto.out.below (draws (Below.refl _ _) _), htm, draws (Below.refl _ _) _⟩
    · have hs1 := Lib.hid (show P4.eqV q o.to_ = false from decide_eq_false he)
      rw [hs1.out] at hsame
      have hwith := Lib.hid (fun (W : World) (hb : Below W4.heap.size W4 W) => P4.within_any W qA s.tA qn qc s.tn s.tc q o.to_ (its4 (hit4.out.below hb)) (its4 (hto.out.below hb)) hqn2 htm)
      by_cases hpre : q <+: o.to_
      · have hw2 := Lib.hid (show P4.withinV q o.to_ = true by rw [within_pre]; exact decide_eq_true hpre)
        rw [hw2.out] at hwith
        obtain ⟨r, hr⟩ := hpre
        cases r with
        | nil => exact absurd (by simpa using hr) he
        | cons e r =>
          have hpt := Lib.hid (show progTo o.path o.to_ g = (q ++ (if (c : Int) < e then e - 1 else e) :: r, g) by rw [hq'.out, ← hr, progTo_in])
          have hr' := Lib.hid hr
          clear he hr
          have hlen := congrArg List.length hr'.out
          rw [List.length_append, List.length_cons, htoL.out, hqL.out] at hlen
          have hqt : qn < s.tn := by omega
          obtain ⟨ad, e2, hta, he2, hce⟩ := hto.out.at_ hqt
          have hee : e2 = e := by
            rw [← hr'.out, List.getElem?_append_right (by have := hqL.out; omega), hqL.out, Nat.sub_self] at he2
            exact (Option.some.inj he2).symm
          subst hee
          have hqtI : (qn : Int) < (s.tn : Int) := by omega
          have hce' := Lib.hid hce
          clear he2 hlen hqt hce
          by_cases hcg : (c : Int) < e2
          · have hshl := Lib.hid (fun (W : World) (hb : Below W4.heap.size W4 W) => shift_less W s.tA s.tn s.tc q r e2 (by rw [hr'.out]; exact hto.out.below hb) htnil.out (by rw [hr'.out]; exact hmay'.out) (by omega) qn hqL.out)
            rw [hta] at hsame hwith hshl
            go_wp2_with (first
              | (go_at_call 62; go_loud (refine hsame.out.mono ?_; rintro e w5 ⟨rfl, k5, rfl⟩))
              | (go_at_call 98; go_loud (refine (hwith.out _ (draws (Below.refl _ _) _)).mono ?_; rintro e w6 ⟨rfl, k6, hw6⟩; have hce6 : w6.cell? (ad.add qn) = some (.int .i64 e2) := (by rw [hw6]; exact hce'.out); have hbl6 : Below W4.heap.size W4 w6 := (by rw [hw6]; exact draws (draws (Below.refl _ _) _) _); clear hw6))
              | (go_at_call 147; go_loud (refine (hshl.out _ hbl6).mono ?_; rintro e w7 ⟨A7, n7, c7, rfl, hi7, hnc7, hcm7, hb7⟩)))
            rw [← hta]
            go_meet
            rw [hpt.out, if_pos hcg]
            exact ⟨_, _, _, rfl, rfl, hi7, Nat.le_trans hnc7 hcm7, hbl6.trans (hb7.mono hbl6.size)⟩
          · rw [hta] at hsame hwith
            go_wp2_with (first
              | (go_at_call 62; go_loud (refine hsame.out.mono ?_; rintro e w5 ⟨rfl, k5, rfl⟩))
              | (go_at_call 98; go_loud (refine (hwith.out _ (draws (Below.refl _ _) _)).mono ?_; rintro e w6 ⟨rfl, k6, hw6⟩; have hce6 : w6.cell? (ad.add qn) = some (.int .i64 e2) := (by rw [hw6]; exact hce'.out); have hbl6 : Below W4.heap.size W4 w6 := (by rw [hw6]; exact draws (draws (Below.refl _ _) _) _); clear hw6)))
            rw [← hta]
            go_meet
            rw [hpt.out, if_neg (show ¬ (c : Int) < e2 by omega), hr'.out]
            exact ⟨_, _, _, rfl, rfl, hto.out.below hbl6, htm, hbl6⟩
      · have hw2 := Lib.hid (show P4.withinV q o.to_ = false by rw [within_pre]; exact decide_eq_false hpre)
        rw [hw2.out] at hwith
        have hpt := Lib.hid (show progTo o.path o.to_ g = (o.to_, g) by rw [hq'.out, progTo_out _ _ _ _ hpre])
        clear he hpre
        go_wp2_with (first
          | (go_at_call 62; go_loud (refine hsame.out.mono ?_; rintro e w5 ⟨rfl, k5, rfl⟩))
          | (go_at_call 98; go_loud (refine (hwith.out _ (draws (Below.refl _ _) _)).mono ?_; rintro e w6 ⟨rfl, k6, hw6⟩; have hbl6 : Below W4.heap.size W4 w6 := (by rw [hw6]; exact draws (draws (Below.refl _ _) _) _); clear hw6)))
        go_meet
        rw [hpt.out]
        exact ⟨_, _, _, rfl, rfl, hto.out.below hbl6, htm, hbl6⟩
  case rest =>
    obtain ⟨A, n, k, rfl, rfl, hit, hnm, hbc⟩ := hcut
    rename_i K1 hK1
    refine hK1 _ _ ?_
    clear hK1 K1
    have hlw1 : w1.heap.size < wc.heap.size := by have := hbc.size; omega
    have bwc := Lib.hid (bw4.out.trans (hbc.mono bw4.out.size))
    have b3c := Lib.hid (show W3.heap.size ≤ wc.heap.size by have := hb'.out.size; have := hbc.size; omega)
    have b1c := Lib.hid (show ∀ k, k < w1.heap.size → wc.heap[k]? = w1.heap[k]? from fun k hk => (hbc.block k (by omega)).trans (k4.out k hk))
    have g1 := Lib.hid ((hbc.block w.heap.size (by omega)).trans q1.out)
    have g2 := Lib.hid ((hbc.block (w.heap.size + 1) (by omega)).trans q2.out)
    have g9 := Lib.hid ((hbc.block w1.heap.size hsz4).trans q9.out)
    have g3 := Lib.hid (show wc.heap[w.heap.size + 1 + 1]? = some (.cells zero6 42 (0, 0)) from (b1c.out _ (by omega)).trans ((hb'.out.block _ (by have := z5'.out; omega)).trans z3'.out))
    have hnx := Lib.hid (hny'.out.kept (w' := wc) (T' := fun k => T k ∨ (W3.heap.size ≤ k ∧ k < wc.heap.size)) (fun k hk => by
      rcases hk with hk | hk
      · exact .inl hk
      · exact .inr ⟨hk.1, by have h2 := hk.2; omega⟩) (fun k hk => b1c.out k (by
      rcases hk with hk | hk
      · have := hT'.out k hk; omega
      · exact hk.2)))
    have hit' := Lib.hid hit
    obtain ⟨to2, hto2⟩ : ∃ a, a = (progTo o.path o.to_ g).1 := ⟨_, rfl⟩
    obtain ⟨g4, hg4⟩ : ∃ a, a = (progTo o.path o.to_ g).2 := ⟨_, rfl⟩
    rw [← hto2, ← hg4]
    rw [← hto2] at hit' hy2'
    rw [← hg4] at hg2'
    have hpx := hx'.out
    rw [hq'.out] at hpx
    obtain ⟨y0, m, d1, d2, d3, d4, d5⟩ := del_all hpx
    have hmm : m = m2 := by
      have := hm2'.out
      rw [hq'.out, d4] at this
      exact Option.some.inj this
    subst hmm
    have htk := Lib.hid (fun (W : World) (hb : Below w.heap.size w W) => takenOut_T T W (fun k hk => Nat.lt_of_lt_of_le (hT'.out k hk) hb.size) t y0 aA kA an ac kn kc (hh.out W hb) s.pA s.pn s.pc q c (hq'.out ▸ (hop'.out W hb).path) (hop'.out W hb).pnil (hop'.out W hb).pfew (hop'.out W hb).pnc (hop'.out W hb).pcm (by have := hbig'.out; omega) d1 d2)
    rw [d3] at htk
    have hpi := Lib.hid (fun (W : World) (T2 : Nat → Prop) (hT2 : ∀ k, T2 k → k < W.heap.size) (zA zK : Option Addr) (zn zc zm zd : Nat) (hz : NodeV T2 W zA zn zc zK zm zd m) (hx2 : NodeV T2 W yA yn yc yK ym yd x) (hi2 : Its W A n to2) => putIn_T T2 W hT2 m x y2 zA zK yA yK zn zc zm zd yn yc ym yd hz hx2 A n k to2 hi2 hnm (by have := hbig'.out; omega) (by have := hbig'.out; have := hxw'.out; omega) hy2'.out g4 hg2'.out)
    have g2' := g2.out
    have g1' := g1.out
    have g9' := g9.out
    unfold val6 at g1' g9'
    obtain ⟨p0, p1, p2, p3, p4, p5, pf⟩ := six_cells g1'
    obtain ⟨x0, x1, x2, x3, x4, x5, xf⟩ := six_cells g9'
    have s1 := (op_cells g2').2.1
    have hwne : w1.heap.size ≠ w.heap.size + 1 + 1 := by omega
    clear g1' g2' g9' hit hbc pf xf d1 d2 d3 d4 hpx hto2 hg4 hW3 hg2' hy2'
    unfold val6 at htk hpi
    have hst := Lib.hid (fun (W : World) (hb : Below wc.heap.size wc W) => show W.cell? ⟨w.heap.size, 0, none⟩ = some (.int .u64 (t.id : Int)) ∧ W.cell? ⟨w.heap.size, 1, none⟩ = some (.bool t.leaf) ∧ W.cell? ⟨w.heap.size, 2, none⟩ = some (.string ⟨t.label.toArray⟩) ∧ W.cell? ⟨w.heap.size, 3, none⟩ = some (.slice aA an ac) ∧ W.cell? ⟨w.heap.size, 4, none⟩ = some (.string ⟨t.text.toArray⟩) ∧ W.cell? ⟨w.heap.size, 5, none⟩ = some (.slice kA kn kc) ∧ W.cell? ⟨w.heap.size + 1, 1, none⟩ = some (.slice s.pA s.pn s.pc) ∧
      W.cell? ⟨w1.heap.size, 0, none⟩ = some (.int .u64 (x.id : Int)) ∧ W.cell? ⟨w1.heap.size, 1, none⟩ = some (.bool x.leaf) ∧ W.cell? ⟨w1.heap.size, 2, none⟩ = some (.string ⟨x.label.toArray⟩) ∧ W.cell? ⟨w1.heap.size, 3, none⟩ = some (.slice yA yn yc) ∧ W.cell? ⟨w1.heap.size, 4, none⟩ = some (.string ⟨x.text.toArray⟩) ∧ W.cell? ⟨w1.heap.size, 5, none⟩ = some (.slice yK ym yd) from by
      have b0 := (hb.block w.heap.size (by omega)).trans g1.out
      have b9 := (hb.block w1.heap.size hlw1).trans g9.out
      have b1 := (op_cells ((hb.block (w.heap.size + 1) (by omega)).trans g2.out)).2.1
      unfold val6 at b0 b9
      obtain ⟨p0, p1, p2, p3, p4, p5, pf⟩ := six_cells b0
      obtain ⟨x0, x1, x2, x3, x4, x5, xf⟩ := six_cells b9
      exact ⟨p0, p1, p2, p3, p4, p5, b1, x0, x1, x2, x3, x4, x5⟩)
    go_upto_region 11 with fail
    rename_i K0 hK0
    refine wp_region_L (fun W => Below wc.heap.size wc W) 8 rfl (Below.refl wc.heap.size wc).drew (fun hHeld => ?_)
    refine wpAnyL_take (i := 0) (oi := { dst := some 60, op := Go.Op.load 42 (Go.Operand.tmp 2), type := 42, pos := "done.go:52", after := #[], guard := none }) (v := ?_) rfl (by kernel_rfl) (by kernel_rfl) (by kernel_rfl) (by kernel_rfl) (fun _ _ _ h => h) (Or.inl ⟨by rfl, ?_⟩) hHeld ?_
    rotate_left 1
    · intro W hSw; obtain ⟨e0, e1, e2, e3, e4, e5, e6, e7, e8, e9, e10, e11, e12⟩ := hst.out W hSw; go_simp; try with_reducible rfl
    try simp only [Act.put, List.setIfInBounds_toArray, List.set_cons_zero, List.set_cons_succ]
    refine wpAnyL_take (i := 1) (oi := { dst := some 61, op := Go.Op.fieldAddr 26 (Go.Operand.tmp 3) 1, type := 0, pos := "done.go:52", after := #[], guard := none }) (v := ?_) rfl (by kernel_rfl) (by kernel_rfl) (by kernel_rfl) (by kernel_rfl) (fun _ _ _ h => h) (Or.inl ⟨by rfl, ?_⟩) hHeld ?_
    rotate_left 1
    · intro W hSw; obtain ⟨e0, e1, e2, e3, e4, e5, e6, e7, e8, e9, e10, e11, e12⟩ := hst.out W hSw; go_simp; try with_reducible rfl
    try simp only [Act.put, List.setIfInBounds_toArray, List.set_cons_zero, List.set_cons_succ]
    refine wpAnyL_take (i := 2) (oi := { dst := some 62, op := Go.Op.load 22 (Go.Operand.tmp 61), type := 22, pos := "done.go:52", after := #[{ on := 1, ground := Go.Ground.data }], guard := none }) (v := ?_) rfl (by kernel_rfl) (by kernel_rfl) (by kernel_rfl) (by kernel_rfl) (fun _ _ _ h => h) (Or.inl ⟨by rfl, ?_⟩) hHeld ?_
    rotate_left 1
    · intro W hSw; obtain ⟨e0, e1, e2, e3, e4, e5, e6, e7, e8, e9, e10, e11, e12⟩ := hst.out W hSw; go_simp; try with_reducible rfl
    try simp only [Act.put, List.setIfInBounds_toArray, List.set_cons_zero, List.set_cons_succ]
    refine wpAnyL_take (i := 4) (oi := { dst := some 64, op := Go.Op.move (Go.Operand.tmp 10), type := 22, pos := "done.go:52", after := #[], guard := none }) (v := ?_) rfl (by kernel_rfl) (by kernel_rfl) (by kernel_rfl) (by kernel_rfl) (fun _ _ _ h => h) (Or.inl ⟨by rfl, ?_⟩) hHeld ?_
    rotate_left 1
    · intro W hSw; obtain ⟨e0, e1, e2, e3, e4, e5, e6, e7, e8, e9, e10, e11, e12⟩ := hst.out W hSw; go_simp; try with_reducible rfl
    try simp only [Act.put, List.setIfInBounds_toArray, List.set_cons_zero, List.set_cons_succ]
    refine wpAnyL_take (i := 5) (oi := { dst := some 65, op := Go.Op.move (Go.Operand.tmp 11), type := 3, pos := "done.go:52", after := #[], guard := none }) (v := ?_) rfl (by kernel_rfl) (by kernel_rfl) (by kernel_rfl) (by kernel_rfl) (fun _ _ _ h => h) (Or.inl ⟨by rfl, ?_⟩) hHeld ?_
    rotate_left 1
    · intro W hSw; obtain ⟨e0, e1, e2, e3, e4, e5, e6, e7, e8, e9, e10, e11, e12⟩ := hst.out W hSw; go_simp; try with_reducible rfl
    try simp only [Act.put, List.setIfInBounds_toArray, List.set_cons_zero, List.set_cons_succ]
    refine wpAnyL_take (i := 6) (oi := { dst := some 66, op := Go.Op.load 42 (Go.Operand.tmp 5), type := 42, pos := "done.go:52", after := #[], guard := none }) (v := ?_) rfl (by kernel_rfl) (by kernel_rfl) (by kernel_rfl) (by kernel_rfl) (fun _ _ _ h => h) (Or.inl ⟨by rfl, ?_⟩) hHeld ?_
    rotate_left 1
    · intro W hSw; obtain ⟨e0, e1, e2, e3, e4, e5, e6, e7, e8, e9, e10, e11, e12⟩ := hst.out W hSw; go_simp; try with_reducible rfl
    try simp only [Act.put, List.setIfInBounds_toArray, List.set_cons_zero, List.set_cons_succ]
    refine wpAnyL_one (i := 3) (o := { dst := some 63, op := Go.Op.call { callee := Go.Callee.value (Go.Operand.func 110), args := #[Go.Operand.tmp 60, Go.Operand.tmp 62], argTypes := #[42, 22] }, type := 42, pos := "done.go:52", after := #[{ on := 0, ground := Go.Ground.data }, { on := 2, ground := Go.Ground.data }], guard := none }) (by kernel_rfl) rfl (by decide) (fun K hK => ?_)
    go_simp
    refine (htk.out _ (bwc.out.drew)).mono ?_
    rintro e w5 ⟨zA, zn, zc, zK, zm, zd, rfl, hz, hb5⟩
    have b5c := Lib.hid (show Below wc.heap.size wc w5 from (Below.refl wc.heap.size wc).drew.trans hb5)
    have hz5 := Lib.hid (hz.kept (w' := w5) (T' := fun k => T k ∨ (W3.heap.size ≤ k ∧ k < w5.heap.size)) (fun k hk => (by (rcases hk with hk | hk); (exact .inl hk); (exact .inr ⟨Nat.le_trans b3c.out hk.1, hk.2⟩))) (fun _ _ => rfl))
    unfold val6
    go_simp
    refine hK.out _ _ ?_ (fun hNew => ?_)
    · exact b5c.out
    clear hK K hHeld hz hb5
    have hHeld := hNew
    clear hNew
    try simp only [Act.put, List.setIfInBounds_toArray, List.set_cons_zero, List.set_cons_succ]
    refine wpAnyL_one (i := 7) (o := { dst := some 67, op := Go.Op.call { callee := Go.Callee.value (Go.Operand.func 109), args := #[Go.Operand.tmp 63, Go.Operand.tmp 64, Go.Operand.tmp 65, Go.Operand.tmp 66], argTypes := #[42, 22, 3, 42] }, type := 42, pos := "done.go:52", after := #[{ on := 3, ground := Go.Ground.data }, { on := 4, ground := Go.Ground.data }, { on := 5, ground := Go.Ground.data }, { on := 6, ground := Go.Ground.data }, { on := 3, ground := Go.Ground.chain }], guard := none }) (by kernel_rfl) rfl (by decide) (fun K hK => ?_)
    go_simp
    have hT5 := Lib.hid (show ∀ k, (T k ∨ (W3.heap.size ≤ k ∧ k < w5.heap.size)) → k < w5.heap.size from fun k hk => (by (rcases hk with hk | hk); (have := hT'.out k hk; have := b5c.out.size; omega); (exact hk.2)))
    have hx5 := Lib.hid (hnx.out.kept (w' := w5) (T' := fun k => T k ∨ (W3.heap.size ≤ k ∧ k < w5.heap.size)) (fun k hk => (by (rcases hk with hk | hk); (exact .inl hk); (exact .inr ⟨hk.1, Nat.lt_of_lt_of_le hk.2 b5c.out.size⟩))) (fun k hk => b5c.out.block k (by (rcases hk with hk | hk); (have := hT'.out k hk; omega); (exact hk.2))))
    have hi5 := Lib.hid (hit'.out.below b5c.out)
    refine (hpi.out w5 (fun k => T k ∨ (W3.heap.size ≤ k ∧ k < w5.heap.size)) hT5.out zA zK zn zc zm zd hz5.out hx5.out hi5.out).mono ?_
    rintro e w6 ⟨eA, en, ec, eK, em, ed, rfl, he6, hb6⟩
    have b6c := Lib.hid (b5c.out.trans (hb6.mono b5c.out.size))
    have he6' := Lib.hid he6
    have hsz56 := hb6.size
    unfold val6
    go_simp
    refine hK.out _ _ ?_ (fun hNew => ?_)
    · exact b6c.out
    clear hK K hHeld he6 hb6 hNew
    try simp only [Act.put, List.setIfInBounds_toArray, List.set_cons_zero, List.set_cons_succ]
    have r3 := Lib.hid ((b6c.out.block (w.heap.size + 1 + 1) (by omega)).trans g3.out)
    have r3u := r3.out
    unfold zero6 at r3u
    obtain ⟨q0, q1, q2, q3, q4, q5, qf⟩ := six_cells r3u
    have hsz26 : w.heap.size + 1 + 1 < w6.heap.size := (Array.getElem?_eq_some_iff.1 r3u).1
    refine wpAnyL_last (o := { dst := none, op := Go.Op.store 42 (Go.Operand.tmp 4) (Go.Operand.tmp 67), type := 0, pos := "done.go:52", after := #[{ on := 7, ground := Go.Ground.data }, { on := 7, ground := Go.Ground.chain }, { on := 0, ground := Go.Ground.phase }, { on := 1, ground := Go.Ground.phase }, { on := 2, ground := Go.Ground.phase }, { on := 3, ground := Go.Ground.phase }, { on := 4, ground := Go.Ground.phase }, { on := 5, ground := Go.Ground.phase }, { on := 6, ground := Go.Ground.phase }, { on := 7, ground := Go.Ground.phase }], guard := none }) (by kernel_rfl) rfl (fun K hK => ?_)
    go_simp
    refine hK _ _ ?_
    clear hK K
    try simp only [Act.put, List.setIfInBounds_toArray, List.set_cons_zero, List.set_cons_succ]
    refine wpAny_done (by kernel_rfl) ?_ _
    refine hK0 _ _ ?_
    clear hK0 K0
    have hz9 := Lib.hid (he6'.out.kept (w' := w6) (T' := fun k => T k ∨ (W3.heap.size ≤ k ∧ k < w6.heap.size)) (fun k hk => (by
      rcases hk with hk | hk
      · rcases hk with hk | hk
        · exact .inl hk
        · exact .inr ⟨hk.1, Nat.lt_of_lt_of_le hk.2 hsz56⟩
      · exact .inr ⟨Nat.le_trans (Nat.le_trans b3c.out b5c.out.size) hk.1, hk.2⟩)) (fun _ _ => rfl))
    clear he6'
    go_wp2_with fail
    obtain ⟨a, ha⟩ : ∃ a, a = (putV m to2 (y2.withKids (insK g4 x y2.kids))).getD Nd.zero := ⟨_, rfl⟩
    rw [← ha] at hz9 ⊢
    obtain ⟨W9, hW9, R9, N9, B9⟩ := end_node0 hT'.out (r := w.heap.size + 1 + 1) (b := W3.heap.size) (by omega) (by have := z5'.out; omega) (bwc.out.trans (b6c.out.mono bwc.out.size)) r3.out hz9.out
    rw [← hW9]
    unfold val6 at R9
    obtain ⟨d0, d1, d2, d3, d4, d5, df⟩ := six_cells R9
    refine bodyPost_ret (v := .agg (val6 a eA en ec eK em ed)) (by simp [results, Try.results111, go_sem, d0, d1, d2, d3, d4, d5, val6]) rfl ?_
    exact ⟨eA, en, ec, eK, em, ed, rfl, N9, B9⟩
end Go.Proofs.Ytpoenlhikanooaa.Top
/- done: a Move, a SetAttr. -/
namespace Go.Proofs.Ytpoenlhikanooaa.Top
open Go.RowKit
set_option maxRecDepth 20000
set_option linter.unusedVariables false

/-- a node with other attributes -/
def attN : Nd → List (Txt × Txt) → Nd
  | .mk i f l _ x k, a => .mk i f l a x k
theorem attN_id (y : Nd) (l : List (Txt × Txt)) : (attN y l).id = y.id ∧ (attN y l).leaf = y.leaf ∧ (attN y l).label = y.label ∧ (attN y l).text = y.text ∧ (attN y l).attrs = l ∧ (attN y l).kids = y.kids := by cases y; exact ⟨rfl, rfl, rfl, rfl, rfl, rfl⟩
theorem attN_weigh (y : Nd) (l : List (Txt × Txt)) : weighV (attN y l) + attrsW y.attrs = weighV y + attrsW l := by cases y; simp only [attN, weighV, Nd.attrs]; omega
theorem attN_node {T : Nat → Prop} {w : World} {aA kA A : Option Addr} {an ac kn kc n c : Nat} {y : Nd} {l : List (Txt × Txt)} (h : NodeV T w aA an ac kA kn kc y) (hl : AtsIn T w A n l) (hnc : n ≤ c) (hcm : c ≤ maxLen) (hnil : A = none → c = 0) : NodeV T w A n c kA kn kc (attN y l) := by
  have hf := h.facts
  obtain ⟨e1, e2, e3, e4, e5, e6⟩ := attN_id y l
  exact NFacts.node ⟨by rw [e1]; exact hf.id, by rw [e3]; exact hf.label, by rw [e4]; exact hf.text, by rw [e5]; exact hl, hnc, hcm, hnil, by rw [e6]; exact hf.kl, hf.knc, hf.kcm, hf.knil, by rw [e6]; exact hf.row⟩
set_option maxHeartbeats 4000000 in
theorem done_move (T : Nat → Prop) (w : World) (hT : ∀ k, T k → k < w.heap.size) (t x y m2 y2 : Nd) (aA kA : Option Addr) (an ac kn kc : Nat) (h : NodeV T w aA an ac kA kn kc t) (o : Ov) (s : OS) (ho : OpIn w o s) (hk : o.kind = 3) (q : List Int) (c : Nat) (hq : o.path = q ++ [(c : Int)]) (hbig : weighV t ≤ 40000)
    (hx : atV t o.path = some x) (hy : atV t o.to_ = some y) (g : Nat) (hg : o.at_ = (g : Int)) (hg1 : g ≤ 1048576) (hmay : P4.mayV o.to_ = true) (hm2 : delAt t o.path = some m2) (hy2 : atV m2 (progTo o.path o.to_ g).1 = some y2) (hg2 : (progTo o.path o.to_ g).2 ≤ y2.kids.length) :
    Calls Try.prog 74 #[.agg (val6 t aA an ac kA kn kc), .agg (opCells o s)] w (NodeA T w ((putV m2 (progTo o.path o.to_ g).1 (y2.withKids (insK (progTo o.path o.to_ g).2 x y2.kids))).getD Nd.zero)) := by
  obtain ⟨z1, z2, z3, z4, z5⟩ := three_new w (.cells (val6 t aA an ac kA kn kc) 42) (.cells (opCells o s) 26) (.cells zero6 42)
  obtain ⟨W3, hW3⟩ : ∃ W3, W3 = ((w.alloc (.cells (val6 t aA an ac kA kn kc) 42)).alloc (.cells (opCells o s) 26)).alloc (.cells zero6 42) := ⟨_, rfl⟩
  rw [← hW3] at z1 z2 z3 z4 z5
  have hT3 : ∀ k, T k → k < W3.heap.size := fun k hk => by have := hT k hk; omega
  have htk := Lib.hid (moved_T T W3 hT3 t x y m2 y2 aA kA an ac kn kc (h.kept (fun _ h => h) fun k hk => z4.block k (hT k hk)) o s (ho.below z4) q c hq hbig hx hy g hg hg1 hmay hm2 hy2 hg2)
  obtain ⟨a, ha⟩ : ∃ a, a = (putV m2 (progTo o.path o.to_ g).1 (y2.withKids (insK (progTo o.path o.to_ g).2 x y2.kids))).getD Nd.zero := ⟨_, rfl⟩
  rw [← ha] at htk ⊢
  clear ha hx hg hg1 hmay hm2 hy2 hg2
  obtain ⟨o0, o1, o2, o3, o4, o5, o6, o7, o8, o9, o10⟩ := op_cells z2
  have z1u := z1
  unfold val6 at z1u
  obtain ⟨p0, p1, p2, p3, p4, p5, pf⟩ := six_cells z1u
  have hkI : (o.kind : Int) = 3 := by omega
  have z3' := Lib.hid z3
  have z4' := Lib.hid z4
  have z5' := Lib.hid z5
  have hT' := Lib.hid hT
  have hkr := ho.kind
  rw [hW3] at o0 o1 o2 o3 o4 o5 o6 o7 o8 o9 o10 p0 p1 p2 p3 p4 p5 pf htk
  clear h ho hT hT3 z1 z1u z2 z3 z4 z5 hk hq hy
  unfold zero6 val6 opCells at hW3 htk o0 o1 o2 o3 o4 o5 o6 o7 o8 o9 o10 p0 p1 p2 p3 p4 p5 pf
  unfold val6 opCells
  rw [hkI] at hW3 htk o0 o1 o2 o3 o4 o5 o6 o7 o8 o9 o10 p0 p1 p2 p3 p4 p5
  rw [hkI]
  clear hkI hkr
  go_enter Try.func74, Try.ntmps74
  go_wp2_with (go_at_call 111; go_loud (refine htk.out.mono ?_; rw [← hW3]; rintro e w9 ⟨zA, zn, zc, zK, zm, zd, rfl, hz, hbz⟩; have r3 := (hbz.block _ (by have := z5'.out; omega)).trans z3'.out; have hr := Lib.hid r3; have hz' := Lib.hid hz; have hbz' := Lib.hid hbz; unfold zero6 at r3; obtain ⟨q0, q1, q2, q3, q4, q5, qf⟩ := six_cells r3; have hne : w.heap.size + 1 + 1 < w9.heap.size := (Array.getElem?_eq_some_iff.1 r3).1; have hne2 : w9.heap.size ≠ w.heap.size + 1 + 1 := (by omega); have hne3 : w.heap.size + 1 + 1 ≠ w9.heap.size := (by omega); unfold val6; clear hz hbz r3))
  obtain ⟨W9, hW9, R9, N9, B9⟩ := end_node0 hT'.out (r := w.heap.size + 1 + 1) (b := W3.heap.size) (by omega) (by have := z5'.out; omega) (z4'.out.trans (hbz'.out.mono z4'.out.size)) hr.out hz'.out
  rw [← hW9]
  unfold val6 at R9
  obtain ⟨d0, d1, d2, d3, d4, d5, df⟩ := six_cells R9
  refine bodyPost_ret (v := .agg (val6 a zA zn zc zK zm zd)) (by simp [results, Try.results74, go_sem, d0, d1, d2, d3, d4, d5, val6]) rfl ?_
  exact ⟨zA, zn, zc, zK, zm, zd, rfl, N9, B9⟩
set_option maxHeartbeats 4000000 in
theorem done_attr (T : Nat → Prop) (w : World) (hT : ∀ k, T k → k < w.heap.size) (t y : Nd) (aA kA : Option Addr) (an ac kn kc : Nat) (h : NodeV T w aA an ac kA kn kc t) (o : Ov) (s : OS) (ho : OpIn w o s) (hk : o.kind = 4) (hbig : weighV t ≤ 90000)
    (hy : atV t o.path = some y) (hok : attrsOk ltB [] y.attrs = true) (hlk : o.key.length ≤ 80000) (hlv : o.value.length ≤ 80000) :
    Calls Try.prog 74 #[.agg (val6 t aA an ac kA kn kc), .agg (opCells o s)] w (NodeA T w ((putV t o.path (attN y (docA o.key o.value y.attrs o.gone))).getD Nd.zero)) := by
  obtain ⟨la, hlae⟩ : ∃ la, la = docA o.key o.value y.attrs o.gone := ⟨_, rfl⟩
  obtain ⟨z1, z2, z3, z4, z5⟩ := three_new w (.cells (val6 t aA an ac kA kn kc) 42) (.cells (opCells o s) 26) (.cells zero6 42)
  obtain ⟨W3, hW3⟩ : ∃ W3, W3 = ((w.alloc (.cells (val6 t aA an ac kA kn kc) 42)).alloc (.cells (opCells o s) 26)).alloc (.cells zero6 42) := ⟨_, rfl⟩
  rw [← hW3] at z1 z2 z3 z4 z5
  have hT3 : ∀ k, T k → k < W3.heap.size := fun k hk => by have := hT k hk; omega
  have hpm := Nat.le_trans ho.pnc ho.pcm
  have hatc := Lib.hid (at_T T W3 hT3 t aA kA an ac kn kc (h.kept (fun _ h => h) fun k hk => z4.block k (hT k hk)) s.pA s.pn s.pc o.path (ho.path.below z4) hpm (by omega))
  have hkI : (o.kind : Int) = 4 := by omega
  have hh := Lib.hid (fun (W : World) (hb : Below w.heap.size w W) => h.kept (w' := W) (T' := T) (fun _ h => h) fun k hk => hb.block k (hT k hk))
  have hop := Lib.hid (fun (W : World) (hb : Below w.heap.size w W) => ho.path.below hb)
  have hap := Lib.hid (fun (W : World) (hb : Below w.heap.size w W) (T2 : Nat → Prop) (hT2 : ∀ k, T2 k → k < W.heap.size) (A : Option Addr) (n c : Nat) (hl : AtsIn T2 W A n y.attrs) (hnil : A = none → c = 0) (hnc : n ≤ c) (hcm : c ≤ maxLen) (hn : n ≤ 90000) => attrsBehind_any W T2 hT2 A n c y.attrs o s (ho.below hb) hl hnil hnc hcm hn hok)
  have hlaw : attrsW la ≤ attrsW y.attrs + 200000 := by rw [hlae]; have := doc_weigh o.key o.value y.attrs o.gone; revert this; cases o.gone <;> simp <;> omega
  rw [attr_both o.key o.value o.gone y.attrs [] hok, ← hlae] at hap
  rw [← hlae]
  have hyw := (at_count o.path t y hy).2
  obtain ⟨o0, o1, o2, o3, o4, o5, o6, o7, o8, o9, o10⟩ := op_cells z2
  have z1u := z1
  unfold val6 at z1u
  obtain ⟨p0, p1, p2, p3, p4, p5, pf⟩ := six_cells z1u
  have z1' := Lib.hid z1
  have z2' := Lib.hid z2
  have z3' := Lib.hid z3
  have z4' := Lib.hid z4
  have z5' := Lib.hid z5
  have hT' := Lib.hid hT
  have hy' := Lib.hid hy
  have hbig' := Lib.hid hbig
  have hyw' := Lib.hid hyw
  have hpm' := Lib.hid hpm
  have hlaw' := Lib.hid hlaw
  rw [hW3] at o0 o1 o2 o3 o4 o5 o6 o7 o8 o9 o10 p0 p1 p2 p3 p4 p5 pf hatc
  clear h ho hT hT3 z1 z1u z2 z3 z4 z5 hk hy hbig hyw hpm hlaw hlae hok
  unfold zero6 val6 opCells at hW3 hatc o0 o1 o2 o3 o4 o5 o6 o7 o8 o9 o10 p0 p1 p2 p3 p4 p5 pf
  unfold val6 opCells
  rw [hkI] at hW3 hatc o0 o1 o2 o3 o4 o5 o6 o7 o8 o9 o10 p0 p1 p2 p3 p4 p5
  rw [hkI]
  have hkI' := Lib.hid hkI
  clear hkI
  go_enter Try.func74, Try.ntmps74
  go_wp2_with (first
    | (go_at_call 35; go_loud (refine hatc.out.mono ?_; rw [← hW3]; rintro e w1 ⟨yA, yn, yc, yK, ym, yd, rfl, hny, hb⟩; rw [hy'.out] at hny ⊢; have hny' := Lib.hid hny; have hb' := Lib.hid hb; have r1 := (hb.block _ (by have := z5'.out; omega)).trans z1'.out; have r2 := (hb.block _ (by have := z5'.out; omega)).trans z2'.out; have r1' := Lib.hid r1; have r2' := Lib.hid r2; clear o0 o1 o2 o3 o4 o5 o6 o7 o8 o9 o10 p0 p1 p2 p3 p4 p5 pf; obtain ⟨o0, o1, o2, o3, o4, o5, o6, o7, o8, o9, o10⟩ := op_cells r2; rw [hkI'.out] at o0; have hs1 : w.heap.size + 1 + 1 < w1.heap.size := (by have := hb.size; have := z5'.out; omega); have hq0 : w1.heap.size ≠ w.heap.size := (by omega); have hq1 : w1.heap.size ≠ w.heap.size + 1 := (by omega); have hq2 : w.heap.size ≠ w1.heap.size := (by omega); have hq3 : w.heap.size + 1 ≠ w1.heap.size := (by omega); have hq4 : w.heap.size + 1 < w1.heap.size := (by omega); have hq5 : w.heap.size < w1.heap.size := (by omega); have u0 := fun O => (World.cell?_alloc_lt w1 O ⟨w.heap.size + 1, 0, none⟩ hq4).trans o0; have uu := fun O j v (h : w1.cell? ⟨w.heap.size + 1, j, none⟩ = some v) => (World.cell?_alloc_lt w1 O ⟨w.heap.size + 1, j, none⟩ hq4).trans h; have u1 := fun O => uu O 1 _ o1; have u2 := fun O => uu O 2 _ o2; have u3 := fun O => uu O 3 _ o3; have u4 := fun O => uu O 4 _ o4; have u5 := fun O => uu O 5 _ o5; have u6 := fun O => uu O 6 _ o6; have u7 := fun O => uu O 7 _ o7; have u8 := fun O => uu O 8 _ o8; have u9 := fun O => uu O 9 _ o9; have u10 := fun O => uu O 10 _ o10; have hfx := hny.facts; have hyc := hfx.anc; have hycm := hfx.acm; have hats := Lib.hid (show AtsIn (Nw T W3 w1) w1 yA yn y.attrs from hfx.ats); have hyan := Lib.hid hfx.anil; have hyal : y.attrs.length = yn := hfx.ats.1; have hcall := (fun O => hap.out (w1.alloc O) ((z4'.out.trans (hb.mono z4'.out.size)).alloc (by omega) O) (Nw T W3 w1) (fun k hk => by (have hs2 := World.size_alloc w1 O); (rcases hk with hk | hk); (have := hT'.out k hk; omega); (have := hk.2; omega)) yA yn yc (hats.out.kept (fun _ h => h) (fun k hk => Go.heap_alloc_old _ _ (by (rcases hk with hk | hk); (have := hT'.out k hk; omega); (exact hk.2)))) hyan.out hyc hycm (by have h1 := (weigh_rows y).1; have h2 := hyw'.out; have h3 := hbig'.out; omega)); unfold opCells at hcall; rw [hkI'.out] at hcall; have hcall' := Lib.hid hcall; clear uu hfx hyc hycm hyal hcall hny hb r1 r2; unfold val6))
    | (go_at_call 112; go_loud (refine (hcall'.out _).mono ?_; rintro e w2 ⟨A9, n9, c9, rfl, hat9, hnc9, hcm9, hnil9, hb2⟩; have r9 := (hb2.block w1.heap.size (by rw [World.size_alloc]; omega)).trans (heap_alloc_new w1 _); obtain ⟨g0, g1, g2, g3, g4, g5, gf⟩ := six_cells r9; have hsz2 : w1.heap.size < w2.heap.size := (by have := hb2.size; rw [World.size_alloc] at this; omega); have r1 := (hb2.block w.heap.size (by rw [World.size_alloc]; omega)).trans ((Go.heap_alloc_old w1 _ hq5).trans r1'.out); have r2 := (hb2.block (w.heap.size + 1) (by rw [World.size_alloc]; omega)).trans ((Go.heap_alloc_old w1 _ hq4).trans r2'.out); unfold val6 at r1; obtain ⟨p0, p1, p2, p3, p4, p5, pf⟩ := six_cells r1; clear o0 o1 o2 o3 o4 o5 o6 o7 o8 o9 o10 u0 u1 u2 u3 u4 u5 u6 u7 u8 u9 u10; obtain ⟨o0, o1, o2, o3, o4, o5, o6, o7, o8, o9, o10⟩ := op_cells r2; rw [hkI'.out] at o0; have hmk := (fun v => mid_kept (c := 3) (v := v) z4'.out hb'.out hb2); have hmk' := Lib.hid hmk; have hoth := Lib.hid (fun v k (h : k ≠ w1.heap.size) => heap_setCell_other w2 ⟨w1.heap.size, 3, none⟩ k v h); have hs9 : ∀ v, (w2.setCell ⟨w1.heap.size, 3, none⟩ v).heap.size = w2.heap.size := (fun v => by simp); have hs9' := Lib.hid hs9; have hatT : AtsIn (fun k => w1.heap.size + 1 ≤ k ∧ k < w2.heap.size) w2 A9 n9 la := (by (rw [World.size_alloc] at hat9); exact hat9); have hput := (fun v => tput_T (fun k => Nw T W3 w1 k ∨ (w1.heap.size + 1 ≤ k ∧ k < w2.heap.size)) (w2.setCell ⟨w1.heap.size, 3, none⟩ v) (fun k hk => by (rw [hs9]); (rcases hk with hk | hk); (rcases hk with hk | hk); (have := hT'.out k hk; omega); (have := hk.2; omega); (exact hk.2)) t (attN y la) aA kA A9 yK an ac kn kc n9 c9 ym yd (NodeV.kept (fun k hk => .inl (.inl hk)) (fun _ _ => rfl) _ _ _ _ _ _ _ (hh.out _ (hmk v).2.2)) (attN_node (NodeV.kept (fun k hk => .inl hk) (fun k hk => (hmk v).1 k (by (rcases hk with hk | hk); (have := hT'.out k hk; omega); (exact hk.2))) _ _ _ _ _ _ _ hny'.out) (hatT.kept (fun k hk => .inr hk) (fun k hk => hoth.out v k (by have := hk.1; omega))) hnc9 hcm9 hnil9) s.pA s.pn s.pc o.path (hop.out _ (hmk v).2.2) hpm'.out (by have := hbig'.out; omega) (by have h1 := attN_weigh y la; have h2 := hyw'.out; have h3 := hbig'.out; have h4 := hlaw'.out; have h5 := weighV_eq y; omega)); have we := attN_id y la; unfold val6 at hput; rw [we.1, we.2.1, we.2.2.1, we.2.2.2.1] at hput; have hput' := Lib.hid hput; clear hb2 r1 r2 r9 hmk hput we hs9 hatT hat9))
    | (go_at_call 114; go_loud (refine (hput'.out _).mono ?_; rintro e w9 ⟨zA, zn, zc, zK, zm, zd, rfl, hz, hbz⟩; have hsa := hbz.size; rw [hs9'.out] at hsa; have r3 := (hbz.block (w.heap.size + 1 + 1) (by rw [hs9'.out]; omega)).trans (((hmk'.out _).1 _ hs1).trans ((hb'.out.block _ (by have := z5'.out; omega)).trans z3'.out)); have hr := Lib.hid r3; have hz' := Lib.hid (show NodeV (fun k => T k ∨ (W3.heap.size ≤ k ∧ k < w9.heap.size)) w9 zA zn zc zK zm zd _ from hz.kept (fun k hk => by (have hsb := hb'.out.size); (rcases hk with hk | hk); (rcases hk with hk | hk); (rcases hk with hk | hk); (exact .inl hk); (exact .inr ⟨hk.1, by have := hk.2; omega⟩); (exact .inr ⟨by have := hk.1; omega, by have := hk.2; omega⟩); (exact .inr ⟨by have := hk.1; rw [hs9'.out] at this; omega, hk.2⟩)) (fun _ _ => rfl)); have hbz' := Lib.hid ((hmk'.out _).2.2.trans (hbz.mono (hmk'.out _).2.2.size)); unfold zero6 at r3; clear o0 o1 o2 o3 o4 o5 o6 o7 o8 o9 o10 p0 p1 p2 p3 p4 p5 pf g0 g1 g2 g3 g4 g5 gf; obtain ⟨q0, q1, q2, q3, q4, q5, qf⟩ := six_cells r3; have hne : w.heap.size + 1 + 1 < w9.heap.size := (by omega); have hne2 : w9.heap.size ≠ w.heap.size + 1 + 1 := (by omega); have hne3 : w.heap.size + 1 + 1 ≠ w9.heap.size := (by omega); unfold val6; clear hz hbz r3 hsa)))
  obtain ⟨a, ha⟩ : ∃ a, a = (putV t o.path (attN y la)).getD Nd.zero := ⟨_, rfl⟩
  rw [← ha] at hz' ⊢
  obtain ⟨W9, hW9, R9, N9, B9⟩ := end_node0 hT'.out (r := w.heap.size + 1 + 1) (b := W3.heap.size) (by omega) (by have := z5'.out; omega) hbz'.out hr.out hz'.out
  rw [← hW9]
  unfold val6 at R9
  obtain ⟨d0, d1, d2, d3, d4, d5, df⟩ := six_cells R9
  refine bodyPost_ret (v := .agg (val6 a zA zn zc zK zm zd)) (by simp [results, Try.results74, go_sem, d0, d1, d2, d3, d4, d5, val6]) rfl ?_
  exact ⟨zA, zn, zc, zK, zm, zd, rfl, N9, B9⟩
end Go.Proofs.Ytpoenlhikanooaa.Top
/- done, whole; the program's Apply. -/
namespace Go.Proofs.Ytpoenlhikanooaa.Top
open Go.RowKit
set_option maxRecDepth 20000
set_option linter.unusedVariables false

/-- an operation that says little -/
structure Slim (o : Ov) : Prop where
  label : o.label.length ≤ 80000
  key : o.key.length ≤ 80000
  value : o.value.length ≤ 80000
  puts : P5.putsI o.pieces ≤ 80000
/-- the tree behind an operation that is valid -/
def afterV (t : Nd) (o : Ov) : Nd :=
  if o.kind = 1 then (modV t o.path (insK o.at_.toNat (.mk o.id o.leaf o.label [] [] []))).getD Nd.zero
  else if o.kind = 2 then (delAt t o.path).getD Nd.zero
  else if o.kind = 3 then ((modV t o.to_ (insK o.at_.toNat ((atV t o.path).getD Nd.zero))).bind fun m => delAt m (docFrom o.path o.to_ o.at_.toNat)).getD Nd.zero
  else if o.kind = 4 then ((atV t o.path).bind fun y => putV t o.path (attN y (docA o.key o.value y.attrs o.gone))).getD Nd.zero
  else if o.kind = 5 then ((atV t o.path).bind fun y => putV t o.path (labN y o.label)).getD Nd.zero
  else ((atV t o.path).bind fun y => putV t o.path (textN y (Ltx.apply y.text (pcs o.pieces)))).getD Nd.zero
theorem puts_pcs : ∀ l : List P5.IP, Ltx.puts (pcs l) = P5.putsI l
  | [] => rfl
  | x :: r => by
    have ih := puts_pcs r
    simp only [pcs, List.map_cons, Ltx.puts, P5.putsI] at ih ⊢
    omega
theorem rights_at : ∀ (p : List Int) (t y : Nd), rightsV ltB t = true → atV t p = some y → rightsV ltB y = true
  | [], t, y, h, ha => by
    simp only [atV, Option.some.injEq] at ha
    subst ha
    exact h
  | i :: p, t, y, h, ha => by
    obtain ⟨j, k, rfl, hk, hw⟩ := atV_cons ha
    rw [rightsV_eq, Bool.and_eq_true] at h
    refine rights_at p k y ?_ hw
    have : ∀ l : List Nd, rightssV ltB l = true → k ∈ l → rightsV ltB k = true := by
      intro l
      induction l with
      | nil => intro _ hm; cases hm
      | cons a r ih =>
        intro hr hm
        rw [rightssV, Bool.and_eq_true] at hr
        cases hm with
        | head => exact hr.1
        | tail _ hm => exact ih hr.2 hm
    exact this _ h.2 (List.mem_of_getElem? hk)
theorem rights_attrs {y : Nd} (h : rightsV ltB y = true) : attrsOk ltB [] y.attrs = true := by
  rw [rightsV_eq, Bool.and_eq_true] at h
  unfold aloneOk at h
  simp only [Bool.and_eq_true] at h
  exact h.1.1.2
theorem may_nat {o : Ov} (h : formedV o = true) : P4.mayV o.path = true := by
  unfold formedV at h
  rw [Bool.and_eq_true] at h
  exact h.1
theorem form_kind {o : Ov} (h : formedV o = true) (h1 : o.kind ≠ 1) (h2 : o.kind ≠ 2) (h3 : o.kind ≠ 3) (h4 : o.kind ≠ 4) (h5 : o.kind ≠ 5) : o.kind = 6 := by
  unfold formedV at h
  rw [if_neg h1, if_neg h2, if_neg h3, if_neg h4, if_neg h5] at h
  by_cases h6 : o.kind = 6
  · exact h6
  · rw [if_neg h6, Bool.and_false] at h; cases h
/-- what holds of an operation with which nothing is wrong -/
theorem fault_none {t : Nd} {o : Ov} (h : faultV t o = 0) : formedV o = true ∧ ¬ ((o.kind = 2 ∨ o.kind = 3) ∧ o.path = []) ∧ ∃ x, atV t o.path = some x ∧ (o.kind = 1 → gapE x o.at_ = 0) ∧ (o.kind = 3 → P4.withinV o.path o.to_ = false ∧ ∃ y, atV t o.to_ = some y ∧ gapE y o.at_ = 0) ∧ (o.kind = 6 → editE x o.pieces = 0) := by
  unfold faultV at h
  by_cases hf : formedV o = false
  · rw [if_pos hf] at h; omega
  · rw [if_neg hf] at h
    have hf' : formedV o = true := by cases hh : formedV o; exact absurd hh hf; rfl
    by_cases hr : (o.kind = 2 ∨ o.kind = 3) ∧ o.path = []
    · rw [if_pos hr] at h; omega
    · rw [if_neg hr] at h
      refine ⟨hf', hr, ?_⟩
      cases hx : atV t o.path with
      | none => rw [hx] at h; dsimp only at h; omega
      | some x =>
        rw [hx] at h
        dsimp only at h
        refine ⟨x, rfl, fun h1 => ?_, fun h3 => ?_, fun h6 => ?_⟩
        · rw [if_pos h1] at h; exact h
        · rw [if_neg (by omega), if_pos h3] at h
          by_cases hw : P4.withinV o.path o.to_ = true
          · rw [if_pos hw] at h; omega
          · rw [if_neg hw] at h
            refine ⟨by cases hh : P4.withinV o.path o.to_; rfl; exact absurd hh hw, ?_⟩
            cases hy : atV t o.to_ with
            | none => rw [hy] at h; dsimp only at h; omega
            | some y => rw [hy] at h; exact ⟨y, rfl, h⟩
        · rw [if_neg (by omega), if_neg (by omega), if_pos h6] at h; exact h
theorem gap_none {y : Nd} {i : Int} (h : gapE y i = 0) : y.leaf = false ∧ i ≤ y.kids.length := by
  unfold gapE at h
  cases hl : y.leaf with
  | true => rw [hl] at h; simp at h
  | false =>
    rw [hl] at h
    simp only [Bool.false_eq_true, if_false] at h
    refine ⟨rfl, ?_⟩
    by_cases hg : (y.kids.length : Int) < i
    · rw [if_pos hg] at h; omega
    · omega
theorem edit_none {x : Nd} {l : List P5.IP} (h : editE x l = 0) : x.leaf = true ∧ Ltx.extent (pcs l) ≤ x.text.length := by
  unfold editE fitE at h
  cases hl : x.leaf with
  | false => rw [hl] at h; simp at h
  | true =>
    rw [hl] at h
    simp only [if_true] at h
    refine ⟨rfl, ?_⟩
    by_cases hg : Ltx.extent (pcs l) ≤ x.text.length
    · exact hg
    · rw [if_neg hg] at h; omega
theorem path_last {p : List Int} (h : p ≠ []) (hm : P4.mayV p = true) : ∃ q, ∃ c : Nat, p = q ++ [(c : Int)] := by
  obtain ⟨q, c, rfl⟩ : ∃ q c, p = q ++ [c] := ⟨p.dropLast, p.getLast h, (List.dropLast_concat_getLast h).symm⟩
  have := (of_decide_eq_true hm).2 c (by simp)
  exact ⟨q, c.toNat, by rw [Int.toNat_of_nonneg this.1]⟩
theorem gap_nat {o : Ov} (h : gapB o.at_ = true) : ∃ g : Nat, o.at_ = (g : Int) ∧ g ≤ 1048576 := by
  have := of_decide_eq_true h
  exact ⟨o.at_.toNat, by omega, by omega⟩
/-- a Move told both ways -/
theorem move_value {t x y : Nd} {o : Ov} {g : Nat} (hk : o.kind = 3) (hg : o.at_ = (g : Int)) (hx : atV t o.path = some x) (hy : atV t o.to_ = some y) (hne : o.path ≠ []) (hw : P4.withinV o.path o.to_ = false) (hgl : g ≤ y.kids.length) :
    ∃ m1 m2 y2 r, modV t o.to_ (insK g x) = some m1 ∧ delAt m1 (docFrom o.path o.to_ g) = some r ∧ delAt t o.path = some m2 ∧ atV m2 (progTo o.path o.to_ g).1 = some y2 ∧ (progTo o.path o.to_ g).2 ≤ y2.kids.length ∧ putV m2 (progTo o.path o.to_ g).1 (y2.withKids (insK (progTo o.path o.to_ g).2 x y2.kids)) = some r ∧ afterV t o = r := by
  have hpre : ¬ o.path <+: o.to_ := by rw [within_pre] at hw; exact of_decide_eq_false hw
  obtain ⟨m1, m2, r, h1, h2, h3, h4⟩ := move_both o.path o.to_ t x y x g hx hy hne hpre hgl
  obtain ⟨m2', y2, h5, h6, h7⟩ := at_after o.path o.to_ t x y g hx hy hne hpre hgl
  rw [h3] at h5
  injection h5 with h5
  subst h5
  rw [mod_at h6] at h4
  refine ⟨m1, m2, y2, r, h1, h2, h3, h6, h7, h4, ?_⟩
  unfold afterV
  rw [if_neg (by omega), if_neg (by omega), if_pos hk, hx, hg]
  simp only [Option.getD_some, Int.toNat_natCast]
  rw [h1]
  simp only [Option.bind_some]
  rw [h2]
  rfl
theorem done_any (T : Nat → Prop) (w : World) (hT : ∀ k, T k → k < w.heap.size) (t : Nd) (aA kA : Option Addr) (an ac kn kc : Nat) (h : NodeV T w aA an ac kA kn kc t) (o : Ov) (s : OS) (ho : OpIn w o s) (hs : Slim o) (hbig : weighV t ≤ 40000) (hr : rightsV ltB t = true) (hf : faultV t o = 0) :
    Calls Try.prog 74 #[.agg (val6 t aA an ac kA kn kc), .agg (opCells o s)] w (NodeA T w (afterV t o)) := by
  obtain ⟨hfm, hroot, x, hx, h1, h3, h6⟩ := fault_none hf
  have hmay := may_nat hfm
  by_cases k1 : o.kind = 1
  · have hgb : gapB o.at_ = true := by
      unfold formedV at hfm
      rw [if_pos k1] at hfm
      simp only [Bool.and_eq_true] at hfm
      exact hfm.2.1
    obtain ⟨g, hg, -⟩ := gap_nat hgb
    have hgl := (gap_none (h1 k1)).2
    rw [show afterV t o = (putV t o.path (x.withKids (insK g (.mk o.id o.leaf o.label [] [] []) x.kids))).getD Nd.zero by
      unfold afterV
      rw [if_pos k1, mod_at hx, hg, Int.toNat_natCast]]
    exact done_insert T w hT t x aA kA an ac kn kc h o s ho k1 hs.label g hg (by omega) hx (by omega)
  · by_cases k2 : o.kind = 2
    · have hne : o.path ≠ [] := fun e => hroot ⟨.inl k2, e⟩
      obtain ⟨q, c, hq⟩ := path_last hne hmay
      have hx2 := hx
      rw [hq] at hx2
      obtain ⟨y, m, d1, d2, d3, d4, -⟩ := del_all hx2
      rw [show afterV t o = (putV t q (y.withKids (delK c y.kids))).getD Nd.zero by
        unfold afterV
        rw [if_neg k1, if_pos k2, hq, d4, d3]]
      exact done_delete T w hT t y aA kA an ac kn kc h o s ho k2 ho.pfew ho.pnil q c hq (by omega) d1 d2
    · by_cases k3 : o.kind = 3
      · have hne : o.path ≠ [] := fun e => hroot ⟨.inr k3, e⟩
        obtain ⟨q, c, hq⟩ := path_last hne hmay
        obtain ⟨hw, y, hy, hge⟩ := h3 k3
        have hfm3 := hfm
        unfold formedV at hfm3
        rw [if_neg k1, if_neg k2, if_pos k3] at hfm3
        simp only [Bool.and_eq_true] at hfm3
        obtain ⟨g, hg, hg1⟩ := gap_nat hfm3.2.1
        have hgl := (gap_none hge).2
        obtain ⟨m1, m2, y2, r, v1, v2, v3, v4, v5, v6, v7⟩ := move_value k3 hg hx hy hne hw (by omega)
        rw [show afterV t o = (putV m2 (progTo o.path o.to_ g).1 (y2.withKids (insK (progTo o.path o.to_ g).2 x y2.kids))).getD Nd.zero by rw [v6, v7]; rfl]
        exact done_move T w hT t x y m2 y2 aA kA an ac kn kc h o s ho k3 q c hq hbig hx hy g hg hg1 hfm3.2.2 v3 v4 v5
      · by_cases k4 : o.kind = 4
        · rw [show afterV t o = (putV t o.path (attN x (docA o.key o.value x.attrs o.gone))).getD Nd.zero by
            unfold afterV
            rw [if_neg k1, if_neg k2, if_neg k3, if_pos k4, hx]
            rfl]
          exact done_attr T w hT t x aA kA an ac kn kc h o s ho k4 (by omega) hx (rights_attrs (rights_at _ _ _ hr hx)) hs.key hs.value
        · by_cases k5 : o.kind = 5
          · rw [show afterV t o = (putV t o.path (labN x o.label)).getD Nd.zero by
              unfold afterV
              rw [if_neg k1, if_neg k2, if_neg k3, if_neg k4, if_pos k5, hx]
              rfl]
            exact done_relabel T w hT t x aA kA an ac kn kc h o s ho k5 hs.label (by omega) hx
          · have k6 := form_kind hfm k1 k2 k3 k4 k5
            have hrp : P5.rightV o.pieces = true := by
              have hh := hfm
              unfold formedV at hh
              rw [if_neg k1, if_neg k2, if_neg k3, if_neg k4, if_neg k5, if_pos k6, Bool.and_eq_true] at hh
              exact hh.2
            rw [show afterV t o = (putV t o.path (textN x (Ltx.apply x.text (pcs o.pieces)))).getD Nd.zero by
              unfold afterV
              rw [if_neg k1, if_neg k2, if_neg k3, if_neg k4, if_neg k5, hx]
              rfl]
            exact done_edit T w hT t x aA kA an ac kn kc h o s ho k6 (by omega) hx hrp (edit_none (h6 k6)).2 (by
              have e1 := Ltx.apply_len (pcs o.pieces) x.text
              have e2 := puts_pcs o.pieces
              have e3 := hs.puts
              have e4 := (at_count o.path t x hx).2
              have e5 := weighV_eq x
              omega)
/-- a tree and an error are answered; the tree lies in T, or in new blocks -/
def AppA (T : Nat → Prop) (w : World) (a : Nd) (k : Int) (e : Ending) (w' : World) : Prop :=
  ∃ aA an ac kA kn kc, e = .returned (.tuple #[.agg (val6 a aA an ac kA kn kc), .int .i64 k]) ∧ NodeV (Nw T w w') w' aA an ac kA kn kc a ∧ Below w.heap.size w w'
def applyV (t : Nd) (o : Ov) : Nd := if validV t o = 0 then afterV t o else Nd.zero
set_option maxHeartbeats 4000000 in
theorem apply_T (T : Nat → Prop) (w : World) (hT0 : ∀ k, T k → k < w.heap.size) (t : Nd) (aA kA : Option Addr) (an ac kn kc : Nat) (h : NodeV T w aA an ac kA kn kc t) (o : Ov) (s : OS) (ho : OpIn w o s) (hs : Slim o) (hbig : weighV t ≤ 40000) :
    Calls Try.prog 34 #[.agg (val6 t aA an ac kA kn kc), .agg (opCells o s)] w (AppA T w (applyV t o) (validV t o)) := by
  obtain ⟨z1, z2, z3, z4, z5⟩ := three_new w (.cells (val6 t aA an ac kA kn kc) 42) (.cells (opCells o s) 26) (.cells zero6 42)
  obtain ⟨W3, hW3⟩ : ∃ W3, W3 = ((w.alloc (.cells (val6 t aA an ac kA kn kc) 42)).alloc (.cells (opCells o s) 26)).alloc (.cells zero6 42) := ⟨_, rfl⟩
  rw [← hW3] at z1 z2 z3 z4 z5
  have hval := Lib.hid (valid_any W3 t aA kA an ac kn kc o s ((h.kept (T' := Old w) (fun k hk => hT0 k hk) (fun _ _ => rfl)).below z4) (ho.below z4) (by omega))
  have hdone := Lib.hid (fun (hv : validV t o = 0) (W : World) (hb : Below w.heap.size w W) => done_any T W (fun k hk => Nat.lt_of_lt_of_le (hT0 k hk) hb.size) t aA kA an ac kn kc (h.kept (fun _ h => h) fun k hk => hb.block k (hT0 k hk)) o s (ho.below hb) hs hbig (by
    unfold validV at hv
    cases hr : rightV ltB t with
    | false => rw [hr] at hv; simp at hv
    | true => unfold rightV at hr; rw [Bool.and_eq_true] at hr; exact hr.2) (by
    unfold validV at hv
    cases hr : rightV ltB t with
    | false => rw [hr] at hv; simp at hv
    | true => rw [hr] at hv; simpa using hv))
  obtain ⟨o0, o1, o2, o3, o4, o5, o6, o7, o8, o9, o10⟩ := op_cells z2
  have z1u := z1
  unfold val6 at z1u
  obtain ⟨p0, p1, p2, p3, p4, p5, pf⟩ := six_cells z1u
  have z1' := Lib.hid z1
  have z2' := Lib.hid z2
  have z3' := Lib.hid z3
  have z4' := Lib.hid z4
  have z5' := Lib.hid z5
  rw [hW3] at o0 o1 o2 o3 o4 o5 o6 o7 o8 o9 o10 p0 p1 p2 p3 p4 p5 pf hval
  obtain ⟨vv, hvv⟩ : ∃ vv, vv = validV t o := ⟨_, rfl⟩
  rw [← hvv] at hval hdone ⊢
  have hap := Lib.hid (show applyV t o = if vv = 0 then afterV t o else Nd.zero by unfold applyV; rw [← hvv])
  rw [hap.out]
  clear h ho z1 z1u z2 z3 z4 z5 hvv hap
  unfold val6 opCells at hdone
  unfold zero6 val6 opCells at hW3 hval o0 o1 o2 o3 o4 o5 o6 o7 o8 o9 o10 p0 p1 p2 p3 p4 p5 pf
  unfold val6 opCells
  by_cases hv : vv = 0
  · rw [if_pos hv]
    have hdone' := Lib.hid (hdone.out hv)
    subst hv
    clear hdone
    go_enter Try.func34, Try.ntmps34
    go_wp2_with (first
      | (go_at_call 73; go_loud (refine hval.out.mono ?_; rw [← hW3]; rintro e w1 ⟨rfl, hb⟩; have hb' := Lib.hid hb; have r1 := (hb.block _ (by have := z5'.out; omega)).trans z1'.out; have r2 := (hb.block _ (by have := z5'.out; omega)).trans z2'.out; clear o0 o1 o2 o3 o4 o5 o6 o7 o8 o9 o10 p0 p1 p2 p3 p4 p5 pf; obtain ⟨o0, o1, o2, o3, o4, o5, o6, o7, o8, o9, o10⟩ := op_cells r2; unfold val6 at r1; obtain ⟨p0, p1, p2, p3, p4, p5, pf⟩ := six_cells r1; clear hb r1 r2))
      | (go_at_call 74; go_loud (refine (hdone'.out w1 (z4'.out.trans (hb'.out.mono z4'.out.size))).mono ?_; rintro e w9 ⟨zA, zn, zc, zK, zm, zd, rfl, hz, hbz⟩; have hsa := hbz.size; have hsb := hb'.out.size; have r3 := (hbz.block (w.heap.size + 1 + 1) (by have := z5'.out; omega)).trans ((hb'.out.block _ (by have := z5'.out; omega)).trans z3'.out); have hr := Lib.hid r3; have hz' := Lib.hid (show NodeV (fun k => T k ∨ (W3.heap.size ≤ k ∧ k < w9.heap.size)) w9 zA zn zc zK zm zd _ from hz.kept (fun k hk => by (rcases hk with hk | hk); (exact .inl hk); (exact .inr ⟨by have := hk.1; omega, hk.2⟩)) (fun _ _ => rfl)); have hbz' := Lib.hid ((z4'.out.trans (hb'.out.mono z4'.out.size)).trans (hbz.mono (by have := z5'.out; omega))); unfold zero6 at r3; clear o0 o1 o2 o3 o4 o5 o6 o7 o8 o9 o10 p0 p1 p2 p3 p4 p5 pf; obtain ⟨q0, q1, q2, q3, q4, q5, qf⟩ := six_cells r3; have hne : w.heap.size + 1 + 1 < w9.heap.size := (by have := z5'.out; omega); have hne2 : w9.heap.size ≠ w.heap.size + 1 + 1 := (by omega); have hne3 : w.heap.size + 1 + 1 ≠ w9.heap.size := (by omega); unfold val6; clear hz hbz r3 hsa hsb)))
    obtain ⟨a, ha⟩ : ∃ a, a = afterV t o := ⟨_, rfl⟩
    rw [← ha] at hz' ⊢
    obtain ⟨W9, hW9, R9, N9, B9⟩ := end_node0 (T := T) hT0 (r := w.heap.size + 1 + 1) (b := W3.heap.size) (by omega) (by have := z5'.out; omega) hbz'.out hr.out hz'.out
    rw [← hW9]
    unfold val6 at R9
    obtain ⟨d0, d1, d2, d3, d4, d5, df⟩ := six_cells R9
    refine bodyPost_ret (v := .tuple #[.agg (val6 a zA zn zc zK zm zd), .int .i64 0]) (by simp [results, Try.results34, go_sem, d0, d1, d2, d3, d4, d5, val6]) rfl ?_
    exact ⟨zA, zn, zc, zK, zm, zd, rfl, N9, B9⟩
  · rw [if_neg hv]
    have hvb : (vv == 0) = false := by simpa using hv
    have hvn : (vv != 0) = true := by simpa using hv
    clear hdone
    go_enter Try.func34, Try.ntmps34
    go_wp2_with (go_at_call 73; go_loud (refine hval.out.mono ?_; rw [← hW3]; rintro e w1 ⟨rfl, hb⟩; have hb' := Lib.hid hb; have hsb := hb.size; have r3 := (hb.block (w.heap.size + 1 + 1) (by have := z5'.out; omega)).trans z3'.out; have hr := Lib.hid r3; clear o0 o1 o2 o3 o4 o5 o6 o7 o8 o9 o10 p0 p1 p2 p3 p4 p5 pf; unfold zero6 at r3; obtain ⟨q0, q1, q2, q3, q4, q5, qf⟩ := six_cells r3; have hne : w.heap.size + 1 + 1 < w1.heap.size := (by have := z5'.out; omega); clear hb hsb r3))
    obtain ⟨W9, hW9, R9, N9, B9⟩ := end_node0 (T := T) (a := Nd.zero) (yA := none) (yn := 0) (yc := 0) (yK := none) (ym := 0) (yd := 0) hT0 (r := w.heap.size + 1 + 1) (b := W3.heap.size) (by omega) (by have := z5'.out; omega) (z4'.out.trans (hb'.out.mono z4'.out.size)) hr.out zero_node
    have hW9' : W9 = ((((((w1.setCell ⟨w.heap.size + 1 + 1, 0, none⟩ (.int .u64 0)).setCell ⟨w.heap.size + 1 + 1, 1, none⟩ (.bool false)).setCell ⟨w.heap.size + 1 + 1, 2, none⟩ (.string ⟨#[]⟩)).setCell ⟨w.heap.size + 1 + 1, 3, none⟩ (.slice none 0 0)).setCell ⟨w.heap.size + 1 + 1, 4, none⟩ (.string ⟨#[]⟩)).setCell ⟨w.heap.size + 1 + 1, 5, none⟩ (.slice none 0 0)) := hW9
    rw [← hW9']
    unfold val6 at R9
    obtain ⟨d0, d1, d2, d3, d4, d5, df⟩ := six_cells R9
    refine bodyPost_ret (v := .tuple #[.agg (val6 Nd.zero none 0 0 none 0 0), .int .i64 vv]) (by simp [results, Try.results34, go_sem, d0, d1, d2, d3, d4, d5, val6]) rfl ?_
    exact ⟨none, 0, 0, none, 0, 0, rfl, N9, B9⟩
theorem apply_any (w : World) (t : Nd) (aA kA : Option Addr) (an ac kn kc : Nat) (h : NodeV (Old w) w aA an ac kA kn kc t) (o : Ov) (s : OS) (ho : OpIn w o s) (hs : Slim o) (hbig : weighV t ≤ 40000) :
    Calls Try.prog 34 #[.agg (val6 t aA an ac kA kn kc), .agg (opCells o s)] w (AppA (Old w) w (applyV t o) (validV t o)) := apply_T (Old w) w (fun _ h => h) t aA kA an ac kn kc h o s ho hs hbig
end Go.Proofs.Ytpoenlhikanooaa.Top
/- Right trees stay right, identities are counted: values. -/
namespace Go.Proofs.Ytpoenlhikanooaa.Top
open Go.RowKit
set_option maxRecDepth 20000
set_option linter.unusedVariables false

/-- how many nodes the tree behind an operation has, how much it weighs -/
theorem size_after {t : Nd} {o : Ov} (hf : faultV t o = 0) : countV (afterV t o) + (if o.kind = 2 then countV ((atV t o.path).getD Nd.zero) else 0) = countV t + (if o.kind = 1 then 1 else 0) := by
  obtain ⟨hfm, hroot, x, hx, h1, h3, h6⟩ := fault_none hf
  have hmay := may_nat hfm
  have cins : ∀ (g : Nat) (x : Nd) (l : List Nd), countsV (insK g x l) = countsV l + countV x := fun g x l => by
    have h := congrArg countsV (List.take_append_drop g l)
    rw [countsV_append] at h
    unfold insK
    rw [countsV_append]
    show _ + (countV x + countsV (l.drop g)) = _
    omega
  have cdel : ∀ (c : Nat) (x : Nd) (l : List Nd), l[c]? = some x → countsV (delK c l) + countV x = countsV l := fun c x l h => by
    have hd : l.drop c = x :: l.drop (c + 1) := by
      obtain ⟨h1, h2⟩ := List.getElem?_eq_some_iff.1 h
      rw [List.drop_eq_getElem_cons h1, h2]
    have h2 := congrArg countsV (List.take_append_drop c l)
    rw [countsV_append, hd] at h2
    have h3 : countsV (x :: l.drop (c + 1)) = countV x + countsV (l.drop (c + 1)) := rfl
    unfold delK
    rw [countsV_append]
    omega
  rw [hx]
  simp only [Option.getD_some]
  by_cases k1 : o.kind = 1
  · rw [show afterV t o = (putV t o.path (x.withKids (insK o.at_.toNat (.mk o.id o.leaf o.label [] [] []) x.kids))).getD Nd.zero by unfold afterV; rw [if_pos k1, mod_at hx]]
    obtain ⟨a, p1, -, -, p4, -⟩ := put_all o.path t (x.withKids (insK o.at_.toNat (.mk o.id o.leaf o.label [] [] []) x.kids)) x hx
    rw [p1, if_neg (by omega), if_pos k1]
    rw [countV_with, countV_eq x, cins] at p4
    have : countV (.mk o.id o.leaf o.label [] [] []) = 1 := by simp [countV, countsV]
    simp only [Option.getD_some]
    omega
  · rw [if_neg k1]
    by_cases k2 : o.kind = 2
    · have hne : o.path ≠ [] := fun e => hroot ⟨.inl k2, e⟩
      obtain ⟨q, c, hq⟩ := path_last hne hmay
      have hx2 := hx
      rw [hq] at hx2
      obtain ⟨y, j, d1, d2, d3⟩ := at_parent q t x _ hx2
      obtain rfl : c = j := by omega
      obtain ⟨a, p1, -, -, p4, -⟩ := put_all q t (y.withKids (delK c y.kids)) y d1
      rw [show afterV t o = a by unfold afterV; rw [if_neg k1, if_pos k2, hq, delAt_snoc, mod_at d1, p1]; rfl, if_pos k2]
      rw [countV_with, countV_eq y] at p4
      have := cdel c x y.kids d3
      omega
    · rw [if_neg k2]
      by_cases k3 : o.kind = 3
      · have hne : o.path ≠ [] := fun e => hroot ⟨.inr k3, e⟩
        obtain ⟨q, c, hq⟩ := path_last hne hmay
        obtain ⟨hw, y, hy, hge⟩ := h3 k3
        have hfm3 := hfm
        unfold formedV at hfm3
        rw [if_neg k1, if_neg k2, if_pos k3] at hfm3
        simp only [Bool.and_eq_true] at hfm3
        obtain ⟨g, hg, hg1⟩ := gap_nat hfm3.2.1
        obtain ⟨m1, m2, y2, r, v1, v2, v3, v4, v5, v6, v7⟩ := move_value k3 hg hx hy hne hw (by have := (gap_none hge).2; omega)
        rw [v7]
        obtain ⟨a, p1, -, -, p4, -⟩ := put_all _ m2 (y2.withKids (insK (progTo o.path o.to_ g).2 x y2.kids)) y2 v4
        obtain rfl : r = a := Option.some.inj (v6.symm.trans p1)
        rw [countV_with, countV_eq y2, cins] at p4
        have hx2 := hx
        rw [hq] at hx2
        obtain ⟨y3, j, d1, d2, d3⟩ := at_parent q t x _ hx2
        obtain rfl : c = j := by omega
        obtain ⟨b, p6, -, -, p7, -⟩ := put_all q t (y3.withKids (delK c y3.kids)) y3 d1
        rw [hq, delAt_snoc, mod_at d1] at v3
        obtain rfl : b = m2 := Option.some.inj (p6.symm.trans v3)
        rw [countV_with, countV_eq y3] at p7
        have := cdel c x y3.kids d3
        omega
      · have hfin : ∀ z : Nd, z.kids = x.kids → countV ((putV t o.path z).getD Nd.zero) = countV t := fun z e => by
          obtain ⟨a, p1, -, -, p4, -⟩ := put_all o.path t z x hx
          rw [p1]
          simp only [Option.getD_some]
          rw [countV_eq z, countV_eq x, e] at p4
          omega
        by_cases k4 : o.kind = 4
        · rw [show afterV t o = (putV t o.path (attN x (docA o.key o.value x.attrs o.gone))).getD Nd.zero by unfold afterV; rw [if_neg k1, if_neg k2, if_neg k3, if_pos k4, hx]; rfl]
          have := hfin _ (attN_id x (docA o.key o.value x.attrs o.gone)).2.2.2.2.2
          omega
        · by_cases k5 : o.kind = 5
          · rw [show afterV t o = (putV t o.path (labN x o.label)).getD Nd.zero by unfold afterV; rw [if_neg k1, if_neg k2, if_neg k3, if_neg k4, if_pos k5, hx]; rfl]
            have := hfin _ (labN_id x o.label).2.2.2.2.2
            omega
          · rw [show afterV t o = (putV t o.path (textN x (Ltx.apply x.text (pcs o.pieces)))).getD Nd.zero by unfold afterV; rw [if_neg k1, if_neg k2, if_neg k3, if_neg k4, if_neg k5, hx]; rfl]
            have := hfin _ (textN_id x (Ltx.apply x.text (pcs o.pieces))).2.2.2.2.2
            omega
end Go.Proofs.Ytpoenlhikanooaa.Top
/- The document's tree without a node. -/
namespace Go.Proofs.Ytpoenlhikanooaa.Top
open Go.RowKit
set_option maxRecDepth 20000
set_option linter.unusedVariables false

end Go.Proofs.Ytpoenlhikanooaa.Top
/- The document's move. -/
namespace Go.Proofs.Ytpoenlhikanooaa.Top
open Go.RowKit
set_option maxRecDepth 20000
set_option linter.unusedVariables false

end Go.Proofs.Ytpoenlhikanooaa.Top
/- The document's attr. -/
namespace Go.Proofs.Ytpoenlhikanooaa.Top
open Go.RowKit
set_option maxRecDepth 20000
set_option linter.unusedVariables false

end Go.Proofs.Ytpoenlhikanooaa.Top
/- The document's Valid. -/
namespace Go.Proofs.Ytpoenlhikanooaa.Top
open Go.RowKit
set_option maxRecDepth 20000
set_option linter.unusedVariables false

end Go.Proofs.Ytpoenlhikanooaa.Top
/- The document's Apply. -/
namespace Go.Proofs.Ytpoenlhikanooaa.Top
open Go.RowKit
set_option maxRecDepth 20000
set_option linter.unusedVariables false

end Go.Proofs.Ytpoenlhikanooaa.Top
/- The document's Apply, whole. -/
namespace Go.Proofs.Ytpoenlhikanooaa.Top
open Go.RowKit
set_option maxRecDepth 20000
set_option linter.unusedVariables false

end Go.Proofs.Ytpoenlhikanooaa.Top
/- The tree behind an operation that moves nodes, told node by node from where each was; each node is where Node tells: by value. -/
namespace Go.Proofs.Ytpoenlhikanooaa.Shf
open Go.RowKit Top
set_option maxRecDepth 20000
set_option linter.unusedVariables false

/-- the gap in the row without the one that is taken out -/
def landC (c : Ch) : Int := if c.takes = true ∧ c.child < c.gap ∧ c.from_ = c.to_ then c.gap - 1 else c.gap
/-- a row of children behind it: without the one that is taken out, with the one that is put -/
def kidsC (c : Ch) (p : List Int) (X : Nd) (l : List Nd) : List Nd :=
  if c.puts = true ∧ p = c.to_ then insK (landC c).toNat X (if c.takes = true ∧ p = c.from_ then delK c.child.toNat l else l)
  else (if c.takes = true ∧ p = c.from_ then delK c.child.toNat l else l)
mutual
def aft (c : Ch) (X : Nd) (p : List Int) : Nd → Nd
  | .mk i l b a x ks => .mk i l b a x (kidsC c p X (afts c X p 0 ks))
def afts (c : Ch) (X : Nd) (p : List Int) (j : Nat) : List Nd → List Nd
  | [] => []
  | k :: r => aft c X (p ++ [(j : Int)]) k :: afts c X p (j + 1) r
end
section
variable {c : Ch} {X : Nd}
theorem aft_eq (p : List Int) (t : Nd) : aft c X p t = t.withKids (kidsC c p X (afts c X p 0 t.kids)) := by cases t; rfl
theorem aft_kids (p : List Int) (t : Nd) : (aft c X p t).kids = kidsC c p X (afts c X p 0 t.kids) := by cases t; rfl
theorem aft_with (p : List Int) (t : Nd) (l : List Nd) : (aft c X p t).withKids l = t.withKids l := by cases t; rfl
theorem aft_own (p : List Int) (t : Nd) : aft c X p t = t.withKids (aft c X p t).kids := by cases t; rfl
theorem aft_id (p : List Int) (t : Nd) : (aft c X p t).id = t.id := by cases t; rfl
theorem afts_get : ∀ (l : List Nd) (p : List Int) (j k : Nat), (afts c X p j l)[k]? = (l[k]?).map (aft c X (p ++ [((j + k : Nat) : Int)]))
  | [], p, j, k => by simp [afts]
  | z :: r, p, j, 0 => by simp [afts]
  | z :: r, p, j, k + 1 => by
    rw [afts, List.getElem?_cons_succ, List.getElem?_cons_succ, afts_get r p (j + 1) k, show j + 1 + k = j + (k + 1) by omega]
theorem afts_len (l : List Nd) (p : List Int) (j : Nat) : (afts c X p j l).length = l.length := by
  induction l generalizing j with
  | nil => rfl
  | cons z r ih => rw [afts, List.length_cons, List.length_cons, ih]
theorem pre_snoc {p q : List Int} {k : Int} (h : ¬ p <+: q) : ¬ (p ++ [k]) <+: q := fun h2 => h ((List.prefix_append p [k]).trans h2)
theorem kids_none {p : List Int} {l : List Nd} (h1 : c.takes = true → p ≠ c.from_) (h2 : c.puts = true → p ≠ c.to_) : kidsC c p X l = l := by
  unfold kidsC
  rw [if_neg (fun h => h2 h.1 h.2), if_neg (fun h => h1 h.1 h.2)]
mutual
/-- what is not on the way to either place stays as it is -/
theorem aft_self : ∀ (t : Nd) (p : List Int), (c.takes = true → ¬ p <+: c.from_) → (c.puts = true → ¬ p <+: c.to_) → aft c X p t = t
  | .mk i l b a x ks, p, h1, h2 => by
    rw [aft, kids_none (fun h e => h1 h (e ▸ List.prefix_rfl)) (fun h e => h2 h (e ▸ List.prefix_rfl)), afts_self ks p 0 h1 h2]
theorem afts_self : ∀ (l : List Nd) (p : List Int) (j : Nat), (c.takes = true → ¬ p <+: c.from_) → (c.puts = true → ¬ p <+: c.to_) → afts c X p j l = l
  | [], p, j, h1, h2 => rfl
  | k :: r, p, j, h1, h2 => by
    rw [afts, aft_self k (p ++ [(j : Int)]) (fun h => pre_snoc (h1 h)) (fun h => pre_snoc (h2 h)), afts_self r p (j + 1) h1 h2]
end
theorem snoc_pre {r s : List Int} {i j : Int} (h : (r ++ [i]) <+: r ++ j :: s) : i = j := by
  obtain ⟨u, hu⟩ := h
  rw [List.append_assoc] at hu
  have := List.append_cancel_left hu
  simp at this
  exact this.1
theorem snoc_self {r : List Int} {i : Int} : ¬ (r ++ [i]) <+: r := fun h => by
  have := h.length_le
  simp at this
  omega
/-- the node taken out at a path -/
theorem mod_del (ht : c.takes = true) (hp : c.puts = false) : ∀ (rest r : List Int) (x y : Nd), atV x rest = some y → r ++ rest = c.from_ → modV x rest (delK c.child.toNat) = some (aft c X r x)
  | [], r, x, y, h, hr => by
    rw [List.append_nil] at hr
    subst hr
    rw [mod_nil, aft_eq]
    unfold kidsC
    rw [if_neg (by rw [hp]; simp), if_pos ⟨ht, rfl⟩]
    congr 2
    congr 1
    refine (List.ext_getElem? fun k => ?_).symm
    rw [afts_get]
    cases hk : x.kids[k]? with
    | none => rfl
    | some z => exact congrArg some (aft_self z _ (fun _ => snoc_self) (fun h => by rw [hp] at h; cases h))
  | k :: s, r, x, y, h, hr => by
    obtain ⟨j, z, rfl, hz, hy⟩ := atV_cons h
    rw [mod_nat hz, mod_del ht hp s (r ++ [(j : Int)]) z y hy (by rw [← hr]; simp)]
    simp only [Option.map_some, Option.some.injEq]
    rw [aft_eq r x, kids_none (fun _ e => by have := congrArg List.length (e.trans hr.symm); simp at this) (fun h => by rw [hp] at h; cases h)]
    congr 1
    refine (List.ext_getElem? fun i => ?_).symm
    rw [afts_get, Nat.zero_add, List.getElem?_set]
    have hjl := (List.getElem?_eq_some_iff.1 hz).1
    by_cases hij : j = i
    · subst hij
      rw [if_pos rfl, if_pos hjl, hz]
      rfl
    · rw [if_neg hij]
      cases hi : x.kids[i]? with
      | none => rfl
      | some w =>
        refine congrArg some (aft_self w _ (fun _ h => ?_) (fun h => by rw [hp] at h; cases h))
        rw [← hr] at h
        have := snoc_pre h
        omega
/-- a path's numbers without the one that is taken out -/
def restD (c : Ch) : List Int → List Int → List Int
  | _, [] => []
  | r, k :: s => lessV c r k :: restD c (r ++ [k]) s
def dropC (c : Ch) : Ch := { c with puts := false }
theorem less_at {r : List Int} {k : Nat} (hk : k ≤ 1000000000) (hc : c.takes = true → 0 ≤ c.child) : lessV c r (k : Int) = if c.takes = true ∧ r = c.from_ ∧ c.child < (k : Int) then (k : Int) - 1 else (k : Int) := by
  unfold lessV P4.eqV
  by_cases h : c.takes = true ∧ r = c.from_ ∧ c.child < (k : Int)
  · have h0 := hc h.1
    rw [if_pos h, if_pos (by rw [h.1, h.2.1]; simp; exact h.2.2), IntWalk.i64_in _ (by omega)]
  · rw [if_neg h, if_neg]
    intro h2
    simp only [Bool.and_eq_true, decide_eq_true_eq] at h2
    exact h ⟨h2.1, h2.2.2, h2.2.1⟩
/-- where a child is in a row without the one that is taken out -/
theorem del_at {r : List Int} {l : List Nd} {k : Nat} {z : Nd} (hz : l[k]? = some z) (hh : hitV c r (k : Int) = false) (hk : l.length ≤ 1000000000) (hc : c.takes = true → 0 ≤ c.child) (hcl : c.takes = true → r = c.from_ → c.child.toNat < l.length) :
    ∃ n : Nat, lessV c r (k : Int) = (n : Int) ∧ n ≤ k ∧ (if c.takes = true ∧ r = c.from_ then delK c.child.toNat l else l)[n]? = some z := by
  have hkl := (List.getElem?_eq_some_iff.1 hz).1
  rw [less_at (by omega) hc]
  by_cases h1 : c.takes = true ∧ r = c.from_
  · rw [if_pos h1]
    have h0 := hc h1.1
    have h2 := hcl h1.1 h1.2
    have hne : c.child ≠ (k : Int) := by
      intro e
      unfold hitV P4.eqV at hh
      rw [h1.1, h1.2, e] at hh
      simp at hh
    by_cases h3 : c.child < (k : Int)
    · rw [if_pos ⟨h1.1, h1.2, h3⟩]
      refine ⟨k - 1, by omega, by omega, ?_⟩
      rw [get_del h2, if_neg (by omega), show k - 1 + 1 = k by omega]
      exact hz
    · rw [if_neg (fun h => h3 h.2.2)]
      refine ⟨k, rfl, by omega, ?_⟩
      rw [get_del h2, if_pos (by omega)]
      exact hz
  · rw [if_neg h1, if_neg (fun h => h1 ⟨h.1, h.2.1⟩)]
    exact ⟨k, rfl, Nat.le_refl _, hz⟩
end
end Go.Proofs.Ytpoenlhikanooaa.Shf
/- The tree behind an operation that moves nodes: a node is put; each node is where Node tells. -/
namespace Go.Proofs.Ytpoenlhikanooaa.Shf
open Go.RowKit Top
set_option maxRecDepth 20000
set_option linter.unusedVariables false

section
variable {c : Ch} {X : Nd}
theorem kids_drop (p : List Int) (l : List Nd) : kidsC (dropC c) p X l = if c.takes = true ∧ p = c.from_ then delK c.child.toNat l else l := by
  unfold kidsC
  rw [if_neg (fun e : (dropC c).puts = true ∧ p = (dropC c).to_ => by cases e.1)]
  rfl
mutual
theorem aft_drop : ∀ (t : Nd) (p : List Int), ¬ p <+: c.to_ → aft c X p t = aft (dropC c) X p t
  | .mk i l b a x ks, p, h => by
    rw [aft, aft, afts_drop ks p 0 h]
    have e1 : kidsC c p X (afts (dropC c) X p 0 ks) = kidsC (dropC c) p X (afts (dropC c) X p 0 ks) := by
      have hne : p ≠ c.to_ := fun e => h (e ▸ List.prefix_rfl)
      rw [kids_drop]
      unfold kidsC
      rw [if_neg (fun e : c.puts = true ∧ p = c.to_ => hne e.2)]
    rw [e1]
theorem afts_drop : ∀ (l : List Nd) (p : List Int) (j : Nat), ¬ p <+: c.to_ → afts c X p j l = afts (dropC c) X p j l
  | [], p, j, h => rfl
  | k :: r, p, j, h => by rw [afts, afts, aft_drop k _ (pre_snoc h), afts_drop r p (j + 1) h]
end
theorem afts_drop2 (l : List Nd) : afts c X c.to_ 0 l = afts (dropC c) X c.to_ 0 l := by
  refine List.ext_getElem? fun k => ?_
  rw [afts_get, afts_get]
  cases l[k]? with
  | none => rfl
  | some z => exact congrArg some (aft_drop z _ snoc_self)
theorem counts_len : ∀ l : List Nd, l.length ≤ countsV l
  | [] => by simp [countsV]
  | k :: r => by
    have h1 := counts_len r
    have h2 := countV_eq k
    rw [countsV, List.length_cons]
    omega
theorem count_kid : ∀ (l : List Nd) (j : Nat) (z : Nd), l[j]? = some z → countV z ≤ countsV l
  | [], j, z, h => by simp at h
  | k :: r, 0, z, h => by
    simp at h
    subst h
    rw [countsV]
    omega
  | k :: r, j + 1, z, h => by
    have := count_kid r j z (by simpa using h)
    rw [countsV]
    omega
theorem kids_few (t z : Nd) (j : Nat) (h : t.kids[j]? = some z) : countV z ≤ countV t ∧ t.kids.length ≤ countV t := by
  rw [countV_eq t]
  have h1 := counts_len t.kids
  have h2 := count_kid _ _ _ h
  omega
/-- the node put at a path, behind the taking out -/
theorem mod_put (hp : c.puts = true) (hcl : Clear c c.to_) (h0 : c.takes = true → 0 ≤ c.child) : ∀ (rest r : List Int) (x y : Nd), atV x rest = some y → countV x ≤ 1000000 → r ++ rest = c.to_ → (∀ f, c.takes = true → r ++ f = c.from_ → ∃ z, atV x (f ++ [c.child]) = some z) → modV (aft (dropC c) X r x) (restD c r rest) (insK (landC c).toNat X) = some (aft c X r x)
  | [], r, x, y, h, hb, hr, hf => by
    rw [List.append_nil] at hr
    subst hr
    have k2 : kidsC c c.to_ X (afts (dropC c) X c.to_ 0 x.kids) = insK (landC c).toNat X (if c.takes = true ∧ c.to_ = c.from_ then delK c.child.toNat (afts (dropC c) X c.to_ 0 x.kids) else afts (dropC c) X c.to_ 0 x.kids) := by
      unfold kidsC
      rw [if_pos ⟨hp, rfl⟩]
    have k3 : (aft (dropC c) X c.to_ x).kids = if c.takes = true ∧ c.to_ = c.from_ then delK c.child.toNat (afts (dropC c) X c.to_ 0 x.kids) else afts (dropC c) X c.to_ 0 x.kids := by rw [aft_kids, kids_drop]
    have k4 : (aft c X c.to_ x).kids = insK (landC c).toNat X (if c.takes = true ∧ c.to_ = c.from_ then delK c.child.toNat (afts (dropC c) X c.to_ 0 x.kids) else afts (dropC c) X c.to_ 0 x.kids) := by rw [aft_kids, afts_drop2, k2]
    rw [restD, mod_nil, aft_with, aft_own (c := c) c.to_ x, k3, k4]
  | k :: s, r, x, y, h, hb, hr, hf => by
    obtain ⟨j, z, rfl, hz, hy⟩ := atV_cons h
    have hjl := (List.getElem?_eq_some_iff.1 hz).1
    obtain ⟨hf1, hf2⟩ := kids_few x z j hz
    have hh := hcl r (j : Int) s hr.symm
    have hrt : r ≠ c.to_ := fun e => by have := congrArg List.length (e.trans hr.symm); simp at this
    have ih := mod_put hp hcl h0 s (r ++ [(j : Int)]) z y hy (by omega) (by rw [← hr]; simp) (fun f ht hff => by
      obtain ⟨u, hu⟩ := hf ((j : Int) :: f) ht (by rw [← hff]; simp)
      rw [List.cons_append, atV_nat hz] at hu
      exact ⟨u, hu⟩)
    have hset : afts c X r 0 x.kids = (afts (dropC c) X r 0 x.kids).set j (aft c X (r ++ [(j : Int)]) z) := by
      refine List.ext_getElem? fun i => ?_
      rw [afts_get, Nat.zero_add, List.getElem?_set, afts_len, afts_get, Nat.zero_add]
      by_cases hij : j = i
      · subst hij
        rw [if_pos rfl, if_pos hjl, hz]
        rfl
      · rw [if_neg hij]
        cases hi : x.kids[i]? with
        | none => rfl
        | some w =>
          refine congrArg some (aft_drop w _ (fun h => ?_))
          rw [← hr] at h
          have := snoc_pre h
          omega
    have hget : (afts (dropC c) X r 0 x.kids)[j]? = some (aft (dropC c) X (r ++ [(j : Int)]) z) := by rw [afts_get, hz, Nat.zero_add]; rfl
    have hlen := afts_len (c := dropC c) (X := X) x.kids r 0
    rw [restD, less_at (by omega) h0]
    have hkc : (aft c X r x).kids = if c.takes = true ∧ r = c.from_ then delK c.child.toNat (afts c X r 0 x.kids) else afts c X r 0 x.kids := by
      rw [aft_kids]
      unfold kidsC
      rw [if_neg (fun e => hrt e.2)]
    have hkd : (aft (dropC c) X r x).kids = if c.takes = true ∧ r = c.from_ then delK c.child.toNat (afts (dropC c) X r 0 x.kids) else afts (dropC c) X r 0 x.kids := by
      rw [aft_kids, kids_drop]
    by_cases h1 : c.takes = true ∧ r = c.from_
    · rw [if_pos h1] at hkc hkd
      have hc0 := h0 h1.1
      obtain ⟨u, hu⟩ := hf [] h1.1 (by rw [List.append_nil]; exact h1.2)
      obtain ⟨d, v, hd, hv, -⟩ := atV_cons (show atV x (c.child :: []) = some u from hu)
      have hdl := (List.getElem?_eq_some_iff.1 hv).1
      have hne : c.child ≠ (j : Int) := by
        intro e
        unfold hitV P4.eqV at hh
        rw [h1.1, h1.2, e] at hh
        simp at hh
      have hds := del_set (c := d) (e := j) (z := aft c X (r ++ [(j : Int)]) z) (l := afts (dropC c) X r 0 x.kids) (by omega) (by omega) (by omega)
      have hdn : c.child.toNat = d := by omega
      rw [hset, hdn] at hkc
      rw [hdn] at hkd
      rw [hds] at hkc
      have key : ∀ n : Nat, n = (if d < j then j - 1 else j) → modV (aft (dropC c) X r x) ((n : Int) :: restD c (r ++ [(j : Int)]) s) (insK (landC c).toNat X) = some (aft c X r x) := by
        intro n hn
        have hgn : (aft (dropC c) X r x).kids[n]? = some (aft (dropC c) X (r ++ [(j : Int)]) z) := by
          rw [hkd, get_del (by omega)]
          by_cases h3 : d < j
          · rw [if_pos h3] at hn
            rw [if_neg (by omega), show n + 1 = j by omega]
            exact hget
          · rw [if_neg h3] at hn
            rw [if_pos (by omega), hn]
            exact hget
        rw [mod_nat hgn, ih]
        simp only [Option.map_some, Option.some.injEq]
        rw [aft_with, aft_own (c := c) r x, hkc, hkd, hn]
      by_cases h3 : d < j
      · rw [if_pos ⟨h1.1, h1.2, by omega⟩]
        have := key (j - 1) (by rw [if_pos h3])
        rw [show ((j - 1 : Nat) : Int) = (j : Int) - 1 by omega] at this
        exact this
      · rw [if_neg (fun e => h3 (by have := e.2.2; omega))]
        exact key j (by rw [if_neg h3])
    · rw [if_neg h1] at hkc hkd
      rw [if_neg (fun e => h1 ⟨e.1, e.2.1⟩)]
      rw [mod_nat (by rw [hkd]; exact hget), ih]
      simp only [Option.map_some, Option.some.injEq]
      rw [aft_with, aft_own (c := c) r x, hkc, hset, hkd]
/-- what a change asks of the tree -/
structure Good (c : Ch) (X t : Nd) : Prop where
  few : countV t ≤ 1000000
  child : c.takes = true → 0 ≤ c.child
  node : c.takes = true → ∃ z, atV t (c.from_ ++ [c.child]) = some z ∧ (c.puts = true → z = X)
  gap : c.puts = true → 0 ≤ c.gap ∧ ∃ y, atV t c.to_ = some y ∧ c.gap ≤ y.kids.length
  clear : Clear c c.to_
/-- where a child is in its row behind it -/
theorem num_get {p : List Int} {l : List Nd} {k : Nat} {z : Nd} (hz : l[k]? = some z) (hh : hitV c p (k : Int) = false) (hl : l.length ≤ 1000000) (hc : c.takes = true → 0 ≤ c.child) (hcl : c.takes = true → p = c.from_ → c.child.toNat < l.length) (hg0 : c.puts = true → 0 ≤ c.gap) (hg : c.puts = true → p = c.to_ → c.gap ≤ l.length) :
    ∃ n : Nat, numV c p (k : Int) = (n : Int) ∧ (kidsC c p X l)[n]? = some z := by
  have hkl := (List.getElem?_eq_some_iff.1 hz).1
  obtain ⟨n, h1, h2, h3⟩ := del_at hz hh (by omega) hc hcl
  by_cases hp : c.puts = true ∧ p = c.to_
  · have g0 := hg0 hp.1
    have g1 := hg hp.1 hp.2
    obtain ⟨L, hL⟩ : ∃ L, L = (if c.takes = true ∧ p = c.from_ then delK c.child.toNat l else l) := ⟨_, rfl⟩
    rw [← hL] at h3
    have hnl := (List.getElem?_eq_some_iff.1 h3).1
    have hland : landC c = if c.takes = true ∧ p = c.from_ ∧ c.child < c.gap then c.gap - 1 else c.gap := by
      unfold landC
      rw [hp.2]
      by_cases e : c.takes = true ∧ c.child < c.gap ∧ c.from_ = c.to_
      · rw [if_pos e, if_pos ⟨e.1, e.2.2.symm, e.2.1⟩]
      · rw [if_neg e, if_neg (fun e2 => e ⟨e2.1, e2.2.2, e2.2.1.symm⟩)]
    have hLl : (landC c).toNat ≤ L.length := by
      rw [hland, hL]
      by_cases e : c.takes = true ∧ p = c.from_
      · rw [if_pos e]
        have := delK_len (hcl e.1 e.2)
        have := hc e.1
        split
        · omega
        · rename_i e2
          have : ¬ c.child < c.gap := fun e3 => e2 ⟨e.1, e.2, e3⟩
          have := hcl e.1 e.2
          omega
      · rw [if_neg e, if_neg (fun e2 => e ⟨e2.1, e2.2.1⟩)]
        omega
    have hle := less_at (c := c) (r := p) (k := k) (by omega) hc
    rw [h1] at hle
    have hne : c.takes = true → p = c.from_ → c.child ≠ (k : Int) := by
      intro e1 e2 e
      unfold hitV P4.eqV at hh
      rw [e1, e2, e] at hh
      simp at hh
    have hcmp : c.gap ≤ (k : Int) ↔ landC c ≤ (n : Int) := by
      rw [hland, hle]
      by_cases e : c.takes = true ∧ p = c.from_
      · have := hne e.1 e.2
        by_cases e1 : c.child < c.gap
        · rw [if_pos ⟨e.1, e.2, e1⟩]
          by_cases e2 : c.child < (k : Int)
          · rw [if_pos ⟨e.1, e.2, e2⟩]; omega
          · rw [if_neg (fun h => e2 h.2.2)]; omega
        · rw [if_neg (fun h => e1 h.2.2)]
          by_cases e2 : c.child < (k : Int)
          · rw [if_pos ⟨e.1, e.2, e2⟩]; omega
          · rw [if_neg (fun h => e2 h.2.2)]
      · rw [if_neg (fun h => e ⟨h.1, h.2.1⟩), if_neg (fun h => e ⟨h.1, h.2.1⟩)]
    have hl0 : 0 ≤ landC c := by
      rw [hland]
      split
      · rename_i e
        have := hc e.1
        omega
      · exact g0
    have hkc : kidsC c p X l = insK (landC c).toNat X L := by unfold kidsC; rw [if_pos hp, hL]
    rw [hkc]
    unfold numV P4.eqV
    rw [h1]
    by_cases e : c.gap ≤ (k : Int)
    · rw [if_pos (by simp [hp.1, hp.2, e]), IntWalk.i64_in _ (by omega)]
      refine ⟨n + 1, by omega, ?_⟩
      have := hcmp.1 e
      rw [get_ins hLl, if_neg (by omega), if_neg (by omega), Nat.add_sub_cancel]
      exact h3
    · rw [if_neg (by simp [e])]
      refine ⟨n, rfl, ?_⟩
      have : ¬ landC c ≤ (n : Int) := fun h => e (hcmp.2 h)
      rw [get_ins hLl, if_pos (by omega)]
      exact h3
  · have hkc : kidsC c p X l = if c.takes = true ∧ p = c.from_ then delK c.child.toNat l else l := by unfold kidsC; rw [if_neg hp]
    rw [hkc]
    refine ⟨n, ?_, h3⟩
    unfold numV P4.eqV
    rw [if_neg, h1]
    intro e
    simp only [Bool.and_eq_true, decide_eq_true_eq] at e
    exact hp ⟨e.1, e.2.2⟩
end
end Go.Proofs.Ytpoenlhikanooaa.Shf
/- Each node is where Node tells; what a valid operation makes of a tree, node by node: by value. -/
namespace Go.Proofs.Ytpoenlhikanooaa.Shf
open Go.RowKit Top
set_option maxRecDepth 20000
set_option linter.unusedVariables false

section
variable {c : Ch} {X : Nd}
theorem at_append : ∀ (p q : List Int) (t : Nd), atV t (p ++ q) = (atV t p).bind fun y => atV y q
  | [], q, t => rfl
  | i :: p, q, t => by
    cases h : atV t (i :: p) with
    | some y =>
      obtain ⟨j, k, rfl, hk, hy⟩ := atV_cons h
      rw [List.cons_append, atV_nat hk, at_append p q k, hy]
    | none =>
      cases h2 : atV t (i :: (p ++ q)) with
      | none => rw [List.cons_append, h2]; rfl
      | some z =>
        obtain ⟨j, k, rfl, hk, hz⟩ := atV_cons h2
        rw [at_append p q k] at hz
        rw [atV_nat hk] at h
        rw [h] at hz
        cases hz
theorem at_one {t z : Nd} {j : Nat} (h : t.kids[j]? = some z) : atV t [(j : Int)] = some z := by rw [atV_nat h]; rfl
theorem at_few : ∀ (p : List Int) (t y : Nd), atV t p = some y → countV y ≤ countV t
  | [], t, y, h => by
    simp only [atV, Option.some.injEq] at h
    subst h
    exact Nat.le_refl _
  | i :: p, t, y, h => by
    obtain ⟨j, k, rfl, hk, hy⟩ := atV_cons h
    have h1 := at_few p k y hy
    have h2 := kids_few t k j hk
    omega
theorem at_bound {t y : Nd} {p : List Int} (hb : countV t ≤ 1000000) (h : atV t p = some y) : y.kids.length ≤ 1000000 := by
  have h1 := at_few p t y h
  have h2 := countV_eq y
  have h3 := counts_len y.kids
  omega
/-- from a node to its child -/
theorem follow_step {t y x A : Nd} {q q' : List Int} {j : Nat} (hg : Good c X t) (hy : atV t q = some y) (hx : y.kids[j]? = some x) (hh : hitV c q (j : Int) = false) (hA : atV A q' = some (aft c X q y)) :
    atV A (q' ++ [numV c q (j : Int)]) = some (aft c X (q ++ [(j : Int)]) x) := by
  have hyl : y.kids.length ≤ 1000000 := at_bound hg.few hy
  obtain ⟨n, h1, h2⟩ := num_get (c := c) (X := X) (p := q) (l := afts c X q 0 y.kids) (k := j) (z := aft c X (q ++ [(j : Int)]) x) (by rw [afts_get, hx, Nat.zero_add]; rfl) hh (by rw [afts_len]; exact hyl) hg.child
    (fun ht e => by
      obtain ⟨z, hz, -⟩ := hg.node ht
      rw [← e, at_append, hy] at hz
      obtain ⟨d, v, hd, hv, -⟩ := atV_cons (show atV y (c.child :: []) = some z from hz)
      have := (List.getElem?_eq_some_iff.1 hv).1
      rw [afts_len]
      omega)
    (fun hp => (hg.gap hp).1)
    (fun hp e => by
      obtain ⟨-, w, hw, hgl⟩ := hg.gap hp
      rw [← e, hy] at hw
      injection hw with hw
      rw [afts_len, hw]
      exact hgl)
  rw [at_append, hA, h1]
  exact at_one (by rw [aft_kids]; exact h2)
theorem follow_clear {t : Nd} (hg : Good c X t) : ∀ (n : Nat) (p : List Int) (x : Nd), p.length = n → Clear c p → atV t p = some x → atV (aft c X [] t) (plainR c p.reverse) = some (aft c X p x)
  | 0, p, x, hn, hc, h => by
    obtain rfl := List.eq_nil_of_length_eq_zero hn
    simp only [atV, Option.some.injEq] at h
    subst h
    rfl
  | n + 1, p, x, hn, hc, h => by
    obtain ⟨q, k, rfl⟩ : ∃ q k, p = q ++ [k] := by
      rcases snoc_cases p with rfl | h
      · simp at hn
      · exact h
    have hq : q.length = n := by simp at hn; exact hn
    obtain ⟨y, j, hy, rfl, hx⟩ := at_parent q t x k h
    have ih := follow_clear hg n q y hq hc.init hy
    rw [List.reverse_append, List.reverse_cons, List.reverse_nil, List.nil_append, List.singleton_append, plainR, List.reverse_reverse]
    exact follow_step hg hy hx hc.last ih
/-- the node that is put is where it is told -/
theorem follow_put {t : Nd} (hg : Good c X t) (hp : c.puts = true) : ∃ w, atV t c.to_ = some w ∧ atV (aft c X [] t) (toV c) = some (aft c X c.to_ w) ∧ 0 ≤ landC c ∧ (aft c X c.to_ w).kids = insK (landC c).toNat X (if c.takes = true ∧ c.to_ = c.from_ then delK c.child.toNat (afts c X c.to_ 0 w.kids) else afts c X c.to_ 0 w.kids) ∧
    (landC c).toNat ≤ (if c.takes = true ∧ c.to_ = c.from_ then delK c.child.toNat (afts c X c.to_ 0 w.kids) else afts c X c.to_ 0 w.kids).length := by
  obtain ⟨g0, w, hw, hgl⟩ := hg.gap hp
  refine ⟨w, hw, follow_clear hg _ _ _ rfl hg.clear hw, ?_, ?_, ?_⟩
  · unfold landC
    split
    · rename_i e
      have := hg.child e.1
      omega
    · exact g0
  · rw [aft_kids]
    unfold kidsC
    rw [if_pos ⟨hp, rfl⟩]
  · unfold landC
    by_cases e : c.takes = true ∧ c.to_ = c.from_
    · rw [if_pos e]
      obtain ⟨z, hz, -⟩ := hg.node e.1
      rw [← e.2, at_append, hw] at hz
      obtain ⟨d, v, hd, hv, -⟩ := atV_cons (show atV w (c.child :: []) = some z from hz)
      have h1 := (List.getElem?_eq_some_iff.1 hv).1
      have h2 := delK_len (c := c.child.toNat) (l := afts c X c.to_ 0 w.kids) (by rw [afts_len]; omega)
      rw [afts_len] at h2
      split
      · omega
      · rename_i e2
        have : ¬ c.child < c.gap := fun e3 => e2 ⟨e.1, e3, e.2.symm⟩
        omega
    · rw [if_neg e, if_neg (fun e2 => e ⟨e2.1, e2.2.2.symm⟩), afts_len]
      omega
end
end Go.Proofs.Ytpoenlhikanooaa.Shf
/- The tree behind a valid operation that moves nodes is the one that is told node by node: by value. -/
namespace Go.Proofs.Ytpoenlhikanooaa.Shf
open Go.RowKit Top
set_option maxRecDepth 20000
set_option linter.unusedVariables false

theorem restD_app (c : Ch) : ∀ (u v r : List Int), restD c r (u ++ v) = restD c r u ++ restD c (r ++ u) v
  | [], v, r => by rw [List.nil_append, restD, List.nil_append, List.append_nil]
  | k :: u, v, r => by rw [List.cons_append, restD, restD, restD_app c u v, List.cons_append, List.append_assoc]; rfl
theorem less_other {c : Ch} {r : List Int} {k : Int} (h : c.takes = true → r ≠ c.from_) : lessV c r k = k := by
  unfold lessV P4.eqV
  rw [if_neg]
  intro e
  simp only [Bool.and_eq_true, decide_eq_true_eq] at e
  exact h e.1 e.2.2
theorem restD_id (c : Ch) : ∀ (s r : List Int), (∀ u k v, s = u ++ k :: v → c.takes = true → r ++ u ≠ c.from_) → restD c r s = s
  | [], r, h => rfl
  | k :: s, r, h => by
    rw [restD, less_other (fun ht => by have := h [] k s rfl ht; rwa [List.append_nil] at this), restD_id c s (r ++ [k]) (fun u k' v e ht => by have := h (k :: u) k' v (by rw [e]; rfl) ht; rwa [List.append_assoc])]
theorem prog_rest {c : Ch} {d : Int} (ht : c.takes = true) (hd : c.child = d) (h0 : 0 ≤ d) (g : Nat) (hg : c.gap = (g : Int)) (hm : ∀ k ∈ c.to_, 0 ≤ k ∧ k ≤ 1048576) :
    progTo (c.from_ ++ [d]) c.to_ g = (restD c [] c.to_, (landC c).toNat) := by
  by_cases h1 : c.from_ <+: c.to_
  · obtain ⟨s, hs⟩ := h1
    cases s with
    | nil =>
      rw [List.append_nil] at hs
      have hr : restD c [] c.to_ = c.to_ := restD_id c _ _ (fun u k v e _ e2 => by
        rw [List.nil_append] at e2
        have := congrArg List.length e
        rw [← hs, e2] at this
        simp at this)
      rw [hr, ← hs, progTo_same]
      unfold landC
      rw [ht, hd, hg, hs]
      by_cases h2 : d < (g : Int)
      · rw [if_pos h2, if_pos ⟨rfl, h2, rfl⟩]
        congr 1
        omega
      · rw [if_neg h2, if_neg (fun e => h2 e.2.1)]
        rfl
    | cons e s =>
      have he := hm e (by rw [← hs]; simp)
      have hr : restD c [] c.to_ = c.from_ ++ (if d < e then e - 1 else e) :: s := by
        rw [← hs, restD_app, List.nil_append, restD_id c c.from_ [] (fun u k v e2 _ e3 => by
          rw [List.nil_append] at e3
          have := congrArg List.length e2
          rw [e3] at this
          simp at this), restD, restD_id c s (c.from_ ++ [e]) (fun u k v e2 _ e3 => by
          have := congrArg List.length e3
          simp at this)]
        congr 2
        have := less_at (c := c) (r := c.from_) (k := e.toNat) (by omega) (fun _ => by omega)
        rw [show ((e.toNat : Nat) : Int) = e by omega] at this
        rw [this, hd]
        by_cases h2 : d < e
        · rw [if_pos ⟨ht, rfl, h2⟩, if_pos h2]
        · rw [if_neg (fun e3 => h2 e3.2.2), if_neg h2]
      have hl : landC c = c.gap := by
        unfold landC
        exact if_neg (fun e3 => by have := congrArg List.length (e3.2.2.trans hs.symm); simp at this)
      rw [hr, hl, hg]
      rw [← hs, progTo_in]
      rfl
  · rw [progTo_out _ _ _ _ h1, restD_id c c.to_ [] (fun u k v e _ e3 => h1 (by rw [List.nil_append] at e3; rw [← e3, e]; exact List.prefix_append _ _))]
    unfold landC
    rw [if_neg (fun e3 => h1 (by rw [e3.2.2]; exact List.prefix_rfl)), hg]
    rfl
/-- what a valid operation that moves nodes makes of a tree -/
theorem after_aft {t : Nd} {o : Ov} (hf : faultV t o = 0) (hk : o.kind = 1 ∨ o.kind = 2 ∨ o.kind = 3) (hb : countV t ≤ 1000000) :
    ∃ X, Good (chV o) X t ∧ afterV t o = aft (chV o) X [] t ∧ (chV o).gap ≤ 2000000 ∧ (o.kind = 3 → atV t o.path = some X) ∧ (o.kind = 1 → X = .mk o.id o.leaf o.label [] [] []) := by
  obtain ⟨f1, f2, x, f3, f4, f5, -⟩ := fault_none hf
  have hmp := may_nat f1
  rcases hk with hk | hk | hk
  · obtain ⟨gl, gb⟩ := gap_none (f4 hk)
    have hform := f1
    unfold formedV at hform
    rw [if_pos hk, Bool.and_eq_true, Bool.and_eq_true] at hform
    obtain ⟨g, hg, hg1⟩ := gap_nat hform.2.1
    have hch := ch_one f1 hk
    refine ⟨.mk o.id o.leaf o.label [] [] [], ?_, ?_, by rw [hch]; show o.at_ ≤ _; omega, fun h => by omega, fun _ => rfl⟩
    · have hcl := ch_clear o
      rw [hch] at hcl ⊢
      exact ⟨hb, fun h => (by cases h), fun h => (by cases h), fun _ => ⟨by show 0 ≤ o.at_; omega, x, f3, gb⟩, hcl⟩
    · have hcl := ch_clear o
      rw [hch] at hcl ⊢
      have hm := mod_put (c := ⟨false, [], 0, true, o.path, o.at_⟩) (X := .mk o.id o.leaf o.label [] [] []) rfl hcl (fun h => by cases h) o.path [] t x f3 hb rfl (fun f h => by cases h)
      rw [aft_self t [] (fun h => by cases h) (fun h => by cases h), restD_id _ _ _ (fun u k v e h => by cases h)] at hm
      unfold afterV
      rw [if_pos hk]
      have hl : landC ⟨false, [], 0, true, o.path, o.at_⟩ = o.at_ := by unfold landC; rw [if_neg (fun e => by cases e.1)]
      rw [hl] at hm
      rw [hm]
      rfl
  · obtain ⟨q, d, hq⟩ := path_last (fun e => f2 ⟨.inl hk, e⟩) hmp
    have hch := ch_two f1 hk hq
    refine ⟨Nd.zero, ?_, ?_, by rw [hch]; show (0 : Int) ≤ 2000000; omega, fun h => by omega, fun h => by omega⟩
    · rw [hch]
      exact ⟨hb, fun _ => by show (0 : Int) ≤ (d : Int); omega, fun _ => ⟨x, by rw [← hq]; exact f3, fun h => by cases h⟩, fun h => (by cases h), Clear.nil _⟩
    · rw [hch]
      obtain ⟨y, j, hy, -, -⟩ := at_parent q t x (d : Int) (by rw [← hq]; exact f3)
      have hm := mod_del (c := ⟨true, q, d, false, [], 0⟩) (X := Nd.zero) rfl rfl q [] t y hy rfl
      unfold afterV
      rw [if_neg (by omega), if_pos hk, hq, delAt_snoc]
      rw [show (⟨true, q, (d : Int), false, [], 0⟩ : Ch).child.toNat = d from rfl] at hm
      rw [hm]
      rfl
  · obtain ⟨q, d, hq⟩ := path_last (fun e => f2 ⟨.inr hk, e⟩) hmp
    obtain ⟨hw, y, hy, hgap⟩ := f5 hk
    obtain ⟨gl, gb⟩ := gap_none hgap
    have hform := f1
    unfold formedV at hform
    rw [if_neg (by omega), if_neg (by omega), if_pos hk, Bool.and_eq_true, Bool.and_eq_true] at hform
    obtain ⟨g, hg, hg1⟩ := gap_nat hform.2.1
    have hch := ch_three f1 hk hq hw
    have hcl := ch_clear o
    rw [hch] at hcl
    have hgood : Good (chV o) x t := by
      rw [hch]
      exact ⟨hb, fun _ => by show (0 : Int) ≤ (d : Int); omega, fun _ => ⟨x, by rw [← hq]; exact f3, fun _ => rfl⟩, fun _ => ⟨by show 0 ≤ o.at_; omega, y, hy, gb⟩, hcl⟩
    refine ⟨x, hgood, ?_, by rw [hch]; show o.at_ ≤ _; omega, fun _ => f3, fun h => by omega⟩
    rw [hch]
    obtain ⟨m1, m2, y2, r, -, -, h3, h4, h5, h6, h7⟩ := move_value (g := g) hk hg f3 hy (fun e => f2 ⟨.inr hk, e⟩) hw (by omega)
    rw [h7]
    have hpr := prog_rest (c := ⟨true, q, (d : Int), true, o.to_, o.at_⟩) (d := (d : Int)) rfl rfl (by omega) g hg (fun k hk2 => by have := (of_decide_eq_true hform.2.2).2 k hk2; omega)
    rw [← hq] at hpr
    rw [hpr] at h4 h5 h6
    obtain ⟨w, j, hw2, -, -⟩ := at_parent q t x (d : Int) (by rw [← hq]; exact f3)
    have hm := mod_del (c := dropC ⟨true, q, (d : Int), true, o.to_, o.at_⟩) (X := x) rfl rfl q [] t w hw2 rfl
    rw [hq, delAt_snoc] at h3
    rw [show (dropC ⟨true, q, (d : Int), true, o.to_, o.at_⟩ : Ch).child.toNat = d from rfl, h3] at hm
    injection hm with hm
    have hm2 := mod_put (c := ⟨true, q, (d : Int), true, o.to_, o.at_⟩) (X := x) rfl hcl (fun _ => by show (0 : Int) ≤ (d : Int); omega) o.to_ [] t y hy hb rfl (fun f _ e => ⟨x, by
      have e' : f = q := e
      rw [e']
      show atV t (q ++ [(d : Int)]) = _
      rw [← hq]
      exact f3⟩)
    rw [← hm, mod_at h4, h6] at hm2
    injection hm2
end Go.Proofs.Ytpoenlhikanooaa.Shf
/- A node moved to a gap beside itself is where it was: by value. -/
namespace Go.Proofs.Ytpoenlhikanooaa.Top
open Go.RowKit
set_option maxRecDepth 20000
set_option linter.unusedVariables false

theorem stay_list {l : List Nd} {c : Nat} {x : Nd} (h : l[c]? = some x) : delK (c + 1) (insK c x l) = l ∧ delK c (insK (c + 1) x l) = l := by
  have hc : c < l.length := (List.getElem?_eq_some_iff.1 h).1
  constructor
  · refine List.ext_getElem? fun j => ?_
    rw [get_del (by rw [insK_len (by omega)]; omega), get_ins (by omega), get_ins (by omega)]
    by_cases h1 : j < c
    · rw [if_pos (by omega), if_pos h1]
    · by_cases h2 : j = c
      · subst h2
        rw [if_pos (by omega), if_neg (by omega), if_pos rfl, h]
      · rw [if_neg (by omega), if_neg (by omega), if_neg (by omega)]
        rfl
  · refine List.ext_getElem? fun j => ?_
    rw [get_del (by rw [insK_len (by omega)]; omega), get_ins (by omega), get_ins (by omega)]
    by_cases h1 : j < c
    · rw [if_pos h1, if_pos (by omega)]
    · by_cases h2 : j = c
      · subst h2
        rw [if_neg (by omega), if_neg (by omega), if_pos rfl, h]
      · rw [if_neg (by omega), if_neg (by omega), if_neg (by omega)]
        rfl
theorem docFrom_some : ∀ (q : List Int) (c : Int) (to_ : List Int) (a : Nat), ∃ d p, docFrom (q ++ [c]) to_ a = d :: p
  | [], c, [], a => ⟨_, _, rfl⟩
  | [], c, e :: s, a => by
    simp only [List.nil_append, docFrom]
    split <;> exact ⟨_, _, rfl⟩
  | f :: q, c, [], a => ⟨_, _, rfl⟩
  | f :: q, c, e :: s, a => by
    simp only [List.cons_append, docFrom]
    split <;> exact ⟨_, _, rfl⟩
theorem stay_go : ∀ (q : List Int) (t x : Nd) (c a : Nat), atV t (q ++ [(c : Int)]) = some x → (a = c ∨ a = c + 1) → ((modV t q (insK a x)).bind fun m => delAt m (docFrom (q ++ [(c : Int)]) q a)) = some t
  | [], t, x, c, a, h, ha => by
    have hk : t.kids[c]? = some x := by
      simp only [List.nil_append, atV] at h
      rw [if_pos (by omega), Int.toNat_natCast] at h
      cases hx : t.kids[c]? with
      | none => rw [hx] at h; cases h
      | some k => rw [hx] at h; exact h
    rw [mod_nil]
    show delAt _ [if (a : Int) ≤ (c : Int) then (c : Int) + 1 else (c : Int)] = _
    rw [delAt_one, with_kids, with_with]
    obtain ⟨h1, h2⟩ := stay_list hk
    rcases ha with rfl | rfl
    · rw [if_pos (Int.le_refl _), show ((a : Int) + 1).toNat = a + 1 by omega, h1, with_self]
    · rw [if_neg (by omega), show ((c : Int)).toNat = c by omega, h2, with_self]
  | i :: q, t, x, c, a, h, ha => by
    simp only [List.cons_append, atV] at h
    split at h
    · rename_i hi
      cases hk : t.kids[i.toNat]? with
      | none => rw [hk] at h; cases h
      | some k =>
        rw [hk] at h
        obtain ⟨j, rfl⟩ : ∃ j : Nat, i = (j : Int) := ⟨i.toNat, by omega⟩
        rw [Int.toNat_natCast] at hk
        have ih := stay_go q k x c a h ha
        rw [mod_nat hk]
        cases hm : modV k q (insK a x) with
        | none => rw [hm] at ih; cases ih
        | some z =>
          rw [hm] at ih
          have ih' : delAt z (docFrom (q ++ [(c : Int)]) q a) = some k := ih
          obtain ⟨d, p, hd⟩ := docFrom_some q (c : Int) q a
          rw [hd] at ih'
          have hj : j < t.kids.length := (List.getElem?_eq_some_iff.1 hk).1
          show delAt (t.withKids (t.kids.set j z)) (docFrom ((j : Int) :: (q ++ [(c : Int)])) ((j : Int) :: q) a) = some t
          rw [docFrom, if_pos rfl, hd, delAt_cons (k := z) (by rw [with_kids, List.getElem?_set_self hj]), ih']
          rw [with_kids]
          show some ((t.withKids (t.kids.set j z)).withKids ((t.kids.set j z).set j k)) = some t
          rw [with_with, List.set_set]
          have e : t.kids.set j k = t.kids := by
            refine List.ext_getElem? fun m => ?_
            by_cases hjm : m = j
            · subst hjm
              rw [List.getElem?_set_self hj, hk]
            · rw [List.getElem?_set_ne (by omega)]
          rw [e, with_self]
    · cases h
/-- a valid Move that leaves its node where it is makes the tree that was there -/
theorem stay_after {t : Nd} {o : Ov} (h3 : o.kind = 3) (hv : faultV t o = 0) (hs : Sim.staysV o = true) : afterV t o = t := by
  unfold Sim.staysV at hs
  simp only [decide_eq_true_eq] at hs
  obtain ⟨hp, hq, ha⟩ := hs
  unfold faultV at hv
  split at hv
  · cases hv
  · rename_i hf
    split at hv
    · cases hv
    · split at hv
      · cases hv
      · rename_i x hx
        have hform : formedV o = true := by cases hh : formedV o with
          | true => rfl
          | false => exact absurd hh hf
        have hmay := Sim.formed_may hform
        obtain ⟨q, c, e⟩ := Sim.path_end hp hmay
        have hq' : q = o.to_ := by rw [← hq, e, List.dropLast_concat]
        have hc : o.at_ = (c : Int) ∨ o.at_ = (c : Int) + 1 := by
          rw [e] at ha
          simpa using ha
        have ha' : o.at_.toNat = c ∨ o.at_.toNat = c + 1 := by omega
        have := stay_go q t x c o.at_.toNat (by rw [← e]; exact hx) ha'
        unfold afterV
        rw [if_neg (by omega), if_neg (by omega), if_pos h3, hx]
        show (((modV t o.to_ (insK o.at_.toNat x)).bind fun m => delAt m (docFrom o.path o.to_ o.at_.toNat)).getD Nd.zero) = t
        rw [← hq', e, this]
        rfl
end Go.Proofs.Ytpoenlhikanooaa.Top
/- A node that was moved is a child of its target: by value. -/
namespace Go.Proofs.Ytpoenlhikanooaa.Shf
open Go.RowKit Top
set_option maxRecDepth 20000
set_option linter.unusedVariables false

theorem mem_pathss : ∀ (l : List Nd) (i j : Nat) (k : Nd) (p : List Int), l[j]? = some k → p ∈ pathsV k → (((i + j : Nat) : Int) :: p) ∈ pathssV i l
  | [], i, j, k, p, h, _ => by simp at h
  | z :: r, i, 0, k, p, h, hp => by
    simp at h
    subst h
    rw [pathssV, List.mem_append, List.mem_map]
    exact .inl ⟨p, hp, rfl⟩
  | z :: r, i, j + 1, k, p, h, hp => by
    rw [pathssV, List.mem_append]
    have := mem_pathss r (i + 1) j k p (by simpa using h) hp
    rw [show i + 1 + j = i + (j + 1) by omega] at this
    exact .inr this
/-- each node's path is one of the tree's -/
theorem mem_paths : ∀ (p : List Int) (t x : Nd), atV t p = some x → p ∈ pathsV t
  | [], t, x, h => by rw [pathsV_eq]; exact List.mem_cons_self
  | i :: p, t, x, h => by
    obtain ⟨j, k, rfl, hk, hx⟩ := atV_cons h
    rw [pathsV_eq]
    refine List.mem_cons_of_mem _ ?_
    have := mem_pathss t.kids 0 j k p hk (mem_paths p k x hx)
    rwa [Nat.zero_add] at this
/-- behind a valid Move the node is a child of its target -/
theorem moved_found {t x y : Nd} {o : Ov} (hf : faultV t o = 0) (hk : o.kind = 3) (hb : countV t ≤ 1000000) (hx : atV t o.path = some x) (hy : atV t o.to_ = some y) :
    ∃ q z, q ∈ pathsV (afterV t o) ∧ atV (afterV t o) q = some z ∧ z.id = y.id ∧ x ∈ z.kids := by
  obtain ⟨X, hg, ha, -, hX, -⟩ := after_aft hf (.inr (.inr hk)) hb
  have hXx : X = x := by have := hX hk; rw [hx] at this; injection this with this; exact this.symm
  subst hXx
  obtain ⟨f1, f2, x2, f3, -, f5, -⟩ := fault_none hf
  obtain ⟨hw, -⟩ := f5 hk
  obtain ⟨q, d, hq⟩ := path_last (fun e => f2 ⟨.inr hk, e⟩) (may_nat f1)
  have hch := ch_three f1 hk hq hw
  obtain ⟨w, h1, h2, h3, h4, h5⟩ := follow_put hg (by rw [hch])
  have hwy : w = y := by
    rw [hch] at h1
    rw [show (⟨true, q, (d : Int), true, o.to_, o.at_⟩ : Ch).to_ = o.to_ from rfl, hy] at h1
    injection h1 with h1
    exact h1.symm
  rw [← ha] at h2
  refine ⟨_, _, mem_paths _ _ _ h2, h2, by rw [aft_id, hwy], ?_⟩
  rw [h4]
  unfold insK
  simp
end Go.Proofs.Ytpoenlhikanooaa.Shf
/- works: the chapter's examples: its tree, its operations. -/
namespace Go.Proofs.Ytpoenlhikanooaa.Top
open Go.RowKit
set_option maxRecDepth 20000
set_option linter.unusedVariables false

def xW : Nd := .mk 0 true [120] [] [104, 105] []
def cW : Nd := .mk 0 false [99] [] [] []
def aW : Nd := .mk 0 false [97] [] [] [xW, cW]
def bW : Nd := .mk 0 true [98] [] [98, 101, 101] []
def rW : Nd := .mk 0 false [114] [] [] [aW, bW]
/-- the example lies at w0 -/
structure Wk (w0 w : World) : Prop where
  bel : Below w0.heap.size w0 w
  size : w0.heap.size + 3 ≤ w.heap.size
  h1 : w.heap[w0.heap.size]? = some (.cells #[.int .u64 0, .bool true, .string ⟨#[120]⟩, .slice none 0 0, .string ⟨#[104, 105]⟩, .slice none 0 0, .int .u64 0, .bool false, .string ⟨#[99]⟩, .slice none 0 0, .string ⟨#[]⟩, .slice none 0 0] 42 (0, 0))
  h2 : w.heap[w0.heap.size + 1]? = some (.cells #[.int .u64 0, .bool false, .string ⟨#[97]⟩, .slice none 0 0, .string ⟨#[]⟩, .slice (some ⟨w0.heap.size, 0, none⟩) 2 2, .int .u64 0, .bool true, .string ⟨#[98]⟩, .slice none 0 0, .string ⟨#[98, 101, 101]⟩, .slice none 0 0] 42 (0, 0))
  h3 : w.heap[w0.heap.size + 2]? = some (.cells #[.int .u64 0, .bool false, .string ⟨#[114]⟩, .slice none 0 0, .string ⟨#[]⟩, .slice (some ⟨w0.heap.size + 1, 0, none⟩) 2 2] 42 (0, 0))
section
variable {w0 w w' : World}
theorem Wk.below (h : Wk w0 w) (hb : Below w.heap.size w w') : Wk w0 w' :=
  have hs := h.size
  ⟨h.bel.trans (hb.mono (by omega)), Nat.le_trans h.size hb.size, (hb.block _ (by omega)).trans h.h1, (hb.block _ (by omega)).trans h.h2, (hb.block _ (by omega)).trans h.h3⟩
theorem Wk.alloc (h : Wk w0 w) (o : Obj) : Wk w0 (w.alloc o) := h.below ((Below.refl _ _).alloc (Nat.le_refl _) _)
theorem Wk.node (h : Wk w0 w) : NodeV (Old w) w none 0 0 (some ⟨w0.heap.size + 1, 0, none⟩) 2 2 rW := by
  have hs := h.size
  have c1 := fun i => cell_of_row w w0.heap.size i _ _ _ h.h1
  have c2 := fun i => cell_of_row w (w0.heap.size + 1) i _ _ _ h.h2
  have hX : NodeV (Old w) w none 0 0 none 0 0 xW := NFacts.node ⟨by decide, by decide, by decide, ats_nil _ _, Nat.le_refl _, Nat.zero_le _, fun _ => rfl, rfl, Nat.le_refl _, Nat.zero_le _, fun _ => rfl, by simp [xW, Nd.kids, RowAt]⟩
  have hC : NodeV (Old w) w none 0 0 none 0 0 cW := NFacts.node ⟨by decide, by decide, by decide, ats_nil _ _, Nat.le_refl _, Nat.zero_le _, fun _ => rfl, rfl, Nat.le_refl _, Nat.zero_le _, fun _ => rfl, by simp [cW, Nd.kids, RowAt]⟩
  have hB : NodeV (Old w) w none 0 0 none 0 0 bW := NFacts.node ⟨by decide, by decide, by decide, ats_nil _ _, Nat.le_refl _, Nat.zero_le _, fun _ => rfl, rfl, Nat.le_refl _, Nat.zero_le _, fun _ => rfl, by simp [bW, Nd.kids, RowAt]⟩
  have hA : NodeV (Old w) w none 0 0 (some ⟨w0.heap.size, 0, none⟩) 2 2 aW := NFacts.node ⟨by decide, by decide, by decide, ats_nil _ _, Nat.le_refl _, Nat.zero_le _, fun _ => rfl, rfl, Nat.le_refl _, by decide, (fun h => by cases h), by
    show RowAt (Old w) w (some ⟨w0.heap.size, 0, none⟩) 0 [xW, cW]
    simp only [RowAt, and_true]
    refine ⟨⟨⟨w0.heap.size, 0, none⟩, none, 0, 0, none, 0, 0, rfl, (by show w0.heap.size < _; omega), ?_, hX⟩, ⟨w0.heap.size, 0, none⟩, none, 0, 0, none, 0, 0, rfl, (by show w0.heap.size < _; omega), ?_, hC⟩
    · rw [add_zero_off]
      exact ⟨c1 0, c1 1, c1 2, c1 3, c1 4, c1 5⟩
    · rw [add_zero_off]
      exact ⟨c1 6, c1 7, c1 8, c1 9, c1 10, c1 11⟩⟩
  refine NFacts.node ⟨by decide, by decide, by decide, ats_nil _ _, Nat.le_refl _, Nat.zero_le _, fun _ => rfl, rfl, Nat.le_refl _, by decide, (fun h => by cases h), ?_⟩
  show RowAt (Old w) w (some ⟨w0.heap.size + 1, 0, none⟩) 0 [aW, bW]
  simp only [RowAt, and_true]
  refine ⟨⟨⟨w0.heap.size + 1, 0, none⟩, none, 0, 0, (some ⟨w0.heap.size, 0, none⟩), 2, 2, rfl, (by show w0.heap.size + 1 < _; omega), ?_, hA⟩, ⟨w0.heap.size + 1, 0, none⟩, none, 0, 0, none, 0, 0, rfl, (by show w0.heap.size + 1 < _; omega), ?_, hB⟩
  · rw [add_zero_off]
    exact ⟨c2 0, c2 1, c2 2, c2 3, c2 4, c2 5⟩
  · rw [add_zero_off]
    exact ⟨c2 6, c2 7, c2 8, c2 9, c2 10, c2 11⟩
end
def o1 : Ov := ⟨1, [0], 1, [], 0, false, [110], [], [], false, []⟩
def o2 : Ov := ⟨3, [0, 0], 2, [], 0, false, [], [], [], false, []⟩
def o3 : Ov := ⟨3, [0], 1, [], 0, false, [], [], [], false, []⟩
def o4 : Ov := ⟨6, [0, 0], 0, [], 0, false, [], [], [], false, [⟨2, 0, [33]⟩]⟩
def o5 : Ov := ⟨3, [0], 0, [0, 0], 0, false, [], [], [], false, []⟩
def o6 : Ov := ⟨2, [], 0, [], 0, false, [], [], [], false, []⟩
def nW : Nd := .mk 0 false [110] [] [] []
theorem v1 : validV rW o1 = 0 := by kernel_rfl
theorem v2 : validV rW o2 = 0 := by kernel_rfl
theorem v3 : validV rW o3 = 0 := by kernel_rfl
theorem v4 : validV rW o4 = 0 := by kernel_rfl
theorem v5 : validV rW o5 = 84 := by kernel_rfl
theorem v6 : validV rW o6 = 82 := by kernel_rfl
theorem a1 : applyV rW o1 = .mk 0 false [114] [] [] [.mk 0 false [97] [] [] [xW, nW, cW], bW] := by kernel_rfl
theorem a2 : applyV rW o2 = .mk 0 false [114] [] [] [.mk 0 false [97] [] [] [cW], bW, xW] := by kernel_rfl
theorem a3 : applyV rW o3 = rW := by kernel_rfl
theorem a4 : applyV rW o4 = .mk 0 false [114] [] [] [.mk 0 false [97] [] [] [.mk 0 true [120] [] [104, 105, 33] [], cW], bW] := by kernel_rfl
theorem slim_lit {o : Ov} (h : o.label.length ≤ 80000 ∧ o.key.length ≤ 80000 ∧ o.value.length ≤ 80000 ∧ P5.putsI o.pieces ≤ 80000 := by decide) : Slim o := ⟨h.1, h.2.1, h.2.2.1, h.2.2.2⟩
theorem fit_lit {l : List Int} (h : (l.all fun x => decide (-9223372036854775808 ≤ x ∧ x ≤ 9223372036854775807)) = true := by decide) : Fit l := fun x hx => of_decide_eq_true (List.all_eq_true.1 h x hx)
/-- an operation whose path (and target) stand in the text -/
theorem op_lit {W : World} {o : Ov} {s : OS} (hk : o.kind < 256 := by decide) (hp : Its W s.pA s.pn o.path) (hp2 : s.pn ≤ s.pc ∧ s.pc ≤ 4 := by (dsimp only; decide)) (hp3 : s.pA = none → s.pc = 0) (ha : -9223372036854775808 ≤ o.at_ ∧ o.at_ ≤ 9223372036854775807 := by decide) (ht : Its W s.tA s.tn o.to_) (ht2 : s.tn ≤ s.tc ∧ s.tc ≤ 4 := by (dsimp only; decide)) (ht3 : s.tA = none → s.tc = 0)
    (hi : o.id < 18446744073709551616 := by decide) (hl : o.label.length ≤ 4 ∧ o.key.length ≤ 4 ∧ o.value.length ≤ 4 := by decide) (hq : P5.PcsIn W s.qA s.qn o.pieces) (hq2 : s.qn ≤ s.qc ∧ s.qc ≤ 4 := by (dsimp only; decide)) (hq3 : s.qA = none → s.qc = 0) (f1 : Fit o.path) (f2 : Fit o.to_) : OpIn W o s :=
  ⟨hk, hp, hp2.1, by unfold maxLen; omega, hp3, ha, ht, ht2.1, by unfold maxLen; omega, ht3, hi, by unfold maxLen; omega, by unfold maxLen; omega, by unfold maxLen; omega, hq, hq2.1, by unfold maxLen; omega, hq3, by omega, by omega, by omega, f1, f2⟩
end Go.Proofs.Ytpoenlhikanooaa.Top
/- works: the chapter's examples: walked. -/
namespace Go.Proofs.Ytpoenlhikanooaa.Top
open Go.RowKit
set_option maxRecDepth 20000
set_option linter.unusedVariables false

/-- an answer in a variable's block -/
structure Res (b : Nat) (r : Nd) (w : World) : Prop where
  lt : b < w.heap.size
  at_ : ∃ aA an ac kA kc, w.heap[b]? = some (.cells (val6 r aA an ac kA r.kids.length kc) 42 (0, 0)) ∧ NodeV (Old w) w aA an ac kA r.kids.length kc r
theorem Res.below {b : Nat} {r : Nd} {w w' : World} (h : Res b r w) (hb : Below w.heap.size w w') : Res b r w' := by
  obtain ⟨h0, aA, an, ac, kA, kc, h1, h2⟩ := h
  exact ⟨Nat.lt_of_lt_of_le h0 hb.size, aA, an, ac, kA, kc, (hb.block _ h0).trans h1, h2.below hb⟩
theorem Res.alloc {b : Nat} {r : Nd} {w : World} (h : Res b r w) (o : Obj) : Res b r (w.alloc o) := h.below ((Below.refl _ _).alloc (Nat.le_refl _) _)
theorem Res.new {r : Nd} {w : World} {aA kA : Option Addr} {an ac kc : Nat} (h : NodeV (Old w) w aA an ac kA r.kids.length kc r) : Res w.heap.size r (w.alloc (.cells (val6 r aA an ac kA r.kids.length kc) 42)) :=
  ⟨by simp, aA, an, ac, kA, kc, heap_alloc_new w _, h.below ((Below.refl _ _).alloc (Nat.le_refl _) _)⟩
theorem Wk.ap {w0 W : World} (h : Wk w0 W) (o : Ov) (s : OS) (ho : OpIn W o s) (hs : Slim o) (r : Nd) (hv : validV rW o = 0) (ha : applyV rW o = r) :
    Calls Try.prog 34 #[.agg (val6 rW none 0 0 (some ⟨w0.heap.size + 1, 0, none⟩) 2 2), .agg (opCells o s)] W fun e w' => ∃ aA an ac kA kc, e = .returned (.tuple #[.agg (val6 r aA an ac kA r.kids.length kc), .int .i64 0]) ∧ NodeV (Old w') w' aA an ac kA r.kids.length kc r ∧ Below W.heap.size W w' := by
  refine (apply_any W rW none _ 0 0 2 2 h.node o s ho hs (by decide)).mono ?_
  rintro e w' ⟨aA, an, ac, kA, kn, kc, rfl, hn, hb⟩
  rw [hv, ha] at *
  obtain rfl : kn = r.kids.length := hn.facts.kl.symm
  exact ⟨aA, an, ac, kA, kc, rfl, hn.kept (fun k hk => by
    rcases hk with hk | hk
    · exact Nat.lt_of_lt_of_le hk hb.size
    · exact hk.2) (fun _ _ => rfl), hb⟩
theorem Wk.va {w0 W : World} (h : Wk w0 W) (o : Ov) (s : OS) (ho : OpIn W o s) (k : Int) (hv : validV rW o = k) :
    Calls Try.prog 73 #[.agg (val6 rW none 0 0 (some ⟨w0.heap.size + 1, 0, none⟩) 2 2), .agg (opCells o s)] W fun e w' => e = .returned (.int .i64 k) ∧ Below W.heap.size W w' := by
  have := valid_any W rW none _ 0 0 2 2 o s h.node ho (by decide)
  rw [hv] at this
  exact this
theorem pcs_none (W : World) : P5.PcsIn W none 0 [] := P5.PcsIn.nil W
theorem Wk.c1 {w0 W : World} (h : Wk w0 W) : Calls Try.prog 34 #[.agg #[.int .u64 0, .bool false, .string ⟨#[114]⟩, .slice none 0 0, .string ⟨#[]⟩, .slice (some ⟨w0.heap.size + 1, 0, none⟩) 2 2], .agg #[.int .u8 1, .slice (some ⟨W.heap.size, 0, none⟩) 1 1, .int .i64 1, .slice none 0 0, .int .u64 0, .bool false, .string ⟨#[110]⟩, .string ⟨#[]⟩, .string ⟨#[]⟩, .bool false, .slice none 0 0]] (W.alloc (.cells #[.int .i64 0] 3)) fun e w' => ∃ aA an ac kA kc, e = .returned (.tuple #[.agg #[.int .u64 0, .bool false, .string ⟨#[114]⟩, .slice aA an ac, .string ⟨#[]⟩, .slice kA 2 kc], .int .i64 0]) ∧ Res w'.heap.size (.mk 0 false [114] [] [] [.mk 0 false [97] [] [] [xW, nW, cW], bW]) (w'.alloc (.cells #[.int .u64 0, .bool false, .string ⟨#[114]⟩, .slice aA an ac, .string ⟨#[]⟩, .slice kA 2 kc] 42)) ∧ Below W.heap.size W w' := by
  have hi : Its (W.alloc (.cells #[.int .i64 0] 3)) (some ⟨W.heap.size, 0, none⟩) 1 [0] := its_lit (xs := [0]) (heap_alloc_new W _)
  refine ((h.alloc (.cells #[.int .i64 0] 3)).ap o1 ⟨some ⟨W.heap.size, 0, none⟩, 1, 1, none, 0, 0, none, 0, 0⟩ (op_lit (hp := hi) (hp3 := fun e => by cases e) (ht := Its.none_ _) (ht3 := fun _ => rfl) (hq := pcs_none _) (hq3 := fun _ => rfl) (f1 := fit_lit) (f2 := fit_lit)) slim_lit (.mk 0 false [114] [] [] [.mk 0 false [97] [] [] [xW, nW, cW], bW]) v1 a1).mono ?_
  rintro e w' ⟨aA, an, ac, kA, kc, rfl, hn, hb⟩
  exact ⟨aA, an, ac, kA, kc, rfl, Res.new hn, ((Below.refl _ _).alloc (Nat.le_refl _) _).trans (hb.mono (by simp))⟩
theorem Wk.c2 {w0 W : World} (h : Wk w0 W) : Calls Try.prog 34 #[.agg #[.int .u64 0, .bool false, .string ⟨#[114]⟩, .slice none 0 0, .string ⟨#[]⟩, .slice (some ⟨w0.heap.size + 1, 0, none⟩) 2 2], .agg #[.int .u8 3, .slice (some ⟨W.heap.size, 0, none⟩) 2 2, .int .i64 2, .slice none 0 0, .int .u64 0, .bool false, .string ⟨#[]⟩, .string ⟨#[]⟩, .string ⟨#[]⟩, .bool false, .slice none 0 0]] (W.alloc (.cells #[.int .i64 0, .int .i64 0] 3)) fun e w' => ∃ aA an ac kA kc, e = .returned (.tuple #[.agg #[.int .u64 0, .bool false, .string ⟨#[114]⟩, .slice aA an ac, .string ⟨#[]⟩, .slice kA 3 kc], .int .i64 0]) ∧ Res w'.heap.size (.mk 0 false [114] [] [] [.mk 0 false [97] [] [] [cW], bW, xW]) (w'.alloc (.cells #[.int .u64 0, .bool false, .string ⟨#[114]⟩, .slice aA an ac, .string ⟨#[]⟩, .slice kA 3 kc] 42)) ∧ Below W.heap.size W w' := by
  have hi : Its (W.alloc (.cells #[.int .i64 0, .int .i64 0] 3)) (some ⟨W.heap.size, 0, none⟩) 2 [0, 0] := its_lit (xs := [0, 0]) (heap_alloc_new W _)
  refine ((h.alloc (.cells #[.int .i64 0, .int .i64 0] 3)).ap o2 ⟨some ⟨W.heap.size, 0, none⟩, 2, 2, none, 0, 0, none, 0, 0⟩ (op_lit (hp := hi) (hp3 := fun e => by cases e) (ht := Its.none_ _) (ht3 := fun _ => rfl) (hq := pcs_none _) (hq3 := fun _ => rfl) (f1 := fit_lit) (f2 := fit_lit)) slim_lit (.mk 0 false [114] [] [] [.mk 0 false [97] [] [] [cW], bW, xW]) v2 a2).mono ?_
  rintro e w' ⟨aA, an, ac, kA, kc, rfl, hn, hb⟩
  exact ⟨aA, an, ac, kA, kc, rfl, Res.new hn, ((Below.refl _ _).alloc (Nat.le_refl _) _).trans (hb.mono (by simp))⟩
theorem Wk.c3 {w0 W : World} (h : Wk w0 W) : Calls Try.prog 34 #[.agg #[.int .u64 0, .bool false, .string ⟨#[114]⟩, .slice none 0 0, .string ⟨#[]⟩, .slice (some ⟨w0.heap.size + 1, 0, none⟩) 2 2], .agg #[.int .u8 3, .slice (some ⟨W.heap.size, 0, none⟩) 1 1, .int .i64 1, .slice none 0 0, .int .u64 0, .bool false, .string ⟨#[]⟩, .string ⟨#[]⟩, .string ⟨#[]⟩, .bool false, .slice none 0 0]] (W.alloc (.cells #[.int .i64 0] 3)) fun e w' => ∃ aA an ac kA kc, e = .returned (.tuple #[.agg #[.int .u64 0, .bool false, .string ⟨#[114]⟩, .slice aA an ac, .string ⟨#[]⟩, .slice kA 2 kc], .int .i64 0]) ∧ Res w'.heap.size rW (w'.alloc (.cells #[.int .u64 0, .bool false, .string ⟨#[114]⟩, .slice aA an ac, .string ⟨#[]⟩, .slice kA 2 kc] 42)) ∧ Below W.heap.size W w' := by
  have hi : Its (W.alloc (.cells #[.int .i64 0] 3)) (some ⟨W.heap.size, 0, none⟩) 1 [0] := its_lit (xs := [0]) (heap_alloc_new W _)
  refine ((h.alloc (.cells #[.int .i64 0] 3)).ap o3 ⟨some ⟨W.heap.size, 0, none⟩, 1, 1, none, 0, 0, none, 0, 0⟩ (op_lit (hp := hi) (hp3 := fun e => by cases e) (ht := Its.none_ _) (ht3 := fun _ => rfl) (hq := pcs_none _) (hq3 := fun _ => rfl) (f1 := fit_lit) (f2 := fit_lit)) slim_lit rW v3 a3).mono ?_
  rintro e w' ⟨aA, an, ac, kA, kc, rfl, hn, hb⟩
  exact ⟨aA, an, ac, kA, kc, rfl, Res.new hn, ((Below.refl _ _).alloc (Nat.le_refl _) _).trans (hb.mono (by simp))⟩
theorem Wk.c4 {w0 W : World} (h : Wk w0 W) : Calls Try.prog 34 #[.agg #[.int .u64 0, .bool false, .string ⟨#[114]⟩, .slice none 0 0, .string ⟨#[]⟩, .slice (some ⟨w0.heap.size + 1, 0, none⟩) 2 2], .agg #[.int .u8 6, .slice (some ⟨W.heap.size, 0, none⟩) 2 2, .int .i64 0, .slice none 0 0, .int .u64 0, .bool false, .string ⟨#[]⟩, .string ⟨#[]⟩, .string ⟨#[]⟩, .bool false, .slice (some ⟨W.heap.size + 1, 0, none⟩) 1 1]] ((W.alloc (.cells #[.int .i64 0, .int .i64 0] 3)).alloc (.cells #[.int .i64 2, .int .i64 0, .string ⟨#[33]⟩] 66)) fun e w' => ∃ aA an ac kA kc, e = .returned (.tuple #[.agg #[.int .u64 0, .bool false, .string ⟨#[114]⟩, .slice aA an ac, .string ⟨#[]⟩, .slice kA 2 kc], .int .i64 0]) ∧ Res w'.heap.size (.mk 0 false [114] [] [] [.mk 0 false [97] [] [] [.mk 0 true [120] [] [104, 105, 33] [], cW], bW]) (w'.alloc (.cells #[.int .u64 0, .bool false, .string ⟨#[114]⟩, .slice aA an ac, .string ⟨#[]⟩, .slice kA 2 kc] 42)) ∧ Below W.heap.size W w' := by
  have hi : Its (W.alloc (.cells #[.int .i64 0, .int .i64 0] 3)) (some ⟨W.heap.size, 0, none⟩) 2 [0, 0] := its_lit (xs := [0, 0]) (heap_alloc_new W _)
  have hb1 : Below (W.alloc (.cells #[.int .i64 0, .int .i64 0] 3)).heap.size (W.alloc (.cells #[.int .i64 0, .int .i64 0] 3)) ((W.alloc (.cells #[.int .i64 0, .int .i64 0] 3)).alloc (.cells #[.int .i64 2, .int .i64 0, .string ⟨#[33]⟩] 66)) := (Below.refl _ _).alloc (Nat.le_refl _) _
  have g1 := heap_alloc_new (W.alloc (.cells #[.int .i64 0, .int .i64 0] 3)) (.cells #[.int .i64 2, .int .i64 0, .string ⟨#[33]⟩] 66)
  rw [World.size_alloc] at g1
  have hq : P5.PcsIn ((W.alloc (.cells #[.int .i64 0, .int .i64 0] 3)).alloc (.cells #[.int .i64 2, .int .i64 0, .string ⟨#[33]⟩] 66)) (some ⟨W.heap.size + 1, 0, none⟩) 1 [⟨2, 0, [33]⟩] := by
    refine ⟨rfl, fun q x hx => ?_⟩
    match q, hx with
    | 0, hx =>
      injection hx with hx
      subst hx
      refine ⟨_, rfl, by show W.heap.size + 1 < _; simp, ?_⟩
      have c0 := cell_of_row _ _ 0 _ _ _ g1
      have c1 := cell_of_row _ _ 1 _ _ _ g1
      have c2 := cell_of_row _ _ 2 _ _ _ g1
      rw [add_zero_off]
      exact ⟨by decide, by decide, by decide, by decide, by decide, c0, c1, c2⟩
    | q + 1, hx => simp at hx
  refine (((h.alloc (.cells #[.int .i64 0, .int .i64 0] 3)).alloc (.cells #[.int .i64 2, .int .i64 0, .string ⟨#[33]⟩] 66)).ap o4 ⟨some ⟨W.heap.size, 0, none⟩, 2, 2, none, 0, 0, some ⟨W.heap.size + 1, 0, none⟩, 1, 1⟩ (op_lit (hp := hi.below hb1) (hp3 := fun e => by cases e) (ht := Its.none_ _) (ht3 := fun _ => rfl) (hq := hq) (hq3 := fun e => by cases e) (f1 := fit_lit) (f2 := fit_lit)) slim_lit (.mk 0 false [114] [] [] [.mk 0 false [97] [] [] [.mk 0 true [120] [] [104, 105, 33] [], cW], bW]) v4 a4).mono ?_
  rintro e w' ⟨aA, an, ac, kA, kc, rfl, hn, hb⟩
  exact ⟨aA, an, ac, kA, kc, rfl, Res.new hn, (((Below.refl _ _).alloc (Nat.le_refl _) _).alloc (by simp) _).trans (hb.mono (by simp <;> omega))⟩
theorem Wk.c5 {w0 W : World} (h : Wk w0 W) : Calls Try.prog 73 #[.agg #[.int .u64 0, .bool false, .string ⟨#[114]⟩, .slice none 0 0, .string ⟨#[]⟩, .slice (some ⟨w0.heap.size + 1, 0, none⟩) 2 2], .agg #[.int .u8 3, .slice (some ⟨W.heap.size, 0, none⟩) 1 1, .int .i64 0, .slice (some ⟨W.heap.size + 1, 0, none⟩) 2 2, .int .u64 0, .bool false, .string ⟨#[]⟩, .string ⟨#[]⟩, .string ⟨#[]⟩, .bool false, .slice none 0 0]] ((W.alloc (.cells #[.int .i64 0] 3)).alloc (.cells #[.int .i64 0, .int .i64 0] 3)) fun e w' => e = .returned (.int .i64 84) ∧ Below W.heap.size W w' := by
  have hi : Its (W.alloc (.cells #[.int .i64 0] 3)) (some ⟨W.heap.size, 0, none⟩) 1 [0] := its_lit (xs := [0]) (heap_alloc_new W _)
  have hb1 : Below (W.alloc (.cells #[.int .i64 0] 3)).heap.size (W.alloc (.cells #[.int .i64 0] 3)) ((W.alloc (.cells #[.int .i64 0] 3)).alloc (.cells #[.int .i64 0, .int .i64 0] 3)) := (Below.refl _ _).alloc (Nat.le_refl _) _
  have g1 := heap_alloc_new (W.alloc (.cells #[.int .i64 0] 3)) (.cells #[.int .i64 0, .int .i64 0] 3)
  rw [World.size_alloc] at g1
  refine (((h.alloc (.cells #[.int .i64 0] 3)).alloc (.cells #[.int .i64 0, .int .i64 0] 3)).va o5 ⟨some ⟨W.heap.size, 0, none⟩, 1, 1, some ⟨W.heap.size + 1, 0, none⟩, 2, 2, none, 0, 0⟩ (op_lit (hp := hi.below hb1) (hp3 := fun e => by cases e) (ht := its_lit (xs := [0, 0]) g1) (ht3 := fun e => by cases e) (hq := pcs_none _) (hq3 := fun _ => rfl) (f1 := fit_lit) (f2 := fit_lit)) 84 v5).mono ?_
  rintro e w' ⟨rfl, hb⟩
  exact ⟨rfl, (((Below.refl _ _).alloc (Nat.le_refl _) _).alloc (by simp) _).trans (hb.mono (by simp <;> omega))⟩
theorem Wk.c6 {w0 W : World} (h : Wk w0 W) : Calls Try.prog 73 #[.agg #[.int .u64 0, .bool false, .string ⟨#[114]⟩, .slice none 0 0, .string ⟨#[]⟩, .slice (some ⟨w0.heap.size + 1, 0, none⟩) 2 2], .agg #[.int .u8 2, .slice none 0 0, .int .i64 0, .slice none 0 0, .int .u64 0, .bool false, .string ⟨#[]⟩, .string ⟨#[]⟩, .string ⟨#[]⟩, .bool false, .slice none 0 0]] W fun e w' => e = .returned (.int .i64 82) ∧ Below W.heap.size W w' :=
  h.va o6 ⟨none, 0, 0, none, 0, 0, none, 0, 0⟩ (op_lit (hp := Its.none_ _) (hp3 := fun _ => rfl) (ht := Its.none_ _) (ht3 := fun _ => rfl) (hq := pcs_none _) (hq3 := fun _ => rfl) (f1 := fit_lit) (f2 := fit_lit)) 82 v6
end Go.Proofs.Ytpoenlhikanooaa.Top
/- works: walked. -/
namespace Go.Proofs.Ytpoenlhikanooaa.Top
open Go.RowKit
set_option maxRecDepth 20000
set_option linter.unusedVariables false

theorem NodeAt.kids {T : Nat → Prop} {w : World} {E : Addr} {t : Nd} (h : NodeAt T w E t) : ∃ kA kc, w.cell? ⟨E.block, E.off + 2, none⟩ = some (.string ⟨t.label.toArray⟩) ∧ w.cell? ⟨E.block, E.off + 4, none⟩ = some (.string ⟨t.text.toArray⟩) ∧ w.cell? ⟨E.block, E.off + 5, none⟩ = some (.slice kA t.kids.length kc) ∧ t.kids.length ≤ kc ∧ kc ≤ maxLen ∧
    ∀ q k, t.kids[q]? = some k → ∃ ad, kA = some ad ∧ NodeAt T w (ad.add (q * 6)) k := by
  obtain ⟨-, aA, an, ac, kA, kn, kc, hs, hn⟩ := h
  obtain ⟨s0, s1, s2, s3, s4, s5⟩ := hs
  have hf := hn.facts
  obtain rfl : kn = t.kids.length := hf.kl.symm
  refine ⟨kA, kc, s2, s4, s5, hf.knc, hf.kcm, fun q k hk => ?_⟩
  obtain ⟨ad, e, hat⟩ := hf.row.at_ hk
  rw [Nat.zero_add] at hat
  exact ⟨ad, e, hat⟩
theorem off_add (a : Addr) (k : Nat) : (a.add k).off = a.off + k := by unfold Addr.add; split <;> simp_all
theorem Res.open_ {b : Nat} {r : Nd} {w : World} (h : Res b r w) : ∃ aA an ac kA kc, (w.cell? ⟨b, 0, none⟩ = some (.int .u64 (r.id : Int)) ∧ w.cell? ⟨b, 1, none⟩ = some (.bool r.leaf) ∧ w.cell? ⟨b, 2, none⟩ = some (.string ⟨r.label.toArray⟩) ∧ w.cell? ⟨b, 3, none⟩ = some (.slice aA an ac) ∧ w.cell? ⟨b, 4, none⟩ = some (.string ⟨r.text.toArray⟩) ∧ w.cell? ⟨b, 5, none⟩ = some (.slice kA r.kids.length kc)) ∧ r.kids.length ≤ kc ∧ kc ≤ maxLen ∧ NodeV (Old w) w aA an ac kA r.kids.length kc r ∧
    ∀ q k, r.kids[q]? = some k → ∃ ad, kA = some ad ∧ NodeAt (Old w) w (ad.add (q * 6)) k := by
  obtain ⟨hlt, aA, an, ac, kA, kc, h1, h2⟩ := h
  have hf := h2.facts
  unfold val6 at h1
  obtain ⟨s0, s1, s2, s3, s4, s5, -⟩ := six_cells h1
  refine ⟨aA, an, ac, kA, kc, ⟨s0, s1, s2, s3, s4, s5⟩, hf.knc, hf.kcm, h2, fun q k hk => ?_⟩
  obtain ⟨ad, e, hat⟩ := hf.row.at_ hk
  rw [Nat.zero_add] at hat
  exact ⟨ad, e, hat⟩
set_option maxHeartbeats 8000000 in
theorem works_any (w : World) : Calls Try.prog 33 #[] w fun e w' => e = .returned (.bool true) ∧ Below w.heap.size w w' := by
  go_enter Try.func33, Try.ntmps33
  go_upto_region 2 with fail
  obtain ⟨X0, hX0⟩ : ∃ X, X = (((w.alloc (.cells #[.int .u64 0, .bool true, .string ⟨#[120]⟩, .slice none 0 0, .string ⟨#[104, 105]⟩, .slice none 0 0, .int .u64 0, .bool false, .string ⟨#[99]⟩, .slice none 0 0, .string ⟨#[]⟩, .slice none 0 0] 42)).alloc (.cells #[.int .u64 0, .bool false, .string ⟨#[97]⟩, .slice none 0 0, .string ⟨#[]⟩, .slice (some ⟨w.heap.size, 0, none⟩) 2 2, .int .u64 0, .bool true, .string ⟨#[98]⟩, .slice none 0 0, .string ⟨#[98, 101, 101]⟩, .slice none 0 0] 42)).alloc (.cells #[.int .u64 0, .bool false, .string ⟨#[114]⟩, .slice none 0 0, .string ⟨#[]⟩, .slice (some ⟨w.heap.size + 1, 0, none⟩) 2 2] 42)) := ⟨_, rfl⟩
  have hk0 : Hid (Wk w X0) := by
    rw [hX0]
    obtain ⟨n1, n2, n3, n4, n5⟩ := three_new w (.cells #[.int .u64 0, .bool true, .string ⟨#[120]⟩, .slice none 0 0, .string ⟨#[104, 105]⟩, .slice none 0 0, .int .u64 0, .bool false, .string ⟨#[99]⟩, .slice none 0 0, .string ⟨#[]⟩, .slice none 0 0] 42) (.cells #[.int .u64 0, .bool false, .string ⟨#[97]⟩, .slice none 0 0, .string ⟨#[]⟩, .slice (some ⟨w.heap.size, 0, none⟩) 2 2, .int .u64 0, .bool true, .string ⟨#[98]⟩, .slice none 0 0, .string ⟨#[98, 101, 101]⟩, .slice none 0 0] 42) (.cells #[.int .u64 0, .bool false, .string ⟨#[114]⟩, .slice none 0 0, .string ⟨#[]⟩, .slice (some ⟨w.heap.size + 1, 0, none⟩) 2 2] 42)
    exact Lib.hid ⟨n4, by rw [n5]; omega, n1, n2, n3⟩
  rw [← hX0]
  clear hX0
  obtain ⟨c0, c1, c2, c3, c4, c5, -⟩ := six_cells hk0.out.h3
  go_upto_region 3 with (go_at_call 34; go_loud (refine hk0.out.c1.mono ?_; rintro e w1 ⟨aA1, an1, ac1, kA1, kc1, rfl, hr1, hb1⟩; clear c0 c1 c2 c3 c4 c5))
  obtain ⟨X1, hX1⟩ : ∃ X, X = w1.alloc (.cells #[.int .u64 0, .bool false, .string ⟨#[114]⟩, .slice aA1 an1 ac1, .string ⟨#[]⟩, .slice kA1 2 kc1] 42) := ⟨_, rfl⟩
  rw [← hX1]
  rw [← hX1] at hr1
  have hbX1 : Below X0.heap.size X0 X1 := by rw [hX1]; exact hb1.alloc hb1.size _
  have hk1 := Lib.hid (hk0.out.below hbX1)
  obtain ⟨b1, hbe1⟩ : ∃ b, b = w1.heap.size := ⟨_, rfl⟩
  rw [← hbe1] at hr1 ⊢
  have q1 := Lib.hid hr1
  clear hbX1 hX1 hb1 hr1 hbe1 hk0
  obtain ⟨c0, c1, c2, c3, c4, c5, -⟩ := six_cells hk1.out.h3
  go_upto_region 4 with (go_at_call 34; go_loud (refine hk1.out.c2.mono ?_; rintro e w2 ⟨aA2, an2, ac2, kA2, kc2, rfl, hr2, hb2⟩; clear c0 c1 c2 c3 c4 c5))
  obtain ⟨X2, hX2⟩ : ∃ X, X = w2.alloc (.cells #[.int .u64 0, .bool false, .string ⟨#[114]⟩, .slice aA2 an2 ac2, .string ⟨#[]⟩, .slice kA2 3 kc2] 42) := ⟨_, rfl⟩
  rw [← hX2]
  rw [← hX2] at hr2
  have hbX2 : Below X1.heap.size X1 X2 := by rw [hX2]; exact hb2.alloc hb2.size _
  have hk2 := Lib.hid (hk1.out.below hbX2)
  have q1 := Lib.hid (q1.out.below hbX2)
  obtain ⟨b2, hbe2⟩ : ∃ b, b = w2.heap.size := ⟨_, rfl⟩
  rw [← hbe2] at hr2 ⊢
  have q2 := Lib.hid hr2
  clear hbX2 hX2 hb2 hr2 hbe2 hk1
  obtain ⟨c0, c1, c2, c3, c4, c5, -⟩ := six_cells hk2.out.h3
  go_upto_region 5 with (go_at_call 34; go_loud (refine hk2.out.c3.mono ?_; rintro e w3 ⟨aA3, an3, ac3, kA3, kc3, rfl, hr3, hb3⟩; clear c0 c1 c2 c3 c4 c5))
  obtain ⟨X3, hX3⟩ : ∃ X, X = w3.alloc (.cells #[.int .u64 0, .bool false, .string ⟨#[114]⟩, .slice aA3 an3 ac3, .string ⟨#[]⟩, .slice kA3 2 kc3] 42) := ⟨_, rfl⟩
  rw [← hX3]
  rw [← hX3] at hr3
  have hbX3 : Below X2.heap.size X2 X3 := by rw [hX3]; exact hb3.alloc hb3.size _
  have hk3 := Lib.hid (hk2.out.below hbX3)
  have q1 := Lib.hid (q1.out.below hbX3)
  have q2 := Lib.hid (q2.out.below hbX3)
  obtain ⟨b3, hbe3⟩ : ∃ b, b = w3.heap.size := ⟨_, rfl⟩
  rw [← hbe3] at hr3 ⊢
  have q3 := Lib.hid hr3
  clear hbX3 hX3 hb3 hr3 hbe3 hk2
  obtain ⟨c0, c1, c2, c3, c4, c5, -⟩ := six_cells hk3.out.h3
  go_upto_region 6 with (go_at_call 34; go_loud (refine hk3.out.c4.mono ?_; rintro e w4 ⟨aA4, an4, ac4, kA4, kc4, rfl, hr4, hb4⟩; clear c0 c1 c2 c3 c4 c5))
  obtain ⟨X4, hX4⟩ : ∃ X, X = w4.alloc (.cells #[.int .u64 0, .bool false, .string ⟨#[114]⟩, .slice aA4 an4 ac4, .string ⟨#[]⟩, .slice kA4 2 kc4] 42) := ⟨_, rfl⟩
  rw [← hX4]
  rw [← hX4] at hr4
  have hbX4 : Below X3.heap.size X3 X4 := by rw [hX4]; exact hb4.alloc hb4.size _
  have hk4 := Lib.hid (hk3.out.below hbX4)
  have q1 := Lib.hid (q1.out.below hbX4)
  have q2 := Lib.hid (q2.out.below hbX4)
  have q3 := Lib.hid (q3.out.below hbX4)
  obtain ⟨b4, hbe4⟩ : ∃ b, b = w4.heap.size := ⟨_, rfl⟩
  rw [← hbe4] at hr4 ⊢
  have q4 := Lib.hid hr4
  clear hbX4 hX4 hb4 hr4 hbe4 hk3
  obtain ⟨c0, c1, c2, c3, c4, c5, -⟩ := six_cells hk4.out.h3
  have hk4' := hk4
  obtain ⟨xA1, xn1, xc1, xK1, xk1, ⟨d0, d1, d2, d3, d4, d5⟩, l1, l2, -, hkid1⟩ := q1.out.open_
  obtain ⟨ad1, rfl, n1⟩ := hkid1 0 (.mk 0 false [97] [] [] [xW, nW, cW]) rfl
  obtain ⟨yK1, yk1, -, -, m1, l3, l4, hk2⟩ := NodeAt.kids n1
  obtain ⟨ae1, rfl, n2⟩ := hk2 1 nW rfl
  obtain ⟨-, -, lab1, -⟩ := NodeAt.kids n2
  obtain ⟨xA2, xn2, xc2, xK2, xk2, ⟨e0, e1, e2, e3, e4, e5⟩, l5, l6, -, hkid2⟩ := q2.out.open_
  obtain ⟨ad2, rfl, n3⟩ := hkid2 0 (.mk 0 false [97] [] [] [cW]) rfl
  obtain ⟨yK2, yk2, -, -, m2, l7, l8, -⟩ := NodeAt.kids n3
  obtain ⟨ad2', hh, n4⟩ := hkid2 2 xW rfl
  obtain rfl : ad2 = ad2' := Option.some.inj hh
  obtain ⟨-, -, lab2, -⟩ := NodeAt.kids n4
  obtain ⟨xA3, xn3, xc3, xK3, xk3, ⟨f0, f1, f2, f3, f4, f5⟩, l9, l10, hn3, -⟩ := q3.out.open_
  obtain ⟨xA4, xn4, xc4, xK4, xk4, ⟨g0, g1, g2, g3, g4, g5⟩, l11, l12, -, hkid4⟩ := q4.out.open_
  obtain ⟨ad4, rfl, n5⟩ := hkid4 0 (.mk 0 false [97] [] [] [.mk 0 true [120] [] [104, 105, 33] [], cW]) rfl
  obtain ⟨yK4, yk4, -, -, m4, l13, l14, hkk4⟩ := NodeAt.kids n5
  obtain ⟨ae4, rfl, n6⟩ := hkk4 0 (.mk 0 true [120] [] [104, 105, 33] []) rfl
  obtain ⟨-, -, -, txt4, -⟩ := NodeAt.kids n6
  have hsm : Hid (Calls Try.prog 36 #[.agg #[.int .u64 0, .bool false, .string ⟨#[114]⟩, .slice xA3 xn3 xc3, .string ⟨#[]⟩, .slice xK3 2 xk3], .agg #[.int .u64 0, .bool false, .string ⟨#[114]⟩, .slice none 0 0, .string ⟨#[]⟩, .slice (some ⟨w.heap.size + 1, 0, none⟩) 2 2]] X4 fun e w' => e = .returned (.bool true) ∧ Below X4.heap.size X4 w') := Lib.hid (by
    have := same_all X4 rW rW xA3 xK3 none (some ⟨w.heap.size + 1, 0, none⟩) xn3 xc3 2 xk3 0 0 2 2 hn3 hk4'.out.node (by decide)
    rw [eqV_refl sameA sameA_refl] at this
    exact this)
  change X4.cell? ⟨b3, 0, none⟩ = some (.int .u64 0) at f0
  change X4.cell? ⟨b3, 1, none⟩ = some (.bool false) at f1
  change X4.cell? ⟨b3, 2, none⟩ = some (.string ⟨#[114]⟩) at f2
  change X4.cell? ⟨b3, 4, none⟩ = some (.string ⟨#[]⟩) at f4
  change X4.cell? ⟨b3, 5, none⟩ = some (.slice xK3 2 xk3) at f5
  clear hkid1 hkid2 hkid4 hk2 hkk4 n1 n2 n3 n4 n5 n6 hn3 hh
  clear l1 l2 l3 l4 l5 l6 l7 l8 l9 l10 l11 l12 l13 l14
  change X4.cell? ⟨b1, 5, none⟩ = some (.slice (some ad1) 2 xk1) at d5
  change X4.cell? ⟨b2, 5, none⟩ = some (.slice (some ad2) 3 xk2) at e5
  change X4.cell? ⟨b4, 5, none⟩ = some (.slice (some ad4) 2 xk4) at g5
  rw [block_add, off_add] at m1 m2 m4 lab1 lab2 txt4
  simp only [Nat.zero_mul, Nat.add_zero, Nat.one_mul] at m1 m2 m4 lab1 lab2 txt4
  change X4.cell? ⟨ad1.block, ad1.off + 5, none⟩ = some (.slice (some ae1) 3 yk1) at m1
  change X4.cell? ⟨ad2.block, ad2.off + 5, none⟩ = some (.slice yK2 1 yk2) at m2
  change X4.cell? ⟨ad4.block, ad4.off + 5, none⟩ = some (.slice (some ae4) 2 yk4) at m4
  change X4.cell? ⟨ae1.block, ae1.off + 6 + 2, none⟩ = some (.string ⟨#[110]⟩) at lab1
  change X4.cell? ⟨ad2.block, ad2.off + 12 + 2, none⟩ = some (.string ⟨#[120]⟩) at lab2
  change X4.cell? ⟨ae4.block, ae4.off + 4, none⟩ = some (.string ⟨#[104, 105, 33]⟩) at txt4
  have lab1' := lab1
  have lab2' := lab2
  rw [Nat.add_assoc] at lab1' lab2'
  go_upto_region 8 with fail
  have hX := Lib.hid (show Below w.heap.size w X4 from hk4'.out.bel)
  go_wp2_with (first
    | (go_at_call 36; go_loud (refine hsm.out.mono ?_; rintro e w5 ⟨rfl, hb5⟩; have hk5 := Lib.hid (hk4'.out.below hb5); have tr := fun p v (h : X4.cell? p = some v) => (hb5.cell (p := p) (World.block_lt_of_cell? _ _ h)).trans h; have g5' := tr _ _ g5; have m4' := tr _ _ m4; have txt4' := tr _ _ txt4; clear tr c0 c1 c2 c3 c4 c5 d0 d1 d2 d3 d4 d5 e0 e1 e2 e3 e4 e5 f0 f1 f2 f3 f4 f5 g0 g1 g2 g3 g4 g5 m1 m2 m4 lab1 lab2 lab1' lab2' txt4 hb5; obtain ⟨c0, c1, c2, c3, c4, c5, -⟩ := six_cells hk5.out.h3; have ca0 := (fun O => six_cells (hk5.out.alloc O).h3)))
    | (go_at_call 73; go_loud (refine hk5.out.c5.mono ?_; rintro e w6 ⟨rfl, hb6⟩; have hk6 := Lib.hid (hk5.out.below hb6); clear c0 c1 c2 c3 c4 c5 hb6 hk5 ca0 g5' m4' txt4'; obtain ⟨c0, c1, c2, c3, c4, c5, -⟩ := six_cells hk6.out.h3))
    | (go_at_call 73; go_loud (refine hk6.out.c6.mono ?_; rintro e w7 ⟨rfl, hb7⟩; have hk7 := Lib.hid (hk6.out.below hb7); clear hb7)))
  go_ret
  exact ⟨rfl, hk7.out.bel⟩
end Go.Proofs.Ytpoenlhikanooaa.Top
