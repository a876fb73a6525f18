/- The program's Transform. -/
import Derived.Test.YtoeplaofgmdlbaaLtxY
namespace Go.Proofs.Ytoeplaofgmdlbaa
open Go.RowKit
set_option maxRecDepth 20000
open Ltx (Pc)

def JT (prior : Bool) (base Q pB pA : Nat) (TB TA : List Pc) (w : World) (S : Nat → Prop) (x y : List St) : Prop :=
  ∃ SB SA rawB rawA, Pr w SB SA base pB pA rawB rawA ∧ w.heap[Q]? = some (.cells #[.bool prior] 4 (0, 0)) ∧ ¬ SB Q ∧ ¬ SA Q ∧ TVal prior TB TA 200000 x y rawB rawA ∧ ∀ k, S k ↔ (SB k ∨ SA k ∨ k = Q)
theorem meetsT (prior : Bool) (base Q pB pA : Nat) (TB TA : List Pc) : Meets 35 #[.pointer (some ⟨Q, 0, none⟩), .pointer (some ⟨pB, 0, none⟩), .pointer (some ⟨pA, 0, none⟩)] base (JT prior base Q pB pA TB TA) where
  fn := fun args w => rfl
  lt := by
    rintro w S x y ⟨SB, SA, rawB, rawA, hp, hQ, -, -, -, hS⟩ k hk
    rcases (hS k).1 hk with h | h | rfl
    · exact (hp.b.lt k h).2
    · exact (hp.a.lt k h).2
    · exact (Array.getElem?_eq_some_iff.1 hQ).1
  kept := by
    rintro w w' S x y ⟨SB, SA, rawB, rawA, hp, hQ, q1, q2, hv, hS⟩ hs hk
    exact ⟨SB, SA, rawB, rawA, ⟨hp.b.kept hs fun k h => hk k ((hS k).2 (.inl h)), hp.a.kept hs fun k h => hk k ((hS k).2 (.inr (.inl h))), hp.ap⟩, (hk Q ((hS Q).2 (.inr (.inr rfl)))).trans hQ, q1, q2, hv, hS⟩
  sz := by
    rintro w S x y ⟨SB, SA, rawB, rawA, hp, hQ, q1, q2, hv, hS⟩
    have := hv.cb
    omega
  call := by
    rintro w S x y ⟨SB, SA, rawB, rawA, hp, hQ, q1, q2, hv, hS⟩ hx hy hn hb
    refine (tmeet_any hp hQ hv hx hy hn hb).mono ?_
    rintro e w' ⟨n, m, rawB', rawA', he, ⟨SB', SA', p', s1, s2, f'⟩, hv', r1, r2, r3, r4, r5⟩
    have hQl := (Array.getElem?_eq_some_iff.1 hQ).1
    refine ⟨n, m, fun k => SB' k ∨ SA' k ∨ k = Q, he, ⟨SB', SA', rawB', rawA', p', (f'.block Q hQl (fun e => by rcases e with e | e; exact q1 e; exact q2 e)).trans hQ, fun e => ?_, fun e => ?_, hv', fun k => Iff.rfl⟩, fun k hk => ?_, f'.mono fun k _ hk => (hS k).2 (by rcases hk with e | e; exact .inl e; exact .inr (.inl e)), r1, r2, r3, r4, r5⟩
    · rcases s1 Q e with e | e
      · exact q1 e
      · omega
    · rcases s2 Q e with e | e
      · exact q2 e
      · omega
    · rcases hk with e | e | e
      · rcases s1 k e with e | e
        · exact .inl ((hS k).2 (.inl e))
        · exact .inr e
      · rcases s2 k e with e | e
        · exact .inl ((hS k).2 (.inr (.inl e)))
        · exact .inr e
      · exact .inl ((hS k).2 (.inr (.inr e)))
theorem tval_start (prior : Bool) (la lb : List Pc) (ha : totP la ≤ 100000) (hb : totP lb ≤ 100000) : TVal prior (docB prior la lb) (docB (!prior) lb la) 200000 (cutS (rowS la) 0) (cutS (rowS lb) 0) [] [] := by
  have e1 := szS_cut0 (rowS la)
  have e2 := szS_cut0 (rowS lb)
  rw [szS_row] at e1 e2
  have e3 : totP ([] : List Pc) = 0 := rfl
  refine ⟨?_, ?_, by omega, by omega⟩
  · rw [List.nil_append, docB_look (look_cut0 la) (look_cut0 lb)]
    exact Eqv.refl _
  · rw [List.nil_append, docB_look (look_cut0 lb) (look_cut0 la)]
    exact Eqv.refl _
set_option maxHeartbeats 2000000 in
theorem transform_ok (w : World) (A B : Option Addr) (n c m k : Nat) (la lb : List Pc) (prior : Bool) (ha : PcsIn w A n (la.map ipc)) (hb : PcsIn w B m (lb.map ipc)) (hn : n ≤ 100000) (hm : m ≤ 100000) (hsa : totP la ≤ 2000) (hsb : totP lb ≤ 2000)
    (hra : rightV (la.map ipc) = true) (hrb : rightV (lb.map ipc) = true) :
    Calls Try.prog 20 #[.slice A n c, .slice B m k, .bool prior] w fun e w' => ∃ v1 v2, e = .returned (.tuple #[v1, v2, .int .i64 0]) ∧ OwnP w.heap.size w' v1 (Ltx.trans (Ltx.norm la) (Ltx.norm lb) prior) ∧ OwnP w.heap.size w' v2 (Ltx.trans (Ltx.norm lb) (Ltx.norm la) (!prior)) ∧ Below w.heap.size w w' := by
  have hta := Lib.hid (Nat.le_trans (totP_norm la) hsa)
  have htb := Lib.hid (Nat.le_trans (totP_norm lb) hsb)
  have ha' := Lib.hid ha
  have hb' := Lib.hid hb
  have hra' := Lib.hid hra
  have hrb' := Lib.hid hrb
  have hnm : n ≤ maxLen := by unfold maxLen; omega
  have hmm : m ≤ maxLen := by unfold maxLen; omega
  clear ha hb hra hrb
  go_enter Try.func20, Try.ntmps20
  go_wp2_with fail
  have hq0 := Lib.hid (Go.heap_alloc_new w (.cells #[.bool prior] 4 (0, 0)))
  have hbl0 := Lib.hid ((Below.refl w.heap.size w).alloc (Nat.le_refl _) (.cells #[.bool prior] 4 (0, 0)))
  have hsz0 := Lib.hid (show (w.alloc (.cells #[.bool prior] 4 (0, 0))).heap.size = w.heap.size + 1 by simp)
  generalize w.alloc (.cells #[.bool prior] 4 (0, 0)) = w0 at hq0 hbl0 hsz0 ⊢
  have hr1 := right_any w0 A n c _ (ha'.out.below hbl0.out) hnm
  rw [hra'.out] at hr1
  refine hr1.mono ?_
  rintro e w1 ⟨rfl, hb1⟩
  have hb1' := Lib.hid hb1
  clear hb1 hr1
  go_wp2_with fail
  have hr2 := right_any w1 B m k _ ((hb'.out.below hbl0.out).below hb1'.out) hmm
  rw [hrb'.out] at hr2
  refine hr2.mono ?_
  rintro e w2 ⟨rfl, hb2⟩
  have hb2' := Lib.hid hb2
  clear hb2 hr2
  have hbl2 := Lib.hid (show Below w.heap.size w w2 from (hbl0.out.trans (hb1'.out.mono hbl0.out.size)).trans (hb2'.out.mono (by have := hbl0.out.size; have := hb1'.out.size; omega)))
  have hsz2 := Lib.hid (show w.heap.size < w2.heap.size by have := hb1'.out.size; have := hb2'.out.size; have := hsz0.out; omega)
  have hq2 := Lib.hid (show w2.heap[w.heap.size]? = some (.cells #[.bool prior] 4 (0, 0)) from (hb2'.out.block w.heap.size (by have := hb1'.out.size; have := hsz0.out; omega)).trans ((hb1'.out.block w.heap.size (by have := hsz0.out; omega)).trans hq0.out))
  go_upto_region 4 with fail
  have hz2 : ∀ o, (w2.alloc o).heap.size = w2.heap.size + 1 := fun o => by simp
  have hz2' := Lib.hid hz2
  have hPr := Lib.hid (show Pr ((w2.alloc (.cells #[.slice none 0 0, .int .i64 0, .slice none 0 0, .int .i64 0] 58)).alloc (.cells #[.slice none 0 0, .int .i64 0, .slice none 0 0, .int .i64 0] 58)) (fun k => k = w2.heap.size) (fun k => k = w2.heap.size + 1) w.heap.size w2.heap.size (w2.heap.size + 1) [] [] from by
    have d1 := Drf.new (w := w2) (base := w.heap.size) (by have := hsz2.out; omega)
    have d2 := Drf.new (w := w2.alloc (.cells #[.slice none 0 0, .int .i64 0, .slice none 0 0, .int .i64 0] 58)) (base := w.heap.size) (by rw [hz2]; have := hsz2.out; omega)
    rw [hz2] at d2
    exact ⟨d1.below ((Below.refl _ _).alloc (Nat.le_refl _) _), d2, fun k e1 e2 => by omega⟩)
  have hq3 := Lib.hid (show ((w2.alloc (.cells #[.slice none 0 0, .int .i64 0, .slice none 0 0, .int .i64 0] 58)).alloc (.cells #[.slice none 0 0, .int .i64 0, .slice none 0 0, .int .i64 0] 58)).heap[w.heap.size]? = some (.cells #[.bool prior] 4 (0, 0)) from (Go.heap_alloc_old _ _ (by rw [hz2]; have := hsz2.out; omega)).trans ((Go.heap_alloc_old w2 _ hsz2.out).trans hq2.out))
  have hbl3 := Lib.hid (show Below w.heap.size w ((w2.alloc (.cells #[.slice none 0 0, .int .i64 0, .slice none 0 0, .int .i64 0] 58)).alloc (.cells #[.slice none 0 0, .int .i64 0, .slice none 0 0, .int .i64 0] 58)) from (hbl2.out.alloc (by have := hsz2.out; omega) _).alloc (by rw [hz2]; have := hsz2.out; omega) _)
  have hsz3 := Lib.hid (show ((w2.alloc (.cells #[.slice none 0 0, .int .i64 0, .slice none 0 0, .int .i64 0] 58)).alloc (.cells #[.slice none 0 0, .int .i64 0, .slice none 0 0, .int .i64 0] 58)).heap.size = w2.heap.size + 2 by simp)
  clear hz2
  generalize (w2.alloc (.cells #[.slice none 0 0, .int .i64 0, .slice none 0 0, .int .i64 0] 58)).alloc (.cells #[.slice none 0 0, .int .i64 0, .slice none 0 0, .int .i64 0] 58) = w3 at hPr hq3 hbl3 hsz3 ⊢
  obtain ⟨z2, hz⟩ : ∃ z, z = w2.heap.size := ⟨_, rfl⟩
  rw [← hz] at hPr hsz3 hsz2
  rw [← hz]
  clear hz
  go_wp2_with fail
  refine (along_any w3 (fun j => j = z2 ∨ j = z2 + 1 ∨ j = w.heap.size) A B n c m k la lb (ha'.out.below hbl3.out) (hb'.out.below hbl3.out) hn hm (by omega) (by omega) _ w.heap.size _ (JT prior w.heap.size w.heap.size z2 (z2 + 1) (docB prior (Ltx.norm la) (Ltx.norm lb)) (docB (!prior) (Ltx.norm lb) (Ltx.norm la))) (meetsT _ _ _ _ _ _ _) ?_ (by have := hbl3.out.size; omega)).mono ?_
  · exact ⟨_, _, [], [], hPr.out, hq3.out, (fun e => by have := hsz2.out; omega), (fun e => by have := hsz2.out; omega), tval_start prior _ _ (by have := hta.out; omega) (by have := htb.out; omega), fun j => Iff.rfl⟩
  rintro e w4 ⟨S, rfl, ⟨SB, SA, rawB, rawA, hp, hQ, -, -, hv, hS⟩, hSs, hF⟩
  have hbl4 := Lib.hid (show Below w.heap.size w w4 from hbl3.out.trans (hF.below (fun j hj => by have := hsz2.out; omega) hbl3.out.size))
  have hN1 := Lib.hid (show Ltx.norm rawB = Ltx.trans (Ltx.norm la) (Ltx.norm lb) prior from by
    have h := hv.b
    have h2 := (Eqv.refl rawB).app (docB_nil prior)
    rw [List.append_nil] at h2
    exact norm_eqv (h2.symm.trans h))
  have hN2 := Lib.hid (show Ltx.norm rawA = Ltx.trans (Ltx.norm lb) (Ltx.norm la) (!prior) from by
    have h := hv.a
    have h2 := (Eqv.refl rawA).app (docB_nil (!prior))
    rw [List.append_nil] at h2
    exact norm_eqv (h2.symm.trans h))
  have hfB := Lib.hid (show Ltx.Fine (Ltx.norm rawB) by rw [hN1.out]; exact Ltx.trans_fine (n := 2000) (Nat.le_refl _) _ hta.out htb.out)
  have hfA := Lib.hid (show Ltx.Fine (Ltx.norm rawA) by rw [hN2.out]; exact Ltx.trans_fine (n := 2000) (Nat.le_refl _) _ htb.out hta.out)
  have hcB := Lib.hid (show totP rawB ≤ 200000 from by have := hv.cb; omega)
  have hcA := Lib.hid (show totP rawA ≤ 200000 from by have := hv.ca; omega)
  have hp' := Lib.hid hp
  clear hp hQ hv hS hSs hF
  go_wp2_with fail
  refine (dwhole_any hp'.out.b (by have := hcB.out; omega) hbl4.out.size hfB.out).mono ?_
  rintro e w5 ⟨v1, rfl, hv1, hs1, hF5⟩
  have hl1 := low_of (l := Ltx.norm rawB) (Nat.le_trans (totP_norm rawB) (by have := hcB.out; omega))
  obtain ⟨A1, n1, k1, rfl, -, -, -, -, -⟩ := hv1.shape hl1
  have hv1' := Lib.hid hv1
  have hs1' := Lib.hid hs1
  have hF5' := Lib.hid hF5
  clear hv1 hs1 hF5 hl1
  go_wp2_with fail
  have hdA := hp'.out.a.kept hF5'.out.size fun j hj => hF5'.out.block j (hp'.out.a.lt j hj).2 (fun e => hp'.out.ap j e hj)
  refine (dwhole_any hdA (by have := hcA.out; omega) (by have := hF5'.out.size; have := hbl4.out.size; omega) hfA.out).mono ?_
  rintro e w6 ⟨v2, rfl, hv2, hs2, hF6⟩
  have hl2 := low_of (l := Ltx.norm rawA) (Nat.le_trans (totP_norm rawA) (by have := hcA.out; omega))
  obtain ⟨A2, n2, k2, rfl, -, -, -, -, -⟩ := hv2.shape hl2
  have hv2' := Lib.hid hv2
  have hF6' := Lib.hid hF6
  clear hv2 hs2 hF6 hl2 hdA
  go_wp2_with fail
  go_ret3
  refine ⟨_, _, rfl, ?_, ?_, ?_⟩
  · rw [← hN1.out]
    refine own_kept hv1'.out fun j hj => hF6'.out.block j ?_ fun e => ?_
    · exact (World.ownsRow.lt hv1'.out j hj).2
    · rcases hs1'.out j hj with h | h
      · exact hp'.out.ap j h e
      · have := (hp'.out.a.lt j e).2
        omega
  · rw [← hN2.out]
    exact hv2'.out
  · have b5 := hbl4.out.trans (hF5'.out.below (B := w.heap.size) (fun j hj => (hp'.out.b.lt j hj).1) hbl4.out.size)
    exact b5.trans (hF6'.out.below (B := w.heap.size) (fun j hj => (hp'.out.a.lt j hj).1) b5.size)
set_option maxHeartbeats 1000000 in
theorem transform_not (w : World) (A B : Option Addr) (n c m k : Nat) (xa xb : List IP) (prior : Bool) (ha : PcsIn w A n xa) (hb : PcsIn w B m xb) (hn : n ≤ maxLen) (hm : m ≤ maxLen) (hr : rightV xa = false ∨ rightV xb = false) :
    Calls Try.prog 20 #[.slice A n c, .slice B m k, .bool prior] w fun e w' => e = .returned (.tuple #[.slice none 0 0, .slice none 0 0, .int .i64 2]) ∧ Below w.heap.size w w' := by
  have ha' := Lib.hid ha
  have hb' := Lib.hid hb
  clear ha hb
  rcases Bool.eq_false_or_eq_true (rightV xa) with hra | hra
  · have hrb := hr.resolve_left (by rw [hra]; simp)
    have hra' := Lib.hid hra
    have hrb' := Lib.hid hrb
    clear hra hrb hr
    go_enter Try.func20, Try.ntmps20
    go_wp2_with fail
    have hbl0 := Lib.hid ((Below.refl w.heap.size w).alloc (Nat.le_refl _) (.cells #[.bool prior] 4 (0, 0)))
    generalize w.alloc (.cells #[.bool prior] 4 (0, 0)) = w0 at hbl0 ⊢
    have hr1 := right_any w0 A n c _ (ha'.out.below hbl0.out) hn
    rw [hra'.out] at hr1
    refine hr1.mono ?_
    rintro e w1 ⟨rfl, hb1⟩
    have hb1' := Lib.hid hb1
    clear hb1 hr1
    go_wp2_with fail
    have hr2 := right_any w1 B m k _ ((hb'.out.below hbl0.out).below hb1'.out) hm
    rw [hrb'.out] at hr2
    refine hr2.mono ?_
    rintro e w2 ⟨rfl, hb2⟩
    have hb2' := Lib.hid hb2
    clear hb2 hr2
    go_wp2_with fail
    go_ret3
    exact ⟨rfl, (hbl0.out.trans (hb1'.out.mono hbl0.out.size)).trans (hb2'.out.mono (by have := hbl0.out.size; have := hb1'.out.size; omega))⟩
  · have hra' := Lib.hid hra
    clear hra hr
    go_enter Try.func20, Try.ntmps20
    go_wp2_with fail
    have hbl0 := Lib.hid ((Below.refl w.heap.size w).alloc (Nat.le_refl _) (.cells #[.bool prior] 4 (0, 0)))
    generalize w.alloc (.cells #[.bool prior] 4 (0, 0)) = w0 at hbl0 ⊢
    have hr1 := right_any w0 A n c _ (ha'.out.below hbl0.out) hn
    rw [hra'.out] at hr1
    refine hr1.mono ?_
    rintro e w1 ⟨rfl, hb1⟩
    have hb1' := Lib.hid hb1
    clear hb1 hr1
    go_wp2_with fail
    go_ret3
    exact ⟨rfl, hbl0.out.trans (hb1'.out.mono hbl0.out.size)⟩
end Go.Proofs.Ytoeplaofgmdlbaa
