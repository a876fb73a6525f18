/- All slots of both are the same: the law's alike. -/
import Derived.Test.YtiikakfdelkjhaaArnPm
namespace Go.Proofs.Ytiikakfdelkjhaa.Arn
open Go.RowKit
set_option maxRecDepth 20000
set_option linter.unusedVariables false

theorem liveI_neg {a : Av} (hw : WF a) {z : Int} (h : liveI a z = true) : ∃ s : Nat, z = (s : Int) ∧ a.live s = true ∧ s < a.cnt := by
  obtain ⟨s, rfl, hs⟩ := liveI_nat h
  exact ⟨s, rfl, hs, hw.lt hs⟩
set_option maxHeartbeats 8000000 in
theorem alike_any {w : World} {ow : Nat → Role} {P R : Nat} {a : Av} (h : Both w ow P R a) (hw : WF a) : Calls Try.prog 13 #[.pointer (some ⟨P, 0, none⟩), .pointer (some ⟨R, 0, none⟩)] w fun e w' => e = .returned (.bool true) ∧ Below w.heap.size w w' := by
  obtain ⟨B, m, sv, sA, sc, fA, fc, hPA⟩ := h.p
  obtain ⟨g, svr, scr, fAr, fcr, hRA⟩ := h.r
  have hPA' := Lib.hid hPA
  have hRA' := Lib.hid hRA
  have hw' := Lib.hid hw
  obtain ⟨N, hN⟩ : ∃ N, N = a.cnt := ⟨_, rfl⟩
  obtain ⟨F, hF⟩ : ∃ F, F = a.free.length := ⟨_, rfl⟩
  have hN' := Lib.hid hN
  have hF' := Lib.hid hF
  have hNs : N ≤ 100000 := by have := hRA.small; omega
  have hFs : F ≤ 100000 := by have := hRA.fsmall; omega
  have hNc : N ≤ scr := by have := hRA.cap; omega
  have hcm := hRA.capm
  unfold maxLen at hcm
  have hNN : ((N : Int) != (N : Int)) = false := bne_self_eq_false _
  have hbd : Below w.heap.size w w.drew := (Below.refl _ _).drew
  have hK := Lib.hid (fun (W : World) (hb : Below w.heap.size w W) => hPA.below hb)
  have rK := Lib.hid (fun (W : World) (hb : Below w.heap.size w W) => hRA.below hb)
  have eK := Lib.hid (fun (W : World) (hb : Below w.heap.size w W) => show W.cell? ⟨R, 0, none⟩ = some (.slice (some ⟨g, 0, none⟩) N scr) ∧ W.cell? ⟨R, 1, none⟩ = some (.slice fAr F fcr) from by
    obtain ⟨q1, q2, _⟩ := (hRA.below hb).head_cells
    rw [hN'.out, hF'.out]
    exact ⟨q1, q2⟩)
  clear hPA hRA hw hN hF h
  go_enter Try.func13, Try.ntmps13
  go_wp2_with fail
  go_region_held3 (fun W => W.cell? ⟨R, 0, none⟩ = some (.slice (some ⟨g, 0, none⟩) N scr) ∧ W.cell? ⟨R, 1, none⟩ = some (.slice fAr F fcr))
    (first
      | exact eK.out _ hbd
      | exact eK.out w5 hb5'.out
      | exact eK.out w6 hb6'.out
      | go_keep)
    (first
      | (go_at_call 27; go_loud (refine (sameNums_any w5 A5 fAr F c5 F fcr a.free a.free ho5'.out (by rw [hF'.out]; exact (rK.out w5 hb5'.out).free.ns) (by unfold maxLen; omega)).mono ?_; rw [decide_eq_true rfl]; rintro e w6 ⟨rfl, q6, hq6⟩; have hb6' := Lib.hid (show Below w.heap.size w w6 by rw [hq6]; exact draws hb5'.out _); clear hq6))
      | (go_at_call 21; refine (free_any (hK.out _ hbd)).mono ?_; rintro e w5 ⟨A5, c5, rfl, ho5, hn5, hb5⟩; rw [← hF'.out]; rw [← hF'.out] at ho5; have ho5' := Lib.hid ho5.ns; have hb5' := Lib.hid (hbd.trans hb5); clear ho5 hn5 hb5)
      | (go_at_call 18; refine (slots_any (hK.out _ hbd)).mono ?_; rintro e w4 ⟨rfl, rfl⟩; rw [← hN'.out]))
  go_wp2_with fail
  obtain ⟨W0, hW0⟩ : ∃ W0, W0 = w := ⟨_, rfl⟩
  subst hW0
  clear hbd hb5' ho5'
  go_loopw [5] (fun i wr => ∃ z : Int, -1 ≤ z ∧ z ≤ (N : Int) + 1 ∧ i = .int .i64 z ∧ Below W0.heap.size W0 wr) (fun i _ => ((N : Int) + 1 - intOf i).toNat)
  case atStart => exact ⟨-1, by omega, by omega, rfl, hb6'.out⟩
  case round =>
    obtain ⟨z, hz1, hz2, rfl, hb⟩ := hrel
    obtain ⟨q0, q1⟩ := eK.out wr hb
    have hb' := Lib.hid hb
    clear hb
    by_cases hzN : z ≤ (N : Int)
    · obtain ⟨W1, hW1⟩ : ∃ W1, W1 = wr := ⟨_, rfl⟩
      subst hW1
      have hG := Lib.hid (get2_any (hK.out _ hb'.out) z)
      cases hlv : liveI a z with
      | false =>
        have hlv' := Lib.hid hlv
        have hd0 := Lib.hid (show datI a z = Dt.zero by unfold datI; rw [hlv]; rfl)
        have hk0 := Lib.hid (show kidsI a z = [] by unfold kidsI; rw [hlv]; rfl)
        have hp0 := Lib.hid (show parI a z = -1 by unfold parI; rw [hlv]; rfl)
        clear hlv
        go_wp2_with (first
          | (go_at_call 22; refine hG.out.mono ?_; rintro e w9 ⟨A9, n9, c9, rfl, -, hb9, -⟩; rw [hlv'.out, hd0.out]; rw [show datV Dt.zero A9 n9 c9 = .agg #[.int .u64 0, .bool false, .string ⟨#[]⟩, .slice A9 n9 c9, .string ⟨#[]⟩] from rfl]; have hb9' := Lib.hid (hb'.out.trans (hb9.mono hb'.out.size)); clear hb9)
          | (go_at_call 19; go_loud (have ha9 := hb9'.out.alloc hb9'.out.size (.cells #[.int .u64 0, .bool false, .string ⟨#[]⟩, .slice A9 n9 c9, .string ⟨#[]⟩] 25); refine (kids_any (hK.out _ ha9) z).mono ?_; rw [hk0.out]; rintro e w3 ⟨KA, kc, rfl, -, -, hb3⟩; have zb := (hb3.block w9.heap.size (by simp)).trans (heap_alloc_new w9 _); obtain ⟨y0, y1, y2, y3, y4, yf⟩ := five_cells zb; have hb3' := Lib.hid (ha9.trans (hb3.mono ha9.size)); clear hb3 zb ha9))
          | (go_at_call 31; refine (rlive_any (rK.out _ hb3'.out) hw'.out z).mono ?_; rintro e w4 ⟨rfl, rfl⟩; rw [hlv'.out])
          | (go_at_call 20; refine (parent_any (hK.out _ hb3'.out) z).mono ?_; rintro e w4 ⟨rfl, rfl⟩; rw [hp0.out]))
        go_roundw
        case rel => exact ⟨z + 1, by omega, by omega, by go_num, hb3'.out⟩
        case measure => simp [intOf]; omega
      | true =>
        obtain ⟨s, rfl, hs, hsN⟩ := liveI_neg hw'.out hlv
        have hlv' := Lib.hid hlv
        have hd0 := Lib.hid (show datI a (s : Int) = a.dat s by unfold datI; rw [hlv]; rfl)
        have hk0 := Lib.hid (show kidsI a (s : Int) = a.kids s by unfold kidsI; rw [hlv]; rfl)
        have hp0 := Lib.hid (show parI a (s : Int) = a.par s by unfold parI; rw [hlv]; rfl)
        have hsN' := Lib.hid hsN
        have hsI : (s : Int) < (N : Int) := by have := hN'.out; omega
        have hsI0 : (0 : Int) ≤ (s : Int) := by omega
        obtain ⟨L, hL⟩ : ∃ L, L = (a.kids s).length := ⟨_, rfl⟩
        have hL' := Lib.hid hL
        have hLs : L ≤ 100000 := by have := hRA'.out.ksmall s; omega
        clear hlv hs hsN hL
        go_wp2_with (first
          | (go_at_call 22; refine hG.out.mono ?_; rintro e w9 ⟨A9, n9, c9, rfl, hd9, hb9, hr9⟩; rw [hlv'.out, hd0.out]; rw [hd0.out] at hd9; rw [show datV (a.dat s) A9 n9 c9 = .agg #[.int .u64 ((a.dat s).id : Int), .bool (a.dat s).leaf, .string ⟨(a.dat s).label.toArray⟩, .slice A9 n9 c9, .string ⟨(a.dat s).text.toArray⟩] from rfl]; have hb9' := Lib.hid (hb'.out.trans (hb9.mono hb'.out.size)); have hd9' := Lib.hid hd9; have hr9' := Lib.hid hr9; have hs9 := Lib.hid hb9.size; clear hb9 hd9 hr9)
          | (go_at_call 19; go_loud (have ha9 := hb9'.out.alloc hb9'.out.size (.cells #[.int .u64 ((a.dat s).id : Int), .bool (a.dat s).leaf, .string ⟨(a.dat s).label.toArray⟩, .slice A9 n9 c9, .string ⟨(a.dat s).text.toArray⟩] 25); refine (kids_any (hK.out _ ha9) (s : Int)).mono ?_; rw [hk0.out, ← hL'.out]; rintro e w3 ⟨KA, kc, rfl, ho3, hn3, hb3⟩; have zb := (hb3.block w9.heap.size (by simp)).trans (heap_alloc_new w9 _); obtain ⟨y0, y1, y2, y3, y4, yf⟩ := five_cells zb; have hb3' := Lib.hid (ha9.trans (hb3.mono ha9.size)); have ho3' := Lib.hid ho3; have hn3' := Lib.hid hn3; have hk3 := Lib.hid (show ∀ k, k < w9.heap.size → w3.heap[k]? = w9.heap[k]? from fun k hk => (hb3.block k (by simp; omega)).trans (Go.heap_alloc_old w9 _ hk)); have hz3 := Lib.hid (show w9.heap.size < w3.heap.size by have := hb3.size; simp at this; omega); clear hb3 zb ha9 ho3 hn3))
          | (go_at_call 31; refine (rlive_any (rK.out _ hb3'.out) hw'.out (s : Int)).mono ?_; rintro e w4 ⟨rfl, rfl⟩; rw [hlv'.out]))
        obtain ⟨p0, p1⟩ := eK.out w3 hb3'.out
        obtain ⟨s0, s1, s2, s3, s4, s5, s6, s7⟩ := (rK.out w3 hb3'.out).eight hsN'.out
        rw [← hL'.out] at s7
        obtain ⟨par, hpar⟩ : ∃ par, par = a.par s := ⟨_, rfl⟩
        rw [← hpar] at s6
        have hpar' := Lib.hid hpar
        have hpp : (par != par) = false := bne_self_eq_false _
        have hAb := Lib.hid (show ∀ ad, A9 = some ad → W1.heap.size ≤ ad.block ∧ ad.block < w9.heap.size from fun ad e => by
          obtain ⟨g9, cur, rfl, h2, h3, h4⟩ := hr9'.out ad e
          exact ⟨h2, by have := (Array.getElem?_eq_some_iff.1 h3).1; dsimp only; omega⟩)
        have hlow := hRA'.out.low
        have hRl : R < W0.heap.size := hlow R (by rw [hRA'.out.rP]; simp)
        have hgl : g < W0.heap.size := hlow g (by rw [hRA'.out.rRow]; simp)
        have hWz := hb'.out.size
        have hd3 := Lib.hid (show DatOk (fun k => W1.heap.size ≤ k ∧ k < w3.drew.heap.size) w3.drew (a.dat s) A9 n9 c9 from hd9'.out.kept (fun k hk => ⟨hk.1, show k < w3.heap.size by have := hk.2; have := hz3.out; omega⟩) fun k hk => hk3.out k hk.2)
        have hr3 := Lib.hid (show RowA W1.heap.size w3 A9 n9 from fun ad e => by
          obtain ⟨g9, cur, h1, h2, h3, h4⟩ := hr9'.out ad e
          exact ⟨g9, cur, h1, h2, (hk3.out g9 (Array.getElem?_eq_some_iff.1 h3).1).trans h3, h4⟩)
        have hs3 := Lib.hid (show DatOk (fun k => k < W1.heap.size) w3.drew (a.dat s) (svr s).aA (svr s).an (svr s).ac from DatOk.kept (w := w3) (T := fun k => ow k = .imm) (fun k hk => by have := hlow k (by rw [hk]; simp); omega) (fun k hk => rfl) ((rK.out w3 hb3'.out).dat s hsN'.out))
        have hKb := Lib.hid (show ∀ ad, KA = some ad → w9.heap.size < ad.block from fun ad e => by have := hn3'.out ad e; simp at this; omega)
        have hW13 : W1.heap.size ≤ w3.heap.size := by have := hs9.out; have := hz3.out; omega
        obtain ⟨x4, hx4⟩ : ∃ x4 : List Value, x4 = [.bool (a.live s)] := ⟨_, rfl⟩
        have eS := Lib.hid (fun (W : World) (h1 : W.heap[R]? = w3.heap[R]?) (h2 : W.heap[g]? = w3.heap[g]?) (h3 : W.heap[w9.heap.size]? = w3.heap[w9.heap.size]?) => show
            W.cell? ⟨R, 0, none⟩ = some (.slice (some ⟨g, 0, none⟩) N scr) ∧ W.cell? ⟨g, s * 8, none⟩ = some (.bool (a.live s)) ∧ W.cell? ⟨g, s * 8 + 1, none⟩ = some (.int .u64 ((a.dat s).id : Int)) ∧ W.cell? ⟨g, s * 8 + 2, none⟩ = some (.bool (a.dat s).leaf) ∧
            W.cell? ⟨g, s * 8 + 3, none⟩ = some (.string ⟨(a.dat s).label.toArray⟩) ∧ W.cell? ⟨g, s * 8 + 4, none⟩ = some (.slice (svr s).aA (svr s).an (svr s).ac) ∧ W.cell? ⟨g, s * 8 + 5, none⟩ = some (.string ⟨(a.dat s).text.toArray⟩) ∧ W.cell? ⟨g, s * 8 + 6, none⟩ = some (.int .i64 par) ∧ W.cell? ⟨g, s * 8 + 7, none⟩ = some (.slice (svr s).kA L (svr s).kc) ∧
            W.cell? ⟨w9.heap.size, 0, none⟩ = some (.int .u64 ((a.dat s).id : Int)) ∧ W.cell? ⟨w9.heap.size, 1, none⟩ = some (.bool (a.dat s).leaf) ∧ W.cell? ⟨w9.heap.size, 2, none⟩ = some (.string ⟨(a.dat s).label.toArray⟩) ∧ W.cell? ⟨w9.heap.size, 3, none⟩ = some (.slice A9 n9 c9) ∧ W.cell? ⟨w9.heap.size, 4, none⟩ = some (.string ⟨(a.dat s).text.toArray⟩)
          from ⟨(World.cell?_of_block (w := w3) (w' := W) (a := ⟨R, 0, none⟩) h1).trans p0, (World.cell?_of_block (w := w3) (w' := W) (a := ⟨g, s * 8, none⟩) h2).trans s0, (World.cell?_of_block (w := w3) (w' := W) (a := ⟨g, s * 8 + 1, none⟩) h2).trans s1, (World.cell?_of_block (w := w3) (w' := W) (a := ⟨g, s * 8 + 2, none⟩) h2).trans s2,
            (World.cell?_of_block (w := w3) (w' := W) (a := ⟨g, s * 8 + 3, none⟩) h2).trans s3, (World.cell?_of_block (w := w3) (w' := W) (a := ⟨g, s * 8 + 4, none⟩) h2).trans s4, (World.cell?_of_block (w := w3) (w' := W) (a := ⟨g, s * 8 + 5, none⟩) h2).trans s5, (World.cell?_of_block (w := w3) (w' := W) (a := ⟨g, s * 8 + 6, none⟩) h2).trans s6, (World.cell?_of_block (w := w3) (w' := W) (a := ⟨g, s * 8 + 7, none⟩) h2).trans s7,
            (World.cell?_of_block (w := w3) (w' := W) (a := ⟨w9.heap.size, 0, none⟩) h3).trans y0, (World.cell?_of_block (w := w3) (w' := W) (a := ⟨w9.heap.size, 1, none⟩) h3).trans y1, (World.cell?_of_block (w := w3) (w' := W) (a := ⟨w9.heap.size, 2, none⟩) h3).trans y2, (World.cell?_of_block (w := w3) (w' := W) (a := ⟨w9.heap.size, 3, none⟩) h3).trans y3, (World.cell?_of_block (w := w3) (w' := W) (a := ⟨w9.heap.size, 4, none⟩) h3).trans y4⟩)
        have hRl' := Lib.hid hRl
        have hgl' := Lib.hid hgl
        have hWz' := Lib.hid hWz
        have hW13' := Lib.hid hW13
        clear hpar hlow y0 y1 y2 y3 y4 yf p0 p1 s0 s1 s2 s3 s4 s5 s6 s7 q0 q1 hx4 x4 hRl hgl hWz hW13
        go_region_held3 (fun W => W.cell? ⟨R, 0, none⟩ = some (.slice (some ⟨g, 0, none⟩) N scr) ∧ W.cell? ⟨g, s * 8, none⟩ = some (.bool (a.live s)) ∧ W.cell? ⟨g, s * 8 + 1, none⟩ = some (.int .u64 ((a.dat s).id : Int)) ∧ W.cell? ⟨g, s * 8 + 2, none⟩ = some (.bool (a.dat s).leaf) ∧
            W.cell? ⟨g, s * 8 + 3, none⟩ = some (.string ⟨(a.dat s).label.toArray⟩) ∧ W.cell? ⟨g, s * 8 + 4, none⟩ = some (.slice (svr s).aA (svr s).an (svr s).ac) ∧ W.cell? ⟨g, s * 8 + 5, none⟩ = some (.string ⟨(a.dat s).text.toArray⟩) ∧ W.cell? ⟨g, s * 8 + 6, none⟩ = some (.int .i64 par) ∧ W.cell? ⟨g, s * 8 + 7, none⟩ = some (.slice (svr s).kA L (svr s).kc) ∧
            W.cell? ⟨w9.heap.size, 0, none⟩ = some (.int .u64 ((a.dat s).id : Int)) ∧ W.cell? ⟨w9.heap.size, 1, none⟩ = some (.bool (a.dat s).leaf) ∧ W.cell? ⟨w9.heap.size, 2, none⟩ = some (.string ⟨(a.dat s).label.toArray⟩) ∧ W.cell? ⟨w9.heap.size, 3, none⟩ = some (.slice A9 n9 c9) ∧ W.cell? ⟨w9.heap.size, 4, none⟩ = some (.string ⟨(a.dat s).text.toArray⟩))
          (first
            | exact eS.out _ rfl rfl rfl
            | exact eS.out w4 e4R.out e4g.out e4b.out
            | exact eS.out w5 e5R.out e5g.out e5b.out
            | go_keep)
          (first
            | (go_at_call 20; go_loud (refine (parent_any (w := w5) (hK.out w5 hb5'.out) (s : Int)).mono ?_; rintro e w6 ⟨rfl, rfl⟩; rw [hp0.out, ← hpar'.out]))
            | (go_at_call 27; go_loud (refine (sameNums_any w4 KA (svr s).kA L kc L (svr s).kc (a.kids s) (a.kids s) ho4'.out.ns hr4'.out (by unfold maxLen; omega)).mono ?_; rw [decide_eq_true rfl]; rintro e w5 ⟨rfl, q5, hq5⟩; have hb5' := Lib.hid (show Below W0.heap.size W0 w5 by rw [hq5]; exact draws hb4'.out _); have ho5' := Lib.hid (show OwnN w5 (.slice KA L kc) (a.kids s) by rw [hq5]; exact own_kept ho4'.out fun _ _ => rfl); have e5R := Lib.hid (show w5.heap[R]? = w3.heap[R]? by rw [hq5]; exact e4R.out); have e5g := Lib.hid (show w5.heap[g]? = w3.heap[g]? by rw [hq5]; exact e4g.out); have e5b := Lib.hid (show w5.heap[w9.heap.size]? = w3.heap[w9.heap.size]? by rw [hq5]; exact e4b.out); clear hq5))
            | (go_at_call 32; go_loud (refine (sameData_any w3.drew W1.heap.size (a.dat s) A9 n9 c9 (svr s).aA (svr s).an (svr s).ac (a.live s) par (svr s).kA L (svr s).kc hW13'.out hd3.out hr3.out hs3.out).mono ?_; rintro e w4 ⟨rfl, hf4⟩; have hne : ∀ k, k < W0.heap.size ∨ w9.heap.size ≤ k → ¬ At1 A9 k := (fun k hk ⟨ad, e1, e2⟩ => by have := hAb.out ad e1; have := hWz'.out; omega); have e4R := Lib.hid (show w4.heap[R]? = w3.heap[R]? from hf4.block R (by show R < w3.heap.size; have := hRl'.out; have := hWz'.out; have := hW13'.out; omega) (hne R (.inl hRl'.out))); have e4g := Lib.hid (show w4.heap[g]? = w3.heap[g]? from hf4.block g (by show g < w3.heap.size; have := hgl'.out; have := hWz'.out; have := hW13'.out; omega) (hne g (.inl hgl'.out))); have e4b := Lib.hid (show w4.heap[w9.heap.size]? = w3.heap[w9.heap.size]? from hf4.block w9.heap.size (by show w9.heap.size < w3.heap.size; have := hz3.out; omega) (hne w9.heap.size (.inr (Nat.le_refl _)))); have hb4' := Lib.hid (show Below W0.heap.size W0 w4 from hb3'.out.drew.trans ((FrX.below (B := W1.heap.size) hf4 (fun k ⟨ad, e1, e2⟩ => by have := hAb.out ad e1; omega) hW13'.out).mono hWz'.out)); have ho4' := Lib.hid (show OwnN w4 (.slice KA L kc) (a.kids s) from own_kept ho3'.out fun k e => hf4.block k (by cases KA with | none => cases e | some ad => (have e' : ad.block = k := by simpa [Value.ownBlock] using e); have := own_lt ho3'.out ad rfl; show k < w3.heap.size; omega) (by cases KA with | none => cases e | some ad => (have e' : ad.block = k := by simpa [Value.ownBlock] using e); have := hKb.out ad rfl; exact hne k (.inr (by omega)))); have hr4' := Lib.hid (show Ns w4 (svr s).kA L (a.kids s) from by have h := ((rK.out w4 hb4'.out).kids s hsN'.out).ns; have h1 := h.1; rw [← h1, ← hL'.out] at h; exact h); clear hf4 hne)))
        go_wp2_with fail
        obtain ⟨W5, hW5⟩ : ∃ W5, W5 = w5 := ⟨_, rfl⟩
        subst hW5
        have hkc := ho5'.out.blk.2.1
        have hst := Lib.hid (show ∀ ad, KA = some ad → ad = ⟨ad.block, 0, none⟩ ∧ W0.heap.size ≤ ad.block ∧ ∃ cur, W5.heap[ad.block]? = some (.cells cur 3 (0, 0)) ∧ cur.size = kc from fun ad e => by
          obtain ⟨-, -, -, -, h5⟩ := ho5'.out.blk
          obtain ⟨g5, cur, rfl, h6, h7, -⟩ := h5 ad e
          have := hKb.out _ e
          have := hWz'.out
          have := hs9.out
          exact ⟨rfl, by dsimp only at *; omega, cur, h6, h7⟩)
        have hnil := Lib.hid ho5'.out.blk.2.2.2.1
        go_loopw [9] (fun i wt => ∃ z : Nat, z ≤ L ∧ i = .int .i64 (z : Int) ∧ Below W0.heap.size W0 wt ∧ ∀ ad, KA = some ad → ∃ cur, wt.heap[ad.block]? = some (.cells cur 3 (0, 0)) ∧ cur.size = kc) (fun i _ => L - (intOf i).toNat)
        case atStart => exact ⟨0, Nat.zero_le _, rfl, hb5'.out, fun ad e => (hst.out ad e).2.2⟩
        case round =>
          obtain ⟨z, hz, rfl, hb, hrow⟩ := hrel
          have hb7' := Lib.hid hb
          clear hb
          by_cases hzL : z < L
          · have hzI : (z : Int) < (L : Int) := by omega
            cases KA with
            | none => exfalso; have := hnil.out rfl; omega
            | some ad =>
              obtain ⟨h1, h2, -⟩ := hst.out ad rfl
              obtain ⟨cur, h3, h4⟩ := hrow ad rfl
              obtain ⟨gk, hgk⟩ : ∃ gk, gk = ad.block := ⟨_, rfl⟩
              rw [← hgk] at h1 h2 h3
              subst h1
              have c1 := cell_of_row wr gk z _ _ _ h3
              rw [Array.getElem?_eq_getElem (by omega)] at c1
              have cf := frozen_of_row wr gk z _ _ h3
              have h3' := Lib.hid h3
              have h2' := Lib.hid h2
              clear hrow hgk h3 h2
              go_wp2_with fail
              go_roundw
              case rel => exact ⟨z + 1, by omega, by go_num, hb7'.out.setCell h2'.out _, fun ad e => by injection e with e; subst e; exact ⟨_, heap_setCell_same wr gk z _ _ _ h3'.out, by simpa using h4⟩⟩
              case measure => simp [intOf]; omega
          · have hzI : ¬ (z : Int) < (L : Int) := by omega
            clear hrow
            go_wp2_with fail
            go_roundw
            case rel => exact ⟨(s : Int) + 1, by omega, by omega, by go_num, hb7'.out⟩
            case measure => simp [intOf]; omega
    · have hzI : ¬ (z : Int) ≤ (N : Int) := hzN
      go_wp2_with fail
      go_ret
      exact ⟨rfl, hb'.out⟩
end Go.Proofs.Ytiikakfdelkjhaa.Arn
