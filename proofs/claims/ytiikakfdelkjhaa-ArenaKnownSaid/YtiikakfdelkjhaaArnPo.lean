/- ArenaPlays: the law. -/
import Derived.Test.YtiikakfdelkjhaaArnPn
namespace Go.Proofs.Ytiikakfdelkjhaa.Arn
open Go.RowKit
set_option maxRecDepth 20000
set_option linter.unusedVariables false

theorem Run.below2 {w0 w w' : World} {P R : Nat} {a : Av} {q : Nat} (h : Run w0 w P R a q) (hb : Below w.heap.size w w') : Run w0 w' P R a q := by
  obtain ⟨⟨ow, hB, ho⟩, h2, h3, h4⟩ := h
  exact ⟨⟨ow, hB.below hb, ho⟩, h2, h3, h4.trans (hb.mono h4.size)⟩
set_option maxHeartbeats 4000000 in
theorem lawPlays_any (w : World) (d0 : Dt) (aA0 : Option Addr) (an0 ac0 : Nat) (A0 : Option Addr) (n0 c0 : Nat) (l0 : List Cl) (hd : DatIn (Old w) w d0 aA0 an0 ac0) (hcl : ClsIn (Old w) w A0 n0 l0) (hn0 : n0 ≤ c0) (hc0 : c0 ≤ maxLen) :
    Calls Try.prog 3 #[datV d0 aA0 an0 ac0, .slice A0 n0 c0] w fun e w' => e = .returned (.bool true) ∧ Below w.heap.size w w' := by
  have hal := Lib.hid (fun o => (Below.refl w.heap.size w).alloc (Nat.le_refl _) o)
  have hd' := Lib.hid hd
  have hfw := Lib.hid (fun W o (hW : W = w.alloc o) => few_any W A0 n0 c0 l0 (T := Old w) (by subst hW; exact hcl.kept (fun _ h => h) fun k hk => Go.heap_alloc_old _ _ hk) hn0 hc0 40 (by decide))
  have hcl' := Lib.hid hcl
  have hll := Lib.hid hcl.1
  have hlm := hd.label
  have ham := hd.acm
  have hac := hd.anc
  unfold maxLen at hlm ham
  clear hcl hd
  obtain ⟨d1, hd1⟩ : ∃ d1, d1 = d0 := ⟨_, rfl⟩
  have hd1' := Lib.hid hd1
  clear hd1
  unfold datV
  cases hf : fewV l0 40 with
  | false =>
    have hf' := Lib.hid hf
    clear hf
    go_enter Try.func3, Try.ntmps3
    go_wp2_with (first
      | (go_at_call 8; refine (hfw.out _ _ rfl).mono ?_; rintro e w7 ⟨rfl, h7⟩; rw [h7, hf'.out]; clear h7 w7)
      | (go_at_call 9; refine (works_any _).mono ?_; rintro e w8 ⟨rfl, hb8⟩; have hb8' := Lib.hid ((hal.out _).trans (hb8.mono (hal.out _).size)); clear hb8))
    go_ret
    exact ⟨rfl, hb8'.out⟩
  | true =>
    have hf' := Lib.hid hf
    clear hf
    by_cases h30 : 30 < an0
    · have h30I : (30 : Int) < (an0 : Int) := by omega
      go_enter Try.func3, Try.ntmps3
      go_wp2_with (first
        | (go_at_call 8; refine (hfw.out _ _ rfl).mono ?_; rintro e w7 ⟨rfl, h7⟩; rw [h7, hf'.out]; clear h7 w7)
        | (go_at_call 9; refine (works_any _).mono ?_; rintro e w8 ⟨rfl, hb8⟩; have hb8' := Lib.hid ((hal.out _).trans (hb8.mono (hal.out _).size)); clear hb8))
      go_ret
      exact ⟨rfl, hb8'.out⟩
    · have h30I : ¬ (30 : Int) < (an0 : Int) := by omega
      by_cases h300 : 300 < d0.label.length
      · have h300I : (300 : Int) < (d0.label.length : Int) := by omega
        go_enter Try.func3, Try.ntmps3
        go_wp2_with (first
          | (go_at_call 8; refine (hfw.out _ _ rfl).mono ?_; rintro e w7 ⟨rfl, h7⟩; rw [h7, hf'.out]; clear h7 w7)
          | (go_at_call 9; refine (works_any _).mono ?_; rintro e w8 ⟨rfl, hb8⟩; have hb8' := Lib.hid ((hal.out _).trans (hb8.mono (hal.out _).size)); clear hb8))
        go_ret
        exact ⟨rfl, hb8'.out⟩
      · have h300I : ¬ (300 : Int) < (d0.label.length : Int) := by omega
        have hall := Lib.hid (show l0.length ≤ 40 ∧ ∀ c ∈ l0, c.an ≤ 30 from by
          have h := hf'.out
          unfold fewV at h
          rw [Bool.and_eq_true, decide_eq_true_eq, List.all_eq_true] at h
          refine ⟨h.1, fun c hc => ?_⟩
          have h2 := h.2 c hc
          unfold fewD at h2
          rw [Bool.and_eq_true, decide_eq_true_eq] at h2
          exact h2.1)
        have hn60 : n0 ≤ 40 := by have := hall.out.1; have := hll.out; omega
        go_enter Try.func3, Try.ntmps3
        go_wp2_with (go_at_call 8; refine (hfw.out _ _ rfl).mono ?_; rintro e w7 ⟨rfl, h7⟩; rw [h7, hf'.out]; clear h7 w7)
        obtain ⟨W1, hW1⟩ : ∃ W1, W1 = w.alloc (.cells #[.int .u64 (d0.id : Int), .bool d0.leaf, .string ⟨d0.label.toArray⟩, .slice aA0 an0 ac0, .string ⟨d0.text.toArray⟩] 25) := ⟨_, rfl⟩
        rw [← hW1]
        have hbw := Lib.hid (show Below w.heap.size w W1 by rw [hW1]; exact hal.out _)
        have hrw := Lib.hid (show W1.heap[w.heap.size]? = some (.cells #[.int .u64 (d0.id : Int), .bool d0.leaf, .string ⟨d0.label.toArray⟩, .slice aA0 an0 ac0, .string ⟨d0.text.toArray⟩] 25 (0, 0)) by rw [hW1]; exact heap_alloc_new w _)
        have hz1 := Lib.hid (show w.heap.size < W1.heap.size by rw [hW1]; simp)
        have hok := Lib.hid (show DatOk (Old w) W1.drew d0 aA0 an0 ac0 from DatOk.kept (w := w) (fun _ h => h) (fun k hk => hbw.out.block k hk) (hd'.out.ok (by omega)))
        have eS := Lib.hid (fun (W : World) (h : W.heap[w.heap.size]? = W1.heap[w.heap.size]?) => show W.cell? ⟨w.heap.size, 0, none⟩ = some (.int .u64 (d0.id : Int)) ∧ W.cell? ⟨w.heap.size, 1, none⟩ = some (.bool d0.leaf) ∧ W.cell? ⟨w.heap.size, 2, none⟩ = some (.string ⟨d0.label.toArray⟩) ∧ W.cell? ⟨w.heap.size, 3, none⟩ = some (.slice aA0 an0 ac0) ∧ W.cell? ⟨w.heap.size, 4, none⟩ = some (.string ⟨d0.text.toArray⟩) from by
          obtain ⟨y0, y1, y2, y3, y4, -⟩ := five_cells (h.trans hrw.out)
          exact ⟨y0, y1, y2, y3, y4⟩)
        clear hW1 hfw
        have hdv := Lib.hid (show datV d0 aA0 an0 ac0 = .agg #[.int .u64 (d0.id : Int), .bool d0.leaf, .string ⟨d0.label.toArray⟩, .slice aA0 an0 ac0, .string ⟨d0.text.toArray⟩] from rfl)
        go_region_held3 (fun W => W.cell? ⟨w.heap.size, 0, none⟩ = some (.int .u64 (d0.id : Int)) ∧ W.cell? ⟨w.heap.size, 1, none⟩ = some (.bool d0.leaf) ∧ W.cell? ⟨w.heap.size, 2, none⟩ = some (.string ⟨d0.label.toArray⟩) ∧ W.cell? ⟨w.heap.size, 3, none⟩ = some (.slice aA0 an0 ac0) ∧ W.cell? ⟨w.heap.size, 4, none⟩ = some (.string ⟨d0.text.toArray⟩))
          (first
            | exact eS.out _ rfl
            | exact eS.out w1 e1.out
            | exact eS.out w2 e2.out
            | exact eS.out w3 e3.out
            | go_keep)
          (first
            | (go_at_call 11; go_loud (refine (rnew_any w2 ow1 (fun k hk => Nat.lt_of_lt_of_le (hp'.out.low k hk) hb2'.out.size) (Old w) d0 aA0 an0 ac0 hok2.out (fun k hk => Nat.lt_of_lt_of_le hk hw2.out.size)).mono ?_; rintro e w3 ⟨R, ow2, rfl, hr, hr2, hb3⟩; have e3 := Lib.hid (show w3.heap[w.heap.size]? = W1.heap[w.heap.size]? from (hb3.block _ (by have := hz1.out; have := hw12.out.size; have := hb2'.out.size; omega)).trans e2.out); have hrun := Lib.hid (run_new (hp'.out.below hb2'.out) hr1'.out hw2.out hr hr2 hb3); clear hr hr2 hb3))
            | (go_at_call 12; go_loud ((try rw [← hdv.out]); refine (plain_any w1 d0 aA0 an0 ac0).mono ?_; rintro e w2 ⟨rfl, hb2⟩; have e2 := Lib.hid (show w2.heap[w.heap.size]? = W1.heap[w.heap.size]? from (hb2.block _ (by have := hz1.out; have := hw12.out.size; omega)).trans e1.out); have hw2 := Lib.hid (show Below w.heap.size w w2 from hw11.out.trans (hb2.mono hw11.out.size)); have hok2 := Lib.hid (show DatOk (Old w) w2 d0 aA0 an0 ac0 from DatOk.kept (w := w) (fun _ h => h) (fun k hk => hw2.out.block k hk) (hd'.out.ok (by omega))); have hb2' := Lib.hid hb2; clear hb2))
            | (go_at_call 10; go_loud ((try rw [← hdv.out]); refine (new_any W1.drew (fun _ => .off) (off_low _) (fun _ e => e) (Old w) d0 aA0 an0 ac0 hok.out (fun k hk => Nat.lt_of_lt_of_le hk hbw.out.size)).mono ?_; rintro e w1 ⟨P, ow1, rfl, hp, hr1, hb1⟩; have hp' := Lib.hid hp; have hr1' := Lib.hid (show ∀ k, k < w.heap.size → ow1 k = .off from fun k hk => hr1 k (Nat.lt_of_lt_of_le hk hbw.out.size)); have hw12 := Lib.hid (show Below W1.heap.size W1 w1 from ((Below.refl _ _).drew).trans hb1); have hw11 := Lib.hid (show Below w.heap.size w w1 from hbw.out.trans (hw12.out.mono hbw.out.size)); have e1 := Lib.hid (show w1.heap[w.heap.size]? = W1.heap[w.heap.size]? from hw12.out.block _ hz1.out); clear hp hr1 hb1)))
        clear hrw eS hok hdv
        obtain ⟨ow4, hB4, ho4⟩ := hrun.out.both
        have hal4 := Lib.hid (alike_any hB4 hrun.out.wf)
        clear hB4 ho4
        go_wp2_with (go_at_call 13; refine hal4.out.mono ?_; rintro e w4 ⟨rfl, hb4⟩; have hrun4 := Lib.hid (hrun.out.below2 hb4); clear hb4)
        go_loopw [7] (fun i wr => ∃ (q : Nat) (a : Av), q ≤ n0 ∧ i = .int .i64 (q : Int) ∧ Run w wr P R a q) (fun i _ => n0 - (intOf i).toNat)
        case atStart => exact ⟨0, _, Nat.zero_le _, rfl, hrun4.out⟩
        case round =>
          obtain ⟨q, a, hq, rfl, hR⟩ := hrel
          have hR' := Lib.hid hR
          clear hR
          by_cases hqn : q < n0
          · have hcw : ClsIn (Old w) wr A0 n0 l0 := hcl'.out.kept (fun _ h => h) fun k hk => hR'.out.bel.block k hk
            obtain ⟨ad, c, rfl, hlc, hok, x0, xs⟩ := call_cell hcw hqn
            have x1 := xs 1 _ (by decide) rfl
            have x2 := xs 2 _ (by decide) rfl
            have x3 := xs 3 _ (by decide) rfl
            have x4 := xs 4 _ (by decide) rfl
            have x5 := xs 5 _ (by decide) rfl
            have x6 := xs 6 _ (by decide) rfl
            have x7 := xs 7 _ (by decide) rfl
            have x8 := xs 8 _ (by decide) rfl
            obtain ⟨ow, hB, ho⟩ := hR'.out.both
            have ho' := Lib.hid ho
            have hqI : (q : Int) < (n0 : Int) := by omega
            have hD := Lib.hid (does_any hB hR'.out.wf (by have := hR'.out.cnt; have := hall.out.1; have := hll.out; omega) (Old w) c hok (fun k hk => ⟨Nat.lt_of_lt_of_le hk hR'.out.bel.size, ho k hk⟩) (hall.out.2 c (List.mem_of_getElem? hlc)))
            clear xs hok hlc hcw hB ho
            go_wp2_with (first
              | (go_at_call 14; refine hD.out.mono ?_; rintro e w5 ⟨rfl, hd5⟩; have hS := Lib.hid (hR'.out.step ho'.out c hd5); clear hd5)
              | (go_at_call 13; refine (alike_any (w := w5) hS.out.both.choose_spec.1 hS.out.wf).mono ?_; rintro e w6 ⟨rfl, hb6⟩; have hS6 := Lib.hid (hS.out.below2 hb6); clear hb6))
            go_roundw
            case rel => exact ⟨q + 1, _, by omega, by go_num, hS6.out⟩
            case measure => simp [intOf]; omega
          · have hqI : ¬ (q : Int) < (n0 : Int) := by omega
            go_wp2_with (go_at_call 9; refine (works_any _).mono ?_; rintro e w8 ⟨rfl, hb8⟩; have hb8' := Lib.hid hb8; clear hb8)
            go_ret
            exact ⟨rfl, hR'.out.bel.trans (hb8'.out.mono hR'.out.bel.size)⟩
end Go.Proofs.Ytiikakfdelkjhaa.Arn
