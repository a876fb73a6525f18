/- A call of both, of whatever kind; ArenaWalks: the law. -/
import Derived.Test.YtiikakfdelkjhaaArnLe
import Derived.Test.YtiikakfdelkjhaaArnS
namespace Go.Proofs.Ytiikakfdelkjhaa.Arn
open Go.RowKit
set_option maxRecDepth 20000
set_option linter.unusedVariables false

section
variable {w : World} {ow : Nat → Role} {P R : Nat} {a : Av}
theorem does_any (h : Both w ow P R a) (hw : WF a) (hc : a.cnt < 100000) (T : Nat → Prop) (c : Cl) (hok : c.Ok T w) (hT : ∀ k, T k → k < w.heap.size ∧ ow k = .off) (hfew : c.an ≤ 30) :
    Calls Try.prog 14 #[.pointer (some ⟨P, 0, none⟩), .pointer (some ⟨R, 0, none⟩), callV c] w fun e w' => e = .returned (.bool true) ∧ BDid w w' ow P R (doesV a c) := by
  have hr := pick_range c.kind
  by_cases h0 : pickV c.kind = 0
  · exact does_add0 h hw hc T c hok hT hfew h0
  · by_cases h1 : pickV c.kind = 1
    · exact does_add1 h hw hc T c hok hT hfew h1
    · by_cases h2 : pickV c.kind = 2
      · exact does_remove h hw hc T c hok hT hfew h2
      · by_cases h3 : pickV c.kind = 3
        · exact does_move3 h hw hc T c hok hT hfew h3
        · by_cases h4 : pickV c.kind = 4
          · exact does_move4 h hw hc T c hok hT hfew h4
          · exact does_set h hw hc T c hok hT hfew (by omega)
theorem doesV_wf (hw : WF a) (c : Cl) : WF (doesV a c) ∧ (doesV a c).cnt ≤ a.cnt + 1 := by
  unfold doesV
  split
  · have := removeR_wf hw c.a; exact ⟨this.1, by omega⟩
  · split
    · have := moveR_wf hw c.a c.b c.at_; exact ⟨this.1, by omega⟩
    · split
      · have := setR_wf hw c.a c.d; exact ⟨this.1, by omega⟩
      · have := addR_wf hw c.a c.at_ c.d; exact ⟨this.1, this.2.1⟩
end
/-- both, in a world behind w -/
structure Run (w0 w : World) (P R : Nat) (a : Av) (q : Nat) : Prop where
  both : ∃ ow, Both w ow P R a ∧ ∀ k, k < w0.heap.size → ow k = .off
  wf : WF a
  cnt : a.cnt ≤ q + 1
  bel : Below w0.heap.size w0 w
theorem Run.step {w0 w w' : World} {P R : Nat} {a : Av} {q : Nat} {ow : Nat → Role} (h : Run w0 w P R a q) (ho : ∀ k, k < w0.heap.size → ow k = .off) (c : Cl) (hd : BDid w w' ow P R (doesV a c)) : Run w0 w' P R (doesV a c) (q + 1) := by
  obtain ⟨ow', hb, hr, hf⟩ := hd
  have hz := h.bel.size
  have := doesV_wf h.wf c
  have hcnt := h.cnt
  refine ⟨⟨ow', hb, fun k hk => (hr k (by omega)).trans (ho k hk)⟩, this.1, by omega, ⟨hf.os.trans h.bel.os, hf.tape.trans h.bel.tape, hf.output.trans h.bel.output, Nat.le_trans hz hf.size, fun k hk => (hf.block k (by omega) fun e => ?_).trans (h.bel.block k hk)⟩⟩
  have e : (ow k).own := e
  rw [ho k hk] at e
  rcases e with e | e <;> exact e
theorem call_cell {T : Nat → Prop} {w : World} {A : Option Addr} {n : Nat} {l : List Cl} (h : ClsIn T w A n l) {q : Nat} (hq : q < n) : ∃ ad c, A = some ad ∧ l[q]? = some c ∧ c.Ok T w ∧
    w.cell? (ad.add (q * 9)) = some (.int .i64 c.kind) ∧ ∀ j u, 0 < j → c.cells[j]? = some u → w.cell? ⟨(ad.add (q * 9)).block, (ad.add (q * 9)).off + j, none⟩ = some u := by
  obtain ⟨c, hc⟩ : ∃ c, l[q]? = some c := ⟨_, List.getElem?_eq_getElem (by rw [h.1]; exact hq)⟩
  obtain ⟨ad, e, -, hok, hcl⟩ := h.2 q c hc
  refine ⟨ad, c, e, hc, hok, ?_, fun j u hj hu => ?_⟩
  · have := hcl 0 _ rfl
    unfold Addr.add at this ⊢
    simpa using this
  · have := hcl j u hu
    rw [add_off _ _ hj] at this
    exact this
/-- both are new -/
theorem run_new {w w1 w2 : World} {P R : Nat} {ow1 ow2 : Nat → Role} {d : Dt} (hp : PAr w1 ow1 P (newV d)) (hr1 : ∀ k, k < w.heap.size → ow1 k = .off) (hb1 : Below w.heap.size w w1) (hr : RAr w2 ow2 R (newV d)) (hr2 : ∀ k, k < w1.heap.size → ow2 k = ow1 k) (hb2 : Below w1.heap.size w1 w2) : Run w w2 P R (newV d) 0 :=
  ⟨⟨ow2, ⟨hp.kept hb2.size hr2 hr.low fun k hk => hb2.block k (hp.low k fun e => by rw [e] at hk; exact hk), hr⟩, fun k hk => (hr2 k (Nat.lt_of_lt_of_le hk hb1.size)).trans (hr1 k hk)⟩, WF.new d, Nat.le_refl _, hb1.trans (hb2.mono hb1.size)⟩
theorem off_low (w : World) : ∀ k, (fun _ : Nat => Role.off) k ≠ .off → k < w.heap.size := fun k h => absurd rfl h
theorem zero_dat (w : World) : DatOk (fun _ => False) w Dt.zero none 0 0 := DatOk.zero_ _ _
set_option maxHeartbeats 2000000 in
theorem lawWalks_any (w : World) (A0 : Option Addr) (n0 c0 : Nat) (l0 : List Cl) (A1 : Option Addr) (n1 c1 : Nat) (l1 : List (List Int)) (hcl : ClsIn (Old w) w A0 n0 l0) (hn0 : n0 ≤ c0) (hc0 : c0 ≤ maxLen) (hpt : PthIn (Old w) w A1 n1 l1) (hn1 : n1 ≤ c1) (hc1 : c1 ≤ maxLen) :
    Calls Try.prog 4 #[.slice A0 n0 c0, .slice A1 n1 c1] w fun e w' => e = .returned (.bool true) ∧ Below w.heap.size w w' := by
  have hcl' := Lib.hid hcl
  have hpt' := Lib.hid hpt
  have hfw := Lib.hid (few_any w A0 n0 c0 l0 hcl hn0 hc0 60 (by decide))
  have hll := Lib.hid hcl.1
  have hpl := Lib.hid hpt.1
  clear hcl hpt
  cases hf : fewV l0 60 with
  | false =>
    have hf' := Lib.hid hf
    clear hf
    go_enter Try.func4, Try.ntmps4
    go_wp2_with (first
      | (go_at_call 8; refine hfw.out.mono ?_; rintro e w7 ⟨rfl, h7⟩; rw [h7, hf'.out]; clear h7 w7)
      | (go_at_call 9; refine (works_any _).mono ?_; rintro e w8 ⟨rfl, hb8⟩; have hb8' := Lib.hid hb8; clear hb8))
    go_ret
    exact ⟨rfl, hb8'.out⟩
  | true =>
    have hf' := Lib.hid hf
    clear hf
    by_cases h20 : 20 < n1
    · have h20I : (20 : Int) < (n1 : Int) := by omega
      go_enter Try.func4, Try.ntmps4
      go_wp2_with (first
        | (go_at_call 8; refine hfw.out.mono ?_; rintro e w7 ⟨rfl, h7⟩; rw [h7, hf'.out]; clear h7 w7)
        | (go_at_call 9; refine (works_any _).mono ?_; rintro e w8 ⟨rfl, hb8⟩; have hb8' := Lib.hid hb8; clear hb8))
      go_ret
      exact ⟨rfl, hb8'.out⟩
    · have h20I : ¬ (20 : Int) < (n1 : Int) := by omega
      have hall := Lib.hid (show l0.length ≤ 60 ∧ ∀ c ∈ l0, c.an ≤ 30 from by
        have h := hf'.out
        unfold fewV at h
        rw [Bool.and_eq_true, decide_eq_true_eq, List.all_eq_true] at h
        refine ⟨h.1, fun c hc => ?_⟩
        have h2 := h.2 c hc
        unfold fewD at h2
        rw [Bool.and_eq_true, decide_eq_true_eq] at h2
        exact h2.1)
      have hn60 : n0 ≤ 60 := by have := hall.out.1; have := hll.out; omega
      go_enter Try.func4, Try.ntmps4
      go_wp2_with (first
        | (go_at_call 8; refine hfw.out.mono ?_; rintro e w7 ⟨rfl, h7⟩; rw [h7, hf'.out]; clear h7 w7)
        | (go_at_call 10; refine (new_any _ (fun _ => .off) (off_low _) (fun _ e => e) (fun _ => False) Dt.zero none 0 0 (zero_dat _) (fun _ e => e.elim)).mono ?_; rintro e w1 ⟨P, ow1, rfl, hp, hr1, hb1⟩; have hp' := Lib.hid hp; have hr1' := Lib.hid hr1; have hb1' := Lib.hid hb1; clear hp hr1 hb1)
        | (go_at_call 11; refine (rnew_any _ ow1 hp'.out.low (fun _ => False) Dt.zero none 0 0 (zero_dat _) (fun _ e => e.elim)).mono ?_; rintro e w2 ⟨R, ow2, rfl, hr, hr2, hb2⟩; have hrun := Lib.hid (run_new hp'.out hr1'.out hb1'.out hr hr2 hb2); clear hr hr2 hb2))
      clear hp' hr1' hb1'
      go_loopw [7] (fun i wr => ∃ (q : Nat) (a : Av), q ≤ n0 ∧ i = .int .i64 (q : Int) ∧ Run w wr P R a q) (fun i _ => n0 - (intOf i).toNat)
      case atStart => exact ⟨0, _, Nat.zero_le _, rfl, hrun.out⟩
      case round =>
        obtain ⟨q, a, hq, rfl, hR⟩ := hrel
        have hR' := Lib.hid hR
        clear hR
        by_cases hqn : q < n0
        · have hcw : ClsIn (Old w) wr A0 n0 l0 := hcl'.out.kept (fun _ h => h) fun k hk => hR'.out.bel.block k hk
          obtain ⟨ad, c, rfl, hlc, hok, x0, xs⟩ := call_cell hcw hqn
          have x1 := xs 1 _ (by decide) rfl
          have x2 := xs 2 _ (by decide) rfl
          have x3 := xs 3 _ (by decide) rfl
          have x4 := xs 4 _ (by decide) rfl
          have x5 := xs 5 _ (by decide) rfl
          have x6 := xs 6 _ (by decide) rfl
          have x7 := xs 7 _ (by decide) rfl
          have x8 := xs 8 _ (by decide) rfl
          obtain ⟨ow, hB, ho⟩ := hR'.out.both
          have ho' := Lib.hid ho
          have hqI : (q : Int) < (n0 : Int) := by omega
          have hD := Lib.hid (does_any hB hR'.out.wf (by have := hR'.out.cnt; have := hall.out.1; have := hll.out; omega) (Old w) c hok (fun k hk => ⟨Nat.lt_of_lt_of_le hk hR'.out.bel.size, ho k hk⟩) (hall.out.2 c (List.mem_of_getElem? hlc)))
          clear xs hok hlc hcw hB ho
          go_wp2_with (go_at_call 14; refine hD.out.mono ?_; rintro e w5 ⟨rfl, hd5⟩; have hS := Lib.hid (hR'.out.step ho'.out c hd5); clear hd5)
          go_roundw
          case rel => exact ⟨q + 1, _, by omega, by go_num, hS.out⟩
          case measure => simp [intOf]; omega
        · have hqI : ¬ (q : Int) < (n0 : Int) := by omega
          go_wp2_with fail
          go_loopw [8] (fun i ws => ∃ z : Nat, z ≤ n1 ∧ i = .int .i64 (z : Int) ∧ ws = wr) (fun i _ => n1 - (intOf i).toNat)
          case atStart => exact ⟨0, Nat.zero_le _, rfl, rfl⟩
          case round =>
            obtain ⟨z, hz, rfl, rfl⟩ := hrel
            by_cases hzn : z < n1
            · obtain ⟨p, hp⟩ : ∃ p, l1[z]? = some p := ⟨_, List.getElem?_eq_getElem (by have := hpl.out; omega)⟩
              obtain ⟨ad, B, m, c, rfl, hT, hcell, hits, hmc, hcm, -⟩ := hpt'.out.2 z p hp
              have x0 := (World.cell?_of_block (w := w) (w' := wr) (a := ad.add z) (by rw [block_add]; exact hR'.out.bel.block _ hT)).trans hcell
              have hits' := Lib.hid (hits.below (hR'.out.bel))
              have hzI : (z : Int) < (n1 : Int) := by omega
              clear hp hT hcell hits
              by_cases h100 : 100 < m
              · have h100I : (100 : Int) < (m : Int) := by omega
                go_wp2_with (go_at_call 9; refine (works_any _).mono ?_; rintro e w8 ⟨rfl, hb8⟩; have hb8' := Lib.hid hb8; clear hb8)
                go_ret
                exact ⟨rfl, hR'.out.bel.trans (hb8'.out.mono hR'.out.bel.size)⟩
              · have h100I : ¬ (100 : Int) < (m : Int) := by omega
                obtain ⟨ow, hB, ho⟩ := hR'.out.both
                obtain ⟨B0, m0, sv, sA, sc, fA, fc, hPA⟩ := hB.p
                obtain ⟨g, svr, scr, fAr, fcr, hRA⟩ := hB.r
                have hwp := Lib.hid (walk_any (c := c) hPA hR'.out.wf hits'.out (by omega))
                have hwr := Lib.hid (rwalk_any (c := c) hRA hR'.out.wf hits'.out (by omega))
                clear hB ho hPA hRA
                cases hv : walkV a p 0 with
                | none =>
                  have hv' := Lib.hid hv
                  clear hv
                  go_wp2_with (first
                    | (go_at_call 15; refine hwp.out.mono ?_; rintro e w8 ⟨rfl, rfl⟩; rw [hv'.out]; unfold walkA)
                    | (go_at_call 16; refine hwr.out.mono ?_; rintro e w8 ⟨rfl, rfl⟩; rw [hv'.out]; unfold walkA))
                  go_roundw
                  case rel => exact ⟨z + 1, by omega, by go_num, trivial⟩
                  case measure => simp [intOf]; omega
                | some s =>
                  have hv' := Lib.hid hv
                  clear hv
                  go_wp2_with (first
                    | (go_at_call 15; refine hwp.out.mono ?_; rintro e w8 ⟨rfl, rfl⟩; rw [hv'.out]; unfold walkA)
                    | (go_at_call 16; refine hwr.out.mono ?_; rintro e w8 ⟨rfl, rfl⟩; rw [hv'.out]; unfold walkA))
                  go_roundw
                  case rel => exact ⟨z + 1, by omega, by go_num, trivial⟩
                  case measure => simp [intOf]; omega
            · have hzI : ¬ (z : Int) < (n1 : Int) := by omega
              go_wp2_with (go_at_call 9; refine (works_any _).mono ?_; rintro e w8 ⟨rfl, hb8⟩; have hb8' := Lib.hid hb8; clear hb8)
              go_ret
              exact ⟨rfl, hR'.out.bel.trans (hb8'.out.mono hR'.out.bel.size)⟩
end Go.Proofs.Ytiikakfdelkjhaa.Arn
