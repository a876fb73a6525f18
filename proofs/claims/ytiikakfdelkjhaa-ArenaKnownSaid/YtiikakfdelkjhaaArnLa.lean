/- Both arenas together; the law's small words: plain, Pick. -/
import Derived.Test.YtiikakfdelkjhaaArnRo
import Derived.Test.YtiikakfdelkjhaaArnRp
import Derived.Test.YtiikakfdelkjhaaArnFr
namespace Go.Proofs.Ytiikakfdelkjhaa.Arn
open Go.RowKit
set_option maxRecDepth 20000
set_option linter.unusedVariables false

/-- the program's arena and the document's, of one value -/
structure Both (w : World) (ow : Nat → Role) (P R : Nat) (a : Av) : Prop where
  p : PAr w ow P a
  r : RAr w ow R a
theorem Role.prg_not {r : Role} (h : r.prg) : ¬ r.rused := by cases r <;> first | exact fun e => e | exact h.elim
theorem Role.ref_not {r : Role} (h : r.ref) : ¬ r.used := by cases r <;> first | exact fun e => e | exact h.elim
section
variable {w w' : World} {ow : Nat → Role} {P R : Nat} {a a' : Av}
theorem RAr.low {w : World} {ow : Nat → Role} {P : Nat} {a : Av} (h : RAr w ow P a) : ∀ k, ow k ≠ .off → k < w.heap.size := by
  obtain ⟨g, sv, sc, fA, fc, h⟩ := h
  exact h.low
theorem RAr.kept {ow' : Nat → Role} (h : RAr w ow R a) (hs : w.heap.size ≤ w'.heap.size) (hr : ∀ k, k < w.heap.size → ow' k = ow k) (hl : ∀ k, ow' k ≠ .off → k < w'.heap.size) (hk : ∀ k, (ow k).rused → w'.heap[k]? = w.heap[k]?) : RAr w' ow' R a := by
  obtain ⟨g, sv, sc, fA, fc, h⟩ := h
  exact ⟨g, sv, sc, fA, fc, h.kept hs hr hl hk⟩
theorem PAr.kept {ow' : Nat → Role} (h : PAr w ow P a) (hs : w.heap.size ≤ w'.heap.size) (hr : ∀ k, k < w.heap.size → ow' k = ow k) (hl : ∀ k, ow' k ≠ .off → k < w'.heap.size) (hk : ∀ k, (ow k).used → w'.heap[k]? = w.heap[k]?) : PAr w' ow' P a := by
  obtain ⟨B, m, sv, sA, sc, fA, fc, h⟩ := h
  exact ⟨B, m, sv, sA, sc, fA, fc, h.kept hs hr hl hk⟩
/-- what the program does leaves the document's as it is -/
theorem RAr.did (h : RAr w ow R a) (hd : Did w w' ow P a') : ∃ ow', PAr w' ow' P a' ∧ RAr w' ow' R a ∧ (∀ k, k < w.heap.size → ow' k = ow k) ∧ FrX (fun k => (ow k).prg) w w' := by
  obtain ⟨ow', hp, hr, hf⟩ := hd
  exact ⟨ow', hp, h.kept hf.size hr hp.low (fun k hk => hf.block k (h.low k fun e => by rw [e] at hk; exact hk) fun e => Role.prg_not e hk), hr, hf⟩
theorem PAr.did (h : PAr w ow P a) (hd : RDid w w' ow R a') : ∃ ow', PAr w' ow' P a ∧ RAr w' ow' R a' ∧ (∀ k, k < w.heap.size → ow' k = ow k) ∧ FrX (fun k => (ow k).ref) w w' := by
  obtain ⟨ow', hp, hr, hf⟩ := hd
  exact ⟨ow', h.kept hf.size hr hp.low (fun k hk => hf.block k (h.low k fun e => by rw [e] at hk; exact hk) fun e => Role.ref_not e hk), hp, hr, hf⟩
theorem Both.below (h : Both w ow P R a) (hb : Below w.heap.size w w') : Both w' ow P R a := ⟨h.p.below hb, h.r.below hb⟩
end
/-- blocks that turn are an arena's -/
def Role.own (r : Role) : Prop := r.prg ∨ r.ref
/-- what both together leave -/
def BDid (w w' : World) (ow : Nat → Role) (P R : Nat) (a : Av) : Prop := ∃ ow', Both w' ow' P R a ∧ (∀ k, k < w.heap.size → ow' k = ow k) ∧ FrX (fun k => (ow k).own) w w'
theorem both_did {w w1 w2 : World} {ow ow1 : Nat → Role} {P R : Nat} {a' : Av} (h1 : PAr w1 ow1 P a') (hr1 : ∀ k, k < w.heap.size → ow1 k = ow k) (hf1 : FrX (fun k => (ow k).prg) w w1) (hd : RDid w1 w2 ow1 R a') : BDid w w2 ow P R a' := by
  obtain ⟨ow2, p2, r2, hr2, hf2⟩ := h1.did hd
  refine ⟨ow2, ⟨p2, r2⟩, fun k hk => (hr2 k (Nat.lt_of_lt_of_le hk hf1.size)).trans (hr1 k hk), (hf1.mono fun k _ e => .inl e).trans hf2 fun k hk => ?_⟩
  by_cases hlt : k < w.heap.size
  · left; rw [hr1 k hlt] at hk; exact .inr hk
  · right; omega
theorem BDid.after {w w1 w2 : World} {ow ow1 : Nat → Role} {P R : Nat} {a2 : Av} (hr : ∀ k, k < w.heap.size → ow1 k = ow k) (hf : FrX (fun k => (ow k).own) w w1) (h : BDid w1 w2 ow1 P R a2) : BDid w w2 ow P R a2 := by
  obtain ⟨ow2, p2, e2, f2⟩ := h
  refine ⟨ow2, p2, fun k hk => (e2 k (Nat.lt_of_lt_of_le hk hf.size)).trans (hr k hk), hf.trans f2 fun k hk => ?_⟩
  by_cases hlt : k < w.heap.size
  · left; rw [← hr k hlt]; exact hk
  · right; omega
theorem BDid.refl {w : World} {ow : Nat → Role} {P R : Nat} {a : Av} (h : Both w ow P R a) : BDid w w ow P R a := ⟨ow, h, fun _ _ => rfl, FrX.refl _ _⟩
/-- data as the document has it -/
theorem plain_any (w : World) (d : Dt) (aA : Option Addr) (an ac : Nat) : Calls Try.prog 12 #[datV d aA an ac] w fun e w' => e = .returned (plV d aA an ac) ∧ Below w.heap.size w w' := by
  obtain ⟨id, leaf, lb, at_, tx⟩ := d
  unfold datV plV sltV
  dsimp only
  go_enter Try.func12, Try.ntmps12
  go_wp2_with fail
  obtain ⟨r0, r1, r2, r3, r4, r5, r6, r7, rf⟩ := eight_of (two_second w (.cells #[.int .u64 (id : Int), .bool leaf, .string ⟨lb.toArray⟩, .slice aA an ac, .string ⟨tx.toArray⟩] 25) (.cells #[.bool false, .int .u64 (id : Int), .bool leaf, .string ⟨lb.toArray⟩, .slice aA an ac, .string ⟨tx.toArray⟩, .int .i64 0, .slice none 0 0] 35))
  exact bodyPost_ret (v := .agg #[.bool false, .int .u64 (id : Int), .bool leaf, .string ⟨lb.toArray⟩, .slice aA an ac, .string ⟨tx.toArray⟩, .int .i64 0, .slice none 0 0]) (by simp [results, Try.results12, go_sem, r0, r1, r2, r3, r4, r5, r6, r7]) rfl ⟨rfl, ((Below.refl _ _).alloc (Nat.le_refl _) _).alloc (by simp) _⟩
/-- which of six -/
def pickV (x : Int) : Int := (Int.tmod x 6 + 6) % 6
theorem pick_any (w : World) (x : Int) (hx : I64 x) : Calls Try.prog 33 #[.int .i64 x, .int .i64 6] w fun e w' => e = .returned (.int .i64 (pickV x)) ∧ w = w' := by
  unfold I64 at hx
  have h1 : -5 ≤ Int.tmod x 6 ∧ Int.tmod x 6 ≤ 5 := by
    have ha := Int.tmod_lt_of_pos x (show (0 : Int) < 6 by decide)
    have hb := Int.lt_tmod_of_pos x (show (0 : Int) < 6 by decide)
    omega
  go_enter Try.func33, Try.ntmps33
  go_wp2_with fail
  go_ret
  exact ⟨rfl, rfl⟩
theorem pick_range (x : Int) : 0 ≤ pickV x ∧ pickV x ≤ 5 := by
  unfold pickV
  omega
/-- is it few? -/
def fewD (c : Cl) : Bool := decide (c.an ≤ 30) && (decide (c.d.label.length ≤ 300) && decide (c.d.text.length ≤ 300))
def fewV (l : List Cl) (top : Nat) : Bool := decide (l.length ≤ top) && l.all fewD
theorem few_any {T : Nat → Prop} (w : World) (A : Option Addr) (n c : Nat) (l : List Cl) (h : ClsIn T w A n l) (hc : n ≤ c) (hm : c ≤ maxLen) (top : Nat) (ht : top ≤ 1000) :
    Calls Try.prog 8 #[.slice A n c, .int .i64 (top : Int)] w fun e w' => e = .returned (.bool (fewV l top)) ∧ w' = w := by
  have h' := Lib.hid h
  have hl := Lib.hid h.1
  clear h
  by_cases hn : n ≤ top
  · have hnI : ¬ (top : Int) < (n : Int) := by omega
    go_enter Try.func8, Try.ntmps8
    go_wp2_with fail
    go_loopw [5] (fun i wr => ∃ q : Nat, q ≤ n ∧ i = .int .i64 (q : Int) ∧ l.all fewD = (l.drop q).all fewD ∧ wr = w) (fun i _ => n - (intOf i).toNat)
    case atStart => exact ⟨0, Nat.zero_le _, rfl, by rw [List.drop_zero], rfl⟩
    case round =>
      obtain ⟨q, hq, rfl, hall, rfl⟩ := hrel
      have hall' := Lib.hid hall
      clear hall
      by_cases hqn : q < n
      · obtain ⟨x, hx⟩ : ∃ x, l[q]? = some x := ⟨_, List.getElem?_eq_getElem (by have := hl.out; omega)⟩
        obtain ⟨ad, hA, -, hok, hcl⟩ := h'.out.2 q x hx
        subst hA
        have x6 := hcl 6 _ rfl
        have x7 := hcl 7 _ rfl
        have x8 := hcl 8 _ rfl
        rw [add_off _ _ (by decide)] at x6 x7 x8
        have hd := Lib.hid (show l.drop q = x :: l.drop (q + 1) by obtain ⟨h1, h2⟩ := List.getElem?_eq_some_iff.1 hx; rw [List.drop_eq_getElem_cons h1, h2])
        have hqI : (q : Int) < (n : Int) := by omega
        have hac := hok.d.anc
        have ham := hok.d.acm
        have hlm := hok.d.label
        have htm := hok.d.text
        clear hcl hok hx
        by_cases hb : x.an ≤ 30 ∧ x.d.label.length ≤ 300 ∧ x.d.text.length ≤ 300
        · have hf := Lib.hid (show l.all fewD = (l.drop (q + 1)).all fewD by
            rw [hall'.out, hd.out, List.all_cons]
            unfold fewD
            rw [decide_eq_true hb.1, decide_eq_true hb.2.1, decide_eq_true hb.2.2]
            rfl)
          have b1 : ¬ (30 : Int) < (x.an : Int) := by omega
          have b2 : ¬ (300 : Int) < (x.d.label.length : Int) := by omega
          have b3 : ¬ (300 : Int) < (x.d.text.length : Int) := by omega
          clear hb
          go_wp2_with fail
          go_roundw
          case rel => exact ⟨q + 1, by omega, by go_num, hf.out, trivial⟩
          case measure => simp [intOf]; omega
        · have hv := Lib.hid (show fewV l top = false by
            unfold fewV
            rw [hall'.out, hd.out, List.all_cons]
            unfold fewD
            rw [Bool.and_eq_false_iff]
            right
            rw [Bool.and_eq_false_iff]
            left
            by_cases c1 : x.an ≤ 30
            · by_cases c2 : x.d.label.length ≤ 300
              · have c3 : ¬ x.d.text.length ≤ 300 := fun c3 => hb ⟨c1, c2, c3⟩
                rw [decide_eq_false c3, Bool.and_false, Bool.and_false]
              · rw [decide_eq_false c2, Bool.false_and, Bool.and_false]
            · rw [decide_eq_false c1, Bool.false_and])
          go_wp2_with fail
          all_goals first
            | (go_ret; exact ⟨by rw [hv.out]; rfl, rfl⟩)
            | (exfalso; omega)
      · have hqI : ¬ (q : Int) < (n : Int) := by omega
        have hv := Lib.hid (show fewV l top = true by
          unfold fewV
          rw [hall'.out, List.drop_of_length_le (by have := hl.out; omega), decide_eq_true (by have := hl.out; omega)]
          rfl)
        go_wp2_with fail
        go_ret
        exact ⟨by rw [hv.out]; rfl, rfl⟩
  · have hnI : (top : Int) < (n : Int) := by omega
    have hv := Lib.hid (show fewV l top = false by
      unfold fewV
      rw [decide_eq_false (by have := hl.out; omega)]
      rfl)
    go_enter Try.func8, Try.ntmps8
    go_wp2_with fail
    go_ret
    exact ⟨by rw [hv.out]; rfl, rfl⟩
end Go.Proofs.Ytiikakfdelkjhaa.Arn
