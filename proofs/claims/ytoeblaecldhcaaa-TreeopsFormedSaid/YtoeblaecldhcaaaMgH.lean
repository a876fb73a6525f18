/- MgH: TopXa TopXb TopXc TopFo TopLi TopFr -/
import Derived.Test.YtoeblaecldhcaaaMgF
import Derived.Test.YtoeblaecldhcaaaMgC
import Derived.Deep.Cut
import Derived.Test.YtoeblaecldhcaaaMgA
import Derived.Test.YtoeblaecldhcaaaMgB
import Derived.Test.YtoeblaecldhcaaaMgD
import Derived.Test.YtoeblaecldhcaaaMgE
/- works: the chapter's examples: its tree, its operations. -/
namespace Go.Proofs.Ytoeblaecldhcaaa.Top
open Go.RowKit
set_option maxRecDepth 20000
set_option linter.unusedVariables false

def xW : Nd := .mk 0 true [120] [] [104, 105] []
def cW : Nd := .mk 0 false [99] [] [] []
def aW : Nd := .mk 0 false [97] [] [] [xW, cW]
def bW : Nd := .mk 0 true [98] [] [98, 101, 101] []
def rW : Nd := .mk 0 false [114] [] [] [aW, bW]
/-- the example lies at w0 -/
structure Wk (w0 w : World) : Prop where
  bel : Below w0.heap.size w0 w
  size : w0.heap.size + 3 ≤ w.heap.size
  h1 : w.heap[w0.heap.size]? = some (.cells #[.int .u64 0, .bool true, .string ⟨#[120]⟩, .slice none 0 0, .string ⟨#[104, 105]⟩, .slice none 0 0, .int .u64 0, .bool false, .string ⟨#[99]⟩, .slice none 0 0, .string ⟨#[]⟩, .slice none 0 0] 33 (0, 0))
  h2 : w.heap[w0.heap.size + 1]? = some (.cells #[.int .u64 0, .bool false, .string ⟨#[97]⟩, .slice none 0 0, .string ⟨#[]⟩, .slice (some ⟨w0.heap.size, 0, none⟩) 2 2, .int .u64 0, .bool true, .string ⟨#[98]⟩, .slice none 0 0, .string ⟨#[98, 101, 101]⟩, .slice none 0 0] 33 (0, 0))
  h3 : w.heap[w0.heap.size + 2]? = some (.cells #[.int .u64 0, .bool false, .string ⟨#[114]⟩, .slice none 0 0, .string ⟨#[]⟩, .slice (some ⟨w0.heap.size + 1, 0, none⟩) 2 2] 33 (0, 0))
section
variable {w0 w w' : World}
theorem Wk.below (h : Wk w0 w) (hb : Below w.heap.size w w') : Wk w0 w' :=
  have hs := h.size
  ⟨h.bel.trans (hb.mono (by omega)), Nat.le_trans h.size hb.size, (hb.block _ (by omega)).trans h.h1, (hb.block _ (by omega)).trans h.h2, (hb.block _ (by omega)).trans h.h3⟩
theorem Wk.alloc (h : Wk w0 w) (o : Obj) : Wk w0 (w.alloc o) := h.below ((Below.refl _ _).alloc (Nat.le_refl _) _)
theorem Wk.node (h : Wk w0 w) : NodeV (Old w) w none 0 0 (some ⟨w0.heap.size + 1, 0, none⟩) 2 2 rW := by
  have hs := h.size
  have c1 := fun i => cell_of_row w w0.heap.size i _ _ _ h.h1
  have c2 := fun i => cell_of_row w (w0.heap.size + 1) i _ _ _ h.h2
  have hX : NodeV (Old w) w none 0 0 none 0 0 xW := NFacts.node ⟨by decide, by decide, by decide, ats_nil _ _, Nat.le_refl _, Nat.zero_le _, fun _ => rfl, rfl, Nat.le_refl _, Nat.zero_le _, fun _ => rfl, by simp [xW, Nd.kids, RowAt]⟩
  have hC : NodeV (Old w) w none 0 0 none 0 0 cW := NFacts.node ⟨by decide, by decide, by decide, ats_nil _ _, Nat.le_refl _, Nat.zero_le _, fun _ => rfl, rfl, Nat.le_refl _, Nat.zero_le _, fun _ => rfl, by simp [cW, Nd.kids, RowAt]⟩
  have hB : NodeV (Old w) w none 0 0 none 0 0 bW := NFacts.node ⟨by decide, by decide, by decide, ats_nil _ _, Nat.le_refl _, Nat.zero_le _, fun _ => rfl, rfl, Nat.le_refl _, Nat.zero_le _, fun _ => rfl, by simp [bW, Nd.kids, RowAt]⟩
  have hA : NodeV (Old w) w none 0 0 (some ⟨w0.heap.size, 0, none⟩) 2 2 aW := NFacts.node ⟨by decide, by decide, by decide, ats_nil _ _, Nat.le_refl _, Nat.zero_le _, fun _ => rfl, rfl, Nat.le_refl _, by decide, (fun h => by cases h), by
    show RowAt (Old w) w (some ⟨w0.heap.size, 0, none⟩) 0 [xW, cW]
    simp only [RowAt, and_true]
    refine ⟨⟨⟨w0.heap.size, 0, none⟩, none, 0, 0, none, 0, 0, rfl, (by show w0.heap.size < _; omega), ?_, hX⟩, ⟨w0.heap.size, 0, none⟩, none, 0, 0, none, 0, 0, rfl, (by show w0.heap.size < _; omega), ?_, hC⟩
    · rw [add_zero_off]
      exact ⟨c1 0, c1 1, c1 2, c1 3, c1 4, c1 5⟩
    · rw [add_zero_off]
      exact ⟨c1 6, c1 7, c1 8, c1 9, c1 10, c1 11⟩⟩
  refine NFacts.node ⟨by decide, by decide, by decide, ats_nil _ _, Nat.le_refl _, Nat.zero_le _, fun _ => rfl, rfl, Nat.le_refl _, by decide, (fun h => by cases h), ?_⟩
  show RowAt (Old w) w (some ⟨w0.heap.size + 1, 0, none⟩) 0 [aW, bW]
  simp only [RowAt, and_true]
  refine ⟨⟨⟨w0.heap.size + 1, 0, none⟩, none, 0, 0, (some ⟨w0.heap.size, 0, none⟩), 2, 2, rfl, (by show w0.heap.size + 1 < _; omega), ?_, hA⟩, ⟨w0.heap.size + 1, 0, none⟩, none, 0, 0, none, 0, 0, rfl, (by show w0.heap.size + 1 < _; omega), ?_, hB⟩
  · rw [add_zero_off]
    exact ⟨c2 0, c2 1, c2 2, c2 3, c2 4, c2 5⟩
  · rw [add_zero_off]
    exact ⟨c2 6, c2 7, c2 8, c2 9, c2 10, c2 11⟩
end
def o1 : Ov := ⟨1, [0], 1, [], 0, false, [110], [], [], false, []⟩
def o2 : Ov := ⟨3, [0, 0], 2, [], 0, false, [], [], [], false, []⟩
def o3 : Ov := ⟨3, [0], 1, [], 0, false, [], [], [], false, []⟩
def o4 : Ov := ⟨6, [0, 0], 0, [], 0, false, [], [], [], false, [⟨2, 0, [33]⟩]⟩
def o5 : Ov := ⟨3, [0], 0, [0, 0], 0, false, [], [], [], false, []⟩
def o6 : Ov := ⟨2, [], 0, [], 0, false, [], [], [], false, []⟩
def nW : Nd := .mk 0 false [110] [] [] []
theorem v1 : validV rW o1 = 0 := by kernel_rfl
theorem v2 : validV rW o2 = 0 := by kernel_rfl
theorem v3 : validV rW o3 = 0 := by kernel_rfl
theorem v4 : validV rW o4 = 0 := by kernel_rfl
theorem v5 : validV rW o5 = 84 := by kernel_rfl
theorem v6 : validV rW o6 = 82 := by kernel_rfl
theorem a1 : applyV rW o1 = .mk 0 false [114] [] [] [.mk 0 false [97] [] [] [xW, nW, cW], bW] := by kernel_rfl
theorem a2 : applyV rW o2 = .mk 0 false [114] [] [] [.mk 0 false [97] [] [] [cW], bW, xW] := by kernel_rfl
theorem a3 : applyV rW o3 = rW := by kernel_rfl
theorem a4 : applyV rW o4 = .mk 0 false [114] [] [] [.mk 0 false [97] [] [] [.mk 0 true [120] [] [104, 105, 33] [], cW], bW] := by kernel_rfl
theorem slim_lit {o : Ov} (h : o.label.length ≤ 80000 ∧ o.key.length ≤ 80000 ∧ o.value.length ≤ 80000 ∧ P5.putsI o.pieces ≤ 80000 := by decide) : Slim o := ⟨h.1, h.2.1, h.2.2.1, h.2.2.2⟩
theorem fit_lit {l : List Int} (h : (l.all fun x => decide (-9223372036854775808 ≤ x ∧ x ≤ 9223372036854775807)) = true := by decide) : Fit l := fun x hx => of_decide_eq_true (List.all_eq_true.1 h x hx)
/-- an operation whose path (and target) stand in the text -/
theorem op_lit {W : World} {o : Ov} {s : OS} (hk : o.kind < 256 := by decide) (hp : Its W s.pA s.pn o.path) (hp2 : s.pn ≤ s.pc ∧ s.pc ≤ 4 := by (dsimp only; decide)) (hp3 : s.pA = none → s.pc = 0) (ha : -9223372036854775808 ≤ o.at_ ∧ o.at_ ≤ 9223372036854775807 := by decide) (ht : Its W s.tA s.tn o.to_) (ht2 : s.tn ≤ s.tc ∧ s.tc ≤ 4 := by (dsimp only; decide)) (ht3 : s.tA = none → s.tc = 0)
    (hi : o.id < 18446744073709551616 := by decide) (hl : o.label.length ≤ 4 ∧ o.key.length ≤ 4 ∧ o.value.length ≤ 4 := by decide) (hq : P5.PcsIn W s.qA s.qn o.pieces) (hq2 : s.qn ≤ s.qc ∧ s.qc ≤ 4 := by (dsimp only; decide)) (hq3 : s.qA = none → s.qc = 0) (f1 : Fit o.path) (f2 : Fit o.to_) : OpIn W o s :=
  ⟨hk, hp, hp2.1, by unfold maxLen; omega, hp3, ha, ht, ht2.1, by unfold maxLen; omega, ht3, hi, by unfold maxLen; omega, by unfold maxLen; omega, by unfold maxLen; omega, hq, hq2.1, by unfold maxLen; omega, hq3, by omega, by omega, by omega, f1, f2⟩
end Go.Proofs.Ytoeblaecldhcaaa.Top
/- works: the chapter's examples: walked. -/
namespace Go.Proofs.Ytoeblaecldhcaaa.Top
open Go.RowKit
set_option maxRecDepth 20000
set_option linter.unusedVariables false

/-- an answer in a variable's block -/
structure Res (b : Nat) (r : Nd) (w : World) : Prop where
  lt : b < w.heap.size
  at_ : ∃ aA an ac kA kc, w.heap[b]? = some (.cells (val6 r aA an ac kA r.kids.length kc) 33 (0, 0)) ∧ NodeV (Old w) w aA an ac kA r.kids.length kc r
theorem Res.below {b : Nat} {r : Nd} {w w' : World} (h : Res b r w) (hb : Below w.heap.size w w') : Res b r w' := by
  obtain ⟨h0, aA, an, ac, kA, kc, h1, h2⟩ := h
  exact ⟨Nat.lt_of_lt_of_le h0 hb.size, aA, an, ac, kA, kc, (hb.block _ h0).trans h1, h2.below hb⟩
theorem Res.alloc {b : Nat} {r : Nd} {w : World} (h : Res b r w) (o : Obj) : Res b r (w.alloc o) := h.below ((Below.refl _ _).alloc (Nat.le_refl _) _)
theorem Res.new {r : Nd} {w : World} {aA kA : Option Addr} {an ac kc : Nat} (h : NodeV (Old w) w aA an ac kA r.kids.length kc r) : Res w.heap.size r (w.alloc (.cells (val6 r aA an ac kA r.kids.length kc) 33)) :=
  ⟨by simp, aA, an, ac, kA, kc, heap_alloc_new w _, h.below ((Below.refl _ _).alloc (Nat.le_refl _) _)⟩
theorem Wk.ap {w0 W : World} (h : Wk w0 W) (o : Ov) (s : OS) (ho : OpIn W o s) (hs : Slim o) (r : Nd) (hv : validV rW o = 0) (ha : applyV rW o = r) :
    Calls Try.prog 19 #[.agg (val6 rW none 0 0 (some ⟨w0.heap.size + 1, 0, none⟩) 2 2), .agg (opCells o s)] W fun e w' => ∃ aA an ac kA kc, e = .returned (.tuple #[.agg (val6 r aA an ac kA r.kids.length kc), .int .i64 0]) ∧ NodeV (Old w') w' aA an ac kA r.kids.length kc r ∧ Below W.heap.size W w' := by
  refine (apply_any W rW none _ 0 0 2 2 h.node o s ho hs (by decide)).mono ?_
  rintro e w' ⟨aA, an, ac, kA, kn, kc, rfl, hn, hb⟩
  rw [hv, ha] at *
  obtain rfl : kn = r.kids.length := hn.facts.kl.symm
  exact ⟨aA, an, ac, kA, kc, rfl, hn.kept (fun k hk => by
    rcases hk with hk | hk
    · exact Nat.lt_of_lt_of_le hk hb.size
    · exact hk.2) (fun _ _ => rfl), hb⟩
theorem Wk.va {w0 W : World} (h : Wk w0 W) (o : Ov) (s : OS) (ho : OpIn W o s) (k : Int) (hv : validV rW o = k) :
    Calls Try.prog 15 #[.agg (val6 rW none 0 0 (some ⟨w0.heap.size + 1, 0, none⟩) 2 2), .agg (opCells o s)] W fun e w' => e = .returned (.int .i64 k) ∧ Below W.heap.size W w' := by
  have := valid_any W rW none _ 0 0 2 2 o s h.node ho (by decide)
  rw [hv] at this
  exact this
theorem one_lit {w : World} {g : Nat} {xs : List Int} {t : TypeId} (h : w.heap[g]? = some (.cells (xs.map fun x => Value.int .i64 x).toArray t (0, 0))) : Its w (some ⟨g, 0, none⟩) xs.length xs := its_lit h
theorem pcs_none (W : World) : P5.PcsIn W none 0 [] := P5.PcsIn.nil W
theorem Wk.c1 {w0 W : World} (h : Wk w0 W) : Calls Try.prog 19 #[.agg #[.int .u64 0, .bool false, .string ⟨#[114]⟩, .slice none 0 0, .string ⟨#[]⟩, .slice (some ⟨w0.heap.size + 1, 0, none⟩) 2 2], .agg #[.int .u8 1, .slice (some ⟨W.heap.size, 0, none⟩) 1 1, .int .i64 1, .slice none 0 0, .int .u64 0, .bool false, .string ⟨#[110]⟩, .string ⟨#[]⟩, .string ⟨#[]⟩, .bool false, .slice none 0 0]] (W.alloc (.cells #[.int .i64 0] 3)) fun e w' => ∃ aA an ac kA kc, e = .returned (.tuple #[.agg #[.int .u64 0, .bool false, .string ⟨#[114]⟩, .slice aA an ac, .string ⟨#[]⟩, .slice kA 2 kc], .int .i64 0]) ∧ Res w'.heap.size (.mk 0 false [114] [] [] [.mk 0 false [97] [] [] [xW, nW, cW], bW]) (w'.alloc (.cells #[.int .u64 0, .bool false, .string ⟨#[114]⟩, .slice aA an ac, .string ⟨#[]⟩, .slice kA 2 kc] 33)) ∧ Below W.heap.size W w' := by
  have hi : Its (W.alloc (.cells #[.int .i64 0] 3)) (some ⟨W.heap.size, 0, none⟩) 1 [0] := its_lit (xs := [0]) (heap_alloc_new W _)
  refine ((h.alloc (.cells #[.int .i64 0] 3)).ap o1 ⟨some ⟨W.heap.size, 0, none⟩, 1, 1, none, 0, 0, none, 0, 0⟩ (op_lit (hp := hi) (hp3 := fun e => by cases e) (ht := Its.none_ _) (ht3 := fun _ => rfl) (hq := pcs_none _) (hq3 := fun _ => rfl) (f1 := fit_lit) (f2 := fit_lit)) slim_lit (.mk 0 false [114] [] [] [.mk 0 false [97] [] [] [xW, nW, cW], bW]) v1 a1).mono ?_
  rintro e w' ⟨aA, an, ac, kA, kc, rfl, hn, hb⟩
  exact ⟨aA, an, ac, kA, kc, rfl, Res.new hn, ((Below.refl _ _).alloc (Nat.le_refl _) _).trans (hb.mono (by simp))⟩
theorem Wk.c2 {w0 W : World} (h : Wk w0 W) : Calls Try.prog 19 #[.agg #[.int .u64 0, .bool false, .string ⟨#[114]⟩, .slice none 0 0, .string ⟨#[]⟩, .slice (some ⟨w0.heap.size + 1, 0, none⟩) 2 2], .agg #[.int .u8 3, .slice (some ⟨W.heap.size, 0, none⟩) 2 2, .int .i64 2, .slice none 0 0, .int .u64 0, .bool false, .string ⟨#[]⟩, .string ⟨#[]⟩, .string ⟨#[]⟩, .bool false, .slice none 0 0]] (W.alloc (.cells #[.int .i64 0, .int .i64 0] 3)) fun e w' => ∃ aA an ac kA kc, e = .returned (.tuple #[.agg #[.int .u64 0, .bool false, .string ⟨#[114]⟩, .slice aA an ac, .string ⟨#[]⟩, .slice kA 3 kc], .int .i64 0]) ∧ Res w'.heap.size (.mk 0 false [114] [] [] [.mk 0 false [97] [] [] [cW], bW, xW]) (w'.alloc (.cells #[.int .u64 0, .bool false, .string ⟨#[114]⟩, .slice aA an ac, .string ⟨#[]⟩, .slice kA 3 kc] 33)) ∧ Below W.heap.size W w' := by
  have hi : Its (W.alloc (.cells #[.int .i64 0, .int .i64 0] 3)) (some ⟨W.heap.size, 0, none⟩) 2 [0, 0] := its_lit (xs := [0, 0]) (heap_alloc_new W _)
  refine ((h.alloc (.cells #[.int .i64 0, .int .i64 0] 3)).ap o2 ⟨some ⟨W.heap.size, 0, none⟩, 2, 2, none, 0, 0, none, 0, 0⟩ (op_lit (hp := hi) (hp3 := fun e => by cases e) (ht := Its.none_ _) (ht3 := fun _ => rfl) (hq := pcs_none _) (hq3 := fun _ => rfl) (f1 := fit_lit) (f2 := fit_lit)) slim_lit (.mk 0 false [114] [] [] [.mk 0 false [97] [] [] [cW], bW, xW]) v2 a2).mono ?_
  rintro e w' ⟨aA, an, ac, kA, kc, rfl, hn, hb⟩
  exact ⟨aA, an, ac, kA, kc, rfl, Res.new hn, ((Below.refl _ _).alloc (Nat.le_refl _) _).trans (hb.mono (by simp))⟩
theorem Wk.c3 {w0 W : World} (h : Wk w0 W) : Calls Try.prog 19 #[.agg #[.int .u64 0, .bool false, .string ⟨#[114]⟩, .slice none 0 0, .string ⟨#[]⟩, .slice (some ⟨w0.heap.size + 1, 0, none⟩) 2 2], .agg #[.int .u8 3, .slice (some ⟨W.heap.size, 0, none⟩) 1 1, .int .i64 1, .slice none 0 0, .int .u64 0, .bool false, .string ⟨#[]⟩, .string ⟨#[]⟩, .string ⟨#[]⟩, .bool false, .slice none 0 0]] (W.alloc (.cells #[.int .i64 0] 3)) fun e w' => ∃ aA an ac kA kc, e = .returned (.tuple #[.agg #[.int .u64 0, .bool false, .string ⟨#[114]⟩, .slice aA an ac, .string ⟨#[]⟩, .slice kA 2 kc], .int .i64 0]) ∧ Res w'.heap.size rW (w'.alloc (.cells #[.int .u64 0, .bool false, .string ⟨#[114]⟩, .slice aA an ac, .string ⟨#[]⟩, .slice kA 2 kc] 33)) ∧ Below W.heap.size W w' := by
  have hi : Its (W.alloc (.cells #[.int .i64 0] 3)) (some ⟨W.heap.size, 0, none⟩) 1 [0] := its_lit (xs := [0]) (heap_alloc_new W _)
  refine ((h.alloc (.cells #[.int .i64 0] 3)).ap o3 ⟨some ⟨W.heap.size, 0, none⟩, 1, 1, none, 0, 0, none, 0, 0⟩ (op_lit (hp := hi) (hp3 := fun e => by cases e) (ht := Its.none_ _) (ht3 := fun _ => rfl) (hq := pcs_none _) (hq3 := fun _ => rfl) (f1 := fit_lit) (f2 := fit_lit)) slim_lit rW v3 a3).mono ?_
  rintro e w' ⟨aA, an, ac, kA, kc, rfl, hn, hb⟩
  exact ⟨aA, an, ac, kA, kc, rfl, Res.new hn, ((Below.refl _ _).alloc (Nat.le_refl _) _).trans (hb.mono (by simp))⟩
theorem Wk.c4 {w0 W : World} (h : Wk w0 W) : Calls Try.prog 19 #[.agg #[.int .u64 0, .bool false, .string ⟨#[114]⟩, .slice none 0 0, .string ⟨#[]⟩, .slice (some ⟨w0.heap.size + 1, 0, none⟩) 2 2], .agg #[.int .u8 6, .slice (some ⟨W.heap.size, 0, none⟩) 2 2, .int .i64 0, .slice none 0 0, .int .u64 0, .bool false, .string ⟨#[]⟩, .string ⟨#[]⟩, .string ⟨#[]⟩, .bool false, .slice (some ⟨W.heap.size + 1, 0, none⟩) 1 1]] ((W.alloc (.cells #[.int .i64 0, .int .i64 0] 3)).alloc (.cells #[.int .i64 2, .int .i64 0, .string ⟨#[33]⟩] 53)) fun e w' => ∃ aA an ac kA kc, e = .returned (.tuple #[.agg #[.int .u64 0, .bool false, .string ⟨#[114]⟩, .slice aA an ac, .string ⟨#[]⟩, .slice kA 2 kc], .int .i64 0]) ∧ Res w'.heap.size (.mk 0 false [114] [] [] [.mk 0 false [97] [] [] [.mk 0 true [120] [] [104, 105, 33] [], cW], bW]) (w'.alloc (.cells #[.int .u64 0, .bool false, .string ⟨#[114]⟩, .slice aA an ac, .string ⟨#[]⟩, .slice kA 2 kc] 33)) ∧ Below W.heap.size W w' := by
  have hi : Its (W.alloc (.cells #[.int .i64 0, .int .i64 0] 3)) (some ⟨W.heap.size, 0, none⟩) 2 [0, 0] := its_lit (xs := [0, 0]) (heap_alloc_new W _)
  have hb1 : Below (W.alloc (.cells #[.int .i64 0, .int .i64 0] 3)).heap.size (W.alloc (.cells #[.int .i64 0, .int .i64 0] 3)) ((W.alloc (.cells #[.int .i64 0, .int .i64 0] 3)).alloc (.cells #[.int .i64 2, .int .i64 0, .string ⟨#[33]⟩] 53)) := (Below.refl _ _).alloc (Nat.le_refl _) _
  have g1 := heap_alloc_new (W.alloc (.cells #[.int .i64 0, .int .i64 0] 3)) (.cells #[.int .i64 2, .int .i64 0, .string ⟨#[33]⟩] 53)
  rw [World.size_alloc] at g1
  have hq : P5.PcsIn ((W.alloc (.cells #[.int .i64 0, .int .i64 0] 3)).alloc (.cells #[.int .i64 2, .int .i64 0, .string ⟨#[33]⟩] 53)) (some ⟨W.heap.size + 1, 0, none⟩) 1 [⟨2, 0, [33]⟩] := by
    refine ⟨rfl, fun q x hx => ?_⟩
    match q, hx with
    | 0, hx =>
      injection hx with hx
      subst hx
      refine ⟨_, rfl, by show W.heap.size + 1 < _; simp, ?_⟩
      have c0 := cell_of_row _ _ 0 _ _ _ g1
      have c1 := cell_of_row _ _ 1 _ _ _ g1
      have c2 := cell_of_row _ _ 2 _ _ _ g1
      rw [add_zero_off]
      exact ⟨by decide, by decide, by decide, by decide, by decide, c0, c1, c2⟩
    | q + 1, hx => simp at hx
  refine (((h.alloc (.cells #[.int .i64 0, .int .i64 0] 3)).alloc (.cells #[.int .i64 2, .int .i64 0, .string ⟨#[33]⟩] 53)).ap o4 ⟨some ⟨W.heap.size, 0, none⟩, 2, 2, none, 0, 0, some ⟨W.heap.size + 1, 0, none⟩, 1, 1⟩ (op_lit (hp := hi.below hb1) (hp3 := fun e => by cases e) (ht := Its.none_ _) (ht3 := fun _ => rfl) (hq := hq) (hq3 := fun e => by cases e) (f1 := fit_lit) (f2 := fit_lit)) slim_lit (.mk 0 false [114] [] [] [.mk 0 false [97] [] [] [.mk 0 true [120] [] [104, 105, 33] [], cW], bW]) v4 a4).mono ?_
  rintro e w' ⟨aA, an, ac, kA, kc, rfl, hn, hb⟩
  exact ⟨aA, an, ac, kA, kc, rfl, Res.new hn, (((Below.refl _ _).alloc (Nat.le_refl _) _).alloc (by simp) _).trans (hb.mono (by simp <;> omega))⟩
theorem Wk.c5 {w0 W : World} (h : Wk w0 W) : Calls Try.prog 15 #[.agg #[.int .u64 0, .bool false, .string ⟨#[114]⟩, .slice none 0 0, .string ⟨#[]⟩, .slice (some ⟨w0.heap.size + 1, 0, none⟩) 2 2], .agg #[.int .u8 3, .slice (some ⟨W.heap.size, 0, none⟩) 1 1, .int .i64 0, .slice (some ⟨W.heap.size + 1, 0, none⟩) 2 2, .int .u64 0, .bool false, .string ⟨#[]⟩, .string ⟨#[]⟩, .string ⟨#[]⟩, .bool false, .slice none 0 0]] ((W.alloc (.cells #[.int .i64 0] 3)).alloc (.cells #[.int .i64 0, .int .i64 0] 3)) fun e w' => e = .returned (.int .i64 84) ∧ Below W.heap.size W w' := by
  have hi : Its (W.alloc (.cells #[.int .i64 0] 3)) (some ⟨W.heap.size, 0, none⟩) 1 [0] := its_lit (xs := [0]) (heap_alloc_new W _)
  have hb1 : Below (W.alloc (.cells #[.int .i64 0] 3)).heap.size (W.alloc (.cells #[.int .i64 0] 3)) ((W.alloc (.cells #[.int .i64 0] 3)).alloc (.cells #[.int .i64 0, .int .i64 0] 3)) := (Below.refl _ _).alloc (Nat.le_refl _) _
  have g1 := heap_alloc_new (W.alloc (.cells #[.int .i64 0] 3)) (.cells #[.int .i64 0, .int .i64 0] 3)
  rw [World.size_alloc] at g1
  refine (((h.alloc (.cells #[.int .i64 0] 3)).alloc (.cells #[.int .i64 0, .int .i64 0] 3)).va o5 ⟨some ⟨W.heap.size, 0, none⟩, 1, 1, some ⟨W.heap.size + 1, 0, none⟩, 2, 2, none, 0, 0⟩ (op_lit (hp := hi.below hb1) (hp3 := fun e => by cases e) (ht := its_lit (xs := [0, 0]) g1) (ht3 := fun e => by cases e) (hq := pcs_none _) (hq3 := fun _ => rfl) (f1 := fit_lit) (f2 := fit_lit)) 84 v5).mono ?_
  rintro e w' ⟨rfl, hb⟩
  exact ⟨rfl, (((Below.refl _ _).alloc (Nat.le_refl _) _).alloc (by simp) _).trans (hb.mono (by simp <;> omega))⟩
theorem Wk.c6 {w0 W : World} (h : Wk w0 W) : Calls Try.prog 15 #[.agg #[.int .u64 0, .bool false, .string ⟨#[114]⟩, .slice none 0 0, .string ⟨#[]⟩, .slice (some ⟨w0.heap.size + 1, 0, none⟩) 2 2], .agg #[.int .u8 2, .slice none 0 0, .int .i64 0, .slice none 0 0, .int .u64 0, .bool false, .string ⟨#[]⟩, .string ⟨#[]⟩, .string ⟨#[]⟩, .bool false, .slice none 0 0]] W fun e w' => e = .returned (.int .i64 82) ∧ Below W.heap.size W w' :=
  h.va o6 ⟨none, 0, 0, none, 0, 0, none, 0, 0⟩ (op_lit (hp := Its.none_ _) (hp3 := fun _ => rfl) (ht := Its.none_ _) (ht3 := fun _ => rfl) (hq := pcs_none _) (hq3 := fun _ => rfl) (f1 := fit_lit) (f2 := fit_lit)) 82 v6
end Go.Proofs.Ytoeblaecldhcaaa.Top
/- works: walked. -/
namespace Go.Proofs.Ytoeblaecldhcaaa.Top
open Go.RowKit
set_option maxRecDepth 20000
set_option linter.unusedVariables false

theorem NodeAt.kids {T : Nat → Prop} {w : World} {E : Addr} {t : Nd} (h : NodeAt T w E t) : ∃ kA kc, w.cell? ⟨E.block, E.off + 2, none⟩ = some (.string ⟨t.label.toArray⟩) ∧ w.cell? ⟨E.block, E.off + 4, none⟩ = some (.string ⟨t.text.toArray⟩) ∧ w.cell? ⟨E.block, E.off + 5, none⟩ = some (.slice kA t.kids.length kc) ∧ t.kids.length ≤ kc ∧ kc ≤ maxLen ∧
    ∀ q k, t.kids[q]? = some k → ∃ ad, kA = some ad ∧ NodeAt T w (ad.add (q * 6)) k := by
  obtain ⟨-, aA, an, ac, kA, kn, kc, hs, hn⟩ := h
  obtain ⟨s0, s1, s2, s3, s4, s5⟩ := hs
  have hf := hn.facts
  obtain rfl : kn = t.kids.length := hf.kl.symm
  refine ⟨kA, kc, s2, s4, s5, hf.knc, hf.kcm, fun q k hk => ?_⟩
  obtain ⟨ad, e, hat⟩ := hf.row.at_ hk
  rw [Nat.zero_add] at hat
  exact ⟨ad, e, hat⟩
theorem off_add (a : Addr) (k : Nat) : (a.add k).off = a.off + k := by unfold Addr.add; split <;> simp_all
theorem Res.open_ {b : Nat} {r : Nd} {w : World} (h : Res b r w) : ∃ aA an ac kA kc, (w.cell? ⟨b, 0, none⟩ = some (.int .u64 (r.id : Int)) ∧ w.cell? ⟨b, 1, none⟩ = some (.bool r.leaf) ∧ w.cell? ⟨b, 2, none⟩ = some (.string ⟨r.label.toArray⟩) ∧ w.cell? ⟨b, 3, none⟩ = some (.slice aA an ac) ∧ w.cell? ⟨b, 4, none⟩ = some (.string ⟨r.text.toArray⟩) ∧ w.cell? ⟨b, 5, none⟩ = some (.slice kA r.kids.length kc)) ∧ r.kids.length ≤ kc ∧ kc ≤ maxLen ∧ NodeV (Old w) w aA an ac kA r.kids.length kc r ∧
    ∀ q k, r.kids[q]? = some k → ∃ ad, kA = some ad ∧ NodeAt (Old w) w (ad.add (q * 6)) k := by
  obtain ⟨hlt, aA, an, ac, kA, kc, h1, h2⟩ := h
  have hf := h2.facts
  unfold val6 at h1
  obtain ⟨s0, s1, s2, s3, s4, s5, -⟩ := six_cells h1
  refine ⟨aA, an, ac, kA, kc, ⟨s0, s1, s2, s3, s4, s5⟩, hf.knc, hf.kcm, h2, fun q k hk => ?_⟩
  obtain ⟨ad, e, hat⟩ := hf.row.at_ hk
  rw [Nat.zero_add] at hat
  exact ⟨ad, e, hat⟩
set_option maxHeartbeats 8000000 in
theorem works_any (w : World) : Calls Try.prog 13 #[] w fun e w' => e = .returned (.bool true) ∧ Below w.heap.size w w' := by
  go_enter Try.func13, Try.ntmps13
  go_upto_region 2 with fail
  obtain ⟨X0, hX0⟩ : ∃ X, X = (((w.alloc (.cells #[.int .u64 0, .bool true, .string ⟨#[120]⟩, .slice none 0 0, .string ⟨#[104, 105]⟩, .slice none 0 0, .int .u64 0, .bool false, .string ⟨#[99]⟩, .slice none 0 0, .string ⟨#[]⟩, .slice none 0 0] 33)).alloc (.cells #[.int .u64 0, .bool false, .string ⟨#[97]⟩, .slice none 0 0, .string ⟨#[]⟩, .slice (some ⟨w.heap.size, 0, none⟩) 2 2, .int .u64 0, .bool true, .string ⟨#[98]⟩, .slice none 0 0, .string ⟨#[98, 101, 101]⟩, .slice none 0 0] 33)).alloc (.cells #[.int .u64 0, .bool false, .string ⟨#[114]⟩, .slice none 0 0, .string ⟨#[]⟩, .slice (some ⟨w.heap.size + 1, 0, none⟩) 2 2] 33)) := ⟨_, rfl⟩
  have hk0 : Hid (Wk w X0) := by
    rw [hX0]
    obtain ⟨n1, n2, n3, n4, n5⟩ := three_new w (.cells #[.int .u64 0, .bool true, .string ⟨#[120]⟩, .slice none 0 0, .string ⟨#[104, 105]⟩, .slice none 0 0, .int .u64 0, .bool false, .string ⟨#[99]⟩, .slice none 0 0, .string ⟨#[]⟩, .slice none 0 0] 33) (.cells #[.int .u64 0, .bool false, .string ⟨#[97]⟩, .slice none 0 0, .string ⟨#[]⟩, .slice (some ⟨w.heap.size, 0, none⟩) 2 2, .int .u64 0, .bool true, .string ⟨#[98]⟩, .slice none 0 0, .string ⟨#[98, 101, 101]⟩, .slice none 0 0] 33) (.cells #[.int .u64 0, .bool false, .string ⟨#[114]⟩, .slice none 0 0, .string ⟨#[]⟩, .slice (some ⟨w.heap.size + 1, 0, none⟩) 2 2] 33)
    exact Lib.hid ⟨n4, by rw [n5]; omega, n1, n2, n3⟩
  rw [← hX0]
  clear hX0
  obtain ⟨c0, c1, c2, c3, c4, c5, -⟩ := six_cells hk0.out.h3
  go_upto_region 3 with (go_at_call 19; go_loud (refine hk0.out.c1.mono ?_; rintro e w1 ⟨aA1, an1, ac1, kA1, kc1, rfl, hr1, hb1⟩; clear c0 c1 c2 c3 c4 c5))
  obtain ⟨X1, hX1⟩ : ∃ X, X = w1.alloc (.cells #[.int .u64 0, .bool false, .string ⟨#[114]⟩, .slice aA1 an1 ac1, .string ⟨#[]⟩, .slice kA1 2 kc1] 33) := ⟨_, rfl⟩
  rw [← hX1]
  rw [← hX1] at hr1
  have hbX1 : Below X0.heap.size X0 X1 := by rw [hX1]; exact hb1.alloc hb1.size _
  have hk1 := Lib.hid (hk0.out.below hbX1)
  obtain ⟨b1, hbe1⟩ : ∃ b, b = w1.heap.size := ⟨_, rfl⟩
  rw [← hbe1] at hr1 ⊢
  have q1 := Lib.hid hr1
  clear hbX1 hX1 hb1 hr1 hbe1 hk0
  obtain ⟨c0, c1, c2, c3, c4, c5, -⟩ := six_cells hk1.out.h3
  go_upto_region 4 with (go_at_call 19; go_loud (refine hk1.out.c2.mono ?_; rintro e w2 ⟨aA2, an2, ac2, kA2, kc2, rfl, hr2, hb2⟩; clear c0 c1 c2 c3 c4 c5))
  obtain ⟨X2, hX2⟩ : ∃ X, X = w2.alloc (.cells #[.int .u64 0, .bool false, .string ⟨#[114]⟩, .slice aA2 an2 ac2, .string ⟨#[]⟩, .slice kA2 3 kc2] 33) := ⟨_, rfl⟩
  rw [← hX2]
  rw [← hX2] at hr2
  have hbX2 : Below X1.heap.size X1 X2 := by rw [hX2]; exact hb2.alloc hb2.size _
  have hk2 := Lib.hid (hk1.out.below hbX2)
  have q1 := Lib.hid (q1.out.below hbX2)
  obtain ⟨b2, hbe2⟩ : ∃ b, b = w2.heap.size := ⟨_, rfl⟩
  rw [← hbe2] at hr2 ⊢
  have q2 := Lib.hid hr2
  clear hbX2 hX2 hb2 hr2 hbe2 hk1
  obtain ⟨c0, c1, c2, c3, c4, c5, -⟩ := six_cells hk2.out.h3
  go_upto_region 5 with (go_at_call 19; go_loud (refine hk2.out.c3.mono ?_; rintro e w3 ⟨aA3, an3, ac3, kA3, kc3, rfl, hr3, hb3⟩; clear c0 c1 c2 c3 c4 c5))
  obtain ⟨X3, hX3⟩ : ∃ X, X = w3.alloc (.cells #[.int .u64 0, .bool false, .string ⟨#[114]⟩, .slice aA3 an3 ac3, .string ⟨#[]⟩, .slice kA3 2 kc3] 33) := ⟨_, rfl⟩
  rw [← hX3]
  rw [← hX3] at hr3
  have hbX3 : Below X2.heap.size X2 X3 := by rw [hX3]; exact hb3.alloc hb3.size _
  have hk3 := Lib.hid (hk2.out.below hbX3)
  have q1 := Lib.hid (q1.out.below hbX3)
  have q2 := Lib.hid (q2.out.below hbX3)
  obtain ⟨b3, hbe3⟩ : ∃ b, b = w3.heap.size := ⟨_, rfl⟩
  rw [← hbe3] at hr3 ⊢
  have q3 := Lib.hid hr3
  clear hbX3 hX3 hb3 hr3 hbe3 hk2
  obtain ⟨c0, c1, c2, c3, c4, c5, -⟩ := six_cells hk3.out.h3
  go_upto_region 6 with (go_at_call 19; go_loud (refine hk3.out.c4.mono ?_; rintro e w4 ⟨aA4, an4, ac4, kA4, kc4, rfl, hr4, hb4⟩; clear c0 c1 c2 c3 c4 c5))
  obtain ⟨X4, hX4⟩ : ∃ X, X = w4.alloc (.cells #[.int .u64 0, .bool false, .string ⟨#[114]⟩, .slice aA4 an4 ac4, .string ⟨#[]⟩, .slice kA4 2 kc4] 33) := ⟨_, rfl⟩
  rw [← hX4]
  rw [← hX4] at hr4
  have hbX4 : Below X3.heap.size X3 X4 := by rw [hX4]; exact hb4.alloc hb4.size _
  have hk4 := Lib.hid (hk3.out.below hbX4)
  have q1 := Lib.hid (q1.out.below hbX4)
  have q2 := Lib.hid (q2.out.below hbX4)
  have q3 := Lib.hid (q3.out.below hbX4)
  obtain ⟨b4, hbe4⟩ : ∃ b, b = w4.heap.size := ⟨_, rfl⟩
  rw [← hbe4] at hr4 ⊢
  have q4 := Lib.hid hr4
  clear hbX4 hX4 hb4 hr4 hbe4 hk3
  obtain ⟨c0, c1, c2, c3, c4, c5, -⟩ := six_cells hk4.out.h3
  have hk4' := hk4
  obtain ⟨xA1, xn1, xc1, xK1, xk1, ⟨d0, d1, d2, d3, d4, d5⟩, l1, l2, -, hkid1⟩ := q1.out.open_
  obtain ⟨ad1, rfl, n1⟩ := hkid1 0 (.mk 0 false [97] [] [] [xW, nW, cW]) rfl
  obtain ⟨yK1, yk1, -, -, m1, l3, l4, hk2⟩ := NodeAt.kids n1
  obtain ⟨ae1, rfl, n2⟩ := hk2 1 nW rfl
  obtain ⟨-, -, lab1, -⟩ := NodeAt.kids n2
  obtain ⟨xA2, xn2, xc2, xK2, xk2, ⟨e0, e1, e2, e3, e4, e5⟩, l5, l6, -, hkid2⟩ := q2.out.open_
  obtain ⟨ad2, rfl, n3⟩ := hkid2 0 (.mk 0 false [97] [] [] [cW]) rfl
  obtain ⟨yK2, yk2, -, -, m2, l7, l8, -⟩ := NodeAt.kids n3
  obtain ⟨ad2', hh, n4⟩ := hkid2 2 xW rfl
  obtain rfl : ad2 = ad2' := Option.some.inj hh
  obtain ⟨-, -, lab2, -⟩ := NodeAt.kids n4
  obtain ⟨xA3, xn3, xc3, xK3, xk3, ⟨f0, f1, f2, f3, f4, f5⟩, l9, l10, hn3, -⟩ := q3.out.open_
  obtain ⟨xA4, xn4, xc4, xK4, xk4, ⟨g0, g1, g2, g3, g4, g5⟩, l11, l12, -, hkid4⟩ := q4.out.open_
  obtain ⟨ad4, rfl, n5⟩ := hkid4 0 (.mk 0 false [97] [] [] [.mk 0 true [120] [] [104, 105, 33] [], cW]) rfl
  obtain ⟨yK4, yk4, -, -, m4, l13, l14, hkk4⟩ := NodeAt.kids n5
  obtain ⟨ae4, rfl, n6⟩ := hkk4 0 (.mk 0 true [120] [] [104, 105, 33] []) rfl
  obtain ⟨-, -, -, txt4, -⟩ := NodeAt.kids n6
  have hsm : Hid (Calls Try.prog 31 #[.agg #[.int .u64 0, .bool false, .string ⟨#[114]⟩, .slice xA3 xn3 xc3, .string ⟨#[]⟩, .slice xK3 2 xk3], .agg #[.int .u64 0, .bool false, .string ⟨#[114]⟩, .slice none 0 0, .string ⟨#[]⟩, .slice (some ⟨w.heap.size + 1, 0, none⟩) 2 2]] X4 fun e w' => e = .returned (.bool true) ∧ Below X4.heap.size X4 w') := Lib.hid (by
    have := same_all X4 rW rW xA3 xK3 none (some ⟨w.heap.size + 1, 0, none⟩) xn3 xc3 2 xk3 0 0 2 2 hn3 hk4'.out.node (by decide)
    rw [eqV_refl sameA sameA_refl] at this
    exact this)
  change X4.cell? ⟨b3, 0, none⟩ = some (.int .u64 0) at f0
  change X4.cell? ⟨b3, 1, none⟩ = some (.bool false) at f1
  change X4.cell? ⟨b3, 2, none⟩ = some (.string ⟨#[114]⟩) at f2
  change X4.cell? ⟨b3, 4, none⟩ = some (.string ⟨#[]⟩) at f4
  change X4.cell? ⟨b3, 5, none⟩ = some (.slice xK3 2 xk3) at f5
  clear hkid1 hkid2 hkid4 hk2 hkk4 n1 n2 n3 n4 n5 n6 hn3 hh
  clear l1 l2 l3 l4 l5 l6 l7 l8 l9 l10 l11 l12 l13 l14
  change X4.cell? ⟨b1, 5, none⟩ = some (.slice (some ad1) 2 xk1) at d5
  change X4.cell? ⟨b2, 5, none⟩ = some (.slice (some ad2) 3 xk2) at e5
  change X4.cell? ⟨b4, 5, none⟩ = some (.slice (some ad4) 2 xk4) at g5
  rw [block_add, off_add] at m1 m2 m4 lab1 lab2 txt4
  simp only [Nat.zero_mul, Nat.add_zero, Nat.one_mul] at m1 m2 m4 lab1 lab2 txt4
  change X4.cell? ⟨ad1.block, ad1.off + 5, none⟩ = some (.slice (some ae1) 3 yk1) at m1
  change X4.cell? ⟨ad2.block, ad2.off + 5, none⟩ = some (.slice yK2 1 yk2) at m2
  change X4.cell? ⟨ad4.block, ad4.off + 5, none⟩ = some (.slice (some ae4) 2 yk4) at m4
  change X4.cell? ⟨ae1.block, ae1.off + 6 + 2, none⟩ = some (.string ⟨#[110]⟩) at lab1
  change X4.cell? ⟨ad2.block, ad2.off + 12 + 2, none⟩ = some (.string ⟨#[120]⟩) at lab2
  change X4.cell? ⟨ae4.block, ae4.off + 4, none⟩ = some (.string ⟨#[104, 105, 33]⟩) at txt4
  have lab1' := lab1
  have lab2' := lab2
  rw [Nat.add_assoc] at lab1' lab2'
  go_upto_region 8 with fail
  have hX := Lib.hid (show Below w.heap.size w X4 from hk4'.out.bel)
  go_wp2_with (first
    | (go_at_call 31; go_loud (refine hsm.out.mono ?_; rintro e w5 ⟨rfl, hb5⟩; have hk5 := Lib.hid (hk4'.out.below hb5); have tr := fun p v (h : X4.cell? p = some v) => (hb5.cell (p := p) (World.block_lt_of_cell? _ _ h)).trans h; have g5' := tr _ _ g5; have m4' := tr _ _ m4; have txt4' := tr _ _ txt4; clear tr c0 c1 c2 c3 c4 c5 d0 d1 d2 d3 d4 d5 e0 e1 e2 e3 e4 e5 f0 f1 f2 f3 f4 f5 g0 g1 g2 g3 g4 g5 m1 m2 m4 lab1 lab2 lab1' lab2' txt4 hb5; obtain ⟨c0, c1, c2, c3, c4, c5, -⟩ := six_cells hk5.out.h3; have ca0 := (fun O => six_cells (hk5.out.alloc O).h3)))
    | (go_at_call 15; go_loud (refine hk5.out.c5.mono ?_; rintro e w6 ⟨rfl, hb6⟩; have hk6 := Lib.hid (hk5.out.below hb6); clear c0 c1 c2 c3 c4 c5 hb6 hk5 ca0 g5' m4' txt4'; obtain ⟨c0, c1, c2, c3, c4, c5, -⟩ := six_cells hk6.out.h3))
    | (go_at_call 15; go_loud (refine hk6.out.c6.mono ?_; rintro e w7 ⟨rfl, hb7⟩; have hk7 := Lib.hid (hk6.out.below hb7); clear hb7)))
  go_ret
  exact ⟨rfl, hk7.out.bel⟩
end Go.Proofs.Ytoeblaecldhcaaa.Top
/- What the frame tells of an operation that came in. -/
namespace Go.Proofs.Ytoeblaecldhcaaa.Top
set_option linter.unusedVariables false
open Go.RowKit Go.ChangeShapes Go.WideShapes Go.Deep
set_option maxRecDepth 20000

/-- an operation's slices, of whatever length -/
structure OpRaw (w : World) (o : Ov) (s : OS) : Prop where
  kind : o.kind < 256
  path : Its w s.pA s.pn o.path
  pnc : s.pn ≤ s.pc
  pcm : s.pc ≤ maxLen
  pnil : s.pA = none → s.pc = 0
  at_ : -9223372036854775808 ≤ o.at_ ∧ o.at_ ≤ 9223372036854775807
  to_ : Its w s.tA s.tn o.to_
  tnc : s.tn ≤ s.tc
  tcm : s.tc ≤ maxLen
  tnil : s.tA = none → s.tc = 0
  id : o.id < 18446744073709551616
  label : o.label.length ≤ maxLen
  key : o.key.length ≤ maxLen
  value : o.value.length ≤ maxLen
  pieces : P5.PcsIn w s.qA s.qn o.pieces
  qnc : s.qn ≤ s.qc
  qcm : s.qc ≤ maxLen
  qnil : s.qA = none → s.qc = 0
  pfit : Fit o.path
  tfit : Fit o.to_
theorem OpRaw.below {w w' : World} {o : Ov} {s : OS} (h : OpRaw w o s) (hb : Below w.heap.size w w') : OpRaw w' o s :=
  { h with path := h.path.below hb, to_ := h.to_.below hb, pieces := h.pieces.below hb }
theorem OpRaw.op {w : World} {o : Ov} {s : OS} (h : OpRaw w o s) (h1 : o.path.length ≤ 500000) (h2 : o.to_.length ≤ 500000) (h3 : o.pieces.length ≤ 500000) : OpIn w o s :=
  ⟨h.kind, h.path, h.pnc, h.pcm, h.pnil, h.at_, h.to_, h.tnc, h.tcm, h.tnil, h.id, h.label, h.key, h.value, h.pieces, h.qnc, h.qcm, h.qnil, by rw [← h.path.1]; exact h1, by rw [← h.to_.1]; exact h2, by rw [← h.pieces.1]; exact h3, h.pfit, h.tfit⟩
theorem OpIn.raw {w : World} {o : Ov} {s : OS} (h : OpIn w o s) : OpRaw w o s :=
  ⟨h.kind, h.path, h.pnc, h.pcm, h.pnil, h.at_, h.to_, h.tnc, h.tcm, h.tnil, h.id, h.label, h.key, h.value, h.pieces, h.qnc, h.qcm, h.qnil, h.pfit, h.tfit⟩
theorem op_size : Try.prog.cellsOf 26 = 11 := by kernel_rfl
theorem op_fields : ∃ f0 f1 f2 f3 f4 f5 f6 f7 f8 f9 f10 : Field, Try.prog.underlying 26 = some (.struct #[f0, f1, f2, f3, f4, f5, f6, f7, f8, f9, f10]) ∧ (f0.type = 5 ∧ f0.offset = 0) ∧ (f1.type = 22 ∧ f1.offset = 1) ∧ (f2.type = 3 ∧ f2.offset = 2) ∧ (f3.type = 22 ∧ f3.offset = 3) ∧ (f4.type = 23 ∧ f4.offset = 4) ∧ (f5.type = 4 ∧ f5.offset = 5) ∧ (f6.type = 9 ∧ f6.offset = 6) ∧ (f7.type = 9 ∧ f7.offset = 7) ∧ (f8.type = 9 ∧ f8.offset = 8) ∧ (f9.type = 4 ∧ f9.offset = 9) ∧ (f10.type = 24 ∧ f10.offset = 10) :=
  ⟨_, _, _, _, _, _, _, _, _, _, _, Try.underlying26, ⟨rfl, rfl⟩, ⟨rfl, rfl⟩, ⟨rfl, rfl⟩, ⟨rfl, rfl⟩, ⟨rfl, rfl⟩, ⟨rfl, rfl⟩, ⟨rfl, rfl⟩, ⟨rfl, rfl⟩, ⟨rfl, rfl⟩, ⟨rfl, rfl⟩, ⟨rfl, rfl⟩⟩
section
variable {H : Type} {enc : TypeId × Value → H} {W : World} {b0 : Nat}
theorem ints_nil {fuel : Nat} {v : Value} {x : DataW H × List MemPlace} (h : DataW.trod enc Try.prog W b0 (fun _ => true) true fuel 22 [v] = some x) :
    ∃ (A : Option Addr) (n c : Nat) (l : List Int), v = .slice A n c ∧ Its W A n l ∧ n ≤ c ∧ c ≤ maxLen ∧ (A = none → c = 0) ∧ Fit l := by
  obtain ⟨A, n, c, l, e, h1, h2, h3, h4⟩ := ints_in h
  refine ⟨A, n, c, l, e, h1, h2, h3, fun hA => ?_, h4⟩
  subst hA
  rcases DataW.trod_slice Try.underlying22 h with ⟨hcs, -⟩ | ⟨a, len, cap, elems, rest, m, -, hcs, -⟩
  · rw [e] at hcs
    simp at hcs
    exact hcs.2
  · rw [e] at hcs
    simp at hcs
theorem op_in {fuel : Nat} {cs : List Value} {x : DataW H × List MemPlace} (h : DataW.trod enc Try.prog W b0 (fun _ => true) true fuel 26 cs = some x) : ∃ (o : Ov) (s : OS), cs = (opCells o s).toList ∧ OpRaw W o s := by
  obtain ⟨f0, f1, f2, f3, f4, f5, f6, f7, f8, f9, f10, hu, ⟨t0, p0⟩, ⟨t1, p1⟩, ⟨t2, p2⟩, ⟨t3, p3⟩, ⟨t4, p4⟩, ⟨t5, p5⟩, ⟨t6, p6⟩, ⟨t7, p7⟩, ⟨t8, p8⟩, ⟨t9, p9⟩, ⟨t10, p10⟩⟩ := op_fields
  obtain ⟨ys, m, hn, -, hlen, hyl, hf⟩ := DataW.trod_struct hu h
  rw [op_size] at hlen
  obtain ⟨v0, v1, v2, v3, v4, v5, v6, v7, v8, v9, v10, rfl⟩ : ∃ v0 v1 v2 v3 v4 v5 v6 v7 v8 v9 v10, cs = [v0, v1, v2, v3, v4, v5, v6, v7, v8, v9, v10] := by
    match cs, hlen with
    | [a, b, c, d, e, f, g, h, i, j, k], _ => exact ⟨a, b, c, d, e, f, g, h, i, j, k, rfl⟩
  have g0 := hf 0 f0 rfl
  rw [t0, p0, one_cell] at g0
  have g1 := hf 1 f1 rfl
  rw [t1, p1, one_cell] at g1
  have g2 := hf 2 f2 rfl
  rw [t2, p2, one_cell] at g2
  have g3 := hf 3 f3 rfl
  rw [t3, p3, one_cell] at g3
  have g4 := hf 4 f4 rfl
  rw [t4, p4, one_cell] at g4
  have g5 := hf 5 f5 rfl
  rw [t5, p5, one_cell] at g5
  have g6 := hf 6 f6 rfl
  rw [t6, p6, one_cell] at g6
  have g7 := hf 7 f7 rfl
  rw [t7, p7, one_cell] at g7
  have g8 := hf 8 f8 rfl
  rw [t8, p8, one_cell] at g8
  have g9 := hf 9 f9 rfl
  rw [t9, p9, one_cell] at g9
  have g10 := hf 10 f10 rfl
  rw [t10, p10, one_cell] at g10
  have hys : ∀ i, i < 11 → ∃ y, ys[i]? = some y := fun i hi => ⟨_, List.getElem?_eq_getElem (by rw [hyl]; exact hi)⟩
  obtain ⟨y0, e0⟩ := hys 0 (by omega)
  obtain ⟨y1, e1⟩ := hys 1 (by omega)
  obtain ⟨y2, e2⟩ := hys 2 (by omega)
  obtain ⟨y3, e3⟩ := hys 3 (by omega)
  obtain ⟨y4, e4⟩ := hys 4 (by omega)
  obtain ⟨y5, e5⟩ := hys 5 (by omega)
  obtain ⟨y6, e6⟩ := hys 6 (by omega)
  obtain ⟨y7, e7⟩ := hys 7 (by omega)
  obtain ⟨y8, e8⟩ := hys 8 (by omega)
  obtain ⟨y9, e9⟩ := hys 9 (by omega)
  obtain ⟨y10, e10⟩ := hys 10 (by omega)
  obtain ⟨i0, hi0, -, wi0⟩ := DataW.trod_int Try.underlying5 (g0.trans e0)
  obtain ⟨A1, n1, c1, l1, hi1, hA1, hnc1, hcm1, hnl1, hft1⟩ := ints_nil (g1.trans e1)
  obtain ⟨i2, hi2, -, wi2⟩ := DataW.trod_int Try.underlying3 (g2.trans e2)
  obtain ⟨A3, n3, c3, l3, hi3, hA3, hnc3, hcm3, hnl3, hft3⟩ := ints_nil (g3.trans e3)
  obtain ⟨i4, hi4, -, wi4⟩ := DataW.trod_int Try.underlying23 (g4.trans e4)
  obtain ⟨i5, hi5, -⟩ := DataW.trod_bool Try.underlying4 (g5.trans e5)
  obtain ⟨i6, hi6, -, wi6⟩ := DataW.trod_string Try.underlying9 (g6.trans e6)
  obtain ⟨i7, hi7, -, wi7⟩ := DataW.trod_string Try.underlying9 (g7.trans e7)
  obtain ⟨i8, hi8, -, wi8⟩ := DataW.trod_string Try.underlying9 (g8.trans e8)
  obtain ⟨i9, hi9, -⟩ := DataW.trod_bool Try.underlying4 (g9.trans e9)
  obtain ⟨A10, n10, c10, l10, hi10, hA10, hnc10, hcm10, hnl10⟩ := P5.pieces_in (g10.trans e10)
  have hb0 : 0 ≤ i0 ∧ i0 ≤ 255 := by simpa [Lit.wf, IntKind.min, IntKind.max, IntKind.signed, IntKind.bits] using wi0
  have hb2 : -9223372036854775808 ≤ i2 ∧ i2 ≤ 9223372036854775807 := by simpa [Lit.wf, IntKind.min, IntKind.max, IntKind.signed, IntKind.bits] using wi2
  have hb4 : 0 ≤ i4 ∧ i4 ≤ 18446744073709551615 := by simpa [Lit.wf, IntKind.min, IntKind.max, IntKind.signed, IntKind.bits] using wi4
  obtain ⟨k0, rfl⟩ : ∃ k : Nat, i0 = (k : Int) := ⟨i0.toNat, by omega⟩
  obtain ⟨k4, rfl⟩ : ∃ k : Nat, i4 = (k : Int) := ⟨i4.toNat, by omega⟩
  simp at hi0 hi1 hi2 hi3 hi4 hi5 hi6 hi7 hi8 hi9 hi10
  subst hi0 hi1 hi2 hi3 hi4 hi5 hi6 hi7 hi8 hi9 hi10
  refine ⟨⟨k0, l1, i2, l3, k4, i5, i6.data.toList, i7.data.toList, i8.data.toList, i9, l10⟩, ⟨A1, n1, c1, A3, n3, c3, A10, n10, c10⟩, rfl, ?_⟩
  exact ⟨by show k0 < 256; omega, hA1, hnc1, hcm1, hnl1, hb2, hA3, hnc3, hcm3, hnl3, by show k4 < _; omega, by show i6.data.toList.length ≤ _; rw [Array.length_toList]; exact wi6, by show i7.data.toList.length ≤ _; rw [Array.length_toList]; exact wi7, by show i8.data.toList.length ≤ _; rw [Array.length_toList]; exact wi8, hA10, hnc10, hcm10, hnl10, hft1, hft3⟩
/-- a row of operations -/
def OpsIn (w : World) (A : Option Addr) (n : Nat) (l : List (Ov × OS)) : Prop :=
  l.length = n ∧ ∀ q x, l[q]? = some x → OpRaw w x.1 x.2 ∧ ∃ ad, A = some ad ∧ ad.block < w.heap.size ∧ ∀ j v, (opCells x.1 x.2)[j]? = some v → w.cell? ((ad.add (q * 11)).add j) = some v
theorem ops_in {fuel : Nat} {v : Value} {x : DataW H × List MemPlace} (h : DataW.trod enc Try.prog W b0 (fun _ => true) true fuel 44 [v] = some x) :
    ∃ (A : Option Addr) (n c : Nat) (l : List (Ov × OS)), v = .slice A n c ∧ OpsIn W A n l ∧ n ≤ c ∧ c ≤ maxLen ∧ (A = none → c = 0) := by
  rcases DataW.trod_slice Try.underlying44 h with ⟨hcs, -⟩ | ⟨a, len, cap, elems, rest, n, -, hcs, -, -, hl, hm, hel, hi, -⟩
  · simp at hcs
    exact ⟨none, 0, 0, [], hcs, ⟨rfl, fun q x h => by simp at h⟩, Nat.le_refl _, Nat.zero_le _, fun _ => rfl⟩
  · simp at hcs
    rw [op_size] at hi
    obtain ⟨xs, hxl, hx⟩ := list_of (R := fun i (y : Ov × OS) => OpRaw W y.1 y.2 ∧ ∀ j v, (opCells y.1 y.2)[j]? = some v → W.cell? ((a.add (i * 11)).add j) = some v) len fun i hil => by
      have key := hi i hil
      rw [List.getElem?_eq_getElem (by omega)] at key
      obtain ⟨cs', h1, h2⟩ := Option.bind_eq_some_iff.1 key
      obtain ⟨o, s, rfl, ho⟩ := op_in h2
      obtain ⟨-, hcl, hat⟩ := World.cells?_some h1
      refine ⟨(o, s), ho, fun j v hj => ?_⟩
      have hjl : j < 11 := (Array.getElem?_eq_some_iff.1 hj).1
      have h3 := hat j hjl
      rw [h3]
      have e : ((opCells o s).toList)[j]? = some v := by rw [Array.getElem?_toList]; exact hj
      rw [← e]
    refine ⟨some a, len, cap, xs, hcs, ⟨hxl, fun q y hq => ⟨(hx q y hq).1, a, rfl, ?_, (hx q y hq).2⟩⟩, hl, hm, fun e => by cases e⟩
    have hb := (hx q y hq).2 0 _ rfl
    have h1 := add_block_lt hb
    rwa [block_add] at h1
end
end Go.Proofs.Ytoeblaecldhcaaa.Top
/- Has an operation little? -/
namespace Go.Proofs.Ytoeblaecldhcaaa.Top
open Go.RowKit
set_option maxRecDepth 20000
set_option linter.unusedVariables false

def lightB (o : Ov) (top : Nat) : Bool := decide (o.path.length ≤ top ∧ o.to_.length ≤ top ∧ o.label.length ≤ top ∧ o.key.length ≤ top ∧ o.value.length ≤ top ∧ o.pieces.length ≤ top ∧ P5.putsI o.pieces ≤ top)
theorem puts_upto : ∀ (l : List P5.IP) (q : Nat), P5.putsI (l.take q) ≤ P5.putsI l
  | [], q => by simp [P5.putsI]
  | x :: r, 0 => by simp [P5.putsI]
  | x :: r, q + 1 => by rw [List.take_succ_cons, P5.putsI, P5.putsI]; have := puts_upto r q; omega
set_option maxHeartbeats 4000000 in
theorem light_any (w : World) (o : Ov) (s : OS) (h : OpRaw w o s) (top : Nat) (ht : top ≤ 1000) : Calls Try.prog 10 #[.agg (opCells o s), .int .i64 (top : Int)] w fun e w' => e = .returned (.bool (lightB o top)) ∧ Below w.heap.size w w' := by
  obtain ⟨W1, hW1⟩ : ∃ W1, W1 = w.alloc (.cells (opCells o s) 26) := ⟨_, rfl⟩
  have z1 : W1.heap[w.heap.size]? = some (.cells (opCells o s) 26 (0, 0)) := by rw [hW1]; exact heap_alloc_new w _
  have hb1 := Lib.hid (show Below w.heap.size w W1 by rw [hW1]; exact (Below.refl _ _).alloc (Nat.le_refl _) _)
  obtain ⟨o0, o1, o2, o3, o4, o5, o6, o7, o8, o9, o10⟩ := op_cells z1
  have e1 := Lib.hid h.path.1
  have e2 := Lib.hid h.to_.1
  have e6 := Lib.hid h.pieces.1
  have hp := Lib.hid (h.pieces.below hb1.out)
  have b1 := Nat.le_trans h.pnc h.pcm
  have b2 := Nat.le_trans h.tnc h.tcm
  have b3 := h.label
  have b4 := h.key
  have b5 := h.value
  have b6 := Nat.le_trans h.qnc h.qcm
  clear h z1
  unfold maxLen at b1 b2 b3 b4 b5 b6
  unfold opCells at hW1
  unfold opCells
  by_cases c0 : top < s.pn
  · have hv := Lib.hid (show lightB o top = false from decide_eq_false fun hh => by have := hh.2; have := hh.2.2; have := hh.2.2.2; have := hh.2.2.2.2; have := hh.2.2.2.2.2; have := hh.2.2.2.2.2.2; have := e1.out; have := e2.out; have := e6.out; omega)
    have d0 : (top : Int) < (s.pn : Int) := by omega
    rw [hW1] at o1 o3 o6 o7 o8 o10
    clear hp
    go_enter Try.func10, Try.ntmps10
    go_wp2_with fail
    go_ret
    exact ⟨by rw [hv.out] <;> rfl, by rw [← hW1]; exact hb1.out⟩
  · have d0 : ¬ (top : Int) < (s.pn : Int) := by omega
    by_cases c1 : top < s.tn
    · have hv := Lib.hid (show lightB o top = false from decide_eq_false fun hh => by have := hh.2; have := hh.2.2; have := hh.2.2.2; have := hh.2.2.2.2; have := hh.2.2.2.2.2; have := hh.2.2.2.2.2.2; have := e1.out; have := e2.out; have := e6.out; omega)
      have d1 : (top : Int) < (s.tn : Int) := by omega
      rw [hW1] at o1 o3 o6 o7 o8 o10
      clear hp
      go_enter Try.func10, Try.ntmps10
      go_wp2_with fail
      go_ret
      exact ⟨by rw [hv.out] <;> rfl, by rw [← hW1]; exact hb1.out⟩
    · have d1 : ¬ (top : Int) < (s.tn : Int) := by omega
      by_cases c2 : top < o.label.length
      · have hv := Lib.hid (show lightB o top = false from decide_eq_false fun hh => by have := hh.2; have := hh.2.2; have := hh.2.2.2; have := hh.2.2.2.2; have := hh.2.2.2.2.2; have := hh.2.2.2.2.2.2; have := e1.out; have := e2.out; have := e6.out; omega)
        have d2 : (top : Int) < (o.label.length : Int) := by omega
        rw [hW1] at o1 o3 o6 o7 o8 o10
        clear hp
        go_enter Try.func10, Try.ntmps10
        go_wp2_with fail
        go_ret
        exact ⟨by rw [hv.out] <;> rfl, by rw [← hW1]; exact hb1.out⟩
      · have d2 : ¬ (top : Int) < (o.label.length : Int) := by omega
        by_cases c3 : top < o.key.length
        · have hv := Lib.hid (show lightB o top = false from decide_eq_false fun hh => by have := hh.2; have := hh.2.2; have := hh.2.2.2; have := hh.2.2.2.2; have := hh.2.2.2.2.2; have := hh.2.2.2.2.2.2; have := e1.out; have := e2.out; have := e6.out; omega)
          have d3 : (top : Int) < (o.key.length : Int) := by omega
          rw [hW1] at o1 o3 o6 o7 o8 o10
          clear hp
          go_enter Try.func10, Try.ntmps10
          go_wp2_with fail
          go_ret
          exact ⟨by rw [hv.out] <;> rfl, by rw [← hW1]; exact hb1.out⟩
        · have d3 : ¬ (top : Int) < (o.key.length : Int) := by omega
          by_cases c4 : top < o.value.length
          · have hv := Lib.hid (show lightB o top = false from decide_eq_false fun hh => by have := hh.2; have := hh.2.2; have := hh.2.2.2; have := hh.2.2.2.2; have := hh.2.2.2.2.2; have := hh.2.2.2.2.2.2; have := e1.out; have := e2.out; have := e6.out; omega)
            have d4 : (top : Int) < (o.value.length : Int) := by omega
            rw [hW1] at o1 o3 o6 o7 o8 o10
            clear hp
            go_enter Try.func10, Try.ntmps10
            go_wp2_with fail
            go_ret
            exact ⟨by rw [hv.out] <;> rfl, by rw [← hW1]; exact hb1.out⟩
          · have d4 : ¬ (top : Int) < (o.value.length : Int) := by omega
            by_cases c5 : top < s.qn
            · have hv := Lib.hid (show lightB o top = false from decide_eq_false fun hh => by have := hh.2; have := hh.2.2; have := hh.2.2.2; have := hh.2.2.2.2; have := hh.2.2.2.2.2; have := hh.2.2.2.2.2.2; have := e1.out; have := e2.out; have := e6.out; omega)
              have d5 : (top : Int) < (s.qn : Int) := by omega
              rw [hW1] at o1 o3 o6 o7 o8 o10
              clear hp
              go_enter Try.func10, Try.ntmps10
              go_wp2_with fail
              go_ret
              exact ⟨by rw [hv.out] <;> rfl, by rw [← hW1]; exact hb1.out⟩
            · have d5 : ¬ (top : Int) < (s.qn : Int) := by omega
              have hle := Lib.hid (puts_upto o.pieces)
              have w1 := Lib.hid o10
              rw [hW1] at o1 o3 o6 o7 o8 o10
              clear o0 o2 o4 o5 o9
              go_enter Try.func10, Try.ntmps10
              go_wp2_with fail
              rw [← hW1]
              clear hW1
              go_loopw [5, 6] (fun v5 v6 wr => ∃ q : Nat, q ≤ s.qn ∧ v6 = .int .i64 (q : Int) ∧ v5 = .int .i64 ((P5.putsI (o.pieces.take q) : Nat) : Int) ∧ P5.putsI (o.pieces.take q) ≤ top ∧ wr = W1) (fun _ v6 _ => s.qn - (intOf v6).toNat)
              case atStart => exact ⟨0, Nat.zero_le _, rfl, rfl, Nat.zero_le _, rfl⟩
              case round =>
                obtain ⟨q, hq, rfl, rfl, hz, rfl⟩ := hrel
                obtain ⟨z, hze⟩ : ∃ z, z = P5.putsI (o.pieces.take q) := ⟨_, rfl⟩
                rw [← hze] at hz ⊢
                have x10 := w1.out
                clear o1 o3 o6 o7 o8 o10
                by_cases hqn : q < s.qn
                · have hqI : (q : Int) < (s.qn : Int) := by omega
                  obtain ⟨ad, x, hA, hx, -, hpc⟩ := hp.out.at_ hqn
                  have hst := Lib.hid (P5.putsI_take o.pieces q x hx)
                  have hl1 := hle.out (q + 1)
                  obtain ⟨kp, dr, pu⟩ := x
                  obtain ⟨-, -, -, -, hpl, k0, k1, k2⟩ := hpc
                  dsimp only at k0 k1 k2 hst hpl
                  rw [← hze] at hst
                  rw [hA] at x10
                  unfold maxLen at hpl
                  have hze' := Lib.hid hze
                  have hA' := Lib.hid hA
                  clear hze hx hA k0 k1
                  by_cases hg : pu.length + z ≤ top
                  · have g1 : ¬ (top : Int) - (z : Int) < (pu.length : Int) := by omega
                    go_wp2_with fail
                    go_roundw
                    case rel => exact ⟨q + 1, by omega, by go_num, by rw [hst.out]; go_num, by rw [hst.out]; omega, trivial⟩
                    case measure => simp [intOf]; omega
                  · have g1 : (top : Int) - (z : Int) < (pu.length : Int) := by omega
                    have hv := Lib.hid (show lightB o top = false from decide_eq_false fun hh => by have h7 := hh.2.2.2.2.2.2; rw [hst.out] at hl1; omega)
                    clear hl1
                    go_wp2_with fail
                    go_ret
                    exact ⟨by rw [hv.out] <;> rfl, hb1.out⟩
                · have hqI : ¬ (q : Int) < (s.qn : Int) := by omega
                  have hv := Lib.hid (show lightB o top = true from decide_eq_true ⟨by have := e1.out; omega, by have := e2.out; omega, by omega, by omega, by omega, by have := e6.out; omega, by rw [hze, List.take_of_length_le (by have := e6.out; omega)] at hz; exact hz⟩)
                  clear hze
                  go_wp2_with fail
                  go_ret
                  exact ⟨by rw [hv.out] <;> rfl, hb1.out⟩
end Go.Proofs.Ytoeblaecldhcaaa.Top
/- Is an operation formed: the document's. -/
namespace Go.Proofs.Ytoeblaecldhcaaa
open Go.RowKit
set_option maxRecDepth 20000
set_option linter.unusedVariables false

set_option maxHeartbeats 4000000 in
theorem rformed_any (w : World) (o : Ov) (s : OS) (h : OpIn w o s) : Calls Try.prog 12 #[.agg (opCells o s)] w fun e w' => e = .returned (.bool (formedV o)) ∧ Below w.heap.size w w' := by
  have hal := Lib.hid (fun o => (Below.refl w.heap.size w).alloc (Nat.le_refl _) o)
  have hmay := Lib.hid (fun W (hb : Below w.heap.size w W) => P4.refMay_any W s.pA s.pn s.pc o.path (h.below hb).path (Nat.le_trans h.pnc h.pcm))
  have hmay2 := Lib.hid (fun W (hb : Below w.heap.size w W) => P4.refMay_any W s.tA s.tn s.tc o.to_ (h.below hb).to_ (Nat.le_trans h.tnc h.tcm))
  have hrig := Lib.hid (fun W (hb : Below w.heap.size w W) => P5.rright_any W s.qA s.qn s.qc o.pieces (h.below hb).pieces (Nat.le_trans h.qnc h.qcm))
  have hkey := Lib.hid (fun W => rkey_any o.key W h.key)
  have hlm := h.label
  have hvm := h.value
  unfold maxLen at hlm hvm
  have hat := h.at_
  clear h
  cases hm : P4.mayV o.path with
  | false =>
    have hm' := Lib.hid hm
    have hv := Lib.hid (show formedV o = false by unfold formedV; rw [hm]; rfl)
    clear hm
    unfold opCells
    go_enter Try.func12, Try.ntmps12
    go_wp2_with (first
      | (go_at_call 44; go_at_call_of 44 s.pA; refine (hmay.out _ (hal.out _)).mono ?_; rintro e w7 ⟨rfl, rfl⟩; rw [hm'.out]))
    go_ret
    exact ⟨by rw [hv.out] <;> first | rfl | simp [hlI] | simp, (hal.out _)⟩
  | true =>
    have hm' := Lib.hid hm
    by_cases k1 : o.kind = 1
    · have kI := Lib.hid k1
      have b1 : ((o.kind : Int) == 1) = true := by simp; omega
      by_cases hl : o.label.length ≤ 64
      · have hlI : (o.label.length : Int) ≤ 64 := by omega
        by_cases g0 : 0 ≤ o.at_
        · by_cases g1 : o.at_ ≤ 1048576
          · have hgp := Lib.hid (show gapB o.at_ = true from decide_eq_true ⟨g0, g1⟩)
            have hv := Lib.hid (show formedV o = (gapB o.at_ && true) by unfold formedV lblB; rw [hm, if_pos k1, decide_eq_true hl]; rfl)
            clear k1 hm hl
            unfold opCells
            go_enter Try.func12, Try.ntmps12
            go_wp2_with (first
              | (go_at_call 44; go_at_call_of 44 s.pA; refine (hmay.out _ (hal.out _)).mono ?_; rintro e w7 ⟨rfl, rfl⟩; rw [hm'.out]))
            go_ret
            exact ⟨by rw [hv.out, hgp.out] <;> first | rfl | simp [hlI] | simp, (hal.out _)⟩
          · have hgp := Lib.hid (show gapB o.at_ = false from decide_eq_false fun h => g1 h.2)
            have hv := Lib.hid (show formedV o = (gapB o.at_ && true) by unfold formedV lblB; rw [hm, if_pos k1, decide_eq_true hl]; rfl)
            clear k1 hm hl
            unfold opCells
            go_enter Try.func12, Try.ntmps12
            go_wp2_with (first
              | (go_at_call 44; go_at_call_of 44 s.pA; refine (hmay.out _ (hal.out _)).mono ?_; rintro e w7 ⟨rfl, rfl⟩; rw [hm'.out]))
            go_ret
            exact ⟨by rw [hv.out, hgp.out] <;> first | rfl | simp [hlI] | simp, (hal.out _)⟩
        · have hgp := Lib.hid (show gapB o.at_ = false from decide_eq_false fun h => g0 h.1)
          have hv := Lib.hid (show formedV o = (gapB o.at_ && true) by unfold formedV lblB; rw [hm, if_pos k1, decide_eq_true hl]; rfl)
          clear k1 hm hl
          unfold opCells
          go_enter Try.func12, Try.ntmps12
          go_wp2_with (first
            | (go_at_call 44; go_at_call_of 44 s.pA; refine (hmay.out _ (hal.out _)).mono ?_; rintro e w7 ⟨rfl, rfl⟩; rw [hm'.out]))
          go_ret
          exact ⟨by rw [hv.out, hgp.out] <;> first | rfl | simp [hlI] | simp, (hal.out _)⟩
      · have hlI : ¬ (o.label.length : Int) ≤ 64 := by omega
        by_cases g0 : 0 ≤ o.at_
        · by_cases g1 : o.at_ ≤ 1048576
          · have hgp := Lib.hid (show gapB o.at_ = true from decide_eq_true ⟨g0, g1⟩)
            have hv := Lib.hid (show formedV o = (gapB o.at_ && false) by unfold formedV lblB; rw [hm, if_pos k1, decide_eq_false hl]; rfl)
            clear k1 hm hl
            unfold opCells
            go_enter Try.func12, Try.ntmps12
            go_wp2_with (first
              | (go_at_call 44; go_at_call_of 44 s.pA; refine (hmay.out _ (hal.out _)).mono ?_; rintro e w7 ⟨rfl, rfl⟩; rw [hm'.out]))
            go_ret
            exact ⟨by rw [hv.out, hgp.out] <;> first | rfl | simp [hlI] | simp, (hal.out _)⟩
          · have hgp := Lib.hid (show gapB o.at_ = false from decide_eq_false fun h => g1 h.2)
            have hv := Lib.hid (show formedV o = (gapB o.at_ && false) by unfold formedV lblB; rw [hm, if_pos k1, decide_eq_false hl]; rfl)
            clear k1 hm hl
            unfold opCells
            go_enter Try.func12, Try.ntmps12
            go_wp2_with (first
              | (go_at_call 44; go_at_call_of 44 s.pA; refine (hmay.out _ (hal.out _)).mono ?_; rintro e w7 ⟨rfl, rfl⟩; rw [hm'.out]))
            go_ret
            exact ⟨by rw [hv.out, hgp.out] <;> first | rfl | simp [hlI] | simp, (hal.out _)⟩
        · have hgp := Lib.hid (show gapB o.at_ = false from decide_eq_false fun h => g0 h.1)
          have hv := Lib.hid (show formedV o = (gapB o.at_ && false) by unfold formedV lblB; rw [hm, if_pos k1, decide_eq_false hl]; rfl)
          clear k1 hm hl
          unfold opCells
          go_enter Try.func12, Try.ntmps12
          go_wp2_with (first
            | (go_at_call 44; go_at_call_of 44 s.pA; refine (hmay.out _ (hal.out _)).mono ?_; rintro e w7 ⟨rfl, rfl⟩; rw [hm'.out]))
          go_ret
          exact ⟨by rw [hv.out, hgp.out] <;> first | rfl | simp [hlI] | simp, (hal.out _)⟩
    · skip
      by_cases k2 : o.kind = 2
      · have kI := Lib.hid k2
        have b1 : ((o.kind : Int) == 1) = false := by simp; omega
        have b2 : ((o.kind : Int) == 2) = true := by simp; omega
        by_cases g0 : 0 ≤ o.at_
        · by_cases g1 : o.at_ ≤ 1048576
          · have hgp := Lib.hid (show gapB o.at_ = true from decide_eq_true ⟨g0, g1⟩)
            have hv := Lib.hid (show formedV o = true by unfold formedV; rw [hm, if_neg k1, if_pos k2]; rfl)
            clear k1 k2 hm
            unfold opCells
            go_enter Try.func12, Try.ntmps12
            go_wp2_with (first
              | (go_at_call 44; go_at_call_of 44 s.pA; refine (hmay.out _ (hal.out _)).mono ?_; rintro e w7 ⟨rfl, rfl⟩; rw [hm'.out]))
            go_ret
            exact ⟨by rw [hv.out] <;> first | rfl | simp [hlI] | simp, (hal.out _)⟩
          · have hgp := Lib.hid (show gapB o.at_ = false from decide_eq_false fun h => g1 h.2)
            have hv := Lib.hid (show formedV o = true by unfold formedV; rw [hm, if_neg k1, if_pos k2]; rfl)
            clear k1 k2 hm
            unfold opCells
            go_enter Try.func12, Try.ntmps12
            go_wp2_with (first
              | (go_at_call 44; go_at_call_of 44 s.pA; refine (hmay.out _ (hal.out _)).mono ?_; rintro e w7 ⟨rfl, rfl⟩; rw [hm'.out]))
            go_ret
            exact ⟨by rw [hv.out] <;> first | rfl | simp [hlI] | simp, (hal.out _)⟩
        · have hgp := Lib.hid (show gapB o.at_ = false from decide_eq_false fun h => g0 h.1)
          have hv := Lib.hid (show formedV o = true by unfold formedV; rw [hm, if_neg k1, if_pos k2]; rfl)
          clear k1 k2 hm
          unfold opCells
          go_enter Try.func12, Try.ntmps12
          go_wp2_with (first
            | (go_at_call 44; go_at_call_of 44 s.pA; refine (hmay.out _ (hal.out _)).mono ?_; rintro e w7 ⟨rfl, rfl⟩; rw [hm'.out]))
          go_ret
          exact ⟨by rw [hv.out] <;> first | rfl | simp [hlI] | simp, (hal.out _)⟩
      · skip
        by_cases k3 : o.kind = 3
        · have kI := Lib.hid k3
          have b1 : ((o.kind : Int) == 1) = false := by simp; omega
          have b2 : ((o.kind : Int) == 2) = false := by simp; omega
          have b3 : ((o.kind : Int) == 3) = true := by simp; omega
          by_cases g0 : 0 ≤ o.at_
          · by_cases g1 : o.at_ ≤ 1048576
            · have hgp := Lib.hid (show gapB o.at_ = true from decide_eq_true ⟨g0, g1⟩)
              have hv := Lib.hid (show formedV o = (gapB o.at_ && P4.mayV o.to_) by unfold formedV; rw [hm, if_neg k1, if_neg k2, if_pos k3]; rfl)
              clear k1 k2 k3 hm
              unfold opCells
              go_enter Try.func12, Try.ntmps12
              go_wp2_with (first
                | (go_at_call 44; go_at_call_of 44 s.pA; refine (hmay.out _ (hal.out _)).mono ?_; rintro e w7 ⟨rfl, rfl⟩; rw [hm'.out])
                | (go_at_call 44; refine (hmay2.out _ (hal.out _)).mono ?_; rintro e w7 ⟨rfl, rfl⟩))
              go_ret
              exact ⟨by rw [hv.out, hgp.out]; first | rfl | simp, (hal.out _)⟩
            · have hgp := Lib.hid (show gapB o.at_ = false from decide_eq_false fun h => g1 h.2)
              have hv := Lib.hid (show formedV o = (gapB o.at_ && P4.mayV o.to_) by unfold formedV; rw [hm, if_neg k1, if_neg k2, if_pos k3]; rfl)
              clear k1 k2 k3 hm
              unfold opCells
              go_enter Try.func12, Try.ntmps12
              go_wp2_with (first
                | (go_at_call 44; go_at_call_of 44 s.pA; refine (hmay.out _ (hal.out _)).mono ?_; rintro e w7 ⟨rfl, rfl⟩; rw [hm'.out])
                | (go_at_call 44; refine (hmay2.out _ (hal.out _)).mono ?_; rintro e w7 ⟨rfl, rfl⟩))
              go_ret
              exact ⟨by rw [hv.out, hgp.out]; first | rfl | simp, (hal.out _)⟩
          · have hgp := Lib.hid (show gapB o.at_ = false from decide_eq_false fun h => g0 h.1)
            have hv := Lib.hid (show formedV o = (gapB o.at_ && P4.mayV o.to_) by unfold formedV; rw [hm, if_neg k1, if_neg k2, if_pos k3]; rfl)
            clear k1 k2 k3 hm
            unfold opCells
            go_enter Try.func12, Try.ntmps12
            go_wp2_with (first
              | (go_at_call 44; go_at_call_of 44 s.pA; refine (hmay.out _ (hal.out _)).mono ?_; rintro e w7 ⟨rfl, rfl⟩; rw [hm'.out])
              | (go_at_call 44; refine (hmay2.out _ (hal.out _)).mono ?_; rintro e w7 ⟨rfl, rfl⟩))
            go_ret
            exact ⟨by rw [hv.out, hgp.out]; first | rfl | simp, (hal.out _)⟩
        · skip
          by_cases k4 : o.kind = 4
          · have kI := Lib.hid k4
            have b1 : ((o.kind : Int) == 1) = false := by simp; omega
            have b2 : ((o.kind : Int) == 2) = false := by simp; omega
            have b3 : ((o.kind : Int) == 3) = false := by simp; omega
            have b4 : ((o.kind : Int) == 4) = true := by simp; omega
            by_cases g0 : 0 ≤ o.at_
            · by_cases g1 : o.at_ ≤ 1048576
              · have hgp := Lib.hid (show gapB o.at_ = true from decide_eq_true ⟨g0, g1⟩)
                cases hg : keyB o.key with
                | false =>
                  have hv := Lib.hid (show formedV o = false by unfold formedV; rw [hm, if_neg k1, if_neg k2, if_neg k3, if_pos k4, hg]; rfl)
                  have hg' := Lib.hid hg
                  clear k1 k2 k3 k4 hm hg
                  unfold opCells
                  go_enter Try.func12, Try.ntmps12
                  go_wp2_with (first
                    | (go_at_call 44; go_at_call_of 44 s.pA; refine (hmay.out _ (hal.out _)).mono ?_; rintro e w7 ⟨rfl, rfl⟩; rw [hm'.out])
                    | (go_at_call 45; refine (hkey.out _).mono ?_; rintro e w7 ⟨rfl, rfl⟩; rw [hg'.out]))
                  go_ret
                  exact ⟨by rw [hv.out] <;> first | rfl | simp [hlI] | simp, (hal.out _)⟩
                | true =>
                  have hg' := Lib.hid hg
                  cases hgo : o.gone with
                  | true =>
                    have hv := Lib.hid (show formedV o = true by unfold formedV; rw [hm, if_neg k1, if_neg k2, if_neg k3, if_pos k4, hg, hgo]; rfl)
                    clear k1 k2 k3 k4 hm hg
                    unfold opCells
                    go_enter Try.func12, Try.ntmps12
                    go_wp2_with (first
                      | (go_at_call 44; go_at_call_of 44 s.pA; refine (hmay.out _ (hal.out _)).mono ?_; rintro e w7 ⟨rfl, rfl⟩; rw [hm'.out])
                      | (go_at_call 45; refine (hkey.out _).mono ?_; rintro e w7 ⟨rfl, rfl⟩; rw [hg'.out]))
                    go_ret
                    exact ⟨by rw [hv.out] <;> first | rfl | simp [hlI] | simp, (hal.out _)⟩
                  | false =>
                    by_cases hl : o.value.length ≤ 256
                    · have hlI : (o.value.length : Int) ≤ 256 := by omega
                      have hv := Lib.hid (show formedV o = true by unfold formedV valB; rw [hm, if_neg k1, if_neg k2, if_neg k3, if_pos k4, hg, hgo, decide_eq_true hl]; rfl)
                      clear k1 k2 k3 k4 hm hg hl
                      unfold opCells
                      go_enter Try.func12, Try.ntmps12
                      go_wp2_with (first
                        | (go_at_call 44; go_at_call_of 44 s.pA; refine (hmay.out _ (hal.out _)).mono ?_; rintro e w7 ⟨rfl, rfl⟩; rw [hm'.out])
                        | (go_at_call 45; refine (hkey.out _).mono ?_; rintro e w7 ⟨rfl, rfl⟩; rw [hg'.out]))
                      go_ret
                      exact ⟨by rw [hv.out] <;> first | rfl | simp [hlI] | simp, (hal.out _)⟩
                    · have hlI : ¬ (o.value.length : Int) ≤ 256 := by omega
                      have hv := Lib.hid (show formedV o = false by unfold formedV valB; rw [hm, if_neg k1, if_neg k2, if_neg k3, if_pos k4, hg, hgo, decide_eq_false hl]; rfl)
                      clear k1 k2 k3 k4 hm hg hl
                      unfold opCells
                      go_enter Try.func12, Try.ntmps12
                      go_wp2_with (first
                        | (go_at_call 44; go_at_call_of 44 s.pA; refine (hmay.out _ (hal.out _)).mono ?_; rintro e w7 ⟨rfl, rfl⟩; rw [hm'.out])
                        | (go_at_call 45; refine (hkey.out _).mono ?_; rintro e w7 ⟨rfl, rfl⟩; rw [hg'.out]))
                      go_ret
                      exact ⟨by rw [hv.out] <;> first | rfl | simp [hlI] | simp, (hal.out _)⟩
              · have hgp := Lib.hid (show gapB o.at_ = false from decide_eq_false fun h => g1 h.2)
                cases hg : keyB o.key with
                | false =>
                  have hv := Lib.hid (show formedV o = false by unfold formedV; rw [hm, if_neg k1, if_neg k2, if_neg k3, if_pos k4, hg]; rfl)
                  have hg' := Lib.hid hg
                  clear k1 k2 k3 k4 hm hg
                  unfold opCells
                  go_enter Try.func12, Try.ntmps12
                  go_wp2_with (first
                    | (go_at_call 44; go_at_call_of 44 s.pA; refine (hmay.out _ (hal.out _)).mono ?_; rintro e w7 ⟨rfl, rfl⟩; rw [hm'.out])
                    | (go_at_call 45; refine (hkey.out _).mono ?_; rintro e w7 ⟨rfl, rfl⟩; rw [hg'.out]))
                  go_ret
                  exact ⟨by rw [hv.out] <;> first | rfl | simp [hlI] | simp, (hal.out _)⟩
                | true =>
                  have hg' := Lib.hid hg
                  cases hgo : o.gone with
                  | true =>
                    have hv := Lib.hid (show formedV o = true by unfold formedV; rw [hm, if_neg k1, if_neg k2, if_neg k3, if_pos k4, hg, hgo]; rfl)
                    clear k1 k2 k3 k4 hm hg
                    unfold opCells
                    go_enter Try.func12, Try.ntmps12
                    go_wp2_with (first
                      | (go_at_call 44; go_at_call_of 44 s.pA; refine (hmay.out _ (hal.out _)).mono ?_; rintro e w7 ⟨rfl, rfl⟩; rw [hm'.out])
                      | (go_at_call 45; refine (hkey.out _).mono ?_; rintro e w7 ⟨rfl, rfl⟩; rw [hg'.out]))
                    go_ret
                    exact ⟨by rw [hv.out] <;> first | rfl | simp [hlI] | simp, (hal.out _)⟩
                  | false =>
                    by_cases hl : o.value.length ≤ 256
                    · have hlI : (o.value.length : Int) ≤ 256 := by omega
                      have hv := Lib.hid (show formedV o = true by unfold formedV valB; rw [hm, if_neg k1, if_neg k2, if_neg k3, if_pos k4, hg, hgo, decide_eq_true hl]; rfl)
                      clear k1 k2 k3 k4 hm hg hl
                      unfold opCells
                      go_enter Try.func12, Try.ntmps12
                      go_wp2_with (first
                        | (go_at_call 44; go_at_call_of 44 s.pA; refine (hmay.out _ (hal.out _)).mono ?_; rintro e w7 ⟨rfl, rfl⟩; rw [hm'.out])
                        | (go_at_call 45; refine (hkey.out _).mono ?_; rintro e w7 ⟨rfl, rfl⟩; rw [hg'.out]))
                      go_ret
                      exact ⟨by rw [hv.out] <;> first | rfl | simp [hlI] | simp, (hal.out _)⟩
                    · have hlI : ¬ (o.value.length : Int) ≤ 256 := by omega
                      have hv := Lib.hid (show formedV o = false by unfold formedV valB; rw [hm, if_neg k1, if_neg k2, if_neg k3, if_pos k4, hg, hgo, decide_eq_false hl]; rfl)
                      clear k1 k2 k3 k4 hm hg hl
                      unfold opCells
                      go_enter Try.func12, Try.ntmps12
                      go_wp2_with (first
                        | (go_at_call 44; go_at_call_of 44 s.pA; refine (hmay.out _ (hal.out _)).mono ?_; rintro e w7 ⟨rfl, rfl⟩; rw [hm'.out])
                        | (go_at_call 45; refine (hkey.out _).mono ?_; rintro e w7 ⟨rfl, rfl⟩; rw [hg'.out]))
                      go_ret
                      exact ⟨by rw [hv.out] <;> first | rfl | simp [hlI] | simp, (hal.out _)⟩
            · have hgp := Lib.hid (show gapB o.at_ = false from decide_eq_false fun h => g0 h.1)
              cases hg : keyB o.key with
              | false =>
                have hv := Lib.hid (show formedV o = false by unfold formedV; rw [hm, if_neg k1, if_neg k2, if_neg k3, if_pos k4, hg]; rfl)
                have hg' := Lib.hid hg
                clear k1 k2 k3 k4 hm hg
                unfold opCells
                go_enter Try.func12, Try.ntmps12
                go_wp2_with (first
                  | (go_at_call 44; go_at_call_of 44 s.pA; refine (hmay.out _ (hal.out _)).mono ?_; rintro e w7 ⟨rfl, rfl⟩; rw [hm'.out])
                  | (go_at_call 45; refine (hkey.out _).mono ?_; rintro e w7 ⟨rfl, rfl⟩; rw [hg'.out]))
                go_ret
                exact ⟨by rw [hv.out] <;> first | rfl | simp [hlI] | simp, (hal.out _)⟩
              | true =>
                have hg' := Lib.hid hg
                cases hgo : o.gone with
                | true =>
                  have hv := Lib.hid (show formedV o = true by unfold formedV; rw [hm, if_neg k1, if_neg k2, if_neg k3, if_pos k4, hg, hgo]; rfl)
                  clear k1 k2 k3 k4 hm hg
                  unfold opCells
                  go_enter Try.func12, Try.ntmps12
                  go_wp2_with (first
                    | (go_at_call 44; go_at_call_of 44 s.pA; refine (hmay.out _ (hal.out _)).mono ?_; rintro e w7 ⟨rfl, rfl⟩; rw [hm'.out])
                    | (go_at_call 45; refine (hkey.out _).mono ?_; rintro e w7 ⟨rfl, rfl⟩; rw [hg'.out]))
                  go_ret
                  exact ⟨by rw [hv.out] <;> first | rfl | simp [hlI] | simp, (hal.out _)⟩
                | false =>
                  by_cases hl : o.value.length ≤ 256
                  · have hlI : (o.value.length : Int) ≤ 256 := by omega
                    have hv := Lib.hid (show formedV o = true by unfold formedV valB; rw [hm, if_neg k1, if_neg k2, if_neg k3, if_pos k4, hg, hgo, decide_eq_true hl]; rfl)
                    clear k1 k2 k3 k4 hm hg hl
                    unfold opCells
                    go_enter Try.func12, Try.ntmps12
                    go_wp2_with (first
                      | (go_at_call 44; go_at_call_of 44 s.pA; refine (hmay.out _ (hal.out _)).mono ?_; rintro e w7 ⟨rfl, rfl⟩; rw [hm'.out])
                      | (go_at_call 45; refine (hkey.out _).mono ?_; rintro e w7 ⟨rfl, rfl⟩; rw [hg'.out]))
                    go_ret
                    exact ⟨by rw [hv.out] <;> first | rfl | simp [hlI] | simp, (hal.out _)⟩
                  · have hlI : ¬ (o.value.length : Int) ≤ 256 := by omega
                    have hv := Lib.hid (show formedV o = false by unfold formedV valB; rw [hm, if_neg k1, if_neg k2, if_neg k3, if_pos k4, hg, hgo, decide_eq_false hl]; rfl)
                    clear k1 k2 k3 k4 hm hg hl
                    unfold opCells
                    go_enter Try.func12, Try.ntmps12
                    go_wp2_with (first
                      | (go_at_call 44; go_at_call_of 44 s.pA; refine (hmay.out _ (hal.out _)).mono ?_; rintro e w7 ⟨rfl, rfl⟩; rw [hm'.out])
                      | (go_at_call 45; refine (hkey.out _).mono ?_; rintro e w7 ⟨rfl, rfl⟩; rw [hg'.out]))
                    go_ret
                    exact ⟨by rw [hv.out] <;> first | rfl | simp [hlI] | simp, (hal.out _)⟩
          · skip
            by_cases k5 : o.kind = 5
            · have kI := Lib.hid k5
              have b1 : ((o.kind : Int) == 1) = false := by simp; omega
              have b2 : ((o.kind : Int) == 2) = false := by simp; omega
              have b3 : ((o.kind : Int) == 3) = false := by simp; omega
              have b4 : ((o.kind : Int) == 4) = false := by simp; omega
              have b5 : ((o.kind : Int) == 5) = true := by simp; omega
              by_cases g0 : 0 ≤ o.at_
              · by_cases g1 : o.at_ ≤ 1048576
                · have hgp := Lib.hid (show gapB o.at_ = true from decide_eq_true ⟨g0, g1⟩)
                  by_cases hl : o.label.length ≤ 64
                  · have hlI : (o.label.length : Int) ≤ 64 := by omega
                    have hv := Lib.hid (show formedV o = true by unfold formedV lblB; rw [hm, if_neg k1, if_neg k2, if_neg k3, if_neg k4, if_pos k5, decide_eq_true hl]; rfl)
                    clear k1 k2 k3 k4 k5 hm hl
                    unfold opCells
                    go_enter Try.func12, Try.ntmps12
                    go_wp2_with (first
                      | (go_at_call 44; go_at_call_of 44 s.pA; refine (hmay.out _ (hal.out _)).mono ?_; rintro e w7 ⟨rfl, rfl⟩; rw [hm'.out]))
                    go_ret
                    exact ⟨by rw [hv.out] <;> first | rfl | simp [hlI] | simp, (hal.out _)⟩
                  · have hlI : ¬ (o.label.length : Int) ≤ 64 := by omega
                    have hv := Lib.hid (show formedV o = false by unfold formedV lblB; rw [hm, if_neg k1, if_neg k2, if_neg k3, if_neg k4, if_pos k5, decide_eq_false hl]; rfl)
                    clear k1 k2 k3 k4 k5 hm hl
                    unfold opCells
                    go_enter Try.func12, Try.ntmps12
                    go_wp2_with (first
                      | (go_at_call 44; go_at_call_of 44 s.pA; refine (hmay.out _ (hal.out _)).mono ?_; rintro e w7 ⟨rfl, rfl⟩; rw [hm'.out]))
                    go_ret
                    exact ⟨by rw [hv.out] <;> first | rfl | simp [hlI] | simp, (hal.out _)⟩
                · have hgp := Lib.hid (show gapB o.at_ = false from decide_eq_false fun h => g1 h.2)
                  by_cases hl : o.label.length ≤ 64
                  · have hlI : (o.label.length : Int) ≤ 64 := by omega
                    have hv := Lib.hid (show formedV o = true by unfold formedV lblB; rw [hm, if_neg k1, if_neg k2, if_neg k3, if_neg k4, if_pos k5, decide_eq_true hl]; rfl)
                    clear k1 k2 k3 k4 k5 hm hl
                    unfold opCells
                    go_enter Try.func12, Try.ntmps12
                    go_wp2_with (first
                      | (go_at_call 44; go_at_call_of 44 s.pA; refine (hmay.out _ (hal.out _)).mono ?_; rintro e w7 ⟨rfl, rfl⟩; rw [hm'.out]))
                    go_ret
                    exact ⟨by rw [hv.out] <;> first | rfl | simp [hlI] | simp, (hal.out _)⟩
                  · have hlI : ¬ (o.label.length : Int) ≤ 64 := by omega
                    have hv := Lib.hid (show formedV o = false by unfold formedV lblB; rw [hm, if_neg k1, if_neg k2, if_neg k3, if_neg k4, if_pos k5, decide_eq_false hl]; rfl)
                    clear k1 k2 k3 k4 k5 hm hl
                    unfold opCells
                    go_enter Try.func12, Try.ntmps12
                    go_wp2_with (first
                      | (go_at_call 44; go_at_call_of 44 s.pA; refine (hmay.out _ (hal.out _)).mono ?_; rintro e w7 ⟨rfl, rfl⟩; rw [hm'.out]))
                    go_ret
                    exact ⟨by rw [hv.out] <;> first | rfl | simp [hlI] | simp, (hal.out _)⟩
              · have hgp := Lib.hid (show gapB o.at_ = false from decide_eq_false fun h => g0 h.1)
                by_cases hl : o.label.length ≤ 64
                · have hlI : (o.label.length : Int) ≤ 64 := by omega
                  have hv := Lib.hid (show formedV o = true by unfold formedV lblB; rw [hm, if_neg k1, if_neg k2, if_neg k3, if_neg k4, if_pos k5, decide_eq_true hl]; rfl)
                  clear k1 k2 k3 k4 k5 hm hl
                  unfold opCells
                  go_enter Try.func12, Try.ntmps12
                  go_wp2_with (first
                    | (go_at_call 44; go_at_call_of 44 s.pA; refine (hmay.out _ (hal.out _)).mono ?_; rintro e w7 ⟨rfl, rfl⟩; rw [hm'.out]))
                  go_ret
                  exact ⟨by rw [hv.out] <;> first | rfl | simp [hlI] | simp, (hal.out _)⟩
                · have hlI : ¬ (o.label.length : Int) ≤ 64 := by omega
                  have hv := Lib.hid (show formedV o = false by unfold formedV lblB; rw [hm, if_neg k1, if_neg k2, if_neg k3, if_neg k4, if_pos k5, decide_eq_false hl]; rfl)
                  clear k1 k2 k3 k4 k5 hm hl
                  unfold opCells
                  go_enter Try.func12, Try.ntmps12
                  go_wp2_with (first
                    | (go_at_call 44; go_at_call_of 44 s.pA; refine (hmay.out _ (hal.out _)).mono ?_; rintro e w7 ⟨rfl, rfl⟩; rw [hm'.out]))
                  go_ret
                  exact ⟨by rw [hv.out] <;> first | rfl | simp [hlI] | simp, (hal.out _)⟩
            · skip
              by_cases k6 : o.kind = 6
              · have kI := Lib.hid k6
                have b1 : ((o.kind : Int) == 1) = false := by simp; omega
                have b2 : ((o.kind : Int) == 2) = false := by simp; omega
                have b3 : ((o.kind : Int) == 3) = false := by simp; omega
                have b4 : ((o.kind : Int) == 4) = false := by simp; omega
                have b5 : ((o.kind : Int) == 5) = false := by simp; omega
                have b6 : ((o.kind : Int) == 6) = true := by simp; omega
                by_cases g0 : 0 ≤ o.at_
                · by_cases g1 : o.at_ ≤ 1048576
                  · have hgp := Lib.hid (show gapB o.at_ = true from decide_eq_true ⟨g0, g1⟩)
                    have hv := Lib.hid (show formedV o = P5.rightV o.pieces by unfold formedV; rw [hm, if_neg k1, if_neg k2, if_neg k3, if_neg k4, if_neg k5, if_pos k6]; rfl)
                    clear k1 k2 k3 k4 k5 k6 hm
                    unfold opCells
                    go_enter Try.func12, Try.ntmps12
                    go_wp2_with (first
                      | (go_at_call 44; go_at_call_of 44 s.pA; refine (hmay.out _ (hal.out _)).mono ?_; rintro e w7 ⟨rfl, rfl⟩; rw [hm'.out])
                      | (go_at_call 46; refine (hrig.out _ (hal.out _)).mono ?_; rintro e w7 ⟨rfl, hb7⟩; have hb7' := Lib.hid ((hal.out _).trans (hb7.mono (hal.out _).size)); clear hb7))
                    go_ret
                    exact ⟨by rw [hv.out] <;> first | rfl | simp, hb7'.out⟩
                  · have hgp := Lib.hid (show gapB o.at_ = false from decide_eq_false fun h => g1 h.2)
                    have hv := Lib.hid (show formedV o = P5.rightV o.pieces by unfold formedV; rw [hm, if_neg k1, if_neg k2, if_neg k3, if_neg k4, if_neg k5, if_pos k6]; rfl)
                    clear k1 k2 k3 k4 k5 k6 hm
                    unfold opCells
                    go_enter Try.func12, Try.ntmps12
                    go_wp2_with (first
                      | (go_at_call 44; go_at_call_of 44 s.pA; refine (hmay.out _ (hal.out _)).mono ?_; rintro e w7 ⟨rfl, rfl⟩; rw [hm'.out])
                      | (go_at_call 46; refine (hrig.out _ (hal.out _)).mono ?_; rintro e w7 ⟨rfl, hb7⟩; have hb7' := Lib.hid ((hal.out _).trans (hb7.mono (hal.out _).size)); clear hb7))
                    go_ret
                    exact ⟨by rw [hv.out] <;> first | rfl | simp, hb7'.out⟩
                · have hgp := Lib.hid (show gapB o.at_ = false from decide_eq_false fun h => g0 h.1)
                  have hv := Lib.hid (show formedV o = P5.rightV o.pieces by unfold formedV; rw [hm, if_neg k1, if_neg k2, if_neg k3, if_neg k4, if_neg k5, if_pos k6]; rfl)
                  clear k1 k2 k3 k4 k5 k6 hm
                  unfold opCells
                  go_enter Try.func12, Try.ntmps12
                  go_wp2_with (first
                    | (go_at_call 44; go_at_call_of 44 s.pA; refine (hmay.out _ (hal.out _)).mono ?_; rintro e w7 ⟨rfl, rfl⟩; rw [hm'.out])
                    | (go_at_call 46; refine (hrig.out _ (hal.out _)).mono ?_; rintro e w7 ⟨rfl, hb7⟩; have hb7' := Lib.hid ((hal.out _).trans (hb7.mono (hal.out _).size)); clear hb7))
                  go_ret
                  exact ⟨by rw [hv.out] <;> first | rfl | simp, hb7'.out⟩
              · skip
                have b1 : ((o.kind : Int) == 1) = false := by simp; omega
                have b2 : ((o.kind : Int) == 2) = false := by simp; omega
                have b3 : ((o.kind : Int) == 3) = false := by simp; omega
                have b4 : ((o.kind : Int) == 4) = false := by simp; omega
                have b5 : ((o.kind : Int) == 5) = false := by simp; omega
                have b6 : ((o.kind : Int) == 6) = false := by simp; omega
                by_cases g0 : 0 ≤ o.at_
                · by_cases g1 : o.at_ ≤ 1048576
                  · have hgp := Lib.hid (show gapB o.at_ = true from decide_eq_true ⟨g0, g1⟩)
                    have hv := Lib.hid (show formedV o = false by unfold formedV; rw [hm, if_neg k1, if_neg k2, if_neg k3, if_neg k4, if_neg k5, if_neg k6]; rfl)
                    clear k1 k2 k3 k4 k5 k6 hm
                    unfold opCells
                    go_enter Try.func12, Try.ntmps12
                    go_wp2_with (first
                      | (go_at_call 44; go_at_call_of 44 s.pA; refine (hmay.out _ (hal.out _)).mono ?_; rintro e w7 ⟨rfl, rfl⟩; rw [hm'.out]))
                    go_ret
                    exact ⟨by rw [hv.out] <;> first | rfl | simp [hlI] | simp, (hal.out _)⟩
                  · have hgp := Lib.hid (show gapB o.at_ = false from decide_eq_false fun h => g1 h.2)
                    have hv := Lib.hid (show formedV o = false by unfold formedV; rw [hm, if_neg k1, if_neg k2, if_neg k3, if_neg k4, if_neg k5, if_neg k6]; rfl)
                    clear k1 k2 k3 k4 k5 k6 hm
                    unfold opCells
                    go_enter Try.func12, Try.ntmps12
                    go_wp2_with (first
                      | (go_at_call 44; go_at_call_of 44 s.pA; refine (hmay.out _ (hal.out _)).mono ?_; rintro e w7 ⟨rfl, rfl⟩; rw [hm'.out]))
                    go_ret
                    exact ⟨by rw [hv.out] <;> first | rfl | simp [hlI] | simp, (hal.out _)⟩
                · have hgp := Lib.hid (show gapB o.at_ = false from decide_eq_false fun h => g0 h.1)
                  have hv := Lib.hid (show formedV o = false by unfold formedV; rw [hm, if_neg k1, if_neg k2, if_neg k3, if_neg k4, if_neg k5, if_neg k6]; rfl)
                  clear k1 k2 k3 k4 k5 k6 hm
                  unfold opCells
                  go_enter Try.func12, Try.ntmps12
                  go_wp2_with (first
                    | (go_at_call 44; go_at_call_of 44 s.pA; refine (hmay.out _ (hal.out _)).mono ?_; rintro e w7 ⟨rfl, rfl⟩; rw [hm'.out]))
                  go_ret
                  exact ⟨by rw [hv.out] <;> first | rfl | simp [hlI] | simp, (hal.out _)⟩
end Go.Proofs.Ytoeblaecldhcaaa
