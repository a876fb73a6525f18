/- Words for memory that holds numbers: a slice reads as numbers, a row of the call's own. -/
import Derived.Test.YtflllhodeakpgaaProg
import Derived.WalkKit
import Derived.WalkMore
import Derived.WalkLawsBesides
import Derived.WalkSpells
import Derived.Outline
import Derived.Lib.Hide
import Derived.Laws.CopyOwn
import Derived.Maps.AppendAt
import Derived.Laws.AppendOwnNone
import Derived.Deep.QuietTactic
import Derived.BigQuiet
namespace Go.Proofs.Ytflllhodeakpgaa
open Go.RowKit
set_option maxRecDepth 20000

/-- a slice of n numbers at A reads as xs -/
def Its (w : World) (A : Option Addr) (n : Nat) (xs : List Int) : Prop :=
  xs.length = n ∧ ∀ k x, xs[k]? = some x → ∃ ad : Addr, A = some ad ∧ ad.block < w.heap.size ∧ w.cell? (ad.add k) = some (.int .i64 x)
/-- numbers of 64 bits -/
def Fit (xs : List Int) : Prop := ∀ x ∈ xs, -9223372036854775808 ≤ x ∧ x ≤ 9223372036854775807
theorem block_add (a : Addr) (k : Nat) : (a.add k).block = a.block := by unfold Addr.add; split <;> rfl
theorem Its.below {w w' : World} {A : Option Addr} {n : Nat} {xs : List Int} (h : Its w A n xs) (hb : Below w.heap.size w w') : Its w' A n xs := by
  refine ⟨h.1, fun k c hk => ?_⟩
  obtain ⟨ad, e, hlt, hc⟩ := h.2 k c hk
  exact ⟨ad, e, Nat.lt_of_lt_of_le hlt hb.size, (hb.cell (p := ad.add k) (by rw [block_add]; exact hlt)).trans hc⟩
theorem Its.at_ {w : World} {A : Option Addr} {n k : Nat} {xs : List Int} (h : Its w A n xs) (hk : k < n) :
    ∃ (ad : Addr) (x : Int), A = some ad ∧ xs[k]? = some x ∧ w.cell? (ad.add k) = some (.int .i64 x) := by
  have hl : k < xs.length := by rw [h.1]; exact hk
  have hg : xs[k]? = some xs[k] := List.getElem?_eq_getElem hl
  obtain ⟨ad, e, _, hc⟩ := h.2 k _ hg
  exact ⟨ad, _, e, hg, hc⟩
theorem draws {B : Nat} {a w : World} (h : Below B a w) (n : Nat) : Below B a (w.drewN n) := ⟨h.os, h.tape, h.output, h.size, h.block⟩
theorem Its.drewN {w : World} {A : Option Addr} {n : Nat} {xs : List Int} (h : Its w A n xs) (k : Nat) : Its (w.drewN k) A n xs := h.below (draws (Below.refl _ _) k)
theorem Its.none_ (w : World) : Its w none 0 [] := ⟨rfl, fun k c h => by simp at h⟩
theorem Its.none_nil {w : World} {n : Nat} {xs : List Int} (h : Its w none n xs) : xs = [] := by
  cases xs with
  | nil => rfl
  | cons c r =>
    obtain ⟨ad, e, _⟩ := h.2 0 c rfl
    cases e
theorem Its.upto {w : World} {A : Option Addr} {n q : Nat} {xs : List Int} (h : Its w A n xs) (hq : q ≤ n) : Its w A q (xs.take q) := by
  refine ⟨by rw [List.length_take, h.1]; omega, fun k c hk => ?_⟩
  rw [List.getElem?_take] at hk
  split at hk
  · exact h.2 k c hk
  · cases hk
theorem add_add (a : Addr) (i j : Nat) : (a.add i).add j = a.add (i + j) := by
  unfold Addr.add
  by_cases hi : i = 0
  · simp [hi]
  · by_cases hj : j = 0
    · simp [hi, hj]
    · simp [hi, hj, Nat.add_assoc]
theorem Its.from_ {w : World} {A : Option Addr} {n lo m : Nat} {xs : List Int} (h : Its w A n xs) (hlm : lo + m = n) : Its w (A.map fun x => x.add lo) m (xs.drop lo) := by
  refine ⟨by rw [List.length_drop, h.1]; omega, fun k c hk => ?_⟩
  rw [List.getElem?_drop] at hk
  obtain ⟨ad, rfl, hb, hc⟩ := h.2 _ _ hk
  exact ⟨ad.add lo, rfl, by rw [block_add]; exact hb, by rw [add_add]; exact hc⟩
/-- a block of numbers reads as them -/
theorem Its.of_block {w : World} {g n : Nat} {cs : Array Value} {t : TypeId} {fr : Nat × Nat} {xs : List Int} (h : w.heap[g]? = some (.cells cs t fr)) (hn : xs.length = n)
    (hc : cs = (xs.map fun x => Value.int .i64 x).toArray) : Its w (some ⟨g, 0, none⟩) n xs := by
  refine ⟨hn, fun k c hk => ?_⟩
  have hlt : g < w.heap.size := (Array.getElem?_eq_some_iff.1 h).1
  have hadd : (⟨g, 0, none⟩ : Addr).add k = ⟨g, k, none⟩ := by unfold Addr.add; split <;> simp_all
  exact ⟨⟨g, 0, none⟩, rfl, hlt, by rw [hadd, cell_of_row w g k cs t fr h, hc]; simp [hk]⟩
theorem Fit.at_ {xs : List Int} (h : Fit xs) {k : Nat} {x : Int} (hk : xs[k]? = some x) : -9223372036854775808 ≤ x ∧ x ≤ 9223372036854775807 := h x (List.mem_of_getElem? hk)
/-- what the frame tells of a slice of numbers that came in -/
theorem its_row {w : World} {a : Option Addr} {len cap : Nat} {zs : List Int}
    (h : (a = none ∧ len = 0 ∧ cap = 0 ∧ zs = []) ∨ ∃ x, a = some x ∧ len ≤ cap ∧ cap ≤ maxLen ∧ zs.length = cap ∧ (∀ i, i < zs.length → w.cell? (x.add i) = some (.int .i64 (zs.getD i 0))) ∧ ∀ n ∈ zs, (Lit.int .i64 n).wf = true) :
    ∃ xs, Its w a len xs ∧ Fit xs ∧ len ≤ cap ∧ cap ≤ maxLen ∧ (a = none → cap = 0) := by
  rcases h with ⟨rfl, rfl, rfl, _⟩ | ⟨x, rfl, hl, hm, hz, hc, hwf⟩
  · exact ⟨[], Its.none_ w, (by intro x hx; cases hx), Nat.le_refl _, Nat.zero_le _, fun _ => rfl⟩
  · refine ⟨zs.take len, ⟨by rw [List.length_take]; omega, fun k c hk => ?_⟩, fun y hy => ?_, hl, hm, fun e => by cases e⟩
    · rw [List.getElem?_take] at hk
      split at hk
      · rename_i hkl
        have hkz : k < zs.length := by omega
        have hcell := hc k hkz
        rw [List.getD_eq_getElem?_getD, hk, Option.getD_some] at hcell
        refine ⟨x, rfl, ?_, hcell⟩
        have := World.block_lt_of_cell? w _ hcell
        rwa [block_add] at this
      · simp at hk
    · simpa [Lit.wf, IntKind.min, IntKind.max, IntKind.signed, IntKind.bits] using hwf y (List.mem_of_mem_take hy)
theorem Try.info3 : (Try.prog.info? 3).map (fun i => (i.zero, i.size, i.bytes)) = some (some (.int .i64 0), 1, 8) := by kernel_rfl
def intV (x : Int) : Value := .int .i64 x
/-- the slice value v owns the numbers xs -/
def OwnI (base : Nat) (w : World) (v : Value) (xs : List Int) : Prop := w.ownsRow base 3 1 v xs.length (xs.map intV)
theorem OwnI.nil_ (base : Nat) (w : World) : OwnI base w (.slice none 0 0) [] := World.ownsRow_nil w base _ _
/-- its shape, and that it reads as those numbers -/
theorem OwnI.shape {base : Nat} {w : World} {v : Value} {xs : List Int} (h : OwnI base w v xs) : ∃ (A : Option Addr) (n c : Nat), v = .slice A n c ∧ n = xs.length ∧ n ≤ c ∧ c ≤ maxLen ∧ Its w A n xs ∧ (A = none → c = 0) := by
  have h' := h
  rcases h.2 with ⟨rfl, h0⟩ | ⟨g, cap, cur, rfl, _, hg, hnc, hcm, _⟩
  · have hb : xs = [] := List.eq_nil_of_length_eq_zero h0
    subst hb
    exact ⟨none, 0, 0, rfl, rfl, Nat.le_refl _, Nat.zero_le _, Its.none_ w, fun _ => rfl⟩
  · refine ⟨_, _, _, rfl, rfl, hnc, hcm, ⟨rfl, fun k c hk => ?_⟩, fun e => by cases e⟩
    have hlt : g < w.heap.size := (Array.getElem?_eq_some_iff.1 hg).1
    exact ⟨⟨g, 0, none⟩, rfl, hlt, h'.cells (g := g) rfl k _ (by rw [List.getElem?_map, hk]; rfl)⟩
/-- append(v, x..), v the call's own, x whatever reads as numbers -/
theorem wpList_append_its {w : World} {ops : Array Oper} {rest : List Oper} {o : Oper} {a : Act} {Q : Exit → Act → World → Prop} (hgd : o.guard = none) (s x : Operand)
    (ho : o.op = .call { callee := .builtin .append, args := #[s, x], argTypes := #[22, 22] })
    (base : Nat) (v : Value) (xs ys : List Int) (hs : a.eval s = v) (hown : OwnI base w v xs)
    (A : Option Addr) (m c : Nat) (hx : a.eval x = .slice A m c) (hB : Its w A m ys) (hnil : A = none → c = 0)
    (hlen : xs.length + ys.length ≤ 1000000) (hbase : base ≤ w.heap.size)
    (h : ∀ v' w', OwnI base w' v' (xs ++ ys) → w.grownBy w' v.ownBlock → (v'.ownBlock = v.ownBlock ∨ v'.ownBlock = some w.heap.size) → wpList Try.prog ops Q rest (a.put o.dst v') w') :
    wpList Try.prog ops Q (o :: rest) a w := by
  obtain ⟨i0, hi, hz0, hz1, hz2⟩ := info_parts Try.info3
  obtain rfl := hB.1
  cases A with
  | none =>
    obtain rfl := hB.none_nil
    obtain rfl := hnil rfl
    refine wpList_append_own_none hgd s x _ ho base 3 i0 1 Try.underlying22 hi v _ _ hs hown hx ?_
    exact h v w (by rw [List.append_nil]; exact hown) (World.grownBy.refl w _) (.inl rfl)
  | some ad =>
    refine wpList_append_own_at w hgd s x _ ho base 3 i0 (.int .i64 0) 1 8 Try.underlying22 hi hz0 hz1 hz2 rfl (by omega) v xs.length (xs.map intV) hs hown ad ys.length c (ys.map intV) hx (by simp)
      (fun j u hj => ?_) (fun u hu => ?_) (by unfold maxLen; omega) (by omega) hbase ?_
    · rw [List.getElem?_map] at hj
      cases hk : ys[j]? with
      | none => rw [hk] at hj; cases hj
      | some d =>
        rw [hk] at hj
        simp only [Option.map_some, Option.some.injEq] at hj
        obtain ⟨ad', e, _, hc⟩ := hB.2 j d hk
        cases Option.some.inj e
        rw [← hj]
        exact hc
    · obtain ⟨d, _, rfl⟩ := List.mem_map.1 hu
      rfl
    · intro v' w' hown' hgrow _ hat
      refine h v' w' ?_ hgrow hat
      unfold OwnI
      rw [List.length_append, List.map_append]
      exact hown'
end Go.Proofs.Ytflllhodeakpgaa
