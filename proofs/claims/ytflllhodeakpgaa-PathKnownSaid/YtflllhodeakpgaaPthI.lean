/- Rows of complex numbers, arrays of 64 numbers; what some shifts sum to at each place. -/
import Derived.Test.YtflllhodeakpgaaPthH
import Derived.Laws.Rows
import Derived.Laws.Tables
import Derived.Below
namespace Go.Proofs.Ytflllhodeakpgaa
open Go.RowKit
set_option maxRecDepth 20000

/-- a slice of n complex numbers at A reads as zs -/
def ItsC (w : World) (A : Option Addr) (n : Nat) (zs : List (Nat × Nat)) : Prop :=
  zs.length = n ∧ ∀ k x, zs[k]? = some x → ∃ ad : Addr, A = some ad ∧ ad.block < w.heap.size ∧ w.cell? (ad.add k) = some (.complex .f64 x.1 x.2)
theorem ItsC.below {w w' : World} {A : Option Addr} {n : Nat} {zs : List (Nat × Nat)} (h : ItsC w A n zs) (hb : Below w.heap.size w w') : ItsC w' A n zs := by
  refine ⟨h.1, fun k c hk => ?_⟩
  obtain ⟨ad, e, hlt, hc⟩ := h.2 k c hk
  exact ⟨ad, e, Nat.lt_of_lt_of_le hlt hb.size, (hb.cell (p := ad.add k) (by rw [block_add]; exact hlt)).trans hc⟩
theorem ItsC.at_ {w : World} {A : Option Addr} {n k : Nat} {zs : List (Nat × Nat)} (h : ItsC w A n zs) (hk : k < n) :
    ∃ (ad : Addr) (re im : Nat), A = some ad ∧ zs[k]? = some (re, im) ∧ w.cell? (ad.add k) = some (.complex .f64 re im) := by
  have hl : k < zs.length := by rw [h.1]; exact hk
  have hg : zs[k]? = some zs[k] := List.getElem?_eq_getElem hl
  obtain ⟨ad, e, _, hc⟩ := h.2 k _ hg
  exact ⟨ad, zs[k].1, zs[k].2, e, hg, hc⟩
theorem ItsC.none_ (w : World) : ItsC w none 0 [] := ⟨rfl, fun k c h => by simp at h⟩
theorem ItsC.none_nil {w : World} {n : Nat} {xs : List (Nat × Nat)} (h : ItsC w none n xs) : xs = [] := by
  cases xs with
  | nil => rfl
  | cons c r =>
    obtain ⟨ad, e, _⟩ := h.2 0 c rfl
    cases e
def cV (z : Nat × Nat) : Value := .complex .f64 z.1 z.2
theorem ItsC.of_block {w : World} {g n : Nat} {cs : Array Value} {t : TypeId} {fr : Nat × Nat} {zs : List (Nat × Nat)} (h : w.heap[g]? = some (.cells cs t fr)) (hn : zs.length = n)
    (hc : cs = (zs.map cV).toArray) : ItsC w (some ⟨g, 0, none⟩) n zs := by
  refine ⟨hn, fun k c hk => ?_⟩
  have hlt : g < w.heap.size := (Array.getElem?_eq_some_iff.1 h).1
  have hadd : (⟨g, 0, none⟩ : Addr).add k = ⟨g, k, none⟩ := by unfold Addr.add; split <;> simp_all
  exact ⟨⟨g, 0, none⟩, rfl, hlt, by rw [hadd, cell_of_row w g k cs t fr h, hc]; simp [hk, cV]⟩
theorem Try.info33 : (Try.prog.info? 33).map (fun i => (i.zero, i.size, i.bytes)) = some (some (.complex .f64 0 0), 1, 16) := by kernel_rfl
/-- the slice value v owns the complex numbers zs -/
def OwnC (base : Nat) (w : World) (v : Value) (zs : List (Nat × Nat)) : Prop := w.ownsRow base 33 1 v zs.length (zs.map cV)
theorem OwnC.nil_ (base : Nat) (w : World) : OwnC base w (.slice none 0 0) [] := World.ownsRow_nil w base _ _
theorem OwnC.shape {base : Nat} {w : World} {v : Value} {xs : List (Nat × Nat)} (h : OwnC base w v xs) : ∃ (A : Option Addr) (n c : Nat), v = .slice A n c ∧ n = xs.length ∧ n ≤ c ∧ c ≤ maxLen ∧ ItsC w A n xs ∧ (A = none → c = 0) := by
  have h' := h
  rcases h.2 with ⟨rfl, h0⟩ | ⟨g, cap, cur, rfl, _, hg, hnc, hcm, _⟩
  · have hb : xs = [] := List.eq_nil_of_length_eq_zero h0
    subst hb
    exact ⟨none, 0, 0, rfl, rfl, Nat.le_refl _, Nat.zero_le _, ItsC.none_ w, fun _ => rfl⟩
  · refine ⟨_, _, _, rfl, rfl, hnc, hcm, ⟨rfl, fun k c hk => ?_⟩, fun e => by cases e⟩
    have hlt : g < w.heap.size := (Array.getElem?_eq_some_iff.1 hg).1
    exact ⟨⟨g, 0, none⟩, rfl, hlt, h'.cells (g := g) rfl k _ (by rw [List.getElem?_map, hk]; rfl)⟩
theorem wpList_append_itsC {w : World} {ops : Array Oper} {rest : List Oper} {o : Oper} {a : Act} {Q : Exit → Act → World → Prop} (hgd : o.guard = none) (s x : Operand)
    (ho : o.op = .call { callee := .builtin .append, args := #[s, x], argTypes := #[38, 38] })
    (base : Nat) (v : Value) (xs ys : List (Nat × Nat)) (hs : a.eval s = v) (hown : OwnC base w v xs)
    (A : Option Addr) (m c : Nat) (hx : a.eval x = .slice A m c) (hB : ItsC w A m ys) (hnil : A = none → c = 0)
    (hlen : xs.length + ys.length ≤ 1000000) (hbase : base ≤ w.heap.size)
    (h : ∀ v' w', OwnC base w' v' (xs ++ ys) → w.grownBy w' v.ownBlock → (v'.ownBlock = v.ownBlock ∨ v'.ownBlock = some w.heap.size) → wpList Try.prog ops Q rest (a.put o.dst v') w') :
    wpList Try.prog ops Q (o :: rest) a w := by
  obtain ⟨i0, hi, hz0, hz1, hz2⟩ := info_parts Try.info33
  obtain rfl := hB.1
  cases A with
  | none =>
    obtain rfl := hB.none_nil
    obtain rfl := hnil rfl
    refine wpList_append_own_none hgd s x _ ho base 33 i0 1 Try.underlying38 hi v _ _ hs hown hx ?_
    exact h v w (by rw [List.append_nil]; exact hown) (World.grownBy.refl w _) (.inl rfl)
  | some ad =>
    refine wpList_append_own_at w hgd s x _ ho base 33 i0 (.complex .f64 0 0) 1 16 Try.underlying38 hi hz0 hz1 hz2 rfl (by omega) v xs.length (xs.map cV) hs hown ad ys.length c (ys.map cV) hx (by simp)
      (fun j u hj => ?_) (fun u hu => ?_) (by unfold maxLen; omega) (by omega) hbase ?_
    · rw [List.getElem?_map] at hj
      cases hk : ys[j]? with
      | none => rw [hk] at hj; cases hj
      | some d =>
        rw [hk] at hj
        simp only [Option.map_some, Option.some.injEq] at hj
        obtain ⟨ad', e, _, hc⟩ := hB.2 j d hk
        cases Option.some.inj e
        rw [← hj]
        exact hc
    · obtain ⟨d, _, rfl⟩ := List.mem_map.1 hu
      rfl
    · intro v' w' hown' hgrow _ hat
      refine h v' w' ?_ hgrow hat
      unfold OwnC
      rw [List.length_append, List.map_append]
      exact hown'

/-- a whole row stored: of the world behind it no more is told than what the row holds, and that nothing below has turned -/
theorem wpList_store_row_to {P : Program} {ops : Array Oper} {rest : List Oper} {o : Oper} {a : Act} {w : World} {Q : Exit → Act → World → Prop} (hgd : o.guard = none) (ty : TypeId) (x y : Operand) (ho : o.op = .store ty x y)
    (g : Nat) (cells : Array Value) (hx : a.eval x = .pointer (some ⟨g, 0, none⟩)) (hy : a.eval y = .agg cells)
    (t : TypeId) (old : Array Value) (hg : w.heap[g]? = some (.cells old t (0, 0))) (hi : (P.info? ty).map (·.size) = some cells.size)
    (hold : old.size = cells.size) (h1 : cells.all (·.oneCell') = true)
    (h : ∀ W : World, W.heap[g]? = some (.cells cells t (0, 0)) → Below g w W → W.heap.size = w.heap.size → wpList P ops Q rest (a.put o.dst undef) W) : wpList P ops Q (o :: rest) a w :=
  wpList_store_row hgd ty x y ho g cells hx hy t old hg hi hold h1 (h _ (setRow_heap _ _ old cells _ _ hg) (below_setRow (Below.refl _ _) (Nat.le_refl _) _) (size_setRow _ _ _))

theorem heap_kept {B k : Nat} {w w' : World} {o : Obj} (hb : Below B w w') (hk : k < B) (h : w.heap[k]? = some o) : w'.heap[k]? = some o := (hb.block k hk).trans h
def arrI (L : List Int) : Array Value := (L.map intV).toArray
def zeros : List Int := List.replicate 64 0
theorem arrI_size {L : List Int} (h : L.length = 64) : (arrI L).size = 64 := by simp [arrI, h]
theorem size_arr : (Try.prog.info? 51).map (·.size) = some 64 := by kernel_rfl
theorem arrI_one (L : List Int) : (arrI L).all (·.oneCell') = true := by
  rw [Array.all_eq_true_iff_forall_mem]
  intro v hv
  obtain ⟨c, _, rfl⟩ := List.mem_map.1 (by simpa [arrI] using hv : v ∈ L.map intV)
  rfl
theorem built_arr : Try.prog.built 51 [] = some (arrI zeros) := by kernel_rfl
theorem zeroArr (w : World) : (zeroValue 51).run Try.prog w = .ok (.agg (arrI zeros)) w := by kernel_rfl
section
variable {ops : Array Oper} {rest : List Oper} {o : Oper} {a : Act} {w : World} {Q : Exit → Act → World → Prop}
theorem wpList_build_arr (hgd : o.guard = none) (ho : o.op = .build 51 #[]) (h : wpList Try.prog ops Q rest (a.put o.dst (.agg (arrI zeros))) w) : wpList Try.prog ops Q (o :: rest) a w := by
  refine wpList_plain hgd fun _ hK => ?_
  have e : (Array.map (fun x : Nat × Operand => (x.1, a.eval x.2)) #[]) = #[] := by simp
  unfold Oper.wp execOp
  simp only [ho, Sem.run_bind, e, run_build w 51 #[] (arrI zeros) built_arr, Result.andThen_ok]
  exact hK _ _ h
theorem wpList_alloc_arr (hgd : o.guard = none) (ho : o.op = .alloc 51) (h : wpList Try.prog ops Q rest (a.put o.dst (.pointer (some ⟨w.heap.size, 0, none⟩))) (w.alloc (.cells (arrI zeros) 51))) : wpList Try.prog ops Q (o :: rest) a w := by
  refine wpList_plain hgd fun _ hK => ?_
  unfold Oper.wp execOp
  simp only [ho, Sem.run_bind, Instr.alloc, zeroArr, newVar, newRow, run_newObj_alloc, Sem.run_pure, Result.andThen_ok]
  exact hK _ _ h
/-- a new array: of the world behind it no more is told than that it lies there -/
theorem wpList_alloc_arr_to (hgd : o.guard = none) (ho : o.op = .alloc 51) (N : Nat) (hN : w.heap.size = N)
    (h : ∀ w1 : World, w1.heap[N]? = some (.cells (arrI zeros) 51 (0, 0)) → w1.heap.size = N + 1 → Below N w w1 → wpList Try.prog ops Q rest (a.put o.dst (.pointer (some ⟨N, 0, none⟩))) w1) : wpList Try.prog ops Q (o :: rest) a w := by
  subst hN
  exact wpList_alloc_arr hgd ho (h _ (heap_alloc_new w _) (by simp) ((Below.refl _ _).alloc (Nat.le_refl _) _))
end
/-- one place of the array written -/
theorem arr_set {w : World} {g k : Nat} {L : List Int} {t : TypeId} (h : w.heap[g]? = some (.cells (arrI L) t (0, 0))) (y : Int) :
    (w.setCell ⟨g, k, none⟩ (.int .i64 y)).heap[g]? = some (.cells (arrI (L.set k y)) t (0, 0)) := by
  rw [Go.heap_setCell_same _ _ _ _ _ _ h]
  unfold arrI
  rw [List.map_set, List.setIfInBounds_toArray]
  rfl

/-- how much all grow, place by place -/
def addL (L : List Int) (z : Nat × Nat) : List Int :=
  match partsV z.1 z.2 with
  | some (a, b) => L.set a.toNat (L.getD a.toNat 0 + b)
  | none => L
def sumL (zs : List (Nat × Nat)) : List Int := zs.foldl addL zeros
def allParts (zs : List (Nat × Nat)) : Bool := zs.all fun z => (partsV z.1 z.2).isSome
def fineL (zs : List (Nat × Nat)) : Bool := zs.all fun z => fineS z.1 z.2
/-- 64 numbers, none further from 0 than so many growths can make it -/
def Near (L : List Int) (m : Nat) : Prop := L.length = 64 ∧ ∀ (k : Nat) (x : Int), L[k]? = some x → -(1048575 * (m : Int)) ≤ x ∧ x ≤ 1048575 * (m : Int)
theorem near_zeros : Near zeros 0 := ⟨List.length_replicate, fun k x h => by
  obtain rfl := List.eq_of_mem_replicate (List.mem_of_getElem? h)
  omega⟩
theorem Near.at_ {L : List Int} {m k : Nat} (h : Near L m) (hk : k < 64) : ∃ x, L[k]? = some x ∧ L.getD k 0 = x ∧ -(1048575 * (m : Int)) ≤ x ∧ x ≤ 1048575 * (m : Int) := by
  have hl : k < L.length := by rw [h.1]; exact hk
  have hg : L[k]? = some L[k] := List.getElem?_eq_getElem hl
  exact ⟨L[k], hg, by rw [List.getD_eq_getElem?_getD, hg]; rfl, h.2 k _ hg⟩
theorem Near.set {L : List Int} {m k : Nat} {x b : Int} (h : Near L m) (hx : L[k]? = some x) (h1 : -1048575 ≤ b) (h2 : b ≤ 1048575) : Near (L.set k (x + b)) (m + 1) := by
  refine ⟨by rw [List.length_set]; exact h.1, fun j y hy => ?_⟩
  rw [List.getElem?_set] at hy
  split at hy
  · split at hy
    · injection hy with hy
      subst hy
      have := h.2 k x hx
      omega
    · cases hy
  · have := h.2 j y hy
    omega
theorem Near.cell {w : World} {L : List Int} {g k : Nat} {t : TypeId} {x : Int} (hg : w.heap[g]? = some (.cells (arrI L) t (0, 0))) (hx : L[k]? = some x) : w.cell? ⟨g, k, none⟩ = some (.int .i64 x) := by
  rw [cell_of_row w g k _ _ _ hg]
  simp [arrI, hx, intV]
theorem sumL_take {zs : List (Nat × Nat)} {k : Nat} {re im : Nat} {a : Nat} {b : Int} (h : zs[k]? = some (re, im)) (hp : partsV re im = some ((a : Int), b)) : sumL (zs.take (k + 1)) = (sumL (zs.take k)).set a ((sumL (zs.take k)).getD a 0 + b) := by
  unfold sumL
  rw [List.take_add_one, h, List.foldl_append]
  simp [addL, hp]
theorem all_take {zs : List (Nat × Nat)} {k : Nat} {re im : Nat} (h : zs[k]? = some (re, im)) (ha : allParts (zs.take k) = true) (hp : (partsV re im).isSome = true) : allParts (zs.take (k + 1)) = true := by
  unfold allParts at ha ⊢
  rw [List.take_add_one, h, List.all_append, ha]
  simp [hp]
theorem all_not {zs : List (Nat × Nat)} {k : Nat} {re im : Nat} (h : zs[k]? = some (re, im)) (hp : partsV re im = none) : allParts zs = false := by
  unfold allParts
  rw [List.all_eq_false]
  exact ⟨_, List.mem_of_getElem? h, by simp [hp]⟩
theorem fine_at {zs : List (Nat × Nat)} {k : Nat} {re im : Nat} (h : zs[k]? = some (re, im)) (hf : fineL zs = true) : fineS re im = true := by
  unfold fineL at hf
  have h2 := List.all_eq_true.1 hf (re, im) (List.mem_of_getElem? h)
  dsimp only at h2
  exact h2
end Go.Proofs.Ytflllhodeakpgaa
