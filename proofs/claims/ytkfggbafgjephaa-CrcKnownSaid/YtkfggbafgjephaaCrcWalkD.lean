import Derived.Test.YtkfggbafgjephaaCrcWalkC
import Derived.Deep.QuietTactic
import Derived.BigQuiet
namespace Go.Proofs.Ytkfggbafgjephaa
open Go.RowKit

theorem draws {B : Nat} {a w : World} (h : Below B a w) (n : Nat) : Below B a (w.drewN n) := ⟨h.os, h.tape, h.output, h.size, h.block⟩
/-- a whole row stored: of the world behind it no more is told than what the row holds, and that nothing below has turned -/
theorem wpList_store_row_to {P : Program} {ops : Array Oper} {rest : List Oper} {o : Oper} {a : Act} {w : World} {Q : Exit → Act → World → Prop} (hgd : o.guard = none) (ty : TypeId) (x y : Operand) (ho : o.op = .store ty x y)
    (g : Nat) (cells : Array Value) (hx : a.eval x = .pointer (some ⟨g, 0, none⟩)) (hy : a.eval y = .agg cells)
    (t : TypeId) (old : Array Value) (hg : w.heap[g]? = some (.cells old t (0, 0))) (hi : (P.info? ty).map (·.size) = some cells.size)
    (hold : old.size = cells.size) (h1 : cells.all (·.oneCell') = true)
    (h : ∀ W : World, W.heap[g]? = some (.cells cells t (0, 0)) → Below g w W → W.heap.size = w.heap.size → wpList P ops Q rest (a.put o.dst undef) W) : wpList P ops Q (o :: rest) a w :=
  wpList_store_row hgd ty x y ho g cells hx hy t old hg hi hold h1 (h _ (setRow_heap _ _ old cells _ _ hg) (below_setRow (Below.refl _ _) (Nat.le_refl _) _) (size_setRow _ _ _))

theorem sum_q (A : Option Addr) (n c : Nat) (bs : List UInt8) (w : World) (hB : Bts w A n bs) (hn : n ≤ maxLen) :
    Calls Try.prog 11 #[.slice A n c] w fun e w' => e = .returned (.int .u32 (sumV bs : Int)) ∧ w' = w :=
  (sum_any A n c bs w hB hn).mono fun _ _ h => ⟨h.1, h.2.symm⟩
theorem Bts.none_ (w : World) : Bts w none 0 [] := ⟨rfl, fun k c h => by simp at h⟩
theorem Bts.upto {w : World} {A : Option Addr} {n q : Nat} {bs : List UInt8} (h : Bts w A n bs) (hq : q ≤ n) : Bts w A q (bs.take q) := by
  refine ⟨by rw [List.length_take, h.1]; omega, fun k c hk => ?_⟩
  rw [List.getElem?_take] at hk
  split at hk
  · exact h.2 k c hk
  · cases hk

theorem add_add (a : Addr) (i j : Nat) : (a.add i).add j = a.add (i + j) := by
  unfold Addr.add
  by_cases hi : i = 0
  · simp [hi]
  · by_cases hj : j = 0
    · simp [hi, hj]
    · simp [hi, hj, Nat.add_assoc]
theorem Bts.cut {w : World} {A : Option Addr} {n lo m : Nat} {bs : List UInt8} (h : Bts w A n bs) (hlm : lo + m ≤ n) : Bts w (A.map fun x => x.add lo) m ((bs.drop lo).take m) := by
  refine ⟨by rw [List.length_take, List.length_drop, h.1]; omega, fun k c hk => ?_⟩
  rw [List.getElem?_take] at hk
  split at hk
  · rw [List.getElem?_drop] at hk
    obtain ⟨ad, rfl, hb, hc⟩ := h.2 _ _ hk
    refine ⟨ad.add lo, rfl, by rw [block_add]; exact hb, by rw [add_add]; exact hc⟩
  · cases hk

theorem car_all (n x k : Nat) : car (fun i => it n H (2 ^ i)) x k = it n H (x % 2 ^ k) := by
  induction k with
  | zero => simp [car, Nat.mod_one, itH_zero]
  | succ k ih =>
    have hm : x % 2 ^ (k + 1) = x % 2 ^ k + 2 ^ k * (x / 2 ^ k % 2) := by rw [Nat.pow_succ, Nat.mod_mul]
    have hl : x % 2 ^ k < 2 ^ k := Nat.mod_lt _ (Nat.two_pow_pos k)
    unfold car
    rw [ih, hm]
    split
    · rename_i h1
      rw [h1, Nat.mul_one, ← itH_xor]
      have h2 := xor_add (a := x % 2 ^ k) (b := 1) (n := k) hl
      rw [Nat.one_mul] at h2
      rw [h2]
    · rename_i h1
      rw [show x / 2 ^ k % 2 = 0 from by omega, Nat.mul_zero, Nat.add_zero]
theorem car_32 (n : Nat) {x : Nat} (hx : x < 4294967296) : car (fun i => it n H (2 ^ i)) x 32 = it n H x := by
  rw [car_all, Nat.mod_eq_of_lt (by omega)]
theorem take_more (bs : List UInt8) (i q : Nat) : bs.take (i + q) = bs.take i ++ (bs.drop i).take q := List.take_add
theorem more_take (bs : List UInt8) (i q : Nat) : moreV (sumV (bs.take i)) ((bs.drop i).take q) = sumV (bs.take (i + q)) := by rw [take_more, sum_append]
theorem col_lt (q : Nat) : ∀ i, i < 32 → it (8 * q) H (2 ^ i) < 4294967296 := fun i hi => itH_lt _ (by
  have : 2 ^ i ≤ 2 ^ 31 := Nat.pow_le_pow_right (by omega) (by omega)
  omega)
theorem slide (bs : List UInt8) (i q : Nat) (hq : (bs.drop i).length ≥ q) :
    bits .xor .u32 (sumV (bs.take (i + q)) : Int) (car (fun i => it (8 * q) H (2 ^ i)) (sumV (bs.take i)) 32 : Int) = (sumV ((bs.drop i).take q) : Int) := by
  have hl : ((bs.drop i).take q).length = q := by rw [List.length_take]; omega
  have h := window_sum (bs.take i) ((bs.drop i).take q)
  rw [hl, ← take_more] at h
  rw [car_32 _ (sumV_lt _), xor_u _ _ (sumV_lt _) (itH_lt _ (sumV_lt _)), ← h]
theorem row_set {d : Array Value} {bs : List UInt8} {k q : Nat} {v : Int} (hk : k + 1 < d.size) (hv : v = (sumV ((bs.drop (k + 1)).take q) : Int)) (h : ∀ j, j < k + 1 → d[j]? = some (.int .u32 (sumV ((bs.drop j).take q) : Int))) :
    ∀ j, j < k + 1 + 1 → (d.setIfInBounds (k + 1) (.int .u32 v))[j]? = some (.int .u32 (sumV ((bs.drop j).take q) : Int)) := by
  intro j hj
  rw [Array.getElem?_setIfInBounds]
  by_cases e : k + 1 = j
  · subst e
    rw [if_pos rfl, if_pos hk, hv]
  · rw [if_neg e]
    exact h j (by omega)

/-- block g holds n numbers of 32 bits, f of each place -/
def Nums (w : World) (g n : Nat) (f : Nat → Nat) : Prop :=
  ∃ d : Array Value, d.size = n ∧ (∀ j, j < n → d[j]? = some (.int .u32 (f j : Int))) ∧ w.heap[g]? = some (.cells d 22 (0, 0))
/-- what Windows answers where there are windows: their Sums, in a block of the call's own -/
def WinYes (w : World) (n q : Nat) (bs : List UInt8) (e : Ending) (w' : World) : Prop :=
  ∃ g, e = .returned (.slice (some ⟨g, 0, none⟩) (n - q + 1) (n - q + 1)) ∧ w.heap.size ≤ g ∧ Nums w' g (n - q + 1) (fun j => sumV ((bs.drop j).take q)) ∧ Below w.heap.size w w'
theorem row_one {Zs : Array Value} {bs : List UInt8} {q : Nat} (hz : 0 < Zs.size) : ∀ j, j < 0 + 1 → (Zs.setIfInBounds 0 (.int .u32 (sumV (bs.take q) : Int)))[j]? = some (.int .u32 (sumV ((bs.drop j).take q) : Int)) := by
  intro j hj
  obtain rfl : j = 0 := by omega
  rw [Array.getElem?_setIfInBounds, if_pos rfl, if_pos hz]
  rfl

set_option maxHeartbeats 800000 in
theorem windows_yes (A : Option Addr) (n c q : Nat) (bs : List UInt8) (w : World) (hB : Bts w A n bs) (hn : n ≤ 4096) (hnc : n ≤ c) (hc : c ≤ maxLen) (hq : 1 ≤ q) (hqn : q ≤ n) :
    Calls Try.prog 18 #[.slice A n c, .int .i64 (q : Int)] w (WinYes w n q bs) := by
  unfold maxLen at hc
  have t1 : ¬ (q : Int) < 1 := by omega
  have t2 : ¬ (n : Int) < (q : Int) := by omega
  obtain ⟨i0, hi, hz0, hz1, hz2⟩ := info_parts Try.info22
  obtain ⟨Zs, hZs, hmk⟩ : ∃ Zs : Array Value, Zs.size = n - q + 1 ∧ ∀ u : World, (Instr.makeSlice 28 (.int .i64 ((n : Int) - q + 1)) (.int .i64 ((n : Int) - q + 1))).run Try.prog u =
      .ok (.slice (some ⟨u.heap.size, 0, none⟩) (n - q + 1) (n - q + 1)) (u.alloc (.cells Zs 22)) := by
    refine ⟨madeCells #[.int .u32 0] (n - q + 1), size_madeCells _ _, fun u => ?_⟩
    have h := run_make (P := Try.prog) u 28 22 i0 (.int .u32 0) Try.underlying28 hi hz0 .i64 .i64 ((n : Int) - q + 1) ((n : Int) - q + 1) (by omega) (Int.le_refl _) (by rw [hz2]; omega) (by omega)
    have e : ((n : Int) - q + 1).toNat = n - q + 1 := by omega
    rw [e] at h
    simpa [hz1, Value.cells] using h
  have hZs' := Lib.hid hZs
  obtain ⟨z0, hzz⟩ : ∃ z, Zs[0]? = some z := ⟨_, Array.getElem?_eq_getElem (by omega)⟩
  clear hi hz0 hz1 hz2
  go_enter Try.func18, Try.ntmps18
  go_wp2_with fail
  refine (columns_any q w (by unfold maxLen; omega)).mono ?_
  rintro e w1 ⟨⟨cs, rfl, hcs, hrow⟩, hb1⟩
  have hcs' := Lib.hid hcs
  have hrow' := Lib.hid hrow
  have hO := Lib.hid (col_one hcs hrow)
  have hS := Lib.hid (show (Try.prog.info? 41).map (·.size) = some cs.size by rw [hcs]; exact Try.size41)
  clear hcs hrow
  go_wp2_with (refine wpList_store_row_to rfl 41 (.tmp 5) (.tmp 19) rfl w1.heap.size cs rfl rfl 41 _ (heap_alloc_new w1 _) hS.out (by first | (rw [hcs'.out]; rfl) | rw [hcs'.out]) hO.out ?_; intro W2 hF2 hb2 hz2)
  have hbW : Below w.heap.size w W2 := (hb1.trans ((Below.refl _ _).alloc hb1.size _)).trans (hb2.mono hb1.size)
  have hB2 := (hB.below hbW).upto hqn
  have hF2' := Lib.hid hF2
  clear hF2 hb2
  have t3 : (0 : Int) ≤ (q : Int) := by omega
  have t4 : (q : Int) ≤ (c : Int) := by omega
  go_quiet ((go_at_call 11; first | exact Calls.quiet_of_same (sum_q none 0 0 [] _ (Bts.none_ _) (by unfold maxLen; omega)) | exact Calls.quiet_of_same (sum_q A q c (bs.take q) _ hB2 (by unfold maxLen; omega))))
  have hZ1 : 0 < Zs.size := by omega
  clear hZs
  go_wp2_with fail
  go_loopw [6, 7, 9] (fun be en i wr => ∃ (k : Nat) (d : Array Value), k + 1 ≤ n - q + 1 ∧ i = .int .i64 ((k : Int) + 1) ∧ be = .int .u32 (sumV (bs.take k) : Int) ∧ en = .int .u32 (sumV (bs.take (k + q)) : Int) ∧ d.size = n - q + 1 ∧
      (∀ j, j < k + 1 → d[j]? = some (.int .u32 (sumV ((bs.drop j).take q) : Int))) ∧ wr.heap[w1.heap.size]? = some (.cells cs 41 (0, 0)) ∧ wr.heap[w1.heap.size + 1]? = some (.cells d 22 (0, 0)) ∧ Below w.heap.size w wr) (fun _ _ i _ => n - (intOf i).toNat)
  case atStart =>
    have hW := (Below.heap_alloc (W2.drewN nq) (.cells (Zs.setIfInBounds 0 (.int .u32 (sumV (bs.take q) : Int))) 22) w1.heap.size (by rw [show (W2.drewN nq).heap.size = W2.heap.size from rfl, hz2]; simp)).trans (show (W2.drewN nq).heap[w1.heap.size]? = _ from hF2'.out)
    have hN := heap_alloc_new (W2.drewN nq) (.cells (Zs.setIfInBounds 0 (.int .u32 (sumV (bs.take q) : Int))) 22)
    rw [show (W2.drewN nq).heap.size = w1.heap.size + 1 from hz2.trans (by simp)] at hN
    exact ⟨0, _, by omega, rfl, rfl, by rw [Nat.zero_add], by rw [Array.size_setIfInBounds]; exact hZs'.out, row_one hZ1, hW, hN, (draws hbW nq).alloc (by rw [show (W2.drewN nq).heap.size = W2.heap.size from rfl]; exact hbW.size) _⟩
  case round =>
    obtain ⟨k, d, hk, rfl, rfl, rfl, hd, hrow, hF, hG, hbW⟩ := hrel
    by_cases hlt : k + 1 < n - q + 1
    · have hBr := Lib.hid (hB.below hbW)
      have hl : bs.length = n := hB.1
      have hsl := Lib.hid (slide bs (k + 1) q (by rw [List.length_drop, hl]; omega))
      clear hl
      have hm1 := Lib.hid (more_take bs k 1)
      have hm2 := Lib.hid (more_take bs (k + q) 1)
      have e3 := Lib.hid (show k + q + 1 = k + 1 + q by omega)
      have e4 := Lib.hid (show k + 1 + q - (k + q) = 1 by omega)
      have hs1 := sumV_lt (bs.take k)
      have hs2 := sumV_lt (bs.take (k + q))
      have hs3 := sumV_lt (bs.take (k + 1))
      obtain ⟨old, hold⟩ : ∃ v, d[k + 1]? = some v := ⟨_, Array.getElem?_eq_getElem (by omega)⟩
      have hold' := Lib.hid hold
      have hrs := Lib.hid (row_set (d := d) (bs := bs) (k := k) (q := q) (by omega) hsl.out hrow)
      have hd' := Lib.hid hd
      have hF' := Lib.hid hF
      have hG' := Lib.hid hG
      have hgl : w1.heap.size + 1 < wr.heap.size := (Array.getElem?_eq_some_iff.1 hG).1
      clear hF hG hrow
      clear hold
      clear hd
      go_wp2_with fail
      refine (more_any _ _ 1 _ _ wr hs1 (hBr.out.cut (by omega)) (by unfold maxLen; omega)).mono ?_
      rintro e w' ⟨rfl, rfl⟩
      rw [hm1.out]
      go_wp2_with fail
      rw [e4.out]
      refine (more_any _ _ 1 _ _ wr hs2 (hBr.out.cut (by omega)) (by unfold maxLen; omega)).mono ?_
      rintro e w' ⟨rfl, rfl⟩
      rw [hm2.out, e3.out]
      go_wp2_with (with_reducible refine wpList_load_row rfl 41 (.tmp 5) rfl w1.heap.size rfl 41 cs (0, 0) _ hF'.out Try.underlying41 rfl hS.out ?_)
      refine (carry_any cs (fun i => it (8 * q) H (2 ^ i)) _ wr hcs'.out hrow'.out (col_lt q) hs3).mono ?_
      rintro e w2 ⟨rfl, hb3⟩
      have hG2 := (hb3.block _ hgl).trans hG'.out
      have hF2 := (hb3.block w1.heap.size (by omega)).trans hF'.out
      have hc2 : w2.cell? ⟨w1.heap.size + 1, k + 1, none⟩ = some old := (cell_of_row w2 _ (k + 1) d _ _ hG2).trans hold'.out
      have hf2 : w2.frozen? ⟨w1.heap.size + 1, k + 1, none⟩ = false := frozen_of_row w2 _ (k + 1) d _ hG2
      have hG2' := Lib.hid hG2
      have hF2'' := Lib.hid hF2
      clear hG2 hF2
      go_wp2_with fail
      go_roundw
      case rel => exact ⟨k + 1, _, by omega, by go_num, rfl, rfl, by rw [Array.size_setIfInBounds]; exact hd'.out, hrs.out, (heap_setCell_other _ _ _ _ (by simp)).trans hF2''.out, heap_setCell_same _ _ _ _ _ _ hG2'.out, (hbW.trans (hb3.mono hbW.size)).setCell (by have := hb1.size; simp; omega) _⟩
      case measure => simp [intOf]; omega
    · have hL := Lib.hid (show k + 1 = n - q + 1 by omega)
      have hrow' := Lib.hid hrow
      have hG' := Lib.hid hG
      have hd' := Lib.hid hd
      clear hrow hG hF hd
      go_wp2_with fail
      go_ret
      exact ⟨w1.heap.size + 1, rfl, Nat.le_succ_of_le hb1.size, ⟨d, hd'.out, fun j hj => hrow'.out j (by rw [hL.out]; exact hj), hG'.out⟩, hbW⟩

set_option maxHeartbeats 400000 in
theorem windows_no (A : Option Addr) (n c : Nat) (x : Int) (w : World) (hx : x < 1 ∨ (n : Int) < x) :
    Calls Try.prog 18 #[.slice A n c, .int .i64 x] w fun e w' => e = .returned (.slice none 0 0) ∧ w = w' := by
  by_cases h1 : x < 1
  · clear hx
    go_enter Try.func18, Try.ntmps18
    go_wp2_with fail
    go_ret
    exact ⟨rfl, rfl⟩
  · have h2 : (n : Int) < x := by omega
    clear hx
    go_enter Try.func18, Try.ntmps18
    go_wp2_with fail
    go_ret
    exact ⟨rfl, rfl⟩
end Go.Proofs.Ytkfggbafgjephaa
