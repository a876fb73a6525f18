/- Cut of the program's disk; Settle, whole. -/
import Derived.Test.YtffenadibnehfaaSecProgD
import Derived.Deep.QuietTactic
import Derived.BigQuiet
import Derived.StillTailTactics
namespace Go.Proofs.Ytffenadibnehfaa
open Go.RowKit

def wrtL (i : Nat) (s : List UInt8) : List Value := .int .i64 (i : Int) :: s.map byteV
theorem wro_at : ∀ (l : List (Nat × List UInt8)) (k : Nat) (x : Nat × List UInt8), (∀ y ∈ l, y.2.length = 128) → l[k]? = some x → ∀ t u, (wrtL x.1 x.2)[t]? = some u → (wroCells l)[k * 129 + t]? = some u
  | [], k, x, _, h => by simp at h
  | y :: r, 0, x, hl, h => by
    simp at h
    subst h
    intro t u ht
    rw [Nat.zero_mul, Nat.zero_add]
    have e : wroCells (y :: r) = wrtL y.1 y.2 ++ wroCells r := by simp [wroCells, wrtL]
    rw [e, List.getElem?_append_left (List.getElem?_eq_some_iff.1 ht).1]
    exact ht
  | y :: r, k + 1, x, hl, h => by
    intro t u ht
    have ih := wro_at r k x (fun z hz => hl z (by simp [hz])) (by simpa using h) t u ht
    have e : wroCells (y :: r) = wrtL y.1 y.2 ++ wroCells r := by simp [wroCells, wrtL]
    have hy : (wrtL y.1 y.2).length = 129 := by simp [wrtL, hl y (by simp)]
    rw [e, List.getElem?_append_right (by omega), hy, show (k + 1) * 129 + t - 129 = k * 129 + t by omega]
    exact ih
theorem wrtL_len {i : Nat} {s : List UInt8} (h : s.length = 128) : (wrtL i s).length = 129 := by simp [wrtL, h]
theorem atV_len {d : RD} (h : Good d) {i : Nat} (hi : i < d.base.length) : ∀ m, (atV d.base d.wr i m).length = 128
  | 0 => by
    show (d.base.getD i []).length = 128
    rw [List.getD_eq_getElem?_getD, List.getElem?_eq_getElem hi]
    exact h.base _ (List.getElem_mem hi)
  | m + 1 => by
    cases hm : d.wr[m]? with
    | none =>
      have : atV d.base d.wr i (m + 1) = atV d.base d.wr i m := by rw [atV, hm]
      rw [this]
      exact atV_len h hi m
    | some x =>
      by_cases e : x.1 = i
      · rw [atV_hit hm e]
        exact h.what x (List.mem_of_getElem? hm)
      · rw [atV_miss hm e]
        exact atV_len h hi m
theorem mapV_step {d : RD} {j : Nat} {x : Nat × List UInt8} (hx : d.wr[j]? = some x) (hl : x.1 < d.base.length) : ∀ i, mapV d (j + 1) i = upd (mapV d j) x.1 x.2 i := fun i => by
  show (if i < d.base.length then atV d.base d.wr i (j + 1) else zsec) = if i = x.1 then x.2 else (if i < d.base.length then atV d.base d.wr i j else zsec)
  by_cases h : i < d.base.length
  · rw [if_pos h, if_pos h]
    by_cases e : i = x.1
    · rw [if_pos e, atV_hit hx e.symm]
    · rw [if_neg e, atV_miss hx (fun e2 => e e2.symm)]
  · rw [if_neg h, if_neg h, if_neg (by omega)]
/-- the sectors behind m writes, as a new base -/
theorem getD_ats (d : RD) (m n i : Nat) (h : i < n) : (atsV d m n).getD i [] = atV d.base d.wr i m := by
  unfold atsV
  rw [List.getD_eq_getElem?_getD, List.getElem?_map, List.getElem?_range h]
  rfl
theorem good_ats {d d' : RD} (h : Good d) (m : Nat) (hb : d'.base = atsV d m d.base.length) (hw : d'.wr = []) (hl : d'.armed = true → 0 ≤ d'.left) : Good d' := by
  refine ⟨by rw [hb, atsV_len]; exact h.sectors, ?_, (fun x hx => by rw [hw] at hx; cases hx), (fun x hx => by rw [hw] at hx; cases hx), hl⟩
  intro s hs
  rw [hb] at hs
  obtain ⟨i, hi, rfl⟩ := List.mem_map.1 hs
  exact atV_len h (List.mem_range.1 hi) m
theorem mapV_ats {d d' : RD} (m k : Nat) (hb : d'.base = atsV d m d.base.length) (hw : d'.wr = []) (hk : k = 0) : ∀ i, mapV d' k i = mapV d m i := fun i => by
  subst hk
  unfold mapV
  rw [hb, atsV_len]
  by_cases h : i < d.base.length
  · rw [if_pos h, if_pos h]
    show (atsV d m d.base.length).getD i [] = _
    exact getD_ats d m _ i h
  · rw [if_neg h, if_neg h]

theorem psettle_any {w : World} {S : Nat → Prop} {B p : Nat} {d : RD} {bb nb : Nat} {lv : Value} (h : PDat w S B p d bb nb lv) :
    Calls Try.prog 15 #[.pointer (some ⟨p, 0, none⟩)] w fun e w' => e = .returned (.tuple #[]) ∧ ∃ S', PDat w' S' B p (settleV d) bb nb (.slice none 0 0) ∧ (∀ k, S' k → S k) ∧ FrS S B w w' := by
  refine (psettle_raw w p d.base.length bb nb lv d.gone d.armed d.left _ _ h.disk h.base h.now h.ne (by have := h.good.sectors; omega)).mono ?_
  rintro e w' ⟨rfl, hd, hb, hn, hB⟩
  have hsl : (settleV d).base.length = d.base.length := atsV_len _ _ _
  refine ⟨rfl, fun k => k = p ∨ k = bb ∨ k = nb, { stands := fun k => ?_, lowP := h.lowP, lowB := h.lowB, lowN := h.lowN, ne := h.ne, good := good_ats h.good d.wr.length rfl rfl h.good.left, disk := ?_, base := ?_, now := ?_, row := World.ownsRow_nil _ _ _ _ }, ?_, hB.os, hB.tape, hB.output, hB.size, ?_⟩
  · constructor
    · rintro (h | h | h)
      · exact .inl h
      · exact .inr (.inl h)
      · exact .inr (.inr (.inl h))
    · rintro (h | h | h | h)
      · exact .inl h
      · exact .inr (.inl h)
      · exact .inr (.inr h)
      · cases h
  · rw [hd]
    unfold diskCells
    rw [hsl]
    rfl
  · rw [hsl]
    exact hb.eq (mapV_ats d.wr.length 0 rfl rfl rfl)
  · rw [hsl]
    exact hn.eq (mapV_ats d.wr.length _ rfl rfl rfl)
  · rintro k (e | e | e)
    · exact (h.stands k).2 (.inl e)
    · exact (h.stands k).2 (.inr (.inl e))
    · exact (h.stands k).2 (.inr (.inr (.inl e)))
  · intro k hk hn
    refine hB.block k hk (fun e => hn ⟨(h.stands k).2 (.inl e), by rw [e]; exact h.lowP⟩) (fun e => hn ⟨(h.stands k).2 (.inr (.inl e)), by rw [e]; exact h.lowB⟩)
theorem wpStill_load {P : Program} {ops : Array Oper} {w : World} {Q : Act → Prop} {o : Oper} {rest : List Oper} {a : Act} (hgd : o.guard = none) (ty : TypeId) (x : Operand) (v u : Value) (ho : o.op = .load ty x) (hx : a.eval x = v) (hl : (Instr.loadAt ty v).run P w = .ok u w)
    (h : wpStill P ops w Q rest (a.put o.dst u)) : wpStill P ops w Q (o :: rest) a := by
  refine wpStill_step fun K hK => ?_
  have hw : Region.wanted o (yielded ops a.tmps) = true := by simp [Region.wanted, hgd]
  rw [if_pos hw]
  unfold Oper.still execOp
  simp only [ho, hx, Sem.run_bind, hl, Result.andThen_ok, Sem.run_pure, Oper.stillUpon_value]
  exact hK _ h
theorem cut_final {w wr w5 : World} {d : RD} {k : Int} {m n X b1 n1 : Nat} (hgood : Good d) (hn : n = d.base.length) (hm : kept d k = m) (hX : w.heap.size ≤ X) (hb1 : w.heap.size ≤ b1) (hn1 : w.heap.size ≤ n1) (hne : b1 ≠ n1)
    (hd : w5.heap[X]? = some (.cells #[.int .i64 (n : Int), .map (some b1), .map (some n1), .slice none 0 0, .bool false, .bool false, .int .i64 0] 49 (0, 0))) (hb : SMap w5 b1 n (mapV d m)) (hn5 : SMap w5 n1 n (mapV d m)) (hbel : Below w.heap.size w wr) (hB5 : But2 X b1 wr w5) :
    PDat w5 (fun k => k = X ∨ k = b1 ∨ k = n1) w.heap.size X (cutV d k) b1 n1 (.slice none 0 0) ∧ Below w.heap.size w w5 := by
  subst hn
  have hsl : (cutV d k).base.length = d.base.length := atsV_len _ _ _
  have hbase : (cutV d k).base = atsV d m d.base.length := by rw [← hm]; rfl
  refine ⟨{ stands := fun k => ?_, lowP := hX, lowB := hb1, lowN := hn1, ne := hne, good := good_ats hgood m hbase rfl (fun e => by cases e), disk := ?_, base := ?_, now := ?_, row := World.ownsRow_nil _ _ _ _ }, ?_⟩
  · constructor
    · rintro (h | h | h)
      · exact .inl h
      · exact .inr (.inl h)
      · exact .inr (.inr (.inl h))
    · rintro (h | h | h | h)
      · exact .inl h
      · exact .inr (.inl h)
      · exact .inr (.inr h)
      · cases h
  · rw [hd]
    unfold diskCells
    rw [hsl]
    rfl
  · rw [hsl]
    exact hb.eq (mapV_ats m 0 hbase rfl rfl)
  · rw [hsl]
    exact hn5.eq (mapV_ats m _ hbase rfl rfl)
  · exact hbel.trans ⟨hB5.os, hB5.tape, hB5.output, hB5.size, fun j hj => hB5.block j (by have := hbel.size; omega) (by omega) (by omega)⟩
theorem kept_split (d : RD) (k : Int) : ∃ m : Nat, kept d k = m ∧ m ≤ d.wr.length ∧ ((k < 0 ∧ m = 0) ∨ (0 ≤ k ∧ k ≤ (d.wr.length : Int) ∧ k = (m : Int)) ∨ (0 ≤ k ∧ (d.wr.length : Int) < k ∧ m = d.wr.length)) := by
  refine ⟨kept d k, rfl, ?_, ?_⟩
  · unfold kept; omega
  · unfold kept; omega

set_option maxRecDepth 20000 in
set_option maxHeartbeats 3200000 in
theorem pcut_any {w : World} {S : Nat → Prop} {B p : Nat} {d : RD} {bb nb : Nat} {lv : Value} (h : PDat w S B p d bb nb lv) (hw : d.wr.length ≤ 100000) (k : Int) :
    Calls Try.prog 10 #[.pointer (some ⟨p, 0, none⟩), .int .i64 k] w fun e w' => ∃ X S' b1 n1 l1, e = .returned (.pointer (some ⟨X, 0, none⟩)) ∧ PDat w' S' w.heap.size X (cutV d k) b1 n1 l1 ∧ (∀ j, S' j → w.heap.size ≤ j) ∧ Below w.heap.size w w' := by
  have h' := Lib.hid h
  have hs := h.good.sectors
  have hlt := h.lt
  obtain ⟨n, hn⟩ : ∃ n, n = d.base.length := ⟨_, rfl⟩
  have hnew : newN (n : Int) = n := by unfold newN; omega
  have c0 := cell_of_row w p 0 _ _ _ h.disk
  obtain ⟨A, c, rfl, hlc, hcm, hA0, hA⟩ := own_form h.row
  unfold diskCells at c0
  rw [← hn] at c0 hs
  simp at c0
  have hn' := Lib.hid hn
  have hnew' := Lib.hid hnew
  have hA' := Lib.hid hA
  have hw' := Lib.hid hw
  obtain ⟨m, hm, hmw, hcases⟩ := kept_split d k
  have hm' := Lib.hid hm
  have hmw' := Lib.hid hmw
  clear h hn hnew hA0 hA hm
  rcases hcases with ⟨k1, rfl⟩ | ⟨k1, k2, rfl⟩ | ⟨k1, k2, rfl⟩
  · go_enter Try.func10, Try.ntmps10
    go_wp2_with fail
    refine (pnew_any w (n : Int)).mono ?_
    rintro e w1 ⟨X, S1, b1, n1, l1, rfl, hP1, hS1, hb1⟩
    have hP1' := Lib.hid hP1
    have hb1' := Lib.hid hb1
    have hz1 := hb1.size
    have hh1 := Lib.hid (h'.out.below hb1)
    have x2 := cell_of_row w1 X 2 _ _ _ hP1.disk
    have p1 := cell_of_row w1 p 1 _ _ _ hh1.out.disk
    have p3 := cell_of_row w1 p 3 _ _ _ hh1.out.disk
    unfold diskCells at x2 p1 p3
    simp at x2 p1 p3
    have hMb : SMap w1 b1 n (fun _ => zsec) := by have := hP1.base; rw [new_len, hnew'.out] at this; exact this.eq fun i => (mapV_new _ _ i rfl).symm
    have hMn : SMap w1 n1 n (fun _ => zsec) := by have := hP1.now; rw [new_len, hnew'.out] at this; exact this.eq fun i => (mapV_new _ _ i rfl).symm
    have hMb' := Lib.hid hMb
    have hMn' := Lib.hid hMn
    have hS1' := Lib.hid hS1
    clear hP1 hb1 hS1 hMb hMn c0
    go_wp2_with fail
    have hDb := Lib.hid (show SMap w1 bb n (mapV d 0) by rw [hn'.out]; exact hh1.out.base)
    have hbn : n1 ≠ bb := fun e => by have h1 := hS1'.out n1 ((hP1'.out.stands n1).2 (.inr (.inr (.inl rfl)))); have h2 := h'.out.base.lt; omega
    have hbn' := Lib.hid hbn
    clear hbn
    go_still_tail 8, (by kernel_rfl)
    change wpList _ _ _ _ _ w1.drew
    go_wp2_with fail
    refine (copy_any w1.drew n1 bb n (mapV d 0) (hMn'.out.kept rfl) (hDb.out.kept rfl) (by omega) hbn'.out).mono ?_
    rintro e w2 ⟨rfl, hM2, hg2⟩
    have hz2 : w1.heap.size ≤ w2.heap.size := hg2.size
    have hk2 : ∀ k, k < w1.heap.size → k ≠ n1 → w2.heap[k]? = w1.heap[k]? := fun k hk hn => hg2.block k hk (fun e => hn (Option.some.inj e))
    have hn1 : w.heap.size ≤ n1 := hS1'.out n1 ((hP1'.out.stands n1).2 (.inr (.inr (.inl rfl))))
    have hb2 : Below w.heap.size w w2 := hb1'.out.trans ⟨hg2.os, hg2.tape, hg2.output, hg2.size, fun k hk => hk2 k (by omega) (by omega)⟩
    have hd2 := Lib.hid ((hk2 X hP1'.out.lt hP1'.out.ne_n.symm).trans hP1'.out.disk)
    have hMb2 := Lib.hid (hMb'.out.kept (hk2 b1 hMb'.out.lt hP1'.out.ne))
    have hM2' := Lib.hid hM2
    have hb2' := Lib.hid hb2
    have hh2 := Lib.hid (h'.out.below hb2)
    have q3 := cell_of_row w2 p 3 _ _ _ hh2.out.disk
    unfold diskCells at q3
    simp at q3
    clear hM2 hg2 hk2 hb2 x2 p1 p3 hz1
    go_wp2_with fail
    go_quiet (fail)
    go_wp2_with fail
    have hS0 := Lib.hid (show SMap (w2.drewN nq) n1 n (mapV d 0) from hM2'.out.kept rfl)
    have hG0 := Lib.hid (show w2.grownBy (w2.drewN nq) (some n1) from ⟨rfl, rfl, rfl, Nat.le_refl _, fun _ _ _ => rfl⟩)
    go_loopw [38] (fun v wr => ∃ j : Nat, j ≤ 0 ∧ v = .int .i64 (j : Int) ∧ SMap wr n1 n (mapV d j) ∧ w2.grownBy wr (some n1)) (fun v _ => 0 - (intOf v).toNat)
    case atStart => exact ⟨0, Nat.zero_le _, rfl, hS0.out, hG0.out⟩
    case round =>
      obtain ⟨j, hj, rfl, hSj, hGj⟩ := hrel
      clear hS0 hG0 q3
      have hSj' := Lib.hid hSj
      have hGj' := Lib.hid hGj
      have hkj := Lib.hid (show ∀ k, k < w2.heap.size → k ≠ n1 → wr.heap[k]? = w2.heap[k]? from fun k hk hn => hGj.block k hk (fun e => hn (Option.some.inj e)))
      have hbj := Lib.hid (show Below w.heap.size w wr from hb2'.out.trans ⟨hGj.os, hGj.tape, hGj.output, hGj.size, fun k hk => hkj.out k (by have := hb2'.out.size; omega) (by omega)⟩)
      have hdj := Lib.hid ((hkj.out X (Array.getElem?_eq_some_iff.1 hd2.out).1 hP1'.out.ne_n.symm).trans hd2.out)
      have hMbj := Lib.hid (hMb2.out.kept (hkj.out b1 hMb2.out.lt hP1'.out.ne))
      clear hSj hGj
      by_cases h1 : j < 0
      · exact absurd h1 (Nat.not_lt_zero _)
      · have hjm : j = 0 := by omega
        have hjI : ¬ (j : Int) < (0 : Int) := by omega
        have hSm := Lib.hid (show SMap wr n1 n (mapV d (0)) by rw [← hjm]; exact hSj'.out)
        clear h1 hjm
        go_wp2_with fail
        have hdl := hdj.out
        unfold diskCells at hdl
        rw [new_len, hnew'.out] at hdl
        refine (psettle_raw wr X n b1 n1 l1 _ _ _ _ _ hdl hMbj.out hSm.out hP1'.out.ne (by omega)).mono ?_
        rintro e w5 ⟨rfl, hd5, hb5, hn5, hB5⟩
        have hd5' := Lib.hid hd5
        have hb5' := Lib.hid hb5
        have hn5' := Lib.hid hn5
        have hB5' := Lib.hid hB5
        clear hdl hd5 hb5 hn5 hB5
        go_wp2_with fail
        go_ret
        have hSX := hS1'.out
        have hfin := cut_final h'.out.good hn'.out hm'.out (hSX X ((hP1'.out.stands X).2 (.inl rfl))) (hSX b1 ((hP1'.out.stands b1).2 (.inr (.inl rfl)))) hn1 hP1'.out.ne hd5'.out hb5'.out hn5'.out hbj.out hB5'.out
        exact ⟨X, _, b1, n1, _, rfl, hfin.1, fun j hj => (by rcases hj with e | e | e <;> rw [e] <;> first | exact hSX X ((hP1'.out.stands X).2 (.inl rfl)) | exact hSX b1 ((hP1'.out.stands b1).2 (.inr (.inl rfl))) | exact hn1), hfin.2⟩
  · go_enter Try.func10, Try.ntmps10
    go_wp2_with fail
    refine (pnew_any w (n : Int)).mono ?_
    rintro e w1 ⟨X, S1, b1, n1, l1, rfl, hP1, hS1, hb1⟩
    have hP1' := Lib.hid hP1
    have hb1' := Lib.hid hb1
    have hz1 := hb1.size
    have hh1 := Lib.hid (h'.out.below hb1)
    have x2 := cell_of_row w1 X 2 _ _ _ hP1.disk
    have p1 := cell_of_row w1 p 1 _ _ _ hh1.out.disk
    have p3 := cell_of_row w1 p 3 _ _ _ hh1.out.disk
    unfold diskCells at x2 p1 p3
    simp at x2 p1 p3
    have hMb : SMap w1 b1 n (fun _ => zsec) := by have := hP1.base; rw [new_len, hnew'.out] at this; exact this.eq fun i => (mapV_new _ _ i rfl).symm
    have hMn : SMap w1 n1 n (fun _ => zsec) := by have := hP1.now; rw [new_len, hnew'.out] at this; exact this.eq fun i => (mapV_new _ _ i rfl).symm
    have hMb' := Lib.hid hMb
    have hMn' := Lib.hid hMn
    have hS1' := Lib.hid hS1
    clear hP1 hb1 hS1 hMb hMn c0
    go_wp2_with fail
    have hDb := Lib.hid (show SMap w1 bb n (mapV d 0) by rw [hn'.out]; exact hh1.out.base)
    have hbn : n1 ≠ bb := fun e => by have h1 := hS1'.out n1 ((hP1'.out.stands n1).2 (.inr (.inr (.inl rfl)))); have h2 := h'.out.base.lt; omega
    have hbn' := Lib.hid hbn
    clear hbn
    go_still_tail 8, (by kernel_rfl)
    change wpList _ _ _ _ _ w1.drew
    go_wp2_with fail
    refine (copy_any w1.drew n1 bb n (mapV d 0) (hMn'.out.kept rfl) (hDb.out.kept rfl) (by omega) hbn'.out).mono ?_
    rintro e w2 ⟨rfl, hM2, hg2⟩
    have hz2 : w1.heap.size ≤ w2.heap.size := hg2.size
    have hk2 : ∀ k, k < w1.heap.size → k ≠ n1 → w2.heap[k]? = w1.heap[k]? := fun k hk hn => hg2.block k hk (fun e => hn (Option.some.inj e))
    have hn1 : w.heap.size ≤ n1 := hS1'.out n1 ((hP1'.out.stands n1).2 (.inr (.inr (.inl rfl))))
    have hb2 : Below w.heap.size w w2 := hb1'.out.trans ⟨hg2.os, hg2.tape, hg2.output, hg2.size, fun k hk => hk2 k (by omega) (by omega)⟩
    have hd2 := Lib.hid ((hk2 X hP1'.out.lt hP1'.out.ne_n.symm).trans hP1'.out.disk)
    have hMb2 := Lib.hid (hMb'.out.kept (hk2 b1 hMb'.out.lt hP1'.out.ne))
    have hM2' := Lib.hid hM2
    have hb2' := Lib.hid hb2
    have hh2 := Lib.hid (h'.out.below hb2)
    have q3 := cell_of_row w2 p 3 _ _ _ hh2.out.disk
    unfold diskCells at q3
    simp at q3
    clear hM2 hg2 hk2 hb2 x2 p1 p3 hz1
    go_wp2_with fail
    go_quiet (fail)
    go_wp2_with fail
    have hS0 := Lib.hid (show SMap (w2.drewN nq) n1 n (mapV d 0) from hM2'.out.kept rfl)
    have hG0 := Lib.hid (show w2.grownBy (w2.drewN nq) (some n1) from ⟨rfl, rfl, rfl, Nat.le_refl _, fun _ _ _ => rfl⟩)
    go_loopw [38] (fun v wr => ∃ j : Nat, j ≤ m ∧ v = .int .i64 (j : Int) ∧ SMap wr n1 n (mapV d j) ∧ w2.grownBy wr (some n1)) (fun v _ => m - (intOf v).toNat)
    case atStart => exact ⟨0, Nat.zero_le _, rfl, hS0.out, hG0.out⟩
    case round =>
      obtain ⟨j, hj, rfl, hSj, hGj⟩ := hrel
      clear hS0 hG0 q3
      have hSj' := Lib.hid hSj
      have hGj' := Lib.hid hGj
      have hkj := Lib.hid (show ∀ k, k < w2.heap.size → k ≠ n1 → wr.heap[k]? = w2.heap[k]? from fun k hk hn => hGj.block k hk (fun e => hn (Option.some.inj e)))
      have hbj := Lib.hid (show Below w.heap.size w wr from hb2'.out.trans ⟨hGj.os, hGj.tape, hGj.output, hGj.size, fun k hk => hkj.out k (by have := hb2'.out.size; omega) (by omega)⟩)
      have hdj := Lib.hid ((hkj.out X (Array.getElem?_eq_some_iff.1 hd2.out).1 hP1'.out.ne_n.symm).trans hd2.out)
      have hMbj := Lib.hid (hMb2.out.kept (hkj.out b1 hMb2.out.lt hP1'.out.ne))
      clear hSj hGj
      by_cases h1 : j < m
      · have hjl : j < d.wr.length := by have := hmw'.out; omega
        have hx : d.wr[j]? = some d.wr[j] := List.getElem?_eq_getElem hjl
        obtain ⟨g, rfl, hg1, hg2, hcw⟩ := hA'.out (by omega)
        generalize d.wr[j] = x at *
        have hx1 := h'.out.good.at_ x (List.mem_of_getElem? hx)
        have hx2 := Lib.hid (h'.out.good.what x (List.mem_of_getElem? hx))
        have hrng : Hid (wr.rangeAt g (j * 129) (wrtL x.1 x.2)) := Lib.hid fun t u ht => (hbj.out.cell (p := ⟨g, j * 129 + t, none⟩) hg2).trans (hcw _ _ (wro_at d.wr j x h'.out.good.what hx t u ht))
        have hx' := Lib.hid hx
        have hjI : (j : Int) < (m : Int) := by omega
        have hx1' := Lib.hid (show x.1 < n by rw [hn'.out]; exact hx1)
        have x2 := cell_of_row wr X 2 _ _ _ hdj.out
        unfold diskCells at x2
        simp at x2
        have hXl : X < wr.heap.size := (Array.getElem?_eq_some_iff.1 hdj.out).1
        clear hcw hx hx1
        go_wp2_with (first
          | (refine wpList_load_mid rfl 58 (.tmp 40) rfl g (j * 129) rfl (wrtL x.1 x.2) _ hrng.out Try.underlying58 rfl (by rw [wrtL_len hx2.out]; exact size_wrt) ?_)
          | (refine wpList_alloc_wrt rfl rfl ?_)
          | (refine wpList_store_row_to rfl 58 (.tmp 7) (.tmp 41) rfl wr.heap.size (wrtA (x.1 : Int) x.2) rfl rfl 58 (wrtA 0 zsec) (heap_alloc_new wr _) (by rw [wrtA_size hx2.out]; exact size_wrt) (by rw [wrtA_size hx2.out, wrtA_size zsec_len]) (wrtA_one _ _) ?_; intro w3 hF3 hb3 hz3; have hF3' := Lib.hid hF3; clear hF3)
          | go_in)
        go_frame
        have hb13 : Below wr.heap.size wr w3 := ((Below.refl wr.heap.size wr).alloc (Nat.le_refl _) _).trans hb3
        have hd3 := Lib.hid ((hb13.block X hXl).trans hdj.out)
        have x23 := cell_of_row w3 X 2 _ _ _ hd3.out
        unfold diskCells at x23
        simp at x23
        have hS3 := Lib.hid (hSj'.out.kept (hb13.block n1 hSj'.out.lt))
        have hld : (Instr.loadAt 58 (.pointer (some ⟨wr.heap.size, 0, none⟩))).run Try.prog w3.drew = .ok (.agg (wrtA (x.1 : Int) x.2)) w3.drew := by
          have e := run_loadVar_row (P := Try.prog) w3.drew wr.heap.size 58 58 (wrtA (x.1 : Int) x.2) (0, 0) _ hF3'.out Try.underlying58 rfl (by rw [wrtA_size hx2.out]; exact size_wrt)
          simp only [Instr.loadAt, Instr.sureAddr, Sem.run_bind, Sem.run_pure, Result.andThen_ok, e]
        have hb13' := Lib.hid hb13
        clear hb13 x2 hb3
        go_still_tail 5, (by kernel_rfl)
        change wpStill _ _ w3.drew _ _ _
        refine wpStill_load rfl 58 (.tmp 7) _ _ rfl rfl hld ?_
        refine wpStill_nil ?_
        go_frame
        clear hld
        go_wp2_with fail
        refine (put_any w3.drew n1 n x.1 (mapV d j) x.2 (wrtA (x.1 : Int) x.2) (hS3.out.kept rfl) hx1'.out (by omega) hx2.out rfl).mono ?_
        rintro e w4 ⟨rfl, hS4, hg4⟩
        have hS5 := Lib.hid (hS4.eq (m' := mapV d (j + 1)) (mapV_step hx'.out (by rw [← hn'.out]; exact hx1'.out)))
        have hG5 := Lib.hid (show w2.grownBy w4 (some n1) from (hGj'.out.andThen (grown_of_below hb13'.out) (fun i hi => by cases hi)).andThen (show w3.grownBy w4 (some n1) from ⟨hg4.os, hg4.tape, hg4.output, hg4.size, hg4.block⟩) (fun i hi => .inr hi))
        clear hS4 hg4 x23
        go_wp2_with fail
        go_roundw
        case rel => exact ⟨j + 1, by omega, by go_num, hS5.out, hG5.out⟩
        case measure => simp [intOf]; omega
      · have hjm : j = m := by omega
        have hjI : ¬ (j : Int) < (m : Int) := by omega
        have hSm := Lib.hid (show SMap wr n1 n (mapV d m) by rw [← hjm]; exact hSj'.out)
        clear h1 hjm
        go_wp2_with fail
        have hdl := hdj.out
        unfold diskCells at hdl
        rw [new_len, hnew'.out] at hdl
        refine (psettle_raw wr X n b1 n1 l1 _ _ _ _ _ hdl hMbj.out hSm.out hP1'.out.ne (by omega)).mono ?_
        rintro e w5 ⟨rfl, hd5, hb5, hn5, hB5⟩
        have hd5' := Lib.hid hd5
        have hb5' := Lib.hid hb5
        have hn5' := Lib.hid hn5
        have hB5' := Lib.hid hB5
        clear hdl hd5 hb5 hn5 hB5
        go_wp2_with fail
        go_ret
        have hSX := hS1'.out
        have hfin := cut_final h'.out.good hn'.out hm'.out (hSX X ((hP1'.out.stands X).2 (.inl rfl))) (hSX b1 ((hP1'.out.stands b1).2 (.inr (.inl rfl)))) hn1 hP1'.out.ne hd5'.out hb5'.out hn5'.out hbj.out hB5'.out
        exact ⟨X, _, b1, n1, _, rfl, hfin.1, fun j hj => (by rcases hj with e | e | e <;> rw [e] <;> first | exact hSX X ((hP1'.out.stands X).2 (.inl rfl)) | exact hSX b1 ((hP1'.out.stands b1).2 (.inr (.inl rfl))) | exact hn1), hfin.2⟩
  · go_enter Try.func10, Try.ntmps10
    go_wp2_with fail
    refine (pnew_any w (n : Int)).mono ?_
    rintro e w1 ⟨X, S1, b1, n1, l1, rfl, hP1, hS1, hb1⟩
    have hP1' := Lib.hid hP1
    have hb1' := Lib.hid hb1
    have hz1 := hb1.size
    have hh1 := Lib.hid (h'.out.below hb1)
    have x2 := cell_of_row w1 X 2 _ _ _ hP1.disk
    have p1 := cell_of_row w1 p 1 _ _ _ hh1.out.disk
    have p3 := cell_of_row w1 p 3 _ _ _ hh1.out.disk
    unfold diskCells at x2 p1 p3
    simp at x2 p1 p3
    have hMb : SMap w1 b1 n (fun _ => zsec) := by have := hP1.base; rw [new_len, hnew'.out] at this; exact this.eq fun i => (mapV_new _ _ i rfl).symm
    have hMn : SMap w1 n1 n (fun _ => zsec) := by have := hP1.now; rw [new_len, hnew'.out] at this; exact this.eq fun i => (mapV_new _ _ i rfl).symm
    have hMb' := Lib.hid hMb
    have hMn' := Lib.hid hMn
    have hS1' := Lib.hid hS1
    clear hP1 hb1 hS1 hMb hMn c0
    go_wp2_with fail
    have hDb := Lib.hid (show SMap w1 bb n (mapV d 0) by rw [hn'.out]; exact hh1.out.base)
    have hbn : n1 ≠ bb := fun e => by have h1 := hS1'.out n1 ((hP1'.out.stands n1).2 (.inr (.inr (.inl rfl)))); have h2 := h'.out.base.lt; omega
    have hbn' := Lib.hid hbn
    clear hbn
    go_still_tail 8, (by kernel_rfl)
    change wpList _ _ _ _ _ w1.drew
    go_wp2_with fail
    refine (copy_any w1.drew n1 bb n (mapV d 0) (hMn'.out.kept rfl) (hDb.out.kept rfl) (by omega) hbn'.out).mono ?_
    rintro e w2 ⟨rfl, hM2, hg2⟩
    have hz2 : w1.heap.size ≤ w2.heap.size := hg2.size
    have hk2 : ∀ k, k < w1.heap.size → k ≠ n1 → w2.heap[k]? = w1.heap[k]? := fun k hk hn => hg2.block k hk (fun e => hn (Option.some.inj e))
    have hn1 : w.heap.size ≤ n1 := hS1'.out n1 ((hP1'.out.stands n1).2 (.inr (.inr (.inl rfl))))
    have hb2 : Below w.heap.size w w2 := hb1'.out.trans ⟨hg2.os, hg2.tape, hg2.output, hg2.size, fun k hk => hk2 k (by omega) (by omega)⟩
    have hd2 := Lib.hid ((hk2 X hP1'.out.lt hP1'.out.ne_n.symm).trans hP1'.out.disk)
    have hMb2 := Lib.hid (hMb'.out.kept (hk2 b1 hMb'.out.lt hP1'.out.ne))
    have hM2' := Lib.hid hM2
    have hb2' := Lib.hid hb2
    have hh2 := Lib.hid (h'.out.below hb2)
    have q3 := cell_of_row w2 p 3 _ _ _ hh2.out.disk
    unfold diskCells at q3
    simp at q3
    clear hM2 hg2 hk2 hb2 x2 p1 p3 hz1
    go_wp2_with fail
    go_quiet (fail)
    go_wp2_with fail
    have hS0 := Lib.hid (show SMap (w2.drewN nq) n1 n (mapV d 0) from hM2'.out.kept rfl)
    have hG0 := Lib.hid (show w2.grownBy (w2.drewN nq) (some n1) from ⟨rfl, rfl, rfl, Nat.le_refl _, fun _ _ _ => rfl⟩)
    go_loopw [38] (fun v wr => ∃ j : Nat, j ≤ d.wr.length ∧ v = .int .i64 (j : Int) ∧ SMap wr n1 n (mapV d j) ∧ w2.grownBy wr (some n1)) (fun v _ => d.wr.length - (intOf v).toNat)
    case atStart => exact ⟨0, Nat.zero_le _, rfl, hS0.out, hG0.out⟩
    case round =>
      obtain ⟨j, hj, rfl, hSj, hGj⟩ := hrel
      clear hS0 hG0 q3
      have hSj' := Lib.hid hSj
      have hGj' := Lib.hid hGj
      have hkj := Lib.hid (show ∀ k, k < w2.heap.size → k ≠ n1 → wr.heap[k]? = w2.heap[k]? from fun k hk hn => hGj.block k hk (fun e => hn (Option.some.inj e)))
      have hbj := Lib.hid (show Below w.heap.size w wr from hb2'.out.trans ⟨hGj.os, hGj.tape, hGj.output, hGj.size, fun k hk => hkj.out k (by have := hb2'.out.size; omega) (by omega)⟩)
      have hdj := Lib.hid ((hkj.out X (Array.getElem?_eq_some_iff.1 hd2.out).1 hP1'.out.ne_n.symm).trans hd2.out)
      have hMbj := Lib.hid (hMb2.out.kept (hkj.out b1 hMb2.out.lt hP1'.out.ne))
      clear hSj hGj
      by_cases h1 : j < d.wr.length
      · have hjl : j < d.wr.length := by have := hmw'.out; omega
        have hx : d.wr[j]? = some d.wr[j] := List.getElem?_eq_getElem hjl
        obtain ⟨g, rfl, hg1, hg2, hcw⟩ := hA'.out (by omega)
        generalize d.wr[j] = x at *
        have hx1 := h'.out.good.at_ x (List.mem_of_getElem? hx)
        have hx2 := Lib.hid (h'.out.good.what x (List.mem_of_getElem? hx))
        have hrng : Hid (wr.rangeAt g (j * 129) (wrtL x.1 x.2)) := Lib.hid fun t u ht => (hbj.out.cell (p := ⟨g, j * 129 + t, none⟩) hg2).trans (hcw _ _ (wro_at d.wr j x h'.out.good.what hx t u ht))
        have hx' := Lib.hid hx
        have hjI : (j : Int) < (d.wr.length : Int) := by omega
        have hx1' := Lib.hid (show x.1 < n by rw [hn'.out]; exact hx1)
        have x2 := cell_of_row wr X 2 _ _ _ hdj.out
        unfold diskCells at x2
        simp at x2
        have hXl : X < wr.heap.size := (Array.getElem?_eq_some_iff.1 hdj.out).1
        clear hcw hx hx1
        go_wp2_with (first
          | (refine wpList_load_mid rfl 58 (.tmp 40) rfl g (j * 129) rfl (wrtL x.1 x.2) _ hrng.out Try.underlying58 rfl (by rw [wrtL_len hx2.out]; exact size_wrt) ?_)
          | (refine wpList_alloc_wrt rfl rfl ?_)
          | (refine wpList_store_row_to rfl 58 (.tmp 7) (.tmp 41) rfl wr.heap.size (wrtA (x.1 : Int) x.2) rfl rfl 58 (wrtA 0 zsec) (heap_alloc_new wr _) (by rw [wrtA_size hx2.out]; exact size_wrt) (by rw [wrtA_size hx2.out, wrtA_size zsec_len]) (wrtA_one _ _) ?_; intro w3 hF3 hb3 hz3; have hF3' := Lib.hid hF3; clear hF3)
          | go_in)
        go_frame
        have hb13 : Below wr.heap.size wr w3 := ((Below.refl wr.heap.size wr).alloc (Nat.le_refl _) _).trans hb3
        have hd3 := Lib.hid ((hb13.block X hXl).trans hdj.out)
        have x23 := cell_of_row w3 X 2 _ _ _ hd3.out
        unfold diskCells at x23
        simp at x23
        have hS3 := Lib.hid (hSj'.out.kept (hb13.block n1 hSj'.out.lt))
        have hld : (Instr.loadAt 58 (.pointer (some ⟨wr.heap.size, 0, none⟩))).run Try.prog w3.drew = .ok (.agg (wrtA (x.1 : Int) x.2)) w3.drew := by
          have e := run_loadVar_row (P := Try.prog) w3.drew wr.heap.size 58 58 (wrtA (x.1 : Int) x.2) (0, 0) _ hF3'.out Try.underlying58 rfl (by rw [wrtA_size hx2.out]; exact size_wrt)
          simp only [Instr.loadAt, Instr.sureAddr, Sem.run_bind, Sem.run_pure, Result.andThen_ok, e]
        have hb13' := Lib.hid hb13
        clear hb13 x2 hb3
        go_still_tail 5, (by kernel_rfl)
        change wpStill _ _ w3.drew _ _ _
        refine wpStill_load rfl 58 (.tmp 7) _ _ rfl rfl hld ?_
        refine wpStill_nil ?_
        go_frame
        clear hld
        go_wp2_with fail
        refine (put_any w3.drew n1 n x.1 (mapV d j) x.2 (wrtA (x.1 : Int) x.2) (hS3.out.kept rfl) hx1'.out (by omega) hx2.out rfl).mono ?_
        rintro e w4 ⟨rfl, hS4, hg4⟩
        have hS5 := Lib.hid (hS4.eq (m' := mapV d (j + 1)) (mapV_step hx'.out (by rw [← hn'.out]; exact hx1'.out)))
        have hG5 := Lib.hid (show w2.grownBy w4 (some n1) from (hGj'.out.andThen (grown_of_below hb13'.out) (fun i hi => by cases hi)).andThen (show w3.grownBy w4 (some n1) from ⟨hg4.os, hg4.tape, hg4.output, hg4.size, hg4.block⟩) (fun i hi => .inr hi))
        clear hS4 hg4 x23
        go_wp2_with fail
        go_roundw
        case rel => exact ⟨j + 1, by omega, by go_num, hS5.out, hG5.out⟩
        case measure => simp [intOf]; omega
      · have hjm : j = d.wr.length := by omega
        have hjI : ¬ (j : Int) < (d.wr.length : Int) := by omega
        have hSm := Lib.hid (show SMap wr n1 n (mapV d (d.wr.length)) by rw [← hjm]; exact hSj'.out)
        clear h1 hjm
        go_wp2_with fail
        have hdl := hdj.out
        unfold diskCells at hdl
        rw [new_len, hnew'.out] at hdl
        refine (psettle_raw wr X n b1 n1 l1 _ _ _ _ _ hdl hMbj.out hSm.out hP1'.out.ne (by omega)).mono ?_
        rintro e w5 ⟨rfl, hd5, hb5, hn5, hB5⟩
        have hd5' := Lib.hid hd5
        have hb5' := Lib.hid hb5
        have hn5' := Lib.hid hn5
        have hB5' := Lib.hid hB5
        clear hdl hd5 hb5 hn5 hB5
        go_wp2_with fail
        go_ret
        have hSX := hS1'.out
        have hfin := cut_final h'.out.good hn'.out hm'.out (hSX X ((hP1'.out.stands X).2 (.inl rfl))) (hSX b1 ((hP1'.out.stands b1).2 (.inr (.inl rfl)))) hn1 hP1'.out.ne hd5'.out hb5'.out hn5'.out hbj.out hB5'.out
        exact ⟨X, _, b1, n1, _, rfl, hfin.1, fun j hj => (by rcases hj with e | e | e <;> rw [e] <;> first | exact hSX X ((hP1'.out.stands X).2 (.inl rfl)) | exact hSX b1 ((hP1'.out.stands b1).2 (.inr (.inl rfl))) | exact hn1), hfin.2⟩
end Go.Proofs.Ytffenadibnehfaa
