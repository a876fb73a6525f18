/- Write of the program's disk: the walk. -/
import Derived.Test.YtffenadibnehfaaSecProgF
namespace Go.Proofs.Ytffenadibnehfaa
open Go.RowKit

/-- bytes that were handed in lie in no disk's own block -/
theorem bytes_off {w : World} {p : Nat} {d : RD} {bb nb : Nat} {lv : Value} {A : Option Addr} {n : Nat} {b : List UInt8} {t : TypeId} {fr : Nat × Nat} (hb : Bts w A n b) (hd : w.heap[p]? = some (.cells (diskCells d bb nb lv) t fr)) (hlv : ∀ k z, lv ≠ .int k z) : ∀ ad, A = some ad → 0 < n → ad.block ≠ p := by
  intro ad e h0 ep
  obtain ⟨ad', c, e', _, hc⟩ := hb.at_ h0
  rw [e] at e'
  injection e' with e'
  subst e'
  have hadd : ad.add 0 = ad := by unfold Addr.add; simp
  rw [hadd] at hc
  unfold World.cell? at hc
  rw [ep, hd] at hc
  have hm : (Value.int .u8 (c.toNat : Int)) ∈ (diskCells d bb nb lv).toList := by
    simp only at hc
    split at hc
    · cases hc
    · exact Array.mem_toList_iff.2 (Array.mem_of_getElem? hc)
  unfold diskCells at hm
  simp at hm
  exact hlv _ _ hm.symm
theorem size_u8 : (Try.prog.info? 5).map (·.size) = some 1 := by kernel_rfl
theorem copy_src {w : World} {A : Option Addr} {n : Nat} {b : List UInt8} (h : Bts w A n b) (h0 : 0 < b.length) : ∃ ad, A = some ad ∧ ∀ j v, (b.map byteV)[j]? = some v → w.cell? (ad.add j) = some v := by
  obtain ⟨ad, _, e, _, _⟩ := h.at_ (k := 0) (by have := h.1; omega)
  refine ⟨ad, e, fun j v hj => ?_⟩
  rw [List.getElem?_map] at hj
  cases hc : b[j]? with
  | none => rw [hc] at hj; cases hj
  | some u =>
    rw [hc] at hj
    simp only [Option.map_some, Option.some.injEq] at hj
    obtain ⟨ad', e', _, hcell⟩ := h.2 j u hc
    rw [e] at e'
    injection e' with e'
    subst e'
    rw [← hj]
    exact hcell
theorem one_byte (b : List UInt8) : ∀ v ∈ b.map byteV, v.oneCell' = true := by
  intro v hv
  obtain ⟨u, _, rfl⟩ := List.mem_map.1 hv
  rfl
theorem wp_one_wrt {o : Oper} {a : Act} {w : World} {K : Act → World → Prop} {Q : Exit → Act → World → Prop} (x : Operand) (z : Int) (s : List UInt8) (ho : o.op = .buildSlice 47 1 #[(0, x)]) (hx : a.eval x = .agg (wrtA z s)) (hs : s.length = 128)
    (h : K (a.put o.dst (.slice (some ⟨w.heap.size, 0, none⟩) 1 1)) (w.alloc (.cells (wrtA z s) 58 (0, 0)))) : o.wp Try.prog a w K Q := by
  have e : (Array.map (fun x : Nat × Operand => (x.1, a.eval x.2)) #[(0, x)]) = #[(0, .agg (wrtA z s))] := by simp [hx]
  unfold Oper.wp execOp
  simp only [ho, Sem.run_bind, e, run_one_wrt w z s hs, Result.andThen_ok]
  exact h
set_option maxRecDepth 20000 in
set_option maxHeartbeats 3200000 in
theorem pwrite_ok {w : World} {S : Nat → Prop} {B p : Nat} {d : RD} {bb nb : Nat} {lv : Value} (h : PDat w S B p d bb nb lv) (hwl : d.wr.length ≤ 100000) (h63 : d.left ≤ 9223372036854775807) (i : Nat) (A : Option Addr) (n c : Nat) (b : List UInt8)
    (h0 : askedV d (i : Int) = 0) (hna : ¬ (d.armed = true ∧ d.left = 0)) (hB : Bts w A n b) (hn : n ≤ 128) (hnc : n ≤ c) (hcm : c ≤ maxLen) :
    Calls Try.prog 14 #[.pointer (some ⟨p, 0, none⟩), .int .i64 (i : Int), .slice A n c] w fun e w' => e = .returned (.int .i64 0) ∧ ∃ S' lv', PDat w' S' B p (wrote (takenIn d) i b) bb nb lv' ∧ (∀ k, S' k → S k ∨ w.heap.size ≤ k) ∧ FrS S B w w' := by
  have h' := Lib.hid h
  have h0' := Lib.hid h0
  have hi1 : i < d.base.length := by have := (asked_ok h0).2.2; omega
  have hpv : powerV d = (false, takenIn d) := by unfold powerV; rw [if_neg hna]
  have hpv' := Lib.hid hpv
  have hbl := hB.1
  have hnI : ¬ (128 : Int) < (n : Int) := by omega
  have hoff := Lib.hid (bytes_off hB h.disk (fun k z => by
    obtain ⟨A2, c2, e, _⟩ := own_form h.row
    rw [e]
    intro e2
    cases e2))
  have hB' := Lib.hid hB
  have hls := h.good.sectors
  clear h h0 hpv hna hB
  go_enter Try.func14, Try.ntmps14
  go_wp2_with fail
  refine (pwrong_any h'.out _).mono ?_
  rintro e w' ⟨rfl, rfl⟩
  rw [h0'.out]
  go_wp2_with fail
  refine (ppower_any h'.out h63).mono ?_
  rintro e w1 ⟨rfl, hP1, hF1⟩
  rw [hpv'.out] at hP1 ⊢
  have hd1 : (takenIn d).wr = d.wr ∧ (takenIn d).base = d.base := by unfold takenIn; split <;> exact ⟨rfl, rfl⟩
  generalize hdd : takenIn d = d1 at *
  have hdd' := Lib.hid hdd
  clear hdd
  have hP1' := Lib.hid hP1
  have hF1' := Lib.hid hF1
  have hB1 := Lib.hid (show Bts w1 A n b from ⟨hB'.out.1, fun k u hk => by
    obtain ⟨ad, e, hl, hc⟩ := hB'.out.2 k u hk
    have hk' : 0 < n := by have := (List.getElem?_eq_some_iff.1 hk).1; have := hB'.out.1; omega
    have hne := hoff.out ad e hk'
    exact ⟨ad, e, Nat.lt_of_lt_of_le hl hF1.size, (World.cell?_of_block (w := w) (w' := w1) (a := ad.add k) (by rw [block_add]; exact hF1.block ad.block hl (fun e => hne e.1))).trans hc⟩⟩)
  clear hP1 hF1
  have u1 : (b.map byteV).length = Nat.min n 128 := by rw [List.length_map, hB1.out.1]; exact (Nat.min_eq_left hn).symm
  have u3 : 1 + (b.map byteV).length ≤ (wrtA (i : Int) zsec).toList.length := by rw [List.length_map, hB1.out.1, Array.length_toList, wrtA_size zsec_len]; omega
  have u1' := Lib.hid u1
  have u3' := Lib.hid u3
  clear u1 u3
  go_wp2_with (first
    | (refine wpList_build_wrt rfl (.tmp 20) (i : Int) rfl rfl ?_)
    | (refine wpList_alloc_wrt rfl rfl ?_)
    | (refine wpList_store_row_to rfl 58 (.tmp 8) (.tmp 21) rfl w1.heap.size (wrtA (i : Int) zsec) rfl rfl 58 (wrtA 0 zsec) (heap_alloc_new w1 _) (by rw [wrtA_size zsec_len]; exact size_wrt) (by rw [wrtA_size zsec_len, wrtA_size zsec_len]) (wrtA_one _ _) ?_; intro w2 hF2 hb2 hz2; have hF2' := Lib.hid hF2; clear hF2; have hB2 := Lib.hid (show Below w1.heap.size w1 w2 from (((Below.refl w1.heap.size w1).alloc (Nat.le_refl _) _).trans hb2)))
    | (refine wpList_copy_splice rfl (.tmp 23) (.tmp 24) 29 29 rfl 5 Try.underlying29 size_u8 (some ⟨w1.heap.size, 1, none⟩) A 128 128 n c rfl rfl w1.heap.size 1 (wrtA (i : Int) zsec).toList 58 hF2'.out (b.map byteV) u1'.out (fun h0 => ⟨rfl, copy_src (hB1.out.below hB2.out) (by simpa using h0)⟩) u3'.out (one_byte b) w1.heap.size w1 hB2.out (Nat.le_refl _) ?_; intro w3 hF3 hB3)
    | go_in)
  have hF3' := Lib.hid (show w3.heap[w1.heap.size]? = some (.cells (wrtA (i : Int) (secL b)) 58 (0, 0)) from by have e := hF3.out; rw [splice_wrt (i : Int) b (by omega)] at e; exact e)
  have hB3' := Lib.hid hB3
  clear hF3 hB3 hb2 hB2 hF2'
  go_frame
  obtain ⟨i0, hi, hz0, hz1, hz2⟩ := info_parts Try.info58
  have hi' := Lib.hid hi
  have hz0' := Lib.hid hz0
  have hz1' := Lib.hid hz1
  have hz2' := Lib.hid hz2
  clear hi hz0 hz1 hz2
  have hP3 := Lib.hid (hP1'.out.below hB3'.out)
  have hrow := Lib.hid hP3.out.row
  have c3 := cell_of_row w3 p 3 _ _ _ hP3.out.disk
  have f3 := frozen_of_row w3 p 3 _ _ hP3.out.disk
  unfold diskCells at c3
  simp at c3
  have hlen : Hid ((secL b).length = 128) := Lib.hid (secL_len (by omega))
  have hbs := fun W : World => run_one_wrt W (i : Int) (secL b) hlen.out
  have hld : (Instr.loadAt 58 (.pointer (some ⟨w1.heap.size, 0, none⟩))).run Try.prog w3.drew = .ok (.agg (wrtA (i : Int) (secL b))) w3.drew := by
    have e := run_loadVar_row (P := Try.prog) w3.drew w1.heap.size 58 58 (wrtA (i : Int) (secL b)) (0, 0) _ hF3'.out Try.underlying58 rfl (by rw [wrtA_size hlen.out]; exact size_wrt)
    simp only [Instr.loadAt, Instr.sureAddr, Sem.run_bind, Sem.run_pure, Result.andThen_ok, e]
  have hl129 : Hid ((wrtA (i : Int) (secL b)).toList.length = 1 * 129) := Lib.hid (by rw [Array.length_toList, wrtA_size hlen.out])
  have hone : Hid (∀ u ∈ (wrtA (i : Int) (secL b)).toList, u.oneCell' = true) := Lib.hid fun u hu => (Array.all_eq_true_iff_forall_mem.1 (wrtA_one (i : Int) (secL b))) u (Array.mem_toList_iff.1 hu)
  have hpl : p < w3.heap.size := hP3.out.lt
  have hGl : w1.heap.size < w3.heap.size := (Array.getElem?_eq_some_iff.1 hF3'.out).1
  have hBl : B ≤ w3.heap.size := Nat.le_trans hP3.out.lowP (Nat.le_of_lt hpl)
  have hw1l : d1.wr.length ≤ 100000 := by rw [hd1.1]; exact hwl
  have hd1' := Lib.hid hd1
  have hwl' := Lib.hid hwl
  clear hd1 hwl
  clear hbs hld
  have hbA : Hid (Below w3.heap.size w3 (w3.drew.alloc (.cells (wrtA (i : Int) (secL b)) 58 (0, 0)))) := Lib.hid ((Below.refl w3.heap.size w3).drew.alloc (Nat.le_refl _) _)
  have hGn : Hid (lv.ownBlock ≠ some w1.heap.size) := Lib.hid fun e => by
    obtain ⟨_, cs, hc⟩ := hP1'.out.row_at e
    have := (Array.getElem?_eq_some_iff.1 hc).1
    omega
  refine wp_region_any (by kernel_rfl) ?_
  change wpAny _ _ _ _ _ _ _ (World.drew w3)
  refine wpAny_take (i := 0) (oi := { dst := some 26, op := Go.Op.move (Go.Operand.tmp 0), type := 25, pos := "sectors.go:64", after := #[], guard := none }) (v := ?_) rfl (by kernel_rfl) (by kernel_rfl) (by kernel_rfl) (fun _ _ _ h => h) (Or.inl ⟨by rfl, ?_⟩) ?_
  rotate_left 1
  · (intro w; go_simp; try with_reducible rfl)
  try simp only [Act.put, List.setIfInBounds_toArray, List.set_cons_zero, List.set_cons_succ]
  refine wpAny_take (i := 1) (oi := { dst := some 27, op := Go.Op.move (Go.Operand.tmp 0), type := 25, pos := "sectors.go:64", after := #[], guard := none }) (v := ?_) rfl (by kernel_rfl) (by kernel_rfl) (by kernel_rfl) (fun _ _ _ h => h) (Or.inl ⟨by rfl, ?_⟩) ?_
  rotate_left 1
  · (intro w; go_simp; try with_reducible rfl)
  try simp only [Act.put, List.setIfInBounds_toArray, List.set_cons_zero, List.set_cons_succ]
  refine wpAny_take (i := 2) (oi := { dst := some 28, op := Go.Op.nilCheck (Go.Operand.tmp 27), type := 0, pos := "sectors.go:64", after := #[{ on := 1, ground := Go.Ground.data }], guard := none }) (v := ?_) rfl (by kernel_rfl) (by kernel_rfl) (by kernel_rfl) (fun _ _ _ h => h) (Or.inl ⟨by rfl, ?_⟩) ?_
  rotate_left 1
  · (intro w; go_simp; try with_reducible rfl)
  try simp only [Act.put, List.setIfInBounds_toArray, List.set_cons_zero, List.set_cons_succ]
  refine wpAny_take (i := 3) (oi := { dst := some 29, op := Go.Op.fieldAddr 49 (Go.Operand.tmp 28) 3, type := 0, pos := "sectors.go:64", after := #[{ on := 2, ground := Go.Ground.data }], guard := none }) (v := ?_) rfl (by kernel_rfl) (by kernel_rfl) (by kernel_rfl) (fun _ _ _ h => h) (Or.inl ⟨by rfl, ?_⟩) ?_
  rotate_left 1
  · (intro w; go_simp; try with_reducible rfl)
  try simp only [Act.put, List.setIfInBounds_toArray, List.set_cons_zero, List.set_cons_succ]
  refine wpAny_ready (rs := [4, 5]) (by kernel_rfl) (by simp) ?_
  refine AllReady.cons (o := { dst := some 30, op := Go.Op.load 47 (Go.Operand.tmp 29), type := 47, pos := "sectors.go:64", after := #[{ on := 3, ground := Go.Ground.data }], guard := none }) rfl (fun K hK => ?_) (AllReady.cons (o := { dst := some 31, op := Go.Op.load 58 (Go.Operand.tmp 8), type := 58, pos := "sectors.go:64", after := #[], guard := none }) rfl (fun K hK => ?_) AllReady.nil)
  · go_simp
    refine hK _ _ ?_
    clear hK K
    try simp only [Act.put, List.setIfInBounds_toArray, List.set_cons_zero, List.set_cons_succ]
    refine wpAny_ready (rs := [5]) (by kernel_rfl) (by simp) ?_
    refine AllReady.cons (o := { dst := some 31, op := Go.Op.load 58 (Go.Operand.tmp 8), type := 58, pos := "sectors.go:64", after := #[], guard := none }) rfl (fun K hK => ?_) AllReady.nil
    rw [if_pos (by rfl)]
    refine wp_load_row 58 (.tmp 8) rfl w1.heap.size rfl 58 (wrtA (i : Int) (secL b)) (0, 0) _ hF3'.out Try.underlying58 rfl (by rw [wrtA_size hlen.out]; exact size_wrt) ?_
    refine hK _ _ ?_
    clear hK K
    try simp only [Act.put, List.setIfInBounds_toArray, List.set_cons_zero, List.set_cons_succ]
    refine wpAny_ready (rs := [6]) (by kernel_rfl) (by simp) ?_
    refine AllReady.cons (o := { dst := some 32, op := Go.Op.buildSlice 47 1 #[(0, Go.Operand.tmp 31)], type := 47, pos := "sectors.go:64", after := #[{ on := 5, ground := Go.Ground.data }], guard := none }) rfl (fun K hK => ?_) AllReady.nil
    rw [if_pos (by rfl)]
    refine wp_one_wrt (.tmp 31) (i : Int) (secL b) rfl rfl hlen.out ?_
    refine hK _ _ ?_
    clear hK K
    try simp only [Act.put, List.setIfInBounds_toArray, List.set_cons_zero, List.set_cons_succ]
    refine wpAny_ready (rs := [7]) (by kernel_rfl) (by simp) ?_
    refine AllReady.cons (o := { dst := some 33, op := Go.Op.call { callee := Go.Callee.builtin Go.Builtin.append, args := #[Go.Operand.tmp 30, Go.Operand.tmp 32], argTypes := #[47, 47] }, type := 47, pos := "sectors.go:64", after := #[{ on := 4, ground := Go.Ground.data }, { on := 6, ground := Go.Ground.data }], guard := none }) rfl (fun K hK => ?_) AllReady.nil
    refine step_append_lies _ (by rfl) (.tmp 30) (.tmp 32) 47 (by rfl) B 58 i0 _ 129 136 Try.underlying47 hi'.out hz0'.out hz1'.out hz2'.out (wrtA_size zsec_len) (by decide) lv d1.wr.length (wroCells d1.wr) (by rfl) ((Fr.of_below (ts := []) (B := 0) hbA.out).owns hrow.out (by decide)) ⟨w3.heap.size, 0, none⟩ 1 1 (wrtA (i : Int) (secL b)).toList (by rfl) hl129.out (World.news_of_block (cs := wrtA (i : Int) (secL b)) (t := 58) (fr := (0, 0)) (heap_alloc_new w3.drew _)) hone.out (by decide) (by unfold maxLen; omega) (by omega) (Nat.le_trans hBl hbA.out.size) _ rfl ?_
    intro g cap w4 ho4 hg4 hat hlt4
    have hH := Lib.hid (half (n := d1.wr.length + 1) (cap := cap) hP3.out hbA.out hg4 hat)
    have hG4 := Lib.hid ((hg4.block w1.heap.size (Nat.lt_of_lt_of_le hGl hbA.out.size) (fun e => hGn.out e.symm)).trans ((hbA.out.block w1.heap.size hGl).trans hF3'.out))
    have c43 := cell_of_row w4 p 3 _ _ _ hH.out.disk
    have f43 := frozen_of_row w4 p 3 _ _ hH.out.disk
    unfold diskCells at c43
    simp at c43
    have ho4' := Lib.hid ho4
    have hg4' := Lib.hid hg4
    clear ho4 hg4 hat c3 f3
    refine hK _ _ ?_
    clear hK K
    try simp only [Act.put, List.setIfInBounds_toArray, List.set_cons_zero, List.set_cons_succ]
    refine wpAny_ready (rs := [8]) (by kernel_rfl) (by simp) ?_
    refine AllReady.cons (o := { dst := some 34, op := Go.Op.nilCheck (Go.Operand.tmp 26), type := 0, pos := "sectors.go:64", after := #[{ on := 0, ground := Go.Ground.data }, { on := 0, ground := Go.Ground.phase }, { on := 1, ground := Go.Ground.phase }, { on := 2, ground := Go.Ground.phase }, { on := 3, ground := Go.Ground.phase }, { on := 4, ground := Go.Ground.phase }, { on := 5, ground := Go.Ground.phase }, { on := 6, ground := Go.Ground.phase }, { on := 7, ground := Go.Ground.phase }], guard := none }) rfl (fun K hK => ?_) AllReady.nil
    go_simp
    refine hK _ _ ?_
    clear hK K
    try simp only [Act.put, List.setIfInBounds_toArray, List.set_cons_zero, List.set_cons_succ]
    refine wpAny_ready (rs := [9]) (by kernel_rfl) (by simp) ?_
    refine AllReady.cons (o := { dst := some 35, op := Go.Op.fieldAddr 49 (Go.Operand.tmp 34) 3, type := 0, pos := "sectors.go:64", after := #[{ on := 8, ground := Go.Ground.data }, { on := 0, ground := Go.Ground.phase }, { on := 1, ground := Go.Ground.phase }, { on := 2, ground := Go.Ground.phase }, { on := 3, ground := Go.Ground.phase }, { on := 4, ground := Go.Ground.phase }, { on := 5, ground := Go.Ground.phase }, { on := 6, ground := Go.Ground.phase }, { on := 7, ground := Go.Ground.phase }], guard := none }) rfl (fun K hK => ?_) AllReady.nil
    go_simp
    refine hK _ _ ?_
    clear hK K
    try simp only [Act.put, List.setIfInBounds_toArray, List.set_cons_zero, List.set_cons_succ]
    refine wpAny_ready (rs := [10]) (by kernel_rfl) (by simp) ?_
    refine AllReady.cons (o := { dst := none, op := Go.Op.store 47 (Go.Operand.tmp 35) (Go.Operand.tmp 33), type := 0, pos := "sectors.go:64", after := #[{ on := 9, ground := Go.Ground.data }, { on := 7, ground := Go.Ground.data }, { on := 7, ground := Go.Ground.chain }, { on := 0, ground := Go.Ground.phase }, { on := 1, ground := Go.Ground.phase }, { on := 2, ground := Go.Ground.phase }, { on := 3, ground := Go.Ground.phase }, { on := 4, ground := Go.Ground.phase }, { on := 5, ground := Go.Ground.phase }, { on := 6, ground := Go.Ground.phase }, { on := 7, ground := Go.Ground.phase }], guard := none }) rfl (fun K hK => ?_) AllReady.nil
    go_simp
    refine hK _ _ ?_
    clear hK K
    try simp only [Act.put, List.setIfInBounds_toArray, List.set_cons_zero, List.set_cons_succ]
    refine wpAny_done (by kernel_rfl) ?_ _
    go_wp2_with fail
    have hW5 : (w4.setCell ⟨p, 3, none⟩ (.slice (some ⟨g, 0, none⟩) (d1.wr.length + 1) cap)).heap[p]? = some (.cells (diskCells d1 bb nb (.slice (some ⟨g, 0, none⟩) (d1.wr.length + 1) cap)) 49 (0, 0)) := heap_setCell_same w4 p 3 _ _ _ hH.out.disk
    have hG5 : (w4.setCell ⟨p, 3, none⟩ (.slice (some ⟨g, 0, none⟩) (d1.wr.length + 1) cap)).heap[w1.heap.size]? = some (.cells (wrtA (i : Int) (secL b)) 58 (0, 0)) := (heap_setCell_other w4 _ _ _ (fun e => by have := hP1'.out.lt; rw [← (show w1.heap.size = p from e)] at this; omega)).trans hG4.out
    have hS5 := Lib.hid (hH.out.now.kept (heap_setCell_other w4 ⟨p, 3, none⟩ nb (.slice (some ⟨g, 0, none⟩) (d1.wr.length + 1) cap) hP3.out.ne_n))
    generalize hE : w4.setCell ⟨p, 3, none⟩ (.slice (some ⟨g, 0, none⟩) (d1.wr.length + 1) cap) = W5 at *
    have hE' := Lib.hid hE
    have x2 := cell_of_row W5 p 2 _ _ _ hW5
    unfold diskCells at x2
    simp at x2
    have hld : (Instr.loadAt 58 (.pointer (some ⟨w1.heap.size, 0, none⟩))).run Try.prog W5.drew = .ok (.agg (wrtA (i : Int) (secL b))) W5.drew := by
      have e := run_loadVar_row (P := Try.prog) W5.drew w1.heap.size 58 58 (wrtA (i : Int) (secL b)) (0, 0) _ hG5 Try.underlying58 rfl (by rw [wrtA_size hlen.out]; exact size_wrt)
      simp only [Instr.loadAt, Instr.sureAddr, Sem.run_bind, Sem.run_pure, Result.andThen_ok, e]
    clear hE hW5 hG5 c43 f43
    go_still_tail 5, (by kernel_rfl)
    change wpStill _ _ W5.drew _ _ _
    refine wpStill_load rfl 58 (.tmp 8) _ _ rfl rfl hld ?_
    refine wpStill_nil ?_
    go_frame
    clear hld
    go_wp2_with fail
    refine (put_any W5.drew nb d1.base.length i (mapV d1 d1.wr.length) (secL b) (wrtA (i : Int) (secL b)) (hS5.out.kept rfl) (by rw [hd1'.out.2]; exact hi1) (by rw [hd1'.out.2]; omega) hlen.out rfl).mono ?_
    rintro e w6 ⟨rfl, hS6, hg6⟩
    have hfin := Lib.hid (whole hP3.out (by rw [hd1'.out.2]; exact hi1) (by omega) hH.out rfl ho4'.out hS6 (by rw [hE'.out]; exact (⟨hg6.os, hg6.tape, hg6.output, hg6.size, hg6.block⟩ : W5.grownBy w6 (some nb))))
    clear hS6 hg6 x2
    go_wp2_with fail
    go_ret
    obtain ⟨S', f1, f2, f3⟩ := hfin.out
    have z1 := hF1'.out.size
    have z3 := hB3'.out.size
    exact ⟨rfl, S', _, (by rw [hdd'.out]; exact f1), fun k hk => (f2 k hk).imp id (fun e => by omega), ((hF1'.out.widen (fun k e => (hP1'.out.stands k).2 (.inl e))).trans (FrS.of_below hB3'.out)).trans f3⟩
  · rw [if_pos (by rfl)]
    refine wp_load_row 58 (.tmp 8) rfl w1.heap.size rfl 58 (wrtA (i : Int) (secL b)) (0, 0) _ hF3'.out Try.underlying58 rfl (by rw [wrtA_size hlen.out]; exact size_wrt) ?_
    refine hK _ _ ?_
    clear hK K
    try simp only [Act.put, List.setIfInBounds_toArray, List.set_cons_zero, List.set_cons_succ]
    refine wpAny_ready (rs := [4, 6]) (by kernel_rfl) (by simp) ?_
    refine AllReady.cons (o := { dst := some 30, op := Go.Op.load 47 (Go.Operand.tmp 29), type := 47, pos := "sectors.go:64", after := #[{ on := 3, ground := Go.Ground.data }], guard := none }) rfl (fun K hK => ?_) (AllReady.cons (o := { dst := some 32, op := Go.Op.buildSlice 47 1 #[(0, Go.Operand.tmp 31)], type := 47, pos := "sectors.go:64", after := #[{ on := 5, ground := Go.Ground.data }], guard := none }) rfl (fun K hK => ?_) AllReady.nil)
    · go_simp
      refine hK _ _ ?_
      clear hK K
      try simp only [Act.put, List.setIfInBounds_toArray, List.set_cons_zero, List.set_cons_succ]
      refine wpAny_ready (rs := [6]) (by kernel_rfl) (by simp) ?_
      refine AllReady.cons (o := { dst := some 32, op := Go.Op.buildSlice 47 1 #[(0, Go.Operand.tmp 31)], type := 47, pos := "sectors.go:64", after := #[{ on := 5, ground := Go.Ground.data }], guard := none }) rfl (fun K hK => ?_) AllReady.nil
      rw [if_pos (by rfl)]
      refine wp_one_wrt (.tmp 31) (i : Int) (secL b) rfl rfl hlen.out ?_
      refine hK _ _ ?_
      clear hK K
      try simp only [Act.put, List.setIfInBounds_toArray, List.set_cons_zero, List.set_cons_succ]
      refine wpAny_ready (rs := [7]) (by kernel_rfl) (by simp) ?_
      refine AllReady.cons (o := { dst := some 33, op := Go.Op.call { callee := Go.Callee.builtin Go.Builtin.append, args := #[Go.Operand.tmp 30, Go.Operand.tmp 32], argTypes := #[47, 47] }, type := 47, pos := "sectors.go:64", after := #[{ on := 4, ground := Go.Ground.data }, { on := 6, ground := Go.Ground.data }], guard := none }) rfl (fun K hK => ?_) AllReady.nil
      refine step_append_lies _ (by rfl) (.tmp 30) (.tmp 32) 47 (by rfl) B 58 i0 _ 129 136 Try.underlying47 hi'.out hz0'.out hz1'.out hz2'.out (wrtA_size zsec_len) (by decide) lv d1.wr.length (wroCells d1.wr) (by rfl) ((Fr.of_below (ts := []) (B := 0) hbA.out).owns hrow.out (by decide)) ⟨w3.heap.size, 0, none⟩ 1 1 (wrtA (i : Int) (secL b)).toList (by rfl) hl129.out (World.news_of_block (cs := wrtA (i : Int) (secL b)) (t := 58) (fr := (0, 0)) (heap_alloc_new w3.drew _)) hone.out (by decide) (by unfold maxLen; omega) (by omega) (Nat.le_trans hBl hbA.out.size) _ rfl ?_
      intro g cap w4 ho4 hg4 hat hlt4
      have hH := Lib.hid (half (n := d1.wr.length + 1) (cap := cap) hP3.out hbA.out hg4 hat)
      have hG4 := Lib.hid ((hg4.block w1.heap.size (Nat.lt_of_lt_of_le hGl hbA.out.size) (fun e => hGn.out e.symm)).trans ((hbA.out.block w1.heap.size hGl).trans hF3'.out))
      have c43 := cell_of_row w4 p 3 _ _ _ hH.out.disk
      have f43 := frozen_of_row w4 p 3 _ _ hH.out.disk
      unfold diskCells at c43
      simp at c43
      have ho4' := Lib.hid ho4
      have hg4' := Lib.hid hg4
      clear ho4 hg4 hat c3 f3
      refine hK _ _ ?_
      clear hK K
      try simp only [Act.put, List.setIfInBounds_toArray, List.set_cons_zero, List.set_cons_succ]
      refine wpAny_ready (rs := [8]) (by kernel_rfl) (by simp) ?_
      refine AllReady.cons (o := { dst := some 34, op := Go.Op.nilCheck (Go.Operand.tmp 26), type := 0, pos := "sectors.go:64", after := #[{ on := 0, ground := Go.Ground.data }, { on := 0, ground := Go.Ground.phase }, { on := 1, ground := Go.Ground.phase }, { on := 2, ground := Go.Ground.phase }, { on := 3, ground := Go.Ground.phase }, { on := 4, ground := Go.Ground.phase }, { on := 5, ground := Go.Ground.phase }, { on := 6, ground := Go.Ground.phase }, { on := 7, ground := Go.Ground.phase }], guard := none }) rfl (fun K hK => ?_) AllReady.nil
      go_simp
      refine hK _ _ ?_
      clear hK K
      try simp only [Act.put, List.setIfInBounds_toArray, List.set_cons_zero, List.set_cons_succ]
      refine wpAny_ready (rs := [9]) (by kernel_rfl) (by simp) ?_
      refine AllReady.cons (o := { dst := some 35, op := Go.Op.fieldAddr 49 (Go.Operand.tmp 34) 3, type := 0, pos := "sectors.go:64", after := #[{ on := 8, ground := Go.Ground.data }, { on := 0, ground := Go.Ground.phase }, { on := 1, ground := Go.Ground.phase }, { on := 2, ground := Go.Ground.phase }, { on := 3, ground := Go.Ground.phase }, { on := 4, ground := Go.Ground.phase }, { on := 5, ground := Go.Ground.phase }, { on := 6, ground := Go.Ground.phase }, { on := 7, ground := Go.Ground.phase }], guard := none }) rfl (fun K hK => ?_) AllReady.nil
      go_simp
      refine hK _ _ ?_
      clear hK K
      try simp only [Act.put, List.setIfInBounds_toArray, List.set_cons_zero, List.set_cons_succ]
      refine wpAny_ready (rs := [10]) (by kernel_rfl) (by simp) ?_
      refine AllReady.cons (o := { dst := none, op := Go.Op.store 47 (Go.Operand.tmp 35) (Go.Operand.tmp 33), type := 0, pos := "sectors.go:64", after := #[{ on := 9, ground := Go.Ground.data }, { on := 7, ground := Go.Ground.data }, { on := 7, ground := Go.Ground.chain }, { on := 0, ground := Go.Ground.phase }, { on := 1, ground := Go.Ground.phase }, { on := 2, ground := Go.Ground.phase }, { on := 3, ground := Go.Ground.phase }, { on := 4, ground := Go.Ground.phase }, { on := 5, ground := Go.Ground.phase }, { on := 6, ground := Go.Ground.phase }, { on := 7, ground := Go.Ground.phase }], guard := none }) rfl (fun K hK => ?_) AllReady.nil
      go_simp
      refine hK _ _ ?_
      clear hK K
      try simp only [Act.put, List.setIfInBounds_toArray, List.set_cons_zero, List.set_cons_succ]
      refine wpAny_done (by kernel_rfl) ?_ _
      go_wp2_with fail
      have hW5 : (w4.setCell ⟨p, 3, none⟩ (.slice (some ⟨g, 0, none⟩) (d1.wr.length + 1) cap)).heap[p]? = some (.cells (diskCells d1 bb nb (.slice (some ⟨g, 0, none⟩) (d1.wr.length + 1) cap)) 49 (0, 0)) := heap_setCell_same w4 p 3 _ _ _ hH.out.disk
      have hG5 : (w4.setCell ⟨p, 3, none⟩ (.slice (some ⟨g, 0, none⟩) (d1.wr.length + 1) cap)).heap[w1.heap.size]? = some (.cells (wrtA (i : Int) (secL b)) 58 (0, 0)) := (heap_setCell_other w4 _ _ _ (fun e => by have := hP1'.out.lt; rw [← (show w1.heap.size = p from e)] at this; omega)).trans hG4.out
      have hS5 := Lib.hid (hH.out.now.kept (heap_setCell_other w4 ⟨p, 3, none⟩ nb (.slice (some ⟨g, 0, none⟩) (d1.wr.length + 1) cap) hP3.out.ne_n))
      generalize hE : w4.setCell ⟨p, 3, none⟩ (.slice (some ⟨g, 0, none⟩) (d1.wr.length + 1) cap) = W5 at *
      have hE' := Lib.hid hE
      have x2 := cell_of_row W5 p 2 _ _ _ hW5
      unfold diskCells at x2
      simp at x2
      have hld : (Instr.loadAt 58 (.pointer (some ⟨w1.heap.size, 0, none⟩))).run Try.prog W5.drew = .ok (.agg (wrtA (i : Int) (secL b))) W5.drew := by
        have e := run_loadVar_row (P := Try.prog) W5.drew w1.heap.size 58 58 (wrtA (i : Int) (secL b)) (0, 0) _ hG5 Try.underlying58 rfl (by rw [wrtA_size hlen.out]; exact size_wrt)
        simp only [Instr.loadAt, Instr.sureAddr, Sem.run_bind, Sem.run_pure, Result.andThen_ok, e]
      clear hE hW5 hG5 c43 f43
      go_still_tail 5, (by kernel_rfl)
      change wpStill _ _ W5.drew _ _ _
      refine wpStill_load rfl 58 (.tmp 8) _ _ rfl rfl hld ?_
      refine wpStill_nil ?_
      go_frame
      clear hld
      go_wp2_with fail
      refine (put_any W5.drew nb d1.base.length i (mapV d1 d1.wr.length) (secL b) (wrtA (i : Int) (secL b)) (hS5.out.kept rfl) (by rw [hd1'.out.2]; exact hi1) (by rw [hd1'.out.2]; omega) hlen.out rfl).mono ?_
      rintro e w6 ⟨rfl, hS6, hg6⟩
      have hfin := Lib.hid (whole hP3.out (by rw [hd1'.out.2]; exact hi1) (by omega) hH.out rfl ho4'.out hS6 (by rw [hE'.out]; exact (⟨hg6.os, hg6.tape, hg6.output, hg6.size, hg6.block⟩ : W5.grownBy w6 (some nb))))
      clear hS6 hg6 x2
      go_wp2_with fail
      go_ret
      obtain ⟨S', f1, f2, f3⟩ := hfin.out
      have z1 := hF1'.out.size
      have z3 := hB3'.out.size
      exact ⟨rfl, S', _, (by rw [hdd'.out]; exact f1), fun k hk => (f2 k hk).imp id (fun e => by omega), ((hF1'.out.widen (fun k e => (hP1'.out.stands k).2 (.inl e))).trans (FrS.of_below hB3'.out)).trans f3⟩
    · rw [if_pos (by rfl)]
      refine wp_one_wrt (.tmp 31) (i : Int) (secL b) rfl rfl hlen.out ?_
      refine hK _ _ ?_
      clear hK K
      try simp only [Act.put, List.setIfInBounds_toArray, List.set_cons_zero, List.set_cons_succ]
      refine wpAny_ready (rs := [4]) (by kernel_rfl) (by simp) ?_
      refine AllReady.cons (o := { dst := some 30, op := Go.Op.load 47 (Go.Operand.tmp 29), type := 47, pos := "sectors.go:64", after := #[{ on := 3, ground := Go.Ground.data }], guard := none }) rfl (fun K hK => ?_) AllReady.nil
      go_simp
      refine hK _ _ ?_
      clear hK K
      try simp only [Act.put, List.setIfInBounds_toArray, List.set_cons_zero, List.set_cons_succ]
      refine wpAny_ready (rs := [7]) (by kernel_rfl) (by simp) ?_
      refine AllReady.cons (o := { dst := some 33, op := Go.Op.call { callee := Go.Callee.builtin Go.Builtin.append, args := #[Go.Operand.tmp 30, Go.Operand.tmp 32], argTypes := #[47, 47] }, type := 47, pos := "sectors.go:64", after := #[{ on := 4, ground := Go.Ground.data }, { on := 6, ground := Go.Ground.data }], guard := none }) rfl (fun K hK => ?_) AllReady.nil
      refine step_append_lies _ (by rfl) (.tmp 30) (.tmp 32) 47 (by rfl) B 58 i0 _ 129 136 Try.underlying47 hi'.out hz0'.out hz1'.out hz2'.out (wrtA_size zsec_len) (by decide) lv d1.wr.length (wroCells d1.wr) (by rfl) ((Fr.of_below (ts := []) (B := 0) hbA.out).owns hrow.out (by decide)) ⟨w3.heap.size, 0, none⟩ 1 1 (wrtA (i : Int) (secL b)).toList (by rfl) hl129.out (World.news_of_block (cs := wrtA (i : Int) (secL b)) (t := 58) (fr := (0, 0)) (heap_alloc_new w3.drew _)) hone.out (by decide) (by unfold maxLen; omega) (by omega) (Nat.le_trans hBl hbA.out.size) _ rfl ?_
      intro g cap w4 ho4 hg4 hat hlt4
      have hH := Lib.hid (half (n := d1.wr.length + 1) (cap := cap) hP3.out hbA.out hg4 hat)
      have hG4 := Lib.hid ((hg4.block w1.heap.size (Nat.lt_of_lt_of_le hGl hbA.out.size) (fun e => hGn.out e.symm)).trans ((hbA.out.block w1.heap.size hGl).trans hF3'.out))
      have c43 := cell_of_row w4 p 3 _ _ _ hH.out.disk
      have f43 := frozen_of_row w4 p 3 _ _ hH.out.disk
      unfold diskCells at c43
      simp at c43
      have ho4' := Lib.hid ho4
      have hg4' := Lib.hid hg4
      clear ho4 hg4 hat c3 f3
      refine hK _ _ ?_
      clear hK K
      try simp only [Act.put, List.setIfInBounds_toArray, List.set_cons_zero, List.set_cons_succ]
      refine wpAny_ready (rs := [8]) (by kernel_rfl) (by simp) ?_
      refine AllReady.cons (o := { dst := some 34, op := Go.Op.nilCheck (Go.Operand.tmp 26), type := 0, pos := "sectors.go:64", after := #[{ on := 0, ground := Go.Ground.data }, { on := 0, ground := Go.Ground.phase }, { on := 1, ground := Go.Ground.phase }, { on := 2, ground := Go.Ground.phase }, { on := 3, ground := Go.Ground.phase }, { on := 4, ground := Go.Ground.phase }, { on := 5, ground := Go.Ground.phase }, { on := 6, ground := Go.Ground.phase }, { on := 7, ground := Go.Ground.phase }], guard := none }) rfl (fun K hK => ?_) AllReady.nil
      go_simp
      refine hK _ _ ?_
      clear hK K
      try simp only [Act.put, List.setIfInBounds_toArray, List.set_cons_zero, List.set_cons_succ]
      refine wpAny_ready (rs := [9]) (by kernel_rfl) (by simp) ?_
      refine AllReady.cons (o := { dst := some 35, op := Go.Op.fieldAddr 49 (Go.Operand.tmp 34) 3, type := 0, pos := "sectors.go:64", after := #[{ on := 8, ground := Go.Ground.data }, { on := 0, ground := Go.Ground.phase }, { on := 1, ground := Go.Ground.phase }, { on := 2, ground := Go.Ground.phase }, { on := 3, ground := Go.Ground.phase }, { on := 4, ground := Go.Ground.phase }, { on := 5, ground := Go.Ground.phase }, { on := 6, ground := Go.Ground.phase }, { on := 7, ground := Go.Ground.phase }], guard := none }) rfl (fun K hK => ?_) AllReady.nil
      go_simp
      refine hK _ _ ?_
      clear hK K
      try simp only [Act.put, List.setIfInBounds_toArray, List.set_cons_zero, List.set_cons_succ]
      refine wpAny_ready (rs := [10]) (by kernel_rfl) (by simp) ?_
      refine AllReady.cons (o := { dst := none, op := Go.Op.store 47 (Go.Operand.tmp 35) (Go.Operand.tmp 33), type := 0, pos := "sectors.go:64", after := #[{ on := 9, ground := Go.Ground.data }, { on := 7, ground := Go.Ground.data }, { on := 7, ground := Go.Ground.chain }, { on := 0, ground := Go.Ground.phase }, { on := 1, ground := Go.Ground.phase }, { on := 2, ground := Go.Ground.phase }, { on := 3, ground := Go.Ground.phase }, { on := 4, ground := Go.Ground.phase }, { on := 5, ground := Go.Ground.phase }, { on := 6, ground := Go.Ground.phase }, { on := 7, ground := Go.Ground.phase }], guard := none }) rfl (fun K hK => ?_) AllReady.nil
      go_simp
      refine hK _ _ ?_
      clear hK K
      try simp only [Act.put, List.setIfInBounds_toArray, List.set_cons_zero, List.set_cons_succ]
      refine wpAny_done (by kernel_rfl) ?_ _
      go_wp2_with fail
      have hW5 : (w4.setCell ⟨p, 3, none⟩ (.slice (some ⟨g, 0, none⟩) (d1.wr.length + 1) cap)).heap[p]? = some (.cells (diskCells d1 bb nb (.slice (some ⟨g, 0, none⟩) (d1.wr.length + 1) cap)) 49 (0, 0)) := heap_setCell_same w4 p 3 _ _ _ hH.out.disk
      have hG5 : (w4.setCell ⟨p, 3, none⟩ (.slice (some ⟨g, 0, none⟩) (d1.wr.length + 1) cap)).heap[w1.heap.size]? = some (.cells (wrtA (i : Int) (secL b)) 58 (0, 0)) := (heap_setCell_other w4 _ _ _ (fun e => by have := hP1'.out.lt; rw [← (show w1.heap.size = p from e)] at this; omega)).trans hG4.out
      have hS5 := Lib.hid (hH.out.now.kept (heap_setCell_other w4 ⟨p, 3, none⟩ nb (.slice (some ⟨g, 0, none⟩) (d1.wr.length + 1) cap) hP3.out.ne_n))
      generalize hE : w4.setCell ⟨p, 3, none⟩ (.slice (some ⟨g, 0, none⟩) (d1.wr.length + 1) cap) = W5 at *
      have hE' := Lib.hid hE
      have x2 := cell_of_row W5 p 2 _ _ _ hW5
      unfold diskCells at x2
      simp at x2
      have hld : (Instr.loadAt 58 (.pointer (some ⟨w1.heap.size, 0, none⟩))).run Try.prog W5.drew = .ok (.agg (wrtA (i : Int) (secL b))) W5.drew := by
        have e := run_loadVar_row (P := Try.prog) W5.drew w1.heap.size 58 58 (wrtA (i : Int) (secL b)) (0, 0) _ hG5 Try.underlying58 rfl (by rw [wrtA_size hlen.out]; exact size_wrt)
        simp only [Instr.loadAt, Instr.sureAddr, Sem.run_bind, Sem.run_pure, Result.andThen_ok, e]
      clear hE hW5 hG5 c43 f43
      go_still_tail 5, (by kernel_rfl)
      change wpStill _ _ W5.drew _ _ _
      refine wpStill_load rfl 58 (.tmp 8) _ _ rfl rfl hld ?_
      refine wpStill_nil ?_
      go_frame
      clear hld
      go_wp2_with fail
      refine (put_any W5.drew nb d1.base.length i (mapV d1 d1.wr.length) (secL b) (wrtA (i : Int) (secL b)) (hS5.out.kept rfl) (by rw [hd1'.out.2]; exact hi1) (by rw [hd1'.out.2]; omega) hlen.out rfl).mono ?_
      rintro e w6 ⟨rfl, hS6, hg6⟩
      have hfin := Lib.hid (whole hP3.out (by rw [hd1'.out.2]; exact hi1) (by omega) hH.out rfl ho4'.out hS6 (by rw [hE'.out]; exact (⟨hg6.os, hg6.tape, hg6.output, hg6.size, hg6.block⟩ : W5.grownBy w6 (some nb))))
      clear hS6 hg6 x2
      go_wp2_with fail
      go_ret
      obtain ⟨S', f1, f2, f3⟩ := hfin.out
      have z1 := hF1'.out.size
      have z3 := hB3'.out.size
      exact ⟨rfl, S', _, (by rw [hdd'.out]; exact f1), fun k hk => (f2 k hk).imp id (fun e => by omega), ((hF1'.out.widen (fun k e => (hP1'.out.stands k).2 (.inl e))).trans (FrS.of_below hB3'.out)).trans f3⟩

theorem pwrite_any {w : World} {S : Nat → Prop} {B p : Nat} {d : RD} {bb nb : Nat} {lv : Value} (h : PDat w S B p d bb nb lv) (hwl : d.wr.length ≤ 100000) (h63 : d.left ≤ 9223372036854775807) (i : Int) (A : Option Addr) (n c : Nat) (b : List UInt8)
    (hB : Bts w A n b) (hnc : n ≤ c) (hcm : c ≤ maxLen) :
    Calls Try.prog 14 #[.pointer (some ⟨p, 0, none⟩), .int .i64 i, .slice A n c] w fun e w' => e = .returned (.int .i64 (writeV d i b).1) ∧ ∃ S' lv', PDat w' S' B p (writeV d i b).2 bb nb lv' ∧ (∀ k, S' k → S k ∨ w.heap.size ≤ k) ∧ FrS S B w w' := by
  have hbl := hB.1
  have hmx : (n : Int) ≤ 9223372036854775807 := by unfold maxLen at hcm; omega
  by_cases h0 : askedV d i = 0
  · obtain ⟨hg, hi0, hi1⟩ := asked_ok h0
    obtain ⟨j, rfl⟩ := Int.eq_ofNat_of_zero_le hi0
    by_cases h1 : 128 < b.length
    · have hv : writeV d (j : Int) b = (3, d) := by unfold writeV; rw [if_pos h0, if_pos h1]
      have hv' := Lib.hid hv
      have h0' := Lib.hid h0
      have h' := Lib.hid h
      have hI : (128 : Int) < (n : Int) := by omega
      clear hv h0 h1 h hbl hB
      go_enter Try.func14, Try.ntmps14
      go_wp2_with fail
      refine (pwrong_any h'.out _).mono ?_
      rintro e w' ⟨rfl, rfl⟩
      rw [h0'.out]
      go_wp2_with fail
      go_ret
      exact ⟨by rw [hv'.out]; rfl, S, lv, by rw [hv'.out]; exact h'.out, fun k hk => .inl hk, FrS.rfl_⟩
    · by_cases h2 : d.armed = true ∧ d.left = 0
      · have hv : writeV d (j : Int) b = (20, { d with armed := false, gone := true }) := by unfold writeV; rw [if_pos h0, if_neg h1, if_pos h2]
        have hp : powerV d = (true, { d with armed := false, left := d.left, gone := true }) := by unfold powerV; rw [if_pos h2]
        have hv' := Lib.hid hv
        have hp' := Lib.hid hp
        have h0' := Lib.hid h0
        have h' := Lib.hid h
        have hI : ¬ (128 : Int) < (n : Int) := by omega
        clear hv hp h0 h1 h2 h hbl hB
        go_enter Try.func14, Try.ntmps14
        go_wp2_with fail
        refine (pwrong_any h'.out _).mono ?_
        rintro e w' ⟨rfl, rfl⟩
        rw [h0'.out]
        go_wp2_with fail
        refine (ppower_any h'.out h63).mono ?_
        rintro e w1 ⟨rfl, hP1, hF1⟩
        rw [hp'.out] at hP1 ⊢
        have hP1' := Lib.hid hP1
        have hF1' := Lib.hid hF1
        clear hP1 hF1
        go_wp2_with fail
        go_ret
        exact ⟨by rw [hv'.out]; rfl, S, lv, by rw [hv'.out]; exact hP1'.out, fun k hk => .inl hk, hF1'.out.widen fun k e => (h'.out.stands k).2 (.inl e)⟩
      · have hv : writeV d (j : Int) b = (0, wrote (takenIn d) j b) := by unfold writeV; rw [if_pos h0, if_neg h1, if_neg h2]; rfl
        rw [hv]
        exact pwrite_ok h hwl h63 j A n c b h0 h2 hB (by omega) hnc hcm
  · have hv : writeV d i b = (askedV d i, d) := by unfold writeV; rw [if_neg h0]
    have hv' := Lib.hid hv
    have h' := Lib.hid h
    have t1 : (askedV d i != 0) = true := by rw [bne_iff_ne]; exact h0
    clear hv h0 h hbl hB
    generalize hq : askedV d i = q at *
    have hq' := Lib.hid hq
    go_enter Try.func14, Try.ntmps14
    go_wp2_with fail
    refine (pwrong_any h'.out _).mono ?_
    rintro e w' ⟨rfl, rfl⟩
    rw [hq'.out]
    clear hq
    go_wp2_with fail
    go_ret
    exact ⟨by rw [hv'.out]; rfl, S, lv, by rw [hv'.out]; exact h'.out, fun k hk => .inl hk, FrS.rfl_⟩
end Go.Proofs.Ytffenadibnehfaa
