/- Is the arena a tree: the program's. -/
import Derived.Test.YtiikakfdelkjhaaArnO
import Derived.Deep.OwnRows
namespace Go.Proofs.Ytiikakfdelkjhaa.Arn
open Go.RowKit
set_option maxRecDepth 20000

theorem Try.infoBool : (Try.prog.info? 4).map (fun i => (i.zero, i.size, i.bytes)) = some (some (.bool false), 1, 1) := by kernel_rfl
theorem mk_bool (N : Nat) (h : N ≤ 1000000) (u : World) : (Instr.makeSlice 91 (.int .i64 (N : Int)) (.int .i64 (N : Int))).run Try.prog u = .ok (.slice (some ⟨u.heap.size, 0, none⟩) N N) (u.alloc (.cells (madeCells #[.bool false] N) 4)) :=
  run_make_row' 91 4 (.bool false) 1 Try.underlying91 Try.infoBool rfl .i64 .i64 N (by omega) (by omega) u
/-- a row of marks -/
def Met (w : World) (g N : Nat) (f : Nat → Bool) : Prop := ∃ cs, w.heap[g]? = some (.cells cs 4 (0, 0)) ∧ cs.size = N ∧ ∀ j, j < N → cs[j]? = some (.bool (f j))
section
variable {w w' : World} {g N i : Nat} {f : Nat → Bool}
theorem Met.new (w : World) (N : Nat) : Met (w.alloc (.cells (madeCells #[.bool false] N) 4)) w.heap.size N fun _ => false :=
  ⟨_, heap_alloc_new w _, by simp [size_madeCells], fun j hj => by simp [madeCells, hj, Nat.mod_one]⟩
theorem Met.at_ (h : Met w g N f) (hi : i < N) : w.cell? ⟨g, i, none⟩ = some (.bool (f i)) ∧ w.frozen? ⟨g, i, none⟩ = false := by
  obtain ⟨cs, h1, h2, h3⟩ := h
  exact ⟨(cell_of_row w g i _ _ _ h1).trans (h3 i hi), frozen_of_row w g i _ _ h1⟩
theorem Met.put (h : Met w g N f) (hi : i < N) : Met (w.setCell ⟨g, i, none⟩ (.bool true)) g N fun j => if j = i then true else f j := by
  obtain ⟨cs, b1, b2, b3⟩ := h
  refine ⟨_, heap_setCell_same w g i _ _ _ b1, by simp [b2], fun j hj => ?_⟩
  show _ = some (Value.bool (if j = i then true else f j))
  by_cases h : j = i
  · subst h
    rw [if_pos rfl, Array.getElem?_setIfInBounds_self_of_lt (by omega)]
  · rw [if_neg h, Array.getElem?_setIfInBounds_ne (fun e => h e.symm)]
    exact b3 j hj
theorem Met.eq {f' : Nat → Bool} (h : Met w g N f) (e : ∀ j, j < N → f' j = f j) : Met w g N f' := by
  obtain ⟨cs, b1, b2, b3⟩ := h
  exact ⟨cs, b1, b2, fun j hj => by rw [e j hj]; exact b3 j hj⟩
end
section
variable {w : World} {ow : Nat → Role} {P : Nat} {a : Av} {B : Nat → Nat} {m : Nat} {sv : Nat → SV} {sA : Option Addr} {sc : Nat} {fA : Option Addr} {fc : Nat}
set_option maxHeartbeats 4000000 in
theorem isFreeApart_any (h : PA w ow P a B m sv sA sc fA fc) (hw : WF a) : Calls Try.prog 41 #[.pointer (some ⟨P, 0, none⟩)] w fun e w' => e = .returned (.bool true) ∧ Below w.heap.size w w' := by
  have h' := Lib.hid h
  have hw' := Lib.hid hw
  obtain ⟨c0, c1, c2, cf⟩ := h.head_cells
  have hsm := h.small
  have hmk := mk_bool a.cnt (by omega)
  have hfl := hw.free_len
  have hPl := Lib.hid (Array.getElem?_eq_some_iff.1 h.head).1
  obtain ⟨N, hN⟩ : ∃ N, N = a.cnt := ⟨_, rfl⟩
  obtain ⟨n, hn⟩ : ∃ n, n = a.free.length := ⟨_, rfl⟩
  have hN' := Lib.hid hN
  have hn' := Lib.hid hn
  rw [← hN] at c1 hsm hmk hfl
  rw [← hn] at c2 hfl
  have ca := fun o => (World.cell?_of_block (w := w) (w' := w.alloc o) (a := ⟨P, 2, none⟩) (heap_alloc_old _ _ _ hPl.out)).trans c2
  clear h hw hN hn
  go_enter Try.func41, Try.ntmps41
  go_wp2_with fail
  go_loopw [16] (fun i wr => ∃ q : Nat, q ≤ n ∧ i = .int .i64 (q : Int) ∧ Met wr w.heap.size N (fun j => decide (j ∈ a.free.take q)) ∧ Below w.heap.size w wr) (fun i _ => n - (intOf i).toNat)
  case atStart =>
    refine ⟨0, Nat.zero_le _, rfl, (Met.new w N).eq fun j _ => by simp, (Below.refl _ _).alloc (Nat.le_refl _) _⟩
  case round =>
    obtain ⟨q, hq, rfl, hm, hb⟩ := hrel
    have hm' := Lib.hid hm
    have hb' := Lib.hid hb
    clear hm hb
    by_cases hqn : q < n
    · have hqI : (q : Int) < (n : Int) := by omega
      have hPA := h'.out.below hb'.out
      have hql : q < a.free.length := by have := hn'.out; omega
      obtain ⟨y, hy⟩ : ∃ y, a.free[q]? = some y := ⟨_, List.getElem?_eq_getElem hql⟩
      obtain ⟨g, hg, hgc⟩ := hPA.free.at_ hy
      have hcap := hPA.free.blk.2.1
      have hyf := hw'.out.fmem.1 (List.mem_of_getElem? hy)
      have hyN : y < N := by have := hN'.out; have := hyf.1; omega
      have hym := Lib.hid (Nat.lt_of_lt_of_le hyf.1 hPA.room)
      have e0 := (hPA.eight hym.out).1
      rw [hyf.2] at e0
      obtain ⟨d0, d1, d2, df⟩ := hPA.head_cells
      rw [← hN'.out] at d1
      rw [hg] at c2
      have hno : decide (y ∈ a.free.take q) = false := by
        rw [decide_eq_false_iff_not]
        intro hmem
        obtain ⟨j, hj⟩ := List.mem_iff_getElem?.1 hmem
        rw [List.getElem?_take] at hj
        split at hj
        · rename_i hjq
          exact nodup_idx hw'.out.fnd hy j hjq hj
        · cases hj
      obtain ⟨m0, mf⟩ := hm'.out.at_ hyN
      simp only [hno] at m0
      have hyI : ¬ ((N : Int) ≤ (y : Int)) := by omega
      have hyI2 : (y : Int) < (N : Int) := by omega
      unfold natV at hgc
      have hnext := Lib.hid (hm'.out.put (i := y) hyN)
      have htk := Lib.hid (show a.free.take (q + 1) = a.free.take q ++ [y] by rw [List.take_add_one, hy]; rfl)
      have hPA' := Lib.hid hPA
      have hcap' : n ≤ fc := by have := hn'.out; omega
      subst hg
      clear hPA hql hy hcap hyf hno d0 d2
      go_wp2_with (refine (node_any hPA'.out hym.out).mono ?_; rintro e w7 ⟨rfl, rfl⟩)
      go_roundw
      case rel =>
        refine ⟨q + 1, by omega, rfl, hnext.out.eq fun j hj => ?_, hb'.out.setCell (Nat.le_refl _) _⟩
        rw [htk.out]
        by_cases e : j = y
        · subst e; simp
        · simp [e]
      case measure => simp [intOf] <;> omega
    · have hqI : ¬ (q : Int) < (n : Int) := by omega
      go_wp2_with fail
      go_ret
      exact ⟨rfl, hb'.out⟩
open Classical in
/-- who has been met, when the children of the slots below s, and j of s's, are gone through -/
noncomputable def metB (a : Av) (s j k : Nat) : Bool := decide ((∃ i, i < s ∧ k ∈ a.kids i) ∨ k ∈ (a.kids s).take j)
theorem metB_zero (a : Av) (k : Nat) : metB a 0 0 k = false := by unfold metB; simp
theorem metB_next (a : Av) (s k : Nat) : metB a (s + 1) 0 k = metB a s (a.kids s).length k := by
  unfold metB
  rw [List.take_of_length_le (Nat.le_refl _)]
  simp only [List.take_zero, List.not_mem_nil, or_false, decide_eq_decide]
  constructor
  · rintro ⟨i, hi, hk⟩
    by_cases e : i = s
    · subst e; exact .inr hk
    · exact .inl ⟨i, by omega, hk⟩
  · rintro (⟨i, hi, hk⟩ | hk)
    · exact ⟨i, by omega, hk⟩
    · exact ⟨s, by omega, hk⟩
theorem metB_step {a : Av} {s j y : Nat} (hy : (a.kids s)[j]? = some y) (k : Nat) : metB a s (j + 1) k = if k = y then true else metB a s j k := by
  unfold metB
  rw [List.take_add_one, hy]
  by_cases e : k = y
  · subst e; simp
  · simp [e]
theorem metB_new {a : Av} (hw : WF a) {s j y : Nat} (hy : (a.kids s)[j]? = some y) : metB a s j y = false := by
  unfold metB
  rw [decide_eq_false_iff_not]
  have hm := List.mem_of_getElem? hy
  rintro (⟨i, hi, hk⟩ | hk)
  · have h1 := (hw.kid hm).2
    have h2 := (hw.kid hk).2
    omega
  · obtain ⟨q, hq⟩ := List.mem_iff_getElem?.1 hk
    rw [List.getElem?_take] at hq
    split at hq
    · rename_i hjq
      exact nodup_idx (hw.nd s) hy q hjq hq
    · cases hq
set_option maxHeartbeats 4000000 in
theorem isLinked_any (h : PA w ow P a B m sv sA sc fA fc) (hw : WF a) : Calls Try.prog 40 #[.pointer (some ⟨P, 0, none⟩)] w fun e w' => e = .returned (.bool true) ∧ Below w.heap.size w w' := by
  have h' := Lib.hid h
  have hw' := Lib.hid hw
  obtain ⟨c0, c1, c2, cf⟩ := h.head_cells
  have hsm := h.small
  have hmk := mk_bool a.cnt (by omega)
  have hPl := Lib.hid (Array.getElem?_eq_some_iff.1 h.head).1
  have hroom := Lib.hid h.room
  obtain ⟨N, hN⟩ : ∃ N, N = a.cnt := ⟨_, rfl⟩
  have hN' := Lib.hid hN
  rw [← hN] at c1 hsm hmk hroom
  have ca := fun o => (World.cell?_of_block (w := w) (w' := w.alloc o) (a := ⟨P, 1, none⟩) (heap_alloc_old _ _ _ hPl.out)).trans c1
  clear h hw hN
  go_enter Try.func40, Try.ntmps40
  go_wp2_with fail
  go_loopw [16] (fun i wr => ∃ s : Nat, s ≤ N ∧ i = .int .i64 (s : Int) ∧ Met wr w.heap.size N (fun k => metB a s 0 k) ∧ Below w.heap.size w wr) (fun i _ => N - (intOf i).toNat)
  case atStart => exact ⟨0, Nat.zero_le _, rfl, (Met.new w N).eq fun j _ => metB_zero a j, (Below.refl _ _).alloc (Nat.le_refl _) _⟩
  case round =>
    obtain ⟨s, hs, rfl, hm, hb⟩ := hrel
    obtain ⟨wo, hwo⟩ : ∃ wo, wo = wr := ⟨_, rfl⟩
    subst hwo
    have hm' := Lib.hid hm
    have hb' := Lib.hid hb
    clear hm hb
    by_cases hsN : s < N
    · have hsI : (s : Int) < (N : Int) := by omega
      have hsm16 := Lib.hid (show s < m * 16 by have := hroom.out; omega)
      have hPA := h'.out.below hb'.out
      have e2 := (hPA.eight hsm16.out).2.2.1
      have hkl := (hPA.kids s hsm16.out).len
      have hks := hPA.ksmall s
      rw [hkl] at e2
      obtain ⟨n, hn⟩ : ∃ n, n = (a.kids s).length := ⟨_, rfl⟩
      have hn' := Lib.hid hn
      rw [← hn] at e2 hks
      generalize hkA : (sv s).kA = kA at e2
      generalize hkc : (sv s).kc = kc at e2
      have hrow := Lib.hid (show OwnN w (.slice kA n kc) (a.kids s) by rw [hn, ← hkl, ← hkA, ← hkc]; exact (h'.out.kids s hsm16.out).own)
      have hrl := Lib.hid (fun ad (e : kA = some ad) => show ad.block < w.heap.size from h'.out.low _ (by rw [(h'.out.kids s hsm16.out).role ad (hkA.trans e)]; simp))
      have hcap : n ≤ kc := hrow.out.blk.2.1
      have hPA' := Lib.hid hPA
      clear hPA hkl hn hkA hkc
      go_wp2_with (refine (node_any hPA'.out hsm16.out).mono ?_; rintro e w7 ⟨rfl, rfl⟩)
      go_loopw [26] (fun i wr => ∃ j : Nat, j ≤ n ∧ i = .int .i64 (j : Int) ∧ Met wr w.heap.size N (fun k => metB a s j k) ∧ Below w.heap.size w wr) (fun i _ => n - (intOf i).toNat)
      case atStart => exact ⟨0, Nat.zero_le _, rfl, hm'.out, hb'.out⟩
      case round =>
        obtain ⟨j, hj, rfl, hm2, hb2⟩ := hrel
        have hm2' := Lib.hid hm2
        have hb2' := Lib.hid hb2
        clear hm2 hb2
        by_cases hjn : j < n
        · have hjI : (j : Int) < (n : Int) := by omega
          have hjl : j < (a.kids s).length := by have := hn'.out; omega
          obtain ⟨y, hy⟩ : ∃ y, (a.kids s)[j]? = some y := ⟨_, List.getElem?_eq_getElem hjl⟩
          obtain ⟨g, hg, hgc⟩ := hrow.out.at_ hy
          have hgl := hrl.out _ hg
          have hgc2 := (hb2'.out.cell (p := ⟨g, j, none⟩) hgl).trans hgc
          unfold natV at hgc2
          subst hg
          have hyl := hw'.out.kid (List.mem_of_getElem? hy)
          have hyc := hw'.out.lt hyl.1
          have hyN : y < N := by have := hN'.out; omega
          have hym := Lib.hid (show y < m * 16 by have := hroom.out; omega)
          have hPA2 := Lib.hid (h'.out.below hb2'.out)
          have y1 := (hPA2.out.eight hym.out).2.1
          rw [hyl.2] at y1
          have hli := Lib.hid (show liveI a (y : Int) = true by unfold liveI; simpa using hyl.1)
          have hno := metB_new hw'.out hy
          obtain ⟨m0, mf⟩ := hm2'.out.at_ hyN
          simp only [hno] at m0
          have hyI2 : (y : Int) < (N : Int) := by omega
          have hnext := Lib.hid (hm2'.out.put (i := y) hyN)
          have hst := Lib.hid (fun k => metB_step (a := a) hy k)
          have hbeq : ((s : Int) != (s : Int)) = false := by simp
          clear hjl hy hgl hgc hyl hyc hno
          go_wp2_with (first
            | (refine (isLive_any hPA2.out (y : Int)).mono ?_; rintro e w7 ⟨rfl, rfl⟩; rw [hli.out])
            | (refine (node_any hPA2.out hym.out).mono ?_; rintro e w7 ⟨rfl, rfl⟩))
          go_roundw
          case rel => exact ⟨j + 1, by omega, rfl, hnext.out.eq fun k _ => hst.out k, hb2'.out.setCell (Nat.le_refl _) _⟩
          case measure => simp [intOf] <;> omega
        · have hjI : ¬ (j : Int) < (n : Int) := by omega
          have hjn' : n = j := by omega
          have hnx := Lib.hid (fun k => show metB a (s + 1) 0 k = metB a s j k by rw [metB_next, ← hn'.out, hjn'])
          go_wp2_with fail
          go_roundw
          case rel => exact ⟨s + 1, by omega, rfl, hm2'.out.eq fun k _ => hnx.out k, hb2'.out⟩
          case measure => simp [intOf] <;> omega
    · have hsI : ¬ (s : Int) < (N : Int) := by omega
      have hPA := h'.out.below hb'.out
      have h016 := Lib.hid (show 0 < m * 16 by have := hroom.out; have := hw'.out.cnt_pos; have := hN'.out; omega)
      have r1 := (hPA.eight h016.out).2.1
      rw [hw'.out.par0] at r1
      simp at r1
      have hPA' := Lib.hid hPA
      clear hPA
      go_wp2_with (refine (node_any (s := 0) hPA'.out h016.out).mono ?_; rintro e w7 ⟨rfl, rfl⟩)
      go_ret
      exact ⟨rfl, hb'.out⟩
set_option maxHeartbeats 4000000 in
theorem whole_any (h : PAr w ow P a) (hw : WF a) (hc : a.cnt ≤ 100000) : Calls Try.prog 17 #[.pointer (some ⟨P, 0, none⟩)] w fun e w' => e = .returned (.bool true) ∧ Below w.heap.size w w' := by
  obtain ⟨B, m, sv, sA, sc, fA, fc, h1⟩ := h
  have h1' := Lib.hid h1
  have hw' := Lib.hid hw
  obtain ⟨l, hl⟩ := hw.pre hw.root
  have hl' := Lib.hid hl
  have hlm := Lib.hid (fun x (hx : x ∈ l) => Nat.lt_of_lt_of_le (hw.lt ((hw.pre_iff hl hw.root x).1 hx).1) h1.room)
  have hll := Lib.hid (Nat.le_trans (hw.pre_len hl hw.root) hc)
  have hwh := hw.whole hl
  have hlv := Lib.hid (show liveI a 0 = true by unfold liveI; simpa using hw.root)
  obtain ⟨n, hn⟩ : ∃ n, n = l.length := ⟨_, rfl⟩
  obtain ⟨k, hk⟩ : ∃ k, k = a.free.length := ⟨_, rfl⟩
  obtain ⟨N, hN⟩ : ∃ N, N = a.cnt := ⟨_, rfl⟩
  rw [← hn, ← hk, ← hN] at hwh
  rw [← hN] at hc
  have hsum : ((n : Int) + (k : Int) == (N : Int)) = true := by simp; omega
  have hs3 : n + k ≤ 100000 := by omega
  have hwr : IntKind.i64.wrap ((n : Int) + (k : Int)) = (n : Int) + (k : Int) := IntWalk.i64_in _ (by omega)
  have hn' := Lib.hid hn
  have hk' := Lib.hid hk
  have hN' := Lib.hid hN
  clear h1 hw hl hn hk hN hwh
  go_enter Try.func17, Try.ntmps17
  go_wp2_with fail
  have hbd : Below w.heap.size w w.drew := (Below.refl _ _).drew
  have hK := Lib.hid (fun (W : World) (hb : Below w.heap.size w W) => h1'.out.below hb)
  have eK := Lib.hid (fun (W : World) (hb : Below w.heap.size w W) => show W.cell? ⟨P, 2, none⟩ = some (.slice fA k fc) ∧ W.cell? ⟨P, 1, none⟩ = some (.int .i64 (N : Int)) from by
    obtain ⟨_, q1, q2, _⟩ := (h1'.out.below hb).head_cells
    rw [hk'.out, hN'.out]
    exact ⟨q2, q1⟩)
  go_region_held3 (fun W => W.cell? ⟨P, 2, none⟩ = some (.slice fA k fc) ∧ W.cell? ⟨P, 1, none⟩ = some (.int .i64 (N : Int)))
    (first
      | exact eK.out _ hbd
      | exact eK.out w5 hb5'.out
      | exact eK.out w6 hb6'.out
      | exact eK.out w7 hb7'.out
      | go_keep)
    (first
      | (go_at_call 42; refine (subtree_any (hK.out _ hb6'.out) hl'.out hlm.out hll.out).mono ?_; rintro e w7 ⟨A7, c7, rfl, ho7, hf7, hb7⟩; have hb7' := Lib.hid (hb6'.out.trans (hb7.mono hb6'.out.size)); rw [← hn'.out]; clear ho7 hf7 hb7)
      | (go_at_call 41; refine (isFreeApart_any (hK.out _ hb5'.out) hw'.out).mono ?_; rintro e w6 ⟨rfl, hb6⟩; have hb6' := Lib.hid (hb5'.out.trans (hb6.mono hb5'.out.size)); clear hb6)
      | (go_at_call 40; refine (isLinked_any (hK.out _ hbd) hw'.out).mono ?_; rintro e w5 ⟨rfl, hb5⟩; have hb5' := Lib.hid (hbd.trans hb5); clear hb5)
      | (go_at_call 38; refine (isLive_any (hK.out _ hbd) 0).mono ?_; rintro e w4 ⟨rfl, rfl⟩; rw [hlv.out]))
  all_goals
    go_wp2_with fail
    go_ret
    exact ⟨rfl, hb7'.out⟩
end
end Go.Proofs.Ytiikakfdelkjhaa.Arn
