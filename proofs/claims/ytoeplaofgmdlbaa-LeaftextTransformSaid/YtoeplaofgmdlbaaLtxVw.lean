/- The document's view of an edit. -/
import Derived.Test.YtoeplaofgmdlbaaLtxPa
import Derived.Test.YtoeplaofgmdlbaaLtxJ
import Derived.Deep.OwnRows
import Derived.Deep.CutRange
namespace Go.Proofs.Ytoeplaofgmdlbaa
open Go.RowKit
set_option maxRecDepth 20000
open Ltx (Pc)

theorem Try.infoStr : (Try.prog.info? 9).map (fun i => (i.zero, i.size, i.bytes)) = some (some (.string ⟨#[]⟩), 1, 16) := by kernel_rfl
theorem Try.infoBool : (Try.prog.info? 4).map (fun i => (i.zero, i.size, i.bytes)) = some (some (.bool false), 1, 1) := by kernel_rfl
theorem mk_str (N : Nat) (h : N ≤ 1000000) (u : World) : (Instr.makeSlice 44 (.int .i64 (N : Int)) (.int .i64 (N : Int))).run Try.prog u = .ok (.slice (some ⟨u.heap.size, 0, none⟩) N N) (u.alloc (.cells (madeCells #[.string ⟨#[]⟩] N) 9)) :=
  run_make_row' 44 9 (.string ⟨#[]⟩) 16 Try.underlying44 Try.infoStr rfl .i64 .i64 N (by omega) (by omega) u
theorem mk_bool (N : Nat) (h : N ≤ 1000000) (u : World) : (Instr.makeSlice 68 (.int .i64 (N : Int)) (.int .i64 (N : Int))).run Try.prog u = .ok (.slice (some ⟨u.heap.size, 0, none⟩) N N) (u.alloc (.cells (madeCells #[.bool false] N) 4)) :=
  run_make_row' 68 4 (.bool false) 1 Try.underlying68 Try.infoBool rfl .i64 .i64 N (by omega) (by omega) u
/-- two rows that show an edit, place by place -/
structure VRow (w : World) (g1 g2 N : Nat) (pu : Nat → List UInt8) (dr : Nat → Bool) : Prop where
  r1 : ∃ c1, w.heap[g1]? = some (.cells c1 9 (0, 0)) ∧ c1.size = N ∧ ∀ j, j < N → c1[j]? = some (.string ⟨(pu j).toArray⟩)
  r2 : ∃ c2, w.heap[g2]? = some (.cells c2 4 (0, 0)) ∧ c2.size = N ∧ ∀ j, j < N → c2[j]? = some (.bool (dr j))
theorem VRow.new {w : World} {g1 g2 N : Nat} (h1 : w.heap[g1]? = some (.cells (madeCells #[.string ⟨#[]⟩] N) 9 (0, 0))) (h2 : w.heap[g2]? = some (.cells (madeCells #[.bool false] N) 4 (0, 0))) : VRow w g1 g2 N (Ltx.putAt []) (Ltx.dropAt []) := by
  refine ⟨⟨_, h1, by simp [size_madeCells], fun j hj => ?_⟩, ⟨_, h2, by simp [size_madeCells], fun j hj => ?_⟩⟩
  · simp [madeCells, hj, Ltx.putAt, Nat.mod_one]
  · simp [madeCells, hj, Ltx.dropAt, Nat.mod_one]
theorem four (w : World) (o0 a b c : Obj) : ((((w.alloc o0).alloc a).alloc b).alloc c).heap[w.heap.size]? = some o0 ∧ ((((w.alloc o0).alloc a).alloc b).alloc c).heap[w.heap.size + 1]? = some a ∧ ((((w.alloc o0).alloc a).alloc b).alloc c).heap[w.heap.size + 1 + 1]? = some b ∧ ((((w.alloc o0).alloc a).alloc b).alloc c).heap[w.heap.size + 1 + 1 + 1]? = some c := by
  have s1 : (w.alloc o0).heap.size = w.heap.size + 1 := by simp
  have s2 : ((w.alloc o0).alloc a).heap.size = w.heap.size + 1 + 1 := by simp
  have s3 : (((w.alloc o0).alloc a).alloc b).heap.size = w.heap.size + 1 + 1 + 1 := by simp
  have e0 := heap_alloc_new w o0
  have e1 := heap_alloc_new (w.alloc o0) a
  have e2 := heap_alloc_new ((w.alloc o0).alloc a) b
  have e3 := heap_alloc_new (((w.alloc o0).alloc a).alloc b) c
  rw [s1] at e1
  rw [s2] at e2
  rw [s3] at e3
  refine ⟨?_, ?_, ?_, e3⟩
  · exact (Go.heap_alloc_old _ _ (by omega)).trans ((Go.heap_alloc_old _ _ (by omega)).trans ((Go.heap_alloc_old _ _ (by omega)).trans e0))
  · exact (Go.heap_alloc_old _ _ (by omega)).trans ((Go.heap_alloc_old _ _ (by omega)).trans e1)
  · exact (Go.heap_alloc_old _ _ (by omega)).trans e2
theorem four_below (w : World) (o0 a b c : Obj) : Below w.heap.size w ((((w.alloc o0).alloc a).alloc b).alloc c) :=
  ((((Below.refl w.heap.size w).alloc (Nat.le_refl _) _).alloc (by simp) _).alloc (by simp; omega) _).alloc (by simp; omega) _
theorem VRow.kept {w w' : World} {g1 g2 N : Nat} {pu : Nat → List UInt8} {dr : Nat → Bool} (h : VRow w g1 g2 N pu dr) (k1 : w'.heap[g1]? = w.heap[g1]?) (k2 : w'.heap[g2]? = w.heap[g2]?) : VRow w' g1 g2 N pu dr := by
  obtain ⟨⟨c1, a1, a2, a3⟩, ⟨c2, b1, b2, b3⟩⟩ := h
  exact ⟨⟨c1, k1.trans a1, a2, a3⟩, ⟨c2, k2.trans b1, b2, b3⟩⟩
theorem VRow.put {w : World} {g1 g2 N i : Nat} {pu : Nat → List UInt8} {dr : Nat → Bool} (h : VRow w g1 g2 N pu dr) (t : List UInt8) (hi : i < N) (hne : g1 ≠ g2) : VRow (w.setCell ⟨g1, i, none⟩ (.string ⟨t.toArray⟩)) g1 g2 N (fun j => if j = i then t else pu j) dr := by
  obtain ⟨⟨c1, a1, a2, a3⟩, ⟨c2, b1, b2, b3⟩⟩ := h
  refine ⟨⟨_, heap_setCell_same w g1 i _ _ _ a1, by simp [a2], fun j hj => ?_⟩, ⟨c2, (heap_setCell_other w ⟨g1, i, none⟩ g2 _ (fun e => hne e.symm)).trans b1, b2, b3⟩⟩
  by_cases h : j = i
  · subst h
    rw [if_pos rfl, Array.getElem?_setIfInBounds_self_of_lt (by omega)]
  · rw [if_neg h, Array.getElem?_setIfInBounds_ne (fun e => h e.symm)]
    exact a3 j hj
theorem VRow.drop {w : World} {g1 g2 N i : Nat} {pu : Nat → List UInt8} {dr : Nat → Bool} (h : VRow w g1 g2 N pu dr) (hi : i < N) (hne : g1 ≠ g2) : VRow (w.setCell ⟨g2, i, none⟩ (.bool true)) g1 g2 N pu (fun j => if j = i then true else dr j) := by
  obtain ⟨⟨c1, a1, a2, a3⟩, ⟨c2, b1, b2, b3⟩⟩ := h
  refine ⟨⟨c1, (heap_setCell_other w ⟨g2, i, none⟩ g1 _ hne).trans a1, a2, a3⟩, ⟨_, heap_setCell_same w g2 i _ _ _ b1, by simp [b2], fun j hj => ?_⟩⟩
  by_cases h : j = i
  · subst h
    rw [if_pos rfl, Array.getElem?_setIfInBounds_self_of_lt (by omega)]
  · rw [if_neg h, Array.getElem?_setIfInBounds_ne (fun e => h e.symm)]
    exact b3 j hj
theorem VRow.congr {w : World} {g1 g2 N : Nat} {pu pu' : Nat → List UInt8} {dr dr' : Nat → Bool} (h : VRow w g1 g2 N pu dr) (e1 : ∀ j, j < N → pu j = pu' j) (e2 : ∀ j, j < N → dr j = dr' j) : VRow w g1 g2 N pu' dr' := by
  obtain ⟨⟨c1, a1, a2, a3⟩, ⟨c2, b1, b2, b3⟩⟩ := h
  exact ⟨⟨c1, a1, a2, fun j hj => by rw [← e1 j hj]; exact a3 j hj⟩, ⟨c2, b1, b2, fun j hj => by rw [← e2 j hj]; exact b3 j hj⟩⟩
def Vst (w : World) (N : Nat) (v5 : Value) (wc : World) : Prop := ∃ P g1 g2 : Nat, v5 = .pointer (some ⟨P, 0, none⟩) ∧ wc.heap[P]? = some (.cells #[.slice (some ⟨g1, 0, none⟩) N N, .slice (some ⟨g2, 0, none⟩) N N] 70 (0, 0)) ∧ VRow wc g1 g2 N (Ltx.putAt []) (Ltx.dropAt []) ∧ w.heap.size < P ∧ w.heap.size < g1 ∧ w.heap.size < g2 ∧ Below w.heap.size w wc ∧ (∃ z, wc.heap[w.heap.size]? = some (.cells z 70 (0, 0)) ∧ z.size = 2)
theorem Vst.mk {w : World} {N : Nat} {v5 : Value} {wc : World} (P g1 g2 : Nat) (z : Array Value) (h : v5 = .pointer (some ⟨P, 0, none⟩)) (h1 : wc.heap[P]? = some (.cells #[.slice (some ⟨g1, 0, none⟩) N N, .slice (some ⟨g2, 0, none⟩) N N] 70 (0, 0)))
    (h2 : wc.heap[g1]? = some (.cells (madeCells #[.string ⟨#[]⟩] N) 9 (0, 0))) (h3 : wc.heap[g2]? = some (.cells (madeCells #[.bool false] N) 4 (0, 0))) (k1 : w.heap.size < P) (k2 : w.heap.size < g1) (k3 : w.heap.size < g2) (hb : Below w.heap.size w wc) (h0 : wc.heap[w.heap.size]? = some (.cells z 70 (0, 0))) (hz : z.size = 2) : Vst w N v5 wc :=
  ⟨P, g1, g2, h, h1, VRow.new h2 h3, k1, k2, k3, hb, z, h0, hz⟩
set_option maxHeartbeats 2000000 in
theorem view_any (w : World) (A : Option Addr) (m c n : Nat) (l : List Pc) (hx : PcsIn w A m (l.map ipc)) (hm : m ≤ maxLen) (hN : Ltx.Normal l) (hf : Ltx.extent l ≤ n) (hn : n ≤ 100000) :
    Calls Try.prog 40 #[.slice A m c, .int .i64 (n : Int)] w fun e w' => ∃ g1 g2, e = .returned (.agg #[.slice (some ⟨g1, 0, none⟩) (n + 1) (n + 1), .slice (some ⟨g2, 0, none⟩) (n + 1) (n + 1)]) ∧ VRow w' g1 g2 (n + 1) (Ltx.putAt l) (Ltx.dropAt l) ∧ w.heap.size ≤ g1 ∧ w.heap.size ≤ g2 ∧ Below w.heap.size w w' := by
  have hx' := Lib.hid hx
  have hlen := Lib.hid (show l.length = m by have := hx.1; simpa using this)
  have hN' := Lib.hid hN
  clear hx hN
  have hm' : (m : Int) ≤ 9223372036854775807 := by unfold maxLen at hm; omega
  obtain ⟨N, hNn⟩ : ∃ N : Nat, N = n + 1 := ⟨_, rfl⟩
  have m1 := mk_str N (by omega)
  have m2 := mk_bool N (by omega)
  have hNi : (n : Int) + 1 = (N : Int) := by omega
  have hNH := Lib.hid hNn
  clear hNn
  go_enter Try.func40, Try.ntmps40
  go_upto_region 1 with fail
  go_cut [5] from 9 (fun v5 wc => Vst w N v5 wc)
  case first =>
    go_region
    all_goals
      go_wp2_with fail
      go_meet
      case rel =>
        first
          | exact Vst.mk _ _ _ _ rfl (four w _ _ _ _).2.1 (four w _ _ _ _).2.2.1 (four w _ _ _ _).2.2.2 (by omega) (by omega) (by omega) (four_below w _ _ _ _).drew (four w _ _ _ _).1 rfl
          | exact Vst.mk _ _ _ _ rfl (four w _ _ _ _).2.1 (four w _ _ _ _).2.2.2 (four w _ _ _ _).2.2.1 (by omega) (by omega) (by omega) (four_below w _ _ _ _).drew (four w _ _ _ _).1 rfl
          | exact Vst.mk _ _ _ _ rfl (four w _ _ _ _).2.2.1 (four w _ _ _ _).2.1 (four w _ _ _ _).2.2.2 (by omega) (by omega) (by omega) (four_below w _ _ _ _).drew (four w _ _ _ _).1 rfl
          | exact Vst.mk _ _ _ _ rfl (four w _ _ _ _).2.2.1 (four w _ _ _ _).2.2.2 (four w _ _ _ _).2.1 (by omega) (by omega) (by omega) (four_below w _ _ _ _).drew (four w _ _ _ _).1 rfl
          | exact Vst.mk _ _ _ _ rfl (four w _ _ _ _).2.2.2 (four w _ _ _ _).2.1 (four w _ _ _ _).2.2.1 (by omega) (by omega) (by omega) (four_below w _ _ _ _).drew (four w _ _ _ _).1 rfl
          | exact Vst.mk _ _ _ _ rfl (four w _ _ _ _).2.2.2 (four w _ _ _ _).2.2.1 (four w _ _ _ _).2.1 (by omega) (by omega) (by omega) (four_below w _ _ _ _).drew (four w _ _ _ _).1 rfl
  case rest =>
    obtain ⟨P, g1, g2, rfl, hP, hV, k1, k2, k3, hb, hz⟩ := hcut
    have hne : g1 ≠ g2 := fun e => by
      obtain ⟨⟨c1, a1, -⟩, ⟨c2, b1, -⟩⟩ := hV
      rw [e, b1] at a1
      injection a1 with a1
      injection a1 with _ h2 _
      revert h2
      decide
    have hP1 : P ≠ g1 := fun e => by
      obtain ⟨⟨c1, a1, -⟩, ⟨c2, b1, -⟩⟩ := hV
      rw [e, a1] at hP
      injection hP with a1
      injection a1 with _ h2 _
      revert h2
      decide
    have hP2 : P ≠ g2 := fun e => by
      obtain ⟨⟨c1, a1, -⟩, ⟨c2, b1, -⟩⟩ := hV
      rw [e, b1] at hP
      injection hP with a1
      injection a1 with _ h2 _
      revert h2
      decide
    obtain ⟨ad1, had1⟩ : ∃ a : Addr, a = ⟨g1, 0, none⟩ := ⟨_, rfl⟩
    obtain ⟨ad2, had2⟩ : ∃ a : Addr, a = ⟨g2, 0, none⟩ := ⟨_, rfl⟩
    rw [← had1, ← had2] at hP
    have had1' := Lib.hid had1
    have had2' := Lib.hid had2
    clear had1 had2
    have hP' := Lib.hid hP
    have hV' := Lib.hid hV
    have hb' := Lib.hid hb
    have hz' := Lib.hid hz
    have hne' := Lib.hid hne
    have hP1' := Lib.hid hP1
    have hP2' := Lib.hid hP2
    have kk := Lib.hid (And.intro k1 (And.intro k2 k3))
    clear hP hV hb hz hne hP1 hP2 k1 k2 k3
    go_wp2_with fail
    go_loopw [6, 7] (fun at_ k wr => ∃ q : Nat, q ≤ m ∧ k = .int .i64 (q : Int) ∧ at_ = .int .i64 (Ltx.extent (l.take q) : Int) ∧ wr.heap[P]? = some (.cells #[.slice (some ad1) N N, .slice (some ad2) N N] 70 (0, 0)) ∧ VRow wr g1 g2 N (Ltx.putAt (l.take q)) (Ltx.dropAt (l.take q)) ∧ Below w.heap.size w wr ∧ (∃ z, wr.heap[w.heap.size]? = some (.cells z 70 (0, 0)) ∧ z.size = 2)) (fun _ k _ => m - (intOf k).toNat)
    case atStart => exact ⟨0, Nat.zero_le _, rfl, rfl, hP'.out, hV'.out, hb'.out, hz'.out⟩
    case round =>
      obtain ⟨q, hq, rfl, rfl, hP, hV, hb, hz⟩ := hrel
      by_cases h1 : q < m
      · have h1I : (q : Int) < (m : Int) := by omega
        obtain ⟨ad, p, rfl, hpq, hlt, hp⟩ := (hx'.out.below hb).pc h1
        obtain ⟨x1, x2, x3, x4, x5, x6, x7, x8⟩ := hp
        have hex := extent_take l q p hpq
        have hele := extent_le l (q + 1)
        have hkp := Lib.hid (normal_keep hN'.out q p hpq)
        have htk := Lib.hid (show l.take (q + 1) = l.take q ++ [p] by rw [List.take_add_one, hpq]; rfl)
        have cP0 := cell_of_row wr P 0 _ _ _ hP
        have cP1 := cell_of_row wr P 1 _ _ _ hP
        simp at cP0 cP1
        obtain ⟨kp, dr, pu⟩ := p
        simp only [ipc] at *
        have hP2 := Lib.hid hP
        have hV2 := Lib.hid hV
        have hb2 := Lib.hid hb
        have hz2 := Lib.hid hz
        have hpqH := Lib.hid (show (l.map ipc)[q]? = some (ipc ⟨kp, dr, pu⟩) by rw [List.getElem?_map, hpq]; rfl)
        clear hP hV hb hz hpq
        obtain ⟨e0, he0⟩ : ∃ e0, e0 = Ltx.extent (l.take q) := ⟨_, rfl⟩
        rw [← he0] at hex
        rw [← he0]
        have he0' := Lib.hid he0
        clear he0
        have hbnd : e0 + kp + dr ≤ n := by omega
        obtain ⟨a1, ha1⟩ : ∃ a1, a1 = e0 + kp := ⟨_, rfl⟩
        have ha1I : (e0 : Int) + (kp : Int) = (a1 : Int) := by omega
        have hbN : a1 < N := by have := hNH.out; omega
        have hbNI : (a1 : Int) < (N : Int) := by omega
        have ha1' := Lib.hid ha1
        clear ha1
        obtain ⟨old, hold⟩ : ∃ old, wr.cell? (ad1.add a1) = some old := by
          obtain ⟨⟨c1, q1, q2, q3⟩, -⟩ := hV2.out
          have hadd : ad1.add a1 = ⟨g1, a1, none⟩ := by rw [had1'.out]; unfold Addr.add; split <;> simp_all
          exact ⟨_, by rw [hadd, cell_of_row wr g1 a1 _ _ _ q1]; exact q3 a1 hbN⟩
        have hfr : wr.frozen? (ad1.add a1) = false := by
          obtain ⟨⟨c1, q1, q2, q3⟩, -⟩ := hV2.out
          have hadd : ad1.add a1 = ⟨g1, a1, none⟩ := by rw [had1'.out]; unfold Addr.add; split <;> simp_all
          rw [hadd]; exact frozen_of_row wr g1 a1 _ _ q1
        go_upto_region 7 with fail
        go_region
        have hV3 := hV2.out.put pu hbN hne'.out
        have hadd1 : ad1.add a1 = ⟨g1, a1, none⟩ := by rw [had1'.out]; unfold Addr.add; split <;> simp_all
        have hw3 : ∃ w3, w3 = (wr.setCell (ad1.add a1) (.string ⟨pu.toArray⟩)).drew := ⟨_, rfl⟩
        obtain ⟨w3, hw3⟩ := hw3
        rw [← hw3]
        have hP3 : w3.heap[P]? = some (.cells #[.slice (some ad1) N N, .slice (some ad2) N N] 70 (0, 0)) := by
          rw [hw3, hadd1]
          exact (heap_setCell_other wr ⟨g1, a1, none⟩ P _ hP1'.out).trans hP2.out
        have hV4 : VRow w3 g1 g2 N (fun j => if j = a1 then pu else Ltx.putAt (l.take q) j) (Ltx.dropAt (l.take q)) := by
          rw [hw3, hadd1]
          exact hV3.kept rfl rfl
        have hb3 : Below w.heap.size w w3 := by
          have h := hb2.out.setCell (p := ⟨g1, a1, none⟩) (show w.heap.size ≤ g1 by have := kk.out.2.1; omega) (.string ⟨pu.toArray⟩)
          rw [hw3, hadd1]
          exact h.drew
        have hz3 : ∃ z, w3.heap[w.heap.size]? = some (.cells z 70 (0, 0)) ∧ z.size = 2 := by
          obtain ⟨z, z1, z2⟩ := hz2.out
          refine ⟨z, ?_, z2⟩
          rw [hw3, hadd1]
          exact (heap_setCell_other wr ⟨g1, a1, none⟩ _ _ (fun e => by have e2 : w.heap.size = g1 := e; have := kk.out.2.1; omega)).trans z1
        have hp3 := PieceAt.where_ (w' := w3) (show PieceAt wr (ad.add (q * 3)) ⟨(kp : Int), (dr : Int), pu⟩ from ⟨x1, x2, x3, x4, x5, x6, x7, x8⟩) (by
          rw [hw3, hadd1, block_add]
          exact heap_setCell_other wr ⟨g1, a1, none⟩ _ _ (by
            intro e
            have e2 : ad.block = g1 := e
            obtain ⟨ad', e3, hlt', -⟩ := hx'.out.2 q (ipc ⟨kp, dr, pu⟩) hpqH.out
            injection e3 with e3
            subst e3
            have := kk.out.2.1
            omega))
        obtain ⟨-, -, -, -, -, y6, y7, y8⟩ := hp3
        have hP4 := Lib.hid hP3
        have hV5 := Lib.hid hV4
        have hb4 := Lib.hid hb3
        have hz4 := Lib.hid hz3
        have hxx := Lib.hid (And.intro x1 (And.intro x2 (And.intro x3 (And.intro x4 x5))))
        clear hP3 hV4 hb3 hz3 hw3 hV3 hadd1 hold hfr x6 x7 x8 cP0 cP1 x1 x2 x5
        go_wp2_with fail
        go_loopw [8] (fun kv wr => ∃ k : Nat, k ≤ dr ∧ kv = .int .i64 (k : Int) ∧ wr.heap[P]? = some (.cells #[.slice (some ad1) N N, .slice (some ad2) N N] 70 (0, 0)) ∧ VRow wr g1 g2 N (fun j => if j = a1 then pu else Ltx.putAt (l.take q) j) (fun j => if a1 ≤ j ∧ j < a1 + k then true else Ltx.dropAt (l.take q) j) ∧ Below w.heap.size w wr ∧ (∃ z, wr.heap[w.heap.size]? = some (.cells z 70 (0, 0)) ∧ z.size = 2)) (fun kv _ => dr - (intOf kv).toNat)
        case atStart => exact ⟨0, Nat.zero_le _, rfl, hP4.out, hV5.out.congr (fun j _ => rfl) (fun j _ => by rw [if_neg (by omega)]), hb4.out, hz4.out⟩
        case round =>
          obtain ⟨k, hk, rfl, hP, hV, hb, hz⟩ := hrel
          obtain ⟨ad', e3, hlt', hp⟩ := (hx'.out.below hb).2 q _ hpqH.out
          injection e3 with e3
          subst e3
          obtain ⟨-, -, -, -, -, u6, u7, u8⟩ := hp
          simp only [ipc] at u6 u7 u8
          clear y6 y7 y8
          have cP0 := cell_of_row wr P 0 _ _ _ hP
          have cP1 := cell_of_row wr P 1 _ _ _ hP
          simp at cP0 cP1
          have hP2 := Lib.hid hP
          have hV2 := Lib.hid hV
          have hb2 := Lib.hid hb
          have hz2 := Lib.hid hz
          clear hP hV hb hz
          by_cases h2 : k < dr
          · have h2I : (k : Int) < (dr : Int) := by omega
            obtain ⟨ka, hka⟩ : ∃ ka, ka = a1 + k := ⟨_, rfl⟩
            have hkaI : (a1 : Int) + (k : Int) = (ka : Int) := by omega
            have hkN : ka < N := by have := hNH.out; have := ha1'.out; omega
            have hkNI : (ka : Int) < (N : Int) := by omega
            have hka' := Lib.hid hka
            clear hka
            have hadd2 : ad2.add ka = ⟨g2, ka, none⟩ := by rw [had2'.out]; unfold Addr.add; split <;> simp_all
            obtain ⟨old, hold⟩ : ∃ old, wr.cell? (ad2.add ka) = some old := by
              obtain ⟨-, ⟨c1, q1, q2, q3⟩⟩ := hV2.out
              exact ⟨_, by rw [hadd2, cell_of_row wr g2 ka _ _ _ q1]; exact q3 ka hkN⟩
            have hfr : wr.frozen? (ad2.add ka) = false := by
              obtain ⟨-, ⟨c1, q1, q2, q3⟩⟩ := hV2.out
              rw [hadd2]; exact frozen_of_row wr g2 ka _ _ q1
            have hadd3 := Lib.hid hadd2
            clear hadd2
            go_wp2_with fail
            go_roundw
            case rel =>
              rw [hadd3.out]
              have hV3 := hV2.out.drop hkN hne'.out
              obtain ⟨z, z1, z2⟩ := hz2.out
              refine ⟨k + 1, by omega, by go_num, (heap_setCell_other wr ⟨g2, ka, none⟩ P _ hP2'.out).trans hP2.out, hV3.congr (fun j _ => rfl) (fun j _ => ?_), hb2.out.setCell (show w.heap.size ≤ g2 by have := kk.out.2.2; omega) _, z, (heap_setCell_other wr ⟨g2, ka, none⟩ _ _ (fun e => by have e2 : w.heap.size = g2 := e; have := kk.out.2.2; omega)).trans z1, z2⟩
              have := hka'.out
              by_cases h5 : j = ka
              · rw [if_pos h5, if_pos (by omega)]
              · rw [if_neg h5]
                by_cases h6 : a1 ≤ j ∧ j < a1 + k
                · rw [if_pos h6, if_pos (by omega)]
                · rw [if_neg h6, if_neg (by omega)]
            case measure => simp [intOf]; omega
          · have h2I : ¬ (k : Int) < (dr : Int) := by omega
            have hkd : k = dr := by omega
            subst hkd
            have hdI : (a1 : Int) + (k : Int) ≤ 9223372036854775807 := by have := ha1'.out; omega
            go_wp2_with fail
            go_roundw
            case rel =>
              refine ⟨q + 1, by omega, by go_num, ?_, hP2.out, hV2.out.congr (fun j _ => ?_) (fun j _ => ?_), hb2.out, hz2.out⟩
              · rw [hex]; have := ha1'.out; congr 1; omega
              · rw [htk.out, putAt_next hkp.out, ← he0'.out, ← ha1'.out]
              · rw [htk.out, dropAt_next, ← he0'.out, ← ha1'.out]
            case measure => simp [intOf]; omega
      · have hqm : q = m := by omega
        have h1I : ¬ (q : Int) < (m : Int) := by omega
        have hV2 := Lib.hid (show VRow wr g1 g2 N (Ltx.putAt l) (Ltx.dropAt l) by rw [hqm, ← hlen.out, List.take_length] at hV; exact hV)
        have cP0 := cell_of_row wr P 0 _ _ _ hP
        have cP1 := cell_of_row wr P 1 _ _ _ hP
        simp at cP0 cP1
        obtain ⟨z, z1, z2⟩ := hz
        have r0 := cell_of_row wr w.heap.size 0 _ _ _ z1
        have r1 := cell_of_row wr w.heap.size 1 _ _ _ z1
        have rf0 := frozen_of_row wr w.heap.size 0 _ _ z1
        have rf1 := frozen_of_row wr w.heap.size 1 _ _ z1
        rw [Array.getElem?_eq_getElem (by omega)] at r0 r1
        have hb2 := Lib.hid hb
        have z1' := Lib.hid z1
        clear hP hV hb z1 hqm
        go_wp2_with fail
        obtain ⟨w4, hw4⟩ : ∃ w4, w4 = (wr.setCell ⟨w.heap.size, 0, none⟩ (.slice (some ad1) N N)).setCell ⟨w.heap.size, 1, none⟩ (.slice (some ad2) N N) := ⟨_, rfl⟩
        have hR4 : w4.heap[w.heap.size]? = some (.cells #[.slice (some ad1) N N, .slice (some ad2) N N] 70 (0, 0)) := by
          rw [hw4, heap_setCell_same _ _ 1 _ _ _ (heap_setCell_same wr _ 0 _ _ _ z1'.out)]
          obtain ⟨zl⟩ := z
          match zl, z2 with
          | [x, y], _ => rfl
        have v0 := cell_of_row w4 w.heap.size 0 _ _ _ hR4
        have v1 := cell_of_row w4 w.heap.size 1 _ _ _ hR4
        simp at v0 v1
        have hV4 : VRow w4 g1 g2 N (Ltx.putAt l) (Ltx.dropAt l) := by
          have k1 : g1 ≠ w.heap.size := by have := kk.out.2.1; omega
          have k2 : g2 ≠ w.heap.size := by have := kk.out.2.2; omega
          refine hV2.out.kept ?_ ?_
          · rw [hw4, heap_setCell_other _ ⟨w.heap.size, 1, none⟩ g1 _ k1, heap_setCell_other _ ⟨w.heap.size, 0, none⟩ g1 _ k1]
          · rw [hw4, heap_setCell_other _ ⟨w.heap.size, 1, none⟩ g2 _ k2, heap_setCell_other _ ⟨w.heap.size, 0, none⟩ g2 _ k2]
        have hB4 : Below w.heap.size w w4 := by
          rw [hw4]
          exact (hb2.out.setCell (p := ⟨w.heap.size, 0, none⟩) (Nat.le_refl _) _).setCell (p := ⟨w.heap.size, 1, none⟩) (Nat.le_refl _) _
        rw [← hw4]
        exact bodyPost_ret (v := .agg #[.slice (some ad1) N N, .slice (some ad2) N N]) (by simp [results, Try.results40, go_sem, v0, v1]) rfl ⟨g1, g2, by rw [had1'.out, had2'.out, hNH.out], by rw [← hNH.out]; exact hV4, by have := kk.out.2.1; omega, by have := kk.out.2.2; omega, hB4⟩
end Go.Proofs.Ytoeplaofgmdlbaa
