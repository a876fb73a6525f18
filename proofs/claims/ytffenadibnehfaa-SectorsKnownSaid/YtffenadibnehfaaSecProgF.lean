/- Write of the program's disk. -/
import Derived.Test.YtffenadibnehfaaSecProgE
import Derived.Deep.AppendLies
import Derived.Great.BuildSlice
import Derived.Great.FillDense
namespace Go.Proofs.Ytffenadibnehfaa
open Go.RowKit

theorem Try.info58 : (Try.prog.info? 58).map (fun i => (i.zero, i.size, i.bytes)) = some (some (.agg (wrtA 0 zsec)), 129, 136) := by kernel_rfl
theorem run_one_wrt (W : World) (z : Int) (s : List UInt8) (hs : s.length = 128) : (Instr.buildSlice 47 1 #[(0, .agg (wrtA z s))]).run Try.prog W = .ok (.slice (some ⟨W.heap.size, 0, none⟩) 1 1) (W.alloc (.cells (wrtA z s) 58)) := by
  obtain ⟨i0, hi, hz0, hz1, hz2⟩ := info_parts Try.info58
  refine run_buildSlice W 47 58 1 #[(0, .agg (wrtA z s))] (wrtA z s) i0 (.agg (wrtA 0 zsec)) Try.underlying47 hi hz0 (by rw [hz1]; omega) (by rw [hz1]; omega) ?_
  rw [hz1]
  have h := Great.fill_whole (s := 129) (by omega) [Value.agg (wrtA z s)] ((Array.range (1 * 129)).map ((Value.agg (wrtA 0 zsec)).cells[· % (Value.agg (wrtA 0 zsec)).cells.size]!)) (fun v hv => by
    rw [List.mem_singleton.1 hv]
    exact wrtA_size hs) (by simp)
  refine (Eq.trans ?_ h).trans ?_
  · rfl
  · simp [Value.cells]
/-- bytes copied over noughts -/
theorem splice_wrt (z : Int) (b : List UInt8) (hb : b.length ≤ 128) : (splice (wrtA z zsec).toList 1 (b.map byteV)).toArray = wrtA z (secL b) := by
  have e1 : (wrtA z zsec).toList = .int .i64 z :: zsec.map byteV := by simp [wrtA]
  have e2 : (zsec.map byteV).drop b.length = (List.replicate (128 - b.length) (0 : UInt8)).map byteV := by
    unfold zsec
    rw [← List.map_drop, List.drop_replicate]
  unfold splice
  rw [e1]
  unfold wrtA
  congr 1
  rw [List.length_map, Nat.add_comm 1 b.length, List.drop_succ_cons, e2, secL, List.map_append]
  rfl
theorem secL_len' {b : List UInt8} (h : b.length ≤ 128) : (secL b).length = 128 := secL_len h
/-- what a write makes of what was written -/
theorem atV_prefix (base : List (List UInt8)) (wr : List (Nat × List UInt8)) (x : Nat × List UInt8) (i : Nat) : ∀ m, m ≤ wr.length → atV base (wr ++ [x]) i m = atV base wr i m
  | 0, _ => rfl
  | m + 1, h => by
    have ih := atV_prefix base wr x i m (by omega)
    have e : (wr ++ [x])[m]? = wr[m]? := List.getElem?_append_left (by omega)
    rw [atV, atV, e, ih]
theorem mapV_wrote (d : RD) (i : Nat) (b : List UInt8) (hi : i < d.base.length) : (∀ j, mapV (wrote d i b) 0 j = mapV d 0 j) ∧ ∀ j, mapV (wrote d i b) (wrote d i b).wr.length j = upd (mapV d d.wr.length) i (secL b) j := by
  refine ⟨fun j => rfl, fun j => ?_⟩
  have hl : (wrote d i b).wr.length = d.wr.length + 1 := by simp [wrote]
  have hx : (wrote d i b).wr[d.wr.length]? = some (i, secL b) := by simp [wrote]
  rw [hl, mapV_step (d := wrote d i b) hx hi j]
  show (if j = i then secL b else mapV (wrote d i b) d.wr.length j) = if j = i then secL b else mapV d d.wr.length j
  by_cases e : j = i
  · rw [if_pos e, if_pos e]
  · rw [if_neg e, if_neg e]
    show (if j < d.base.length then atV d.base (d.wr ++ [(i, secL b)]) j d.wr.length else zsec) = if j < d.base.length then atV d.base d.wr j d.wr.length else zsec
    rw [atV_prefix _ _ _ _ _ (Nat.le_refl _)]
theorem good_wrote {d : RD} (h : Good d) {i : Nat} {b : List UInt8} (hi : i < d.base.length) (hb : b.length ≤ 128) : Good (wrote d i b) := by
  refine ⟨h.sectors, h.base, ?_, ?_, h.left⟩
  · intro x hx
    rcases List.mem_append.1 (show x ∈ d.wr ++ [(i, secL b)] from hx) with hx | hx
    · exact h.at_ x hx
    · rw [List.mem_singleton.1 hx]; exact hi
  · intro x hx
    rcases List.mem_append.1 (show x ∈ d.wr ++ [(i, secL b)] from hx) with hx | hx
    · exact h.what x hx
    · rw [List.mem_singleton.1 hx]; exact secL_len hb
/-- the row has been appended to: the disk's other blocks are as they were -/
structure Half (w w3 : World) (S : Nat → Prop) (B p : Nat) (d : RD) (bb nb : Nat) (lv lv' : Value) : Prop where
  disk : w3.heap[p]? = some (.cells (diskCells d bb nb lv) 49 (0, 0))
  base : SMap w3 bb d.base.length (mapV d 0)
  now : SMap w3 nb d.base.length (mapV d d.wr.length)
  place : ∀ k, lv'.ownBlock = some k → lv.ownBlock = some k ∨ w.heap.size ≤ k
  frame : FrS S B w w3
theorem half {w w2 w3 : World} {S : Nat → Prop} {B p : Nat} {d : RD} {bb nb : Nat} {lv : Value} {g cap n : Nat} (h : PDat w S B p d bb nb lv) (hb2 : Below w.heap.size w w2) (hg3 : w2.grownBy w3 lv.ownBlock) (hat : lv.ownBlock = some g ∨ g = w2.heap.size) :
    Half w w3 S B p d bb nb lv (.slice (some ⟨g, 0, none⟩) n cap) := by
  have hk : ∀ k, k < w.heap.size → lv.ownBlock ≠ some k → w3.heap[k]? = w.heap[k]? := fun k hk hne => (hg3.block k (Nat.lt_of_lt_of_le hk hb2.size) (fun e => hne e.symm)).trans (hb2.block k hk)
  refine ⟨(hk p h.lt (fun e => (h.row_ne e).1 rfl)).trans h.disk, h.base.kept (hk bb h.base.lt (fun e => (h.row_ne e).2.1 rfl)), h.now.kept (hk nb h.now.lt (fun e => (h.row_ne e).2.2 rfl)), fun k e => ?_, ?_⟩
  · have e' : g = k := by simpa [Value.ownBlock] using e
    subst e'
    rcases hat with h1 | h1
    · exact .inl h1
    · exact .inr (by rw [h1]; exact hb2.size)
  · refine ⟨hg3.os.trans hb2.os, hg3.tape.trans hb2.tape, hg3.output.trans hb2.output, Nat.le_trans hb2.size hg3.size, fun k hk' hn => hk k hk' fun e => hn ⟨(h.stands k).2 (.inr (.inr (.inr e))), (h.row_at e).1⟩⟩
/-- .. stored, and the map turned: the disk behind the write -/
theorem whole {w w3 w5 : World} {S : Nat → Prop} {B p : Nat} {d : RD} {bb nb i n cap g : Nat} {lv : Value} {b : List UInt8} (h : PDat w S B p d bb nb lv) (hi : i < d.base.length) (hb : b.length ≤ 128)
    (hh : Half w w3 S B p d bb nb lv (.slice (some ⟨g, 0, none⟩) n cap)) (hn : n = d.wr.length + 1) (ho3 : w3.ownsRow B 58 129 (.slice (some ⟨g, 0, none⟩) n cap) (d.wr.length + 1) (wroCells d.wr ++ (wrtA (i : Int) (secL b)).toList))
    (hS5 : SMap w5 nb d.base.length (upd (mapV d d.wr.length) i (secL b))) (hg5 : (w3.setCell ⟨p, 3, none⟩ (.slice (some ⟨g, 0, none⟩) n cap)).grownBy w5 (some nb)) :
    ∃ S', PDat w5 S' B p (wrote d i b) bb nb (.slice (some ⟨g, 0, none⟩) n cap) ∧ (∀ k, S' k → S k ∨ w.heap.size ≤ k) ∧ FrS S B w w5 := by
  have hz : (w3.setCell ⟨p, 3, none⟩ (.slice (some ⟨g, 0, none⟩) n cap)).heap.size = w3.heap.size := by simp
  have hlt3 : ∀ {k}, k < w.heap.size → k < w3.heap.size := fun hk => Nat.lt_of_lt_of_le hk hh.frame.size
  have hk : ∀ k, k < w3.heap.size → k ≠ p → k ≠ nb → w5.heap[k]? = w3.heap[k]? := fun k hk hkp hkn => (hg5.block k (by rw [hz]; exact hk) (fun e => hkn (Option.some.inj e))).trans (heap_setCell_other w3 _ _ _ hkp)
  have hp5 : w5.heap[p]? = some (.cells (diskCells (wrote d i b) bb nb (.slice (some ⟨g, 0, none⟩) n cap)) 49 (0, 0)) := by
    rw [hg5.block p (by rw [hz]; exact hlt3 h.lt) (fun e => h.ne_n (Option.some.inj e).symm), heap_setCell_same w3 p 3 _ _ _ hh.disk]
    rfl
  have hgb : B ≤ g ∧ ∃ cs, w3.heap[g]? = some (.cells cs 58 (0, 0)) := by
    rcases ho3.2 with ⟨e, _⟩ | ⟨g', cap', cur, e, hB, hg, _⟩
    · cases e
    · injection e with e _ _
      injection e with e
      injection e with e _
      subst e
      exact ⟨hB, cur, hg⟩
  obtain ⟨hBg, cs, hcs⟩ := hgb
  have hgp : g ≠ p := fun e => by
    have hd := hh.disk
    rw [← e, hcs] at hd
    injection hd with hd
    injection hd with _ h2 _
    exact absurd h2 (by decide)
  have hgn : g ≠ nb := fun e => hh.now.not_cells (by rw [← e]; exact hcs)
  have hgl : g < w3.heap.size := (Array.getElem?_eq_some_iff.1 hcs).1
  have hm := mapV_wrote d i b hi
  refine ⟨fun k => k = p ∨ k = bb ∨ k = nb ∨ k = g, { stands := fun k => ?_, lowP := h.lowP, lowB := h.lowB, lowN := h.lowN, ne := h.ne, good := good_wrote h.good hi hb, disk := hp5, base := ?_, now := ?_, row := ?_ }, ?_, ?_⟩
  · constructor
    · rintro (h | h | h | h)
      · exact .inl h
      · exact .inr (.inl h)
      · exact .inr (.inr (.inl h))
      · exact .inr (.inr (.inr (by rw [h]; rfl)))
    · rintro (h | h | h | h)
      · exact .inl h
      · exact .inr (.inl h)
      · exact .inr (.inr (.inl h))
      · exact .inr (.inr (.inr (by simpa [Value.ownBlock] using h.symm)))
  · exact (hh.base.kept (hk bb (hlt3 h.base.lt) h.ne_b h.ne)).eq hm.1
  · exact hS5.eq hm.2
  · have e1 : (wrote d i b).wr.length = d.wr.length + 1 := by simp [wrote]
    have e2 : wroCells (wrote d i b).wr = wroCells d.wr ++ (wrtA (i : Int) (secL b)).toList := by simp [wrote, wroCells_append, wroCells, wrtA]
    rw [e1, e2]
    exact own_kept ho3 fun k e => by
      have e' : g = k := by simpa [Value.ownBlock] using e
      subst e'
      exact hk g hgl hgp hgn
  · rintro k (e | e | e | e)
    · exact .inl ((h.stands k).2 (.inl e))
    · exact .inl ((h.stands k).2 (.inr (.inl e)))
    · exact .inl ((h.stands k).2 (.inr (.inr (.inl e))))
    · rcases hh.place g rfl with h1 | h1
      · exact .inl ((h.stands k).2 (.inr (.inr (.inr (by rw [e]; exact h1)))))
      · exact .inr (by rw [e]; exact h1)
  · refine ⟨hg5.os.trans hh.frame.os, hg5.tape.trans hh.frame.tape, hg5.output.trans hh.frame.output, Nat.le_trans hh.frame.size (by rw [← hz]; exact hg5.size), fun k hk' hn => ?_⟩
    have h1 : k ≠ p := fun e => hn ⟨(h.stands k).2 (.inl e), by rw [e]; exact h.lowP⟩
    have h2 : k ≠ nb := fun e => hn ⟨(h.stands k).2 (.inr (.inr (.inl e))), by rw [e]; exact h.lowN⟩
    exact (hk k (hlt3 hk') h1 h2).trans (hh.frame.block k hk' hn)
end Go.Proofs.Ytffenadibnehfaa
