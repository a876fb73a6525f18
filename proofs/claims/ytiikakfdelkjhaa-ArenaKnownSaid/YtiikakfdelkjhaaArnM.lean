/- A row of numbers gone through from its end (slices.Backward); leaving with many marks; a scope with a ghost measure. -/
import Derived.RangeFuncNested
import Derived.RangeFuncBound
import Derived.RangeFuncCalls
import Derived.RangeFuncLeaves
import Derived.RangeFuncFrom
import Derived.Shelf.Abstract
import Derived.Shelf.RegionOpen
import Derived.OwnWalkIn
import Derived.TacticsInMore
import Derived.LoopNIn
import Derived.LoopIn
import Derived.ScopeJumps
import Derived.Deep.LoopGhost
import Derived.Test.YtiikakfdelkjhaaArnL
namespace Go.Proofs.Ytiikakfdelkjhaa.Arn
open Go.RowKit Go.Shelf
set_option maxRecDepth 20000
attribute [local go_sem] Oper.semAt_some

/-- what has come, when those below q are still to come -/
def bkV (l : List Nat) (q : Nat) : List (Nat × Nat) := (((List.range l.length).drop q).reverse).map fun j => (j, l[j]?.getD 0)
theorem bkV_end (l : List Nat) : bkV l l.length = [] := by unfold bkV; rw [List.drop_eq_nil_of_le (by simp)]; rfl
theorem bkV_step (l : List Nat) {q : Nat} (hq : q < l.length) : bkV l q = bkV l (q + 1) ++ [(q, l[q]?.getD 0)] := by
  unfold bkV
  have : (List.range l.length).drop q = q :: (List.range l.length).drop (q + 1) := by
    rw [List.drop_eq_getElem_cons (by simpa using hq)]
    simp
  rw [this]
  simp
theorem bkV_take (l : List Nat) (q : Nat) (hq : q ≤ l.length) : (bkV l q).map (·.2) = (l.drop q).reverse := by
  unfold bkV
  rw [List.map_map, List.map_reverse]
  congr 1
  refine List.ext_getElem? fun k => ?_
  rw [List.getElem?_map, List.getElem?_drop, List.getElem?_drop]
  by_cases hk : q + k < l.length
  · rw [List.getElem?_range hk, List.getElem?_eq_getElem hk]
    simp [hk]
  · rw [List.getElem?_eq_none (by simpa using hk), List.getElem?_eq_none (by omega)]
    rfl
def encB (x : Nat × Nat) : Array Value := #[.int .i64 (x.1 : Int), .int .i64 (x.2 : Int)]
theorem backward_any (w : World) (A : Option Addr) (n c : Nat) :
    Calls Try.prog 55 #[.slice A n c] w fun e w' => e = .returned (.func (.func 61) #[] #[.pointer (some ⟨w.heap.size, 0, none⟩)]) ∧ w' = w.alloc (.cells #[.slice A n c] 33) := by
  go_enter Try.func55, Try.ntmps55
  go_wp2_with fail
  go_ret
  exact ⟨rfl, rfl⟩
/-- what a round keeps: what lay below, and the row's own box -/
def KpB (n₀ Bs : Nat) (W W' : World) : Prop := Below n₀ W W' ∧ W'.heap[Bs]? = W.heap[Bs]?
theorem KpB.trans {n₀ Bs : Nat} {A B C : World} (h : KpB n₀ Bs A B) (k : KpB n₀ Bs B C) : KpB n₀ Bs A C := ⟨h.1.trans k.1, k.2.trans h.2⟩
set_option maxHeartbeats 2000000 in
theorem back1_in (n : Nat) (hn : 1 ≤ n) (l Bs n₀ g cap : Nat) (ks : List Nat) (hlen : ks.length ≤ 100000) (hb : 0 < ks.length → g < n₀) (J Jx : List (Nat × Nat) → World → Prop)
    (hY : ∀ pre x W, J pre W → pre.length < ks.length → YieldAt Fence.wide (n - 1) Try.prog l (encB x) W fun e W' =>
      (e = .returned (.bool true) ∧ J (pre ++ [x]) W' ∧ KpB n₀ Bs W W') ∨ (e = .returned (.bool false) ∧ Jx (pre ++ [x]) W'))
    (W : World) (A : Option Addr) (hA : 0 < ks.length → A = some ⟨g, 0, none⟩) (hcap : ks.length ≤ cap) (hBs : W.cell? ⟨Bs, 0, none⟩ = some (.slice A ks.length cap)) (hc : ∀ (j x : Nat), ks[j]? = some x → W.cell? ⟨g, j, none⟩ = some (.int .i64 (x : Int))) (h0 : J [] W) :
    CallsIn Fence.wide n Try.prog 61 #[.func (.yield l) #[] #[], .pointer (some ⟨Bs, 0, none⟩)] W fun e W' => (∃ v, e = .returned v) ∧
      ((∃ ys, ys = bkV ks 0 ∧ J ys W') ∨ (∃ pre, True ∧ Jx pre W')) := by
  refine callsIn_of_wp Try.func61 rfl trivial ?_ rfl
  simp only [Try.ntmps61, List.size_toArray, List.length_cons, List.length_nil, Nat.reduceAdd, Nat.reduceSub, Array.replicate_succ, Array.replicate_zero, List.push_toArray, List.append_toArray, List.nil_append, List.cons_append]
  obtain ⟨N, hN⟩ : ∃ N, N = ks.length := ⟨_, rfl⟩
  have hN' := Lib.hid hN
  have hY' := Lib.hid hY
  have hc' := Lib.hid hc
  have hb' := Lib.hid hb
  have hA' := Lib.hid hA
  have hBs' := Lib.hid hBs
  rw [← hN] at hBs hlen hcap
  clear hY hc hb hA hN
  gi_wp2
  gi_loopw [3] (fun i wr => ∃ q : Nat, q ≤ N ∧ i = .int .i64 ((q : Int) - 1) ∧ J (bkV ks q) wr ∧ KpB n₀ Bs W wr) (fun i _ => (intOf i + 1).toNat)
  case atStart => exact ⟨N, Nat.le_refl _, rfl, by rw [hN'.out, bkV_end]; exact h0, Below.refl _ _, rfl⟩
  case round =>
    obtain ⟨q, hq, rfl, hJs, hnx⟩ := hrel
    have hJs' := Lib.hid hJs
    have hnx' := Lib.hid hnx
    clear hJs hnx
    by_cases h1 : q = 0
    · subst h1
      gi_wp2
      go_end0
      exact ⟨⟨_, rfl⟩, .inl ⟨_, rfl, hJs'.out⟩⟩
    · obtain ⟨q', rfl⟩ : ∃ q', q = q' + 1 := ⟨q - 1, by omega⟩
      have hq1 : ((q' + 1 : Nat) : Int) - 1 = (q' : Int) := by omega
      have hql : q' < ks.length := by have := hN'.out; omega
      obtain ⟨x, hx⟩ : ∃ x, ks[q']? = some x := ⟨_, List.getElem?_eq_getElem hql⟩
      have hA1 := hA'.out (by omega)
      have hg1 := hb'.out (by omega)
      have hcx := (hnx'.out.1.cell (p := ⟨g, q', none⟩) hg1).trans (hc'.out q' x hx)
      have hbs := (World.cell?_of_block (w := W) (w' := wr) (a := ⟨Bs, 0, none⟩) hnx'.out.2).trans hBs
      rw [hA1] at hbs
      obtain ⟨fn, tmps, assign, body, hy, hR⟩ := hY'.out (bkV ks (q' + 1)) (q', x) wr hJs'.out (by unfold bkV; simp; omega)
      unfold encB at hy
      have hstep := Lib.hid (show bkV ks q' = bkV ks (q' + 1) ++ [(q', x)] by rw [bkV_step ks hql, hx]; rfl)
      have hqN : (q' : Int) < (N : Int) := by omega
      rw [hq1]
      clear hA1 hg1 hx hql h1
      gi_wp2
      refine hR.mono ?_
      rintro e W3 (⟨rfl, hJ3, hk3⟩ | ⟨rfl, hJx3⟩)
      · have hJ3' := Lib.hid hJ3
        have hk3' := Lib.hid hk3
        clear hJ3 hk3
        gi_wp2
        go_roundw
        case rel => exact ⟨q', by omega, rfl, by rw [hstep.out]; exact hJ3'.out, hnx'.out.trans hk3'.out⟩
        case measure => simp [intOf] <;> omega
      · have hJx3' := Lib.hid hJx3
        clear hJx3
        gi_wp2
        refine bodyPost_ret (results_none rfl _ _ _) rfl ?_
        exact ⟨⟨_, rfl⟩, .inr ⟨_, trivial, hJx3'.out⟩⟩
theorem back_stops (n : Nat) (hn : 1 ≤ n) (Bs n₀ cap : Nat) (A : Option Addr) (ks : List Nat) (w : World) (hlen : ks.length ≤ 100000) (hBs : Bs < w.heap.size) (hn₀ : n₀ ≤ w.heap.size) (hc : w.cell? ⟨Bs, 0, none⟩ = some (.slice A ks.length cap))
    (hown : OwnN w (.slice A ks.length cap) ks) (hlow : ∀ ad, A = some ad → ad.block < n₀) :
    SeqStopsK Fence.wide n Try.prog 61 #[.pointer (some ⟨Bs, 0, none⟩)] encB (KpB n₀ Bs) (fun ys => ys = bkV ks 0) (fun _ => True) ks.length w := fun l J Jx W hW _ _ hY h0 => by
  have hc' := (hW.cell (p := ⟨Bs, 0, none⟩) hBs).trans hc
  have hcap := hown.blk.2.1
  by_cases h1 : 0 < ks.length
  · obtain ⟨g, hg, -⟩ := hown.at_ (List.getElem?_eq_getElem h1)
    have hgl := hlow _ hg
    refine back1_in n hn l Bs n₀ g cap ks hlen (fun _ => hgl) J Jx hY W A (fun _ => hg) hcap hc' (fun j x hj => ?_) h0
    obtain ⟨g2, hg2, hcx⟩ := hown.at_ hj
    rw [hg] at hg2
    injection hg2 with hg2
    injection hg2 with hg2
    subst hg2
    exact (hW.cell (p := ⟨g, j, none⟩) (Nat.lt_of_lt_of_le hgl hn₀)).trans hcx
  · refine back1_in n hn l Bs n₀ 0 cap ks hlen (fun h => absurd h h1) J Jx hY W A (fun h => absurd h h1) hcap hc' (fun j x hj => ?_) h0
    have := (List.getElem?_eq_some_iff.1 hj).1
    omega
/-- leaving with marks alone -/
theorem leaves_marks {P : Program} {n : Nat} {fn : Func} {tmps : Array Value} {R : Ending → World → Prop} : ∀ (rs : List Nat) (W : World), rs.Nodup → (∀ r ∈ rs, W.heap[r]? = some (.deferred (some []))) →
    (∀ W', W'.heap.size = W.heap.size → W'.os = W.os → W'.tape = W.tape → W'.output = W.output → (∀ k, k ∉ rs → W'.heap[k]? = W.heap[k]?) → LeavesIn Fence.wide n P fn tmps R [] .returning W') →
    LeavesInM Fence.wide n P fn tmps R (rs.map fun r => { target := .collected r, args := #[] }) .returning W
  | [], W, _, _, h => h W rfl rfl rfl rfl fun _ _ => rfl
  | r :: rs, W, hn, hr, h => by
    rw [List.nodup_cons] at hn
    have h0 := hr r List.mem_cons_self
    refine ⟨by simp, .inl ⟨r, _, rfl, run_takeDeferred h0, ?_⟩⟩
    refine leaves_marks rs _ hn.2 (fun r2 h2 => ?_) (fun W' e1 e2 e3 e4 e5 => ?_)
    · have hne : r2 ≠ r := fun e => hn.1 (e ▸ h2)
      exact (World.putObj_heap_other hne).trans (hr r2 (List.mem_cons_of_mem _ h2))
    · refine h W' (e1.trans (by simp)) e2 e3 e4 fun k hk => ?_
      have h1 : k ≠ r := fun e => hk (e ▸ List.mem_cons_self)
      exact (e5 k fun e => hk (List.mem_cons_of_mem _ e)).trans (World.putObj_heap_other h1)
open Classical in
/-- a scope in which each pass from the label lowers a number of the proof's own -/
theorem wp_scope_ghost {P : Program} {a : Act} {w : World} {Q : Exit → Act → World → Prop} {c rest : Code} (l : Nat) (J : Nat → Act → World → Prop) (hf : findLabel c l = some (Code.skip.seq rest))
    (first : (∀ k a w, J k a w → rest.wp P (Exit.jump l (fun a w => ∃ k, J k a w) Q) a w) → c.wp P (Exit.jump l (fun a w => ∃ k, J k a w) Q) a w)
    (pass : ∀ k a w, J k a w → rest.wp P (Exit.jump l (fun a' w' => ∃ k', k' < k ∧ J k' a' w') Q) a w) : (Code.scope c).wp P Q a w := by
  refine wp_scope_jumps l (fun a w => ∃ k, J k a w) (fun a w => leastOf fun k => J k a w) hf (first fun k a w hJ => wp_mono (pass k a w hJ) fun e a' w' hq => ?_) fun a w hJ => ?_
  · cases e with
    | goto l' => exact ⟨hq.1, hq.2.choose, hq.2.choose_spec.2⟩
    | normal => exact hq
    | exit id => exact hq
    | ret => exact hq
    | panic ch => exact hq
    | outgrown => exact hq
  refine wp_seq (wp_skip ?_)
  refine wp_mono (pass _ a w (leastOf_spec hJ).1) ?_
  intro e a' w' hq
  cases e with
  | goto l' =>
    obtain ⟨h1, k', hlt, hJ'⟩ := hq
    exact ⟨h1, ⟨k', hJ'⟩, Nat.lt_of_le_of_lt ((leastOf_spec ⟨k', hJ'⟩).2 k' hJ') hlt⟩
  | normal => exact hq
  | exit id => exact hq
  | ret => exact hq
  | panic ch => exact hq
  | outgrown => exact hq
end Go.Proofs.Ytiikakfdelkjhaa.Arn
