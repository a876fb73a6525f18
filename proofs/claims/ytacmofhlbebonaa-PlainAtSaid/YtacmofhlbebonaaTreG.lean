/- A loop over a walk that keeps where it stands in memory of its own: what the walk owes, what the loop owes. -/
import Derived.RangeFuncNested
import Derived.RangeFuncBound
import Derived.RangeFuncCalls
import Derived.RangeFuncLeaves
import Derived.Shelf.Abstract
import Derived.Shelf.RegionOpen
import Derived.OwnWalkIn
import Derived.TacticsInMore
import Derived.LoopNIn
import Derived.LoopIn
import Derived.Deep.LoopGhost
import Derived.Test.YtacmofhlbebonaaTreF
namespace Go.Proofs.Ytacmofhlbebonaa
open Go.RowKit
set_option maxRecDepth 20000

abbrev Blks := Nat → Prop
abbrev Way := List (Nat × Nd)
def two (d : Nat) (E : Addr) : Array Value := #[.int .i64 (d : Int), .pointer (some E)]
/-- what a round keeps for the walk -/
def Keeps (T0 S : Blks) (W W' : World) : Prop := W.heap.size ≤ W'.heap.size ∧ ∀ k, T0 k ∨ S k → W'.heap[k]? = W.heap[k]?
/-- what holds of the loop's own does not mind what the walk does -/
def Minds (J : Blks → Way → World → Prop) : Prop := ∀ S S' pre W1 W2, J S pre W1 → FrX S W1 W2 → (∀ k, S k → S' k) → (∀ k, S' k → S k ∨ W1.heap.size ≤ k) → J S' pre W2
/-- a walk over the nodes td of a tree that lies in blocks of T0: S is what it has made up to now -/
def Goes (P : Program) (gf : FuncId) (lb : Array Value) (T0 : Blks) (td : Way) (w0 : World) : Prop :=
  ∀ (n l : Nat) (J : Blks → Way → World → Prop) (Jx : Way → World → Prop) (W : World), w0.heap.size ≤ W.heap.size → (∀ k, k < w0.heap.size → W.heap[k]? = w0.heap[k]?) → Minds J →
    (∀ S pre d E t W1, J S pre W1 → pre ++ [(d, t)] <+: td → NodeAt (fun k => T0 k ∨ S k) W1 E t → (∀ k, S k → k < W1.heap.size) → YieldAt Fence.wide n P l (two d E) W1 fun e W' =>
      (e = .returned (.bool true) ∧ J S (pre ++ [(d, t)]) W' ∧ Keeps T0 S W1 W') ∨ (e = .returned (.bool false) ∧ Jx (pre ++ [(d, t)]) W')) →
    J (fun _ => False) [] W →
    CallsIn Fence.wide (n + 1) P gf (#[.func (.yield l) #[] #[]] ++ lb) W fun e W' => (∃ v, e = .returned v) ∧ ((∃ S, J S td W') ∨ ∃ pre, Jx pre W')
/-- what a round's body ends in -/
def RoundEnd (T0 S : Blks) (I : Blks → Way → World → Prop) (Ix : Code → Blks → Way → World → Prop) (xs : Way) (W : World) : Exit → Act → World → Prop
  | .normal, _, W' => I S xs W' ∧ Keeps T0 S W W'
  | .ret, _, W' => Ix .ret S xs W' ∧ Keeps T0 S W W'
  | .exit i, _, W' => Ix (.exit i) S xs W' ∧ Keeps T0 S W W'
  | .goto t, _, W' => Ix (.goto t) S xs W' ∧ Keeps T0 S W W'
  | .panic _, _, _ => False
  | .outgrown, _, _ => False
theorem FrX.putObj (S : Blks) (W : World) {l : Nat} (o : Obj) (h : S l) : FrX S W (W.putObj l o) :=
  ⟨rfl, rfl, rfl, by simp, fun k _ hn => World.putObj_heap_other (fun e => hn (e ▸ h))⟩
/-- the walk's blocks and the loop's own two -/
def StD (D : Nat) (S : Blks) : Blks := fun k => S k ∨ k = D + 1 ∨ k = D
set_option maxHeartbeats 1000000 in
/-- THE LOOP -/
theorem range_walk {P : Program} {n : Nat} {g : Operand} {ps : Array Tmp} {assign body : Code} {Q : Exit → Act → World → Prop} {a : Act} {w : World} {gf : Nat} {lb : Array Value} {T0 : Blks} {td : Way}
    (hg : a.eval g = .func (.func gf) #[] lb) (eg : ∀ args w, (callFunc gf args).run P w = .ok (.enter gf args) w) (hT0 : ∀ k, T0 k → k < w.heap.size) (hgo : Goes P gf lb T0 td w) (hps : ps.size = 2)
    (I : Blks → Way → World → Prop) (Ix : Code → Blks → Way → World → Prop) (hI : Minds I) (hIx : ∀ c S pre W1 W2, Ix c S pre W1 → FrX S W1 W2 → Ix c S pre W2) (h0 : I (fun _ => False) [] w) (a₁ : Nat → Addr → Act)
    (hassign : ∀ (l d : Nat) (E : Addr) (W : World) (K : Act → World → Prop), K (a₁ d E) W →
      assign.wpIn (Fence.wide.inRound l) n P (Exit.then K (fun _ _ _ => False)) { tmps := (ps.zip (two d E)).foldl (fun t (p, v) => t.setIfInBounds p v) a.tmps, defers := [] } W)
    (hbody : ∀ (l : Nat) (S : Blks) (pre : Way) (d : Nat) (E : Addr) (t : Nd) (W : World), I S pre W → pre ++ [(d, t)] <+: td → NodeAt (fun k => T0 k ∨ S k) W E t → (∀ k, S k → k < W.heap.size) →
      body.wpIn (Fence.wide.inRound l) n P (RoundEnd T0 S I Ix (pre ++ [(d, t)]) W) (a₁ d E) W)
    (hdone : ∀ (D : Nat) (S : Blks) (W : World), w.heap.size ≤ D → S D → I S td W → W.heap[D]? = some (.deferred (some [])) → Q .normal { a with defers := { target := .collected D, args := #[] } :: a.defers } W)
    (hstop : ∀ (D : Nat) (c : Code) (S : Blks) (pre : Way) (W : World), w.heap.size ≤ D → S D → Ix c S pre W → W.heap[D]? = some (.deferred (some [])) → c.wpIn Fence.wide (n + 2) P Q { a with defers := { target := .collected D, args := #[] } :: a.defers } W) :
    (Code.rangeFunc g ps assign body).wpIn Fence.wide (n + 2) P Q a w := by
  refine wpIn_rangeFunc fun fn hfn => ?_
  obtain ⟨D, hD⟩ : ∃ D, D = w.heap.size := ⟨_, rfl⟩
  obtain ⟨r, hr⟩ : ∃ r : LoopState → Option Code → Loop, r = fun st pe => { state := st, pending := pe, fn, tmps := a.tmps, params := ps, assign, body, defers := D } := ⟨_, rfl⟩
  obtain ⟨W1, hW1⟩ : ∃ W1, W1 = (w.alloc (.deferred (some []))).alloc (.loop (r .ready none)) := ⟨_, rfl⟩
  have z1 : W1.heap.size = D + 2 := by rw [hW1, hD]; simp
  have hL1 : W1.heap[D + 1]? = some (.loop (r .ready none)) := by
    rw [hW1, hD]
    exact two_second w _ _
  have hD1 : W1.heap[D]? = some (.deferred (some [])) := by
    rw [hW1, hD]
    exact two_first w _ _
  have F1 : FrX (fun _ => False) w W1 := by rw [hW1]; exact ((FrX.refl _ w).alloc _).alloc _
  have o1 : ∀ k, k < w.heap.size → W1.heap[k]? = w.heap[k]? := fun k hk => F1.block k hk (fun e => e)
  have hrun : (Instr.enterLoop fn a.tmps ps assign body Fence.wide.round).run P w = .ok (D + 1, [{ target := .collected D, args := #[] }]) W1 := by
    rw [hW1, hr, hD]
    exact run_enterLoop_outer _ _ _ _ _
  clear hW1
  have hcall := hgo n (D + 1) (fun S pre W => I (StD D S) pre W ∧ W.heap[D + 1]? = some (.loop (r .ready none)) ∧ W.heap[D]? = some (.deferred (some [])) ∧ ¬ S (D + 1) ∧ ¬ S D)
    (fun pre W => ∃ c S, Ix c S pre W ∧ S (D + 1) ∧ S D ∧ W.heap[D + 1]? = some (.loop (r .done (some c))) ∧ W.heap[D]? = some (.deferred (some [])))
    W1 F1.size o1 ?minds ?round ?start
  case start =>
    refine ⟨hI _ _ _ _ _ h0 F1 (fun k h => h.elim) (fun k hk => .inr ?_), hL1, hD1, fun h => h, fun h => h⟩
    rcases hk with hk | hk | hk
    · exact hk.elim
    · omega
    · omega
  case minds =>
    rintro S S' pre A B ⟨i1, i2, i3, i4, i5⟩ hF hs hn
    have l1 := (Array.getElem?_eq_some_iff.1 i2).1
    have l2 := (Array.getElem?_eq_some_iff.1 i3).1
    refine ⟨hI (StD D S) (StD D S') pre A B i1 (hF.mono fun k _ h => .inl h) (fun k hk => ?_) (fun k hk => ?_), (hF.block _ l1 i4).trans i2, (hF.block _ l2 i5).trans i3, fun h => ?_, fun h => ?_⟩
    · rcases hk with hk | hk
      · exact .inl (hs k hk)
      · exact .inr hk
    · rcases hk with hk | hk
      · rcases hn k hk with h | h
        · exact .inl (.inl h)
        · exact .inr h
      · exact .inl (.inr hk)
    · rcases hn _ h with h | h
      · exact i4 h
      · omega
    · rcases hn _ h with h | h
      · exact i5 h
      · omega
  case round =>
    rintro S pre d E t W ⟨i1, i2, i3, i4, i5⟩ hpre hN hS
    have l1 := (Array.getElem?_eq_some_iff.1 i2).1
    have l2 := (Array.getElem?_eq_some_iff.1 i3).1
    have hy := run_yield (P := P) (args := two d E) i2 (by rw [hr]; show (two d E).size = ps.size; rw [hps]; rfl)
    have hne : ∀ k, T0 k ∨ S k → k ≠ D + 1 := fun k hk e => by
      rcases hk with hk | hk
      · have := hT0 k hk
        omega
      · exact i4 (e ▸ hk)
    rw [hr] at hy
    refine ⟨fn, _, assign, body, hy, roundIn_of_wpIn hfn (hassign _ d E W _ ⟨_, run_beginRound i2 (by rw [hr]), ?_⟩)⟩
    obtain ⟨W2, hW2⟩ : ∃ W2, W2 = W.putObj (D + 1) (.loop { r .ready none with state := .busy }) := ⟨_, rfl⟩
    rw [← hW2]
    have F2 : FrX (StD D S) W W2 := by rw [hW2]; exact FrX.putObj _ W _ (.inr (.inl rfl))
    have b2 : W2.heap[D + 1]? = some (.loop { r .ready none with state := .busy }) := by rw [hW2]; exact World.putObj_heap_same l1
    have k2 : ∀ k, k ≠ D + 1 → W2.heap[k]? = W.heap[k]? := fun k hk => by rw [hW2]; exact World.putObj_heap_other hk
    have z2 : W2.heap.size = W.heap.size := by rw [hW2]; simp
    clear hW2
    have i2' : I (StD D S) pre W2 := hI _ _ _ _ _ i1 F2 (fun _ h => h) (fun _ h => .inl h)
    refine wpIn_mono (hbody _ (StD D S) pre d E t W2 i2' hpre (hN.kept (fun k hk => ?_) (fun k hk => k2 k (hne k hk))) (fun k hk => ?_)) ?_
    · rcases hk with hk | hk
      · exact .inl hk
      · exact .inr (.inl hk)
    · rw [z2]
      rcases hk with hk | hk | hk
      · exact hS k hk
      · omega
      · omega
    · have fin : ∀ (jump : Option Code) (W3 : World), Keeps T0 (StD D S) W2 W3 →
          (Instr.endRound (D + 1) jump).run P W3 = .ok (.bool jump.isNone) (W3.putObj (D + 1) (.loop (r (if jump.isNone then .ready else .done) jump))) ∧
          (W3.putObj (D + 1) (.loop (r (if jump.isNone then .ready else .done) jump))).heap[D + 1]? = some (.loop (r (if jump.isNone then .ready else .done) jump)) ∧
          (W3.putObj (D + 1) (.loop (r (if jump.isNone then .ready else .done) jump))).heap[D]? = some (.deferred (some [])) ∧ FrX (StD D S) W3 (W3.putObj (D + 1) (.loop (r (if jump.isNone then .ready else .done) jump))) ∧
          Keeps T0 S W (W3.putObj (D + 1) (.loop (r (if jump.isNone then .ready else .done) jump))) := fun jump W3 hk3 => by
        have hl3 := (hk3.2 (D + 1) (.inr (.inr (.inl rfl)))).trans b2
        have hd3 := (hk3.2 D (.inr (.inr (.inr rfl)))).trans ((k2 D (by omega)).trans i3)
        have hrun := run_endRound (P := P) jump hl3
        rw [hr] at hrun
        have hlt := (Array.getElem?_eq_some_iff.1 hl3).1
        refine ⟨by rw [hr]; exact hrun, World.putObj_heap_same hlt, (World.putObj_heap_other (by omega)).trans hd3, FrX.putObj _ W3 _ (.inr (.inl rfl)), ?_, fun k hk => ?_⟩
        · have := hk3.1
          simp
          omega
        · refine (World.putObj_heap_other (hne k hk)).trans ((hk3.2 k ?_).trans (k2 k (hne k hk)))
          rcases hk with hk | hk
          · exact .inl hk
          · exact .inr (.inl hk)
      have out : ∀ (c : Code) (W3 : World), Ix c (StD D S) (pre ++ [(d, t)]) W3 ∧ Keeps T0 (StD D S) W2 W3 → ∃ v w', (Instr.endRound (D + 1) (some c)).run P W3 = .ok v w' ∧
          ((Ending.returned v = .returned (.bool true) ∧ (I (StD D S) (pre ++ [(d, t)]) w' ∧ w'.heap[D + 1]? = some (.loop (r .ready none)) ∧ w'.heap[D]? = some (.deferred (some [])) ∧ ¬ S (D + 1) ∧ ¬ S D) ∧ Keeps T0 S W w') ∨
            (Ending.returned v = .returned (.bool false) ∧ ∃ c S, Ix c S (pre ++ [(d, t)]) w' ∧ S (D + 1) ∧ S D ∧ w'.heap[D + 1]? = some (.loop (r .done (some c))) ∧ w'.heap[D]? = some (.deferred (some [])))) := fun c W3 hp => by
        obtain ⟨q1, q2, q3, q4, -⟩ := fin (some c) W3 hp.2
        exact ⟨_, _, q1, .inr ⟨rfl, c, StD D S, hIx _ _ _ _ _ hp.1 q4, .inr (.inl rfl), .inr (.inr rfl), q2, q3⟩⟩
      rintro e a3 W3 hp
      cases e with
      | normal =>
        obtain ⟨q1, q2, q3, q4, q5⟩ := fin none W3 hp.2
        exact ⟨_, _, q1, .inl ⟨rfl, ⟨hI _ _ _ _ _ hp.1 q4 (fun _ h => h) (fun _ h => .inl h), q2, q3, i4, i5⟩, q5⟩⟩
      | ret => exact out .ret W3 hp
      | exit i => exact out (.exit i) W3 hp
      | goto t' => exact out (.goto t') W3 hp
      | panic ch => exact hp.elim
      | outgrown => exact hp.elim
  refine ⟨D + 1, [{ target := .collected D, args := #[] }], W1, { target := .fn (.func gf) lb, args := #[.func (.yield (D + 1)) #[] #[]] }, W1, gf, #[.func (.yield (D + 1)) #[] #[]] ++ lb, W1, hrun, ?_, ?_, ?_, ?_, ?_⟩
  · simp only [resolve, hg]
    simp [go_sem]
  · intro f' _
    exact trivial
  · simp [invoke, go_sem, eg]
  · intro h
    cases h
  · refine CallsIn.mono (n := n + 1) hcall ?_
    rintro e W2 ⟨⟨v, rfl⟩, (⟨S, i1, i2, i3, i4, i5⟩ | ⟨pre, c, S, i1, i2, i3, i4, i5⟩)⟩
    · have hend := run_endLoop (P := P) i2 (by rw [hr]; simp)
      rw [hr] at hend
      exact ⟨none, _, hend, hdone D (StD D S) _ (by omega) (.inr (.inr rfl)) (hI _ _ _ _ _ i1 (FrX.putObj _ W2 _ (.inr (.inl rfl))) (fun _ h => h) (fun _ h => .inl h)) ((World.putObj_heap_other (by omega)).trans i3)⟩
    · have hend := run_endLoop (P := P) i4 (by rw [hr]; simp)
      rw [hr] at hend
      exact ⟨some c, _, hend, hstop D c S pre _ (by omega) i3 (hIx _ _ _ _ _ i1 (FrX.putObj _ W2 _ i2)) ((World.putObj_heap_other (by omega)).trans i5)⟩
end Go.Proofs.Ytacmofhlbebonaa
