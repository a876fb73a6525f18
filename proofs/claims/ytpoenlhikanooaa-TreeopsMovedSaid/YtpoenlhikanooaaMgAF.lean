/- MgAF: TreG TreH TreI TreJ TreK TreL TreR TreN TreLb TreRd TreU TreUa TreLd -/
import Derived.RangeFuncNested
import Derived.RangeFuncBound
import Derived.RangeFuncCalls
import Derived.RangeFuncLeaves
import Derived.Shelf.Abstract
import Derived.Shelf.RegionOpen
import Derived.OwnWalkIn
import Derived.TacticsInMore
import Derived.LoopNIn
import Derived.LoopIn
import Derived.Deep.LoopGhost
import Derived.Test.YtpoenlhikanooaaMgAE
import Derived.Stop.RegionWithIn
import Derived.Deep.AppendLies
import Derived.Deep.RegionHeld3
import Derived.Sort.QuietTacIn
set_option linter.all false
/- A loop over a walk that keeps where it stands in memory of its own: what the walk owes, what the loop owes. -/
namespace Go.Proofs.Ytpoenlhikanooaa
set_option linter.unusedVariables false
open Go.RowKit
set_option maxRecDepth 20000

abbrev Blks := Nat → Prop
abbrev Way := List (Nat × Nd)
def two (d : Nat) (E : Addr) : Array Value := #[.int .i64 (d : Int), .pointer (some E)]
/-- what a round keeps for the walk -/
def Keeps (T0 S : Blks) (W W' : World) : Prop := W.heap.size ≤ W'.heap.size ∧ ∀ k, T0 k ∨ S k → W'.heap[k]? = W.heap[k]?
/-- what holds of the loop's own does not mind what the walk does -/
def Minds (J : Blks → Way → World → Prop) : Prop := ∀ S S' pre W1 W2, J S pre W1 → FrX S W1 W2 → (∀ k, S k → S' k) → (∀ k, S' k → S k ∨ W1.heap.size ≤ k) → J S' pre W2
/-- a walk over the nodes td of a tree that lies in blocks of T0: S is what it has made up to now -/
def Goes (P : Program) (gf : FuncId) (lb : Array Value) (T0 : Blks) (td : Way) (w0 : World) : Prop :=
  ∀ (n l : Nat) (J : Blks → Way → World → Prop) (Jx : Way → World → Prop) (W : World), w0.heap.size ≤ W.heap.size → (∀ k, k < w0.heap.size → W.heap[k]? = w0.heap[k]?) → Minds J →
    (∀ S pre d E t W1, J S pre W1 → pre ++ [(d, t)] <+: td → NodeAt (fun k => T0 k ∨ S k) W1 E t → (∀ k, S k → k < W1.heap.size) → YieldAt Fence.wide n P l (two d E) W1 fun e W' =>
      (e = .returned (.bool true) ∧ J S (pre ++ [(d, t)]) W' ∧ Keeps T0 S W1 W') ∨ (e = .returned (.bool false) ∧ Jx (pre ++ [(d, t)]) W')) →
    J (fun _ => False) [] W →
    CallsIn Fence.wide (n + 1) P gf (#[.func (.yield l) #[] #[]] ++ lb) W fun e W' => (∃ v, e = .returned v) ∧ ((∃ S, J S td W') ∨ ∃ pre, Jx pre W')
/-- what a round's body ends in -/
def RoundEnd (T0 S : Blks) (I : Blks → Way → World → Prop) (Ix : Code → Blks → Way → World → Prop) (xs : Way) (W : World) : Exit → Act → World → Prop
  | .normal, _, W' => I S xs W' ∧ Keeps T0 S W W'
  | .ret, _, W' => Ix .ret S xs W' ∧ Keeps T0 S W W'
  | .exit i, _, W' => Ix (.exit i) S xs W' ∧ Keeps T0 S W W'
  | .goto t, _, W' => Ix (.goto t) S xs W' ∧ Keeps T0 S W W'
  | .panic _, _, _ => False
  | .outgrown, _, _ => False
theorem FrX.putObj (S : Blks) (W : World) {l : Nat} (o : Obj) (h : S l) : FrX S W (W.putObj l o) :=
  ⟨rfl, rfl, rfl, by simp, fun k _ hn => World.putObj_heap_other (fun e => hn (e ▸ h))⟩
/-- the walk's blocks and the loop's own two -/
def StD (D : Nat) (S : Blks) : Blks := fun k => S k ∨ k = D + 1 ∨ k = D
set_option maxHeartbeats 1000000 in
/-- THE LOOP -/
theorem range_walk {P : Program} {n : Nat} {g : Operand} {ps : Array Tmp} {assign body : Code} {Q : Exit → Act → World → Prop} {a : Act} {w : World} {gf : Nat} {lb : Array Value} {T0 : Blks} {td : Way}
    (hg : a.eval g = .func (.func gf) #[] lb) (eg : ∀ args w, (callFunc gf args).run P w = .ok (.enter gf args) w) (hT0 : ∀ k, T0 k → k < w.heap.size) (hgo : Goes P gf lb T0 td w) (hps : ps.size = 2)
    (I : Blks → Way → World → Prop) (Ix : Code → Blks → Way → World → Prop) (hI : Minds I) (hIx : ∀ c S pre W1 W2, Ix c S pre W1 → FrX S W1 W2 → Ix c S pre W2) (h0 : I (fun _ => False) [] w) (a₁ : Nat → Addr → Act)
    (hassign : ∀ (l d : Nat) (E : Addr) (W : World) (K : Act → World → Prop), K (a₁ d E) W →
      assign.wpIn (Fence.wide.inRound l) n P (Exit.then K (fun _ _ _ => False)) { tmps := (ps.zip (two d E)).foldl (fun t (p, v) => t.setIfInBounds p v) a.tmps, defers := [] } W)
    (hbody : ∀ (l : Nat) (S : Blks) (pre : Way) (d : Nat) (E : Addr) (t : Nd) (W : World), I S pre W → pre ++ [(d, t)] <+: td → NodeAt (fun k => T0 k ∨ S k) W E t → (∀ k, S k → k < W.heap.size) →
      body.wpIn (Fence.wide.inRound l) n P (RoundEnd T0 S I Ix (pre ++ [(d, t)]) W) (a₁ d E) W)
    (hdone : ∀ (D : Nat) (S : Blks) (W : World), w.heap.size ≤ D → S D → I S td W → W.heap[D]? = some (.deferred (some [])) → Q .normal { a with defers := { target := .collected D, args := #[] } :: a.defers } W)
    (hstop : ∀ (D : Nat) (c : Code) (S : Blks) (pre : Way) (W : World), w.heap.size ≤ D → S D → Ix c S pre W → W.heap[D]? = some (.deferred (some [])) → c.wpIn Fence.wide (n + 2) P Q { a with defers := { target := .collected D, args := #[] } :: a.defers } W) :
    (Code.rangeFunc g ps assign body).wpIn Fence.wide (n + 2) P Q a w := by
  refine wpIn_rangeFunc fun fn hfn => ?_
  obtain ⟨D, hD⟩ : ∃ D, D = w.heap.size := ⟨_, rfl⟩
  obtain ⟨r, hr⟩ : ∃ r : LoopState → Option Code → Loop, r = fun st pe => { state := st, pending := pe, fn, tmps := a.tmps, params := ps, assign, body, defers := D } := ⟨_, rfl⟩
  obtain ⟨W1, hW1⟩ : ∃ W1, W1 = (w.alloc (.deferred (some []))).alloc (.loop (r .ready none)) := ⟨_, rfl⟩
  have z1 : W1.heap.size = D + 2 := by rw [hW1, hD]; simp
  have hL1 : W1.heap[D + 1]? = some (.loop (r .ready none)) := by
    rw [hW1, hD]
    exact two_second w _ _
  have hD1 : W1.heap[D]? = some (.deferred (some [])) := by
    rw [hW1, hD]
    exact two_first w _ _
  have F1 : FrX (fun _ => False) w W1 := by rw [hW1]; exact ((FrX.refl _ w).alloc _).alloc _
  have o1 : ∀ k, k < w.heap.size → W1.heap[k]? = w.heap[k]? := fun k hk => F1.block k hk (fun e => e)
  have hrun : (Instr.enterLoop fn a.tmps ps assign body Fence.wide.round).run P w = .ok (D + 1, [{ target := .collected D, args := #[] }]) W1 := by
    rw [hW1, hr, hD]
    exact run_enterLoop_outer _ _ _ _ _
  clear hW1
  have hcall := hgo n (D + 1) (fun S pre W => I (StD D S) pre W ∧ W.heap[D + 1]? = some (.loop (r .ready none)) ∧ W.heap[D]? = some (.deferred (some [])) ∧ ¬ S (D + 1) ∧ ¬ S D)
    (fun pre W => ∃ c S, Ix c S pre W ∧ S (D + 1) ∧ S D ∧ W.heap[D + 1]? = some (.loop (r .done (some c))) ∧ W.heap[D]? = some (.deferred (some [])))
    W1 F1.size o1 ?minds ?round ?start
  case start =>
    refine ⟨hI _ _ _ _ _ h0 F1 (fun k h => h.elim) (fun k hk => .inr ?_), hL1, hD1, fun h => h, fun h => h⟩
    rcases hk with hk | hk | hk
    · exact hk.elim
    · omega
    · omega
  case minds =>
    rintro S S' pre A B ⟨i1, i2, i3, i4, i5⟩ hF hs hn
    have l1 := (Array.getElem?_eq_some_iff.1 i2).1
    have l2 := (Array.getElem?_eq_some_iff.1 i3).1
    refine ⟨hI (StD D S) (StD D S') pre A B i1 (hF.mono fun k _ h => .inl h) (fun k hk => ?_) (fun k hk => ?_), (hF.block _ l1 i4).trans i2, (hF.block _ l2 i5).trans i3, fun h => ?_, fun h => ?_⟩
    · rcases hk with hk | hk
      · exact .inl (hs k hk)
      · exact .inr hk
    · rcases hk with hk | hk
      · rcases hn k hk with h | h
        · exact .inl (.inl h)
        · exact .inr h
      · exact .inl (.inr hk)
    · rcases hn _ h with h | h
      · exact i4 h
      · omega
    · rcases hn _ h with h | h
      · exact i5 h
      · omega
  case round =>
    rintro S pre d E t W ⟨i1, i2, i3, i4, i5⟩ hpre hN hS
    have l1 := (Array.getElem?_eq_some_iff.1 i2).1
    have l2 := (Array.getElem?_eq_some_iff.1 i3).1
    have hy := run_yield (P := P) (args := two d E) i2 (by rw [hr]; show (two d E).size = ps.size; rw [hps]; rfl)
    have hne : ∀ k, T0 k ∨ S k → k ≠ D + 1 := fun k hk e => by
      rcases hk with hk | hk
      · have := hT0 k hk
        omega
      · exact i4 (e ▸ hk)
    rw [hr] at hy
    refine ⟨fn, _, assign, body, hy, roundIn_of_wpIn hfn (hassign _ d E W _ ⟨_, run_beginRound i2 (by rw [hr]), ?_⟩)⟩
    obtain ⟨W2, hW2⟩ : ∃ W2, W2 = W.putObj (D + 1) (.loop { r .ready none with state := .busy }) := ⟨_, rfl⟩
    rw [← hW2]
    have F2 : FrX (StD D S) W W2 := by rw [hW2]; exact FrX.putObj _ W _ (.inr (.inl rfl))
    have b2 : W2.heap[D + 1]? = some (.loop { r .ready none with state := .busy }) := by rw [hW2]; exact World.putObj_heap_same l1
    have k2 : ∀ k, k ≠ D + 1 → W2.heap[k]? = W.heap[k]? := fun k hk => by rw [hW2]; exact World.putObj_heap_other hk
    have z2 : W2.heap.size = W.heap.size := by rw [hW2]; simp
    clear hW2
    have i2' : I (StD D S) pre W2 := hI _ _ _ _ _ i1 F2 (fun _ h => h) (fun _ h => .inl h)
    refine wpIn_mono (hbody _ (StD D S) pre d E t W2 i2' hpre (hN.kept (fun k hk => ?_) (fun k hk => k2 k (hne k hk))) (fun k hk => ?_)) ?_
    · rcases hk with hk | hk
      · exact .inl hk
      · exact .inr (.inl hk)
    · rw [z2]
      rcases hk with hk | hk | hk
      · exact hS k hk
      · omega
      · omega
    · have fin : ∀ (jump : Option Code) (W3 : World), Keeps T0 (StD D S) W2 W3 →
          (Instr.endRound (D + 1) jump).run P W3 = .ok (.bool jump.isNone) (W3.putObj (D + 1) (.loop (r (if jump.isNone then .ready else .done) jump))) ∧
          (W3.putObj (D + 1) (.loop (r (if jump.isNone then .ready else .done) jump))).heap[D + 1]? = some (.loop (r (if jump.isNone then .ready else .done) jump)) ∧
          (W3.putObj (D + 1) (.loop (r (if jump.isNone then .ready else .done) jump))).heap[D]? = some (.deferred (some [])) ∧ FrX (StD D S) W3 (W3.putObj (D + 1) (.loop (r (if jump.isNone then .ready else .done) jump))) ∧
          Keeps T0 S W (W3.putObj (D + 1) (.loop (r (if jump.isNone then .ready else .done) jump))) := fun jump W3 hk3 => by
        have hl3 := (hk3.2 (D + 1) (.inr (.inr (.inl rfl)))).trans b2
        have hd3 := (hk3.2 D (.inr (.inr (.inr rfl)))).trans ((k2 D (by omega)).trans i3)
        have hrun := run_endRound (P := P) jump hl3
        rw [hr] at hrun
        have hlt := (Array.getElem?_eq_some_iff.1 hl3).1
        refine ⟨by rw [hr]; exact hrun, World.putObj_heap_same hlt, (World.putObj_heap_other (by omega)).trans hd3, FrX.putObj _ W3 _ (.inr (.inl rfl)), ?_, fun k hk => ?_⟩
        · have := hk3.1
          simp
          omega
        · refine (World.putObj_heap_other (hne k hk)).trans ((hk3.2 k ?_).trans (k2 k (hne k hk)))
          rcases hk with hk | hk
          · exact .inl hk
          · exact .inr (.inl hk)
      have out : ∀ (c : Code) (W3 : World), Ix c (StD D S) (pre ++ [(d, t)]) W3 ∧ Keeps T0 (StD D S) W2 W3 → ∃ v w', (Instr.endRound (D + 1) (some c)).run P W3 = .ok v w' ∧
          ((Ending.returned v = .returned (.bool true) ∧ (I (StD D S) (pre ++ [(d, t)]) w' ∧ w'.heap[D + 1]? = some (.loop (r .ready none)) ∧ w'.heap[D]? = some (.deferred (some [])) ∧ ¬ S (D + 1) ∧ ¬ S D) ∧ Keeps T0 S W w') ∨
            (Ending.returned v = .returned (.bool false) ∧ ∃ c S, Ix c S (pre ++ [(d, t)]) w' ∧ S (D + 1) ∧ S D ∧ w'.heap[D + 1]? = some (.loop (r .done (some c))) ∧ w'.heap[D]? = some (.deferred (some [])))) := fun c W3 hp => by
        obtain ⟨q1, q2, q3, q4, -⟩ := fin (some c) W3 hp.2
        exact ⟨_, _, q1, .inr ⟨rfl, c, StD D S, hIx _ _ _ _ _ hp.1 q4, .inr (.inl rfl), .inr (.inr rfl), q2, q3⟩⟩
      rintro e a3 W3 hp
      cases e with
      | normal =>
        obtain ⟨q1, q2, q3, q4, q5⟩ := fin none W3 hp.2
        exact ⟨_, _, q1, .inl ⟨rfl, ⟨hI _ _ _ _ _ hp.1 q4 (fun _ h => h) (fun _ h => .inl h), q2, q3, i4, i5⟩, q5⟩⟩
      | ret => exact out .ret W3 hp
      | exit i => exact out (.exit i) W3 hp
      | goto t' => exact out (.goto t') W3 hp
      | panic ch => exact hp.elim
      | outgrown => exact hp.elim
  refine ⟨D + 1, [{ target := .collected D, args := #[] }], W1, { target := .fn (.func gf) lb, args := #[.func (.yield (D + 1)) #[] #[]] }, W1, gf, #[.func (.yield (D + 1)) #[] #[]] ++ lb, W1, hrun, ?_, ?_, ?_, ?_, ?_⟩
  · simp only [resolve, hg]
    simp [go_sem]
  · intro f' _
    exact trivial
  · simp [invoke, go_sem, eg]
  · intro h
    cases h
  · refine CallsIn.mono (n := n + 1) hcall ?_
    rintro e W2 ⟨⟨v, rfl⟩, (⟨S, i1, i2, i3, i4, i5⟩ | ⟨pre, c, S, i1, i2, i3, i4, i5⟩)⟩
    · have hend := run_endLoop (P := P) i2 (by rw [hr]; simp)
      rw [hr] at hend
      exact ⟨none, _, hend, hdone D (StD D S) _ (by omega) (.inr (.inr rfl)) (hI _ _ _ _ _ i1 (FrX.putObj _ W2 _ (.inr (.inl rfl))) (fun _ h => h) (fun _ h => .inl h)) ((World.putObj_heap_other (by omega)).trans i3)⟩
    · have hend := run_endLoop (P := P) i4 (by rw [hr]; simp)
      rw [hr] at hend
      exact ⟨some c, _, hend, hstop D c S pre _ (by omega) i3 (hIx _ _ _ _ _ i1 (FrX.putObj _ W2 _ i2)) ((World.putObj_heap_other (by omega)).trans i5)⟩
end Go.Proofs.Ytpoenlhikanooaa
/- The program's walk over all nodes of a tree. -/
namespace Go.Proofs.Ytpoenlhikanooaa
set_option linter.unusedVariables false
open Go.RowKit Go.Shelf
set_option maxRecDepth 20000
attribute [local go_sem] Oper.semAt_some

def With (S : Blks) (b : Nat) : Blks := fun k => S k ∨ k = b
/-- the node that one has come to, and those behind it -/
def Cur (J : Blks → Way → World → Prop) (T0 : Blks) (b1 p : Nat) (td : Way) (k : Nat) (dv nv : Value) (w : World) : Prop :=
  (nv = .pointer none ∧ (∃ S, J S td w) ∧ k = 0) ∨
  ∃ (d : Nat) (E : Addr) (x : Nd) (s : Stk) (Sw : Blks) (pre : Way), dv = .int .i64 (d : Int) ∧ nv = .pointer (some E) ∧ td = pre ++ (d, x) :: todo s ∧ NodeAt (With T0 b1) w E x ∧ WalkAt (With T0 b1) Sw b1 w p s ∧ J (With Sw b1) pre w ∧
    s.length + (todo s).length ≤ 200000 ∧ k = (todo s).length + 1
theorem With.also {S : Blks} {b : Nat} {w w' : World} : ∀ k, With (Also S w w') b k → With S b k ∨ w.heap.size ≤ k := fun k hk => by
  rcases hk with (hk | hk) | hk
  · exact .inl (.inl hk)
  · exact .inr hk.1
  · exact .inl (.inr hk)
theorem nextV_len : ∀ (s : Stk) (d : Nat) (x : Nd) (s' : Stk), nextV s = some (d, x, s') → s'.length ≤ s.length + 1
  | [], d, x, s', h => by simp [nextV] at h
  | [] :: rest, d, x, s', h => by
    have := nextV_len rest d x s' (by simpa [nextV] using h)
    simp
    omega
  | (y :: r) :: rest, d, x, s', h => by
    simp only [nextV, Option.some.injEq, Prod.mk.injEq] at h
    obtain ⟨-, -, rfl⟩ := h
    simp
theorem cur_next {J : Blks → Way → World → Prop} {T0 Sw : Blks} {b1 p : Nat} {td pre : Way} {s : Stk} {w w' : World} {e : Ending} (hM : Minds J) (hJ : J (With Sw b1) pre w) (htd : td = pre ++ todo s) (hb : s.length + (todo s).length ≤ 200000)
    (h : NextPost (With T0 b1) Sw b1 w p s e w') : ∃ dv nv, e = .returned (.tuple #[dv, nv]) ∧ Cur J T0 b1 p td (todo s).length dv nv w' := by
  have hn := todo_next s
  have hl := nextV_len s
  unfold NextPost at h
  cases hs : nextV s with
  | none =>
    rw [hs] at h hn
    obtain ⟨rfl, rfl⟩ := h
    dsimp only at hn
    refine ⟨_, _, rfl, .inl ⟨rfl, ⟨With Sw b1, ?_⟩, by rw [hn]; rfl⟩⟩
    rw [htd, hn, List.append_nil]
    exact hJ
  | some y =>
    obtain ⟨d, x, s'⟩ := y
    rw [hs] at h hn
    have hl := hl d x s' hs
    obtain ⟨E, rfl, hN, hW, hF⟩ := h
    dsimp only at hn
    refine ⟨_, _, rfl, .inr ⟨d, E, x, s', Also Sw w w', pre, rfl, rfl, by rw [htd, hn], hN, hW, ?_, ?_, by rw [hn]; simp⟩⟩
    · exact hM _ _ _ _ _ hJ (hF.mono fun k _ h => .inl h) (fun k hk => by rcases hk with hk | hk; exact .inl (.inl hk); exact .inr hk) With.also
    · rw [hn] at hb
      simp at hb
      omega
theorem nodes_any (w : World) (id : Int) (leaf : Bool) (b x : Txt) (aA kA : Option Addr) (an ac kn kc : Nat) :
    Calls Try.prog 80 #[.agg #[.int .u64 id, .bool leaf, .string ⟨b.toArray⟩, .slice aA an ac, .string ⟨x.toArray⟩, .slice kA kn kc]] w fun e w' => e = .returned (.func (.func 117) #[] #[.pointer (some ⟨w.heap.size, 0, none⟩)]) ∧
      w' = w.alloc (.cells #[.int .u64 id, .bool leaf, .string ⟨b.toArray⟩, .slice aA an ac, .string ⟨x.toArray⟩, .slice kA kn kc] 42) := by
  go_enter Try.func80, Try.ntmps80
  go_wp2_with fail
  go_ret
  exact ⟨rfl, rfl⟩
theorem three_new (w : World) (a b c : Obj) : (((w.alloc a).alloc b).alloc c).heap[w.heap.size]? = some a ∧ (((w.alloc a).alloc b).alloc c).heap[w.heap.size + 1]? = some b ∧ (((w.alloc a).alloc b).alloc c).heap[w.heap.size + 2]? = some c := by
  have h := heap_alloc_new ((w.alloc a).alloc b) c
  rw [World.size_alloc, World.size_alloc] at h
  exact ⟨(heap_alloc_old _ _ _ (by simp; omega)).trans (two_first w a b), (heap_alloc_old _ _ _ (by simp)).trans (two_second w a b), h⟩
set_option maxHeartbeats 4000000 in
theorem goes_nodes (w0 : World) (T0 : Blks) (Bn : Nat) (t : Nd) (aA kA : Option Addr) (an ac kn kc : Nat) (hB : w0.heap[Bn]? = some (.cells (val6 t aA an ac kA kn kc) 42 (0, 0))) (hv : NodeV T0 w0 aA an ac kA kn kc t) (hT0 : ∀ k, T0 k → k < w0.heap.size) (hc : countV t ≤ 100000) :
    Goes Try.prog 117 #[.pointer (some ⟨Bn, 0, none⟩)] T0 (preV 0 t) w0 := by
  intro n l J Jx W hz ho hM hR h0
  have hBn : Bn < w0.heap.size := (Array.getElem?_eq_some_iff.1 hB).1
  have hBW := (ho Bn hBn).trans hB
  unfold val6 at hBW
  obtain ⟨c0, c1, c2, c3, c4, c5, cf⟩ := six_cells hBW
  have hvW := Lib.hid (hv.kept (T' := T0) (w' := W) (fun _ h => h) (fun k hk => ho k (hT0 k hk)))
  have hR' := Lib.hid hR
  have hM' := Lib.hid hM
  have h0' := Lib.hid h0
  have hT0' := Lib.hid (show ∀ k, T0 k → k < W.heap.size from fun k hk => Nat.lt_of_lt_of_le (hT0 k hk) hz)
  clear hR hM h0 hT0 ho hB hBW hv
  refine callsIn_of_wp Try.func117 rfl trivial ?_ rfl
  simp only [Try.ntmps117, List.size_toArray, List.length_cons, List.length_nil, Nat.reduceAdd, Nat.reduceSub, Array.replicate_succ, Array.replicate_zero, List.push_toArray, List.append_toArray, List.nil_append, List.cons_append]
  gi_wp2
  obtain ⟨W3, hW3⟩ : ∃ W3, W3 = ((W.alloc (.cells #[.int .u64 (t.id : Int), .bool t.leaf, .string ⟨t.label.toArray⟩, .slice aA an ac, .string ⟨t.text.toArray⟩, .slice kA kn kc] 42)).alloc (.cells #[.slice (some ⟨W.heap.size, 0, none⟩) 1 1] 40)).alloc (.cells #[.slice (some ⟨W.heap.size + 1, 0, none⟩) 1 1] 128) := ⟨_, rfl⟩
  rw [← hW3]
  obtain ⟨b1, hb1⟩ : ∃ b1, b1 = W.heap.size := ⟨_, rfl⟩
  have z3 : W3.heap.size = b1 + 3 := by rw [hW3, hb1]; simp
  obtain ⟨n1, n2, n3⟩ : W3.heap[b1]? = some (.cells #[.int .u64 (t.id : Int), .bool t.leaf, .string ⟨t.label.toArray⟩, .slice aA an ac, .string ⟨t.text.toArray⟩, .slice kA kn kc] 42 (0, 0)) ∧ W3.heap[b1 + 1]? = some (.cells #[.slice (some ⟨b1, 0, none⟩) 1 1] 40 (0, 0)) ∧ W3.heap[b1 + 2]? = some (.cells #[.slice (some ⟨b1 + 1, 0, none⟩) 1 1] 128 (0, 0)) := by
    rw [hW3, hb1]
    exact three_new W _ _ _
  have F3 : FrX (fun _ => False) W W3 := by rw [hW3]; exact (((FrX.refl _ W).alloc _).alloc _).alloc _
  rw [← hb1]
  clear hW3
  have hbW := Lib.hid hb1
  obtain ⟨d0, d1, d2, d3, d4, d5, -⟩ := six_cells n1
  have hw3 : WalkAt (With T0 b1) (fun k => k = b1 + 1 ∨ k = b1 + 2) b1 W3 (b1 + 2) [[t]] := by
    refine ⟨fun k hk => by omega, fun k hk hs => ?_, fun k hk => ?_, .inr rfl, b1 + 1, 1, 1, [.slice (some ⟨b1, 0, none⟩) 1 1], n3, rfl, ⟨rfl, .inr ⟨b1 + 1, 1, _, rfl, by omega, n2, Nat.le_refl _, by unfold maxLen; omega, rfl, rfl⟩⟩, .inl rfl, ?_⟩
    · rcases hk with hk | hk
      · have := hT0'.out k hk
        omega
      · omega
    · rcases hk with hk | hk
      · have := hT0'.out k hk
        omega
      · omega
    · intro d row hd
      match d, hd with
      | 0, hd =>
        injection hd with hd
        subst hd
        refine ⟨some ⟨b1, 0, none⟩, 1, 1, rfl, rfl, Nat.le_refl _, by unfold maxLen; omega, (fun h => by cases h), ?_⟩
        simp only [RowAt, and_true]
        refine ⟨⟨b1, 0, none⟩, aA, an, ac, kA, kn, kc, rfl, .inr rfl, ?_, hvW.out.kept (fun k hk => .inl hk) (fun k hk => F3.block k (hT0'.out k hk) (fun h => h))⟩
        exact ⟨d0, d1, d2, d3, d4, d5⟩
  have hJ3 : J (With (fun k => k = b1 + 1 ∨ k = b1 + 2) b1) [] W3 := hM'.out _ _ _ _ _ h0'.out F3 (fun k h => h.elim) (fun k hk => .inr (by rcases hk with (hk | hk) | hk <;> have := hbW.out <;> omega))
  have hlen0 : (todo [[t]]).length = countV t := by rw [todo_root, pre_len]
  have hT3 := hbW.out
  refine ⟨trivial, (callsIn_wide.2 (next_any W3 (With T0 b1) _ b1 (b1 + 2) [[t]] hw3 (by simp) (by omega))).mono ?_⟩
  intro e W4 hp
  obtain ⟨dv, nv, rfl, hcur⟩ := cur_next (td := preV 0 t) hM'.out hJ3 (by simp [todo_root]) (by rw [hlen0]; simp only [List.length_cons, List.length_nil]; omega) hp
  have hcur' := Lib.hid hcur
  clear hcur hp hJ3 hw3 n1 n2 n3 F3 d0 d1 d2 d3 d4 d5 c0 c1 c2 c3 c4 c5 cf hlen0 hT3 hb1
  gi_wp2
  gi_loopw [4, 5] (fun dv nv wr => ∃ k, Cur J T0 b1 (b1 + 2) (preV 0 t) k dv nv wr) (fun dv nv wr => leastOf (fun k => Cur J T0 b1 (b1 + 2) (preV 0 t) k dv nv wr))
  case atStart => exact ⟨_, hcur'.out⟩
  case round =>
    clear hcur'
    have hk := (leastOf_spec hrel).1
    generalize hk0 : leastOf (fun k => Cur J T0 b1 (b1 + 2) (preV 0 t) k u4 u5 wr) = k at hk
    have hk0' := Lib.hid hk0
    clear hk0 hrel
    rcases hk with ⟨rfl, ⟨S, hJ⟩, -⟩ | ⟨d, E, x, s, Sw, pre, rfl, rfl, htd, hN, hW, hJ, hb, hkk⟩
    · gi_wp2
      go_end0
      exact ⟨⟨_, rfl⟩, .inl ⟨S, hJ⟩⟩
    · have hpre : pre ++ [(d, x)] <+: preV 0 t := ⟨todo s, by rw [htd]; simp⟩
      have hown := hW.own
      have htold := hW.told
      have hwz : b1 < wr.heap.size := htold b1 (.inr rfl)
      obtain ⟨fn, tmps, assign, body, hy, hRd⟩ := hR'.out (With Sw b1) pre d E x wr hJ hpre (hN.kept (fun k hk => by rcases hk with hk | hk; exact .inl hk; exact .inr (.inr hk)) (fun _ _ => rfl)) (fun k hk => by rcases hk with hk | hk; exact (hown k hk).2; omega)
      unfold two at hy
      have hRd' := Lib.hid hRd
      have hW' := Lib.hid hW
      have htd' := Lib.hid htd
      have hb' := Lib.hid hb
      have hkk' := Lib.hid hkk
      clear hRd hW htd hb hkk hN hJ hpre hown htold
      gi_wp2
      refine hRd'.out.mono ?_
      rintro e W5 (⟨rfl, hJ5, hk5⟩ | ⟨rfl, hJx5⟩)
      · have hW5 := WalkAt.kept hW'.out hk5.1 (fun k hk => hk5.2 k (by rcases hk with (hk | hk) | hk; exact .inl hk; exact .inr (.inr hk); exact .inr (.inl hk)))
        have hb5 := hb'.out
        have hz5 := hk5.1
        gi_wp2
        refine ⟨trivial, (callsIn_wide.2 (next_any W5 (With T0 b1) _ b1 (b1 + 2) s hW5 (by omega) (by omega))).mono ?_⟩
        intro e W6 hp
        obtain ⟨dv2, nv2, rfl, hcur2⟩ := cur_next (td := preV 0 t) hM'.out hJ5 (by rw [htd'.out]; simp) hb'.out hp
        have hcur2' := Lib.hid hcur2
        clear hcur2 hp hJ5 hk5 hW5
        gi_wp2
        go_roundw
        case rel => exact ⟨_, hcur2'.out⟩
        case measure =>
          refine Nat.lt_of_le_of_lt ((leastOf_spec ⟨_, hcur2'.out⟩).2 _ hcur2'.out) ?_
          have h1 := hk0'.out
          have h2 := hkk'.out
          omega
      · have hJx5' := Lib.hid hJx5
        clear hJx5
        gi_wp2
        refine bodyPost_ret (results_none rfl _ _ _) rfl ?_
        exact ⟨⟨_, rfl⟩, .inr ⟨_, hJx5'.out⟩⟩
end Go.Proofs.Ytpoenlhikanooaa
/- How many nodes, how deep: the program's loops over all nodes. -/
namespace Go.Proofs.Ytpoenlhikanooaa
set_option linter.unusedVariables false
open Go.RowKit Go.Shelf
set_option maxRecDepth 20000
attribute [local go_sem] Oper.semAt_some

/-- what the loop's function has of its own: G; S: what the walk has -/
structure Mine (w W0 : World) (G S : Blks) (W : World) : Prop where
  bel : Below w.heap.size w W
  size : W0.heap.size ≤ W.heap.size
  far : ∀ k, S k → W0.heap.size ≤ k
  own : ∀ k, G k → ¬ S k ∧ k < W.heap.size ∧ w.heap.size ≤ k
def Holds (w W0 : World) (F : Blks → Way → World → Prop) : Blks → Way → World → Prop := fun S pre W => ∃ G, Mine w W0 G S W ∧ F G pre W
def Stays (F : Blks → Way → World → Prop) : Prop := ∀ G pre W1 W2, F G pre W1 → (∀ k, G k → W2.heap[k]? = W1.heap[k]?) → F G pre W2
theorem Mine.walked {w W0 : World} {G S S' : Blks} {W1 W2 : World} (hw : w.heap.size ≤ W0.heap.size) (h : Mine w W0 G S W1) (hF : FrX S W1 W2) (hn : ∀ k, S' k → S k ∨ W1.heap.size ≤ k) : Mine w W0 G S' W2 ∧ ∀ k, G k → W2.heap[k]? = W1.heap[k]? := by
  have hb : Below w.heap.size W1 W2 := hF.below (fun k hk => Nat.le_trans hw (h.far k hk)) (Nat.le_trans hw h.size)
  refine ⟨⟨h.bel.trans hb, Nat.le_trans h.size hF.size, fun k hk => ?_, fun k hk => ⟨fun hS => ?_, ?_, (h.own k hk).2.2⟩⟩, fun k hk => hF.block k (h.own k hk).2.1 (h.own k hk).1⟩
  · rcases hn k hk with e | e
    · exact h.far k e
    · exact Nat.le_trans h.size e
  · rcases hn k hS with e | e
    · exact (h.own k hk).1 e
    · have := (h.own k hk).2.1
      omega
  · exact Nat.lt_of_lt_of_le (h.own k hk).2.1 hF.size
theorem minds_holds {w W0 : World} (hw : w.heap.size ≤ W0.heap.size) {F : Blks → Way → World → Prop} (hF : Stays F) : Minds (Holds w W0 F) := by
  rintro S S' pre W1 W2 ⟨G, hm, hf⟩ hX - hn
  obtain ⟨q1, q2⟩ := hm.walked hw hX hn
  exact ⟨G, q1, hF G pre W1 W2 hf q2⟩
theorem Mine.step {w W0 : World} {G G' S : Blks} {W W' : World} (h : Mine w W0 G S W) (hS : ∀ k, S k → k < W.heap.size) (hF : FrX G W W') (hG : ∀ k, G' k → G k ∨ (W.heap.size ≤ k ∧ k < W'.heap.size)) (hw : w.heap.size ≤ W0.heap.size) : Mine w W0 G' S W' ∧ Keeps (Old w) S W W' := by
  have hz := h.size
  have hb : Below w.heap.size W W' := hF.below (fun k hk => (h.own k hk).2.2) (by omega)
  refine ⟨⟨h.bel.trans hb, Nat.le_trans h.size hF.size, h.far, fun k hk => ?_⟩, hF.size, fun k hk => ?_⟩
  · rcases hG k hk with e | e
    · exact ⟨(h.own k e).1, Nat.lt_of_lt_of_le (h.own k e).2.1 hF.size, (h.own k e).2.2⟩
    · exact ⟨fun hk => by have := hS k hk; omega, e.2, by omega⟩
  · rcases hk with hk | hk
    · exact hb.block k hk
    · exact hF.block k (hS k hk) (fun e => (h.own k e).1 hk)
/-- a variable of the function's own -/
def Var (b : Nat) (v : Value) (ty : TypeId) (W : World) : Prop := W.heap[b]? = some (.cells #[v] ty (0, 0))
theorem Var.facts {b : Nat} {v : Value} {ty : TypeId} {W : World} (h : Var b v ty W) : W.cell? ⟨b, 0, none⟩ = some v ∧ W.frozen? ⟨b, 0, none⟩ = false := ⟨cell_of_row W b 0 _ _ _ h, frozen_of_row W b 0 _ _ h⟩
theorem Var.set {b : Nat} {v u : Value} {ty : TypeId} {W : World} (h : Var b v ty W) : Var b u ty (W.setCell ⟨b, 0, none⟩ u) := heap_setCell_same W b 0 _ _ u h
theorem end_below {w W : World} {D : Nat} (h : Below w.heap.size w W) (hD : w.heap.size ≤ D) : Below w.heap.size w (W.putObj D (.deferred none)) :=
  h.trans ⟨rfl, rfl, rfl, by simp, fun k hk => World.putObj_heap_other (by omega)⟩

def CountF (b : Nat) : Blks → Way → World → Prop := fun G pre W => G b ∧ Var b (.int .i64 (pre.length : Int)) 3 W
theorem countF_stays (b : Nat) : Stays (CountF b) := fun _ _ _ _ h hk => ⟨h.1, (hk b h.1).trans h.2⟩
set_option maxHeartbeats 4000000 in
theorem count_any (w : World) (t : Nd) (aA kA : Option Addr) (an ac kn kc : Nat) (h : NodeV (Old w) w aA an ac kA kn kc t) (hc : countV t ≤ 100000) :
    Calls Try.prog 38 #[.agg #[.int .u64 (t.id : Int), .bool t.leaf, .string ⟨t.label.toArray⟩, .slice aA an ac, .string ⟨t.text.toArray⟩, .slice kA kn kc]] w fun e w' => e = .returned (.int .i64 (countV t : Int)) ∧ Below w.heap.size w w' := by
  have h' := Lib.hid h
  have hlen := Lib.hid (pre_len t 0)
  clear h
  refine (callsIn_wide (n := 2)).1 ?_
  refine callsIn_of_wp_marks Try.func38 rfl trivial ?_ rfl
  simp only [Try.ntmps38, List.size_toArray, List.length_cons, List.length_nil, Nat.reduceAdd, Nat.reduceSub, Array.replicate_succ, Array.replicate_zero, List.push_toArray, List.append_toArray, List.nil_append, List.cons_append]
  gi_wp2
  refine ⟨trivial, (callsIn_wide.2 (nodes_any _ _ _ _ _ _ _ _ _ _ _)).mono ?_⟩
  rintro e W1 ⟨rfl, rfl⟩
  gi_wp2
  obtain ⟨W0, hW0⟩ : ∃ W0, W0 = ((w.alloc (.cells #[.int .u64 (t.id : Int), .bool t.leaf, .string ⟨t.label.toArray⟩, .slice aA an ac, .string ⟨t.text.toArray⟩, .slice kA kn kc] 42)).alloc (.cells #[.int .i64 0] 3)).alloc (.cells #[.int .u64 (t.id : Int), .bool t.leaf, .string ⟨t.label.toArray⟩, .slice aA an ac, .string ⟨t.text.toArray⟩, .slice kA kn kc] 42) := ⟨_, rfl⟩
  obtain ⟨n1, n2, n3⟩ := three_new w (.cells #[.int .u64 (t.id : Int), .bool t.leaf, .string ⟨t.label.toArray⟩, .slice aA an ac, .string ⟨t.text.toArray⟩, .slice kA kn kc] 42) (.cells #[.int .i64 0] 3) (.cells #[.int .u64 (t.id : Int), .bool t.leaf, .string ⟨t.label.toArray⟩, .slice aA an ac, .string ⟨t.text.toArray⟩, .slice kA kn kc] 42)
  have hb0 : Below w.heap.size w W0 := by rw [hW0]; exact (((Below.refl w.heap.size w).alloc (Nat.le_refl _) _).alloc (by simp) _).alloc (by simp; omega) _
  have hz0 : W0.heap.size = w.heap.size + 3 := by rw [hW0]; simp
  rw [← hW0] at n1 n2 n3 ⊢
  clear hW0
  have hw0 : w.heap.size ≤ W0.heap.size := by omega
  have hgo := goes_nodes W0 (Old w) (w.heap.size + 2) t aA kA an ac kn kc n3 (h'.out.kept (fun _ h => h) (fun k hk => hb0.block k hk)) (fun k hk => Nat.lt_of_lt_of_le hk hw0) hc
  refine range_walk (n := 0) (gf := 117) (lb := #[.pointer (some ⟨w.heap.size + 2, 0, none⟩)]) (T0 := Old w) (td := preV 0 t) rfl (enters_of Try.func117 (by kernel_rfl) rfl) (fun k hk => Nat.lt_of_lt_of_le hk hw0) hgo rfl
    (Holds w W0 (CountF (w.heap.size + 1))) (fun _ _ _ _ => False) (minds_holds hw0 (countF_stays _)) (fun _ _ _ _ _ h _ => h)
    ⟨fun k => k = w.heap.size + 1, ⟨hb0, Nat.le_refl _, fun k hk => hk.elim, fun k hk => ⟨fun h => h, by omega, by omega⟩⟩, rfl, n2⟩ ?a1 ?assign ?body ?done ?stop
  case assign =>
    intro l d E W K hK
    unfold two
    gi_wp2
    exact hK
  case body =>
    rintro l S pre d E x W ⟨G, hm, hG, hV⟩ hpre hN hS
    obtain ⟨hc1, hf1⟩ := hV.facts
    have hpl : pre.length + 1 ≤ 100000 := by
      obtain ⟨r, hr⟩ := hpre
      have := hlen.out
      rw [← hr] at this
      simp at this
      omega
    have hV' := Lib.hid hV
    have hm' := Lib.hid hm
    clear hV hm hpre hN
    gi_wp2
    obtain ⟨q1, q2⟩ := hm'.out.step (G' := G) hS ((FrX.refl G W).setCell hG) (fun k hk => .inl hk) hw0
    refine ⟨⟨G, q1, hG, ?_⟩, q2⟩
    rw [List.length_append, Int.natCast_add]
    exact hV'.out.set
  case done =>
    rintro D S W hD hSD ⟨G, hm, hG, hV⟩ hK
    obtain ⟨hc1, hf1⟩ := hV.facts
    have hm' := Lib.hid hm
    clear hV hm
    gi_wp2
    refine ⟨by simp, .inl ⟨_, _, rfl, run_takeDeferred hK, ?_⟩⟩
    exact ⟨_, results_tmp rfl _ _ _, by rw [← hlen.out]; rfl, end_below hm'.out.bel (by omega)⟩
  case stop =>
    rintro D c S pre W _ _ h _
    exact h.elim
end Go.Proofs.Ytpoenlhikanooaa
/- How deep, how long: the program's loops over all nodes. -/
namespace Go.Proofs.Ytpoenlhikanooaa
set_option linter.unusedVariables false
open Go.RowKit Go.Shelf
set_option maxRecDepth 20000
attribute [local go_sem] Oper.semAt_some

end Go.Proofs.Ytpoenlhikanooaa
/- Is a tree right: the program's loop over all nodes. -/
namespace Go.Proofs.Ytpoenlhikanooaa
set_option linter.unusedVariables false
open Go.RowKit Go.Shelf
set_option maxRecDepth 20000
attribute [local go_sem] Oper.semAt_some

def RightF (b : Nat) : Blks → Way → World → Prop := fun G pre W => G b ∧ Var b (.bool false) 4 W ∧ pre.all (fun e => aloneOk ltB e.2) = true
theorem rightF_stays (b : Nat) : Stays (RightF b) := fun _ _ _ _ h hk => ⟨h.1, (hk b h.1).trans h.2.1, h.2.2⟩
/-- the loop has been left: what the answer's cell holds -/
def LeftF (b : Nat) (v : Value) (ty : TypeId) (q : Prop) : Blks → Way → World → Prop := fun G _ W => G b ∧ Var b v ty W ∧ q
theorem leftF_stays (b : Nat) (v : Value) (ty : TypeId) (q : Prop) : Stays (LeftF b v ty q) := fun _ _ _ _ h hk => ⟨h.1, (hk b h.1).trans h.2.1, h.2.2⟩
def Stopped (w W0 : World) (F : Blks → Way → World → Prop) : Code → Blks → Way → World → Prop := fun c S pre W => c = .ret ∧ Holds w W0 F S pre W
theorem stopped_kept {w W0 : World} (hw : w.heap.size ≤ W0.heap.size) {F : Blks → Way → World → Prop} (hF : Stays F) : ∀ c S pre W1 W2, Stopped w W0 F c S pre W1 → FrX S W1 W2 → Stopped w W0 F c S pre W2 :=
  fun _ _ _ _ _ h hX => ⟨h.1, minds_holds hw hF _ _ _ _ _ h.2 hX (fun _ h => h) (fun _ h => .inl h)⟩
set_option maxHeartbeats 4000000 in
theorem right_any (w : World) (t : Nd) (aA kA : Option Addr) (an ac kn kc : Nat) (h : NodeV (Old w) w aA an ac kA kn kc t) (hc : countV t ≤ 100000) :
    Calls Try.prog 107 #[.agg #[.int .u64 (t.id : Int), .bool t.leaf, .string ⟨t.label.toArray⟩, .slice aA an ac, .string ⟨t.text.toArray⟩, .slice kA kn kc]] w fun e w' => e = .returned (.bool (rightV ltB t)) ∧ Below w.heap.size w w' := by
  have h' := Lib.hid h
  have hlen := Lib.hid (pre_right ltB t 0)
  clear h
  refine (callsIn_wide (n := 2)).1 ?_
  refine callsIn_of_wp_marks Try.func107 rfl trivial ?_ rfl
  simp only [Try.ntmps107, List.size_toArray, List.length_cons, List.length_nil, Nat.reduceAdd, Nat.reduceSub, Array.replicate_succ, Array.replicate_zero, List.push_toArray, List.append_toArray, List.nil_append, List.cons_append]
  cases hlf : t.leaf
  · have hans := Lib.hid (show rightV ltB t = (preV 0 t).all (fun e => aloneOk ltB e.2) by rw [hlen.out]; unfold rightV; rw [hlf]; rfl)
    gi_wp2
    refine ⟨trivial, (callsIn_wide.2 (nodes_any _ _ _ _ _ _ _ _ _ _ _)).mono ?_⟩
    rintro e W1 ⟨rfl, rfl⟩
    gi_wp2
    obtain ⟨W0, hW0⟩ : ∃ W0, W0 = ((w.alloc (.cells #[.int .u64 (t.id : Int), .bool false, .string ⟨t.label.toArray⟩, .slice aA an ac, .string ⟨t.text.toArray⟩, .slice kA kn kc] 42)).alloc (.cells #[.bool false] 4)).alloc (.cells #[.int .u64 (t.id : Int), .bool false, .string ⟨t.label.toArray⟩, .slice aA an ac, .string ⟨t.text.toArray⟩, .slice kA kn kc] 42) := ⟨_, rfl⟩
    obtain ⟨n1, n2, n3⟩ := three_new w (.cells #[.int .u64 (t.id : Int), .bool false, .string ⟨t.label.toArray⟩, .slice aA an ac, .string ⟨t.text.toArray⟩, .slice kA kn kc] 42) (.cells #[.bool false] 4) (.cells #[.int .u64 (t.id : Int), .bool false, .string ⟨t.label.toArray⟩, .slice aA an ac, .string ⟨t.text.toArray⟩, .slice kA kn kc] 42)
    have hb0 : Below w.heap.size w W0 := by rw [hW0]; exact (((Below.refl w.heap.size w).alloc (Nat.le_refl _) _).alloc (by simp) _).alloc (by simp; omega) _
    have hz0 : W0.heap.size = w.heap.size + 3 := by rw [hW0]; simp
    rw [← hW0] at n1 n2 n3 ⊢
    clear hW0
    have hw0 : w.heap.size ≤ W0.heap.size := by omega
    have hgo := goes_nodes W0 (Old w) (w.heap.size + 2) t aA kA an ac kn kc (by unfold val6; rw [hlf]; exact n3) (h'.out.kept (fun _ h => h) (fun k hk => hb0.block k hk)) (fun k hk => Nat.lt_of_lt_of_le hk hw0) hc
    refine range_walk (n := 0) (gf := 117) (lb := #[.pointer (some ⟨w.heap.size + 2, 0, none⟩)]) (T0 := Old w) (td := preV 0 t) rfl (enters_of Try.func117 (by kernel_rfl) rfl) (fun k hk => Nat.lt_of_lt_of_le hk hw0) hgo rfl
      (Holds w W0 (RightF (w.heap.size + 1))) (Stopped w W0 (LeftF (w.heap.size + 1) (.bool false) 4 (rightV ltB t = false))) (minds_holds hw0 (rightF_stays _)) (stopped_kept hw0 (leftF_stays _ _ _ _))
      ⟨fun k => k = w.heap.size + 1, ⟨hb0, Nat.le_refl _, fun k hk => hk.elim, fun k hk => ⟨fun h => h, by omega, by omega⟩⟩, rfl, n2, rfl⟩ ?a1 ?assign ?body ?done ?stop
    case assign =>
      intro l d E W K hK
      unfold two
      gi_wp2
      exact hK
    case body =>
      rintro l S pre d E x W ⟨G, hm, hG, hV, hall⟩ hpre hN hS
      obtain ⟨hc1, hf1⟩ := hV.facts
      have hT : ∀ k, Old w k ∨ S k → k < W.heap.size := fun k hk => by rcases hk with hk | hk; exact Nat.lt_of_lt_of_le hk (Nat.le_trans hw0 hm.size); exact hS k hk
      have hcall := Lib.hid (rightAlone_any W (fun k => Old w k ∨ S k) E x hN hT)
      have hGb : w.heap.size + 1 < W.heap.size := (hm.own _ hG).2.1
      have hV' := Lib.hid hV
      have hm' := Lib.hid hm
      have hT' := Lib.hid hT
      have hall' := Lib.hid hall
      cases hax : aloneOk ltB x
      · have hans2 := Lib.hid (show rightV ltB t = false by
          rw [hans.out]
          obtain ⟨r, hr⟩ := hpre
          rw [← hr]
          simp [hax])
        rw [hax] at hcall
        clear hV hm hpre hN hT hall hax
        gi_wp2
        refine ⟨trivial, rfl, (CallsIn.inRound l (callsIn_wide.2 hcall.out)).mono ?_⟩
        rintro e W1 ⟨rfl, hb⟩
        have hc2 := (hb.cell (p := ⟨w.heap.size + 1, 0, none⟩) hGb).trans hc1
        have hf2 := (hb.frozen (p := ⟨w.heap.size + 1, 0, none⟩) hGb).trans hf1
        have hb' := Lib.hid hb
        clear hb
        gi_wp2
        obtain ⟨q1, q2⟩ := hm'.out.step (G' := G) hS ((FrX.of_below hb'.out).setCell hG) (fun k hk => .inl hk) hw0
        exact ⟨⟨rfl, G, q1, hG, Var.set ((hb'.out.block _ hGb).trans hV'.out), hans2.out⟩, q2⟩
      · rw [hax] at hcall
        have hall2 := Lib.hid (show (pre ++ [(d, x)]).all (fun e => aloneOk ltB e.2) = true by rw [List.all_append, hall]; simp [hax])
        clear hV hm hpre hN hT hall hax
        gi_wp2
        refine ⟨trivial, rfl, (CallsIn.inRound l (callsIn_wide.2 hcall.out)).mono ?_⟩
        rintro e W1 ⟨rfl, hb⟩
        have hb' := Lib.hid hb
        clear hb
        gi_wp2
        obtain ⟨q1, q2⟩ := hm'.out.step (G' := G) hS (FrX.of_below hb'.out) (fun k hk => .inl hk) hw0
        exact ⟨⟨G, q1, hG, (hb'.out.block _ hGb).trans hV'.out, hall2.out⟩, q2⟩
    case done =>
      rintro D S W hD hSD ⟨G, hm, hG, hV, hall⟩ hK
      obtain ⟨hc1, hf1⟩ := hV.facts
      have hGb : w.heap.size + 1 < W.heap.size := (hm.own _ hG).2.1
      have hSG : ¬ S (w.heap.size + 1) := (hm.own _ hG).1
      have hne : w.heap.size + 1 ≠ D := fun e => hSG (e ▸ hSD)
      have hV' := Lib.hid hV
      have hm' := Lib.hid hm
      have hans2 := Lib.hid (hans.out.trans hall)
      clear hV hm hall
      gi_wp2
      refine ⟨by simp, .inl ⟨_, _, rfl, run_takeDeferred (w := W.setCell ⟨w.heap.size + 1, 0, none⟩ (.bool true)) ((heap_setCell_other _ _ _ _ (fun e => hne e.symm)).trans hK), ?_⟩⟩
      have hcell : ((W.setCell ⟨w.heap.size + 1, 0, none⟩ (.bool true)).putObj D (.deferred none)).cell? ⟨w.heap.size + 1, 0, none⟩ = some (.bool true) := cell_of_row _ _ 0 _ _ _ ((World.putObj_heap_other hne).trans hV'.out.set)
      exact ⟨.bool true, by simp [results, Try.results107, go_sem, hcell], by rw [hans2.out], end_below (hm'.out.bel.setCell (by simp) _) (by omega)⟩
    case stop =>
      rintro D c S pre W hD hSD ⟨rfl, G, hm, hG, hV, hq⟩ hK
      obtain ⟨hc1, hf1⟩ := hV.facts
      have hne : w.heap.size + 1 ≠ D := fun e => (hm.own _ hG).1 (e ▸ hSD)
      have hV' := Lib.hid hV
      have hm' := Lib.hid hm
      have hans2 := Lib.hid hq
      clear hV hm hq
      gi_wp2
      refine ⟨by simp, .inl ⟨_, _, rfl, run_takeDeferred hK, ?_⟩⟩
      have hcell : (W.putObj D (.deferred none)).cell? ⟨w.heap.size + 1, 0, none⟩ = some (.bool false) := cell_of_row _ _ 0 _ _ _ ((World.putObj_heap_other hne).trans hV'.out)
      exact ⟨.bool false, by simp [results, Try.results107, go_sem, hcell], by rw [hans2.out], end_below hm'.out.bel (by omega)⟩
  · have hans := Lib.hid (show rightV ltB t = false by unfold rightV; rw [hlf]; rfl)
    gi_wp2
    obtain ⟨W9, hW9⟩ : ∃ W9, W9 = ((w.alloc (.cells #[.int .u64 (t.id : Int), .bool true, .string ⟨t.label.toArray⟩, .slice aA an ac, .string ⟨t.text.toArray⟩, .slice kA kn kc] 42)).alloc (.cells #[.bool false] 4)) := ⟨_, rfl⟩
    have hcell : W9.cell? ⟨w.heap.size + 1, 0, none⟩ = some (.bool false) := by
      rw [hW9]
      exact cell_of_row _ _ 0 _ _ _ (two_second w _ _)
    have hbel : Below w.heap.size w W9 := by
      rw [hW9]
      exact ((Below.refl w.heap.size w).alloc (Nat.le_refl _) _).alloc (by simp) _
    rw [← hW9]
    clear hW9
    exact ⟨.bool false, by simp [results, Try.results107, go_sem, hcell], by rw [hans.out], hbel⟩
end Go.Proofs.Ytpoenlhikanooaa
/- The identities: the program's loop over all nodes. -/
namespace Go.Proofs.Ytpoenlhikanooaa
set_option linter.unusedVariables false
open Go.RowKit Go.Shelf
set_option maxRecDepth 20000
attribute [local go_sem] Oper.semAt_some

def idv (i : Nat) : Value := .int .u64 (i : Int)
/-- a row of identities of the call's own -/
def OwnId (base : Nat) (w : World) (v : Value) (is : List Nat) : Prop := w.ownsRow base 23 1 v is.length (is.map idv)
end Go.Proofs.Ytpoenlhikanooaa
/- The identities: the document's. -/
namespace Go.Proofs.Ytpoenlhikanooaa
set_option linter.unusedVariables false
open Go.RowKit
set_option maxRecDepth 20000

theorem OwnId.one (base : Nat) (w : World) (x : Nat) (hb : base ≤ w.heap.size) : OwnId base (w.alloc (.cells #[.int .u64 (x : Int)] 23)) (.slice (some ⟨w.heap.size, 0, none⟩) 1 1) [x] :=
  World.ownsRow_lit w #[.int .u64 (x : Int)] 1 hb (by unfold maxLen; omega) rfl
end Go.Proofs.Ytpoenlhikanooaa
/- works: the chapter's examples. -/
namespace Go.Proofs.Ytpoenlhikanooaa
set_option linter.unusedVariables false
open Go.RowKit
set_option maxRecDepth 20000

def xN : Nd := .mk 0 true [120] [] [104, 105] []
def aN : Nd := .mk 0 false [97] [] [] [xN]
def bN : Nd := .mk 0 false [98] [] [] []
def rN : Nd := .mk 0 false [114] [] [] [aN, bN]
/-- the example lies at B -/
structure Wk (w0 w : World) : Prop where
  bel : Below w0.heap.size w0 w
  size : w0.heap.size + 3 ≤ w.heap.size
  h1 : w.heap[w0.heap.size]? = some (.cells #[.int .u64 0, .bool true, .string ⟨#[120]⟩, .slice none 0 0, .string ⟨#[104, 105]⟩, .slice none 0 0] 42 (0, 0))
  h2 : w.heap[w0.heap.size + 1]? = some (.cells #[.int .u64 0, .bool false, .string ⟨#[97]⟩, .slice none 0 0, .string ⟨#[]⟩, .slice (some ⟨w0.heap.size, 0, none⟩) 1 1, .int .u64 0, .bool false, .string ⟨#[98]⟩, .slice none 0 0, .string ⟨#[]⟩, .slice none 0 0] 42 (0, 0))
  h3 : w.heap[w0.heap.size + 2]? = some (.cells #[.int .u64 0, .bool false, .string ⟨#[114]⟩, .slice none 0 0, .string ⟨#[]⟩, .slice (some ⟨w0.heap.size + 1, 0, none⟩) 2 2] 42 (0, 0))
section
variable {w0 w w' : World}
theorem Wk.below (h : Wk w0 w) (hb : Below w.heap.size w w') : Wk w0 w' :=
  have hs := h.size
  ⟨h.bel.trans (hb.mono (by omega)), Nat.le_trans h.size hb.size, (hb.block _ (by omega)).trans h.h1, (hb.block _ (by omega)).trans h.h2, (hb.block _ (by omega)).trans h.h3⟩
theorem ats_nil (T : Nat → Prop) (w : World) : AtsIn T w none 0 [] := ⟨rfl, fun q x h => by simp at h⟩
theorem Wk.node (h : Wk w0 w) : NodeV (Old w) w none 0 0 (some ⟨w0.heap.size + 1, 0, none⟩) 2 2 rN := by
  have hs := h.size
  have c1 := fun i => cell_of_row w w0.heap.size i _ _ _ h.h1
  have c2 := fun i => cell_of_row w (w0.heap.size + 1) i _ _ _ h.h2
  have hX : NodeV (Old w) w none 0 0 none 0 0 xN := NFacts.node ⟨by decide, by decide, by decide, ats_nil _ _, Nat.le_refl _, Nat.zero_le _, fun _ => rfl, rfl, Nat.le_refl _, Nat.zero_le _, fun _ => rfl, by simp [xN, Nd.kids, RowAt]⟩
  have hB : NodeV (Old w) w none 0 0 none 0 0 bN := NFacts.node ⟨by decide, by decide, by decide, ats_nil _ _, Nat.le_refl _, Nat.zero_le _, fun _ => rfl, rfl, Nat.le_refl _, Nat.zero_le _, fun _ => rfl, by simp [bN, Nd.kids, RowAt]⟩
  have hA : NodeV (Old w) w none 0 0 (some ⟨w0.heap.size, 0, none⟩) 1 1 aN := NFacts.node ⟨by decide, by decide, by decide, ats_nil _ _, Nat.le_refl _, Nat.zero_le _, fun _ => rfl, rfl, Nat.le_refl _, by decide, (fun h => by cases h), by
    show RowAt (Old w) w (some ⟨w0.heap.size, 0, none⟩) 0 [xN]
    simp only [RowAt, and_true]
    refine ⟨⟨w0.heap.size, 0, none⟩, none, 0, 0, none, 0, 0, rfl, (by show w0.heap.size < _; omega), ?_, hX⟩
    rw [add_zero_off]
    exact ⟨c1 0, c1 1, c1 2, c1 3, c1 4, c1 5⟩⟩
  refine NFacts.node ⟨by decide, by decide, by decide, ats_nil _ _, Nat.le_refl _, Nat.zero_le _, fun _ => rfl, rfl, Nat.le_refl _, by decide, (fun h => by cases h), ?_⟩
  show RowAt (Old w) w (some ⟨w0.heap.size + 1, 0, none⟩) 0 [aN, bN]
  simp only [RowAt, and_true]
  refine ⟨⟨⟨w0.heap.size + 1, 0, none⟩, none, 0, 0, (some ⟨w0.heap.size, 0, none⟩), 1, 1, rfl, (by show w0.heap.size + 1 < _; omega), ?_, hA⟩, ⟨w0.heap.size + 1, 0, none⟩, none, 0, 0, none, 0, 0, rfl, (by show w0.heap.size + 1 < _; omega), ?_, hB⟩
  · rw [add_zero_off]
    exact ⟨c2 0, c2 1, c2 2, c2 3, c2 4, c2 5⟩
  · rw [add_zero_off]
    exact ⟨c2 6, c2 7, c2 8, c2 9, c2 10, c2 11⟩
theorem Wk.alloc (h : Wk w0 w) (o : Obj) : Wk w0 (w.alloc o) := h.below ((Below.refl _ _).alloc (Nat.le_refl _) _)
theorem Wk.right (h : Wk w0 w) : Calls Try.prog 107 #[.agg #[.int .u64 0, .bool false, .string ⟨#[114]⟩, .slice none 0 0, .string ⟨#[]⟩, .slice (some ⟨w0.heap.size + 1, 0, none⟩) 2 2]] w fun e w' => e = .returned (.bool true) ∧ Below w.heap.size w w' :=
  (right_any w rN none _ 0 0 2 2 h.node (by decide)).mono (by rintro e w' ⟨rfl, hb⟩; exact ⟨rfl, hb⟩)
theorem OwnId.len {base : Nat} {v : Value} {is : List Nat} (h : OwnId base w v is) : ∃ A c, v = .slice A is.length c ∧ is.length ≤ c := by
  obtain ⟨A, c, rfl, h1, -⟩ := own_form h
  exact ⟨A, c, rfl, h1⟩
theorem its_lit {g : Nat} {xs : List Int} {t : TypeId} (h : w.heap[g]? = some (.cells (xs.map fun x => Value.int .i64 x).toArray t (0, 0))) : Its w (some ⟨g, 0, none⟩) xs.length xs := Its.of_block h rfl rfl
theorem Wk.at_ (h : Wk w0 w) (p : List Int) (hp : p.length ≤ maxLen) {t : TypeId} {c : Nat} :
    Calls Try.prog 35 #[.agg #[.int .u64 0, .bool false, .string ⟨#[114]⟩, .slice none 0 0, .string ⟨#[]⟩, .slice (some ⟨w0.heap.size + 1, 0, none⟩) 2 2], .slice (some ⟨w.heap.size, 0, none⟩) p.length c] (w.alloc (.cells (p.map fun x => Value.int .i64 x).toArray t)) fun e w' =>
      (∃ aA an ac kA kn kc, e = .returned (.tuple #[.agg (val6 ((atV rN p).getD Nd.zero) aA an ac kA kn kc), .bool (atV rN p).isSome])) ∧ Below w.heap.size w w' :=
  (at_any _ rN none _ 0 0 2 2 (h.alloc _).node (some ⟨w.heap.size, 0, none⟩) p.length c p (its_lit (heap_alloc_new w _)) hp (by decide)).mono (by
    rintro e w' ⟨aA, an, ac, kA, kn, kc, rfl, -, hb⟩
    exact ⟨⟨aA, an, ac, kA, kn, kc, rfl⟩, (((Below.refl _ _).alloc (Nat.le_refl _) _).trans (hb.mono (by simp)))⟩)
theorem Wk.key (h : Wk w0 w) : Calls Try.prog 136 #[.string ⟨#[107]⟩] w fun e w' => e = .returned (.bool true) ∧ Below w.heap.size w w' :=
  (key_any [107] w (by decide)).mono (by rintro e w' ⟨rfl, rfl⟩; exact ⟨rfl, Below.refl _ _⟩)
/-- the label of x, in later worlds -/
structure Lab (bx : Nat) (w : World) : Prop where
  lt : bx < w.heap.size
  cell : w.cell? ⟨bx, 2, none⟩ = some (.string ⟨#[120]⟩)
theorem Lab.below {bx : Nat} (h : Lab bx w) (hb : Below w.heap.size w w') : Lab bx w' := ⟨Nat.lt_of_lt_of_le h.lt hb.size, (hb.cell (p := ⟨bx, 2, none⟩) h.lt).trans h.cell⟩
structure Wx (w0 : World) (bx : Nat) (w : World) : Prop where
  wk : Wk w0 w
  lab : Lab bx w
theorem Wx.alloc {bx : Nat} (h : Wx w0 bx w) (o : Obj) : Wx w0 bx (w.alloc o) := ⟨h.wk.alloc o, h.lab.below ((Below.refl _ _).alloc (Nat.le_refl _) _)⟩
end
end Go.Proofs.Ytpoenlhikanooaa
/- The law of right trees. -/
namespace Go.Proofs.Ytpoenlhikanooaa
set_option linter.unusedVariables false
open Go.RowKit
set_option maxRecDepth 20000

end Go.Proofs.Ytpoenlhikanooaa
/- A region that only reads, in a round of a range over a function: one walk serves every order. -/
namespace Go.Proofs.Ytpoenlhikanooaa
set_option linter.unusedVariables false
open Go.RowKit
set_option maxRecDepth 20000

section
variable {F : Fence} {l : Nat} {n : Nat} {P : Program} {md : Region.Mode} {ops : Array Oper} {Q : Exit → Act → World → Prop}
theorem opIn_round {o : Oper} {a : Act} {w : World} {K : Act → World → Prop} (hd : ∀ c, o.op ≠ .defer c) (h : o.wpIn F n P a w K Q) : o.wpIn (F.inRound l) n P a w K Q := by
  unfold Oper.wpIn at h ⊢
  refine ⟨h.1, ?_⟩
  have h2 := h.2
  rw [Oper.semAt_eq _ _ _ hd] at h2 ⊢
  exact h2
theorem opAtIn_round {i : Nat} {a : Act} {w : World} {K : Act → World → Prop} (hd : ∀ o ∈ ops.toList, ∀ c, o.op ≠ .defer c) (h : wpOpIn F n P ops Q i K a w) : wpOpIn (F.inRound l) n P ops Q i K a w := by
  unfold wpOpIn at h ⊢
  split
  · rename_i ho
    simp only [ho] at h
    exact h
  · rename_i o ho
    simp only [ho] at h
    split
    · rename_i hw
      simp only [hw, if_true] at h
      exact opIn_round (hd o (Array.mem_toList_iff.2 (Array.mem_of_getElem? ho))) h
    · rename_i hw
      simp only [hw] at h
      exact h
theorem anyIn_round (hd : ∀ o ∈ ops.toList, ∀ c, o.op ≠ .defer c) : ∀ (fuel : Nat) (listed : Array Bool) (a : Act) (w : World), wpAnyIn F n P md ops Q fuel listed a w → wpAnyIn (F.inRound l) n P md ops Q fuel listed a w
  | 0, _, _, _, h => h
  | fuel + 1, _, _, _, h => ⟨h.1, fun i hi => opAtIn_round hd (wpOpIn_mono (fun a w h => anyIn_round hd fuel _ a w h) (h.2 i hi))⟩
def noDefer (l : List Oper) : Bool := l.all fun o => match o.op with
  | .defer _ => false
  | _ => true
theorem noDefer_spec {l : List Oper} (h : noDefer l = true) : ∀ o ∈ l, ∀ c, o.op ≠ .defer c := by
  intro o ho c e
  have := List.all_eq_true.1 h o ho
  rw [e] at this
  cases this
theorem wpIn_region_quiet_round {id l0 : Nat} {a : Act} {w : World} {l : List Oper} (hm : P.follows .mixedOrders = true) (hB : Region.lexB .any l.toArray = true) (hd : noDefer l = true)
    (h : wpQuietIn Fence.wide n P l.toArray (fun w' => ∃ n, w' = w.drewN n) (fun a' => ∀ w', (∃ n, w' = w.drewN n) → Q .normal a' w') l a) : (Code.region id l.toArray true).wpIn (Fence.wide.inRound l0) n P Q a w := by
  simp only [Region.lexB, Bool.and_eq_true] at hB
  refine wpIn_region_any hm (anyIn_round (by simpa using noDefer_spec hd) _ _ _ _ (wpAnyIn_of_quiet (C := fun w' => ∃ n, w' = w.drewN n) (Q := fun a' => ∀ w', (∃ n, w' = w.drewN n) → Q .normal a' w') rfl (fun _ w' hw' h => h w' hw') _ _ _ _ ⟨1, rfl⟩ ?_))
  have := wpAnyQIn_lex (F := Fence.wide) (n := n) (C := fun w' => ∃ n, w' = w.drewN n) (md := .any) hB.1 l 0 (Array.replicate l.toArray.size false) a (by simp) (by simpa using hB.2) h
  simpa using this
end
end Go.Proofs.Ytpoenlhikanooaa
/- Have two trees one shape, and match any two nodes: the program's. -/
namespace Go.Proofs.Ytpoenlhikanooaa
set_option linter.unusedVariables false
open Go.RowKit Go.Shelf
set_option maxRecDepth 20000
attribute [local go_sem] Oper.semAt_some

theorem seven_new (w : World) (o0 o1 o2 o3 o4 o5 o6 : Obj) : (((((((w.alloc o0).alloc o1).alloc o2).alloc o3).alloc o4).alloc o5).alloc o6).heap[w.heap.size]? = some o0 ∧ (((((((w.alloc o0).alloc o1).alloc o2).alloc o3).alloc o4).alloc o5).alloc o6).heap[w.heap.size + 1]? = some o1 ∧ (((((((w.alloc o0).alloc o1).alloc o2).alloc o3).alloc o4).alloc o5).alloc o6).heap[w.heap.size + 1 + 1]? = some o2 ∧ (((((((w.alloc o0).alloc o1).alloc o2).alloc o3).alloc o4).alloc o5).alloc o6).heap[w.heap.size + 1 + 1 + 1]? = some o3 ∧ (((((((w.alloc o0).alloc o1).alloc o2).alloc o3).alloc o4).alloc o5).alloc o6).heap[w.heap.size + 1 + 1 + 1 + 1]? = some o4 ∧ (((((((w.alloc o0).alloc o1).alloc o2).alloc o3).alloc o4).alloc o5).alloc o6).heap[w.heap.size + 1 + 1 + 1 + 1 + 1]? = some o5 ∧ (((((((w.alloc o0).alloc o1).alloc o2).alloc o3).alloc o4).alloc o5).alloc o6).heap[w.heap.size + 1 + 1 + 1 + 1 + 1 + 1]? = some o6 ∧ (((((((w.alloc o0).alloc o1).alloc o2).alloc o3).alloc o4).alloc o5).alloc o6).heap.size = w.heap.size + 1 + 1 + 1 + 1 + 1 + 1 + 1 := by
  refine ⟨?_, ?_, ?_, ?_, ?_, ?_, ?_, by simp⟩
  · have h := heap_alloc_new w o0
    exact ((heap_alloc_old _ _ _ (by simp <;> omega)).trans (((heap_alloc_old _ _ _ (by simp <;> omega)).trans (((heap_alloc_old _ _ _ (by simp <;> omega)).trans (((heap_alloc_old _ _ _ (by simp <;> omega)).trans (((heap_alloc_old _ _ _ (by simp <;> omega)).trans (((heap_alloc_old _ _ _ (by simp <;> omega)).trans (h))))))))))))
  · have e : (w.alloc o0).heap.size = w.heap.size + 1 := by simp
    have h := heap_alloc_new (w.alloc o0) o1
    rw [e] at h
    exact ((heap_alloc_old _ _ _ (by simp <;> omega)).trans (((heap_alloc_old _ _ _ (by simp <;> omega)).trans (((heap_alloc_old _ _ _ (by simp <;> omega)).trans (((heap_alloc_old _ _ _ (by simp <;> omega)).trans (((heap_alloc_old _ _ _ (by simp <;> omega)).trans (h))))))))))
  · have e : ((w.alloc o0).alloc o1).heap.size = w.heap.size + 1 + 1 := by simp
    have h := heap_alloc_new ((w.alloc o0).alloc o1) o2
    rw [e] at h
    exact ((heap_alloc_old _ _ _ (by simp <;> omega)).trans (((heap_alloc_old _ _ _ (by simp <;> omega)).trans (((heap_alloc_old _ _ _ (by simp <;> omega)).trans (((heap_alloc_old _ _ _ (by simp <;> omega)).trans (h))))))))
  · have e : (((w.alloc o0).alloc o1).alloc o2).heap.size = w.heap.size + 1 + 1 + 1 := by simp
    have h := heap_alloc_new (((w.alloc o0).alloc o1).alloc o2) o3
    rw [e] at h
    exact ((heap_alloc_old _ _ _ (by simp <;> omega)).trans (((heap_alloc_old _ _ _ (by simp <;> omega)).trans (((heap_alloc_old _ _ _ (by simp <;> omega)).trans (h))))))
  · have e : ((((w.alloc o0).alloc o1).alloc o2).alloc o3).heap.size = w.heap.size + 1 + 1 + 1 + 1 := by simp
    have h := heap_alloc_new ((((w.alloc o0).alloc o1).alloc o2).alloc o3) o4
    rw [e] at h
    exact ((heap_alloc_old _ _ _ (by simp <;> omega)).trans (((heap_alloc_old _ _ _ (by simp <;> omega)).trans (h))))
  · have e : (((((w.alloc o0).alloc o1).alloc o2).alloc o3).alloc o4).heap.size = w.heap.size + 1 + 1 + 1 + 1 + 1 := by simp
    have h := heap_alloc_new (((((w.alloc o0).alloc o1).alloc o2).alloc o3).alloc o4) o5
    rw [e] at h
    exact ((heap_alloc_old _ _ _ (by simp <;> omega)).trans (h))
  · have e : ((((((w.alloc o0).alloc o1).alloc o2).alloc o3).alloc o4).alloc o5).heap.size = w.heap.size + 1 + 1 + 1 + 1 + 1 + 1 := by simp
    have h := heap_alloc_new ((((((w.alloc o0).alloc o1).alloc o2).alloc o3).alloc o4).alloc o5) o6
    rw [e] at h
    exact h
theorem minds_holds2 {w W0 : World} (hw : w.heap.size ≤ W0.heap.size) {F : Blks → Way → World → Prop} (hF : ∀ G pre W1 W2, F G pre W1 → W1.heap.size ≤ W2.heap.size → (∀ k, G k ∨ Old w k → W2.heap[k]? = W1.heap[k]?) → F G pre W2) : Minds (Holds w W0 F) := by
  rintro S S' pre W1 W2 ⟨G, hm, hf⟩ hX - hn
  obtain ⟨q1, q2⟩ := hm.walked hw hX hn
  refine ⟨G, q1, hF G pre W1 W2 hf hX.size fun k hk => ?_⟩
  rcases hk with hk | hk
  · exact q2 k hk
  · exact (q1.bel.block k hk).trans (hm.bel.block k hk).symm
def MF_same (w : World) (b2 : Nat) (t u : Nd) : Blks → Way → World → Prop := fun G pre W => G b2 ∧ G (b2 + 1) ∧ Var b2 (.func (.func 78) #[] #[]) 102 W ∧ Var (b2 + 1) (.bool false) 4 W ∧
  ∃ (S2 : Blks) (s sa : Stk), (∀ k, S2 k → G k) ∧ ¬ S2 b2 ∧ ¬ S2 (b2 + 1) ∧ G (b2 + 2) ∧ WalkAt (fun k => Old w k ∨ k = b2 + 2) S2 (b2 + 2) W (b2 + 4) s ∧ preV 0 t = pre ++ todo sa ∧ shape sa = shape s ∧ eqV sameA t u = lock sameA sa s ∧ sa.length + (todo sa).length ≤ 200000
theorem mF_same_stays (w : World) (b2 : Nat) (t u : Nd) : ∀ G pre W1 W2, MF_same w b2 t u G pre W1 → W1.heap.size ≤ W2.heap.size → (∀ k, G k ∨ Old w k → W2.heap[k]? = W1.heap[k]?) → MF_same w b2 t u G pre W2 := by
  rintro G pre W1 W2 ⟨h1, h2, h3, h4, S2, s, sa, g1, g2, g3, g4, hw, g5⟩ hz hk
  refine ⟨h1, h2, (hk _ (.inl h1)).trans h3, (hk _ (.inl h2)).trans h4, S2, s, sa, g1, g2, g3, g4, WalkAt.kept hw hz (fun k hk' => hk k ?_), g5⟩
  rcases hk' with (hk' | rfl) | hk'
  · exact .inr hk'
  · exact .inl g4
  · exact .inl (g1 k hk')
set_option maxHeartbeats 8000000 in
theorem match_same (w : World) (t u : Nd) (aA kA aA2 kA2 : Option Addr) (an ac kn kc an2 ac2 kn2 kc2 : Nat) (h : NodeV (Old w) w aA an ac kA kn kc t) (h2 : NodeV (Old w) w aA2 an2 ac2 kA2 kn2 kc2 u) (hc : countV t ≤ 100000) :
    Calls Try.prog 77 #[.agg #[.int .u64 (t.id : Int), .bool t.leaf, .string ⟨t.label.toArray⟩, .slice aA an ac, .string ⟨t.text.toArray⟩, .slice kA kn kc], .agg #[.int .u64 (u.id : Int), .bool u.leaf, .string ⟨u.label.toArray⟩, .slice aA2 an2 ac2, .string ⟨u.text.toArray⟩, .slice kA2 kn2 kc2], .func (.func 78) #[] #[]] w fun e w' => e = .returned (.bool (eqV sameA t u)) ∧ Below w.heap.size w w' := by
  have h' := Lib.hid h
  have h2' := Lib.hid h2
  clear h h2
  refine (callsIn_wide (n := 2)).1 ?_
  refine callsIn_of_wp_marks Try.func77 rfl trivial ?_ rfl
  simp only [Try.ntmps77, List.size_toArray, List.length_cons, List.length_nil, Nat.reduceAdd, Nat.reduceSub, Array.replicate_succ, Array.replicate_zero, List.push_toArray, List.append_toArray, List.nil_append, List.cons_append]
  gi_wp2
  obtain ⟨W7, hW7⟩ : ∃ W7, W7 = (((((((w.alloc (.cells #[.int .u64 (t.id : Int), .bool t.leaf, .string ⟨t.label.toArray⟩, .slice aA an ac, .string ⟨t.text.toArray⟩, .slice kA kn kc] 42)).alloc (.cells #[.int .u64 (u.id : Int), .bool u.leaf, .string ⟨u.label.toArray⟩, .slice aA2 an2 ac2, .string ⟨u.text.toArray⟩, .slice kA2 kn2 kc2] 42)).alloc (.cells #[.func (.func 78) #[] #[]] 102)).alloc (.cells #[.bool false] 4)).alloc (.cells #[.int .u64 (u.id : Int), .bool u.leaf, .string ⟨u.label.toArray⟩, .slice aA2 an2 ac2, .string ⟨u.text.toArray⟩, .slice kA2 kn2 kc2] 42)).alloc (.cells #[.slice (some ⟨w.heap.size + 1 + 1 + 1 + 1, 0, none⟩) 1 1] 40)).alloc (.cells #[.slice (some ⟨w.heap.size + 1 + 1 + 1 + 1 + 1, 0, none⟩) 1 1] 128)) := ⟨_, rfl⟩
  obtain ⟨-, -, m2, m3, m4, m5, m6, hz7⟩ := seven_new w (.cells #[.int .u64 (t.id : Int), .bool t.leaf, .string ⟨t.label.toArray⟩, .slice aA an ac, .string ⟨t.text.toArray⟩, .slice kA kn kc] 42) (.cells #[.int .u64 (u.id : Int), .bool u.leaf, .string ⟨u.label.toArray⟩, .slice aA2 an2 ac2, .string ⟨u.text.toArray⟩, .slice kA2 kn2 kc2] 42) (.cells #[.func (.func 78) #[] #[]] 102) (.cells #[.bool false] 4) (.cells #[.int .u64 (u.id : Int), .bool u.leaf, .string ⟨u.label.toArray⟩, .slice aA2 an2 ac2, .string ⟨u.text.toArray⟩, .slice kA2 kn2 kc2] 42) (.cells #[.slice (some ⟨w.heap.size + 1 + 1 + 1 + 1, 0, none⟩) 1 1] 40) (.cells #[.slice (some ⟨w.heap.size + 1 + 1 + 1 + 1 + 1, 0, none⟩) 1 1] 128)
  have hb7 : Below w.heap.size w W7 := by rw [hW7]; exact (((((((Below.refl w.heap.size w).alloc (Nat.le_refl _) _).alloc (by simp) _).alloc (by simp <;> omega) _).alloc (by simp <;> omega) _).alloc (by simp <;> omega) _).alloc (by simp <;> omega) _).alloc (by simp <;> omega) _
  rw [← hW7] at m2 m3 m4 m5 m6 hz7
  rw [← hW7]
  clear hW7
  obtain ⟨b2, hb2⟩ : ∃ b2, b2 = w.heap.size + 1 + 1 := ⟨_, rfl⟩
  rw [← hb2] at m2 m3 m4 m5 m6 hz7 ⊢
  refine ⟨trivial, (callsIn_wide.2 (nodes_any _ _ _ _ _ _ _ _ _ _ _)).mono ?_⟩
  rintro e W1 ⟨rfl, rfl⟩
  have hb2' := Lib.hid hb2
  have hz7' := Lib.hid hz7
  clear hb2 hz7
  gi_wp2
  have hb2 := hb2'.out
  have hz7 := hz7'.out
  obtain ⟨W0, hW0⟩ : ∃ W0, W0 = W7.alloc (.cells #[.int .u64 (t.id : Int), .bool t.leaf, .string ⟨t.label.toArray⟩, .slice aA an ac, .string ⟨t.text.toArray⟩, .slice kA kn kc] 42) := ⟨_, rfl⟩
  have n7 : W0.heap[W7.heap.size]? = some (.cells #[.int .u64 (t.id : Int), .bool t.leaf, .string ⟨t.label.toArray⟩, .slice aA an ac, .string ⟨t.text.toArray⟩, .slice kA kn kc] 42) := by rw [hW0]; exact heap_alloc_new _ _
  have hz0 : W0.heap.size = W7.heap.size + 1 := by rw [hW0]; simp
  have ho0 : ∀ k, k < W7.heap.size → W0.heap[k]? = W7.heap[k]? := fun k hk => by rw [hW0]; exact heap_alloc_old _ _ _ hk
  have hb0 : Below w.heap.size w W0 := by rw [hW0]; exact hb7.alloc (by omega) _
  rw [← hW0]
  clear hW0
  have hw0 : w.heap.size ≤ W0.heap.size := by omega
  have k2 := (ho0 b2 (by omega)).trans m2
  have k3 := (ho0 (b2 + 1) (by omega)).trans m3
  have k4 := (ho0 (b2 + 1 + 1) (by omega)).trans m4
  have k5 := (ho0 (b2 + 1 + 1 + 1) (by omega)).trans m5
  have k6 := (ho0 (b2 + 1 + 1 + 1 + 1) (by omega)).trans m6
  clear m2 m3 m4 m5 m6
  have hgo := goes_nodes W0 (Old w) W7.heap.size t aA kA an ac kn kc n7 (h'.out.kept (fun _ h => h) (fun k hk => hb0.block k hk)) (fun k hk => Nat.lt_of_lt_of_le hk hw0) hc
  have hz0' := Lib.hid hz0
  have hstart : MF_same w b2 t u (fun k => b2 ≤ k ∧ k < W7.heap.size) [] W0 := by
    refine ⟨⟨Nat.le_refl _, by omega⟩, ⟨by omega, by omega⟩, k2, k3, fun k => k = b2 + 3 ∨ k = b2 + 4, [[u]], [[t]], fun k hk => by omega, by omega, by omega, ⟨by omega, by omega⟩, ?_, by rw [todo_root]; rfl, rfl, by simp [lock, eqsV], by rw [todo_root, pre_len]; simp only [List.length_cons, List.length_nil]; omega⟩
    refine ⟨fun k hk => by omega, fun k hk hs => ?_, fun k hk => ?_, .inr rfl, b2 + 3, 1, 1, [.slice (some ⟨b2 + 2, 0, none⟩) 1 1], k6, rfl, ⟨rfl, .inr ⟨b2 + 3, 1, _, rfl, by omega, k5, Nat.le_refl _, by unfold maxLen; omega, rfl, rfl⟩⟩, .inl rfl, ?_⟩
    · rcases hk with hk | hk
      · have : k < w.heap.size := hk
        omega
      · omega
    · rcases hk with hk | hk
      · have : k < w.heap.size := hk
        omega
      · omega
    · intro d row hd
      match d, hd with
      | 0, hd =>
        injection hd with hd
        subst hd
        refine ⟨some ⟨b2 + 2, 0, none⟩, 1, 1, rfl, rfl, Nat.le_refl _, by unfold maxLen; omega, (fun h => by cases h), ?_⟩
        simp only [RowAt, and_true]
        obtain ⟨d0, d1, d2, d3, d4, d5, -⟩ := six_cells k4
        exact ⟨⟨b2 + 2, 0, none⟩, aA2, an2, ac2, kA2, kn2, kc2, rfl, .inr rfl, ⟨d0, d1, d2, d3, d4, d5⟩, h2'.out.kept (fun k hk => .inl hk) (fun k hk => hb0.block k hk)⟩
  clear k2 k3 k4 k5 k6 hb2 hz7
  refine range_walk (n := 0) (gf := 117) (lb := #[.pointer (some ⟨W7.heap.size, 0, none⟩)]) (T0 := Old w) (td := preV 0 t) rfl (enters_of Try.func117 (by kernel_rfl) rfl) (fun k hk => Nat.lt_of_lt_of_le hk hw0) hgo rfl
    (Holds w W0 (MF_same w b2 t u)) (Stopped w W0 (LeftF (b2 + 1) (.bool false) 4 (eqV sameA t u = false))) (minds_holds2 hw0 (mF_same_stays w b2 t u)) (stopped_kept hw0 (leftF_stays _ _ _ _))
    ⟨fun k => b2 ≤ k ∧ k < W7.heap.size, ⟨hb0, Nat.le_refl _, fun k hk => hk.elim, fun k hk => ⟨fun h => h, by omega, by have := hb2'.out; omega⟩⟩, hstart⟩ ?a1 ?assign ?body ?done ?stop
  case assign =>
    intro l d E W K hK
    unfold two
    gi_wp2
    exact hK
  case body =>
    rintro l S pre d E x W ⟨G, hm, hG2, hG3, hV2, hV3, S2, s, sa, hSG, hn2, hn3, hG4, hwk, htd, hsh, hlk, hlen⟩ hpre hN hS
    obtain ⟨c2, -⟩ := hV2.facts
    obtain ⟨c3, f3⟩ := hV3.facts
    have hGb3 : b2 + 1 < W.heap.size := (hm.own _ hG3).2.1
    have hGb2 : b2 < W.heap.size := (hm.own _ hG2).2.1
    have hnx : ∃ sa', nextV sa = some (d, x, sa') := by
      have hn := todo_next sa
      obtain ⟨r, hr⟩ := hpre
      rw [htd, List.append_assoc] at hr
      have hr2 := List.append_cancel_left hr
      cases hq : nextV sa with
      | none =>
        rw [hq] at hn
        dsimp only at hn
        rw [hn] at hr2
        cases hr2
      | some y =>
        obtain ⟨d', x', sa'⟩ := y
        rw [hq] at hn
        dsimp only at hn
        rw [hn] at hr2
        injection hr2 with e1 e2
        injection e1 with e3 e4
        subst e3 e4
        exact ⟨sa', rfl⟩
    obtain ⟨sa', hna⟩ := hnx
    have hns : ∃ d2 y s', nextV s = some (d2, y, s') := by
      have := nextV_shape sa s hsh
      rw [hna] at this
      cases hq : nextV s with
      | none => rw [hq] at this; cases this
      | some z => exact ⟨_, _, _, rfl⟩
    obtain ⟨d2, y, s', hnb⟩ := hns
    have hL := lock_next sameA sa s hsh
    rw [hna, hnb] at hL
    dsimp only at hL
    obtain ⟨hL1, hL2, hL3⟩ := hL
    have htn := todo_next sa
    rw [hna] at htn
    dsimp only at htn
    have hsl : s.length ≤ 1000000 := by
      have := congrArg List.length hsh
      simp only [shape, List.length_map] at this
      omega
    have hnl := nextV_len sa d x sa' hna
    have hcall := Lib.hid (next_any W (fun k => Old w k ∨ k = b2 + 2) S2 (b2 + 2) (b2 + 4) s hwk hsl (by omega))
    unfold NextPost at hcall
    rw [hnb] at hcall
    dsimp only at hcall
    have hT : ∀ k, Old w k ∨ S k → k < W.heap.size ∧ ¬ S2 k := fun k hk => by
      rcases hk with hk | hk
      · have h1 : k < w.heap.size := hk
        exact ⟨by have := hm.size; omega, fun h => by have := (hm.own k (hSG k h)).2.2; omega⟩
      · exact ⟨hS k hk, fun h => (hm.own k (hSG k h)).1 hk⟩
    have hm' := Lib.hid hm
    have hN' := Lib.hid hN
    have hV2' := Lib.hid hV2
    have hV3' := Lib.hid hV3
    have hT' := Lib.hid hT
    have hSG' := Lib.hid hSG
    have hL1' := Lib.hid hL1
    have hL2' := Lib.hid hL2
    have hL3' := Lib.hid hL3
    have hlk' := Lib.hid hlk
    have htd' := Lib.hid htd
    have htn' := Lib.hid htn
    clear hm hN hV2 hV3 hT hSG hL1 hL2 hL3 hlk htd htn hpre hwk hna hnb hsh
    gi_wp2
    refine ⟨trivial, rfl, (CallsIn.inRound l (callsIn_wide.2 hcall.out)).mono ?_⟩
    rintro e W1 ⟨F, rfl, hNy, hW', hFX⟩
    have hxN : NodeAt (fun k => Old w k ∨ S k) W1 E x := hN'.out.kept (fun _ h => h) (fun k hk => hFX.block k (hT'.out k hk).1 (hT'.out k hk).2)
    have c2' : W1.cell? ⟨b2, 0, none⟩ = some (.func (.func 78) #[] #[]) := (World.cell?_of_block (a := ⟨b2, 0, none⟩) (hFX.block b2 hGb2 hn2)).trans c2
    have v3 : Var (b2 + 1) (.bool false) 4 W1 := (hFX.block _ hGb3 hn3).trans hV3'.out
    obtain ⟨c3', f3'⟩ := v3.facts
    have hz1 := hFX.size
    have hal := Lib.hid (fun j => sameAlone_any (W1.drewN j) (fun k => Old w k ∨ S k) (fun k => Old w k ∨ k = b2 + 2) E F x y (hxN.drewN j) (hNy.drewN j) (fun k hk => Nat.lt_of_lt_of_le (hT'.out k hk).1 hz1) (fun k hk => hW'.told k hk))
    obtain ⟨-, xA, xn, xc, xk, xkn, xkc, ⟨-, -, -, -, -, x5⟩, hxv⟩ := hxN
    obtain ⟨-, yA, yn, yc, yk, ykn, ykc, ⟨-, -, -, -, -, y5⟩, hyv⟩ := hNy
    have hxl := hxv.facts.kl
    have hyl := hyv.facts.kl
    have hv3' := Lib.hid v3
    have hFX' := Lib.hid hFX
    have hW'' := Lib.hid hW'
    have hstep := Lib.hid (show ∀ (nq : Nat), Mine w W0 (fun k => G k ∨ (W.heap.size ≤ k ∧ k < W1.heap.size)) S (W1.drewN nq) ∧ Keeps (Old w) S W (W1.drewN nq) from fun nq => hm'.out.step hS ((hFX'.out.mono fun k _ h => hSG'.out k h).drewN nq) (fun k hk => hk) hw0)
    clear hxv hyv v3 hFX hW' hcall c2 c3 f3
    have gkD : ∀ b : Bool, (xkn = ykn ↔ b = true) → decide (xkn = ykn) = b := fun b hb => by cases b <;> simp_all
    cases hr : sameA x y with
    | false =>
      have hans := Lib.hid (show eqV sameA t u = false by rw [hlk'.out, hL1'.out, hr]; rfl)
      rw [hr] at hal
      clear hr hxl hyl gkD
      gi_wp2
      refine wpIn_region_quiet_round (by kernel_rfl) (by kernel_rfl) (by kernel_rfl) ?_
      repeat (refine wpQuietIn_step (fun _ _ _ _ => trivial) (fun K hK => ?_); go_simp; first | (refine hK _ ?_; clear hK K) | (apply Exists.intro; refine ⟨fun _ => ?_, hK _ ?_⟩; (exact ⟨rfl, callsIn_wide.2 (Calls.quiet_of (hal.out _))⟩); clear hK K))
      refine wpQuietIn_nil ?_
      intro _ hw'
      obtain ⟨nq, hw''⟩ := hw'
      subst hw''
      gi_wp2
      obtain ⟨q1, q2⟩ := hm'.out.step (G' := fun k => G k ∨ (W.heap.size ≤ k ∧ k < W1.heap.size)) (W' := (W1.drewN nq).setCell ⟨b2 + 1, 0, none⟩ (.bool false)) hS (((hFX'.out.mono fun k _ h => hSG'.out k h).drewN nq).setCell hG3) (fun k hk => by simpa using hk) hw0
      exact ⟨⟨rfl, _, q1, .inl hG3, Var.set hv3'.out, hans.out⟩, q2⟩
    | true =>
      by_cases gk : xkn = ykn
      · have hkk : x.kids.length = y.kids.length := by rw [hxl, hyl, gk]
        have hcont := Lib.hid (show MF_same w b2 t u (fun k => G k ∨ (W.heap.size ≤ k ∧ k < W1.heap.size)) (pre ++ [(d, x)]) W1 by
          refine ⟨.inl hG2, .inl hG3, (hFX'.out.block _ hGb2 hn2).trans hV2'.out, hv3'.out, Also S2 W W1, s', sa', fun k hk => ?_, fun h => ?_, fun h => ?_, .inl hG4, hW''.out, by rw [htd'.out, htn'.out]; simp, hL2'.out hkk, by rw [hlk'.out, hL1'.out, hr]; simp, by rw [htn'.out] at hlen; simp only [List.length_cons] at hlen; omega⟩
          · rcases hk with hk | hk
            · exact .inl (hSG'.out k hk)
            · exact .inr hk
          · rcases h with h | h
            · exact hn2 h
            · omega
          · rcases h with h | h
            · exact hn3 h
            · omega)
        rw [hr] at hal
        clear hr hxl hyl hkk gkD
        subst gk
        gi_wp2
        refine wpIn_region_quiet_round (by kernel_rfl) (by kernel_rfl) (by kernel_rfl) ?_
        repeat (refine wpQuietIn_step (fun _ _ _ _ => trivial) (fun K hK => ?_); go_simp; first | (refine hK _ ?_; clear hK K) | (apply Exists.intro; refine ⟨fun _ => ?_, hK _ ?_⟩; (exact ⟨rfl, callsIn_wide.2 (Calls.quiet_of (hal.out _))⟩); clear hK K))
        refine wpQuietIn_nil ?_
        intro _ hw'
        obtain ⟨nq, hw''⟩ := hw'
        subst hw''
        gi_wp2
        exact ⟨⟨_, (hstep.out nq).1, mF_same_stays w b2 t u _ _ W1 _ hcont.out (Nat.le_refl _) (fun _ _ => rfl)⟩, (hstep.out nq).2⟩
      · have hans := Lib.hid (show eqV sameA t u = false by rw [hlk'.out]; exact hL3'.out (by rw [hxl, hyl]; exact gk))
        have gkI : ((xkn : Int) == (ykn : Int)) = false := by simp; omega
        have gkd := gkD false (by simp [gk])
        rw [hr] at hal
        clear hr hxl hyl gkD
        gi_wp2
        refine wpIn_region_quiet_round (by kernel_rfl) (by kernel_rfl) (by kernel_rfl) ?_
        repeat (refine wpQuietIn_step (fun _ _ _ _ => trivial) (fun K hK => ?_); go_simp; first | (refine hK _ ?_; clear hK K) | (apply Exists.intro; refine ⟨fun _ => ?_, hK _ ?_⟩; (exact ⟨rfl, callsIn_wide.2 (Calls.quiet_of (hal.out _))⟩); clear hK K))
        refine wpQuietIn_nil ?_
        intro _ hw'
        obtain ⟨nq, hw''⟩ := hw'
        subst hw''
        gi_wp2
        obtain ⟨q1, q2⟩ := hm'.out.step (G' := fun k => G k ∨ (W.heap.size ≤ k ∧ k < W1.heap.size)) (W' := (W1.drewN nq).setCell ⟨b2 + 1, 0, none⟩ (.bool false)) hS (((hFX'.out.mono fun k _ h => hSG'.out k h).drewN nq).setCell hG3) (fun k hk => by simpa using hk) hw0
        exact ⟨⟨rfl, _, q1, .inl hG3, Var.set hv3'.out, hans.out⟩, q2⟩
  case done =>
    rintro D S W hD hSD ⟨G, hm, hG2, hG3, hV2, hV3, S2, s, sa, hSG, hn2, hn3, hG4, hwk, htd, hsh, hlk, hlen⟩ hK
    have hnil : todo sa = [] := by
      have := congrArg List.length htd
      rw [List.length_append] at this
      exact List.length_eq_zero_iff.1 (by omega)
    have hans := Lib.hid (show eqV sameA t u = true by
      rw [hlk]
      have hn := todo_next sa
      have hL := lock_next sameA sa s hsh
      have hs := nextV_shape sa s hsh
      cases hq : nextV sa with
      | some y =>
        rw [hq] at hn
        dsimp only at hn
        rw [hn] at hnil
        cases hnil
      | none =>
        rw [hq] at hL hs
        cases hq2 : nextV s with
        | some y => rw [hq2] at hs; cases hs
        | none =>
          rw [hq2] at hL
          exact hL)
    obtain ⟨c3, f3⟩ := hV3.facts
    have hne : b2 + 1 ≠ D := fun e => (hm.own _ hG3).1 (e ▸ hSD)
    have hV3' := Lib.hid hV3
    have hm' := Lib.hid hm
    clear hV2 hV3 hm hwk htd hsh hlk hlen hnil hSG
    gi_wp2
    refine ⟨by simp, .inl ⟨_, _, rfl, run_takeDeferred (w := W.setCell ⟨b2 + 1, 0, none⟩ (.bool true)) ((heap_setCell_other _ _ _ _ (fun e => hne e.symm)).trans hK), ?_⟩⟩
    have hcell : ((W.setCell ⟨b2 + 1, 0, none⟩ (.bool true)).putObj D (.deferred none)).cell? ⟨b2 + 1, 0, none⟩ = some (.bool true) := cell_of_row _ _ 0 _ _ _ ((World.putObj_heap_other hne).trans hV3'.out.set)
    exact ⟨.bool true, by simp [results, Try.results77, go_sem, hcell], by rw [hans.out], end_below (hm'.out.bel.setCell (by have := hb2'.out; simp; omega) _) (by omega)⟩
  case stop =>
    rintro D c S pre W hD hSD ⟨rfl, G, hm, hG, hV, hq⟩ hK
    obtain ⟨c3, f3⟩ := hV.facts
    have hne : b2 + 1 ≠ D := fun e => (hm.own _ hG).1 (e ▸ hSD)
    have hV' := Lib.hid hV
    have hm' := Lib.hid hm
    have hans2 := Lib.hid hq
    clear hV hm hq
    gi_wp2
    refine ⟨by simp, .inl ⟨_, _, rfl, run_takeDeferred hK, ?_⟩⟩
    have hcell : (W.putObj D (.deferred none)).cell? ⟨b2 + 1, 0, none⟩ = some (.bool false) := cell_of_row _ _ 0 _ _ _ ((World.putObj_heap_other hne).trans hV'.out)
    exact ⟨.bool false, by simp [results, Try.results77, go_sem, hcell], by rw [hans2.out], end_below hm'.out.bel (by omega)⟩
end Go.Proofs.Ytpoenlhikanooaa
/- Have two trees one shape, and are any two nodes alike: the program's. -/
namespace Go.Proofs.Ytpoenlhikanooaa
set_option linter.unusedVariables false
open Go.RowKit Go.Shelf
set_option maxRecDepth 20000
attribute [local go_sem] Oper.semAt_some

end Go.Proofs.Ytpoenlhikanooaa
/- The law of trees that are the same, or alike. -/
namespace Go.Proofs.Ytpoenlhikanooaa
set_option linter.unusedVariables false
open Go.RowKit
set_option maxRecDepth 20000

mutual
theorem eqV_refl (f : Nd → Nd → Bool) (hf : ∀ t, f t t = true) : ∀ t : Nd, eqV f t t = true
  | .mk i l b ps x ks => by
    simp only [eqV, hf, Bool.true_and]
    exact eqsV_refl f hf ks
theorem eqsV_refl (f : Nd → Nd → Bool) (hf : ∀ t, f t t = true) : ∀ l : List Nd, eqsV f l l = true
  | [] => by simp [eqsV]
  | k :: r => by simp only [eqsV, eqV_refl f hf k, eqsV_refl f hf r, Bool.true_and]
end
theorem alikeA_refl (t : Nd) : alikeA t t = true := by simp [alikeA]
theorem sameA_refl (t : Nd) : sameA t t = true := by simp [sameA, alikeA_refl]
set_option maxHeartbeats 2000000 in
theorem same_all (w : World) (t u : Nd) (aA kA aA2 kA2 : Option Addr) (an ac kn kc an2 ac2 kn2 kc2 : Nat) (h : NodeV (Old w) w aA an ac kA kn kc t) (h2 : NodeV (Old w) w aA2 an2 ac2 kA2 kn2 kc2 u) (hc : countV t ≤ 100000) :
    Calls Try.prog 36 #[.agg (val6 t aA an ac kA kn kc), .agg (val6 u aA2 an2 ac2 kA2 kn2 kc2)] w fun e w' => e = .returned (.bool (eqV sameA t u)) ∧ Below w.heap.size w w' := by
  have hb0 : Below w.heap.size w ((w.alloc (.cells #[.int .u64 (t.id : Int), .bool t.leaf, .string ⟨t.label.toArray⟩, .slice aA an ac, .string ⟨t.text.toArray⟩, .slice kA kn kc] 42)).alloc (.cells #[.int .u64 (u.id : Int), .bool u.leaf, .string ⟨u.label.toArray⟩, .slice aA2 an2 ac2, .string ⟨u.text.toArray⟩, .slice kA2 kn2 kc2] 42)) := ((Below.refl _ w).alloc (Nat.le_refl _) _).alloc (by simp) _
  have hcall := Lib.hid (match_same _ t u aA kA aA2 kA2 an ac kn kc an2 ac2 kn2 kc2 (h.below hb0) (h2.below hb0) hc)
  have hb0' := Lib.hid hb0
  clear h h2 hb0
  unfold val6
  go_enter Try.func36, Try.ntmps36
  go_wp2_with fail
  refine hcall.out.mono ?_
  rintro e w1 ⟨rfl, hb1⟩
  have hb1' := Lib.hid hb1
  clear hb1 hcall
  go_wp2_with fail
  go_ret
  exact ⟨rfl, hb0'.out.trans (hb1'.out.mono hb0'.out.size)⟩
end Go.Proofs.Ytpoenlhikanooaa
