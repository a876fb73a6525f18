/- slices.Concat, for rows of nodes and of attributes. -/
import Derived.Test.YtpoenlhikanooaaMgAE
import Derived.Lib.AppendZerosOnto
set_option linter.all false
namespace Go.Proofs.Ytpoenlhikanooaa.Top
open Go.RowKit
set_option maxRecDepth 20000
set_option linter.unusedVariables false

/-- a slice that is read, with its cells -/
structure Prt where
  A : Option Addr
  n : Nat
  c : Nat
  xs : List Value
def Prt.v (p : Prt) : Value := .slice p.A p.n p.c
structure Prt.Ok (S : Nat) (w : World) (p : Prt) : Prop where
  len : p.xs.length = p.n * S
  one : ∀ u ∈ p.xs, u.oneCell' = true
  cells : ∀ j u, p.xs[j]? = some u → ∃ ad, p.A = some ad ∧ ad.block < w.heap.size ∧ w.cell? (ad.add j) = some u
  nil_ : p.A = none → p.c = 0
  nc : p.n ≤ p.c
  few : p.n ≤ 100000
theorem Prt.Ok.below {S : Nat} {w w' : World} {p : Prt} (h : p.Ok S w) (hb : Below w.heap.size w w') : p.Ok S w' :=
  ⟨h.len, h.one, fun j u hj => by
    obtain ⟨ad, e, hl, hc⟩ := h.cells j u hj
    exact ⟨ad, e, Nat.lt_of_lt_of_le hl hb.size, (hb.cell (p := ad.add j) (by rw [block_add]; exact hl)).trans hc⟩, h.nil_, h.nc, h.few⟩
def sumN : List Prt → Nat
  | [] => 0
  | p :: r => p.n + sumN r
def catV : List Prt → List Value
  | [] => []
  | p :: r => p.xs ++ catV r
theorem sumN_take {l : List Prt} {q : Nat} {p : Prt} (h : l[q]? = some p) : sumN (l.take (q + 1)) = sumN (l.take q) + p.n := by
  induction l generalizing q with
  | nil => simp at h
  | cons a r ih =>
    cases q with
    | zero => simp at h; subst h; simp [sumN]
    | succ q => rw [List.take_succ_cons, List.take_succ_cons, sumN, sumN, ih (by simpa using h)]; omega
theorem catV_take {l : List Prt} {q : Nat} {p : Prt} (h : l[q]? = some p) : catV (l.take (q + 1)) = catV (l.take q) ++ p.xs := by
  induction l generalizing q with
  | nil => simp at h
  | cons a r ih =>
    cases q with
    | zero => simp at h; subst h; simp [catV]
    | succ q => rw [List.take_succ_cons, List.take_succ_cons, catV, catV, ih (by simpa using h), List.append_assoc]
theorem sumN_le (l : List Prt) (q : Nat) : sumN (l.take q) ≤ sumN l := by
  induction l generalizing q with
  | nil => simp [sumN]
  | cons a r ih =>
    cases q with
    | zero => simp [sumN]
    | succ q => rw [List.take_succ_cons, sumN, sumN]; have := ih q; omega
theorem Prt.Ok.some_ {S : Nat} {w : World} {p : Prt} (hS : 0 < S) (h : p.Ok S w) {ad : Addr} (e : p.A = some ad) : ∀ j u, p.xs[j]? = some u → w.cell? (ad.add j) = some u := fun j u hj => by
  obtain ⟨ad', e', -, hc⟩ := h.cells j u hj
  rw [e] at e'
  injection e' with e'
  subst e'
  exact hc
theorem madeN {w : World} {ops : Array Oper} {rest : List Oper} {o : Oper} {a : Act} {Q : Exit → Act → World → Prop} (hgd : o.guard = none) (sl x : Operand)
    (ho : o.op = .call { callee := .builtin .append, args := #[sl, x], argTypes := #[40, 3] }) (n : Nat) (h0 : 0 < n) (hn : n ≤ 1000000) (hs : a.eval sl = .slice none 0 0) (hx : a.eval x = .int .i64 (n : Int))
    (h : ∀ cs w' c, cs.size = c * 6 → n ≤ c → c ≤ maxLen → w'.heap[w.heap.size]? = some (.cells cs 42 (0, 0)) → Below w.heap.size w w' → wpList Try.prog ops Q rest (a.put o.dst (.slice (some ⟨w.heap.size, 0, none⟩) n c)) w') : wpList Try.prog ops Q (o :: rest) a w := by
  obtain ⟨i0, hi0, hz0, hz1, hz2⟩ := info_parts Try.infoN
  have hr := Lib.run_append_grow_zeros (P := Try.prog) w 40 3 o.type 42 i0 _ .i64 .i64 Try.underlying40 Try.underlying3 hi0 hz0 none 0 0 [] (run_firstCells_none w.drew i0.size 0 0 0) n h0 (by rw [hz1]; decide) (by omega) (by omega) (by rw [hz2]; omega) (by rw [Nat.zero_add]; exact growslice_fits h0 (by rw [hz2]; omega))
  rw [Nat.zero_add] at hr
  refine wpList_plain hgd fun K hK => ?_
  unfold Oper.wp execOp
  simp only [ho, resolve, invoke, builtin, Sem.run_bind, Sem.run_pure, Result.andThen_ok, List.map_toArray, List.map_cons, List.map_nil, hs, hx, hr]
  have hg := grownCap_ge w n 0 42
  refine hK _ _ (h _ _ _ ?_ hg (grownCap_le_maxLen _ _ _ _ (by unfold maxLen; omega)) (heap_alloc_new w.drew _) ((Below.refl _ _).drew.alloc (Nat.le_refl _) _))
  simp [Builtin.zeroCells, Value.cells] <;> omega
set_option maxHeartbeats 1000000 in
theorem growN (w : World) (n : Nat) (hn : n ≤ 1000000) : Calls Try.prog 161 #[.slice none 0 0, .int .i64 (n : Int)] w fun e w' => ∃ v, e = .returned v ∧ w'.ownsRow w.heap.size 42 6 v 0 [] ∧ Below w.heap.size w w' := by
  by_cases h0 : 0 < n
  · have h0I : (0 : Int) < (n : Int) := by omega
    have hwz : IntKind.i64.wrap (n : Int) = (n : Int) := IntWalk.i64_in _ (by omega)
    go_enter Try.func161, Try.ntmps161
    go_wp2_with (at_builtin; go_loud (refine madeN rfl (.tmp 20) (.tmp 21) rfl n h0 hn rfl rfl ?_; intro cs w1 c hsz hnc hcm hrow hb; have hsz' := Lib.hid hsz; have hrow' := Lib.hid hrow; have hb' := Lib.hid hb; have hc0 : c ≤ 9223372036854775807 := (by unfold maxLen at hcm; omega); have hcm' := Lib.hid hcm; clear hsz hrow hb hcm))
    go_ret
    exact ⟨_, rfl, ⟨rfl, .inr ⟨w.heap.size, c, cs, rfl, Nat.le_refl _, hrow'.out, Nat.zero_le _, hcm'.out, hsz'.out, rfl⟩⟩, hb'.out⟩
  · obtain rfl : n = 0 := by omega
    go_enter Try.func161, Try.ntmps161
    go_wp2_with fail
    go_ret
    exact ⟨_, rfl, World.ownsRow_nil _ _ _ _, Below.refl _ _⟩
theorem appN {w : World} {ops : Array Oper} {rest : List Oper} {o : Oper} {a : Act} {Q : Exit → Act → World → Prop} (hgd : o.guard = none) (sl x : Operand)
    (ho : o.op = .call { callee := .builtin .append, args := #[sl, x], argTypes := #[40, 40] }) (base : Nat) (v : Value) (n : Nat) (ys : List Value) (p : Prt) (hs : a.eval sl = v) (hown : w.ownsRow base 42 6 v n ys) (hx : a.eval x = p.v) (hp : p.Ok 6 w) (hn : n + p.n ≤ 1000000) (hbase : base ≤ w.heap.size) (hb0 : Below base w w)
    (h : ∀ v' w', w'.ownsRow base 42 6 v' (n + p.n) (ys ++ p.xs) → Below base w w' → wpList Try.prog ops Q rest (a.put o.dst v') w') : wpList Try.prog ops Q (o :: rest) a w := by
  obtain ⟨i0, hi0, hz0, hz1, hz2⟩ := info_parts Try.infoN
  obtain ⟨A, m, c, xs⟩ := p
  unfold Prt.v at hx
  have hl := hp.len
  have hnc := hp.nc
  have hnil := hp.nil_
  dsimp only at hx hn hl h hnc hnil
  cases A with
  | none =>
    obtain rfl := hnil rfl
    obtain rfl : m = 0 := by omega
    have hxs : xs = [] := List.length_eq_zero_iff.1 (by omega)
    subst hxs
    refine wpList_append_own_none hgd sl x 40 ho base 42 i0 6 Try.underlying40 hi0 v n ys hs hown hx ?_
    exact h v w (by simpa using hown) hb0
  | some ad =>
    refine wpList_append_own_at _ hgd sl x 40 ho base 42 i0 _ 6 96 Try.underlying40 hi0 hz0 hz1 hz2 rfl (by decide) v n ys hs hown ad m c xs hx hl (hp.some_ (by decide) rfl) hp.one (by unfold maxLen; omega) (by omega) hbase ?_
    intro v' w' hown' hg _ _
    exact h v' w' hown' (hb0.grown hg hbase fun k hk => by
      rcases hown.2 with ⟨e, _⟩ | ⟨g, cap, cur, e, hge, _⟩
      · subst e; cases hk
      · subst e
        have : g = k := by simpa [Value.ownBlock] using hk
        omega)
set_option maxHeartbeats 2000000 in
theorem concatN (w : World) (g m c : Nat) (ps : List Prt) (hm : ps.length = m) (hmc : m ≤ 10) (hc : ∀ i p, ps[i]? = some p → w.cell? ((⟨g, 0, none⟩ : Addr).add i) = some p.v) (hg : g < w.heap.size) (hok : ∀ p ∈ ps, p.Ok 6 w) (hsum : sumN ps ≤ 1000000) :
    Calls Try.prog 146 #[.slice (some ⟨g, 0, none⟩) m c] w fun e w' => ∃ v, e = .returned v ∧ w'.ownsRow w.heap.size 42 6 v (sumN ps) (catV ps) ∧ Below w.heap.size w w' := by
  have hc' := Lib.hid hc
  have hok' := Lib.hid hok
  have hm' := Lib.hid hm
  have hle := Lib.hid (sumN_le ps)
  obtain ⟨N, hN⟩ : ∃ N, N = sumN ps := ⟨_, rfl⟩
  have hN' := Lib.hid hN
  rw [← hN] at hsum
  clear hc hok hm hN
  go_enter Try.func146, Try.ntmps146
  go_wp2_with fail
  go_loopw [3, 11] (fun z i wr => ∃ q : Nat, q ≤ m ∧ i = .int .i64 (q : Int) ∧ z = .int .i64 ((sumN (ps.take q) : Nat) : Int) ∧ wr = w) (fun _ i _ => m - (intOf i).toNat)
  case atStart => exact ⟨0, Nat.zero_le _, rfl, rfl, rfl⟩
  case round =>
    obtain ⟨q, hq, rfl, rfl, rfl⟩ := hrel
    by_cases hqm : q < m
    · have hqI : (q : Int) < (m : Int) := by omega
      obtain ⟨p, hp⟩ : ∃ p, ps[q]? = some p := ⟨_, List.getElem?_eq_getElem (by have := hm'.out; omega)⟩
      have hcell := hc'.out q p hp
      rw [add_zero_off] at hcell
      unfold Prt.v at hcell
      have hst := Lib.hid (sumN_take hp)
      have hl1 := hle.out (q + 1)
      have hl0 := hle.out q
      rw [← hN'.out] at hl1 hl0
      rw [hst.out] at hl1
      obtain ⟨z0, hz0⟩ : ∃ z0, z0 = sumN (ps.take q) := ⟨_, rfl⟩
      rw [← hz0] at hl1 hl0 ⊢
      have hz0' := Lib.hid hz0
      have hneg : ¬ ((z0 : Int) + (p.n : Int) < 0) := by omega
      have hwz : IntKind.i64.wrap ((z0 : Int) + (p.n : Int)) = (z0 : Int) + (p.n : Int) := IntWalk.i64_in _ (by omega)
      clear hp hz0
      go_wp2_with fail
      go_roundw
      case rel => exact ⟨q + 1, by omega, by go_num, by rw [hst.out, ← hz0'.out]; simp, trivial⟩
      case measure => simp [intOf]; omega
    · have hqI : ¬ (q : Int) < (m : Int) := by omega
      have hqe : ps.take q = ps := List.take_of_length_le (by have := hm'.out; omega)
      rw [hqe, ← hN'.out]
      clear hqe
      go_wp2_with (go_at_call 161; refine (growN _ N hsum).mono ?_; rintro e w1 ⟨v1, rfl, ho1, hb1⟩; have ho1' := Lib.hid ho1; have hb1' := Lib.hid hb1; clear ho1 hb1)
      obtain ⟨W0, hW0⟩ : ∃ W0, W0 = wr := ⟨_, rfl⟩
      subst hW0
      go_loopw [6, 27] (fun v i wt => ∃ q : Nat, q ≤ m ∧ i = .int .i64 (q : Int) ∧ wt.ownsRow W0.heap.size 42 6 v (sumN (ps.take q)) (catV (ps.take q)) ∧ Below W0.heap.size W0 wt) (fun _ i _ => m - (intOf i).toNat)
      case atStart => exact ⟨0, Nat.zero_le _, rfl, ho1'.out, hb1'.out⟩
      case round =>
        obtain ⟨q, hq, rfl, ho, hb⟩ := hrel
        have hb' := Lib.hid hb
        have ho' := Lib.hid ho
        by_cases hqm : q < m
        · have hqI : (q : Int) < (m : Int) := by omega
          obtain ⟨p, hp⟩ : ∃ p, ps[q]? = some p := ⟨_, List.getElem?_eq_getElem (by have := hm'.out; omega)⟩
          have hcell := (hb.cell (p := (⟨g, 0, none⟩ : Addr).add q) (by rw [block_add]; exact hg)).trans (hc'.out q p hp)
          rw [add_zero_off] at hcell
          have hpo := Lib.hid ((hok'.out p (List.mem_of_getElem? hp)).below hb)
          have hst := Lib.hid (sumN_take hp)
          have hct := Lib.hid (catV_take hp)
          have hl1 := hle.out (q + 1)
          rw [← hN'.out, hst.out] at hl1
          have hl1' := Lib.hid (show sumN (ps.take q) + p.n ≤ 1000000 by omega)
          obtain ⟨pv, hpv⟩ : ∃ pv, pv = p.v := ⟨_, rfl⟩
          rw [← hpv] at hcell
          have hpv' := Lib.hid hpv
          clear hp ho hb hl1 hpv
          go_wp2_with (at_builtin; go_loud (refine appN rfl (.tmp 31) (.tmp 32) rfl W0.heap.size _ (sumN (ps.take q)) (catV (ps.take q)) p rfl ho'.out (by exact hpv'.out) hpo.out hl1'.out hb'.out.size (Below.refl _ _) ?_; intro v2 w2 ho2 hb2; rw [← hst.out, ← hct.out] at ho2; have ho2' := Lib.hid ho2; have hb2' := Lib.hid (hb'.out.trans hb2); clear ho2 hb2))
          go_roundw
          case rel => exact ⟨q + 1, by omega, by go_num, ho2'.out, hb2'.out⟩
          case measure => simp [intOf]; omega
        · have hqI : ¬ (q : Int) < (m : Int) := by omega
          have hqe : ps.take q = ps := List.take_of_length_le (by have := hm'.out; omega)
          rw [hqe] at ho'
          clear ho hb hqe
          go_wp2_with fail
          go_ret
          exact ⟨_, rfl, by rw [hN'.out]; exact ho'.out, hb'.out⟩
theorem madeA {w : World} {ops : Array Oper} {rest : List Oper} {o : Oper} {a : Act} {Q : Exit → Act → World → Prop} (hgd : o.guard = none) (sl x : Operand)
    (ho : o.op = .call { callee := .builtin .append, args := #[sl, x], argTypes := #[39, 3] }) (n : Nat) (h0 : 0 < n) (hn : n ≤ 1000000) (hs : a.eval sl = .slice none 0 0) (hx : a.eval x = .int .i64 (n : Int))
    (h : ∀ cs w' c, cs.size = c * 2 → n ≤ c → c ≤ maxLen → w'.heap[w.heap.size]? = some (.cells cs 88 (0, 0)) → Below w.heap.size w w' → wpList Try.prog ops Q rest (a.put o.dst (.slice (some ⟨w.heap.size, 0, none⟩) n c)) w') : wpList Try.prog ops Q (o :: rest) a w := by
  obtain ⟨i0, hi0, hz0, hz1, hz2⟩ := info_parts Try.infoA
  have hr := Lib.run_append_grow_zeros (P := Try.prog) w 39 3 o.type 88 i0 _ .i64 .i64 Try.underlying39 Try.underlying3 hi0 hz0 none 0 0 [] (run_firstCells_none w.drew i0.size 0 0 0) n h0 (by rw [hz1]; decide) (by omega) (by omega) (by rw [hz2]; omega) (by rw [Nat.zero_add]; exact growslice_fits h0 (by rw [hz2]; omega))
  rw [Nat.zero_add] at hr
  refine wpList_plain hgd fun K hK => ?_
  unfold Oper.wp execOp
  simp only [ho, resolve, invoke, builtin, Sem.run_bind, Sem.run_pure, Result.andThen_ok, List.map_toArray, List.map_cons, List.map_nil, hs, hx, hr]
  have hg := grownCap_ge w n 0 88
  refine hK _ _ (h _ _ _ ?_ hg (grownCap_le_maxLen _ _ _ _ (by unfold maxLen; omega)) (heap_alloc_new w.drew _) ((Below.refl _ _).drew.alloc (Nat.le_refl _) _))
  simp [Builtin.zeroCells, Value.cells] <;> omega
set_option maxHeartbeats 1000000 in
theorem growA (w : World) (n : Nat) (hn : n ≤ 1000000) : Calls Try.prog 165 #[.slice none 0 0, .int .i64 (n : Int)] w fun e w' => ∃ v, e = .returned v ∧ w'.ownsRow w.heap.size 88 2 v 0 [] ∧ Below w.heap.size w w' := by
  by_cases h0 : 0 < n
  · have h0I : (0 : Int) < (n : Int) := by omega
    have hwz : IntKind.i64.wrap (n : Int) = (n : Int) := IntWalk.i64_in _ (by omega)
    go_enter Try.func165, Try.ntmps165
    go_wp2_with (at_builtin; go_loud (refine madeA rfl (.tmp 20) (.tmp 21) rfl n h0 hn rfl rfl ?_; intro cs w1 c hsz hnc hcm hrow hb; have hsz' := Lib.hid hsz; have hrow' := Lib.hid hrow; have hb' := Lib.hid hb; have hc0 : c ≤ 9223372036854775807 := (by unfold maxLen at hcm; omega); have hcm' := Lib.hid hcm; clear hsz hrow hb hcm))
    go_ret
    exact ⟨_, rfl, ⟨rfl, .inr ⟨w.heap.size, c, cs, rfl, Nat.le_refl _, hrow'.out, Nat.zero_le _, hcm'.out, hsz'.out, rfl⟩⟩, hb'.out⟩
  · obtain rfl : n = 0 := by omega
    go_enter Try.func165, Try.ntmps165
    go_wp2_with fail
    go_ret
    exact ⟨_, rfl, World.ownsRow_nil _ _ _ _, Below.refl _ _⟩
theorem appA {w : World} {ops : Array Oper} {rest : List Oper} {o : Oper} {a : Act} {Q : Exit → Act → World → Prop} (hgd : o.guard = none) (sl x : Operand)
    (ho : o.op = .call { callee := .builtin .append, args := #[sl, x], argTypes := #[39, 39] }) (base : Nat) (v : Value) (n : Nat) (ys : List Value) (p : Prt) (hs : a.eval sl = v) (hown : w.ownsRow base 88 2 v n ys) (hx : a.eval x = p.v) (hp : p.Ok 2 w) (hn : n + p.n ≤ 1000000) (hbase : base ≤ w.heap.size) (hb0 : Below base w w)
    (h : ∀ v' w', w'.ownsRow base 88 2 v' (n + p.n) (ys ++ p.xs) → Below base w w' → wpList Try.prog ops Q rest (a.put o.dst v') w') : wpList Try.prog ops Q (o :: rest) a w := by
  obtain ⟨i0, hi0, hz0, hz1, hz2⟩ := info_parts Try.infoA
  obtain ⟨A, m, c, xs⟩ := p
  unfold Prt.v at hx
  have hl := hp.len
  have hnc := hp.nc
  have hnil := hp.nil_
  dsimp only at hx hn hl h hnc hnil
  cases A with
  | none =>
    obtain rfl := hnil rfl
    obtain rfl : m = 0 := by omega
    have hxs : xs = [] := List.length_eq_zero_iff.1 (by omega)
    subst hxs
    refine wpList_append_own_none hgd sl x 39 ho base 88 i0 2 Try.underlying39 hi0 v n ys hs hown hx ?_
    exact h v w (by simpa using hown) hb0
  | some ad =>
    refine wpList_append_own_at _ hgd sl x 39 ho base 88 i0 _ 2 32 Try.underlying39 hi0 hz0 hz1 hz2 rfl (by decide) v n ys hs hown ad m c xs hx hl (hp.some_ (by decide) rfl) hp.one (by unfold maxLen; omega) (by omega) hbase ?_
    intro v' w' hown' hg _ _
    exact h v' w' hown' (hb0.grown hg hbase fun k hk => by
      rcases hown.2 with ⟨e, _⟩ | ⟨g, cap, cur, e, hge, _⟩
      · subst e; cases hk
      · subst e
        have : g = k := by simpa [Value.ownBlock] using hk
        omega)
set_option maxHeartbeats 2000000 in
theorem concatA (w : World) (g m c : Nat) (ps : List Prt) (hm : ps.length = m) (hmc : m ≤ 10) (hc : ∀ i p, ps[i]? = some p → w.cell? ((⟨g, 0, none⟩ : Addr).add i) = some p.v) (hg : g < w.heap.size) (hok : ∀ p ∈ ps, p.Ok 2 w) (hsum : sumN ps ≤ 1000000) :
    Calls Try.prog 149 #[.slice (some ⟨g, 0, none⟩) m c] w fun e w' => ∃ v, e = .returned v ∧ w'.ownsRow w.heap.size 88 2 v (sumN ps) (catV ps) ∧ Below w.heap.size w w' := by
  have hc' := Lib.hid hc
  have hok' := Lib.hid hok
  have hm' := Lib.hid hm
  have hle := Lib.hid (sumN_le ps)
  obtain ⟨N, hN⟩ : ∃ N, N = sumN ps := ⟨_, rfl⟩
  have hN' := Lib.hid hN
  rw [← hN] at hsum
  clear hc hok hm hN
  go_enter Try.func149, Try.ntmps149
  go_wp2_with fail
  go_loopw [3, 11] (fun z i wr => ∃ q : Nat, q ≤ m ∧ i = .int .i64 (q : Int) ∧ z = .int .i64 ((sumN (ps.take q) : Nat) : Int) ∧ wr = w) (fun _ i _ => m - (intOf i).toNat)
  case atStart => exact ⟨0, Nat.zero_le _, rfl, rfl, rfl⟩
  case round =>
    obtain ⟨q, hq, rfl, rfl, rfl⟩ := hrel
    by_cases hqm : q < m
    · have hqI : (q : Int) < (m : Int) := by omega
      obtain ⟨p, hp⟩ : ∃ p, ps[q]? = some p := ⟨_, List.getElem?_eq_getElem (by have := hm'.out; omega)⟩
      have hcell := hc'.out q p hp
      rw [add_zero_off] at hcell
      unfold Prt.v at hcell
      have hst := Lib.hid (sumN_take hp)
      have hl1 := hle.out (q + 1)
      have hl0 := hle.out q
      rw [← hN'.out] at hl1 hl0
      rw [hst.out] at hl1
      obtain ⟨z0, hz0⟩ : ∃ z0, z0 = sumN (ps.take q) := ⟨_, rfl⟩
      rw [← hz0] at hl1 hl0 ⊢
      have hz0' := Lib.hid hz0
      have hneg : ¬ ((z0 : Int) + (p.n : Int) < 0) := by omega
      have hwz : IntKind.i64.wrap ((z0 : Int) + (p.n : Int)) = (z0 : Int) + (p.n : Int) := IntWalk.i64_in _ (by omega)
      clear hp hz0
      go_wp2_with fail
      go_roundw
      case rel => exact ⟨q + 1, by omega, by go_num, by rw [hst.out, ← hz0'.out]; simp, trivial⟩
      case measure => simp [intOf]; omega
    · have hqI : ¬ (q : Int) < (m : Int) := by omega
      have hqe : ps.take q = ps := List.take_of_length_le (by have := hm'.out; omega)
      rw [hqe, ← hN'.out]
      clear hqe
      go_wp2_with (go_at_call 165; refine (growA _ N hsum).mono ?_; rintro e w1 ⟨v1, rfl, ho1, hb1⟩; have ho1' := Lib.hid ho1; have hb1' := Lib.hid hb1; clear ho1 hb1)
      obtain ⟨W0, hW0⟩ : ∃ W0, W0 = wr := ⟨_, rfl⟩
      subst hW0
      go_loopw [6, 27] (fun v i wt => ∃ q : Nat, q ≤ m ∧ i = .int .i64 (q : Int) ∧ wt.ownsRow W0.heap.size 88 2 v (sumN (ps.take q)) (catV (ps.take q)) ∧ Below W0.heap.size W0 wt) (fun _ i _ => m - (intOf i).toNat)
      case atStart => exact ⟨0, Nat.zero_le _, rfl, ho1'.out, hb1'.out⟩
      case round =>
        obtain ⟨q, hq, rfl, ho, hb⟩ := hrel
        have hb' := Lib.hid hb
        have ho' := Lib.hid ho
        by_cases hqm : q < m
        · have hqI : (q : Int) < (m : Int) := by omega
          obtain ⟨p, hp⟩ : ∃ p, ps[q]? = some p := ⟨_, List.getElem?_eq_getElem (by have := hm'.out; omega)⟩
          have hcell := (hb.cell (p := (⟨g, 0, none⟩ : Addr).add q) (by rw [block_add]; exact hg)).trans (hc'.out q p hp)
          rw [add_zero_off] at hcell
          have hpo := Lib.hid ((hok'.out p (List.mem_of_getElem? hp)).below hb)
          have hst := Lib.hid (sumN_take hp)
          have hct := Lib.hid (catV_take hp)
          have hl1 := hle.out (q + 1)
          rw [← hN'.out, hst.out] at hl1
          have hl1' := Lib.hid (show sumN (ps.take q) + p.n ≤ 1000000 by omega)
          obtain ⟨pv, hpv⟩ : ∃ pv, pv = p.v := ⟨_, rfl⟩
          rw [← hpv] at hcell
          have hpv' := Lib.hid hpv
          clear hp ho hb hl1 hpv
          go_wp2_with (at_builtin; go_loud (refine appA rfl (.tmp 31) (.tmp 32) rfl W0.heap.size _ (sumN (ps.take q)) (catV (ps.take q)) p rfl ho'.out (by exact hpv'.out) hpo.out hl1'.out hb'.out.size (Below.refl _ _) ?_; intro v2 w2 ho2 hb2; rw [← hst.out, ← hct.out] at ho2; have ho2' := Lib.hid ho2; have hb2' := Lib.hid (hb'.out.trans hb2); clear ho2 hb2))
          go_roundw
          case rel => exact ⟨q + 1, by omega, by go_num, ho2'.out, hb2'.out⟩
          case measure => simp [intOf]; omega
        · have hqI : ¬ (q : Int) < (m : Int) := by omega
          have hqe : ps.take q = ps := List.take_of_length_le (by have := hm'.out; omega)
          rw [hqe] at ho'
          clear ho hb hqe
          go_wp2_with fail
          go_ret
          exact ⟨_, rfl, by rw [hN'.out]; exact ho'.out, hb'.out⟩
end Go.Proofs.Ytpoenlhikanooaa.Top

