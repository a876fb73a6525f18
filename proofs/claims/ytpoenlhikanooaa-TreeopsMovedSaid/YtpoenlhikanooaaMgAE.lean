/- MgAE: TreF TreM TreO TreQ TreV TreX TopVal LtxE LtxF LtxG LtxH LtxI LtxJ LtxK TreS TreT TreW TopV TopC TreY TopRa TreZa -/
import Derived.Test.YtpoenlhikanooaaMgAD
import Derived.Deep.AppendLies
import Derived.Deep.CutRange
import Derived.IntWalk
import Derived.BigQuiet
import Derived.Test.YtpoenlhikanooaaMgAC
import Derived.Deep.RegionHeld3
import Derived.RegionTactic
import Derived.BigRegion
import Derived.Lib.Builder
import Derived.Deep.Cut
set_option linter.all false
/- Where one stands who goes through a tree, in memory; the next node: the program's. -/
namespace Go.Proofs.Ytpoenlhikanooaa
set_option linter.unusedVariables false
open Go.RowKit
set_option maxRecDepth 20000

/-- the rows' slices -/
def Rws (T : Nat → Prop) (w : World) (s : Stk) (xs : List Value) : Prop :=
  ∀ (d : Nat) (row : List Nd), s.reverse[d]? = some row → ∃ (A : Option Addr) (n c : Nat), xs[d]? = some (.slice A n c) ∧ n = row.length ∧ n ≤ c ∧ c ≤ maxLen ∧ (A = none → c = 0) ∧ RowAt T w A 0 row
/-- at block p: the rows s; the trees lie in blocks of T, what is turned in blocks of S -/
structure WalkAt (T S : Nat → Prop) (base : Nat) (w : World) (p : Nat) (s : Stk) : Prop where
  own : ∀ k, S k → base ≤ k ∧ k < w.heap.size
  apart : ∀ k, T k → ¬ S k
  told : ∀ k, T k → k < w.heap.size
  here : S p
  dat : ∃ (g n cap : Nat) (xs : List Value), w.heap[p]? = some (.cells #[.slice (some ⟨g, 0, none⟩) n cap] 128 (0, 0)) ∧ n = s.length ∧ w.ownsRow base 40 1 (.slice (some ⟨g, 0, none⟩) n cap) n xs ∧ S g ∧ Rws T w s xs
theorem WalkAt.kept {T S : Nat → Prop} {base p : Nat} {w w' : World} {s : Stk} (h : WalkAt T S base w p s) (hs : w.heap.size ≤ w'.heap.size) (hk : ∀ k, T k ∨ S k → w'.heap[k]? = w.heap[k]?) : WalkAt T S base w' p s := by
  obtain ⟨h1, h2, h3, h4, g, n, cap, xs, hp, hn, ho, hg, hr⟩ := h
  refine ⟨fun k hS => ⟨(h1 k hS).1, Nat.lt_of_lt_of_le (h1 k hS).2 hs⟩, h2, fun k hT => Nat.lt_of_lt_of_le (h3 k hT) hs, h4, g, n, cap, xs, (hk p (.inr h4)).trans hp, hn, own_kept ho fun k hk' => hk k (.inr ?_), hg, fun d row hd => ?_⟩
  · have e : g = k := by simpa [Value.ownBlock] using hk'
    rw [← e]
    exact hg
  · obtain ⟨A, m, c, e1, e2, e3, e4, e5, e6⟩ := hr d row hd
    exact ⟨A, m, c, e1, e2, e3, e4, e5, e6.kept (fun _ h => h) (fun k hT => hk k (.inl hT)) _ _ _⟩
def Also (S : Nat → Prop) (w w' : World) (k : Nat) : Prop := S k ∨ (w.heap.size ≤ k ∧ k < w'.heap.size)
/-- a row of the call's own, written at a place and cut behind it -/
theorem own_set_cut {w : World} {base g n cap d : Nat} {e : TypeId} {xs : List Value} (h : w.ownsRow base e 1 (.slice (some ⟨g, 0, none⟩) n cap) n xs) (hd : d < n) (v : Value) :
    (w.setCell ⟨g, d, none⟩ v).ownsRow base e 1 (.slice (some ⟨g, 0, none⟩) (d + 1) cap) (d + 1) (xs.take d ++ [v]) := by
  have hl := h.1
  rcases h.2 with ⟨e1, _⟩ | ⟨g', cap', cur, e1, hb, hg, hnc, hcm, hcs, htake⟩
  · cases e1
  · injection e1 with e1 e2 e3
    injection e1 with e1
    injection e1 with e1 _ _
    subst e1 e3
    refine ⟨by rw [List.length_append, List.length_take, hl]; simp; omega, .inr ⟨g, cap, _, rfl, hb, heap_setCell_same w g d cur e v hg, by omega, hcm, by simp [hcs], ?_⟩⟩
    have hcl : d < cur.toList.length := by rw [Array.length_toList, hcs]; omega
    rw [Array.toList_setIfInBounds, Nat.mul_one, ← htake, List.take_take, show min d (n * 1) = d by omega]
    rw [List.take_add_one, List.take_set_of_le (Nat.le_refl _)]
    congr 1
    have hcl2 : d < cur.size := by rw [hcs]; omega
    simp [List.getElem?_set, hcl2]
/-- what the next node is -/
def NextPost (T S : Nat → Prop) (base : Nat) (w : World) (p : Nat) (s : Stk) (e : Ending) (w' : World) : Prop :=
  match nextV s with
  | none => e = .returned (.tuple #[.int .i64 0, .pointer none]) ∧ w' = w
  | some (d, x, s') => ∃ E, e = .returned (.tuple #[.int .i64 (d : Int), .pointer (some E)]) ∧ NodeAt T w' E x ∧ WalkAt T (Also S w w') base w' p s' ∧ FrX S w w'
theorem add_zero (ad : Addr) : ad.add 0 = ad := by unfold Addr.add; rw [if_pos rfl]
theorem own_frozen {w : World} {base : Nat} {e : TypeId} {size g n cap : Nat} {xs : List Value} (h : w.ownsRow base e size (.slice (some ⟨g, 0, none⟩) n cap) n xs) (o : Nat) : w.frozen? ⟨g, o, none⟩ = false := by
  rcases h.2 with ⟨e1, _⟩ | ⟨g', cap', cur, e1, hb, hg, _⟩
  · cases e1
  · injection e1 with e1 _ _
    injection e1 with e1
    injection e1 with e1 _ _
    subst e1
    exact frozen_of_row w g o _ _ hg
theorem own_cap {w : World} {base : Nat} {e : TypeId} {size g n cap : Nat} {xs : List Value} (h : w.ownsRow base e size (.slice (some ⟨g, 0, none⟩) n cap) n xs) : n ≤ cap := by
  rcases h.2 with ⟨e1, _⟩ | ⟨g', cap', cur, e1, hb, hg, hc, _⟩
  · cases e1
  · injection e1 with _ _ e3
    omega
theorem Try.infoRow : (Try.prog.info? 40).map (fun i => (i.zero, i.size, i.bytes)) = some (some (.slice none 0 0), 1, 24) := by kernel_rfl
theorem nextV_skip : ∀ (e s : Stk), (∀ row ∈ e, row = []) → nextV (e ++ s) = nextV s
  | [], s, _ => rfl
  | a :: e, s, h => by
    obtain rfl := h a (List.mem_cons_self ..)
    rw [List.cons_append, nextV]
    exact nextV_skip e s fun row hr => h row (List.mem_cons_of_mem _ hr)
theorem rev_at (e : Stk) (row : List Nd) (rest : Stk) : (e ++ row :: rest).reverse[rest.length]? = some row := by
  rw [List.reverse_append, List.reverse_cons, List.append_assoc, List.getElem?_append_right (by simp)]
  simp
theorem next_done {w W1 w4 : World} {T S : Nat → Prop} {base p g g' d cap cap' n : Nat} {s e : Stk} {x : Nd} {r : List Nd} {rest : Stk} {xs : List Value} {v1 : Value} {ad : Addr} {aA kA : Option Addr} {an ac kn kc : Nat} {o : Obj}
    (h : WalkAt T S base w p s) (hbase : base ≤ w.heap.size) (hs : s = e ++ (x :: r) :: rest) (hd : d = rest.length) (hr : Rws T w s xs) (hxl : d < xs.length)
    (V1 : ∃ (A : Option Addr) (n c : Nat), v1 = .slice A n c ∧ n = r.length ∧ n ≤ c ∧ c ≤ maxLen ∧ (A = none → c = 0) ∧ RowAt T w A 0 r)
    (hkv : NodeV T w aA an ac kA kn kc x) (hNE : NodeAt T w ad x) (hg : S g) (o1 : ∀ k, k ≠ g → W1.heap[k]? = w.heap[k]?) (z1 : W1.heap.size = w.heap.size) (F1 : FrX S w W1)
    (ho4 : w4.ownsRow base 40 1 (.slice (some ⟨g', 0, none⟩) (d + 1 + 1) cap') (d + 1 + 1) (xs.take d ++ [v1] ++ [.slice kA kn kc]))
    (hg4 : World.grownBy ((W1.alloc o).drew) w4 (Value.ownBlock (.slice (some ⟨g, 0, none⟩) (d + 1) cap))) (hat : Value.ownBlock (.slice (some ⟨g, 0, none⟩) (d + 1) cap) = some g' ∨ g' = W1.heap.size + 1)
    (p4 : w4.heap[p]? = some (.cells #[.slice (some ⟨g, 0, none⟩) n cap] 128 (0, 0))) :
    NodeAt T (w4.setCell ⟨p, 0, none⟩ (.slice (some ⟨g', 0, none⟩) (d + 1 + 1) cap')) ad x ∧ WalkAt T (Also S w (w4.setCell ⟨p, 0, none⟩ (.slice (some ⟨g', 0, none⟩) (d + 1 + 1) cap'))) base (w4.setCell ⟨p, 0, none⟩ (.slice (some ⟨g', 0, none⟩) (d + 1 + 1) cap')) p (x.kids :: r :: rest) ∧ FrX S w (w4.setCell ⟨p, 0, none⟩ (.slice (some ⟨g', 0, none⟩) (d + 1 + 1) cap')) := by
  obtain ⟨h1, h2, h3, h4, -⟩ := h
  have hz4 : W1.heap.size + 1 ≤ w4.heap.size := by have := hg4.size; simpa using this
  have F4 : FrX S w w4 := ⟨hg4.os.trans F1.os, hg4.tape.trans F1.tape, hg4.output.trans F1.output, by omega, fun k hk hn => by
    rw [hg4.block k (by simp; omega) (fun e => by injection e with e; exact hn (e ▸ hg))]
    exact (Go.heap_alloc_old W1 _ (by omega)).trans (F1.block k hk hn)⟩
  obtain ⟨w5, hw5⟩ : ∃ w5, w5 = w4.setCell ⟨p, 0, none⟩ (.slice (some ⟨g', 0, none⟩) (d + 1 + 1) cap') := ⟨_, rfl⟩
  rw [← hw5]
  have F5 : FrX S w w5 := by rw [hw5]; exact F4.setCell h4
  have p5 : w5.heap[p]? = some (.cells #[.slice (some ⟨g', 0, none⟩) (d + 1 + 1) cap'] 128 (0, 0)) := by rw [hw5]; exact heap_setCell_same w4 p 0 _ _ _ p4
  have z5 : w5.heap.size = w4.heap.size := by rw [hw5]; simp
  have ho5 : w5.ownsRow base 40 1 (.slice (some ⟨g', 0, none⟩) (d + 1 + 1) cap') (d + 1 + 1) (xs.take d ++ [v1] ++ [.slice kA kn kc]) := own_kept ho4 fun k hk => by
    rw [hw5]
    exact heap_setCell_other w4 ⟨p, 0, none⟩ k _ (fun e => own_ne ho4 p4 (by decide) (by rw [hk, e]))
  clear hw5
  have kT : ∀ k, T k → w5.heap[k]? = w.heap[k]? := fun k hk => F5.block k (h3 k hk) (h2 k hk)
  have hg'lt := (World.ownsRow.lt ho5 g' rfl).2
  have hfk := hkv.facts
  refine ⟨hNE.kept (fun _ h => h) kT, ⟨?_, ?_, ?_, .inl h4, g', d + 1 + 1, cap', _, p5, by simp [hd], ho5, ?_, ?_⟩, F5⟩
  · intro k hk
    rcases hk with hk | hk
    · have := h1 k hk
      have := F5.size
      omega
    · omega
  · intro k hT hk
    rcases hk with hk | hk
    · exact h2 k hT hk
    · have := h3 k hT
      omega
  · intro k hT
    have := h3 k hT
    have := F5.size
    omega
  · rcases hat with e | e
    · injection e with e
      exact .inl (e ▸ hg)
    · exact .inr ⟨by omega, by omega⟩
  · intro i row hi
    have hrev : (x.kids :: r :: rest).reverse = rest.reverse ++ [r] ++ [x.kids] := by simp
    rw [hrev] at hi
    have hl1 : (rest.reverse ++ [r]).length = d + 1 := by simp [hd]
    have hl2 : (xs.take d ++ [v1]).length = d + 1 := by rw [List.length_append, List.length_take]; simp; omega
    have hl3 : (xs.take d).length = d := by rw [List.length_take]; omega
    have hl4 : rest.reverse.length = d := by simp [hd]
    have hili := (List.getElem?_eq_some_iff.1 hi).1
    rw [List.length_append, hl1] at hili
    simp only [List.length_cons, List.length_nil] at hili
    rcases Nat.lt_or_ge i d with hid | hid
    · rw [List.getElem?_append_left (by omega), List.getElem?_append_left (by omega)] at hi
      have hso : s.reverse[i]? = some row := by
        rw [hs, List.reverse_append, List.reverse_cons, List.append_assoc, List.getElem?_append_left (by omega)]
        exact hi
      obtain ⟨A, m, c, e1, e2, e3, e4, e5, e6⟩ := hr i row hso
      refine ⟨A, m, c, ?_, e2, e3, e4, e5, e6.kept (fun _ h => h) kT _ _ _⟩
      rw [List.getElem?_append_left (by omega), List.getElem?_append_left (by omega), List.getElem?_take, if_pos hid]
      exact e1
    · rcases Nat.lt_or_ge i (d + 1) with hid2 | hid2
      · obtain rfl : i = d := by omega
        rw [List.getElem?_append_left (by omega), List.getElem?_append_right (by omega), hl4, Nat.sub_self] at hi
        injection hi with hi
        subst hi
        obtain ⟨A, m, c, e1, e2, e3, e4, e5, e6⟩ := V1
        refine ⟨A, m, c, ?_, e2, e3, e4, e5, e6.kept (fun _ h => h) kT _ _ _⟩
        rw [List.getElem?_append_left (by omega), List.getElem?_append_right (by omega), hl3, Nat.sub_self, e1]
        rfl
      · obtain rfl : i = d + 1 := by omega
        rw [List.getElem?_append_right (by omega), hl1, Nat.sub_self] at hi
        injection hi with hi
        subst hi
        refine ⟨kA, kn, kc, ?_, hfk.kl.symm, hfk.knc, hfk.kcm, hfk.knil, hfk.row.kept (fun _ h => h) kT _ _ _⟩
        rw [List.getElem?_append_right (by omega), hl2, Nat.sub_self]
        rfl
theorem Also.drewN {S : Nat → Prop} {w w' : World} (n : Nat) : Also S w (w'.drewN n) = Also S w w' := rfl
set_option maxHeartbeats 4000000 in
theorem next_any (w : World) (T S : Nat → Prop) (base p : Nat) (s : Stk) (h : WalkAt T S base w p s) (hlen : s.length ≤ 1000000) (hbase : base ≤ w.heap.size) :
    Calls Try.prog 115 #[.pointer (some ⟨p, 0, none⟩)] w (NextPost T S base w p s) := by
  have h0 := Lib.hid h
  obtain ⟨h1, h2, h3, h4, g, n, cap, xs, hp, hn, ho, hg, hr⟩ := h
  have c0 := cell_of_row w p 0 _ _ _ hp
  have f0 := frozen_of_row w p 0 _ _ hp
  simp at c0
  have hnb : n ≤ 1000000 := by omega
  have h1' := Lib.hid h1
  have h2' := Lib.hid h2
  have h3' := Lib.hid h3
  have hp' := Lib.hid hp
  have hn' := Lib.hid hn
  have ho' := Lib.hid ho
  have hr' := Lib.hid hr
  have hlen' := Lib.hid hlen
  clear h1 h2 h3 hp hn ho hr hlen
  go_enter Try.func115, Try.ntmps115
  go_wp2_with fail
  go_loopw [5] (fun dv wr => ∃ (z : Int) (e s2 : Stk), dv = .int .i64 z ∧ z + 1 = (s2.length : Int) ∧ s2.length ≤ n ∧ s = e ++ s2 ∧ (∀ row ∈ e, row = []) ∧ wr = w) (fun dv _ => (intOf dv + 1).toNat)
  case atStart => exact ⟨_, [], s, rfl, by have := hn'.out; omega, by have := hn'.out; omega, rfl, by simp, rfl⟩
  case round =>
    obtain ⟨z, e, s2, rfl, hz, hs2, hs, he, rfl⟩ := hrel
    cases s2 with
    | nil =>
      have hzI : ¬ (0 : Int) ≤ z := by simp at hz; omega
      have hv := Lib.hid (show nextV s = none by rw [hs, nextV_skip e [] he]; rfl)
      clear hz hs he hs2
      go_wp2_with fail
      refine bodyPost_ret (v := .tuple #[.int .i64 0, .pointer none]) (by simp [results, Try.results115, go_sem]) rfl ?_
      unfold NextPost
      rw [hv.out]
      exact ⟨rfl, rfl⟩
    | cons row rest =>
      obtain ⟨d, hd⟩ : ∃ d, d = rest.length := ⟨_, rfl⟩
      obtain rfl : z = (d : Int) := by simp at hz; omega
      have hdn : d < n := by simp at hs2; omega
      obtain ⟨A, m, c, hx, hm, hmc, hcm, hA, hrow⟩ := hr'.out d row (by rw [hs, hd]; exact rev_at e row rest)
      have cd := World.ownsRow.cells ho'.out (g := g) rfl d _ hx
      rw [add_zero_off] at cd
      have fd := own_frozen ho'.out d
      have hdI : (d : Int) < (n : Int) := by omega
      have hx' := Lib.hid hx
      have hA' := Lib.hid hA
      have hrow' := Lib.hid hrow
      have hd' := Lib.hid hd
      clear hx hA hrow hd
      cases row with
      | nil =>
        obtain rfl : m = 0 := hm
        go_wp2_with fail
        go_roundw
        case rel => exact ⟨(d : Int) - 1, e ++ [[]], rest, rfl, by have := hd'.out; omega, by simp at hs2; omega, by rw [hs]; simp, fun row hr => by rcases List.mem_append.1 hr with hr | hr; exact he row hr; simpa using hr, trivial⟩
        case measure => simp [intOf]
      | cons x r =>
        have hm1 : 1 ≤ m := by rw [hm]; simp
        have hm0 : (0 : Int) < (m : Int) := by omega
        cases A with
        | none => exact absurd (hA'.out rfl) (by omega)
        | some ad =>
          obtain ⟨E, eE, hNE⟩ := RowAt.at_ (q := 0) hrow'.out rfl
          have hNE' := Lib.hid hNE
          obtain ⟨hTE, aA, an, ac, kA, kn, kc, ⟨k0, k1, k2, k3, k4, k5⟩, hkv⟩ := hNE
          injection eE with eE
          subst eE
          rw [show (0 + 0) * 6 = 0 by omega, add_zero] at hTE k5
          have hm' := Lib.hid hm
          have hs' := Lib.hid hs
          have he' := Lib.hid he
          have hz' := Lib.hid hz
          have hs2' := Lib.hid hs2
          have hkv' := Lib.hid hkv
          clear hm hs he hz hs2 hkv k0 k1 k2 k3 k4
          have hgad : ad.block ≠ g := fun e => h2'.out _ hTE (e ▸ hg)
          have hpg : p ≠ g := fun e => own_ne ho'.out hp'.out (by decide) (by rw [e]; rfl)
          have hcv : ∃ v1, (c = 1 ∧ v1 = Value.slice (some ad) (m - 1) (c - 1) ∨ c ≠ 1 ∧ v1 = Value.slice (some (ad.add 6)) (m - 1) (c - 1)) := by
            by_cases e : c = 1
            · exact ⟨_, .inl ⟨e, rfl⟩⟩
            · exact ⟨_, .inr ⟨e, rfl⟩⟩
          obtain ⟨v1, hv1⟩ := hcv
          have V1 : Hid (∃ (A : Option Addr) (n c : Nat), v1 = .slice A n c ∧ n = r.length ∧ n ≤ c ∧ c ≤ maxLen ∧ (A = none → c = 0) ∧ RowAt T wr A 0 r) := by
            have hml : m = r.length + 1 := by rw [hm'.out]; simp
            have hrest := hrow'.out
            simp only [RowAt] at hrest
            rcases hv1 with ⟨e, rfl⟩ | ⟨e, rfl⟩
            · have hr0 : r = [] := List.length_eq_zero_iff.1 (by omega)
              refine ⟨_, _, _, rfl, by omega, by omega, by omega, (fun h => by cases h), ?_⟩
              rw [hr0]
              simp [RowAt]
            · exact ⟨_, _, _, rfl, by omega, by omega, by omega, (fun h => by cases h), RowAt.from_ 1 r 0 hrest.2⟩
          have own1 := own_set_cut ho'.out hdn v1
          rcases hv1 with ⟨hc1, hv1⟩ | ⟨hc1, hv1⟩
          · have hcT : (c = 1) = True := eq_true hc1
            have hv1' := Lib.hid hv1
            clear hc1 hv1
            go_upto_region 8 with fail
            rw [← hv1'.out]
            clear hcT hv1'
            obtain ⟨W1, hW1⟩ : ∃ W1, W1 = wr.setCell ⟨g, d, none⟩ v1 := ⟨_, rfl⟩
            rw [← hW1] at own1 ⊢
            have z1 : W1.heap.size = wr.heap.size := by rw [hW1]; simp
            have o1 : ∀ k, k ≠ g → W1.heap[k]? = wr.heap[k]? := fun k hk => by rw [hW1]; exact heap_setCell_other wr ⟨g, d, none⟩ k v1 hk
            have p1 := (o1 p hpg).trans hp'.out
            have F1 : FrX S wr W1 := by rw [hW1]; exact (FrX.refl S wr).setCell hg
            have k51 : W1.cell? ⟨ad.block, ad.off + 5, none⟩ = some (.slice kA kn kc) := (World.cell?_of_block (w := wr) (w' := W1) (a := ⟨ad.block, ad.off + 5, none⟩) (o1 _ hgad)).trans k5
            clear hW1 k5 c0 f0 cd fd
            have hsz := (h1'.out p h4).2
            have hpW : p < W1.heap.size := by rw [z1]; exact hsz
            have hadW : ad.block < W1.heap.size := by rw [z1]; exact h3'.out _ hTE
            have hszg := (h1'.out g hg).2
            have hTz := h3'.out _ hTE
            obtain ⟨i0, hi0, hz0, hz1, hz2⟩ := info_parts Try.infoRow
            have hi0' := Lib.hid hi0
            have hz0' := Lib.hid hz0
            have hz1' := Lib.hid hz1
            have hz2' := Lib.hid hz2
            have hrw := Lib.hid (show ∀ o, ((W1.alloc o).drew).ownsRow base 40 1 (.slice (some ⟨g, 0, none⟩) (d + 1) cap) (d + 1) (xs.take d ++ [v1]) from fun o => World.ownsRow.alloc own1 o)
            have hnews := Lib.hid (show ∀ (j : Nat) (u : Value), ([.slice kA kn kc] : List Value)[j]? = some u → (W1.alloc (.cells #[.slice kA kn kc] 40)).drew.cell? ((⟨W1.heap.size, 0, none⟩ : Addr).add j) = some u from
              World.news_of_block (w := W1.alloc (.cells #[.slice kA kn kc] 40)) (cs := #[.slice kA kn kc]) (t := 40) (fr := (0, 0)) (heap_alloc_new W1 _))
            have hone := Lib.hid (show ∀ u ∈ ([.slice kA kn kc] : List Value), u.oneCell' = true from by simp [Value.oneCell'])
            have hbd := Lib.hid (show d + 1 + 1 ≤ maxLen ∧ (d + 1 + 1) * 24 ≤ 140737488355328 from by unfold maxLen; omega)
            have hbd2 := Lib.hid (show ∀ o, base ≤ (W1.alloc o).drew.heap.size from fun o => by simp; omega)
            have kk4 := Lib.hid (show ∀ w4 o, World.grownBy ((W1.alloc o).drew) w4 (Value.ownBlock (.slice (some ⟨g, 0, none⟩) (d + 1) cap)) → ∀ k, k < W1.heap.size → k ≠ g → w4.heap[k]? = W1.heap[k]? from fun w4 o hg3 k hk hn => by
              rw [hg3.block k (by simp; omega) (fun e => by injection e with e; exact hn e)]
              exact Go.heap_alloc_old W1 _ hk)
            have own1' := Lib.hid own1
            have o1' := Lib.hid o1
            have p1' := Lib.hid p1
            have F1' := Lib.hid F1
            have hgadI : ad.block ≠ p := fun e => h2'.out _ hTE (e ▸ h4)
            have g1 : (0 : Int) ≤ (d : Int) + 1 := by omega
            have g2 : ((d : Int) + 1).toNat = d + 1 := by omega
            have g3 : IntKind.i64.wrap ((d : Int) + 1) = (d : Int) + 1 := IntWalk.i64_in _ (by omega)
            have g4 : d + 1 ≤ cap := by have := own_cap ho'.out; omega
            have g5 : (d : Int) + 1 ≤ (cap : Int) := by omega
            have z1' := Lib.hid z1
            clear hi0 hz0 hz1 hz2 own1 o1 p1 F1 z1
            go_region_held3 (fun w' => w'.cell? ⟨ad.block, ad.off + 5, none⟩ = some (.slice kA kn kc))
              (first
                | go_keep
                | exact kk.out
                | exact (World.cell?_of_block (w := w4) (a := ⟨ad.block, ad.off + 5, none⟩) (heap_setCell_other w4 ⟨p, 0, none⟩ ad.block _ hgadI)).trans kk.out)
              ((refine step_append_lies _ (by rfl) (.tmp 33) (.tmp 38) 128 (by rfl) base 40 i0 _ 1 24 Try.underlying128 hi0'.out hz0'.out hz1'.out hz2'.out rfl (by decide) (.slice (some ⟨g, 0, none⟩) (d + 1) cap) (d + 1) (xs.take d ++ [v1]) (by rfl) (hrw.out _)
                  ⟨W1.heap.size, 0, none⟩ 1 1 [.slice kA kn kc] (by rfl) (by rfl) hnews.out hone.out
                  (by decide) hbd.out.1 hbd.out.2 (hbd2.out _) (W1.heap.size + 1) (by simp) ?_; intro g' cap' w4 ho4 hg4 hat hlt4; have kk := Lib.hid ((World.cell?_of_block (w := W1) (w' := w4) (a := ⟨ad.block, ad.off + 5, none⟩) (kk4.out w4 _ hg4 _ hadW hgad)).trans k51); have p4 := (kk4.out w4 _ hg4 p hpW hpg).trans p1'.out; have c4 := cell_of_row w4 p 0 _ _ _ p4; have f4 := frozen_of_row w4 p 0 _ _ p4; have ho4' := Lib.hid ho4; have hg4' := Lib.hid hg4; have hat' := Lib.hid hat; have p4' := Lib.hid p4; clear ho4 hg4 hat p4))
            clear g1 g2 g3 g5
            go_wp2_with fail
            go_quiet (fail)
            go_wp2_with fail
            refine bodyPost_ret (v := .tuple #[.int .i64 (d : Int), .pointer (some ad)]) (by simp [results, Try.results115, go_sem]) rfl ?_
            obtain ⟨q1, q2, q3⟩ := next_done h0.out hbase hs'.out hd'.out hr'.out (by have := ho'.out.1; omega) V1.out hkv'.out (by have h := hNE'.out; rw [show (0 + 0) * 6 = 0 by omega, add_zero] at h; exact h) hg o1'.out z1'.out F1'.out ho4'.out hg4'.out hat'.out p4'.out
            unfold NextPost
            rw [hs'.out, nextV_skip e _ he'.out]
            refine ⟨ad, by rw [hd'.out], q1.drewN _, ?_, q3.drewN _⟩
            exact WalkAt.kept q2 (Nat.le_refl _) (fun _ _ => rfl)
          · rw [add_off _ _ (by omega)] at hv1
            have hv1' := Lib.hid hv1
            clear hv1
            go_upto_region 8 with fail
            rw [← hv1'.out]
            clear hc1 hv1'
            obtain ⟨W1, hW1⟩ : ∃ W1, W1 = wr.setCell ⟨g, d, none⟩ v1 := ⟨_, rfl⟩
            rw [← hW1] at own1 ⊢
            have z1 : W1.heap.size = wr.heap.size := by rw [hW1]; simp
            have o1 : ∀ k, k ≠ g → W1.heap[k]? = wr.heap[k]? := fun k hk => by rw [hW1]; exact heap_setCell_other wr ⟨g, d, none⟩ k v1 hk
            have p1 := (o1 p hpg).trans hp'.out
            have F1 : FrX S wr W1 := by rw [hW1]; exact (FrX.refl S wr).setCell hg
            have k51 : W1.cell? ⟨ad.block, ad.off + 5, none⟩ = some (.slice kA kn kc) := (World.cell?_of_block (w := wr) (w' := W1) (a := ⟨ad.block, ad.off + 5, none⟩) (o1 _ hgad)).trans k5
            clear hW1 k5 c0 f0 cd fd
            have hsz := (h1'.out p h4).2
            have hpW : p < W1.heap.size := by rw [z1]; exact hsz
            have hadW : ad.block < W1.heap.size := by rw [z1]; exact h3'.out _ hTE
            have hszg := (h1'.out g hg).2
            have hTz := h3'.out _ hTE
            obtain ⟨i0, hi0, hz0, hz1, hz2⟩ := info_parts Try.infoRow
            have hi0' := Lib.hid hi0
            have hz0' := Lib.hid hz0
            have hz1' := Lib.hid hz1
            have hz2' := Lib.hid hz2
            have hrw := Lib.hid (show ∀ o, ((W1.alloc o).drew).ownsRow base 40 1 (.slice (some ⟨g, 0, none⟩) (d + 1) cap) (d + 1) (xs.take d ++ [v1]) from fun o => World.ownsRow.alloc own1 o)
            have hnews := Lib.hid (show ∀ (j : Nat) (u : Value), ([.slice kA kn kc] : List Value)[j]? = some u → (W1.alloc (.cells #[.slice kA kn kc] 40)).drew.cell? ((⟨W1.heap.size, 0, none⟩ : Addr).add j) = some u from
              World.news_of_block (w := W1.alloc (.cells #[.slice kA kn kc] 40)) (cs := #[.slice kA kn kc]) (t := 40) (fr := (0, 0)) (heap_alloc_new W1 _))
            have hone := Lib.hid (show ∀ u ∈ ([.slice kA kn kc] : List Value), u.oneCell' = true from by simp [Value.oneCell'])
            have hbd := Lib.hid (show d + 1 + 1 ≤ maxLen ∧ (d + 1 + 1) * 24 ≤ 140737488355328 from by unfold maxLen; omega)
            have hbd2 := Lib.hid (show ∀ o, base ≤ (W1.alloc o).drew.heap.size from fun o => by simp; omega)
            have kk4 := Lib.hid (show ∀ w4 o, World.grownBy ((W1.alloc o).drew) w4 (Value.ownBlock (.slice (some ⟨g, 0, none⟩) (d + 1) cap)) → ∀ k, k < W1.heap.size → k ≠ g → w4.heap[k]? = W1.heap[k]? from fun w4 o hg3 k hk hn => by
              rw [hg3.block k (by simp; omega) (fun e => by injection e with e; exact hn e)]
              exact Go.heap_alloc_old W1 _ hk)
            have own1' := Lib.hid own1
            have o1' := Lib.hid o1
            have p1' := Lib.hid p1
            have F1' := Lib.hid F1
            have hgadI : ad.block ≠ p := fun e => h2'.out _ hTE (e ▸ h4)
            have g1 : (0 : Int) ≤ (d : Int) + 1 := by omega
            have g2 : ((d : Int) + 1).toNat = d + 1 := by omega
            have g3 : IntKind.i64.wrap ((d : Int) + 1) = (d : Int) + 1 := IntWalk.i64_in _ (by omega)
            have g4 : d + 1 ≤ cap := by have := own_cap ho'.out; omega
            have g5 : (d : Int) + 1 ≤ (cap : Int) := by omega
            have z1' := Lib.hid z1
            clear hi0 hz0 hz1 hz2 own1 o1 p1 F1 z1
            go_region_held3 (fun w' => w'.cell? ⟨ad.block, ad.off + 5, none⟩ = some (.slice kA kn kc))
              (first
                | go_keep
                | exact kk.out
                | exact (World.cell?_of_block (w := w4) (a := ⟨ad.block, ad.off + 5, none⟩) (heap_setCell_other w4 ⟨p, 0, none⟩ ad.block _ hgadI)).trans kk.out)
              ((refine step_append_lies _ (by rfl) (.tmp 33) (.tmp 38) 128 (by rfl) base 40 i0 _ 1 24 Try.underlying128 hi0'.out hz0'.out hz1'.out hz2'.out rfl (by decide) (.slice (some ⟨g, 0, none⟩) (d + 1) cap) (d + 1) (xs.take d ++ [v1]) (by rfl) (hrw.out _)
                  ⟨W1.heap.size, 0, none⟩ 1 1 [.slice kA kn kc] (by rfl) (by rfl) hnews.out hone.out
                  (by decide) hbd.out.1 hbd.out.2 (hbd2.out _) (W1.heap.size + 1) (by simp) ?_; intro g' cap' w4 ho4 hg4 hat hlt4; have kk := Lib.hid ((World.cell?_of_block (w := W1) (w' := w4) (a := ⟨ad.block, ad.off + 5, none⟩) (kk4.out w4 _ hg4 _ hadW hgad)).trans k51); have p4 := (kk4.out w4 _ hg4 p hpW hpg).trans p1'.out; have c4 := cell_of_row w4 p 0 _ _ _ p4; have f4 := frozen_of_row w4 p 0 _ _ p4; have ho4' := Lib.hid ho4; have hg4' := Lib.hid hg4; have hat' := Lib.hid hat; have p4' := Lib.hid p4; clear ho4 hg4 hat p4))
            clear g1 g2 g3 g5
            go_wp2_with fail
            go_quiet (fail)
            go_wp2_with fail
            refine bodyPost_ret (v := .tuple #[.int .i64 (d : Int), .pointer (some ad)]) (by simp [results, Try.results115, go_sem]) rfl ?_
            obtain ⟨q1, q2, q3⟩ := next_done h0.out hbase hs'.out hd'.out hr'.out (by have := ho'.out.1; omega) V1.out hkv'.out (by have h := hNE'.out; rw [show (0 + 0) * 6 = 0 by omega, add_zero] at h; exact h) hg o1'.out z1'.out F1'.out ho4'.out hg4'.out hat'.out p4'.out
            unfold NextPost
            rw [hs'.out, nextV_skip e _ he'.out]
            refine ⟨ad, by rw [hd'.out], q1.drewN _, ?_, q3.drewN _⟩
            exact WalkAt.kept q2 (Nat.le_refl _) (fun _ _ => rfl)
end Go.Proofs.Ytpoenlhikanooaa
/- The node at a path: the program's. -/
namespace Go.Proofs.Ytpoenlhikanooaa
set_option linter.unusedVariables false
open Go.RowKit
set_option maxRecDepth 20000

theorem Owned.node {w w' : World} {T : Nat → Prop} {t : Nd} {aA kA aA0 kA0 : Option Addr} {an ac kn kc an0 ac0 kn0 kc0 gA : Nat} {ks : List KV} (h : Owned w w' T t aA an ac kA kn kc gA ks) (hv : NodeV T w aA0 an0 ac0 kA0 kn0 kc0 t) (hT : ∀ k, T k → k < w.heap.size) :
    NodeV (fun k => T k ∨ (w.heap.size ≤ k ∧ k < w'.heap.size)) w' aA an ac kA kn kc t := by
  have hf := hv.facts
  refine NFacts.node ⟨hf.id, hf.label, hf.text, h.ats.kept (by rintro k rfl; exact .inr h.ga) (fun _ _ => rfl), h.anc, h.acm, h.anil, by rw [← h.map, List.length_map]; exact h.len, h.knc, h.kcm, h.knil, ?_⟩
  rw [← h.map]
  obtain ⟨A, n, c, e, hn, -, -, -, hq⟩ := h.row.shape
  injection e with e1 e2 e3
  subst e1
  refine RowAt.of_kvs ks (fun k hk => KV.ok_kept (fun _ h => .inl h) (fun j hj => h.bel.block j (hT j hj)) (h.ok k hk)) fun q k hk => ?_
  obtain ⟨g, rfl, hb, hlt, hs⟩ := hq q k hk
  exact ⟨⟨g, 0, none⟩, rfl, .inr ⟨hb, hlt⟩, by rw [add_zero_off]; exact hs⟩
theorem set_six {w : World} {g : Nat} {a0 a1 a2 a3 a4 a5 b0 b1 b2 b3 b4 b5 : Value} {ty : TypeId} (h : w.heap[g]? = some (.cells #[a0, a1, a2, a3, a4, a5] ty (0, 0))) :
    ((((((w.setCell ⟨g, 0, none⟩ b0).setCell ⟨g, 1, none⟩ b1).setCell ⟨g, 2, none⟩ b2).setCell ⟨g, 3, none⟩ b3).setCell ⟨g, 4, none⟩ b4).setCell ⟨g, 5, none⟩ b5).heap[g]? = some (.cells #[b0, b1, b2, b3, b4, b5] ty (0, 0)) :=
  by
  have e0 := heap_setCell_same w g 0 _ _ b0 h
  have e1 := heap_setCell_same _ g 1 _ _ b1 e0
  have e2 := heap_setCell_same _ g 2 _ _ b2 e1
  have e3 := heap_setCell_same _ g 3 _ _ b3 e2
  have e4 := heap_setCell_same _ g 4 _ _ b4 e3
  have e5 := heap_setCell_same _ g 5 _ _ b5 e4
  rw [e5]
  simp
theorem set_six_other {w : World} {g k : Nat} {b0 b1 b2 b3 b4 b5 : Value} (h : k ≠ g) :
    ((((((w.setCell ⟨g, 0, none⟩ b0).setCell ⟨g, 1, none⟩ b1).setCell ⟨g, 2, none⟩ b2).setCell ⟨g, 3, none⟩ b3).setCell ⟨g, 4, none⟩ b4).setCell ⟨g, 5, none⟩ b5).heap[k]? = w.heap[k]? :=
  (heap_setCell_other _ _ k _ h).trans ((heap_setCell_other _ _ k _ h).trans ((heap_setCell_other _ _ k _ h).trans ((heap_setCell_other _ _ k _ h).trans ((heap_setCell_other _ _ k _ h).trans (heap_setCell_other _ _ k _ h)))))
theorem below_six {B : Nat} {w0 w : World} {g : Nat} {b0 b1 b2 b3 b4 b5 : Value} (h : Below B w0 w) (hg : B ≤ g) :
    Below B w0 ((((((w.setCell ⟨g, 0, none⟩ b0).setCell ⟨g, 1, none⟩ b1).setCell ⟨g, 2, none⟩ b2).setCell ⟨g, 3, none⟩ b3).setCell ⟨g, 4, none⟩ b4).setCell ⟨g, 5, none⟩ b5) :=
  (((((h.setCell hg _).setCell hg _).setCell hg _).setCell hg _).setCell hg _).setCell hg _
theorem weigh_mem {k : Nd} : ∀ {l : List Nd}, k ∈ l → weighV k ≤ weighsV l
  | m :: r, h => by
    simp only [weighsV]
    rcases List.mem_cons.1 h with rfl | h
    · omega
    · have := weigh_mem h
      omega
theorem weigh_kid {s k : Nd} {j : Nat} (h : s.kids[j]? = some k) : weighV k ≤ weighV s := by
  have := weigh_mem (List.mem_of_getElem? h)
  rw [weighV_eq s]
  omega
theorem weigh_rows (s : Nd) : s.attrs.length ≤ weighV s ∧ s.kids.length ≤ weighV s := by
  have h1 := attrsLen_le s.attrs
  have h2 := kids_le s
  have h3 := count_le s
  rw [weighV_eq s] at h3 ⊢
  omega
def zero6 : Array Value := #[.int .u64 0, .bool false, .string ⟨#[]⟩, .slice none 0 0, .string ⟨#[]⟩, .slice none 0 0]
theorem atV_none {s : Nd} {i : Int} {r : List Int} (h : hasB s.kids.length i = false) : atV s (i :: r) = none := by
  unfold hasB at h
  have h := of_decide_eq_false h
  simp only [atV]
  split
  · rw [List.getElem?_eq_none (by omega)]
  · rfl
theorem atV_some {s k : Nd} {j : Nat} {r : List Int} (h : s.kids[j]? = some k) : atV s ((j : Int) :: r) = atV k r := by
  simp only [atV]
  rw [if_pos (by omega)]
  simp [h]
theorem hasB_cases (n : Nat) (i : Int) : hasB n i = false ∨ ∃ j : Nat, i = (j : Int) ∧ j < n ∧ hasB n i = true := by
  by_cases h : 0 ≤ i ∧ i < (n : Int)
  · exact .inr ⟨i.toNat, by omega, by omega, decide_eq_true h⟩
  · exact .inl (decide_eq_false h)
/-- what At answers -/
def AtAns (w : World) (t : Nd) (p : List Int) (e : Ending) (w' : World) : Prop :=
  ∃ aA an ac kA kn kc, e = .returned (.tuple #[.agg (val6 ((atV t p).getD Nd.zero) aA an ac kA kn kc), .bool (atV t p).isSome]) ∧ NodeV (Old w') w' aA an ac kA kn kc ((atV t p).getD Nd.zero) ∧ Below w.heap.size w w'
set_option maxHeartbeats 4000000 in
theorem at_any (w : World) (t : Nd) (aA kA : Option Addr) (an ac kn kc : Nat) (h : NodeV (Old w) w aA an ac kA kn kc t) (pA : Option Addr) (pn pc : Nat) (p : List Int) (hp : Its w pA pn p) (hpn : pn ≤ maxLen)
    (hbig : weighV t ≤ 1000000) :
    Calls Try.prog 35 #[.agg (val6 t aA an ac kA kn kc), .slice pA pn pc] w (AtAns w t p) := by
  have h' := Lib.hid h
  have hp' := Lib.hid hp
  have hpl := Lib.hid hp.1
  clear h hp
  unfold maxLen at hpn
  unfold val6
  go_enter Try.func35, Try.ntmps35
  go_wp2_with fail
  go_loopw [10] (fun k wr => ∃ (q : Nat) (s : Nd) (sA skA : Option Addr) (sn sc skn skc : Nat), q ≤ pn ∧ k = .int .i64 (q : Int) ∧ atV t p = atV s (p.drop q) ∧ weighV s ≤ 1000000 ∧ NodeV (Old w) w sA sn sc skA skn skc s ∧
    wr.heap[w.heap.size]? = some (.cells (val6 s sA sn sc skA skn skc) 42 (0, 0)) ∧ wr.heap[w.heap.size + 1]? = some (.cells zero6 42 (0, 0)) ∧ Below w.heap.size w wr) (fun k _ => pn - (intOf k).toNat)
  case atStart =>
    exact ⟨0, t, aA, kA, an, ac, kn, kc, Nat.zero_le _, rfl, rfl, hbig, h'.out, two_first w _ _, two_second w _ _, ((Below.refl _ w).alloc (Nat.le_refl _) _).alloc (by simp) _⟩
  case round =>
    obtain ⟨q, s, sA, skA, sn, sc, skn, skc, hq, rfl, hat, hz, hv, hB, hR, hbel⟩ := hrel
    have hf := hv.facts
    have hkl := hf.kl
    have hb := weigh_rows s
    unfold val6 at hB
    unfold zero6 at hR
    obtain ⟨c0, c1, c2, c3, c4, c5, cf⟩ := six_cells hB
    obtain ⟨r0, r1, r2, r3, r4, r5, rf⟩ := six_cells hR
    have hBl := (Array.getElem?_eq_some_iff.1 hB).1
    have hRl := (Array.getElem?_eq_some_iff.1 hR).1
    by_cases h1 : q < pn
    · have h1I : (q : Int) < (pn : Int) := by omega
      obtain ⟨ad, i, rfl, hi, hci⟩ := (hp'.out.below hbel).at_ h1
      have hdrop : p.drop q = i :: p.drop (q + 1) := by
        have hl : q < p.length := by rw [hpl.out]; exact h1
        rw [List.drop_eq_getElem_cons hl]
        rw [List.getElem?_eq_getElem hl] at hi
        injection hi with hi
        rw [hi]
      rw [hdrop] at hat
      have hkm := hf.kcm
      have hknc := hf.knc
      rcases hasB_cases skn i with hno | ⟨j, rfl, hj, hyes⟩
      · have hcall := Lib.hid (hasChild_any wr (s.id : Int) s.leaf s.label s.text sA skA sn sc skn skc i (by omega))
        rw [hno] at hcall
        have hans := Lib.hid (hat.trans (atV_none (by rw [hkl]; exact hno)))
        have hbel' := Lib.hid hbel
        have hR' := Lib.hid hR
        clear hat hf hkl hv hB hR hbel hno hdrop hkm hknc hz hb hi
        go_wp2_with (go_at_call 75; refine hcall.out.mono ?_; rintro e w1 ⟨rfl, hb1⟩; have R1 := (hb1.block _ hRl).trans hR'.out; obtain ⟨d0, d1, d2, d3, d4, d5, df⟩ := six_cells R1)
        have hW : w.heap.size + 1 < w1.heap.size := (Array.getElem?_eq_some_iff.1 R1).1
        have R9 := set_six (b0 := .int .u64 0) (b1 := .bool false) (b2 := .string ⟨#[]⟩) (b3 := .slice none 0 0) (b4 := .string ⟨#[]⟩) (b5 := .slice none 0 0) R1
        have hb9 : Below w.heap.size w _ := below_six (hbel'.out.trans (hb1.mono hbel'.out.size)) (b0 := .int .u64 0) (b1 := .bool false) (b2 := .string ⟨#[]⟩) (b3 := .slice none 0 0) (b4 := .string ⟨#[]⟩) (b5 := .slice none 0 0) (Nat.le_succ w.heap.size)
        generalize ((((((w1.setCell ⟨w.heap.size + 1, 0, none⟩ (.int .u64 0)).setCell ⟨w.heap.size + 1, 1, none⟩ (.bool false)).setCell ⟨w.heap.size + 1, 2, none⟩ (.string ⟨#[]⟩)).setCell ⟨w.heap.size + 1, 3, none⟩ (.slice none 0 0)).setCell ⟨w.heap.size + 1, 4, none⟩ (.string ⟨#[]⟩)).setCell ⟨w.heap.size + 1, 5, none⟩ (.slice none 0 0)) = W9 at R9 hb9 ⊢
        obtain ⟨d0, d1, d2, d3, d4, d5, df⟩ := six_cells R9
        refine bodyPost_ret (v := .tuple #[.agg zero6, .bool false]) (by simp [results, Try.results35, go_sem, d0, d1, d2, d3, d4, d5, zero6]) rfl ?_
        exact ⟨none, 0, 0, none, 0, 0, by rw [hans.out]; rfl, by rw [hans.out]; exact zero_node, hb9⟩
      · obtain ⟨kd, hkd⟩ : ∃ kd, s.kids[j]? = some kd := ⟨s.kids[j]'(by omega), List.getElem?_eq_getElem _⟩
        obtain ⟨ka, rfl, hka, aA3, an3, ac3, kA3, kn3, kc3, hsix, hv3⟩ := hf.row.at_ hkd
        rw [Nat.zero_add] at hka hsix
        have hcall := Lib.hid (hasChild_any wr (s.id : Int) s.leaf s.label s.text sA (some ka) sn sc skn skc (j : Int) (by omega))
        rw [hyes] at hcall
        have hans := Lib.hid (hat.trans (atV_some hkd))
        have hpath := Lib.hid (Nat.le_trans (weigh_kid hkd) hz)
        have hjI : (j : Int) < (skn : Int) := by omega
        have hbel' := Lib.hid hbel
        have hR' := Lib.hid hR
        have hv3' := Lib.hid hv3
        clear hat hf hkl hv hR hbel hyes hdrop hkm hknc hz hb hi hkd hv3
        go_wp2_with (go_at_call 75; refine hcall.out.mono ?_; rintro e w1 ⟨rfl, hb1⟩; have B1 := (hb1.block _ hBl).trans hB; have R1 := (hb1.block _ hRl).trans hR'.out; obtain ⟨d0, d1, d2, d3, d4, d5, df⟩ := six_cells B1; obtain ⟨s0, s1, s2, s3, s4, s5⟩ := hsix.kept (w' := w1) (((hbel'.out.trans (hb1.mono hbel'.out.size))).block _ hka))
        go_roundw
        case rel =>
          have hbw := hbel'.out.trans (hb1.mono hbel'.out.size)
          refine ⟨q + 1, kd, aA3, kA3, an3, ac3, kn3, kc3, by omega, by go_num, hans.out, hpath.out, hv3'.out, set_six B1, (set_six_other (by omega)).trans R1, below_six hbw (Nat.le_refl _)⟩
        case measure => simp [intOf]; omega
    · have h1I : ¬ (q : Int) < (pn : Int) := by omega
      have hans := Lib.hid (show atV t p = some s by rw [hat, List.drop_of_length_le (by rw [hpl.out]; omega)]; rfl)
      have hcall := Lib.hid (owned_any wr (Old w) s sA skA sn sc skn skc (hv.kept (fun _ h => h) (fun k hk => hbel.block k hk)) (fun k hk => Nat.lt_of_lt_of_le hk hbel.size) (by have := hf.ats.1; omega) (by omega))
      have hv' := Lib.hid (hv.kept (w' := wr) (fun _ h => h) (fun k hk => hbel.block k hk))
      have hbel' := Lib.hid hbel
      have hR' := Lib.hid hR
      clear hat hf hkl hv hR hbel hz hb hB
      go_wp2_with (go_at_call 76; refine hcall.out.mono ?_; rintro e w1 ⟨oA, oc, okA, okc, gA, ks, rfl, hO⟩; have R1 := (hO.bel.block _ hRl).trans hR'.out; obtain ⟨d0, d1, d2, d3, d4, d5, df⟩ := six_cells R1; have hO' := Lib.hid hO; clear hO)
      have R9 := set_six (b0 := .int .u64 (s.id : Int)) (b1 := .bool s.leaf) (b2 := .string ⟨s.label.toArray⟩) (b3 := .slice oA sn oc) (b4 := .string ⟨s.text.toArray⟩) (b5 := .slice okA skn okc) R1
      have hO := hO'.out
      have hbw := hbel'.out.trans (hO.bel.mono hbel'.out.size)
      have hb9 : Below w.heap.size w _ := below_six hbw (b0 := .int .u64 (s.id : Int)) (b1 := .bool s.leaf) (b2 := .string ⟨s.label.toArray⟩) (b3 := .slice oA sn oc) (b4 := .string ⟨s.text.toArray⟩) (b5 := .slice okA skn okc) (Nat.le_succ w.heap.size)
      have hz1 := hO.bel.size
      have hN : NodeV (Old ((((((w1.setCell ⟨w.heap.size + 1, 0, none⟩ (.int .u64 (s.id : Int))).setCell ⟨w.heap.size + 1, 1, none⟩ (.bool s.leaf)).setCell ⟨w.heap.size + 1, 2, none⟩ (.string ⟨s.label.toArray⟩)).setCell ⟨w.heap.size + 1, 3, none⟩ (.slice oA sn oc)).setCell ⟨w.heap.size + 1, 4, none⟩ (.string ⟨s.text.toArray⟩)).setCell ⟨w.heap.size + 1, 5, none⟩ (.slice okA skn okc))) ((((((w1.setCell ⟨w.heap.size + 1, 0, none⟩ (.int .u64 (s.id : Int))).setCell ⟨w.heap.size + 1, 1, none⟩ (.bool s.leaf)).setCell ⟨w.heap.size + 1, 2, none⟩ (.string ⟨s.label.toArray⟩)).setCell ⟨w.heap.size + 1, 3, none⟩ (.slice oA sn oc)).setCell ⟨w.heap.size + 1, 4, none⟩ (.string ⟨s.text.toArray⟩)).setCell ⟨w.heap.size + 1, 5, none⟩ (.slice okA skn okc)) oA sn oc okA skn okc s := (hO.node hv'.out (fun k hk => Nat.lt_of_lt_of_le hk hbel'.out.size)).kept (fun k hk => by
          show k < _
          have hsz := hbel'.out.size
          simp only [World.size_setCell]
          rcases hk with hk | hk
          · have : k < w.heap.size := hk
            omega
          · exact hk.2) (fun k hk => set_six_other (by
          rcases hk with hk | hk
          · have : k < w.heap.size := hk
            omega
          · omega))
      generalize ((((((w1.setCell ⟨w.heap.size + 1, 0, none⟩ (.int .u64 (s.id : Int))).setCell ⟨w.heap.size + 1, 1, none⟩ (.bool s.leaf)).setCell ⟨w.heap.size + 1, 2, none⟩ (.string ⟨s.label.toArray⟩)).setCell ⟨w.heap.size + 1, 3, none⟩ (.slice oA sn oc)).setCell ⟨w.heap.size + 1, 4, none⟩ (.string ⟨s.text.toArray⟩)).setCell ⟨w.heap.size + 1, 5, none⟩ (.slice okA skn okc)) = W9 at R9 hb9 hN ⊢
      obtain ⟨f0, f1, f2, f3, f4, f5, ff⟩ := six_cells R9
      refine bodyPost_ret (v := .tuple #[.agg (val6 s oA sn oc okA skn okc), .bool true]) (by simp [results, Try.results35, go_sem, f0, f1, f2, f3, f4, f5, val6]) rfl ?_
      exact ⟨oA, sn, oc, okA, skn, okc, by rw [hans.out]; rfl, by rw [hans.out]; exact hN, hb9⟩
end Go.Proofs.Ytpoenlhikanooaa
/- How much a tree has: bowerkit's. -/
namespace Go.Proofs.Ytpoenlhikanooaa
set_option linter.unusedVariables false
open Go.RowKit
set_option maxRecDepth 20000

theorem attrsW_take : ∀ (xs : List (Txt × Txt)) (q : Nat) (x : Txt × Txt), xs[q]? = some x → attrsW (xs.take (q + 1)) = attrsW (xs.take q) + (1 + x.1.length + x.2.length)
  | [], q, x, h => by simp at h
  | a :: r, 0, x, h => by
    simp at h
    subst h
    simp [attrsW]
  | a :: r, q + 1, x, h => by
    have ih := attrsW_take r q x (by simpa using h)
    simp only [List.take_succ_cons, attrsW]
    omega
theorem weighs_take : ∀ (xs : List Nd) (q : Nat) (x : Nd), xs[q]? = some x → weighsV (xs.take (q + 1)) = weighsV (xs.take q) + weighV x
  | [], q, x, h => by simp at h
  | a :: r, 0, x, h => by
    simp at h
    subst h
    simp [weighsV]
  | a :: r, q + 1, x, h => by
    have ih := weighs_take r q x (by simpa using h)
    simp only [List.take_succ_cons, weighsV]
    omega
def WeightOk (w : World) (t : Nd) (top : Nat) (e : Ending) (w' : World) : Prop := ∃ x : Nat, e = .returned (.int .i64 (x : Int)) ∧ x ≤ 3 * top + 1 ∧ (x ≤ top → x = weighV t) ∧ Below w.heap.size w w'
set_option maxHeartbeats 8000000 in
theorem weight_any (t : Nd) : ∀ (w : World) (aA kA : Option Addr) (an ac kn kc top : Nat), NodeV (Old w) w aA an ac kA kn kc t → top ≤ 1000000 →
    Calls Try.prog 24 #[.agg (val6 t aA an ac kA kn kc), .int .i64 (top : Int)] w (WeightOk w t top) := by
  induction t using Nd.ind with
  | _ t ih =>
  intro w aA kA an ac kn kc top h htop
  have ih' := Lib.hid ih
  have hf := h.facts
  have f1 := Lib.hid hf.ats
  have f1l := Lib.hid hf.ats.1
  have f3 := hf.anc
  have f3m := hf.acm
  have f4 := Lib.hid hf.row
  have f6 := hf.knc
  have f6m := hf.kcm
  have f7 := Lib.hid hf.kl
  have hlab := hf.label
  have htxt := hf.text
  unfold maxLen at hlab htxt f3m f6m
  clear ih h hf
  have early := Lib.hid (show ∀ W, Below w.heap.size w W → WeightOk w t top (.returned (.int .i64 ((top : Int) + 1))) W from fun W hb => ⟨top + 1, rfl, by omega, fun h => by omega, hb⟩)
  obtain ⟨lab, hlb⟩ : ∃ lab, lab = t.label.length := ⟨_, rfl⟩
  obtain ⟨tx, htx⟩ : ∃ tx, tx = t.text.length := ⟨_, rfl⟩
  have hW := Lib.hid (show weighV t = 1 + lab + tx + attrsW t.attrs + weighsV t.kids by rw [weighV_eq, hlb, htx])
  unfold val6
  by_cases h1 : lab ≤ top
  · by_cases h2 : tx ≤ top
    · by_cases h3 : an ≤ top
      · have h1I : ¬ (top : Int) < (t.label.length : Int) := by omega
        have h2I : ¬ (top : Int) < (t.text.length : Int) := by omega
        have h3I : ¬ (top : Int) < (an : Int) := by omega
        go_enter Try.func24, Try.ntmps24
        go_wp2_with fail
        go_loopw [5, 6] (fun s k wr => ∃ q : Nat, q ≤ an ∧ k = .int .i64 (q : Int) ∧ s = .int .i64 ((1 + lab + tx + attrsW (t.attrs.take q) : Nat) : Int) ∧ 1 + lab + tx + attrsW (t.attrs.take q) ≤ 3 * top + 1 ∧
          wr.heap[w.heap.size]? = some (.cells (val6 t aA an ac kA kn kc) 42 (0, 0)) ∧ Below w.heap.size w wr) (fun _ k _ => an - (intOf k).toNat)
        case atStart => exact ⟨0, Nat.zero_le _, rfl, by simp [attrsW, hlb, htx], by simp [attrsW]; omega, heap_alloc_new w _, (Below.refl _ _).alloc (Nat.le_refl _) _⟩
        case round =>
          obtain ⟨q, hq, rfl, rfl, hs3, hB, hbel⟩ := hrel
          obtain ⟨s, hs⟩ : ∃ s, s = 1 + lab + tx + attrsW (t.attrs.take q) := ⟨_, rfl⟩
          rw [← hs] at hs3 ⊢
          unfold val6 at hB
          obtain ⟨c0, c1, c2, c3, c4, c5, cf⟩ := six_cells hB
          by_cases g1 : q < an ∧ s ≤ top
          · have g1I : (q : Int) < (an : Int) := by omega
            have g2I : (s : Int) ≤ (top : Int) := by omega
            obtain ⟨ad, x, rfl, hxq, hlt, x1, x2, x3, x4⟩ := (f1.out.kept (T' := Old w) (fun _ h => h) (fun k hk => hbel.block k hk)).at_ g1.1
            have hst := attrsW_take _ _ _ hxq
            obtain ⟨ky, va⟩ := x
            simp only at *
            unfold maxLen at x1 x2
            by_cases g3 : ky.length ≤ top
            · have g3I : ¬ (top : Int) < (ky.length : Int) := by omega
              by_cases g4 : va.length ≤ top
              · have g4I : ¬ (top : Int) < (va.length : Int) := by omega
                have hs2 := Lib.hid (show 1 + lab + tx + attrsW (t.attrs.take (q + 1)) = s + 1 + ky.length + va.length by omega)
                have hB' := Lib.hid hB
                have hbel' := Lib.hid hbel
                clear hst hs hxq hbel hB hlb htx
                go_wp2_with fail
                go_quiet (fail)
                go_wp2_with fail
                go_roundw
                case rel => exact ⟨q + 1, by omega, by go_num, by rw [hs2.out]; go_num, by rw [hs2.out]; omega, hB'.out, draws hbel'.out _⟩
                case measure => simp [intOf]; omega
              · have g4I : (top : Int) < (va.length : Int) := by omega
                have hbel' := Lib.hid hbel
                clear hst hs hxq hbel hB hlb htx
                go_wp2_with fail
                go_ret
                exact early.out _ hbel'.out
            · have g3I : (top : Int) < (ky.length : Int) := by omega
              have hbel' := Lib.hid hbel
              clear hst hs hxq hbel hB hlb htx
              go_wp2_with fail
              go_ret
              exact early.out _ hbel'.out
          · have hfull : s ≤ top → s = 1 + lab + tx + attrsW t.attrs := fun h => by
              have : q = an := by omega
              rw [hs, List.take_of_length_le (by rw [f1l.out]; omega)]
            have hfull' := Lib.hid hfull
            have hbel' := Lib.hid hbel
            have hB' := Lib.hid hB
            have hs1 : 1 ≤ s := by omega
            have hout := Lib.hid hs
            clear hs hfull hbel hlb htx
            by_cases g2 : q < an
            · have g2I : (q : Int) < (an : Int) := by omega
              have g3I : ¬ (s : Int) ≤ (top : Int) := by omega
              clear g1
              go_wp2_with fail
              go_loopw [5, 7] (fun u k wr => ∃ (q2 s2 : Nat), q2 ≤ kn ∧ k = .int .i64 (q2 : Int) ∧ u = .int .i64 (s2 : Int) ∧ 1 ≤ s2 ∧ s2 ≤ 3 * top + 1 ∧ (s2 ≤ top → s2 = 1 + lab + tx + attrsW t.attrs + weighsV (t.kids.take q2)) ∧
                wr.heap[w.heap.size]? = some (.cells (val6 t aA an ac kA kn kc) 42 (0, 0)) ∧ Below w.heap.size w wr) (fun _ k _ => kn - (intOf k).toNat)
              case atStart => exact ⟨0, s, Nat.zero_le _, rfl, rfl, hs1, hs3, fun h => by rw [hfull'.out h]; simp [weighsV], hB'.out, hbel'.out⟩
              case round =>
                obtain ⟨q2, s2, hq2, rfl, rfl, hp1, hp2, hp3, hB2, hbel2⟩ := hrel
                have hp3' := Lib.hid hp3
                have hB2' := Lib.hid hB2
                have hbel2' := Lib.hid hbel2
                unfold val6 at hB2
                obtain ⟨e0, e1, e2, e3, e4, e5, ef⟩ := six_cells hB2
                clear hB2 hp3 hbel2 c0 c1 c2 c3 c4 c5 cf
                by_cases m1 : q2 < kn
                · have m1I : (q2 : Int) < (kn : Int) := by omega
                  by_cases m2 : s2 ≤ top
                  · have m2I : (s2 : Int) ≤ (top : Int) := by omega
                    obtain ⟨kd, hkd⟩ : ∃ kd, t.kids[q2]? = some kd := ⟨t.kids[q2]'(by rw [f7.out]; exact m1), List.getElem?_eq_getElem _⟩
                    obtain ⟨ka, rfl, hka, aA3, an3, ac3, kA3, kn3, kc3, hsix, hv3⟩ := (f4.out.kept (T' := Old w) (w' := wr) (fun _ h => h) (fun k hk => hbel2'.out.block k hk)).at_ hkd
                    rw [Nat.zero_add] at hka hsix
                    have hwt := Lib.hid (weighs_take _ _ _ hkd)
                    have hcall := Lib.hid (ih'.out kd (List.mem_of_getElem? hkd) wr aA3 kA3 an3 ac3 kn3 kc3 (top - s2) (hv3.kept (fun k hk => Nat.lt_of_lt_of_le hk hbel2'.out.size) (fun _ _ => rfl)) (by omega))
                    obtain ⟨s0, s1', s2', s3, s4, s5⟩ := hsix
                    obtain ⟨rs, hrs⟩ : ∃ rs, rs = top - s2 := ⟨_, rfl⟩
                    have hrsI : (top : Int) - (s2 : Int) = (rs : Int) := by omega
                    have hrs' := Lib.hid hrs
                    rw [← hrs] at hcall
                    have hrb : rs + s2 = top := by omega
                    clear hrs hkd hv3 hka
                    unfold WeightOk val6 at hcall
                    go_wp2_with fail
                    refine hcall.out.mono ?_
                    rintro e w2 ⟨x, rfl, hx1, hx2, hb2⟩
                    have hx2' := Lib.hid hx2
                    clear hx2 hcall
                    go_wp2_with fail
                    go_roundw
                    case rel =>
                      refine ⟨q2 + 1, s2 + x, by omega, by go_num, by go_num, by omega, by omega, fun h => ?_, (hb2.block _ (by have := (Array.getElem?_eq_some_iff.1 hB2'.out).1; omega)).trans hB2'.out, hbel2'.out.trans (hb2.mono hbel2'.out.size)⟩
                      rw [hwt.out, hp3'.out (by omega), hx2'.out (by omega)]
                      have := hp3'.out (by omega)
                      omega
                    case measure => simp [intOf]; omega
                  · have m2I : ¬ (s2 : Int) ≤ (top : Int) := by omega
                    go_wp2_with fail
                    go_ret
                    exact ⟨s2, rfl, hp2, fun h => absurd h m2, hbel2'.out⟩
                · have m1I : ¬ (q2 : Int) < (kn : Int) := by omega
                  go_wp2_with fail
                  go_ret
                  refine ⟨s2, rfl, hp2, fun h => ?_, hbel2'.out⟩
                  rw [hW.out, hp3'.out h, List.take_of_length_le (by rw [f7.out]; omega)]
            · have g2I : ¬ (q : Int) < (an : Int) := by omega
              clear g1
              go_wp2_with fail
              go_loopw [5, 7] (fun u k wr => ∃ (q2 s2 : Nat), q2 ≤ kn ∧ k = .int .i64 (q2 : Int) ∧ u = .int .i64 (s2 : Int) ∧ 1 ≤ s2 ∧ s2 ≤ 3 * top + 1 ∧ (s2 ≤ top → s2 = 1 + lab + tx + attrsW t.attrs + weighsV (t.kids.take q2)) ∧
                wr.heap[w.heap.size]? = some (.cells (val6 t aA an ac kA kn kc) 42 (0, 0)) ∧ Below w.heap.size w wr) (fun _ k _ => kn - (intOf k).toNat)
              case atStart => exact ⟨0, s, Nat.zero_le _, rfl, rfl, hs1, hs3, fun h => by rw [hfull'.out h]; simp [weighsV], hB'.out, hbel'.out⟩
              case round =>
                obtain ⟨q2, s2, hq2, rfl, rfl, hp1, hp2, hp3, hB2, hbel2⟩ := hrel
                have hp3' := Lib.hid hp3
                have hB2' := Lib.hid hB2
                have hbel2' := Lib.hid hbel2
                unfold val6 at hB2
                obtain ⟨e0, e1, e2, e3, e4, e5, ef⟩ := six_cells hB2
                clear hB2 hp3 hbel2 c0 c1 c2 c3 c4 c5 cf
                by_cases m1 : q2 < kn
                · have m1I : (q2 : Int) < (kn : Int) := by omega
                  by_cases m2 : s2 ≤ top
                  · have m2I : (s2 : Int) ≤ (top : Int) := by omega
                    obtain ⟨kd, hkd⟩ : ∃ kd, t.kids[q2]? = some kd := ⟨t.kids[q2]'(by rw [f7.out]; exact m1), List.getElem?_eq_getElem _⟩
                    obtain ⟨ka, rfl, hka, aA3, an3, ac3, kA3, kn3, kc3, hsix, hv3⟩ := (f4.out.kept (T' := Old w) (w' := wr) (fun _ h => h) (fun k hk => hbel2'.out.block k hk)).at_ hkd
                    rw [Nat.zero_add] at hka hsix
                    have hwt := Lib.hid (weighs_take _ _ _ hkd)
                    have hcall := Lib.hid (ih'.out kd (List.mem_of_getElem? hkd) wr aA3 kA3 an3 ac3 kn3 kc3 (top - s2) (hv3.kept (fun k hk => Nat.lt_of_lt_of_le hk hbel2'.out.size) (fun _ _ => rfl)) (by omega))
                    obtain ⟨s0, s1', s2', s3, s4, s5⟩ := hsix
                    obtain ⟨rs, hrs⟩ : ∃ rs, rs = top - s2 := ⟨_, rfl⟩
                    have hrsI : (top : Int) - (s2 : Int) = (rs : Int) := by omega
                    have hrs' := Lib.hid hrs
                    rw [← hrs] at hcall
                    have hrb : rs + s2 = top := by omega
                    clear hrs hkd hv3 hka
                    unfold WeightOk val6 at hcall
                    go_wp2_with fail
                    refine hcall.out.mono ?_
                    rintro e w2 ⟨x, rfl, hx1, hx2, hb2⟩
                    have hx2' := Lib.hid hx2
                    clear hx2 hcall
                    go_wp2_with fail
                    go_roundw
                    case rel =>
                      refine ⟨q2 + 1, s2 + x, by omega, by go_num, by go_num, by omega, by omega, fun h => ?_, (hb2.block _ (by have := (Array.getElem?_eq_some_iff.1 hB2'.out).1; omega)).trans hB2'.out, hbel2'.out.trans (hb2.mono hbel2'.out.size)⟩
                      rw [hwt.out, hp3'.out (by omega), hx2'.out (by omega)]
                      have := hp3'.out (by omega)
                      omega
                    case measure => simp [intOf]; omega
                  · have m2I : ¬ (s2 : Int) ≤ (top : Int) := by omega
                    go_wp2_with fail
                    go_ret
                    exact ⟨s2, rfl, hp2, fun h => absurd h m2, hbel2'.out⟩
                · have m1I : ¬ (q2 : Int) < (kn : Int) := by omega
                  go_wp2_with fail
                  go_ret
                  refine ⟨s2, rfl, hp2, fun h => ?_, hbel2'.out⟩
                  rw [hW.out, hp3'.out h, List.take_of_length_le (by rw [f7.out]; omega)]
      · have h1I : ¬ (top : Int) < (t.label.length : Int) := by omega
        have h2I : ¬ (top : Int) < (t.text.length : Int) := by omega
        have h3I : (top : Int) < (an : Int) := by omega
        go_enter Try.func24, Try.ntmps24
        go_wp2_with fail
        go_ret
        exact early.out _ ((Below.refl _ _).alloc (Nat.le_refl _) _)
    · have h1I : ¬ (top : Int) < (t.label.length : Int) := by omega
      have h2I : (top : Int) < (t.text.length : Int) := by omega
      go_enter Try.func24, Try.ntmps24
      go_wp2_with fail
      go_ret
      exact early.out _ ((Below.refl _ _).alloc (Nat.le_refl _) _)
  · have h1I : (top : Int) < (t.label.length : Int) := by omega
    go_enter Try.func24, Try.ntmps24
    go_wp2_with fail
    go_ret
    exact early.out _ ((Below.refl _ _).alloc (Nat.le_refl _) _)
end Go.Proofs.Ytpoenlhikanooaa
/- How many, how deep, how long: the document's. -/
namespace Go.Proofs.Ytpoenlhikanooaa
set_option linter.unusedVariables false
open Go.RowKit
set_option maxRecDepth 20000

theorem take_snoc {α : Type} {l : List α} {q : Nat} {x : α} (h : l[q]? = some x) : l.take (q + 1) = l.take q ++ [x] := by
  rw [List.take_add_one, h]
  rfl
theorem kid_at {w wr : World} {t kd : Nd} {kA : Option Addr} {q : Nat} (hr : RowAt (Old w) w kA 0 t.kids) (hk : t.kids[q]? = some kd) (hb : Below w.heap.size w wr) :
    ∃ (ka : Addr) (aA : Option Addr) (an ac : Nat) (kA' : Option Addr) (kn kc : Nat), kA = some ka ∧ Six wr (ka.add (q * 6)) kd aA an ac kA' kn kc ∧ NodeV (Old wr) wr aA an ac kA' kn kc kd := by
  obtain ⟨ka, rfl, hka, aA3, an3, ac3, kA3, kn3, kc3, hsix, hv3⟩ := (hr.kept (T' := Old w) (w' := wr) (fun _ h => h) (fun k hk => hb.block k hk)).at_ hk
  rw [Nat.zero_add] at hka hsix
  exact ⟨ka, aA3, an3, ac3, kA3, kn3, kc3, rfl, hsix, hv3.kept (fun k hk => Nat.lt_of_lt_of_le hk hb.size) (fun _ _ => rfl)⟩
theorem get_kid {l : List Nd} {q n : Nat} (hl : l.length = n) (hq : q < n) : ∃ kd, l[q]? = some kd := ⟨l[q]'(by omega), List.getElem?_eq_getElem _⟩
theorem counts_upto (l : List Nd) (q : Nat) : countsV (l.take q) ≤ countsV l := by
  have h := countsV_append (l.take q) (l.drop q)
  rw [List.take_append_drop] at h
  omega
end Go.Proofs.Ytpoenlhikanooaa
/- A tree with a hole: what a node comes to that is put into it. -/
namespace Go.Proofs.Ytpoenlhikanooaa
set_option linter.unusedVariables false
open Go.RowKit
set_option maxRecDepth 20000

/-- all blocks but the one of the answer -/
def Ex (b0 : Nat) (W : World) (k : Nat) : Prop := k < W.heap.size ∧ k ≠ b0 + 1 + 1
/-- whatever comes to lie at ⟨eb, eo⟩: what then lies at the block b0 -/
def Hole (b0 : Nat) (W : World) (eb eo : Nat) (f : Nd → Nd) : Prop :=
  ∀ (W' : World) (z : Nd), W.heap.size ≤ W'.heap.size → (∀ k, k < W.heap.size → k ≠ eb → W'.heap[k]? = W.heap[k]?) → (∀ o, (o < eo ∨ eo + 5 < o) → W'.cell? ⟨eb, o, none⟩ = W.cell? ⟨eb, o, none⟩) →
    NodeAt (Ex b0 W') W' ⟨eb, eo, none⟩ z → NodeAt (Ex b0 W') W' ⟨b0, 0, none⟩ (f z)
/-- six cells are written at ⟨g, e⟩ -/
def six (w : World) (g e : Nat) (b0 b1 b2 b3 b4 b5 : Value) : World :=
  (((((w.setCell ⟨g, e, none⟩ b0).setCell ⟨g, e + 1, none⟩ b1).setCell ⟨g, e + 2, none⟩ b2).setCell ⟨g, e + 3, none⟩ b3).setCell ⟨g, e + 4, none⟩ b4).setCell ⟨g, e + 5, none⟩ b5
section
variable {w : World} {g e : Nat} {b0 b1 b2 b3 b4 b5 : Value} {cs : Array Value} {ty : TypeId}
theorem six_row (h : w.heap[g]? = some (.cells cs ty (0, 0))) : (six w g e b0 b1 b2 b3 b4 b5).heap[g]? = some (.cells ((((((cs.setIfInBounds e b0).setIfInBounds (e + 1) b1).setIfInBounds (e + 2) b2).setIfInBounds (e + 3) b3).setIfInBounds (e + 4) b4).setIfInBounds (e + 5) b5) ty (0, 0)) := by
  unfold six
  have e0 := heap_setCell_same w g e _ _ b0 h
  have e1 := heap_setCell_same _ g (e + 1) _ _ b1 e0
  have e2 := heap_setCell_same _ g (e + 2) _ _ b2 e1
  have e3 := heap_setCell_same _ g (e + 3) _ _ b3 e2
  have e4 := heap_setCell_same _ g (e + 4) _ _ b4 e3
  exact heap_setCell_same _ g (e + 5) _ _ b5 e4
theorem six_other {k : Nat} (h : k ≠ g) : (six w g e b0 b1 b2 b3 b4 b5).heap[k]? = w.heap[k]? := by
  unfold six
  exact (heap_setCell_other _ _ k _ h).trans ((heap_setCell_other _ _ k _ h).trans ((heap_setCell_other _ _ k _ h).trans ((heap_setCell_other _ _ k _ h).trans ((heap_setCell_other _ _ k _ h).trans (heap_setCell_other _ _ k _ h)))))
theorem six_size : (six w g e b0 b1 b2 b3 b4 b5).heap.size = w.heap.size := by unfold six; simp
theorem six_below {B : Nat} {v : World} (h : Below B v w) (hg : B ≤ g) : Below B v (six w g e b0 b1 b2 b3 b4 b5) := by
  unfold six
  exact (((((h.setCell hg _).setCell hg _).setCell hg _).setCell hg _).setCell hg _).setCell hg _
theorem six_out (h : w.heap[g]? = some (.cells cs ty (0, 0))) {o : Nat} (ho : o < e ∨ e + 5 < o) : (six w g e b0 b1 b2 b3 b4 b5).cell? ⟨g, o, none⟩ = w.cell? ⟨g, o, none⟩ := by
  rw [cell_of_row _ g o _ _ _ (six_row h), cell_of_row w g o _ _ _ h]
  rw [Array.getElem?_setIfInBounds_ne (by omega), Array.getElem?_setIfInBounds_ne (by omega), Array.getElem?_setIfInBounds_ne (by omega), Array.getElem?_setIfInBounds_ne (by omega), Array.getElem?_setIfInBounds_ne (by omega), Array.getElem?_setIfInBounds_ne (by omega)]
theorem six_in (h : w.heap[g]? = some (.cells cs ty (0, 0))) (hs : e + 5 < cs.size) :
    let W := six w g e b0 b1 b2 b3 b4 b5
    W.cell? ⟨g, e, none⟩ = some b0 ∧ W.cell? ⟨g, e + 1, none⟩ = some b1 ∧ W.cell? ⟨g, e + 2, none⟩ = some b2 ∧ W.cell? ⟨g, e + 3, none⟩ = some b3 ∧ W.cell? ⟨g, e + 4, none⟩ = some b4 ∧ W.cell? ⟨g, e + 5, none⟩ = some b5 := by
  have c := fun o => cell_of_row _ g o _ _ _ (six_row (e := e) (b0 := b0) (b1 := b1) (b2 := b2) (b3 := b3) (b4 := b4) (b5 := b5) h)
  refine ⟨?_, ?_, ?_, ?_, ?_, ?_⟩
  all_goals rw [c]
  all_goals simp only [Array.getElem?_setIfInBounds, Array.size_setIfInBounds]
  · rw [if_neg (by omega), if_neg (by omega), if_neg (by omega), if_neg (by omega), if_neg (by omega), if_pos trivial, if_pos (by omega)]
  · rw [if_neg (by omega), if_neg (by omega), if_neg (by omega), if_neg (by omega), if_pos trivial, if_pos (by omega)]
  · rw [if_neg (by omega), if_neg (by omega), if_neg (by omega), if_pos trivial, if_pos (by omega)]
  · rw [if_neg (by omega), if_neg (by omega), if_pos trivial, if_pos (by omega)]
  · rw [if_neg (by omega), if_pos trivial, if_pos (by omega)]
  · rw [if_pos trivial, if_pos (by omega)]
end
theorem six_with (w : World) (E : Addr) (t : Nd) (l : List Nd) (aA kA : Option Addr) (an ac kn kc : Nat) : Six w E (t.withKids l) aA an ac kA kn kc ↔ Six w E t aA an ac kA kn kc := by cases t; exact Iff.rfl
theorem hole_step {w W W1 W2 : World} {b0 eb eo : Nat} {f : Nd → Nd} {s : Nd} {sA skA aA kA : Option Addr} {sn sc skn skc an ac kn kc gA j : Nat} {ks : List KV} (hb : Below w.heap.size w W) (hb0 : b0 = w.heap.size) (hr : b0 + 1 + 1 < W.heap.size) (hre : eb ≠ b0 + 1 + 1) (hole : Hole b0 W eb eo f) (heb : eb < W.heap.size) (hew : w.heap.size ≤ eb)
    (hO : Owned W W1 (Old w) s aA an ac kA kn kc gA ks) (hv : NodeV (Old w) W sA sn sc skA skn skc s) (s1 : W2.heap.size = W1.heap.size) (s2 : ∀ k, k ≠ eb → W2.heap[k]? = W1.heap[k]?) (s3 : ∀ o, (o < eo ∨ eo + 5 < o) → W2.cell? ⟨eb, o, none⟩ = W1.cell? ⟨eb, o, none⟩)
    (s4 : Six W2 ⟨eb, eo, none⟩ s aA an ac kA kn kc) (hj : j < kn) :
    ∃ g kv cur, kA = some ⟨g, 0, none⟩ ∧ W.heap.size ≤ g ∧ g < W1.heap.size ∧ Hole b0 W2 g (j * 6) (fun z => f (s.withKids (s.kids.set j z))) ∧ ks[j]? = some kv ∧ s.kids[j]? = some kv.t ∧ kv.six W2 ⟨g, j * 6, none⟩ ∧ kv.ok (Old w) W ∧ W2.heap[g]? = some (.cells cur 42 (0, 0)) ∧ j * 6 + 5 < cur.size := by
  have hlen := hO.len
  have hbel := hO.bel
  have hz := hbel.size
  obtain ⟨A, n, c, e, hn, hnc, -, -, hq⟩ := hO.row.shape
  injection e with e1 e2 e3
  subst e1 e2 e3
  obtain ⟨kv, hkv⟩ : ∃ kv, ks[j]? = some kv := ⟨ks[j]'(by omega), List.getElem?_eq_getElem _⟩
  obtain ⟨g, rfl, hg1, hg2, hgs⟩ := hq j kv hkv
  have hge : g ≠ eb := by omega
  obtain ⟨cur, hcur, hcsz⟩ : ∃ cur, W1.heap[g]? = some (.cells cur 42 (0, 0)) ∧ j * 6 + 5 < cur.size := by
    rcases hO.row.2 with ⟨h0, h1⟩ | ⟨g', cap, cur, e, -, hg, hcap, -, hsz, -⟩
    · cases h0
    · injection e with e1 e2 e3
      injection e1 with e1
      injection e1 with e1
      subst e1
      exact ⟨cur, hg, by rw [hsz]; omega⟩
  have hgn : g ≠ gA := hO.ne _ rfl
  have hkt : ∀ (q : Nat) (v : KV), ks[q]? = some v → s.kids[q]? = some v.t := fun q v h => by rw [← hO.map, List.getElem?_map, h]; rfl
  have b12 : ∀ k, k ≠ eb → k < W1.heap.size → W2.heap[k]? = W1.heap[k]? := fun k h _ => s2 k h
  refine ⟨g, kv, cur, rfl, hg1, hg2, ?_, hkv, hkt j kv hkv, hgs.kept (b12 g hge hg2), hO.ok kv (List.mem_of_getElem? hkv), (s2 g hge).trans hcur, hcsz⟩
  intro W' z hzs hother hcell hN
  have hbe : W'.heap[eb]? = W2.heap[eb]? := hother eb (by omega) (fun e => hge e.symm)
  refine hole W' (s.withKids (s.kids.set j z)) (by omega) (fun k hk hne => (hother k (by omega) (by omega)).trans ((s2 k hne).trans (hbel.block k hk))) (fun o ho => ?_) ?_
  · exact (World.cell?_of_block (a := ⟨eb, o, none⟩) hbe).trans ((s3 o ho).trans (World.cell?_of_block (a := ⟨eb, o, none⟩) (hbel.block eb heb)))
  · refine ⟨⟨by show eb < _; omega, hre⟩, aA, an, ac, some ⟨g, 0, none⟩, kn, kc, (six_with ..).2 (s4.kept hbe), ?_⟩
    have hf := hv.facts
    have hga := hO.ga
    have hat : AtsIn (Ex b0 W') W' aA an s.attrs := hO.ats.kept (fun k hk => by subst hk; exact ⟨by omega, by omega⟩) (fun k hk => by subst hk; exact (hother k (by omega) (fun e => hgn e.symm)).trans (s2 k (by omega)))
    have hrow : RowAt (Ex b0 W') W' (some ⟨g, 0, none⟩) 0 (s.kids.set j z) := by
      refine RowAt.of _ 0 fun q t hqt => ⟨_, rfl, ?_⟩
      rw [Nat.zero_add, add_zero_off]
      by_cases hqj : q = j
      · subst hqj
        rw [List.getElem?_set_self (by have := hf.kl; have := (List.getElem?_eq_some_iff.1 (hkt q kv hkv)).1; omega)] at hqt
        injection hqt with hqt
        subst hqt
        exact hN
      · rw [List.getElem?_set_ne (fun e => hqj e.symm)] at hqt
        obtain ⟨v, hvq⟩ : ∃ v, ks[q]? = some v := by
          have := (List.getElem?_eq_some_iff.1 hqt).1
          have hm : ks.length = s.kids.length := by rw [← hO.map, List.length_map]
          exact ⟨ks[q]'(by omega), List.getElem?_eq_getElem _⟩
        have hvt := hkt q v hvq
        rw [hqt] at hvt
        injection hvt with hvt
        subst hvt
        obtain ⟨g', eg, -, -, h6⟩ := hq q v hvq
        injection eg with eg
        injection eg with eg
        subst eg
        have hc6 : ∀ o, o < q * 6 + 6 → q * 6 ≤ o → W'.cell? ⟨g, o, none⟩ = W1.cell? ⟨g, o, none⟩ := fun o h1 h2 => (hcell o (by omega)).trans (World.cell?_of_block (a := ⟨g, o, none⟩) (s2 g hge))
        obtain ⟨t0, t1, t2, t3, t4, t5⟩ := h6
        refine ⟨⟨by show g < _; omega, by show g ≠ _; omega⟩, v.aA, v.an, v.ac, v.kA, v.kn, v.kc, ⟨(hc6 (q * 6) (by omega) (by omega)).trans t0, (hc6 (q * 6 + 1) (by omega) (by omega)).trans t1, (hc6 (q * 6 + 2) (by omega) (by omega)).trans t2, (hc6 (q * 6 + 3) (by omega) (by omega)).trans t3, (hc6 (q * 6 + 4) (by omega) (by omega)).trans t4, (hc6 (q * 6 + 5) (by omega) (by omega)).trans t5⟩, ?_⟩
        refine NodeV.kept (T := Old w) (w := W) (fun k hk => ?_) (fun k hk => ?_) _ _ _ _ _ _ _ (hO.ok v (List.mem_of_getElem? hvq))
        · have hk' : k < w.heap.size := hk
          exact ⟨by omega, by omega⟩
        · have hk' : k < w.heap.size := hk
          exact (hother k (by omega) (by omega)).trans ((s2 k (by omega)).trans (hbel.block k (by omega)))
    have hkl : (s.kids.set j z).length = kn := by
      rw [List.length_set, ← hO.map, List.length_map]
      exact hlen
    have hfi := hf.id
    have hfl := hf.label
    have hft := hf.text
    cases s
    exact NFacts.node ⟨hfi, hfl, hft, hat, hO.anc, hO.acm, hO.anil, hkl, hO.knc, hO.kcm, hO.knil, hrow⟩
end Go.Proofs.Ytpoenlhikanooaa
/- What is put is there; put back, the tree is what it was; sizes. -/
namespace Go.Proofs.Ytpoenlhikanooaa
set_option linter.unusedVariables false
open Go.RowKit
set_option maxRecDepth 20000

theorem with_kids (t : Nd) (l : List Nd) : (t.withKids l).kids = l := by cases t; rfl
theorem with_with (t : Nd) (l m : List Nd) : (t.withKids l).withKids m = t.withKids m := by cases t; rfl
theorem with_self (t : Nd) : t.withKids t.kids = t := by cases t; rfl
theorem countV_with (t : Nd) (l : List Nd) : countV (t.withKids l) = 1 + countsV l := by cases t; simp [Nd.withKids, countV]
theorem weighV_with (t : Nd) (l : List Nd) : weighV (t.withKids l) + weighsV t.kids = weighV t + weighsV l := by cases t; simp only [Nd.withKids, weighV, Nd.kids]; omega
theorem counts_set : ∀ (l : List Nd) (j : Nat) (k z : Nd), l[j]? = some k → countsV (l.set j z) + countV k = countsV l + countV z
  | [], j, k, z, h => by simp at h
  | a :: r, 0, k, z, h => by
    simp at h
    subst h
    simp only [List.set_cons_zero, countsV]
    omega
  | a :: r, j + 1, k, z, h => by
    have := counts_set r j k z (by simpa using h)
    simp only [List.set_cons_succ, countsV]
    omega
theorem weighs_set : ∀ (l : List Nd) (j : Nat) (k z : Nd), l[j]? = some k → weighsV (l.set j z) + weighV k = weighsV l + weighV z
  | [], j, k, z, h => by simp at h
  | a :: r, 0, k, z, h => by
    simp at h
    subst h
    simp only [List.set_cons_zero, weighsV]
    omega
  | a :: r, j + 1, k, z, h => by
    have := weighs_set r j k z (by simpa using h)
    simp only [List.set_cons_succ, weighsV]
    omega
theorem atV_cons {t ws : Nd} {i : Int} {p : List Int} (h : atV t (i :: p) = some ws) : ∃ (j : Nat) (k : Nd), i = (j : Int) ∧ t.kids[j]? = some k ∧ atV k p = some ws := by
  simp only [atV] at h
  split at h
  · rename_i hi
    cases hk : t.kids[i.toNat]? with
    | none => rw [hk] at h; cases h
    | some k =>
      rw [hk] at h
      exact ⟨i.toNat, k, by omega, hk, h⟩
  · cases h
theorem putV_nat {t k x : Nd} {j : Nat} {p : List Int} (h : t.kids[j]? = some k) : putV t ((j : Int) :: p) x = (putV k p x).map fun z => t.withKids (t.kids.set j z) := by
  simp only [putV]
  rw [if_pos (by omega)]
  simp only [Int.toNat_natCast, h]
  cases putV k p x <;> rfl
theorem atV_nat {t k : Nd} {j : Nat} {p : List Int} (h : t.kids[j]? = some k) : atV t ((j : Int) :: p) = atV k p := by
  simp only [atV]
  rw [if_pos (by omega)]
  simp [h]
/-- all that the law asks -/
theorem put_all : ∀ (p : List Int) (t x ws : Nd), atV t p = some ws → ∃ a, putV t p x = some a ∧ atV a p = some x ∧ putV a p ws = some t ∧ countV a + countV ws = countV t + countV x ∧ weighV a + weighV ws = weighV t + weighV x
  | [], t, x, ws, h => by
    simp only [atV, Option.some.injEq] at h
    subst h
    exact ⟨x, rfl, rfl, rfl, by omega, by omega⟩
  | i :: p, t, x, ws, h => by
    obtain ⟨j, k, rfl, hk, hw⟩ := atV_cons h
    obtain ⟨a, h1, h2, h3, h4, h5⟩ := put_all p k x ws hw
    have hj : j < t.kids.length := (List.getElem?_eq_some_iff.1 hk).1
    have hs : (t.withKids (t.kids.set j a)).kids[j]? = some a := by rw [with_kids, List.getElem?_set_self hj]
    refine ⟨t.withKids (t.kids.set j a), ?_, ?_, ?_, ?_, ?_⟩
    · rw [putV_nat hk, h1]; rfl
    · rw [atV_nat hs, h2]
    · rw [putV_nat hs, h3]
      simp only [Option.map_some, with_kids, with_with, List.set_set]
      have : t.kids.set j k = t.kids := by
        apply List.ext_getElem?
        intro q
        rw [List.getElem?_set]
        split
        · subst_vars
          first | exact hk.symm | (rw [if_pos hj, hk])
        · rfl
      rw [this, with_self]
    · have := counts_set t.kids j k a hk
      rw [countV_with, countV_eq t]
      omega
    · have h6 := weighs_set t.kids j k a hk
      have h7 := weighV_with t (t.kids.set j a)
      omega
theorem at_count : ∀ (p : List Int) (t ws : Nd), atV t p = some ws → countV ws ≤ countV t ∧ weighV ws ≤ weighV t
  | [], t, ws, h => by
    simp only [atV, Option.some.injEq] at h
    subst h
    exact ⟨Nat.le_refl _, Nat.le_refl _⟩
  | i :: p, t, ws, h => by
    obtain ⟨j, k, rfl, hk, hw⟩ := atV_cons h
    obtain ⟨h1, h2⟩ := at_count p k ws hw
    have h3 := weigh_kid hk
    have h4 := counts_set t.kids j k k hk
    have h5 : countV k ≤ countsV t.kids := by
      have : ∀ (l : List Nd) (j : Nat), l[j]? = some k → countV k ≤ countsV l := by
        intro l
        induction l with
        | nil => intro j h; simp at h
        | cons a r ih =>
          intro j h
          cases j with
          | zero => simp at h; subst h; simp only [countsV]; omega
          | succ j => have := ih j (by simpa using h); simp only [countsV]; omega
      exact this _ _ hk
    rw [countV_eq t]
    omega

/-- a tree in a variable's block -/
structure Bx (W : World) (b : Nat) (s : Nd) (aA kA : Option Addr) (an ac kn kc : Nat) : Prop where
  lt : b < W.heap.size
  row : W.heap[b]? = some (.cells (val6 s aA an ac kA kn kc) 42 (0, 0))
  node : NodeV (Old W) W aA an ac kA kn kc s
section
variable {W W' : World} {b : Nat} {s : Nd} {aA kA : Option Addr} {an ac kn kc : Nat}
theorem Bx.below (h : Bx W b s aA kA an ac kn kc) (hb : Below W.heap.size W W') : Bx W' b s aA kA an ac kn kc := ⟨Nat.lt_of_lt_of_le h.lt hb.size, (hb.block b h.lt).trans h.row, h.node.below hb⟩
theorem Bx.new (h : NodeV (Old W) W aA an ac kA kn kc s) : Bx (W.alloc (.cells (val6 s aA an ac kA kn kc) 42)) W.heap.size s aA kA an ac kn kc :=
  ⟨by simp, heap_alloc_new W _, h.below ((Below.refl _ _).alloc (Nat.le_refl _) _)⟩
theorem Bx.cells (h : Bx W b s aA kA an ac kn kc) : W.cell? ⟨b, 0, none⟩ = some (.int .u64 (s.id : Int)) ∧ W.cell? ⟨b, 1, none⟩ = some (.bool s.leaf) ∧ W.cell? ⟨b, 2, none⟩ = some (.string ⟨s.label.toArray⟩) ∧ W.cell? ⟨b, 3, none⟩ = some (.slice aA an ac) ∧
    W.cell? ⟨b, 4, none⟩ = some (.string ⟨s.text.toArray⟩) ∧ W.cell? ⟨b, 5, none⟩ = some (.slice kA kn kc) := by
  have h := h.row
  unfold val6 at h
  obtain ⟨c0, c1, c2, c3, c4, c5, -⟩ := six_cells h
  exact ⟨c0, c1, c2, c3, c4, c5⟩
end
end Go.Proofs.Ytpoenlhikanooaa
/- Children put in and taken out, as values; a move both ways: put first and then take out, or take out first and then put. -/
namespace Go.Proofs.Ytpoenlhikanooaa
open Go.RowKit
set_option maxRecDepth 20000
set_option linter.unusedVariables false

def insK (at_ : Nat) (x : Nd) (l : List Nd) : List Nd := l.take at_ ++ x :: l.drop at_
def delK (c : Nat) (l : List Nd) : List Nd := l.take c ++ l.drop (c + 1)
theorem insK_len {at_ : Nat} {x : Nd} {l : List Nd} (h : at_ ≤ l.length) : (insK at_ x l).length = l.length + 1 := by
  unfold insK
  simp only [List.length_append, List.length_take, List.length_cons, List.length_drop]
  omega
theorem delK_len {c : Nat} {l : List Nd} (h : c < l.length) : (delK c l).length + 1 = l.length := by
  unfold delK
  simp only [List.length_append, List.length_take, List.length_drop]
  omega
theorem get_ins {at_ : Nat} {x : Nd} {l : List Nd} (h : at_ ≤ l.length) (j : Nat) : (insK at_ x l)[j]? = if j < at_ then l[j]? else if j = at_ then some x else l[j - 1]? := by
  unfold insK
  by_cases h1 : j < at_
  · rw [if_pos h1, List.getElem?_append_left (by rw [List.length_take]; omega), List.getElem?_take, if_pos h1]
  · rw [if_neg h1, List.getElem?_append_right (by rw [List.length_take]; omega), List.length_take, show j - min at_ l.length = j - at_ by omega]
    by_cases h2 : j = at_
    · rw [if_pos h2, h2, Nat.sub_self]; rfl
    · rw [if_neg h2]
      obtain ⟨k, rfl⟩ : ∃ k, j = at_ + (k + 1) := ⟨j - at_ - 1, by omega⟩
      rw [show at_ + (k + 1) - at_ = k + 1 by omega, List.getElem?_cons_succ, List.getElem?_drop]
      rfl
theorem get_del {c : Nat} {l : List Nd} (h : c < l.length) (j : Nat) : (delK c l)[j]? = if j < c then l[j]? else l[j + 1]? := by
  unfold delK
  by_cases h1 : j < c
  · rw [if_pos h1, List.getElem?_append_left (by rw [List.length_take]; omega), List.getElem?_take, if_pos h1]
  · rw [if_neg h1, List.getElem?_append_right (by rw [List.length_take]; omega), List.length_take, List.getElem?_drop]
    congr 1
    omega
theorem del_ins {at_ c : Nat} {x : Nd} {l : List Nd} (h : at_ ≤ l.length) (hc : c < l.length) :
    delK (if at_ ≤ c then c + 1 else c) (insK at_ x l) = insK (if c < at_ then at_ - 1 else at_) x (delK c l) := by
  have hd := delK_len hc
  have hi := insK_len (x := x) h
  by_cases h1 : at_ ≤ c
  · rw [if_pos h1, if_neg (by omega : ¬ c < at_)]
    apply List.ext_getElem?
    intro j
    rw [get_del (l := insK at_ x l) (by omega), get_ins (l := delK c l) (by omega), get_ins h j, get_ins h (j + 1), get_del hc, get_del hc]
    by_cases h2 : j < at_
    · rw [if_pos (by omega : j < c + 1), if_pos h2, if_pos h2, if_pos (by omega : j < c)]
    · rw [if_neg h2]
      by_cases h3 : j = at_
      · rw [if_pos (by omega : j < c + 1), if_pos h3, if_neg h2, if_pos h3]
      · by_cases h4 : j < c + 1
        · rw [if_pos h4, if_neg h3, if_neg h2, if_neg h3, if_pos (by omega : j - 1 < c)]
        · rw [if_neg h4, if_neg (by omega : ¬ j + 1 < at_), if_neg (by omega : ¬ j + 1 = at_), if_neg h2, if_neg h3, if_neg (by omega : ¬ j - 1 < c), show j + 1 - 1 = j - 1 + 1 by omega]
  · rw [if_neg h1, if_pos (by omega : c < at_)]
    apply List.ext_getElem?
    intro j
    rw [get_del (l := insK at_ x l) (by omega), get_ins (l := delK c l) (by omega), get_ins h j, get_ins h (j + 1), get_del hc, get_del hc]
    by_cases h2 : j < c
    · rw [if_pos h2, if_pos (by omega : j < at_), if_pos (by omega : j < at_ - 1), if_pos h2]
    · rw [if_neg h2]
      by_cases h3 : j < at_ - 1
      · rw [if_pos (by omega : j + 1 < at_), if_pos h3, if_neg h2]
      · rw [if_neg (by omega : ¬ j + 1 < at_), if_neg h3]
        by_cases h4 : j = at_ - 1
        · rw [if_pos (by omega : j + 1 = at_), if_pos h4]
        · rw [if_neg (by omega : ¬ j + 1 = at_), if_neg h4, if_neg (by omega : ¬ j - 1 < c), show j + 1 - 1 = j - 1 + 1 by omega]
theorem ins_set {at_ f : Nat} {x z : Nd} {l : List Nd} (h : at_ ≤ l.length) (hf : f < l.length) : (insK at_ x l).set (if at_ ≤ f then f + 1 else f) z = insK at_ x (l.set f z) := by
  have hi := insK_len (x := x) h
  apply List.ext_getElem?
  intro j
  rw [get_ins (by rw [List.length_set]; exact h), List.getElem?_set, get_ins h, List.getElem?_set, List.getElem?_set]
  by_cases h1 : at_ ≤ f
  · rw [if_pos h1]
    by_cases h2 : j < at_
    · rw [if_neg (by omega : ¬ f + 1 = j), if_pos h2, if_pos h2, if_neg (by omega : ¬ f = j)]
    · by_cases h3 : j = at_
      · rw [if_neg (by omega : ¬ f + 1 = j), if_neg h2, if_pos h3, if_neg h2, if_pos h3]
      · by_cases h4 : f + 1 = j
        · rw [if_pos h4, if_pos (by omega), if_neg h2, if_neg h3, if_pos (by omega : f = j - 1), if_pos (by omega)]
        · rw [if_neg h4, if_neg h2, if_neg h3, if_neg h2, if_neg h3, if_neg (by omega : ¬ f = j - 1)]
  · rw [if_neg h1]
    by_cases h2 : j < at_
    · rw [if_pos h2, if_pos h2]
      by_cases h4 : f = j
      · rw [if_pos h4, if_pos (by omega), if_pos h4, if_pos (by omega)]
      · rw [if_neg h4, if_neg h4]
    · rw [if_neg (by omega : ¬ f = j), if_neg h2, if_neg h2]
      by_cases h3 : j = at_
      · rw [if_pos h3, if_pos h3]
      · rw [if_neg h3, if_neg h3, if_neg (by omega : ¬ f = j - 1)]
theorem del_set {c e : Nat} {z : Nd} {l : List Nd} (hc : c < l.length) (he : e < l.length) (hne : e ≠ c) : delK c (l.set e z) = (delK c l).set (if c < e then e - 1 else e) z := by
  have hd := delK_len hc
  apply List.ext_getElem?
  intro j
  rw [get_del (by rw [List.length_set]; exact hc), List.getElem?_set, List.getElem?_set, List.getElem?_set, get_del hc]
  by_cases h1 : c < e
  · rw [if_pos h1]
    by_cases h2 : j < c
    · rw [if_pos h2, if_neg (by omega : ¬ e = j), if_neg (by omega : ¬ e - 1 = j), if_pos h2]
    · rw [if_neg h2]
      by_cases h3 : e = j + 1
      · rw [if_pos h3, if_pos (by omega), if_pos (by omega : e - 1 = j), if_pos (by omega)]
      · rw [if_neg h3, if_neg (by omega : ¬ e - 1 = j), if_neg h2]
  · rw [if_neg h1]
    by_cases h2 : j < c
    · rw [if_pos h2]
      by_cases h3 : e = j
      · rw [if_pos h3, if_pos h3, if_pos (by omega), if_pos (by omega)]
      · rw [if_neg h3, if_neg h3, if_pos h2]
    · rw [if_neg h2, if_neg (by omega : ¬ e = j + 1), if_neg (by omega : ¬ e = j), if_neg h2]

/-- a tree with the children of the node at a path changed -/
def modV (t : Nd) (p : List Int) (f : List Nd → List Nd) : Option Nd := (atV t p).bind fun y => putV t p (y.withKids (f y.kids))
theorem mod_nil (t : Nd) (f : List Nd → List Nd) : modV t [] f = some (t.withKids (f t.kids)) := rfl
theorem mod_nat {t k : Nd} {j : Nat} {p : List Int} {f : List Nd → List Nd} (h : t.kids[j]? = some k) : modV t ((j : Int) :: p) f = (modV k p f).map fun z => t.withKids (t.kids.set j z) := by
  unfold modV
  rw [atV_nat h]
  cases atV k p with
  | none => rfl
  | some y =>
    show putV t ((j : Int) :: p) _ = _
    rw [putV_nat h]
    rfl
theorem mod_at {t y : Nd} {p : List Int} {f : List Nd → List Nd} (h : atV t p = some y) : modV t p f = putV t p (y.withKids (f y.kids)) := by unfold modV; rw [h]; rfl
theorem mod_some {t y : Nd} {p : List Int} {f : List Nd → List Nd} (h : atV t p = some y) : ∃ m, modV t p f = some m := by
  rw [mod_at h]
  obtain ⟨a, h1, -⟩ := put_all p t (y.withKids (f y.kids)) y h
  exact ⟨a, h1⟩
/-- the tree without the node at a path -/
def delAt (t : Nd) : List Int → Option Nd
  | [] => none
  | c :: p => modV t ((c :: p).dropLast) (delK ((c :: p).getLast (by simp)).toNat)
theorem delAt_one (t : Nd) (c : Int) : delAt t [c] = some (t.withKids (delK c.toNat t.kids)) := rfl
theorem delAt_cons {t k : Nd} {j : Nat} {c : Int} {p : List Int} (h : t.kids[j]? = some k) : delAt t ((j : Int) :: c :: p) = (delAt k (c :: p)).map fun z => t.withKids (t.kids.set j z) := by
  show modV t (((j : Int) :: c :: p).dropLast) _ = (modV k ((c :: p).dropLast) _).map _
  rw [show ((j : Int) :: c :: p).dropLast = (j : Int) :: (c :: p).dropLast from rfl, mod_nat h]
  rfl
theorem delAt_snoc (t : Nd) (q : List Int) (c : Nat) : delAt t (q ++ [(c : Int)]) = modV t q (delK c) := by
  cases q with
  | nil => rfl
  | cons a r =>
    show modV t ((a :: (r ++ [(c : Int)])).dropLast) (delK ((a :: (r ++ [(c : Int)])).getLast _).toNat) = _
    have e1 : (a :: (r ++ [(c : Int)])).dropLast = a :: r := by
      rw [show a :: (r ++ [(c : Int)]) = (a :: r) ++ [(c : Int)] from rfl, List.dropLast_concat]
    have e2 : (a :: (r ++ [(c : Int)])).getLast (by simp) = (c : Int) := by
      have : ∀ (l : List Int) (h : l ++ [(c : Int)] ≠ []), (l ++ [(c : Int)]).getLast h = (c : Int) := fun l h => by simp
      exact this (a :: r) (by simp)
    rw [e1, e2]
    rfl

/-- where the node that is taken out stands when it has been put first -/
def docFrom : List Int → List Int → Nat → List Int
  | [], _, _ => []
  | f :: r, [], at_ => (if (at_ : Int) ≤ f then f + 1 else f) :: r
  | f :: r, e :: s, at_ => if f = e then f :: docFrom r s at_ else f :: r
/-- the target, and the gap, when the node has been taken out first -/
def progTo : List Int → List Int → Nat → List Int × Nat
  | [], to_, at_ => (to_, at_)
  | [c], [], at_ => ([], if c < (at_ : Int) then at_ - 1 else at_)
  | _ :: _ :: _, [], at_ => ([], at_)
  | [c], e :: s, at_ => ((if c < e then e - 1 else e) :: s, at_)
  | f :: g :: r, e :: s, at_ => if f = e then (e :: (progTo (g :: r) s at_).1, (progTo (g :: r) s at_).2) else (e :: s, at_)
theorem move_both : ∀ (from_ to_ : List Int) (t x0 y x : Nd) (at_ : Nat), atV t from_ = some x0 → atV t to_ = some y → from_ ≠ [] → ¬ from_ <+: to_ → at_ ≤ y.kids.length →
    ∃ m1 m2 r, modV t to_ (insK at_ x) = some m1 ∧ delAt m1 (docFrom from_ to_ at_) = some r ∧ delAt t from_ = some m2 ∧ modV m2 (progTo from_ to_ at_).1 (insK (progTo from_ to_ at_).2 x) = some r
  | [], to_, t, x0, y, x, at_, _, _, h, _, _ => absurd rfl h
  | [ci], [], t, x0, y, x, at_, h1, h2, _, _, h5 => by
    obtain ⟨c, k, rfl, hk, -⟩ := atV_cons h1
    have hc : c < t.kids.length := (List.getElem?_eq_some_iff.1 hk).1
    simp only [atV, Option.some.injEq] at h2
    subst h2
    refine ⟨_, _, _, mod_nil _ _, rfl, rfl, ?_⟩
    simp only [progTo]
    rw [mod_nil, with_kids, with_with, with_kids, with_with]
    have e1 : (if ((at_ : Nat) : Int) ≤ (c : Int) then (c : Int) + 1 else (c : Int)).toNat = if at_ ≤ c then c + 1 else c := by split <;> split <;> omega
    have e2 : (if (c : Int) < (at_ : Int) then at_ - 1 else at_) = if c < at_ then at_ - 1 else at_ := by split <;> split <;> omega
    show some (t.withKids _) = some (t.withKids (delK (if ((at_ : Nat) : Int) ≤ (c : Int) then (c : Int) + 1 else (c : Int)).toNat _))
    rw [e1, e2, del_ins h5 hc]
    rfl
  | fi :: g :: r, [], t, x0, y, x, at_, h1, h2, _, _, h5 => by
    obtain ⟨f, k, rfl, hk, hx⟩ := atV_cons h1
    have hf : f < t.kids.length := (List.getElem?_eq_some_iff.1 hk).1
    simp only [atV, Option.some.injEq] at h2
    subst h2
    obtain ⟨k', hk'⟩ : ∃ k', delAt k (g :: r) = some k' := by
      have : ∀ (p : List Int) (k x0 : Nd) (g : Int), atV k (g :: p) = some x0 → ∃ k', delAt k (g :: p) = some k' := by
        intro p
        induction p with
        | nil => intro k x0 g h; exact ⟨_, rfl⟩
        | cons b p ih =>
          intro k x0 g h
          obtain ⟨j, z, rfl, hz, hw⟩ := atV_cons h
          obtain ⟨k', hk'⟩ := ih z x0 b hw
          rw [delAt_cons hz, hk']
          exact ⟨_, rfl⟩
      exact this r k x0 g hx
    have e1 : (if ((at_ : Nat) : Int) ≤ (f : Int) then (f : Int) + 1 else (f : Int)) = ((if at_ ≤ f then f + 1 else f : Nat) : Int) := by split <;> split <;> omega
    have hg : (t.withKids (insK at_ x t.kids)).kids[if at_ ≤ f then f + 1 else f]? = some k := by
      rw [with_kids, get_ins h5]
      by_cases h : at_ ≤ f
      · rw [if_pos h, if_neg (by omega), if_neg (by omega), Nat.add_sub_cancel]; exact hk
      · rw [if_neg h, if_pos (by omega)]; exact hk
    refine ⟨_, _, t.withKids (insK at_ x (t.kids.set f k')), mod_nil _ _, ?_, by rw [delAt_cons hk, hk']; rfl, ?_⟩
    · simp only [docFrom]
      rw [e1, delAt_cons hg, hk']
      simp only [Option.map_some, with_kids, with_with]
      rw [ins_set h5 hf]
    · simp only [progTo]
      rw [mod_nil, with_kids, with_with]
  | [ci], ei :: s, t, x0, y, x, at_, h1, h2, _, h4, h5 => by
    obtain ⟨c, k, rfl, hk, -⟩ := atV_cons h1
    obtain ⟨e, ke, rfl, hke, hy⟩ := atV_cons h2
    have hc : c < t.kids.length := (List.getElem?_eq_some_iff.1 hk).1
    have he : e < t.kids.length := (List.getElem?_eq_some_iff.1 hke).1
    have hne : e ≠ c := fun h => h4 (by subst h; exact ⟨s, rfl⟩)
    obtain ⟨ke', hke'⟩ := mod_some (f := insK at_ x) hy
    have hg : (t.withKids (delK c t.kids)).kids[if c < e then e - 1 else e]? = some ke := by
      rw [with_kids, get_del hc]
      by_cases h : c < e
      · rw [if_pos h, if_neg (by omega), show e - 1 + 1 = e by omega]; exact hke
      · rw [if_neg h, if_pos (by omega)]; exact hke
    have e1 : (if (c : Int) < (e : Int) then (e : Int) - 1 else (e : Int)) = ((if c < e then e - 1 else e : Nat) : Int) := by split <;> split <;> omega
    refine ⟨_, _, t.withKids (delK c (t.kids.set e ke')), by rw [mod_nat hke, hke']; rfl, ?_, rfl, ?_⟩
    · simp only [docFrom]
      rw [if_neg (by omega)]
      rw [delAt_one, with_kids, with_with]
      rfl
    · simp only [progTo]
      rw [e1]
      show modV (t.withKids (delK c t.kids)) _ _ = _
      rw [mod_nat hg, hke']
      simp only [Option.map_some, with_kids, with_with]
      rw [del_set hc he hne]
  | fi :: g :: r, ei :: s, t, x0, y, x, at_, h1, h2, _, h4, h5 => by
    obtain ⟨f, k, rfl, hk, hx⟩ := atV_cons h1
    obtain ⟨e, ke, rfl, hke, hy⟩ := atV_cons h2
    have hf : f < t.kids.length := (List.getElem?_eq_some_iff.1 hk).1
    have he : e < t.kids.length := (List.getElem?_eq_some_iff.1 hke).1
    by_cases hfe : f = e
    · subst hfe
      rw [hk] at hke
      injection hke with hke
      subst hke
      obtain ⟨m1, m2, r', i1, i2, i3, i4⟩ := move_both (g :: r) s k x0 y x at_ hx hy (by simp) (fun h => h4 (by obtain ⟨z, hz⟩ := h; exact ⟨z, by rw [List.cons_append, hz]⟩)) h5
      have g1 : (t.withKids (t.kids.set f m1)).kids[f]? = some m1 := by rw [with_kids, List.getElem?_set_self hf]
      have g2 : (t.withKids (t.kids.set f m2)).kids[f]? = some m2 := by rw [with_kids, List.getElem?_set_self hf]
      refine ⟨t.withKids (t.kids.set f m1), t.withKids (t.kids.set f m2), t.withKids (t.kids.set f r'), by rw [mod_nat hk, i1]; rfl, ?_, by rw [delAt_cons hk, i3]; rfl, ?_⟩
      · simp only [docFrom, if_true]
        cases hd : docFrom (g :: r) s at_ with
        | nil => rw [hd] at i2; exact absurd i2 (by simp [delAt])
        | cons a b =>
          rw [hd] at i2
          rw [delAt_cons g1, i2]
          simp only [Option.map_some, with_kids, with_with, List.set_set]
      · simp only [progTo, if_true]
        rw [mod_nat g2, i4]
        simp only [Option.map_some, with_kids, with_with, List.set_set]
    · obtain ⟨ke', hke'⟩ := mod_some (f := insK at_ x) hy
      obtain ⟨k', hk'⟩ : ∃ k', delAt k (g :: r) = some k' := by
        have : ∀ (p : List Int) (k x0 : Nd) (g : Int), atV k (g :: p) = some x0 → ∃ k', delAt k (g :: p) = some k' := by
          intro p
          induction p with
          | nil => intro k x0 g h; exact ⟨_, rfl⟩
          | cons b p ih =>
            intro k x0 g h
            obtain ⟨j, z, rfl, hz, hw⟩ := atV_cons h
            obtain ⟨k', hk'⟩ := ih z x0 b hw
            rw [delAt_cons hz, hk']
            exact ⟨_, rfl⟩
        exact this r k x0 g hx
      have g1 : (t.withKids (t.kids.set e ke')).kids[f]? = some k := by rw [with_kids, List.getElem?_set_ne (fun h => hfe h.symm)]; exact hk
      have g2 : (t.withKids (t.kids.set f k')).kids[e]? = some ke := by rw [with_kids, List.getElem?_set_ne hfe]; exact hke
      refine ⟨t.withKids (t.kids.set e ke'), t.withKids (t.kids.set f k'), t.withKids ((t.kids.set e ke').set f k'), by rw [mod_nat hke, hke']; rfl, ?_, by rw [delAt_cons hk, hk']; rfl, ?_⟩
      · simp only [docFrom]
        rw [if_neg (by omega), delAt_cons g1, hk']
        simp only [Option.map_some, with_kids, with_with]
      · simp only [progTo]
        rw [if_neg (by omega), mod_nat g2, hke']
        simp only [Option.map_some, with_kids, with_with]
        rw [List.set_comm _ _ hfe]
end Go.Proofs.Ytpoenlhikanooaa
/- The program's draft: finish. -/
namespace Go.Proofs.Ytpoenlhikanooaa.P5
set_option linter.unusedVariables false
open Go.RowKit
set_option maxRecDepth 20000
open Ltx (Pc)

theorem DraftAt.also {w : World} {S : Nat → Prop} {base p : Nat} {d : DV} (h : DraftAt w S base p d) : DraftAt w (Also S w w) base p d := by
  obtain ⟨h1, h2, v1, v2, hp, hd, ht, s1, s2⟩ := h
  exact ⟨fun k hk => by rcases hk with hk | hk; exact h1 k hk; omega, .inl h2, v1, v2, hp, hd, ht, fun k hk => .inl (s1 k hk), fun k hk => .inl (s2 k hk)⟩
end Go.Proofs.Ytpoenlhikanooaa.P5
/- The program's draft, by what was put, dropped, kept: put, drop, keep, pieces, whole. -/
namespace Go.Proofs.Ytpoenlhikanooaa.P5
set_option linter.unusedVariables false
open Go.RowKit
set_option maxRecDepth 20000
open Ltx (Pc)

def totP (l : List Pc) : Nat := Ltx.extent l + Ltx.puts l
def DV.tot (d : DV) : Nat := totP (d.done ++ [d.last])
/-- the draft at block p stands for what was put, dropped and kept up to now -/
def Drf (w : World) (S : Nat → Prop) (base p : Nat) (raw : List Pc) : Prop := ∃ d : DV, DraftAt w S base p d ∧ d.For raw ∧ d.tot = totP raw
theorem Drf.kept {w w' : World} {S : Nat → Prop} {base p : Nat} {raw : List Pc} (h : Drf w S base p raw) (hs : w.heap.size ≤ w'.heap.size) (hk : ∀ k, S k → w'.heap[k]? = w.heap[k]?) : Drf w' S base p raw := by
  obtain ⟨d, h1, h2⟩ := h
  exact ⟨d, h1.kept hs hk, h2⟩
theorem Drf.lt {w : World} {S : Nat → Prop} {base p : Nat} {raw : List Pc} (h : Drf w S base p raw) : ∀ k, S k → base ≤ k ∧ k < w.heap.size := by
  obtain ⟨d, h1, _⟩ := h
  exact h1.own
theorem Drf.below {w w' : World} {S : Nat → Prop} {base p : Nat} {raw : List Pc} (h : Drf w S base p raw) (hb : Below w.heap.size w w') : Drf w' S base p raw :=
  h.kept hb.size fun k hk => hb.block k (h.lt k hk).2
theorem Drf.new {w : World} {base : Nat} (hb : base ≤ w.heap.size) : Drf (w.alloc (.cells #[.slice none 0 0, .int .i64 0, .slice none 0 0, .int .i64 0] 134)) (fun k => k = w.heap.size) base w.heap.size [] := by
  refine ⟨DV.fresh, ⟨fun k hk => ?_, rfl, .slice none 0 0, .slice none 0 0, heap_alloc_new w _, OwnP.nil_ _ _, OwnB.nil_ _ _, (fun k hk => by cases hk), (fun k hk => by cases hk)⟩, DV.For.fresh, rfl⟩
  subst hk
  exact ⟨hb, by simp⟩
section
variable {w : World} {S : Nat → Prop} {base p : Nat} {raw : List Pc}
end
end Go.Proofs.Ytpoenlhikanooaa.P5
/- An edit, made normal: the program's. -/
namespace Go.Proofs.Ytpoenlhikanooaa.P5
set_option linter.unusedVariables false
open Go.RowKit
set_option maxRecDepth 20000
open Ltx (Pc)

/-- right pieces have no number below 0 -/
theorem right_pcs {xs : List IP} (h : rightV xs = true) : ∃ l : List Pc, xs = l.map ipc := by
  have hall : xs.all okB = true := by
    unfold rightV at h
    simp only [Bool.and_eq_true] at h
    exact h.1.2
  clear h
  induction xs with
  | nil => exact ⟨[], rfl⟩
  | cons x r ih =>
    rw [List.all_cons, Bool.and_eq_true] at hall
    obtain ⟨l, rfl⟩ := ih hall.2
    obtain ⟨kp, dr, pu⟩ := x
    have hx : 0 ≤ kp ∧ 0 ≤ dr := by
      have := hall.1
      unfold okB mayB at this
      simp at this
      omega
    refine ⟨⟨kp.toNat, dr.toNat, pu⟩ :: l, ?_⟩
    rw [List.map_cons]
    congr 1
    simp [ipc]
    omega
/-- a block that lies outside the draft's is as it was -/
theorem FrX.cells {S : Nat → Prop} {w w' : World} {b : Nat} {cs : Array Value} {t : TypeId} {fr : Nat × Nat} (h : FrX S w w') (hb : w.heap[b]? = some (.cells cs t fr)) (hn : ¬ S b) : w'.heap[b]? = some (.cells cs t fr) :=
  (h.block b (Array.getElem?_eq_some_iff.1 hb).1 hn).trans hb
theorem own_base {w : World} {base b : Nat} {e : TypeId} {size : Nat} {v : Value} {n : Nat} {xs : List Value} (h : w.ownsRow base e size v n xs) (hb : b ≤ base) : w.ownsRow b e size v n xs := by
  refine ⟨h.1, ?_⟩
  rcases h.2 with h0 | ⟨g, cap, cur, rfl, hg, rest⟩
  · exact .inl h0
  · exact .inr ⟨g, cap, cur, rfl, Nat.le_trans hb hg, rest⟩
end Go.Proofs.Ytpoenlhikanooaa.P5
/- The document's: is an edit right, how far does it reach. -/
namespace Go.Proofs.Ytpoenlhikanooaa.P5
set_option linter.unusedVariables false
open Go.RowKit
set_option maxRecDepth 20000
open Ltx (Pc)

theorem extent_take (l : List Pc) (q : Nat) (p : Pc) (h : l[q]? = some p) : Ltx.extent (l.take (q + 1)) = Ltx.extent (l.take q) + p.keep + p.drop := by
  rw [List.take_add_one, h, Ltx.extent_append]
  simp [Ltx.extent]
  omega
theorem extent_le (l : List Pc) (q : Nat) : Ltx.extent (l.take q) ≤ Ltx.extent l := by
  conv => rhs; rw [← List.take_append_drop q l, Ltx.extent_append]
  omega
/-- what stands at q, of pieces whose numbers are none below 0 -/
theorem PcsIn.pc {w : World} {A : Option Addr} {n q : Nat} {l : List Pc} (h : PcsIn w A n (l.map ipc)) (hq : q < n) : ∃ ad p, A = some ad ∧ l[q]? = some p ∧ ad.block < w.heap.size ∧ PieceAt w (ad.add (q * 3)) (ipc p) := by
  obtain ⟨ad, x, e, hx, hl, hp⟩ := h.at_ hq
  rw [List.getElem?_map] at hx
  cases hpq : l[q]? with
  | none => rw [hpq] at hx; cases hx
  | some p =>
    rw [hpq] at hx
    injection hx with hx
    subst hx
    exact ⟨ad, p, e, rfl, hl, hp⟩
end Go.Proofs.Ytpoenlhikanooaa.P5
/- The document's: an edit, made normal. -/
namespace Go.Proofs.Ytpoenlhikanooaa.P5
set_option linter.unusedVariables false
open Go.RowKit
set_option maxRecDepth 20000
open Ltx (Pc)

end Go.Proofs.Ytpoenlhikanooaa.P5
/- The document's Norm; the program's fault; shells of the calls that draw nothing else. -/
namespace Go.Proofs.Ytpoenlhikanooaa.P5
set_option linter.unusedVariables false
open Go.RowKit
set_option maxRecDepth 20000
open Ltx (Pc)

/-- what is wrong with an edit of a text of m bytes -/
def faultV (m : Nat) (xs : List IP) (l : List Pc) : Nat := if rightV xs = false then 2 else if m < Ltx.extent l then 50 else 0
theorem right_extent {l : List Pc} (h : rightV (l.map ipc) = true) : Ltx.extent l ≤ 10000000000 ∧ l.length ≤ 4096 := by
  unfold rightV at h
  simp only [Bool.and_eq_true, decide_eq_true_eq, List.length_map] at h
  obtain ⟨⟨h1, h2⟩, _⟩ := h
  have hall : ∀ p ∈ l, p.keep ≤ 1048576 ∧ p.drop ≤ 1048576 := fun p hp => by
    rw [List.all_eq_true] at h2
    have := h2 (ipc p) (List.mem_map_of_mem hp)
    unfold okB mayB ipc at this
    simp at this
    omega
  have hsum : ∀ l : List Pc, (∀ p ∈ l, p.keep ≤ 1048576 ∧ p.drop ≤ 1048576) → Ltx.extent l ≤ 2097152 * l.length := by
    intro l
    induction l with
    | nil => intro _; simp [Ltx.extent]
    | cons p r ih =>
      intro h
      have h1 := h p List.mem_cons_self
      have h2 := ih fun q hq => h q (List.mem_cons_of_mem _ hq)
      simp only [Ltx.extent, List.length_cons]
      omega
  have := hsum l hall
  exact ⟨by omega, h1⟩
set_option maxHeartbeats 2000000 in
theorem fault_any (w : World) (t : List UInt8) (A : Option Addr) (n c : Nat) (l : List Pc) (hx : PcsIn w A n (l.map ipc)) (hn : n ≤ maxLen) (ht : t.length ≤ 1000000000000) (hr : rightV (l.map ipc) = true) :
    Calls Try.prog 150 #[.string ⟨t.toArray⟩, .slice A n c] w fun e w' => e = .returned (.int .i64 (if t.length < Ltx.extent l then 50 else 0)) ∧ Below w.heap.size w w' := by
  have hx' := Lib.hid hx
  have hr' := Lib.hid hr
  have hlen := Lib.hid (show l.length = n by have := hx.1; simpa using this)
  have hex := (right_extent hr).1
  clear hx hr
  have hn' : (n : Int) ≤ 9223372036854775807 := by unfold maxLen at hn; omega
  go_enter Try.func150, Try.ntmps150
  go_wp2_with (go_at_call 119; have hh := right_any w A n c _ hx'.out hn; rw [hr'.out] at hh; refine hh.mono ?_; clear hh; rintro e w2 ⟨rfl, hb2⟩; have hb2' := Lib.hid hb2; clear hb2)
  go_loopw [5, 15] (fun s k wr => ∃ q : Nat, q ≤ n ∧ k = .int .i64 (q : Int) ∧ s = .int .i64 ((t.length : Int) - (Ltx.extent (l.take q) : Int)) ∧ Ltx.extent (l.take q) ≤ t.length ∧ Below w.heap.size w wr) (fun _ k _ => n - (intOf k).toNat)
  case atStart => exact ⟨0, Nat.zero_le _, rfl, by simp [Ltx.extent], by simp [Ltx.extent], hb2'.out⟩
  case round =>
    obtain ⟨q, hq, rfl, rfl, hs, hbel⟩ := hrel
    by_cases h1 : q < n
    · have h1I : (q : Int) < (n : Int) := by omega
      obtain ⟨ad, p, rfl, hpq, hlt, hp⟩ := (hx'.out.below hbel).pc h1
      obtain ⟨x1, x2, x3, x4, x5, x6, x7, x8⟩ := hp
      have hst := extent_take l q p hpq
      have hle := extent_le l (q + 1)
      obtain ⟨kp, dr, pu⟩ := p
      simp only [ipc] at *
      unfold maxLen at x5
      generalize Ltx.extent (l.take q) = s at *
      have hst' := Lib.hid hst
      have hle' := Lib.hid hle
      have hbel' := Lib.hid hbel
      have hb1 : s + kp + dr ≤ 10000000000 := by omega
      by_cases hf : s + kp + dr ≤ t.length
      · have hI : ¬ (t.length : Int) - (s : Int) - ((kp : Int) + (dr : Int)) < 0 := by omega
        clear hst hle hbel hpq
        go_wp2_with fail
        go_roundw
        case rel => exact ⟨q + 1, by omega, by go_num, congrArg (Value.int .i64) (by rw [hst'.out]; omega), by rw [hst'.out]; exact hf, hbel'.out.alloc hbel'.out.size _⟩
        case measure => simp [intOf]; omega
      · have hI : (t.length : Int) - (s : Int) - ((kp : Int) + (dr : Int)) < 0 := by omega
        have hv := Lib.hid (show t.length < Ltx.extent l by omega)
        clear hst hle hbel hpq
        go_wp2_with fail
        go_ret
        exact ⟨by first | rfl | (rw [if_pos hv.out]; rfl), hbel'.out.alloc hbel'.out.size _⟩
    · have hqn : q = n := by omega
      have h1I : ¬ (q : Int) < (n : Int) := by omega
      have hv := Lib.hid (show ¬ t.length < Ltx.extent l by rw [hqn, ← hlen.out, List.take_length] at hs; omega)
      have hbel' := Lib.hid hbel
      clear hs hbel hqn h1
      go_wp2_with fail
      go_ret
      exact ⟨by first | rfl | (rw [if_neg hv.out]; rfl), hbel'.out⟩
end Go.Proofs.Ytpoenlhikanooaa.P5
/- strings.Builder: WriteString, at a builder of the call's own. -/
namespace Go.Proofs.Ytpoenlhikanooaa.P5
set_option linter.unusedVariables false
open Go.RowKit
set_option maxRecDepth 20000

/-- a builder at block b that holds bs; it stands on blocks of S -/
structure Bld (w : World) (S : Nat → Prop) (base b : Nat) (bs : List UInt8) : Prop where
  own : ∀ k, S k → base ≤ k ∧ k < w.heap.size
  here : S b
  dat : ∃ (p v : Value), (p = .pointer none ∨ p = .pointer (some ⟨b, 0, none⟩)) ∧ w.heap[b]? = some (.cells #[p, v] 166 (0, 0)) ∧ OwnB base w v bs ∧ ∀ k, v.ownBlock = some k → S k
theorem check_used (w : World) (b : Nat) (hc : w.cell? ⟨b, 0, none⟩ = some (.pointer (some ⟨b, 0, none⟩))) :
    Calls Try.prog 166 #[.pointer (some ⟨b, 0, none⟩)] w fun e w' => e = .returned (.tuple #[]) ∧ w = w' := by
  have hne := Lib.run_neq_ptr_same (P := Try.prog) w (tp := 164) (te := 166) (j := (Try.prog.info? 166).get!) ⟨b, 0, none⟩ Try.underlying164 (by kernel_rfl)
  go_enter Try.func166, Try.ntmps166
  go_wp2
  go_end0
  exact ⟨rfl, rfl⟩
theorem check_fresh (w : World) (b : Nat) (v : Value) (hb : w.heap[b]? = some (.cells #[.pointer none, v] 166 (0, 0))) :
    Calls Try.prog 166 #[.pointer (some ⟨b, 0, none⟩)] w fun e w' => e = .returned (.tuple #[]) ∧ w' = w.setCell ⟨b, 0, none⟩ (.pointer (some ⟨b, 0, none⟩)) := by
  have c0 := cell_of_row w b 0 _ _ _ hb
  have f0 := frozen_of_row w b 0 _ _ hb
  simp at c0
  have hsh : w.shape? b = some (166, 2) := by simp [World.shape?, hb]
  have hb' := Lib.hid hb
  clear hb
  go_enter Try.func166, Try.ntmps166
  go_wp2
  rw [Lib.run_to_unsafe w ⟨b, 0, none⟩ Try.underlying164 Try.underlying189 (j := (Try.prog.info? 166).get!) (t := 166) (by kernel_rfl) (by decide +kernel) hsh (Nat.zero_lt_succ 1)]
  simp only [Result.andThen]
  rw [Oper.upon_value]
  go_wp2
  rw [run_callFunc_extern Try.func170 (by kernel_rfl) (by kernel_rfl) (by kernel_rfl) (e := Extern.AbiNoEscape.same) (by kernel_rfl)]
  rw [Lib.run_noEscape]
  simp only [Result.andThen]
  rw [Oper.upon_value]
  go_wp2
  rw [Lib.run_from_unsafe w ⟨b, 0, none⟩ Try.underlying189 Try.underlying164 (j := (Try.prog.info? 166).get!) (u := 166) (by kernel_rfl) hsh (by kernel_rfl)]
  simp only [Result.andThen]
  rw [Oper.upon_value]
  go_wp2
  go_end0
  exact ⟨rfl, rfl⟩
/-- a builder whose address it knows -/
def BldU (w : World) (S : Nat → Prop) (base b : Nat) (v : Value) (bs : List UInt8) : Prop := w.heap[b]? = some (.cells #[.pointer (some ⟨b, 0, none⟩), v] 166 (0, 0)) ∧ OwnB base w v bs ∧ ∀ k, v.ownBlock = some k → S k
theorem check_any {w : World} {S : Nat → Prop} {base b : Nat} {bs : List UInt8} (h : Bld w S base b bs) :
    Calls Try.prog 166 #[.pointer (some ⟨b, 0, none⟩)] w fun e w' => e = .returned (.tuple #[]) ∧ (∃ v, BldU w' S base b v bs) ∧ FrX S w w' ∧ w'.heap.size = w.heap.size := by
  obtain ⟨h1, h2, p, v, hp, hh, hown, hs⟩ := h
  rcases hp with rfl | rfl
  · refine (check_fresh w b v hh).mono ?_
    rintro e w' ⟨rfl, rfl⟩
    have hset := heap_setCell_same w b 0 _ _ (.pointer (some ⟨b, 0, none⟩)) hh
    refine ⟨rfl, ⟨v, hset, own_kept hown fun k hk => heap_setCell_other w ⟨b, 0, none⟩ k _ (fun e => by have e2 : k = b := e; subst e2; exact own_ne hown hh (by decide) hk), hs⟩, (FrX.refl S w).setCell h2, by simp⟩
  · refine (check_used w b (cell_of_row w b 0 _ _ _ hh)).mono ?_
    rintro e w' ⟨rfl, rfl⟩
    exact ⟨rfl, ⟨v, hh, hown, hs⟩, FrX.refl S w, rfl⟩
set_option maxHeartbeats 1000000 in
theorem write_any {w : World} {S : Nat → Prop} {base b : Nat} {bs : List UInt8} (h : Bld w S base b bs) (t : List UInt8) (hlen : bs.length + t.length ≤ 100000000) (hbase : base ≤ w.heap.size) :
    Calls Try.prog 151 #[.pointer (some ⟨b, 0, none⟩), .string ⟨t.toArray⟩] w fun e w' => e = .returned (.tuple #[.int .i64 (t.length : Int), .nilIface]) ∧ Bld w' (Also S w w') base b (bs ++ t) ∧ FrX S w w' := by
  have h' := Lib.hid h
  have hown := Lib.hid h.own
  have hhere := h.here
  have hlt := (h.own b h.here).2
  have htl : (⟨t.toArray⟩ : ByteArray).size = t.length := rfl
  have htl' := Lib.hid htl
  clear h htl
  go_enter Try.func151, Try.ntmps151
  go_wp2_with (first
    | (go_at_call 166; refine (check_any h'.out).mono ?_; rintro e w2 ⟨rfl, ⟨v, hu⟩, hF, hsz⟩; obtain ⟨hh, ho, hs⟩ := hu; obtain ⟨A, n, c, rfl, -, -, -, -, -⟩ := ho.shape_n (by unfold maxLen; omega); have c1 := cell_of_row w2 b 1 _ _ _ hh; simp at c1; have hh' := Lib.hid hh; have ho' := Lib.hid ho; have hs' := Lib.hid hs; have hF' := Lib.hid hF; have hsz' := Lib.hid hsz; clear hh ho hs hF hsz)
    | (at_builtin; refine wpList_append_text rfl (.tmp 12) (.tmp 13) rfl base _ bs t rfl ho'.out rfl hlen (by rw [hsz'.out]; exact hbase) ?_; intro v' w3 ho3 hg3 hat3; obtain ⟨A', n', c', rfl, -, -, -, -, -⟩ := ho3.shape_n (by rw [List.length_append]; unfold maxLen; omega); have hq := (hg3.block b (by rw [hsz'.out]; exact hlt) (fun e => own_ne ho'.out hh'.out (by decide) e.symm)).trans hh'.out; have c13 := cell_of_row w3 b 1 _ _ _ hq; have f13 := frozen_of_row w3 b 1 _ _ hq; simp at c13; have hq' := Lib.hid hq; have ho3' := Lib.hid ho3; have hg3' := Lib.hid hg3; have hat3' := Lib.hid hat3; clear hq ho3 hg3 hat3))
  go_ret2
  have hset := heap_setCell_same w3 b 1 _ _ (.slice A' n' c') hq'.out
  have hot : ∀ k, k ≠ b → (w3.setCell ⟨b, 1, none⟩ (.slice A' n' c')).heap[k]? = w3.heap[k]? := fun k hk => heap_setCell_other w3 ⟨b, 1, none⟩ k _ hk
  have hsz4 : (w3.setCell ⟨b, 1, none⟩ (.slice A' n' c')).heap.size = w3.heap.size := by simp
  have hF3 : FrX S w2 w3 := FrX.of_grown hg3'.out hs'.out
  have hF4 : FrX S w w3 := hF'.out.trans hF3 (fun k hk => .inl hk)
  have hs3 := hF4.size
  have hlo := World.ownsRow.lt ho3'.out
  have hin : ∀ k, Value.ownBlock (.slice A' n' c') = some k → Also S w (w3.setCell ⟨b, 1, none⟩ (.slice A' n' c')) k := fun k hk => by
    rcases hat3'.out with e | e
    · exact .inl (hs'.out k (e ▸ hk))
    · rw [hk] at e
      injection e with e
      have := (hlo k hk).2
      have := hsz'.out
      exact .inr ⟨by omega, by omega⟩
  refine ⟨by first | rfl | rw [← htl'.out]; rfl, ⟨fun k hk => ?_, .inl hhere, _, _, .inr rfl, hset, own_kept ho3'.out fun k hk => hot k (fun e => own_ne ho3'.out hq'.out (by decide) (e ▸ hk)), hin⟩, hF4.setCell hhere⟩
  rcases hk with hk | hk
  · have := hown.out k hk
    omega
  · omega
/-- as the shelf has it -/
theorem Bld.shelf {w : World} {S : Nat → Prop} {base b : Nat} {bs : List UInt8} (h : Bld w S base b bs) : Lib.IsBuilder 166 5 base b (Lib.byteCells bs) w := by
  obtain ⟨h1, h2, p, v, hp, hh, hown, hs⟩ := h
  have hl : (Lib.byteCells bs).length = bs.length := Lib.byteCells_length bs
  have ho : w.ownsRow base 5 1 v (Lib.byteCells bs).length (Lib.byteCells bs) := by rw [hl]; exact hown
  have hne := own_ne hown hh (show 5 ≠ 166 by decide)
  rcases hp with rfl | rfl
  · exact .inl ⟨(h1 b h2).1, v, hh, ho, hne⟩
  · exact .inr ⟨(h1 b h2).1, v, hh, ho, hne⟩
end Go.Proofs.Ytpoenlhikanooaa.P5
/- Is a tree right: the document's. -/
namespace Go.Proofs.Ytpoenlhikanooaa
set_option linter.unusedVariables false
open Go.RowKit
set_option maxRecDepth 20000

end Go.Proofs.Ytpoenlhikanooaa
/- Are two trees alike, are they the same: the document's. -/
namespace Go.Proofs.Ytpoenlhikanooaa
set_option linter.unusedVariables false
open Go.RowKit
set_option maxRecDepth 20000

end Go.Proofs.Ytpoenlhikanooaa
/- A tree with another node at a path: the program's. -/
namespace Go.Proofs.Ytpoenlhikanooaa
set_option linter.unusedVariables false
open Go.RowKit
set_option maxRecDepth 20000

theorem hole_below {b0 eb eo : Nat} {W W' : World} {f : Nd → Nd} (h : Hole b0 W eb eo f) (heb : eb < W.heap.size) (hb : Below W.heap.size W W') : Hole b0 W' eb eo f := fun W2 z hz ho hc hN =>
  h W2 z (Nat.le_trans hb.size hz) (fun k hk hne => (ho k (Nat.lt_of_lt_of_le hk hb.size) hne).trans (hb.block k hk)) (fun o h => (hc o h).trans (hb.cell (p := ⟨eb, o, none⟩) heb)) hN
theorem Owned.some_ {w w' : World} {T : Nat → Prop} {t : Nd} {aA kA : Option Addr} {an ac kn kc gA : Nat} {ks : List KV} (h : Owned w w' T t aA an ac kA kn kc gA ks) (hk : 0 < kn) : ∃ g, kA = some ⟨g, 0, none⟩ := by
  rcases h.row.2 with ⟨h0, h1⟩ | ⟨g', cap, cur, e, -⟩
  · have := h.len
    omega
  · injection e with e1 e2 e3
    exact ⟨g', e1⟩
theorem putV_none {s x : Nd} {i : Int} {r : List Int} (h : hasB s.kids.length i = false) : putV s (i :: r) x = none := by
  unfold hasB at h
  have h := of_decide_eq_false h
  simp only [putV]
  split
  · rw [List.getElem?_eq_none (by omega)]
  · rfl
theorem putV_some {s k x : Nd} {j : Nat} {r : List Int} (h : s.kids[j]? = some k) : putV s ((j : Int) :: r) x = (putV k r x).map fun z => s.withKids (s.kids.set j z) := by
  simp only [putV]
  rw [if_pos (by omega)]
  simp only [Int.toNat_natCast, h]
  cases putV k r x <;> rfl
/-- what Put answers -/
def PutAns (w : World) (t : Nd) (p : List Int) (x : Nd) (e : Ending) (w' : World) : Prop :=
  ∃ aA an ac kA kn kc, e = .returned (.tuple #[.agg (val6 ((putV t p x).getD Nd.zero) aA an ac kA kn kc), .bool (putV t p x).isSome]) ∧ NodeV (Old w') w' aA an ac kA kn kc ((putV t p x).getD Nd.zero) ∧ Below w.heap.size w w'
end Go.Proofs.Ytpoenlhikanooaa
/- At and Put once more, over any blocks T: what is answered lies in these, or in new ones. (After wip/plain's TreM, TreV, TreW.) -/
namespace Go.Proofs.Ytpoenlhikanooaa.Top
open Go.RowKit
set_option maxRecDepth 20000
set_option linter.unusedVariables false

/-- the blocks of T, and new ones -/
def Nw (T : Nat → Prop) (w w' : World) (k : Nat) : Prop := T k ∨ (w.heap.size ≤ k ∧ k < w'.heap.size)
def AtAns (T : Nat → Prop) (w : World) (t : Nd) (p : List Int) (e : Ending) (w' : World) : Prop :=
  ∃ aA an ac kA kn kc, e = .returned (.tuple #[.agg (val6 ((atV t p).getD Nd.zero) aA an ac kA kn kc), .bool (atV t p).isSome]) ∧ NodeV (Nw T w w') w' aA an ac kA kn kc ((atV t p).getD Nd.zero) ∧ Below w.heap.size w w'
set_option maxHeartbeats 4000000 in
theorem at_T (T : Nat → Prop) (w : World) (hT : ∀ k, T k → k < w.heap.size) (t : Nd) (aA kA : Option Addr) (an ac kn kc : Nat) (h : NodeV T w aA an ac kA kn kc t) (pA : Option Addr) (pn pc : Nat) (p : List Int) (hp : Its w pA pn p) (hpn : pn ≤ maxLen)
    (hbig : weighV t ≤ 1000000) :
    Calls Try.prog 35 #[.agg (val6 t aA an ac kA kn kc), .slice pA pn pc] w (AtAns T w t p) := by
  have h' := Lib.hid h
  have hp' := Lib.hid hp
  have hpl := Lib.hid hp.1
  clear h hp
  unfold maxLen at hpn
  unfold val6
  go_enter Try.func35, Try.ntmps35
  go_wp2_with fail
  go_loopw [10] (fun k wr => ∃ (q : Nat) (s : Nd) (sA skA : Option Addr) (sn sc skn skc : Nat), q ≤ pn ∧ k = .int .i64 (q : Int) ∧ atV t p = atV s (p.drop q) ∧ weighV s ≤ 1000000 ∧ NodeV T w sA sn sc skA skn skc s ∧
    wr.heap[w.heap.size]? = some (.cells (val6 s sA sn sc skA skn skc) 42 (0, 0)) ∧ wr.heap[w.heap.size + 1]? = some (.cells zero6 42 (0, 0)) ∧ Below w.heap.size w wr) (fun k _ => pn - (intOf k).toNat)
  case atStart =>
    exact ⟨0, t, aA, kA, an, ac, kn, kc, Nat.zero_le _, rfl, rfl, hbig, h'.out, two_first w _ _, two_second w _ _, ((Below.refl _ w).alloc (Nat.le_refl _) _).alloc (by simp) _⟩
  case round =>
    obtain ⟨q, s, sA, skA, sn, sc, skn, skc, hq, rfl, hat, hz, hv, hB, hR, hbel⟩ := hrel
    have hf := hv.facts
    have hkl := hf.kl
    have hb := weigh_rows s
    unfold val6 at hB
    unfold zero6 at hR
    obtain ⟨c0, c1, c2, c3, c4, c5, cf⟩ := six_cells hB
    obtain ⟨r0, r1, r2, r3, r4, r5, rf⟩ := six_cells hR
    have hBl := (Array.getElem?_eq_some_iff.1 hB).1
    have hRl := (Array.getElem?_eq_some_iff.1 hR).1
    by_cases h1 : q < pn
    · have h1I : (q : Int) < (pn : Int) := by omega
      obtain ⟨ad, i, rfl, hi, hci⟩ := (hp'.out.below hbel).at_ h1
      have hdrop : p.drop q = i :: p.drop (q + 1) := by
        have hl : q < p.length := by rw [hpl.out]; exact h1
        rw [List.drop_eq_getElem_cons hl]
        rw [List.getElem?_eq_getElem hl] at hi
        injection hi with hi
        rw [hi]
      rw [hdrop] at hat
      have hkm := hf.kcm
      have hknc := hf.knc
      rcases hasB_cases skn i with hno | ⟨j, rfl, hj, hyes⟩
      · have hcall := Lib.hid (hasChild_any wr (s.id : Int) s.leaf s.label s.text sA skA sn sc skn skc i (by omega))
        rw [hno] at hcall
        have hans := Lib.hid (hat.trans (atV_none (by rw [hkl]; exact hno)))
        have hbel' := Lib.hid hbel
        have hR' := Lib.hid hR
        clear hat hf hkl hv hB hR hbel hno hdrop hkm hknc hz hb hi
        go_wp2_with (go_at_call 75; refine hcall.out.mono ?_; rintro e w1 ⟨rfl, hb1⟩; have R1 := (hb1.block _ hRl).trans hR'.out; obtain ⟨d0, d1, d2, d3, d4, d5, df⟩ := six_cells R1)
        have hW : w.heap.size + 1 < w1.heap.size := (Array.getElem?_eq_some_iff.1 R1).1
        have R9 := set_six (b0 := .int .u64 0) (b1 := .bool false) (b2 := .string ⟨#[]⟩) (b3 := .slice none 0 0) (b4 := .string ⟨#[]⟩) (b5 := .slice none 0 0) R1
        have hb9 : Below w.heap.size w _ := below_six (hbel'.out.trans (hb1.mono hbel'.out.size)) (b0 := .int .u64 0) (b1 := .bool false) (b2 := .string ⟨#[]⟩) (b3 := .slice none 0 0) (b4 := .string ⟨#[]⟩) (b5 := .slice none 0 0) (Nat.le_succ w.heap.size)
        generalize ((((((w1.setCell ⟨w.heap.size + 1, 0, none⟩ (.int .u64 0)).setCell ⟨w.heap.size + 1, 1, none⟩ (.bool false)).setCell ⟨w.heap.size + 1, 2, none⟩ (.string ⟨#[]⟩)).setCell ⟨w.heap.size + 1, 3, none⟩ (.slice none 0 0)).setCell ⟨w.heap.size + 1, 4, none⟩ (.string ⟨#[]⟩)).setCell ⟨w.heap.size + 1, 5, none⟩ (.slice none 0 0)) = W9 at R9 hb9 ⊢
        obtain ⟨d0, d1, d2, d3, d4, d5, df⟩ := six_cells R9
        refine bodyPost_ret (v := .tuple #[.agg zero6, .bool false]) (by simp [results, Try.results35, go_sem, d0, d1, d2, d3, d4, d5, zero6]) rfl ?_
        exact ⟨none, 0, 0, none, 0, 0, by rw [hans.out]; rfl, by rw [hans.out]; exact zero_node, hb9⟩
      · obtain ⟨kd, hkd⟩ : ∃ kd, s.kids[j]? = some kd := ⟨s.kids[j]'(by omega), List.getElem?_eq_getElem _⟩
        obtain ⟨ka, rfl, hka, aA3, an3, ac3, kA3, kn3, kc3, hsix, hv3⟩ := hf.row.at_ hkd
        rw [Nat.zero_add] at hka hsix
        have hcall := Lib.hid (hasChild_any wr (s.id : Int) s.leaf s.label s.text sA (some ka) sn sc skn skc (j : Int) (by omega))
        rw [hyes] at hcall
        have hans := Lib.hid (hat.trans (atV_some hkd))
        have hpath := Lib.hid (Nat.le_trans (weigh_kid hkd) hz)
        have hjI : (j : Int) < (skn : Int) := by omega
        have hbel' := Lib.hid hbel
        have hR' := Lib.hid hR
        have hv3' := Lib.hid hv3
        clear hat hf hkl hv hR hbel hyes hdrop hkm hknc hz hb hi hkd hv3
        go_wp2_with (go_at_call 75; refine hcall.out.mono ?_; rintro e w1 ⟨rfl, hb1⟩; have B1 := (hb1.block _ hBl).trans hB; have R1 := (hb1.block _ hRl).trans hR'.out; obtain ⟨d0, d1, d2, d3, d4, d5, df⟩ := six_cells B1; obtain ⟨s0, s1, s2, s3, s4, s5⟩ := hsix.kept (w' := w1) (((hbel'.out.trans (hb1.mono hbel'.out.size))).block _ (hT _ hka)))
        go_roundw
        case rel =>
          have hbw := hbel'.out.trans (hb1.mono hbel'.out.size)
          refine ⟨q + 1, kd, aA3, kA3, an3, ac3, kn3, kc3, by omega, by go_num, hans.out, hpath.out, hv3'.out, set_six B1, (set_six_other (by omega)).trans R1, below_six hbw (Nat.le_refl _)⟩
        case measure => simp [intOf]; omega
    · have h1I : ¬ (q : Int) < (pn : Int) := by omega
      have hans := Lib.hid (show atV t p = some s by rw [hat, List.drop_of_length_le (by rw [hpl.out]; omega)]; rfl)
      have hcall := Lib.hid (owned_any wr T s sA skA sn sc skn skc (hv.kept (fun _ h => h) (fun k hk => hbel.block k (hT k hk))) (fun k hk => Nat.lt_of_lt_of_le (hT k hk) hbel.size) (by have := hf.ats.1; omega) (by omega))
      have hv' := Lib.hid (hv.kept (w' := wr) (T' := T) (fun _ h => h) (fun k hk => hbel.block k (hT k hk)))
      have hbel' := Lib.hid hbel
      have hR' := Lib.hid hR
      clear hat hf hkl hv hR hbel hz hb hB
      go_wp2_with (go_at_call 76; refine hcall.out.mono ?_; rintro e w1 ⟨oA, oc, okA, okc, gA, ks, rfl, hO⟩; have R1 := (hO.bel.block _ hRl).trans hR'.out; obtain ⟨d0, d1, d2, d3, d4, d5, df⟩ := six_cells R1; have hO' := Lib.hid hO; clear hO)
      have R9 := set_six (b0 := .int .u64 (s.id : Int)) (b1 := .bool s.leaf) (b2 := .string ⟨s.label.toArray⟩) (b3 := .slice oA sn oc) (b4 := .string ⟨s.text.toArray⟩) (b5 := .slice okA skn okc) R1
      have hO := hO'.out
      have hbw := hbel'.out.trans (hO.bel.mono hbel'.out.size)
      have hb9 : Below w.heap.size w _ := below_six hbw (b0 := .int .u64 (s.id : Int)) (b1 := .bool s.leaf) (b2 := .string ⟨s.label.toArray⟩) (b3 := .slice oA sn oc) (b4 := .string ⟨s.text.toArray⟩) (b5 := .slice okA skn okc) (Nat.le_succ w.heap.size)
      have hz1 := hO.bel.size
      have hN : NodeV (Nw T w ((((((w1.setCell ⟨w.heap.size + 1, 0, none⟩ (.int .u64 (s.id : Int))).setCell ⟨w.heap.size + 1, 1, none⟩ (.bool s.leaf)).setCell ⟨w.heap.size + 1, 2, none⟩ (.string ⟨s.label.toArray⟩)).setCell ⟨w.heap.size + 1, 3, none⟩ (.slice oA sn oc)).setCell ⟨w.heap.size + 1, 4, none⟩ (.string ⟨s.text.toArray⟩)).setCell ⟨w.heap.size + 1, 5, none⟩ (.slice okA skn okc))) ((((((w1.setCell ⟨w.heap.size + 1, 0, none⟩ (.int .u64 (s.id : Int))).setCell ⟨w.heap.size + 1, 1, none⟩ (.bool s.leaf)).setCell ⟨w.heap.size + 1, 2, none⟩ (.string ⟨s.label.toArray⟩)).setCell ⟨w.heap.size + 1, 3, none⟩ (.slice oA sn oc)).setCell ⟨w.heap.size + 1, 4, none⟩ (.string ⟨s.text.toArray⟩)).setCell ⟨w.heap.size + 1, 5, none⟩ (.slice okA skn okc)) oA sn oc okA skn okc s := (hO.node hv'.out (fun k hk => Nat.lt_of_lt_of_le (hT k hk) hbel'.out.size)).kept (fun k hk => by
          show T k ∨ _
          have hsz := hbel'.out.size
          simp only [World.size_setCell]
          rcases hk with hk | hk
          · exact .inl hk
          · exact .inr ⟨by omega, hk.2⟩) (fun k hk => set_six_other (by
          have hRl2 := hRl
          rcases hk with hk | hk
          · have := hT k hk
            omega
          · omega))
      generalize ((((((w1.setCell ⟨w.heap.size + 1, 0, none⟩ (.int .u64 (s.id : Int))).setCell ⟨w.heap.size + 1, 1, none⟩ (.bool s.leaf)).setCell ⟨w.heap.size + 1, 2, none⟩ (.string ⟨s.label.toArray⟩)).setCell ⟨w.heap.size + 1, 3, none⟩ (.slice oA sn oc)).setCell ⟨w.heap.size + 1, 4, none⟩ (.string ⟨s.text.toArray⟩)).setCell ⟨w.heap.size + 1, 5, none⟩ (.slice okA skn okc)) = W9 at R9 hb9 hN ⊢
      obtain ⟨f0, f1, f2, f3, f4, f5, ff⟩ := six_cells R9
      refine bodyPost_ret (v := .tuple #[.agg (val6 s oA sn oc okA skn okc), .bool true]) (by simp [results, Try.results35, go_sem, f0, f1, f2, f3, f4, f5, val6]) rfl ?_
      exact ⟨oA, sn, oc, okA, skn, okc, by rw [hans.out]; rfl, by rw [hans.out]; exact hN, hb9⟩
/-- all blocks but the one of the answer -/
def Ex (T : Nat → Prop) (b0 : Nat) (W : World) (k : Nat) : Prop := (T k ∨ b0 ≤ k) ∧ k < W.heap.size ∧ k ≠ b0 + 1 + 1
/-- whatever comes to lie at ⟨eb, eo⟩: what then lies at the block b0 -/
def Hole (T : Nat → Prop) (b0 : Nat) (W : World) (eb eo : Nat) (f : Nd → Nd) : Prop :=
  ∀ (W' : World) (z : Nd), W.heap.size ≤ W'.heap.size → (∀ k, k < W.heap.size → k ≠ eb → W'.heap[k]? = W.heap[k]?) → (∀ o, (o < eo ∨ eo + 5 < o) → W'.cell? ⟨eb, o, none⟩ = W.cell? ⟨eb, o, none⟩) →
    NodeAt (Ex T b0 W') W' ⟨eb, eo, none⟩ z → NodeAt (Ex T b0 W') W' ⟨b0, 0, none⟩ (f z)
theorem hole_step {T : Nat → Prop} {w W W1 W2 : World} (hT : ∀ k, T k → k < w.heap.size) {b0 eb eo : Nat} {f : Nd → Nd} {s : Nd} {sA skA aA kA : Option Addr} {sn sc skn skc an ac kn kc gA j : Nat} {ks : List KV} (hb : Below w.heap.size w W) (hb0 : b0 = w.heap.size) (hr : b0 + 1 + 1 < W.heap.size) (hre : eb ≠ b0 + 1 + 1) (hole : Hole T b0 W eb eo f) (heb : eb < W.heap.size) (hew : w.heap.size ≤ eb)
    (hO : Owned W W1 T s aA an ac kA kn kc gA ks) (hv : NodeV T W sA sn sc skA skn skc s) (s1 : W2.heap.size = W1.heap.size) (s2 : ∀ k, k ≠ eb → W2.heap[k]? = W1.heap[k]?) (s3 : ∀ o, (o < eo ∨ eo + 5 < o) → W2.cell? ⟨eb, o, none⟩ = W1.cell? ⟨eb, o, none⟩)
    (s4 : Six W2 ⟨eb, eo, none⟩ s aA an ac kA kn kc) (hj : j < kn) :
    ∃ g kv cur, kA = some ⟨g, 0, none⟩ ∧ W.heap.size ≤ g ∧ g < W1.heap.size ∧ Hole T b0 W2 g (j * 6) (fun z => f (s.withKids (s.kids.set j z))) ∧ ks[j]? = some kv ∧ s.kids[j]? = some kv.t ∧ kv.six W2 ⟨g, j * 6, none⟩ ∧ kv.ok T W ∧ W2.heap[g]? = some (.cells cur 42 (0, 0)) ∧ j * 6 + 5 < cur.size := by
  have hlen := hO.len
  have hbel := hO.bel
  have hz := hbel.size
  obtain ⟨A, n, c, e, hn, hnc, -, -, hq⟩ := hO.row.shape
  injection e with e1 e2 e3
  subst e1 e2 e3
  obtain ⟨kv, hkv⟩ : ∃ kv, ks[j]? = some kv := ⟨ks[j]'(by omega), List.getElem?_eq_getElem _⟩
  obtain ⟨g, rfl, hg1, hg2, hgs⟩ := hq j kv hkv
  have hge : g ≠ eb := by omega
  obtain ⟨cur, hcur, hcsz⟩ : ∃ cur, W1.heap[g]? = some (.cells cur 42 (0, 0)) ∧ j * 6 + 5 < cur.size := by
    rcases hO.row.2 with ⟨h0, h1⟩ | ⟨g', cap, cur, e, -, hg, hcap, -, hsz, -⟩
    · cases h0
    · injection e with e1 e2 e3
      injection e1 with e1
      injection e1 with e1
      subst e1
      exact ⟨cur, hg, by rw [hsz]; omega⟩
  have hgn : g ≠ gA := hO.ne _ rfl
  have hkt : ∀ (q : Nat) (v : KV), ks[q]? = some v → s.kids[q]? = some v.t := fun q v h => by rw [← hO.map, List.getElem?_map, h]; rfl
  have b12 : ∀ k, k ≠ eb → k < W1.heap.size → W2.heap[k]? = W1.heap[k]? := fun k h _ => s2 k h
  refine ⟨g, kv, cur, rfl, hg1, hg2, ?_, hkv, hkt j kv hkv, hgs.kept (b12 g hge hg2), hO.ok kv (List.mem_of_getElem? hkv), (s2 g hge).trans hcur, hcsz⟩
  intro W' z hzs hother hcell hN
  have hbe : W'.heap[eb]? = W2.heap[eb]? := hother eb (by omega) (fun e => hge e.symm)
  refine hole W' (s.withKids (s.kids.set j z)) (by omega) (fun k hk hne => (hother k (by omega) (by omega)).trans ((s2 k hne).trans (hbel.block k hk))) (fun o ho => ?_) ?_
  · exact (World.cell?_of_block (a := ⟨eb, o, none⟩) hbe).trans ((s3 o ho).trans (World.cell?_of_block (a := ⟨eb, o, none⟩) (hbel.block eb heb)))
  · refine ⟨⟨.inr (by show b0 ≤ eb; omega), by show eb < _; omega, hre⟩, aA, an, ac, some ⟨g, 0, none⟩, kn, kc, (six_with ..).2 (s4.kept hbe), ?_⟩
    have hf := hv.facts
    have hga := hO.ga
    have hat : AtsIn (Ex T b0 W') W' aA an s.attrs := hO.ats.kept (fun k hk => by subst hk; exact ⟨.inr (by have := hb.size; omega), by omega, by omega⟩) (fun k hk => by subst hk; exact (hother k (by omega) (fun e => hgn e.symm)).trans (s2 k (by omega)))
    have hrow : RowAt (Ex T b0 W') W' (some ⟨g, 0, none⟩) 0 (s.kids.set j z) := by
      refine RowAt.of _ 0 fun q t hqt => ⟨_, rfl, ?_⟩
      rw [Nat.zero_add, add_zero_off]
      by_cases hqj : q = j
      · subst hqj
        rw [List.getElem?_set_self (by have := hf.kl; have := (List.getElem?_eq_some_iff.1 (hkt q kv hkv)).1; omega)] at hqt
        injection hqt with hqt
        subst hqt
        exact hN
      · rw [List.getElem?_set_ne (fun e => hqj e.symm)] at hqt
        obtain ⟨v, hvq⟩ : ∃ v, ks[q]? = some v := by
          have := (List.getElem?_eq_some_iff.1 hqt).1
          have hm : ks.length = s.kids.length := by rw [← hO.map, List.length_map]
          exact ⟨ks[q]'(by omega), List.getElem?_eq_getElem _⟩
        have hvt := hkt q v hvq
        rw [hqt] at hvt
        injection hvt with hvt
        subst hvt
        obtain ⟨g', eg, -, -, h6⟩ := hq q v hvq
        injection eg with eg
        injection eg with eg
        subst eg
        have hc6 : ∀ o, o < q * 6 + 6 → q * 6 ≤ o → W'.cell? ⟨g, o, none⟩ = W1.cell? ⟨g, o, none⟩ := fun o h1 h2 => (hcell o (by omega)).trans (World.cell?_of_block (a := ⟨g, o, none⟩) (s2 g hge))
        obtain ⟨t0, t1, t2, t3, t4, t5⟩ := h6
        refine ⟨⟨.inr (by show b0 ≤ g; have := hb.size; omega), by show g < _; omega, by show g ≠ _; omega⟩, v.aA, v.an, v.ac, v.kA, v.kn, v.kc, ⟨(hc6 (q * 6) (by omega) (by omega)).trans t0, (hc6 (q * 6 + 1) (by omega) (by omega)).trans t1, (hc6 (q * 6 + 2) (by omega) (by omega)).trans t2, (hc6 (q * 6 + 3) (by omega) (by omega)).trans t3, (hc6 (q * 6 + 4) (by omega) (by omega)).trans t4, (hc6 (q * 6 + 5) (by omega) (by omega)).trans t5⟩, ?_⟩
        refine NodeV.kept (T := T) (w := W) (fun k hk => ?_) (fun k hk => ?_) _ _ _ _ _ _ _ (hO.ok v (List.mem_of_getElem? hvq))
        · have hk' : k < w.heap.size := hT k hk
          exact ⟨.inl hk, by have := hb.size; omega, by omega⟩
        · have hk' : k < w.heap.size := hT k hk
          have := hb.size
          exact (hother k (by omega) (by omega)).trans ((s2 k (by omega)).trans (hbel.block k (by omega)))
    have hkl : (s.kids.set j z).length = kn := by
      rw [List.length_set, ← hO.map, List.length_map]
      exact hlen
    have hfi := hf.id
    have hfl := hf.label
    have hft := hf.text
    cases s
    exact NFacts.node ⟨hfi, hfl, hft, hat, hO.anc, hO.acm, hO.anil, hkl, hO.knc, hO.kcm, hO.knil, hrow⟩
theorem hole_below {T : Nat → Prop} {b0 eb eo : Nat} {W W' : World} {f : Nd → Nd} (h : Hole T b0 W eb eo f) (heb : eb < W.heap.size) (hb : Below W.heap.size W W') : Hole T b0 W' eb eo f := fun W2 z hz ho hc hN =>
  h W2 z (Nat.le_trans hb.size hz) (fun k hk hne => (ho k (Nat.lt_of_lt_of_le hk hb.size) hne).trans (hb.block k hk)) (fun o h => (hc o h).trans (hb.cell (p := ⟨eb, o, none⟩) heb)) hN
/-- what Put answers -/
def PutAns (T : Nat → Prop) (w : World) (t : Nd) (p : List Int) (x : Nd) (e : Ending) (w' : World) : Prop :=
  ∃ aA an ac kA kn kc, e = .returned (.tuple #[.agg (val6 ((putV t p x).getD Nd.zero) aA an ac kA kn kc), .bool (putV t p x).isSome]) ∧ NodeV (Nw T w w') w' aA an ac kA kn kc ((putV t p x).getD Nd.zero) ∧ Below w.heap.size w w'
set_option maxHeartbeats 8000000 in
theorem put_T (T : Nat → Prop) (w : World) (hT : ∀ k, T k → k < w.heap.size) (t x : Nd) (aA kA xA xkA : Option Addr) (an ac kn kc xn xc xkn xkc : Nat) (h : NodeV T w aA an ac kA kn kc t) (hx : NodeV T w xA xn xc xkA xkn xkc x) (pA : Option Addr) (pn pc : Nat) (p : List Int) (hp : Its w pA pn p) (hpn : pn ≤ maxLen)
    (hbig : weighV t ≤ 1000000) (hbigx : weighV x ≤ 1000000) :
    Calls Try.prog 153 #[.agg (val6 t aA an ac kA kn kc), .slice pA pn pc, .agg (val6 x xA xn xc xkA xkn xkc)] w (PutAns T w t p x) := by
  have h' := Lib.hid h
  have hx' := Lib.hid hx
  have hp' := Lib.hid hp
  have hpl := Lib.hid hp.1
  have hbigx' := Lib.hid hbigx
  clear h hx hp hbigx
  unfold maxLen at hpn
  obtain ⟨W3, hW3⟩ : ∃ W3, W3 = ((w.alloc (.cells (val6 t aA an ac kA kn kc) 42)).alloc (.cells (val6 x xA xn xc xkA xkn xkc) 42)).alloc (.cells zero6 42) := ⟨_, rfl⟩
  have hstart := Lib.hid (show W3.heap[w.heap.size]? = some (.cells (val6 t aA an ac kA kn kc) 42 (0, 0)) ∧ W3.heap[w.heap.size + 1]? = some (.cells (val6 x xA xn xc xkA xkn xkc) 42 (0, 0)) ∧ W3.heap[w.heap.size + 1 + 1]? = some (.cells zero6 42 (0, 0)) ∧ Below w.heap.size w W3 by
    rw [hW3]
    have h1 := heap_alloc_new w (.cells (val6 t aA an ac kA kn kc) 42)
    have h2 := heap_alloc_new (w.alloc (.cells (val6 t aA an ac kA kn kc) 42)) (.cells (val6 x xA xn xc xkA xkn xkc) 42)
    have h3 := heap_alloc_new ((w.alloc (.cells (val6 t aA an ac kA kn kc) 42)).alloc (.cells (val6 x xA xn xc xkA xkn xkc) 42)) (.cells zero6 42)
    rw [World.size_alloc] at h2
    rw [World.size_alloc, World.size_alloc] at h3
    exact ⟨(Go.heap_alloc_old _ _ (by simp; omega)).trans ((Go.heap_alloc_old _ _ (by simp)).trans h1), (Go.heap_alloc_old _ _ (by simp)).trans h2, h3, (((Below.refl w.heap.size w).alloc (Nat.le_refl _) _).alloc (by simp) _).alloc (by simp; omega) _⟩)
  unfold zero6 val6 at hW3
  unfold val6
  go_enter Try.func153, Try.ntmps153
  go_wp2_with fail
  rw [← hW3]
  clear hW3
  go_loopw [8, 13] (fun pl k wr => ∃ (q : Nat) (s : Nd) (sA skA : Option Addr) (sn sc skn skc eb eo : Nat) (f : Nd → Nd) (cs : Array Value), q ≤ pn ∧ k = .int .i64 (q : Int) ∧ pl = .pointer (some ⟨eb, eo, none⟩) ∧ putV t p x = (putV s (p.drop q) x).map f ∧ weighV s ≤ 1000000 ∧
    NodeV T w sA sn sc skA skn skc s ∧ Six wr ⟨eb, eo, none⟩ s sA sn sc skA skn skc ∧ wr.heap[eb]? = some (.cells cs 42 (0, 0)) ∧ eo + 5 < cs.size ∧ (eb = w.heap.size ∨ w.heap.size + 3 ≤ eb) ∧ Hole T w.heap.size wr eb eo f ∧
    wr.heap[w.heap.size + 1]? = some (.cells (val6 x xA xn xc xkA xkn xkc) 42 (0, 0)) ∧ wr.heap[w.heap.size + 1 + 1]? = some (.cells zero6 42 (0, 0)) ∧ Below w.heap.size w wr) (fun _ k _ => pn - (intOf k).toNat)
  case atStart =>
    obtain ⟨g1, g2, g3, g4⟩ := hstart.out
    unfold val6 at g1
    obtain ⟨c0, c1, c2, c3, c4, c5, -⟩ := six_cells g1
    exact ⟨0, t, aA, kA, an, ac, kn, kc, w.heap.size, 0, fun z => z, _, Nat.zero_le _, rfl, rfl, by simp, hbig, h'.out, ⟨c0, c1, c2, c3, c4, c5⟩, g1, by simp, .inl rfl, fun _ _ _ _ _ h => h, g2, g3, g4⟩
  case round =>
    obtain ⟨q, s, sA, skA, sn, sc, skn, skc, eb, eo, f, cs, hq, rfl, rfl, hput, hsw, hv, hsix, hrow, hcs, heb, hhole, hX, hZ, hbel⟩ := hrel
    have hf := hv.facts
    have hkl := hf.kl
    have hwr := weigh_rows s
    have hrl := (Array.getElem?_eq_some_iff.1 hrow).1
    have hXl := (Array.getElem?_eq_some_iff.1 hX).1
    have hZl := (Array.getElem?_eq_some_iff.1 hZ).1
    have hrl' := Lib.hid hrl
    have hXl' := Lib.hid hXl
    have hZl' := Lib.hid hZl
    have hX' := Lib.hid hX
    have hZ' := Lib.hid hZ
    have hrow' := Lib.hid hrow
    have hhole' := Lib.hid hhole
    have hbel' := Lib.hid hbel
    have hput' := Lib.hid hput
    have hcs' := Lib.hid hcs
    have heb' := Lib.hid heb
    have hsix' := Lib.hid hsix
    obtain ⟨c0, c1, c2, c3, c4, c5⟩ := hsix
    by_cases h1 : q < pn
    · have h1I : (q : Int) < (pn : Int) := by omega
      obtain ⟨ad, i, rfl, hi, hci⟩ := (hp'.out.below hbel).at_ h1
      have hdrop : p.drop q = i :: p.drop (q + 1) := by
        have hl : q < p.length := by rw [hpl.out]; exact h1
        rw [List.drop_eq_getElem_cons hl]
        rw [List.getElem?_eq_getElem hl] at hi
        injection hi with hi
        rw [hi]
      rw [hdrop] at hput
      have hkm := hf.kcm
      have hknc := hf.knc
      rcases hasB_cases skn i with hno | ⟨j, rfl, hj, hyes⟩
      · have hcall := Lib.hid (hasChild_any wr (s.id : Int) s.leaf s.label s.text sA skA sn sc skn skc i (by omega))
        rw [hno] at hcall
        have hans := Lib.hid (show putV t p x = none by rw [hput, putV_none (by rw [hkl]; exact hno)]; rfl)
        clear hput hf hkl hv hX hZ hrow hhole hbel hno hdrop hkm hknc hwr hi hcs heb hrl hXl hZl hsw
        go_wp2_with (go_at_call 75; refine hcall.out.mono ?_; rintro e w1 ⟨rfl, hb1⟩; have R1 := (hb1.block _ hZl'.out).trans hZ'.out; unfold zero6 at R1; obtain ⟨d0, d1, d2, d3, d4, d5, df⟩ := six_cells R1)
        have R9 := set_six (b0 := .int .u64 0) (b1 := .bool false) (b2 := .string ⟨#[]⟩) (b3 := .slice none 0 0) (b4 := .string ⟨#[]⟩) (b5 := .slice none 0 0) R1
        have hb9 : Below w.heap.size w _ := below_six (hbel'.out.trans (hb1.mono hbel'.out.size)) (b0 := .int .u64 0) (b1 := .bool false) (b2 := .string ⟨#[]⟩) (b3 := .slice none 0 0) (b4 := .string ⟨#[]⟩) (b5 := .slice none 0 0) (show w.heap.size ≤ w.heap.size + 1 + 1 by omega)
        generalize ((((((w1.setCell ⟨w.heap.size + 1 + 1, 0, none⟩ (.int .u64 0)).setCell ⟨w.heap.size + 1 + 1, 1, none⟩ (.bool false)).setCell ⟨w.heap.size + 1 + 1, 2, none⟩ (.string ⟨#[]⟩)).setCell ⟨w.heap.size + 1 + 1, 3, none⟩ (.slice none 0 0)).setCell ⟨w.heap.size + 1 + 1, 4, none⟩ (.string ⟨#[]⟩)).setCell ⟨w.heap.size + 1 + 1, 5, none⟩ (.slice none 0 0)) = W9 at R9 hb9 ⊢
        obtain ⟨d0, d1, d2, d3, d4, d5, df⟩ := six_cells R9
        refine bodyPost_ret (v := .tuple #[.agg zero6, .bool false]) (by simp [results, Try.results153, go_sem, d0, d1, d2, d3, d4, d5, zero6]) rfl ?_
        exact ⟨none, 0, 0, none, 0, 0, by rw [hans.out]; rfl, by rw [hans.out]; exact zero_node, hb9⟩
      · obtain ⟨kd, hkd⟩ : ∃ kd, s.kids[j]? = some kd := ⟨s.kids[j]'(by omega), List.getElem?_eq_getElem _⟩
        have hcall := Lib.hid (hasChild_any wr (s.id : Int) s.leaf s.label s.text sA skA sn sc skn skc (j : Int) (by omega))
        rw [hyes] at hcall
        have hans := Lib.hid (show putV t p x = (putV kd (p.drop (q + 1)) x).map fun z => f (s.withKids (s.kids.set j z)) by rw [hput, putV_some hkd, Option.map_map]; rfl)
        have hvw : Hid (∀ W, Below wr.heap.size wr W → NodeV T W sA sn sc skA skn skc s) := fun W hb => hv.kept (fun _ h => h) (fun k hk => (hb.block k (Nat.lt_of_lt_of_le (hT k hk) hbel'.out.size)).trans (hbel'.out.block k (hT k hk)))
        have hwk := Lib.hid (Nat.le_trans (weigh_kid hkd) hsw)
        have hkd' := Lib.hid hkd
        have hjI : (j : Int) < (skn : Int) := by omega
        have hj0 : 0 < skn := by omega
        have hsn : sn ≤ 1000000 := by have := hf.ats.1; omega
        have hkn : skn ≤ 1000000 := by omega
        have holdw := Lib.hid (show ∀ (W : World), Below wr.heap.size wr W → ∀ k, T k → k < W.heap.size from fun W hb k hk => Nat.lt_of_lt_of_le (Nat.lt_of_lt_of_le (hT k hk) hbel'.out.size) hb.size)
        clear hput hf hkl hv hX hZ hrow hhole hbel hyes hdrop hkm hknc hwr hi hcs heb hrl hXl hZl hsw hkd
        go_upto_region 8 with (first
          | (go_at_call 75; refine hcall.out.mono ?_; rintro e w1 ⟨rfl, hb1⟩; obtain ⟨d0, d1, d2, d3, d4, d5⟩ := hsix'.out.kept (w' := w1) (hb1.block _ hrl'.out); have hb1' := Lib.hid hb1; clear hb1)
          | (go_at_call 76; refine (owned_any w1 T s sA skA sn sc skn skc (hvw.out _ hb1'.out) (holdw.out _ hb1'.out) hsn hkn).mono ?_; rintro e w2 ⟨oA, oc, okA, okc, gA, ks, rfl, hO⟩; obtain ⟨g, rfl⟩ := hO.some_ hj0; have hr2 := (hO.bel.block eb (Nat.lt_of_lt_of_le hrl'.out hb1'.out.size)).trans ((hb1'.out.block eb hrl'.out).trans hrow'.out); have ff : ∀ o, w2.frozen? ⟨eb, o, none⟩ = false := (fun o => frozen_of_row w2 eb o _ _ hr2); obtain ⟨v0, v1, v2, v3, v4, v5⟩ := hsix'.out.kept (w' := w2) ((hO.bel.block eb (Nat.lt_of_lt_of_le hrl'.out hb1'.out.size)).trans (hb1'.out.block eb hrl'.out)); have hO' := Lib.hid hO; have hr2' := Lib.hid hr2; clear hO hr2))
        have hin := six_in (b0 := .int .u64 (s.id : Int)) (b1 := .bool s.leaf) (b2 := .string ⟨s.label.toArray⟩) (b3 := .slice oA sn oc) (b4 := .string ⟨s.text.toArray⟩) (b5 := .slice (some ⟨g, 0, none⟩) skn okc) hr2'.out hcs'.out
        have hzz := six_size (w := w2) (g := eb) (e := eo) (b0 := .int .u64 (s.id : Int)) (b1 := .bool s.leaf) (b2 := .string ⟨s.label.toArray⟩) (b3 := .slice oA sn oc) (b4 := .string ⟨s.text.toArray⟩) (b5 := .slice (some ⟨g, 0, none⟩) skn okc)
        have hot := fun k (hk : k ≠ eb) => six_other (w := w2) (g := eb) (e := eo) (b0 := .int .u64 (s.id : Int)) (b1 := .bool s.leaf) (b2 := .string ⟨s.label.toArray⟩) (b3 := .slice oA sn oc) (b4 := .string ⟨s.text.toArray⟩) (b5 := .slice (some ⟨g, 0, none⟩) skn okc) hk
        have hou := fun o (ho : o < eo ∨ eo + 5 < o) => six_out (b0 := .int .u64 (s.id : Int)) (b1 := .bool s.leaf) (b2 := .string ⟨s.label.toArray⟩) (b3 := .slice oA sn oc) (b4 := .string ⟨s.text.toArray⟩) (b5 := .slice (some ⟨g, 0, none⟩) skn okc) hr2'.out ho
        have hbe := hb1'.out
        have hew : w.heap.size ≤ eb := by have := heb'.out; omega
        have hbw := hbel'.out.trans (hbe.mono hbel'.out.size)
        have hb3 : Below w.heap.size w (six w2 eb eo (.int .u64 (s.id : Int)) (.bool s.leaf) (.string ⟨s.label.toArray⟩) (.slice oA sn oc) (.string ⟨s.text.toArray⟩) (.slice (some ⟨g, 0, none⟩) skn okc)) := six_below (hbw.trans (hO'.out.bel.mono hbw.size)) hew
        obtain ⟨w3, hw3⟩ : ∃ w3, w3 = six w2 eb eo (.int .u64 (s.id : Int)) (.bool s.leaf) (.string ⟨s.label.toArray⟩) (.slice oA sn oc) (.string ⟨s.text.toArray⟩) (.slice (some ⟨g, 0, none⟩) skn okc) := ⟨_, rfl⟩
        rw [← hw3] at hin hzz hot hou hb3
        unfold six at hw3
        rw [← hw3]
        clear hw3
        obtain ⟨u0, u1, u2, u3, u4, u5⟩ := hin
        have hrw1 := Nat.lt_of_lt_of_le hrl'.out hbe.size
        obtain ⟨g', kv, cur, e1, q1, q2, q3, q4, q5, q6, q7, q8, q9⟩ := hole_step hT hbw rfl (by have := hZl'.out; have := hbe.size; omega) (by have := heb'.out; omega) (hole_below hhole'.out hrl'.out hbe) hrw1 hew hO'.out (hvw.out _ hbe) hzz hot hou ⟨u0, u1, u2, u3, u4, u5⟩ (show j < skn by omega)
        obtain rfl : g = g' := by injection e1 with e1; injection e1
        obtain rfl : kd = kv.t := by have := hkd'.out; rw [q5] at this; injection this with this; exact this.symm
        have hX3 := Lib.hid (show w3.heap[w.heap.size + 1]? = some (.cells (val6 x xA xn xc xkA xkn xkc) 42 (0, 0)) from (hot _ (by have := heb'.out; omega)).trans ((hO'.out.bel.block _ (Nat.lt_of_lt_of_le hXl'.out hbe.size)).trans ((hbe.block _ hXl'.out).trans hX'.out)))
        have hZ3 := Lib.hid (show w3.heap[w.heap.size + 1 + 1]? = some (.cells zero6 42 (0, 0)) from (hot _ (by have := heb'.out; omega)).trans ((hO'.out.bel.block _ (Nat.lt_of_lt_of_le hZl'.out hbe.size)).trans ((hbe.block _ hZl'.out).trans hZ'.out)))
        have hgb : w.heap.size + 3 ≤ g := by have := hZl'.out; have := hbe.size; omega
        have hv7 := Lib.hid (show NodeV T w kv.aA kv.an kv.ac kv.kA kv.kn kv.kc kv.t from NodeV.kept (T := T) (w := w1) (fun _ h => h) (fun k hk => (hbw.block k (hT k hk)).symm) _ _ _ _ _ _ _ q7)
        have h3' := Lib.hid q3
        have h6' := Lib.hid q6
        have h8' := Lib.hid q8
        have h9' := Lib.hid q9
        have hb3' := Lib.hid hb3
        clear q3 q4 q5 q6 q7 q8 q9 hzz hot hou hb3 hbe hbw e1 u0 u1 u2 u3 u4 q1 q2 d0 d1 d2 d3 d4 d5 c0 c1 c2 c3 c4 c5 v0 v1 v2 v3 v4 v5 hrw1 ff
        go_wp2_with fail
        go_roundw
        case rel =>
          exact ⟨q + 1, kv.t, kv.aA, kv.kA, kv.an, kv.ac, kv.kn, kv.kc, g, j * 6, _, cur, by omega, by go_num, rfl, hans.out, hwk.out, hv7.out, h6'.out, h8'.out, h9'.out, .inr hgb, h3'.out, hX3.out, hZ3.out, hb3'.out⟩
        case measure => simp [intOf]; omega
    · have h1I : ¬ (q : Int) < (pn : Int) := by omega
      have hans := Lib.hid (show putV t p x = some (f x) by rw [hput, List.drop_of_length_le (by rw [hpl.out]; omega)]; rfl)
      unfold val6 at hX
      have hcallx := Lib.hid (owned_any wr T x xA xkA xn xc xkn xkc (hx'.out.kept (fun _ h => h) (fun k hk => hbel.block k (hT k hk))) (fun k hk => Nat.lt_of_lt_of_le (hT k hk) hbel.size) (by have := hx'.out.facts.ats.1; have := weigh_rows x; have := hbigx'.out; omega) (by have := hx'.out.facts.kl; have := weigh_rows x; have := hbigx'.out; omega))
      have hvx := Lib.hid (hx'.out.kept (w' := wr) (T' := T) (fun _ h => h) (fun k hk => hbel.block k (hT k hk)))
      obtain ⟨x0, x1, x2, x3, x4, x5, -⟩ := six_cells hX
      clear hput hf hkl hv hX hZ hrow hhole hbel hwr hcs heb hrl hXl hZl hsw
      go_upto_region 11 with (go_at_call 76; refine hcallx.out.mono ?_; rintro e w1 ⟨oA, oc, okA, okc, gA, ks, rfl, hO⟩; have hr1 := (hO.bel.block eb hrl'.out).trans hrow'.out; have ff : ∀ o, w1.frozen? ⟨eb, o, none⟩ = false := (fun o => frozen_of_row w1 eb o _ _ hr1); obtain ⟨v0, v1, v2, v3, v4, v5⟩ := hsix'.out.kept (w' := w1) (hO.bel.block eb hrl'.out); have hO' := Lib.hid hO; have hr1' := Lib.hid hr1; clear hO hr1)
      have hin := six_in (b0 := .int .u64 (x.id : Int)) (b1 := .bool x.leaf) (b2 := .string ⟨x.label.toArray⟩) (b3 := .slice oA xn oc) (b4 := .string ⟨x.text.toArray⟩) (b5 := .slice okA xkn okc) hr1'.out hcs'.out
      have hzz := six_size (w := w1) (g := eb) (e := eo) (b0 := .int .u64 (x.id : Int)) (b1 := .bool x.leaf) (b2 := .string ⟨x.label.toArray⟩) (b3 := .slice oA xn oc) (b4 := .string ⟨x.text.toArray⟩) (b5 := .slice okA xkn okc)
      have hot := fun k (hk : k ≠ eb) => six_other (w := w1) (g := eb) (e := eo) (b0 := .int .u64 (x.id : Int)) (b1 := .bool x.leaf) (b2 := .string ⟨x.label.toArray⟩) (b3 := .slice oA xn oc) (b4 := .string ⟨x.text.toArray⟩) (b5 := .slice okA xkn okc) hk
      have hou := fun o (ho : o < eo ∨ eo + 5 < o) => six_out (b0 := .int .u64 (x.id : Int)) (b1 := .bool x.leaf) (b2 := .string ⟨x.label.toArray⟩) (b3 := .slice oA xn oc) (b4 := .string ⟨x.text.toArray⟩) (b5 := .slice okA xkn okc) hr1'.out ho
      have hew : w.heap.size ≤ eb := by have := heb'.out; omega
      have hbw := hbel'.out.trans (hO'.out.bel.mono hbel'.out.size)
      have hb2 : Below w.heap.size w (six w1 eb eo (.int .u64 (x.id : Int)) (.bool x.leaf) (.string ⟨x.label.toArray⟩) (.slice oA xn oc) (.string ⟨x.text.toArray⟩) (.slice okA xkn okc)) := six_below hbw hew
      obtain ⟨w2, hw2⟩ : ∃ w2, w2 = six w1 eb eo (.int .u64 (x.id : Int)) (.bool x.leaf) (.string ⟨x.label.toArray⟩) (.slice oA xn oc) (.string ⟨x.text.toArray⟩) (.slice okA xkn okc) := ⟨_, rfl⟩
      rw [← hw2] at hin hzz hot hou hb2
      unfold six at hw2
      rw [← hw2]
      clear hw2
      have hz1 := hO'.out.bel.size
      have hgl := hrl'.out
      have hN : NodeAt (Ex T w.heap.size w2) w2 ⟨eb, eo, none⟩ x := ⟨⟨.inr (by show w.heap.size ≤ eb; omega), by show eb < _; omega, by have := heb'.out; show eb ≠ _; omega⟩, oA, xn, oc, okA, xkn, okc, hin, (hO'.out.node hvx.out (fun k hk => Nat.lt_of_lt_of_le (hT k hk) hbel'.out.size)).kept (fun k hk => by
          have hZ5 := hZl'.out
          have hsz := hbel'.out.size
          rcases hk with hk | hk
          · have := hT k hk
            exact ⟨.inl hk, by omega, by omega⟩
          · exact ⟨.inr (by omega), by omega, by omega⟩) (fun k hk => hot k (by
          have hZ5 := hZl'.out
          have hsz := hbel'.out.size
          rcases hk with hk | hk
          · have := hT k hk
            omega
          · omega))⟩
      obtain ⟨-, fA, fn, fc, fkA, fkn, fkc, ⟨y0, y1, y2, y3, y4, y5⟩, hfv⟩ := hhole'.out w2 x (by omega) (fun k hk hne => (hot k hne).trans (hO'.out.bel.block k hk)) (fun o ho => (hou o ho).trans (World.cell?_of_block (a := ⟨eb, o, none⟩) (hO'.out.bel.block eb hgl))) hN
      have y1' : w2.cell? ⟨w.heap.size, 1, none⟩ = some (.bool (f x).leaf) := y1
      have y2' : w2.cell? ⟨w.heap.size, 2, none⟩ = some (.string ⟨(f x).label.toArray⟩) := y2
      have y3' : w2.cell? ⟨w.heap.size, 3, none⟩ = some (.slice fA fn fc) := y3
      have y4' : w2.cell? ⟨w.heap.size, 4, none⟩ = some (.string ⟨(f x).text.toArray⟩) := y4
      have y5' : w2.cell? ⟨w.heap.size, 5, none⟩ = some (.slice fkA fkn fkc) := y5
      have R2 := (hot (w.heap.size + 1 + 1) (by have := heb'.out; omega)).trans ((hO'.out.bel.block _ hZl'.out).trans hZ'.out)
      unfold zero6 at R2
      obtain ⟨d0, d1, d2, d3, d4, d5, df⟩ := six_cells R2
      have R2' := Lib.hid R2
      have hb2' := Lib.hid hb2
      have hfv' := Lib.hid hfv
      clear y1 y2 y3 y4 y5 R2 hb2 hfv hN hin hzz hot hou hbw hz1 hgl hew ff v0 v1 v2 v3 v4 v5
      go_wp2_with fail
      have R9 := set_six (b0 := .int .u64 ((f x).id : Int)) (b1 := .bool (f x).leaf) (b2 := .string ⟨(f x).label.toArray⟩) (b3 := .slice fA fn fc) (b4 := .string ⟨(f x).text.toArray⟩) (b5 := .slice fkA fkn fkc) R2'.out
      have hb9 : Below w.heap.size w _ := below_six hb2'.out (b0 := .int .u64 ((f x).id : Int)) (b1 := .bool (f x).leaf) (b2 := .string ⟨(f x).label.toArray⟩) (b3 := .slice fA fn fc) (b4 := .string ⟨(f x).text.toArray⟩) (b5 := .slice fkA fkn fkc) (show w.heap.size ≤ w.heap.size + 1 + 1 by omega)
      have hN9 : NodeV (Nw T w ((((((w2.setCell ⟨w.heap.size + 1 + 1, 0, none⟩ (.int .u64 ((f x).id : Int))).setCell ⟨w.heap.size + 1 + 1, 1, none⟩ (.bool (f x).leaf)).setCell ⟨w.heap.size + 1 + 1, 2, none⟩ (.string ⟨(f x).label.toArray⟩)).setCell ⟨w.heap.size + 1 + 1, 3, none⟩ (.slice fA fn fc)).setCell ⟨w.heap.size + 1 + 1, 4, none⟩ (.string ⟨(f x).text.toArray⟩)).setCell ⟨w.heap.size + 1 + 1, 5, none⟩ (.slice fkA fkn fkc))) ((((((w2.setCell ⟨w.heap.size + 1 + 1, 0, none⟩ (.int .u64 ((f x).id : Int))).setCell ⟨w.heap.size + 1 + 1, 1, none⟩ (.bool (f x).leaf)).setCell ⟨w.heap.size + 1 + 1, 2, none⟩ (.string ⟨(f x).label.toArray⟩)).setCell ⟨w.heap.size + 1 + 1, 3, none⟩ (.slice fA fn fc)).setCell ⟨w.heap.size + 1 + 1, 4, none⟩ (.string ⟨(f x).text.toArray⟩)).setCell ⟨w.heap.size + 1 + 1, 5, none⟩ (.slice fkA fkn fkc)) fA fn fc fkA fkn fkc (f x) := hfv'.out.kept (fun k hk => by
        show T k ∨ _
        simp only [World.size_setCell]
        rcases hk.1 with h | h
        · exact .inl h
        · exact .inr ⟨h, hk.2.1⟩) (fun k hk => set_six_other (fun e => hk.2.2 (by rw [e])))
      generalize ((((((w2.setCell ⟨w.heap.size + 1 + 1, 0, none⟩ (.int .u64 ((f x).id : Int))).setCell ⟨w.heap.size + 1 + 1, 1, none⟩ (.bool (f x).leaf)).setCell ⟨w.heap.size + 1 + 1, 2, none⟩ (.string ⟨(f x).label.toArray⟩)).setCell ⟨w.heap.size + 1 + 1, 3, none⟩ (.slice fA fn fc)).setCell ⟨w.heap.size + 1 + 1, 4, none⟩ (.string ⟨(f x).text.toArray⟩)).setCell ⟨w.heap.size + 1 + 1, 5, none⟩ (.slice fkA fkn fkc)) = W9 at R9 hb9 hN9 ⊢
      obtain ⟨g0, g1, g2, g3, g4, g5, gf⟩ := six_cells R9
      refine bodyPost_ret (v := .tuple #[.agg (val6 (f x) fA fn fc fkA fkn fkc), .bool true]) (by simp [results, Try.results153, go_sem, g0, g1, g2, g3, g4, g5, val6]) rfl ?_
      exact ⟨fA, fn, fc, fkA, fkn, fkc, by rw [hans.out]; rfl, by rw [hans.out]; exact hN9, hb9⟩
end Go.Proofs.Ytpoenlhikanooaa.Top
/- A tree with a node in the place of one: the program's put. -/
namespace Go.Proofs.Ytpoenlhikanooaa.Top
open Go.RowKit
set_option maxRecDepth 20000
set_option linter.unusedVariables false

/-- a tree is answered that lies in T, or in new blocks -/
def NodeA (T : Nat → Prop) (w : World) (a : Nd) (e : Ending) (w' : World) : Prop :=
  ∃ aA an ac kA kn kc, e = .returned (.agg (val6 a aA an ac kA kn kc)) ∧ NodeV (Nw T w w') w' aA an ac kA kn kc a ∧ Below w.heap.size w w'
theorem three_new (w : World) (o1 o2 o3 : Obj) : ((((w.alloc o1).alloc o2).alloc o3).heap[w.heap.size]? = some o1) ∧ ((((w.alloc o1).alloc o2).alloc o3).heap[w.heap.size + 1]? = some o2) ∧ ((((w.alloc o1).alloc o2).alloc o3).heap[w.heap.size + 1 + 1]? = some o3) ∧ Below w.heap.size w (((w.alloc o1).alloc o2).alloc o3) ∧ (((w.alloc o1).alloc o2).alloc o3).heap.size = w.heap.size + 1 + 1 + 1 := by
  have h1 := heap_alloc_new w o1
  have h2 := heap_alloc_new (w.alloc o1) o2
  have h3 := heap_alloc_new ((w.alloc o1).alloc o2) o3
  rw [World.size_alloc] at h2
  rw [World.size_alloc, World.size_alloc] at h3
  exact ⟨(Go.heap_alloc_old _ _ (by simp <;> omega)).trans ((Go.heap_alloc_old _ _ (by simp)).trans h1), (Go.heap_alloc_old _ _ (by simp)).trans h2, h3, (((Below.refl _ _).alloc (Nat.le_refl _) _).alloc (by simp) _).alloc (by simp <;> omega) _, by simp⟩
/-- what is answered has been laid into a box, and then into the answer's cells -/
theorem end_node {T : Nat → Prop} {w w1 : World} {b r : Nat} {o : Obj} {ty : TypeId} {a : Nd} {yA yK : Option Addr} {yn yc ym yd : Nat} {a0 a1 a2 a3 a4 a5 : Value} (hT : ∀ k, T k → k < w.heap.size) (hw : w.heap.size ≤ r) (hrb : r < b) (hb : Below w.heap.size w w1)
    (hr : w1.heap[r]? = some (.cells #[a0, a1, a2, a3, a4, a5] ty (0, 0))) (hy : NodeV (fun k => T k ∨ (b ≤ k ∧ k < w1.heap.size)) w1 yA yn yc yK ym yd a) :
    ∃ W9, W9 = ((((((w1.setCell ⟨r, 0, none⟩ (.int .u64 (a.id : Int))).setCell ⟨r, 1, none⟩ (.bool a.leaf)).setCell ⟨r, 2, none⟩ (.string ⟨a.label.toArray⟩)).setCell ⟨r, 3, none⟩ (.slice yA yn yc)).setCell ⟨r, 4, none⟩ (.string ⟨a.text.toArray⟩)).setCell ⟨r, 5, none⟩ (.slice yK ym yd)).alloc o ∧
      W9.heap[r]? = some (.cells (val6 a yA yn yc yK ym yd) ty (0, 0)) ∧ NodeV (Nw T w W9) W9 yA yn yc yK ym yd a ∧ Below w.heap.size w W9 := by
  have hlt := (Array.getElem?_eq_some_iff.1 hr).1
  have hb6 := below_six (b0 := .int .u64 (a.id : Int)) (b1 := .bool a.leaf) (b2 := .string ⟨a.label.toArray⟩) (b3 := .slice yA yn yc) (b4 := .string ⟨a.text.toArray⟩) (b5 := .slice yK ym yd) hb hw
  refine ⟨_, rfl, (Go.heap_alloc_old _ _ (by simpa using hlt)).trans (set_six hr), hy.kept (fun k hk => ?_) (fun k hk => ?_), hb6.alloc hb6.size _⟩
  · show T k ∨ _
    simp only [World.size_setCell, World.size_alloc]
    rcases hk with hk | hk
    · exact .inl hk
    · exact .inr ⟨by omega, by omega⟩
  · have hk2 : k < w1.heap.size ∧ k ≠ r := by
      rcases hk with hk | hk
      · have := hT k hk; have := hb.size; omega
      · omega
    exact (Go.heap_alloc_old _ _ (by simpa using hk2.1)).trans (set_six_other hk2.2)
set_option maxHeartbeats 4000000 in
theorem tput_T (T : Nat → Prop) (w : World) (hT : ∀ k, T k → k < w.heap.size) (t x : Nd) (aA kA xA xK : Option Addr) (an ac kn kc xn xc xm xd : Nat) (h : NodeV T w aA an ac kA kn kc t) (hx : NodeV T w xA xn xc xK xm xd x) (pA : Option Addr) (pn pc : Nat) (p : List Int) (hp : Its w pA pn p) (hpn : pn ≤ maxLen) (hbig : weighV t ≤ 1000000) (hbigx : weighV x ≤ 1000000) :
    Calls Try.prog 114 #[.agg (val6 t aA an ac kA kn kc), .slice pA pn pc, .agg (val6 x xA xn xc xK xm xd)] w (NodeA T w ((putV t p x).getD Nd.zero)) := by
  obtain ⟨-, -, z3, z4, z5⟩ := three_new w (.cells (val6 t aA an ac kA kn kc) 42) (.cells (val6 x xA xn xc xK xm xd) 42) (.cells zero6 42)
  obtain ⟨W3, hW3⟩ : ∃ W3, W3 = ((w.alloc (.cells (val6 t aA an ac kA kn kc) 42)).alloc (.cells (val6 x xA xn xc xK xm xd) 42)).alloc (.cells zero6 42) := ⟨_, rfl⟩
  rw [← hW3] at z3 z4 z5
  have hT3 : ∀ k, T k → k < W3.heap.size := fun k hk => by have := hT k hk; omega
  have hput := Lib.hid (put_T T W3 hT3 t x aA kA xA xK an ac kn kc xn xc xm xd (h.kept (fun _ h => h) fun k hk => z4.block k (hT k hk)) (hx.kept (fun _ h => h) fun k hk => z4.block k (hT k hk)) pA pn pc p (hp.below z4) hpn hbig hbigx)
  rw [hW3] at hput
  have z3' := Lib.hid z3
  have z4' := Lib.hid z4
  have z5' := Lib.hid z5
  have hT' := Lib.hid hT
  clear z3 z4 z5 h hx hp hbig hbigx hT hT3
  unfold zero6 val6 at hW3 hput
  unfold val6
  go_enter Try.func114, Try.ntmps114
  go_wp2_with (go_at_call 153; go_loud (refine hput.out.mono ?_; rw [← hW3]; rintro e w1 ⟨yA, yn, yc, yK, ym, yd, rfl, hy, hb⟩; have r3 := (hb.block _ (by have := z5'.out; omega)).trans z3'.out; have hr := Lib.hid r3; have hy' := Lib.hid hy; have hb' := Lib.hid hb; unfold zero6 at r3; obtain ⟨q0, q1, q2, q3, q4, q5, qf⟩ := six_cells r3; have hne : w.heap.size + 1 + 1 < w1.heap.size := (Array.getElem?_eq_some_iff.1 r3).1; have hne2 : w1.heap.size ≠ w.heap.size + 1 + 1 := (by omega); have hne3 : w.heap.size + 1 + 1 ≠ w1.heap.size := (by omega); unfold val6; clear hy hb r3))
  obtain ⟨W9, hW9, R9, N9, B9⟩ := end_node (o := .cells #[.int .u64 (((putV t p x).getD Nd.zero).id : Int), .bool ((putV t p x).getD Nd.zero).leaf, .string ⟨((putV t p x).getD Nd.zero).label.toArray⟩, .slice yA yn yc, .string ⟨((putV t p x).getD Nd.zero).text.toArray⟩, .slice yK ym yd] 42) hT'.out (r := w.heap.size + 1 + 1) (b := W3.heap.size) (by omega) (by have := z5'.out; omega) (z4'.out.trans (hb'.out.mono z4'.out.size)) hr.out hy'.out
  rw [← hW9]
  unfold val6 at R9
  obtain ⟨d0, d1, d2, d3, d4, d5, df⟩ := six_cells R9
  refine bodyPost_ret (v := .agg (val6 ((putV t p x).getD Nd.zero) yA yn yc yK ym yd)) (by simp [results, Try.results114, go_sem, d0, d1, d2, d3, d4, d5, val6]) rfl ?_
  exact ⟨yA, yn, yc, yK, ym, yd, rfl, N9, B9⟩
end Go.Proofs.Ytpoenlhikanooaa.Top
/- The node at a path: the document's. -/
namespace Go.Proofs.Ytpoenlhikanooaa
set_option linter.unusedVariables false
open Go.RowKit
set_option maxRecDepth 20000

end Go.Proofs.Ytpoenlhikanooaa
/- The document's At once more, over any blocks T. (After wip/plain's TreY.) -/
namespace Go.Proofs.Ytpoenlhikanooaa.Top
open Go.RowKit
set_option maxRecDepth 20000
set_option linter.unusedVariables false

end Go.Proofs.Ytpoenlhikanooaa.Top
/- A tree with another node at a path, the document's: the node that is made. -/
namespace Go.Proofs.Ytpoenlhikanooaa
set_option linter.unusedVariables false
open Go.RowKit
set_option maxRecDepth 20000

end Go.Proofs.Ytpoenlhikanooaa
