/- Where one stands who goes through a tree, in memory; the next node: the program's. -/
import Derived.Test.YtacmofhlbebonaaTreE
import Derived.Deep.AppendLies
import Derived.Deep.CutRange
import Derived.IntWalk
namespace Go.Proofs.Ytacmofhlbebonaa
open Go.RowKit
set_option maxRecDepth 20000

/-- the rows' slices -/
def Rws (T : Nat → Prop) (w : World) (s : Stk) (xs : List Value) : Prop :=
  ∀ (d : Nat) (row : List Nd), s.reverse[d]? = some row → ∃ (A : Option Addr) (n c : Nat), xs[d]? = some (.slice A n c) ∧ n = row.length ∧ n ≤ c ∧ c ≤ maxLen ∧ (A = none → c = 0) ∧ RowAt T w A 0 row
/-- at block p: the rows s; the trees lie in blocks of T, what is turned in blocks of S -/
structure WalkAt (T S : Nat → Prop) (base : Nat) (w : World) (p : Nat) (s : Stk) : Prop where
  own : ∀ k, S k → base ≤ k ∧ k < w.heap.size
  apart : ∀ k, T k → ¬ S k
  told : ∀ k, T k → k < w.heap.size
  here : S p
  dat : ∃ (g n cap : Nat) (xs : List Value), w.heap[p]? = some (.cells #[.slice (some ⟨g, 0, none⟩) n cap] 62 (0, 0)) ∧ n = s.length ∧ w.ownsRow base 24 1 (.slice (some ⟨g, 0, none⟩) n cap) n xs ∧ S g ∧ Rws T w s xs
theorem WalkAt.kept {T S : Nat → Prop} {base p : Nat} {w w' : World} {s : Stk} (h : WalkAt T S base w p s) (hs : w.heap.size ≤ w'.heap.size) (hk : ∀ k, T k ∨ S k → w'.heap[k]? = w.heap[k]?) : WalkAt T S base w' p s := by
  obtain ⟨h1, h2, h3, h4, g, n, cap, xs, hp, hn, ho, hg, hr⟩ := h
  refine ⟨fun k hS => ⟨(h1 k hS).1, Nat.lt_of_lt_of_le (h1 k hS).2 hs⟩, h2, fun k hT => Nat.lt_of_lt_of_le (h3 k hT) hs, h4, g, n, cap, xs, (hk p (.inr h4)).trans hp, hn, own_kept ho fun k hk' => hk k (.inr ?_), hg, fun d row hd => ?_⟩
  · have e : g = k := by simpa [Value.ownBlock] using hk'
    rw [← e]
    exact hg
  · obtain ⟨A, m, c, e1, e2, e3, e4, e5, e6⟩ := hr d row hd
    exact ⟨A, m, c, e1, e2, e3, e4, e5, e6.kept (fun _ h => h) (fun k hT => hk k (.inl hT)) _ _ _⟩
def Also (S : Nat → Prop) (w w' : World) (k : Nat) : Prop := S k ∨ (w.heap.size ≤ k ∧ k < w'.heap.size)
/-- a row of the call's own, written at a place and cut behind it -/
theorem own_set_cut {w : World} {base g n cap d : Nat} {e : TypeId} {xs : List Value} (h : w.ownsRow base e 1 (.slice (some ⟨g, 0, none⟩) n cap) n xs) (hd : d < n) (v : Value) :
    (w.setCell ⟨g, d, none⟩ v).ownsRow base e 1 (.slice (some ⟨g, 0, none⟩) (d + 1) cap) (d + 1) (xs.take d ++ [v]) := by
  have hl := h.1
  rcases h.2 with ⟨e1, _⟩ | ⟨g', cap', cur, e1, hb, hg, hnc, hcm, hcs, htake⟩
  · cases e1
  · injection e1 with e1 e2 e3
    injection e1 with e1
    injection e1 with e1 _ _
    subst e1 e3
    refine ⟨by rw [List.length_append, List.length_take, hl]; simp; omega, .inr ⟨g, cap, _, rfl, hb, heap_setCell_same w g d cur e v hg, by omega, hcm, by simp [hcs], ?_⟩⟩
    have hcl : d < cur.toList.length := by rw [Array.length_toList, hcs]; omega
    rw [Array.toList_setIfInBounds, Nat.mul_one, ← htake, List.take_take, show min d (n * 1) = d by omega]
    rw [List.take_add_one, List.take_set_of_le (Nat.le_refl _)]
    congr 1
    have hcl2 : d < cur.size := by rw [hcs]; omega
    simp [List.getElem?_set, hcl2]
/-- what the next node is -/
def NextPost (T S : Nat → Prop) (base : Nat) (w : World) (p : Nat) (s : Stk) (e : Ending) (w' : World) : Prop :=
  match nextV s with
  | none => e = .returned (.tuple #[.int .i64 0, .pointer none]) ∧ w' = w
  | some (d, x, s') => ∃ E, e = .returned (.tuple #[.int .i64 (d : Int), .pointer (some E)]) ∧ NodeAt T w' E x ∧ WalkAt T (Also S w w') base w' p s' ∧ FrX S w w'
theorem add_zero (ad : Addr) : ad.add 0 = ad := by unfold Addr.add; rw [if_pos rfl]
theorem own_frozen {w : World} {base : Nat} {e : TypeId} {size g n cap : Nat} {xs : List Value} (h : w.ownsRow base e size (.slice (some ⟨g, 0, none⟩) n cap) n xs) (o : Nat) : w.frozen? ⟨g, o, none⟩ = false := by
  rcases h.2 with ⟨e1, _⟩ | ⟨g', cap', cur, e1, hb, hg, _⟩
  · cases e1
  · injection e1 with e1 _ _
    injection e1 with e1
    injection e1 with e1 _ _
    subst e1
    exact frozen_of_row w g o _ _ hg
theorem own_cap {w : World} {base : Nat} {e : TypeId} {size g n cap : Nat} {xs : List Value} (h : w.ownsRow base e size (.slice (some ⟨g, 0, none⟩) n cap) n xs) : n ≤ cap := by
  rcases h.2 with ⟨e1, _⟩ | ⟨g', cap', cur, e1, hb, hg, hc, _⟩
  · cases e1
  · injection e1 with _ _ e3
    omega
theorem Try.infoRow : (Try.prog.info? 24).map (fun i => (i.zero, i.size, i.bytes)) = some (some (.slice none 0 0), 1, 24) := by kernel_rfl
theorem nextV_skip : ∀ (e s : Stk), (∀ row ∈ e, row = []) → nextV (e ++ s) = nextV s
  | [], s, _ => rfl
  | a :: e, s, h => by
    obtain rfl := h a (List.mem_cons_self ..)
    rw [List.cons_append, nextV]
    exact nextV_skip e s fun row hr => h row (List.mem_cons_of_mem _ hr)
theorem rev_at (e : Stk) (row : List Nd) (rest : Stk) : (e ++ row :: rest).reverse[rest.length]? = some row := by
  rw [List.reverse_append, List.reverse_cons, List.append_assoc, List.getElem?_append_right (by simp)]
  simp
theorem next_done {w W1 w4 : World} {T S : Nat → Prop} {base p g g' d cap cap' n : Nat} {s e : Stk} {x : Nd} {r : List Nd} {rest : Stk} {xs : List Value} {v1 : Value} {ad : Addr} {aA kA : Option Addr} {an ac kn kc : Nat} {o : Obj}
    (h : WalkAt T S base w p s) (hbase : base ≤ w.heap.size) (hs : s = e ++ (x :: r) :: rest) (hd : d = rest.length) (hr : Rws T w s xs) (hxl : d < xs.length)
    (V1 : ∃ (A : Option Addr) (n c : Nat), v1 = .slice A n c ∧ n = r.length ∧ n ≤ c ∧ c ≤ maxLen ∧ (A = none → c = 0) ∧ RowAt T w A 0 r)
    (hkv : NodeV T w aA an ac kA kn kc x) (hNE : NodeAt T w ad x) (hg : S g) (o1 : ∀ k, k ≠ g → W1.heap[k]? = w.heap[k]?) (z1 : W1.heap.size = w.heap.size) (F1 : FrX S w W1)
    (ho4 : w4.ownsRow base 24 1 (.slice (some ⟨g', 0, none⟩) (d + 1 + 1) cap') (d + 1 + 1) (xs.take d ++ [v1] ++ [.slice kA kn kc]))
    (hg4 : World.grownBy ((W1.alloc o).drew) w4 (Value.ownBlock (.slice (some ⟨g, 0, none⟩) (d + 1) cap))) (hat : Value.ownBlock (.slice (some ⟨g, 0, none⟩) (d + 1) cap) = some g' ∨ g' = W1.heap.size + 1)
    (p4 : w4.heap[p]? = some (.cells #[.slice (some ⟨g, 0, none⟩) n cap] 62 (0, 0))) :
    NodeAt T (w4.setCell ⟨p, 0, none⟩ (.slice (some ⟨g', 0, none⟩) (d + 1 + 1) cap')) ad x ∧ WalkAt T (Also S w (w4.setCell ⟨p, 0, none⟩ (.slice (some ⟨g', 0, none⟩) (d + 1 + 1) cap'))) base (w4.setCell ⟨p, 0, none⟩ (.slice (some ⟨g', 0, none⟩) (d + 1 + 1) cap')) p (x.kids :: r :: rest) ∧ FrX S w (w4.setCell ⟨p, 0, none⟩ (.slice (some ⟨g', 0, none⟩) (d + 1 + 1) cap')) := by
  obtain ⟨h1, h2, h3, h4, -⟩ := h
  have hz4 : W1.heap.size + 1 ≤ w4.heap.size := by have := hg4.size; simpa using this
  have F4 : FrX S w w4 := ⟨hg4.os.trans F1.os, hg4.tape.trans F1.tape, hg4.output.trans F1.output, by omega, fun k hk hn => by
    rw [hg4.block k (by simp; omega) (fun e => by injection e with e; exact hn (e ▸ hg))]
    exact (Go.heap_alloc_old W1 _ (by omega)).trans (F1.block k hk hn)⟩
  obtain ⟨w5, hw5⟩ : ∃ w5, w5 = w4.setCell ⟨p, 0, none⟩ (.slice (some ⟨g', 0, none⟩) (d + 1 + 1) cap') := ⟨_, rfl⟩
  rw [← hw5]
  have F5 : FrX S w w5 := by rw [hw5]; exact F4.setCell h4
  have p5 : w5.heap[p]? = some (.cells #[.slice (some ⟨g', 0, none⟩) (d + 1 + 1) cap'] 62 (0, 0)) := by rw [hw5]; exact heap_setCell_same w4 p 0 _ _ _ p4
  have z5 : w5.heap.size = w4.heap.size := by rw [hw5]; simp
  have ho5 : w5.ownsRow base 24 1 (.slice (some ⟨g', 0, none⟩) (d + 1 + 1) cap') (d + 1 + 1) (xs.take d ++ [v1] ++ [.slice kA kn kc]) := own_kept ho4 fun k hk => by
    rw [hw5]
    exact heap_setCell_other w4 ⟨p, 0, none⟩ k _ (fun e => own_ne ho4 p4 (by decide) (by rw [hk, e]))
  clear hw5
  have kT : ∀ k, T k → w5.heap[k]? = w.heap[k]? := fun k hk => F5.block k (h3 k hk) (h2 k hk)
  have hg'lt := (World.ownsRow.lt ho5 g' rfl).2
  have hfk := hkv.facts
  refine ⟨hNE.kept (fun _ h => h) kT, ⟨?_, ?_, ?_, .inl h4, g', d + 1 + 1, cap', _, p5, by simp [hd], ho5, ?_, ?_⟩, F5⟩
  · intro k hk
    rcases hk with hk | hk
    · have := h1 k hk
      have := F5.size
      omega
    · omega
  · intro k hT hk
    rcases hk with hk | hk
    · exact h2 k hT hk
    · have := h3 k hT
      omega
  · intro k hT
    have := h3 k hT
    have := F5.size
    omega
  · rcases hat with e | e
    · injection e with e
      exact .inl (e ▸ hg)
    · exact .inr ⟨by omega, by omega⟩
  · intro i row hi
    have hrev : (x.kids :: r :: rest).reverse = rest.reverse ++ [r] ++ [x.kids] := by simp
    rw [hrev] at hi
    have hl1 : (rest.reverse ++ [r]).length = d + 1 := by simp [hd]
    have hl2 : (xs.take d ++ [v1]).length = d + 1 := by rw [List.length_append, List.length_take]; simp; omega
    have hl3 : (xs.take d).length = d := by rw [List.length_take]; omega
    have hl4 : rest.reverse.length = d := by simp [hd]
    have hili := (List.getElem?_eq_some_iff.1 hi).1
    rw [List.length_append, hl1] at hili
    simp only [List.length_cons, List.length_nil] at hili
    rcases Nat.lt_or_ge i d with hid | hid
    · rw [List.getElem?_append_left (by omega), List.getElem?_append_left (by omega)] at hi
      have hso : s.reverse[i]? = some row := by
        rw [hs, List.reverse_append, List.reverse_cons, List.append_assoc, List.getElem?_append_left (by omega)]
        exact hi
      obtain ⟨A, m, c, e1, e2, e3, e4, e5, e6⟩ := hr i row hso
      refine ⟨A, m, c, ?_, e2, e3, e4, e5, e6.kept (fun _ h => h) kT _ _ _⟩
      rw [List.getElem?_append_left (by omega), List.getElem?_append_left (by omega), List.getElem?_take, if_pos hid]
      exact e1
    · rcases Nat.lt_or_ge i (d + 1) with hid2 | hid2
      · obtain rfl : i = d := by omega
        rw [List.getElem?_append_left (by omega), List.getElem?_append_right (by omega), hl4, Nat.sub_self] at hi
        injection hi with hi
        subst hi
        obtain ⟨A, m, c, e1, e2, e3, e4, e5, e6⟩ := V1
        refine ⟨A, m, c, ?_, e2, e3, e4, e5, e6.kept (fun _ h => h) kT _ _ _⟩
        rw [List.getElem?_append_left (by omega), List.getElem?_append_right (by omega), hl3, Nat.sub_self, e1]
        rfl
      · obtain rfl : i = d + 1 := by omega
        rw [List.getElem?_append_right (by omega), hl1, Nat.sub_self] at hi
        injection hi with hi
        subst hi
        refine ⟨kA, kn, kc, ?_, hfk.kl.symm, hfk.knc, hfk.kcm, hfk.knil, hfk.row.kept (fun _ h => h) kT _ _ _⟩
        rw [List.getElem?_append_right (by omega), hl2, Nat.sub_self]
        rfl
theorem Also.drewN {S : Nat → Prop} {w w' : World} (n : Nat) : Also S w (w'.drewN n) = Also S w w' := rfl
set_option maxHeartbeats 4000000 in
theorem next_any (w : World) (T S : Nat → Prop) (base p : Nat) (s : Stk) (h : WalkAt T S base w p s) (hlen : s.length ≤ 1000000) (hbase : base ≤ w.heap.size) :
    Calls Try.prog 47 #[.pointer (some ⟨p, 0, none⟩)] w (NextPost T S base w p s) := by
  have h0 := Lib.hid h
  obtain ⟨h1, h2, h3, h4, g, n, cap, xs, hp, hn, ho, hg, hr⟩ := h
  have c0 := cell_of_row w p 0 _ _ _ hp
  have f0 := frozen_of_row w p 0 _ _ hp
  simp at c0
  have hnb : n ≤ 1000000 := by omega
  have h1' := Lib.hid h1
  have h2' := Lib.hid h2
  have h3' := Lib.hid h3
  have hp' := Lib.hid hp
  have hn' := Lib.hid hn
  have ho' := Lib.hid ho
  have hr' := Lib.hid hr
  have hlen' := Lib.hid hlen
  clear h1 h2 h3 hp hn ho hr hlen
  go_enter Try.func47, Try.ntmps47
  go_wp2_with fail
  go_loopw [5] (fun dv wr => ∃ (z : Int) (e s2 : Stk), dv = .int .i64 z ∧ z + 1 = (s2.length : Int) ∧ s2.length ≤ n ∧ s = e ++ s2 ∧ (∀ row ∈ e, row = []) ∧ wr = w) (fun dv _ => (intOf dv + 1).toNat)
  case atStart => exact ⟨_, [], s, rfl, by have := hn'.out; omega, by have := hn'.out; omega, rfl, by simp, rfl⟩
  case round =>
    obtain ⟨z, e, s2, rfl, hz, hs2, hs, he, rfl⟩ := hrel
    cases s2 with
    | nil =>
      have hzI : ¬ (0 : Int) ≤ z := by simp at hz; omega
      have hv := Lib.hid (show nextV s = none by rw [hs, nextV_skip e [] he]; rfl)
      clear hz hs he hs2
      go_wp2_with fail
      refine bodyPost_ret (v := .tuple #[.int .i64 0, .pointer none]) (by simp [results, Try.results47, go_sem]) rfl ?_
      unfold NextPost
      rw [hv.out]
      exact ⟨rfl, rfl⟩
    | cons row rest =>
      obtain ⟨d, hd⟩ : ∃ d, d = rest.length := ⟨_, rfl⟩
      obtain rfl : z = (d : Int) := by simp at hz; omega
      have hdn : d < n := by simp at hs2; omega
      obtain ⟨A, m, c, hx, hm, hmc, hcm, hA, hrow⟩ := hr'.out d row (by rw [hs, hd]; exact rev_at e row rest)
      have cd := World.ownsRow.cells ho'.out (g := g) rfl d _ hx
      rw [add_zero_off] at cd
      have fd := own_frozen ho'.out d
      have hdI : (d : Int) < (n : Int) := by omega
      have hx' := Lib.hid hx
      have hA' := Lib.hid hA
      have hrow' := Lib.hid hrow
      have hd' := Lib.hid hd
      clear hx hA hrow hd
      cases row with
      | nil =>
        obtain rfl : m = 0 := hm
        go_wp2_with fail
        go_roundw
        case rel => exact ⟨(d : Int) - 1, e ++ [[]], rest, rfl, by have := hd'.out; omega, by simp at hs2; omega, by rw [hs]; simp, fun row hr => by rcases List.mem_append.1 hr with hr | hr; exact he row hr; simpa using hr, trivial⟩
        case measure => simp [intOf]
      | cons x r =>
        have hm1 : 1 ≤ m := by rw [hm]; simp
        have hm0 : (0 : Int) < (m : Int) := by omega
        cases A with
        | none => exact absurd (hA'.out rfl) (by omega)
        | some ad =>
          obtain ⟨E, eE, hNE⟩ := RowAt.at_ (q := 0) hrow'.out rfl
          have hNE' := Lib.hid hNE
          obtain ⟨hTE, aA, an, ac, kA, kn, kc, ⟨k0, k1, k2, k3, k4, k5⟩, hkv⟩ := hNE
          injection eE with eE
          subst eE
          rw [show (0 + 0) * 6 = 0 by omega, add_zero] at hTE k5
          have hm' := Lib.hid hm
          have hs' := Lib.hid hs
          have he' := Lib.hid he
          have hz' := Lib.hid hz
          have hs2' := Lib.hid hs2
          have hkv' := Lib.hid hkv
          clear hm hs he hz hs2 hkv k0 k1 k2 k3 k4
          have hgad : ad.block ≠ g := fun e => h2'.out _ hTE (e ▸ hg)
          have hpg : p ≠ g := fun e => own_ne ho'.out hp'.out (by decide) (by rw [e]; rfl)
          have hcv : ∃ v1, (c = 1 ∧ v1 = Value.slice (some ad) (m - 1) (c - 1) ∨ c ≠ 1 ∧ v1 = Value.slice (some (ad.add 6)) (m - 1) (c - 1)) := by
            by_cases e : c = 1
            · exact ⟨_, .inl ⟨e, rfl⟩⟩
            · exact ⟨_, .inr ⟨e, rfl⟩⟩
          obtain ⟨v1, hv1⟩ := hcv
          have V1 : Hid (∃ (A : Option Addr) (n c : Nat), v1 = .slice A n c ∧ n = r.length ∧ n ≤ c ∧ c ≤ maxLen ∧ (A = none → c = 0) ∧ RowAt T wr A 0 r) := by
            have hml : m = r.length + 1 := by rw [hm'.out]; simp
            have hrest := hrow'.out
            simp only [RowAt] at hrest
            rcases hv1 with ⟨e, rfl⟩ | ⟨e, rfl⟩
            · have hr0 : r = [] := List.length_eq_zero_iff.1 (by omega)
              refine ⟨_, _, _, rfl, by omega, by omega, by omega, (fun h => by cases h), ?_⟩
              rw [hr0]
              simp [RowAt]
            · exact ⟨_, _, _, rfl, by omega, by omega, by omega, (fun h => by cases h), RowAt.from_ 1 r 0 hrest.2⟩
          have own1 := own_set_cut ho'.out hdn v1
          rcases hv1 with ⟨hc1, hv1⟩ | ⟨hc1, hv1⟩
          · have hcT : (c = 1) = True := eq_true hc1
            have hv1' := Lib.hid hv1
            clear hc1 hv1
            go_upto_region 8 with fail
            rw [← hv1'.out]
            clear hcT hv1'
            obtain ⟨W1, hW1⟩ : ∃ W1, W1 = wr.setCell ⟨g, d, none⟩ v1 := ⟨_, rfl⟩
            rw [← hW1] at own1 ⊢
            have z1 : W1.heap.size = wr.heap.size := by rw [hW1]; simp
            have o1 : ∀ k, k ≠ g → W1.heap[k]? = wr.heap[k]? := fun k hk => by rw [hW1]; exact heap_setCell_other wr ⟨g, d, none⟩ k v1 hk
            have p1 := (o1 p hpg).trans hp'.out
            have F1 : FrX S wr W1 := by rw [hW1]; exact (FrX.refl S wr).setCell hg
            have k51 : W1.cell? ⟨ad.block, ad.off + 5, none⟩ = some (.slice kA kn kc) := (World.cell?_of_block (w := wr) (w' := W1) (a := ⟨ad.block, ad.off + 5, none⟩) (o1 _ hgad)).trans k5
            clear hW1 k5 c0 f0 cd fd
            have hsz := (h1'.out p h4).2
            have hpW : p < W1.heap.size := by rw [z1]; exact hsz
            have hadW : ad.block < W1.heap.size := by rw [z1]; exact h3'.out _ hTE
            have hszg := (h1'.out g hg).2
            have hTz := h3'.out _ hTE
            obtain ⟨i0, hi0, hz0, hz1, hz2⟩ := info_parts Try.infoRow
            have hi0' := Lib.hid hi0
            have hz0' := Lib.hid hz0
            have hz1' := Lib.hid hz1
            have hz2' := Lib.hid hz2
            have hrw := Lib.hid (show ∀ o, ((W1.alloc o).drew).ownsRow base 24 1 (.slice (some ⟨g, 0, none⟩) (d + 1) cap) (d + 1) (xs.take d ++ [v1]) from fun o => World.ownsRow.alloc own1 o)
            have hnews := Lib.hid (show ∀ (j : Nat) (u : Value), ([.slice kA kn kc] : List Value)[j]? = some u → (W1.alloc (.cells #[.slice kA kn kc] 24)).drew.cell? ((⟨W1.heap.size, 0, none⟩ : Addr).add j) = some u from
              World.news_of_block (w := W1.alloc (.cells #[.slice kA kn kc] 24)) (cs := #[.slice kA kn kc]) (t := 24) (fr := (0, 0)) (heap_alloc_new W1 _))
            have hone := Lib.hid (show ∀ u ∈ ([.slice kA kn kc] : List Value), u.oneCell' = true from by simp [Value.oneCell'])
            have hbd := Lib.hid (show d + 1 + 1 ≤ maxLen ∧ (d + 1 + 1) * 24 ≤ 140737488355328 from by unfold maxLen; omega)
            have hbd2 := Lib.hid (show ∀ o, base ≤ (W1.alloc o).drew.heap.size from fun o => by simp; omega)
            have kk4 := Lib.hid (show ∀ w4 o, World.grownBy ((W1.alloc o).drew) w4 (Value.ownBlock (.slice (some ⟨g, 0, none⟩) (d + 1) cap)) → ∀ k, k < W1.heap.size → k ≠ g → w4.heap[k]? = W1.heap[k]? from fun w4 o hg3 k hk hn => by
              rw [hg3.block k (by simp; omega) (fun e => by injection e with e; exact hn e)]
              exact Go.heap_alloc_old W1 _ hk)
            have own1' := Lib.hid own1
            have o1' := Lib.hid o1
            have p1' := Lib.hid p1
            have F1' := Lib.hid F1
            have hgadI : ad.block ≠ p := fun e => h2'.out _ hTE (e ▸ h4)
            have g1 : (0 : Int) ≤ (d : Int) + 1 := by omega
            have g2 : ((d : Int) + 1).toNat = d + 1 := by omega
            have g3 : IntKind.i64.wrap ((d : Int) + 1) = (d : Int) + 1 := IntWalk.i64_in _ (by omega)
            have g4 : d + 1 ≤ cap := by have := own_cap ho'.out; omega
            have g5 : (d : Int) + 1 ≤ (cap : Int) := by omega
            have z1' := Lib.hid z1
            clear hi0 hz0 hz1 hz2 own1 o1 p1 F1 z1
            go_region_held3 (fun w' => w'.cell? ⟨ad.block, ad.off + 5, none⟩ = some (.slice kA kn kc))
              (first
                | go_keep
                | exact kk.out
                | exact (World.cell?_of_block (w := w4) (a := ⟨ad.block, ad.off + 5, none⟩) (heap_setCell_other w4 ⟨p, 0, none⟩ ad.block _ hgadI)).trans kk.out)
              ((refine step_append_lies _ (by rfl) (.tmp 33) (.tmp 38) 62 (by rfl) base 24 i0 _ 1 24 Try.underlying62 hi0'.out hz0'.out hz1'.out hz2'.out rfl (by decide) (.slice (some ⟨g, 0, none⟩) (d + 1) cap) (d + 1) (xs.take d ++ [v1]) (by rfl) (hrw.out _)
                  ⟨W1.heap.size, 0, none⟩ 1 1 [.slice kA kn kc] (by rfl) (by rfl) hnews.out hone.out
                  (by decide) hbd.out.1 hbd.out.2 (hbd2.out _) (W1.heap.size + 1) (by simp) ?_; intro g' cap' w4 ho4 hg4 hat hlt4; have kk := Lib.hid ((World.cell?_of_block (w := W1) (w' := w4) (a := ⟨ad.block, ad.off + 5, none⟩) (kk4.out w4 _ hg4 _ hadW hgad)).trans k51); have p4 := (kk4.out w4 _ hg4 p hpW hpg).trans p1'.out; have c4 := cell_of_row w4 p 0 _ _ _ p4; have f4 := frozen_of_row w4 p 0 _ _ p4; have ho4' := Lib.hid ho4; have hg4' := Lib.hid hg4; have hat' := Lib.hid hat; have p4' := Lib.hid p4; clear ho4 hg4 hat p4))
            clear g1 g2 g3 g5
            go_wp2_with fail
            go_quiet (fail)
            go_wp2_with fail
            refine bodyPost_ret (v := .tuple #[.int .i64 (d : Int), .pointer (some ad)]) (by simp [results, Try.results47, go_sem]) rfl ?_
            obtain ⟨q1, q2, q3⟩ := next_done h0.out hbase hs'.out hd'.out hr'.out (by have := ho'.out.1; omega) V1.out hkv'.out (by have h := hNE'.out; rw [show (0 + 0) * 6 = 0 by omega, add_zero] at h; exact h) hg o1'.out z1'.out F1'.out ho4'.out hg4'.out hat'.out p4'.out
            unfold NextPost
            rw [hs'.out, nextV_skip e _ he'.out]
            refine ⟨ad, by rw [hd'.out], q1.drewN _, ?_, q3.drewN _⟩
            exact WalkAt.kept q2 (Nat.le_refl _) (fun _ _ => rfl)
          · rw [add_off _ _ (by omega)] at hv1
            have hv1' := Lib.hid hv1
            clear hv1
            go_upto_region 8 with fail
            rw [← hv1'.out]
            clear hc1 hv1'
            obtain ⟨W1, hW1⟩ : ∃ W1, W1 = wr.setCell ⟨g, d, none⟩ v1 := ⟨_, rfl⟩
            rw [← hW1] at own1 ⊢
            have z1 : W1.heap.size = wr.heap.size := by rw [hW1]; simp
            have o1 : ∀ k, k ≠ g → W1.heap[k]? = wr.heap[k]? := fun k hk => by rw [hW1]; exact heap_setCell_other wr ⟨g, d, none⟩ k v1 hk
            have p1 := (o1 p hpg).trans hp'.out
            have F1 : FrX S wr W1 := by rw [hW1]; exact (FrX.refl S wr).setCell hg
            have k51 : W1.cell? ⟨ad.block, ad.off + 5, none⟩ = some (.slice kA kn kc) := (World.cell?_of_block (w := wr) (w' := W1) (a := ⟨ad.block, ad.off + 5, none⟩) (o1 _ hgad)).trans k5
            clear hW1 k5 c0 f0 cd fd
            have hsz := (h1'.out p h4).2
            have hpW : p < W1.heap.size := by rw [z1]; exact hsz
            have hadW : ad.block < W1.heap.size := by rw [z1]; exact h3'.out _ hTE
            have hszg := (h1'.out g hg).2
            have hTz := h3'.out _ hTE
            obtain ⟨i0, hi0, hz0, hz1, hz2⟩ := info_parts Try.infoRow
            have hi0' := Lib.hid hi0
            have hz0' := Lib.hid hz0
            have hz1' := Lib.hid hz1
            have hz2' := Lib.hid hz2
            have hrw := Lib.hid (show ∀ o, ((W1.alloc o).drew).ownsRow base 24 1 (.slice (some ⟨g, 0, none⟩) (d + 1) cap) (d + 1) (xs.take d ++ [v1]) from fun o => World.ownsRow.alloc own1 o)
            have hnews := Lib.hid (show ∀ (j : Nat) (u : Value), ([.slice kA kn kc] : List Value)[j]? = some u → (W1.alloc (.cells #[.slice kA kn kc] 24)).drew.cell? ((⟨W1.heap.size, 0, none⟩ : Addr).add j) = some u from
              World.news_of_block (w := W1.alloc (.cells #[.slice kA kn kc] 24)) (cs := #[.slice kA kn kc]) (t := 24) (fr := (0, 0)) (heap_alloc_new W1 _))
            have hone := Lib.hid (show ∀ u ∈ ([.slice kA kn kc] : List Value), u.oneCell' = true from by simp [Value.oneCell'])
            have hbd := Lib.hid (show d + 1 + 1 ≤ maxLen ∧ (d + 1 + 1) * 24 ≤ 140737488355328 from by unfold maxLen; omega)
            have hbd2 := Lib.hid (show ∀ o, base ≤ (W1.alloc o).drew.heap.size from fun o => by simp; omega)
            have kk4 := Lib.hid (show ∀ w4 o, World.grownBy ((W1.alloc o).drew) w4 (Value.ownBlock (.slice (some ⟨g, 0, none⟩) (d + 1) cap)) → ∀ k, k < W1.heap.size → k ≠ g → w4.heap[k]? = W1.heap[k]? from fun w4 o hg3 k hk hn => by
              rw [hg3.block k (by simp; omega) (fun e => by injection e with e; exact hn e)]
              exact Go.heap_alloc_old W1 _ hk)
            have own1' := Lib.hid own1
            have o1' := Lib.hid o1
            have p1' := Lib.hid p1
            have F1' := Lib.hid F1
            have hgadI : ad.block ≠ p := fun e => h2'.out _ hTE (e ▸ h4)
            have g1 : (0 : Int) ≤ (d : Int) + 1 := by omega
            have g2 : ((d : Int) + 1).toNat = d + 1 := by omega
            have g3 : IntKind.i64.wrap ((d : Int) + 1) = (d : Int) + 1 := IntWalk.i64_in _ (by omega)
            have g4 : d + 1 ≤ cap := by have := own_cap ho'.out; omega
            have g5 : (d : Int) + 1 ≤ (cap : Int) := by omega
            have z1' := Lib.hid z1
            clear hi0 hz0 hz1 hz2 own1 o1 p1 F1 z1
            go_region_held3 (fun w' => w'.cell? ⟨ad.block, ad.off + 5, none⟩ = some (.slice kA kn kc))
              (first
                | go_keep
                | exact kk.out
                | exact (World.cell?_of_block (w := w4) (a := ⟨ad.block, ad.off + 5, none⟩) (heap_setCell_other w4 ⟨p, 0, none⟩ ad.block _ hgadI)).trans kk.out)
              ((refine step_append_lies _ (by rfl) (.tmp 33) (.tmp 38) 62 (by rfl) base 24 i0 _ 1 24 Try.underlying62 hi0'.out hz0'.out hz1'.out hz2'.out rfl (by decide) (.slice (some ⟨g, 0, none⟩) (d + 1) cap) (d + 1) (xs.take d ++ [v1]) (by rfl) (hrw.out _)
                  ⟨W1.heap.size, 0, none⟩ 1 1 [.slice kA kn kc] (by rfl) (by rfl) hnews.out hone.out
                  (by decide) hbd.out.1 hbd.out.2 (hbd2.out _) (W1.heap.size + 1) (by simp) ?_; intro g' cap' w4 ho4 hg4 hat hlt4; have kk := Lib.hid ((World.cell?_of_block (w := W1) (w' := w4) (a := ⟨ad.block, ad.off + 5, none⟩) (kk4.out w4 _ hg4 _ hadW hgad)).trans k51); have p4 := (kk4.out w4 _ hg4 p hpW hpg).trans p1'.out; have c4 := cell_of_row w4 p 0 _ _ _ p4; have f4 := frozen_of_row w4 p 0 _ _ p4; have ho4' := Lib.hid ho4; have hg4' := Lib.hid hg4; have hat' := Lib.hid hat; have p4' := Lib.hid p4; clear ho4 hg4 hat p4))
            clear g1 g2 g3 g5
            go_wp2_with fail
            go_quiet (fail)
            go_wp2_with fail
            refine bodyPost_ret (v := .tuple #[.int .i64 (d : Int), .pointer (some ad)]) (by simp [results, Try.results47, go_sem]) rfl ?_
            obtain ⟨q1, q2, q3⟩ := next_done h0.out hbase hs'.out hd'.out hr'.out (by have := ho'.out.1; omega) V1.out hkv'.out (by have h := hNE'.out; rw [show (0 + 0) * 6 = 0 by omega, add_zero] at h; exact h) hg o1'.out z1'.out F1'.out ho4'.out hg4'.out hat'.out p4'.out
            unfold NextPost
            rw [hs'.out, nextV_skip e _ he'.out]
            refine ⟨ad, by rw [hd'.out], q1.drewN _, ?_, q3.drewN _⟩
            exact WalkAt.kept q2 (Nat.le_refl _) (fun _ _ => rfl)
end Go.Proofs.Ytacmofhlbebonaa
