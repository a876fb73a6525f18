/- MgAK: TopH TopMb TopI TopJ TopL TopM TopR TopTa TopT TopDa TopDb TopDc -/
import Derived.Test.YtpoenlhikanooaaTopG
import Derived.Test.YtpoenlhikanooaaTopS
import Derived.Test.YtpoenlhikanooaaMgAJ
import Derived.Deep.RegionWith
import Derived.Deep.RegionLaw
import Derived.Deep.RegionHeld3
import Derived.Test.YtpoenlhikanooaaMgAE
import Derived.Test.YtpoenlhikanooaaMgAH
import Derived.Laws.Cover1
import Derived.Deep.LoopGhost
import Derived.Deep.Cut
set_option linter.all false
/- A node more at a gap; a node less: the program's. -/
namespace Go.Proofs.Ytpoenlhikanooaa.Top
open Go.RowKit
set_option maxRecDepth 20000
set_option linter.unusedVariables false

/-- a row of nodes as a part that is read -/
theorem row_prt {T : Nat → Prop} {w : World} {A : Option Addr} {n c : Nat} {l : List Nd} (hl : l.length = n) (h : RowAt T w A 0 l) (hT : ∀ k, T k → k < w.heap.size) (hnil : A = none → c = 0) (hnc : n ≤ c) (hn : n ≤ 100000) : ∃ ks : List KV, ks.map KV.t = l ∧ (∀ k ∈ ks, k.ok T w) ∧ (Prt.mk A n c (ks.flatMap KV.cells)).Ok 6 w ∧ ks.length = n := by
  obtain ⟨ks, k1, k2, k3⟩ := RowAt.kvs l 0 h
  have hkl : ks.length = n := by rw [← hl, ← k1, List.length_map]
  refine ⟨ks, k1, k2, ⟨by rw [chunk_len KV.cells 6 KV.cells_len, hkl], KV.one ks, fun j u hj => ?_, hnil, hnc, hn⟩, hkl⟩
  obtain ⟨q, i, x, rfl, -, h3, h4⟩ := chunk_at KV.cells 6 KV.cells_len (by omega) ks j u hj
  obtain ⟨ad, e, hTd, hs⟩ := k3 q x h3
  refine ⟨ad, e, hT _ hTd, ?_⟩
  rw [← add_add]
  rw [Nat.zero_add] at hs
  exact KV.cell hs i u h4
theorem chunk_take {α : Type} (f : α → List Value) (S : Nat) (hf : ∀ x, (f x).length = S) : ∀ (l : List α) (k : Nat), (l.take k).flatMap f = (l.flatMap f).take (k * S)
  | [], k => by simp
  | a :: r, 0 => by simp
  | a :: r, k + 1 => by
    rw [List.take_succ_cons, List.flatMap_cons, List.flatMap_cons, chunk_take f S hf r k, List.take_append, hf, List.take_of_length_le (l := f a) (by rw [hf, Nat.succ_mul]; omega), show (k + 1) * S - S = k * S by rw [Nat.succ_mul]; omega]
theorem chunk_drop {α : Type} (f : α → List Value) (S : Nat) (hf : ∀ x, (f x).length = S) : ∀ (l : List α) (k : Nat), (l.drop k).flatMap f = (l.flatMap f).drop (k * S)
  | [], k => by simp
  | a :: r, 0 => by simp
  | a :: r, k + 1 => by
    rw [List.drop_succ_cons, List.flatMap_cons, chunk_drop f S hf r k, List.drop_append, hf, List.drop_of_length_le (l := f a) (by rw [hf, Nat.succ_mul]; omega), List.nil_append, show (k + 1) * S - S = k * S by rw [Nat.succ_mul]; omega]
/-- where the rest of a row begins -/
def restA (A : Option Addr) (c k : Nat) : Option Addr := if c = k then A else A.map fun a => a.add (k * 6)
theorem restA_same (A : Option Addr) (k : Nat) : restA A k k = A := if_pos rfl
theorem restA_ne {ad : Addr} {c k : Nat} (h : ¬ c = k) : restA (some ad) c k = some (ad.add (k * 6)) := if_neg h
theorem Prt.Ok.take {w : World} {A : Option Addr} {n c k : Nat} {ks : List KV} (h : (Prt.mk A n c (ks.flatMap KV.cells)).Ok 6 w) (hl : ks.length = n) (hk : k ≤ n) : (Prt.mk A k c ((ks.take k).flatMap KV.cells)).Ok 6 w := by
  have hnc := h.nc
  have hfew := h.few
  dsimp only at hnc hfew
  refine ⟨by rw [chunk_len KV.cells 6 KV.cells_len, List.length_take]; show min k ks.length * 6 = k * 6; rw [Nat.min_eq_left (by omega)], KV.one _, fun j u hj => ?_, h.nil_, by show k ≤ c; omega, by show k ≤ 100000; omega⟩
  have hj2 : ((ks.take k).flatMap KV.cells)[j]? = some u := hj
  rw [chunk_take KV.cells 6 KV.cells_len, List.getElem?_take] at hj2
  split at hj2
  · exact h.cells j u hj2
  · cases hj2
theorem Prt.Ok.drop {w : World} {A : Option Addr} {n c k : Nat} {ks : List KV} (h : (Prt.mk A n c (ks.flatMap KV.cells)).Ok 6 w) (hl : ks.length = n) (hk : k ≤ n) : (Prt.mk (restA A c k) (n - k) (c - k) ((ks.drop k).flatMap KV.cells)).Ok 6 w := by
  have hnc := h.nc
  have hfew := h.few
  dsimp only at hnc hfew
  refine ⟨by rw [chunk_len KV.cells 6 KV.cells_len, List.length_drop]; show (ks.length - k) * 6 = (n - k) * 6; rw [hl], KV.one _, fun j u hj => ?_, fun e => ?_, by show n - k ≤ c - k; omega, by show n - k ≤ 100000; omega⟩
  · have hj2 : ((ks.drop k).flatMap KV.cells)[j]? = some u := hj
    rw [chunk_drop KV.cells 6 KV.cells_len, List.getElem?_drop] at hj2
    obtain ⟨ad, e, hlt, hc⟩ := h.cells _ u hj2
    have e : A = some ad := e
    have hlen := (List.getElem?_eq_some_iff.1 hj2).1
    rw [chunk_len KV.cells 6 KV.cells_len, hl] at hlen
    have hck : ¬ c = k := by
      intro e2
      have : n = k := by omega
      subst this
      omega
    subst e
    exact ⟨ad.add (k * 6), restA_ne hck, by rw [block_add]; exact hlt, by rw [add_add]; exact hc⟩
  · have e : restA A c k = none := e
    unfold restA at e
    by_cases hck : c = k
    · rw [if_pos hck] at e
      have : c = 0 := h.nil_ e
      show c - k = 0
      omega
    · rw [if_neg hck] at e
      cases A with
      | none => have : c = 0 := h.nil_ rfl; show c - k = 0; omega
      | some ad => cases e
/-- a node with another row of children -/
theorem newKids {T : Nat → Prop} {W : World} {yA yK : Option Addr} {yn yc ym yd base : Nat} {y : Nd} {kvs : List KV} {v : Value} {n : Nat} (hy : NodeV T W yA yn yc yK ym yd y) (hok : ∀ k ∈ kvs, k.ok T W) (hown : W.ownsRow base 42 6 v n (kvs.flatMap KV.cells)) (hn : n = kvs.length) (hT : ∀ k, base ≤ k → k < W.heap.size → T k) :
    ∃ A c, v = .slice A n c ∧ NodeV T W yA yn yc A n c (y.withKids (kvs.map KV.t)) := by
  have hf := hy.facts
  subst hn
  have ho : OwnK base W v kvs := hown
  obtain ⟨A, n, c, e, rfl, h1, h2, h3, h4⟩ := ho.shape
  refine ⟨A, c, e, NFacts.node ?_⟩
  have hw : (y.withKids (kvs.map KV.t)).id = y.id ∧ (y.withKids (kvs.map KV.t)).label = y.label ∧ (y.withKids (kvs.map KV.t)).text = y.text ∧ (y.withKids (kvs.map KV.t)).attrs = y.attrs := by cases y; exact ⟨rfl, rfl, rfl, rfl⟩
  obtain ⟨w1, w2, w3, w4⟩ := hw
  refine ⟨by rw [w1]; exact hf.id, by rw [w2]; exact hf.label, by rw [w3]; exact hf.text, by rw [w4]; exact hf.ats, hf.anc, hf.acm, hf.anil, by rw [with_kids, List.length_map], h1, h2, h3, ?_⟩
  rw [with_kids]
  refine RowAt.of_kvs kvs hok fun q k hk => ?_
  obtain ⟨g, e2, hb, hlt, hs⟩ := h4 q k hk
  exact ⟨⟨g, 0, none⟩, e2, hT g hb hlt, by rw [add_zero_off]; exact hs⟩
theorem with_id (y : Nd) (l : List Nd) : (y.withKids l).id = y.id ∧ (y.withKids l).leaf = y.leaf ∧ (y.withKids l).label = y.label ∧ (y.withKids l).text = y.text ∧ (y.withKids l).attrs = y.attrs := by cases y; exact ⟨rfl, rfl, rfl, rfl, rfl⟩
theorem weighs_ins (at_ : Nat) (x : Nd) (l : List Nd) : weighsV (insK at_ x l) = weighsV l + weighV x := by
  unfold insK
  rw [weighsV_append, weighsV]
  have := weighsV_append (l.take at_) (l.drop at_)
  rw [List.take_append_drop] at this
  omega
end Go.Proofs.Ytpoenlhikanooaa.Top
/- The paths of a tree: bowerkit.Paths. -/
namespace Go.Proofs.Ytpoenlhikanooaa.Top
open Go.RowKit
set_option maxRecDepth 20000
set_option linter.unusedVariables false

theorem OwnPp.shape {base : Nat} {w : World} {v : Value} {l : List (Value × List Int)} (h : OwnPp base w v l) : ∃ (A : Option Addr) (n c : Nat), v = .slice A n c ∧ n = l.length ∧ n ≤ c ∧ c ≤ maxLen ∧ (A = none → c = 0) ∧
    ∀ (q : Nat) (x : Value × List Int), l[q]? = some x → ∃ g, A = some ⟨g, 0, none⟩ ∧ base ≤ g ∧ g < w.heap.size ∧ w.cell? ⟨g, q, none⟩ = some x.1 := by
  obtain ⟨A, c, rfl, h1, h2, h3, h4⟩ := own_form h.row
  refine ⟨A, _, c, rfl, rfl, h1, h2, h3, fun q x hx => ?_⟩
  have hq := (List.getElem?_eq_some_iff.1 hx).1
  obtain ⟨g, rfl, hb, hlt, hc⟩ := h4 (by omega)
  exact ⟨g, rfl, hb, hlt, hc q x.1 (by rw [List.getElem?_map, hx]; rfl)⟩
theorem own_kept2 {w w' : World} {base : Nat} {e : TypeId} {size : Nat} {v : Value} {n : Nat} {xs : List Value} (h : w.ownsRow base e size v n xs) (hk : ∀ k, v.ownBlock = some k → w'.heap[k]? = w.heap[k]?) : w'.ownsRow base e size v n xs := by
  obtain ⟨h1, h2 | ⟨g, cap, cur, rfl, hb, hg, hr⟩⟩ := h
  · exact ⟨h1, .inl h2⟩
  · exact ⟨h1, .inr ⟨g, cap, cur, rfl, hb, (hk g rfl).trans hg, hr⟩⟩
theorem pathss_take {ks : List Nd} {q : Nat} {kd : Nd} (h : ks[q]? = some kd) : pathssV 0 (ks.take (q + 1)) = pathssV 0 (ks.take q) ++ (pathsV kd).map (fun p => (q : Int) :: p) := by
  have hq := (List.getElem?_eq_some_iff.1 h).1
  rw [take_snoc h, pathssV_append, List.length_take, Nat.min_eq_left (by omega), Nat.zero_add]
  simp [pathssV]
set_option maxHeartbeats 16000000 in
theorem paths_any (t : Nd) : ∀ (w : World) (aA kA : Option Addr) (an ac kn kc : Nat), NodeV (Old w) w aA an ac kA kn kc t → weighV t ≤ 400000 →
    Calls Try.prog 27 #[.agg (val6 t aA an ac kA kn kc)] w fun e w' => ∃ v l, e = .returned v ∧ OwnPp w.heap.size w' v l ∧ l.map Prod.snd = pathsV t ∧ Below w.heap.size w w' := by
  induction t using Nd.ind with
  | _ t ih =>
  intro w aA kA an ac kn kc h hw
  have ih' := Lib.hid ih
  have hf := h.facts
  have f4 := Lib.hid hf.row
  have f6 := hf.knc
  have f6m := hf.kcm
  have f7 := Lib.hid hf.kl
  have hw' := Lib.hid hw
  unfold maxLen at f6m
  have hcw := Lib.hid (Nat.le_trans (count_le t) hw)
  clear ih h hf hw
  unfold val6
  go_enter Try.func27, Try.ntmps27
  go_wp2_with fail
  go_loopw [3, 4] (fun s k wr => ∃ q : Nat, q ≤ kn ∧ k = .int .i64 (q : Int) ∧ ∃ L, OwnPp (w.heap.size + 1) wr s L ∧ L.map Prod.snd = [] :: pathssV 0 (t.kids.take q) ∧ wr.heap[w.heap.size]? = some (.cells (val6 t aA an ac kA kn kc) 42 (0, 0)) ∧ Below w.heap.size w wr) (fun _ k _ => kn - (intOf k).toNat)
  case atStart =>
    refine ⟨0, Nat.zero_le _, rfl, [(.slice none 0 0, [])], ⟨?_, fun x hx => ?_⟩, by simp [pathssV], two_first w _ _, ((Below.refl _ _).alloc (Nat.le_refl _) _).alloc (by simp) _⟩
    · have h1 := World.ownsRow_lit (base := w.heap.size + 1) (e := 22) (size := 1) (w.alloc (.cells (val6 t aA an ac kA kn kc) 42)) #[.slice none 0 0] 1 (by simp) (by unfold maxLen; omega) rfl
      rw [World.size_alloc] at h1
      exact h1
    · simp only [List.mem_cons, List.not_mem_nil, or_false] at hx
      subst hx
      exact P4.OwnI.nil_ _ _
  case round =>
    obtain ⟨q, hq, rfl, L, hrow, hL, hB, hbel⟩ := hrel
    have hB' := Lib.hid hB
    have hBl := Lib.hid (Array.getElem?_eq_some_iff.1 hB).1
    have hbel' := Lib.hid hbel
    have hrow' := Lib.hid hrow
    have hL' := Lib.hid hL
    unfold val6 at hB
    obtain ⟨c0, c1, c2, c3, c4, c5, cf⟩ := six_cells hB
    clear hB hbel hrow hL
    by_cases h1 : q < kn
    · have h1I : (q : Int) < (kn : Int) := by omega
      obtain ⟨kd, hkd⟩ := get_kid f7.out h1
      obtain ⟨ka, aA3, an3, ac3, kA3, kn3, kc3, rfl, ⟨s0, s1, s2, s3, s4, s5⟩, hv3⟩ := kid_at f4.out hkd hbel'.out
      have hcall := Lib.hid (ih'.out kd (List.mem_of_getElem? hkd) wr aA3 kA3 an3 ac3 kn3 kc3 hv3 (Nat.le_trans (weigh_kid hkd) hw'.out))
      have hnew := Lib.hid (show ([] : List Int) :: pathssV 0 (t.kids.take (q + 1)) = ([] :: pathssV 0 (t.kids.take q)) ++ (pathsV kd).map (fun p => (q : Int) :: p) by rw [pathss_take hkd]; rfl)
      have hlen := Lib.hid (show ([] :: pathssV 0 (t.kids.take q)).length + (pathsV kd).length ≤ 400000 ∧ ∀ p ∈ pathsV kd, p.length ≤ 400000 by
        have e1 := paths_count kd
        have e2 := pathss_count 0 (t.kids.take q)
        have e3 := counts_upto t.kids (q + 1)
        rw [take_snoc hkd, countsV_append] at e3
        have e4 := hcw.out
        rw [countV_eq] at e4
        simp only [countsV] at e3
        refine ⟨by simp only [List.length_cons]; omega, fun p hp => ?_⟩
        have := paths_short kd p hp
        omega)
      unfold val6 at hcall
      clear hkd hv3
      generalize ([] : List Int) :: pathssV 0 (t.kids.take q) = xs at hL' hnew hlen
      generalize pathsV kd = ys at hcall hnew hlen
      go_wp2_with (go_at_call 27; go_loud (refine hcall.out.mono ?_; rintro e w2 ⟨v2, L2, rfl, ho2, hy2, hb2⟩; have O2 := Lib.hid ho2; have Y2 := Lib.hid hy2; have E2 := Lib.hid hb2; clear ho2 hy2 hb2 s0 s1 s2 s3 s4 s5 c0 c1 c2 c3 c4 c5 cf))
      obtain ⟨A2, n2, cp2, rfl, hn2, hnc2, hcm2, hnil2, hat2⟩ := O2.out.shape
      obtain ⟨wo, hwo⟩ : ∃ Z, Z = wr := ⟨_, rfl⟩
      subst hwo
      have AT := Lib.hid hat2
      have hl2 := Lib.hid (show n2 = ys.length by rw [hn2, ← Y2.out, List.length_map])
      have wl := Lib.hid (show w.heap.size < wo.heap.size from hBl.out)
      have hB2 := Lib.hid ((E2.out.block _ hBl.out).trans hB'.out)
      have hbel2 := Lib.hid (hbel'.out.trans (E2.out.mono hbel'.out.size))
      have hrow2 := Lib.hid (hrow'.out.kept (w' := w2) fun k _ hk => E2.out.block k hk)
      have hown2 := Lib.hid (show ∀ g, u3.ownBlock = some g → g < wo.heap.size from fun g hg => (World.ownsRow.lt hrow'.out.row g hg).2)
      unfold maxLen at hcm2
      clear hat2 hn2
      go_loopw [3, 6] (fun s k wr => ∃ m : Nat, m ≤ n2 ∧ k = .int .i64 (m : Int) ∧ ∃ L3, OwnPp (w.heap.size + 1) wr s L3 ∧ L3.map Prod.snd = xs ++ (ys.take m).map (fun p => (q : Int) :: p) ∧ wr.heap[w.heap.size]? = some (.cells (val6 t aA an ac (some ka) kn kc) 42 (0, 0)) ∧ Below w.heap.size w wr ∧ w2.heap.size ≤ wr.heap.size ∧ (∀ b, wo.heap.size ≤ b → b < w2.heap.size → wr.heap[b]? = w2.heap[b]?) ∧ (∀ g, s.ownBlock = some g → g < wo.heap.size ∨ w2.heap.size ≤ g)) (fun _ k _ => n2 - (intOf k).toNat)
      case atStart => exact ⟨0, Nat.zero_le _, rfl, L, hrow2.out, by rw [hL'.out]; simp, hB2.out, hbel2.out, Nat.le_refl _, fun _ _ _ => rfl, fun g hg => .inl (hown2.out g hg)⟩
      case round =>
        obtain ⟨m, hm, rfl, L3, i1, i2, i3, i4, i5, i6, i7⟩ := hrel
        have I1 := Lib.hid i1
        have I2 := Lib.hid i2
        have I3 := Lib.hid i3
        have I4 := Lib.hid i4
        have I5 := Lib.hid i5
        have I6 := Lib.hid i6
        have I7 := Lib.hid i7
        clear i1 i2 i3 i4 i5 i6 i7
        by_cases hmn : m < n2
        · have hmI : (m : Int) < (n2 : Int) := by omega
          have e0 : (0 : Int) ≤ (m : Int) := by omega
          obtain ⟨x, hx⟩ : ∃ x, L2[m]? = some x := by
            have : m < L2.length := by have := hl2.out; have := congrArg List.length Y2.out; simp at this; omega
            exact ⟨_, List.getElem?_eq_getElem this⟩
          obtain ⟨g, rfl, hg1, hg2, hg3⟩ := AT.out m x hx
          have hxo := O2.out.own x (List.mem_of_getElem? hx)
          have hxi : P4.OwnI wo.heap.size wr x.1 x.2 := own_kept2 hxo fun k hk => I6.out k (World.ownsRow.lt hxo k hk).1 (World.ownsRow.lt hxo k hk).2
          have hcell : wr.cell? ⟨g, m, none⟩ = some x.1 := by
            rw [World.cell?_of_block (w := w2) (w' := wr) (a := ⟨g, m, none⟩) (I6.out g hg1 hg2)]
            exact hg3
          have hyx : ys[m]? = some x.2 := by rw [← Y2.out, List.getElem?_map, hx]; rfl
          have hadd : (⟨g, 0, none⟩ : Addr).add m = ⟨g, m, none⟩ := add_zero_off g m
          obtain ⟨xA, xn, xc, hxe, hx1, hx2, hx3, hx4, hx5⟩ := hxi.shape
          have hstep := Lib.hid (show xs ++ (ys.take (m + 1)).map (fun p => (q : Int) :: p) = (xs ++ (ys.take m).map (fun p => (q : Int) :: p)) ++ [(q : Int) :: x.2] by rw [List.take_add_one, hyx]; simp)
          have hsz := Lib.hid (show x.2.length ≤ 400000 ∧ L3.length ≤ 400000 by
            refine ⟨hlen.out.2 _ (List.mem_of_getElem? hyx), ?_⟩
            have e1 := congrArg List.length I2.out
            rw [List.length_map, List.length_append, List.length_map, List.length_take] at e1
            have := hlen.out.1
            omega)
          rw [hxe] at hcell
          have HX := Lib.hid (show P4.Its wr xA xn x.2 from hx4)
          have HX5 := Lib.hid hx5
          obtain ⟨z, hz⟩ : ∃ z, z = x.2 := ⟨_, rfl⟩
          rw [← hz] at hstep hsz HX
          clear hx hxo hxi hyx hx1 hx2 hx3 hx4 hx5 hxe hz hg1 hg2 hg3
          obtain ⟨X1, hX1⟩ : ∃ X1, X1 = wr.alloc (.cells #[.int .i64 (q : Int)] 3) := ⟨_, rfl⟩
          have XB := Lib.hid (show Below wr.heap.size wr X1 by rw [hX1]; exact (Below.refl _ _).alloc (Nat.le_refl _) _)
          have XS := Lib.hid (show X1.heap.size = wr.heap.size + 1 by rw [hX1]; simp)
          have XO := Lib.hid (show P4.OwnI wr.heap.size X1 (.slice (some ⟨wr.heap.size, 0, none⟩) 1 1) [(q : Int)] by rw [hX1]; exact World.ownsRow_lit wr #[.int .i64 (q : Int)] 1 (Nat.le_refl _) (by unfold maxLen; omega) rfl)
          have hcX : X1.cell? ⟨g, m, none⟩ = some (.slice xA xn xc) := (XB.out.cell (p := ⟨g, m, none⟩) (World.block_lt_of_cell? wr _ hcell)).trans hcell
          rw [hX1] at hcX
          have XU := Lib.hid (I1.out.kept (w' := X1) fun k _ hk => XB.out.block k hk)
          have HXX := Lib.hid (show P4.Its X1 xA xn z from P4.Its.below HX.out XB.out)
          go_wp2_with (first
            | (at_builtin; (rw [← hX1]; refine P4.wpList_append_its rfl (.tmp 31) (.tmp 35) rfl wr.heap.size (.slice (some ⟨wr.heap.size, 0, none⟩) 1 1) [(q : Int)] z rfl XO.out xA xn xc rfl HXX.out HX5.out (by have := hsz.out.1; simp; omega) (by have := XS.out; omega) ?_; intro v4 w4 ho4 hg4 hat4; obtain ⟨yA, yn, yc, hve, -⟩ := P4.OwnI.shape ho4; subst hve; have O4 := Lib.hid ho4; have G4 := Lib.hid hg4; clear ho4 hg4 hat4))
            | (at_builtin; go_loud (refine wpList_append_pp rfl (.tmp 30) (.tmp 37) rfl (w.heap.size + 1) u3 L3 rfl (I1.out.kept (w' := w4) fun k _ hk => ((G4.out.block k (by have := XS.out; omega) (fun e => by have e2 : k = wr.heap.size := Option.some.inj e; omega)).trans (XB.out.block k hk))) (.slice yA yn yc, [(q : Int)] ++ z) (own_mono O4.out (by have := I5.out; have := E2.out.size; have := wl.out; omega)) rfl (by have := hsz.out.2; omega) (by have := G4.out.size; have := XS.out; have := I5.out; have := E2.out.size; have := wl.out; omega) ?_; intro v5 w5 ho5 hg5 hlo5 hat5; have O5 := Lib.hid ho5; have G5 := Lib.hid hg5; have A5 := Lib.hid hat5; have L5 := Lib.hid hlo5; clear ho5 hg5 hat5 hlo5)))
          go_roundw
          case rel =>
            have hlt5 : ∀ k, u3.ownBlock = some k → k < wr.heap.size := fun k hk => (World.ownsRow.lt I1.out.row k hk).2
            have hX4 : ∀ k, k < wr.heap.size → w4.heap[k]? = wr.heap[k]? := fun k hk => (G4.out.block k (by have := XS.out; omega) (fun e => by have e2 : k = wr.heap.size := Option.some.inj e; omega)).trans (XB.out.block k hk)
            have s4 : wr.heap.size + 1 ≤ w4.heap.size := by have := G4.out.size; have := XS.out; omega
            have hal : ∀ k, k < wr.heap.size → (w4.alloc (.cells #[Value.slice yA yn yc] 22)).heap[k]? = wr.heap[k]? := fun k hk => (Go.heap_alloc_old _ _ (by omega)).trans (hX4 k hk)
            have h5 : ∀ k, k < wr.heap.size → u3.ownBlock ≠ some k → w5.heap[k]? = wr.heap[k]? := fun k hk hne => (G5.out.block k (by rw [World.size_alloc]; omega) (fun e => hne e.symm)).trans (hal k hk)
            have s5 : w4.heap.size + 1 ≤ w5.heap.size := by have := G5.out.size; rw [World.size_alloc] at this; exact this
            have e2 := E2.out.size
            have i5 := I5.out
            have wl' := wl.out
            refine ⟨m + 1, by omega, by go_num, _, O5.out, ?_, (h5 _ (by omega) (fun e => by have := L5.out _ e; omega)).trans I3.out, ?_, by omega, fun b hb1 hb2 => (h5 b (by omega) (fun e => by have := I7.out b e; omega)).trans (I6.out b hb1 hb2), fun g2 hg2 => ?_⟩
            · rw [List.map_append, I2.out, hstep.out]
              rfl
            · have F5 := FrX.of_grown (S := fun k => w.heap.size + 1 ≤ k) G5.out fun k e => L5.out k e
              have F4 := FrX.of_grown (S := fun k => wr.heap.size ≤ k) G4.out fun k e => by have e2 : wr.heap.size = k := Option.some.inj e; omega
              have b4 : Below w.heap.size w w4 := (I4.out.trans (XB.out.mono I4.out.size)).trans (F4.below (fun k hk => by omega) (by have := XS.out; omega))
              exact (b4.alloc b4.size _).trans (F5.below (fun k hk => by omega) (by rw [World.size_alloc]; omega))
            · rcases A5.out with e | e
              · rw [e] at hg2
                exact I7.out g2 hg2
              · rw [e] at hg2
                have : w4.heap.size + 1 = g2 := Option.some.inj hg2
                exact .inr (by omega)
          case measure => simp [intOf]; omega
        · have hmI : ¬ (m : Int) < (n2 : Int) := by omega
          have hfull := Lib.hid (show ys.take m = ys from List.take_of_length_le (by have := hl2.out; omega))
          go_wp2_with fail
          go_roundw
          case rel => exact ⟨q + 1, by omega, by go_num, L3, I1.out, by rw [I2.out, hfull.out, hnew.out], I3.out, I4.out⟩
          case measure => simp [intOf]; omega
    · have h1I : ¬ (q : Int) < (kn : Int) := by omega
      have hfin := Lib.hid (show ([] : List Int) :: pathssV 0 (t.kids.take q) = pathsV t by rw [pathsV_eq, List.take_of_length_le (by rw [f7.out]; omega)])
      go_wp2_with fail
      go_ret
      exact ⟨_, rfl, L, hrow'.out.mono (by omega), by rw [hL'.out, hfin.out], hbel'.out⟩
end Go.Proofs.Ytpoenlhikanooaa.Top
/- putIn: a node among another's children. -/
namespace Go.Proofs.Ytpoenlhikanooaa.Top
open Go.RowKit
set_option maxRecDepth 20000
set_option linter.unusedVariables false

/-- old blocks and those of the call, but one -/
def But1 (T : Nat → Prop) (W3 W : World) (b9 : Nat) (k : Nat) : Prop := T k ∨ (W3.heap.size ≤ k ∧ k < W.heap.size ∧ k ≠ b9)
theorem putIn_mid {T : Nat → Prop} {w W3 w1 W5 w8 : World} {b9 n c8 at_ : Nat} {x y : Nd} {yA yK xA xK A8 : Option Addr} {yn yc ym yd xn xc xm xd : Nat} {ks : List KV} (hT : ∀ k, T k → k < w.heap.size) (h3 : w.heap.size ≤ W3.heap.size) (h31 : W3.heap.size ≤ w1.heap.size) (hb9 : b9 = w1.heap.size) (s5 : W5.heap.size = b9 + 1)
    (o5 : ∀ k, k < w1.heap.size → W5.heap[k]? = w1.heap[k]?) (hb8 : Below W5.heap.size W5 w8) (hny : NodeV (Nw T W3 w1) w1 yA yn yc yK ym yd y) (hks : ks.map KV.t = y.kids) (hkok : ∀ k ∈ ks, k.ok (Nw T W3 w1) w1) (hx : NodeV T w8 xA xn xc xK xm xd x) (kx : KV) (hkx : kx = ⟨x, xA, xn, xc, xK, xm, xd⟩)
    (ho8 : w8.ownsRow (W5.heap.size + 1 + 1) 42 6 (.slice A8 n c8) n ((ks.take at_ ++ kx :: ks.drop at_).flatMap KV.cells)) (hn : n = (ks.take at_ ++ kx :: ks.drop at_).length) :
    NodeV (But1 T W3 (w8.setCell ⟨b9, 5, none⟩ (.slice A8 n c8)) b9) (w8.setCell ⟨b9, 5, none⟩ (.slice A8 n c8)) yA yn yc A8 n c8 (y.withKids (insK at_ x y.kids)) := by
  subst hkx
  have hsz : (w8.setCell ⟨b9, 5, none⟩ (.slice A8 n c8)).heap.size = w8.heap.size := by simp [World.setCell]
  have hs8 := hb8.size
  have hto : ∀ k, Nw T W3 w1 k → But1 T W3 (w8.setCell ⟨b9, 5, none⟩ (.slice A8 n c8)) b9 k := fun k hk => by
    rcases hk with hk | hk
    · exact .inl hk
    · exact .inr ⟨hk.1, by rw [hsz]; omega, by omega⟩
  have hsame : ∀ k, Nw T W3 w1 k → (w8.setCell ⟨b9, 5, none⟩ (.slice A8 n c8)).heap[k]? = w1.heap[k]? := fun k hk => by
    have hk1 : k < w1.heap.size := by
      rcases hk with hk | hk
      · have := hT k hk; omega
      · exact hk.2
    exact (heap_setCell_other _ _ k _ (by show k ≠ b9; omega)).trans ((hb8.block k (by omega)).trans (o5 k hk1))
  have hg : w8.grownBy (w8.setCell ⟨b9, 5, none⟩ (.slice A8 n c8)) (some b9) := ⟨rfl, rfl, rfl, Nat.le_of_eq hsz.symm, fun k hk hne => heap_setCell_other _ _ k _ (fun e => hne (by rw [e]))⟩
  have hown := ho8.kept hg (by
    cases hA : (Value.slice A8 n c8).ownBlock with
    | none => exact .inl rfl
    | some g => exact .inr (fun e => by injection e with e; have := (ho8.lt g hA).1; omega))
  obtain ⟨A, c, e, hnode⟩ := newKids (T := But1 T W3 (w8.setCell ⟨b9, 5, none⟩ (.slice A8 n c8)) b9) (hny.kept hto hsame) (fun k hk => by
    rcases List.mem_append.1 hk with hk | hk
    · exact KV.ok_kept hto hsame (hkok k (List.mem_of_mem_take hk))
    · rcases List.mem_cons.1 hk with rfl | hk
      · exact NodeV.kept (fun k hk => .inl hk) (fun k hk => heap_setCell_other _ _ k _ (by show k ≠ b9; have := hT k hk; omega)) _ _ _ _ _ _ _ hx
      · exact KV.ok_kept hto hsame (hkok k (List.mem_of_mem_drop hk))) hown hn (fun k h1 h2 => .inr ⟨by omega, h2, by omega⟩)
  injection e with e1 e2 e3
  subst e1 e3
  have hmap : (ks.take at_ ++ (⟨x, xA, xn, xc, xK, xm, xd⟩ : KV) :: ks.drop at_).map KV.t = insK at_ x y.kids := by
    unfold insK
    rw [← hks, List.map_append, List.map_cons, List.map_take, List.map_drop]
  rw [hmap] at hnode
  exact hnode
/-- the answer stored, cell by cell -/
theorem end_node0 {T : Nat → Prop} {w w1 : World} {b r : Nat} {ty : TypeId} {a : Nd} {yA yK : Option Addr} {yn yc ym yd : Nat} {a0 a1 a2 a3 a4 a5 : Value} (hT : ∀ k, T k → k < w.heap.size) (hw : w.heap.size ≤ r) (hrb : r < b) (hb : Below w.heap.size w w1)
    (hr : w1.heap[r]? = some (.cells #[a0, a1, a2, a3, a4, a5] ty (0, 0))) (hy : NodeV (fun k => T k ∨ (b ≤ k ∧ k < w1.heap.size)) w1 yA yn yc yK ym yd a) :
    ∃ W9, W9 = ((((((w1.setCell ⟨r, 0, none⟩ (.int .u64 (a.id : Int))).setCell ⟨r, 1, none⟩ (.bool a.leaf)).setCell ⟨r, 2, none⟩ (.string ⟨a.label.toArray⟩)).setCell ⟨r, 3, none⟩ (.slice yA yn yc)).setCell ⟨r, 4, none⟩ (.string ⟨a.text.toArray⟩)).setCell ⟨r, 5, none⟩ (.slice yK ym yd)) ∧
      W9.heap[r]? = some (.cells (val6 a yA yn yc yK ym yd) ty (0, 0)) ∧ NodeV (Nw T w W9) W9 yA yn yc yK ym yd a ∧ Below w.heap.size w W9 := by
  have hlt := (Array.getElem?_eq_some_iff.1 hr).1
  have hb6 := below_six (b0 := .int .u64 (a.id : Int)) (b1 := .bool a.leaf) (b2 := .string ⟨a.label.toArray⟩) (b3 := .slice yA yn yc) (b4 := .string ⟨a.text.toArray⟩) (b5 := .slice yK ym yd) hb hw
  refine ⟨_, rfl, set_six hr, hy.kept (fun k hk => ?_) (fun k hk => ?_), hb6⟩
  · show T k ∨ _
    simp only [World.size_setCell]
    rcases hk with hk | hk
    · exact .inl hk
    · exact .inr ⟨by omega, by omega⟩
  · have hk2 : k < w1.heap.size ∧ k ≠ r := by
      rcases hk with hk | hk
      · have := hT k hk; have := hb.size; omega
      · omega
    exact set_six_other hk2.2

set_option maxHeartbeats 8000000 in
theorem putIn_T (T : Nat → Prop) (w : World) (hT : ∀ k, T k → k < w.heap.size) (t x y : Nd) (aA kA xA xK : Option Addr) (an ac kn kc xn xc xm xd : Nat) (h : NodeV T w aA an ac kA kn kc t) (hx : NodeV T w xA xn xc xK xm xd x) (pA : Option Addr) (pn pc : Nat) (p : List Int) (hp : Its w pA pn p) (hpn : pn ≤ maxLen) (hbig : weighV t ≤ 90000) (hbigx : weighV x ≤ 90000)
    (hy : atV t p = some y) (at_ : Nat) (hat : at_ ≤ y.kids.length) :
    Calls Try.prog 109 #[.agg (val6 t aA an ac kA kn kc), .slice pA pn pc, .int .i64 (at_ : Int), .agg (val6 x xA xn xc xK xm xd)] w (NodeA T w ((putV t p (y.withKids (insK at_ x y.kids))).getD Nd.zero)) := by
  obtain ⟨z1, z2, z3, z4, z5⟩ := three_new w (.cells (val6 t aA an ac kA kn kc) 42) (.cells (val6 x xA xn xc xK xm xd) 42) (.cells zero6 42)
  obtain ⟨W3, hW3⟩ : ∃ W3, W3 = ((w.alloc (.cells (val6 t aA an ac kA kn kc) 42)).alloc (.cells (val6 x xA xn xc xK xm xd) 42)).alloc (.cells zero6 42) := ⟨_, rfl⟩
  rw [← hW3] at z1 z2 z3 z4 z5
  have hT3 : ∀ k, T k → k < W3.heap.size := fun k hk => by have := hT k hk; omega
  have hatc := Lib.hid (at_T T W3 hT3 t aA kA an ac kn kc (h.kept (fun _ h => h) fun k hk => z4.block k (hT k hk)) pA pn pc p (hp.below z4) hpn (by omega))
  rw [hW3] at hatc
  have z1' := Lib.hid z1
  have z2' := Lib.hid z2
  have z3' := Lib.hid z3
  have z4' := Lib.hid z4
  have z5' := Lib.hid z5
  have hT' := Lib.hid hT
  have hy' := Lib.hid hy
  have hyw := (at_count p t y hy).2
  have hyl := weigh_rows y
  have hh := Lib.hid (fun (W : World) (hb : Below w.heap.size w W) => h.kept (w' := W) (T' := T) (fun _ h => h) fun k hk => hb.block k (hT k hk))
  have hhx := Lib.hid (fun (W : World) (hb : Below w.heap.size w W) => hx.kept (w' := W) (T' := T) (fun _ h => h) fun k hk => hb.block k (hT k hk))
  have hp' := Lib.hid hp
  have hbig' := Lib.hid hbig
  have hbigx' := Lib.hid hbigx
  have hpn' := Lib.hid hpn
  clear z1 z2 z3 z4 z5 h hx hp hT hT3 hy
  unfold zero6 val6 at hW3 hatc
  unfold val6
  go_enter Try.func109, Try.ntmps109
  go_wp2_with (go_at_call 35; go_loud (refine hatc.out.mono ?_; rw [← hW3]; rintro e w1 ⟨yA, yn, yc, yK, ym, yd, rfl, hny, hb⟩; rw [hy'.out] at hny ⊢; have hf := hny.facts; have hykl : y.kids.length = ym := hf.kl; have hyc : ym ≤ yd := hf.knc; have hycm : yd ≤ maxLen := hf.kcm; have hynil := Lib.hid hf.knil; have hyrow := Lib.hid hf.row; have hny' := Lib.hid hny; have hb' := Lib.hid hb; clear hf hny hb; unfold val6))
  rename_i K0 hK0
  obtain ⟨W5, hW5⟩ : ∃ W5, W5 = w1.alloc (.cells #[.int .u64 (y.id : Int), .bool y.leaf, .string ⟨y.label.toArray⟩, .slice yA yn yc, .string ⟨y.text.toArray⟩, .slice yK ym yd] 42) := ⟨_, rfl⟩
  obtain ⟨b9, hb9⟩ : ∃ b9, b9 = w1.heap.size := ⟨_, rfl⟩
  have r9 := Lib.hid (show W5.heap[b9]? = some (.cells #[.int .u64 (y.id : Int), .bool y.leaf, .string ⟨y.label.toArray⟩, .slice yA yn yc, .string ⟨y.text.toArray⟩, .slice yK ym yd] 42 (0, 0)) by rw [hW5, hb9]; exact heap_alloc_new w1 _)
  have o5 : ∀ k, k < w1.heap.size → W5.heap[k]? = w1.heap[k]? := fun k hk => by rw [hW5]; exact Go.heap_alloc_old _ _ hk
  have s5 : W5.heap.size = b9 + 1 := by rw [hW5, hb9]; simp
  have z1b := hb'.out.size
  have r7 := Lib.hid (show W5.heap[w.heap.size + 1]? = some (.cells (val6 x xA xn xc xK xm xd) 42 (0, 0)) from (o5 _ (by have := z5'.out; omega)).trans ((hb'.out.block _ (by have := z5'.out; omega)).trans z2'.out))
  have r4 := Lib.hid (show W5.heap[w.heap.size]? = some (.cells (val6 t aA an ac kA kn kc) 42 (0, 0)) from (o5 _ (by have := z5'.out; omega)).trans ((hb'.out.block _ (by have := z5'.out; omega)).trans z1'.out))
  have r8 := Lib.hid (show W5.heap[w.heap.size + 1 + 1]? = some (.cells zero6 42 (0, 0)) from (o5 _ (by have := z5'.out; omega)).trans ((hb'.out.block _ (by have := z5'.out; omega)).trans z3'.out))
  have b5 := Lib.hid (show Below w.heap.size w W5 by rw [hW5]; exact (z4'.out.trans (hb'.out.mono z4'.out.size)).alloc (Nat.le_trans z4'.out.size z1b) _)
  rw [← hW5, ← hb9]
  have hb9' := Lib.hid hb9
  have hW5' := Lib.hid hW5
  have z5w := z5'.out
  obtain ⟨kx, hkx⟩ : ∃ kx : KV, kx = ⟨x, xA, xn, xc, xK, xm, xd⟩ := ⟨_, rfl⟩
  obtain ⟨ks, hk1, hk2, hk3, hk4⟩ := row_prt hykl hyrow.out (fun k hk => by rcases hk with hk | hk; (have := hT'.out k hk; omega); exact hk.2) hynil.out hyc (by omega)
  have hkl := Lib.hid hk4
  have hkt := Lib.hid hk1
  have hkok := Lib.hid hk2
  have hatm2 : at_ ≤ ym := by omega
  have hcat := Lib.hid (fun (A3 : Option Addr) (n3 c3 : Nat) (h3 : A3 = restA yK yd at_ ∧ n3 = ym - at_ ∧ c3 = yd - at_) =>
    show Calls Try.prog 146 #[.slice (some ⟨W5.heap.size + 1, 0, none⟩) 3 3] ((W5.alloc (.cells #[.int .u64 (x.id : Int), .bool x.leaf, .string ⟨x.label.toArray⟩, .slice xA xn xc, .string ⟨x.text.toArray⟩, .slice xK xm xd] 42)).alloc (.cells #[.slice yK at_ yd, .slice (some ⟨W5.heap.size, 0, none⟩) 1 1, .slice A3 n3 c3] 40)).drew fun e w' => ∃ v, e = .returned v ∧ w'.ownsRow (W5.heap.size + 1 + 1) 42 6 v (ym + 1) ((ks.take at_ ++ kx :: ks.drop at_).flatMap KV.cells) ∧ Below W5.heap.size W5 w' from by
      obtain ⟨e1, e2, e3⟩ := h3
      subst e1 e2 e3
      obtain ⟨W7, hW7⟩ : ∃ W7, W7 = ((W5.alloc (.cells #[.int .u64 (x.id : Int), .bool x.leaf, .string ⟨x.label.toArray⟩, .slice xA xn xc, .string ⟨x.text.toArray⟩, .slice xK xm xd] 42)).alloc (.cells #[.slice yK at_ yd, .slice (some ⟨W5.heap.size, 0, none⟩) 1 1, .slice (restA yK yd at_) (ym - at_) (yd - at_)] 40)).drew := ⟨_, rfl⟩
      rw [← hW7]
      have hb57 : Below W5.heap.size W5 W7 := by
        rw [hW7]
        exact (((Below.refl W5.heap.size W5).alloc (Nat.le_refl _) _).alloc (by simp) _).drew
      have hbw : Below w1.heap.size w1 W7 := (show Below w1.heap.size w1 W5 by rw [hW5]; exact (Below.refl _ _).alloc (Nat.le_refl _) _).trans (hb57.mono (by omega))
      have hs7 : W7.heap.size = W5.heap.size + 1 + 1 := by rw [hW7]; show (World.alloc _ _).heap.size = _; simp
      have g2 : W7.heap[W5.heap.size]? = some (.cells #[.int .u64 (x.id : Int), .bool x.leaf, .string ⟨x.label.toArray⟩, .slice xA xn xc, .string ⟨x.text.toArray⟩, .slice xK xm xd] 42 (0, 0)) := by rw [hW7]; exact (Go.heap_alloc_old _ _ (by simp)).trans (heap_alloc_new W5 _)
      have g3 : W7.heap[W5.heap.size + 1]? = some (.cells #[.slice yK at_ yd, .slice (some ⟨W5.heap.size, 0, none⟩) 1 1, .slice (restA yK yd at_) (ym - at_) (yd - at_)] 40 (0, 0)) := by
        have := heap_alloc_new (W5.alloc (.cells #[.int .u64 (x.id : Int), .bool x.leaf, .string ⟨x.label.toArray⟩, .slice xA xn xc, .string ⟨x.text.toArray⟩, .slice xK xm xd] 42)) (.cells #[.slice yK at_ yd, .slice (some ⟨W5.heap.size, 0, none⟩) 1 1, .slice (restA yK yd at_) (ym - at_) (yd - at_)] 40)
        rw [World.size_alloc] at this
        rw [hW7]
        exact this
      have hk7 := hk3.below hbw
      have hsumE : sumN [Prt.mk yK at_ yd ((ks.take at_).flatMap KV.cells), Prt.mk (some ⟨W5.heap.size, 0, none⟩) 1 1 kx.cells, Prt.mk (restA yK yd at_) (ym - at_) (yd - at_) ((ks.drop at_).flatMap KV.cells)] = ym + 1 := by simp only [sumN]; omega
      have hcatE : catV [Prt.mk yK at_ yd ((ks.take at_).flatMap KV.cells), Prt.mk (some ⟨W5.heap.size, 0, none⟩) 1 1 kx.cells, Prt.mk (restA yK yd at_) (ym - at_) (yd - at_) ((ks.drop at_).flatMap KV.cells)] = (ks.take at_ ++ kx :: ks.drop at_).flatMap KV.cells := by
        simp only [catV, List.flatMap_append, List.flatMap_cons, List.append_nil]
      have := concatN W7 (W5.heap.size + 1) 3 3 [Prt.mk yK at_ yd ((ks.take at_).flatMap KV.cells), Prt.mk (some ⟨W5.heap.size, 0, none⟩) 1 1 kx.cells, Prt.mk (restA yK yd at_) (ym - at_) (yd - at_) ((ks.drop at_).flatMap KV.cells)] rfl (by decide) (fun i p hp => by
        rw [add_zero_off]
        match i, hp with
        | 0, hp => injection hp with hp; subst hp; exact cell_of_row W7 _ 0 _ _ _ g3
        | 1, hp => injection hp with hp; subst hp; exact cell_of_row W7 _ 1 _ _ _ g3
        | 2, hp => injection hp with hp; subst hp; exact cell_of_row W7 _ 2 _ _ _ g3
        | i + 3, hp => simp at hp) (by omega) (fun p hp => by
        simp only [List.mem_cons, List.not_mem_nil, or_false] at hp
        rcases hp with rfl | rfl | rfl
        · exact hk7.take hk4 hatm2
        · refine ⟨rfl, ?_, fun j u hj => ⟨⟨W5.heap.size, 0, none⟩, rfl, by show W5.heap.size < _; omega, ?_⟩, fun e => (by cases e), Nat.le_refl _, (show (1 : Nat) ≤ 100000 by omega)⟩
          · have := KV.one [kx]
            simpa using this
          · rw [add_zero_off]
            refine (cell_of_row W7 W5.heap.size j _ _ _ g2).trans ?_
            have hj2 : kx.cells[j]? = some u := hj
            rw [hkx] at hj2
            rw [← Array.getElem?_toList]
            exact hj2
        · exact hk7.drop hk4 hatm2) (by rw [hsumE]; omega)
      rw [hsumE, hcatE, hs7] at this
      refine this.mono ?_
      rintro e w8 ⟨v8, rfl, ho8, hb8⟩
      exact ⟨v8, rfl, ho8, hb57.trans (hb8.mono (by omega))⟩)
  clear hW5 hb9 hW3 hk1 hk2 hk3 hk4
  have r7' := r7.out
  unfold val6 at r7'
  obtain ⟨p0, p1, p2, p3, p4, p5, pf⟩ := six_cells r9.out
  obtain ⟨q0, q1, q2, q3, q4, q5, qf⟩ := six_cells r7'
  clear r7'
  have hlt9 : b9 < W5.heap.size := (Array.getElem?_eq_some_iff.1 r9.out).1
  have hlt7 : w.heap.size + 1 < W5.heap.size := (Array.getElem?_eq_some_iff.1 r7.out).1
  have hne9 : b9 ≠ W5.heap.size := by omega
  have hne7 : w.heap.size + 1 ≠ W5.heap.size := by omega
  have hatm : (at_ : Int) ≤ (yd : Int) := by omega
  have hatn : (at_ : Int) ≤ (ym : Int) := by omega
  have hat0 : (0 : Int) ≤ (at_ : Int) := by omega
  have ho5 := Lib.hid o5
  have hs5 := Lib.hid s5
  have hz5w := Lib.hid z5w
  have hz1b := Lib.hid z1b
  clear o5 s5 z5w z1b
  unfold maxLen at hycm
  cases yK with
  | none =>
    obtain rfl : yd = 0 := hynil.out rfl
    obtain rfl : ym = 0 := by omega
    obtain rfl : at_ = 0 := by omega
    have hS : Hid (∀ W : World, Below W5.heap.size W5 W → Below W5.heap.size W5 W ∧ W.cell? ⟨b9, 5, none⟩ = some (.slice none 0 0) ∧ W.cell? ⟨w.heap.size + 1, 0, none⟩ = some (.int .u64 (x.id : Int)) ∧ W.cell? ⟨w.heap.size + 1, 1, none⟩ = some (.bool x.leaf) ∧ W.cell? ⟨w.heap.size + 1, 2, none⟩ = some (.string ⟨x.label.toArray⟩) ∧ W.cell? ⟨w.heap.size + 1, 3, none⟩ = some (.slice xA xn xc) ∧ W.cell? ⟨w.heap.size + 1, 4, none⟩ = some (.string ⟨x.text.toArray⟩) ∧ W.cell? ⟨w.heap.size + 1, 5, none⟩ = some (.slice xK xm xd)) := fun W hb => ⟨hb, (hb.cell (p := ⟨b9, 5, none⟩) hlt9).trans p5, (hb.cell (p := ⟨w.heap.size + 1, 0, none⟩) hlt7).trans q0, (hb.cell (p := ⟨w.heap.size + 1, 1, none⟩) hlt7).trans q1, (hb.cell (p := ⟨w.heap.size + 1, 2, none⟩) hlt7).trans q2, (hb.cell (p := ⟨w.heap.size + 1, 3, none⟩) hlt7).trans q3, (hb.cell (p := ⟨w.heap.size + 1, 4, none⟩) hlt7).trans q4, (hb.cell (p := ⟨w.heap.size + 1, 5, none⟩) hlt7).trans q5⟩
    clear p0 p1 p2 p3 p4 p5 pf q0 q1 q2 q3 q4 q5 qf
    refine wp_region_L (fun w' => Below W5.heap.size W5 w' ∧ w'.cell? ⟨b9, 5, none⟩ = some (.slice none 0 0) ∧ w'.cell? ⟨w.heap.size + 1, 0, none⟩ = some (.int .u64 (x.id : Int)) ∧ w'.cell? ⟨w.heap.size + 1, 1, none⟩ = some (.bool x.leaf) ∧ w'.cell? ⟨w.heap.size + 1, 2, none⟩ = some (.string ⟨x.label.toArray⟩) ∧ w'.cell? ⟨w.heap.size + 1, 3, none⟩ = some (.slice xA xn xc) ∧ w'.cell? ⟨w.heap.size + 1, 4, none⟩ = some (.string ⟨x.text.toArray⟩) ∧ w'.cell? ⟨w.heap.size + 1, 5, none⟩ = some (.slice xK xm xd)) 13 rfl (hS.out _ (Below.refl W5.heap.size W5).drew) (fun hHeld => ?_)
    refine wpAnyL_take (i := 0) (oi := { dst := some 17, op := Go.Op.fieldAddr 42 (Go.Operand.tmp 9) 5, type := 0, pos := "done.go:58", after := #[], guard := none }) (v := ?_) rfl (by kernel_rfl) (by kernel_rfl) (by kernel_rfl) (by kernel_rfl) (fun _ _ _ h => h) (Or.inl ⟨by rfl, ?_⟩) hHeld ?_
    rotate_left 1
    · intro w hSw; (try dsimp only at hSw); obtain ⟨-, s5, s0, s1, s2, s3, s4, s6⟩ := hSw; go_simp; try with_reducible rfl
    try simp only [Act.put, List.setIfInBounds_toArray, List.set_cons_zero, List.set_cons_succ]
    refine wpAnyL_take (i := 1) (oi := { dst := some 18, op := Go.Op.load 40 (Go.Operand.tmp 17), type := 40, pos := "done.go:58", after := #[{ on := 0, ground := Go.Ground.data }], guard := none }) (v := ?_) rfl (by kernel_rfl) (by kernel_rfl) (by kernel_rfl) (by kernel_rfl) (fun _ _ _ h => h) (Or.inl ⟨by rfl, ?_⟩) hHeld ?_
    rotate_left 1
    · intro w hSw; (try dsimp only at hSw); obtain ⟨-, s5, s0, s1, s2, s3, s4, s6⟩ := hSw; go_simp; try with_reducible rfl
    try simp only [Act.put, List.setIfInBounds_toArray, List.set_cons_zero, List.set_cons_succ]
    refine wpAnyL_take (i := 2) (oi := { dst := some 19, op := Go.Op.move (Go.Operand.tmp 2), type := 3, pos := "done.go:58", after := #[], guard := none }) (v := ?_) rfl (by kernel_rfl) (by kernel_rfl) (by kernel_rfl) (by kernel_rfl) (fun _ _ _ h => h) (Or.inl ⟨by rfl, ?_⟩) hHeld ?_
    rotate_left 1
    · intro w hSw; (try dsimp only at hSw); obtain ⟨-, s5, s0, s1, s2, s3, s4, s6⟩ := hSw; go_simp; try with_reducible rfl
    try simp only [Act.put, List.setIfInBounds_toArray, List.set_cons_zero, List.set_cons_succ]
    refine wpAnyL_take (i := 3) (oi := { dst := some 20, op := Go.Op.slice 40 (Go.Operand.tmp 18) none (some (Go.Operand.tmp 19)) none, type := 40, pos := "done.go:58", after := #[{ on := 1, ground := Go.Ground.data }, { on := 2, ground := Go.Ground.data }], guard := none }) (v := ?_) rfl (by kernel_rfl) (by kernel_rfl) (by kernel_rfl) (by kernel_rfl) (fun _ _ _ h => h) (Or.inl ⟨by rfl, ?_⟩) hHeld ?_
    rotate_left 1
    · intro w hSw; (try dsimp only at hSw); obtain ⟨-, s5, s0, s1, s2, s3, s4, s6⟩ := hSw; go_simp; try with_reducible rfl
    try simp only [Act.put, List.setIfInBounds_toArray, List.set_cons_zero, List.set_cons_succ]
    refine wpAnyL_take (i := 4) (oi := { dst := some 21, op := Go.Op.load 42 (Go.Operand.tmp 7), type := 42, pos := "done.go:58", after := #[], guard := none }) (v := ?_) rfl (by kernel_rfl) (by kernel_rfl) (by kernel_rfl) (by kernel_rfl) (fun _ _ _ h => h) (Or.inl ⟨by rfl, ?_⟩) hHeld ?_
    rotate_left 1
    · intro w hSw; (try dsimp only at hSw); obtain ⟨-, s5, s0, s1, s2, s3, s4, s6⟩ := hSw; go_simp; try with_reducible rfl
    try simp only [Act.put, List.setIfInBounds_toArray, List.set_cons_zero, List.set_cons_succ]
    refine wpAnyL_take (i := 6) (oi := { dst := some 23, op := Go.Op.fieldAddr 42 (Go.Operand.tmp 9) 5, type := 0, pos := "done.go:58", after := #[], guard := none }) (v := ?_) rfl (by kernel_rfl) (by kernel_rfl) (by kernel_rfl) (by kernel_rfl) (fun _ _ _ h => h) (Or.inl ⟨by rfl, ?_⟩) hHeld ?_
    rotate_left 1
    · intro w hSw; (try dsimp only at hSw); obtain ⟨-, s5, s0, s1, s2, s3, s4, s6⟩ := hSw; go_simp; try with_reducible rfl
    try simp only [Act.put, List.setIfInBounds_toArray, List.set_cons_zero, List.set_cons_succ]
    refine wpAnyL_take (i := 7) (oi := { dst := some 24, op := Go.Op.load 40 (Go.Operand.tmp 23), type := 40, pos := "done.go:58", after := #[{ on := 6, ground := Go.Ground.data }], guard := none }) (v := ?_) rfl (by kernel_rfl) (by kernel_rfl) (by kernel_rfl) (by kernel_rfl) (fun _ _ _ h => h) (Or.inl ⟨by rfl, ?_⟩) hHeld ?_
    rotate_left 1
    · intro w hSw; (try dsimp only at hSw); obtain ⟨-, s5, s0, s1, s2, s3, s4, s6⟩ := hSw; go_simp; try with_reducible rfl
    try simp only [Act.put, List.setIfInBounds_toArray, List.set_cons_zero, List.set_cons_succ]
    refine wpAnyL_take (i := 8) (oi := { dst := some 25, op := Go.Op.move (Go.Operand.tmp 2), type := 3, pos := "done.go:58", after := #[], guard := none }) (v := ?_) rfl (by kernel_rfl) (by kernel_rfl) (by kernel_rfl) (by kernel_rfl) (fun _ _ _ h => h) (Or.inl ⟨by rfl, ?_⟩) hHeld ?_
    rotate_left 1
    · intro w hSw; (try dsimp only at hSw); obtain ⟨-, s5, s0, s1, s2, s3, s4, s6⟩ := hSw; go_simp; try with_reducible rfl
    try simp only [Act.put, List.setIfInBounds_toArray, List.set_cons_zero, List.set_cons_succ]
    refine wpAnyL_take (i := 9) (oi := { dst := some 26, op := Go.Op.slice 40 (Go.Operand.tmp 24) (some (Go.Operand.tmp 25)) none none, type := 40, pos := "done.go:58", after := #[{ on := 7, ground := Go.Ground.data }, { on := 8, ground := Go.Ground.data }], guard := none }) (v := ?_) rfl (by kernel_rfl) (by kernel_rfl) (by kernel_rfl) (by kernel_rfl) (fun _ _ _ h => h) (Or.inl ⟨by rfl, ?_⟩) hHeld ?_
    rotate_left 1
    · intro w hSw; (try dsimp only at hSw); obtain ⟨-, s5, s0, s1, s2, s3, s4, s6⟩ := hSw; go_simp; try with_reducible rfl
    try simp only [Act.put, List.setIfInBounds_toArray, List.set_cons_zero, List.set_cons_succ]
    refine wpAnyL_one (i := 5) (o := { dst := some 22, op := Go.Op.buildSlice 40 1 #[(0, Go.Operand.tmp 21)], type := 40, pos := "done.go:58", after := #[{ on := 4, ground := Go.Ground.data }], guard := none }) (by kernel_rfl) rfl (by decide) (fun K hK => ?_)
    go_simp
    refine hK.out _ _ ?_ (fun hNew => ?_)
    · exact hS.out _ (hHeld.1.alloc hHeld.1.size _)
    clear hK K hHeld
    have hHeld := hNew
    clear hNew
    try simp only [Act.put, List.setIfInBounds_toArray, List.set_cons_zero, List.set_cons_succ]
    refine wpAnyL_one (i := 10) (o := { dst := some 27, op := Go.Op.buildSlice 127 3 #[(0, Go.Operand.tmp 20), (1, Go.Operand.tmp 22), (2, Go.Operand.tmp 26)], type := 127, pos := "done.go:58", after := #[{ on := 3, ground := Go.Ground.data }, { on := 5, ground := Go.Ground.data }, { on := 9, ground := Go.Ground.data }], guard := none }) (by kernel_rfl) rfl (by decide) (fun K hK => ?_)
    go_simp
    refine hK.out _ _ ?_ (fun hNew => ?_)
    · exact hS.out _ (hHeld.1.alloc hHeld.1.size _)
    clear hK K hHeld
    have hHeld := hNew
    clear hNew
    try simp only [Act.put, List.setIfInBounds_toArray, List.set_cons_zero, List.set_cons_succ]
    refine wpAnyL_one (i := 11) (o := { dst := some 28, op := Go.Op.call { callee := Go.Callee.value (Go.Operand.func 146), args := #[Go.Operand.tmp 27], argTypes := #[127] }, type := 40, pos := "done.go:58", after := #[{ on := 10, ground := Go.Ground.data }], guard := none }) (by kernel_rfl) rfl (by decide) (fun K hK => ?_)
    go_simp
    refine (hcat.out _ _ _ ⟨rfl, rfl, rfl⟩).mono ?_
    rintro e w8 ⟨v8, rfl, ho8, hb8⟩
    obtain ⟨A8, c8, rfl, -⟩ := own_form ho8
    have hb8' := Lib.hid hb8
    have ho8' := Lib.hid ho8
    go_simp
    refine hK.out _ _ ?_ (fun hNew => ?_)
    · exact hS.out _ hb8
    clear hK K hHeld ho8 hb8
    have hHeld := hNew
    clear hNew
    try simp only [Act.put, List.setIfInBounds_toArray, List.set_cons_zero, List.set_cons_succ]
    refine wpAnyL_take (i := 12) (oi := { dst := some 29, op := Go.Op.fieldAddr 42 (Go.Operand.tmp 9) 5, type := 0, pos := "done.go:58", after := #[{ on := 0, ground := Go.Ground.phase }, { on := 1, ground := Go.Ground.phase }, { on := 2, ground := Go.Ground.phase }, { on := 3, ground := Go.Ground.phase }, { on := 4, ground := Go.Ground.phase }, { on := 5, ground := Go.Ground.phase }, { on := 6, ground := Go.Ground.phase }, { on := 7, ground := Go.Ground.phase }, { on := 8, ground := Go.Ground.phase }, { on := 9, ground := Go.Ground.phase }, { on := 10, ground := Go.Ground.phase }, { on := 11, ground := Go.Ground.phase }], guard := none }) (v := ?_) rfl (by kernel_rfl) (by kernel_rfl) (by kernel_rfl) (by kernel_rfl) (fun _ _ _ h => h) (Or.inl ⟨by rfl, ?_⟩) hHeld ?_
    rotate_left 1
    · intro w hSw; go_simp; try with_reducible rfl
    try simp only [Act.put, List.setIfInBounds_toArray, List.set_cons_zero, List.set_cons_succ]
    have g9 := Lib.hid ((hb8'.out.block b9 hlt9).trans r9.out)
    clear hHeld hS
    obtain ⟨p0, p1, p2, p3, p4, p5, pf⟩ := six_cells g9.out
    refine wpAnyL_last (o := { dst := none, op := Go.Op.store 40 (Go.Operand.tmp 29) (Go.Operand.tmp 28), type := 0, pos := "done.go:58", after := #[{ on := 12, ground := Go.Ground.data }, { on := 11, ground := Go.Ground.data }, { on := 11, ground := Go.Ground.chain }, { on := 0, ground := Go.Ground.phase }, { on := 1, ground := Go.Ground.phase }, { on := 2, ground := Go.Ground.phase }, { on := 3, ground := Go.Ground.phase }, { on := 4, ground := Go.Ground.phase }, { on := 5, ground := Go.Ground.phase }, { on := 6, ground := Go.Ground.phase }, { on := 7, ground := Go.Ground.phase }, { on := 8, ground := Go.Ground.phase }, { on := 9, ground := Go.Ground.phase }, { on := 10, ground := Go.Ground.phase }, { on := 11, ground := Go.Ground.phase }], guard := none }) (by kernel_rfl) rfl (fun K hK => ?_)
    go_simp
    refine hK _ _ ?_
    clear hK K
    try simp only [Act.put, List.setIfInBounds_toArray, List.set_cons_zero, List.set_cons_succ]
    refine wpAny_done (by kernel_rfl) ?_ _
    refine hK0 _ _ ?_
    have hmid := Lib.hid (putIn_mid (W3 := W3) (b9 := b9) (n := (0 + 1)) (c8 := c8) (at_ := 0) hT'.out (by have := z5'.out; omega) hz1b.out hb9'.out hs5.out ho5.out hb8'.out hny'.out hkt.out hkok.out (hhx.out w8 (b5.out.trans (hb8'.out.mono b5.out.size))) kx hkx ho8'.out (by rw [List.length_append, List.length_cons, List.length_take, List.length_drop, hkl.out]; omega))
    have hb86 := Lib.hid ((b5.out.trans (hb8'.out.mono b5.out.size)).setCell (p := ⟨b9, 5, none⟩) (by show w.heap.size ≤ b9; have := z5'.out; have := hz1b.out; have := hb9'.out; omega) (.slice A8 (0 + 1) c8))
    have hW6s : (w8.setCell ⟨b9, 5, none⟩ (.slice A8 (0 + 1) c8)).heap.size = w8.heap.size := by simp [World.setCell]
    have hT6 : ∀ k, But1 T W3 (w8.setCell ⟨b9, 5, none⟩ (.slice A8 (0 + 1) c8)) b9 k → k < (w8.setCell ⟨b9, 5, none⟩ (.slice A8 (0 + 1) c8)).heap.size := fun k hk => by
      rcases hk with hk | hk
      · have := hT'.out k hk; have := hb86.out.size; omega
      · exact hk.2.1
    have hputc := Lib.hid (tput_T _ _ hT6 t (y.withKids (insK 0 x y.kids)) aA kA yA A8 an ac kn kc yn yc (0 + 1) c8 (NodeV.kept (fun k hk => .inl hk) (fun _ _ => rfl) _ _ _ _ _ _ _ (hh.out _ hb86.out)) hmid.out pA pn pc p (hp'.out.below hb86.out) hpn'.out (by have := hbig'.out; omega) (by have h1 := weighV_with y (insK 0 x y.kids); have h2 := weighs_ins 0 x y.kids; have h3 := hbig'.out; have h4 := hbigx'.out; omega))
    have G9 := Lib.hid (show (w8.setCell ⟨b9, 5, none⟩ (.slice A8 (0 + 1) c8)).heap[b9]? = some (.cells #[.int .u64 (y.id : Int), .bool y.leaf, .string ⟨y.label.toArray⟩, .slice yA yn yc, .string ⟨y.text.toArray⟩, .slice A8 (0 + 1) c8] 42 (0, 0)) from heap_setCell_same w8 b9 5 _ _ _ g9.out)
    have G4 := Lib.hid (show (w8.setCell ⟨b9, 5, none⟩ (.slice A8 (0 + 1) c8)).heap[w.heap.size]? = some (.cells (val6 t aA an ac kA kn kc) 42 (0, 0)) from (heap_setCell_other _ _ _ _ (by show w.heap.size ≠ b9; have := z5'.out; have := hz1b.out; have := hb9'.out; omega)).trans ((hb8'.out.block _ (by have := z5'.out; have := hz1b.out; have := hb9'.out; have := hs5.out; omega)).trans r4.out))
    have G8 := Lib.hid (show (w8.setCell ⟨b9, 5, none⟩ (.slice A8 (0 + 1) c8)).heap[w.heap.size + 1 + 1]? = some (.cells zero6 42 (0, 0)) from (heap_setCell_other _ _ _ _ (by show w.heap.size + 1 + 1 ≠ b9; have := z5'.out; have := hz1b.out; have := hb9'.out; omega)).trans ((hb8'.out.block _ (by have := z5'.out; have := hz1b.out; have := hb9'.out; have := hs5.out; omega)).trans r8.out))
    obtain ⟨W6, hW6⟩ : ∃ W6, W6 = w8.setCell ⟨b9, 5, none⟩ (.slice A8 ((0 + 1)) c8) := ⟨_, rfl⟩
    have G9' := G9.out
    have G4' := G4.out
    have G8' := G8.out
    unfold val6 at G4'
    rw [← hW6] at hputc hb86 G9' G4' G8' hmid
    have hputc' := hputc.out
    unfold val6 at hputc'
    obtain ⟨we1, we2, we3, we4, -⟩ := with_id y (insK 0 x y.kids)
    rw [we1, we2, we3, we4] at hputc'
    clear we1 we2 we3 we4
    have hpc := Lib.hid hputc'
    have G8w := Lib.hid G8'
    have hbW := Lib.hid hb86.out
    first
      | rw [← hW6]
      | (rw [show (Value.slice A8 1 c8) = .slice A8 (0 + 1) c8 from rfl, ← hW6])
    have hW6s' := Lib.hid (show W6.heap.size = w8.heap.size by rw [hW6]; exact hW6s)
    clear hW6s hT6
    have hnW : w.heap.size + 1 + 1 < W6.heap.size := (Array.getElem?_eq_some_iff.1 G8').1
    obtain ⟨p0, p1, p2, p3, p4, p5, pf⟩ := six_cells G9'
    obtain ⟨q0, q1, q2, q3, q4, q5, qf⟩ := six_cells G4'
    have hW6' := Lib.hid hW6
    clear hputc' hputc G9 G4 G8 G9' G4' G8' hb86 hatc hW6 hcat hmid
    go_wp2_with (go_at_call 114; go_loud (refine hpc.out.mono ?_; rintro e w9 ⟨zA, zn, zc, zK, zm, zd, rfl, hz, hbz⟩; have r3 := (hbz.block _ hnW).trans G8w.out; have hr := Lib.hid r3; have hz' := Lib.hid hz; have hbz' := Lib.hid hbz; unfold zero6 at r3; clear p0 p1 p2 p3 p4 p5 pf q0 q1 q2 q3 q4 q5 qf; obtain ⟨q0, q1, q2, q3, q4, q5, qf⟩ := six_cells r3; have hne : w.heap.size + 1 + 1 < w9.heap.size := (Array.getElem?_eq_some_iff.1 r3).1; have hne2 : w9.heap.size ≠ w.heap.size + 1 + 1 := (by omega); have hne3 : w.heap.size + 1 + 1 ≠ w9.heap.size := (by omega); unfold val6; clear hz hbz r3))
    obtain ⟨a, ha⟩ : ∃ a, a = (putV t p (y.withKids (insK 0 x y.kids))).getD Nd.zero := ⟨_, rfl⟩
    rw [← ha] at hz' ⊢
    obtain ⟨W9, hW9, R9, N9, B9⟩ := end_node0 hT'.out (r := w.heap.size + 1 + 1) (b := W3.heap.size) (by omega) (by have := z5'.out; omega) (hbW.out.trans (hbz'.out.mono hbW.out.size)) hr.out (hz'.out.kept (fun k hk => by
      have hs := hbz'.out.size
      rcases hk with hk | hk
      · rcases hk with hk | hk
        · exact .inl hk
        · exact .inr ⟨hk.1, by have h2 := hk.2.1; omega⟩
      · exact .inr ⟨by have h2 := hW6s'.out; have := hb8'.out.size; have := hs5.out; have := hz1b.out; have := hb9'.out; omega, hk.2⟩) (fun _ _ => rfl))
    rw [← hW9]
    unfold val6 at R9
    obtain ⟨d0, d1, d2, d3, d4, d5, df⟩ := six_cells R9
    refine bodyPost_ret (v := .agg (val6 a zA zn zc zK zm zd)) (by simp [results, Try.results109, go_sem, d0, d1, d2, d3, d4, d5, val6]) rfl ?_
    exact ⟨zA, zn, zc, zK, zm, zd, rfl, N9, B9⟩
  | some ky =>
    by_cases hdc : yd = at_
    · subst hdc
      obtain rfl : ym = yd := by omega
      have hS : Hid (∀ W : World, Below W5.heap.size W5 W → Below W5.heap.size W5 W ∧ W.cell? ⟨b9, 5, none⟩ = some (.slice (some ky) ym ym) ∧ W.cell? ⟨w.heap.size + 1, 0, none⟩ = some (.int .u64 (x.id : Int)) ∧ W.cell? ⟨w.heap.size + 1, 1, none⟩ = some (.bool x.leaf) ∧ W.cell? ⟨w.heap.size + 1, 2, none⟩ = some (.string ⟨x.label.toArray⟩) ∧ W.cell? ⟨w.heap.size + 1, 3, none⟩ = some (.slice xA xn xc) ∧ W.cell? ⟨w.heap.size + 1, 4, none⟩ = some (.string ⟨x.text.toArray⟩) ∧ W.cell? ⟨w.heap.size + 1, 5, none⟩ = some (.slice xK xm xd)) := fun W hb => ⟨hb, (hb.cell (p := ⟨b9, 5, none⟩) hlt9).trans p5, (hb.cell (p := ⟨w.heap.size + 1, 0, none⟩) hlt7).trans q0, (hb.cell (p := ⟨w.heap.size + 1, 1, none⟩) hlt7).trans q1, (hb.cell (p := ⟨w.heap.size + 1, 2, none⟩) hlt7).trans q2, (hb.cell (p := ⟨w.heap.size + 1, 3, none⟩) hlt7).trans q3, (hb.cell (p := ⟨w.heap.size + 1, 4, none⟩) hlt7).trans q4, (hb.cell (p := ⟨w.heap.size + 1, 5, none⟩) hlt7).trans q5⟩
      clear p0 p1 p2 p3 p4 p5 pf q0 q1 q2 q3 q4 q5 qf
      refine wp_region_L (fun w' => Below W5.heap.size W5 w' ∧ w'.cell? ⟨b9, 5, none⟩ = some (.slice (some ky) ym ym) ∧ w'.cell? ⟨w.heap.size + 1, 0, none⟩ = some (.int .u64 (x.id : Int)) ∧ w'.cell? ⟨w.heap.size + 1, 1, none⟩ = some (.bool x.leaf) ∧ w'.cell? ⟨w.heap.size + 1, 2, none⟩ = some (.string ⟨x.label.toArray⟩) ∧ w'.cell? ⟨w.heap.size + 1, 3, none⟩ = some (.slice xA xn xc) ∧ w'.cell? ⟨w.heap.size + 1, 4, none⟩ = some (.string ⟨x.text.toArray⟩) ∧ w'.cell? ⟨w.heap.size + 1, 5, none⟩ = some (.slice xK xm xd)) 13 rfl (hS.out _ (Below.refl W5.heap.size W5).drew) (fun hHeld => ?_)
      refine wpAnyL_take (i := 0) (oi := { dst := some 17, op := Go.Op.fieldAddr 42 (Go.Operand.tmp 9) 5, type := 0, pos := "done.go:58", after := #[], guard := none }) (v := ?_) rfl (by kernel_rfl) (by kernel_rfl) (by kernel_rfl) (by kernel_rfl) (fun _ _ _ h => h) (Or.inl ⟨by rfl, ?_⟩) hHeld ?_
      rotate_left 1
      · intro w hSw; (try dsimp only at hSw); obtain ⟨-, s5, s0, s1, s2, s3, s4, s6⟩ := hSw; go_simp; try with_reducible rfl
      try simp only [Act.put, List.setIfInBounds_toArray, List.set_cons_zero, List.set_cons_succ]
      refine wpAnyL_take (i := 1) (oi := { dst := some 18, op := Go.Op.load 40 (Go.Operand.tmp 17), type := 40, pos := "done.go:58", after := #[{ on := 0, ground := Go.Ground.data }], guard := none }) (v := ?_) rfl (by kernel_rfl) (by kernel_rfl) (by kernel_rfl) (by kernel_rfl) (fun _ _ _ h => h) (Or.inl ⟨by rfl, ?_⟩) hHeld ?_
      rotate_left 1
      · intro w hSw; (try dsimp only at hSw); obtain ⟨-, s5, s0, s1, s2, s3, s4, s6⟩ := hSw; go_simp; try with_reducible rfl
      try simp only [Act.put, List.setIfInBounds_toArray, List.set_cons_zero, List.set_cons_succ]
      refine wpAnyL_take (i := 2) (oi := { dst := some 19, op := Go.Op.move (Go.Operand.tmp 2), type := 3, pos := "done.go:58", after := #[], guard := none }) (v := ?_) rfl (by kernel_rfl) (by kernel_rfl) (by kernel_rfl) (by kernel_rfl) (fun _ _ _ h => h) (Or.inl ⟨by rfl, ?_⟩) hHeld ?_
      rotate_left 1
      · intro w hSw; (try dsimp only at hSw); obtain ⟨-, s5, s0, s1, s2, s3, s4, s6⟩ := hSw; go_simp; try with_reducible rfl
      try simp only [Act.put, List.setIfInBounds_toArray, List.set_cons_zero, List.set_cons_succ]
      refine wpAnyL_take (i := 3) (oi := { dst := some 20, op := Go.Op.slice 40 (Go.Operand.tmp 18) none (some (Go.Operand.tmp 19)) none, type := 40, pos := "done.go:58", after := #[{ on := 1, ground := Go.Ground.data }, { on := 2, ground := Go.Ground.data }], guard := none }) (v := ?_) rfl (by kernel_rfl) (by kernel_rfl) (by kernel_rfl) (by kernel_rfl) (fun _ _ _ h => h) (Or.inl ⟨by rfl, ?_⟩) hHeld ?_
      rotate_left 1
      · intro w hSw; (try dsimp only at hSw); obtain ⟨-, s5, s0, s1, s2, s3, s4, s6⟩ := hSw; go_simp; try with_reducible rfl
      try simp only [Act.put, List.setIfInBounds_toArray, List.set_cons_zero, List.set_cons_succ]
      refine wpAnyL_take (i := 4) (oi := { dst := some 21, op := Go.Op.load 42 (Go.Operand.tmp 7), type := 42, pos := "done.go:58", after := #[], guard := none }) (v := ?_) rfl (by kernel_rfl) (by kernel_rfl) (by kernel_rfl) (by kernel_rfl) (fun _ _ _ h => h) (Or.inl ⟨by rfl, ?_⟩) hHeld ?_
      rotate_left 1
      · intro w hSw; (try dsimp only at hSw); obtain ⟨-, s5, s0, s1, s2, s3, s4, s6⟩ := hSw; go_simp; try with_reducible rfl
      try simp only [Act.put, List.setIfInBounds_toArray, List.set_cons_zero, List.set_cons_succ]
      refine wpAnyL_take (i := 6) (oi := { dst := some 23, op := Go.Op.fieldAddr 42 (Go.Operand.tmp 9) 5, type := 0, pos := "done.go:58", after := #[], guard := none }) (v := ?_) rfl (by kernel_rfl) (by kernel_rfl) (by kernel_rfl) (by kernel_rfl) (fun _ _ _ h => h) (Or.inl ⟨by rfl, ?_⟩) hHeld ?_
      rotate_left 1
      · intro w hSw; (try dsimp only at hSw); obtain ⟨-, s5, s0, s1, s2, s3, s4, s6⟩ := hSw; go_simp; try with_reducible rfl
      try simp only [Act.put, List.setIfInBounds_toArray, List.set_cons_zero, List.set_cons_succ]
      refine wpAnyL_take (i := 7) (oi := { dst := some 24, op := Go.Op.load 40 (Go.Operand.tmp 23), type := 40, pos := "done.go:58", after := #[{ on := 6, ground := Go.Ground.data }], guard := none }) (v := ?_) rfl (by kernel_rfl) (by kernel_rfl) (by kernel_rfl) (by kernel_rfl) (fun _ _ _ h => h) (Or.inl ⟨by rfl, ?_⟩) hHeld ?_
      rotate_left 1
      · intro w hSw; (try dsimp only at hSw); obtain ⟨-, s5, s0, s1, s2, s3, s4, s6⟩ := hSw; go_simp; try with_reducible rfl
      try simp only [Act.put, List.setIfInBounds_toArray, List.set_cons_zero, List.set_cons_succ]
      refine wpAnyL_take (i := 8) (oi := { dst := some 25, op := Go.Op.move (Go.Operand.tmp 2), type := 3, pos := "done.go:58", after := #[], guard := none }) (v := ?_) rfl (by kernel_rfl) (by kernel_rfl) (by kernel_rfl) (by kernel_rfl) (fun _ _ _ h => h) (Or.inl ⟨by rfl, ?_⟩) hHeld ?_
      rotate_left 1
      · intro w hSw; (try dsimp only at hSw); obtain ⟨-, s5, s0, s1, s2, s3, s4, s6⟩ := hSw; go_simp; try with_reducible rfl
      try simp only [Act.put, List.setIfInBounds_toArray, List.set_cons_zero, List.set_cons_succ]
      refine wpAnyL_take (i := 9) (oi := { dst := some 26, op := Go.Op.slice 40 (Go.Operand.tmp 24) (some (Go.Operand.tmp 25)) none none, type := 40, pos := "done.go:58", after := #[{ on := 7, ground := Go.Ground.data }, { on := 8, ground := Go.Ground.data }], guard := none }) (v := ?_) rfl (by kernel_rfl) (by kernel_rfl) (by kernel_rfl) (by kernel_rfl) (fun _ _ _ h => h) (Or.inl ⟨by rfl, ?_⟩) hHeld ?_
      rotate_left 1
      · intro w hSw; (try dsimp only at hSw); obtain ⟨-, s5, s0, s1, s2, s3, s4, s6⟩ := hSw; go_simp; try with_reducible rfl
      try simp only [Act.put, List.setIfInBounds_toArray, List.set_cons_zero, List.set_cons_succ]
      refine wpAnyL_one (i := 5) (o := { dst := some 22, op := Go.Op.buildSlice 40 1 #[(0, Go.Operand.tmp 21)], type := 40, pos := "done.go:58", after := #[{ on := 4, ground := Go.Ground.data }], guard := none }) (by kernel_rfl) rfl (by decide) (fun K hK => ?_)
      go_simp
      refine hK.out _ _ ?_ (fun hNew => ?_)
      · exact hS.out _ (hHeld.1.alloc hHeld.1.size _)
      clear hK K hHeld
      have hHeld := hNew
      clear hNew
      try simp only [Act.put, List.setIfInBounds_toArray, List.set_cons_zero, List.set_cons_succ]
      refine wpAnyL_one (i := 10) (o := { dst := some 27, op := Go.Op.buildSlice 127 3 #[(0, Go.Operand.tmp 20), (1, Go.Operand.tmp 22), (2, Go.Operand.tmp 26)], type := 127, pos := "done.go:58", after := #[{ on := 3, ground := Go.Ground.data }, { on := 5, ground := Go.Ground.data }, { on := 9, ground := Go.Ground.data }], guard := none }) (by kernel_rfl) rfl (by decide) (fun K hK => ?_)
      go_simp
      refine hK.out _ _ ?_ (fun hNew => ?_)
      · exact hS.out _ (hHeld.1.alloc hHeld.1.size _)
      clear hK K hHeld
      have hHeld := hNew
      clear hNew
      try simp only [Act.put, List.setIfInBounds_toArray, List.set_cons_zero, List.set_cons_succ]
      refine wpAnyL_one (i := 11) (o := { dst := some 28, op := Go.Op.call { callee := Go.Callee.value (Go.Operand.func 146), args := #[Go.Operand.tmp 27], argTypes := #[127] }, type := 40, pos := "done.go:58", after := #[{ on := 10, ground := Go.Ground.data }], guard := none }) (by kernel_rfl) rfl (by decide) (fun K hK => ?_)
      go_simp
      refine (hcat.out _ _ _ ⟨by rw [restA_same], by omega, by omega⟩).mono ?_
      rintro e w8 ⟨v8, rfl, ho8, hb8⟩
      obtain ⟨A8, c8, rfl, -⟩ := own_form ho8
      have hb8' := Lib.hid hb8
      have ho8' := Lib.hid ho8
      go_simp
      refine hK.out _ _ ?_ (fun hNew => ?_)
      · exact hS.out _ hb8
      clear hK K hHeld ho8 hb8
      have hHeld := hNew
      clear hNew
      try simp only [Act.put, List.setIfInBounds_toArray, List.set_cons_zero, List.set_cons_succ]
      refine wpAnyL_take (i := 12) (oi := { dst := some 29, op := Go.Op.fieldAddr 42 (Go.Operand.tmp 9) 5, type := 0, pos := "done.go:58", after := #[{ on := 0, ground := Go.Ground.phase }, { on := 1, ground := Go.Ground.phase }, { on := 2, ground := Go.Ground.phase }, { on := 3, ground := Go.Ground.phase }, { on := 4, ground := Go.Ground.phase }, { on := 5, ground := Go.Ground.phase }, { on := 6, ground := Go.Ground.phase }, { on := 7, ground := Go.Ground.phase }, { on := 8, ground := Go.Ground.phase }, { on := 9, ground := Go.Ground.phase }, { on := 10, ground := Go.Ground.phase }, { on := 11, ground := Go.Ground.phase }], guard := none }) (v := ?_) rfl (by kernel_rfl) (by kernel_rfl) (by kernel_rfl) (by kernel_rfl) (fun _ _ _ h => h) (Or.inl ⟨by rfl, ?_⟩) hHeld ?_
      rotate_left 1
      · intro w hSw; go_simp; try with_reducible rfl
      try simp only [Act.put, List.setIfInBounds_toArray, List.set_cons_zero, List.set_cons_succ]
      have g9 := Lib.hid ((hb8'.out.block b9 hlt9).trans r9.out)
      clear hHeld hS
      obtain ⟨p0, p1, p2, p3, p4, p5, pf⟩ := six_cells g9.out
      refine wpAnyL_last (o := { dst := none, op := Go.Op.store 40 (Go.Operand.tmp 29) (Go.Operand.tmp 28), type := 0, pos := "done.go:58", after := #[{ on := 12, ground := Go.Ground.data }, { on := 11, ground := Go.Ground.data }, { on := 11, ground := Go.Ground.chain }, { on := 0, ground := Go.Ground.phase }, { on := 1, ground := Go.Ground.phase }, { on := 2, ground := Go.Ground.phase }, { on := 3, ground := Go.Ground.phase }, { on := 4, ground := Go.Ground.phase }, { on := 5, ground := Go.Ground.phase }, { on := 6, ground := Go.Ground.phase }, { on := 7, ground := Go.Ground.phase }, { on := 8, ground := Go.Ground.phase }, { on := 9, ground := Go.Ground.phase }, { on := 10, ground := Go.Ground.phase }, { on := 11, ground := Go.Ground.phase }], guard := none }) (by kernel_rfl) rfl (fun K hK => ?_)
      go_simp
      refine hK _ _ ?_
      clear hK K
      try simp only [Act.put, List.setIfInBounds_toArray, List.set_cons_zero, List.set_cons_succ]
      refine wpAny_done (by kernel_rfl) ?_ _
      refine hK0 _ _ ?_
      have hmid := Lib.hid (putIn_mid (W3 := W3) (b9 := b9) (n := (ym + 1)) (c8 := c8) (at_ := ym) hT'.out (by have := z5'.out; omega) hz1b.out hb9'.out hs5.out ho5.out hb8'.out hny'.out hkt.out hkok.out (hhx.out w8 (b5.out.trans (hb8'.out.mono b5.out.size))) kx hkx ho8'.out (by rw [List.length_append, List.length_cons, List.length_take, List.length_drop, hkl.out]; omega))
      have hb86 := Lib.hid ((b5.out.trans (hb8'.out.mono b5.out.size)).setCell (p := ⟨b9, 5, none⟩) (by show w.heap.size ≤ b9; have := z5'.out; have := hz1b.out; have := hb9'.out; omega) (.slice A8 (ym + 1) c8))
      have hW6s : (w8.setCell ⟨b9, 5, none⟩ (.slice A8 (ym + 1) c8)).heap.size = w8.heap.size := by simp [World.setCell]
      have hT6 : ∀ k, But1 T W3 (w8.setCell ⟨b9, 5, none⟩ (.slice A8 (ym + 1) c8)) b9 k → k < (w8.setCell ⟨b9, 5, none⟩ (.slice A8 (ym + 1) c8)).heap.size := fun k hk => by
        rcases hk with hk | hk
        · have := hT'.out k hk; have := hb86.out.size; omega
        · exact hk.2.1
      have hputc := Lib.hid (tput_T _ _ hT6 t (y.withKids (insK ym x y.kids)) aA kA yA A8 an ac kn kc yn yc (ym + 1) c8 (NodeV.kept (fun k hk => .inl hk) (fun _ _ => rfl) _ _ _ _ _ _ _ (hh.out _ hb86.out)) hmid.out pA pn pc p (hp'.out.below hb86.out) hpn'.out (by have := hbig'.out; omega) (by have h1 := weighV_with y (insK ym x y.kids); have h2 := weighs_ins ym x y.kids; have h3 := hbig'.out; have h4 := hbigx'.out; omega))
      have G9 := Lib.hid (show (w8.setCell ⟨b9, 5, none⟩ (.slice A8 (ym + 1) c8)).heap[b9]? = some (.cells #[.int .u64 (y.id : Int), .bool y.leaf, .string ⟨y.label.toArray⟩, .slice yA yn yc, .string ⟨y.text.toArray⟩, .slice A8 (ym + 1) c8] 42 (0, 0)) from heap_setCell_same w8 b9 5 _ _ _ g9.out)
      have G4 := Lib.hid (show (w8.setCell ⟨b9, 5, none⟩ (.slice A8 (ym + 1) c8)).heap[w.heap.size]? = some (.cells (val6 t aA an ac kA kn kc) 42 (0, 0)) from (heap_setCell_other _ _ _ _ (by show w.heap.size ≠ b9; have := z5'.out; have := hz1b.out; have := hb9'.out; omega)).trans ((hb8'.out.block _ (by have := z5'.out; have := hz1b.out; have := hb9'.out; have := hs5.out; omega)).trans r4.out))
      have G8 := Lib.hid (show (w8.setCell ⟨b9, 5, none⟩ (.slice A8 (ym + 1) c8)).heap[w.heap.size + 1 + 1]? = some (.cells zero6 42 (0, 0)) from (heap_setCell_other _ _ _ _ (by show w.heap.size + 1 + 1 ≠ b9; have := z5'.out; have := hz1b.out; have := hb9'.out; omega)).trans ((hb8'.out.block _ (by have := z5'.out; have := hz1b.out; have := hb9'.out; have := hs5.out; omega)).trans r8.out))
      obtain ⟨W6, hW6⟩ : ∃ W6, W6 = w8.setCell ⟨b9, 5, none⟩ (.slice A8 ((ym + 1)) c8) := ⟨_, rfl⟩
      have G9' := G9.out
      have G4' := G4.out
      have G8' := G8.out
      unfold val6 at G4'
      rw [← hW6] at hputc hb86 G9' G4' G8' hmid
      have hputc' := hputc.out
      unfold val6 at hputc'
      obtain ⟨we1, we2, we3, we4, -⟩ := with_id y (insK ym x y.kids)
      rw [we1, we2, we3, we4] at hputc'
      clear we1 we2 we3 we4
      have hpc := Lib.hid hputc'
      have G8w := Lib.hid G8'
      have hbW := Lib.hid hb86.out
      first
        | rw [← hW6]
        | (rw [show (Value.slice A8 1 c8) = .slice A8 (0 + 1) c8 from rfl, ← hW6])
      have hW6s' := Lib.hid (show W6.heap.size = w8.heap.size by rw [hW6]; exact hW6s)
      clear hW6s hT6
      have hnW : w.heap.size + 1 + 1 < W6.heap.size := (Array.getElem?_eq_some_iff.1 G8').1
      obtain ⟨p0, p1, p2, p3, p4, p5, pf⟩ := six_cells G9'
      obtain ⟨q0, q1, q2, q3, q4, q5, qf⟩ := six_cells G4'
      have hW6' := Lib.hid hW6
      clear hputc' hputc G9 G4 G8 G9' G4' G8' hb86 hatc hW6 hcat hmid
      go_wp2_with (go_at_call 114; go_loud (refine hpc.out.mono ?_; rintro e w9 ⟨zA, zn, zc, zK, zm, zd, rfl, hz, hbz⟩; have r3 := (hbz.block _ hnW).trans G8w.out; have hr := Lib.hid r3; have hz' := Lib.hid hz; have hbz' := Lib.hid hbz; unfold zero6 at r3; clear p0 p1 p2 p3 p4 p5 pf q0 q1 q2 q3 q4 q5 qf; obtain ⟨q0, q1, q2, q3, q4, q5, qf⟩ := six_cells r3; have hne : w.heap.size + 1 + 1 < w9.heap.size := (Array.getElem?_eq_some_iff.1 r3).1; have hne2 : w9.heap.size ≠ w.heap.size + 1 + 1 := (by omega); have hne3 : w.heap.size + 1 + 1 ≠ w9.heap.size := (by omega); unfold val6; clear hz hbz r3))
      obtain ⟨a, ha⟩ : ∃ a, a = (putV t p (y.withKids (insK ym x y.kids))).getD Nd.zero := ⟨_, rfl⟩
      rw [← ha] at hz' ⊢
      obtain ⟨W9, hW9, R9, N9, B9⟩ := end_node0 hT'.out (r := w.heap.size + 1 + 1) (b := W3.heap.size) (by omega) (by have := z5'.out; omega) (hbW.out.trans (hbz'.out.mono hbW.out.size)) hr.out (hz'.out.kept (fun k hk => by
        have hs := hbz'.out.size
        rcases hk with hk | hk
        · rcases hk with hk | hk
          · exact .inl hk
          · exact .inr ⟨hk.1, by have h2 := hk.2.1; omega⟩
        · exact .inr ⟨by have h2 := hW6s'.out; have := hb8'.out.size; have := hs5.out; have := hz1b.out; have := hb9'.out; omega, hk.2⟩) (fun _ _ => rfl))
      rw [← hW9]
      unfold val6 at R9
      obtain ⟨d0, d1, d2, d3, d4, d5, df⟩ := six_cells R9
      refine bodyPost_ret (v := .agg (val6 a zA zn zc zK zm zd)) (by simp [results, Try.results109, go_sem, d0, d1, d2, d3, d4, d5, val6]) rfl ?_
      exact ⟨zA, zn, zc, zK, zm, zd, rfl, N9, B9⟩
    · have hdc' : (yd = at_) = False := by simp [hdc]
      have hS : Hid (∀ W : World, Below W5.heap.size W5 W → Below W5.heap.size W5 W ∧ W.cell? ⟨b9, 5, none⟩ = some (.slice (some ky) ym yd) ∧ W.cell? ⟨w.heap.size + 1, 0, none⟩ = some (.int .u64 (x.id : Int)) ∧ W.cell? ⟨w.heap.size + 1, 1, none⟩ = some (.bool x.leaf) ∧ W.cell? ⟨w.heap.size + 1, 2, none⟩ = some (.string ⟨x.label.toArray⟩) ∧ W.cell? ⟨w.heap.size + 1, 3, none⟩ = some (.slice xA xn xc) ∧ W.cell? ⟨w.heap.size + 1, 4, none⟩ = some (.string ⟨x.text.toArray⟩) ∧ W.cell? ⟨w.heap.size + 1, 5, none⟩ = some (.slice xK xm xd)) := fun W hb => ⟨hb, (hb.cell (p := ⟨b9, 5, none⟩) hlt9).trans p5, (hb.cell (p := ⟨w.heap.size + 1, 0, none⟩) hlt7).trans q0, (hb.cell (p := ⟨w.heap.size + 1, 1, none⟩) hlt7).trans q1, (hb.cell (p := ⟨w.heap.size + 1, 2, none⟩) hlt7).trans q2, (hb.cell (p := ⟨w.heap.size + 1, 3, none⟩) hlt7).trans q3, (hb.cell (p := ⟨w.heap.size + 1, 4, none⟩) hlt7).trans q4, (hb.cell (p := ⟨w.heap.size + 1, 5, none⟩) hlt7).trans q5⟩
      clear p0 p1 p2 p3 p4 p5 pf q0 q1 q2 q3 q4 q5 qf
      refine wp_region_L (fun w' => Below W5.heap.size W5 w' ∧ w'.cell? ⟨b9, 5, none⟩ = some (.slice (some ky) ym yd) ∧ w'.cell? ⟨w.heap.size + 1, 0, none⟩ = some (.int .u64 (x.id : Int)) ∧ w'.cell? ⟨w.heap.size + 1, 1, none⟩ = some (.bool x.leaf) ∧ w'.cell? ⟨w.heap.size + 1, 2, none⟩ = some (.string ⟨x.label.toArray⟩) ∧ w'.cell? ⟨w.heap.size + 1, 3, none⟩ = some (.slice xA xn xc) ∧ w'.cell? ⟨w.heap.size + 1, 4, none⟩ = some (.string ⟨x.text.toArray⟩) ∧ w'.cell? ⟨w.heap.size + 1, 5, none⟩ = some (.slice xK xm xd)) 13 rfl (hS.out _ (Below.refl W5.heap.size W5).drew) (fun hHeld => ?_)
      refine wpAnyL_take (i := 0) (oi := { dst := some 17, op := Go.Op.fieldAddr 42 (Go.Operand.tmp 9) 5, type := 0, pos := "done.go:58", after := #[], guard := none }) (v := ?_) rfl (by kernel_rfl) (by kernel_rfl) (by kernel_rfl) (by kernel_rfl) (fun _ _ _ h => h) (Or.inl ⟨by rfl, ?_⟩) hHeld ?_
      rotate_left 1
      · intro w hSw; (try dsimp only at hSw); obtain ⟨-, s5, s0, s1, s2, s3, s4, s6⟩ := hSw; go_simp; try with_reducible rfl
      try simp only [Act.put, List.setIfInBounds_toArray, List.set_cons_zero, List.set_cons_succ]
      refine wpAnyL_take (i := 1) (oi := { dst := some 18, op := Go.Op.load 40 (Go.Operand.tmp 17), type := 40, pos := "done.go:58", after := #[{ on := 0, ground := Go.Ground.data }], guard := none }) (v := ?_) rfl (by kernel_rfl) (by kernel_rfl) (by kernel_rfl) (by kernel_rfl) (fun _ _ _ h => h) (Or.inl ⟨by rfl, ?_⟩) hHeld ?_
      rotate_left 1
      · intro w hSw; (try dsimp only at hSw); obtain ⟨-, s5, s0, s1, s2, s3, s4, s6⟩ := hSw; go_simp; try with_reducible rfl
      try simp only [Act.put, List.setIfInBounds_toArray, List.set_cons_zero, List.set_cons_succ]
      refine wpAnyL_take (i := 2) (oi := { dst := some 19, op := Go.Op.move (Go.Operand.tmp 2), type := 3, pos := "done.go:58", after := #[], guard := none }) (v := ?_) rfl (by kernel_rfl) (by kernel_rfl) (by kernel_rfl) (by kernel_rfl) (fun _ _ _ h => h) (Or.inl ⟨by rfl, ?_⟩) hHeld ?_
      rotate_left 1
      · intro w hSw; (try dsimp only at hSw); obtain ⟨-, s5, s0, s1, s2, s3, s4, s6⟩ := hSw; go_simp; try with_reducible rfl
      try simp only [Act.put, List.setIfInBounds_toArray, List.set_cons_zero, List.set_cons_succ]
      refine wpAnyL_take (i := 3) (oi := { dst := some 20, op := Go.Op.slice 40 (Go.Operand.tmp 18) none (some (Go.Operand.tmp 19)) none, type := 40, pos := "done.go:58", after := #[{ on := 1, ground := Go.Ground.data }, { on := 2, ground := Go.Ground.data }], guard := none }) (v := ?_) rfl (by kernel_rfl) (by kernel_rfl) (by kernel_rfl) (by kernel_rfl) (fun _ _ _ h => h) (Or.inl ⟨by rfl, ?_⟩) hHeld ?_
      rotate_left 1
      · intro w hSw; (try dsimp only at hSw); obtain ⟨-, s5, s0, s1, s2, s3, s4, s6⟩ := hSw; go_simp; try with_reducible rfl
      try simp only [Act.put, List.setIfInBounds_toArray, List.set_cons_zero, List.set_cons_succ]
      refine wpAnyL_take (i := 4) (oi := { dst := some 21, op := Go.Op.load 42 (Go.Operand.tmp 7), type := 42, pos := "done.go:58", after := #[], guard := none }) (v := ?_) rfl (by kernel_rfl) (by kernel_rfl) (by kernel_rfl) (by kernel_rfl) (fun _ _ _ h => h) (Or.inl ⟨by rfl, ?_⟩) hHeld ?_
      rotate_left 1
      · intro w hSw; (try dsimp only at hSw); obtain ⟨-, s5, s0, s1, s2, s3, s4, s6⟩ := hSw; go_simp; try with_reducible rfl
      try simp only [Act.put, List.setIfInBounds_toArray, List.set_cons_zero, List.set_cons_succ]
      refine wpAnyL_take (i := 6) (oi := { dst := some 23, op := Go.Op.fieldAddr 42 (Go.Operand.tmp 9) 5, type := 0, pos := "done.go:58", after := #[], guard := none }) (v := ?_) rfl (by kernel_rfl) (by kernel_rfl) (by kernel_rfl) (by kernel_rfl) (fun _ _ _ h => h) (Or.inl ⟨by rfl, ?_⟩) hHeld ?_
      rotate_left 1
      · intro w hSw; (try dsimp only at hSw); obtain ⟨-, s5, s0, s1, s2, s3, s4, s6⟩ := hSw; go_simp; try with_reducible rfl
      try simp only [Act.put, List.setIfInBounds_toArray, List.set_cons_zero, List.set_cons_succ]
      refine wpAnyL_take (i := 7) (oi := { dst := some 24, op := Go.Op.load 40 (Go.Operand.tmp 23), type := 40, pos := "done.go:58", after := #[{ on := 6, ground := Go.Ground.data }], guard := none }) (v := ?_) rfl (by kernel_rfl) (by kernel_rfl) (by kernel_rfl) (by kernel_rfl) (fun _ _ _ h => h) (Or.inl ⟨by rfl, ?_⟩) hHeld ?_
      rotate_left 1
      · intro w hSw; (try dsimp only at hSw); obtain ⟨-, s5, s0, s1, s2, s3, s4, s6⟩ := hSw; go_simp; try with_reducible rfl
      try simp only [Act.put, List.setIfInBounds_toArray, List.set_cons_zero, List.set_cons_succ]
      refine wpAnyL_take (i := 8) (oi := { dst := some 25, op := Go.Op.move (Go.Operand.tmp 2), type := 3, pos := "done.go:58", after := #[], guard := none }) (v := ?_) rfl (by kernel_rfl) (by kernel_rfl) (by kernel_rfl) (by kernel_rfl) (fun _ _ _ h => h) (Or.inl ⟨by rfl, ?_⟩) hHeld ?_
      rotate_left 1
      · intro w hSw; (try dsimp only at hSw); obtain ⟨-, s5, s0, s1, s2, s3, s4, s6⟩ := hSw; go_simp; try with_reducible rfl
      try simp only [Act.put, List.setIfInBounds_toArray, List.set_cons_zero, List.set_cons_succ]
      refine wpAnyL_take (i := 9) (oi := { dst := some 26, op := Go.Op.slice 40 (Go.Operand.tmp 24) (some (Go.Operand.tmp 25)) none none, type := 40, pos := "done.go:58", after := #[{ on := 7, ground := Go.Ground.data }, { on := 8, ground := Go.Ground.data }], guard := none }) (v := ?_) rfl (by kernel_rfl) (by kernel_rfl) (by kernel_rfl) (by kernel_rfl) (fun _ _ _ h => h) (Or.inl ⟨by rfl, ?_⟩) hHeld ?_
      rotate_left 1
      · intro w hSw; (try dsimp only at hSw); obtain ⟨-, s5, s0, s1, s2, s3, s4, s6⟩ := hSw; go_simp; try with_reducible rfl
      try simp only [Act.put, List.setIfInBounds_toArray, List.set_cons_zero, List.set_cons_succ]
      refine wpAnyL_one (i := 5) (o := { dst := some 22, op := Go.Op.buildSlice 40 1 #[(0, Go.Operand.tmp 21)], type := 40, pos := "done.go:58", after := #[{ on := 4, ground := Go.Ground.data }], guard := none }) (by kernel_rfl) rfl (by decide) (fun K hK => ?_)
      go_simp
      refine hK.out _ _ ?_ (fun hNew => ?_)
      · exact hS.out _ (hHeld.1.alloc hHeld.1.size _)
      clear hK K hHeld
      have hHeld := hNew
      clear hNew
      try simp only [Act.put, List.setIfInBounds_toArray, List.set_cons_zero, List.set_cons_succ]
      refine wpAnyL_one (i := 10) (o := { dst := some 27, op := Go.Op.buildSlice 127 3 #[(0, Go.Operand.tmp 20), (1, Go.Operand.tmp 22), (2, Go.Operand.tmp 26)], type := 127, pos := "done.go:58", after := #[{ on := 3, ground := Go.Ground.data }, { on := 5, ground := Go.Ground.data }, { on := 9, ground := Go.Ground.data }], guard := none }) (by kernel_rfl) rfl (by decide) (fun K hK => ?_)
      go_simp
      refine hK.out _ _ ?_ (fun hNew => ?_)
      · exact hS.out _ (hHeld.1.alloc hHeld.1.size _)
      clear hK K hHeld
      have hHeld := hNew
      clear hNew
      try simp only [Act.put, List.setIfInBounds_toArray, List.set_cons_zero, List.set_cons_succ]
      refine wpAnyL_one (i := 11) (o := { dst := some 28, op := Go.Op.call { callee := Go.Callee.value (Go.Operand.func 146), args := #[Go.Operand.tmp 27], argTypes := #[127] }, type := 40, pos := "done.go:58", after := #[{ on := 10, ground := Go.Ground.data }], guard := none }) (by kernel_rfl) rfl (by decide) (fun K hK => ?_)
      go_simp
      refine (hcat.out _ _ _ ⟨by rw [restA_ne hdc], by omega, by omega⟩).mono ?_
      rintro e w8 ⟨v8, rfl, ho8, hb8⟩
      obtain ⟨A8, c8, rfl, -⟩ := own_form ho8
      have hb8' := Lib.hid hb8
      have ho8' := Lib.hid ho8
      go_simp
      refine hK.out _ _ ?_ (fun hNew => ?_)
      · exact hS.out _ hb8
      clear hK K hHeld ho8 hb8
      have hHeld := hNew
      clear hNew
      try simp only [Act.put, List.setIfInBounds_toArray, List.set_cons_zero, List.set_cons_succ]
      refine wpAnyL_take (i := 12) (oi := { dst := some 29, op := Go.Op.fieldAddr 42 (Go.Operand.tmp 9) 5, type := 0, pos := "done.go:58", after := #[{ on := 0, ground := Go.Ground.phase }, { on := 1, ground := Go.Ground.phase }, { on := 2, ground := Go.Ground.phase }, { on := 3, ground := Go.Ground.phase }, { on := 4, ground := Go.Ground.phase }, { on := 5, ground := Go.Ground.phase }, { on := 6, ground := Go.Ground.phase }, { on := 7, ground := Go.Ground.phase }, { on := 8, ground := Go.Ground.phase }, { on := 9, ground := Go.Ground.phase }, { on := 10, ground := Go.Ground.phase }, { on := 11, ground := Go.Ground.phase }], guard := none }) (v := ?_) rfl (by kernel_rfl) (by kernel_rfl) (by kernel_rfl) (by kernel_rfl) (fun _ _ _ h => h) (Or.inl ⟨by rfl, ?_⟩) hHeld ?_
      rotate_left 1
      · intro w hSw; go_simp; try with_reducible rfl
      try simp only [Act.put, List.setIfInBounds_toArray, List.set_cons_zero, List.set_cons_succ]
      have g9 := Lib.hid ((hb8'.out.block b9 hlt9).trans r9.out)
      clear hHeld hS
      obtain ⟨p0, p1, p2, p3, p4, p5, pf⟩ := six_cells g9.out
      refine wpAnyL_last (o := { dst := none, op := Go.Op.store 40 (Go.Operand.tmp 29) (Go.Operand.tmp 28), type := 0, pos := "done.go:58", after := #[{ on := 12, ground := Go.Ground.data }, { on := 11, ground := Go.Ground.data }, { on := 11, ground := Go.Ground.chain }, { on := 0, ground := Go.Ground.phase }, { on := 1, ground := Go.Ground.phase }, { on := 2, ground := Go.Ground.phase }, { on := 3, ground := Go.Ground.phase }, { on := 4, ground := Go.Ground.phase }, { on := 5, ground := Go.Ground.phase }, { on := 6, ground := Go.Ground.phase }, { on := 7, ground := Go.Ground.phase }, { on := 8, ground := Go.Ground.phase }, { on := 9, ground := Go.Ground.phase }, { on := 10, ground := Go.Ground.phase }, { on := 11, ground := Go.Ground.phase }], guard := none }) (by kernel_rfl) rfl (fun K hK => ?_)
      go_simp
      refine hK _ _ ?_
      clear hK K
      try simp only [Act.put, List.setIfInBounds_toArray, List.set_cons_zero, List.set_cons_succ]
      refine wpAny_done (by kernel_rfl) ?_ _
      refine hK0 _ _ ?_
      have hmid := Lib.hid (putIn_mid (W3 := W3) (b9 := b9) (n := (ym + 1)) (c8 := c8) (at_ := at_) hT'.out (by have := z5'.out; omega) hz1b.out hb9'.out hs5.out ho5.out hb8'.out hny'.out hkt.out hkok.out (hhx.out w8 (b5.out.trans (hb8'.out.mono b5.out.size))) kx hkx ho8'.out (by rw [List.length_append, List.length_cons, List.length_take, List.length_drop, hkl.out]; omega))
      have hb86 := Lib.hid ((b5.out.trans (hb8'.out.mono b5.out.size)).setCell (p := ⟨b9, 5, none⟩) (by show w.heap.size ≤ b9; have := z5'.out; have := hz1b.out; have := hb9'.out; omega) (.slice A8 (ym + 1) c8))
      have hW6s : (w8.setCell ⟨b9, 5, none⟩ (.slice A8 (ym + 1) c8)).heap.size = w8.heap.size := by simp [World.setCell]
      have hT6 : ∀ k, But1 T W3 (w8.setCell ⟨b9, 5, none⟩ (.slice A8 (ym + 1) c8)) b9 k → k < (w8.setCell ⟨b9, 5, none⟩ (.slice A8 (ym + 1) c8)).heap.size := fun k hk => by
        rcases hk with hk | hk
        · have := hT'.out k hk; have := hb86.out.size; omega
        · exact hk.2.1
      have hputc := Lib.hid (tput_T _ _ hT6 t (y.withKids (insK at_ x y.kids)) aA kA yA A8 an ac kn kc yn yc (ym + 1) c8 (NodeV.kept (fun k hk => .inl hk) (fun _ _ => rfl) _ _ _ _ _ _ _ (hh.out _ hb86.out)) hmid.out pA pn pc p (hp'.out.below hb86.out) hpn'.out (by have := hbig'.out; omega) (by have h1 := weighV_with y (insK at_ x y.kids); have h2 := weighs_ins at_ x y.kids; have h3 := hbig'.out; have h4 := hbigx'.out; omega))
      have G9 := Lib.hid (show (w8.setCell ⟨b9, 5, none⟩ (.slice A8 (ym + 1) c8)).heap[b9]? = some (.cells #[.int .u64 (y.id : Int), .bool y.leaf, .string ⟨y.label.toArray⟩, .slice yA yn yc, .string ⟨y.text.toArray⟩, .slice A8 (ym + 1) c8] 42 (0, 0)) from heap_setCell_same w8 b9 5 _ _ _ g9.out)
      have G4 := Lib.hid (show (w8.setCell ⟨b9, 5, none⟩ (.slice A8 (ym + 1) c8)).heap[w.heap.size]? = some (.cells (val6 t aA an ac kA kn kc) 42 (0, 0)) from (heap_setCell_other _ _ _ _ (by show w.heap.size ≠ b9; have := z5'.out; have := hz1b.out; have := hb9'.out; omega)).trans ((hb8'.out.block _ (by have := z5'.out; have := hz1b.out; have := hb9'.out; have := hs5.out; omega)).trans r4.out))
      have G8 := Lib.hid (show (w8.setCell ⟨b9, 5, none⟩ (.slice A8 (ym + 1) c8)).heap[w.heap.size + 1 + 1]? = some (.cells zero6 42 (0, 0)) from (heap_setCell_other _ _ _ _ (by show w.heap.size + 1 + 1 ≠ b9; have := z5'.out; have := hz1b.out; have := hb9'.out; omega)).trans ((hb8'.out.block _ (by have := z5'.out; have := hz1b.out; have := hb9'.out; have := hs5.out; omega)).trans r8.out))
      obtain ⟨W6, hW6⟩ : ∃ W6, W6 = w8.setCell ⟨b9, 5, none⟩ (.slice A8 ((ym + 1)) c8) := ⟨_, rfl⟩
      have G9' := G9.out
      have G4' := G4.out
      have G8' := G8.out
      unfold val6 at G4'
      rw [← hW6] at hputc hb86 G9' G4' G8' hmid
      have hputc' := hputc.out
      unfold val6 at hputc'
      obtain ⟨we1, we2, we3, we4, -⟩ := with_id y (insK at_ x y.kids)
      rw [we1, we2, we3, we4] at hputc'
      clear we1 we2 we3 we4
      have hpc := Lib.hid hputc'
      have G8w := Lib.hid G8'
      have hbW := Lib.hid hb86.out
      first
        | rw [← hW6]
        | (rw [show (Value.slice A8 1 c8) = .slice A8 (0 + 1) c8 from rfl, ← hW6])
      have hW6s' := Lib.hid (show W6.heap.size = w8.heap.size by rw [hW6]; exact hW6s)
      clear hW6s hT6
      have hnW : w.heap.size + 1 + 1 < W6.heap.size := (Array.getElem?_eq_some_iff.1 G8').1
      obtain ⟨p0, p1, p2, p3, p4, p5, pf⟩ := six_cells G9'
      obtain ⟨q0, q1, q2, q3, q4, q5, qf⟩ := six_cells G4'
      have hW6' := Lib.hid hW6
      clear hputc' hputc G9 G4 G8 G9' G4' G8' hb86 hatc hW6 hcat hmid
      go_wp2_with (go_at_call 114; go_loud (refine hpc.out.mono ?_; rintro e w9 ⟨zA, zn, zc, zK, zm, zd, rfl, hz, hbz⟩; have r3 := (hbz.block _ hnW).trans G8w.out; have hr := Lib.hid r3; have hz' := Lib.hid hz; have hbz' := Lib.hid hbz; unfold zero6 at r3; clear p0 p1 p2 p3 p4 p5 pf q0 q1 q2 q3 q4 q5 qf; obtain ⟨q0, q1, q2, q3, q4, q5, qf⟩ := six_cells r3; have hne : w.heap.size + 1 + 1 < w9.heap.size := (Array.getElem?_eq_some_iff.1 r3).1; have hne2 : w9.heap.size ≠ w.heap.size + 1 + 1 := (by omega); have hne3 : w.heap.size + 1 + 1 ≠ w9.heap.size := (by omega); unfold val6; clear hz hbz r3))
      obtain ⟨a, ha⟩ : ∃ a, a = (putV t p (y.withKids (insK at_ x y.kids))).getD Nd.zero := ⟨_, rfl⟩
      rw [← ha] at hz' ⊢
      obtain ⟨W9, hW9, R9, N9, B9⟩ := end_node0 hT'.out (r := w.heap.size + 1 + 1) (b := W3.heap.size) (by omega) (by have := z5'.out; omega) (hbW.out.trans (hbz'.out.mono hbW.out.size)) hr.out (hz'.out.kept (fun k hk => by
        have hs := hbz'.out.size
        rcases hk with hk | hk
        · rcases hk with hk | hk
          · exact .inl hk
          · exact .inr ⟨hk.1, by have h2 := hk.2.1; omega⟩
        · exact .inr ⟨by have h2 := hW6s'.out; have := hb8'.out.size; have := hs5.out; have := hz1b.out; have := hb9'.out; omega, hk.2⟩) (fun _ _ => rfl))
      rw [← hW9]
      unfold val6 at R9
      obtain ⟨d0, d1, d2, d3, d4, d5, df⟩ := six_cells R9
      refine bodyPost_ret (v := .agg (val6 a zA zn zc zK zm zd)) (by simp [results, Try.results109, go_sem, d0, d1, d2, d3, d4, d5, val6]) rfl ?_
      exact ⟨zA, zn, zc, zK, zm, zd, rfl, N9, B9⟩
end Go.Proofs.Ytpoenlhikanooaa.Top
/- takenOut: a tree without one of its nodes. -/
namespace Go.Proofs.Ytpoenlhikanooaa.Top
open Go.RowKit
set_option maxRecDepth 20000
set_option linter.unusedVariables false

theorem takenOut_mid {T : Nat → Prop} {w W3 w1 W5 w8 : World} {b9 n c8 at_ : Nat} {y : Nd} {yA yK A8 : Option Addr} {yn yc ym yd : Nat} {ks : List KV} (hT : ∀ k, T k → k < w.heap.size) (h3 : w.heap.size ≤ W3.heap.size) (h31 : W3.heap.size ≤ w1.heap.size) (hb9 : b9 = w1.heap.size) (s5 : W5.heap.size = b9 + 1)
    (o5 : ∀ k, k < w1.heap.size → W5.heap[k]? = w1.heap[k]?) (hb8 : Below W5.heap.size W5 w8) (hny : NodeV (Nw T W3 w1) w1 yA yn yc yK ym yd y) (hks : ks.map KV.t = y.kids) (hkok : ∀ k ∈ ks, k.ok (Nw T W3 w1) w1)
    (ho8 : w8.ownsRow (W5.heap.size + 1) 42 6 (.slice A8 n c8) n ((ks.take at_ ++ ks.drop (at_ + 1)).flatMap KV.cells)) (hn : n = (ks.take at_ ++ ks.drop (at_ + 1)).length) :
    NodeV (But1 T W3 (w8.setCell ⟨b9, 5, none⟩ (.slice A8 n c8)) b9) (w8.setCell ⟨b9, 5, none⟩ (.slice A8 n c8)) yA yn yc A8 n c8 (y.withKids (delK at_ y.kids)) := by
  have hsz : (w8.setCell ⟨b9, 5, none⟩ (.slice A8 n c8)).heap.size = w8.heap.size := by simp [World.setCell]
  have hs8 := hb8.size
  have hto : ∀ k, Nw T W3 w1 k → But1 T W3 (w8.setCell ⟨b9, 5, none⟩ (.slice A8 n c8)) b9 k := fun k hk => by
    rcases hk with hk | hk
    · exact .inl hk
    · exact .inr ⟨hk.1, by rw [hsz]; omega, by omega⟩
  have hsame : ∀ k, Nw T W3 w1 k → (w8.setCell ⟨b9, 5, none⟩ (.slice A8 n c8)).heap[k]? = w1.heap[k]? := fun k hk => by
    have hk1 : k < w1.heap.size := by
      rcases hk with hk | hk
      · have := hT k hk; omega
      · exact hk.2
    exact (heap_setCell_other _ _ k _ (by show k ≠ b9; omega)).trans ((hb8.block k (by omega)).trans (o5 k hk1))
  have hg : w8.grownBy (w8.setCell ⟨b9, 5, none⟩ (.slice A8 n c8)) (some b9) := ⟨rfl, rfl, rfl, Nat.le_of_eq hsz.symm, fun k hk hne => heap_setCell_other _ _ k _ (fun e => hne (by rw [e]))⟩
  have hown := ho8.kept hg (by
    cases hA : (Value.slice A8 n c8).ownBlock with
    | none => exact .inl rfl
    | some g => exact .inr (fun e => by injection e with e; have := (ho8.lt g hA).1; omega))
  obtain ⟨A, c, e, hnode⟩ := newKids (T := But1 T W3 (w8.setCell ⟨b9, 5, none⟩ (.slice A8 n c8)) b9) (hny.kept hto hsame) (fun k hk => by
    rcases List.mem_append.1 hk with hk | hk
    · exact KV.ok_kept hto hsame (hkok k (List.mem_of_mem_take hk))
    · exact KV.ok_kept hto hsame (hkok k (List.mem_of_mem_drop hk))) hown hn (fun k h1 h2 => .inr ⟨by omega, h2, by omega⟩)
  injection e with e1 e2 e3
  subst e1 e3
  have hmap : (ks.take at_ ++ ks.drop (at_ + 1)).map KV.t = delK at_ y.kids := by
    unfold delK
    rw [← hks, List.map_append, List.map_take, List.map_drop]
  rw [hmap] at hnode
  exact hnode
theorem weighs_del (c : Nat) (l : List Nd) : weighsV (delK c l) ≤ weighsV l := by
  unfold delK
  rw [weighsV_append]
  have h1 := weighsV_append (l.take c) (l.drop c)
  rw [List.take_append_drop] at h1
  have h2 : weighsV (l.drop (c + 1)) ≤ weighsV (l.drop c) := by
    cases hd : l.drop c with
    | nil => rw [show l.drop (c + 1) = (l.drop c).drop 1 by rw [List.drop_drop], hd]; exact Nat.le_refl _
    | cons k r => rw [show l.drop (c + 1) = (l.drop c).drop 1 by rw [List.drop_drop], hd]; show weighsV r ≤ weighsV (k :: r); rw [weighsV]; omega
  omega
set_option maxHeartbeats 8000000 in
theorem takenOut_T (T : Nat → Prop) (w : World) (hT : ∀ k, T k → k < w.heap.size) (t y : Nd) (aA kA : Option Addr) (an ac kn kc : Nat) (h : NodeV T w aA an ac kA kn kc t) (pA : Option Addr) (pn pc : Nat) (q : List Int) (c : Nat) (hp : Its w pA pn (q ++ [(c : Int)])) (hpnil : pA = none → pc = 0) (hpn : pn ≤ 500000) (hpnc : pn ≤ pc) (hpcm : pc ≤ maxLen) (hbig : weighV t ≤ 90000)
    (hy : atV t q = some y) (hc : c < y.kids.length) :
    Calls Try.prog 110 #[.agg (val6 t aA an ac kA kn kc), .slice pA pn pc] w (NodeA T w ((putV t q (y.withKids (delK c y.kids))).getD Nd.zero)) := by
  obtain ⟨W2, hW2⟩ : ∃ W2, W2 = (w.alloc (.cells (val6 t aA an ac kA kn kc) 42)).alloc (.cells zero6 42) := ⟨_, rfl⟩
  have z1' := Lib.hid (show W2.heap[w.heap.size]? = some (.cells (val6 t aA an ac kA kn kc) 42 (0, 0)) by rw [hW2]; exact (Go.heap_alloc_old _ _ (by simp)).trans (heap_alloc_new w _))
  have z2' := Lib.hid (show W2.heap[w.heap.size + 1]? = some (.cells zero6 42 (0, 0)) by rw [hW2]; have h1 := heap_alloc_new (w.alloc (.cells (val6 t aA an ac kA kn kc) 42)) (.cells zero6 42); rw [World.size_alloc] at h1; exact h1)
  have z4' := Lib.hid (show Below w.heap.size w W2 by rw [hW2]; exact ((Below.refl _ _).alloc (Nat.le_refl _) _).alloc (by simp) _)
  have z5' := Lib.hid (show W2.heap.size = w.heap.size + 1 + 1 by rw [hW2]; simp)
  have hpar := Lib.hid (show Calls Try.prog 97 #[.slice pA pn pc] W2 (fun e w' => ∃ qA qn qc, e = .returned (.tuple #[.slice qA qn qc, .int .i64 (c : Int), .bool true]) ∧ Its w' qA qn q ∧ qn ≤ maxLen ∧ Below W2.heap.size W2 w') from by
    refine (P4.parent_any W2 pA pn pc (q ++ [(c : Int)]) (hp.below z4'.out) hpnil hpn hpnc hpcm).mono ?_
    rintro e w' hpr
    rcases hpr with ⟨h0, -⟩ | ⟨v, ys, z, hyz, rfl, hown, hb0⟩
    · exact absurd h0 (by simp)
    · have h1 := congrArg List.reverse hyz
      simp only [List.reverse_append, List.reverse_cons, List.reverse_nil, List.nil_append, List.singleton_append, List.cons.injEq] at h1
      obtain ⟨rfl, h2⟩ := h1
      have h3 : q = ys := List.reverse_inj.1 h2
      subst h3
      obtain ⟨A, n, k, rfl, hn, hnk, hkm, hits, -⟩ := hown.shape
      exact ⟨A, n, k, rfl, hits, Nat.le_trans hnk hkm, hb0⟩)
  rw [hW2] at hpar
  have hT' := Lib.hid hT
  have hy' := Lib.hid hy
  have hyw := (at_count q t y hy).2
  have hyl := weigh_rows y
  have hh := Lib.hid (fun (W : World) (hb : Below w.heap.size w W) => h.kept (w' := W) (T' := T) (fun _ h => h) fun k hk => hb.block k (hT k hk))
  have hbig' := Lib.hid hbig
  clear h hp hT hy
  unfold zero6 val6 at hW2 hpar
  unfold val6
  go_enter Try.func110, Try.ntmps110
  go_wp2_with (first
    | (go_at_call 97; go_loud (refine hpar.out.mono ?_; rw [← hW2]; rintro e w0 ⟨qA, qn, qc, rfl, hits, hqn, hb0⟩; have hits' := Lib.hid hits; have hb0' := Lib.hid hb0; have hbw0 := Lib.hid (z4'.out.trans (hb0.mono z4'.out.size)); have hsz0 : w.heap.size + 1 + 1 ≤ w0.heap.size := (by have := hb0.size; have := z5'.out; omega); have hT0 : ∀ k, T k → k < w0.heap.size := (fun k hk => by have := hT'.out k hk; omega); have hatc := Lib.hid (at_T T w0 hT0 t aA kA an ac kn kc (hh.out w0 hbw0.out) qA qn qc q hits hqn (by have := hbig'.out; omega)); unfold val6 at hatc; have r0 := (hb0.block _ (by have := z5'.out; omega)).trans z1'.out; unfold val6 at r0; obtain ⟨p0, p1, p2, p3, p4, p5, pf⟩ := six_cells r0; clear hits hb0 r0 hT0))
    | (go_at_call 35; go_loud (refine hatc.out.mono ?_; rintro e w1 ⟨yA, yn, yc, yK, ym, yd, rfl, hny, hb⟩; rw [hy'.out] at hny ⊢; have hf := hny.facts; have hykl : y.kids.length = ym := hf.kl; have hyc : ym ≤ yd := hf.knc; have hycm : yd ≤ maxLen := hf.kcm; have hynil := Lib.hid hf.knil; have hyrow := Lib.hid hf.row; have hny' := Lib.hid hny; have hb' := Lib.hid hb; clear hf hny hb p0 p1 p2 p3 p4 p5 pf; unfold val6)))
  rename_i K0 hK0
  obtain ⟨W5, hW5⟩ : ∃ W5, W5 = w1.alloc (.cells #[.int .u64 (y.id : Int), .bool y.leaf, .string ⟨y.label.toArray⟩, .slice yA yn yc, .string ⟨y.text.toArray⟩, .slice yK ym yd] 42) := ⟨_, rfl⟩
  obtain ⟨b9, hb9⟩ : ∃ b9, b9 = w1.heap.size := ⟨_, rfl⟩
  have r9 := Lib.hid (show W5.heap[b9]? = some (.cells #[.int .u64 (y.id : Int), .bool y.leaf, .string ⟨y.label.toArray⟩, .slice yA yn yc, .string ⟨y.text.toArray⟩, .slice yK ym yd] 42 (0, 0)) by rw [hW5, hb9]; exact heap_alloc_new w1 _)
  have o5 : ∀ k, k < w1.heap.size → W5.heap[k]? = w1.heap[k]? := fun k hk => by rw [hW5]; exact Go.heap_alloc_old _ _ hk
  have s5 : W5.heap.size = b9 + 1 := by rw [hW5, hb9]; simp
  have z1b := hb'.out.size
  have r4 := Lib.hid (show W5.heap[w.heap.size]? = some (.cells (val6 t aA an ac kA kn kc) 42 (0, 0)) from (o5 _ (by omega)).trans ((hb'.out.block _ (by omega)).trans ((hb0'.out.block _ (by have := z5'.out; omega)).trans z1'.out)))
  have r8 := Lib.hid (show W5.heap[w.heap.size + 1]? = some (.cells zero6 42 (0, 0)) from (o5 _ (by omega)).trans ((hb'.out.block _ (by omega)).trans ((hb0'.out.block _ (by have := z5'.out; omega)).trans z2'.out)))
  have hb05 := Lib.hid (show Below w0.heap.size w0 W5 by rw [hW5]; exact hb'.out.alloc z1b _)
  have b5 := Lib.hid (show Below w.heap.size w W5 by rw [hW5]; exact (hbw0.out.trans (hb'.out.mono (by omega))).alloc (by omega) _)
  rw [← hW5, ← hb9]
  have hb9' := Lib.hid hb9
  have hyr : yd ≤ maxLen := hycm
  obtain ⟨ks, hk1, hk2, hk3, hk4⟩ := row_prt hykl hyrow.out (fun k hk => by rcases hk with hk | hk; (have := hT'.out k hk; omega); exact hk.2) hynil.out hyc (by have := hbig'.out; omega)
  have hkl := Lib.hid hk4
  have hkt := Lib.hid hk1
  have hkok := Lib.hid hk2
  have hcm2 : c < ym := by omega
  have hcat := Lib.hid (fun (A3 : Option Addr) (n3 c3 : Nat) (h3 : A3 = restA yK yd (c + 1) ∧ n3 = ym - (c + 1) ∧ c3 = yd - (c + 1)) =>
    show Calls Try.prog 146 #[.slice (some ⟨W5.heap.size, 0, none⟩) 2 2] (W5.alloc (.cells #[.slice yK c yd, .slice A3 n3 c3] 40)).drew fun e w' => ∃ v, e = .returned v ∧ w'.ownsRow (W5.heap.size + 1) 42 6 v (ym - 1) ((ks.take c ++ ks.drop (c + 1)).flatMap KV.cells) ∧ Below W5.heap.size W5 w' from by
      obtain ⟨e1, e2, e3⟩ := h3
      subst e1 e2 e3
      obtain ⟨W7, hW7⟩ : ∃ W7, W7 = (W5.alloc (.cells #[.slice yK c yd, .slice (restA yK yd (c + 1)) (ym - (c + 1)) (yd - (c + 1))] 40)).drew := ⟨_, rfl⟩
      rw [← hW7]
      have hb57 : Below W5.heap.size W5 W7 := by
        rw [hW7]
        exact ((Below.refl W5.heap.size W5).alloc (Nat.le_refl _) _).drew
      have hbw : Below w1.heap.size w1 W7 := (show Below w1.heap.size w1 W5 by rw [hW5]; exact (Below.refl _ _).alloc (Nat.le_refl _) _).trans (hb57.mono (by omega))
      have hs7 : W7.heap.size = W5.heap.size + 1 := by rw [hW7]; show (World.alloc _ _).heap.size = _; simp
      have g3 : W7.heap[W5.heap.size]? = some (.cells #[.slice yK c yd, .slice (restA yK yd (c + 1)) (ym - (c + 1)) (yd - (c + 1))] 40 (0, 0)) := by rw [hW7]; exact heap_alloc_new W5 _
      have hk7 := hk3.below hbw
      have hsumE : sumN [Prt.mk yK c yd ((ks.take c).flatMap KV.cells), Prt.mk (restA yK yd (c + 1)) (ym - (c + 1)) (yd - (c + 1)) ((ks.drop (c + 1)).flatMap KV.cells)] = ym - 1 := by simp only [sumN]; omega
      have hcatE : catV [Prt.mk yK c yd ((ks.take c).flatMap KV.cells), Prt.mk (restA yK yd (c + 1)) (ym - (c + 1)) (yd - (c + 1)) ((ks.drop (c + 1)).flatMap KV.cells)] = (ks.take c ++ ks.drop (c + 1)).flatMap KV.cells := by
        simp only [catV, List.flatMap_append, List.append_nil]
      have := concatN W7 W5.heap.size 2 2 [Prt.mk yK c yd ((ks.take c).flatMap KV.cells), Prt.mk (restA yK yd (c + 1)) (ym - (c + 1)) (yd - (c + 1)) ((ks.drop (c + 1)).flatMap KV.cells)] rfl (by decide) (fun i p hp => by
        rw [add_zero_off]
        match i, hp with
        | 0, hp => injection hp with hp; subst hp; exact cell_of_row W7 _ 0 _ _ _ g3
        | 1, hp => injection hp with hp; subst hp; exact cell_of_row W7 _ 1 _ _ _ g3
        | i + 2, hp => simp at hp) (by omega) (fun p hp => by
        simp only [List.mem_cons, List.not_mem_nil, or_false] at hp
        rcases hp with rfl | rfl
        · exact hk7.take hk4 (by omega)
        · exact hk7.drop hk4 (by omega)) (by rw [hsumE]; omega)
      rw [hsumE, hcatE, hs7] at this
      refine this.mono ?_
      rintro e w8 ⟨v8, rfl, ho8, hb8⟩
      exact ⟨v8, rfl, ho8, hb57.trans (hb8.mono (by omega))⟩)
  clear hW5 hb9 hW2 hk1 hk2 hk3 hk4
  obtain ⟨p0, p1, p2, p3, p4, p5, pf⟩ := six_cells r9.out
  have hlt9 : b9 < W5.heap.size := (Array.getElem?_eq_some_iff.1 r9.out).1
  have hne9 : b9 ≠ W5.heap.size := by omega
  have hatm : (c : Int) ≤ (yd : Int) := by omega
  have hatn : (c : Int) ≤ (ym : Int) := by omega
  have hat0 : (0 : Int) ≤ (c : Int) := by omega
  have hat1 : (0 : Int) ≤ (c : Int) + 1 := by omega
  have hat2 : (c : Int) + 1 ≤ (ym : Int) := by omega
  have hat3 : (c : Int) + 1 ≤ (yd : Int) := by omega
  have hat4 : ((c : Int) + 1).toNat = c + 1 := by omega
  have ho5 := Lib.hid o5
  have hs5 := Lib.hid s5
  have hz1b := Lib.hid z1b
  clear o5 s5 z1b
  unfold maxLen at hycm
  have hwrap : IntKind.i64.wrap ((c : Int) + 1) = (c : Int) + 1 := IntWalk.i64_in _ (by omega)
  cases yK with
  | none =>
    exfalso
    have h1 := hynil.out rfl
    omega
  | some ky =>
    by_cases hdc : yd = c + 1
    · subst hdc
      obtain rfl : ym = c + 1 := by omega
      have hatz : (c : Int) ≤ (c : Int) + 1 := by omega
      have hS : Hid (∀ W : World, Below W5.heap.size W5 W → Below W5.heap.size W5 W ∧ W.cell? ⟨b9, 5, none⟩ = some (.slice (some ky) (c + 1) (c + 1))) := fun W hb => ⟨hb, (hb.cell (p := ⟨b9, 5, none⟩) hlt9).trans p5⟩
      clear p0 p1 p2 p3 p4 p5 pf
      refine wp_region_L (fun w' => Below W5.heap.size W5 w' ∧ w'.cell? ⟨b9, 5, none⟩ = some (.slice (some ky) (c + 1) (c + 1))) 12 rfl (hS.out _ (Below.refl W5.heap.size W5).drew) (fun hHeld => ?_)
      refine wpAnyL_take (i := 0) (oi := { dst := some 22, op := Go.Op.fieldAddr 42 (Go.Operand.tmp 8) 5, type := 0, pos := "done.go:66", after := #[], guard := none }) (v := ?_) rfl (by kernel_rfl) (by kernel_rfl) (by kernel_rfl) (by kernel_rfl) (fun _ _ _ h => h) (Or.inl ⟨by rfl, ?_⟩) hHeld ?_
      rotate_left 1
      · intro w hSw; (try dsimp only at hSw); obtain ⟨-, s5⟩ := hSw; go_simp; try with_reducible rfl
      try simp only [Act.put, List.setIfInBounds_toArray, List.set_cons_zero, List.set_cons_succ]
      refine wpAnyL_take (i := 1) (oi := { dst := some 23, op := Go.Op.load 40 (Go.Operand.tmp 22), type := 40, pos := "done.go:66", after := #[{ on := 0, ground := Go.Ground.data }], guard := none }) (v := ?_) rfl (by kernel_rfl) (by kernel_rfl) (by kernel_rfl) (by kernel_rfl) (fun _ _ _ h => h) (Or.inl ⟨by rfl, ?_⟩) hHeld ?_
      rotate_left 1
      · intro w hSw; (try dsimp only at hSw); obtain ⟨-, s5⟩ := hSw; go_simp; try with_reducible rfl
      try simp only [Act.put, List.setIfInBounds_toArray, List.set_cons_zero, List.set_cons_succ]
      refine wpAnyL_take (i := 2) (oi := { dst := some 24, op := Go.Op.move (Go.Operand.tmp 6), type := 3, pos := "done.go:66", after := #[], guard := none }) (v := ?_) rfl (by kernel_rfl) (by kernel_rfl) (by kernel_rfl) (by kernel_rfl) (fun _ _ _ h => h) (Or.inl ⟨by rfl, ?_⟩) hHeld ?_
      rotate_left 1
      · intro w hSw; (try dsimp only at hSw); obtain ⟨-, s5⟩ := hSw; go_simp; try with_reducible rfl
      try simp only [Act.put, List.setIfInBounds_toArray, List.set_cons_zero, List.set_cons_succ]
      refine wpAnyL_take (i := 3) (oi := { dst := some 25, op := Go.Op.slice 40 (Go.Operand.tmp 23) none (some (Go.Operand.tmp 24)) none, type := 40, pos := "done.go:66", after := #[{ on := 1, ground := Go.Ground.data }, { on := 2, ground := Go.Ground.data }], guard := none }) (v := ?_) rfl (by kernel_rfl) (by kernel_rfl) (by kernel_rfl) (by kernel_rfl) (fun _ _ _ h => h) (Or.inl ⟨by rfl, ?_⟩) hHeld ?_
      rotate_left 1
      · intro w hSw; (try dsimp only at hSw); obtain ⟨-, s5⟩ := hSw; go_simp; try with_reducible rfl
      try simp only [Act.put, List.setIfInBounds_toArray, List.set_cons_zero, List.set_cons_succ]
      refine wpAnyL_take (i := 4) (oi := { dst := some 26, op := Go.Op.fieldAddr 42 (Go.Operand.tmp 8) 5, type := 0, pos := "done.go:66", after := #[], guard := none }) (v := ?_) rfl (by kernel_rfl) (by kernel_rfl) (by kernel_rfl) (by kernel_rfl) (fun _ _ _ h => h) (Or.inl ⟨by rfl, ?_⟩) hHeld ?_
      rotate_left 1
      · intro w hSw; (try dsimp only at hSw); obtain ⟨-, s5⟩ := hSw; go_simp; try with_reducible rfl
      try simp only [Act.put, List.setIfInBounds_toArray, List.set_cons_zero, List.set_cons_succ]
      refine wpAnyL_take (i := 5) (oi := { dst := some 27, op := Go.Op.load 40 (Go.Operand.tmp 26), type := 40, pos := "done.go:66", after := #[{ on := 4, ground := Go.Ground.data }], guard := none }) (v := ?_) rfl (by kernel_rfl) (by kernel_rfl) (by kernel_rfl) (by kernel_rfl) (fun _ _ _ h => h) (Or.inl ⟨by rfl, ?_⟩) hHeld ?_
      rotate_left 1
      · intro w hSw; (try dsimp only at hSw); obtain ⟨-, s5⟩ := hSw; go_simp; try with_reducible rfl
      try simp only [Act.put, List.setIfInBounds_toArray, List.set_cons_zero, List.set_cons_succ]
      refine wpAnyL_take (i := 6) (oi := { dst := some 28, op := Go.Op.move (Go.Operand.tmp 6), type := 3, pos := "done.go:66", after := #[], guard := none }) (v := ?_) rfl (by kernel_rfl) (by kernel_rfl) (by kernel_rfl) (by kernel_rfl) (fun _ _ _ h => h) (Or.inl ⟨by rfl, ?_⟩) hHeld ?_
      rotate_left 1
      · intro w hSw; (try dsimp only at hSw); obtain ⟨-, s5⟩ := hSw; go_simp; try with_reducible rfl
      try simp only [Act.put, List.setIfInBounds_toArray, List.set_cons_zero, List.set_cons_succ]
      refine wpAnyL_take (i := 7) (oi := { dst := some 29, op := Go.Op.binOp Go.BinOp.add 3 (Go.Operand.tmp 28) (Go.Operand.const (Go.Value.int Go.IntKind.i64 1)) 3, type := 3, pos := "done.go:66", after := #[{ on := 6, ground := Go.Ground.data }], guard := none }) (v := ?_) rfl (by kernel_rfl) (by kernel_rfl) (by kernel_rfl) (by kernel_rfl) (fun _ _ _ h => h) (Or.inl ⟨by rfl, ?_⟩) hHeld ?_
      rotate_left 1
      · intro w hSw; (try dsimp only at hSw); obtain ⟨-, s5⟩ := hSw; go_simp; try with_reducible rfl
      try simp only [Act.put, List.setIfInBounds_toArray, List.set_cons_zero, List.set_cons_succ]
      refine wpAnyL_take (i := 8) (oi := { dst := some 30, op := Go.Op.slice 40 (Go.Operand.tmp 27) (some (Go.Operand.tmp 29)) none none, type := 40, pos := "done.go:66", after := #[{ on := 5, ground := Go.Ground.data }, { on := 7, ground := Go.Ground.data }], guard := none }) (v := ?_) rfl (by kernel_rfl) (by kernel_rfl) (by kernel_rfl) (by kernel_rfl) (fun _ _ _ h => h) (Or.inl ⟨by rfl, ?_⟩) hHeld ?_
      rotate_left 1
      · intro w hSw; (try dsimp only at hSw); obtain ⟨-, s5⟩ := hSw; go_simp; try with_reducible rfl
      try simp only [Act.put, List.setIfInBounds_toArray, List.set_cons_zero, List.set_cons_succ]
      refine wpAnyL_one (i := 9) (o := { dst := some 31, op := Go.Op.buildSlice 127 2 #[(0, Go.Operand.tmp 25), (1, Go.Operand.tmp 30)], type := 127, pos := "done.go:66", after := #[{ on := 3, ground := Go.Ground.data }, { on := 8, ground := Go.Ground.data }], guard := none }) (by kernel_rfl) rfl (by decide) (fun K hK => ?_)
      go_simp
      refine hK.out _ _ ?_ (fun hNew => ?_)
      · exact hS.out _ (hHeld.1.alloc hHeld.1.size _)
      clear hK K hHeld
      have hHeld := hNew
      clear hNew
      try simp only [Act.put, List.setIfInBounds_toArray, List.set_cons_zero, List.set_cons_succ]
      refine wpAnyL_one (i := 10) (o := { dst := some 32, op := Go.Op.call { callee := Go.Callee.value (Go.Operand.func 146), args := #[Go.Operand.tmp 31], argTypes := #[127] }, type := 40, pos := "done.go:66", after := #[{ on := 9, ground := Go.Ground.data }], guard := none }) (by kernel_rfl) rfl (by decide) (fun K hK => ?_)
      go_simp
      refine (hcat.out _ _ _ ⟨by rw [restA_same], by omega, by omega⟩).mono ?_
      rintro e w8 ⟨v8, rfl, ho8, hb8⟩
      obtain ⟨A8, c8, rfl, -⟩ := own_form ho8
      have hb8' := Lib.hid hb8
      have ho8' := Lib.hid ho8
      go_simp
      refine hK.out _ _ ?_ (fun hNew => ?_)
      · exact hS.out _ hb8
      clear hK K hHeld ho8 hb8
      have hHeld := hNew
      clear hNew
      try simp only [Act.put, List.setIfInBounds_toArray, List.set_cons_zero, List.set_cons_succ]
      refine wpAnyL_take (i := 11) (oi := { dst := some 33, op := Go.Op.fieldAddr 42 (Go.Operand.tmp 8) 5, type := 0, pos := "done.go:66", after := #[{ on := 0, ground := Go.Ground.phase }, { on := 1, ground := Go.Ground.phase }, { on := 2, ground := Go.Ground.phase }, { on := 3, ground := Go.Ground.phase }, { on := 4, ground := Go.Ground.phase }, { on := 5, ground := Go.Ground.phase }, { on := 6, ground := Go.Ground.phase }, { on := 7, ground := Go.Ground.phase }, { on := 8, ground := Go.Ground.phase }, { on := 9, ground := Go.Ground.phase }, { on := 10, ground := Go.Ground.phase }], guard := none }) (v := ?_) rfl (by kernel_rfl) (by kernel_rfl) (by kernel_rfl) (by kernel_rfl) (fun _ _ _ h => h) (Or.inl ⟨by rfl, ?_⟩) hHeld ?_
      rotate_left 1
      · intro w hSw; go_simp; try with_reducible rfl
      try simp only [Act.put, List.setIfInBounds_toArray, List.set_cons_zero, List.set_cons_succ]
      have g9 := Lib.hid ((hb8'.out.block b9 hlt9).trans r9.out)
      clear hHeld hS
      obtain ⟨p0, p1, p2, p3, p4, p5, pf⟩ := six_cells g9.out
      refine wpAnyL_last (o := { dst := none, op := Go.Op.store 40 (Go.Operand.tmp 33) (Go.Operand.tmp 32), type := 0, pos := "done.go:66", after := #[{ on := 11, ground := Go.Ground.data }, { on := 10, ground := Go.Ground.data }, { on := 10, ground := Go.Ground.chain }, { on := 0, ground := Go.Ground.phase }, { on := 1, ground := Go.Ground.phase }, { on := 2, ground := Go.Ground.phase }, { on := 3, ground := Go.Ground.phase }, { on := 4, ground := Go.Ground.phase }, { on := 5, ground := Go.Ground.phase }, { on := 6, ground := Go.Ground.phase }, { on := 7, ground := Go.Ground.phase }, { on := 8, ground := Go.Ground.phase }, { on := 9, ground := Go.Ground.phase }, { on := 10, ground := Go.Ground.phase }], guard := none }) (by kernel_rfl) rfl (fun K hK => ?_)
      go_simp
      refine hK _ _ ?_
      clear hK K
      try simp only [Act.put, List.setIfInBounds_toArray, List.set_cons_zero, List.set_cons_succ]
      refine wpAny_done (by kernel_rfl) ?_ _
      refine hK0 _ _ ?_
      have hmid := Lib.hid (takenOut_mid (W3 := w0) (b9 := b9) (n := c) (c8 := c8) (at_ := c) hT'.out (by omega) hz1b.out hb9'.out hs5.out ho5.out hb8'.out hny'.out hkt.out hkok.out (by have h1 := ho8'.out; exact h1) (by rw [List.length_append, List.length_take, List.length_drop, hkl.out]; omega))
      have hb86 := Lib.hid ((b5.out.trans (hb8'.out.mono b5.out.size)).setCell (p := ⟨b9, 5, none⟩) (by show w.heap.size ≤ b9; have := hz1b.out; have := hb9'.out; omega) (.slice A8 (c) c8))
      have hW6s : (w8.setCell ⟨b9, 5, none⟩ (.slice A8 (c) c8)).heap.size = w8.heap.size := by simp [World.setCell]
      have hT6 : ∀ k, But1 T w0 (w8.setCell ⟨b9, 5, none⟩ (.slice A8 (c) c8)) b9 k → k < (w8.setCell ⟨b9, 5, none⟩ (.slice A8 (c) c8)).heap.size := fun k hk => by
        rcases hk with hk | hk
        · have := hT'.out k hk; have := hb86.out.size; omega
        · exact hk.2.1
      have hs80 : w0.heap.size ≤ w8.heap.size := by have := hb8'.out.size; have := hs5.out; have := hz1b.out; have := hb9'.out; omega
      have hb06 : Below w0.heap.size w0 (w8.setCell ⟨b9, 5, none⟩ (.slice A8 (c) c8)) := (hb05.out.trans (hb8'.out.mono (by have := hs5.out; have := hz1b.out; have := hb9'.out; omega))).setCell (p := ⟨b9, 5, none⟩) (by show w0.heap.size ≤ b9; have := hz1b.out; have := hb9'.out; omega) (.slice A8 (c) c8)
      have hputc := Lib.hid (tput_T _ _ hT6 t (y.withKids (delK c y.kids)) aA kA yA A8 an ac kn kc yn yc (c) c8 (NodeV.kept (fun k hk => .inl hk) (fun _ _ => rfl) _ _ _ _ _ _ _ (hh.out _ hb86.out)) hmid.out qA qn qc q (hits'.out.below hb06) hqn (by have := hbig'.out; omega) (by have h1 := weighV_with y (delK c y.kids); have h2 := weighs_del c y.kids; have h3 := hbig'.out; omega))
      have G9 := Lib.hid (show (w8.setCell ⟨b9, 5, none⟩ (.slice A8 (c) c8)).heap[b9]? = some (.cells #[.int .u64 (y.id : Int), .bool y.leaf, .string ⟨y.label.toArray⟩, .slice yA yn yc, .string ⟨y.text.toArray⟩, .slice A8 (c) c8] 42 (0, 0)) from heap_setCell_same w8 b9 5 _ _ _ g9.out)
      have G4 := Lib.hid (show (w8.setCell ⟨b9, 5, none⟩ (.slice A8 (c) c8)).heap[w.heap.size]? = some (.cells (val6 t aA an ac kA kn kc) 42 (0, 0)) from (heap_setCell_other _ _ _ _ (by show w.heap.size ≠ b9; have := hz1b.out; have := hb9'.out; omega)).trans ((hb8'.out.block _ (by have := hz1b.out; have := hb9'.out; have := hs5.out; omega)).trans r4.out))
      have G8 := Lib.hid (show (w8.setCell ⟨b9, 5, none⟩ (.slice A8 (c) c8)).heap[w.heap.size + 1]? = some (.cells zero6 42 (0, 0)) from (heap_setCell_other _ _ _ _ (by show w.heap.size + 1 ≠ b9; have := hz1b.out; have := hb9'.out; omega)).trans ((hb8'.out.block _ (by have := hz1b.out; have := hb9'.out; have := hs5.out; omega)).trans r8.out))
      obtain ⟨W6, hW6⟩ : ∃ W6, W6 = w8.setCell ⟨b9, 5, none⟩ (.slice A8 (c) c8) := ⟨_, rfl⟩
      have G9' := G9.out
      have G4' := G4.out
      have G8' := G8.out
      unfold val6 at G4'
      rw [← hW6] at hputc hb86 G9' G4' G8'
      have hputc' := hputc.out
      unfold val6 at hputc'
      obtain ⟨we1, we2, we3, we4, -⟩ := with_id y (delK c y.kids)
      rw [we1, we2, we3, we4] at hputc'
      clear we1 we2 we3 we4
      have hpc := Lib.hid hputc'
      have G8w := Lib.hid G8'
      have hbW := Lib.hid hb86.out
      rw [← hW6]
      have hW6' := Lib.hid hW6
      have hW6s' := Lib.hid (show W6.heap.size = w8.heap.size by rw [hW6]; exact hW6s)
      clear hputc' hputc G9 G4 G8 hb86 hatc hcat hmid hb06 hT6 hW6s hW6
      have hnW : w.heap.size + 1 < W6.heap.size := (Array.getElem?_eq_some_iff.1 G8').1
      obtain ⟨p0, p1, p2, p3, p4, p5, pf⟩ := six_cells G9'
      obtain ⟨q0, q1, q2, q3, q4, q5, qf⟩ := six_cells G4'
      clear G9' G4' G8'
      go_wp2_with (go_at_call 114; go_loud (refine hpc.out.mono ?_; rintro e w9 ⟨zA, zn, zc, zK, zm, zd, rfl, hz, hbz⟩; have r3 := (hbz.block _ hnW).trans G8w.out; have hr := Lib.hid r3; have hz' := Lib.hid hz; have hbz' := Lib.hid hbz; unfold zero6 at r3; clear p0 p1 p2 p3 p4 p5 pf q0 q1 q2 q3 q4 q5 qf; obtain ⟨q0, q1, q2, q3, q4, q5, qf⟩ := six_cells r3; have hne : w.heap.size + 1 < w9.heap.size := (Array.getElem?_eq_some_iff.1 r3).1; have hne2 : w9.heap.size ≠ w.heap.size + 1 := (by omega); have hne3 : w.heap.size + 1 ≠ w9.heap.size := (by omega); unfold val6; clear hz hbz r3))
      obtain ⟨a, ha⟩ : ∃ a, a = (putV t q (y.withKids (delK c y.kids))).getD Nd.zero := ⟨_, rfl⟩
      rw [← ha] at hz' ⊢
      obtain ⟨W9, hW9, R9, N9, B9⟩ := end_node0 hT'.out (r := w.heap.size + 1) (b := w0.heap.size) (by omega) (by omega) (hbW.out.trans (hbz'.out.mono hbW.out.size)) hr.out (hz'.out.kept (fun k hk => by
        have hs := hbz'.out.size
        rcases hk with hk | hk
        · rcases hk with hk | hk
          · exact .inl hk
          · exact .inr ⟨hk.1, by have h2 := hk.2.1; omega⟩
        · exact .inr ⟨by have h2 := hW6s'.out; omega, hk.2⟩) (fun _ _ => rfl))
      rw [← hW9]
      unfold val6 at R9
      obtain ⟨d0, d1, d2, d3, d4, d5, df⟩ := six_cells R9
      refine bodyPost_ret (v := .agg (val6 a zA zn zc zK zm zd)) (by simp [results, Try.results110, go_sem, d0, d1, d2, d3, d4, d5, val6]) rfl ?_
      exact ⟨zA, zn, zc, zK, zm, zd, rfl, N9, B9⟩
    · have hdc' : (yd = c + 1) = False := by simp [hdc]
      have hS : Hid (∀ W : World, Below W5.heap.size W5 W → Below W5.heap.size W5 W ∧ W.cell? ⟨b9, 5, none⟩ = some (.slice (some ky) ym yd)) := fun W hb => ⟨hb, (hb.cell (p := ⟨b9, 5, none⟩) hlt9).trans p5⟩
      clear p0 p1 p2 p3 p4 p5 pf
      refine wp_region_L (fun w' => Below W5.heap.size W5 w' ∧ w'.cell? ⟨b9, 5, none⟩ = some (.slice (some ky) ym yd)) 12 rfl (hS.out _ (Below.refl W5.heap.size W5).drew) (fun hHeld => ?_)
      refine wpAnyL_take (i := 0) (oi := { dst := some 22, op := Go.Op.fieldAddr 42 (Go.Operand.tmp 8) 5, type := 0, pos := "done.go:66", after := #[], guard := none }) (v := ?_) rfl (by kernel_rfl) (by kernel_rfl) (by kernel_rfl) (by kernel_rfl) (fun _ _ _ h => h) (Or.inl ⟨by rfl, ?_⟩) hHeld ?_
      rotate_left 1
      · intro w hSw; (try dsimp only at hSw); obtain ⟨-, s5⟩ := hSw; go_simp; try with_reducible rfl
      try simp only [Act.put, List.setIfInBounds_toArray, List.set_cons_zero, List.set_cons_succ]
      refine wpAnyL_take (i := 1) (oi := { dst := some 23, op := Go.Op.load 40 (Go.Operand.tmp 22), type := 40, pos := "done.go:66", after := #[{ on := 0, ground := Go.Ground.data }], guard := none }) (v := ?_) rfl (by kernel_rfl) (by kernel_rfl) (by kernel_rfl) (by kernel_rfl) (fun _ _ _ h => h) (Or.inl ⟨by rfl, ?_⟩) hHeld ?_
      rotate_left 1
      · intro w hSw; (try dsimp only at hSw); obtain ⟨-, s5⟩ := hSw; go_simp; try with_reducible rfl
      try simp only [Act.put, List.setIfInBounds_toArray, List.set_cons_zero, List.set_cons_succ]
      refine wpAnyL_take (i := 2) (oi := { dst := some 24, op := Go.Op.move (Go.Operand.tmp 6), type := 3, pos := "done.go:66", after := #[], guard := none }) (v := ?_) rfl (by kernel_rfl) (by kernel_rfl) (by kernel_rfl) (by kernel_rfl) (fun _ _ _ h => h) (Or.inl ⟨by rfl, ?_⟩) hHeld ?_
      rotate_left 1
      · intro w hSw; (try dsimp only at hSw); obtain ⟨-, s5⟩ := hSw; go_simp; try with_reducible rfl
      try simp only [Act.put, List.setIfInBounds_toArray, List.set_cons_zero, List.set_cons_succ]
      refine wpAnyL_take (i := 3) (oi := { dst := some 25, op := Go.Op.slice 40 (Go.Operand.tmp 23) none (some (Go.Operand.tmp 24)) none, type := 40, pos := "done.go:66", after := #[{ on := 1, ground := Go.Ground.data }, { on := 2, ground := Go.Ground.data }], guard := none }) (v := ?_) rfl (by kernel_rfl) (by kernel_rfl) (by kernel_rfl) (by kernel_rfl) (fun _ _ _ h => h) (Or.inl ⟨by rfl, ?_⟩) hHeld ?_
      rotate_left 1
      · intro w hSw; (try dsimp only at hSw); obtain ⟨-, s5⟩ := hSw; go_simp; try with_reducible rfl
      try simp only [Act.put, List.setIfInBounds_toArray, List.set_cons_zero, List.set_cons_succ]
      refine wpAnyL_take (i := 4) (oi := { dst := some 26, op := Go.Op.fieldAddr 42 (Go.Operand.tmp 8) 5, type := 0, pos := "done.go:66", after := #[], guard := none }) (v := ?_) rfl (by kernel_rfl) (by kernel_rfl) (by kernel_rfl) (by kernel_rfl) (fun _ _ _ h => h) (Or.inl ⟨by rfl, ?_⟩) hHeld ?_
      rotate_left 1
      · intro w hSw; (try dsimp only at hSw); obtain ⟨-, s5⟩ := hSw; go_simp; try with_reducible rfl
      try simp only [Act.put, List.setIfInBounds_toArray, List.set_cons_zero, List.set_cons_succ]
      refine wpAnyL_take (i := 5) (oi := { dst := some 27, op := Go.Op.load 40 (Go.Operand.tmp 26), type := 40, pos := "done.go:66", after := #[{ on := 4, ground := Go.Ground.data }], guard := none }) (v := ?_) rfl (by kernel_rfl) (by kernel_rfl) (by kernel_rfl) (by kernel_rfl) (fun _ _ _ h => h) (Or.inl ⟨by rfl, ?_⟩) hHeld ?_
      rotate_left 1
      · intro w hSw; (try dsimp only at hSw); obtain ⟨-, s5⟩ := hSw; go_simp; try with_reducible rfl
      try simp only [Act.put, List.setIfInBounds_toArray, List.set_cons_zero, List.set_cons_succ]
      refine wpAnyL_take (i := 6) (oi := { dst := some 28, op := Go.Op.move (Go.Operand.tmp 6), type := 3, pos := "done.go:66", after := #[], guard := none }) (v := ?_) rfl (by kernel_rfl) (by kernel_rfl) (by kernel_rfl) (by kernel_rfl) (fun _ _ _ h => h) (Or.inl ⟨by rfl, ?_⟩) hHeld ?_
      rotate_left 1
      · intro w hSw; (try dsimp only at hSw); obtain ⟨-, s5⟩ := hSw; go_simp; try with_reducible rfl
      try simp only [Act.put, List.setIfInBounds_toArray, List.set_cons_zero, List.set_cons_succ]
      refine wpAnyL_take (i := 7) (oi := { dst := some 29, op := Go.Op.binOp Go.BinOp.add 3 (Go.Operand.tmp 28) (Go.Operand.const (Go.Value.int Go.IntKind.i64 1)) 3, type := 3, pos := "done.go:66", after := #[{ on := 6, ground := Go.Ground.data }], guard := none }) (v := ?_) rfl (by kernel_rfl) (by kernel_rfl) (by kernel_rfl) (by kernel_rfl) (fun _ _ _ h => h) (Or.inl ⟨by rfl, ?_⟩) hHeld ?_
      rotate_left 1
      · intro w hSw; (try dsimp only at hSw); obtain ⟨-, s5⟩ := hSw; go_simp; try with_reducible rfl
      try simp only [Act.put, List.setIfInBounds_toArray, List.set_cons_zero, List.set_cons_succ]
      refine wpAnyL_take (i := 8) (oi := { dst := some 30, op := Go.Op.slice 40 (Go.Operand.tmp 27) (some (Go.Operand.tmp 29)) none none, type := 40, pos := "done.go:66", after := #[{ on := 5, ground := Go.Ground.data }, { on := 7, ground := Go.Ground.data }], guard := none }) (v := ?_) rfl (by kernel_rfl) (by kernel_rfl) (by kernel_rfl) (by kernel_rfl) (fun _ _ _ h => h) (Or.inl ⟨by rfl, ?_⟩) hHeld ?_
      rotate_left 1
      · intro w hSw; (try dsimp only at hSw); obtain ⟨-, s5⟩ := hSw; go_simp; try with_reducible rfl
      try simp only [Act.put, List.setIfInBounds_toArray, List.set_cons_zero, List.set_cons_succ]
      refine wpAnyL_one (i := 9) (o := { dst := some 31, op := Go.Op.buildSlice 127 2 #[(0, Go.Operand.tmp 25), (1, Go.Operand.tmp 30)], type := 127, pos := "done.go:66", after := #[{ on := 3, ground := Go.Ground.data }, { on := 8, ground := Go.Ground.data }], guard := none }) (by kernel_rfl) rfl (by decide) (fun K hK => ?_)
      go_simp
      refine hK.out _ _ ?_ (fun hNew => ?_)
      · exact hS.out _ (hHeld.1.alloc hHeld.1.size _)
      clear hK K hHeld
      have hHeld := hNew
      clear hNew
      try simp only [Act.put, List.setIfInBounds_toArray, List.set_cons_zero, List.set_cons_succ]
      refine wpAnyL_one (i := 10) (o := { dst := some 32, op := Go.Op.call { callee := Go.Callee.value (Go.Operand.func 146), args := #[Go.Operand.tmp 31], argTypes := #[127] }, type := 40, pos := "done.go:66", after := #[{ on := 9, ground := Go.Ground.data }], guard := none }) (by kernel_rfl) rfl (by decide) (fun K hK => ?_)
      go_simp
      refine (hcat.out _ _ _ ⟨by rw [restA_ne hdc], by omega, by omega⟩).mono ?_
      rintro e w8 ⟨v8, rfl, ho8, hb8⟩
      obtain ⟨A8, c8, rfl, -⟩ := own_form ho8
      have hb8' := Lib.hid hb8
      have ho8' := Lib.hid ho8
      go_simp
      refine hK.out _ _ ?_ (fun hNew => ?_)
      · exact hS.out _ hb8
      clear hK K hHeld ho8 hb8
      have hHeld := hNew
      clear hNew
      try simp only [Act.put, List.setIfInBounds_toArray, List.set_cons_zero, List.set_cons_succ]
      refine wpAnyL_take (i := 11) (oi := { dst := some 33, op := Go.Op.fieldAddr 42 (Go.Operand.tmp 8) 5, type := 0, pos := "done.go:66", after := #[{ on := 0, ground := Go.Ground.phase }, { on := 1, ground := Go.Ground.phase }, { on := 2, ground := Go.Ground.phase }, { on := 3, ground := Go.Ground.phase }, { on := 4, ground := Go.Ground.phase }, { on := 5, ground := Go.Ground.phase }, { on := 6, ground := Go.Ground.phase }, { on := 7, ground := Go.Ground.phase }, { on := 8, ground := Go.Ground.phase }, { on := 9, ground := Go.Ground.phase }, { on := 10, ground := Go.Ground.phase }], guard := none }) (v := ?_) rfl (by kernel_rfl) (by kernel_rfl) (by kernel_rfl) (by kernel_rfl) (fun _ _ _ h => h) (Or.inl ⟨by rfl, ?_⟩) hHeld ?_
      rotate_left 1
      · intro w hSw; go_simp; try with_reducible rfl
      try simp only [Act.put, List.setIfInBounds_toArray, List.set_cons_zero, List.set_cons_succ]
      have g9 := Lib.hid ((hb8'.out.block b9 hlt9).trans r9.out)
      clear hHeld hS
      obtain ⟨p0, p1, p2, p3, p4, p5, pf⟩ := six_cells g9.out
      refine wpAnyL_last (o := { dst := none, op := Go.Op.store 40 (Go.Operand.tmp 33) (Go.Operand.tmp 32), type := 0, pos := "done.go:66", after := #[{ on := 11, ground := Go.Ground.data }, { on := 10, ground := Go.Ground.data }, { on := 10, ground := Go.Ground.chain }, { on := 0, ground := Go.Ground.phase }, { on := 1, ground := Go.Ground.phase }, { on := 2, ground := Go.Ground.phase }, { on := 3, ground := Go.Ground.phase }, { on := 4, ground := Go.Ground.phase }, { on := 5, ground := Go.Ground.phase }, { on := 6, ground := Go.Ground.phase }, { on := 7, ground := Go.Ground.phase }, { on := 8, ground := Go.Ground.phase }, { on := 9, ground := Go.Ground.phase }, { on := 10, ground := Go.Ground.phase }], guard := none }) (by kernel_rfl) rfl (fun K hK => ?_)
      go_simp
      refine hK _ _ ?_
      clear hK K
      try simp only [Act.put, List.setIfInBounds_toArray, List.set_cons_zero, List.set_cons_succ]
      refine wpAny_done (by kernel_rfl) ?_ _
      refine hK0 _ _ ?_
      have hmid := Lib.hid (takenOut_mid (W3 := w0) (b9 := b9) (n := ym - 1) (c8 := c8) (at_ := c) hT'.out (by omega) hz1b.out hb9'.out hs5.out ho5.out hb8'.out hny'.out hkt.out hkok.out (by have h1 := ho8'.out; exact h1) (by rw [List.length_append, List.length_take, List.length_drop, hkl.out]; omega))
      have hb86 := Lib.hid ((b5.out.trans (hb8'.out.mono b5.out.size)).setCell (p := ⟨b9, 5, none⟩) (by show w.heap.size ≤ b9; have := hz1b.out; have := hb9'.out; omega) (.slice A8 (ym - 1) c8))
      have hW6s : (w8.setCell ⟨b9, 5, none⟩ (.slice A8 (ym - 1) c8)).heap.size = w8.heap.size := by simp [World.setCell]
      have hT6 : ∀ k, But1 T w0 (w8.setCell ⟨b9, 5, none⟩ (.slice A8 (ym - 1) c8)) b9 k → k < (w8.setCell ⟨b9, 5, none⟩ (.slice A8 (ym - 1) c8)).heap.size := fun k hk => by
        rcases hk with hk | hk
        · have := hT'.out k hk; have := hb86.out.size; omega
        · exact hk.2.1
      have hs80 : w0.heap.size ≤ w8.heap.size := by have := hb8'.out.size; have := hs5.out; have := hz1b.out; have := hb9'.out; omega
      have hb06 : Below w0.heap.size w0 (w8.setCell ⟨b9, 5, none⟩ (.slice A8 (ym - 1) c8)) := (hb05.out.trans (hb8'.out.mono (by have := hs5.out; have := hz1b.out; have := hb9'.out; omega))).setCell (p := ⟨b9, 5, none⟩) (by show w0.heap.size ≤ b9; have := hz1b.out; have := hb9'.out; omega) (.slice A8 (ym - 1) c8)
      have hputc := Lib.hid (tput_T _ _ hT6 t (y.withKids (delK c y.kids)) aA kA yA A8 an ac kn kc yn yc (ym - 1) c8 (NodeV.kept (fun k hk => .inl hk) (fun _ _ => rfl) _ _ _ _ _ _ _ (hh.out _ hb86.out)) hmid.out qA qn qc q (hits'.out.below hb06) hqn (by have := hbig'.out; omega) (by have h1 := weighV_with y (delK c y.kids); have h2 := weighs_del c y.kids; have h3 := hbig'.out; omega))
      have G9 := Lib.hid (show (w8.setCell ⟨b9, 5, none⟩ (.slice A8 (ym - 1) c8)).heap[b9]? = some (.cells #[.int .u64 (y.id : Int), .bool y.leaf, .string ⟨y.label.toArray⟩, .slice yA yn yc, .string ⟨y.text.toArray⟩, .slice A8 (ym - 1) c8] 42 (0, 0)) from heap_setCell_same w8 b9 5 _ _ _ g9.out)
      have G4 := Lib.hid (show (w8.setCell ⟨b9, 5, none⟩ (.slice A8 (ym - 1) c8)).heap[w.heap.size]? = some (.cells (val6 t aA an ac kA kn kc) 42 (0, 0)) from (heap_setCell_other _ _ _ _ (by show w.heap.size ≠ b9; have := hz1b.out; have := hb9'.out; omega)).trans ((hb8'.out.block _ (by have := hz1b.out; have := hb9'.out; have := hs5.out; omega)).trans r4.out))
      have G8 := Lib.hid (show (w8.setCell ⟨b9, 5, none⟩ (.slice A8 (ym - 1) c8)).heap[w.heap.size + 1]? = some (.cells zero6 42 (0, 0)) from (heap_setCell_other _ _ _ _ (by show w.heap.size + 1 ≠ b9; have := hz1b.out; have := hb9'.out; omega)).trans ((hb8'.out.block _ (by have := hz1b.out; have := hb9'.out; have := hs5.out; omega)).trans r8.out))
      obtain ⟨W6, hW6⟩ : ∃ W6, W6 = w8.setCell ⟨b9, 5, none⟩ (.slice A8 (ym - 1) c8) := ⟨_, rfl⟩
      have G9' := G9.out
      have G4' := G4.out
      have G8' := G8.out
      unfold val6 at G4'
      rw [← hW6] at hputc hb86 G9' G4' G8'
      have hputc' := hputc.out
      unfold val6 at hputc'
      obtain ⟨we1, we2, we3, we4, -⟩ := with_id y (delK c y.kids)
      rw [we1, we2, we3, we4] at hputc'
      clear we1 we2 we3 we4
      have hpc := Lib.hid hputc'
      have G8w := Lib.hid G8'
      have hbW := Lib.hid hb86.out
      rw [← hW6]
      have hW6' := Lib.hid hW6
      have hW6s' := Lib.hid (show W6.heap.size = w8.heap.size by rw [hW6]; exact hW6s)
      clear hputc' hputc G9 G4 G8 hb86 hatc hcat hmid hb06 hT6 hW6s hW6
      have hnW : w.heap.size + 1 < W6.heap.size := (Array.getElem?_eq_some_iff.1 G8').1
      obtain ⟨p0, p1, p2, p3, p4, p5, pf⟩ := six_cells G9'
      obtain ⟨q0, q1, q2, q3, q4, q5, qf⟩ := six_cells G4'
      clear G9' G4' G8'
      go_wp2_with (go_at_call 114; go_loud (refine hpc.out.mono ?_; rintro e w9 ⟨zA, zn, zc, zK, zm, zd, rfl, hz, hbz⟩; have r3 := (hbz.block _ hnW).trans G8w.out; have hr := Lib.hid r3; have hz' := Lib.hid hz; have hbz' := Lib.hid hbz; unfold zero6 at r3; clear p0 p1 p2 p3 p4 p5 pf q0 q1 q2 q3 q4 q5 qf; obtain ⟨q0, q1, q2, q3, q4, q5, qf⟩ := six_cells r3; have hne : w.heap.size + 1 < w9.heap.size := (Array.getElem?_eq_some_iff.1 r3).1; have hne2 : w9.heap.size ≠ w.heap.size + 1 := (by omega); have hne3 : w.heap.size + 1 ≠ w9.heap.size := (by omega); unfold val6; clear hz hbz r3))
      obtain ⟨a, ha⟩ : ∃ a, a = (putV t q (y.withKids (delK c y.kids))).getD Nd.zero := ⟨_, rfl⟩
      rw [← ha] at hz' ⊢
      obtain ⟨W9, hW9, R9, N9, B9⟩ := end_node0 hT'.out (r := w.heap.size + 1) (b := w0.heap.size) (by omega) (by omega) (hbW.out.trans (hbz'.out.mono hbW.out.size)) hr.out (hz'.out.kept (fun k hk => by
        have hs := hbz'.out.size
        rcases hk with hk | hk
        · rcases hk with hk | hk
          · exact .inl hk
          · exact .inr ⟨hk.1, by have h2 := hk.2.1; omega⟩
        · exact .inr ⟨by have h2 := hW6s'.out; omega, hk.2⟩) (fun _ _ => rfl))
      rw [← hW9]
      unfold val6 at R9
      obtain ⟨d0, d1, d2, d3, d4, d5, df⟩ := six_cells R9
      refine bodyPost_ret (v := .agg (val6 a zA zn zc zK zm zd)) (by simp [results, Try.results110, go_sem, d0, d1, d2, d3, d4, d5, val6]) rfl ?_
      exact ⟨zA, zn, zc, zK, zm, zd, rfl, N9, B9⟩
end Go.Proofs.Ytpoenlhikanooaa.Top
/- done: a Delete, an Insert. -/
namespace Go.Proofs.Ytpoenlhikanooaa.Top
open Go.RowKit
set_option maxRecDepth 20000
set_option linter.unusedVariables false

set_option maxHeartbeats 4000000 in
theorem done_delete (T : Nat → Prop) (w : World) (hT : ∀ k, T k → k < w.heap.size) (t y : Nd) (aA kA : Option Addr) (an ac kn kc : Nat) (h : NodeV T w aA an ac kA kn kc t) (o : Ov) (s : OS) (ho : OpIn w o s) (hk : o.kind = 2) (hpn : s.pn ≤ 500000) (hpnil : s.pA = none → s.pc = 0) (q : List Int) (c : Nat) (hq : o.path = q ++ [(c : Int)]) (hbig : weighV t ≤ 90000)
    (hy : atV t q = some y) (hc : c < y.kids.length) :
    Calls Try.prog 74 #[.agg (val6 t aA an ac kA kn kc), .agg (opCells o s)] w (NodeA T w ((putV t q (y.withKids (delK c y.kids))).getD Nd.zero)) := by
  obtain ⟨z1, z2, z3, z4, z5⟩ := three_new w (.cells (val6 t aA an ac kA kn kc) 42) (.cells (opCells o s) 26) (.cells zero6 42)
  obtain ⟨W3, hW3⟩ : ∃ W3, W3 = ((w.alloc (.cells (val6 t aA an ac kA kn kc) 42)).alloc (.cells (opCells o s) 26)).alloc (.cells zero6 42) := ⟨_, rfl⟩
  rw [← hW3] at z1 z2 z3 z4 z5
  have hT3 : ∀ k, T k → k < W3.heap.size := fun k hk => by have := hT k hk; omega
  have htk := Lib.hid (takenOut_T T W3 hT3 t y aA kA an ac kn kc (h.kept (fun _ h => h) fun k hk => z4.block k (hT k hk)) s.pA s.pn s.pc q c (hq ▸ ho.path.below z4) hpnil hpn ho.pnc ho.pcm hbig hy hc)
  obtain ⟨o0, o1, o2, o3, o4, o5, o6, o7, o8, o9, o10⟩ := op_cells z2
  have z1u := z1
  unfold val6 at z1u
  obtain ⟨p0, p1, p2, p3, p4, p5, pf⟩ := six_cells z1u
  have hkI : (o.kind : Int) = 2 := by omega
  have z3' := Lib.hid z3
  have z4' := Lib.hid z4
  have z5' := Lib.hid z5
  have hT' := Lib.hid hT
  have hkr := ho.kind
  rw [hW3] at o0 o1 o2 o3 o4 o5 o6 o7 o8 o9 o10 p0 p1 p2 p3 p4 p5 pf htk
  clear h ho hT hT3 z1 z1u z2 z3 z4 z5 hk hq hy
  unfold zero6 val6 opCells at hW3 htk o0 o1 o2 o3 o4 o5 o6 o7 o8 o9 o10 p0 p1 p2 p3 p4 p5 pf
  unfold val6 opCells
  rw [hkI] at hW3 htk o0 o1 o2 o3 o4 o5 o6 o7 o8 o9 o10 p0 p1 p2 p3 p4 p5
  rw [hkI]
  clear hkI hkr
  go_enter Try.func74, Try.ntmps74
  go_wp2_with (go_at_call 110; go_loud (refine htk.out.mono ?_; rw [← hW3]; rintro e w9 ⟨zA, zn, zc, zK, zm, zd, rfl, hz, hbz⟩; have r3 := (hbz.block _ (by have := z5'.out; omega)).trans z3'.out; have hr := Lib.hid r3; have hz' := Lib.hid hz; have hbz' := Lib.hid hbz; unfold zero6 at r3; obtain ⟨q0, q1, q2, q3, q4, q5, qf⟩ := six_cells r3; have hne : w.heap.size + 1 + 1 < w9.heap.size := (Array.getElem?_eq_some_iff.1 r3).1; have hne2 : w9.heap.size ≠ w.heap.size + 1 + 1 := (by omega); have hne3 : w.heap.size + 1 + 1 ≠ w9.heap.size := (by omega); unfold val6; clear hz hbz r3))
  obtain ⟨a, ha⟩ : ∃ a, a = (putV t q (y.withKids (delK c y.kids))).getD Nd.zero := ⟨_, rfl⟩
  rw [← ha] at hz' ⊢
  obtain ⟨W9, hW9, R9, N9, B9⟩ := end_node0 hT'.out (r := w.heap.size + 1 + 1) (b := W3.heap.size) (by omega) (by have := z5'.out; omega) (z4'.out.trans (hbz'.out.mono z4'.out.size)) hr.out hz'.out
  rw [← hW9]
  unfold val6 at R9
  obtain ⟨d0, d1, d2, d3, d4, d5, df⟩ := six_cells R9
  refine bodyPost_ret (v := .agg (val6 a zA zn zc zK zm zd)) (by simp [results, Try.results74, go_sem, d0, d1, d2, d3, d4, d5, val6]) rfl ?_
  exact ⟨zA, zn, zc, zK, zm, zd, rfl, N9, B9⟩
theorem new_node (T : Nat → Prop) (w : World) (id : Nat) (leaf : Bool) (label : Txt) (hid : id < 18446744073709551616) (hl : label.length ≤ maxLen) : NodeV T w none 0 0 none 0 0 (.mk id leaf label [] [] []) := by
  refine NFacts.node ⟨hid, hl, Nat.zero_le _, ⟨rfl, fun q x h => (nomatch (show (none : Option (Txt × Txt)) = some x from h))⟩, Nat.le_refl _, Nat.zero_le _, fun _ => rfl, rfl, Nat.le_refl _, Nat.zero_le _, fun _ => rfl, ?_⟩
  first
    | trivial
    | exact RowAt.of_kvs [] (fun k h => by cases h) fun q k h => by simp at h
set_option maxHeartbeats 4000000 in
theorem done_insert (T : Nat → Prop) (w : World) (hT : ∀ k, T k → k < w.heap.size) (t y : Nd) (aA kA : Option Addr) (an ac kn kc : Nat) (h : NodeV T w aA an ac kA kn kc t) (o : Ov) (s : OS) (ho : OpIn w o s) (hk : o.kind = 1) (hlb : o.label.length ≤ 80000) (g : Nat) (hg : o.at_ = (g : Int)) (hbig : weighV t ≤ 90000)
    (hy : atV t o.path = some y) (hc : g ≤ y.kids.length) :
    Calls Try.prog 74 #[.agg (val6 t aA an ac kA kn kc), .agg (opCells o s)] w (NodeA T w ((putV t o.path (y.withKids (insK g (.mk o.id o.leaf o.label [] [] []) y.kids))).getD Nd.zero)) := by
  obtain ⟨z1, z2, z3, z4, z5⟩ := three_new w (.cells (val6 t aA an ac kA kn kc) 42) (.cells (opCells o s) 26) (.cells zero6 42)
  obtain ⟨W3, hW3⟩ : ∃ W3, W3 = ((w.alloc (.cells (val6 t aA an ac kA kn kc) 42)).alloc (.cells (opCells o s) 26)).alloc (.cells zero6 42) := ⟨_, rfl⟩
  rw [← hW3] at z1 z2 z3 z4 z5
  have hT3 : ∀ k, T k → k < W3.heap.size := fun k hk => by have := hT k hk; omega
  have hpm := Nat.le_trans ho.pnc ho.pcm
  have htk := Lib.hid (putIn_T T W3 hT3 t (.mk o.id o.leaf o.label [] [] []) y aA kA none none an ac kn kc 0 0 0 0 (h.kept (fun _ h => h) fun k hk => z4.block k (hT k hk)) (new_node T W3 o.id o.leaf o.label ho.id ho.label) s.pA s.pn s.pc o.path (ho.path.below z4) hpm hbig (by have h9 : weighV (.mk o.id o.leaf o.label [] [] []) = 1 + o.label.length := (by simp [weighV, attrsW, weighsV]); omega) hy g hc)
  obtain ⟨o0, o1, o2, o3, o4, o5, o6, o7, o8, o9, o10⟩ := op_cells z2
  have z1u := z1
  unfold val6 at z1u
  obtain ⟨p0, p1, p2, p3, p4, p5, pf⟩ := six_cells z1u
  have hkI : (o.kind : Int) = 1 := by omega
  have z3' := Lib.hid z3
  have z4' := Lib.hid z4
  have z5' := Lib.hid z5
  have hT' := Lib.hid hT
  have hkr := ho.kind
  rw [hW3] at o0 o1 o2 o3 o4 o5 o6 o7 o8 o9 o10 p0 p1 p2 p3 p4 p5 pf htk
  rw [← hg] at htk
  clear h ho hT hT3 z1 z1u z2 z3 z4 z5 hk hg hy
  unfold zero6 val6 opCells at hW3 htk o0 o1 o2 o3 o4 o5 o6 o7 o8 o9 o10 p0 p1 p2 p3 p4 p5 pf
  unfold val6 opCells
  rw [hkI] at hW3 htk o0 o1 o2 o3 o4 o5 o6 o7 o8 o9 o10 p0 p1 p2 p3 p4 p5
  rw [hkI]
  clear hkI hkr
  go_enter Try.func74, Try.ntmps74
  go_wp2_with (go_at_call 109; go_loud (refine htk.out.mono ?_; rw [← hW3]; rintro e w9 ⟨zA, zn, zc, zK, zm, zd, rfl, hz, hbz⟩; have r3 := (hbz.block _ (by have := z5'.out; omega)).trans z3'.out; have hr := Lib.hid r3; have hz' := Lib.hid hz; have hbz' := Lib.hid hbz; unfold zero6 at r3; obtain ⟨q0, q1, q2, q3, q4, q5, qf⟩ := six_cells r3; have hne : w.heap.size + 1 + 1 < w9.heap.size := (Array.getElem?_eq_some_iff.1 r3).1; have hne2 : w9.heap.size ≠ w.heap.size + 1 + 1 := (by omega); have hne3 : w.heap.size + 1 + 1 ≠ w9.heap.size := (by omega); unfold val6; clear hz hbz r3))
  obtain ⟨a, ha⟩ : ∃ a, a = (putV t o.path (y.withKids (insK g (.mk o.id o.leaf o.label [] [] []) y.kids))).getD Nd.zero := ⟨_, rfl⟩
  rw [← ha] at hz' ⊢
  obtain ⟨W9, hW9, R9, N9, B9⟩ := end_node0 hT'.out (r := w.heap.size + 1 + 1) (b := W3.heap.size) (by omega) (by have := z5'.out; omega) (z4'.out.trans (hbz'.out.mono z4'.out.size)) hr.out hz'.out
  rw [← hW9]
  unfold val6 at R9
  obtain ⟨d0, d1, d2, d3, d4, d5, df⟩ := six_cells R9
  refine bodyPost_ret (v := .agg (val6 a zA zn zc zK zm zd)) (by simp [results, Try.results74, go_sem, d0, d1, d2, d3, d4, d5, val6]) rfl ?_
  exact ⟨zA, zn, zc, zK, zm, zd, rfl, N9, B9⟩
end Go.Proofs.Ytpoenlhikanooaa.Top
/- done: a Relabel. -/
namespace Go.Proofs.Ytpoenlhikanooaa.Top
open Go.RowKit
set_option maxRecDepth 20000
set_option linter.unusedVariables false

/-- a node with another label -/
def labN : Nd → Txt → Nd
  | .mk i f _ a x k, l => .mk i f l a x k
theorem labN_id (y : Nd) (l : Txt) : (labN y l).id = y.id ∧ (labN y l).leaf = y.leaf ∧ (labN y l).label = l ∧ (labN y l).text = y.text ∧ (labN y l).attrs = y.attrs ∧ (labN y l).kids = y.kids := by cases y; exact ⟨rfl, rfl, rfl, rfl, rfl, rfl⟩
theorem labN_weigh (y : Nd) (l : Txt) : weighV (labN y l) ≤ weighV y + l.length := by cases y; simp only [labN, weighV]; omega
theorem labN_node {T : Nat → Prop} {w : World} {aA kA : Option Addr} {an ac kn kc : Nat} {y : Nd} {l : Txt} (h : NodeV T w aA an ac kA kn kc y) (hl : l.length ≤ maxLen) : NodeV T w aA an ac kA kn kc (labN y l) := by
  have hf := h.facts
  obtain ⟨e1, e2, e3, e4, e5, e6⟩ := labN_id y l
  exact NFacts.node ⟨by rw [e1]; exact hf.id, by rw [e3]; exact hl, by rw [e4]; exact hf.text, by rw [e5]; exact hf.ats, hf.anc, hf.acm, hf.anil, by rw [e6]; exact hf.kl, hf.knc, hf.kcm, hf.knil, by rw [e6]; exact hf.row⟩
set_option maxHeartbeats 4000000 in
theorem done_relabel (T : Nat → Prop) (w : World) (hT : ∀ k, T k → k < w.heap.size) (t y : Nd) (aA kA : Option Addr) (an ac kn kc : Nat) (h : NodeV T w aA an ac kA kn kc t) (o : Ov) (s : OS) (ho : OpIn w o s) (hk : o.kind = 5) (hlb : o.label.length ≤ 80000) (hbig : weighV t ≤ 90000)
    (hy : atV t o.path = some y) :
    Calls Try.prog 74 #[.agg (val6 t aA an ac kA kn kc), .agg (opCells o s)] w (NodeA T w ((putV t o.path (labN y o.label)).getD Nd.zero)) := by
  obtain ⟨z1, z2, z3, z4, z5⟩ := three_new w (.cells (val6 t aA an ac kA kn kc) 42) (.cells (opCells o s) 26) (.cells zero6 42)
  obtain ⟨W3, hW3⟩ : ∃ W3, W3 = ((w.alloc (.cells (val6 t aA an ac kA kn kc) 42)).alloc (.cells (opCells o s) 26)).alloc (.cells zero6 42) := ⟨_, rfl⟩
  rw [← hW3] at z1 z2 z3 z4 z5
  have hT3 : ∀ k, T k → k < W3.heap.size := fun k hk => by have := hT k hk; omega
  have hpm := Nat.le_trans ho.pnc ho.pcm
  have hatc := Lib.hid (at_T T W3 hT3 t aA kA an ac kn kc (h.kept (fun _ h => h) fun k hk => z4.block k (hT k hk)) s.pA s.pn s.pc o.path (ho.path.below z4) hpm (by omega))
  have hkI : (o.kind : Int) = 5 := by omega
  have hh := Lib.hid (fun (W : World) (hb : Below w.heap.size w W) => h.kept (w' := W) (T' := T) (fun _ h => h) fun k hk => hb.block k (hT k hk))
  have hop := Lib.hid (fun (W : World) (hb : Below w.heap.size w W) => ho.path.below hb)
  have hyw := (at_count o.path t y hy).2
  have hll := ho.label
  obtain ⟨o0, o1, o2, o3, o4, o5, o6, o7, o8, o9, o10⟩ := op_cells z2
  have z1u := z1
  unfold val6 at z1u
  obtain ⟨p0, p1, p2, p3, p4, p5, pf⟩ := six_cells z1u
  have z1' := Lib.hid z1
  have z2' := Lib.hid z2
  have z3' := Lib.hid z3
  have z4' := Lib.hid z4
  have z5' := Lib.hid z5
  have hT' := Lib.hid hT
  have hy' := Lib.hid hy
  have hbig' := Lib.hid hbig
  have hyw' := Lib.hid hyw
  have hpm' := Lib.hid hpm
  rw [hW3] at o0 o1 o2 o3 o4 o5 o6 o7 o8 o9 o10 p0 p1 p2 p3 p4 p5 pf hatc
  clear h ho hT hT3 z1 z1u z2 z3 z4 z5 hk hy hbig hyw hpm
  unfold zero6 val6 opCells at hW3 hatc o0 o1 o2 o3 o4 o5 o6 o7 o8 o9 o10 p0 p1 p2 p3 p4 p5 pf
  unfold val6 opCells
  rw [hkI] at hW3 hatc o0 o1 o2 o3 o4 o5 o6 o7 o8 o9 o10 p0 p1 p2 p3 p4 p5
  rw [hkI]
  have hkI' := Lib.hid hkI
  clear hkI
  go_enter Try.func74, Try.ntmps74
  go_wp2_with (first
    | (go_at_call 35; go_loud (refine hatc.out.mono ?_; rw [← hW3]; rintro e w1 ⟨yA, yn, yc, yK, ym, yd, rfl, hny, hb⟩; rw [hy'.out] at hny ⊢; have hny' := Lib.hid hny; have hb' := Lib.hid hb; have r1 := (hb.block _ (by have := z5'.out; omega)).trans z1'.out; have r2 := (hb.block _ (by have := z5'.out; omega)).trans z2'.out; clear o0 o1 o2 o3 o4 o5 o6 o7 o8 o9 o10 p0 p1 p2 p3 p4 p5 pf; obtain ⟨o0, o1, o2, o3, o4, o5, o6, o7, o8, o9, o10⟩ := op_cells r2; rw [hkI'.out] at o0; unfold val6 at r1; obtain ⟨p0, p1, p2, p3, p4, p5, pf⟩ := six_cells r1; have hs1 : w.heap.size + 1 + 1 < w1.heap.size := (by have := hb.size; have := z5'.out; omega); have hq0 : w1.heap.size ≠ w.heap.size := (by omega); have hq1 : w1.heap.size ≠ w.heap.size + 1 := (by omega); have hq2 : w.heap.size ≠ w1.heap.size := (by omega); have hq3 : w.heap.size + 1 ≠ w1.heap.size := (by omega); have hq4 : w.heap.size + 1 < w1.heap.size := (by omega); have hq5 : w.heap.size < w1.heap.size := (by omega); have u0 := fun O => (World.cell?_alloc_lt w1 O ⟨w.heap.size + 1, 0, none⟩ hq4).trans o0; have u1 := fun O => (World.cell?_alloc_lt w1 O ⟨w.heap.size + 1, 1, none⟩ hq4).trans o1; have u6 := fun O => (World.cell?_alloc_lt w1 O ⟨w.heap.size + 1, 6, none⟩ hq4).trans o6; have v0 := fun O => (World.cell?_alloc_lt w1 O ⟨w.heap.size, 0, none⟩ hq5).trans p0; have v1 := fun O => (World.cell?_alloc_lt w1 O ⟨w.heap.size, 1, none⟩ hq5).trans p1; have v2 := fun O => (World.cell?_alloc_lt w1 O ⟨w.heap.size, 2, none⟩ hq5).trans p2; have v3 := fun O => (World.cell?_alloc_lt w1 O ⟨w.heap.size, 3, none⟩ hq5).trans p3; have v4 := fun O => (World.cell?_alloc_lt w1 O ⟨w.heap.size, 4, none⟩ hq5).trans p4; have v5 := fun O => (World.cell?_alloc_lt w1 O ⟨w.heap.size, 5, none⟩ hq5).trans p5; have hput := (fun O => tput_T (Nw T W3 w1) (w1.alloc O) (fun k hk => by (have hs2 := World.size_alloc w1 O); (rcases hk with hk | hk); (have := hT'.out k hk; omega); (have := hk.2; omega)) t (labN y o.label) aA kA yA yK an ac kn kc yn yc ym yd (NodeV.kept (fun k hk => .inl hk) (fun _ _ => rfl) _ _ _ _ _ _ _ (hh.out (w1.alloc O) ((z4'.out.trans (hb.mono z4'.out.size)).alloc (by omega) O))) (labN_node (NodeV.kept (fun k hk => hk) (fun k hk => Go.heap_alloc_old _ _ (by (rcases hk with hk | hk); (have := hT'.out k hk; omega); (exact hk.2))) _ _ _ _ _ _ _ hny) hll) s.pA s.pn s.pc o.path (hop.out (w1.alloc O) ((z4'.out.trans (hb.mono z4'.out.size)).alloc (by omega) O)) hpm'.out (by have := hbig'.out; omega) (by have h1 := labN_weigh y o.label; have h2 := hyw'.out; have h3 := hbig'.out; omega)); have we := labN_id y o.label; unfold val6 at hput; rw [we.1, we.2.1, we.2.2.1, we.2.2.2.1] at hput; have hput' := Lib.hid hput; clear hny hb r1 r2 hput we; unfold val6))
    | (go_at_call 114; go_loud (refine (hput'.out _).mono ?_; rintro e w9 ⟨zA, zn, zc, zK, zm, zd, rfl, hz, hbz⟩; have hsa := hbz.size; rw [World.size_alloc] at hsa; have r3 := (hbz.block (w.heap.size + 1 + 1) (by rw [World.size_alloc]; omega)).trans ((Go.heap_alloc_old _ _ (by omega)).trans ((hb'.out.block _ (by have := z5'.out; omega)).trans z3'.out)); have hr := Lib.hid r3; have hz' := Lib.hid hz; have hbz' := Lib.hid hbz; unfold zero6 at r3; clear o0 o1 o2 o3 o4 o5 o6 o7 o8 o9 o10 p0 p1 p2 p3 p4 p5 pf u0 u1 u6 v0 v1 v2 v3 v4 v5; obtain ⟨q0, q1, q2, q3, q4, q5, qf⟩ := six_cells r3; have hne : w.heap.size + 1 + 1 < w9.heap.size := (by omega); have hne2 : w9.heap.size ≠ w.heap.size + 1 + 1 := (by omega); have hne3 : w.heap.size + 1 + 1 ≠ w9.heap.size := (by omega); unfold val6; clear hz hbz r3)))
  obtain ⟨a, ha⟩ : ∃ a, a = (putV t o.path (labN y o.label)).getD Nd.zero := ⟨_, rfl⟩
  rw [← ha] at hz' ⊢
  have hb1w := z4'.out.trans (hb'.out.mono z4'.out.size)
  obtain ⟨W9, hW9, R9, N9, B9⟩ := end_node0 hT'.out (r := w.heap.size + 1 + 1) (b := W3.heap.size) (by omega) (by have := z5'.out; omega) ((hb1w.alloc (by omega) _).trans (hbz'.out.mono (by rw [World.size_alloc]; omega))) hr.out (hz'.out.kept (fun k hk => by
    have hs := hbz'.out.size
    rw [World.size_alloc] at hs
    rcases hk with hk | hk
    · rcases hk with hk | hk
      · exact .inl hk
      · exact .inr ⟨hk.1, by have h2 := hk.2; omega⟩
    · exact .inr ⟨by have h2 := hk.1; rw [World.size_alloc] at h2; have := hb'.out.size; omega, hk.2⟩) (fun _ _ => rfl))
  rw [← hW9]
  unfold val6 at R9
  obtain ⟨d0, d1, d2, d3, d4, d5, df⟩ := six_cells R9
  refine bodyPost_ret (v := .agg (val6 a zA zn zc zK zm zd)) (by simp [results, Try.results74, go_sem, d0, d1, d2, d3, d4, d5, val6]) rfl ?_
  exact ⟨zA, zn, zc, zK, zm, zd, rfl, N9, B9⟩
end Go.Proofs.Ytpoenlhikanooaa.Top
/- done: an Edit; what is kept when a node's own cell is written. -/
namespace Go.Proofs.Ytpoenlhikanooaa.Top
open Go.RowKit
set_option maxRecDepth 20000
set_option linter.unusedVariables false

/-- behind a call that was made with a new box, one cell of which is written then -/
theorem mid_kept {w W3 w1 w2 : World} {O : Obj} {c : Nat} {v : Value} (h3 : Below w.heap.size w W3) (hb : Below W3.heap.size W3 w1) (hb2 : Below (w1.alloc O).heap.size (w1.alloc O) w2) :
    (∀ k, k < w1.heap.size → (w2.setCell ⟨w1.heap.size, c, none⟩ v).heap[k]? = w1.heap[k]?) ∧ w1.heap.size + 1 ≤ (w2.setCell ⟨w1.heap.size, c, none⟩ v).heap.size ∧ Below w.heap.size w (w2.setCell ⟨w1.heap.size, c, none⟩ v) := by
  have hs2 := hb2.size
  rw [World.size_alloc] at hs2
  have hs1 := hb.size
  have hs3 := h3.size
  refine ⟨fun k hk => ?_, by simpa using hs2, ?_⟩
  · rw [heap_setCell_other _ _ k _ (show k ≠ w1.heap.size by omega)]
    exact (hb2.block k (by rw [World.size_alloc]; omega)).trans (Go.heap_alloc_old _ _ hk)
  · exact ((((h3.trans (hb.mono h3.size)).alloc (by omega) O).trans (hb2.mono (by rw [World.size_alloc]; omega)))).setCell (show w.heap.size ≤ w1.heap.size by omega) _
theorem node_up {T : Nat → Prop} {W3 w1 W' w9 : World} {aA kA : Option Addr} {an ac kn kc : Nat} {a : Nd} (h : NodeV (Nw (Nw T W3 w1) W' w9) w9 aA an ac kA kn kc a) (h1 : W3.heap.size ≤ w1.heap.size) (h2 : w1.heap.size ≤ W'.heap.size) (h3 : W'.heap.size ≤ w9.heap.size) :
    NodeV (fun k => T k ∨ (W3.heap.size ≤ k ∧ k < w9.heap.size)) w9 aA an ac kA kn kc a := h.kept (fun k hk => by
    rcases hk with hk | hk
    · rcases hk with hk | hk
      · exact .inl hk
      · exact .inr ⟨hk.1, by have h2 := hk.2; omega⟩
    · exact .inr ⟨by have h2 := hk.1; omega, hk.2⟩) (fun _ _ => rfl)
/-- a node with another text -/
def textN : Nd → Txt → Nd
  | .mk i f l a _ k, x => .mk i f l a x k
theorem textN_id (y : Nd) (l : Txt) : (textN y l).id = y.id ∧ (textN y l).leaf = y.leaf ∧ (textN y l).label = y.label ∧ (textN y l).text = l ∧ (textN y l).attrs = y.attrs ∧ (textN y l).kids = y.kids := by cases y; exact ⟨rfl, rfl, rfl, rfl, rfl, rfl⟩
theorem textN_weigh (y : Nd) (l : Txt) : weighV (textN y l) ≤ weighV y + l.length := by cases y; simp only [textN, weighV]; omega
theorem textN_node {T : Nat → Prop} {w : World} {aA kA : Option Addr} {an ac kn kc : Nat} {y : Nd} {l : Txt} (h : NodeV T w aA an ac kA kn kc y) (hl : l.length ≤ maxLen) : NodeV T w aA an ac kA kn kc (textN y l) := by
  have hf := h.facts
  obtain ⟨e1, e2, e3, e4, e5, e6⟩ := textN_id y l
  exact NFacts.node ⟨by rw [e1]; exact hf.id, by rw [e3]; exact hf.label, by rw [e4]; exact hl, by rw [e5]; exact hf.ats, hf.anc, hf.acm, hf.anil, by rw [e6]; exact hf.kl, hf.knc, hf.kcm, hf.knil, by rw [e6]; exact hf.row⟩
set_option maxHeartbeats 4000000 in
theorem done_edit (T : Nat → Prop) (w : World) (hT : ∀ k, T k → k < w.heap.size) (t y : Nd) (aA kA : Option Addr) (an ac kn kc : Nat) (h : NodeV T w aA an ac kA kn kc t) (o : Ov) (s : OS) (ho : OpIn w o s) (hk : o.kind = 6) (hbig : weighV t ≤ 90000)
    (hy : atV t o.path = some y) (hr : P5.rightV o.pieces = true) (hf : Ltx.extent (pcs o.pieces) ≤ y.text.length) (htx : (Ltx.apply y.text (pcs o.pieces)).length ≤ 900000) :
    Calls Try.prog 74 #[.agg (val6 t aA an ac kA kn kc), .agg (opCells o s)] w (NodeA T w ((putV t o.path (textN y (Ltx.apply y.text (pcs o.pieces)))).getD Nd.zero)) := by
  obtain ⟨tx, htxe⟩ : ∃ tx, tx = Ltx.apply y.text (pcs o.pieces) := ⟨_, rfl⟩
  obtain ⟨z1, z2, z3, z4, z5⟩ := three_new w (.cells (val6 t aA an ac kA kn kc) 42) (.cells (opCells o s) 26) (.cells zero6 42)
  obtain ⟨W3, hW3⟩ : ∃ W3, W3 = ((w.alloc (.cells (val6 t aA an ac kA kn kc) 42)).alloc (.cells (opCells o s) 26)).alloc (.cells zero6 42) := ⟨_, rfl⟩
  rw [← hW3] at z1 z2 z3 z4 z5
  have hT3 : ∀ k, T k → k < W3.heap.size := fun k hk => by have := hT k hk; omega
  have hpm := Nat.le_trans ho.pnc ho.pcm
  have hatc := Lib.hid (at_T T W3 hT3 t aA kA an ac kn kc (h.kept (fun _ h => h) fun k hk => z4.block k (hT k hk)) s.pA s.pn s.pc o.path (ho.path.below z4) hpm (by omega))
  have hkI : (o.kind : Int) = 6 := by omega
  have hh := Lib.hid (fun (W : World) (hb : Below w.heap.size w W) => h.kept (w' := W) (T' := T) (fun _ h => h) fun k hk => hb.block k (hT k hk))
  have hop := Lib.hid (fun (W : World) (hb : Below w.heap.size w W) => ho.path.below hb)
  have hpr := pcs_right hr
  have hyt : y.text.length ≤ 10000000 := at_text hy (by omega)
  have hap := Lib.hid (fun (W : World) (hb : Below w.heap.size w W) => P5.apply_ok W y.text s.qA s.qn s.qc (pcs o.pieces) (by rw [hpr]; exact ho.pieces.below hb) (Nat.le_trans ho.qnc ho.qcm) hyt (by rw [hpr]; exact hr) hf)
  rw [← htxe] at hap htx ⊢
  have hyw := (at_count o.path t y hy).2
  obtain ⟨o0, o1, o2, o3, o4, o5, o6, o7, o8, o9, o10⟩ := op_cells z2
  have z1u := z1
  unfold val6 at z1u
  obtain ⟨p0, p1, p2, p3, p4, p5, pf⟩ := six_cells z1u
  have z1' := Lib.hid z1
  have z2' := Lib.hid z2
  have z3' := Lib.hid z3
  have z4' := Lib.hid z4
  have z5' := Lib.hid z5
  have hT' := Lib.hid hT
  have hy' := Lib.hid hy
  have hbig' := Lib.hid hbig
  have hyw' := Lib.hid hyw
  have hpm' := Lib.hid hpm
  have htx' := Lib.hid htx
  rw [hW3] at o0 o1 o2 o3 o4 o5 o6 o7 o8 o9 o10 p0 p1 p2 p3 p4 p5 pf hatc
  clear h ho hT hT3 z1 z1u z2 z3 z4 z5 hk hy hbig hyw hpm hpr hr hf hyt htx htxe
  unfold zero6 val6 opCells at hW3 hatc o0 o1 o2 o3 o4 o5 o6 o7 o8 o9 o10 p0 p1 p2 p3 p4 p5 pf
  unfold val6 opCells
  rw [hkI] at hW3 hatc o0 o1 o2 o3 o4 o5 o6 o7 o8 o9 o10 p0 p1 p2 p3 p4 p5
  rw [hkI]
  have hkI' := Lib.hid hkI
  clear hkI
  go_enter Try.func74, Try.ntmps74
  go_wp2_with (first
    | (go_at_call 35; go_loud (refine hatc.out.mono ?_; rw [← hW3]; rintro e w1 ⟨yA, yn, yc, yK, ym, yd, rfl, hny, hb⟩; rw [hy'.out] at hny ⊢; have hny' := Lib.hid hny; have hb' := Lib.hid hb; have r1 := (hb.block _ (by have := z5'.out; omega)).trans z1'.out; have r2 := (hb.block _ (by have := z5'.out; omega)).trans z2'.out; have r1' := Lib.hid r1; have r2' := Lib.hid r2; clear o0 o1 o2 o3 o4 o5 o6 o7 o8 o9 o10 p0 p1 p2 p3 p4 p5 pf; obtain ⟨o0, o1, o2, o3, o4, o5, o6, o7, o8, o9, o10⟩ := op_cells r2; rw [hkI'.out] at o0; have hs1 : w.heap.size + 1 + 1 < w1.heap.size := (by have := hb.size; have := z5'.out; omega); have hq0 : w1.heap.size ≠ w.heap.size := (by omega); have hq1 : w1.heap.size ≠ w.heap.size + 1 := (by omega); have hq2 : w.heap.size ≠ w1.heap.size := (by omega); have hq3 : w.heap.size + 1 ≠ w1.heap.size := (by omega); have hq4 : w.heap.size + 1 < w1.heap.size := (by omega); have hq5 : w.heap.size < w1.heap.size := (by omega); have u0 := fun O => (World.cell?_alloc_lt w1 O ⟨w.heap.size + 1, 0, none⟩ hq4).trans o0; have u10 := fun O => (World.cell?_alloc_lt w1 O ⟨w.heap.size + 1, 10, none⟩ hq4).trans o10; have hput := (fun (W : World) (hB : Below w.heap.size w W) (hs : w1.heap.size ≤ W.heap.size) (hK : ∀ k, k < w1.heap.size → W.heap[k]? = w1.heap[k]?) => tput_T (Nw T W3 w1) W (fun k hk => by (rcases hk with hk | hk); (have := hT'.out k hk; omega); (have := hk.2; omega)) t (textN y tx) aA kA yA yK an ac kn kc yn yc ym yd (NodeV.kept (fun k hk => .inl hk) (fun _ _ => rfl) _ _ _ _ _ _ _ (hh.out W hB)) (textN_node (NodeV.kept (fun k hk => hk) (fun k hk => hK k (by (rcases hk with hk | hk); (have := hT'.out k hk; omega); (exact hk.2))) _ _ _ _ _ _ _ hny) (Nat.le_trans htx'.out (by decide))) s.pA s.pn s.pc o.path (hop.out W hB) hpm'.out (by have := hbig'.out; omega) (by have h1 := textN_weigh y tx; have h2 := hyw'.out; have h3 := hbig'.out; have h4 := htx'.out; omega)); have we := textN_id y tx; unfold val6 at hput; rw [we.1, we.2.1, we.2.2.1, we.2.2.2.1] at hput; have hput' := Lib.hid hput; clear hny hb r1 r2 hput we; unfold val6))
    | (go_at_call 113; go_loud (refine (hap.out _ ((z4'.out.trans (hb'.out.mono z4'.out.size)).alloc (by omega) _)).mono ?_; rintro e w2 ⟨rfl, hb2⟩; have r9 := (hb2.block w1.heap.size (by rw [World.size_alloc]; omega)).trans (heap_alloc_new w1 _); obtain ⟨g0, g1, g2, g3, g4, g5, gf⟩ := six_cells r9; have hsz2 : w1.heap.size < w2.heap.size := (by have := hb2.size; rw [World.size_alloc] at this; omega); have r1 := (hb2.block w.heap.size (by rw [World.size_alloc]; omega)).trans ((Go.heap_alloc_old w1 _ hq5).trans r1'.out); have r2 := (hb2.block (w.heap.size + 1) (by rw [World.size_alloc]; omega)).trans ((Go.heap_alloc_old w1 _ hq4).trans r2'.out); unfold val6 at r1; obtain ⟨p0, p1, p2, p3, p4, p5, pf⟩ := six_cells r1; clear o0 o1 o2 o3 o4 o5 o6 o7 o8 o9 o10 u0 u10; obtain ⟨o0, o1, o2, o3, o4, o5, o6, o7, o8, o9, o10⟩ := op_cells r2; rw [hkI'.out] at o0; have hmk := (fun v => mid_kept (c := 4) (v := v) z4'.out hb'.out hb2); have hmk' := Lib.hid hmk; clear hb2 r1 r2 r9 hmk))
    | (go_at_call 114; go_loud (refine (hput'.out _ (hmk'.out _).2.2 (by have := (hmk'.out (.string ⟨tx.toArray⟩)).2.1; omega) (hmk'.out _).1).mono ?_; rintro e w9 ⟨zA, zn, zc, zK, zm, zd, rfl, hz, hbz⟩; have hsa := hbz.size; have hm2 := (hmk'.out (.string ⟨tx.toArray⟩)).2.1; have r3 := (hbz.block (w.heap.size + 1 + 1) (by omega)).trans (((hmk'.out _).1 _ hs1).trans ((hb'.out.block _ (by have := z5'.out; omega)).trans z3'.out)); have hr := Lib.hid r3; have hz' := Lib.hid (node_up hz hb'.out.size (by omega) hsa); have hbz' := Lib.hid ((hmk'.out _).2.2.trans (hbz.mono (hmk'.out _).2.2.size)); unfold zero6 at r3; clear o0 o1 o2 o3 o4 o5 o6 o7 o8 o9 o10 p0 p1 p2 p3 p4 p5 pf g0 g1 g2 g3 g4 g5 gf; obtain ⟨q0, q1, q2, q3, q4, q5, qf⟩ := six_cells r3; have hne : w.heap.size + 1 + 1 < w9.heap.size := (by omega); have hne2 : w9.heap.size ≠ w.heap.size + 1 + 1 := (by omega); have hne3 : w.heap.size + 1 + 1 ≠ w9.heap.size := (by omega); unfold val6; clear hz hbz r3 hsa hm2)))
  obtain ⟨a, ha⟩ : ∃ a, a = (putV t o.path (textN y tx)).getD Nd.zero := ⟨_, rfl⟩
  rw [← ha] at hz' ⊢
  obtain ⟨W9, hW9, R9, N9, B9⟩ := end_node0 hT'.out (r := w.heap.size + 1 + 1) (b := W3.heap.size) (by omega) (by have := z5'.out; omega) hbz'.out hr.out hz'.out
  rw [← hW9]
  unfold val6 at R9
  obtain ⟨d0, d1, d2, d3, d4, d5, df⟩ := six_cells R9
  refine bodyPost_ret (v := .agg (val6 a zA zn zc zK zm zd)) (by simp [results, Try.results74, go_sem, d0, d1, d2, d3, d4, d5, val6]) rfl ?_
  exact ⟨zA, zn, zc, zK, zm, zd, rfl, N9, B9⟩
end Go.Proofs.Ytpoenlhikanooaa.Top
/- Attributes behind a SetAttr: the program's placeOf, attrsBehind. -/
namespace Go.Proofs.Ytpoenlhikanooaa.Top
open Go.RowKit
set_option maxRecDepth 20000
set_option linter.unusedVariables false

/-- is the key at a place as great as one? -/
def geAt (l : List (Txt × Txt)) (key : Txt) (i : Nat) : Bool := !Op.bytesLess (l.getD i ([], [])).1 key
set_option maxHeartbeats 1000000 in
theorem placeFn_any (w : World) (T : Nat → Prop) (A : Option Addr) (n c : Nat) (l : List (Txt × Txt)) (key : Txt) (hl : AtsIn T w A n l) (b2 b3 : Nat) (h2 : w.cell? ⟨b2, 0, none⟩ = some (.slice A n c)) (h3 : w.cell? ⟨b3, 0, none⟩ = some (.string ⟨key.toArray⟩)) (i : Nat) (hi : i < n) :
    Calls Try.prog 164 #[.int .i64 (i : Int), .pointer (some ⟨b2, 0, none⟩), .pointer (some ⟨b3, 0, none⟩)] w fun e w' => e = .returned (.bool (geAt l key i)) ∧ ∃ k, w' = w.drewN k := by
  obtain ⟨ad, x, rfl, hx, -, -, -, c1, c2⟩ := hl.at_ hi
  have hv := Lib.hid (show geAt l key i = !Op.bytesLess x.1 key by unfold geAt; rw [List.getD_eq_getElem?_getD, hx]; rfl)
  obtain ⟨ky, va⟩ := x
  have hiI : (i : Int) < (n : Int) := by omega
  clear hl hx
  dsimp only at c1 c2 hv
  go_enter Try.func164, Try.ntmps164
  go_wp2_with fail
  go_quiet (fail)
  go_wp2_with fail
  go_ret
  exact ⟨by rw [hv.out]; rfl, _, rfl⟩
set_option maxHeartbeats 2000000 in
theorem search_any (w : World) (g : Nat) (cb : Array Value) (n : Nat) (p : Nat → Bool) (eg : ∀ args w, (callFunc g args).run Try.prog w = .ok (.enter g args) w) (hsz : n ≤ 1000000)
    (hf : ∀ (m i : Nat), i < n → Calls Try.prog g (#[.int .i64 (i : Int)] ++ cb) (w.drewN m) fun e w' => e = .returned (.bool (p i)) ∧ ∃ q, w' = (w.drewN m).drewN q)
    (hmono : ∀ a b, a ≤ b → b < n → p a = true → p b = true) :
    Calls Try.prog 163 #[.int .i64 (n : Int), .func (.func g) #[] cb] w fun e w' => ∃ k : Nat, k ≤ n ∧ (∀ t, t < k → p t = false) ∧ (∀ t, k ≤ t → t < n → p t = true) ∧ e = .returned (.int .i64 (k : Int)) ∧ ∃ q, w' = w.drewN q := by
  have HF := Lib.hid hf
  have M := Lib.hid hmono
  clear hf hmono
  go_enter Try.func163, Try.ntmps163
  go_wp2_with fail
  go_loopg [5, 6] n (fun kx s5 s6 wr => ∃ (lo hi q : Nat), s5 = .int .i64 (lo : Int) ∧ s6 = .int .i64 (hi : Int) ∧ lo ≤ hi ∧ hi ≤ n ∧ hi - lo ≤ kx ∧ wr = w.drewN q ∧
    Hid ((∀ t, t < lo → p t = false) ∧ (∀ t, hi ≤ t → t < n → p t = true)))
  case atStart => exact ⟨0, n, 0, rfl, rfl, Nat.zero_le _, Nat.le_refl _, by omega, rfl, Lib.hid ⟨fun t ht => absurd ht (Nat.not_lt_zero _), fun t h1 h2 => by omega⟩⟩
  case round =>
    obtain ⟨lo, hi, q, rfl, rfl, hlh, hin, hg, rfl, I⟩ := hrel
    by_cases hlt : lo < hi
    · have hltI : (lo : Int) < (hi : Int) := by omega
      obtain ⟨md, hmd⟩ : ∃ md : Nat, md = (lo + hi) / 2 := ⟨_, rfl⟩
      have hc := Lib.hid (HF.out q md (by omega))
      have hmI : ((lo : Int) + (hi : Int)) / 2 = (md : Int) := by omega
      cases hp : p md <;> rw [hp] at hc
      · have HP := Lib.hid hp
        have hmd' := Lib.hid hmd
        clear hp hmd
        go_wp2_with (refine hc.out.mono ?_; rintro e w' ⟨rfl, nq, rfl⟩)
        go_roundg (hi - (md + 1))
        case measure => have := hmd'.out; omega
        case rel =>
          refine ⟨md + 1, hi, q + nq, by first | rfl | go_num, rfl, by have := hmd'.out; omega, hin, Nat.le_refl _, rfl, Lib.hid ⟨fun t ht => ?_, I.out.2⟩⟩
          cases h : p t with
          | false => rfl
          | true => have := M.out t md (by omega) (by have := hmd'.out; omega) h; rw [HP.out] at this; cases this
      · have HP := Lib.hid hp
        have hmd' := Lib.hid hmd
        clear hp hmd
        go_wp2_with (refine hc.out.mono ?_; rintro e w' ⟨rfl, nq, rfl⟩)
        go_roundg (md - lo)
        case measure => have := hmd'.out; omega
        case rel =>
          exact ⟨lo, md, q + nq, rfl, by first | rfl | go_num, by have := hmd'.out; omega, by have := hmd'.out; omega, Nat.le_refl _, rfl, Lib.hid ⟨I.out.1, fun t ht htn => M.out md t ht htn HP.out⟩⟩
    · obtain rfl : hi = lo := by omega
      clear hlt
      go_wp2_with fail
      go_ret
      exact ⟨hi, hin, I.out.1, I.out.2, rfl, q, rfl⟩
theorem asc_at : ∀ (l : List (Txt × Txt)) (last : Txt), attrsOk ltB last l = true → ∀ (a b : Nat) (x y : Txt × Txt), a < b → l[a]? = some x → l[b]? = some y → ltB x.1 y.1 = true
  | [], _, _, a, b, x, y, _, h, _ => by simp at h
  | u :: r, last, h, 0, b + 1, x, y, _, hx, hy => by
    obtain ⟨-, -, -, h4⟩ := ok_cons.1 h
    simp at hx hy
    subst hx
    exact ok_over r _ h4 y (List.mem_of_getElem? hy)
  | u :: r, last, h, a + 1, b + 1, x, y, hab, hx, hy => by
    obtain ⟨-, -, -, h4⟩ := ok_cons.1 h
    simp at hx hy
    exact asc_at r _ h4 a b x y (by omega) hx hy
theorem ge_mono {l : List (Txt × Txt)} {n : Nat} {key : Txt} (hl : l.length = n) (ho : attrsOk ltB [] l = true) : ∀ a b, a ≤ b → b < n → geAt l key a = true → geAt l key b = true := by
  intro a b hab hb h
  rcases Nat.lt_or_ge a b with h1 | h1
  · have ea : l[a]? = some l[a] := List.getElem?_eq_getElem (by omega)
    have eb : l[b]? = some l[b] := List.getElem?_eq_getElem (by omega)
    have hlt := (lt_iff _ _).1 (asc_at l [] ho a b _ _ h1 ea eb)
    unfold geAt at h ⊢
    rw [List.getD_eq_getElem?_getD, ea] at h
    rw [List.getD_eq_getElem?_getD, eb]
    simp only [Option.getD_some, Bool.not_eq_true'] at h ⊢
    cases h2 : Op.bytesLess l[b].1 key with
    | false => rfl
    | true => rw [less_trans _ _ _ hlt h2] at h; cases h
  · obtain rfl : a = b := by omega
    exact h
theorem place_eq {l : List (Txt × Txt)} {n k : Nat} {key : Txt} (hl : l.length = n) (hk : k ≤ n) (h1 : ∀ t, t < k → geAt l key t = false) (h2 : ∀ t, k ≤ t → t < n → geAt l key t = true) : placeP key l = k := by
  unfold placeP
  rw [← List.take_append_drop k l, List.countP_append]
  have e1 : (l.take k).countP (fun a => Op.bytesLess a.1 key) = (l.take k).length := by
    rw [List.countP_eq_length]
    intro a ha
    obtain ⟨j, hj, e⟩ := List.getElem_of_mem ha
    rw [List.length_take] at hj
    have := h1 j (by omega)
    unfold geAt at this
    rw [List.getD_eq_getElem?_getD, List.getElem?_eq_getElem (show j < l.length by omega)] at this
    rw [List.getElem_take] at e
    simp only [Option.getD_some, Bool.not_eq_false'] at this
    rw [← e]
    exact this
  have e2 : (l.drop k).countP (fun a => Op.bytesLess a.1 key) = 0 := by
    rw [List.countP_eq_zero]
    intro a ha
    obtain ⟨j, hj, e⟩ := List.getElem_of_mem ha
    rw [List.length_drop] at hj
    have := h2 (k + j) (by omega) (by omega)
    unfold geAt at this
    rw [List.getD_eq_getElem?_getD, List.getElem?_eq_getElem (show k + j < l.length by omega)] at this
    rw [List.getElem_drop] at e
    simp only [Option.getD_some, Bool.not_eq_true'] at this
    rw [← e, this]
    decide
  rw [e1, e2, List.length_take]
  omega
/-- is a key there? -/
def thereB (key : Txt) (l : List (Txt × Txt)) : Bool := decide ((l[placeP key l]?).map (·.1) = some key)
set_option maxHeartbeats 2000000 in
theorem placeOf_any (w : World) (T : Nat → Prop) (hT : ∀ k, T k → k < w.heap.size) (A : Option Addr) (n c : Nat) (l : List (Txt × Txt)) (key : Txt) (hl : AtsIn T w A n l) (hn : n ≤ 1000000) (ho : attrsOk ltB [] l = true) :
    Calls Try.prog 148 #[.slice A n c, .string ⟨key.toArray⟩] w fun e w' => e = .returned (.tuple #[.int .i64 ((placeP key l : Nat) : Int), .bool (thereB key l)]) ∧ Below w.heap.size w w' := by
  obtain ⟨W2, hW2⟩ : ∃ W2, W2 = (w.alloc (.cells #[.slice A n c] 39)).alloc (.cells #[.string ⟨key.toArray⟩] 9) := ⟨_, rfl⟩
  have r1 : W2.heap[w.heap.size]? = some (.cells #[.slice A n c] 39 (0, 0)) := by rw [hW2]; exact (Go.heap_alloc_old _ _ (by simp)).trans (heap_alloc_new w _)
  have r2 : W2.heap[w.heap.size + 1]? = some (.cells #[.string ⟨key.toArray⟩] 9 (0, 0)) := by rw [hW2]; have h1 := heap_alloc_new (w.alloc (.cells #[.slice A n c] 39)) (.cells #[.string ⟨key.toArray⟩] 9); rw [World.size_alloc] at h1; exact h1
  have hb := Lib.hid (show Below w.heap.size w W2 by rw [hW2]; exact ((Below.refl _ _).alloc (Nat.le_refl _) _).alloc (by simp) _)
  have c1 := cell_of_row W2 w.heap.size 0 _ _ _ r1
  have c2 := cell_of_row W2 (w.heap.size + 1) 0 _ _ _ r2
  have hl2 : AtsIn T W2 A n l := hl.kept (fun _ h => h) fun k hk => hb.out.block k (hT k hk)
  have hs := Lib.hid (search_any W2 164 #[.pointer (some ⟨w.heap.size, 0, none⟩), .pointer (some ⟨w.heap.size + 1, 0, none⟩)] n (geAt l key) (fun _ _ => rfl) hn (fun m i hi => by
    have := placeFn_any (W2.drewN m) T A n c l key (hl2.kept (fun _ h => h) fun _ _ => rfl) w.heap.size (w.heap.size + 1) c1 c2 i hi
    exact this) (ge_mono hl.1 ho))
  have hl2' := Lib.hid hl2
  have hlen := Lib.hid hl.1
  rw [hW2] at c1 c2 hs
  clear r1 r2 hl hl2
  go_enter Try.func148, Try.ntmps148
  go_wp2_with (go_at_call 163; go_loud (refine hs.out.mono ?_; rw [← hW2]; rw [← hW2] at c1 c2; rintro e w3 ⟨k, hkn, hk1, hk2, rfl, hw3⟩; have hpl := Lib.hid (place_eq hlen.out hkn hk1 hk2); have x1 : w3.cell? ⟨w.heap.size, 0, none⟩ = some (.slice A n c) := (by (obtain ⟨nq, rfl⟩ := hw3); exact c1); have x2 : w3.cell? ⟨w.heap.size + 1, 0, none⟩ = some (.string ⟨key.toArray⟩) := (by (obtain ⟨nq, rfl⟩ := hw3); exact c2); have hl3' : Hid (AtsIn T w3 A n l) := (by (obtain ⟨nq, rfl⟩ := hw3); exact Lib.hid (hl2'.out.kept (fun _ h => h) fun _ _ => rfl)); have hbw' : Hid (Below w.heap.size w w3) := (by (obtain ⟨nq, rfl⟩ := hw3); exact Lib.hid (draws hb.out _)); clear hk1 hk2 hw3 c1 c2))
  have hbw := hbw'.out
  clear hs hW2
  by_cases hk : k < n
  · obtain ⟨ad, x, rfl, hx, -, -, -, d1, d2⟩ := hl3'.out.at_ hk
    have hg := show decide ((k : Int) < (n : Int)) = true from decide_eq_true (by omega)
    have hkI : (k : Int) < (n : Int) := by omega
    obtain ⟨ky, va⟩ := x
    dsimp only at d1 d2
    by_cases he : ky = key
    · have hv := Lib.hid (show thereB key l = true by unfold thereB; rw [hpl.out, hx, ← he]; exact decide_eq_true rfl)
      have hbe : (ky == key) = true := by simpa using he
      clear hx he
      go_quiet (fail)
      go_wp2_with fail
      go_ret2
      exact ⟨by rw [hv.out, hpl.out]; rfl, draws hbw _⟩
    · have hv := Lib.hid (show thereB key l = false by unfold thereB; rw [hpl.out, hx]; exact decide_eq_false fun e => he (Option.some.inj e))
      have hbe : (ky == key) = false := by simpa using he
      clear hx he
      go_quiet (fail)
      go_wp2_with fail
      go_ret2
      exact ⟨by rw [hv.out, hpl.out]; rfl, draws hbw _⟩
  · have hg := show decide ((k : Int) < (n : Int)) = false from decide_eq_false (by omega)
    have hg2 := show decide (k < n) = false from decide_eq_false (by omega)
    have hg3 : ¬ (k : Int) < (n : Int) := by omega
    have hv := Lib.hid (show thereB key l = false by unfold thereB; rw [hpl.out, List.getElem?_eq_none (by have := hlen.out; omega)]; exact decide_eq_false fun e => by cases e)
    clear hk
    go_quiet (fail)
    go_wp2_with fail
    go_ret2
    exact ⟨by rw [hv.out, hpl.out]; rfl, draws hbw _⟩
end Go.Proofs.Ytpoenlhikanooaa.Top
/- Attributes behind a SetAttr: the program's attrsBehind. -/
namespace Go.Proofs.Ytpoenlhikanooaa.Top
open Go.RowKit
set_option maxRecDepth 20000
set_option linter.unusedVariables false

theorem ats_prt {T : Nat → Prop} {w : World} {A : Option Addr} {n c : Nat} {l : List (Txt × Txt)} (h : AtsIn T w A n l) (hT : ∀ k, T k → k < w.heap.size) (hnil : A = none → c = 0) (hnc : n ≤ c) (hn : n ≤ 100000) : (Prt.mk A n c (l.flatMap atc)).Ok 2 w := by
  refine ⟨by rw [chunk_len atc 2 atc_len, h.1], atc_one l, fun j u hj => ?_, hnil, hnc, hn⟩
  obtain ⟨q, i, x, rfl, -, h3, h4⟩ := chunk_at atc 2 atc_len (by omega) l j u hj
  obtain ⟨ad, e, hTd, -⟩ := h.2 q x h3
  have e' : A = some ad := e
  subst e'
  exact ⟨ad, rfl, hT _ hTd, h.news _ _ hj⟩
def restB (A : Option Addr) (c k : Nat) : Option Addr := if c = k then A else A.map fun a => a.add (k * 2)
theorem restB_ne {ad : Addr} {c k : Nat} (h : ¬ c = k) : restB (some ad) c k = some (ad.add (k * 2)) := if_neg h
theorem ats_take {w : World} {A : Option Addr} {n c k : Nat} {l : List (Txt × Txt)} (h : (Prt.mk A n c (l.flatMap atc)).Ok 2 w) (hl : l.length = n) (hk : k ≤ n) : (Prt.mk A k c ((l.take k).flatMap atc)).Ok 2 w := by
  have hnc := h.nc
  have hfew := h.few
  dsimp only at hnc hfew
  refine ⟨by rw [chunk_len atc 2 atc_len, List.length_take]; show min k l.length * 2 = k * 2; rw [Nat.min_eq_left (by omega)], atc_one _, fun j u hj => ?_, h.nil_, by show k ≤ c; omega, by show k ≤ 100000; omega⟩
  have hj2 : ((l.take k).flatMap atc)[j]? = some u := hj
  rw [chunk_take atc 2 atc_len, List.getElem?_take] at hj2
  split at hj2
  · exact h.cells j u hj2
  · cases hj2
theorem ats_drop {w : World} {A : Option Addr} {n c k : Nat} {l : List (Txt × Txt)} (h : (Prt.mk A n c (l.flatMap atc)).Ok 2 w) (hl : l.length = n) (hk : k ≤ n) : (Prt.mk (restB A c k) (n - k) (c - k) ((l.drop k).flatMap atc)).Ok 2 w := by
  have hnc := h.nc
  have hfew := h.few
  dsimp only at hnc hfew
  refine ⟨by rw [chunk_len atc 2 atc_len, List.length_drop]; show (l.length - k) * 2 = (n - k) * 2; rw [hl], atc_one _, fun j u hj => ?_, fun e => ?_, by show n - k ≤ c - k; omega, by show n - k ≤ 100000; omega⟩
  · have hj2 : ((l.drop k).flatMap atc)[j]? = some u := hj
    rw [chunk_drop atc 2 atc_len, List.getElem?_drop] at hj2
    obtain ⟨ad, e, hlt, hc⟩ := h.cells _ u hj2
    have e : A = some ad := e
    have hlen := (List.getElem?_eq_some_iff.1 hj2).1
    rw [chunk_len atc 2 atc_len, hl] at hlen
    have hck : ¬ c = k := by
      intro e2
      have : n = k := by omega
      subst this
      omega
    subst e
    exact ⟨ad.add (k * 2), restB_ne hck, by rw [block_add]; exact hlt, by rw [add_add]; exact hc⟩
  · have e : restB A c k = none := e
    unfold restB at e
    by_cases hck : c = k
    · rw [if_pos hck] at e
      have : c = 0 := h.nil_ e
      show c - k = 0
      omega
    · rw [if_neg hck] at e
      cases A with
      | none => have : c = 0 := h.nil_ rfl; show c - k = 0; omega
      | some ad => cases e
theorem ats_none {w : World} {A : Option Addr} (c : Nat) (h : A = none → c = 0) : (Prt.mk A 0 c []).Ok 2 w := ⟨rfl, fun u h => (by cases h), fun j u h => (by simp at h), h, Nat.zero_le _, Nat.zero_le _⟩
/-- a new row of attributes, read again -/
theorem ats_back {w : World} {base n : Nat} {v : Value} {l : List (Txt × Txt)} (h : w.ownsRow base 88 2 v n (l.flatMap atc)) (hn : n = l.length) (hs : ∀ x ∈ l, x.1.length ≤ maxLen ∧ x.2.length ≤ maxLen) :
    ∃ A c, v = .slice A n c ∧ AtsIn (fun k => base ≤ k ∧ k < w.heap.size) w A n l ∧ n ≤ c ∧ c ≤ maxLen ∧ (A = none → c = 0) := by
  subst hn
  obtain ⟨A, c, rfl, h1, h2, h3, h4⟩ := own_form h
  refine ⟨A, c, rfl, ⟨rfl, fun q x hx => ?_⟩, h1, h2, h3⟩
  have hq := (List.getElem?_eq_some_iff.1 hx).1
  obtain ⟨g, rfl, hb, hlt, hc⟩ := h4 (by omega)
  have hm := hs x (List.mem_of_getElem? hx)
  refine ⟨⟨g, 0, none⟩, rfl, ⟨hb, hlt⟩, hm.1, hm.2, ?_, ?_⟩
  · have := hc (q * 2 + 0) _ (chunk_of atc 2 atc_len l q 0 x _ hx rfl)
    rw [add_zero_off]
    exact this
  · have := hc (q * 2 + 1) _ (chunk_of atc 2 atc_len l q 1 x _ hx rfl)
    rw [add_zero_off]
    exact this
theorem place_le (k : Txt) (l : List (Txt × Txt)) : placeP k l ≤ l.length := List.countP_le_length
/-- the parts put together: two, or three with a new attribute amid -/
theorem two_parts (W : World) (A A3 : Option Addr) (p c n3 c3 : Nat) (xs ys : List (Txt × Txt)) (h1 : (Prt.mk A p c (xs.flatMap atc)).Ok 2 W) (h3 : (Prt.mk A3 n3 c3 (ys.flatMap atc)).Ok 2 W) (hz : p + n3 ≤ 200000) :
    Calls Try.prog 149 #[.slice (some ⟨W.heap.size, 0, none⟩) 2 2] (W.alloc (.cells #[.slice A p c, .slice A3 n3 c3] 39)) fun e w' => ∃ v, e = .returned v ∧ w'.ownsRow (W.heap.size + 1) 88 2 v (p + n3) ((xs ++ ys).flatMap atc) ∧ Below W.heap.size W w' := by
  obtain ⟨W7, hW7⟩ : ∃ W7, W7 = W.alloc (.cells #[.slice A p c, .slice A3 n3 c3] 39) := ⟨_, rfl⟩
  rw [← hW7]
  have hb : Below W.heap.size W W7 := by rw [hW7]; exact (Below.refl _ _).alloc (Nat.le_refl _) _
  have hs7 : W7.heap.size = W.heap.size + 1 := by rw [hW7]; simp
  have g3 : W7.heap[W.heap.size]? = some (.cells #[.slice A p c, .slice A3 n3 c3] 39 (0, 0)) := by rw [hW7]; exact heap_alloc_new W _
  have hS : sumN [Prt.mk A p c (xs.flatMap atc), Prt.mk A3 n3 c3 (ys.flatMap atc)] = p + n3 := by simp [sumN]
  have hC : catV [Prt.mk A p c (xs.flatMap atc), Prt.mk A3 n3 c3 (ys.flatMap atc)] = (xs ++ ys).flatMap atc := by simp [catV]
  have := concatA W7 W.heap.size 2 2 [Prt.mk A p c (xs.flatMap atc), Prt.mk A3 n3 c3 (ys.flatMap atc)] rfl (by decide) (fun i q hq => by
    rw [add_zero_off]
    match i, hq with
    | 0, hq => injection hq with hq; subst hq; exact cell_of_row W7 _ 0 _ _ _ g3
    | 1, hq => injection hq with hq; subst hq; exact cell_of_row W7 _ 1 _ _ _ g3
    | i + 2, hq => simp at hq) (by omega) (fun q hq => by
    simp only [List.mem_cons, List.not_mem_nil, or_false] at hq
    rcases hq with rfl | rfl
    · exact h1.below hb
    · exact h3.below hb) (by rw [hS]; omega)
  rw [hS, hC, hs7] at this
  refine this.mono ?_
  rintro e w8 ⟨v8, rfl, ho8, hb8⟩
  exact ⟨v8, rfl, ho8, hb.trans (hb8.mono (by omega))⟩
theorem three_parts (W : World) (A A3 : Option Addr) (p c n3 c3 : Nat) (k v : Txt) (xs ys : List (Txt × Txt)) (h1 : (Prt.mk A p c (xs.flatMap atc)).Ok 2 W) (h3 : (Prt.mk A3 n3 c3 (ys.flatMap atc)).Ok 2 W) (hz : p + n3 ≤ 200000) :
    Calls Try.prog 149 #[.slice (some ⟨W.heap.size + 1, 0, none⟩) 3 3] ((W.alloc (.cells #[.string ⟨k.toArray⟩, .string ⟨v.toArray⟩] 88)).alloc (.cells #[.slice A p c, .slice (some ⟨W.heap.size, 0, none⟩) 1 1, .slice A3 n3 c3] 39)) fun e w' => ∃ r, e = .returned r ∧ w'.ownsRow (W.heap.size + 2) 88 2 r (p + (1 + n3)) ((xs ++ ([(k, v)] ++ ys)).flatMap atc) ∧ Below W.heap.size W w' := by
  obtain ⟨W6, hW6⟩ : ∃ W6, W6 = W.alloc (.cells #[.string ⟨k.toArray⟩, .string ⟨v.toArray⟩] 88) := ⟨_, rfl⟩
  have hs6 : W6.heap.size = W.heap.size + 1 := by rw [hW6]; simp
  have hb6 : Below W.heap.size W W6 := by rw [hW6]; exact (Below.refl _ _).alloc (Nat.le_refl _) _
  have g6 : W6.heap[W.heap.size]? = some (.cells #[.string ⟨k.toArray⟩, .string ⟨v.toArray⟩] 88 (0, 0)) := by rw [hW6]; exact heap_alloc_new W _
  rw [← hW6]
  obtain ⟨W7, hW7⟩ : ∃ W7, W7 = W6.alloc (.cells #[.slice A p c, .slice (some ⟨W.heap.size, 0, none⟩) 1 1, .slice A3 n3 c3] 39) := ⟨_, rfl⟩
  rw [← hW7]
  have hb67 : Below W6.heap.size W6 W7 := by rw [hW7]; exact (Below.refl _ _).alloc (Nat.le_refl _) _
  have hb : Below W.heap.size W W7 := hb6.trans (hb67.mono hb6.size)
  have hs7 : W7.heap.size = W.heap.size + 2 := by rw [hW7]; simp; omega
  have g3 : W7.heap[W.heap.size + 1]? = some (.cells #[.slice A p c, .slice (some ⟨W.heap.size, 0, none⟩) 1 1, .slice A3 n3 c3] 39 (0, 0)) := by rw [hW7, ← hs6]; exact heap_alloc_new W6 _
  have g7 : W7.heap[W.heap.size]? = some (.cells #[.string ⟨k.toArray⟩, .string ⟨v.toArray⟩] 88 (0, 0)) := (hb67.block _ (by omega)).trans g6
  have h2 : (Prt.mk (some ⟨W.heap.size, 0, none⟩) 1 1 (([(k, v)] : List (Txt × Txt)).flatMap atc)).Ok 2 W7 := by
    refine ⟨rfl, atc_one _, fun j u hj => ?_, fun e => (by cases e), Nat.le_refl _, (by show (1 : Nat) ≤ 100000; decide)⟩
    refine ⟨_, rfl, by show W.heap.size < _; omega, ?_⟩
    rw [add_zero_off]
    match j, hj with
    | 0, hj => injection hj with hj; subst hj; exact cell_of_row W7 _ 0 _ _ _ g7
    | 1, hj => injection hj with hj; subst hj; exact cell_of_row W7 _ 1 _ _ _ g7
    | j + 2, hj => simp [atc] at hj
  have hS : sumN [Prt.mk A p c (xs.flatMap atc), Prt.mk (some ⟨W.heap.size, 0, none⟩) 1 1 (([(k, v)] : List (Txt × Txt)).flatMap atc), Prt.mk A3 n3 c3 (ys.flatMap atc)] = p + (1 + n3) := by simp [sumN]
  have hC : catV [Prt.mk A p c (xs.flatMap atc), Prt.mk (some ⟨W.heap.size, 0, none⟩) 1 1 (([(k, v)] : List (Txt × Txt)).flatMap atc), Prt.mk A3 n3 c3 (ys.flatMap atc)] = (xs ++ ([(k, v)] ++ ys)).flatMap atc := by simp [catV]
  have := concatA W7 (W.heap.size + 1) 3 3 [Prt.mk A p c (xs.flatMap atc), Prt.mk (some ⟨W.heap.size, 0, none⟩) 1 1 (([(k, v)] : List (Txt × Txt)).flatMap atc), Prt.mk A3 n3 c3 (ys.flatMap atc)] rfl (by decide) (fun i q hq => by
    rw [add_zero_off]
    match i, hq with
    | 0, hq => injection hq with hq; subst hq; exact cell_of_row W7 _ 0 _ _ _ g3
    | 1, hq => injection hq with hq; subst hq; exact cell_of_row W7 _ 1 _ _ _ g3
    | 2, hq => injection hq with hq; subst hq; exact cell_of_row W7 _ 2 _ _ _ g3
    | i + 3, hq => simp at hq) (by omega) (fun q hq => by
    simp only [List.mem_cons, List.not_mem_nil, or_false] at hq
    rcases hq with rfl | rfl | rfl
    · exact h1.below hb
    · exact h2
    · exact h3.below hb) (by rw [hS]; omega)
  rw [hS, hC, hs7] at this
  refine this.mono ?_
  rintro e w8 ⟨v8, rfl, ho8, hb8⟩
  exact ⟨v8, rfl, ho8, hb.trans (hb8.mono (by omega))⟩
/-- attributes are answered, in new blocks -/
def AtsA (w : World) (l : List (Txt × Txt)) (e : Ending) (w' : World) : Prop :=
  ∃ A' n' c', e = .returned (.slice A' n' c') ∧ AtsIn (fun k => w.heap.size ≤ k ∧ k < w'.heap.size) w' A' n' l ∧ n' ≤ c' ∧ c' ≤ maxLen ∧ (A' = none → c' = 0) ∧ Below w.heap.size w w'
theorem AtsA.of {w W w' : World} {l : List (Txt × Txt)} {v : Value} {b n : Nat} (h : w'.ownsRow b 88 2 v n (l.flatMap atc)) (hn : n = l.length) (hs : ∀ x ∈ l, x.1.length ≤ maxLen ∧ x.2.length ≤ maxLen) (hw : Below w.heap.size w W) (hb : Below W.heap.size W w') (hwb : w.heap.size ≤ b) : AtsA w l (.returned v) w' := by
  obtain ⟨A, c, rfl, h1, h2, h3, h4⟩ := ats_back h hn hs
  exact ⟨A, n, c, rfl, h1.kept (fun k hk => ⟨Nat.le_trans hwb hk.1, hk.2⟩) (fun _ _ => rfl), h2, h3, h4, hw.trans (hb.mono hw.size)⟩
set_option maxHeartbeats 8000000 in
theorem attrsBehind_any (w : World) (T : Nat → Prop) (hT : ∀ k, T k → k < w.heap.size) (A : Option Addr) (n c : Nat) (l : List (Txt × Txt)) (o : Ov) (s : OS) (ho : OpIn w o s) (hl : AtsIn T w A n l) (hnil : A = none → c = 0) (hnc : n ≤ c) (hcm : c ≤ maxLen) (hn : n ≤ 90000) (hok : attrsOk ltB [] l = true) :
    Calls Try.prog 112 #[.slice A n c, .agg (opCells o s)] w (AtsA w (progA o.key o.value o.gone l)) := by
  obtain ⟨W1, hW1⟩ : ∃ W1, W1 = w.alloc (.cells (opCells o s) 26) := ⟨_, rfl⟩
  have z1 : W1.heap[w.heap.size]? = some (.cells (opCells o s) 26 (0, 0)) := by rw [hW1]; exact heap_alloc_new w _
  have hb1 : Below w.heap.size w W1 := by rw [hW1]; exact (Below.refl _ _).alloc (Nat.le_refl _) _
  have hT1 : ∀ k, T k → k < W1.heap.size := fun k hk => Nat.lt_of_lt_of_le (hT k hk) hb1.size
  have hpl := Lib.hid (placeOf_any W1 T hT1 A n c l o.key (hl.kept (fun _ h => h) fun k hk => hb1.block k (hT k hk)) (by omega) hok)
  have hprt := ats_prt hl hT hnil hnc (by omega)
  have hp := place_le o.key l
  have hlen := hl.1
  have hst := Lib.hid (fun (x : Txt × Txt) (hx : x ∈ progA o.key o.value o.gone l) => show x.1.length ≤ maxLen ∧ x.2.length ≤ maxLen from by
    have hold : ∀ y ∈ l, y.1.length ≤ maxLen ∧ y.2.length ≤ maxLen := fun y hy => by
      obtain ⟨q, hq, e⟩ := List.getElem_of_mem hy
      obtain ⟨ad, -, -, h1, h2, -⟩ := hl.2 q y (by rw [← e]; exact List.getElem?_eq_getElem hq)
      exact ⟨h1, h2⟩
    unfold progA at hx
    rw [List.mem_append, List.mem_append] at hx
    rcases hx with hx | hx | hx
    · exact hold x (List.mem_of_mem_take hx)
    · cases hgn : o.gone with
      | true => rw [hgn] at hx; simp at hx
      | false => rw [hgn] at hx; simp at hx; subst hx; exact ⟨ho.key, ho.value⟩
    · split at hx
      · exact hold x (List.mem_of_mem_drop hx)
      · exact hold x (List.mem_of_mem_drop hx))
  have hP := Lib.hid (fun (W : World) (hb : Below w.heap.size w W) => (ats_take hprt hlen (k := placeP o.key l) (by omega)).below hb)
  have hD := Lib.hid (fun (k : Nat) (hk : k ≤ n) (W : World) (hb : Below w.heap.size w W) => (ats_drop hprt hlen (k := k) hk).below hb)
  have hdf := Lib.hid (show progA o.key o.value o.gone l = l.take (placeP o.key l) ++ ((if o.gone then [] else [(o.key, o.value)]) ++ (if thereB o.key l = true then l.drop (placeP o.key l + 1) else l.drop (placeP o.key l))) by
    unfold progA thereB
    simp only [decide_eq_true_eq])
  have hthere := Lib.hid (fun (h : thereB o.key l = true) => show placeP o.key l < n from by
    unfold thereB at h
    have h := of_decide_eq_true h
    cases hx : l[placeP o.key l]? with
    | none => rw [hx] at h; cases h
    | some x => have := (List.getElem?_eq_some_iff.1 hx).1; omega)
  obtain ⟨p, hpe⟩ : ∃ p, p = placeP o.key l := ⟨_, rfl⟩
  obtain ⟨th, hthe⟩ : ∃ th, th = thereB o.key l := ⟨_, rfl⟩
  rw [← hpe, ← hthe] at hpl hthere
  rw [← hpe, ← hthe] at hdf
  rw [← hpe] at hP hp
  have hlen' := Lib.hid hlen
  obtain ⟨o0, o1, o2, o3, o4, o5, o6, o7, o8, o9, o10⟩ := op_cells z1
  have hz1 := Lib.hid z1
  have hb1' := Lib.hid hb1
  rw [hW1] at o7 hpl
  rw [hlen] at hp
  clear hT hT1 hl hb1 z1 hprt hlen hok ho o0 o1 o2 o3 o4 o5 o6 o8 o9 o10 hpe hthe
  unfold opCells at hpl o7 hW1
  unfold opCells
  go_enter Try.func112, Try.ntmps112
  go_wp2_with (go_at_call 148; go_loud (refine hpl.out.mono ?_; rw [← hW1]; rintro e w1 ⟨rfl, hb⟩; have hbw := hb1'.out.trans (hb.mono hb1'.out.size); have r1 := (hb.block w.heap.size (Array.getElem?_eq_some_iff.1 hz1.out).1).trans hz1.out; clear o7; obtain ⟨o0, o1, o2, o3, o4, o5, o6, o7, o8, o9, o10⟩ := op_cells r1; clear hb r1))
  have hbw' := Lib.hid hbw
  clear hpl hW1 hbw o0 o1 o2 o3 o4 o5 o6 o10
  have k0 : (0 : Int) ≤ (p : Int) := by omega
  have k1 : (p : Int) ≤ (n : Int) := by omega
  have k2 : (p : Int) ≤ (c : Int) := by omega
  have k3 : (n : Int) ≤ (c : Int) := by omega
  unfold maxLen at hcm
  cases A with
  | none =>
    obtain rfl : c = 0 := hnil rfl
    obtain rfl : n = 0 := by omega
    obtain rfl : p = 0 := by omega
    have hf : th = false := by cases th with
      | false => rfl
      | true => have := hthere.out rfl; omega
    subst hf
    go_quiet (fail)
    obtain ⟨W, hWe⟩ : ∃ W, W = w1.drewN nq := ⟨_, rfl⟩
    have hbW := Lib.hid (show Below w.heap.size w W by rw [hWe]; exact draws hbw'.out _)
    have x7 : W.cell? ⟨w.heap.size, 7, none⟩ = some (.string ⟨o.key.toArray⟩) := by rw [hWe]; exact o7
    have x8 : W.cell? ⟨w.heap.size, 8, none⟩ = some (.string ⟨o.value.toArray⟩) := by rw [hWe]; exact o8
    have x9 : W.cell? ⟨w.heap.size, 9, none⟩ = some (.bool o.gone) := by rw [hWe]; exact o9
    rw [← hWe]
    clear hWe o7 o8 o9
    have hlW : w.heap.size < W.heap.size := World.block_lt_of_cell? _ _ x7
    cases hgn : o.gone with
    | true =>
      rw [hgn] at x9 hdf
      have hgn' := Lib.hid hgn
      clear hgn
      go_wp2_with (go_at_call 149; go_loud (refine (two_parts W _ _ _ _ _ _ (l.take 0) (l.drop 0) (hP.out W hbW.out) (by first | exact hD.out 0 (Nat.le_refl _) W hbW.out) (by omega)).mono ?_; rintro e w8 ⟨v8, rfl, ho8, hb8⟩; have ho8' := Lib.hid ho8; have hb8' := Lib.hid hb8; clear ho8 hb8))
      go_ret
      have hst2 := hst.out
      rw [hgn'.out] at hst2 ⊢
      rw [hdf.out] at hst2 ⊢
      simp only [Bool.false_eq_true, if_true, if_false, List.nil_append] at hst2 ⊢
      exact AtsA.of ho8'.out (by have := hlen'.out; simp only [List.length_append, List.length_take, List.length_drop, List.length_cons, List.length_nil]; omega) hst2 hbW.out hb8'.out (by omega)
    | false =>
      rw [hgn] at x9 hdf
      have hgn' := Lib.hid hgn
      clear hgn
      go_wp2_with (go_at_call 149; go_loud (have y9 := x9; refine (three_parts W _ _ _ _ _ _ o.key o.value (l.take 0) (l.drop 0) (hP.out W hbW.out) (by first | exact hD.out 0 (Nat.le_refl _) W hbW.out) (by omega)).mono ?_; rintro e w8 ⟨v8, rfl, ho8, hb8⟩; have ho8' := Lib.hid ho8; have hb8' := Lib.hid hb8; clear ho8 hb8))
      go_ret
      have hst2 := hst.out
      rw [hgn'.out] at hst2 ⊢
      rw [hdf.out] at hst2 ⊢
      simp only [Bool.false_eq_true, if_true, if_false, List.nil_append] at hst2 ⊢
      exact AtsA.of ho8'.out (by have := hlen'.out; simp only [List.length_append, List.length_take, List.length_drop, List.length_cons, List.length_nil]; omega) hst2 hbW.out hb8'.out (by omega)
  | some ad =>
    cases th with
    | false =>
      by_cases hcp : c = p
      · have hcp2 : p = c := hcp.symm
        subst hcp2
        have hnp : p = n := by omega
        subst hnp
        go_quiet (fail)
        obtain ⟨W, hWe⟩ : ∃ W, W = w1.drewN nq := ⟨_, rfl⟩
        have hbW := Lib.hid (show Below w.heap.size w W by rw [hWe]; exact draws hbw'.out _)
        have x7 : W.cell? ⟨w.heap.size, 7, none⟩ = some (.string ⟨o.key.toArray⟩) := by rw [hWe]; exact o7
        have x8 : W.cell? ⟨w.heap.size, 8, none⟩ = some (.string ⟨o.value.toArray⟩) := by rw [hWe]; exact o8
        have x9 : W.cell? ⟨w.heap.size, 9, none⟩ = some (.bool o.gone) := by rw [hWe]; exact o9
        rw [← hWe]
        clear hWe o7 o8 o9
        have hlW : w.heap.size < W.heap.size := World.block_lt_of_cell? _ _ x7
        cases hgn : o.gone with
        | true =>
          rw [hgn] at x9 hdf
          have hgn' := Lib.hid hgn
          clear hgn
          go_wp2_with (go_at_call 149; go_loud (refine (two_parts W _ _ _ _ _ _ (l.take p) (l.drop p) (hP.out W hbW.out) (by have h9 := hD.out p (Nat.le_refl _) W hbW.out; unfold restB at h9; rw [if_pos rfl] at h9; simpa using h9) (by omega)).mono ?_; rintro e w8 ⟨v8, rfl, ho8, hb8⟩; have ho8' := Lib.hid ho8; have hb8' := Lib.hid hb8; clear ho8 hb8))
          go_ret
          have hst2 := hst.out
          rw [hgn'.out] at hst2 ⊢
          rw [hdf.out] at hst2 ⊢
          simp only [Bool.false_eq_true, if_true, if_false, List.nil_append] at hst2 ⊢
          exact AtsA.of ho8'.out (by have := hlen'.out; simp only [List.length_append, List.length_take, List.length_drop, List.length_cons, List.length_nil]; omega) hst2 hbW.out hb8'.out (by omega)
        | false =>
          rw [hgn] at x9 hdf
          have hgn' := Lib.hid hgn
          clear hgn
          go_wp2_with (go_at_call 149; go_loud (have y9 := x9; refine (three_parts W _ _ _ _ _ _ o.key o.value (l.take p) (l.drop p) (hP.out W hbW.out) (by have h9 := hD.out p (Nat.le_refl _) W hbW.out; unfold restB at h9; rw [if_pos rfl] at h9; simpa using h9) (by omega)).mono ?_; rintro e w8 ⟨v8, rfl, ho8, hb8⟩; have ho8' := Lib.hid ho8; have hb8' := Lib.hid hb8; clear ho8 hb8))
          go_ret
          have hst2 := hst.out
          rw [hgn'.out] at hst2 ⊢
          rw [hdf.out] at hst2 ⊢
          simp only [Bool.false_eq_true, if_true, if_false, List.nil_append] at hst2 ⊢
          exact AtsA.of ho8'.out (by have := hlen'.out; simp only [List.length_append, List.length_take, List.length_drop, List.length_cons, List.length_nil]; omega) hst2 hbW.out hb8'.out (by omega)
      · have hcp2 : (c = p) = False := eq_false hcp
        go_quiet (fail)
        obtain ⟨W, hWe⟩ : ∃ W, W = w1.drewN nq := ⟨_, rfl⟩
        have hbW := Lib.hid (show Below w.heap.size w W by rw [hWe]; exact draws hbw'.out _)
        have x7 : W.cell? ⟨w.heap.size, 7, none⟩ = some (.string ⟨o.key.toArray⟩) := by rw [hWe]; exact o7
        have x8 : W.cell? ⟨w.heap.size, 8, none⟩ = some (.string ⟨o.value.toArray⟩) := by rw [hWe]; exact o8
        have x9 : W.cell? ⟨w.heap.size, 9, none⟩ = some (.bool o.gone) := by rw [hWe]; exact o9
        rw [← hWe]
        clear hWe o7 o8 o9
        have hlW : w.heap.size < W.heap.size := World.block_lt_of_cell? _ _ x7
        cases hgn : o.gone with
        | true =>
          rw [hgn] at x9 hdf
          have hgn' := Lib.hid hgn
          clear hgn
          go_wp2_with (go_at_call 149; go_loud (refine (two_parts W _ _ _ _ _ _ (l.take p) (l.drop p) (hP.out W hbW.out) (by have h9 := hD.out p (by omega) W hbW.out; rw [restB_ne hcp] at h9; exact h9) (by omega)).mono ?_; rintro e w8 ⟨v8, rfl, ho8, hb8⟩; have ho8' := Lib.hid ho8; have hb8' := Lib.hid hb8; clear ho8 hb8))
          go_ret
          have hst2 := hst.out
          rw [hgn'.out] at hst2 ⊢
          rw [hdf.out] at hst2 ⊢
          simp only [Bool.false_eq_true, if_true, if_false, List.nil_append] at hst2 ⊢
          exact AtsA.of ho8'.out (by have := hlen'.out; simp only [List.length_append, List.length_take, List.length_drop, List.length_cons, List.length_nil]; omega) hst2 hbW.out hb8'.out (by omega)
        | false =>
          rw [hgn] at x9 hdf
          have hgn' := Lib.hid hgn
          clear hgn
          go_wp2_with (go_at_call 149; go_loud (have y9 := x9; refine (three_parts W _ _ _ _ _ _ o.key o.value (l.take p) (l.drop p) (hP.out W hbW.out) (by have h9 := hD.out p (by omega) W hbW.out; rw [restB_ne hcp] at h9; exact h9) (by omega)).mono ?_; rintro e w8 ⟨v8, rfl, ho8, hb8⟩; have ho8' := Lib.hid ho8; have hb8' := Lib.hid hb8; clear ho8 hb8))
          go_ret
          have hst2 := hst.out
          rw [hgn'.out] at hst2 ⊢
          rw [hdf.out] at hst2 ⊢
          simp only [Bool.false_eq_true, if_true, if_false, List.nil_append] at hst2 ⊢
          exact AtsA.of ho8'.out (by have := hlen'.out; simp only [List.length_append, List.length_take, List.length_drop, List.length_cons, List.length_nil]; omega) hst2 hbW.out hb8'.out (by omega)
    | true =>
      have hpn := hthere.out rfl
      have hcp : ¬ c = p := by omega
      have k4 : (1 : Int) ≤ (c : Int) - (p : Int) := by omega
      have k5 : (1 : Int) ≤ (n : Int) - (p : Int) := by omega
      have k6 : 1 ≤ c - p := by omega
      have k7 : 1 ≤ n - p := by omega
      by_cases hc1 : c - p = 1
      · obtain rfl : c = p + 1 := by omega
        obtain rfl : n = p + 1 := by omega
        go_quiet (fail)
        obtain ⟨W, hWe⟩ : ∃ W, W = w1.drewN nq := ⟨_, rfl⟩
        have hbW := Lib.hid (show Below w.heap.size w W by rw [hWe]; exact draws hbw'.out _)
        have x7 : W.cell? ⟨w.heap.size, 7, none⟩ = some (.string ⟨o.key.toArray⟩) := by rw [hWe]; exact o7
        have x8 : W.cell? ⟨w.heap.size, 8, none⟩ = some (.string ⟨o.value.toArray⟩) := by rw [hWe]; exact o8
        have x9 : W.cell? ⟨w.heap.size, 9, none⟩ = some (.bool o.gone) := by rw [hWe]; exact o9
        rw [← hWe]
        clear hWe o7 o8 o9
        have hlW : w.heap.size < W.heap.size := World.block_lt_of_cell? _ _ x7
        cases hgn : o.gone with
        | true =>
          rw [hgn] at x9 hdf
          have hgn' := Lib.hid hgn
          clear hgn
          go_wp2_with (go_at_call 149; go_loud (refine (two_parts W _ _ _ _ _ _ (l.take p) (l.drop (p + 1)) (hP.out W hbW.out) (by rw [List.drop_of_length_le (by have := hlen'.out; omega)]; first | exact ats_none _ (fun e => by cases e) | (have h9 := ats_none (w := W) (A := some (ad.add (p * 2))) 0 (fun e => by cases e); simpa using h9)) (by omega)).mono ?_; rintro e w8 ⟨v8, rfl, ho8, hb8⟩; have ho8' := Lib.hid ho8; have hb8' := Lib.hid hb8; clear ho8 hb8))
          go_ret
          have hst2 := hst.out
          rw [hgn'.out] at hst2 ⊢
          rw [hdf.out] at hst2 ⊢
          simp only [Bool.false_eq_true, if_true, if_false, List.nil_append] at hst2 ⊢
          exact AtsA.of ho8'.out (by have := hlen'.out; simp only [List.length_append, List.length_take, List.length_drop, List.length_cons, List.length_nil]; omega) hst2 hbW.out hb8'.out (by omega)
        | false =>
          rw [hgn] at x9 hdf
          have hgn' := Lib.hid hgn
          clear hgn
          go_wp2_with (go_at_call 149; go_loud (have y9 := x9; refine (three_parts W _ _ _ _ _ _ o.key o.value (l.take p) (l.drop (p + 1)) (hP.out W hbW.out) (by rw [List.drop_of_length_le (by have := hlen'.out; omega)]; first | exact ats_none _ (fun e => by cases e) | (have h9 := ats_none (w := W) (A := some (ad.add (p * 2))) 0 (fun e => by cases e); simpa using h9)) (by omega)).mono ?_; rintro e w8 ⟨v8, rfl, ho8, hb8⟩; have ho8' := Lib.hid ho8; have hb8' := Lib.hid hb8; clear ho8 hb8))
          go_ret
          have hst2 := hst.out
          rw [hgn'.out] at hst2 ⊢
          rw [hdf.out] at hst2 ⊢
          simp only [Bool.false_eq_true, if_true, if_false, List.nil_append] at hst2 ⊢
          exact AtsA.of ho8'.out (by have := hlen'.out; simp only [List.length_append, List.length_take, List.length_drop, List.length_cons, List.length_nil]; omega) hst2 hbW.out hb8'.out (by omega)
      · have hcp3 : ¬ c = p + 1 := by omega
        go_quiet (fail)
        obtain ⟨W, hWe⟩ : ∃ W, W = w1.drewN nq := ⟨_, rfl⟩
        have hbW := Lib.hid (show Below w.heap.size w W by rw [hWe]; exact draws hbw'.out _)
        have x7 : W.cell? ⟨w.heap.size, 7, none⟩ = some (.string ⟨o.key.toArray⟩) := by rw [hWe]; exact o7
        have x8 : W.cell? ⟨w.heap.size, 8, none⟩ = some (.string ⟨o.value.toArray⟩) := by rw [hWe]; exact o8
        have x9 : W.cell? ⟨w.heap.size, 9, none⟩ = some (.bool o.gone) := by rw [hWe]; exact o9
        rw [← hWe]
        clear hWe o7 o8 o9
        have hlW : w.heap.size < W.heap.size := World.block_lt_of_cell? _ _ x7
        cases hgn : o.gone with
        | true =>
          rw [hgn] at x9 hdf
          have hgn' := Lib.hid hgn
          clear hgn
          go_wp2_with (go_at_call 149; go_loud (refine (two_parts W _ _ _ _ _ _ (l.take p) (l.drop (p + 1)) (hP.out W hbW.out) (by have h9 := hD.out (p + 1) (by omega) W hbW.out; rw [restB_ne hcp3, show (p + 1) * 2 = p * 2 + 2 by omega, ← add_add, add_off _ 2 (by decide), show n - (p + 1) = n - p - 1 by omega, show c - (p + 1) = c - p - 1 by omega] at h9; exact h9) (by omega)).mono ?_; rintro e w8 ⟨v8, rfl, ho8, hb8⟩; have ho8' := Lib.hid ho8; have hb8' := Lib.hid hb8; clear ho8 hb8))
          go_ret
          have hst2 := hst.out
          rw [hgn'.out] at hst2 ⊢
          rw [hdf.out] at hst2 ⊢
          simp only [Bool.false_eq_true, if_true, if_false, List.nil_append] at hst2 ⊢
          exact AtsA.of ho8'.out (by have := hlen'.out; simp only [List.length_append, List.length_take, List.length_drop, List.length_cons, List.length_nil]; omega) hst2 hbW.out hb8'.out (by omega)
        | false =>
          rw [hgn] at x9 hdf
          have hgn' := Lib.hid hgn
          clear hgn
          go_wp2_with (go_at_call 149; go_loud (have y9 := x9; refine (three_parts W _ _ _ _ _ _ o.key o.value (l.take p) (l.drop (p + 1)) (hP.out W hbW.out) (by have h9 := hD.out (p + 1) (by omega) W hbW.out; rw [restB_ne hcp3, show (p + 1) * 2 = p * 2 + 2 by omega, ← add_add, add_off _ 2 (by decide), show n - (p + 1) = n - p - 1 by omega, show c - (p + 1) = c - p - 1 by omega] at h9; exact h9) (by omega)).mono ?_; rintro e w8 ⟨v8, rfl, ho8, hb8⟩; have ho8' := Lib.hid ho8; have hb8' := Lib.hid hb8; clear ho8 hb8))
          go_ret
          have hst2 := hst.out
          rw [hgn'.out] at hst2 ⊢
          rw [hdf.out] at hst2 ⊢
          simp only [Bool.false_eq_true, if_true, if_false, List.nil_append] at hst2 ⊢
          exact AtsA.of ho8'.out (by have := hlen'.out; simp only [List.length_append, List.length_take, List.length_drop, List.length_cons, List.length_nil]; omega) hst2 hbW.out hb8'.out (by omega)
end Go.Proofs.Ytpoenlhikanooaa.Top
/- The document's change, put, drop. -/
namespace Go.Proofs.Ytpoenlhikanooaa.Top
open Go.RowKit
set_option maxRecDepth 20000
set_option linter.unusedVariables false

end Go.Proofs.Ytpoenlhikanooaa.Top
/- The document's put and drop. -/
namespace Go.Proofs.Ytpoenlhikanooaa.Top
open Go.RowKit
set_option maxRecDepth 20000
set_option linter.unusedVariables false

end Go.Proofs.Ytpoenlhikanooaa.Top
/- The document's put and drop. -/
namespace Go.Proofs.Ytpoenlhikanooaa.Top
open Go.RowKit
set_option maxRecDepth 20000
set_option linter.unusedVariables false

end Go.Proofs.Ytpoenlhikanooaa.Top
