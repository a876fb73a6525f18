/- A tree with another node at a path: the program's. -/
import Derived.Deep.Cut
import Derived.Test.YtacmofhlbebonaaTreV
namespace Go.Proofs.Ytacmofhlbebonaa
open Go.RowKit
set_option maxRecDepth 20000

theorem hole_below {b0 eb eo : Nat} {W W' : World} {f : Nd → Nd} (h : Hole b0 W eb eo f) (heb : eb < W.heap.size) (hb : Below W.heap.size W W') : Hole b0 W' eb eo f := fun W2 z hz ho hc hN =>
  h W2 z (Nat.le_trans hb.size hz) (fun k hk hne => (ho k (Nat.lt_of_lt_of_le hk hb.size) hne).trans (hb.block k hk)) (fun o h => (hc o h).trans (hb.cell (p := ⟨eb, o, none⟩) heb)) hN
theorem Owned.some_ {w w' : World} {T : Nat → Prop} {t : Nd} {aA kA : Option Addr} {an ac kn kc gA : Nat} {ks : List KV} (h : Owned w w' T t aA an ac kA kn kc gA ks) (hk : 0 < kn) : ∃ g, kA = some ⟨g, 0, none⟩ := by
  rcases h.row.2 with ⟨h0, h1⟩ | ⟨g', cap, cur, e, -⟩
  · have := h.len
    omega
  · injection e with e1 e2 e3
    exact ⟨g', e1⟩
theorem putV_none {s x : Nd} {i : Int} {r : List Int} (h : hasB s.kids.length i = false) : putV s (i :: r) x = none := by
  unfold hasB at h
  have h := of_decide_eq_false h
  simp only [putV]
  split
  · rw [List.getElem?_eq_none (by omega)]
  · rfl
theorem putV_some {s k x : Nd} {j : Nat} {r : List Int} (h : s.kids[j]? = some k) : putV s ((j : Int) :: r) x = (putV k r x).map fun z => s.withKids (s.kids.set j z) := by
  simp only [putV]
  rw [if_pos (by omega)]
  simp only [Int.toNat_natCast, h]
  cases putV k r x <;> rfl
/-- what Put answers -/
def PutAns (w : World) (t : Nd) (p : List Int) (x : Nd) (e : Ending) (w' : World) : Prop :=
  ∃ aA an ac kA kn kc, e = .returned (.tuple #[.agg (val6 ((putV t p x).getD Nd.zero) aA an ac kA kn kc), .bool (putV t p x).isSome]) ∧ NodeV (Old w') w' aA an ac kA kn kc ((putV t p x).getD Nd.zero) ∧ Below w.heap.size w w'
set_option maxHeartbeats 8000000 in
theorem put_any (w : World) (t x : Nd) (aA kA xA xkA : Option Addr) (an ac kn kc xn xc xkn xkc : Nat) (h : NodeV (Old w) w aA an ac kA kn kc t) (hx : NodeV (Old w) w xA xn xc xkA xkn xkc x) (pA : Option Addr) (pn pc : Nat) (p : List Int) (hp : Its w pA pn p) (hpn : pn ≤ maxLen)
    (hbig : weighV t ≤ 1000000) (hbigx : weighV x ≤ 1000000) :
    Calls Try.prog 31 #[.agg (val6 t aA an ac kA kn kc), .slice pA pn pc, .agg (val6 x xA xn xc xkA xkn xkc)] w (PutAns w t p x) := by
  have h' := Lib.hid h
  have hx' := Lib.hid hx
  have hp' := Lib.hid hp
  have hpl := Lib.hid hp.1
  have hbigx' := Lib.hid hbigx
  clear h hx hp hbigx
  unfold maxLen at hpn
  obtain ⟨W3, hW3⟩ : ∃ W3, W3 = ((w.alloc (.cells (val6 t aA an ac kA kn kc) 26)).alloc (.cells (val6 x xA xn xc xkA xkn xkc) 26)).alloc (.cells zero6 26) := ⟨_, rfl⟩
  have hstart := Lib.hid (show W3.heap[w.heap.size]? = some (.cells (val6 t aA an ac kA kn kc) 26 (0, 0)) ∧ W3.heap[w.heap.size + 1]? = some (.cells (val6 x xA xn xc xkA xkn xkc) 26 (0, 0)) ∧ W3.heap[w.heap.size + 1 + 1]? = some (.cells zero6 26 (0, 0)) ∧ Below w.heap.size w W3 by
    rw [hW3]
    have h1 := heap_alloc_new w (.cells (val6 t aA an ac kA kn kc) 26)
    have h2 := heap_alloc_new (w.alloc (.cells (val6 t aA an ac kA kn kc) 26)) (.cells (val6 x xA xn xc xkA xkn xkc) 26)
    have h3 := heap_alloc_new ((w.alloc (.cells (val6 t aA an ac kA kn kc) 26)).alloc (.cells (val6 x xA xn xc xkA xkn xkc) 26)) (.cells zero6 26)
    rw [World.size_alloc] at h2
    rw [World.size_alloc, World.size_alloc] at h3
    exact ⟨(Go.heap_alloc_old _ _ (by simp; omega)).trans ((Go.heap_alloc_old _ _ (by simp)).trans h1), (Go.heap_alloc_old _ _ (by simp)).trans h2, h3, (((Below.refl w.heap.size w).alloc (Nat.le_refl _) _).alloc (by simp) _).alloc (by simp; omega) _⟩)
  unfold zero6 val6 at hW3
  unfold val6
  go_enter Try.func31, Try.ntmps31
  go_wp2_with fail
  rw [← hW3]
  clear hW3
  go_loopw [8, 13] (fun pl k wr => ∃ (q : Nat) (s : Nd) (sA skA : Option Addr) (sn sc skn skc eb eo : Nat) (f : Nd → Nd) (cs : Array Value), q ≤ pn ∧ k = .int .i64 (q : Int) ∧ pl = .pointer (some ⟨eb, eo, none⟩) ∧ putV t p x = (putV s (p.drop q) x).map f ∧ weighV s ≤ 1000000 ∧
    NodeV (Old w) w sA sn sc skA skn skc s ∧ Six wr ⟨eb, eo, none⟩ s sA sn sc skA skn skc ∧ wr.heap[eb]? = some (.cells cs 26 (0, 0)) ∧ eo + 5 < cs.size ∧ (eb = w.heap.size ∨ w.heap.size + 3 ≤ eb) ∧ Hole w.heap.size wr eb eo f ∧
    wr.heap[w.heap.size + 1]? = some (.cells (val6 x xA xn xc xkA xkn xkc) 26 (0, 0)) ∧ wr.heap[w.heap.size + 1 + 1]? = some (.cells zero6 26 (0, 0)) ∧ Below w.heap.size w wr) (fun _ k _ => pn - (intOf k).toNat)
  case atStart =>
    obtain ⟨g1, g2, g3, g4⟩ := hstart.out
    unfold val6 at g1
    obtain ⟨c0, c1, c2, c3, c4, c5, -⟩ := six_cells g1
    exact ⟨0, t, aA, kA, an, ac, kn, kc, w.heap.size, 0, fun z => z, _, Nat.zero_le _, rfl, rfl, by simp, hbig, h'.out, ⟨c0, c1, c2, c3, c4, c5⟩, g1, by simp, .inl rfl, fun _ _ _ _ _ h => h, g2, g3, g4⟩
  case round =>
    obtain ⟨q, s, sA, skA, sn, sc, skn, skc, eb, eo, f, cs, hq, rfl, rfl, hput, hsw, hv, hsix, hrow, hcs, heb, hhole, hX, hZ, hbel⟩ := hrel
    have hf := hv.facts
    have hkl := hf.kl
    have hwr := weigh_rows s
    have hrl := (Array.getElem?_eq_some_iff.1 hrow).1
    have hXl := (Array.getElem?_eq_some_iff.1 hX).1
    have hZl := (Array.getElem?_eq_some_iff.1 hZ).1
    have hrl' := Lib.hid hrl
    have hXl' := Lib.hid hXl
    have hZl' := Lib.hid hZl
    have hX' := Lib.hid hX
    have hZ' := Lib.hid hZ
    have hrow' := Lib.hid hrow
    have hhole' := Lib.hid hhole
    have hbel' := Lib.hid hbel
    have hput' := Lib.hid hput
    have hcs' := Lib.hid hcs
    have heb' := Lib.hid heb
    have hsix' := Lib.hid hsix
    obtain ⟨c0, c1, c2, c3, c4, c5⟩ := hsix
    by_cases h1 : q < pn
    · have h1I : (q : Int) < (pn : Int) := by omega
      obtain ⟨ad, i, rfl, hi, hci⟩ := (hp'.out.below hbel).at_ h1
      have hdrop : p.drop q = i :: p.drop (q + 1) := by
        have hl : q < p.length := by rw [hpl.out]; exact h1
        rw [List.drop_eq_getElem_cons hl]
        rw [List.getElem?_eq_getElem hl] at hi
        injection hi with hi
        rw [hi]
      rw [hdrop] at hput
      have hkm := hf.kcm
      have hknc := hf.knc
      rcases hasB_cases skn i with hno | ⟨j, rfl, hj, hyes⟩
      · have hcall := Lib.hid (hasChild_any wr (s.id : Int) s.leaf s.label s.text sA skA sn sc skn skc i (by omega))
        rw [hno] at hcall
        have hans := Lib.hid (show putV t p x = none by rw [hput, putV_none (by rw [hkl]; exact hno)]; rfl)
        clear hput hf hkl hv hX hZ hrow hhole hbel hno hdrop hkm hknc hwr hi hcs heb hrl hXl hZl hsw
        go_wp2_with (go_at_call 44; refine hcall.out.mono ?_; rintro e w1 ⟨rfl, hb1⟩; have R1 := (hb1.block _ hZl'.out).trans hZ'.out; unfold zero6 at R1; obtain ⟨d0, d1, d2, d3, d4, d5, df⟩ := six_cells R1)
        have R9 := set_six (b0 := .int .u64 0) (b1 := .bool false) (b2 := .string ⟨#[]⟩) (b3 := .slice none 0 0) (b4 := .string ⟨#[]⟩) (b5 := .slice none 0 0) R1
        have hb9 : Below w.heap.size w _ := below_six (hbel'.out.trans (hb1.mono hbel'.out.size)) (b0 := .int .u64 0) (b1 := .bool false) (b2 := .string ⟨#[]⟩) (b3 := .slice none 0 0) (b4 := .string ⟨#[]⟩) (b5 := .slice none 0 0) (show w.heap.size ≤ w.heap.size + 1 + 1 by omega)
        generalize ((((((w1.setCell ⟨w.heap.size + 1 + 1, 0, none⟩ (.int .u64 0)).setCell ⟨w.heap.size + 1 + 1, 1, none⟩ (.bool false)).setCell ⟨w.heap.size + 1 + 1, 2, none⟩ (.string ⟨#[]⟩)).setCell ⟨w.heap.size + 1 + 1, 3, none⟩ (.slice none 0 0)).setCell ⟨w.heap.size + 1 + 1, 4, none⟩ (.string ⟨#[]⟩)).setCell ⟨w.heap.size + 1 + 1, 5, none⟩ (.slice none 0 0)) = W9 at R9 hb9 ⊢
        obtain ⟨d0, d1, d2, d3, d4, d5, df⟩ := six_cells R9
        refine bodyPost_ret (v := .tuple #[.agg zero6, .bool false]) (by simp [results, Try.results31, go_sem, d0, d1, d2, d3, d4, d5, zero6]) rfl ?_
        exact ⟨none, 0, 0, none, 0, 0, by rw [hans.out]; rfl, by rw [hans.out]; exact zero_node, hb9⟩
      · obtain ⟨kd, hkd⟩ : ∃ kd, s.kids[j]? = some kd := ⟨s.kids[j]'(by omega), List.getElem?_eq_getElem _⟩
        have hcall := Lib.hid (hasChild_any wr (s.id : Int) s.leaf s.label s.text sA skA sn sc skn skc (j : Int) (by omega))
        rw [hyes] at hcall
        have hans := Lib.hid (show putV t p x = (putV kd (p.drop (q + 1)) x).map fun z => f (s.withKids (s.kids.set j z)) by rw [hput, putV_some hkd, Option.map_map]; rfl)
        have hvw : Hid (∀ W, Below wr.heap.size wr W → NodeV (Old w) W sA sn sc skA skn skc s) := fun W hb => hv.kept (fun _ h => h) (fun k hk => (hb.block k (Nat.lt_of_lt_of_le hk hbel'.out.size)).trans (hbel'.out.block k hk))
        have hwk := Lib.hid (Nat.le_trans (weigh_kid hkd) hsw)
        have hkd' := Lib.hid hkd
        have hjI : (j : Int) < (skn : Int) := by omega
        have hj0 : 0 < skn := by omega
        have hsn : sn ≤ 1000000 := by have := hf.ats.1; omega
        have hkn : skn ≤ 1000000 := by omega
        have holdw := Lib.hid (show ∀ (W : World), Below wr.heap.size wr W → ∀ k, Old w k → k < W.heap.size from fun W hb k hk => Nat.lt_of_lt_of_le (Nat.lt_of_lt_of_le hk hbel'.out.size) hb.size)
        clear hput hf hkl hv hX hZ hrow hhole hbel hyes hdrop hkm hknc hwr hi hcs heb hrl hXl hZl hsw hkd
        go_upto_region 8 with (first
          | (go_at_call 44; refine hcall.out.mono ?_; rintro e w1 ⟨rfl, hb1⟩; obtain ⟨d0, d1, d2, d3, d4, d5⟩ := hsix'.out.kept (w' := w1) (hb1.block _ hrl'.out); have hb1' := Lib.hid hb1; clear hb1)
          | (go_at_call 45; refine (owned_any w1 (Old w) s sA skA sn sc skn skc (hvw.out _ hb1'.out) (holdw.out _ hb1'.out) hsn hkn).mono ?_; rintro e w2 ⟨oA, oc, okA, okc, gA, ks, rfl, hO⟩; obtain ⟨g, rfl⟩ := hO.some_ hj0; have hr2 := (hO.bel.block eb (Nat.lt_of_lt_of_le hrl'.out hb1'.out.size)).trans ((hb1'.out.block eb hrl'.out).trans hrow'.out); have ff : ∀ o, w2.frozen? ⟨eb, o, none⟩ = false := (fun o => frozen_of_row w2 eb o _ _ hr2); obtain ⟨v0, v1, v2, v3, v4, v5⟩ := hsix'.out.kept (w' := w2) ((hO.bel.block eb (Nat.lt_of_lt_of_le hrl'.out hb1'.out.size)).trans (hb1'.out.block eb hrl'.out)); have hO' := Lib.hid hO; have hr2' := Lib.hid hr2; clear hO hr2))
        have hin := six_in (b0 := .int .u64 (s.id : Int)) (b1 := .bool s.leaf) (b2 := .string ⟨s.label.toArray⟩) (b3 := .slice oA sn oc) (b4 := .string ⟨s.text.toArray⟩) (b5 := .slice (some ⟨g, 0, none⟩) skn okc) hr2'.out hcs'.out
        have hzz := six_size (w := w2) (g := eb) (e := eo) (b0 := .int .u64 (s.id : Int)) (b1 := .bool s.leaf) (b2 := .string ⟨s.label.toArray⟩) (b3 := .slice oA sn oc) (b4 := .string ⟨s.text.toArray⟩) (b5 := .slice (some ⟨g, 0, none⟩) skn okc)
        have hot := fun k (hk : k ≠ eb) => six_other (w := w2) (g := eb) (e := eo) (b0 := .int .u64 (s.id : Int)) (b1 := .bool s.leaf) (b2 := .string ⟨s.label.toArray⟩) (b3 := .slice oA sn oc) (b4 := .string ⟨s.text.toArray⟩) (b5 := .slice (some ⟨g, 0, none⟩) skn okc) hk
        have hou := fun o (ho : o < eo ∨ eo + 5 < o) => six_out (b0 := .int .u64 (s.id : Int)) (b1 := .bool s.leaf) (b2 := .string ⟨s.label.toArray⟩) (b3 := .slice oA sn oc) (b4 := .string ⟨s.text.toArray⟩) (b5 := .slice (some ⟨g, 0, none⟩) skn okc) hr2'.out ho
        have hbe := hb1'.out
        have hew : w.heap.size ≤ eb := by have := heb'.out; omega
        have hbw := hbel'.out.trans (hbe.mono hbel'.out.size)
        have hb3 : Below w.heap.size w (six w2 eb eo (.int .u64 (s.id : Int)) (.bool s.leaf) (.string ⟨s.label.toArray⟩) (.slice oA sn oc) (.string ⟨s.text.toArray⟩) (.slice (some ⟨g, 0, none⟩) skn okc)) := six_below (hbw.trans (hO'.out.bel.mono hbw.size)) hew
        obtain ⟨w3, hw3⟩ : ∃ w3, w3 = six w2 eb eo (.int .u64 (s.id : Int)) (.bool s.leaf) (.string ⟨s.label.toArray⟩) (.slice oA sn oc) (.string ⟨s.text.toArray⟩) (.slice (some ⟨g, 0, none⟩) skn okc) := ⟨_, rfl⟩
        rw [← hw3] at hin hzz hot hou hb3
        unfold six at hw3
        rw [← hw3]
        clear hw3
        obtain ⟨u0, u1, u2, u3, u4, u5⟩ := hin
        have hrw1 := Nat.lt_of_lt_of_le hrl'.out hbe.size
        obtain ⟨g', kv, cur, e1, q1, q2, q3, q4, q5, q6, q7, q8, q9⟩ := hole_step hbw rfl (by have := hZl'.out; have := hbe.size; omega) (by have := heb'.out; omega) (hole_below hhole'.out hrl'.out hbe) hrw1 hew hO'.out (hvw.out _ hbe) hzz hot hou ⟨u0, u1, u2, u3, u4, u5⟩ (show j < skn by omega)
        obtain rfl : g = g' := by injection e1 with e1; injection e1
        obtain rfl : kd = kv.t := by have := hkd'.out; rw [q5] at this; injection this with this; exact this.symm
        have hX3 := Lib.hid (show w3.heap[w.heap.size + 1]? = some (.cells (val6 x xA xn xc xkA xkn xkc) 26 (0, 0)) from (hot _ (by have := heb'.out; omega)).trans ((hO'.out.bel.block _ (Nat.lt_of_lt_of_le hXl'.out hbe.size)).trans ((hbe.block _ hXl'.out).trans hX'.out)))
        have hZ3 := Lib.hid (show w3.heap[w.heap.size + 1 + 1]? = some (.cells zero6 26 (0, 0)) from (hot _ (by have := heb'.out; omega)).trans ((hO'.out.bel.block _ (Nat.lt_of_lt_of_le hZl'.out hbe.size)).trans ((hbe.block _ hZl'.out).trans hZ'.out)))
        have hgb : w.heap.size + 3 ≤ g := by have := hZl'.out; have := hbe.size; omega
        have hv7 := Lib.hid (show NodeV (Old w) w kv.aA kv.an kv.ac kv.kA kv.kn kv.kc kv.t from NodeV.kept (T := Old w) (w := w1) (fun _ h => h) (fun k hk => (hbw.block k hk).symm) _ _ _ _ _ _ _ q7)
        have h3' := Lib.hid q3
        have h6' := Lib.hid q6
        have h8' := Lib.hid q8
        have h9' := Lib.hid q9
        have hb3' := Lib.hid hb3
        clear q3 q4 q5 q6 q7 q8 q9 hzz hot hou hb3 hbe hbw e1 u0 u1 u2 u3 u4 q1 q2 d0 d1 d2 d3 d4 d5 c0 c1 c2 c3 c4 c5 v0 v1 v2 v3 v4 v5 hrw1 ff
        go_wp2_with fail
        go_roundw
        case rel =>
          exact ⟨q + 1, kv.t, kv.aA, kv.kA, kv.an, kv.ac, kv.kn, kv.kc, g, j * 6, _, cur, by omega, by go_num, rfl, hans.out, hwk.out, hv7.out, h6'.out, h8'.out, h9'.out, .inr hgb, h3'.out, hX3.out, hZ3.out, hb3'.out⟩
        case measure => simp [intOf]; omega
    · have h1I : ¬ (q : Int) < (pn : Int) := by omega
      have hans := Lib.hid (show putV t p x = some (f x) by rw [hput, List.drop_of_length_le (by rw [hpl.out]; omega)]; rfl)
      unfold val6 at hX
      have hcallx := Lib.hid (owned_any wr (Old w) x xA xkA xn xc xkn xkc (hx'.out.kept (fun _ h => h) (fun k hk => hbel.block k hk)) (fun k hk => Nat.lt_of_lt_of_le hk hbel.size) (by have := hx'.out.facts.ats.1; have := weigh_rows x; have := hbigx'.out; omega) (by have := hx'.out.facts.kl; have := weigh_rows x; have := hbigx'.out; omega))
      have hvx := Lib.hid (hx'.out.kept (w' := wr) (T' := Old w) (fun _ h => h) (fun k hk => hbel.block k hk))
      obtain ⟨x0, x1, x2, x3, x4, x5, -⟩ := six_cells hX
      clear hput hf hkl hv hX hZ hrow hhole hbel hwr hcs heb hrl hXl hZl hsw
      go_upto_region 11 with (go_at_call 45; refine hcallx.out.mono ?_; rintro e w1 ⟨oA, oc, okA, okc, gA, ks, rfl, hO⟩; have hr1 := (hO.bel.block eb hrl'.out).trans hrow'.out; have ff : ∀ o, w1.frozen? ⟨eb, o, none⟩ = false := (fun o => frozen_of_row w1 eb o _ _ hr1); obtain ⟨v0, v1, v2, v3, v4, v5⟩ := hsix'.out.kept (w' := w1) (hO.bel.block eb hrl'.out); have hO' := Lib.hid hO; have hr1' := Lib.hid hr1; clear hO hr1)
      have hin := six_in (b0 := .int .u64 (x.id : Int)) (b1 := .bool x.leaf) (b2 := .string ⟨x.label.toArray⟩) (b3 := .slice oA xn oc) (b4 := .string ⟨x.text.toArray⟩) (b5 := .slice okA xkn okc) hr1'.out hcs'.out
      have hzz := six_size (w := w1) (g := eb) (e := eo) (b0 := .int .u64 (x.id : Int)) (b1 := .bool x.leaf) (b2 := .string ⟨x.label.toArray⟩) (b3 := .slice oA xn oc) (b4 := .string ⟨x.text.toArray⟩) (b5 := .slice okA xkn okc)
      have hot := fun k (hk : k ≠ eb) => six_other (w := w1) (g := eb) (e := eo) (b0 := .int .u64 (x.id : Int)) (b1 := .bool x.leaf) (b2 := .string ⟨x.label.toArray⟩) (b3 := .slice oA xn oc) (b4 := .string ⟨x.text.toArray⟩) (b5 := .slice okA xkn okc) hk
      have hou := fun o (ho : o < eo ∨ eo + 5 < o) => six_out (b0 := .int .u64 (x.id : Int)) (b1 := .bool x.leaf) (b2 := .string ⟨x.label.toArray⟩) (b3 := .slice oA xn oc) (b4 := .string ⟨x.text.toArray⟩) (b5 := .slice okA xkn okc) hr1'.out ho
      have hew : w.heap.size ≤ eb := by have := heb'.out; omega
      have hbw := hbel'.out.trans (hO'.out.bel.mono hbel'.out.size)
      have hb2 : Below w.heap.size w (six w1 eb eo (.int .u64 (x.id : Int)) (.bool x.leaf) (.string ⟨x.label.toArray⟩) (.slice oA xn oc) (.string ⟨x.text.toArray⟩) (.slice okA xkn okc)) := six_below hbw hew
      obtain ⟨w2, hw2⟩ : ∃ w2, w2 = six w1 eb eo (.int .u64 (x.id : Int)) (.bool x.leaf) (.string ⟨x.label.toArray⟩) (.slice oA xn oc) (.string ⟨x.text.toArray⟩) (.slice okA xkn okc) := ⟨_, rfl⟩
      rw [← hw2] at hin hzz hot hou hb2
      unfold six at hw2
      rw [← hw2]
      clear hw2
      have hz1 := hO'.out.bel.size
      have hgl := hrl'.out
      have hN : NodeAt (Ex w.heap.size w2) w2 ⟨eb, eo, none⟩ x := ⟨⟨by show eb < _; omega, by have := heb'.out; show eb ≠ _; omega⟩, oA, xn, oc, okA, xkn, okc, hin, (hO'.out.node hvx.out (fun k hk => Nat.lt_of_lt_of_le hk hbel'.out.size)).kept (fun k hk => by
          have hZ5 := hZl'.out
          rcases hk with hk | hk
          · have : k < w.heap.size := hk
            exact ⟨by omega, by omega⟩
          · exact ⟨by omega, by omega⟩) (fun k hk => hot k (by
          rcases hk with hk | hk
          · have : k < w.heap.size := hk
            omega
          · omega))⟩
      obtain ⟨-, fA, fn, fc, fkA, fkn, fkc, ⟨y0, y1, y2, y3, y4, y5⟩, hfv⟩ := hhole'.out w2 x (by omega) (fun k hk hne => (hot k hne).trans (hO'.out.bel.block k hk)) (fun o ho => (hou o ho).trans (World.cell?_of_block (a := ⟨eb, o, none⟩) (hO'.out.bel.block eb hgl))) hN
      have y1' : w2.cell? ⟨w.heap.size, 1, none⟩ = some (.bool (f x).leaf) := y1
      have y2' : w2.cell? ⟨w.heap.size, 2, none⟩ = some (.string ⟨(f x).label.toArray⟩) := y2
      have y3' : w2.cell? ⟨w.heap.size, 3, none⟩ = some (.slice fA fn fc) := y3
      have y4' : w2.cell? ⟨w.heap.size, 4, none⟩ = some (.string ⟨(f x).text.toArray⟩) := y4
      have y5' : w2.cell? ⟨w.heap.size, 5, none⟩ = some (.slice fkA fkn fkc) := y5
      have R2 := (hot (w.heap.size + 1 + 1) (by have := heb'.out; omega)).trans ((hO'.out.bel.block _ hZl'.out).trans hZ'.out)
      unfold zero6 at R2
      obtain ⟨d0, d1, d2, d3, d4, d5, df⟩ := six_cells R2
      have R2' := Lib.hid R2
      have hb2' := Lib.hid hb2
      have hfv' := Lib.hid hfv
      clear y1 y2 y3 y4 y5 R2 hb2 hfv hN hin hzz hot hou hbw hz1 hgl hew ff v0 v1 v2 v3 v4 v5
      go_wp2_with fail
      have R9 := set_six (b0 := .int .u64 ((f x).id : Int)) (b1 := .bool (f x).leaf) (b2 := .string ⟨(f x).label.toArray⟩) (b3 := .slice fA fn fc) (b4 := .string ⟨(f x).text.toArray⟩) (b5 := .slice fkA fkn fkc) R2'.out
      have hb9 : Below w.heap.size w _ := below_six hb2'.out (b0 := .int .u64 ((f x).id : Int)) (b1 := .bool (f x).leaf) (b2 := .string ⟨(f x).label.toArray⟩) (b3 := .slice fA fn fc) (b4 := .string ⟨(f x).text.toArray⟩) (b5 := .slice fkA fkn fkc) (show w.heap.size ≤ w.heap.size + 1 + 1 by omega)
      have hN9 : NodeV (Old ((((((w2.setCell ⟨w.heap.size + 1 + 1, 0, none⟩ (.int .u64 ((f x).id : Int))).setCell ⟨w.heap.size + 1 + 1, 1, none⟩ (.bool (f x).leaf)).setCell ⟨w.heap.size + 1 + 1, 2, none⟩ (.string ⟨(f x).label.toArray⟩)).setCell ⟨w.heap.size + 1 + 1, 3, none⟩ (.slice fA fn fc)).setCell ⟨w.heap.size + 1 + 1, 4, none⟩ (.string ⟨(f x).text.toArray⟩)).setCell ⟨w.heap.size + 1 + 1, 5, none⟩ (.slice fkA fkn fkc))) ((((((w2.setCell ⟨w.heap.size + 1 + 1, 0, none⟩ (.int .u64 ((f x).id : Int))).setCell ⟨w.heap.size + 1 + 1, 1, none⟩ (.bool (f x).leaf)).setCell ⟨w.heap.size + 1 + 1, 2, none⟩ (.string ⟨(f x).label.toArray⟩)).setCell ⟨w.heap.size + 1 + 1, 3, none⟩ (.slice fA fn fc)).setCell ⟨w.heap.size + 1 + 1, 4, none⟩ (.string ⟨(f x).text.toArray⟩)).setCell ⟨w.heap.size + 1 + 1, 5, none⟩ (.slice fkA fkn fkc)) fA fn fc fkA fkn fkc (f x) := hfv'.out.kept (fun k hk => by
        show k < _
        simp only [World.size_setCell]
        exact hk.1) (fun k hk => set_six_other (fun e => hk.2 (by rw [e])))
      generalize ((((((w2.setCell ⟨w.heap.size + 1 + 1, 0, none⟩ (.int .u64 ((f x).id : Int))).setCell ⟨w.heap.size + 1 + 1, 1, none⟩ (.bool (f x).leaf)).setCell ⟨w.heap.size + 1 + 1, 2, none⟩ (.string ⟨(f x).label.toArray⟩)).setCell ⟨w.heap.size + 1 + 1, 3, none⟩ (.slice fA fn fc)).setCell ⟨w.heap.size + 1 + 1, 4, none⟩ (.string ⟨(f x).text.toArray⟩)).setCell ⟨w.heap.size + 1 + 1, 5, none⟩ (.slice fkA fkn fkc)) = W9 at R9 hb9 hN9 ⊢
      obtain ⟨g0, g1, g2, g3, g4, g5, gf⟩ := six_cells R9
      refine bodyPost_ret (v := .tuple #[.agg (val6 (f x) fA fn fc fkA fkn fkc), .bool true]) (by simp [results, Try.results31, go_sem, g0, g1, g2, g3, g4, g5, val6]) rfl ?_
      exact ⟨fA, fn, fc, fkA, fkn, fkc, by rw [hans.out]; rfl, by rw [hans.out]; exact hN9, hb9⟩
end Go.Proofs.Ytacmofhlbebonaa
