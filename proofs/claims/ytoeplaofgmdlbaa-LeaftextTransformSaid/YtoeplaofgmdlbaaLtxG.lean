/- An edit, made normal: the program's. -/
import Derived.Test.YtoeplaofgmdlbaaLtxF
import Derived.Test.YtoeplaofgmdlbaaLtxB
namespace Go.Proofs.Ytoeplaofgmdlbaa
open Go.RowKit
set_option maxRecDepth 20000
open Ltx (Pc)

/-- each piece as three that each do one thing -/
def prim (l : List Pc) : List Pc := l.flatMap fun p => [⟨p.keep, 0, []⟩, ⟨0, 0, p.put⟩, ⟨0, p.drop, []⟩]
theorem prim_one (p : Pc) : Eqv [⟨p.keep, 0, []⟩, ⟨0, 0, p.put⟩, ⟨0, p.drop, []⟩] [p] := by
  have h1 : Eqv [⟨p.keep, 0, []⟩, ⟨0, 0, p.put⟩] [⟨p.keep, 0, p.put⟩] := by
    have := eqv_one (k := p.keep) (d := 0) (t := []) (k' := 0) (d' := 0) (t' := p.put) rfl
    simpa using this
  have h2 : Eqv [⟨p.keep, 0, p.put⟩, ⟨0, p.drop, []⟩] [p] := by
    have := eqv_one (k := p.keep) (d := 0) (t := p.put) (k' := 0) (d' := p.drop) (t' := []) rfl
    simpa using this
  exact (h1.app (Eqv.refl [⟨0, p.drop, []⟩])).trans h2
theorem prim_eqv : ∀ l : List Pc, Eqv (prim l) l
  | [] => Eqv.refl []
  | p :: r => (prim_one p).app (prim_eqv r)
theorem prim_norm (l : List Pc) : Ltx.norm (prim l) = Ltx.norm l := norm_eqv (prim_eqv l)
theorem prim_append (l m : List Pc) : prim (l ++ m) = prim l ++ prim m := by unfold prim; rw [List.flatMap_append]
theorem totP_prim : ∀ l : List Pc, totP (prim l) = totP l
  | [] => rfl
  | p :: r => by
    have ih := totP_prim r
    have e : prim (p :: r) = [⟨p.keep, 0, []⟩, ⟨0, 0, p.put⟩, ⟨0, p.drop, []⟩] ++ prim r := rfl
    rw [e, totP_append, ih, show totP (p :: r) = totP ([p] ++ r) from rfl, totP_append]
    simp [totP, Ltx.extent, Ltx.puts]
theorem prim_take (l : List Pc) (q : Nat) (p : Pc) (h : l[q]? = some p) : prim (l.take (q + 1)) = prim (l.take q) ++ [⟨p.keep, 0, []⟩] ++ [⟨0, 0, p.put⟩] ++ [⟨0, p.drop, []⟩] := by
  rw [List.take_add_one, h, prim_append]
  simp [prim]
theorem tot_take (l : List Pc) (q : Nat) : totP (l.take q) ≤ totP l := by
  conv => rhs; rw [← List.take_append_drop q l, totP_append]
  omega
/-- right pieces have no number below 0 -/
theorem right_pcs {xs : List IP} (h : rightV xs = true) : ∃ l : List Pc, xs = l.map ipc := by
  have hall : xs.all okB = true := by
    unfold rightV at h
    simp only [Bool.and_eq_true] at h
    exact h.1.2
  clear h
  induction xs with
  | nil => exact ⟨[], rfl⟩
  | cons x r ih =>
    rw [List.all_cons, Bool.and_eq_true] at hall
    obtain ⟨l, rfl⟩ := ih hall.2
    obtain ⟨kp, dr, pu⟩ := x
    have hx : 0 ≤ kp ∧ 0 ≤ dr := by
      have := hall.1
      unfold okB mayB at this
      simp at this
      omega
    refine ⟨⟨kp.toNat, dr.toNat, pu⟩ :: l, ?_⟩
    rw [List.map_cons]
    congr 1
    simp [ipc]
    omega
theorem costs_pcs : ∀ l : List Pc, costs (l.map ipc) = totP l
  | [] => rfl
  | p :: r => by
    rw [List.map_cons, costs, costs_pcs r, show totP (p :: r) = totP ([p] ++ r) from rfl, totP_append]
    simp [costI, ipc, totP, Ltx.extent, Ltx.puts]
theorem small_pcs {l : List Pc} {top : Nat} (h : smallV (l.map ipc) top = true) : totP l ≤ top ∧ l.length ≤ top := by
  unfold smallV at h
  simp only [Bool.and_eq_true, decide_eq_true_eq, costs_pcs, List.length_map] at h
  exact ⟨h.2, h.1⟩
/-- a block that lies outside the draft's is as it was -/
theorem FrX.cells {S : Nat → Prop} {w w' : World} {b : Nat} {cs : Array Value} {t : TypeId} {fr : Nat × Nat} (h : FrX S w w') (hb : w.heap[b]? = some (.cells cs t fr)) (hn : ¬ S b) : w'.heap[b]? = some (.cells cs t fr) :=
  (h.block b (Array.getElem?_eq_some_iff.1 hb).1 hn).trans hb
theorem own_base {w : World} {base b : Nat} {e : TypeId} {size : Nat} {v : Value} {n : Nat} {xs : List Value} (h : w.ownsRow base e size v n xs) (hb : b ≤ base) : w.ownsRow b e size v n xs := by
  refine ⟨h.1, ?_⟩
  rcases h.2 with h0 | ⟨g, cap, cur, rfl, hg, rest⟩
  · exact .inl h0
  · exact .inr ⟨g, cap, cur, rfl, Nat.le_trans hb hg, rest⟩
set_option maxHeartbeats 2000000 in
theorem normal_any (w : World) (A : Option Addr) (n c : Nat) (l : List Pc) (hx : PcsIn w A n (l.map ipc)) (hn : n ≤ maxLen) (hsm : totP l ≤ 100000) :
    Calls Try.prog 28 #[.slice A n c] w fun e w' => ∃ v, e = .returned v ∧ OwnP w.heap.size w' v (Ltx.norm l) ∧ Below w.heap.size w w' := by
  have hx' := Lib.hid hx
  have hlen := Lib.hid (show l.length = n by have := hx.1; simpa using this)
  have hlow := Lib.hid (low_of (l := Ltx.norm l) (Nat.le_trans (totP_norm l) (by omega)))
  clear hx
  have hn' : (n : Int) ≤ 9223372036854775807 := by unfold maxLen at hn; omega
  go_enter Try.func28, Try.ntmps28
  go_wp2_with fail
  go_loopw [8] (fun k wr => ∃ (q : Nat) (S : Nat → Prop), q ≤ n ∧ k = .int .i64 (q : Int) ∧ Drf wr S w.heap.size w.heap.size (prim (l.take q)) ∧ Below w.heap.size w wr) (fun k _ => n - (intOf k).toNat)
  case atStart => exact ⟨0, _, Nat.zero_le _, rfl, Drf.new (Nat.le_refl _), (Below.refl w.heap.size w).alloc (Nat.le_refl _) _⟩
  case round =>
    obtain ⟨q, S, hq, rfl, hd, hbel⟩ := hrel
    by_cases h1 : q < n
    · have h1I : (q : Int) < (n : Int) := by omega
      obtain ⟨ad, x, rfl, hxq, hlt, hp⟩ := (hx'.out.below hbel).at_ h1
      obtain ⟨x1, x2, x3, x4, x5, x6, x7, x8⟩ := hp
      rw [List.getElem?_map] at hxq
      cases hpq : l[q]? with
      | none => rw [hpq] at hxq; cases hxq
      | some pc =>
        rw [hpq] at hxq
        injection hxq with hxq
        subst hxq
        have htk := Lib.hid (prim_take l q pc hpq)
        have ht1 := tot_take l (q + 1)
        have ht2 := totP_prim (l.take (q + 1))
        rw [htk.out, totP_append, totP_append, totP_append, totP_one, totP_one, totP_one] at ht2
        simp only [List.length_nil, Nat.add_zero, Nat.zero_add] at ht2
        have hbs := hbel.size
        obtain ⟨kp, dr, pu⟩ := pc
        simp only [ipc] at *
        have hb1 : totP (prim (l.take q)) + kp ≤ 1000000 := by omega
        have hb2 := Lib.hid (show totP (prim (l.take q) ++ [⟨kp, 0, []⟩]) + pu.length ≤ 1000000 by rw [totP_append, totP_one]; simp; omega)
        have hb3 := Lib.hid (show totP (prim (l.take q) ++ [⟨kp, 0, []⟩] ++ [⟨0, 0, pu⟩]) + dr ≤ 1000000 by rw [totP_append, totP_append, totP_one, totP_one]; simp; omega)
        have hSlt := Lib.hid hd.lt
        have hd1 := Lib.hid (fun o => hd.below ((Below.refl wr.heap.size wr).alloc (Nat.le_refl _) o))
        have hbel' := Lib.hid hbel
        have hbase : ∀ o, w.heap.size ≤ (wr.alloc o).heap.size := fun o => by simp; omega
        have hbase' := Lib.hid hbase
        clear hd hbel ht1 ht2 hpq hbase x1 x2 x3 x4
        unfold maxLen at x5
        have hsz0 : ∀ o, (wr.alloc o).heap.size = wr.heap.size + 1 := fun o => by simp
        have hsz0' := Lib.hid hsz0
        clear hsz0
        go_wp2_with (first
          | (go_at_call 37; refine (dkeep_any (hd1.out _) kp hb1 (hbase'.out _)).mono ?_; rintro e w2 ⟨rfl, hd2, hF2⟩; have hx2 := hF2.cells (heap_alloc_new wr _) (fun e => by have := hSlt.out _ e; omega); have q2 := cell_of_row w2 wr.heap.size 2 _ _ _ hx2; simp at q2; have hx2' := Lib.hid hx2; have hd2' := Lib.hid hd2; have hF2' := Lib.hid hF2; have hs2 := hF2.size; rw [hsz0'.out] at hs2; clear hx2 hd2 hF2)
          | (go_at_call 36; refine (dput_any hd2'.out pu hb2.out (by omega)).mono ?_; rintro e w3 ⟨rfl, hd3, hF3⟩; have hx3 := hF3.cells hx2'.out (fun e => by rcases e with e | e; (have := hSlt.out _ e; omega); (have := e.1; rw [hsz0'.out] at this; omega)); have q3 := cell_of_row w3 wr.heap.size 1 _ _ _ hx3; simp at q3; have hd3' := Lib.hid hd3; have hF3' := Lib.hid hF3; have hs3 := hF3.size; clear hx3 hd3 hF3)
          | (go_at_call 43; refine (ddrop_any hd3'.out dr hb3.out).mono ?_; rintro e w4 ⟨rfl, hd4, hF4⟩; have hd4' := Lib.hid hd4; have hF4' := Lib.hid hF4; have hs4 := hF4.size; clear hd4 hF4))
        go_roundw
        case rel =>
          have hd5 := hd4'.out
          rw [← htk.out] at hd5
          refine ⟨q + 1, _, by omega, by go_num, hd5, ?_⟩
          · have e1 : Below w.heap.size w (wr.alloc (.cells #[.int .i64 (kp : Int), .int .i64 (dr : Int), .string ⟨pu.toArray⟩] 29)) := hbel'.out.alloc hbs _
            have e2 := e1.trans (hF2'.out.below (B := w.heap.size) (fun k hk => (hSlt.out k hk).1) (by rw [hsz0'.out]; omega))
            have e3 := e2.trans (hF3'.out.below (B := w.heap.size) (fun k hk => (hd2'.out.lt k hk).1) (by omega))
            exact e3.trans (hF4'.out.below (B := w.heap.size) (fun k hk => (hd3'.out.lt k hk).1) (by omega))
        case measure => simp [intOf]; omega
    · have hqn : q = n := by omega
      have h1I : ¬ (q : Int) < (n : Int) := by omega
      have hd' := Lib.hid (show Drf wr S w.heap.size w.heap.size (prim l) by rw [hqn, ← hlen.out, List.take_length] at hd; exact hd)
      have hbel' := Lib.hid hbel
      have hbs := hbel.size
      have htb := Lib.hid (show totP (prim l) ≤ 1000000 by rw [totP_prim]; omega)
      clear hd hbel hqn h1
      go_wp2_with (go_at_call 45; refine (dpieces_any hd'.out htb.out hbs).mono ?_; rintro e w2 ⟨v, rfl, hv, hs, hF⟩; obtain ⟨A1, n1, k1, rfl, -, -, -, -, -⟩ := hv.shape (by rw [prim_norm]; exact hlow.out); have hv' := Lib.hid hv; have hF' := Lib.hid hF; clear hv hs hF)
      go_ret
      refine ⟨_, rfl, by rw [← prim_norm]; exact hv'.out, hbel'.out.trans (hF'.out.below (B := w.heap.size) (fun k hk => (hd'.out.lt k hk).1) hbs)⟩
set_option maxHeartbeats 1000000 in
theorem norm_right (w : World) (A : Option Addr) (n c : Nat) (l : List Pc) (hx : PcsIn w A n (l.map ipc)) (hn : n ≤ maxLen) (hsm : totP l ≤ 100000) (hr : rightV (l.map ipc) = true) :
    Calls Try.prog 15 #[.slice A n c] w fun e w' => ∃ v, e = .returned v ∧ OwnP w.heap.size w' v (Ltx.norm l) ∧ Below w.heap.size w w' := by
  have hx' := Lib.hid hx
  have hr' := Lib.hid hr
  have hlow := Lib.hid (low_of (l := Ltx.norm l) (Nat.le_trans (totP_norm l) (by omega)))
  clear hx hr
  go_enter Try.func15, Try.ntmps15
  go_wp2_with (first
    | (go_at_call 11; have hh := right_any w A n c _ hx'.out hn; rw [hr'.out] at hh; refine hh.mono ?_; clear hh; rintro e w2 ⟨rfl, hb2⟩; have hb2' := Lib.hid hb2; have hs2 := hb2.size; clear hb2)
    | (go_at_call 28; refine (normal_any w2 A n c l (hx'.out.below hb2'.out) hn hsm).mono ?_; rintro e w3 ⟨v, rfl, hv, hb3⟩; obtain ⟨A1, n1, k1, rfl, -, -, -, -, -⟩ := hv.shape hlow.out; have hv' := Lib.hid hv; have hb3' := Lib.hid hb3; clear hv hb3))
  go_ret
  exact ⟨_, rfl, own_base hv'.out hs2, hb2'.out.trans (hb3'.out.mono hs2)⟩
theorem norm_not (w : World) (A : Option Addr) (n c : Nat) (xs : List IP) (hx : PcsIn w A n xs) (hn : n ≤ maxLen) (hr : rightV xs = false) :
    Calls Try.prog 15 #[.slice A n c] w fun e w' => e = .returned (.slice none 0 0) ∧ Below w.heap.size w w' := by
  have hx' := Lib.hid hx
  have hr' := Lib.hid hr
  clear hx hr
  go_enter Try.func15, Try.ntmps15
  go_wp2_with (go_at_call 11; have hh := right_any w A n c _ hx'.out hn; rw [hr'.out] at hh; refine hh.mono ?_; clear hh; rintro e w2 ⟨rfl, hb2⟩; have hb2' := Lib.hid hb2; clear hb2)
  go_ret
  exact ⟨rfl, hb2'.out⟩
end Go.Proofs.Ytoeplaofgmdlbaa
