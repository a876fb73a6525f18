/- The law PathParent. -/
import Derived.Test.YtflllhodeakpgaaPthM
import Derived.Laws.OwnMore
namespace Go.Proofs.Ytflllhodeakpgaa
open Go.RowKit
set_option maxRecDepth 20000

theorem grown_of_below {w w' : World} (h : Below w.heap.size w w') : w.grownBy w' none := ⟨h.os, h.tape, h.output, h.size, fun i hi _ => h.block i hi⟩
theorem OwnI.below {base : Nat} {w w' : World} {v : Value} {xs : List Int} (h : OwnI base w v xs) (hb : Below w.heap.size w w') : OwnI base w' v xs :=
  World.ownsRow.kept h (grown_of_below hb) (by cases v.ownBlock <;> simp)
/-- only what may be written of w has turned -/
def But (g : Option Nat) (w w' : World) : Prop := w.grownBy w' g
theorem OwnI.but {base : Nat} {w w' : World} {v : Value} {xs : List Int} {g : Option Nat} (h : OwnI base w v xs) (hb : But g w w') (hne : v.ownBlock = none ∨ v.ownBlock ≠ g) : OwnI base w' v xs :=
  World.ownsRow.kept h hb hne
theorem But.refl (g : Option Nat) (w : World) : But g w w := World.grownBy.refl w g
theorem But.trans {g : Option Nat} {a b c : World} (h : But g a b) (k : But g b c) : But g a c :=
  ⟨k.1.trans h.1, k.2.trans h.2, k.3.trans h.3, Nat.le_trans h.4 k.4, fun i hi hne => (k.5 i (Nat.lt_of_lt_of_le hi h.4) hne).trans (h.5 i hi hne)⟩
theorem But.below {g : Option Nat} {w w' : World} {B : Nat} (h : But g w w') (hB : B ≤ w.heap.size) (hg : ∀ k, g = some k → B ≤ k) : Below B w w' :=
  Below.grown (Below.refl _ _) h hB hg
/-- a store into a row of the call's own, all that is asked of it -/
theorem OwnI.room {base : Nat} {w : World} {A : Option Addr} {n c k : Nat} {xs : List Int} (h : OwnI base w (.slice A n c) xs) (hk : k < n) :
    ∃ g x, A = some ⟨g, 0, none⟩ ∧ base ≤ g ∧ g < w.heap.size ∧ w.cell? ⟨g, k, none⟩ = some (.int .i64 x) ∧ w.frozen? ⟨g, k, none⟩ = false ∧
      ∀ y, OwnI base (w.setCell ⟨g, k, none⟩ (.int .i64 y)) (.slice A n c) (xs.set k y) ∧ But (Value.ownBlock (.slice A n c)) w (w.setCell ⟨g, k, none⟩ (.int .i64 y)) := by
  obtain ⟨A', n', c', e, hn', _⟩ := h.shape
  injection e with e1 e2 e3
  subst e1 e2 e3
  have hlen : k < xs.length := by omega
  obtain ⟨g, c2, e, hb, hlt, _, _, hcs, hfr⟩ := h.block (by omega)
  injection e with e1 e2 e3
  subst e1
  refine ⟨g, xs[k], rfl, hb, hlt, hcs k _ (List.getElem?_eq_getElem hlen), hfr k, fun y => ⟨h.stored k y, ?_⟩⟩
  have h' : w.ownsRow base 3 1 (.slice (some ⟨g, 0, none⟩) n c) n (xs.map intV) := by rw [hn'] at h ⊢; exact h
  exact (World.ownsRow.stored h' k (.int .i64 y)).2

theorem parent_snoc (w : World) (A : Option Addr) (n c : Nat) (ys : List Int) (i : Int) (hA : Its w A n (ys ++ [i])) (hnil : A = none → c = 0) (hn : n ≤ 500000) (hnc : n ≤ c) (hcm : c ≤ maxLen) :
    Calls Try.prog 22 #[.slice A n c] w fun e w' => ∃ A1 c1, e = .returned (.tuple #[.slice A1 ys.length c1, .int .i64 i, .bool true]) ∧ ys.length ≤ c1 ∧ c1 ≤ maxLen ∧ OwnI w.heap.size w' (.slice A1 ys.length c1) ys ∧ Below w.heap.size w w' := by
  refine (parent_any w A n c _ hA hnil hn hnc hcm).mono ?_
  rintro e w' (⟨h, _⟩ | ⟨v, zs, z, h, rfl, ho, hb⟩)
  · simp at h
  · obtain ⟨h1, h2⟩ := List.append_inj' h rfl
    injection h2 with h2
    subst h1 h2
    obtain ⟨A1, n1, c1, rfl, rfl, h3, h4, _⟩ := ho.shape
    exact ⟨A1, c1, rfl, h3, h4, ho, hb⟩
theorem parent_nil (w : World) (A : Option Addr) (n c : Nat) (hA : Its w A n []) (hnil : A = none → c = 0) (hn : n ≤ 500000) (hnc : n ≤ c) (hcm : c ≤ maxLen) :
    Calls Try.prog 22 #[.slice A n c] w fun e w' => e = .returned (.tuple #[.slice none 0 0, .int .i64 0, .bool false]) ∧ Below w.heap.size w w' := by
  refine (parent_any w A n c _ hA hnil hn hnc hcm).mono ?_
  rintro e w' (⟨_, rfl, rfl⟩ | ⟨v, zs, z, h, _⟩)
  · exact ⟨rfl, Below.refl _ _⟩
  · simp at h
/-- a new row, as a slice -/
theorem NewRow.shape {w w' : World} {xs : List Int} {e : Ending} (h : NewRow w xs e w') : ∃ A c, e = .returned (.slice A xs.length c) ∧ xs.length ≤ c ∧ c ≤ maxLen ∧ (A = none → c = 0) ∧ OwnI w.heap.size w' (.slice A xs.length c) xs ∧ Its w' A xs.length xs ∧ Below w.heap.size w w' := by
  obtain ⟨v, rfl, ho, hb⟩ := h
  obtain ⟨A, n, c, rfl, rfl, h1, h2, h3, h4⟩ := ho.shape
  exact ⟨A, c, rfl, h1, h2, h4, ho, h3, hb⟩
theorem eqV_self (xs : List Int) : eqV xs xs = true := decide_eq_true rfl
theorem same_yes (w : World) (A B : Option Addr) (n c m d : Nat) (xs : List Int) (hA : Its w A n xs) (hB : Its w B m xs) (hn : n ≤ maxLen) :
    Calls Try.prog 23 #[.slice A n c, .slice B m d] w fun e w' => e = .returned (.bool true) ∧ Below w.heap.size w w' := by
  have h := below_draws (sameInts_any w A B n c m d xs xs hA hB hn)
  rw [eqV_self] at h
  exact h

theorem but_ne {u v : Value} {N : Nat} (h1 : ∀ k, v.ownBlock = some k → k < N) (h2 : ∀ k, u.ownBlock = some k → N ≤ k) : v.ownBlock = none ∨ v.ownBlock ≠ u.ownBlock := by
  cases hv : v.ownBlock with
  | none => exact .inl rfl
  | some k =>
    refine .inr fun e => ?_
    have := h1 k hv
    have := h2 k (by rw [← e])
    omega
theorem OwnI.lo {base : Nat} {w : World} {v : Value} {xs : List Int} (h : OwnI base w v xs) : ∀ k, v.ownBlock = some k → base ≤ k := fun k hk => (World.ownsRow.lt h k hk).1
theorem OwnI.hi {base : Nat} {w : World} {v : Value} {xs : List Int} (h : OwnI base w v xs) : ∀ k, v.ownBlock = some k → k < w.heap.size := fun k hk => (World.ownsRow.lt h k hk).2
theorem Its.at_own {base : Nat} {w : World} {A : Option Addr} {n c : Nat} {xs : List Int} (h : OwnI base w (.slice A n c) xs) : Its w A n xs := by
  obtain ⟨A', n', c', e, _, _, _, h', _⟩ := h.shape
  injection e with e1 e2 e3
  subst e1 e2 e3
  exact h'
theorem but_ne2 {u v : Value} {N : Nat} (h1 : ∀ k, v.ownBlock = some k → N ≤ k) (h2 : ∀ k, u.ownBlock = some k → k < N) : v.ownBlock = none ∨ v.ownBlock ≠ u.ownBlock := by
  cases hv : v.ownBlock with
  | none => exact .inl rfl
  | some k =>
    refine .inr fun e => ?_
    have := h1 k hv
    have := h2 k (by rw [← e])
    omega
theorem lo_mono {v : Value} {N M : Nat} (h : ∀ k, v.ownBlock = some k → N ≤ k) (hm : M ≤ N) : ∀ k, v.ownBlock = some k → M ≤ k := fun k hk => Nat.le_trans hm (h k hk)
theorem hi_mono {v : Value} {N M : Nat} (h : ∀ k, v.ownBlock = some k → k < N) (hm : N ≤ M) : ∀ k, v.ownBlock = some k → k < M := fun k hk => Nat.lt_of_lt_of_le (h k hk) hm

set_option maxHeartbeats 3200000 in
theorem parentLaw_nil (w : World) (A : Option Addr) (c : Nat) (i : Int) (hA : Its w A 0 []) (hnil : A = none → c = 0) (hnc : 0 ≤ c) (hcm : c ≤ maxLen) (h5 : ¬ (500 : Int) < ((0 : Nat) : Int)) :
    Calls Try.prog 6 #[.slice A 0 c, .int .i64 i] w (Held w) := by
  have hW := Lib.hid (Below.refl w.heap.size w)
  have hA' := Lib.hid hA
  have hA0 := Lib.hid hA
  have hnil' := Lib.hid hnil
  have hn5' := Lib.hid (show 0 ≤ 500000 by omega)
  have hn6' := Lib.hid (show 1 ≤ 500000 by omega)
  have hnm' := Lib.hid (show 0 ≤ maxLen by unfold maxLen; omega)
  have hnm6' := Lib.hid (show 1 ≤ maxLen by unfold maxLen; omega)
  have hl' := Lib.hid hA.1
  have hch := Lib.hid (show ([] ++ [i]).length = 1 by rw [List.length_append, hA.1]; rfl)
  clear hA hnil h5
  go_enter Try.func6, Try.ntmps6
  go_wp2_with (first
      | (go_at_call 20; refine (refCopied_any _ A 0 c [] hA'.out hnil'.out hn5'.out).mono ?_; intro e w1 hr; obtain ⟨A1, c1, e1, hc1, hm1, hz1, ho1, hi1, hb⟩ := hr.shape; rw [hl'.out] at e1 hc1 ho1 hi1; subst e1; have hc1' := Lib.hid hc1; have hm1' := Lib.hid hm1; have hz1' := Lib.hid hz1; have ho1' := Lib.hid ho1; have hi1' := Lib.hid hi1; have hh1 := Lib.hid ho1.hi; have hs1 := Lib.hid hb.size; have hW := Lib.hid (hW.out.trans (hb.mono hW.out.size)); have hA' := Lib.hid (hA'.out.below hb); clear hr hc1 hm1 hz1 ho1 hi1 hb)
      | (go_at_call 21; refine (child_any _ A1 0 c1 i [] hi1'.out hz1'.out hn5'.out).mono ?_; intro e w2 hr; obtain ⟨A2, c2, e2, hc2, hm2, hz2, ho2, hi2, hb⟩ := hr.shape; rw [hch.out] at e2 hc2 ho2 hi2; subst e2; have hc2' := Lib.hid hc2; have hm2' := Lib.hid hm2; have hz2' := Lib.hid hz2; have ho2' := Lib.hid ho2; have hi2' := Lib.hid hi2; have hl2 := Lib.hid ho2.lo; have hh2 := Lib.hid ho2.hi; have hs2 := Lib.hid hb.size; have hA' := Lib.hid (hA'.out.below hb); have ho1' := Lib.hid (ho1'.out.below hb); have hi1' := Lib.hid (hi1'.out.below hb); have hW := Lib.hid (hW.out.trans (hb.mono hW.out.size)); clear hr hc2 hm2 hz2 ho2 hi2 hb)
      | (go_at_call_of 22 (Value.slice A2 1 c2); refine (parent_snoc _ A2 1 c2 [] i hi2'.out hz2'.out hn6'.out hc2'.out hm2'.out).mono ?_; rintro e w3 ⟨A3, c3, e3, hc3, hm3, ho3, hb⟩; rw [hl'.out] at e3 hc3 ho3; subst e3; have ho3' := Lib.hid ho3; have hi3' := Lib.hid (Its.at_own ho3); have hl3 := Lib.hid ho3.lo; have hh3 := Lib.hid ho3.hi; have hs3 := Lib.hid hb.size; have hA' := Lib.hid (hA'.out.below hb); have ho1' := Lib.hid (ho1'.out.below hb); have hi1' := Lib.hid (hi1'.out.below hb); have ho2' := Lib.hid (ho2'.out.below hb); have hi2' := Lib.hid (hi2'.out.below hb); have hW := Lib.hid (hW.out.trans (hb.mono hW.out.size)); clear hc3 hm3 ho3 hb)
      | (go_at_call_of 22 (Value.slice A1 0 c1); refine (parent_nil _ A1 0 c1 hi1'.out hz1'.out hn5'.out hc1'.out hm1'.out).mono ?_; rintro e w4 ⟨rfl, hb⟩; have hs4 := Lib.hid hb.size; have hA' := Lib.hid (hA'.out.below hb); have ho1' := Lib.hid (ho1'.out.below hb); have hi1' := Lib.hid (hi1'.out.below hb); have ho2' := Lib.hid (ho2'.out.below hb); have hi2' := Lib.hid (hi2'.out.below hb); have ho3' := Lib.hid (ho3'.out.below hb); have hi3' := Lib.hid (hi3'.out.below hb); have hW := Lib.hid (hW.out.trans (hb.mono hW.out.size)); clear hb)
      | (go_at_call 24; refine (refChild_any _ A 0 c i [] hA'.out hnil'.out hn5'.out).mono ?_; intro e w5 hr; obtain ⟨A5, c5, e5, hc5, hm5, hz5, ho5, hi5, hb⟩ := hr.shape; rw [hch.out] at e5 hc5 ho5 hi5; subst e5; have hi5' := Lib.hid hi5; have hA' := Lib.hid (hA'.out.below hb); have ho1' := Lib.hid (ho1'.out.below hb); have hi1' := Lib.hid (hi1'.out.below hb); have ho2' := Lib.hid (ho2'.out.below hb); have hi2' := Lib.hid (hi2'.out.below hb); have ho3' := Lib.hid (ho3'.out.below hb); have hi3' := Lib.hid (hi3'.out.below hb); have hW := Lib.hid (hW.out.trans (hb.mono hW.out.size)); clear hr hc5 hm5 hz5 ho5 hi5 hb)
      | (go_at_call_of 23 (Value.slice A2 1 c2); refine (same_yes _ A2 A5 1 c2 1 c5 ([] ++ [i]) hi2'.out hi5'.out hnm6'.out).mono ?_; rintro e w6 ⟨rfl, hb⟩; have hA' := Lib.hid (hA'.out.below hb); have ho1' := Lib.hid (ho1'.out.below hb); have hi1' := Lib.hid (hi1'.out.below hb); have ho2' := Lib.hid (ho2'.out.below hb); have hi2' := Lib.hid (hi2'.out.below hb); have ho3' := Lib.hid (ho3'.out.below hb); have hi3' := Lib.hid (hi3'.out.below hb); have hW := Lib.hid (hW.out.trans (hb.mono hW.out.size)); clear hb)
      | (go_at_call_of 23 (Value.slice A3 0 c3); refine (same_yes _ A3 A 0 c3 0 c [] hi3'.out hA'.out hnm'.out).mono ?_; rintro e w7 ⟨rfl, hb⟩; have hA' := Lib.hid (hA'.out.below hb); have ho1' := Lib.hid (ho1'.out.below hb); have hi1' := Lib.hid (hi1'.out.below hb); have ho2' := Lib.hid (ho2'.out.below hb); have hi2' := Lib.hid (hi2'.out.below hb); have ho3' := Lib.hid (ho3'.out.below hb); have hi3' := Lib.hid (hi3'.out.below hb); have hW := Lib.hid (hW.out.trans (hb.mono hW.out.size)); clear hb))
  go_loopw [13] (fun i wr => ∃ (k : Nat) (L : List Int), k ≤ 0 ∧ i = .int .i64 (k : Int) ∧ OwnI w2.heap.size wr (.slice A3 0 c3) L ∧ But (Value.ownBlock (.slice A3 0 c3)) w7 wr) (fun i _ => 0 - (intOf i).toNat)
  case atStart => exact ⟨0, _, Nat.zero_le _, rfl, ho3'.out, But.refl _ _⟩
  case round =>
    obtain ⟨k, L, hk, rfl, ho, hbut⟩ := hrel
    have ho' := Lib.hid ho
    have hbut' := Lib.hid hbut
    clear ho hbut
    by_cases hlt : k < 0
    · exact absurd hlt (Nat.not_lt_zero _)
    · obtain ⟨wa, hwa⟩ : ∃ wa, wa = wr := ⟨_, rfl⟩
      subst hwa
      obtain rfl : k = 0 := by omega
      have hbA := hbut'
      clear hbut' ho'
      go_wp2_with fail
      go_loopw [14] (fun i wr => ∃ (k : Nat) (L : List Int), k ≤ 0 ∧ i = .int .i64 (k : Int) ∧ OwnI w3.heap.size wr (.slice none 0 0) L ∧ But (Value.ownBlock (.slice none 0 0)) wa wr) (fun i _ => 0 - (intOf i).toNat)
      case atStart => exact ⟨0, _, Nat.zero_le _, rfl, (OwnI.nil_ _ _), But.refl _ _⟩
      case round =>
        obtain ⟨k, L, hk, rfl, ho, hbut⟩ := hrel
        have ho' := Lib.hid ho
        have hbut' := Lib.hid hbut
        clear ho hbut
        by_cases hlt : k < 0
        · exact absurd hlt (Nat.not_lt_zero _)
        · obtain rfl : k = 0 := by omega
          have hbB := hbut'
          have o2 := Lib.hid ((ho2'.out.but hbA.out (but_ne hh2.out hl3.out)).but hbB.out (but_ne (hi_mono hh2.out hs3.out) (fun k hk => by cases hk)))
          obtain ⟨g, x, e, hg1, hg2, hcell, hfr, hst⟩ := o2.out.room (show 0 < 1 by omega)
          subst e
          have hst' := Lib.hid (hst (-7)).2
          have o1 := Lib.hid (((ho1'.out.but hbA.out (but_ne (hi_mono hh1.out hs2.out) hl3.out)).but hbB.out (but_ne (hi_mono (hi_mono hh1.out hs2.out) hs3.out) (fun k hk => by cases hk))).but hst'.out (but_ne hh1.out hl2.out))
          have hf1 := Lib.hid (Its.at_own o1.out)
          have hWa := Lib.hid (hW.out.trans (hbA.out.below hW.out.size (lo_mono hl3.out (Nat.le_trans hs1.out hs2.out))))
          have hWb := Lib.hid (hWa.out.trans (hbB.out.below hWa.out.size (lo_mono (fun k hk => by cases hk) (Nat.le_trans (Nat.le_trans hs1.out hs2.out) hs3.out))))
          have hWf := Lib.hid (hWb.out.trans (hst'.out.below hWb.out.size (lo_mono hl2.out hs1.out)))
          have hfA := Lib.hid (hA0.out.below hWf.out)
          clear hst hlt
          go_wp2_with (first
            | (go_at_call_of 23 (Value.slice A1 0 c1); refine (same_yes _ A1 A 0 c1 0 c [] hf1.out hfA.out hnm'.out).mono ?_; rintro e wf ⟨rfl, hb⟩; have hW := Lib.hid (hWf.out.trans (hb.mono hWf.out.size)); clear hb)
            | (go_at_call 11; refine (works_any _).mono ?_; rintro e wg ⟨rfl, hb⟩; have hW := Lib.hid (hW.out.trans (hb.mono hW.out.size))))
          go_ret
          exact ⟨rfl, hW.out⟩

set_option maxHeartbeats 3200000 in
theorem parentLaw_one (w : World) (ad : Addr) (n p q c : Nat) (i z : Int) (ys : List Int) (hnq : Hid (n = q + 1)) (hpn : Hid (p = n + 1)) (hA : Its w (some ad) n (ys ++ [z])) (hnil : some ad = none → c = 0) (hnc : n ≤ c) (hcm : c ≤ maxLen) (h5 : ¬ (500 : Int) < (n : Int)) :
    Calls Try.prog 6 #[.slice (some ad) n c, .int .i64 i] w (Held w) := by
  have hW := Lib.hid (Below.refl w.heap.size w)
  have hA' := Lib.hid hA
  have hA0 := Lib.hid hA
  have hnil' := Lib.hid hnil
  have hn5' := Lib.hid (show n ≤ 500000 by omega)
  have hn6' := Lib.hid (show p ≤ 500000 by have := hpn.out; omega)
  have hnm' := Lib.hid (show n ≤ maxLen by unfold maxLen; omega)
  have hnm6' := Lib.hid (show p ≤ maxLen by have := hpn.out; unfold maxLen; omega)
  have hl' := Lib.hid hA.1
  have hch := Lib.hid (show ((ys ++ [z]) ++ [i]).length = p by rw [List.length_append, hA.1, hpn.out]; rfl)
  have hnm7' := Lib.hid (show q ≤ maxLen by have := hnq.out; unfold maxLen; omega)
  have hyl := Lib.hid (show ys.length = q by have := hA.1; have := hnq.out; simp at *; omega)
  obtain ⟨ad', z', e, hz, hcz⟩ := hA.at_ (show q < n by have := hnq.out; omega)
  obtain rfl : ad = ad' := Option.some.inj e
  obtain rfl : z = z' := by
    rw [List.getElem?_append_right (by rw [hyl.out]; exact Nat.le_refl _), hyl.out, Nat.sub_self] at hz
    exact Option.some.inj hz
  have hzlt' := Lib.hid (World.block_lt_of_cell? w _ hcz)
  have hAup := Lib.hid (show Its w (some ad) q ys by
    have h := hA.upto (q := q) (by have := hnq.out; omega)
    rwa [List.take_left' hyl.out] at h)
  have e2 : (n : Int) - 1 = (q : Int) := by have := hnq.out; omega
  have e3 : (0 : Int) ≤ (q : Int) := by omega
  have e4 : (q : Int) ≤ (c : Int) := by have := hnq.out; omega
  have e5 : (q : Int) < (n : Int) := by have := hnq.out; omega
  have e7 : (0 : Int) < (n : Int) := by have := hnq.out; omega
  have e8 : 0 < n := by have := hnq.out; omega
  have h0p := Lib.hid (show 0 < p by have := hpn.out; omega)
  clear hz e hA hnil
  go_enter Try.func6, Try.ntmps6
  go_wp2_with (first
      | (go_at_call 20; refine (refCopied_any _ (some ad) n c (ys ++ [z]) hA'.out hnil'.out hn5'.out).mono ?_; intro e w1 hr; obtain ⟨A1, c1, e1, hc1, hm1, hz1, ho1, hi1, hb⟩ := hr.shape; rw [hl'.out] at e1 hc1 ho1 hi1; subst e1; have hc1' := Lib.hid hc1; have hm1' := Lib.hid hm1; have hz1' := Lib.hid hz1; have ho1' := Lib.hid ho1; have hi1' := Lib.hid hi1; have hh1 := Lib.hid ho1.hi; have hs1 := Lib.hid hb.size; have hW := Lib.hid (hW.out.trans (hb.mono hW.out.size)); have hA' := Lib.hid (hA'.out.below hb); have hAup := Lib.hid (hAup.out.below hb); have hcz := (hb.cell hzlt'.out).trans hcz; have hzlt' := Lib.hid (Nat.lt_of_lt_of_le hzlt'.out hb.size); clear hr hc1 hm1 hz1 ho1 hi1 hb)
      | (go_at_call 21; refine (child_any _ A1 n c1 i (ys ++ [z]) hi1'.out hz1'.out hn5'.out).mono ?_; intro e w2 hr; obtain ⟨A2, c2, e2, hc2, hm2, hz2, ho2, hi2, hb⟩ := hr.shape; rw [hch.out] at e2 hc2 ho2 hi2; subst e2; have hc2' := Lib.hid hc2; have hm2' := Lib.hid hm2; have hz2' := Lib.hid hz2; have ho2' := Lib.hid ho2; have hi2' := Lib.hid hi2; have hl2 := Lib.hid ho2.lo; have hh2 := Lib.hid ho2.hi; have hs2 := Lib.hid hb.size; have hA' := Lib.hid (hA'.out.below hb); have hAup := Lib.hid (hAup.out.below hb); have hcz := (hb.cell hzlt'.out).trans hcz; have hzlt' := Lib.hid (Nat.lt_of_lt_of_le hzlt'.out hb.size); have ho1' := Lib.hid (ho1'.out.below hb); have hi1' := Lib.hid (hi1'.out.below hb); have hW := Lib.hid (hW.out.trans (hb.mono hW.out.size)); clear hr hc2 hm2 hz2 ho2 hi2 hb)
      | (go_at_call_of 22 (Value.slice A2 p c2); refine (parent_snoc _ A2 p c2 (ys ++ [z]) i hi2'.out hz2'.out hn6'.out hc2'.out hm2'.out).mono ?_; rintro e w3 ⟨A3, c3, e3, hc3, hm3, ho3, hb⟩; rw [hl'.out] at e3 hc3 ho3; subst e3; have ho3' := Lib.hid ho3; have hi3' := Lib.hid (Its.at_own ho3); have hl3 := Lib.hid ho3.lo; have hh3 := Lib.hid ho3.hi; have hs3 := Lib.hid hb.size; have hA' := Lib.hid (hA'.out.below hb); have hAup := Lib.hid (hAup.out.below hb); have hcz := (hb.cell hzlt'.out).trans hcz; have hzlt' := Lib.hid (Nat.lt_of_lt_of_le hzlt'.out hb.size); have ho1' := Lib.hid (ho1'.out.below hb); have hi1' := Lib.hid (hi1'.out.below hb); have ho2' := Lib.hid (ho2'.out.below hb); have hi2' := Lib.hid (hi2'.out.below hb); have hW := Lib.hid (hW.out.trans (hb.mono hW.out.size)); clear hc3 hm3 ho3 hb)
      | (go_at_call_of 22 (Value.slice A1 n c1); refine (parent_snoc _ A1 n c1 ys z hi1'.out hz1'.out hn5'.out hc1'.out hm1'.out).mono ?_; rintro e w4 ⟨A4, c4, e4, hc4, hm4, ho4, hb⟩; rw [hyl.out] at e4 hc4 ho4; subst e4; have ho4' := Lib.hid ho4; have hi4' := Lib.hid (Its.at_own ho4); have hl4 := Lib.hid ho4.lo; have hs4 := Lib.hid hb.size; have hA' := Lib.hid (hA'.out.below hb); have hAup := Lib.hid (hAup.out.below hb); have hcz := (hb.cell hzlt'.out).trans hcz; have hzlt' := Lib.hid (Nat.lt_of_lt_of_le hzlt'.out hb.size); have ho1' := Lib.hid (ho1'.out.below hb); have hi1' := Lib.hid (hi1'.out.below hb); have ho2' := Lib.hid (ho2'.out.below hb); have hi2' := Lib.hid (hi2'.out.below hb); have ho3' := Lib.hid (ho3'.out.below hb); have hi3' := Lib.hid (hi3'.out.below hb); have hW := Lib.hid (hW.out.trans (hb.mono hW.out.size)); clear hc4 hm4 ho4 hb)
      | (go_at_call 24; refine (refChild_any _ (some ad) n c i (ys ++ [z]) hA'.out hnil'.out hn5'.out).mono ?_; intro e w5 hr; obtain ⟨A5, c5, e5, hc5, hm5, hz5, ho5, hi5, hb⟩ := hr.shape; rw [hch.out] at e5 hc5 ho5 hi5; subst e5; have hi5' := Lib.hid hi5; have hA' := Lib.hid (hA'.out.below hb); have hAup := Lib.hid (hAup.out.below hb); have ho1' := Lib.hid (ho1'.out.below hb); have hi1' := Lib.hid (hi1'.out.below hb); have ho2' := Lib.hid (ho2'.out.below hb); have hi2' := Lib.hid (hi2'.out.below hb); have ho3' := Lib.hid (ho3'.out.below hb); have hi3' := Lib.hid (hi3'.out.below hb); have ho4' := Lib.hid (ho4'.out.below hb); have hi4' := Lib.hid (hi4'.out.below hb); have hcz := (hb.cell hzlt'.out).trans hcz; have hzlt' := Lib.hid (Nat.lt_of_lt_of_le hzlt'.out hb.size); have hW := Lib.hid (hW.out.trans (hb.mono hW.out.size)); clear hr hc5 hm5 hz5 ho5 hi5 hb)
      | (go_at_call_of 23 (Value.slice A2 p c2); refine (same_yes _ A2 A5 p c2 p c5 ((ys ++ [z]) ++ [i]) hi2'.out hi5'.out hnm6'.out).mono ?_; rintro e w6 ⟨rfl, hb⟩; have hA' := Lib.hid (hA'.out.below hb); have hAup := Lib.hid (hAup.out.below hb); have ho1' := Lib.hid (ho1'.out.below hb); have hi1' := Lib.hid (hi1'.out.below hb); have ho2' := Lib.hid (ho2'.out.below hb); have hi2' := Lib.hid (hi2'.out.below hb); have ho3' := Lib.hid (ho3'.out.below hb); have hi3' := Lib.hid (hi3'.out.below hb); have ho4' := Lib.hid (ho4'.out.below hb); have hi4' := Lib.hid (hi4'.out.below hb); have hcz := (hb.cell hzlt'.out).trans hcz; have hzlt' := Lib.hid (Nat.lt_of_lt_of_le hzlt'.out hb.size); have hW := Lib.hid (hW.out.trans (hb.mono hW.out.size)); clear hb)
      | (go_at_call_of 23 (Value.slice A3 n c3); refine (same_yes _ A3 (some ad) n c3 n c (ys ++ [z]) hi3'.out hA'.out hnm'.out).mono ?_; rintro e w7 ⟨rfl, hb⟩; have hA' := Lib.hid (hA'.out.below hb); have hAup := Lib.hid (hAup.out.below hb); have ho1' := Lib.hid (ho1'.out.below hb); have hi1' := Lib.hid (hi1'.out.below hb); have ho2' := Lib.hid (ho2'.out.below hb); have hi2' := Lib.hid (hi2'.out.below hb); have ho3' := Lib.hid (ho3'.out.below hb); have hi3' := Lib.hid (hi3'.out.below hb); have ho4' := Lib.hid (ho4'.out.below hb); have hi4' := Lib.hid (hi4'.out.below hb); have hcz := (hb.cell hzlt'.out).trans hcz; have hzlt' := Lib.hid (Nat.lt_of_lt_of_le hzlt'.out hb.size); have hW := Lib.hid (hW.out.trans (hb.mono hW.out.size)); clear hb)
      | (go_at_call_of 23 (Value.slice A4 q c4); refine (same_yes _ A4 _ q c4 q c ys hi4'.out hAup.out hnm7'.out).mono ?_; rintro e w8 ⟨rfl, hb⟩; have hA' := Lib.hid (hA'.out.below hb); have hAup := Lib.hid (hAup.out.below hb); have ho1' := Lib.hid (ho1'.out.below hb); have hi1' := Lib.hid (hi1'.out.below hb); have ho2' := Lib.hid (ho2'.out.below hb); have hi2' := Lib.hid (hi2'.out.below hb); have ho3' := Lib.hid (ho3'.out.below hb); have hi3' := Lib.hid (hi3'.out.below hb); have ho4' := Lib.hid (ho4'.out.below hb); have hi4' := Lib.hid (hi4'.out.below hb); have hW := Lib.hid (hW.out.trans (hb.mono hW.out.size)); clear hb))
  go_loopw [13] (fun i wr => ∃ (k : Nat) (L : List Int), k ≤ n ∧ i = .int .i64 (k : Int) ∧ OwnI w2.heap.size wr (.slice A3 n c3) L ∧ But (Value.ownBlock (.slice A3 n c3)) w8 wr) (fun i _ => n - (intOf i).toNat)
  case atStart => exact ⟨0, _, Nat.zero_le _, rfl, ho3'.out, But.refl _ _⟩
  case round =>
    obtain ⟨k, L, hk, rfl, ho, hbut⟩ := hrel
    have ho' := Lib.hid ho
    have hbut' := Lib.hid hbut
    clear ho hbut
    by_cases hlt : k < n
    · obtain ⟨g, x, rfl, hg1, hg2, hcell, hfr, hst⟩ := ho'.out.room hlt
      have hst' := Lib.hid (hst (-7))
      have j0 : (0 : Int) ≤ (k : Int) := by omega
      have j1 : (k : Int) < (n : Int) := by omega
      clear hst hlt
      go_wp2_with fail
      go_roundw
      case rel => exact ⟨k + 1, _, by omega, by go_num, hst'.out.1, hbut'.out.trans hst'.out.2⟩
      case measure => simp [intOf]; omega
    · obtain ⟨wa, hwa⟩ : ∃ wa, wa = wr := ⟨_, rfl⟩
      subst hwa
      have hkn : n = k := by omega
      subst hkn
      have hbA := hbut'
      clear hbut' ho'
      go_wp2_with fail
      go_loopw [14] (fun i wr => ∃ (k : Nat) (L : List Int), k ≤ q ∧ i = .int .i64 (k : Int) ∧ OwnI w3.heap.size wr (.slice A4 q c4) L ∧ But (Value.ownBlock (.slice A4 q c4)) wa wr) (fun i _ => q - (intOf i).toNat)
      case atStart => exact ⟨0, _, Nat.zero_le _, rfl, (ho4'.out.but hbA.out (but_ne2 hl4.out hh3.out)), But.refl _ _⟩
      case round =>
        obtain ⟨k, L, hk, rfl, ho, hbut⟩ := hrel
        have ho' := Lib.hid ho
        have hbut' := Lib.hid hbut
        clear ho hbut
        by_cases hlt : k < q
        · obtain ⟨g, x, rfl, hg1, hg2, hcell, hfr, hst⟩ := ho'.out.room hlt
          have hst' := Lib.hid (hst (-7))
          have j0 : (0 : Int) ≤ (k : Int) := by omega
          have j1 : (k : Int) < (q : Int) := by omega
          clear hst hlt
          go_wp2_with fail
          go_roundw
          case rel => exact ⟨k + 1, _, by omega, by go_num, hst'.out.1, hbut'.out.trans hst'.out.2⟩
          case measure => simp [intOf]; omega
        · have hkq : q = k := by omega
          subst hkq
          have hbB := hbut'
          have o2 := Lib.hid ((ho2'.out.but hbA.out (but_ne hh2.out hl3.out)).but hbB.out (but_ne (hi_mono hh2.out hs3.out) hl4.out))
          obtain ⟨g, x, e, hg1, hg2, hcell, hfr, hst⟩ := o2.out.room h0p.out
          subst e
          have hst' := Lib.hid (hst (-7)).2
          have o1 := Lib.hid (((ho1'.out.but hbA.out (but_ne (hi_mono hh1.out hs2.out) hl3.out)).but hbB.out (but_ne (hi_mono (hi_mono hh1.out hs2.out) hs3.out) hl4.out)).but hst'.out (but_ne hh1.out hl2.out))
          have hf1 := Lib.hid (Its.at_own o1.out)
          have hWa := Lib.hid (hW.out.trans (hbA.out.below hW.out.size (lo_mono hl3.out (Nat.le_trans hs1.out hs2.out))))
          have hWb := Lib.hid (hWa.out.trans (hbB.out.below hWa.out.size (lo_mono hl4.out (Nat.le_trans (Nat.le_trans hs1.out hs2.out) hs3.out))))
          have hWf := Lib.hid (hWb.out.trans (hst'.out.below hWb.out.size (lo_mono hl2.out hs1.out)))
          have hfA := Lib.hid (hA0.out.below hWf.out)
          clear hst hlt
          go_wp2_with (first
            | (go_at_call_of 23 (Value.slice A1 n c1); refine (same_yes _ A1 (some ad) n c1 n c (ys ++ [z]) hf1.out hfA.out hnm'.out).mono ?_; rintro e wf ⟨rfl, hb⟩; have hW := Lib.hid (hWf.out.trans (hb.mono hWf.out.size)); clear hb)
            | (go_at_call 11; refine (works_any _).mono ?_; rintro e wg ⟨rfl, hb⟩; have hW := Lib.hid (hW.out.trans (hb.mono hW.out.size))))
          go_ret
          exact ⟨rfl, hW.out⟩
theorem parentLaw_any (w : World) (A : Option Addr) (n c : Nat) (i : Int) (xs : List Int) (hA : Its w A n xs) (hnil : A = none → c = 0) (hnc : n ≤ c) (hcm : c ≤ maxLen) :
    Calls Try.prog 6 #[.slice A n c, .int .i64 i] w (Held w) := by
  by_cases h5 : (500 : Int) < (n : Int)
  · clear hA hnil hnc hcm
    go_enter Try.func6, Try.ntmps6
    go_wp2_with (go_at_call 11; refine (works_any _).mono ?_; rintro e w1 ⟨rfl, hb⟩)
    go_ret
    exact ⟨rfl, hb⟩
  · rcases List.eq_nil_or_concat xs with rfl | ⟨ys, z, rfl⟩
    · obtain rfl : n = 0 := hA.1.symm
      exact parentLaw_nil w A c i hA hnil hnc hcm h5
    · obtain ⟨q, rfl⟩ : ∃ q, n = q + 1 := ⟨ys.length, by have := hA.1; simp at this; omega⟩
      cases A with
      | none =>
        have := hA.none_nil
        simp at this
      | some ad => exact parentLaw_one w ad (q + 1) (q + 1 + 1) q c i z ys rfl rfl (by simpa using hA) hnil hnc hcm h5
end Go.Proofs.Ytflllhodeakpgaa
