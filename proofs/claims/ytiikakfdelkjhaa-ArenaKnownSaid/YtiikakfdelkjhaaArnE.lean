/- What is wrong with a move, with other data; the way down a path; a slot's data: the program's. -/
import Derived.Test.YtiikakfdelkjhaaArnD
namespace Go.Proofs.Ytiikakfdelkjhaa.Arn
open Go.RowKit
set_option maxRecDepth 20000

open Classical in
noncomputable def moveE (a : Av) (s p i : Int) : Int := if liveI a s = true ∧ liveI a p = true then (if s = 0 then 82 else if Dn a.par s.toNat p.toNat then 84 else gapE a p.toNat i) else 5
theorem moveE_dead {a : Av} {s p i : Int} (h : ¬ (liveI a s = true ∧ liveI a p = true)) : moveE a s p i = 5 := if_neg h
theorem moveE_root {a : Av} {s p i : Int} (h : liveI a s = true ∧ liveI a p = true) (h0 : s = 0) : moveE a s p i = 82 := by unfold moveE; rw [if_pos h, if_pos h0]
theorem moveE_cycle {a : Av} {s p : Nat} {i : Int} (h : liveI a s = true ∧ liveI a p = true) (h0 : s ≠ 0) (hd : Dn a.par s p) : moveE a s p i = 84 := by
  unfold moveE
  rw [if_pos h, if_neg (by omega), if_pos (by simpa using hd)]
theorem moveE_gap {a : Av} {s p : Nat} {i : Int} (h : liveI a s = true ∧ liveI a p = true) (h0 : s ≠ 0) (hd : ¬ Dn a.par s p) : moveE a s p i = gapE a p i := by
  unfold moveE
  rw [if_pos h, if_neg (by omega), if_neg (by simpa using hd)]
  rfl
def setE (a : Av) (s : Int) (leaf : Bool) : Int := if liveI a s then (if leaf = true ∧ (s = 0 ∨ a.kids s.toNat ≠ []) then 83 else 0) else 5
section
variable {w : World} {ow : Nat → Role} {P : Nat} {a : Av} {B : Nat → Nat} {m : Nat} {sv : Nat → SV} {sA : Option Addr} {sc : Nat} {fA : Option Addr} {fc : Nat}
set_option maxHeartbeats 1000000 in
theorem moveFault_any (h : PA w ow P a B m sv sA sc fA fc) (hw : WF a) (s p i : Int) : Calls Try.prog 48 #[.pointer (some ⟨P, 0, none⟩), .int .i64 s, .int .i64 p, .int .i64 i] w fun e w' => e = .returned (.int .i64 (moveE a s p i)) ∧ w = w' := by
  have h' := Lib.hid h
  have hw' := Lib.hid hw
  obtain ⟨V, hV⟩ : ∃ V, V = moveE a s p i := ⟨_, rfl⟩
  rw [← hV]
  cases hs : liveI a s with
  | false =>
    have hv := Lib.hid (show V = 5 by rw [hV]; exact moveE_dead (by rw [hs]; simp))
    have hs' := Lib.hid hs
    clear hV hs h hw
    go_enter Try.func48, Try.ntmps48
    go_wp2_with (refine (isLive_any h'.out s).mono ?_; rintro e w7 ⟨rfl, rfl⟩; rw [hs'.out])
    go_ret
    exact ⟨by rw [hv.out]; rfl, rfl⟩
  | true =>
    have hs' := Lib.hid hs
    cases hp : liveI a p with
    | false =>
      have hv := Lib.hid (show V = 5 by rw [hV]; exact moveE_dead (by rw [hp]; simp))
      have hp' := Lib.hid hp
      clear hV hs hp h hw
      go_enter Try.func48, Try.ntmps48
      go_wp2_with (first
        | (go_at_call_of 38 s; refine (isLive_any h'.out s).mono ?_; rintro e w7 ⟨rfl, rfl⟩; rw [hs'.out])
        | (go_at_call_of 38 p; refine (isLive_any h'.out p).mono ?_; rintro e w7 ⟨rfl, rfl⟩; rw [hp'.out]))
      go_ret
      exact ⟨by rw [hv.out]; rfl, rfl⟩
    | true =>
      have hp' := Lib.hid hp
      by_cases h0 : s = 0
      · subst h0
        have hv := Lib.hid (show V = 82 by rw [hV]; exact moveE_root ⟨hs, hp⟩ rfl)
        clear hV hs hp h hw
        go_enter Try.func48, Try.ntmps48
        go_wp2_with (first
          | (go_at_call_of 38 p; refine (isLive_any h'.out p).mono ?_; rintro e w7 ⟨rfl, rfl⟩; rw [hp'.out])
          | (refine (isLive_any h'.out 0).mono ?_; rintro e w7 ⟨rfl, rfl⟩; rw [hs'.out]))
        go_ret
        exact ⟨by rw [hv.out]; rfl, rfl⟩
      · obtain ⟨x, rfl, hx⟩ := liveI_nat hs
        obtain ⟨y, rfl, hy⟩ := liveI_nat hp
        have hb0 : (((x : Int)) == 0) = false := by simp; omega
        have hym := Lib.hid (h.live_lt hy).2
        have hanc := Lib.hid (show ∀ z, Dn a.par z y → z < m * 16 from fun z hz => (h.live_lt (hw.dn_live hz hy)).2)
        have htop := Lib.hid (hw.top hy)
        have hcyc := Lib.hid (fun hd => show V = 84 by rw [hV]; exact moveE_cycle ⟨hs, hp⟩ (by omega) hd)
        have hgap := Lib.hid (fun hd => show V = gapE a y i by rw [hV]; exact moveE_gap ⟨hs, hp⟩ (by omega) hd)
        clear hV hs hp h hw hx hy h0
        go_enter Try.func48, Try.ntmps48
        go_wp2_with (first
          | (refine (isWithin_any (s := x) (p := y) h'.out hw'.out.par0 hanc.out htop.out).mono ?_; rintro e w7 ⟨b, rfl, hb, rfl⟩; have hb' := Lib.hid hb; clear hb; cases b)
          | (refine (gapFault_any h'.out hym.out i).mono ?_; rintro e w7 ⟨rfl, rfl⟩)
          | (refine (isLive_any h'.out _).mono ?_; rintro e w7 ⟨rfl, rfl⟩; first | rw [hs'.out] | rw [hp'.out]))
        all_goals go_ret
        · exact ⟨by rw [hgap.out fun hd => by have := hb'.out.2 hd; cases this]; rfl, rfl⟩
        · exact ⟨by rw [hcyc.out (hb'.out.1 (by trivial))]; rfl, rfl⟩
set_option maxHeartbeats 1000000 in
theorem setFault_any (h : PA w ow P a B m sv sA sc fA fc) (s : Int) (d : Dt) (dA : Option Addr) (dn dc : Nat) : Calls Try.prog 49 #[.pointer (some ⟨P, 0, none⟩), .int .i64 s, datV d dA dn dc] w fun e w' => e = .returned (.int .i64 (setE a s d.leaf)) ∧ Below w.heap.size w w' := by
  have h' := Lib.hid h
  obtain ⟨V, hV⟩ : ∃ V, V = setE a s d.leaf := ⟨_, rfl⟩
  rw [← hV]
  unfold setE at hV
  unfold datV
  generalize d.id = id
  generalize d.label = lb
  generalize d.text = tx
  have hal : ∀ o, Below w.heap.size w (w.alloc o) := fun o => (Below.refl _ _).alloc (Nat.le_refl _) _
  have hal' := Lib.hid hal
  have h2 := Lib.hid (fun o => h.below (hal o))
  clear hal
  cases hs : liveI a s with
  | false =>
    have hv := Lib.hid (show V = 5 by rw [hV, hs]; rfl)
    have hs' := Lib.hid hs
    clear hV hs h
    generalize d.leaf = leaf
    go_enter Try.func49, Try.ntmps49
    go_wp2_with (refine (isLive_any (h2.out _) s).mono ?_; rintro e w7 ⟨rfl, rfl⟩; rw [hs'.out])
    go_ret
    exact ⟨by rw [hv.out]; rfl, hal'.out _⟩
  | true =>
    have hs' := Lib.hid hs
    obtain ⟨x, rfl, hx⟩ := liveI_nat hs
    have hxm := (h.live_lt hx).2
    rw [hs] at hV
    cases hlf : d.leaf with
    | false =>
      have hv := Lib.hid (show V = 0 by rw [hV, hlf]; simp)
      clear hV hs hx h hlf
      go_enter Try.func49, Try.ntmps49
      go_wp2_with (refine (isLive_any (h2.out _) (x : Int)).mono ?_; rintro e w7 ⟨rfl, rfl⟩; rw [hs'.out])
      go_ret
      exact ⟨by rw [hv.out]; rfl, hal'.out _⟩
    | true =>
      by_cases h0 : x = 0
      · subst h0
        have hv := Lib.hid (show V = 83 by rw [hV, hlf]; simp)
        clear hV hs hx h hlf
        go_enter Try.func49, Try.ntmps49
        go_wp2_with (refine (isLive_any (h2.out _) 0).mono ?_; rintro e w7 ⟨rfl, rfl⟩; first | rw [hs'.out] | rw [show liveI a 0 = true from hs'.out])
        go_ret
        exact ⟨by rw [hv.out]; rfl, hal'.out _⟩
      · have hb0 : (((x : Int)) == 0) = false := by simp; omega
        have e8 := fun o => ((h2.out o).eight hxm).2.2.1
        have hkl := (h.kids x hxm).len
        have hks := h.ksmall x
        have hxm' := Lib.hid hxm
        rw [hkl] at e8
        by_cases hk : a.kids x = []
        · have hv := Lib.hid (show V = 0 by rw [hV, hlf]; simp [hk]; omega)
          rw [hk] at e8
          simp at e8
          clear hV hs hx h hlf hk hkl hks hxm h0
          go_enter Try.func49, Try.ntmps49
          go_wp2_with (first
            | (refine (node_any (h2.out _) hxm'.out).mono ?_; rintro e w7 ⟨rfl, rfl⟩)
            | (refine (isLive_any (h2.out _) (x : Int)).mono ?_; rintro e w7 ⟨rfl, rfl⟩; rw [hs'.out]))
          go_ret
          exact ⟨by rw [hv.out]; rfl, hal'.out _⟩
        · have hv := Lib.hid (show V = 83 by rw [hV, hlf]; simp [hk])
          have hpos : 0 < (a.kids x).length := List.length_pos_iff.2 hk
          clear hV hs hx h hlf hk hkl hxm h0
          generalize (a.kids x).length = n at *
          have hpos2 : (0 : Int) < (n : Int) := by omega
          go_enter Try.func49, Try.ntmps49
          go_wp2_with (first
            | (refine (node_any (h2.out _) hxm'.out).mono ?_; rintro e w7 ⟨rfl, rfl⟩)
            | (refine (isLive_any (h2.out _) (x : Int)).mono ?_; rintro e w7 ⟨rfl, rfl⟩; rw [hs'.out]))
          go_ret
          exact ⟨by rw [hv.out]; rfl, hal'.out _⟩
/-- the slot at a path -/
def walkV (a : Av) : List Int → Nat → Option Nat
  | [], s => some s
  | i :: r, s => if 0 ≤ i then (match (a.kids s)[i.toNat]? with | some k => walkV a r k | none => none) else none
def walkA : Option Nat → Value
  | some s => .tuple #[.int .i64 (s : Int), .bool true]
  | none => .tuple #[.int .i64 (-1), .bool false]
theorem walkV_step {a : Av} {i : Int} {r : List Int} {s k : Nat} {j : Nat} (hi : i = (j : Int)) (hk : (a.kids s)[j]? = some k) : walkV a (i :: r) s = walkV a r k := by
  subst hi
  show (if (0 : Int) ≤ (j : Int) then (match (a.kids s)[(j : Int).toNat]? with | some k => walkV a r k | none => none) else none) = _
  rw [if_pos (by omega), Int.toNat_natCast, hk]
theorem walkV_stop {a : Av} {i : Int} {r : List Int} {s : Nat} (hi : i < 0 ∨ ((a.kids s).length : Int) ≤ i) : walkV a (i :: r) s = none := by
  unfold walkV
  split
  · rename_i h
    rw [List.getElem?_eq_none (by omega)]
  · rfl
set_option maxHeartbeats 1000000 in
theorem walk_any (h : PA w ow P a B m sv sA sc fA fc) (hw : WF a) {A : Option Addr} {n c : Nat} {p : List Int} (hp : Its w A n p) (hn : n ≤ 1000000) : Calls Try.prog 15 #[.pointer (some ⟨P, 0, none⟩), .slice A n c] w fun e w' => e = .returned (walkA (walkV a p 0)) ∧ w = w' := by
  have h' := Lib.hid h
  have hw' := Lib.hid hw
  have hp' := Lib.hid hp
  have hlive : Hid (liveI a 0 = true) := Lib.hid (by unfold liveI; simpa using hw.root)
  have hpl := hp.1
  clear h hw hp
  go_enter Try.func15, Try.ntmps15
  go_wp2_with (refine (isLive_any h'.out 0).mono ?_; rintro e w7 ⟨rfl, rfl⟩; rw [hlive.out])
  go_loopw [6, 15] (fun s k wr => ∃ (q x : Nat), q ≤ n ∧ k = .int .i64 (q : Int) ∧ s = .int .i64 (x : Int) ∧ a.live x = true ∧ walkV a p 0 = walkV a (p.drop q) x ∧ wr = w) (fun _ k _ => n - (intOf k).toNat)
  case atStart => exact ⟨0, 0, Nat.zero_le _, rfl, rfl, hw'.out.root, by rw [List.drop_zero], rfl⟩
  case round =>
    obtain ⟨q, x, hq, rfl, rfl, hx, hwv, rfl⟩ := hrel
    have hwv' := Lib.hid hwv
    have hx' := Lib.hid hx
    clear hwv hx
    by_cases hqn : q < n
    · obtain ⟨ad, i, rfl, hi, hc⟩ := hp'.out.at_ hqn
      have hxm := Lib.hid (h'.out.live_lt hx'.out).2
      have c2 := (h'.out.eight hxm.out).2.2.1
      have hkl := (h'.out.kids x hxm.out).len
      have hks := h'.out.ksmall x
      rw [hkl] at c2
      have hd := Lib.hid (show p.drop q = i :: p.drop (q + 1) by obtain ⟨h1, h2⟩ := List.getElem?_eq_some_iff.1 hi; rw [List.drop_eq_getElem_cons h1, h2])
      obtain ⟨N, hN⟩ : ∃ N, N = (a.kids x).length := ⟨_, rfl⟩
      rw [← hN] at c2 hks
      have hN' := Lib.hid hN
      clear hkl hN hi hpl
      have hqI : (q : Int) < (n : Int) := by omega
      by_cases h1 : i < 0
      · have hv := Lib.hid (show walkV a p 0 = none from hwv'.out.trans (by rw [hd.out]; exact walkV_stop (.inl h1)))
        go_wp2_with (refine (node_any h'.out hxm.out).mono ?_; rintro e w7 ⟨rfl, rfl⟩)
        exact bodyPost_ret (v := .tuple #[.int .i64 (-1), .bool false]) (by simp [results, Try.results15, go_sem]) rfl ⟨by rw [hv.out]; rfl, rfl⟩
      · by_cases h2 : (N : Int) ≤ i
        · have hv := Lib.hid (show walkV a p 0 = none from hwv'.out.trans (by rw [hd.out]; exact walkV_stop (.inr (by rw [← hN'.out]; exact h2))))
          go_wp2_with (refine (node_any h'.out hxm.out).mono ?_; rintro e w7 ⟨rfl, rfl⟩)
          exact bodyPost_ret (v := .tuple #[.int .i64 (-1), .bool false]) (by simp [results, Try.results15, go_sem]) rfl ⟨by rw [hv.out]; rfl, rfl⟩
        · obtain ⟨j, rfl⟩ := Int.eq_ofNat_of_zero_le (show 0 ≤ i by omega)
          have hjN : j < (a.kids x).length := by rw [← hN'.out]; omega
          obtain ⟨k, hk⟩ : ∃ k, (a.kids x)[j]? = some k := ⟨_, List.getElem?_eq_getElem hjN⟩
          obtain ⟨g, hg, hgc⟩ := (h'.out.kids x hxm.out).own.at_ hk
          rw [hg] at c2
          have hkc := ((h'.out.kids x hxm.out).own.blk)
          have hcap : N ≤ (sv x).kc := by have := hkc.2.1; have := (h'.out.kids x hxm.out).len; rw [hN'.out]; omega
          have hkl2 := Lib.hid (hw'.out.kid (List.mem_of_getElem? hk)).1
          have hv := Lib.hid (show walkV a p 0 = walkV a (p.drop (q + 1)) k from hwv'.out.trans (by rw [hd.out]; exact walkV_step rfl hk))
          have hjI : (j : Int) < (N : Int) := by omega
          unfold natV at hgc
          clear hkc hg hk hjN
          go_wp2_with (refine (node_any h'.out hxm.out).mono ?_; rintro e w7 ⟨rfl, rfl⟩)
          go_round
          case rel => exact ⟨q + 1, k, by omega, rfl, rfl, hkl2.out, hv.out, by trivial⟩
          case measure => simp [intOf]; omega
    · have hqn' : q = n := by omega
      have hv := Lib.hid (show walkV a p 0 = some x by rw [hwv'.out, List.drop_eq_nil_of_le (by omega)]; rfl)
      have hqI : ¬ (q : Int) < (n : Int) := by omega
      clear hqn'
      go_wp2_with fail
      exact bodyPost_ret (v := .tuple #[.int .i64 (x : Int), .bool true]) (by simp [results, Try.results15, go_sem]) rfl ⟨by rw [hv.out]; rfl, rfl⟩
end
end Go.Proofs.Ytiikakfdelkjhaa.Arn
