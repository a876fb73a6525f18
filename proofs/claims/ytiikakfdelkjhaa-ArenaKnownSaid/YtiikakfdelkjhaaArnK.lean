/- Other data; a move: the program's. -/
import Derived.Test.YtiikakfdelkjhaaArnJ
namespace Go.Proofs.Ytiikakfdelkjhaa.Arn
open Go.RowKit
set_option maxRecDepth 20000

noncomputable def setR (a : Av) (s : Int) (d : Dt) : Av := if setE a s d.leaf = 0 then setV a s.toNat d else a
/-- where a number stands in a row -/
noncomputable def idxV (l : List Nat) (s : Nat) : Nat := Classical.epsilon fun k => l[k]? = some s
theorem idxV_spec {l : List Nat} {s : Nat} (h : s ∈ l) : l[idxV l s]? = some s := Classical.epsilon_spec (p := fun k => l[k]? = some s) (List.mem_iff_getElem?.1 h)
theorem nodup_idx {l : List Nat} {k s : Nat} (hn : l.Nodup) (h : l[k]? = some s) : ∀ j, j < k → l[j]? ≠ some s := by
  intro j hj e
  obtain ⟨h1, h2⟩ := List.getElem?_eq_some_iff.1 h
  obtain ⟨h3, h4⟩ := List.getElem?_eq_some_iff.1 e
  exact (List.pairwise_iff_getElem.1 hn) j k h3 h1 hj (h4.trans h2.symm)
noncomputable def moveR (a : Av) (s p i : Int) : Av := if moveE a s p i = 0 then moveV a s.toNat (a.par s.toNat).toNat (idxV (a.kids (a.par s.toNat).toNat) s.toNat) p.toNat i.toNat else a
structure MoveOk (a : Av) (x q k y j : Nat) : Prop where
  lx : a.live x = true
  ly : a.live y = true
  nz : x ≠ 0
  nd : ¬ Dn a.par x y
  jl : j ≤ (a.kids y).length
  par : a.par x = (q : Int)
  lq : a.live q = true
  idx : (a.kids q)[k]? = some x
theorem moveE_ok {a : Av} (hw : WF a) {s p i : Int} (h : moveE a s p i = 0) : ∃ x q k y j : Nat, s = (x : Int) ∧ p = (y : Int) ∧ i = (j : Int) ∧ MoveOk a x q k y j ∧ moveR a s p i = moveV a x q k y j := by
  have h' := h
  unfold moveE at h
  split at h
  · rename_i hl
    obtain ⟨x, rfl, hx⟩ := liveI_nat hl.1
    obtain ⟨y, rfl, hy⟩ := liveI_nat hl.2
    split at h
    · exact absurd h (by decide)
    · rename_i h0
      split at h
      · exact absurd h (by decide)
      · rename_i hd
        unfold gapE at h
        split at h
        · exact absurd h (by decide)
        · split at h
          · exact absurd h (by decide)
          · rename_i h2
            simp only [Int.toNat_natCast] at hd h2
            obtain ⟨q, hq, hm, hlq⟩ := hw.par_live hx (by omega)
            refine ⟨x, q, idxV (a.kids q) x, y, i.toNat, rfl, rfl, by omega, ⟨hx, hy, by omega, hd, by omega, hq, hlq, idxV_spec hm⟩, ?_⟩
            unfold moveR
            rw [if_pos h']
            simp only [Int.toNat_natCast, hq]
  · exact absurd h (by decide)
section
variable {w : World} {ow : Nat → Role} {P : Nat} {a : Av} {B : Nat → Nat} {m : Nat} {sv : Nat → SV} {sA : Option Addr} {sc : Nat} {fA : Option Addr} {fc : Nat}
/-- another parent -/
theorem parPut (h : PA w ow P a B m sv sA sc fA fc) {s p : Nat} (hs : s < a.cnt) (hp : p ≤ 100000) : Did w (w.setCell ⟨B (s / 16), s % 16 * 8 + 1, none⟩ (.int .i64 (p : Int))) ow P (parV a s p) := by
  have hpm : s < m * 16 := by have := h.room; omega
  obtain ⟨hB, cs, t, hcs, hcz⟩ := h.slab (s / 16) (by omega)
  have hset : w.setCell ⟨B (s / 16), s % 16 * 8 + 1, none⟩ (.int .i64 (p : Int)) = w.setCells (B (s / 16)) (s % 16 * 8 + 1) [.int .i64 (p : Int)] := rfl
  rw [hset]
  obtain ⟨W, hW, h1, h2, h3, h4, h5, h6⟩ := put_row (w := w) (g := B (s / 16)) (o := s % 16 * 8 + 1) [.int .i64 (p : Int)] hcs (by simp; omega)
  rw [← hW]
  clear hW hset
  have ne : ∀ k r, ow k = r → (∀ i, r ≠ .aslab i) → W.heap[k]? = w.heap[k]? := fun k r e hr => h2 k fun e2 => hr (s / 16) (by rw [← e, e2]; exact hB)
  have hki := h.kids s hpm
  refine ⟨ow, ⟨B, m, _, sA, sc, fA, fc, h.put (s := s) (a9 := parV a s p) (sv9 := sv s) hs rfl rfl (fun i hi => ⟨rfl, upd_ne _ _ hi, rfl, rfl⟩) (fun _ _ => rfl) (fun k hk => by rw [h3]; exact h.low k hk) (fun k hu hk hk2 => h2 k hk) ?_ (fun o ho => h4 o (by simp; omega)) (fun j u hj => ?_) ⟨hki.own.kept fun ad e => ne _ _ (hki.role ad e) (by simp), hki.len, hki.role⟩ (h.ksmall s) ((h.dat s hpm).kept (fun _ h => h) fun k hk => ne k _ hk (by simp)) (by show -1 ≤ upd a.par s (p : Int) s ∧ upd a.par s (p : Int) s ≤ 100000; rw [upd_same]; omega)⟩, fun _ _ => rfl, h6 (fun k => (ow k).prg) (by show (ow _).prg; rw [hB]; trivial)⟩
  · obtain ⟨cs', e1, e2⟩ := h1
    exact ⟨cs', t, e1, by rw [e2, hcz]⟩
  · have hj8 : j < 8 := by have := (List.getElem?_eq_some_iff.1 hj).1; rw [slotCells_len] at this; exact this
    by_cases e : j = 1
    · subst e
      have := h5 0 (.int .i64 (p : Int)) rfl
      rw [show s % 16 * 8 + 1 + 0 = s % 16 * 8 + 1 by omega] at this
      rw [this, ← hj]
      show _ = some (Value.int .i64 (upd a.par s (p : Int) s))
      rw [upd_same]
    · rw [h4 _ (by simp; omega)]
      refine h.cells s hpm j u ?_
      rw [← hj]
      match j, e, hj8 with
      | 0, _, _ => rfl
      | 2, _, _ => rfl
      | 3, _, _ => rfl
      | 4, _, _ => rfl
      | 5, _, _ => rfl
      | 6, _, _ => rfl
      | 7, _, _ => rfl
theorem gap_le {a : Av} {x q k y j : Nat} (h : MoveOk a x q k y j) : gapV q y k j ≤ ((cutV a q k).kids y).length := by
  have hc := cut_len h.idx
  have hk := (List.getElem?_eq_some_iff.1 h.idx).1
  have := h.jl
  unfold gapV
  rcases cut_kids a q k y with ⟨rfl, e⟩ | ⟨hne, e⟩
  · rw [e]
    split <;> omega
  · rw [e]
    split
    · omega
    · exact h.jl
theorem cut_kids_le {a : Av} (hw : WF a) {q k x : Nat} (hi : (a.kids q)[k]? = some x) (y : Nat) : ((cutV a q k).kids y).length ≤ a.cnt := by
  rcases cut_kids a q k y with ⟨rfl, e⟩ | ⟨hne, e⟩
  · rw [e]; have := cut_len hi; have := hw.kids_len y; omega
  · rw [e]; exact hw.kids_len y
set_option maxHeartbeats 2000000 in
theorem move_any (h : PAr w ow P a) (hw : WF a) (hc : a.cnt < 100000) (s p i : Int) :
    Calls Try.prog 25 #[.pointer (some ⟨P, 0, none⟩), .int .i64 s, .int .i64 p, .int .i64 i] w fun e w' => e = .returned (.int .i64 (moveE a s p i)) ∧ Did w w' ow P (moveR a s p i) := by
  have hD := Lib.hid (Did.refl h)
  obtain ⟨B, m, sv, sA, sc, fA, fc, h1⟩ := h
  have hw' := Lib.hid hw
  obtain ⟨E, hE⟩ : ∃ E, E = moveE a s p i := ⟨_, rfl⟩
  rw [← hE]
  by_cases h0 : E = 0
  · obtain ⟨x, q, k, y, j, rfl, rfl, rfl, hok, hR⟩ := moveE_ok hw (hE.symm.trans h0)
    have hE' := Lib.hid (hE.symm.trans h0)
    have hok' := Lib.hid hok
    have hR' := Lib.hid hR
    have hxc := Lib.hid (hw.lt hok.lx)
    have hqc := Lib.hid (hw.lt hok.lq)
    have hyc := Lib.hid (hw.lt hok.ly)
    have hne := Lib.hid (nodup_idx (hw.nd q) hok.idx)
    have hgl := Lib.hid (gap_le hok)
    have hkl := Lib.hid (Nat.lt_of_le_of_lt (cut_kids_le hw hok.idx y) hc)
    have h1' := Lib.hid h1
    have hj3 : j ≤ 100000 := by have := hok.jl; have := hw.kids_len y; omega
    have hx3 : x ≤ 100000 := by have := hxc.out; omega
    have hy3 := Lib.hid (show y ≤ 100000 by have := hyc.out; omega)
    rw [h0]
    clear h1 hE hok hR hw hc h0
    go_enter Try.func25, Try.ntmps25
    go_wp2_with fail
    refine (moveFault_any h1'.out hw'.out (x : Int) (y : Int) (j : Int)).mono ?_
    rintro e w7 ⟨rfl, rfl⟩
    rw [hE'.out]
    go_wp2_with fail
    refine (takeOut_any h1'.out hxc.out hok'.out.par hqc.out hok'.out.idx hne.out).mono ?_
    rintro e w1 ⟨rfl, ow1, ⟨B1, m1, sv1, sA1, sc1, fA1, fc1, h2⟩, hr1, hf1⟩
    have h2' := Lib.hid h2
    have hr1' := Lib.hid hr1
    have hf1' := Lib.hid hf1
    have hxm := Lib.hid (Nat.lt_of_lt_of_le (show x < (cutV a q k).cnt from hxc.out) h2.room)
    have z1 := (h2.eight (s := x) hxm.out).2.1
    obtain ⟨-, cs, t, zh, -⟩ := h2.slab (x / 16) (by have := hxm.out; omega)
    have zf := fun o => frozen_of_row w1 _ o _ _ zh
    clear h2 hr1 hf1 zh
    by_cases hqy : q = y
    · subst hqy
      have hqb : (((q : Int)) == (q : Int)) = true := by simp
      by_cases hkj : k < j
      · obtain ⟨j', rfl⟩ : ∃ j', j = j' + 1 := ⟨j - 1, by omega⟩
        have hkI : (k : Int) < ((j' + 1 : Nat) : Int) := by omega
        have hkI2 : (k : Int) < (j' : Int) + 1 := by omega
        have hj1 : (j' : Int) + 1 - 1 = (j' : Int) := by omega
        have hg2 := Lib.hid (show gapV q q k (j' + 1) = j' by unfold gapV; rw [if_pos ⟨rfl, hkj⟩]; omega)
        go_wp2_with fail
        refine (node_any h2'.out hxm.out).mono ?_
        rintro e w7 ⟨rfl, rfl⟩
        go_wp2_with fail
        obtain ⟨W, hW⟩ : ∃ W, W = w1.setCell ⟨B1 (x / 16), x % 16 * 8 + 1, none⟩ (.int .i64 (q : Int)) := ⟨_, rfl⟩
        have D2 := parPut h2'.out (s := x) (p := q) hxc.out hy3.out
        rw [← hW] at D2 ⊢
        obtain ⟨ow2, ⟨B2, m2, sv2, sA2, sc2, fA2, fc2, h3⟩, hr2, hf2⟩ := D2
        have h3' := Lib.hid h3
        have hr2' := Lib.hid hr2
        have hf2' := Lib.hid hf2
        clear h3 hr2 hf2 hW
        refine (putIn_any h3'.out (s := x) (p := q) (i := j') hyc.out (by have := hgl.out; rw [hg2.out] at this; exact this) hkl.out (by omega)).mono ?_
        rintro e w3 ⟨rfl, D3⟩
        have D3' := Lib.hid D3
        clear D3
        go_wp2_with fail
        go_ret
        rw [hR'.out]
        refine ⟨rfl, Did.after hr1'.out hf1'.out (Did.after hr2'.out hf2'.out ?_)⟩
        have hm : moveV a x q k q (j' + 1) = putInV (parV (cutV a q k) x q) x q j' := by unfold moveV; rw [hg2.out]
        rw [hm]
        exact D3'.out
      · have hkI : ¬ (k : Int) < (j : Int) := by omega
        have hg2 := Lib.hid (show gapV q q k j = j by unfold gapV; rw [if_neg (by omega)])
        go_wp2_with fail
        refine (node_any h2'.out hxm.out).mono ?_
        rintro e w7 ⟨rfl, rfl⟩
        go_wp2_with fail
        obtain ⟨W, hW⟩ : ∃ W, W = w1.setCell ⟨B1 (x / 16), x % 16 * 8 + 1, none⟩ (.int .i64 (q : Int)) := ⟨_, rfl⟩
        have D2 := parPut h2'.out (s := x) (p := q) hxc.out hy3.out
        rw [← hW] at D2 ⊢
        obtain ⟨ow2, ⟨B2, m2, sv2, sA2, sc2, fA2, fc2, h3⟩, hr2, hf2⟩ := D2
        have h3' := Lib.hid h3
        have hr2' := Lib.hid hr2
        have hf2' := Lib.hid hf2
        clear h3 hr2 hf2 hW
        refine (putIn_any h3'.out (s := x) (p := q) (i := j) hyc.out (by have := hgl.out; rw [hg2.out] at this; exact this) hkl.out (by omega)).mono ?_
        rintro e w3 ⟨rfl, D3⟩
        have D3' := Lib.hid D3
        clear D3
        go_wp2_with fail
        go_ret
        rw [hR'.out]
        refine ⟨rfl, Did.after hr1'.out hf1'.out (Did.after hr2'.out hf2'.out ?_)⟩
        have hm : moveV a x q k q j = putInV (parV (cutV a q k) x q) x q j := by unfold moveV; rw [hg2.out]
        rw [hm]
        exact D3'.out
    · have hqb : (((q : Int)) == (y : Int)) = false := by simp; omega
      have hg2 := Lib.hid (show gapV q y k j = j by unfold gapV; rw [if_neg (by omega)])
      go_wp2_with fail
      refine (node_any h2'.out hxm.out).mono ?_
      rintro e w7 ⟨rfl, rfl⟩
      go_wp2_with fail
      obtain ⟨W, hW⟩ : ∃ W, W = w1.setCell ⟨B1 (x / 16), x % 16 * 8 + 1, none⟩ (.int .i64 (y : Int)) := ⟨_, rfl⟩
      have D2 := parPut h2'.out (s := x) (p := y) hxc.out hy3.out
      rw [← hW] at D2 ⊢
      obtain ⟨ow2, ⟨B2, m2, sv2, sA2, sc2, fA2, fc2, h3⟩, hr2, hf2⟩ := D2
      have h3' := Lib.hid h3
      have hr2' := Lib.hid hr2
      have hf2' := Lib.hid hf2
      clear h3 hr2 hf2 hW
      refine (putIn_any h3'.out (s := x) (p := y) (i := j) hyc.out (by have := hgl.out; rw [hg2.out] at this; exact this) hkl.out (by omega)).mono ?_
      rintro e w3 ⟨rfl, D3⟩
      have D3' := Lib.hid D3
      clear D3
      go_wp2_with fail
      go_ret
      rw [hR'.out]
      refine ⟨rfl, Did.after hr1'.out hf1'.out (Did.after hr2'.out hf2'.out ?_)⟩
      have hm : moveV a x q k y j = putInV (parV (cutV a q k) x y) x y j := by unfold moveV; rw [hg2.out]
      rw [hm]
      exact D3'.out
  · have hR := Lib.hid (show moveR a s p i = a by unfold moveR; rw [if_neg (by rw [← hE]; exact h0)])
    have hE' := Lib.hid hE
    have hEb : (E != 0) = true := by simpa using h0
    have h1' := Lib.hid h1
    clear h1 hE hw h0 hc
    go_enter Try.func25, Try.ntmps25
    go_wp2_with (refine (moveFault_any h1'.out hw'.out s p i).mono ?_; rintro e w7 ⟨rfl, rfl⟩; rw [← hE'.out])
    go_ret
    rw [hR.out]
    exact ⟨rfl, hD.out⟩
end
end Go.Proofs.Ytiikakfdelkjhaa.Arn
