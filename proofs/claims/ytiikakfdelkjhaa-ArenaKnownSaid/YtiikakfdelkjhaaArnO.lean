/- A slot is removed, with all below it: the program's. -/
import Derived.Test.YtiikakfdelkjhaaArnN
namespace Go.Proofs.Ytiikakfdelkjhaa.Arn
open Go.RowKit
set_option maxRecDepth 20000

noncomputable def preV (a : Av) (s : Nat) : List Nat := Classical.epsilon fun l => Pre a.kids [s] l
theorem preV_spec {a : Av} (h : WF a) {s : Nat} (hs : a.live s = true) : Pre a.kids [s] (preV a s) := Classical.epsilon_spec (p := fun l => Pre a.kids [s] l) (h.pre hs)
noncomputable def removeR (a : Av) (s : Int) : Av := if removeE a s = 0 then removeV a (a.par s.toNat).toNat (idxV (a.kids (a.par s.toNat).toNat) s.toNat) (preV a s.toNat) else a
theorem removeE_ok {a : Av} (hw : WF a) {s : Int} (h : removeE a s = 0) : ∃ x q k : Nat, s = (x : Int) ∧ a.live x = true ∧ x ≠ 0 ∧ a.par x = (q : Int) ∧ a.live q = true ∧ (a.kids q)[k]? = some x ∧ removeR a s = removeV a q k (preV a x) := by
  have h' := h
  unfold removeE at h
  cases hlv : liveI a s with
  | false => rw [hlv] at h; simp at h
  | true =>
    obtain ⟨x, rfl, hx⟩ := liveI_nat hlv
    rw [hlv] at h
    have h0 : x ≠ 0 := fun e => by subst e; simp at h
    obtain ⟨q, hq, hm, hlq⟩ := hw.par_live hx h0
    refine ⟨x, q, _, rfl, hx, h0, hq, hlq, idxV_spec hm, ?_⟩
    unfold removeR
    rw [if_pos h']
    simp only [Int.toNat_natCast, hq]
section
variable {w : World} {ow : Nat → Role} {P : Nat} {a : Av} {B : Nat → Nat} {m : Nat} {sv : Nat → SV} {sA : Option Addr} {sc : Nat} {fA : Option Addr} {fc : Nat}
theorem deadPut (h : PA w ow P a B m sv sA sc fA fc) {s : Nat} (hs : s < a.cnt) :
    Did w (eight w (B (s / 16)) (s % 16 * 8) (.bool false) (.int .i64 0) (.slice none 0 0) (.int .u64 0) (.bool false) (.string ⟨#[]⟩) (.slice none 0 0) (.string ⟨#[]⟩)) ow P (deadV a s) := by
  have hsm : s < m * 16 := by have := h.room; omega
  obtain ⟨hB, cs, t, hcs, hcz⟩ := h.slab (s / 16) (by omega)
  rw [eight_cells]
  obtain ⟨W, hW, h1, h2, h3, h4, h5, h6⟩ := put_row (w := w) (g := B (s / 16)) (o := s % 16 * 8) [.bool false, .int .i64 0, .slice none 0 0, .int .u64 0, .bool false, .string ⟨#[]⟩, .slice none 0 0, .string ⟨#[]⟩] hcs (by simp; omega)
  rw [← hW]
  clear hW
  have e1 : (deadV a s).kids s = [] := upd_same _ _ _
  have e2 : (deadV a s).dat s = Dt.zero := upd_same _ _ _
  have e3 : (deadV a s).par s = 0 := upd_same _ _ _
  refine ⟨ow, ⟨B, m, _, sA, sc, fA, fc, h.put (s := s) (a9 := deadV a s) (sv9 := SV.zero) hs rfl rfl (fun i hi => ⟨upd_ne _ _ hi, upd_ne _ _ hi, upd_ne _ _ hi, upd_ne _ _ hi⟩) (fun _ _ => rfl) (fun k hk => by rw [h3]; exact h.low k hk) (fun k hu hk hk2 => h2 k hk) ?_ (fun o ho => h4 o (by simpa using ho)) (fun j u hj => ?_) ?_ ?_ ?_ ?_⟩, fun _ _ => rfl, h6 (fun k => (ow k).prg) (by show (ow _).prg; rw [hB]; trivial)⟩
  · obtain ⟨cs', f1, f2⟩ := h1
    exact ⟨cs', t, f1, by rw [f2, hcz]⟩
  · refine h5 j u ?_
    rw [← hj]
    unfold slotCells deadV datCells SV.zero
    simp only [upd_same]
    rfl
  · rw [e1]; exact ⟨OwnN.nil_ _, rfl, fun ad e => by cases e⟩
  · rw [e1]; exact Nat.zero_le _
  · rw [e2]; exact DatOk.zero_ _ _
  · rw [e3]; decide
theorem deads_snoc (a : Av) (l : List Nat) (x : Nat) : deadsV a (l ++ [x]) = deadV (deadsV a l) x := by unfold deadsV; rw [List.foldl_append]; rfl
set_option maxHeartbeats 4000000 in
theorem remove_any (h : PAr w ow P a) (hw : WF a) (hc : a.cnt < 100000) (s : Int) :
    Calls Try.prog 24 #[.pointer (some ⟨P, 0, none⟩), .int .i64 s] w fun e w' => e = .returned (.int .i64 (removeE a s)) ∧ Did w w' ow P (removeR a s) := by
  have hD := Lib.hid (Did.refl h)
  obtain ⟨B, m, sv, sA, sc, fA, fc, h1⟩ := h
  have hw' := Lib.hid hw
  obtain ⟨E, hE⟩ : ∃ E, E = removeE a s := ⟨_, rfl⟩
  rw [← hE]
  by_cases h0 : E = 0
  · obtain ⟨x, q, k, rfl, hx, hx0, hq, hlq, hidx, hR⟩ := removeE_ok hw (hE.symm.trans h0)
    have hE' := Lib.hid (hE.symm.trans h0)
    have hR' := Lib.hid hR
    have hxc := Lib.hid (hw.lt hx)
    have hqc := Lib.hid (hw.lt hlq)
    have hq' := Lib.hid hq
    have hi' := Lib.hid hidx
    have hne := Lib.hid (nodup_idx (hw.nd q) hidx)
    have hpre := preV_spec hw hx
    have hp1 := Lib.hid (hw.pre_cut (i := k) hx hq hpre).1
    have hll := hw.pre_len hpre hx
    have hmem := Lib.hid (fun y (hy : y ∈ preV a x) => hw.lt ((hw.pre_iff hpre hx y).1 hy).1)
    have hfl := Lib.hid hw.free_len
    have hwr := Lib.hid (hw.remove hx hx0 hidx hpre)
    obtain ⟨l, hl⟩ : ∃ l, l = preV a x := ⟨_, rfl⟩
    rw [← hl] at hp1 hll hmem hR' hwr
    have hll' := Lib.hid hll
    have h1' := Lib.hid h1
    have hc' := Lib.hid hc
    have hll3 := Lib.hid (show l.length ≤ 100000 by omega)
    rw [h0]
    clear h1 hE hR hw h0 hx hx0 hq hlq hidx hpre hll hl hc
    go_enter Try.func24, Try.ntmps24
    go_wp2_with fail
    refine (removeFault_any h1'.out (x : Int)).mono ?_
    rintro e w7 ⟨rfl, rfl⟩
    rw [hE'.out]
    go_wp2_with fail
    refine (takeOut_any h1'.out hxc.out hq'.out hqc.out hi'.out hne.out).mono ?_
    rintro e w1 ⟨rfl, ow1, ⟨B1, m1, sv1, sA1, sc1, fA1, fc1, h2⟩, hr1, hf1⟩
    have h2' := Lib.hid h2
    have hr1' := Lib.hid hr1
    have hf1' := Lib.hid hf1
    clear h2 hr1 hf1
    go_wp2_with fail
    refine (subtree_any h2'.out hp1.out (fun y hy => Nat.lt_of_lt_of_le (hmem.out y hy) (h2'.out.room)) hll3.out).mono ?_
    rintro e w2 ⟨gA, gc, rfl, hgo, hfar, hb2⟩
    have h3' := Lib.hid (h2'.out.below hb2)
    have hgo' := Lib.hid hgo
    have hfar' := Lib.hid hfar
    have hb2' := Lib.hid hb2
    have hgb := hgo.blk
    have hgcap := hgb.2.1
    have hoff := Lib.hid (fun ad (e : gA = some ad) => show ow1 ad.block = .off from by
      cases h : ow1 ad.block with
      | off => rfl
      | _ => have h5 := h2'.out.low ad.block (by rw [h]; simp); have h6 := hfar ad e; omega)
    have hgl := Lib.hid (fun ad (e : gA = some ad) => show ad.block < w2.heap.size from by subst e; exact (World.ownsRow.lt hgo ad.block rfl).2)
    obtain ⟨n, hn⟩ : ∃ n, n = l.length := ⟨_, rfl⟩
    have hn' := Lib.hid hn
    rw [← hn] at hgo' hgcap hll3 ⊢
    clear hgo hfar hb2 hgb hn
    have hn3 := hll3.out
    go_wp2_with fail
    go_loopw [23] (fun i wr => ∃ j : Nat, j ≤ n ∧ i = .int .i64 (j : Int) ∧ Did w2 wr ow1 P (deadsV (cutV a q k) (l.take j)) ∧ OwnN wr (.slice gA n gc) l) (fun i _ => n - (intOf i).toNat)
    case atStart => exact ⟨0, Nat.zero_le _, rfl, Did.refl ⟨_, _, _, _, _, _, _, h3'.out⟩, hgo'.out⟩
    case round =>
      obtain ⟨j, hj, rfl, hDj, hrow⟩ := hrel
      have hDj' := Lib.hid hDj
      have hrow' := Lib.hid hrow
      clear hDj hrow
      by_cases hjn : j < n
      · have hjl : j < l.length := by have := hn'.out; omega
        obtain ⟨y, hy⟩ : ∃ y, l[j]? = some y := ⟨_, List.getElem?_eq_getElem hjl⟩
        obtain ⟨g, hg, hgc⟩ := hrow'.out.at_ hy
        subst hg
        unfold natV at hgc
        obtain ⟨ow2, ⟨B2, m2, sv2, sA2, sc2, fA2, fc2, h4⟩, hr2, hf2⟩ := hDj'.out
        have hcnt : (deadsV (cutV a q k) (l.take j)).cnt = a.cnt := (deads_at (l.take j) (cutV a q k) 0).2.2.1
        have hyc := Lib.hid (show y < (deadsV (cutV a q k) (l.take j)).cnt by rw [hcnt]; exact hmem.out y (List.mem_of_getElem? hy))
        have hym := Lib.hid (Nat.lt_of_lt_of_le hyc.out h4.room)
        obtain ⟨z0, z1, z2, z3, z4, z5, z6, z7⟩ := h4.eight hym.out
        obtain ⟨-, cs, t, zh, -⟩ := h4.slab (y / 16) (by have := hym.out; omega)
        have zf := fun o => frozen_of_row wr _ o _ _ zh
        have h4' := Lib.hid h4
        have hstep := Lib.hid (show l.take (j + 1) = l.take j ++ [y] by rw [List.take_add_one, hy]; rfl)
        have hjI : (j : Int) < (n : Int) := by omega
        have hD2 := Lib.hid (deadPut h4 hyc.out)
        have hr2' := Lib.hid hr2
        have hf2' := Lib.hid hf2
        have hsz2 := Lib.hid hf2.size
        clear h4 zh hr2 hf2 hcnt hjl hy
        go_wp2_with (refine (node_any h4'.out hym.out).mono ?_; rintro e w7 ⟨rfl, rfl⟩)
        go_roundw
        case rel =>
          refine ⟨j + 1, by omega, rfl, ?_, ?_⟩
          · rw [hstep.out, deads_snoc]
            exact Did.after hr2'.out hf2'.out hD2.out
          · obtain ⟨ow3, _, hr3, hf3⟩ := hD2.out
            refine hrow'.out.kept fun ad e => hf3.block _ (Nat.lt_of_lt_of_le (hgl.out ad e) hsz2.out) fun hp => ?_
            rw [hr2'.out _ (hgl.out ad e), hoff.out ad e] at hp
            exact hp
        case measure => simp [intOf] <;> omega
      · have hjn' : n = j := by omega
        subst hjn'
        have hall : Hid (Did w2 wr ow1 P (deadsV (cutV a q k) l)) := Lib.hid (by have := hDj'.out; rw [List.take_of_length_le (by have := hn'.out; omega)] at this; exact this)
        obtain ⟨ow2, ⟨B2, m2, sv2, sA2, sc2, fA2, fc2, h4⟩, hr2, hf2⟩ := hall.out
        have hfree : (deadsV (cutV a q k) l).free = a.free := (deads_at l (cutV a q k) 0).2.2.2
        obtain ⟨c0, c1, c2, cf⟩ := h4.head_cells
        have hfo := Lib.hid h4.free
        have hflen : (deadsV (cutV a q k) l).free.length ≤ 100000 := h4.fsmall
        rw [hfree] at c2 hfo hflen
        have hcnt := (deads_at l (cutV a q k) 0).2.2.1
        have hw9 := hwr.out.free_len
        have h9 : (a.free ++ l).length ≤ 100000 := by
          have e1 : (removeV a q k l).free = a.free ++ l := by show (deadsV (cutV a q k) l).free ++ l = _; rw [hfree]
          have e2 : (removeV a q k l).cnt = a.cnt := hcnt
          rw [e1, e2] at hw9
          have := hc'.out
          omega
        have h9' := Lib.hid h9
        rw [List.length_append, ← hn'.out] at h9
        have h4' := Lib.hid h4
        have hr2' := Lib.hid hr2
        have hf2' := Lib.hid hf2
        have hfree' := Lib.hid hfree
        have hPh := Lib.hid h4.head
        have hrF := Lib.hid h4.rFree
        have hrP := Lib.hid h4.rP
        have hlw := Lib.hid h4.low
        obtain ⟨N, hN⟩ : ∃ N, N = a.free.length := ⟨_, rfl⟩
        rw [← hN] at c2 hfo h9
        have hN' := Lib.hid hN
        clear h4 hr2 hf2 hfree hcnt hw9 hflen hN
        go_wp2_with (at_builtin; refine wpList_append_ns rfl _ _ rfl fA2 N fc2 a.free l rfl hfo.out gA n gc rfl hrow'.out.ns (hrow'.out.blk.2.2.2.1) (by omega) ?_; intro A1 c9 w3 g1 g2 g3 g4 g5 g6; have zh := (g2.block P (by have := (Array.getElem?_eq_some_iff.1 hPh.out).1; exact this) (fun ⟨ad, e, e2⟩ => by have := hrF.out ad e; rw [← e2, hrP.out] at this; cases this)).trans hPh.out; have z2 := cell_of_row w3 P 2 _ _ _ zh; have zf := fun o => frozen_of_row w3 P o _ _ zh; have zh' := Lib.hid zh; have g1' := Lib.hid g1; have g2' := Lib.hid g2; have g3' := Lib.hid g3; clear g1 g2 g3 g4 g5 g6 zh)
        go_ret
        rw [hR'.out]
        obtain ⟨W, hW⟩ : ∃ W, W = w3.setCell ⟨P, 2, none⟩ (.slice A1 (N + n) c9) := ⟨_, rfl⟩
        rw [← hW]
        have hWo : ∀ k, k ≠ P → W.heap[k]? = w3.heap[k]? := fun k hk => by rw [hW]; exact heap_setCell_other w3 ⟨P, 2, none⟩ k _ hk
        have hWz : W.heap.size = w3.heap.size := by rw [hW]; simp
        have hlen9 : (a.free ++ l).length = N + n := by rw [List.length_append, hN'.out, hn'.out]
        have hWP : W.heap[P]? = some (.cells #[.slice sA2 m2 sc2, .int .i64 ((deadsV (cutV a q k) l).cnt : Int), .slice A1 (a.free ++ l).length c9] 65 (0, 0)) := by
          rw [hW, heap_setCell_same w3 P 2 _ _ _ zh'.out, hlen9]
          rfl
        have hWf : FrX (fun k => (ow2 k).prg) wr W := by
          rw [hW]
          refine FrX.setCell (g2'.out.mono fun k _ ⟨ad, e, e2⟩ => ?_) ?_
          · show (ow2 k).prg
            rw [e2, hrF.out ad e]
            trivial
          · show (ow2 P).prg
            rw [hrP.out]
            trivial
        have hA1 : ∀ ad, A1 = some ad → ad.block ≠ P := fun ad e e2 => by
          rcases g3'.out ad e with e3 | e3
          · have := hrF.out ad e3
            rw [e2, hrP.out] at this
            cases this
          · have := (Array.getElem?_eq_some_iff.1 hPh.out).1
            omega
        have hA1l : ∀ ad, A1 = some ad → ad.block < w3.heap.size := fun ad e => by
          subst e
          exact (World.ownsRow.lt g1'.out ad.block rfl).2
        have hz3 : wr.heap.size ≤ w3.heap.size := g2'.out.size
        have hown9 : OwnN W (.slice A1 (a.free ++ l).length c9) (a.free ++ l) := by
          rw [hlen9]
          exact g1'.out.kept fun ad e => hWo _ (hA1 ad e)
        refine ⟨rfl, Did.after hr1'.out hf1'.out (Did.after (fun _ _ => rfl) (FrX.of_below hb2'.out) (Did.after hr2'.out hf2'.out ⟨fun k => if wr.heap.size ≤ k ∧ k < w3.heap.size then .afree else ow2 k, ⟨B2, m2, sv2, sA2, sc2, A1, c9, ?_⟩, fun k hk => if_neg (by omega), hWf⟩))⟩
        refine h4'.out.freed (a9 := removeV a q k l) (l := a.free ++ l) (by unfold removeV freeV; rw [hfree'.out]) h9'.out (fun k hk => if_neg (by omega)) (fun k hk => ?_) (fun k hu h1 h2 => ?_) hWP hown9 (fun ad e => ?_)
        · rw [hWz]
          by_cases e : wr.heap.size ≤ k ∧ k < w3.heap.size
          · exact e.2
          · have hk' : ow2 k ≠ .off := by simpa [e] using hk
            have := hlw.out k hk'
            omega
        · have hkl := hlw.out k (by intro e; rw [e] at hu; exact hu)
          exact (hWo k h1).trans (g2'.out.block k hkl fun ⟨ad, e, e2⟩ => h2 (by rw [e2]; exact hrF.out ad e))
        · rcases g3'.out ad e with e3 | e3
          · have := hrF.out ad e3
            by_cases e4 : wr.heap.size ≤ ad.block ∧ ad.block < w3.heap.size
            · exact if_pos e4
            · exact (if_neg e4).trans this
          · exact if_pos ⟨by omega, hA1l ad e⟩
  · have hR := Lib.hid (show removeR a s = a by unfold removeR; rw [if_neg (by rw [← hE]; exact h0)])
    have hE' := Lib.hid hE
    have hEb : (E != 0) = true := by simpa using h0
    have h1' := Lib.hid h1
    clear h1 hE hw h0 hc
    go_enter Try.func24, Try.ntmps24
    go_wp2_with (refine (removeFault_any h1'.out s).mono ?_; rintro e w7 ⟨rfl, rfl⟩; rw [← hE'.out])
    go_ret
    rw [hR.out]
    exact ⟨rfl, hD.out⟩
end
end Go.Proofs.Ytiikakfdelkjhaa.Arn
