/- The program's draft, by what was put, dropped, kept: put, drop, keep, pieces, whole. -/
import Derived.Test.YtoeplaofgmdlbaaLtxE
namespace Go.Proofs.Ytoeplaofgmdlbaa
open Go.RowKit
set_option maxRecDepth 20000
open Ltx (Pc)

def totP (l : List Pc) : Nat := Ltx.extent l + Ltx.puts l
theorem totP_append (l m : List Pc) : totP (l ++ m) = totP l + totP m := by unfold totP; rw [Ltx.extent_append, Ltx.puts_append]; omega
theorem totP_one (k d : Nat) (t : List UInt8) : totP [⟨k, d, t⟩] = k + d + t.length := by simp [totP, Ltx.extent, Ltx.puts]
def DV.tot (d : DV) : Nat := totP (d.done ++ [d.last])
theorem DV.tot_eq (d : DV) : d.tot = totP d.done + (d.kept + d.gone + d.text.length) := by unfold DV.tot DV.last; rw [totP_append, totP_one]
theorem DV.tot_fin (d : DV) (n : Nat) : DV.tot { d.fin with kept := d.fin.kept + n } = d.tot + n := by
  rw [DV.tot_eq, DV.tot_eq]
  unfold DV.fin
  by_cases h : d.text = [] ∧ d.gone = 0
  · rw [if_pos h]; dsimp only; omega
  · rw [if_neg h]
    dsimp only [List.length_nil]
    rw [totP_append]
    unfold DV.last
    rw [totP_one]
    omega
theorem totP_norm (l : List Pc) : totP (Ltx.norm l) ≤ totP l := by
  have h1 := Ltx.extent_norm l
  have h2 := Ltx.norm_puts l
  unfold totP
  omega
theorem low_of {l : List Pc} (h : totP l ≤ 4000000000) : Low l := fun p hp => by
  have h1 := Ltx.mem_sizes hp
  unfold totP at h
  exact ⟨by omega, by omega, by omega⟩
theorem normal_tot {l : List Pc} (h : Ltx.Normal l) : l.length ≤ totP l := by
  have h1 := Ltx.normal_len h
  have h2 := Ltx.extent_two l
  unfold totP
  omega
/-- the draft at block p stands for what was put, dropped and kept up to now -/
def Drf (w : World) (S : Nat → Prop) (base p : Nat) (raw : List Pc) : Prop := ∃ d : DV, DraftAt w S base p d ∧ d.For raw ∧ d.tot = totP raw
theorem Drf.kept {w w' : World} {S : Nat → Prop} {base p : Nat} {raw : List Pc} (h : Drf w S base p raw) (hs : w.heap.size ≤ w'.heap.size) (hk : ∀ k, S k → w'.heap[k]? = w.heap[k]?) : Drf w' S base p raw := by
  obtain ⟨d, h1, h2⟩ := h
  exact ⟨d, h1.kept hs hk, h2⟩
theorem Drf.lt {w : World} {S : Nat → Prop} {base p : Nat} {raw : List Pc} (h : Drf w S base p raw) : ∀ k, S k → base ≤ k ∧ k < w.heap.size := by
  obtain ⟨d, h1, _⟩ := h
  exact h1.own
theorem Drf.below {w w' : World} {S : Nat → Prop} {base p : Nat} {raw : List Pc} (h : Drf w S base p raw) (hb : Below w.heap.size w w') : Drf w' S base p raw :=
  h.kept hb.size fun k hk => hb.block k (h.lt k hk).2
theorem Drf.new {w : World} {base : Nat} (hb : base ≤ w.heap.size) : Drf (w.alloc (.cells #[.slice none 0 0, .int .i64 0, .slice none 0 0, .int .i64 0] 58)) (fun k => k = w.heap.size) base w.heap.size [] := by
  refine ⟨DV.fresh, ⟨fun k hk => ?_, rfl, .slice none 0 0, .slice none 0 0, heap_alloc_new w _, OwnP.nil_ _ _, OwnB.nil_ _ _, (fun k hk => by cases hk), (fun k hk => by cases hk)⟩, DV.For.fresh, rfl⟩
  subst hk
  exact ⟨hb, by simp⟩
section
variable {w : World} {S : Nat → Prop} {base p : Nat} {raw : List Pc}
theorem dput_any (h : Drf w S base p raw) (t : List UInt8) (hb : totP raw + t.length ≤ 1000000) (hbase : base ≤ w.heap.size) :
    Calls Try.prog 36 #[.pointer (some ⟨p, 0, none⟩), .string ⟨t.toArray⟩] w fun e w' => e = .returned (.tuple #[]) ∧ Drf w' (Also S w w') base p (raw ++ [⟨0, 0, t⟩]) ∧ FrX S w w' := by
  obtain ⟨d, h1, h2, h3⟩ := h
  have h4 := d.tot_eq
  refine (put_any w S base p d t h1 (by omega) hbase).mono ?_
  rintro e w' ⟨he, hd, hf⟩
  refine ⟨he, ⟨_, hd, h2.put t, ?_⟩, hf⟩
  rw [totP_append, totP_one, ← h3, DV.tot_eq, DV.tot_eq]
  simp only [List.length_append]
  omega
theorem ddrop_any (h : Drf w S base p raw) (m : Nat) (hb : totP raw + m ≤ 1000000) :
    Calls Try.prog 43 #[.pointer (some ⟨p, 0, none⟩), .int .i64 (m : Int)] w fun e w' => e = .returned (.tuple #[]) ∧ Drf w' (Also S w w') base p (raw ++ [⟨0, m, []⟩]) ∧ FrX S w w' := by
  obtain ⟨d, h1, h2, h3⟩ := h
  have h4 := d.tot_eq
  refine (drop_any w S base p d m h1 (by omega)).mono ?_
  rintro e w' ⟨he, hd, hf⟩
  refine ⟨he, ⟨_, hd, h2.drop m, ?_⟩, hf⟩
  rw [totP_append, totP_one, ← h3, DV.tot_eq, DV.tot_eq]
  simp only [List.length_nil]
  omega
theorem also_trans {w1 w2 : World} {k : Nat} (h1 : w.heap.size ≤ w1.heap.size) (h2 : w1.heap.size ≤ w2.heap.size) (h : Also (Also S w w1) w1 w2 k) : Also S w w2 k := by
  rcases h with (h | h) | h
  · exact .inl h
  · exact .inr ⟨h.1, by omega⟩
  · exact .inr ⟨by omega, h.2⟩
theorem DraftAt.weak {S' : Nat → Prop} {d : DV} (h : DraftAt w S base p d) (hs : ∀ k, S k → S' k) (hs' : ∀ k, S' k → base ≤ k ∧ k < w.heap.size) : DraftAt w S' base p d := by
  obtain ⟨h1, h2, v1, v2, hp, hd, ht, s1, s2⟩ := h
  exact ⟨hs', hs p h2, v1, v2, hp, hd, ht, fun k hk => hs k (s1 k hk), fun k hk => hs k (s2 k hk)⟩
theorem Drf.weak {S' : Nat → Prop} (h : Drf w S base p raw) (hs : ∀ k, S k → S' k) (hs' : ∀ k, S' k → base ≤ k ∧ k < w.heap.size) : Drf w S' base p raw := by
  obtain ⟨d, h1, h2⟩ := h
  exact ⟨d, h1.weak hs hs', h2⟩
/-- the draft's piece has been ended, or not; and so many bytes are kept -/
theorem kept_more {w2 : World} {d : DV} {n : Nat} (h2 : DraftAt w2 (Also S w w2) base p d) (hF : FrX S w w2) (hp : S p) (hb : d.kept + n ≤ 9223372036854775807) :
    DraftAt (w2.setCell ⟨p, 1, none⟩ (.int .i64 ((d.kept : Int) + (n : Int)))) (Also S w (w2.setCell ⟨p, 1, none⟩ (.int .i64 ((d.kept : Int) + (n : Int))))) base p { d with kept := d.kept + n } ∧ FrX S w (w2.setCell ⟨p, 1, none⟩ (.int .i64 ((d.kept : Int) + (n : Int)))) := by
  obtain ⟨o1, o2, v1, v2, hh, hd, ht, s1, s2⟩ := h2
  have hset := heap_setCell_same w2 p 1 _ _ (.int .i64 ((d.kept : Int) + (n : Int))) hh
  have hot : ∀ k, k ≠ p → (w2.setCell ⟨p, 1, none⟩ (.int .i64 ((d.kept : Int) + (n : Int)))).heap[k]? = w2.heap[k]? := fun k hk => heap_setCell_other w2 ⟨p, 1, none⟩ k _ hk
  have hsz : (w2.setCell ⟨p, 1, none⟩ (.int .i64 ((d.kept : Int) + (n : Int)))).heap.size = w2.heap.size := by simp
  have hal : ∀ k, Also S w w2 k → Also S w (w2.setCell ⟨p, 1, none⟩ (.int .i64 ((d.kept : Int) + (n : Int)))) k := fun k hk => by
    rcases hk with hk | hk
    · exact .inl hk
    · exact .inr ⟨hk.1, by omega⟩
  refine ⟨⟨fun k hk => ?_, .inl hp, v1, v2, ?_, own_kept hd fun k hk => hot k (fun e => own_ne hd hh (by decide) (e ▸ hk)), own_kept ht fun k hk => hot k (fun e => own_ne ht hh (by decide) (e ▸ hk)), fun k hk => hal k (s1 k hk), fun k hk => hal k (s2 k hk)⟩, hF.setCell hp⟩
  · have : Also S w w2 k := by
      rcases hk with hk | hk
      · exact .inl hk
      · exact .inr ⟨hk.1, by omega⟩
    have := o1 k this
    omega
  · rw [hset]
    simp
set_option maxHeartbeats 1000000 in
theorem dkeep_any (h : Drf w S base p raw) (n : Nat) (hb : totP raw + n ≤ 1000000) (hbase : base ≤ w.heap.size) :
    Calls Try.prog 37 #[.pointer (some ⟨p, 0, none⟩), .int .i64 (n : Int)] w fun e w' => e = .returned (.tuple #[]) ∧ Drf w' (Also S w w') base p (raw ++ [⟨n, 0, []⟩]) ∧ FrX S w w' := by
  obtain ⟨d, h1, h2, h3⟩ := h
  have h4 := d.tot_eq
  have htot : totP (raw ++ [⟨n, 0, []⟩]) = d.tot + n := by rw [totP_append, totP_one, h3]; simp
  by_cases hn : 0 < n
  · have h5 := Lib.hid (h2.keep n hn)
    have hlow := Lib.hid (low_of (l := d.done) (by omega))
    have hnt := normal_tot h2.nm
    have h1' := Lib.hid h1
    have hp := h1.here
    have hf := d.tot_fin n
    have hfk : d.fin.kept ≤ d.kept := by unfold DV.fin; split <;> simp
    have hbnd := Lib.hid (show d.text.length ≤ 1000000 ∧ d.done.length ≤ 1000000 ∧ d.kept ≤ 4000000000 ∧ d.gone ≤ 4000000000 from ⟨by omega, by omega, by omega, by omega⟩)
    have hkb : d.fin.kept + n ≤ 9223372036854775807 := by omega
    have hf' := Lib.hid hf
    have htot' := Lib.hid htot
    have hnI : (0 : Int) < (n : Int) := by omega
    clear h1 h2 h3 h4 hnt hf htot hn hfk
    go_enter Try.func37, Try.ntmps37
    go_wp2_with (go_at_call 48; refine (finish_any w S base p d h1'.out hlow.out hbnd.out hbase).mono ?_; rintro e w2 ⟨rfl, hd2, hF2⟩; have hd2' := Lib.hid hd2; have hF2' := Lib.hid hF2; obtain ⟨_, _, v1, v2, hh, _, _, _, _⟩ := hd2; have c1 := cell_of_row w2 p 1 _ _ _ hh; have f1 := frozen_of_row w2 p 1 _ _ hh; simp at c1; clear hh hF2)
    go_end0
    obtain ⟨k1, k2⟩ := kept_more (n := n) hd2'.out hF2'.out hp hkb
    exact ⟨rfl, ⟨_, k1, h5.out, by rw [htot'.out]; exact hf'.out⟩, k2⟩
  · have hn0 : n = 0 := by omega
    subst hn0
    have h1' := Lib.hid h1
    have h5 := Lib.hid (show d.For (raw ++ [⟨0, 0, []⟩]) from ⟨h2.eqv.trans (by have := (Eqv.refl raw).app eqv_nil.symm; rwa [List.append_nil] at this), h2.nm, h2.at_⟩)
    have htot' := Lib.hid htot
    clear h1 h2 h3 h4 hn htot
    go_enter Try.func37, Try.ntmps37
    go_wp2_with fail
    go_end0
    exact ⟨rfl, ⟨d, h1'.out.also, h5.out, htot'.out.symm⟩, FrX.refl _ _⟩
set_option maxHeartbeats 1000000 in
theorem dpieces_any (h : Drf w S base p raw) (hb : totP raw ≤ 1000000) (hbase : base ≤ w.heap.size) :
    Calls Try.prog 45 #[.pointer (some ⟨p, 0, none⟩)] w fun e w' => ∃ v, e = .returned v ∧ OwnP base w' v (Ltx.norm raw) ∧ (∀ k, v.ownBlock = some k → Also S w w' k) ∧ FrX S w w' := by
  obtain ⟨d, h1, h2, h3⟩ := h
  have h4 := d.tot_eq
  have hnt := normal_tot h2.nm
  have hlow := Lib.hid (low_of (l := d.done) (by omega))
  have h1' := Lib.hid h1
  have hbnd := Lib.hid (show d.text.length ≤ 1000000 ∧ d.done.length ≤ 1000000 ∧ d.kept ≤ 4000000000 ∧ d.gone ≤ 4000000000 from ⟨by omega, by omega, by omega, by omega⟩)
  have hfd := Lib.hid h2.fin_done
  have hfl : Low d.fin.done := by rw [h2.fin_done]; exact low_of (Nat.le_trans (totP_norm raw) (by omega))
  have hfl' := Lib.hid hfl
  clear h1 h2 h3 h4 hnt hfl
  go_enter Try.func45, Try.ntmps45
  go_wp2_with (go_at_call 48; refine (finish_any w S base p d h1'.out hlow.out hbnd.out hbase).mono ?_; rintro e w2 ⟨rfl, hd2, hF2⟩; have hF2' := Lib.hid hF2; obtain ⟨_, _, v1, v2, hh, hd, _, hs, _⟩ := hd2; obtain ⟨A1, n1, k1, rfl, hn1, _, _, _, _⟩ := hd.shape hfl'.out; have hd' := Lib.hid hd; have hs' := Lib.hid hs; have c0 := cell_of_row w2 p 0 _ _ _ hh; simp at c0; clear hh hF2 hd hs hn1)
  go_ret
  exact ⟨_, rfl, by rw [← hfd.out]; exact hd'.out, hs'.out, hF2'.out⟩
theorem right_fine {l : List Pc} (h : Ltx.Fine l) : rightV (l.map ipc) = true := by
  obtain ⟨h1, h2, h3⟩ := h
  refine right_of (by simpa using h1) ?_ ?_
  · rw [List.all_eq_true]
    intro x hx
    obtain ⟨p, hp, rfl⟩ := List.mem_map.1 hx
    have := h2 p hp
    unfold okB mayB ipc
    simp
    omega
  · have e : ∀ l : List Pc, putsI (l.map ipc) = Ltx.puts l := fun l => by
      induction l with
      | nil => rfl
      | cons p r ih => rw [List.map_cons, putsI, ih]; rfl
    rw [e]
    exact h3
set_option maxHeartbeats 1000000 in
theorem dwhole_any (h : Drf w S base p raw) (hb : totP raw ≤ 1000000) (hbase : base ≤ w.heap.size) (hfine : Ltx.Fine (Ltx.norm raw)) :
    Calls Try.prog 39 #[.pointer (some ⟨p, 0, none⟩)] w fun e w' => ∃ v, e = .returned (.tuple #[v, .int .i64 0]) ∧ OwnP base w' v (Ltx.norm raw) ∧ (∀ k, v.ownBlock = some k → Also S w w' k) ∧ FrX S w w' := by
  have h' := Lib.hid h
  have hfine' := Lib.hid hfine
  have hlow := Lib.hid (low_of (l := Ltx.norm raw) (by have h1 := Ltx.extent_norm raw; have h2 := Ltx.norm_puts raw; unfold totP at hb ⊢; omega))
  clear h hfine
  go_enter Try.func39, Try.ntmps39
  go_wp2_with (first
    | (go_at_call 45; refine (dpieces_any h'.out hb hbase).mono ?_; rintro e w2 ⟨v, rfl, hv, hs, hF⟩; obtain ⟨A1, n1, k1, rfl, hn1, hnk, hkm, hP, _⟩ := hv.shape hlow.out; have hv' := Lib.hid hv; have hs' := Lib.hid hs; have hF' := Lib.hid hF; have hP' := Lib.hid hP; have hnm := Lib.hid (Nat.le_trans hnk hkm); clear hv hs hF hP hn1 hnk hkm)
    | (go_at_call 11; have hr := right_any w2 A1 n1 k1 _ hP'.out hnm.out; rw [right_fine hfine'.out] at hr; refine hr.mono ?_; clear hr; rintro e w3 ⟨rfl, hb3⟩; have hb3' := Lib.hid hb3; clear hb3))
  go_ret2
  refine ⟨_, rfl, own_kept hv'.out fun k hk => hb3'.out.block k (World.ownsRow.lt hv'.out k hk).2, fun k hk => ?_, hF'.out.trans (FrX.of_below (S := S) hb3'.out) (fun k hk => .inl hk)⟩
  have := hb3'.out.size
  rcases hs'.out k hk with e | e
  · exact .inl e
  · exact .inr ⟨e.1, by omega⟩
end
end Go.Proofs.Ytoeplaofgmdlbaa
