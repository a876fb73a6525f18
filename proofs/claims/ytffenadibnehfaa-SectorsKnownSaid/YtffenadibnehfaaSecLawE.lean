/- A call on both disks. -/
import Derived.Test.YtffenadibnehfaaSecLawD
import Derived.Deep.RegionLaw
namespace Go.Proofs.Ytffenadibnehfaa
open Go.RowKit

def doV (d : RD) (x : CX) : RD :=
  if x.kind % 9 = 4 then d
  else if x.kind % 9 = 5 then { d with armed := decide (0 ≤ x.i), left := x.i }
  else if x.kind % 9 = 6 then { d with armed := false, left := d.left, gone := true }
  else if x.kind % 9 = 7 then { d with armed := false, left := d.left, gone := false }
  else if x.kind % 9 = 8 then settleV d
  else (writeV d x.i x.b).2

/-- what a call on either disk leaves as it was: what lies below C, and what was laid since b0 and is none of the document's -/
structure Mid (b0 C : Nat) (w w' : World) : Prop where
  os : w'.os = w.os
  tape : w'.tape = w.tape
  output : w'.output = w.output
  size : w.heap.size ≤ w'.heap.size
  block : ∀ k, k < w.heap.size → (k < C ∨ (b0 ≤ k ∧ ¬ Typed refTs w k)) → w'.heap[k]? = w.heap[k]?
section
variable {b0 C : Nat} {w w' w'' : World}
theorem Mid.refl (b0 C : Nat) (w : World) : Mid b0 C w w := ⟨rfl, rfl, rfl, Nat.le_refl _, fun _ _ _ => rfl⟩
theorem Mid.trans (h : Mid b0 C w w') (k : Mid b0 C w' w'') : Mid b0 C w w'' :=
  ⟨k.os.trans h.os, k.tape.trans h.tape, k.output.trans h.output, Nat.le_trans h.size k.size, fun i hi hc => by
    have e := h.block i hi hc
    refine (k.block i (Nat.lt_of_lt_of_le hi h.size) ?_).trans e
    rcases hc with hc | ⟨hb, ht⟩
    · exact .inl hc
    · refine .inr ⟨hb, fun ⟨cs, t, fr, hh, hm⟩ => ht ⟨cs, t, fr, e.symm.trans hh, hm⟩⟩⟩
theorem Mid.of_frS {S : Nat → Prop} {B : Nat} (h : FrS S B w w') (hS : ∀ k, S k → k < b0) (hC : C ≤ B) : Mid b0 C w w' :=
  ⟨h.os, h.tape, h.output, h.size, fun k hk hc => h.block k hk fun e => by
    have := hS k e.1
    rcases hc with hc | ⟨hb, _⟩ <;> omega⟩
theorem Mid.of_fr {B : Nat} (h : Fr refTs B w w') (hC : C ≤ B) : Mid b0 C w w' :=
  ⟨h.os, h.tape, h.output, h.size, fun k hk hc => by
    rcases h.block k hk with e | ⟨hb, ht⟩
    · exact e
    · rcases hc with hc | ⟨_, hn⟩
      · omega
      · exact absurd ht hn⟩
theorem Mid.of_below (h : Below w.heap.size w w') : Mid b0 C w w' := ⟨h.os, h.tape, h.output, h.size, fun k hk _ => h.block k hk⟩
theorem Mid.below (h : Mid b0 C w w') : Below (min C w.heap.size) w w' := ⟨h.os, h.tape, h.output, h.size, fun k hk => h.block k (by omega) (.inl (by omega))⟩
theorem Bts.where_ {A : Option Addr} {n : Nat} {bs : List UInt8} (h : Bts w A n bs) (hs : w.heap.size ≤ w'.heap.size) (hk : ∀ ad, A = some ad → 0 < n → w'.heap[ad.block]? = w.heap[ad.block]?) : Bts w' A n bs :=
  ⟨h.1, fun k c hc => by
    obtain ⟨ad, e, hl, hcell⟩ := h.2 k c hc
    refine ⟨ad, e, Nat.lt_of_lt_of_le hl hs, ?_⟩
    have h0 : 0 < n := by
      have := (List.getElem?_eq_some_iff.1 hc).1
      have := h.1
      omega
    rw [World.cell?_of_block (w := w) (w' := w') (a := ad.add k) (by rw [block_add]; exact hk ad e h0)]
    exact hcell⟩
theorem NRow.where_ {base : Nat} {A : Option Addr} {n : Nat} (h : NRow w base A n) (hk : ∀ ad, A = some ad → w'.heap[ad.block]? = w.heap[ad.block]?) : NRow w' base A n := fun h0 => by
  obtain ⟨g, off, e, hb, hj⟩ := h h0
  have hh := hk _ e
  refine ⟨g, off, e, hb, fun j hjn => ?_⟩
  obtain ⟨⟨z, hz⟩, hf⟩ := hj j hjn
  exact ⟨⟨z, (World.cell?_of_block (w := w) (w' := w') (a := ⟨g, off + j, none⟩) hh).trans hz⟩, (World.frozen?_of_block (w := w) (w' := w') (a := ⟨g, off + j, none⟩) hh).trans hf⟩
end

/-- all but one block is as it was -/
structure Only (g : Nat) (w w' : World) : Prop where
  os : w'.os = w.os
  tape : w'.tape = w.tape
  output : w'.output = w.output
  size : w'.heap.size = w.heap.size
  block : ∀ k, k ≠ g → w'.heap[k]? = w.heap[k]?
theorem Only.refl (g : Nat) (w : World) : Only g w w := ⟨rfl, rfl, rfl, rfl, fun _ _ => rfl⟩
theorem Only.setCell {g i : Nat} {w w' : World} (h : Only g w w') (v : Value) : Only g w (w'.setCell ⟨g, i, none⟩ v) :=
  ⟨h.os, h.tape, h.output, by rw [← h.size]; simp, fun k hk => (heap_setCell_other w' ⟨g, i, none⟩ k v hk).trans (h.block k hk)⟩
theorem Both.spoil {Y : Sys} {w w' : World} {S : Nat → Prop} {B p B2 q g : Nat} {d1 d2 : RD} {cs : Array Value} {fr : Nat × Nat} (h : Both Y w S B p d1 B2 q d2) (ho : Only g w w') (hg : w.heap[g]? = some (.cells cs 5 fr)) (hS : ¬ S g) : Both Y w' S B p d1 B2 q d2 := by
  have h1 : ∀ k (ts : List TypeId), 5 ∉ ts → Typed ts w k → w'.heap[k]? = w.heap[k]? := fun k ts hn ⟨cs', t', fr', hh, ht⟩ => ho.block k fun e => by
    subst e
    rw [hg] at hh
    injection hh with hh
    injection hh with _ h2 _
    subst h2
    exact hn ht
  obtain ⟨hq1, hq2, bv, lv, hp, hb, hw⟩ := h.ref
  have hq := h1 q refTs (by decide) ⟨_, _, _, hp, by decide⟩
  refine ⟨Y.kept h.at_ fun k hk => ho.block k fun e => hS (e ▸ hk), h.ref.where_ (fun k hk => h1 k refTs (by decide) hk) (fun k hk => ?_), fun k hk => by rw [baseOf_kept hq]; exact h.far k hk⟩
  rw [baseOf_row (v := bv) hp rfl] at hk
  exact h1 k [9] (by decide) (own_typed hb (by decide) k hk)
/-- where both disks stand behind a call, and that the call's own blocks are no part of them -/
def Fin (Y : Sys) (W : World) (B p B2 q b0 b1 : Nat) (d : RD) : Prop := ∃ S', Both Y W S' B p d B2 q d ∧ ∀ k, S' k → k < b0 ∨ b1 ≤ k

set_option maxHeartbeats 6400000 in
theorem does_any (Y : Sys) (w : World) (S : Nat → Prop) (B p B2 q : Nat) (d : RD) (x : CX) (A : Option Addr) (n c : Nat) (h : Both Y w S B p d B2 q d) (hL : Lim d) (hk : x.kind < 256)
    (hx : Bts w A n x.b) (hnc : n ≤ c) (hcm : c ≤ maxLen) (hA : ∀ ad, A = some ad → 0 < n → ad.block < min B B2 ∧ ad.block < w.heap.size) (hBw : B ≤ w.heap.size) (hB2w : B2 ≤ w.heap.size) :
    Calls Try.prog 13 #[.pointer (some ⟨p, 0, none⟩), .pointer (some ⟨q, 0, none⟩), .agg #[.int .u8 (x.kind : Int), .int .i64 x.i, .slice A n c]] w fun e w' => e = .returned (.bool true) ∧ (∃ S', Both Y w' S' B p (doV d x) B2 q (doV d x)) ∧ Below (min B B2) w w' := by
  obtain ⟨kd, i, b⟩ := x
  have hbl := hx.1
  simp only at *
  have hlt := Lib.hid (Y.lt h.at_)
  have hL' := Lib.hid hL
  have hl1 := hL.base
  have hl2 := hL.wr
  have hl3 := hL.high
  -- the block of the call, and the bytes that are handed on
  have hb0 : Below w.heap.size w (w.alloc (.cells #[.int .u8 (kd : Int), .int .i64 i, .slice A n c] 31)) := (Below.refl _ _).alloc (Nat.le_refl _) _
  have hs0 := run_str (w.alloc (.cells #[.int .u8 (kd : Int), .int .i64 i, .slice A n c] 31)) A n c b (hx.below hb0)
  obtain ⟨c3, w1, hr, hBi, hNi, ⟨ics, ifr, hti⟩, hbi, hsi, hc1, hc2⟩ := run_ownN (w.alloc (.cells #[.int .u8 (kd : Int), .int .i64 i, .slice A n c] 31)) b (by omega)
  have hsz : (w.alloc (.cells #[.int .u8 (kd : Int), .int .i64 i, .slice A n c] 31)).heap.size = w.heap.size + 1 := by simp
  rw [hsz] at hr hBi hNi hti hsi
  have hbox := (hbi.block w.heap.size (by rw [hsz]; omega)).trans (heap_alloc_new w _)
  have e0 := cell_of_row w1 w.heap.size 0 _ _ _ hbox
  have e1 := cell_of_row w1 w.heap.size 1 _ _ _ hbox
  have e2 := cell_of_row w1 w.heap.size 2 _ _ _ hbox
  have hb1 : Below w.heap.size w w1 := hb0.trans (hbi.mono (by rw [hsz]; omega))
  have hB1 := Lib.hid (h.below hb1)
  have hx1 := Lib.hid (hx.below hb1)
  have hs1 := run_str w1 A n c b hx1.out
  have hBi' := Lib.hid hBi
  have hNi' := Lib.hid hNi
  have hti' := Lib.hid hti
  have hbox' := Lib.hid hbox
  have hb1' := Lib.hid hb1
  have hsi' : w1.heap.size = w.heap.size + 2 := by rw [hsi]
  rw [hbl] at hr hBi' hNi'
  have hcn : n ≤ c3 := by omega
  have hsi2 := Lib.hid hsi'
  have hM0 := Lib.hid (Mid.refl w.heap.size (min B B2) w1)
  simp at e0 e1 e2
  obtain ⟨r, hr9⟩ : ∃ r, kd % 9 = r := ⟨_, rfl⟩
  have m9 : (kd : Int).tmod 9 = (r : Int) := by rw [Int.tmod_eq_emod_of_nonneg (by omega)]; omega
  have hr8 : r < 9 := by omega
  have hr9' := Lib.hid hr9
  have hnt : ∀ (k : Nat) (cs : Array Value) (t : TypeId) (fr : Nat × Nat), w1.heap[k]? = some (.cells cs t fr) → t ∉ refTs → ¬ Typed refTs w1 k := fun k cs t fr hh hn ⟨cs', t', fr', hh', ht⟩ => by
    rw [hh] at hh'
    injection hh' with hh'
    injection hh' with _ h2 _
    subst h2
    exact hn ht
  have boxK := Lib.hid (show ∀ W, Mid w.heap.size (min B B2) w1 W → W.heap[w.heap.size]? = some (.cells #[.int .u8 (kd : Int), .int .i64 i, .slice A n c] 31 (0, 0)) from fun W hM => (hM.block w.heap.size (by omega) (.inr ⟨Nat.le_refl _, hnt _ _ _ _ hbox'.out (by decide)⟩)).trans hbox'.out)
  have inK := Lib.hid (show ∀ W, Mid w.heap.size (min B B2) w1 W → W.heap[w.heap.size + 1]? = w1.heap[w.heap.size + 1]? from fun W hM => hM.block (w.heap.size + 1) (by omega) (.inr ⟨by omega, hnt _ _ _ _ hti'.out (by decide)⟩))
  have xK := Lib.hid (show ∀ W, Mid w.heap.size (min B B2) w1 W → Bts W A n b from fun W hM => hx1.out.where_ hM.size (fun ad e h0 => hM.block ad.block (by have := (hA ad e h0).2; omega) (.inl (hA ad e h0).1)))
  have iK := Lib.hid (show ∀ W, Mid w.heap.size (min B B2) w1 W → Bts W (some ⟨w.heap.size + 1, 0, none⟩) n b from fun W hM => hBi'.out.where_ hM.size (fun ad e _ => by injection e with e; subst e; exact inK.out W hM))
  have nK := Lib.hid (show ∀ W, Mid w.heap.size (min B B2) w1 W → NRow W (w.heap.size + 1) (some ⟨w.heap.size + 1, 0, none⟩) n from fun W hM => hNi'.out.where_ (fun ad e => by injection e with e; subst e; exact inK.out W hM))
  clear hnt
  clear h hL hx hb0 hBi hNi hti hbi hsi hbox hb1 hsi' hsz hc1 hr9
  have hcases : r = 4 ∨ r = 5 ∨ r = 6 ∨ r = 7 ∨ r = 8 ∨ r ≤ 3 := by omega
  rcases hcases with rfl | rfl | rfl | rfl | rfl | hr3
  · -- Read
    go_enter Try.func13, Try.ntmps13
    go_wp2_with fail
    have hdo : doV d ⟨kd, i, b⟩ = d := by unfold doV; simp [hr9'.out]
    refine (Y.read hB1.out.at_ hL'.out i).mono ?_
    rintro e W ⟨v, rfl, hv, hbr⟩
    have hbr' := Lib.hid hbr
    have hM := Lib.hid (Mid.of_below (b0 := w.heap.size) (C := min B B2) hbr'.out)
    have g1 := cell_of_row W w.heap.size 1 _ _ _ (boxK.out W hM.out)
    simp at g1
    go_wp2_with fail
    refine (read_any W B2 q d i (hB1.out.ref.below hbr'.out) (by omega) (by omega)).mono ?_
    rintro e w2 ⟨rfl, rfl⟩
    obtain ⟨A3, c4, rfl, _, _, _, hB3, _⟩ := hv
    have hstr := run_str W A3 _ c4 _ hB3
    generalize hn3 : (readV d i).length = n3 at *
    generalize readV d i = bs at *
    generalize askedV d i = ek at *
    have t1 : (ek == ek) = true := by simp
    unfold strV
    clear g1
    have hFin := Lib.hid (show Fin Y W B p B2 q w.heap.size (w.heap.size + 2) (doV d ⟨kd, i, b⟩) from ⟨S, by rw [hdo]; exact hB1.out.below hbr'.out, fun k hk => .inl (hlt.out k hk)⟩)
    clear hB3 hbr hn3 hdo
    clear e0 e1 e2 hs0 hs1 hr
    all_goals
      have k2 := cell_of_row W w.heap.size 2 _ _ _ (boxK.out W hM.out)
      have s1 := run_str W A n c b (xK.out W hM.out)
      have s2 := run_str W (some ⟨w.heap.size + 1, 0, none⟩) n c3 b (iK.out W hM.out)
      have hnW := Lib.hid (nK.out W hM.out)
      have htW := Lib.hid ((inK.out W hM.out).trans hti'.out)
      simp at k2
      go_wp2_with fail
      clear s1 s2 k2
      go_loopw [13] (fun v wi => ∃ k : Nat, k ≤ n ∧ v = .int .i64 (k : Int) ∧ Only (w.heap.size + 1) W wi ∧ NRow wi (w.heap.size + 1) (some ⟨w.heap.size + 1, 0, none⟩) n) (fun v _ => n - (intOf v).toNat)
      case atStart => exact ⟨0, Nat.zero_le _, rfl, Only.refl _ _, hnW.out⟩
      case round =>
        obtain ⟨k, hkn, rfl, honly, hrow⟩ := hrel
        by_cases h2 : k < n
        · obtain ⟨g, off, z, eg, hgb, hc, hfz⟩ := hrow.at_ h2
          injection eg with eg
          injection eg with eg1 eg2
          subst eg1 eg2
          rw [Nat.zero_add] at hc hfz
          have hst3 := Lib.hid (hrow.set h2 (IntKind.u8.wrap (z + 1)))
          rw [Nat.zero_add] at hst3
          have ho2 := Lib.hid (honly.setCell (i := k) (.int .u8 (IntKind.u8.wrap (z + 1))))
          have hkI : (k : Int) < (n : Int) := by omega
          have hk0 : (0 : Int) ≤ (k : Int) := Int.natCast_nonneg _
          have hnm := Nat.le_trans hnc hcm
          unfold maxLen at hnm
          clear hrow honly
          go_wp2_with fail
          go_roundw
          case rel => exact ⟨k + 1, by omega, by go_num, ho2.out, hst3.out⟩
          case measure => simp [intOf]; omega
        · have hkI : ¬ (k : Int) < (n : Int) := by omega
          have ho2 := Lib.hid honly
          clear hrow honly h2
          go_wp2_with fail
          go_ret
          obtain ⟨S1, hb, hs⟩ := hFin.out
          refine ⟨rfl, ⟨S1, hb.spoil ho2.out htW.out (fun e => by rcases hs _ e with e | e <;> omega)⟩, ?_⟩
          have hb3 : Below (min B B2) w1 W := by
            have e := hM.out.below
            exact e.mono (by have := hsi2.out; omega)
          have hb4 := (hb1'.out.mono (Nat.le_trans (Nat.min_le_left _ _) hBw)).trans hb3
          have ho3 := ho2.out
          exact ⟨ho3.os.trans hb4.os, ho3.tape.trans hb4.tape, ho3.output.trans hb4.output, by rw [ho3.size]; exact hb4.size, fun j hj => (ho3.block j (by omega)).trans (hb4.block j hj)⟩
  · -- Fail
    go_enter Try.func13, Try.ntmps13
    go_wp2_with fail
    have hdo : doV d ⟨kd, i, b⟩ = { d with armed := decide (0 ≤ i), left := i } := by unfold doV; simp [hr9'.out]
    refine (Y.fail_ hB1.out.at_ hL'.out i).mono ?_
    rintro e W1 ⟨rfl, S1, ha, hs, hf⟩
    have hM1 := Lib.hid (Mid.of_frS (b0 := w.heap.size) (C := min B B2) hf hlt.out (by omega))
    have g1 := cell_of_row W1 w.heap.size 1 _ _ _ (boxK.out W1 hM1.out)
    simp at g1
    have hBd := Lib.hid (hB1.out.prog ha hs hf)
    have hs' := Lib.hid hs
    clear ha hs hf
    go_wp2_with fail
    refine (fail_any W1 B2 q d i hBd.out.ref).mono ?_
    rintro e W ⟨rfl, hr2, hf2, hb2⟩
    have hf3 := hf2.widen (us := refTs) (by decide) (Nat.le_refl _)
    have hM := Lib.hid (hM1.out.trans (Mid.of_fr hf3 (by omega)))
    have hFin := Lib.hid (show Fin Y W B p B2 q w.heap.size (w.heap.size + 2) (doV d ⟨kd, i, b⟩) from ⟨S1, by rw [hdo]; exact hBd.out.doc hr2 hf3 (fun k e => .inl (hb2 ▸ e)), fun k hk => by
      rcases hs'.out k hk with e | e
      · exact .inl (hlt.out k e)
      · exact .inr (by have := hsi2.out; omega)⟩)
    clear hr2 hf2 hb2 hf3 hdo g1
    clear e0 e1 e2 hs0 hs1 hr
    all_goals
      have k2 := cell_of_row W w.heap.size 2 _ _ _ (boxK.out W hM.out)
      have s1 := run_str W A n c b (xK.out W hM.out)
      have s2 := run_str W (some ⟨w.heap.size + 1, 0, none⟩) n c3 b (iK.out W hM.out)
      have hnW := Lib.hid (nK.out W hM.out)
      have htW := Lib.hid ((inK.out W hM.out).trans hti'.out)
      simp at k2
      go_wp2_with fail
      clear s1 s2 k2
      go_loopw [13] (fun v wi => ∃ k : Nat, k ≤ n ∧ v = .int .i64 (k : Int) ∧ Only (w.heap.size + 1) W wi ∧ NRow wi (w.heap.size + 1) (some ⟨w.heap.size + 1, 0, none⟩) n) (fun v _ => n - (intOf v).toNat)
      case atStart => exact ⟨0, Nat.zero_le _, rfl, Only.refl _ _, hnW.out⟩
      case round =>
        obtain ⟨k, hkn, rfl, honly, hrow⟩ := hrel
        by_cases h2 : k < n
        · obtain ⟨g, off, z, eg, hgb, hc, hfz⟩ := hrow.at_ h2
          injection eg with eg
          injection eg with eg1 eg2
          subst eg1 eg2
          rw [Nat.zero_add] at hc hfz
          have hst3 := Lib.hid (hrow.set h2 (IntKind.u8.wrap (z + 1)))
          rw [Nat.zero_add] at hst3
          have ho2 := Lib.hid (honly.setCell (i := k) (.int .u8 (IntKind.u8.wrap (z + 1))))
          have hkI : (k : Int) < (n : Int) := by omega
          have hk0 : (0 : Int) ≤ (k : Int) := Int.natCast_nonneg _
          have hnm := Nat.le_trans hnc hcm
          unfold maxLen at hnm
          clear hrow honly
          go_wp2_with fail
          go_roundw
          case rel => exact ⟨k + 1, by omega, by go_num, ho2.out, hst3.out⟩
          case measure => simp [intOf]; omega
        · have hkI : ¬ (k : Int) < (n : Int) := by omega
          have ho2 := Lib.hid honly
          clear hrow honly h2
          go_wp2_with fail
          go_ret
          obtain ⟨S1, hb, hs⟩ := hFin.out
          refine ⟨rfl, ⟨S1, hb.spoil ho2.out htW.out (fun e => by rcases hs _ e with e | e <;> omega)⟩, ?_⟩
          have hb3 : Below (min B B2) w1 W := by
            have e := hM.out.below
            exact e.mono (by have := hsi2.out; omega)
          have hb4 := (hb1'.out.mono (Nat.le_trans (Nat.min_le_left _ _) hBw)).trans hb3
          have ho3 := ho2.out
          exact ⟨ho3.os.trans hb4.os, ho3.tape.trans hb4.tape, ho3.output.trans hb4.output, by rw [ho3.size]; exact hb4.size, fun j hj => (ho3.block j (by omega)).trans (hb4.block j hj)⟩
  · -- Crash
    go_enter Try.func13, Try.ntmps13
    go_wp2_with fail
    have hdo : doV d ⟨kd, i, b⟩ = { d with armed := false, left := d.left, gone := true } := by unfold doV; simp [hr9'.out]
    refine (Y.crash hB1.out.at_ hL'.out).mono ?_
    rintro e W1 ⟨rfl, S1, ha, hs, hf⟩
    have hM1 := Lib.hid (Mid.of_frS (b0 := w.heap.size) (C := min B B2) hf hlt.out (by omega))
    have g1 := cell_of_row W1 w.heap.size 1 _ _ _ (boxK.out W1 hM1.out)
    simp at g1
    have hBd := Lib.hid (hB1.out.prog ha hs hf)
    have hs' := Lib.hid hs
    clear ha hs hf
    go_wp2_with fail
    refine (crash_any W1 B2 q d hBd.out.ref).mono ?_
    rintro e W ⟨rfl, hr2, hf2, hb2⟩
    have hf3 := hf2.widen (us := refTs) (by decide) (Nat.le_refl _)
    have hM := Lib.hid (hM1.out.trans (Mid.of_fr hf3 (by omega)))
    have hFin := Lib.hid (show Fin Y W B p B2 q w.heap.size (w.heap.size + 2) (doV d ⟨kd, i, b⟩) from ⟨S1, by rw [hdo]; exact hBd.out.doc hr2 hf3 (fun k e => .inl (hb2 ▸ e)), fun k hk => by
      rcases hs'.out k hk with e | e
      · exact .inl (hlt.out k e)
      · exact .inr (by have := hsi2.out; omega)⟩)
    clear hr2 hf2 hb2 hf3 hdo g1
    clear e0 e1 e2 hs0 hs1 hr
    all_goals
      have k2 := cell_of_row W w.heap.size 2 _ _ _ (boxK.out W hM.out)
      have s1 := run_str W A n c b (xK.out W hM.out)
      have s2 := run_str W (some ⟨w.heap.size + 1, 0, none⟩) n c3 b (iK.out W hM.out)
      have hnW := Lib.hid (nK.out W hM.out)
      have htW := Lib.hid ((inK.out W hM.out).trans hti'.out)
      simp at k2
      go_wp2_with fail
      clear s1 s2 k2
      go_loopw [13] (fun v wi => ∃ k : Nat, k ≤ n ∧ v = .int .i64 (k : Int) ∧ Only (w.heap.size + 1) W wi ∧ NRow wi (w.heap.size + 1) (some ⟨w.heap.size + 1, 0, none⟩) n) (fun v _ => n - (intOf v).toNat)
      case atStart => exact ⟨0, Nat.zero_le _, rfl, Only.refl _ _, hnW.out⟩
      case round =>
        obtain ⟨k, hkn, rfl, honly, hrow⟩ := hrel
        by_cases h2 : k < n
        · obtain ⟨g, off, z, eg, hgb, hc, hfz⟩ := hrow.at_ h2
          injection eg with eg
          injection eg with eg1 eg2
          subst eg1 eg2
          rw [Nat.zero_add] at hc hfz
          have hst3 := Lib.hid (hrow.set h2 (IntKind.u8.wrap (z + 1)))
          rw [Nat.zero_add] at hst3
          have ho2 := Lib.hid (honly.setCell (i := k) (.int .u8 (IntKind.u8.wrap (z + 1))))
          have hkI : (k : Int) < (n : Int) := by omega
          have hk0 : (0 : Int) ≤ (k : Int) := Int.natCast_nonneg _
          have hnm := Nat.le_trans hnc hcm
          unfold maxLen at hnm
          clear hrow honly
          go_wp2_with fail
          go_roundw
          case rel => exact ⟨k + 1, by omega, by go_num, ho2.out, hst3.out⟩
          case measure => simp [intOf]; omega
        · have hkI : ¬ (k : Int) < (n : Int) := by omega
          have ho2 := Lib.hid honly
          clear hrow honly h2
          go_wp2_with fail
          go_ret
          obtain ⟨S1, hb, hs⟩ := hFin.out
          refine ⟨rfl, ⟨S1, hb.spoil ho2.out htW.out (fun e => by rcases hs _ e with e | e <;> omega)⟩, ?_⟩
          have hb3 : Below (min B B2) w1 W := by
            have e := hM.out.below
            exact e.mono (by have := hsi2.out; omega)
          have hb4 := (hb1'.out.mono (Nat.le_trans (Nat.min_le_left _ _) hBw)).trans hb3
          have ho3 := ho2.out
          exact ⟨ho3.os.trans hb4.os, ho3.tape.trans hb4.tape, ho3.output.trans hb4.output, by rw [ho3.size]; exact hb4.size, fun j hj => (ho3.block j (by omega)).trans (hb4.block j hj)⟩
  · -- On
    go_enter Try.func13, Try.ntmps13
    go_wp2_with fail
    have hdo : doV d ⟨kd, i, b⟩ = { d with armed := false, left := d.left, gone := false } := by unfold doV; simp [hr9'.out]
    refine (Y.on hB1.out.at_ hL'.out).mono ?_
    rintro e W1 ⟨rfl, S1, ha, hs, hf⟩
    have hM1 := Lib.hid (Mid.of_frS (b0 := w.heap.size) (C := min B B2) hf hlt.out (by omega))
    have g1 := cell_of_row W1 w.heap.size 1 _ _ _ (boxK.out W1 hM1.out)
    simp at g1
    have hBd := Lib.hid (hB1.out.prog ha hs hf)
    have hs' := Lib.hid hs
    clear ha hs hf
    go_wp2_with fail
    refine (on_any W1 B2 q d hBd.out.ref).mono ?_
    rintro e W ⟨rfl, hr2, hf2, hb2⟩
    have hf3 := hf2.widen (us := refTs) (by decide) (Nat.le_refl _)
    have hM := Lib.hid (hM1.out.trans (Mid.of_fr hf3 (by omega)))
    have hFin := Lib.hid (show Fin Y W B p B2 q w.heap.size (w.heap.size + 2) (doV d ⟨kd, i, b⟩) from ⟨S1, by rw [hdo]; exact hBd.out.doc hr2 hf3 (fun k e => .inl (hb2 ▸ e)), fun k hk => by
      rcases hs'.out k hk with e | e
      · exact .inl (hlt.out k e)
      · exact .inr (by have := hsi2.out; omega)⟩)
    clear hr2 hf2 hb2 hf3 hdo g1
    clear e0 e1 e2 hs0 hs1 hr
    all_goals
      have k2 := cell_of_row W w.heap.size 2 _ _ _ (boxK.out W hM.out)
      have s1 := run_str W A n c b (xK.out W hM.out)
      have s2 := run_str W (some ⟨w.heap.size + 1, 0, none⟩) n c3 b (iK.out W hM.out)
      have hnW := Lib.hid (nK.out W hM.out)
      have htW := Lib.hid ((inK.out W hM.out).trans hti'.out)
      simp at k2
      go_wp2_with fail
      clear s1 s2 k2
      go_loopw [13] (fun v wi => ∃ k : Nat, k ≤ n ∧ v = .int .i64 (k : Int) ∧ Only (w.heap.size + 1) W wi ∧ NRow wi (w.heap.size + 1) (some ⟨w.heap.size + 1, 0, none⟩) n) (fun v _ => n - (intOf v).toNat)
      case atStart => exact ⟨0, Nat.zero_le _, rfl, Only.refl _ _, hnW.out⟩
      case round =>
        obtain ⟨k, hkn, rfl, honly, hrow⟩ := hrel
        by_cases h2 : k < n
        · obtain ⟨g, off, z, eg, hgb, hc, hfz⟩ := hrow.at_ h2
          injection eg with eg
          injection eg with eg1 eg2
          subst eg1 eg2
          rw [Nat.zero_add] at hc hfz
          have hst3 := Lib.hid (hrow.set h2 (IntKind.u8.wrap (z + 1)))
          rw [Nat.zero_add] at hst3
          have ho2 := Lib.hid (honly.setCell (i := k) (.int .u8 (IntKind.u8.wrap (z + 1))))
          have hkI : (k : Int) < (n : Int) := by omega
          have hk0 : (0 : Int) ≤ (k : Int) := Int.natCast_nonneg _
          have hnm := Nat.le_trans hnc hcm
          unfold maxLen at hnm
          clear hrow honly
          go_wp2_with fail
          go_roundw
          case rel => exact ⟨k + 1, by omega, by go_num, ho2.out, hst3.out⟩
          case measure => simp [intOf]; omega
        · have hkI : ¬ (k : Int) < (n : Int) := by omega
          have ho2 := Lib.hid honly
          clear hrow honly h2
          go_wp2_with fail
          go_ret
          obtain ⟨S1, hb, hs⟩ := hFin.out
          refine ⟨rfl, ⟨S1, hb.spoil ho2.out htW.out (fun e => by rcases hs _ e with e | e <;> omega)⟩, ?_⟩
          have hb3 : Below (min B B2) w1 W := by
            have e := hM.out.below
            exact e.mono (by have := hsi2.out; omega)
          have hb4 := (hb1'.out.mono (Nat.le_trans (Nat.min_le_left _ _) hBw)).trans hb3
          have ho3 := ho2.out
          exact ⟨ho3.os.trans hb4.os, ho3.tape.trans hb4.tape, ho3.output.trans hb4.output, by rw [ho3.size]; exact hb4.size, fun j hj => (ho3.block j (by omega)).trans (hb4.block j hj)⟩
  · -- Settle
    go_enter Try.func13, Try.ntmps13
    go_wp2_with fail
    have hdo : doV d ⟨kd, i, b⟩ = settleV d := by unfold doV; simp [hr9'.out]
    refine (Y.settle hB1.out.at_ hL'.out).mono ?_
    rintro e W1 ⟨rfl, S1, ha, hs, hf⟩
    have hM1 := Lib.hid (Mid.of_frS (b0 := w.heap.size) (C := min B B2) hf hlt.out (by omega))
    have g1 := cell_of_row W1 w.heap.size 1 _ _ _ (boxK.out W1 hM1.out)
    simp at g1
    have hBd := Lib.hid (hB1.out.prog ha hs hf)
    have hs' := Lib.hid hs
    clear ha hs hf
    go_wp2_with fail
    refine (settle_any W1 B2 q d hBd.out.ref (by omega) (by omega)).mono ?_
    rintro e W ⟨rfl, hr2, hf2, hb2⟩
    have hf3 := hf2.widen (us := refTs) (by decide) (Nat.le_refl _)
    have hM := Lib.hid (hM1.out.trans (Mid.of_fr hf3 (by omega)))
    have hFin := Lib.hid (show Fin Y W B p B2 q w.heap.size (w.heap.size + 2) (doV d ⟨kd, i, b⟩) from ⟨S1, by rw [hdo]; exact hBd.out.doc hr2 hf3 (fun k e => .inr (hb2 k e)), fun k hk => by
      rcases hs'.out k hk with e | e
      · exact .inl (hlt.out k e)
      · exact .inr (by have := hsi2.out; omega)⟩)
    clear hr2 hf2 hb2 hf3 hdo g1
    clear e0 e1 e2 hs0 hs1 hr
    all_goals
      have k2 := cell_of_row W w.heap.size 2 _ _ _ (boxK.out W hM.out)
      have s1 := run_str W A n c b (xK.out W hM.out)
      have s2 := run_str W (some ⟨w.heap.size + 1, 0, none⟩) n c3 b (iK.out W hM.out)
      have hnW := Lib.hid (nK.out W hM.out)
      have htW := Lib.hid ((inK.out W hM.out).trans hti'.out)
      simp at k2
      go_wp2_with fail
      clear s1 s2 k2
      go_loopw [13] (fun v wi => ∃ k : Nat, k ≤ n ∧ v = .int .i64 (k : Int) ∧ Only (w.heap.size + 1) W wi ∧ NRow wi (w.heap.size + 1) (some ⟨w.heap.size + 1, 0, none⟩) n) (fun v _ => n - (intOf v).toNat)
      case atStart => exact ⟨0, Nat.zero_le _, rfl, Only.refl _ _, hnW.out⟩
      case round =>
        obtain ⟨k, hkn, rfl, honly, hrow⟩ := hrel
        by_cases h2 : k < n
        · obtain ⟨g, off, z, eg, hgb, hc, hfz⟩ := hrow.at_ h2
          injection eg with eg
          injection eg with eg1 eg2
          subst eg1 eg2
          rw [Nat.zero_add] at hc hfz
          have hst3 := Lib.hid (hrow.set h2 (IntKind.u8.wrap (z + 1)))
          rw [Nat.zero_add] at hst3
          have ho2 := Lib.hid (honly.setCell (i := k) (.int .u8 (IntKind.u8.wrap (z + 1))))
          have hkI : (k : Int) < (n : Int) := by omega
          have hk0 : (0 : Int) ≤ (k : Int) := Int.natCast_nonneg _
          have hnm := Nat.le_trans hnc hcm
          unfold maxLen at hnm
          clear hrow honly
          go_wp2_with fail
          go_roundw
          case rel => exact ⟨k + 1, by omega, by go_num, ho2.out, hst3.out⟩
          case measure => simp [intOf]; omega
        · have hkI : ¬ (k : Int) < (n : Int) := by omega
          have ho2 := Lib.hid honly
          clear hrow honly h2
          go_wp2_with fail
          go_ret
          obtain ⟨S1, hb, hs⟩ := hFin.out
          refine ⟨rfl, ⟨S1, hb.spoil ho2.out htW.out (fun e => by rcases hs _ e with e | e <;> omega)⟩, ?_⟩
          have hb3 : Below (min B B2) w1 W := by
            have e := hM.out.below
            exact e.mono (by have := hsi2.out; omega)
          have hb4 := (hb1'.out.mono (Nat.le_trans (Nat.min_le_left _ _) hBw)).trans hb3
          have ho3 := ho2.out
          exact ⟨ho3.os.trans hb4.os, ho3.tape.trans hb4.tape, ho3.output.trans hb4.output, by rw [ho3.size]; exact hb4.size, fun j hj => (ho3.block j (by omega)).trans (hb4.block j hj)⟩
  · -- Write
    have r4 : ((r : Int) == 4) = false := by rw [beq_eq_false_iff_ne]; omega
    have r5 : ((r : Int) == 5) = false := by rw [beq_eq_false_iff_ne]; omega
    have r6 : ((r : Int) == 6) = false := by rw [beq_eq_false_iff_ne]; omega
    have r7 : ((r : Int) == 7) = false := by rw [beq_eq_false_iff_ne]; omega
    have r8 : ((r : Int) == 8) = false := by rw [beq_eq_false_iff_ne]; omega
    go_enter Try.func13, Try.ntmps13
    go_wp2_with fail
    clear r4 r5 r6 r7 r8
    have hdo : doV d ⟨kd, i, b⟩ = (writeV d i b).2 := by
      unfold doV
      simp [hr9'.out, show r ≠ 4 by omega, show r ≠ 5 by omega, show r ≠ 6 by omega, show r ≠ 7 by omega, show r ≠ 8 by omega]
    have hMD := Lib.hid (Mid.of_below (b0 := w.heap.size) (C := min B B2) ((Below.refl w1.heap.size w1).drew))
    have s01 := run_str w1.drew A n c b (xK.out w1.drew hMD.out)
    have hiD := Lib.hid (iK.out w1.drew hMD.out)
    have hBD := Lib.hid (hB1.out.below ((Below.refl w1.heap.size w1).drew))
    have tw : ((writeV d i b).1 == (writeV d i b).1) = true := by simp
    have hB2d : B2 ≤ w1.drew.heap.size := by show B2 ≤ w1.heap.size; have := hsi2.out; omega
    have hszD : w1.drew.heap.size = w.heap.size + 2 := hsi2.out
    have hszD' := Lib.hid hszD
    have hnm := Nat.le_trans hnc hcm
    have hnm' : b.length ≤ 9223372036854775807 := by rw [hbl]; unfold maxLen at hnm; omega
    clear hszD hnm
    go_region_law (first
      | (go_simp; go_at_call 14; refine (Y.write hBD.out.at_ hL'.out i (some ⟨w.heap.size + 1, 0, none⟩) n c3 b hiD.out (by omega) (by omega) (by intro e; cases e)).mono ?_; rintro e W1 ⟨rfl, S1, ha, hs, hf⟩; have hM1 := Lib.hid (hMD.out.trans (Mid.of_frS (b0 := w.heap.size) (C := min B B2) hf hlt.out (by omega))); have hBP := Lib.hid (hBD.out.prog ha hs hf); have hs' := Lib.hid hs; clear ha hs hf; have k11 := cell_of_row W1 w.heap.size 1 _ _ _ (boxK.out W1 hM1.out); have k12 := cell_of_row W1 w.heap.size 2 _ _ _ (boxK.out W1 hM1.out); simp at k11 k12; have s11 := run_str W1 A n c b (xK.out W1 hM1.out); have hi1 := Lib.hid (iK.out W1 hM1.out))
      | (go_simp; go_at_call 34; refine (write_any w1.drew B2 q d i b hBD.out.ref hnm' (by omega) hl3 hB2d).mono ?_; rintro e W1 ⟨rfl, hr2, hf2, hb2⟩; have hM1 := Lib.hid (hMD.out.trans (Mid.of_fr hf2 (by omega))); have hBE := Lib.hid (hBD.out.doc hr2 hf2 (fun k e => .inl (hb2 ▸ e))); clear hr2 hf2 hb2; have k11 := cell_of_row W1 w.heap.size 1 _ _ _ (boxK.out W1 hM1.out); have k12 := cell_of_row W1 w.heap.size 2 _ _ _ (boxK.out W1 hM1.out); simp at k11 k12; have s11 := run_str W1 A n c b (xK.out W1 hM1.out); have hi1 := Lib.hid (iK.out W1 hM1.out))
      | (go_simp; go_at_call 34; refine (write_any W1 B2 q d i b hBP.out.ref hnm' (by omega) hl3 (Nat.le_trans hB2d (Nat.le_trans (Nat.le_of_eq (hszD'.out.trans hsi2.out.symm)) hM1.out.size))).mono ?_; rintro e W ⟨rfl, hr2, hf2, hb2⟩; have hM := Lib.hid (hM1.out.trans (Mid.of_fr hf2 (by omega))); have hFin := Lib.hid (show Fin Y W B p B2 q w.heap.size (w.heap.size + 2) (doV d ⟨kd, i, b⟩) from ⟨S1, by rw [hdo]; exact hBP.out.doc hr2 hf2 (fun k e => .inl (hb2 ▸ e)), fun k hk => (hs'.out k hk).imp (hlt.out k) (fun e => Nat.le_trans (Nat.le_of_eq hszD'.out.symm) e)⟩); clear hr2 hf2 hb2)
      | (go_simp; go_at_call 14; refine (Y.write hBE.out.at_ hL'.out i (some ⟨w.heap.size + 1, 0, none⟩) n c3 b hi1.out (by omega) (by omega) (by intro e; cases e)).mono ?_; rintro e W ⟨rfl, S1, ha, hs, hf⟩; have hM := Lib.hid (hM1.out.trans (Mid.of_frS (b0 := w.heap.size) (C := min B B2) hf hlt.out (by omega))); have hFin := Lib.hid (show Fin Y W B p B2 q w.heap.size (w.heap.size + 2) (doV d ⟨kd, i, b⟩) from ⟨S1, by rw [hdo]; exact hBE.out.prog ha hs hf, fun k hk => (hs k hk).imp (hlt.out k) (fun e => Nat.le_trans (Nat.le_of_eq hsi2.out.symm) (Nat.le_trans hM1.out.size e))⟩); clear ha hs hf))
    all_goals
      clear hdo tw s01 s11 k11 k12
      have k2 := cell_of_row W w.heap.size 2 _ _ _ (boxK.out W hM.out)
      have s1 := run_str W A n c b (xK.out W hM.out)
      have s2 := run_str W (some ⟨w.heap.size + 1, 0, none⟩) n c3 b (iK.out W hM.out)
      have hnW := Lib.hid (nK.out W hM.out)
      have htW := Lib.hid ((inK.out W hM.out).trans hti'.out)
      simp at k2
      go_wp2_with fail
      clear s1 s2 k2
      go_loopw [13] (fun v wi => ∃ k : Nat, k ≤ n ∧ v = .int .i64 (k : Int) ∧ Only (w.heap.size + 1) W wi ∧ NRow wi (w.heap.size + 1) (some ⟨w.heap.size + 1, 0, none⟩) n) (fun v _ => n - (intOf v).toNat)
      case atStart => exact ⟨0, Nat.zero_le _, rfl, Only.refl _ _, hnW.out⟩
      case round =>
        obtain ⟨k, hkn, rfl, honly, hrow⟩ := hrel
        by_cases h2 : k < n
        · obtain ⟨g, off, z, eg, hgb, hc, hfz⟩ := hrow.at_ h2
          injection eg with eg
          injection eg with eg1 eg2
          subst eg1 eg2
          rw [Nat.zero_add] at hc hfz
          have hst3 := Lib.hid (hrow.set h2 (IntKind.u8.wrap (z + 1)))
          rw [Nat.zero_add] at hst3
          have ho2 := Lib.hid (honly.setCell (i := k) (.int .u8 (IntKind.u8.wrap (z + 1))))
          have hkI : (k : Int) < (n : Int) := by omega
          have hk0 : (0 : Int) ≤ (k : Int) := Int.natCast_nonneg _
          have hnm := Nat.le_trans hnc hcm
          unfold maxLen at hnm
          clear hrow honly
          go_wp2_with fail
          go_roundw
          case rel => exact ⟨k + 1, by omega, by go_num, ho2.out, hst3.out⟩
          case measure => simp [intOf]; omega
        · have hkI : ¬ (k : Int) < (n : Int) := by omega
          have ho2 := Lib.hid honly
          clear hrow honly h2
          go_wp2_with fail
          go_ret
          obtain ⟨S1, hb, hs⟩ := hFin.out
          refine ⟨rfl, ⟨S1, hb.spoil ho2.out htW.out (fun e => by rcases hs _ e with e | e <;> omega)⟩, ?_⟩
          have hb3 : Below (min B B2) w1 W := by
            have e := hM.out.below
            exact e.mono (by have := hsi2.out; omega)
          have hb4 := (hb1'.out.mono (Nat.le_trans (Nat.min_le_left _ _) hBw)).trans hb3
          have ho3 := ho2.out
          exact ⟨ho3.os.trans hb4.os, ho3.tape.trans hb4.tape, ho3.output.trans hb4.output, by rw [ho3.size]; exact hb4.size, fun j hj => (ho3.block j (by omega)).trans (hb4.block j hj)⟩
end Go.Proofs.Ytffenadibnehfaa
