/- A slot's data; a node more; other data: the program's. -/
import Derived.Test.YtiikakfdelkjhaaArnI
namespace Go.Proofs.Ytiikakfdelkjhaa.Arn
open Go.RowKit
set_option maxRecDepth 20000

theorem Did.after {w w1 w2 : World} {ow ow1 : Nat → Role} {P : Nat} {a2 : Av} (hr : ∀ k, k < w.heap.size → ow1 k = ow k) (hf : FrX (fun k => (ow k).prg) w w1) (h : Did w1 w2 ow1 P a2) : Did w w2 ow P a2 := by
  obtain ⟨ow2, p2, e2, f2⟩ := h
  refine ⟨ow2, p2, fun k hk => (e2 k (Nat.lt_of_lt_of_le hk hf.size)).trans (hr k hk), hf.trans f2 fun k hk => ?_⟩
  by_cases hlt : k < w.heap.size
  · left; rw [← hr k hlt]; exact hk
  · right; omega
theorem PAr.low {w : World} {ow : Nat → Role} {P : Nat} {a : Av} (h : PAr w ow P a) : ∀ k, ow k ≠ .off → k < w.heap.size := by
  obtain ⟨B, m, sv, sA, sc, fA, fc, h⟩ := h
  exact h.low
theorem PAr.new_off {w : World} {ow : Nat → Role} {P : Nat} {a : Av} (h : PAr w ow P a) {k : Nat} (hk : w.heap.size ≤ k) : ¬ (ow k).prg := fun e => by
  have := h.low k (fun e2 => by rw [e2] at e; exact e)
  omega
theorem five_set (w7 : World) (g : Nat) (b0 b1 b2 b3 b4 : Value) : ((((((w7.setCell ⟨g, 0, none⟩ b0).setCell ⟨g, 1, none⟩ b1).setCell ⟨g, 2, none⟩ b2).setCell ⟨g, 3, none⟩ b3).setCell ⟨g, 4, none⟩ b4).heap.size = w7.heap.size) ∧ (∀ k, k ≠ g → (((((w7.setCell ⟨g, 0, none⟩ b0).setCell ⟨g, 1, none⟩ b1).setCell ⟨g, 2, none⟩ b2).setCell ⟨g, 3, none⟩ b3).setCell ⟨g, 4, none⟩ b4).heap[k]? = w7.heap[k]?) ∧
    ∀ {n : Nat} {v : World}, Below n v w7 → n ≤ g → Below n v (((((w7.setCell ⟨g, 0, none⟩ b0).setCell ⟨g, 1, none⟩ b1).setCell ⟨g, 2, none⟩ b2).setCell ⟨g, 3, none⟩ b3).setCell ⟨g, 4, none⟩ b4) := by
  refine ⟨by simp, fun k h => ?_, fun h hg => ((((h.setCell hg _).setCell hg _).setCell hg _).setCell hg _).setCell hg _⟩
  exact (heap_setCell_other _ _ k _ h).trans ((heap_setCell_other _ _ k _ h).trans ((heap_setCell_other _ _ k _ h).trans ((heap_setCell_other _ _ k _ h).trans (heap_setCell_other _ _ k _ h))))
noncomputable def addR (a : Av) (p i : Int) (d : Dt) : Int × Av := if addE a p i = 0 then ((slotV a : Int), addV a p.toNat i.toNat d) else (-1, a)
theorem addE_ok {a : Av} {p i : Int} (h : addE a p i = 0) : ∃ (x j : Nat), p = (x : Int) ∧ i = (j : Int) ∧ a.live x = true ∧ j ≤ (a.kids x).length := by
  unfold addE at h
  cases hlv : liveI a p with
  | false => rw [hlv] at h; simp at h
  | true =>
    obtain ⟨x, rfl, hx⟩ := liveI_nat hlv
    rw [hlv] at h
    simp only [if_true] at h
    unfold gapE at h
    split at h
    · exact absurd h (by decide)
    · split at h
      · exact absurd h (by decide)
      · rename_i h2
        refine ⟨x, i.toNat, rfl, by omega, hx, ?_⟩
        simp only [Int.toNat_natCast] at h2
        omega
section
variable {w : World} {ow : Nat → Role} {P : Nat} {a : Av} {B : Nat → Nat} {m : Nat} {sv : Nat → SV} {sA : Option Addr} {sc : Nat} {fA : Option Addr} {fc : Nat}
set_option maxHeartbeats 1000000 in
theorem get_any (h : PA w ow P a B m sv sA sc fA fc) (i : Int) : Calls Try.prog 22 #[.pointer (some ⟨P, 0, none⟩), .int .i64 i] w fun e w' => ∃ A n c, e = .returned (.tuple #[datV (datI a i) A n c, .bool (liveI a i)]) ∧ DatOk (New w w') w' (datI a i) A n c ∧ Below w.heap.size w w' := by
  have h' := Lib.hid h
  have hal : ∀ o, Below w.heap.size w (w.alloc o) := fun o => (Below.refl _ _).alloc (Nat.le_refl _) _
  have hal' := Lib.hid hal
  have h2 := Lib.hid (fun W hb => h.below (w' := W) hb)
  clear hal
  cases hlv : liveI a i with
  | false =>
    have hv := Lib.hid (show datI a i = Dt.zero by unfold datI; rw [hlv]; rfl)
    have hlv' := Lib.hid hlv
    clear h hlv
    go_enter Try.func22, Try.ntmps22
    go_wp2_with (refine (isLive_any (h2.out _ (hal'.out _)) i).mono ?_; rintro e w7 ⟨rfl, rfl⟩; rw [hlv'.out])
    refine bodyPost_ret (v := .tuple #[.agg #[.int .u64 0, .bool false, .string ⟨#[]⟩, .slice none 0 0, .string ⟨#[]⟩], .bool false]) (by simp [results, Try.results22, go_sem]) rfl ?_
    rw [hv.out]
    exact ⟨none, 0, 0, rfl, DatOk.zero_ _ _, hal'.out _⟩
  | true =>
    obtain ⟨s, rfl, hs⟩ := liveI_nat hlv
    have hm := (h.live_lt hs).2
    have hv := Lib.hid (show datI a (s : Int) = a.dat s by unfold datI; rw [hlv]; rfl)
    have hlv' := Lib.hid hlv
    have hm' := Lib.hid hm
    have e8 := fun W hb => (h2.out W hb).eight hm
    have e3 := Lib.hid (fun o => (e8 _ (hal'.out o)).2.2.2)
    have hlow := Lib.hid h.low
    clear h hlv hm hs e8
    go_enter Try.func22, Try.ntmps22
    go_wp2_with (first
      | (refine (isLive_any (h2.out _ (hal'.out _)) (s : Int)).mono ?_; rintro e w7 ⟨rfl, rfl⟩; rw [hlv'.out])
      | (refine (node_any (h2.out _ (hal'.out _)) hm'.out).mono ?_; rintro e w7 ⟨rfl, rfl⟩; obtain ⟨q3, q4, q5, q6, q7⟩ := e3.out (.cells #[.int .u64 0, .bool false, .string ⟨#[]⟩, .slice none 0 0, .string ⟨#[]⟩] 25))
      | (refine (copied_any _ (fun k => ow k = .imm) (a.dat s) _ _ _ ((h2.out _ (hal'.out _)).dat s hm'.out) (fun k hk => (h2.out _ (hal'.out _)).low k (by rw [hk]; simp))).mono ?_; rintro e w7 ⟨A, c, rfl, hdat, hb⟩; have zh := (hb.block w.heap.size (by simp)).trans (heap_alloc_new w _); obtain ⟨y0, y1, y2, y3, y4, yf⟩ := five_cells zh; have hdat' := Lib.hid hdat; have hb' := Lib.hid hb; clear hdat hb zh; rw [show datV (a.dat s) A (sv s).an c = .agg #[.int .u64 ((a.dat s).id : Int), .bool (a.dat s).leaf, .string ⟨(a.dat s).label.toArray⟩, .slice A (sv s).an c, .string ⟨(a.dat s).text.toArray⟩] from rfl]))
    refine bodyPost_ret (v := .tuple #[.agg #[.int .u64 ((a.dat s).id : Int), .bool (a.dat s).leaf, .string ⟨(a.dat s).label.toArray⟩, .slice A (sv s).an c, .string ⟨(a.dat s).text.toArray⟩], .bool true]) (by simp [results, Try.results22, go_sem, y0, y1, y2, y3, y4]) rfl ?_
    rw [hv.out]
    obtain ⟨z1, z2, z3⟩ := five_set w7 w.heap.size (.int .u64 ((a.dat s).id : Int)) (.bool (a.dat s).leaf) (.string ⟨(a.dat s).label.toArray⟩) (.slice A (sv s).an c) (.string ⟨(a.dat s).text.toArray⟩)
    refine ⟨A, (sv s).an, c, rfl, hdat'.out.kept (fun k hk => ?_) fun k hk => z2 k ?_, z3 ((hal'.out _).trans (hb'.out.mono (by simp))) (Nat.le_refl _)⟩
    · obtain ⟨k1, k2⟩ := hk
      simp at k1
      refine ⟨by omega, by rw [z1]; exact k2⟩
    · obtain ⟨k1, k2⟩ := hk
      simp at k1
      omega
theorem addV_ok {d : Dt} (hw : WF a) {x j : Nat} (hx : a.live x = true) : (slotV a < (takeV a).cnt ∧ slotV a ≤ a.cnt ∧ x < (settleV (takeV a) (slotV a) (x : Int) d).cnt ∧ (settleV (takeV a) (slotV a) (x : Int) d).kids x = a.kids x) := by
  obtain ⟨s1, s2, s3, s4⟩ := hw.slot
  obtain ⟨t1, t2, t3, t4⟩ := take_live a
  have hne : x ≠ slotV a := fun e => by rw [e, s1] at hx; cases hx
  refine ⟨s3, s4, ?_, ?_⟩
  · show x < (takeV a).cnt
    have := hw.lt hx
    have : a.cnt ≤ (takeV a).cnt := by unfold takeV; split <;> simp
    omega
  · show upd (takeV a).kids (slotV a) [] x = _
    rw [upd_ne _ _ hne, t3]
set_option maxHeartbeats 1000000 in
theorem add_any (h : PAr w ow P a) (hw : WF a) (hc : a.cnt < 100000) (p i : Int) (T : Nat → Prop) (d : Dt) (dA : Option Addr) (dn dc : Nat) (hd : DatOk T w d dA dn dc) (hT : ∀ k, T k → k < w.heap.size) (hTo : ∀ k, T k → ¬ (ow k).prg) :
    Calls Try.prog 23 #[.pointer (some ⟨P, 0, none⟩), .int .i64 p, .int .i64 i, datV d dA dn dc] w fun e w' => e = .returned (.tuple #[.int .i64 (addR a p i d).1, .int .i64 (addE a p i)]) ∧ Did w w' ow P (addR a p i d).2 := by
  have hal : ∀ o, Below w.heap.size w (w.alloc o) := fun o => (Below.refl _ _).alloc (Nat.le_refl _) _
  have hK := Lib.hid (fun o => h.below (hal o))
  have hal' := Lib.hid hal
  have hD := Lib.hid (fun o => Did.below h (hal o))
  have hoff := Lib.hid (fun (k : Nat) => h.new_off (k := k))
  clear hal
  obtain ⟨E, hE⟩ : ∃ E, E = addE a p i := ⟨_, rfl⟩
  rw [← hE]
  by_cases h0 : E = 0
  · obtain ⟨x, j, rfl, rfl, hx, hj⟩ := addE_ok (hE.symm.trans h0)
    have hR := Lib.hid (show addR a (x : Int) (j : Int) d = ((slotV a : Int), addV a x j d) by unfold addR; rw [if_pos (hE.symm.trans h0)]; rfl)
    have hE' := Lib.hid (hE.symm.trans h0)
    obtain ⟨o1, o2, o3, o4⟩ := addV_ok (d := d) (j := j) hw hx
    have hkl := hw.kids_len x
    have hxc := hw.lt hx
    have hd' := Lib.hid hd
    have hT' := Lib.hid hT
    have hTo' := Lib.hid hTo
    have hj' := Lib.hid hj
    have hsl : slotV a ≤ 100000 := by omega
    have hss := Lib.hid o1
    have hs4 := Lib.hid o4
    have hx3 := Lib.hid o3
    have hx5 := Lib.hid (show x ≤ 100000 by omega)
    have hkk := Lib.hid (show (a.kids x).length < 100000 by omega)
    have hc' := Lib.hid hc
    clear h hE hd hT hTo hj o1 o2 o3 o4 hkl hxc hx hw hc
    rw [h0]
    clear h0
    obtain ⟨s, hs⟩ : ∃ s, s = slotV a := ⟨_, rfl⟩
    have hs' := Lib.hid hs
    rw [← hs] at hR hsl hss hs4 hx3
    clear hs
    unfold datV
    go_enter Try.func23, Try.ntmps23
    go_wp2_with fail
    obtain ⟨B, m, sv, sA, sc, fA, fc, h2⟩ := hK.out (.cells #[.int .u64 (d.id : Int), .bool d.leaf, .string ⟨d.label.toArray⟩, .slice dA dn dc, .string ⟨d.text.toArray⟩] 25)
    refine (addFault_any h2 (x : Int) (j : Int)).mono ?_
    rintro e w7 ⟨rfl, rfl⟩
    rw [hE'.out]
    go_wp2_with fail
    refine (take_any h2 hc'.out).mono ?_
    rintro e w1 ⟨rfl, ow1, hP1, hr1, hf1⟩
    rw [← hs'.out]
    have hbox := (hf1.block w.heap.size (by simp) (hoff.out _ (Nat.le_refl _))).trans (heap_alloc_new w _)
    obtain ⟨y0, y1, y2, y3, y4, yf⟩ := five_cells hbox
    have hdat1 : DatOk T w1 d dA dn dc := hd'.out.kept (fun _ h => h) fun k hk => (hf1.block k (by have := hT'.out k hk; simp; omega) (hTo'.out k hk)).trans ((hal'.out _).block k (hT'.out k hk))
    obtain ⟨B1, m1, sv1, sA1, sc1, fA1, fc1, h3⟩ := hP1
    have h3' := Lib.hid h3
    have hdat1' := Lib.hid hdat1
    have hf1' := Lib.hid hf1
    have hr1' := Lib.hid hr1
    clear h3 hdat1 hf1 hr1 hbox
    go_wp2_with fail
    refine (settle_any h3'.out hss.out (p := (x : Int)) (by have := hx5.out; omega) T d dA dn dc hdat1'.out (fun k hk => by have h1 := hT'.out k hk; have := hf1'.out.size; simp at this; omega)).mono ?_
    rintro e w2 ⟨rfl, D2⟩
    obtain ⟨ow2, ⟨B2, m2, sv2, sA2, sc2, fA2, fc2, h4⟩, hr2, hf2⟩ := D2
    have h4' := Lib.hid h4
    have hf2' := Lib.hid hf2
    have hr2' := Lib.hid hr2
    clear h4 hf2 hr2
    go_wp2_with fail
    refine (putIn_any h4'.out (s := s) (p := x) (i := j) hx3.out (by rw [hs4.out]; exact hj'.out) (by rw [hs4.out]; exact hkk.out) (by omega)).mono ?_
    rintro e w3 ⟨rfl, D3⟩
    have D3' := Lib.hid D3
    clear D3
    go_wp2_with fail
    refine bodyPost_ret (v := .tuple #[.int .i64 (s : Int), .int .i64 0]) (by simp [results, Try.results23, go_sem]) rfl ?_
    rw [hR.out]
    rw [show addV a x j d = putInV (settleV (takeV a) s (x : Int) d) s x j by unfold addV; rw [← hs'.out]]
    exact ⟨rfl, Did.after (fun _ _ => rfl) (FrX.of_below (hal'.out _)) (Did.after hr1'.out hf1'.out (Did.after hr2'.out hf2'.out D3'.out))⟩
  · have hR := Lib.hid (show addR a p i d = (-1, a) by unfold addR; rw [if_neg (by rw [← hE]; exact h0)])
    have hE' := Lib.hid hE
    have hEb : (E != 0) = true := by simpa using h0
    clear h hE hd hT hTo h0
    unfold datV
    go_enter Try.func23, Try.ntmps23
    go_wp2_with (obtain ⟨B, m, sv, sA, sc, fA, fc, h2⟩ := hK.out (.cells #[.int .u64 (d.id : Int), .bool d.leaf, .string ⟨d.label.toArray⟩, .slice dA dn dc, .string ⟨d.text.toArray⟩] 25); refine (addFault_any h2 p i).mono ?_; rintro e w7 ⟨rfl, rfl⟩; rw [← hE'.out])
    refine bodyPost_ret (v := .tuple #[.int .i64 (-1), .int .i64 E]) (by simp [results, Try.results23, go_sem]) rfl ?_
    rw [hR.out]
    exact ⟨rfl, hD.out _⟩
end
end Go.Proofs.Ytiikakfdelkjhaa.Arn
