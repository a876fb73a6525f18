/- Set: the document's. -/
import Derived.Test.YtiikakfdelkjhaaArnRg
namespace Go.Proofs.Ytiikakfdelkjhaa.Arn
open Go.RowKit
set_option maxRecDepth 20000
set_option linter.unusedVariables false

theorem eight_full {w : World} {g : Nat} {a0 a1 a2 a3 a4 a5 a6 a7 b0 b1 b2 b3 b4 b5 b6 b7 : Value} {t : TypeId} (h : w.heap[g]? = some (.cells #[a0, a1, a2, a3, a4, a5, a6, a7] t (0, 0))) :
    (eight w g 0 b0 b1 b2 b3 b4 b5 b6 b7).heap[g]? = some (.cells #[b0, b1, b2, b3, b4, b5, b6, b7] t (0, 0)) := by
  have e0 := heap_setCell_same w g 0 _ _ b0 h
  have e1 := heap_setCell_same _ g 1 _ _ b1 e0
  have e2 := heap_setCell_same _ g 2 _ _ b2 e1
  have e3 := heap_setCell_same _ g 3 _ _ b3 e2
  have e4 := heap_setCell_same _ g 4 _ _ b4 e3
  have e5 := heap_setCell_same _ g 5 _ _ b5 e4
  have e6 := heap_setCell_same _ g 6 _ _ b6 e5
  have e7 := heap_setCell_same _ g 7 _ _ b7 e6
  unfold eight
  rw [e7]
  simp
theorem eight_below {B : Nat} {v w : World} {g e : Nat} {b0 b1 b2 b3 b4 b5 b6 b7 : Value} (h : Below B v w) (hg : B ≤ g) : Below B v (eight w g e b0 b1 b2 b3 b4 b5 b6 b7) :=
  (((((((h.setCell hg _).setCell hg _).setCell hg _).setCell hg _).setCell hg _).setCell hg _).setCell hg _).setCell hg _
theorem eight_size (w : World) (g e : Nat) (b0 b1 b2 b3 b4 b5 b6 b7 : Value) : (eight w g e b0 b1 b2 b3 b4 b5 b6 b7).heap.size = w.heap.size := by unfold eight; simp
theorem eight_other {w : World} {g e k : Nat} {b0 b1 b2 b3 b4 b5 b6 b7 : Value} (hk : k ≠ g) : (eight w g e b0 b1 b2 b3 b4 b5 b6 b7).heap[k]? = w.heap[k]? := by
  unfold eight
  exact (heap_setCell_other _ _ k _ hk).trans ((heap_setCell_other _ _ k _ hk).trans ((heap_setCell_other _ _ k _ hk).trans ((heap_setCell_other _ _ k _ hk).trans ((heap_setCell_other _ _ k _ hk).trans ((heap_setCell_other _ _ k _ hk).trans ((heap_setCell_other _ _ k _ hk).trans (heap_setCell_other _ _ k _ hk)))))))
/-- data as the document's slot -/
def plV (d : Dt) (aA : Option Addr) (an ac : Nat) : Value := sltV false d aA an ac 0 none 0 0
section
variable {w : World} {ow : Nat → Role} {P : Nat} {a : Av}
theorem rset_fin {g : Nat} {sv : Nat → SV} {sc : Nat} {fA : Option Addr} {fc : Nat} (h : RA w ow P g a sv sc fA fc) {x : Nat} (hxl : x < a.cnt) (hx : a.live x = true) {w2 : World} (hb : Below w.heap.size w w2) {d : Dt} {A : Option Addr} {dn c : Nat} (hd : DatOk (New w w2) w2 d A dn c) (o : Obj) :
    RDid w (eight (w2.alloc o) g (x * 8) (.bool true) (.int .u64 (d.id : Int)) (.bool d.leaf) (.string ⟨d.label.toArray⟩) (.slice A dn c) (.string ⟨d.text.toArray⟩) (.int .i64 (a.par x)) (.slice (sv x).kA (a.kids x).length (sv x).kc)).drew ow P (setV a x d) := by
  rw [eight_cells]
  refine RDid.then_ ?_ (Below.refl _ _).drew
  have hb2 : Below w.heap.size w (w2.alloc o) := hb.alloc hb.size o
  have hk := h.kids x hxl
  have hkl := hk.ns.1
  have e1 : (setV a x d).dat x = d := upd_same _ _ _
  have := rstored h hxl hb2 (a9 := setV a x d) ⟨(sv x).kA, (a.kids x).length, (sv x).kc, A, dn, c⟩ rfl rfl (fun i hi => ⟨rfl, rfl, rfl, upd_ne _ _ hi⟩) (by
      show ImmN _ _ (sv x).kA (a.kids x).length (sv x).kc (a.kids x)
      rw [hkl]
      exact hk.kept hb2.size (fun k e => .inl e) fun k e => hb2.block k (h.low k (by rw [e]; simp))) (h.ksmall x) (by
      rw [e1]
      exact hd.kept (fun k hk => .inr ⟨hk.1, by have := hk.2; simp; omega⟩) fun k hk => Go.heap_alloc_old w2 o hk.2) (h.pars x)
  unfold refCells at this
  rw [e1, show (setV a x d).live x = true from hx] at this
  exact this
set_option maxHeartbeats 400000 in
theorem rset_ok {g : Nat} {sv : Nat → SV} {sc : Nat} {fA : Option Addr} {fc : Nat} (h1 : RA w ow P g a sv sc fA fc) (hw : WF a) {x : Nat} (hx : a.live x = true) (T : Nat → Prop) (d : Dt) (dA : Option Addr) (dn dc : Nat) (hd : DatOk T w d dA dn dc) (hT : ∀ k, T k → k < w.heap.size) (hE : setE a (x : Int) d.leaf = 0) :
    Calls Try.prog 36 #[.pointer (some ⟨P, 0, none⟩), .int .i64 (x : Int), plV d dA dn dc] w fun e w' => e = .returned (.int .i64 0) ∧ RDid w w' ow P (setV a x d) := by
  obtain ⟨id, leaf, lb, at_, tx⟩ := d
  have h1' := Lib.hid h1
  have hw' := Lib.hid hw
  have hx' := Lib.hid hx
  have hd' := Lib.hid hd
  have hT' := Lib.hid hT
  have hlv' := Lib.hid (show liveI a (x : Int) = true by unfold liveI; simpa using hx)
  have hxl := hw.lt hx
  have hcap := h1.cap
  have hcm := h1.capm
  have hsm := h1.small
  have hks := h1.ksmall x
  have hxI : (x : Int) < (a.cnt : Int) := by omega
  have hal := Lib.hid (fun o => (Below.refl w.heap.size w).alloc (Nat.le_refl _) o)
  have hB0 := h1.below (hal.out (.cells #[.bool false, .int .u64 (id : Int), .bool leaf, .string ⟨lb.toArray⟩, .slice dA dn dc, .string ⟨tx.toArray⟩, .int .i64 0, .slice none 0 0] 35))
  obtain ⟨c0, -, -⟩ := hB0.head_cells
  obtain ⟨-, -, -, -, -, -, -, c7⟩ := hB0.eight hxl
  obtain ⟨m, hm⟩ : ∃ m, m = (a.kids x).length := ⟨_, rfl⟩
  have hm' := Lib.hid hm
  rw [← hm] at c7 hks
  obtain ⟨y0, y1, y2, y3, y4, y5, y6, y7, yf⟩ := eight_of (heap_alloc_new w (.cells #[.bool false, .int .u64 (id : Int), .bool leaf, .string ⟨lb.toArray⟩, .slice dA dn dc, .string ⟨tx.toArray⟩, .int .i64 0, .slice none 0 0] 35))
  have hC := Lib.hid (fun W (hb : Below w.heap.size w W) => rcopied_any W T false ⟨id, leaf, lb, at_, tx⟩ dA dn dc 0 none 0 0 (hd.kept (fun _ h => h) fun k hk => hb.block k (hT k hk)) fun k hk => Nat.lt_of_lt_of_le (hT k hk) hb.size)
  have hno : leaf = true → ((x : Int) == 0) = false ∧ m = 0 := by
    intro e
    subst e
    unfold setE at hE
    rw [hlv'.out] at hE
    simp at hE
    rw [hm, hE.2]
    simpa using hE.1
  clear h1 hw hd hT hB0 hE hx hm
  unfold plV sltV
  unfold sltV at hC
  dsimp only at hC ⊢
  cases leaf with
  | false =>
    clear hno
    go_enter Try.func36, Try.ntmps36
    go_wp2_with (first
      | (go_at_call 31; refine (rlive_any (h1'.out.below (hal.out _)) hw'.out (x : Int)).mono ?_; rintro e w7 ⟨rfl, rfl⟩; rw [hlv'.out])
      | (go_at_call 30; refine (hC.out _ (hal.out _)).mono ?_; rintro e w2 ⟨A, c, rfl, hdat, hb⟩; have hdat' := Lib.hid hdat; have hb' := Lib.hid ((hal.out _).trans (hb.mono (hal.out _).size)); clear hdat hb c0 c7 y0 y1 y2 y3 y4 y5 y6 y7 yf; have c0 := fun o => (h1'.out.below (hb'.out.alloc hb'.out.size o)).head_cells.1; have Z := fun o => (h1'.out.below (hb'.out.alloc hb'.out.size o)).eight hxl; have zf := fun o => (h1'.out.below (hb'.out.alloc hb'.out.size o)).frz; have z0 := fun o => (Z o).1; have z1 := fun o => (Z o).2.1; have z2 := fun o => (Z o).2.2.1; have z3 := fun o => (Z o).2.2.2.1; have z4 := fun o => (Z o).2.2.2.2.1; have z5 := fun o => (Z o).2.2.2.2.2.1; have z6 := fun o => (Z o).2.2.2.2.2.2.1; have z7 := fun o => (Z o).2.2.2.2.2.2.2; rw [← hm'.out] at z7; clear Z))
    rename_i K hK
    go_region
    refine hK _ _ ?_
    clear hK
    go_wp2_with fail
    go_ret
    have hfin := rset_fin h1'.out hxl hx'.out hb'.out (hdat'.out.kept (fun k hk => ⟨Nat.le_trans (hal.out _).size hk.1, hk.2⟩) fun _ _ => rfl) (.cells #[.bool true, .int .u64 (id : Int), .bool false, .string ⟨lb.toArray⟩, .slice A dn c, .string ⟨tx.toArray⟩, .int .i64 (a.par x), .slice (sv x).kA m (sv x).kc] 35)
    rw [← hm'.out] at hfin
    unfold eight at hfin
    exact ⟨rfl, hfin⟩
  | true =>
    obtain ⟨hx0, hm0⟩ := hno rfl
    subst hm0
    clear hno
    go_enter Try.func36, Try.ntmps36
    go_wp2_with (first
      | (go_at_call 31; refine (rlive_any (h1'.out.below (hal.out _)) hw'.out (x : Int)).mono ?_; rintro e w7 ⟨rfl, rfl⟩; rw [hlv'.out])
      | (go_at_call 30; refine (hC.out _ (hal.out _)).mono ?_; rintro e w2 ⟨A, c, rfl, hdat, hb⟩; have hdat' := Lib.hid hdat; have hb' := Lib.hid ((hal.out _).trans (hb.mono (hal.out _).size)); clear hdat hb c0 c7 y0 y1 y2 y3 y4 y5 y6 y7 yf; have c0 := fun o => (h1'.out.below (hb'.out.alloc hb'.out.size o)).head_cells.1; have Z := fun o => (h1'.out.below (hb'.out.alloc hb'.out.size o)).eight hxl; have zf := fun o => (h1'.out.below (hb'.out.alloc hb'.out.size o)).frz; have z0 := fun o => (Z o).1; have z1 := fun o => (Z o).2.1; have z2 := fun o => (Z o).2.2.1; have z3 := fun o => (Z o).2.2.2.1; have z4 := fun o => (Z o).2.2.2.2.1; have z5 := fun o => (Z o).2.2.2.2.2.1; have z6 := fun o => (Z o).2.2.2.2.2.2.1; have z7 := fun o => (Z o).2.2.2.2.2.2.2; rw [← hm'.out] at z7; clear Z))
    rename_i K hK
    go_region
    refine hK _ _ ?_
    clear hK
    go_wp2_with fail
    go_ret
    have hfin := rset_fin h1'.out hxl hx'.out hb'.out (hdat'.out.kept (fun k hk => ⟨Nat.le_trans (hal.out _).size hk.1, hk.2⟩) fun _ _ => rfl) (.cells #[.bool true, .int .u64 (id : Int), .bool true, .string ⟨lb.toArray⟩, .slice A dn c, .string ⟨tx.toArray⟩, .int .i64 (a.par x), .slice (sv x).kA 0 (sv x).kc] 35)
    rw [← hm'.out] at hfin
    unfold eight at hfin
    exact ⟨rfl, hfin⟩
theorem rset_any (h : RAr w ow P a) (hw : WF a) (s : Int) (T : Nat → Prop) (d : Dt) (dA : Option Addr) (dn dc : Nat) (hd : DatOk T w d dA dn dc) (hT : ∀ k, T k → k < w.heap.size) :
    Calls Try.prog 36 #[.pointer (some ⟨P, 0, none⟩), .int .i64 s, plV d dA dn dc] w fun e w' => e = .returned (.int .i64 (setE a s d.leaf)) ∧ RDid w w' ow P (setR a s d) := by
  have hD := Lib.hid (RDid.refl h)
  obtain ⟨g, sv, sc, fA, fc, h1⟩ := h
  by_cases hE : setE a s d.leaf = 0
  · obtain ⟨x, rfl, hx⟩ := setE_ok hE
    have hR : setR a (x : Int) d = setV a x d := by unfold setR; rw [if_pos hE]; rfl
    rw [hE, hR]
    exact rset_ok h1 hw hx T d dA dn dc hd hT hE
  · have hR := Lib.hid (show setR a s d = a by unfold setR; rw [if_neg hE])
    have hw' := Lib.hid hw
    have h1' := Lib.hid h1
    have hal := Lib.hid (fun o => (Below.refl w.heap.size w).alloc (Nat.le_refl _) o)
    obtain ⟨id, leaf, lb, at_, tx⟩ := d
    unfold plV sltV
    dsimp only at hE hR ⊢
    cases hlv : liveI a s with
    | false =>
      have hv := Lib.hid (show setE a s leaf = 5 by unfold setE; rw [hlv]; rfl)
      have hlv' := Lib.hid hlv
      clear h1 hw hlv hE hd
      go_enter Try.func36, Try.ntmps36
      go_wp2_with (go_at_call 31; refine (rlive_any (h1'.out.below (hal.out _)) hw'.out s).mono ?_; rintro e w7 ⟨rfl, rfl⟩; rw [hlv'.out])
      go_ret
      rw [hv.out, hR.out]
      exact ⟨rfl, hD.out.then_ (hal.out _)⟩
    | true =>
      obtain ⟨x, rfl, hx⟩ := liveI_nat hlv
      have hlv' := Lib.hid hlv
      have hcond : leaf = true ∧ ((x : Int) = 0 ∨ a.kids x ≠ []) := by
        unfold setE at hE
        rw [hlv, if_pos rfl] at hE
        by_cases hc : leaf = true ∧ ((x : Int) = 0 ∨ a.kids (x : Int).toNat ≠ [])
        · exact hc
        · rw [if_neg hc] at hE; exact absurd rfl hE
      have hv := Lib.hid (show setE a (x : Int) leaf = 83 by unfold setE; rw [hlv, if_pos rfl, Int.toNat_natCast, if_pos hcond])
      obtain ⟨rfl, hor⟩ := hcond
      have hxl := hw.lt hx
      have hcap := h1.cap
      have hcm := h1.capm
      have hsm := h1.small
      have hks := h1.ksmall x
      have hxI : (x : Int) < (a.cnt : Int) := by omega
      have hB0 := h1.below (hal.out (.cells #[.bool false, .int .u64 (id : Int), .bool true, .string ⟨lb.toArray⟩, .slice dA dn dc, .string ⟨tx.toArray⟩, .int .i64 0, .slice none 0 0] 35))
      obtain ⟨c0, -, -⟩ := hB0.head_cells
      obtain ⟨-, -, -, -, -, -, -, c7⟩ := hB0.eight hxl
      obtain ⟨m, hm⟩ : ∃ m, m = (a.kids x).length := ⟨_, rfl⟩
      rw [← hm] at c7 hks
      by_cases hx0 : x = 0
      · subst hx0
        have hlv0 := Lib.hid (show liveI a 0 = true from hlv'.out)
        clear hlv'
        clear h1 hw hlv hE hd hor hB0 hm hx
        go_enter Try.func36, Try.ntmps36
        go_wp2_with (go_at_call 31; refine (rlive_any (h1'.out.below (hal.out _)) hw'.out 0).mono ?_; rintro e w7 ⟨rfl, rfl⟩; rw [hlv0.out])
        go_ret
        rw [hv.out, hR.out]
        exact ⟨rfl, hD.out.then_ (hal.out _)⟩
      · have hx0I : ((x : Int) == 0) = false := by simpa using hx0
        have hmp : (0 : Int) < (m : Int) := by
          rcases hor with e | e
          · exact absurd e (by simpa using hx0)
          · have := List.length_pos_iff.2 e; omega
        clear h1 hw hlv hE hd hor hB0 hm hx
        go_enter Try.func36, Try.ntmps36
        go_wp2_with (go_at_call 31; refine (rlive_any (h1'.out.below (hal.out _)) hw'.out _).mono ?_; rintro e w7 ⟨rfl, rfl⟩; rw [hlv'.out])
        go_ret
        rw [hv.out, hR.out]
        exact ⟨rfl, hD.out.then_ (hal.out _)⟩
end
end Go.Proofs.Ytiikakfdelkjhaa.Arn
