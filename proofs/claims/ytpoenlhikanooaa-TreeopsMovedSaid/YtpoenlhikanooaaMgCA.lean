/- MgCA: TopAa TopMe -/
import Derived.Test.YtpoenlhikanooaaMgAL
import Derived.Test.YtpoenlhikanooaaTopFo
import Derived.Test.YtpoenlhikanooaaTopMd
set_option linter.all false
/- Lists of operations by value; how much a tree weighs behind one. -/
namespace Go.Proofs.Ytpoenlhikanooaa.Top
open Go.RowKit
set_option maxRecDepth 20000
set_option linter.unusedVariables false

/-- what an operation can add to a tree's weight -/
def costV (o : Ov) : Nat := 1 + o.label.length + o.key.length + o.value.length + P5.putsI o.pieces
theorem weighs_out {x : Nd} : ∀ {c : Nat} {l : List Nd}, l[c]? = some x → weighsV (delK c l) + weighV x = weighsV l := fun {c l} h => by
  have hd : l.drop c = x :: l.drop (c + 1) := by
    obtain ⟨h1, h2⟩ := List.getElem?_eq_some_iff.1 h
    rw [List.drop_eq_getElem_cons h1, h2]
  have h2 := congrArg weighsV (List.take_append_drop c l)
  rw [weighsV_append, hd] at h2
  have h3 : weighsV (x :: l.drop (c + 1)) = weighV x + weighsV (l.drop (c + 1)) := rfl
  unfold delK
  rw [weighsV_append]
  omega
theorem textN_weighs (y : Nd) (l : Txt) : weighV (textN y l) + y.text.length = weighV y + l.length := by cases y; simp only [textN, weighV, Nd.text]; omega
theorem weigh_after {t : Nd} {o : Ov} (hf : faultV t o = 0) : weighV (afterV t o) ≤ weighV t + costV o := by
  obtain ⟨hfm, hroot, x, hx, h1, h3, h6⟩ := fault_none hf
  have hmay := may_nat hfm
  have hc : costV o = 1 + o.label.length + o.key.length + o.value.length + P5.putsI o.pieces := rfl
  by_cases k1 : o.kind = 1
  · rw [show afterV t o = (putV t o.path (x.withKids (insK o.at_.toNat (.mk o.id o.leaf o.label [] [] []) x.kids))).getD Nd.zero by unfold afterV; rw [if_pos k1, mod_at hx]]
    obtain ⟨a, p1, -, -, -, p4⟩ := put_all o.path t (x.withKids (insK o.at_.toNat (.mk o.id o.leaf o.label [] [] []) x.kids)) x hx
    rw [p1]
    have e1 := weighV_with x (insK o.at_.toNat (.mk o.id o.leaf o.label [] [] []) x.kids)
    rw [weighs_ins] at e1
    have e2 : weighV (.mk o.id o.leaf o.label [] [] []) = 1 + o.label.length := by simp [weighV, attrsW, weighsV]
    simp only [Option.getD_some]
    omega
  · by_cases k2 : o.kind = 2
    · have hne : o.path ≠ [] := fun e => hroot ⟨.inl k2, e⟩
      obtain ⟨q, c, hq⟩ := path_last hne hmay
      have hx2 := hx
      rw [hq] at hx2
      obtain ⟨y, j, d1, d2, d3⟩ := at_parent q t x _ hx2
      obtain rfl : c = j := by omega
      obtain ⟨a, p1, -, -, -, p4⟩ := put_all q t (y.withKids (delK c y.kids)) y d1
      rw [show afterV t o = a by unfold afterV; rw [if_neg k1, if_pos k2, hq, delAt_snoc, mod_at d1, p1]; rfl]
      have e1 := weighV_with y (delK c y.kids)
      have e2 := weighs_out d3
      omega
    · by_cases k3 : o.kind = 3
      · have hne : o.path ≠ [] := fun e => hroot ⟨.inr k3, e⟩
        obtain ⟨q, c, hq⟩ := path_last hne hmay
        obtain ⟨hw, y, hy, hge⟩ := h3 k3
        have hfm3 := hfm
        unfold formedV at hfm3
        rw [if_neg k1, if_neg k2, if_pos k3] at hfm3
        simp only [Bool.and_eq_true] at hfm3
        obtain ⟨g, hg, hg1⟩ := gap_nat hfm3.2.1
        obtain ⟨m1, m2, y2, r, v1, v2, v3, v4, v5, v6, v7⟩ := move_value k3 hg hx hy hne hw (by have := (gap_none hge).2; omega)
        rw [v7]
        obtain ⟨a, p1, -, -, -, p4⟩ := put_all _ m2 (y2.withKids (insK (progTo o.path o.to_ g).2 x y2.kids)) y2 v4
        obtain rfl : r = a := Option.some.inj (v6.symm.trans p1)
        have e1 := weighV_with y2 (insK (progTo o.path o.to_ g).2 x y2.kids)
        rw [weighs_ins] at e1
        have hx2 := hx
        rw [hq] at hx2
        obtain ⟨y3, j, d1, d2, d3⟩ := at_parent q t x _ hx2
        obtain rfl : c = j := by omega
        obtain ⟨b, p6, -, -, -, p7⟩ := put_all q t (y3.withKids (delK c y3.kids)) y3 d1
        rw [hq, delAt_snoc, mod_at d1] at v3
        obtain rfl : b = m2 := Option.some.inj (p6.symm.trans v3)
        have e2 := weighV_with y3 (delK c y3.kids)
        have e3 := weighs_out d3
        omega
      · have hfin : ∀ z : Nd, weighV z ≤ weighV x + costV o → weighV ((putV t o.path z).getD Nd.zero) ≤ weighV t + costV o := fun z e => by
          obtain ⟨a, p1, -, -, -, p4⟩ := put_all o.path t z x hx
          rw [p1]
          simp only [Option.getD_some]
          omega
        by_cases k4 : o.kind = 4
        · rw [show afterV t o = (putV t o.path (attN x (docA o.key o.value x.attrs o.gone))).getD Nd.zero by unfold afterV; rw [if_neg k1, if_neg k2, if_neg k3, if_pos k4, hx]; rfl]
          have e1 := attN_weigh x (docA o.key o.value x.attrs o.gone)
          have e2 := doc_weigh o.key o.value x.attrs o.gone
          refine hfin _ ?_
          split at e2 <;> omega
        · by_cases k5 : o.kind = 5
          · rw [show afterV t o = (putV t o.path (labN x o.label)).getD Nd.zero by unfold afterV; rw [if_neg k1, if_neg k2, if_neg k3, if_neg k4, if_pos k5, hx]; rfl]
            have e1 := labN_weigh x o.label
            exact hfin _ (by omega)
          · rw [show afterV t o = (putV t o.path (textN x (Ltx.apply x.text (pcs o.pieces)))).getD Nd.zero by unfold afterV; rw [if_neg k1, if_neg k2, if_neg k3, if_neg k4, if_neg k5, hx]; rfl]
            have e1 := textN_weighs x (Ltx.apply x.text (pcs o.pieces))
            have e2 := Ltx.apply_len (pcs o.pieces) x.text
            have e3 := puts_pcs o.pieces
            exact hfin _ (by omega)
/-- an operation in a row: its eleven cells -/
def Elev (w : World) (E : Addr) (o : Ov) (s : OS) : Prop :=
  w.cell? E = some (.int .u8 (o.kind : Int)) ∧ w.cell? ⟨E.block, E.off + 1, none⟩ = some (.slice s.pA s.pn s.pc) ∧ w.cell? ⟨E.block, E.off + 2, none⟩ = some (.int .i64 o.at_) ∧ w.cell? ⟨E.block, E.off + 3, none⟩ = some (.slice s.tA s.tn s.tc) ∧ w.cell? ⟨E.block, E.off + 4, none⟩ = some (.int .u64 (o.id : Int)) ∧
    w.cell? ⟨E.block, E.off + 5, none⟩ = some (.bool o.leaf) ∧ w.cell? ⟨E.block, E.off + 6, none⟩ = some (.string ⟨o.label.toArray⟩) ∧ w.cell? ⟨E.block, E.off + 7, none⟩ = some (.string ⟨o.key.toArray⟩) ∧ w.cell? ⟨E.block, E.off + 8, none⟩ = some (.string ⟨o.value.toArray⟩) ∧ w.cell? ⟨E.block, E.off + 9, none⟩ = some (.bool o.gone) ∧ w.cell? ⟨E.block, E.off + 10, none⟩ = some (.slice s.qA s.qn s.qc)
theorem Elev.kept {w w' : World} {E : Addr} {o : Ov} {s : OS} (h : Elev w E o s) (hb : w'.heap[E.block]? = w.heap[E.block]?) : Elev w' E o s := by
  obtain ⟨h0, h1, h2, h3, h4, h5, h6, h7, h8, h9, h10⟩ := h
  have c : ∀ o, w'.cell? ⟨E.block, o, none⟩ = w.cell? ⟨E.block, o, none⟩ := fun o => World.cell?_of_block (w := w) (w' := w') (a := ⟨E.block, o, none⟩) hb
  exact ⟨(World.cell?_of_block (w := w) (w' := w') (a := E) hb).trans h0, (c _).trans h1, (c _).trans h2, (c _).trans h3, (c _).trans h4, (c _).trans h5, (c _).trans h6, (c _).trans h7, (c _).trans h8, (c _).trans h9, (c _).trans h10⟩
/-- a row of operations at hand -/
def OpsAt (w : World) (A : Option Addr) (n : Nat) (l : List (Ov × OS)) : Prop :=
  l.length = n ∧ ∀ q x, l[q]? = some x → OpRaw w x.1 x.2 ∧ ∃ ad, A = some ad ∧ ad.block < w.heap.size ∧ Elev w (ad.add (q * 11)) x.1 x.2
theorem OpsAt.below {w w' : World} {A : Option Addr} {n : Nat} {l : List (Ov × OS)} (h : OpsAt w A n l) (hb : Below w.heap.size w w') : OpsAt w' A n l :=
  ⟨h.1, fun q x hx => by
    obtain ⟨h1, ad, e, hlt, hc⟩ := h.2 q x hx
    have hk : (ad.add (q * 11)).block = ad.block := by unfold Addr.add; split <;> rfl
    exact ⟨h1.below hb, ad, e, Nat.lt_of_lt_of_le hlt hb.size, hc.kept (by rw [hk]; exact hb.block _ hlt)⟩⟩
theorem OpsAt.at_ {w : World} {A : Option Addr} {n q : Nat} {l : List (Ov × OS)} (h : OpsAt w A n l) (hq : q < n) : ∃ ad o s, A = some ad ∧ l[q]? = some (o, s) ∧ ad.block < w.heap.size ∧ OpRaw w o s ∧ Elev w (ad.add (q * 11)) o s := by
  have hl : q < l.length := by rw [h.1]; exact hq
  obtain ⟨h1, ad, e, hlt, hc⟩ := h.2 q _ (List.getElem?_eq_getElem hl)
  exact ⟨ad, _, _, e, List.getElem?_eq_getElem hl, hlt, h1, hc⟩
end Go.Proofs.Ytpoenlhikanooaa.Top
/- The law: a moved node is a child of its target. -/
namespace Go.Proofs.Ytpoenlhikanooaa.Top
open Go.RowKit
set_option maxRecDepth 20000
set_option linter.unusedVariables false

def mvO (from_ to_ : List Int) (i : Int) : Ov := ⟨3, from_, i, to_, 0, false, [], [], [], false, []⟩
theorem mv_in {W : World} {A1 A2 : Option Addr} {n1 c1 n2 c2 : Nat} {f t : List Int} {i : Int} (h1 : Its W A1 n1 f) (h2 : n1 ≤ c1) (h3 : c1 ≤ maxLen) (h4 : Fit f) (h5 : A1 = none → c1 = 0) (k1 : Its W A2 n2 t) (k2 : n2 ≤ c2) (k3 : c2 ≤ maxLen) (k4 : Fit t) (k5 : A2 = none → c2 = 0) (hi : (Lit.int .i64 i).wf = true) (m1 : n1 ≤ 500000) (m2 : n2 ≤ 500000) : OpIn W (mvO f t i) ⟨A1, n1, c1, A2, n2, c2, none, 0, 0⟩ := by
  have hi2 : -9223372036854775808 ≤ i ∧ i ≤ 9223372036854775807 := by simpa [Lit.wf, IntKind.min, IntKind.max, IntKind.signed, IntKind.bits] using hi
  exact ⟨show 3 < 256 by decide, h1, h2, h3, h5, hi2, k1, k2, k3, k5, show 0 < 18446744073709551616 by decide, Nat.zero_le _, Nat.zero_le _, Nat.zero_le _, P5.PcsIn.nil W, Nat.le_refl _, Nat.zero_le _, fun _ => rfl, m1, m2, Nat.zero_le _, h4, k4⟩
theorem mv_slim (f t : List Int) (i : Int) : Slim (mvO f t i) := ⟨Nat.zero_le _, Nat.zero_le _, Nat.zero_le _, Nat.zero_le _⟩
/-- is the moved node among a row of children? -/
def goodV (x : Nd) (yid : Nat) (z : Nd) : Prop := z.id = yid ∧ x ∈ z.kids
theorem moved_found' {t x y : Nd} {o : Ov} (hf : faultV t o = 0) (hk : o.kind = 3) (hb : countV t ≤ 1000000) (hx : atV t o.path = some x) (hy : atV t o.to_ = some y) : ∃ q z, q ∈ pathsV (afterV t o) ∧ atV (afterV t o) q = some z ∧ z.id = y.id ∧ x ∈ z.kids := Shf.moved_found hf hk hb hx hy
theorem _root_.Go.Proofs.Ytpoenlhikanooaa.Shf.path_last' {p : List Int} (h : p ≠ []) (hm : P4.mayV p = true) : ∃ q, ∃ c : Nat, p = q ++ [(c : Int)] := path_last h hm
theorem moved_weigh {t : Nd} {f to_ : List Int} {i : Int} (hf : faultV t (mvO f to_ i) = 0) (hb : weighV t ≤ 600) : weighV (afterV t (mvO f to_ i)) ≤ 601 := by
  have h1 := weigh_after hf
  have h2 : costV (mvO f to_ i) = 1 := rfl
  omega
theorem end_six {w w1 : World} {r : Nat} {ty : TypeId} {x : Nd} {aA kA : Option Addr} {an ac kn kc : Nat} {a0 a1 a2 a3 a4 a5 : Value} (hw : w.heap.size ≤ r) (hb : Below w.heap.size w w1) (hr : w1.heap[r]? = some (.cells #[a0, a1, a2, a3, a4, a5] ty (0, 0))) :
    ∃ W9, W9 = ((((((w1.setCell ⟨r, 0, none⟩ (.int .u64 (x.id : Int))).setCell ⟨r, 1, none⟩ (.bool x.leaf)).setCell ⟨r, 2, none⟩ (.string ⟨x.label.toArray⟩)).setCell ⟨r, 3, none⟩ (.slice aA an ac)).setCell ⟨r, 4, none⟩ (.string ⟨x.text.toArray⟩)).setCell ⟨r, 5, none⟩ (.slice kA kn kc)) ∧
      W9.heap[r]? = some (.cells (val6 x aA an ac kA kn kc) ty (0, 0)) ∧ Below w.heap.size w W9 ∧ ((∀ k, k ≠ r → W9.heap[k]? = w1.heap[k]?) ∧ w1.heap.size ≤ W9.heap.size) :=
  ⟨_, rfl, set_six hr, below_six hb hw, fun k hk => set_six_other hk, by simp only [World.size_setCell]; exact Nat.le_refl _⟩
theorem countsV_kid {z kd : Nd} {r : Nat} (h : z.kids[r]? = some kd) : countV kd ≤ countV z := by
  have e := (at_count [(r : Int)] z kd (by simp [atV, h])).1
  exact e
theorem kid_small {t x : Nd} {q : List Int} {d : Nat} (h : atV t (q ++ [(d : Int)]) = some x) : d ≤ countV t := by
  rw [Shf.at_append] at h
  cases hy : atV t q with
  | none => rw [hy] at h; cases h
  | some y =>
    rw [hy] at h
    obtain ⟨j, k, e1, e2, -⟩ := atV_cons (show atV y ((d : Int) :: []) = some x from h)
    have e3 := (List.getElem?_eq_some_iff.1 e2).1
    have e4 := kids_le y
    have e5 := (at_count q t y hy).1
    omega
set_option maxHeartbeats 32000000 in
theorem lawMoved_any (w : World) (t : Nd) (aA kA : Option Addr) (an ac kn kc : Nat) (A1 : Option Addr) (n1 c1 : Nat) (f : List Int) (A2 : Option Addr) (n2 c2 : Nat) (to_ : List Int) (i : Int) (h : NodeV (Old w) w aA an ac kA kn kc t) (h1 : Its w A1 n1 f) (h2 : n1 ≤ c1) (h3 : c1 ≤ maxLen) (h4 : Fit f) (h5 : A1 = none → c1 = 0) (k1 : Its w A2 n2 to_) (k2 : n2 ≤ c2) (k3 : c2 ≤ maxLen) (k4 : Fit to_) (k5 : A2 = none → c2 = 0) (hi : (Lit.int .i64 i).wf = true) :
    Calls Try.prog 7 #[.agg (val6 t aA an ac kA kn kc), .slice A1 n1 c1, .slice A2 n2 c2, .int .i64 i] w fun e w' => e = .returned (.bool true) ∧ Below w.heap.size w w' := by
  obtain ⟨W2, hW2⟩ : ∃ W2, W2 = w.alloc (.cells (val6 t aA an ac kA kn kc) 42) := ⟨_, rfl⟩
  have z1 := Lib.hid (show W2.heap[w.heap.size]? = some (.cells (val6 t aA an ac kA kn kc) 42 (0, 0)) by rw [hW2]; exact heap_alloc_new w _)
  have z4' := Lib.hid (show Below w.heap.size w W2 by rw [hW2]; exact (Below.refl _ _).alloc (Nat.le_refl _) _)
  have z5 := Lib.hid (show W2.heap.size = w.heap.size + 1 by rw [hW2]; simp)
  have hN := Lib.hid (fun (W : World) (hb : Below w.heap.size w W) => h.below hb)
  have hI1 := Lib.hid (fun (W : World) (hb : Below w.heap.size w W) => h1.below hb)
  have hI2 := Lib.hid (fun (W : World) (hb : Below w.heap.size w W) => k1.below hb)
  have hwt := Lib.hid (weight_any t W2 aA kA an ac kn kc 600 (hN.out W2 z4'.out) (by decide))
  have hop := Lib.hid (fun (m1 : n1 ≤ 100) (m2 : n2 ≤ 100) (W : World) (hb : Below w.heap.size w W) => mv_in (i := i) (hI1.out W hb) h2 h3 h4 h5 (hI2.out W hb) k2 k3 k4 k5 hi (by omega) (by omega))
  have hc1 := Lib.hid (show n1 ≤ maxLen ∧ n2 ≤ maxLen from ⟨Nat.le_trans h2 h3, Nat.le_trans k2 k3⟩)
  have hlf := Lib.hid h1.1
  have hlt := Lib.hid k1.1
  have z1u := z1.out
  unfold val6 at z1u
  obtain ⟨p0, p1, p2, p3, p4, p5, pf⟩ := six_cells z1u
  rw [hW2] at p0 p1 p2 p3 p4 p5 pf
  unfold val6 at hW2 hwt
  unfold val6
  clear h h1 h4 h5 k1 k4 k5 hi z1u
  unfold maxLen at h3 k3
  go_enter Try.func7, Try.ntmps7
  go_wp2_with fail
  rw [← hW2]
  refine hwt.out.mono ?_
  rintro e w1 ⟨x0, rfl, hx3, hx0, hb1⟩
  have B1 := Lib.hid (z4'.out.trans (hb1.mono z4'.out.size))
  have Y1 := Lib.hid ((hb1.block w.heap.size (by have := z5.out; omega)).trans z1.out)
  clear hb1 p0 p1 p2 p3 p4 p5 pf hW2 hwt
  have y1 := Y1.out
  unfold val6 at y1
  obtain ⟨p0, p1, p2, p3, p4, p5, pf⟩ := six_cells y1
  clear y1
  by_cases g1 : x0 ≤ 600
  · have g1I : ¬ (600 : Int) < (x0 : Int) := by omega
    by_cases g2 : n1 ≤ 100
    · have g2I : ¬ (100 : Int) < (n1 : Int) := by omega
      by_cases g3 : n2 ≤ 100
      · have g3I : ¬ (100 : Int) < (n2 : Int) := by omega
        have hwe := Lib.hid (show weighV t ≤ 600 by have := hx0 g1; omega)
        have hop1 := Lib.hid (hop.out g2 g3)
        clear hop hx0 hx3
        go_upto_region 4 with fail
        obtain ⟨X1, hX1⟩ : ∃ Q9, Q9 = w1.alloc (.cells (opCells (mvO f to_ i) ⟨A1, n1, c1, A2, n2, c2, none, 0, 0⟩) 26) := ⟨_, rfl⟩
        have hX1' : X1 = w1.alloc (.cells #[.int .u8 3, .slice A1 n1 c1, .int .i64 i, .slice A2 n2 c2, .int .u64 0, .bool false, .string ⟨#[]⟩, .string ⟨#[]⟩, .string ⟨#[]⟩, .bool false, .slice none 0 0] 26) := hX1
        rw [← hX1']
        have r1 : X1.heap[w1.heap.size]? = some (.cells (opCells (mvO f to_ i) ⟨A1, n1, c1, A2, n2, c2, none, 0, 0⟩) 26 (0, 0)) := by rw [hX1]; exact heap_alloc_new w1 _
        have bX1 : Below w1.heap.size w1 X1 := by rw [hX1]; exact (Below.refl _ _).alloc (Nat.le_refl _) _
        have B2 := Lib.hid (B1.out.trans (bX1.mono B1.out.size))
        have Y2 := Lib.hid ((bX1.block _ (Array.getElem?_eq_some_iff.1 Y1.out).1).trans Y1.out)
        clear hX1 hX1' p0 p1 p2 p3 p4 p5 pf bX1
        obtain ⟨o0, o1, o2, o3, o4, o5, o6, o7, o8, o9, o10⟩ := op_cells r1
        dsimp only [mvO] at o0 o1 o2 o3 o4 o5 o6 o7 o8 o9 o10
        have y1 := Y2.out
        unfold val6 at y1
        obtain ⟨p0, p1, p2, p3, p4, p5, pf⟩ := six_cells y1
        clear y1 r1
        have hap := Lib.hid (apply_any X1 t aA kA an ac kn kc (hN.out X1 B2.out) (mvO f to_ i) ⟨A1, n1, c1, A2, n2, c2, none, 0, 0⟩ (hop1.out X1 B2.out) (mv_slim f to_ i) (by have := hwe.out; omega))
        obtain ⟨vv, hvv⟩ : ∃ vv, vv = validV t (mvO f to_ i) := ⟨_, rfl⟩
        obtain ⟨m, hm⟩ : ∃ m, m = applyV t (mvO f to_ i) := ⟨_, rfl⟩
        rw [← hvv, ← hm] at hap
        have hvv' := Lib.hid hvv
        have hm' := Lib.hid hm
        clear hvv hm
        unfold AppA val6 opCells at hap
        dsimp only [mvO] at hap
        go_upto_region 5 with (go_at_call 34; go_loud (refine hap.out.mono ?_; rintro e w3 ⟨mA, mn, mc, mK, mk, md, rfl, hn3, hb3⟩; clear o0 o1 o2 o3 o4 o5 o6 o7 o8 o9 o10 p0 p1 p2 p3 p4 p5 pf))
        obtain ⟨X3, hX3⟩ : ∃ Q9, Q9 = w3.alloc (.cells (val6 m mA mn mc mK mk md) 42) := ⟨_, rfl⟩
        have m0 := Lib.hid (show X3.heap[w3.heap.size]? = some (.cells (val6 m mA mn mc mK mk md) 42 (0, 0)) by rw [hX3]; exact heap_alloc_new w3 _)
        have hM0 := hn3.kept (fun k hk => show Old w3 k by
          rcases hk with hk | hk
          · exact Nat.lt_of_lt_of_le hk hb3.size
          · exact hk.2) (fun _ _ => rfl)
        have bX3 := Lib.hid (show Below X1.heap.size X1 X3 by rw [hX3]; exact hb3.alloc hb3.size _)
        have B3 := Lib.hid (B2.out.trans (bX3.out.mono B2.out.size))
        have hM := Lib.hid (fun (W : World) (hb : Below X3.heap.size X3 W) => show NodeV (Old W) W mA mn mc mK mk md m from (show NodeV (Old X3) X3 mA mn mc mK mk md m by rw [hX3]; exact hM0.below ((Below.refl _ _).alloc (Nat.le_refl _) _)).below hb)
        have hs3 : w3.heap.size < X3.heap.size := by rw [hX3]; simp
        unfold val6 at hX3
        rw [← hX3]
        clear hX3 hn3 hM0 hb3 hap
        obtain ⟨b3, hbe⟩ : ∃ b, b = w3.heap.size := ⟨_, rfl⟩
        rw [← hbe] at m0 hs3 ⊢
        clear hbe
        have Y3 := Lib.hid ((bX3.out.block _ (Array.getElem?_eq_some_iff.1 Y2.out).1).trans Y2.out)
        by_cases hv0 : vv = 0
        · subst hv0
          obtain ⟨hright, hft⟩ := valid_zero hvv'.out.symm
          have hma : m = afterV t (mvO f to_ i) := by have h := hm'.out; unfold applyV at h; rw [if_pos hvv'.out.symm] at h; exact h
          obtain ⟨ff1, ff2, x, hx, -, ff5, -⟩ := fault_none hft
          obtain ⟨hwi, y, hy, -⟩ := ff5 rfl
          have hcount : countV t ≤ 600 := by have := hwe.out; have := count_le t; omega
          have hfound := moved_found' hft rfl (by omega) hx hy
          rw [← hma] at hfound
          have hfd := Lib.hid hfound
          have hsz : countV m = countV t := by have := size_after hft; rw [← hma] at this; simpa [mvO] using this
          have hsz' := Lib.hid hsz
          obtain ⟨qf, df, hqf⟩ := Shf.path_last' (fun e => ff2 ⟨.inr rfl, e⟩) (may_nat ff1)
          have hqf' := Lib.hid (show f = qf ++ [(df : Int)] from hqf)
          have hst := Lib.hid (fun (hs : Sim.staysV (mvO f to_ i) = true) => show m = t by rw [hma]; exact stay_after rfl hft hs)
          have hwm := Lib.hid (show countV m ≤ 600 ∧ weighV m ≤ 601 from ⟨by omega, by rw [hma]; exact moved_weigh hft (by have := hwe.out; omega)⟩)
          have hx' := Lib.hid (show atV t f = some x from hx)
          have hy' := Lib.hid (show atV t to_ = some y from hy)
          clear hvv' hm' hright hft hma ff1 ff2 hx ff5 hwi hy hfound hsz hqf
          have y3 := Y3.out
          unfold val6 at y3
          obtain ⟨p0, p1, p2, p3, p4, p5, pf⟩ := six_cells y3
          clear y3
          have ha1 := Lib.hid (at_any X3 t aA kA an ac kn kc (hN.out X3 B3.out) A1 n1 c1 f (hI1.out X3 B3.out) hc1.out.1 (by have := hwe.out; omega))
          unfold Go.Proofs.Ytpoenlhikanooaa.AtAns at ha1
          rw [hx'.out] at ha1
          dsimp only [Option.getD_some, Option.isSome_some] at ha1
          unfold val6 at ha1
          go_upto_region 8 with (go_at_call 35; go_loud (refine ha1.out.mono ?_; rintro e w4 ⟨xA, xn, xc, xK, xk, xd, rfl, hx4, hb4⟩; clear p0 p1 p2 p3 p4 p5 pf))
          obtain ⟨X4, hX4⟩ : ∃ Q9, Q9 = w4.alloc (.cells (val6 x xA xn xc xK xk xd) 42) := ⟨_, rfl⟩
          have m4 := Lib.hid (show X4.heap[w4.heap.size]? = some (.cells (val6 x xA xn xc xK xk xd) 42 (0, 0)) by rw [hX4]; exact heap_alloc_new w4 _)
          have bX4 := Lib.hid (show Below X3.heap.size X3 X4 by rw [hX4]; exact hb4.alloc hb4.size _)
          have hX := Lib.hid (fun (W : World) (hb : Below X4.heap.size X4 W) => show NodeV (Old W) W xA xn xc xK xk xd x from (show NodeV (Old X4) X4 xA xn xc xK xk xd x by rw [hX4]; exact hx4.below ((Below.refl _ _).alloc (Nat.le_refl _) _)).below hb)
          unfold val6 at hX4
          rw [← hX4]
          clear hX4 hx4 hb4 ha1
          obtain ⟨b4, hbe⟩ : ∃ b, b = w4.heap.size := ⟨_, rfl⟩
          rw [← hbe] at m4 ⊢
          clear hbe
          have B4 := Lib.hid (B3.out.trans (bX4.out.mono B3.out.size))
          have Y4 := Lib.hid ((bX4.out.block _ (Array.getElem?_eq_some_iff.1 Y3.out).1).trans Y3.out)
          have y4 := Y4.out
          unfold val6 at y4
          obtain ⟨p0, p1, p2, p3, p4, p5, pf⟩ := six_cells y4
          clear y4
          have ha2 := Lib.hid (at_any X4 t aA kA an ac kn kc (hN.out X4 B4.out) A2 n2 c2 to_ (hI2.out X4 B4.out) hc1.out.2 (by have := hwe.out; omega))
          unfold Go.Proofs.Ytpoenlhikanooaa.AtAns at ha2
          rw [hy'.out] at ha2
          dsimp only [Option.getD_some, Option.isSome_some] at ha2
          unfold val6 at ha2
          go_upto_region 9 with (go_at_call 35; go_loud (refine ha2.out.mono ?_; rintro e w5 ⟨yA, yn, yc, yK, yk, yd, rfl, hy5, hb5⟩; clear p0 p1 p2 p3 p4 p5 pf))
          obtain ⟨X5, hX5⟩ : ∃ Q9, Q9 = w5.alloc (.cells (val6 y yA yn yc yK yk yd) 42) := ⟨_, rfl⟩
          have m5 := Lib.hid (show X5.heap[w5.heap.size]? = some (.cells (val6 y yA yn yc yK yk yd) 42 (0, 0)) by rw [hX5]; exact heap_alloc_new w5 _)
          have bX5 := Lib.hid (show Below X4.heap.size X4 X5 by rw [hX5]; exact hb5.alloc hb5.size _)
          unfold val6 at hX5
          rw [← hX5]
          clear hX5 hy5 hb5 ha2
          obtain ⟨b5, hbe⟩ : ∃ b, b = w5.heap.size := ⟨_, rfl⟩
          rw [← hbe] at m5 ⊢
          clear hbe
          have b35 := Lib.hid (bX4.out.trans (bX5.out.mono bX4.out.size))
          have B5 := Lib.hid (B3.out.trans (b35.out.mono B3.out.size))
          have Y5 := Lib.hid ((bX5.out.block _ (Array.getElem?_eq_some_iff.1 Y4.out).1).trans Y4.out)
          have M5 := Lib.hid ((b35.out.block _ (Array.getElem?_eq_some_iff.1 m0.out).1).trans m0.out)
          have N5 := Lib.hid ((bX5.out.block _ (Array.getElem?_eq_some_iff.1 m4.out).1).trans m4.out)
          have mm := M5.out
          unfold val6 at mm
          obtain ⟨q0, q1, q2, q3, q4, q5, qf_⟩ := six_cells mm
          clear mm
          have hpa := Lib.hid (paths_any m X5 mA mK mn mc mk md (hM.out X5 b35.out) (by have := hwm.out.2; omega))
          unfold val6 at hpa
          go_upto_region 11 with (go_at_call 27; go_loud (refine hpa.out.mono ?_; rintro e w6 ⟨v6, L, rfl, ho6, hL6, hb6⟩; obtain ⟨gA, gn, gc, rfl, hg1, hg2, hg3, hg4, hg5⟩ := ho6.shape; have G1 := Lib.hid hg1; have AT := Lib.hid hg5; have OW := Lib.hid ho6; have E6 := Lib.hid hb6; have L6 := Lib.hid hL6; clear q0 q1 q2 q3 q4 q5 qf_ hb6 ho6 hL6 hg5 hg1))
          have b36 := Lib.hid (b35.out.trans (E6.out.mono b35.out.size))
          have b46 := Lib.hid (bX5.out.trans (E6.out.mono bX5.out.size))
          have hR := Lib.hid (fun (W : World) (hb : Below w6.heap.size w6 W) => show W.heap[w.heap.size]? = some (.cells (val6 t aA an ac kA kn kc) 42 (0, 0)) ∧ W.heap[b3]? = some (.cells (val6 m mA mn mc mK mk md) 42 (0, 0)) ∧ W.heap[b4]? = some (.cells (val6 x xA xn xc xK xk xd) 42 (0, 0)) ∧ W.heap[b5]? = some (.cells (val6 y yA yn yc yK yk yd) 42 (0, 0)) from
            ⟨((E6.out.trans (hb.mono E6.out.size)).block _ (Array.getElem?_eq_some_iff.1 Y5.out).1).trans Y5.out, ((E6.out.trans (hb.mono E6.out.size)).block _ (Array.getElem?_eq_some_iff.1 M5.out).1).trans M5.out, ((E6.out.trans (hb.mono E6.out.size)).block _ (Array.getElem?_eq_some_iff.1 N5.out).1).trans N5.out, ((E6.out.trans (hb.mono E6.out.size)).block _ (Array.getElem?_eq_some_iff.1 m5.out).1).trans m5.out⟩)
          have B6 := Lib.hid (B5.out.trans (E6.out.mono B5.out.size))
          have hMW := Lib.hid (fun (W : World) (hb : Below w6.heap.size w6 W) => hM.out W (b36.out.trans (hb.mono b36.out.size)))
          have hXW := Lib.hid (fun (W : World) (hb : Below w6.heap.size w6 W) => hX.out W (b46.out.trans (hb.mono b46.out.size)))
          have hln := Lib.hid (show gn = (pathsV m).length ∧ gn ≤ 600 by
            have e1 : L.length = (pathsV m).length := by rw [← L6.out, List.length_map]
            have e3 := G1.out
            have e2 := paths_count m
            have := hwm.out.1
            exact ⟨by omega, by omega⟩)
          unfold maxLen at hg3
          clear hpa hM hX m0 m4 m5 Y1 Y2 Y3 Y4 Y5 M5 N5 bX3 bX4 bX5 b35 b36 b46 B1 B2 B3 B4 B5 z1 z4' z5 hs3
          go_wp2_with fail
          go_loopw [17, 18] (fun v17 v18 wr => ∃ q fd : Nat, q ≤ gn ∧ v18 = .int .i64 (q : Int) ∧ v17 = .int .i64 (fd : Int) ∧ fd ≤ q * 600 ∧ Below w6.heap.size w6 wr ∧ (∀ j, j < q → ∀ P, (pathsV m)[j]? = some P → goodV x y.id ((atV m P).getD Nd.zero) → 1 ≤ fd)) (fun _ v18 _ => gn - (intOf v18).toNat)
          case atStart => exact ⟨0, 0, Nat.zero_le _, rfl, rfl, Nat.zero_le _, Below.refl _ _, fun j hj => by omega⟩
          case round =>
            obtain ⟨q, fd, hq, rfl, rfl, hfb, hwr, hall⟩ := hrel
            have hwr' := Lib.hid hwr
            have hall' := Lib.hid hall
            clear hwr hall
            by_cases hqn : q < gn
            · have hqI : (q : Int) < (gn : Int) := by omega
              have e0 : (0 : Int) ≤ (q : Int) := by omega
              obtain ⟨el, hel⟩ : ∃ el, L[q]? = some el := by
                have e1 : L.length = (pathsV m).length := by rw [← L6.out, List.length_map]
                have := hln.out.1
                exact ⟨_, List.getElem?_eq_getElem (by omega)⟩
              obtain ⟨gp, rfl, hgp1, hgp2, hgp3⟩ := AT.out q el hel
              have hPq : (pathsV m)[q]? = some el.2 := by rw [← L6.out, List.getElem?_map, hel]; rfl
              obtain ⟨pA, pn, pc, hpe, hp1, hp2, hp3, hp4, hp5⟩ := (OW.out.own el (List.mem_of_getElem? hel)).shape
              rw [hpe] at hgp3
              have hcW := Lib.hid (fun (W : World) (hb : Below w6.heap.size w6 W) => show W.cell? ⟨gp, q, none⟩ = some (.slice pA pn pc) from (hb.cell (p := ⟨gp, q, none⟩) hgp2).trans hgp3)
              obtain ⟨PP, hPP⟩ : ∃ P, P = el.2 := ⟨_, rfl⟩
              rw [← hPP] at hp4 hPq
              have hPq' := Lib.hid hPq
              have hpm := Lib.hid (Nat.le_trans hp2 hp3)
              obtain ⟨z, hz0⟩ : ∃ z, z = (atV m PP).getD Nd.zero := ⟨_, rfl⟩
              have hat := Lib.hid (fun (W : World) (hb : Below w6.heap.size w6 W) => at_T (Old w6) W (fun k hk => Nat.lt_of_lt_of_le hk hb.size) m mA mK mn mc mk md ((hMW.out w6 (Below.refl _ _)).kept (fun _ hk => hk) (fun k hk => hb.block k hk)) pA pn pc PP ((show Its w6 pA pn PP from hp4).below hb) hpm.out (by have := hwm.out.2; omega))
              unfold Top.AtAns at hat
              simp only [← hz0] at hat
              unfold val6 at hat
              have hz0' := Lib.hid hz0
              have hadd : (⟨gp, 0, none⟩ : Addr).add q = ⟨gp, q, none⟩ := add_zero_off gp q
              clear hel hPq hpe hp1 hp2 hp3 hp4 hp5 hPP hgp1 hgp2 hgp3 hz0
              go_upto_region 14 with fail
              go_cut [19, 20] from 65 to 106 (fun v19 v20 wc => ∃ (g : Nat) (u : Value) (zA : Option Addr) (zn zc : Nat) (zK : Option Addr) (zk zd : Nat), v19 = .pointer (some ⟨g, 0, none⟩) ∧ v20 = u ∧ wc.heap[g]? = some (.cells (val6 z zA zn zc zK zk zd) 42 (0, 0)) ∧ NodeV (Old wc) wc zA zn zc zK zk zd z ∧ Below wr.heap.size wr wc)
              case first =>
                rename_i K0 hK0
                refine Top.wp_region_L (fun W => Below wr.heap.size wr W) 11 rfl ((Below.refl wr.heap.size wr).drew) (fun hHeld => ?_)
                refine Top.wpAnyL_take (i := 0) (oi := { dst := some 72, op := Go.Op.load 42 (Go.Operand.tmp 10), type := 42, pos := "law.go:140", after := #[], guard := none }) (v := ?_) rfl (by kernel_rfl) (by kernel_rfl) (by kernel_rfl) (by kernel_rfl) (fun _ _ _ h => h) (Or.inl ⟨by rfl, ?_⟩) hHeld ?_
                rotate_left 1
                · intro W hSw; obtain ⟨r1, r2, r3, r4⟩ := hR.out W (hwr'.out.trans (hSw.mono hwr'.out.size)); unfold val6 at r2; obtain ⟨q0, q1, q2, q3, q4, q5, qz⟩ := six_cells r2; have hcp := hcW.out W (hwr'.out.trans (hSw.mono hwr'.out.size)); go_simp; try with_reducible rfl
                try simp only [Act.put, List.setIfInBounds_toArray, List.set_cons_zero, List.set_cons_succ]
                refine Top.wpAnyL_take (i := 1) (oi := { dst := some 73, op := Go.Op.move (Go.Operand.tmp 16), type := 49, pos := "law.go:140", after := #[], guard := none }) (v := ?_) rfl (by kernel_rfl) (by kernel_rfl) (by kernel_rfl) (by kernel_rfl) (fun _ _ _ h => h) (Or.inl ⟨by rfl, ?_⟩) hHeld ?_
                rotate_left 1
                · intro W hSw; obtain ⟨r1, r2, r3, r4⟩ := hR.out W (hwr'.out.trans (hSw.mono hwr'.out.size)); unfold val6 at r2; obtain ⟨q0, q1, q2, q3, q4, q5, qz⟩ := six_cells r2; have hcp := hcW.out W (hwr'.out.trans (hSw.mono hwr'.out.size)); go_simp; try with_reducible rfl
                try simp only [Act.put, List.setIfInBounds_toArray, List.set_cons_zero, List.set_cons_succ]
                refine Top.wpAnyL_take (i := 2) (oi := { dst := some 74, op := Go.Op.move (Go.Operand.tmp 18), type := 3, pos := "law.go:140", after := #[], guard := none }) (v := ?_) rfl (by kernel_rfl) (by kernel_rfl) (by kernel_rfl) (by kernel_rfl) (fun _ _ _ h => h) (Or.inl ⟨by rfl, ?_⟩) hHeld ?_
                rotate_left 1
                · intro W hSw; obtain ⟨r1, r2, r3, r4⟩ := hR.out W (hwr'.out.trans (hSw.mono hwr'.out.size)); unfold val6 at r2; obtain ⟨q0, q1, q2, q3, q4, q5, qz⟩ := six_cells r2; have hcp := hcW.out W (hwr'.out.trans (hSw.mono hwr'.out.size)); go_simp; try with_reducible rfl
                try simp only [Act.put, List.setIfInBounds_toArray, List.set_cons_zero, List.set_cons_succ]
                refine Top.wpAnyL_take (i := 3) (oi := { dst := some 75, op := Go.Op.indexAddr 49 (Go.Operand.tmp 73) (Go.Operand.tmp 74), type := 0, pos := "law.go:140", after := #[{ on := 1, ground := Go.Ground.data }, { on := 2, ground := Go.Ground.data }], guard := none }) (v := ?_) rfl (by kernel_rfl) (by kernel_rfl) (by kernel_rfl) (by kernel_rfl) (fun _ _ _ h => h) (Or.inl ⟨by rfl, ?_⟩) hHeld ?_
                rotate_left 1
                · intro W hSw; obtain ⟨r1, r2, r3, r4⟩ := hR.out W (hwr'.out.trans (hSw.mono hwr'.out.size)); unfold val6 at r2; obtain ⟨q0, q1, q2, q3, q4, q5, qz⟩ := six_cells r2; have hcp := hcW.out W (hwr'.out.trans (hSw.mono hwr'.out.size)); go_simp; try with_reducible rfl
                try simp only [Act.put, List.setIfInBounds_toArray, List.set_cons_zero, List.set_cons_succ]
                refine Top.wpAnyL_take (i := 4) (oi := { dst := some 76, op := Go.Op.load 22 (Go.Operand.tmp 75), type := 22, pos := "law.go:140", after := #[{ on := 3, ground := Go.Ground.data }], guard := none }) (v := ?_) rfl (by kernel_rfl) (by kernel_rfl) (by kernel_rfl) (by kernel_rfl) (fun _ _ _ h => h) (Or.inl ⟨by rfl, ?_⟩) hHeld ?_
                rotate_left 1
                · intro W hSw; obtain ⟨r1, r2, r3, r4⟩ := hR.out W (hwr'.out.trans (hSw.mono hwr'.out.size)); unfold val6 at r2; obtain ⟨q0, q1, q2, q3, q4, q5, qz⟩ := six_cells r2; have hcp := hcW.out W (hwr'.out.trans (hSw.mono hwr'.out.size)); go_simp; try with_reducible rfl
                try simp only [Act.put, List.setIfInBounds_toArray, List.set_cons_zero, List.set_cons_succ]
                obtain ⟨D, hD⟩ : ∃ D, D = wr.drew := ⟨_, rfl⟩
                rw [← hD] at hHeld ⊢
                clear hD
                refine Top.wpAnyL_two (i := 5) (j := 9) (by kernel_rfl) (show _ = some { dst := some 77, op := Go.Op.call { callee := Go.Callee.value (Go.Operand.func 35), args := #[Go.Operand.tmp 72, Go.Operand.tmp 76], argTypes := #[42, 22] }, type := 51, pos := "law.go:140", after := #[{ on := 0, ground := Go.Ground.data }, { on := 4, ground := Go.Ground.data }], guard := none } from rfl) (show _ = some { dst := some 19, op := Go.Op.alloc 42, type := 0, pos := "law.go:140", after := #[], guard := none } from rfl) (by decide) (by decide) (fun K hK => ?_) (fun K hK => ?_)
                · go_simp
                  refine (hat.out D (hwr'.out.trans (hHeld.mono hwr'.out.size))).mono ?_
                  rintro e w8 ⟨zA, zn, zc, zK, zk, zd, rfl, hz, hb8⟩
                  have h8 : Below wr.heap.size wr w8 := hHeld.trans (hb8.mono hHeld.size)
                  have lt8 := Lib.hid (show ∀ k, Nw (Old w6) D w8 k → k < w8.heap.size from fun k hk => by have e1 := hwr'.out.size; have e2 := hHeld.size; have e3 := hb8.size; rcases hk with hk | hk; (have hk2 : k < w6.heap.size := hk; omega); omega)
                  go_simp
                  refine hK.out _ _ ?_ (fun hNew => ?_)
                  · exact h8
                  clear hK K hHeld
                  have hHeld := hNew
                  clear hNew
                  try simp only [Act.put, List.setIfInBounds_toArray, List.set_cons_zero, List.set_cons_succ]
                  refine Top.wpAnyL_take (i := 6) (oi := { dst := some 71, op := Go.Op.move (Go.Operand.tmp 77), type := 51, pos := "law.go:140", after := #[{ on := 5, ground := Go.Ground.data }], guard := none }) (v := ?_) rfl (by kernel_rfl) (by kernel_rfl) (by kernel_rfl) (by kernel_rfl) (fun _ _ _ h => h) (Or.inl ⟨by rfl, ?_⟩) hHeld ?_
                  rotate_left 1
                  · intro W hSw; skip; go_simp; try with_reducible rfl
                  try simp only [Act.put, List.setIfInBounds_toArray, List.set_cons_zero, List.set_cons_succ]
                  refine Top.wpAnyL_take (i := 7) (oi := { dst := some 78, op := Go.Op.extract (Go.Operand.tmp 71) 0, type := 42, pos := "law.go:140", after := #[{ on := 6, ground := Go.Ground.data }], guard := none }) (v := ?_) rfl (by kernel_rfl) (by kernel_rfl) (by kernel_rfl) (by kernel_rfl) (fun _ _ _ h => h) (Or.inl ⟨by rfl, ?_⟩) hHeld ?_
                  rotate_left 1
                  · intro W hSw; skip; go_simp; try with_reducible rfl
                  try simp only [Act.put, List.setIfInBounds_toArray, List.set_cons_zero, List.set_cons_succ]
                  refine Top.wpAnyL_take (i := 8) (oi := { dst := some 79, op := Go.Op.extract (Go.Operand.tmp 71) 1, type := 4, pos := "law.go:140", after := #[{ on := 6, ground := Go.Ground.data }, { on := 10, ground := Go.Ground.gcOnly Go.Departure.lateStores }], guard := none }) (v := ?_) rfl (by kernel_rfl) (by kernel_rfl) (by kernel_rfl) (by kernel_rfl) (fun _ _ _ h => h) (Or.inl ⟨by rfl, ?_⟩) hHeld ?_
                  rotate_left 1
                  · intro W hSw; skip; go_simp; try with_reducible rfl
                  try simp only [Act.put, List.setIfInBounds_toArray, List.set_cons_zero, List.set_cons_succ]
                  refine Top.wpAnyL_one (i := 9) (o := { dst := some 19, op := Go.Op.alloc 42, type := 0, pos := "law.go:140", after := #[], guard := none }) (by kernel_rfl) rfl (by decide) (fun K hK => ?_)
                  go_simp
                  obtain ⟨X, hX⟩ : ∃ Q9, Q9 = w8.alloc (.cells #[.int .u64 0, .bool false, .string ⟨#[]⟩, .slice none 0 0, .string ⟨#[]⟩, .slice none 0 0] 42) := ⟨_, rfl⟩
                  rw [← hX]
                  have rn : X.heap[w8.heap.size]? = some (.cells #[.int .u64 0, .bool false, .string ⟨#[]⟩, .slice none 0 0, .string ⟨#[]⟩, .slice none 0 0] 42 (0, 0)) := by rw [hX]; exact heap_alloc_new w8 _
                  have hbX : Below w8.heap.size w8 X := by rw [hX]; exact (Below.refl _ _).alloc (Nat.le_refl _) _
                  have hgs : wr.heap.size ≤ w8.heap.size := hHeld.size
                  obtain ⟨g, hg⟩ : ∃ g, g = w8.heap.size := ⟨_, rfl⟩
                  rw [← hg] at rn hgs ⊢
                  have hG := Lib.hid hg
                  clear hX hg
                  have h9 : Below wr.heap.size wr X := h8.trans (hbX.mono h8.size)
                  have hgz : w8.heap.size ≤ g := by rw [hG.out]; exact Nat.le_refl _
                  refine hK.out _ _ ?_ (fun hNew => ?_)
                  · exact h9
                  clear hK K hHeld
                  have hHeld := hNew
                  clear hNew
                  try simp only [Act.put, List.setIfInBounds_toArray, List.set_cons_zero, List.set_cons_succ]
                  refine Top.wpAnyL_one (i := 10) (o := { dst := none, op := Go.Op.store 42 (Go.Operand.tmp 19) (Go.Operand.tmp 78), type := 0, pos := "law.go:140", after := #[{ on := 9, ground := Go.Ground.data }, { on := 7, ground := Go.Ground.data }, { on := 5, ground := Go.Ground.chain }, { on := 0, ground := Go.Ground.phase }, { on := 1, ground := Go.Ground.phase }, { on := 2, ground := Go.Ground.phase }, { on := 3, ground := Go.Ground.phase }, { on := 4, ground := Go.Ground.phase }, { on := 5, ground := Go.Ground.phase }, { on := 6, ground := Go.Ground.phase }, { on := 7, ground := Go.Ground.phase }, { on := 8, ground := Go.Ground.textOnly Go.Departure.lateStores }, { on := 9, ground := Go.Ground.phase }], guard := none }) (by kernel_rfl) rfl (by decide) (fun K hK => ?_)
                  obtain ⟨u0, u1, u2, u3, u4, u5, uf⟩ := six_cells rn
                  go_simp
                  obtain ⟨Y, hY, RY, BY, KY⟩ := end_six (x := z) (aA := zA) (an := zn) (ac := zc) (kA := zK) (kn := zk) (kc := zd) hgs hHeld rn
                  rw [← hY]
                  clear u0 u1 u2 u3 u4 u5 uf hY
                  refine hK.out _ _ ?_ (fun hNew => ?_)
                  · exact BY
                  clear hK K hHeld
                  have hHeld := hNew
                  clear hNew
                  try simp only [Act.put, List.setIfInBounds_toArray, List.set_cons_zero, List.set_cons_succ]
                  refine Top.wpAnyL_last (o := { dst := some 20, op := Go.Op.assign (Go.Operand.tmp 79), type := 4, pos := "law.go:140", after := #[{ on := 8, ground := Go.Ground.data }, { on := 10, ground := Go.Ground.chain }, { on := 0, ground := Go.Ground.phase }, { on := 1, ground := Go.Ground.phase }, { on := 2, ground := Go.Ground.phase }, { on := 3, ground := Go.Ground.phase }, { on := 4, ground := Go.Ground.phase }, { on := 5, ground := Go.Ground.phase }, { on := 6, ground := Go.Ground.phase }, { on := 7, ground := Go.Ground.phase }, { on := 8, ground := Go.Ground.phase }, { on := 9, ground := Go.Ground.phase }, { on := 10, ground := Go.Ground.phase }], guard := none }) (by kernel_rfl) rfl (fun K hK => ?_)
                  go_simp
                  refine hK _ _ ?_
                  clear hK K
                  try simp only [Act.put, List.setIfInBounds_toArray, List.set_cons_zero, List.set_cons_succ]
                  refine wpAny_done (by kernel_rfl) ?_ _
                  refine hK0 _ _ ?_
                  clear hK0
                  have F := Lib.hid (show Y.heap[g]? = some (.cells (val6 z zA zn zc zK zk zd) 42 (0, 0)) ∧ NodeV (Old Y) Y zA zn zc zK zk zd z ∧ Below wr.heap.size wr Y from ⟨RY, hz.kept (fun k hk => Nat.lt_of_lt_of_le (lt8.out k hk) (Nat.le_trans hbX.size KY.2)) (fun k hk => (KY.1 k (by have h11 := lt8.out k hk; omega)).trans (hbX.block k (lt8.out k hk))), BY⟩)
                  clear RY BY KY hHeld rn
                  go_wp2_with fail
                  go_meet
                  exact ⟨g, _, zA, zn, zc, zK, zk, zd, rfl, rfl, F.out⟩
                · go_simp
                  obtain ⟨X, hX⟩ : ∃ Q9, Q9 = D.alloc (.cells #[.int .u64 0, .bool false, .string ⟨#[]⟩, .slice none 0 0, .string ⟨#[]⟩, .slice none 0 0] 42) := ⟨_, rfl⟩
                  rw [← hX]
                  have rn : X.heap[D.heap.size]? = some (.cells #[.int .u64 0, .bool false, .string ⟨#[]⟩, .slice none 0 0, .string ⟨#[]⟩, .slice none 0 0] 42 (0, 0)) := by rw [hX]; exact heap_alloc_new D _
                  have hbX : Below D.heap.size D X := by rw [hX]; exact (Below.refl _ _).alloc (Nat.le_refl _) _
                  have hgs : wr.heap.size ≤ D.heap.size := hHeld.size
                  obtain ⟨g, hg⟩ : ∃ g, g = D.heap.size := ⟨_, rfl⟩
                  rw [← hg] at rn hgs ⊢
                  have hG := Lib.hid hg
                  clear hX hg
                  have h9 : Below wr.heap.size wr X := hHeld.trans (hbX.mono hHeld.size)
                  have hltX : g < X.heap.size := (Array.getElem?_eq_some_iff.1 rn).1
                  refine hK.out _ _ ?_ (fun hNew => ?_)
                  · exact h9
                  clear hK K hHeld
                  have hHeld := hNew
                  clear hNew
                  try simp only [Act.put, List.setIfInBounds_toArray, List.set_cons_zero, List.set_cons_succ]
                  refine Top.wpAnyL_one (i := 5) (o := { dst := some 77, op := Go.Op.call { callee := Go.Callee.value (Go.Operand.func 35), args := #[Go.Operand.tmp 72, Go.Operand.tmp 76], argTypes := #[42, 22] }, type := 51, pos := "law.go:140", after := #[{ on := 0, ground := Go.Ground.data }, { on := 4, ground := Go.Ground.data }], guard := none }) (by kernel_rfl) rfl (by decide) (fun K hK => ?_)
                  go_simp
                  refine (hat.out X (hwr'.out.trans (hHeld.mono hwr'.out.size))).mono ?_
                  rintro e w8 ⟨zA, zn, zc, zK, zk, zd, rfl, hz, hb8⟩
                  have h8 : Below wr.heap.size wr w8 := hHeld.trans (hb8.mono hHeld.size)
                  have lt8 := Lib.hid (show ∀ k, Nw (Old w6) X w8 k → k < w8.heap.size ∧ k ≠ g from fun k hk => by have e1 := hwr'.out.size; have e2 := hHeld.size; have e3 := hb8.size; rcases hk with hk | hk; (have hk2 : k < w6.heap.size := hk; omega); omega)
                  have rn2 := (hb8.block g hltX).trans rn
                  clear rn
                  have rn := rn2
                  clear rn2
                  go_simp
                  refine hK.out _ _ ?_ (fun hNew => ?_)
                  · exact h8
                  clear hK K hHeld
                  have hHeld := hNew
                  clear hNew
                  try simp only [Act.put, List.setIfInBounds_toArray, List.set_cons_zero, List.set_cons_succ]
                  refine Top.wpAnyL_take (i := 6) (oi := { dst := some 71, op := Go.Op.move (Go.Operand.tmp 77), type := 51, pos := "law.go:140", after := #[{ on := 5, ground := Go.Ground.data }], guard := none }) (v := ?_) rfl (by kernel_rfl) (by kernel_rfl) (by kernel_rfl) (by kernel_rfl) (fun _ _ _ h => h) (Or.inl ⟨by rfl, ?_⟩) hHeld ?_
                  rotate_left 1
                  · intro W hSw; skip; go_simp; try with_reducible rfl
                  try simp only [Act.put, List.setIfInBounds_toArray, List.set_cons_zero, List.set_cons_succ]
                  refine Top.wpAnyL_take (i := 7) (oi := { dst := some 78, op := Go.Op.extract (Go.Operand.tmp 71) 0, type := 42, pos := "law.go:140", after := #[{ on := 6, ground := Go.Ground.data }], guard := none }) (v := ?_) rfl (by kernel_rfl) (by kernel_rfl) (by kernel_rfl) (by kernel_rfl) (fun _ _ _ h => h) (Or.inl ⟨by rfl, ?_⟩) hHeld ?_
                  rotate_left 1
                  · intro W hSw; skip; go_simp; try with_reducible rfl
                  try simp only [Act.put, List.setIfInBounds_toArray, List.set_cons_zero, List.set_cons_succ]
                  refine Top.wpAnyL_take (i := 8) (oi := { dst := some 79, op := Go.Op.extract (Go.Operand.tmp 71) 1, type := 4, pos := "law.go:140", after := #[{ on := 6, ground := Go.Ground.data }, { on := 10, ground := Go.Ground.gcOnly Go.Departure.lateStores }], guard := none }) (v := ?_) rfl (by kernel_rfl) (by kernel_rfl) (by kernel_rfl) (by kernel_rfl) (fun _ _ _ h => h) (Or.inl ⟨by rfl, ?_⟩) hHeld ?_
                  rotate_left 1
                  · intro W hSw; skip; go_simp; try with_reducible rfl
                  try simp only [Act.put, List.setIfInBounds_toArray, List.set_cons_zero, List.set_cons_succ]
                  refine Top.wpAnyL_one (i := 10) (o := { dst := none, op := Go.Op.store 42 (Go.Operand.tmp 19) (Go.Operand.tmp 78), type := 0, pos := "law.go:140", after := #[{ on := 9, ground := Go.Ground.data }, { on := 7, ground := Go.Ground.data }, { on := 5, ground := Go.Ground.chain }, { on := 0, ground := Go.Ground.phase }, { on := 1, ground := Go.Ground.phase }, { on := 2, ground := Go.Ground.phase }, { on := 3, ground := Go.Ground.phase }, { on := 4, ground := Go.Ground.phase }, { on := 5, ground := Go.Ground.phase }, { on := 6, ground := Go.Ground.phase }, { on := 7, ground := Go.Ground.phase }, { on := 8, ground := Go.Ground.textOnly Go.Departure.lateStores }, { on := 9, ground := Go.Ground.phase }], guard := none }) (by kernel_rfl) rfl (by decide) (fun K hK => ?_)
                  obtain ⟨u0, u1, u2, u3, u4, u5, uf⟩ := six_cells rn
                  go_simp
                  obtain ⟨Y, hY, RY, BY, KY⟩ := end_six (x := z) (aA := zA) (an := zn) (ac := zc) (kA := zK) (kn := zk) (kc := zd) hgs hHeld rn
                  rw [← hY]
                  clear u0 u1 u2 u3 u4 u5 uf hY
                  refine hK.out _ _ ?_ (fun hNew => ?_)
                  · exact BY
                  clear hK K hHeld
                  have hHeld := hNew
                  clear hNew
                  try simp only [Act.put, List.setIfInBounds_toArray, List.set_cons_zero, List.set_cons_succ]
                  refine Top.wpAnyL_last (o := { dst := some 20, op := Go.Op.assign (Go.Operand.tmp 79), type := 4, pos := "law.go:140", after := #[{ on := 8, ground := Go.Ground.data }, { on := 10, ground := Go.Ground.chain }, { on := 0, ground := Go.Ground.phase }, { on := 1, ground := Go.Ground.phase }, { on := 2, ground := Go.Ground.phase }, { on := 3, ground := Go.Ground.phase }, { on := 4, ground := Go.Ground.phase }, { on := 5, ground := Go.Ground.phase }, { on := 6, ground := Go.Ground.phase }, { on := 7, ground := Go.Ground.phase }, { on := 8, ground := Go.Ground.phase }, { on := 9, ground := Go.Ground.phase }, { on := 10, ground := Go.Ground.phase }], guard := none }) (by kernel_rfl) rfl (fun K hK => ?_)
                  go_simp
                  refine hK _ _ ?_
                  clear hK K
                  try simp only [Act.put, List.setIfInBounds_toArray, List.set_cons_zero, List.set_cons_succ]
                  refine wpAny_done (by kernel_rfl) ?_ _
                  refine hK0 _ _ ?_
                  clear hK0
                  have F := Lib.hid (show Y.heap[g]? = some (.cells (val6 z zA zn zc zK zk zd) 42 (0, 0)) ∧ NodeV (Old Y) Y zA zn zc zK zk zd z ∧ Below wr.heap.size wr Y from ⟨RY, hz.kept (fun k hk => Nat.lt_of_lt_of_le (lt8.out k hk).1 KY.2) (fun k hk => KY.1 k (lt8.out k hk).2), BY⟩)
                  clear RY BY KY hHeld rn
                  go_wp2_with fail
                  go_meet
                  exact ⟨g, _, zA, zn, zc, zK, zk, zd, rfl, rfl, F.out⟩
              case rest =>
                obtain ⟨g, u20_, zA, zn, zc, zK, zk, zd, rfl, rfl, hgr, hnz, hbc⟩ := hcut
                have hwc := Lib.hid (hwr'.out.trans (hbc.mono hwr'.out.size))
                have hzk := Lib.hid hnz.facts.kl
                have hrow := Lib.hid hnz.facts.row
                have hzc := Lib.hid (show countV z ≤ 600 by
                  rw [hz0'.out]
                  cases hA : atV m PP with
                  | none => decide
                  | some s => exact Nat.le_trans (at_count PP m s hA).1 hwm.out.1)
                have hzk2 := Lib.hid (show zk ≤ 600 by have e1 := kids_le z; have e2 := hzk.out; have e3 := hzc.out; omega)
                have hW := Lib.hid (fun (W : World) (hb : Below wc.heap.size wc W) => show W.heap[g]? = some (.cells (val6 z zA zn zc zK zk zd) 42 (0, 0)) ∧ NodeV (Old W) W zA zn zc zK zk zd z from ⟨(hb.block g (Array.getElem?_eq_some_iff.1 hgr).1).trans hgr, hnz.below hb⟩)
                have hstep := Lib.hid (fun (fd2 : Nat) (h1 : fd ≤ fd2) (h2 : goodV x y.id z → 1 ≤ fd2) => show ∀ j, j < q + 1 → ∀ P, (pathsV m)[j]? = some P → goodV x y.id ((atV m P).getD Nd.zero) → 1 ≤ fd2 from fun j hj P hP hg => by
                  by_cases hjq : j < q
                  · exact Nat.le_trans (hall'.out j hjq P hP hg) h1
                  · have hjq2 : j = q := by omega
                    rw [hjq2, hPq'.out] at hP
                    have hP2 := Option.some.inj hP
                    exact h2 (by rw [hz0'.out, hP2]; exact hg))
                obtain ⟨r1, r2, r3, r4⟩ := hR.out wc hwc.out
                unfold val6 at r4
                have gr := hgr
                unfold val6 at gr hW
                obtain ⟨s0, s1, s2, s3, s4, s5, sf⟩ := six_cells gr
                obtain ⟨y0, y1, y2, y3, y4, y5, yf⟩ := six_cells r4
                clear r1 r2 r3 r4 gr hgr hnz hbc hat
                by_cases hid : z.id = y.id
                · have e1 : ((z.id : Int) != (y.id : Int)) = false := by simp [hid]
                  have hid' := Lib.hid hid
                  clear hid
                  by_cases hk0 : zk = 0
                  · have e2 : ((zk : Int) == 0) = true := by simp [hk0]
                    have hk0' := Lib.hid hk0
                    clear hk0
                    go_wp2_with fail
                    go_roundw
                    case rel =>
                      exact ⟨q + 1, fd, by omega, by go_num, rfl, by omega, hwc.out, hstep.out fd (Nat.le_refl _) fun hg => by
                        have e4 := List.length_pos_of_mem hg.2
                        have e5 := hzk.out
                        have e6 := hk0'.out
                        omega⟩
                    case measure => simp [intOf]; omega
                  · have e2 : ((zk : Int) == 0) = false := by simp [hk0]
                    go_wp2_with fail
                    obtain ⟨wo, hwo⟩ : ∃ Z, Z = wr := ⟨_, rfl⟩
                    subst hwo
                    go_loopw [17, 21] (fun v17 v21 wr => ∃ r fd2 : Nat, r ≤ zk ∧ v21 = .int .i64 (r : Int) ∧ v17 = .int .i64 (fd2 : Int) ∧ fd ≤ fd2 ∧ fd2 ≤ fd + r ∧ Below wc.heap.size wc wr ∧ (∀ j, j < r → z.kids[j]? = some x → 1 ≤ fd2)) (fun _ v21 _ => zk - (intOf v21).toNat)
                    case atStart => exact ⟨0, fd, Nat.zero_le _, rfl, rfl, Nat.le_refl _, Nat.le_refl _, Below.refl _ _, fun j hj => by omega⟩
                    case round =>
                      obtain ⟨r, fd2, hr, rfl, rfl, hf1, hf2, hwi, hin⟩ := hrel
                      have hwi' := Lib.hid hwi
                      have hin' := Lib.hid hin
                      have hw6 := Lib.hid (hwc.out.trans (hwi.mono hwc.out.size))
                      clear hwi hin s0 s1 s2 s3 s4 s5 sf y0 y1 y2 y3 y4 y5 yf
                      obtain ⟨gW, nW⟩ := hW.out wr hwi'.out
                      obtain ⟨s0, s1, s2, s3, s4, s5, sf⟩ := six_cells gW
                      clear gW nW
                      by_cases hrk : r < zk
                      · have hrI : (r : Int) < (zk : Int) := by omega
                        have e0r : (0 : Int) ≤ (r : Int) := by omega
                        obtain ⟨kd, hkd⟩ := get_kid hzk.out hrk
                        obtain ⟨ka, aA3, an3, ac3, kA3, kn3, kc3, rfl, hsix, hv3⟩ := kid_at hrow.out hkd hwi'.out
                        have hS6 := Lib.hid (fun (W : World) (hb : Below wr.heap.size wr W) => hsix.kept (hb.block _ (World.block_lt_of_cell? wr _ hsix.1)))
                        have hsame := Lib.hid (fun (W : World) (hb : Below wr.heap.size wr W) => same_all W kd x aA3 kA3 xA xK an3 ac3 kn3 kc3 xn xc xk xd (hv3.below hb) (hXW.out W (hw6.out.trans (hb.mono hw6.out.size))) (by have f1 := countsV_kid hkd; have f2 := hzc.out; omega))
                        obtain ⟨bb, hbb⟩ : ∃ bb, bb = eqV sameA kd x := ⟨_, rfl⟩
                        rw [← hbb] at hsame
                        have HB := Lib.hid hbb
                        have HK := Lib.hid hkd
                        unfold val6 at hsame
                        clear hbb hkd hsix hv3
                        go_upto_region 19 with fail
                        clear s0 s1 s2 s3 s4 s5 sf
                        rename_i K0 hK0
                        refine wp_region_held_drew (S := (fun W => Below wr.heap.size wr W)) (by kernel_rfl) ((Below.refl wr.heap.size wr).drew) (fun hHeld => ?_)
                        refine wpAnyH_take (i := 0) (oi := { dst := some 98, op := Go.Op.fieldAddr 42 (Go.Operand.tmp 19) 5, type := 0, pos := "law.go:145", after := #[], guard := none }) (v := ?_) rfl (by kernel_rfl) (by kernel_rfl) (by kernel_rfl) (fun _ _ _ h => h) (Or.inl ⟨by rfl, ?_⟩) hHeld ?_
                        rotate_left 1
                        · intro W hSw; obtain ⟨gW, nW⟩ := hW.out W (hwi'.out.trans (hSw.mono hwi'.out.size)); obtain ⟨g0, g1, g2, g3, g4, g5, gz⟩ := six_cells gW; obtain ⟨r1, r2, r3, r4⟩ := hR.out W (hw6.out.trans (hSw.mono hw6.out.size)); unfold val6 at r3; obtain ⟨x0_, x1_, x2_, x3_, x4_, x5_, xz⟩ := six_cells r3; obtain ⟨s0, s1, s2, s3, s4, s5⟩ := hS6.out W hSw; go_simp; try with_reducible rfl
                        try simp only [Act.put, List.setIfInBounds_toArray, List.set_cons_zero, List.set_cons_succ]
                        refine wpAnyH_take (i := 1) (oi := { dst := some 99, op := Go.Op.load 40 (Go.Operand.tmp 98), type := 40, pos := "law.go:145", after := #[{ on := 0, ground := Go.Ground.data }], guard := none }) (v := ?_) rfl (by kernel_rfl) (by kernel_rfl) (by kernel_rfl) (fun _ _ _ h => h) (Or.inl ⟨by rfl, ?_⟩) hHeld ?_
                        rotate_left 1
                        · intro W hSw; obtain ⟨gW, nW⟩ := hW.out W (hwi'.out.trans (hSw.mono hwi'.out.size)); obtain ⟨g0, g1, g2, g3, g4, g5, gz⟩ := six_cells gW; obtain ⟨r1, r2, r3, r4⟩ := hR.out W (hw6.out.trans (hSw.mono hw6.out.size)); unfold val6 at r3; obtain ⟨x0_, x1_, x2_, x3_, x4_, x5_, xz⟩ := six_cells r3; obtain ⟨s0, s1, s2, s3, s4, s5⟩ := hS6.out W hSw; go_simp; try with_reducible rfl
                        try simp only [Act.put, List.setIfInBounds_toArray, List.set_cons_zero, List.set_cons_succ]
                        refine wpAnyH_take (i := 2) (oi := { dst := some 100, op := Go.Op.move (Go.Operand.tmp 21), type := 3, pos := "law.go:145", after := #[], guard := none }) (v := ?_) rfl (by kernel_rfl) (by kernel_rfl) (by kernel_rfl) (fun _ _ _ h => h) (Or.inl ⟨by rfl, ?_⟩) hHeld ?_
                        rotate_left 1
                        · intro W hSw; obtain ⟨gW, nW⟩ := hW.out W (hwi'.out.trans (hSw.mono hwi'.out.size)); obtain ⟨g0, g1, g2, g3, g4, g5, gz⟩ := six_cells gW; obtain ⟨r1, r2, r3, r4⟩ := hR.out W (hw6.out.trans (hSw.mono hw6.out.size)); unfold val6 at r3; obtain ⟨x0_, x1_, x2_, x3_, x4_, x5_, xz⟩ := six_cells r3; obtain ⟨s0, s1, s2, s3, s4, s5⟩ := hS6.out W hSw; go_simp; try with_reducible rfl
                        try simp only [Act.put, List.setIfInBounds_toArray, List.set_cons_zero, List.set_cons_succ]
                        refine wpAnyH_take (i := 3) (oi := { dst := some 101, op := Go.Op.indexAddr 40 (Go.Operand.tmp 99) (Go.Operand.tmp 100), type := 0, pos := "law.go:145", after := #[{ on := 1, ground := Go.Ground.data }, { on := 2, ground := Go.Ground.data }], guard := none }) (v := ?_) rfl (by kernel_rfl) (by kernel_rfl) (by kernel_rfl) (fun _ _ _ h => h) (Or.inl ⟨by rfl, ?_⟩) hHeld ?_
                        rotate_left 1
                        · intro W hSw; obtain ⟨gW, nW⟩ := hW.out W (hwi'.out.trans (hSw.mono hwi'.out.size)); obtain ⟨g0, g1, g2, g3, g4, g5, gz⟩ := six_cells gW; obtain ⟨r1, r2, r3, r4⟩ := hR.out W (hw6.out.trans (hSw.mono hw6.out.size)); unfold val6 at r3; obtain ⟨x0_, x1_, x2_, x3_, x4_, x5_, xz⟩ := six_cells r3; obtain ⟨s0, s1, s2, s3, s4, s5⟩ := hS6.out W hSw; go_simp; try with_reducible rfl
                        try simp only [Act.put, List.setIfInBounds_toArray, List.set_cons_zero, List.set_cons_succ]
                        refine wpAnyH_take (i := 4) (oi := { dst := some 102, op := Go.Op.load 42 (Go.Operand.tmp 101), type := 42, pos := "law.go:145", after := #[{ on := 3, ground := Go.Ground.data }], guard := none }) (v := ?_) rfl (by kernel_rfl) (by kernel_rfl) (by kernel_rfl) (fun _ _ _ h => h) (Or.inl ⟨by rfl, ?_⟩) hHeld ?_
                        rotate_left 1
                        · intro W hSw; obtain ⟨gW, nW⟩ := hW.out W (hwi'.out.trans (hSw.mono hwi'.out.size)); obtain ⟨g0, g1, g2, g3, g4, g5, gz⟩ := six_cells gW; obtain ⟨r1, r2, r3, r4⟩ := hR.out W (hw6.out.trans (hSw.mono hw6.out.size)); unfold val6 at r3; obtain ⟨x0_, x1_, x2_, x3_, x4_, x5_, xz⟩ := six_cells r3; obtain ⟨s0, s1, s2, s3, s4, s5⟩ := hS6.out W hSw; go_simp; try with_reducible rfl
                        try simp only [Act.put, List.setIfInBounds_toArray, List.set_cons_zero, List.set_cons_succ]
                        refine wpAnyH_take (i := 5) (oi := { dst := some 103, op := Go.Op.load 42 (Go.Operand.tmp 12), type := 42, pos := "law.go:145", after := #[], guard := none }) (v := ?_) rfl (by kernel_rfl) (by kernel_rfl) (by kernel_rfl) (fun _ _ _ h => h) (Or.inl ⟨by rfl, ?_⟩) hHeld ?_
                        rotate_left 1
                        · intro W hSw; obtain ⟨gW, nW⟩ := hW.out W (hwi'.out.trans (hSw.mono hwi'.out.size)); obtain ⟨g0, g1, g2, g3, g4, g5, gz⟩ := six_cells gW; obtain ⟨r1, r2, r3, r4⟩ := hR.out W (hw6.out.trans (hSw.mono hw6.out.size)); unfold val6 at r3; obtain ⟨x0_, x1_, x2_, x3_, x4_, x5_, xz⟩ := six_cells r3; obtain ⟨s0, s1, s2, s3, s4, s5⟩ := hS6.out W hSw; go_simp; try with_reducible rfl
                        try simp only [Act.put, List.setIfInBounds_toArray, List.set_cons_zero, List.set_cons_succ]
                        refine wpAnyH_ready (rs := [6]) (by kernel_rfl) (by simp) ?_
                        refine AllReadyH.cons (o := { dst := some 104, op := Go.Op.call { callee := Go.Callee.value (Go.Operand.func 36), args := #[Go.Operand.tmp 102, Go.Operand.tmp 103], argTypes := #[42, 42] }, type := 4, pos := "law.go:145", after := #[{ on := 4, ground := Go.Ground.data }, { on := 5, ground := Go.Ground.data }], guard := none }) rfl (fun K hK => ?_) AllReadyH.nil
                        go_simp
                        refine (hsame.out _ hHeld).mono ?_
                        rintro e w9 ⟨rfl, hb9⟩
                        have h9 := Lib.hid (Below.trans hHeld (hb9.mono (Below.size hHeld)))
                        go_simp
                        refine hK.out _ _ ?_ (fun hNew => ?_)
                        · exact h9.out
                        clear hK K hHeld
                        have hHeld := hNew
                        clear hNew
                        try simp only [Act.put, List.setIfInBounds_toArray, List.set_cons_zero, List.set_cons_succ]
                        refine wpAnyH_done (by kernel_rfl) ?_ _
                        refine hK0 _ _ ?_
                        clear hK0
                        have h600 := hzk2.out
                        have hgn := hln.out.2
                        have hfdb : fd ≤ 360000 := by omega
                        cases bb
                        · go_wp2_with fail
                          go_roundw
                          case rel =>
                            exact ⟨r + 1, fd2, by omega, by go_num, rfl, hf1, by omega, hwi'.out.trans (h9.out.mono hwi'.out.size), fun j hj hjx => by
                              by_cases hjr : j < r
                              · exact hin'.out j hjr hjx
                              · have hjr2 : j = r := by omega
                                rw [hjr2, HK.out] at hjx
                                have h5 := Option.some.inj hjx
                                have h6 := HB.out
                                rw [h5, eqV_refl sameA sameA_refl x] at h6
                                exact absurd h6 (by decide)⟩
                          case measure => simp [intOf]; omega
                        · go_wp2_with fail
                          go_roundw
                          case rel => exact ⟨r + 1, fd2 + 1, by omega, by go_num, by go_num, by omega, by omega, hwi'.out.trans (h9.out.mono hwi'.out.size), fun j hj hjx => by omega⟩
                          case measure => simp [intOf]; omega
                      · have hrI : ¬ (r : Int) < (zk : Int) := by omega
                        go_wp2_with fail
                        go_roundw
                        case rel =>
                          have h600 := hzk2.out
                          exact ⟨q + 1, fd2, by omega, by go_num, rfl, by omega, hw6.out, hstep.out fd2 hf1 fun hg => by
                            obtain ⟨j, hj⟩ := List.mem_iff_getElem?.1 hg.2
                            have e4 := (List.getElem?_eq_some_iff.1 hj).1
                            have e5 := hzk.out
                            exact hin'.out j (by omega) hj⟩
                        case measure => simp [intOf]; omega
                · have e1 : ((z.id : Int) != (y.id : Int)) = true := by simp; omega
                  have hid' := Lib.hid hid
                  clear hid
                  go_wp2_with fail
                  go_roundw
                  case rel => exact ⟨q + 1, fd, by omega, by go_num, rfl, by omega, hwc.out, hstep.out fd (Nat.le_refl _) fun hg => absurd hg.1 hid'.out⟩
                  case measure => simp [intOf]; omega
            · have hqI : ¬ (q : Int) < (gn : Int) := by omega
              have hfd1 := Lib.hid (show 1 ≤ fd by
                obtain ⟨Q, z, hQ, hz, hg1, hg2⟩ := hfd.out
                obtain ⟨j, hj⟩ := List.mem_iff_getElem?.1 hQ
                have e3 := (List.getElem?_eq_some_iff.1 hj).1
                have e4 := hln.out.1
                exact hall'.out j (by omega) Q hj (by rw [hz]; exact ⟨hg1, hg2⟩))
              have hfn := Lib.hid (show n1 = qf.length + 1 by have e3 := hlf.out; rw [hqf'.out, List.length_append] at e3; simpa using e3.symm)
              have hdf := Lib.hid (show df ≤ 600 by
                have e3 := hx'.out
                rw [hqf'.out] at e3
                have e4 := kid_small e3
                have e5 := hwe.out
                have e6 := count_le t
                omega)
              have BW := Lib.hid (B6.out.trans (hwr'.out.mono B6.out.size))
              obtain ⟨nq, hnq⟩ : ∃ nq, nq = qf.length := ⟨_, rfl⟩
              have hfq : f[nq]? = some (df : Int) := by rw [hqf'.out, hnq, List.getElem?_append_right (Nat.le_refl _), Nat.sub_self]; rfl
              obtain ⟨ad, rfl, -, -⟩ := (hI1.out wr BW.out).2 nq _ hfq
              have hcell := Lib.hid (show wr.cell? (ad.add nq) = some (.int .i64 (df : Int)) by
                obtain ⟨ad2, e3, -, e4⟩ := (hI1.out wr BW.out).2 nq _ hfq
                cases e3
                exact e4)
              have hup := Lib.hid (show Its wr (some ad) nq qf by
                have e3 := P4.Its.upto (its4 (hI1.out wr BW.out)) (q := nq) (by have := hfn.out; omega)
                rw [hqf'.out, List.take_append_of_le_length (by omega), List.take_of_length_le (by omega)] at e3
                exact e3)
              obtain ⟨bs, hbs0⟩ : ∃ bs, bs = Sim.staysV (mvO f to_ i) := ⟨_, rfl⟩
              have hbst := Lib.hid hbs0
              have hbs1 := hbs0.trans (Sim.stays_at (o := mvO f to_ i) (q := qf) (c := (df : Int)) hqf'.out)
              obtain ⟨eb, heb⟩ : ∃ eb, eb = P4.eqV qf to_ := ⟨_, rfl⟩
              dsimp only [mvO] at hbs1
              rw [← heb] at hbs1
              have hbs := Lib.hid hbs1
              have hsm := Lib.hid (fun (W : World) (hb : Below wr.heap.size wr W) => P4.refSame_any W (some ad) A2 nq c1 n2 c2 qf to_ (its4 (hup.out.below hb)) (its4 (hI2.out W (BW.out.trans (hb.mono BW.out.size)))) (by have := hfn.out; have := hc1.out.1; omega) hc1.out.2)
              rw [← heb] at hsm
              have e1n : (n1 : Int) - 1 = (nq : Int) := by have := hfn.out; omega
              have e2n : (0 : Int) ≤ (nq : Int) := by omega
              have e3n : (nq : Int) ≤ (c1 : Int) := by have := hfn.out; omega
              have e4n : (nq : Int) < (n1 : Int) := by have := hfn.out; omega
              have hcl := hcell.out
              have hd6 := hdf.out
              have hdw : IntKind.i64.wrap ((df : Int) + 1) = (df : Int) + 1 := IntWalk.i64_in _ (by omega)
              clear hd6
              clear hfq hbs0 hbs1 heb hnq
              go_upto_region 22 with fail
              go_cut [23] from 24 (fun v23 wc => v23 = .bool bs ∧ Below w6.heap.size w6 wc)
              case first =>
                cases eb
                · go_wp2_with (go_at_call 37; go_loud (refine (hsm.out wr (Below.refl _ _)).mono ?_; rintro e w7 ⟨rfl, k7, rfl⟩))
                  go_meet
                  exact ⟨by rw [hbs.out]; rfl, draws hwr'.out k7⟩
                · by_cases i1 : i = (df : Int)
                  · have j1 : (i == (df : Int)) = true := by simp [i1]
                    rw [j1] at hbs
                    have i1' := Lib.hid i1
                    clear i1
                    go_wp2_with (go_at_call 37; go_loud (refine (hsm.out wr (Below.refl _ _)).mono ?_; rintro e w7 ⟨rfl, k7, rfl⟩))
                    go_meet
                    exact ⟨by rw [hbs.out]; rfl, draws hwr'.out k7⟩
                  · have j1 : (i == (df : Int)) = false := by simp [i1]
                    rw [j1] at hbs
                    have i1' := Lib.hid i1
                    clear i1
                    by_cases i2 : i = (df : Int) + 1
                    · have j2 : (i == (df : Int) + 1) = true := by simp [i2]
                      rw [j2] at hbs
                      have i2' := Lib.hid i2
                      clear i2
                      go_wp2_with (go_at_call 37; go_loud (refine (hsm.out wr (Below.refl _ _)).mono ?_; rintro e w7 ⟨rfl, k7, rfl⟩))
                      go_meet
                      exact ⟨by rw [hbs.out]; rfl, draws hwr'.out k7⟩
                    · have j2 : (i == (df : Int) + 1) = false := by simp [i2]
                      rw [j2] at hbs
                      have i2' := Lib.hid i2
                      clear i2
                      go_wp2_with (go_at_call 37; go_loud (refine (hsm.out wr (Below.refl _ _)).mono ?_; rintro e w7 ⟨rfl, k7, rfl⟩))
                      go_meet
                      exact ⟨by rw [hbs.out]; rfl, draws hwr'.out k7⟩
              case rest =>
                obtain ⟨rfl, hwk0⟩ := hcut
                have hwk := Lib.hid hwk0
                have hk0 := Lib.hid (fun (W : World) (hb : Below wc.heap.size wc W) => B6.out.trans ((hwk.out.trans (hb.mono hwk.out.size)).mono B6.out.size))
                have hcm := Lib.hid (fun (W : World) (hb : Below wc.heap.size wc W) => count_any W m mA mK mn mc mk md (hMW.out W (hwk.out.trans (hb.mono hwk.out.size))) (by have := hwm.out.1; omega))
                have hct := Lib.hid (fun (W : World) (hb : Below wc.heap.size wc W) => count_any W t aA kA an ac kn kc (hN.out W (hk0.out W hb)) (by have := hwm.out.1; have := hsz'.out; omega))
                have hsmT := Lib.hid (fun (W : World) (hb : Below wc.heap.size wc W) => same_all W m t mA mK aA kA mn mc mk md an ac kn kc (hMW.out W (hwk.out.trans (hb.mono hwk.out.size))) (hN.out W (hk0.out W hb)) (by have := hwm.out.1; omega))
                have hwo := Lib.hid (fun (W : World) (_ : Below wc.heap.size wc W) => works_any W)
                obtain ⟨cm, hcm0⟩ : ∃ c, c = countV m := ⟨_, rfl⟩
                rw [← hsz'.out, ← hcm0] at hct
                rw [← hcm0] at hcm
                unfold val6 at hsmT
                have hcmm : ((cm : Int) == (cm : Int)) = true := by simp
                have hf1 : (1 : Int) ≤ (fd : Int) := by have := hfd1.out; omega
                have hf2 : decide ((1 : Int) ≤ (fd : Int)) = true := by simp; have := hfd1.out; omega
                clear hcm0 hwk0 hcl hdw e1n e2n e3n e4n
                go_upto_region 23 with fail
                cases bs
                · skip
                  rename_i K0 hK0
                  refine wp_region_held_drew (S := (fun W => Below wc.heap.size wc W)) (by kernel_rfl) ((Below.refl wc.heap.size wc).drew) (fun hHeld => ?_)
                  refine wpAnyH_take (i := 0) (oi := { dst := some 134, op := Go.Op.move (Go.Operand.tmp 17), type := 3, pos := "law.go:152", after := #[], guard := none }) (v := ?_) rfl (by kernel_rfl) (by kernel_rfl) (by kernel_rfl) (fun _ _ _ h => h) (Or.inl ⟨by rfl, ?_⟩) hHeld ?_
                  rotate_left 1
                  · intro W hSw; obtain ⟨r1, r2, r3, r4⟩ := hR.out W (hwk.out.trans (hSw.mono hwk.out.size)); unfold val6 at r1 r2; obtain ⟨a0, a1, a2, a3, a4, a5, az⟩ := six_cells r1; obtain ⟨b0_, b1_, b2_, b3_, b4_, b5_, bz⟩ := six_cells r2; go_simp; try with_reducible rfl
                  try simp only [Act.put, List.setIfInBounds_toArray, List.set_cons_zero, List.set_cons_succ]
                  refine wpAnyH_take (i := 1) (oi := { dst := some 135, op := Go.Op.binOp Go.BinOp.geq 3 (Go.Operand.tmp 134) (Go.Operand.const (Go.Value.int Go.IntKind.i64 1)) 3, type := 4, pos := "law.go:152", after := #[{ on := 0, ground := Go.Ground.data }], guard := none }) (v := ?_) rfl (by kernel_rfl) (by kernel_rfl) (by kernel_rfl) (fun _ _ _ h => h) (Or.inl ⟨by rfl, ?_⟩) hHeld ?_
                  rotate_left 1
                  · intro W hSw; obtain ⟨r1, r2, r3, r4⟩ := hR.out W (hwk.out.trans (hSw.mono hwk.out.size)); unfold val6 at r1 r2; obtain ⟨a0, a1, a2, a3, a4, a5, az⟩ := six_cells r1; obtain ⟨b0_, b1_, b2_, b3_, b4_, b5_, bz⟩ := six_cells r2; go_simp; try with_reducible rfl
                  try simp only [Act.put, List.setIfInBounds_toArray, List.set_cons_zero, List.set_cons_succ]
                  refine wpAnyH_take (i := 2) (oi := { dst := some 136, op := Go.Op.move (Go.Operand.tmp 135), type := 4, pos := "law.go:152", after := #[{ on := 1, ground := Go.Ground.data }], guard := none }) (v := ?_) rfl (by kernel_rfl) (by kernel_rfl) (by kernel_rfl) (fun _ _ _ h => h) (Or.inl ⟨by rfl, ?_⟩) hHeld ?_
                  rotate_left 1
                  · intro W hSw; obtain ⟨r1, r2, r3, r4⟩ := hR.out W (hwk.out.trans (hSw.mono hwk.out.size)); unfold val6 at r1 r2; obtain ⟨a0, a1, a2, a3, a4, a5, az⟩ := six_cells r1; obtain ⟨b0_, b1_, b2_, b3_, b4_, b5_, bz⟩ := six_cells r2; go_simp; try with_reducible rfl
                  try simp only [Act.put, List.setIfInBounds_toArray, List.set_cons_zero, List.set_cons_succ]
                  refine wpAnyH_take (i := 3) (oi := { dst := some 137, op := Go.Op.load 42 (Go.Operand.tmp 10), type := 42, pos := "law.go:152", after := #[{ on := 2, ground := Go.Ground.guard }], guard := some (2, true) }) (v := ?_) rfl (by kernel_rfl) (by kernel_rfl) (by kernel_rfl) (fun _ _ _ h => h) (Or.inl ⟨by rfl, ?_⟩) hHeld ?_
                  rotate_left 1
                  · intro W hSw; obtain ⟨r1, r2, r3, r4⟩ := hR.out W (hwk.out.trans (hSw.mono hwk.out.size)); unfold val6 at r1 r2; obtain ⟨a0, a1, a2, a3, a4, a5, az⟩ := six_cells r1; obtain ⟨b0_, b1_, b2_, b3_, b4_, b5_, bz⟩ := six_cells r2; go_simp; try with_reducible rfl
                  try simp only [Act.put, List.setIfInBounds_toArray, List.set_cons_zero, List.set_cons_succ]
                  refine wpAnyH_take (i := 5) (oi := { dst := some 139, op := Go.Op.load 42 (Go.Operand.tmp 4), type := 42, pos := "law.go:152", after := #[{ on := 2, ground := Go.Ground.guard }], guard := some (2, true) }) (v := ?_) rfl (by kernel_rfl) (by kernel_rfl) (by kernel_rfl) (fun _ _ _ h => h) (Or.inl ⟨by rfl, ?_⟩) hHeld ?_
                  rotate_left 1
                  · intro W hSw; obtain ⟨r1, r2, r3, r4⟩ := hR.out W (hwk.out.trans (hSw.mono hwk.out.size)); unfold val6 at r1 r2; obtain ⟨a0, a1, a2, a3, a4, a5, az⟩ := six_cells r1; obtain ⟨b0_, b1_, b2_, b3_, b4_, b5_, bz⟩ := six_cells r2; go_simp; try with_reducible rfl
                  try simp only [Act.put, List.setIfInBounds_toArray, List.set_cons_zero, List.set_cons_succ]
                  refine wpAnyH_ready (rs := [4]) (by kernel_rfl) (by simp) ?_
                  refine AllReadyH.cons (o := { dst := some 138, op := Go.Op.call { callee := Go.Callee.value (Go.Operand.func 38), args := #[Go.Operand.tmp 137], argTypes := #[42] }, type := 3, pos := "law.go:152", after := #[{ on := 3, ground := Go.Ground.data }, { on := 2, ground := Go.Ground.chain }, { on := 2, ground := Go.Ground.guard }], guard := some (2, true) }) rfl (fun K hK => ?_) AllReadyH.nil
                  go_simp
                  refine (hcm.out _ hHeld).mono ?_
                  rintro e wA ⟨rfl, hb_wA⟩
                  have hA := Lib.hid (Below.trans hHeld (hb_wA.mono (Below.size hHeld)))
                  go_simp
                  refine hK.out _ _ ?_ (fun hNew => ?_)
                  · exact hA.out
                  clear hK K hHeld
                  have hHeld := hNew
                  clear hNew
                  try simp only [Act.put, List.setIfInBounds_toArray, List.set_cons_zero, List.set_cons_succ]
                  refine wpAnyH_ready (rs := [6]) (by kernel_rfl) (by simp) ?_
                  refine AllReadyH.cons (o := { dst := some 140, op := Go.Op.call { callee := Go.Callee.value (Go.Operand.func 38), args := #[Go.Operand.tmp 139], argTypes := #[42] }, type := 3, pos := "law.go:152", after := #[{ on := 5, ground := Go.Ground.data }, { on := 4, ground := Go.Ground.chain }, { on := 2, ground := Go.Ground.guard }], guard := some (2, true) }) rfl (fun K hK => ?_) AllReadyH.nil
                  go_simp
                  refine (hct.out _ hHeld).mono ?_
                  rintro e wB ⟨rfl, hb_wB⟩
                  have hB := Lib.hid (Below.trans hHeld (hb_wB.mono (Below.size hHeld)))
                  go_simp
                  refine hK.out _ _ ?_ (fun hNew => ?_)
                  · exact hB.out
                  clear hK K hHeld
                  have hHeld := hNew
                  clear hNew
                  try simp only [Act.put, List.setIfInBounds_toArray, List.set_cons_zero, List.set_cons_succ]
                  refine wpAnyH_take (i := 7) (oi := { dst := some 141, op := Go.Op.binOp Go.BinOp.eql 3 (Go.Operand.tmp 138) (Go.Operand.tmp 140) 3, type := 4, pos := "law.go:152", after := #[{ on := 4, ground := Go.Ground.data }, { on := 6, ground := Go.Ground.data }, { on := 2, ground := Go.Ground.guard }], guard := some (2, true) }) (v := ?_) rfl (by kernel_rfl) (by kernel_rfl) (by kernel_rfl) (fun _ _ _ h => h) (Or.inl ⟨by rfl, ?_⟩) hHeld ?_
                  rotate_left 1
                  · intro W hSw; obtain ⟨r1, r2, r3, r4⟩ := hR.out W (hwk.out.trans (hSw.mono hwk.out.size)); unfold val6 at r1 r2; obtain ⟨a0, a1, a2, a3, a4, a5, az⟩ := six_cells r1; obtain ⟨b0_, b1_, b2_, b3_, b4_, b5_, bz⟩ := six_cells r2; go_simp; try with_reducible rfl
                  try simp only [Act.put, List.setIfInBounds_toArray, List.set_cons_zero, List.set_cons_succ]
                  refine wpAnyH_take (i := 8) (oi := { dst := some 142, op := Go.Op.pick (Go.Operand.tmp 136) (Go.Operand.tmp 141) (Go.Operand.const (Go.Value.bool false)), type := 4, pos := "law.go:152", after := #[{ on := 2, ground := Go.Ground.data }, { on := 7, ground := Go.Ground.data }], guard := none }) (v := ?_) rfl (by kernel_rfl) (by kernel_rfl) (by kernel_rfl) (fun _ _ _ h => h) (Or.inl ⟨by rfl, ?_⟩) hHeld ?_
                  rotate_left 1
                  · intro W hSw; obtain ⟨r1, r2, r3, r4⟩ := hR.out W (hwk.out.trans (hSw.mono hwk.out.size)); unfold val6 at r1 r2; obtain ⟨a0, a1, a2, a3, a4, a5, az⟩ := six_cells r1; obtain ⟨b0_, b1_, b2_, b3_, b4_, b5_, bz⟩ := six_cells r2; go_simp; try with_reducible rfl
                  try simp only [Act.put, List.setIfInBounds_toArray, List.set_cons_zero, List.set_cons_succ]
                  refine wpAnyH_take (i := 9) (oi := { dst := some 143, op := Go.Op.move (Go.Operand.tmp 142), type := 4, pos := "law.go:152", after := #[{ on := 8, ground := Go.Ground.data }, { on := 6, ground := Go.Ground.chain }], guard := none }) (v := ?_) rfl (by kernel_rfl) (by kernel_rfl) (by kernel_rfl) (fun _ _ _ h => h) (Or.inl ⟨by rfl, ?_⟩) hHeld ?_
                  rotate_left 1
                  · intro W hSw; obtain ⟨r1, r2, r3, r4⟩ := hR.out W (hwk.out.trans (hSw.mono hwk.out.size)); unfold val6 at r1 r2; obtain ⟨a0, a1, a2, a3, a4, a5, az⟩ := six_cells r1; obtain ⟨b0_, b1_, b2_, b3_, b4_, b5_, bz⟩ := six_cells r2; go_simp; try with_reducible rfl
                  try simp only [Act.put, List.setIfInBounds_toArray, List.set_cons_zero, List.set_cons_succ]
                  refine wpAnyH_take (i := 10) (oi := { dst := some 144, op := Go.Op.move (Go.Operand.tmp 23), type := 4, pos := "law.go:152", after := #[{ on := 9, ground := Go.Ground.guard }], guard := some (9, true) }) (v := ?_) rfl (by kernel_rfl) (by kernel_rfl) (by kernel_rfl) (fun _ _ _ h => h) (Or.inl ⟨by rfl, ?_⟩) hHeld ?_
                  rotate_left 1
                  · intro W hSw; obtain ⟨r1, r2, r3, r4⟩ := hR.out W (hwk.out.trans (hSw.mono hwk.out.size)); unfold val6 at r1 r2; obtain ⟨a0, a1, a2, a3, a4, a5, az⟩ := six_cells r1; obtain ⟨b0_, b1_, b2_, b3_, b4_, b5_, bz⟩ := six_cells r2; go_simp; try with_reducible rfl
                  try simp only [Act.put, List.setIfInBounds_toArray, List.set_cons_zero, List.set_cons_succ]
                  refine wpAnyH_take (i := 11) (oi := { dst := some 145, op := Go.Op.unOp Go.UnOp.not 4 (Go.Operand.tmp 144), type := 4, pos := "law.go:152", after := #[{ on := 10, ground := Go.Ground.data }, { on := 9, ground := Go.Ground.guard }], guard := some (9, true) }) (v := ?_) rfl (by kernel_rfl) (by kernel_rfl) (by kernel_rfl) (fun _ _ _ h => h) (Or.inl ⟨by rfl, ?_⟩) hHeld ?_
                  rotate_left 1
                  · intro W hSw; obtain ⟨r1, r2, r3, r4⟩ := hR.out W (hwk.out.trans (hSw.mono hwk.out.size)); unfold val6 at r1 r2; obtain ⟨a0, a1, a2, a3, a4, a5, az⟩ := six_cells r1; obtain ⟨b0_, b1_, b2_, b3_, b4_, b5_, bz⟩ := six_cells r2; go_simp; try with_reducible rfl
                  try simp only [Act.put, List.setIfInBounds_toArray, List.set_cons_zero, List.set_cons_succ]
                  refine wpAnyH_take (i := 12) (oi := { dst := some 146, op := Go.Op.move (Go.Operand.tmp 145), type := 4, pos := "law.go:152", after := #[{ on := 11, ground := Go.Ground.data }, { on := 9, ground := Go.Ground.chain }, { on := 9, ground := Go.Ground.guard }], guard := some (9, true) }) (v := ?_) rfl (by kernel_rfl) (by kernel_rfl) (by kernel_rfl) (fun _ _ _ h => h) (Or.inl ⟨by rfl, ?_⟩) hHeld ?_
                  rotate_left 1
                  · intro W hSw; obtain ⟨r1, r2, r3, r4⟩ := hR.out W (hwk.out.trans (hSw.mono hwk.out.size)); unfold val6 at r1 r2; obtain ⟨a0, a1, a2, a3, a4, a5, az⟩ := six_cells r1; obtain ⟨b0_, b1_, b2_, b3_, b4_, b5_, bz⟩ := six_cells r2; go_simp; try with_reducible rfl
                  try simp only [Act.put, List.setIfInBounds_toArray, List.set_cons_zero, List.set_cons_succ]
                  refine wpAnyH_take (i := 13) (oi := { dst := some 147, op := Go.Op.load 42 (Go.Operand.tmp 10), type := 42, pos := "law.go:152", after := #[{ on := 12, ground := Go.Ground.guard }], guard := some (12, false) }) (v := undef) rfl (by kernel_rfl) (by kernel_rfl) (by kernel_rfl) (fun _ _ _ h => h) (Or.inr ⟨by rfl, rfl⟩) hHeld ?_
                  try simp only [Act.put, List.setIfInBounds_toArray, List.set_cons_zero, List.set_cons_succ]
                  refine wpAnyH_take (i := 14) (oi := { dst := some 148, op := Go.Op.load 42 (Go.Operand.tmp 4), type := 42, pos := "law.go:152", after := #[{ on := 12, ground := Go.Ground.guard }], guard := some (12, false) }) (v := undef) rfl (by kernel_rfl) (by kernel_rfl) (by kernel_rfl) (fun _ _ _ h => h) (Or.inr ⟨by rfl, rfl⟩) hHeld ?_
                  try simp only [Act.put, List.setIfInBounds_toArray, List.set_cons_zero, List.set_cons_succ]
                  refine wpAnyH_take (i := 15) (oi := { dst := some 149, op := Go.Op.call { callee := Go.Callee.value (Go.Operand.func 36), args := #[Go.Operand.tmp 147, Go.Operand.tmp 148], argTypes := #[42, 42] }, type := 4, pos := "law.go:152", after := #[{ on := 13, ground := Go.Ground.data }, { on := 14, ground := Go.Ground.data }, { on := 12, ground := Go.Ground.chain }, { on := 12, ground := Go.Ground.guard }], guard := some (12, false) }) (v := undef) rfl (by kernel_rfl) (by kernel_rfl) (by kernel_rfl) (fun _ _ _ h => h) (Or.inr ⟨by rfl, rfl⟩) hHeld ?_
                  try simp only [Act.put, List.setIfInBounds_toArray, List.set_cons_zero, List.set_cons_succ]
                  refine wpAnyH_take (i := 16) (oi := { dst := some 150, op := Go.Op.pick (Go.Operand.tmp 146) (Go.Operand.const (Go.Value.bool true)) (Go.Operand.tmp 149), type := 4, pos := "law.go:152", after := #[{ on := 12, ground := Go.Ground.data }, { on := 15, ground := Go.Ground.data }, { on := 9, ground := Go.Ground.guard }], guard := some (9, true) }) (v := ?_) rfl (by kernel_rfl) (by kernel_rfl) (by kernel_rfl) (fun _ _ _ h => h) (Or.inl ⟨by rfl, ?_⟩) hHeld ?_
                  rotate_left 1
                  · intro W hSw; obtain ⟨r1, r2, r3, r4⟩ := hR.out W (hwk.out.trans (hSw.mono hwk.out.size)); unfold val6 at r1 r2; obtain ⟨a0, a1, a2, a3, a4, a5, az⟩ := six_cells r1; obtain ⟨b0_, b1_, b2_, b3_, b4_, b5_, bz⟩ := six_cells r2; go_simp; try with_reducible rfl
                  try simp only [Act.put, List.setIfInBounds_toArray, List.set_cons_zero, List.set_cons_succ]
                  refine wpAnyH_take (i := 17) (oi := { dst := some 151, op := Go.Op.pick (Go.Operand.tmp 143) (Go.Operand.tmp 150) (Go.Operand.const (Go.Value.bool false)), type := 4, pos := "law.go:152", after := #[{ on := 9, ground := Go.Ground.data }, { on := 16, ground := Go.Ground.data }], guard := none }) (v := ?_) rfl (by kernel_rfl) (by kernel_rfl) (by kernel_rfl) (fun _ _ _ h => h) (Or.inl ⟨by rfl, ?_⟩) hHeld ?_
                  rotate_left 1
                  · intro W hSw; obtain ⟨r1, r2, r3, r4⟩ := hR.out W (hwk.out.trans (hSw.mono hwk.out.size)); unfold val6 at r1 r2; obtain ⟨a0, a1, a2, a3, a4, a5, az⟩ := six_cells r1; obtain ⟨b0_, b1_, b2_, b3_, b4_, b5_, bz⟩ := six_cells r2; go_simp; try with_reducible rfl
                  try simp only [Act.put, List.setIfInBounds_toArray, List.set_cons_zero, List.set_cons_succ]
                  refine wpAnyH_take (i := 18) (oi := { dst := some 152, op := Go.Op.move (Go.Operand.tmp 151), type := 4, pos := "law.go:152", after := #[{ on := 17, ground := Go.Ground.data }, { on := 15, ground := Go.Ground.chain }], guard := none }) (v := ?_) rfl (by kernel_rfl) (by kernel_rfl) (by kernel_rfl) (fun _ _ _ h => h) (Or.inl ⟨by rfl, ?_⟩) hHeld ?_
                  rotate_left 1
                  · intro W hSw; obtain ⟨r1, r2, r3, r4⟩ := hR.out W (hwk.out.trans (hSw.mono hwk.out.size)); unfold val6 at r1 r2; obtain ⟨a0, a1, a2, a3, a4, a5, az⟩ := six_cells r1; obtain ⟨b0_, b1_, b2_, b3_, b4_, b5_, bz⟩ := six_cells r2; go_simp; try with_reducible rfl
                  try simp only [Act.put, List.setIfInBounds_toArray, List.set_cons_zero, List.set_cons_succ]
                  refine wpAnyH_ready (rs := [19]) (by kernel_rfl) (by simp) ?_
                  refine AllReadyH.cons (o := { dst := some 153, op := Go.Op.call { callee := Go.Callee.value (Go.Operand.func 33), args := #[], argTypes := #[] }, type := 4, pos := "law.go:152", after := #[{ on := 18, ground := Go.Ground.chain }, { on := 18, ground := Go.Ground.guard }], guard := some (18, true) }) rfl (fun K hK => ?_) AllReadyH.nil
                  go_simp
                  refine (hwo.out _ hHeld).mono ?_
                  rintro e wD ⟨rfl, hb_wD⟩
                  have hD := Lib.hid (Below.trans hHeld (hb_wD.mono (Below.size hHeld)))
                  go_simp
                  refine hK.out _ _ ?_ (fun hNew => ?_)
                  · exact hD.out
                  clear hK K hHeld
                  have hHeld := hNew
                  clear hNew
                  try simp only [Act.put, List.setIfInBounds_toArray, List.set_cons_zero, List.set_cons_succ]
                  refine wpAnyH_take (i := 20) (oi := { dst := some 154, op := Go.Op.pick (Go.Operand.tmp 152) (Go.Operand.tmp 153) (Go.Operand.const (Go.Value.bool false)), type := 4, pos := "law.go:152", after := #[{ on := 18, ground := Go.Ground.data }, { on := 19, ground := Go.Ground.data }], guard := none }) (v := ?_) rfl (by kernel_rfl) (by kernel_rfl) (by kernel_rfl) (fun _ _ _ h => h) (Or.inl ⟨by rfl, ?_⟩) hHeld ?_
                  rotate_left 1
                  · intro W hSw; obtain ⟨r1, r2, r3, r4⟩ := hR.out W (hwk.out.trans (hSw.mono hwk.out.size)); unfold val6 at r1 r2; obtain ⟨a0, a1, a2, a3, a4, a5, az⟩ := six_cells r1; obtain ⟨b0_, b1_, b2_, b3_, b4_, b5_, bz⟩ := six_cells r2; go_simp; try with_reducible rfl
                  try simp only [Act.put, List.setIfInBounds_toArray, List.set_cons_zero, List.set_cons_succ]
                  refine wpAnyH_ready (rs := [21]) (by kernel_rfl) (by simp) ?_
                  refine AllReadyH.cons (o := { dst := some 8, op := Go.Op.assign (Go.Operand.tmp 154), type := 4, pos := "law.go:152", after := #[{ on := 20, ground := Go.Ground.data }, { on := 19, ground := Go.Ground.chain }, { on := 0, ground := Go.Ground.phase }, { on := 1, ground := Go.Ground.phase }, { on := 2, ground := Go.Ground.phase }, { on := 3, ground := Go.Ground.phase }, { on := 4, ground := Go.Ground.phase }, { on := 5, ground := Go.Ground.phase }, { on := 6, ground := Go.Ground.phase }, { on := 7, ground := Go.Ground.phase }, { on := 8, ground := Go.Ground.phase }, { on := 9, ground := Go.Ground.phase }, { on := 10, ground := Go.Ground.phase }, { on := 11, ground := Go.Ground.phase }, { on := 12, ground := Go.Ground.phase }, { on := 13, ground := Go.Ground.phase }, { on := 14, ground := Go.Ground.phase }, { on := 15, ground := Go.Ground.phase }, { on := 16, ground := Go.Ground.phase }, { on := 17, ground := Go.Ground.phase }, { on := 18, ground := Go.Ground.phase }, { on := 19, ground := Go.Ground.phase }, { on := 20, ground := Go.Ground.phase }], guard := none }) rfl (fun K hK => ?_) AllReadyH.nil
                  go_simp
                  refine hK.out _ _ hHeld (fun hNew => ?_)
                  clear hK K hHeld
                  have hHeld := hNew
                  clear hNew
                  try simp only [Act.put, List.setIfInBounds_toArray, List.set_cons_zero, List.set_cons_succ]
                  refine wpAnyH_done (by kernel_rfl) ?_ _
                  refine hK0 _ _ ?_
                  clear hK0
                  go_wp2_with fail
                  go_ret
                  exact ⟨rfl, hk0.out _ hHeld⟩
                · have hmt := hst.out hbst.out.symm
                  obtain ⟨bb, hbb⟩ : ∃ bb, bb = eqV sameA m t := ⟨_, rfl⟩
                  rw [← hbb] at hsmT
                  have hbt : bb = true := by rw [hbb, hmt]; exact eqV_refl sameA sameA_refl t
                  clear hmt hbb
                  subst hbt
                  rename_i K0 hK0
                  refine wp_region_held_drew (S := (fun W => Below wc.heap.size wc W)) (by kernel_rfl) ((Below.refl wc.heap.size wc).drew) (fun hHeld => ?_)
                  refine wpAnyH_take (i := 0) (oi := { dst := some 134, op := Go.Op.move (Go.Operand.tmp 17), type := 3, pos := "law.go:152", after := #[], guard := none }) (v := ?_) rfl (by kernel_rfl) (by kernel_rfl) (by kernel_rfl) (fun _ _ _ h => h) (Or.inl ⟨by rfl, ?_⟩) hHeld ?_
                  rotate_left 1
                  · intro W hSw; obtain ⟨r1, r2, r3, r4⟩ := hR.out W (hwk.out.trans (hSw.mono hwk.out.size)); unfold val6 at r1 r2; obtain ⟨a0, a1, a2, a3, a4, a5, az⟩ := six_cells r1; obtain ⟨b0_, b1_, b2_, b3_, b4_, b5_, bz⟩ := six_cells r2; go_simp; try with_reducible rfl
                  try simp only [Act.put, List.setIfInBounds_toArray, List.set_cons_zero, List.set_cons_succ]
                  refine wpAnyH_take (i := 1) (oi := { dst := some 135, op := Go.Op.binOp Go.BinOp.geq 3 (Go.Operand.tmp 134) (Go.Operand.const (Go.Value.int Go.IntKind.i64 1)) 3, type := 4, pos := "law.go:152", after := #[{ on := 0, ground := Go.Ground.data }], guard := none }) (v := ?_) rfl (by kernel_rfl) (by kernel_rfl) (by kernel_rfl) (fun _ _ _ h => h) (Or.inl ⟨by rfl, ?_⟩) hHeld ?_
                  rotate_left 1
                  · intro W hSw; obtain ⟨r1, r2, r3, r4⟩ := hR.out W (hwk.out.trans (hSw.mono hwk.out.size)); unfold val6 at r1 r2; obtain ⟨a0, a1, a2, a3, a4, a5, az⟩ := six_cells r1; obtain ⟨b0_, b1_, b2_, b3_, b4_, b5_, bz⟩ := six_cells r2; go_simp; try with_reducible rfl
                  try simp only [Act.put, List.setIfInBounds_toArray, List.set_cons_zero, List.set_cons_succ]
                  refine wpAnyH_take (i := 2) (oi := { dst := some 136, op := Go.Op.move (Go.Operand.tmp 135), type := 4, pos := "law.go:152", after := #[{ on := 1, ground := Go.Ground.data }], guard := none }) (v := ?_) rfl (by kernel_rfl) (by kernel_rfl) (by kernel_rfl) (fun _ _ _ h => h) (Or.inl ⟨by rfl, ?_⟩) hHeld ?_
                  rotate_left 1
                  · intro W hSw; obtain ⟨r1, r2, r3, r4⟩ := hR.out W (hwk.out.trans (hSw.mono hwk.out.size)); unfold val6 at r1 r2; obtain ⟨a0, a1, a2, a3, a4, a5, az⟩ := six_cells r1; obtain ⟨b0_, b1_, b2_, b3_, b4_, b5_, bz⟩ := six_cells r2; go_simp; try with_reducible rfl
                  try simp only [Act.put, List.setIfInBounds_toArray, List.set_cons_zero, List.set_cons_succ]
                  refine wpAnyH_take (i := 3) (oi := { dst := some 137, op := Go.Op.load 42 (Go.Operand.tmp 10), type := 42, pos := "law.go:152", after := #[{ on := 2, ground := Go.Ground.guard }], guard := some (2, true) }) (v := ?_) rfl (by kernel_rfl) (by kernel_rfl) (by kernel_rfl) (fun _ _ _ h => h) (Or.inl ⟨by rfl, ?_⟩) hHeld ?_
                  rotate_left 1
                  · intro W hSw; obtain ⟨r1, r2, r3, r4⟩ := hR.out W (hwk.out.trans (hSw.mono hwk.out.size)); unfold val6 at r1 r2; obtain ⟨a0, a1, a2, a3, a4, a5, az⟩ := six_cells r1; obtain ⟨b0_, b1_, b2_, b3_, b4_, b5_, bz⟩ := six_cells r2; go_simp; try with_reducible rfl
                  try simp only [Act.put, List.setIfInBounds_toArray, List.set_cons_zero, List.set_cons_succ]
                  refine wpAnyH_take (i := 5) (oi := { dst := some 139, op := Go.Op.load 42 (Go.Operand.tmp 4), type := 42, pos := "law.go:152", after := #[{ on := 2, ground := Go.Ground.guard }], guard := some (2, true) }) (v := ?_) rfl (by kernel_rfl) (by kernel_rfl) (by kernel_rfl) (fun _ _ _ h => h) (Or.inl ⟨by rfl, ?_⟩) hHeld ?_
                  rotate_left 1
                  · intro W hSw; obtain ⟨r1, r2, r3, r4⟩ := hR.out W (hwk.out.trans (hSw.mono hwk.out.size)); unfold val6 at r1 r2; obtain ⟨a0, a1, a2, a3, a4, a5, az⟩ := six_cells r1; obtain ⟨b0_, b1_, b2_, b3_, b4_, b5_, bz⟩ := six_cells r2; go_simp; try with_reducible rfl
                  try simp only [Act.put, List.setIfInBounds_toArray, List.set_cons_zero, List.set_cons_succ]
                  refine wpAnyH_ready (rs := [4]) (by kernel_rfl) (by simp) ?_
                  refine AllReadyH.cons (o := { dst := some 138, op := Go.Op.call { callee := Go.Callee.value (Go.Operand.func 38), args := #[Go.Operand.tmp 137], argTypes := #[42] }, type := 3, pos := "law.go:152", after := #[{ on := 3, ground := Go.Ground.data }, { on := 2, ground := Go.Ground.chain }, { on := 2, ground := Go.Ground.guard }], guard := some (2, true) }) rfl (fun K hK => ?_) AllReadyH.nil
                  go_simp
                  refine (hcm.out _ hHeld).mono ?_
                  rintro e wA ⟨rfl, hb_wA⟩
                  have hA := Lib.hid (Below.trans hHeld (hb_wA.mono (Below.size hHeld)))
                  go_simp
                  refine hK.out _ _ ?_ (fun hNew => ?_)
                  · exact hA.out
                  clear hK K hHeld
                  have hHeld := hNew
                  clear hNew
                  try simp only [Act.put, List.setIfInBounds_toArray, List.set_cons_zero, List.set_cons_succ]
                  refine wpAnyH_ready (rs := [6]) (by kernel_rfl) (by simp) ?_
                  refine AllReadyH.cons (o := { dst := some 140, op := Go.Op.call { callee := Go.Callee.value (Go.Operand.func 38), args := #[Go.Operand.tmp 139], argTypes := #[42] }, type := 3, pos := "law.go:152", after := #[{ on := 5, ground := Go.Ground.data }, { on := 4, ground := Go.Ground.chain }, { on := 2, ground := Go.Ground.guard }], guard := some (2, true) }) rfl (fun K hK => ?_) AllReadyH.nil
                  go_simp
                  refine (hct.out _ hHeld).mono ?_
                  rintro e wB ⟨rfl, hb_wB⟩
                  have hB := Lib.hid (Below.trans hHeld (hb_wB.mono (Below.size hHeld)))
                  go_simp
                  refine hK.out _ _ ?_ (fun hNew => ?_)
                  · exact hB.out
                  clear hK K hHeld
                  have hHeld := hNew
                  clear hNew
                  try simp only [Act.put, List.setIfInBounds_toArray, List.set_cons_zero, List.set_cons_succ]
                  refine wpAnyH_take (i := 7) (oi := { dst := some 141, op := Go.Op.binOp Go.BinOp.eql 3 (Go.Operand.tmp 138) (Go.Operand.tmp 140) 3, type := 4, pos := "law.go:152", after := #[{ on := 4, ground := Go.Ground.data }, { on := 6, ground := Go.Ground.data }, { on := 2, ground := Go.Ground.guard }], guard := some (2, true) }) (v := ?_) rfl (by kernel_rfl) (by kernel_rfl) (by kernel_rfl) (fun _ _ _ h => h) (Or.inl ⟨by rfl, ?_⟩) hHeld ?_
                  rotate_left 1
                  · intro W hSw; obtain ⟨r1, r2, r3, r4⟩ := hR.out W (hwk.out.trans (hSw.mono hwk.out.size)); unfold val6 at r1 r2; obtain ⟨a0, a1, a2, a3, a4, a5, az⟩ := six_cells r1; obtain ⟨b0_, b1_, b2_, b3_, b4_, b5_, bz⟩ := six_cells r2; go_simp; try with_reducible rfl
                  try simp only [Act.put, List.setIfInBounds_toArray, List.set_cons_zero, List.set_cons_succ]
                  refine wpAnyH_take (i := 8) (oi := { dst := some 142, op := Go.Op.pick (Go.Operand.tmp 136) (Go.Operand.tmp 141) (Go.Operand.const (Go.Value.bool false)), type := 4, pos := "law.go:152", after := #[{ on := 2, ground := Go.Ground.data }, { on := 7, ground := Go.Ground.data }], guard := none }) (v := ?_) rfl (by kernel_rfl) (by kernel_rfl) (by kernel_rfl) (fun _ _ _ h => h) (Or.inl ⟨by rfl, ?_⟩) hHeld ?_
                  rotate_left 1
                  · intro W hSw; obtain ⟨r1, r2, r3, r4⟩ := hR.out W (hwk.out.trans (hSw.mono hwk.out.size)); unfold val6 at r1 r2; obtain ⟨a0, a1, a2, a3, a4, a5, az⟩ := six_cells r1; obtain ⟨b0_, b1_, b2_, b3_, b4_, b5_, bz⟩ := six_cells r2; go_simp; try with_reducible rfl
                  try simp only [Act.put, List.setIfInBounds_toArray, List.set_cons_zero, List.set_cons_succ]
                  refine wpAnyH_take (i := 9) (oi := { dst := some 143, op := Go.Op.move (Go.Operand.tmp 142), type := 4, pos := "law.go:152", after := #[{ on := 8, ground := Go.Ground.data }, { on := 6, ground := Go.Ground.chain }], guard := none }) (v := ?_) rfl (by kernel_rfl) (by kernel_rfl) (by kernel_rfl) (fun _ _ _ h => h) (Or.inl ⟨by rfl, ?_⟩) hHeld ?_
                  rotate_left 1
                  · intro W hSw; obtain ⟨r1, r2, r3, r4⟩ := hR.out W (hwk.out.trans (hSw.mono hwk.out.size)); unfold val6 at r1 r2; obtain ⟨a0, a1, a2, a3, a4, a5, az⟩ := six_cells r1; obtain ⟨b0_, b1_, b2_, b3_, b4_, b5_, bz⟩ := six_cells r2; go_simp; try with_reducible rfl
                  try simp only [Act.put, List.setIfInBounds_toArray, List.set_cons_zero, List.set_cons_succ]
                  refine wpAnyH_take (i := 10) (oi := { dst := some 144, op := Go.Op.move (Go.Operand.tmp 23), type := 4, pos := "law.go:152", after := #[{ on := 9, ground := Go.Ground.guard }], guard := some (9, true) }) (v := ?_) rfl (by kernel_rfl) (by kernel_rfl) (by kernel_rfl) (fun _ _ _ h => h) (Or.inl ⟨by rfl, ?_⟩) hHeld ?_
                  rotate_left 1
                  · intro W hSw; obtain ⟨r1, r2, r3, r4⟩ := hR.out W (hwk.out.trans (hSw.mono hwk.out.size)); unfold val6 at r1 r2; obtain ⟨a0, a1, a2, a3, a4, a5, az⟩ := six_cells r1; obtain ⟨b0_, b1_, b2_, b3_, b4_, b5_, bz⟩ := six_cells r2; go_simp; try with_reducible rfl
                  try simp only [Act.put, List.setIfInBounds_toArray, List.set_cons_zero, List.set_cons_succ]
                  refine wpAnyH_take (i := 11) (oi := { dst := some 145, op := Go.Op.unOp Go.UnOp.not 4 (Go.Operand.tmp 144), type := 4, pos := "law.go:152", after := #[{ on := 10, ground := Go.Ground.data }, { on := 9, ground := Go.Ground.guard }], guard := some (9, true) }) (v := ?_) rfl (by kernel_rfl) (by kernel_rfl) (by kernel_rfl) (fun _ _ _ h => h) (Or.inl ⟨by rfl, ?_⟩) hHeld ?_
                  rotate_left 1
                  · intro W hSw; obtain ⟨r1, r2, r3, r4⟩ := hR.out W (hwk.out.trans (hSw.mono hwk.out.size)); unfold val6 at r1 r2; obtain ⟨a0, a1, a2, a3, a4, a5, az⟩ := six_cells r1; obtain ⟨b0_, b1_, b2_, b3_, b4_, b5_, bz⟩ := six_cells r2; go_simp; try with_reducible rfl
                  try simp only [Act.put, List.setIfInBounds_toArray, List.set_cons_zero, List.set_cons_succ]
                  refine wpAnyH_take (i := 12) (oi := { dst := some 146, op := Go.Op.move (Go.Operand.tmp 145), type := 4, pos := "law.go:152", after := #[{ on := 11, ground := Go.Ground.data }, { on := 9, ground := Go.Ground.chain }, { on := 9, ground := Go.Ground.guard }], guard := some (9, true) }) (v := ?_) rfl (by kernel_rfl) (by kernel_rfl) (by kernel_rfl) (fun _ _ _ h => h) (Or.inl ⟨by rfl, ?_⟩) hHeld ?_
                  rotate_left 1
                  · intro W hSw; obtain ⟨r1, r2, r3, r4⟩ := hR.out W (hwk.out.trans (hSw.mono hwk.out.size)); unfold val6 at r1 r2; obtain ⟨a0, a1, a2, a3, a4, a5, az⟩ := six_cells r1; obtain ⟨b0_, b1_, b2_, b3_, b4_, b5_, bz⟩ := six_cells r2; go_simp; try with_reducible rfl
                  try simp only [Act.put, List.setIfInBounds_toArray, List.set_cons_zero, List.set_cons_succ]
                  refine wpAnyH_take (i := 13) (oi := { dst := some 147, op := Go.Op.load 42 (Go.Operand.tmp 10), type := 42, pos := "law.go:152", after := #[{ on := 12, ground := Go.Ground.guard }], guard := some (12, false) }) (v := ?_) rfl (by kernel_rfl) (by kernel_rfl) (by kernel_rfl) (fun _ _ _ h => h) (Or.inl ⟨by rfl, ?_⟩) hHeld ?_
                  rotate_left 1
                  · intro W hSw; obtain ⟨r1, r2, r3, r4⟩ := hR.out W (hwk.out.trans (hSw.mono hwk.out.size)); unfold val6 at r1 r2; obtain ⟨a0, a1, a2, a3, a4, a5, az⟩ := six_cells r1; obtain ⟨b0_, b1_, b2_, b3_, b4_, b5_, bz⟩ := six_cells r2; go_simp; try with_reducible rfl
                  try simp only [Act.put, List.setIfInBounds_toArray, List.set_cons_zero, List.set_cons_succ]
                  refine wpAnyH_take (i := 14) (oi := { dst := some 148, op := Go.Op.load 42 (Go.Operand.tmp 4), type := 42, pos := "law.go:152", after := #[{ on := 12, ground := Go.Ground.guard }], guard := some (12, false) }) (v := ?_) rfl (by kernel_rfl) (by kernel_rfl) (by kernel_rfl) (fun _ _ _ h => h) (Or.inl ⟨by rfl, ?_⟩) hHeld ?_
                  rotate_left 1
                  · intro W hSw; obtain ⟨r1, r2, r3, r4⟩ := hR.out W (hwk.out.trans (hSw.mono hwk.out.size)); unfold val6 at r1 r2; obtain ⟨a0, a1, a2, a3, a4, a5, az⟩ := six_cells r1; obtain ⟨b0_, b1_, b2_, b3_, b4_, b5_, bz⟩ := six_cells r2; go_simp; try with_reducible rfl
                  try simp only [Act.put, List.setIfInBounds_toArray, List.set_cons_zero, List.set_cons_succ]
                  refine wpAnyH_ready (rs := [15]) (by kernel_rfl) (by simp) ?_
                  refine AllReadyH.cons (o := { dst := some 149, op := Go.Op.call { callee := Go.Callee.value (Go.Operand.func 36), args := #[Go.Operand.tmp 147, Go.Operand.tmp 148], argTypes := #[42, 42] }, type := 4, pos := "law.go:152", after := #[{ on := 13, ground := Go.Ground.data }, { on := 14, ground := Go.Ground.data }, { on := 12, ground := Go.Ground.chain }, { on := 12, ground := Go.Ground.guard }], guard := some (12, false) }) rfl (fun K hK => ?_) AllReadyH.nil
                  go_simp
                  refine (hsmT.out _ hHeld).mono ?_
                  rintro e wC ⟨rfl, hb_wC⟩
                  have hC := Lib.hid (Below.trans hHeld (hb_wC.mono (Below.size hHeld)))
                  go_simp
                  refine hK.out _ _ ?_ (fun hNew => ?_)
                  · exact hC.out
                  clear hK K hHeld
                  have hHeld := hNew
                  clear hNew
                  try simp only [Act.put, List.setIfInBounds_toArray, List.set_cons_zero, List.set_cons_succ]
                  refine wpAnyH_take (i := 16) (oi := { dst := some 150, op := Go.Op.pick (Go.Operand.tmp 146) (Go.Operand.const (Go.Value.bool true)) (Go.Operand.tmp 149), type := 4, pos := "law.go:152", after := #[{ on := 12, ground := Go.Ground.data }, { on := 15, ground := Go.Ground.data }, { on := 9, ground := Go.Ground.guard }], guard := some (9, true) }) (v := ?_) rfl (by kernel_rfl) (by kernel_rfl) (by kernel_rfl) (fun _ _ _ h => h) (Or.inl ⟨by rfl, ?_⟩) hHeld ?_
                  rotate_left 1
                  · intro W hSw; obtain ⟨r1, r2, r3, r4⟩ := hR.out W (hwk.out.trans (hSw.mono hwk.out.size)); unfold val6 at r1 r2; obtain ⟨a0, a1, a2, a3, a4, a5, az⟩ := six_cells r1; obtain ⟨b0_, b1_, b2_, b3_, b4_, b5_, bz⟩ := six_cells r2; go_simp; try with_reducible rfl
                  try simp only [Act.put, List.setIfInBounds_toArray, List.set_cons_zero, List.set_cons_succ]
                  refine wpAnyH_take (i := 17) (oi := { dst := some 151, op := Go.Op.pick (Go.Operand.tmp 143) (Go.Operand.tmp 150) (Go.Operand.const (Go.Value.bool false)), type := 4, pos := "law.go:152", after := #[{ on := 9, ground := Go.Ground.data }, { on := 16, ground := Go.Ground.data }], guard := none }) (v := ?_) rfl (by kernel_rfl) (by kernel_rfl) (by kernel_rfl) (fun _ _ _ h => h) (Or.inl ⟨by rfl, ?_⟩) hHeld ?_
                  rotate_left 1
                  · intro W hSw; obtain ⟨r1, r2, r3, r4⟩ := hR.out W (hwk.out.trans (hSw.mono hwk.out.size)); unfold val6 at r1 r2; obtain ⟨a0, a1, a2, a3, a4, a5, az⟩ := six_cells r1; obtain ⟨b0_, b1_, b2_, b3_, b4_, b5_, bz⟩ := six_cells r2; go_simp; try with_reducible rfl
                  try simp only [Act.put, List.setIfInBounds_toArray, List.set_cons_zero, List.set_cons_succ]
                  refine wpAnyH_take (i := 18) (oi := { dst := some 152, op := Go.Op.move (Go.Operand.tmp 151), type := 4, pos := "law.go:152", after := #[{ on := 17, ground := Go.Ground.data }, { on := 15, ground := Go.Ground.chain }], guard := none }) (v := ?_) rfl (by kernel_rfl) (by kernel_rfl) (by kernel_rfl) (fun _ _ _ h => h) (Or.inl ⟨by rfl, ?_⟩) hHeld ?_
                  rotate_left 1
                  · intro W hSw; obtain ⟨r1, r2, r3, r4⟩ := hR.out W (hwk.out.trans (hSw.mono hwk.out.size)); unfold val6 at r1 r2; obtain ⟨a0, a1, a2, a3, a4, a5, az⟩ := six_cells r1; obtain ⟨b0_, b1_, b2_, b3_, b4_, b5_, bz⟩ := six_cells r2; go_simp; try with_reducible rfl
                  try simp only [Act.put, List.setIfInBounds_toArray, List.set_cons_zero, List.set_cons_succ]
                  refine wpAnyH_ready (rs := [19]) (by kernel_rfl) (by simp) ?_
                  refine AllReadyH.cons (o := { dst := some 153, op := Go.Op.call { callee := Go.Callee.value (Go.Operand.func 33), args := #[], argTypes := #[] }, type := 4, pos := "law.go:152", after := #[{ on := 18, ground := Go.Ground.chain }, { on := 18, ground := Go.Ground.guard }], guard := some (18, true) }) rfl (fun K hK => ?_) AllReadyH.nil
                  go_simp
                  refine (hwo.out _ hHeld).mono ?_
                  rintro e wD ⟨rfl, hb_wD⟩
                  have hD := Lib.hid (Below.trans hHeld (hb_wD.mono (Below.size hHeld)))
                  go_simp
                  refine hK.out _ _ ?_ (fun hNew => ?_)
                  · exact hD.out
                  clear hK K hHeld
                  have hHeld := hNew
                  clear hNew
                  try simp only [Act.put, List.setIfInBounds_toArray, List.set_cons_zero, List.set_cons_succ]
                  refine wpAnyH_take (i := 20) (oi := { dst := some 154, op := Go.Op.pick (Go.Operand.tmp 152) (Go.Operand.tmp 153) (Go.Operand.const (Go.Value.bool false)), type := 4, pos := "law.go:152", after := #[{ on := 18, ground := Go.Ground.data }, { on := 19, ground := Go.Ground.data }], guard := none }) (v := ?_) rfl (by kernel_rfl) (by kernel_rfl) (by kernel_rfl) (fun _ _ _ h => h) (Or.inl ⟨by rfl, ?_⟩) hHeld ?_
                  rotate_left 1
                  · intro W hSw; obtain ⟨r1, r2, r3, r4⟩ := hR.out W (hwk.out.trans (hSw.mono hwk.out.size)); unfold val6 at r1 r2; obtain ⟨a0, a1, a2, a3, a4, a5, az⟩ := six_cells r1; obtain ⟨b0_, b1_, b2_, b3_, b4_, b5_, bz⟩ := six_cells r2; go_simp; try with_reducible rfl
                  try simp only [Act.put, List.setIfInBounds_toArray, List.set_cons_zero, List.set_cons_succ]
                  refine wpAnyH_ready (rs := [21]) (by kernel_rfl) (by simp) ?_
                  refine AllReadyH.cons (o := { dst := some 8, op := Go.Op.assign (Go.Operand.tmp 154), type := 4, pos := "law.go:152", after := #[{ on := 20, ground := Go.Ground.data }, { on := 19, ground := Go.Ground.chain }, { on := 0, ground := Go.Ground.phase }, { on := 1, ground := Go.Ground.phase }, { on := 2, ground := Go.Ground.phase }, { on := 3, ground := Go.Ground.phase }, { on := 4, ground := Go.Ground.phase }, { on := 5, ground := Go.Ground.phase }, { on := 6, ground := Go.Ground.phase }, { on := 7, ground := Go.Ground.phase }, { on := 8, ground := Go.Ground.phase }, { on := 9, ground := Go.Ground.phase }, { on := 10, ground := Go.Ground.phase }, { on := 11, ground := Go.Ground.phase }, { on := 12, ground := Go.Ground.phase }, { on := 13, ground := Go.Ground.phase }, { on := 14, ground := Go.Ground.phase }, { on := 15, ground := Go.Ground.phase }, { on := 16, ground := Go.Ground.phase }, { on := 17, ground := Go.Ground.phase }, { on := 18, ground := Go.Ground.phase }, { on := 19, ground := Go.Ground.phase }, { on := 20, ground := Go.Ground.phase }], guard := none }) rfl (fun K hK => ?_) AllReadyH.nil
                  go_simp
                  refine hK.out _ _ hHeld (fun hNew => ?_)
                  clear hK K hHeld
                  have hHeld := hNew
                  clear hNew
                  try simp only [Act.put, List.setIfInBounds_toArray, List.set_cons_zero, List.set_cons_succ]
                  refine wpAnyH_done (by kernel_rfl) ?_ _
                  refine hK0 _ _ ?_
                  clear hK0
                  go_wp2_with fail
                  go_ret
                  exact ⟨rfl, hk0.out _ hHeld⟩
        · have e1 : (vv != 0) = true := by simp [hv0]
          have e2 : (vv == 0) = false := by simp [hv0]
          go_wp2_with (go_at_call 33; go_loud (refine (works_any _).mono ?_; rintro e wz ⟨rfl, hbz⟩; have BZ := Lib.hid (Below.trans (B3.out) (hbz.mono (Below.size (B3.out)))); clear hbz))
          go_ret
          exact ⟨rfl, BZ.out⟩
      · have g3I : (100 : Int) < (n2 : Int) := by omega
        clear hop hx0 hx3 h2 k2
        go_wp2_with (go_at_call 33; go_loud (refine (works_any _).mono ?_; rintro e wz ⟨rfl, hbz⟩; have BZ := Lib.hid (Below.trans (B1.out) (hbz.mono (Below.size (B1.out)))); clear hbz))
        go_ret
        exact ⟨rfl, BZ.out⟩
    · have g2I : (100 : Int) < (n1 : Int) := by omega
      clear hop hx0 hx3 h2 k2
      go_wp2_with (go_at_call 33; go_loud (refine (works_any _).mono ?_; rintro e wz ⟨rfl, hbz⟩; have BZ := Lib.hid (Below.trans (B1.out) (hbz.mono (Below.size (B1.out)))); clear hbz))
      go_ret
      exact ⟨rfl, BZ.out⟩
  · have g1I : (600 : Int) < (x0 : Int) := by omega
    clear hop hx0 hx3 h2 k2
    go_wp2_with (go_at_call 33; go_loud (refine (works_any _).mono ?_; rintro e wz ⟨rfl, hbz⟩; have BZ := Lib.hid (Below.trans (B1.out) (hbz.mono (Below.size (B1.out)))); clear hbz))
    go_ret
    exact ⟨rfl, BZ.out⟩
end Go.Proofs.Ytpoenlhikanooaa.Top
