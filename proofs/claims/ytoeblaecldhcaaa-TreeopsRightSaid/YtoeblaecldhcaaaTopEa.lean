/- Right trees stay right, identities are counted: values. -/
import Derived.Test.YtoeblaecldhcaaaMgAM
import Derived.Test.YtoeblaecldhcaaaTreR
namespace Go.Proofs.Ytoeblaecldhcaaa.Top
open Go.RowKit
set_option maxRecDepth 20000
set_option linter.unusedVariables false

theorem idss_set : ∀ (l : List Nd) (j : Nat) (k z : Nd) (i : Nat), l[j]? = some k → (idssV (l.set j z)).count i + (idsV k).count i = (idssV l).count i + (idsV z).count i
  | [], j, k, z, i, h => by simp at h
  | a :: r, 0, k, z, i, h => by
    simp at h
    subst h
    show (idsV z ++ idssV r).count i + _ = (idsV a ++ idssV r).count i + _
    rw [List.count_append, List.count_append]
    omega
  | a :: r, j + 1, k, z, i, h => by
    have ih := idss_set r j k z i (by simpa using h)
    show (idsV a ++ idssV (r.set j z)).count i + _ = (idsV a ++ idssV r).count i + _
    rw [List.count_append, List.count_append]
    omega
theorem ids_with (t : Nd) (l : List Nd) : idsV (t.withKids l) = t.id :: idssV l := by cases t; simp [Nd.withKids, idsV, Nd.id]
theorem ids_put : ∀ (p : List Int) (t x ws a : Nd) (i : Nat), atV t p = some ws → putV t p x = some a → (idsV a).count i + (idsV ws).count i = (idsV t).count i + (idsV x).count i
  | [], t, x, ws, a, i, h, ha => by
    simp only [atV, Option.some.injEq] at h
    simp only [putV, Option.some.injEq] at ha
    subst h ha
    omega
  | c :: p, t, x, ws, a, i, h, ha => by
    obtain ⟨j, k, rfl, hk, hw⟩ := atV_cons h
    rw [putV_nat hk] at ha
    cases hb : putV k p x with
    | none => rw [hb] at ha; cases ha
    | some b =>
      rw [hb] at ha
      have ha : t.withKids (t.kids.set j b) = a := Option.some.inj ha
      have ih := ids_put p k x ws b i hw hb
      have hs := idss_set t.kids j k b i hk
      rw [← ha, ids_with, idsV_eq t, List.count_cons, List.count_cons]
      omega
theorem idss_ins (g : Nat) (x : Nd) (l : List Nd) (i : Nat) : (idssV (insK g x l)).count i = (idssV l).count i + (idsV x).count i := by
  have h := congrArg (fun m => (idssV m).count i) (List.take_append_drop g l)
  try dsimp only at h
  rw [idssV_append, List.count_append] at h
  unfold insK
  rw [idssV_append, List.count_append]
  show _ + (idsV x ++ idssV (l.drop g)).count i = _
  rw [List.count_append]
  omega
theorem idss_del (c : Nat) (x : Nd) (l : List Nd) (i : Nat) (h : l[c]? = some x) : (idssV (delK c l)).count i + (idsV x).count i = (idssV l).count i := by
  have hd : l.drop c = x :: l.drop (c + 1) := by
    have hl := (List.getElem?_eq_some_iff.1 h)
    obtain ⟨h1, h2⟩ := hl
    rw [List.drop_eq_getElem_cons h1, h2]
  have h2 := congrArg (fun m => (idssV m).count i) (List.take_append_drop c l)
  try dsimp only at h2
  rw [idssV_append, List.count_append, hd] at h2
  have h3 : (idssV (x :: l.drop (c + 1))).count i = (idsV x).count i + (idssV (l.drop (c + 1))).count i := by
    show (idsV x ++ idssV (l.drop (c + 1))).count i = _
    rw [List.count_append]
  unfold delK
  rw [idssV_append, List.count_append]
  omega
theorem ids_same {y z : Nd} (h1 : z.id = y.id) (h2 : z.kids = y.kids) : idsV z = idsV y := by rw [idsV_eq, idsV_eq, h1, h2]
/-- how often an identity is in the tree behind an operation -/
theorem ids_after {t : Nd} {o : Ov} (hf : faultV t o = 0) (i : Nat) :
    (idsV (afterV t o)).count i + (if o.kind = 2 then (idsV ((atV t o.path).getD Nd.zero)).count i else 0) = (idsV t).count i + (if o.kind = 1 ∧ i = o.id then 1 else 0) := by
  obtain ⟨hfm, hroot, x, hx, h1, h3, h6⟩ := fault_none hf
  have hmay := may_nat hfm
  rw [hx]
  have hput : ∀ z, z.id = x.id → z.kids = x.kids → ∀ a, putV t o.path z = some a → (idsV a).count i = (idsV t).count i := fun z e1 e2 a ha => by
    have := ids_put o.path t z x a i hx ha
    rw [ids_same e1 e2] at this
    omega
  by_cases k1 : o.kind = 1
  · obtain ⟨m, hm⟩ := mod_some (f := insK o.at_.toNat (.mk o.id o.leaf o.label [] [] [])) hx
    rw [show afterV t o = m by unfold afterV; rw [if_pos k1, hm]; rfl, if_neg (by omega)]
    rw [mod_at hx] at hm
    have h := ids_put o.path t _ x m i hx hm
    rw [ids_with, idsV_eq x, List.count_cons, List.count_cons, idss_ins] at h
    have hn : (idsV (.mk o.id o.leaf o.label [] [] [])).count i = if o.kind = 1 ∧ i = o.id then 1 else 0 := by
      rw [idsV_eq]
      show List.count i (o.id :: idssV []) = _
      rw [List.count_cons]
      show List.count i [] + _ = _
      by_cases e : o.id = i
      · rw [if_pos (by simpa using e), if_pos ⟨k1, e.symm⟩]; simp
      · rw [if_neg (by simpa using e), if_neg (fun hh => e hh.2.symm)]; simp
    rw [← hn]
    omega
  · rw [if_neg (show ¬ (o.kind = 1 ∧ i = o.id) from fun h => k1 h.1)]
    by_cases k2 : o.kind = 2
    · have hne : o.path ≠ [] := fun e => hroot ⟨.inl k2, e⟩
      obtain ⟨q, c, hq⟩ := path_last hne hmay
      have hx2 := hx
      rw [hq] at hx2
      obtain ⟨y, j, d1, d2, d3⟩ := at_parent q t x _ hx2
      obtain rfl : c = j := by omega
      obtain ⟨m, hm⟩ := mod_some (f := delK c) d1
      rw [show afterV t o = m by unfold afterV; rw [if_neg k1, if_pos k2, hq, delAt_snoc, hm]; rfl, if_pos k2]
      rw [mod_at d1] at hm
      have h := ids_put q t _ y m i d1 hm
      rw [ids_with, idsV_eq y, List.count_cons, List.count_cons] at h
      have h4 := idss_del c x y.kids i d3
      simp only [Option.getD_some]
      omega
    · rw [if_neg k2]
      by_cases k3 : o.kind = 3
      · have hne : o.path ≠ [] := fun e => hroot ⟨.inr k3, e⟩
        obtain ⟨q, c, hq⟩ := path_last hne hmay
        obtain ⟨hw, y, hy, hge⟩ := h3 k3
        have hfm3 := hfm
        unfold formedV at hfm3
        rw [if_neg k1, if_neg k2, if_pos k3] at hfm3
        simp only [Bool.and_eq_true] at hfm3
        obtain ⟨g, hg, hg1⟩ := gap_nat hfm3.2.1
        have hgl := (gap_none hge).2
        obtain ⟨m1, m2, y2, r, v1, v2, v3, v4, v5, v6, v7⟩ := move_value k3 hg hx hy hne hw (by omega)
        rw [v7]
        have h := ids_put _ m2 _ y2 r i v4 v6
        rw [ids_with, idsV_eq y2, List.count_cons, List.count_cons, idss_ins] at h
        have hx2 := hx
        rw [hq] at hx2
        obtain ⟨y3, j, d1, d2, d3⟩ := at_parent q t x _ hx2
        obtain rfl : c = j := by omega
        rw [hq, delAt_snoc, mod_at d1] at v3
        have h5 := ids_put q t _ y3 m2 i d1 v3
        rw [ids_with, idsV_eq y3, List.count_cons, List.count_cons] at h5
        have h4 := idss_del c x y3.kids i d3
        omega
      · have hfin : ∀ z, z.id = x.id → z.kids = x.kids → (idsV ((putV t o.path z).getD Nd.zero)).count i = (idsV t).count i := fun z e1 e2 => by
          obtain ⟨a, ha, -⟩ := put_all o.path t z x hx
          rw [ha]
          exact hput z e1 e2 a ha
        by_cases k4 : o.kind = 4
        · rw [show afterV t o = (putV t o.path (attN x (docA o.key o.value x.attrs o.gone))).getD Nd.zero by unfold afterV; rw [if_neg k1, if_neg k2, if_neg k3, if_pos k4, hx]; rfl]
          exact hfin _ (attN_id _ _).1 (attN_id _ _).2.2.2.2.2
        · by_cases k5 : o.kind = 5
          · rw [show afterV t o = (putV t o.path (labN x o.label)).getD Nd.zero by unfold afterV; rw [if_neg k1, if_neg k2, if_neg k3, if_neg k4, if_pos k5, hx]; rfl]
            exact hfin _ (labN_id _ _).1 (labN_id _ _).2.2.2.2.2
          · rw [show afterV t o = (putV t o.path (textN x (Ltx.apply x.text (pcs o.pieces)))).getD Nd.zero by unfold afterV; rw [if_neg k1, if_neg k2, if_neg k3, if_neg k4, if_neg k5, hx]; rfl]
            exact hfin _ (textN_id _ _).1 (textN_id _ _).2.2.2.2.2
/-- is a node right by itself, its children aside? -/
theorem alone_iff (t : Nd) : aloneOk ltB t = true ↔ t.label.length ≤ 64 ∧ attrsOk ltB [] t.attrs = true ∧ (t.leaf = true → t.kids = []) ∧ (t.leaf = false → t.text = []) := by
  unfold aloneOk
  cases t.leaf <;> simp [and_assoc]
theorem rightss_iff : ∀ l : List Nd, rightssV ltB l = true ↔ ∀ k ∈ l, rightsV ltB k = true
  | [] => by simp [rightssV]
  | k :: r => by rw [rightssV, Bool.and_eq_true, rightss_iff r]; simp
theorem rights_iff (t : Nd) : rightsV ltB t = true ↔ aloneOk ltB t = true ∧ ∀ k ∈ t.kids, rightsV ltB k = true := by
  rw [rightsV_eq, Bool.and_eq_true, rightss_iff]
theorem with_alone (t : Nd) (l : List Nd) (h : aloneOk ltB t = true) (hl : t.leaf = false ∨ l = []) : aloneOk ltB (t.withKids l) = true := by
  rw [alone_iff] at h ⊢
  obtain ⟨-, e2, e3, e4, e5⟩ := with_id t l
  rw [e2, e3, e4, e5, with_kids]
  refine ⟨h.1, h.2.1, fun hh => ?_, h.2.2.2⟩
  rcases hl with hl | hl
  · rw [hl] at hh; cases hh
  · exact hl
theorem rights_put : ∀ (p : List Int) (t z ws a : Nd), rightsV ltB t = true → rightsV ltB z = true → atV t p = some ws → z.leaf = ws.leaf → putV t p z = some a → rightsV ltB a = true ∧ a.leaf = t.leaf
  | [], t, z, ws, a, ht, hz, h, hlf, ha => by
    simp only [atV, Option.some.injEq] at h
    simp only [putV, Option.some.injEq] at ha
    subst h ha
    exact ⟨hz, hlf⟩
  | c :: p, t, z, ws, a, ht, hz, h, hlf, ha => by
    obtain ⟨j, k, rfl, hk, hw⟩ := atV_cons h
    rw [putV_nat hk] at ha
    cases hb : putV k p z with
    | none => rw [hb] at ha; cases ha
    | some b =>
      rw [hb] at ha
      have ha : t.withKids (t.kids.set j b) = a := Option.some.inj ha
      rw [rights_iff] at ht
      have ih := (rights_put p k z ws b (ht.2 k (List.mem_of_getElem? hk)) hz hw hlf hb).1
      have hlt : t.leaf = false := by
        have h1 := ((alone_iff t).1 ht.1).2.2.1
        cases hh : t.leaf with
        | false => rfl
        | true => rw [h1 hh] at hk; simp at hk
      rw [← ha]
      refine ⟨(rights_iff _).2 ⟨with_alone t _ ht.1 (.inl hlt), fun m hm => ?_⟩, (with_id t _).2.1⟩
      rw [with_kids] at hm
      rcases List.mem_or_eq_of_mem_set hm with hm | hm
      · exact ht.2 m hm
      · rw [hm]; exact ih
theorem rights_del {t m : Nd} {p : List Int} (ht : rightsV ltB t = true) (h : delAt t p = some m) : rightsV ltB m = true ∧ m.leaf = t.leaf := by
  cases p with
  | nil => cases h
  | cons a r =>
    have h : modV t ((a :: r).dropLast) (delK ((a :: r).getLast (by simp)).toNat) = some m := h
    generalize (a :: r).dropLast = q at h
    generalize ((a :: r).getLast (by simp)).toNat = c at h
    cases hy : atV t q with
    | none => unfold modV at h; rw [hy] at h; cases h
    | some y =>
      rw [mod_at hy] at h
      have hry := (rights_iff y).1 (rights_at q t y ht hy)
      refine rights_put q t _ y m ht ((rights_iff _).2 ⟨with_alone y _ hry.1 ?_, fun k hk => ?_⟩) hy (with_id y _).2.1 h
      · cases hl : y.leaf with
        | false => exact .inl rfl
        | true => rw [((alone_iff y).1 hry.1).2.2.1 hl]; exact .inr (by simp [delK])
      · rw [with_kids] at hk
        unfold delK at hk
        rw [List.mem_append] at hk
        rcases hk with hk | hk
        · exact hry.2 k (List.mem_of_mem_take hk)
        · exact hry.2 k (List.mem_of_mem_drop hk)
theorem rights_ins {t m y x : Nd} {p : List Int} {g : Nat} (ht : rightsV ltB t = true) (hx : rightsV ltB x = true) (hy : atV t p = some y) (hl : y.leaf = false) (h : modV t p (insK g x) = some m) : rightsV ltB m = true ∧ m.leaf = t.leaf := by
  rw [mod_at hy] at h
  have hry := (rights_iff y).1 (rights_at p t y ht hy)
  refine rights_put p t _ y m ht ((rights_iff _).2 ⟨with_alone y _ hry.1 (.inl hl), fun k hk => ?_⟩) hy (with_id y _).2.1 h
  rw [with_kids] at hk
  unfold insK at hk
  rw [List.mem_append, List.mem_cons] at hk
  rcases hk with hk | hk | hk
  · exact hry.2 k (List.mem_of_mem_take hk)
  · rw [hk]; exact hx
  · exact hry.2 k (List.mem_of_mem_drop hk)
theorem docA_gone (k v u : Txt) : ∀ l : List (Txt × Txt), docA k v l true = docA k u l true
  | [] => rfl
  | a :: r => by
    show (if !true && _ then _ else _) ++ (_ ++ docA k v r (true || _)) = (if !true && _ then _ else _) ++ (_ ++ docA k u r (true || _))
    rw [Bool.true_or, docA_gone k v u r]
    simp
/-- what a valid operation makes of a right tree is right -/
theorem right_after {t : Nd} {o : Ov} (hr : rightV ltB t = true) (hf : faultV t o = 0) : rightV ltB (afterV t o) = true := by
  unfold rightV at hr ⊢
  rw [Bool.and_eq_true] at hr ⊢
  obtain ⟨hl, hr⟩ := hr
  suffices h : rightsV ltB (afterV t o) = true ∧ (afterV t o).leaf = t.leaf by
    rw [h.2]
    exact ⟨hl, h.1⟩
  obtain ⟨hfm, hroot, x, hx, h1, h3, h6⟩ := fault_none hf
  have hmay := may_nat hfm
  have hrx := (rights_iff x).1 (rights_at _ _ _ hr hx)
  have hax := (alone_iff x).1 hrx.1
  by_cases k1 : o.kind = 1
  · obtain ⟨m, hm⟩ := mod_some (f := insK o.at_.toNat (.mk o.id o.leaf o.label [] [] [])) hx
    rw [show afterV t o = m by unfold afterV; rw [if_pos k1, hm]; rfl]
    have hll : o.label.length ≤ 64 := by
      have hh := hfm
      unfold formedV at hh
      rw [if_pos k1] at hh
      simp only [Bool.and_eq_true] at hh
      exact of_decide_eq_true hh.2.2
    refine rights_ins (x := .mk o.id o.leaf o.label [] [] []) hr ((rights_iff _).2 ⟨(alone_iff _).2 ⟨hll, rfl, fun _ => rfl, fun _ => rfl⟩, fun k hk => by cases hk⟩) hx (gap_none (h1 k1)).1 hm
  · by_cases k2 : o.kind = 2
    · have hne : o.path ≠ [] := fun e => hroot ⟨.inl k2, e⟩
      obtain ⟨q, c, hq⟩ := path_last hne hmay
      have hx2 := hx
      rw [hq] at hx2
      obtain ⟨y, m, d1, d2, d3, d4, -⟩ := del_all hx2
      rw [show afterV t o = m by unfold afterV; rw [if_neg k1, if_pos k2, hq, d4]; rfl]
      exact rights_del hr d4
    · by_cases k3 : o.kind = 3
      · have hne : o.path ≠ [] := fun e => hroot ⟨.inr k3, e⟩
        obtain ⟨hw, y, hy, hge⟩ := h3 k3
        have hfm3 := hfm
        unfold formedV at hfm3
        rw [if_neg k1, if_neg k2, if_pos k3] at hfm3
        simp only [Bool.and_eq_true] at hfm3
        obtain ⟨g, hg, hg1⟩ := gap_nat hfm3.2.1
        obtain ⟨m1, m2, y2, r, v1, v2, v3, v4, v5, v6, v7⟩ := move_value k3 hg hx hy hne hw (by have := (gap_none hge).2; omega)
        rw [v7]
        have e1 := rights_ins hr (rights_at _ _ _ hr hx) hy (gap_none hge).1 v1
        have e2 := rights_del e1.1 v2
        exact ⟨e2.1, e2.2.trans e1.2⟩
      · have hfin : ∀ z, rightsV ltB z = true → z.leaf = x.leaf → rightsV ltB ((putV t o.path z).getD Nd.zero) = true ∧ ((putV t o.path z).getD Nd.zero).leaf = t.leaf := fun z e1 e2 => by
          obtain ⟨a, ha, -⟩ := put_all o.path t z x hx
          rw [ha]
          exact rights_put o.path t z x a hr e1 hx e2 ha
        by_cases k4 : o.kind = 4
        · rw [show afterV t o = (putV t o.path (attN x (docA o.key o.value x.attrs o.gone))).getD Nd.zero by unfold afterV; rw [if_neg k1, if_neg k2, if_neg k3, if_pos k4, hx]; rfl]
          obtain ⟨e1, e2, e3, e4, e5, e6⟩ := attN_id x (docA o.key o.value x.attrs o.gone)
          refine hfin _ ((rights_iff _).2 ⟨(alone_iff _).2 ⟨by rw [e3]; exact hax.1, ?_, by rw [e2, e6]; exact hax.2.2.1, by rw [e2, e4]; exact hax.2.2.2⟩, by rw [e6]; exact hrx.2⟩) e2
          rw [e5]
          have hh := hfm
          unfold formedV at hh
          rw [if_neg k1, if_neg k2, if_neg k3, if_pos k4] at hh
          simp only [Bool.and_eq_true, Bool.or_eq_true] at hh
          have hkb : ltB [] o.key = true := by
            have := of_decide_eq_true (show decide (1 ≤ o.key.length ∧ o.key.length ≤ 64) = true from hh.2.1)
            rw [lt_iff]
            cases hk : o.key with
            | nil => rw [hk] at this; simp at this
            | cons a r => simp [Op.bytesLess]
          cases hg : o.gone with
          | true => rw [docA_gone o.key o.value []]; exact doc_ok o.key [] hh.2.1 (by decide) _ _ _ hax.2.1 (fun e => by cases e)
          | false =>
            refine doc_ok o.key o.value hh.2.1 ?_ _ _ _ hax.2.1 (fun _ => hkb)
            rcases hh.2.2 with e | e
            · rw [hg] at e; cases e
            · exact of_decide_eq_true e
        · by_cases k5 : o.kind = 5
          · rw [show afterV t o = (putV t o.path (labN x o.label)).getD Nd.zero by unfold afterV; rw [if_neg k1, if_neg k2, if_neg k3, if_neg k4, if_pos k5, hx]; rfl]
            obtain ⟨e1, e2, e3, e4, e5, e6⟩ := labN_id x o.label
            have hh := hfm
            unfold formedV at hh
            rw [if_neg k1, if_neg k2, if_neg k3, if_neg k4, if_pos k5] at hh
            simp only [Bool.and_eq_true] at hh
            exact hfin _ ((rights_iff _).2 ⟨(alone_iff _).2 ⟨by rw [e3]; exact of_decide_eq_true hh.2, by rw [e5]; exact hax.2.1, by rw [e2, e6]; exact hax.2.2.1, by rw [e2, e4]; exact hax.2.2.2⟩, by rw [e6]; exact hrx.2⟩) e2
          · have k6 := form_kind hfm k1 k2 k3 k4 k5
            rw [show afterV t o = (putV t o.path (textN x (Ltx.apply x.text (pcs o.pieces)))).getD Nd.zero by unfold afterV; rw [if_neg k1, if_neg k2, if_neg k3, if_neg k4, if_neg k5, hx]; rfl]
            obtain ⟨e1, e2, e3, e4, e5, e6⟩ := textN_id x (Ltx.apply x.text (pcs o.pieces))
            have hlf := (edit_none (h6 k6)).1
            exact hfin _ ((rights_iff _).2 ⟨(alone_iff _).2 ⟨by rw [e3]; exact hax.1, by rw [e5]; exact hax.2.1, by rw [e2, e6]; exact hax.2.2.1, by rw [e2, hlf]; intro e; cases e⟩, by rw [e6]; exact hrx.2⟩) e2
/-- how many nodes the tree behind an operation has, how much it weighs -/
theorem size_after {t : Nd} {o : Ov} (hf : faultV t o = 0) : countV (afterV t o) + (if o.kind = 2 then countV ((atV t o.path).getD Nd.zero) else 0) = countV t + (if o.kind = 1 then 1 else 0) := by
  obtain ⟨hfm, hroot, x, hx, h1, h3, h6⟩ := fault_none hf
  have hmay := may_nat hfm
  have cins : ∀ (g : Nat) (x : Nd) (l : List Nd), countsV (insK g x l) = countsV l + countV x := fun g x l => by
    have h := congrArg countsV (List.take_append_drop g l)
    rw [countsV_append] at h
    unfold insK
    rw [countsV_append]
    show _ + (countV x + countsV (l.drop g)) = _
    omega
  have cdel : ∀ (c : Nat) (x : Nd) (l : List Nd), l[c]? = some x → countsV (delK c l) + countV x = countsV l := fun c x l h => by
    have hd : l.drop c = x :: l.drop (c + 1) := by
      obtain ⟨h1, h2⟩ := List.getElem?_eq_some_iff.1 h
      rw [List.drop_eq_getElem_cons h1, h2]
    have h2 := congrArg countsV (List.take_append_drop c l)
    rw [countsV_append, hd] at h2
    have h3 : countsV (x :: l.drop (c + 1)) = countV x + countsV (l.drop (c + 1)) := rfl
    unfold delK
    rw [countsV_append]
    omega
  rw [hx]
  simp only [Option.getD_some]
  by_cases k1 : o.kind = 1
  · rw [show afterV t o = (putV t o.path (x.withKids (insK o.at_.toNat (.mk o.id o.leaf o.label [] [] []) x.kids))).getD Nd.zero by unfold afterV; rw [if_pos k1, mod_at hx]]
    obtain ⟨a, p1, -, -, p4, -⟩ := put_all o.path t (x.withKids (insK o.at_.toNat (.mk o.id o.leaf o.label [] [] []) x.kids)) x hx
    rw [p1, if_neg (by omega), if_pos k1]
    rw [countV_with, countV_eq x, cins] at p4
    have : countV (.mk o.id o.leaf o.label [] [] []) = 1 := by simp [countV, countsV]
    simp only [Option.getD_some]
    omega
  · rw [if_neg k1]
    by_cases k2 : o.kind = 2
    · have hne : o.path ≠ [] := fun e => hroot ⟨.inl k2, e⟩
      obtain ⟨q, c, hq⟩ := path_last hne hmay
      have hx2 := hx
      rw [hq] at hx2
      obtain ⟨y, j, d1, d2, d3⟩ := at_parent q t x _ hx2
      obtain rfl : c = j := by omega
      obtain ⟨a, p1, -, -, p4, -⟩ := put_all q t (y.withKids (delK c y.kids)) y d1
      rw [show afterV t o = a by unfold afterV; rw [if_neg k1, if_pos k2, hq, delAt_snoc, mod_at d1, p1]; rfl, if_pos k2]
      rw [countV_with, countV_eq y] at p4
      have := cdel c x y.kids d3
      omega
    · rw [if_neg k2]
      by_cases k3 : o.kind = 3
      · have hne : o.path ≠ [] := fun e => hroot ⟨.inr k3, e⟩
        obtain ⟨q, c, hq⟩ := path_last hne hmay
        obtain ⟨hw, y, hy, hge⟩ := h3 k3
        have hfm3 := hfm
        unfold formedV at hfm3
        rw [if_neg k1, if_neg k2, if_pos k3] at hfm3
        simp only [Bool.and_eq_true] at hfm3
        obtain ⟨g, hg, hg1⟩ := gap_nat hfm3.2.1
        obtain ⟨m1, m2, y2, r, v1, v2, v3, v4, v5, v6, v7⟩ := move_value k3 hg hx hy hne hw (by have := (gap_none hge).2; omega)
        rw [v7]
        obtain ⟨a, p1, -, -, p4, -⟩ := put_all _ m2 (y2.withKids (insK (progTo o.path o.to_ g).2 x y2.kids)) y2 v4
        obtain rfl : r = a := Option.some.inj (v6.symm.trans p1)
        rw [countV_with, countV_eq y2, cins] at p4
        have hx2 := hx
        rw [hq] at hx2
        obtain ⟨y3, j, d1, d2, d3⟩ := at_parent q t x _ hx2
        obtain rfl : c = j := by omega
        obtain ⟨b, p6, -, -, p7, -⟩ := put_all q t (y3.withKids (delK c y3.kids)) y3 d1
        rw [hq, delAt_snoc, mod_at d1] at v3
        obtain rfl : b = m2 := Option.some.inj (p6.symm.trans v3)
        rw [countV_with, countV_eq y3] at p7
        have := cdel c x y3.kids d3
        omega
      · have hfin : ∀ z : Nd, z.kids = x.kids → countV ((putV t o.path z).getD Nd.zero) = countV t := fun z e => by
          obtain ⟨a, p1, -, -, p4, -⟩ := put_all o.path t z x hx
          rw [p1]
          simp only [Option.getD_some]
          rw [countV_eq z, countV_eq x, e] at p4
          omega
        by_cases k4 : o.kind = 4
        · rw [show afterV t o = (putV t o.path (attN x (docA o.key o.value x.attrs o.gone))).getD Nd.zero by unfold afterV; rw [if_neg k1, if_neg k2, if_neg k3, if_pos k4, hx]; rfl]
          have := hfin _ (attN_id x (docA o.key o.value x.attrs o.gone)).2.2.2.2.2
          omega
        · by_cases k5 : o.kind = 5
          · rw [show afterV t o = (putV t o.path (labN x o.label)).getD Nd.zero by unfold afterV; rw [if_neg k1, if_neg k2, if_neg k3, if_neg k4, if_pos k5, hx]; rfl]
            have := hfin _ (labN_id x o.label).2.2.2.2.2
            omega
          · rw [show afterV t o = (putV t o.path (textN x (Ltx.apply x.text (pcs o.pieces)))).getD Nd.zero by unfold afterV; rw [if_neg k1, if_neg k2, if_neg k3, if_neg k4, if_neg k5, hx]; rfl]
            have := hfin _ (textN_id x (Ltx.apply x.text (pcs o.pieces))).2.2.2.2.2
            omega
end Go.Proofs.Ytoeblaecldhcaaa.Top
