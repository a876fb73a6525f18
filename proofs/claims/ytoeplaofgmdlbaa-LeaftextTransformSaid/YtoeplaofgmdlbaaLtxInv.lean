/- What undoes an edit; how many bytes an edit behind another one tells of. -/
import Derived.Test.YtoeplaofgmdlbaaLtxSq
namespace Go.Proofs.Ytoeplaofgmdlbaa.Ltx

/-- what undoes an edit of a text, piece by piece -/
def inv : List UInt8 → List Pc → List Pc
  | _, [] => []
  | t, p :: r => ⟨p.keep, p.put.length, (t.drop p.keep).take p.drop⟩ :: inv (t.drop (p.keep + p.drop)) r
theorem inv_back : ∀ (l : List Pc) (t : List UInt8), extent l ≤ t.length → apply (apply t l) (inv t l) = t
  | [], t, _ => rfl
  | p :: r, t, h => by
    unfold extent at h
    have ih := inv_back r (t.drop (p.keep + p.drop)) (by rw [List.length_drop]; omega)
    have hl : (t.take p.keep).length = p.keep := by rw [List.length_take]; omega
    rw [apply, inv, apply]
    dsimp only
    have e1 : (t.take p.keep ++ p.put ++ apply (t.drop (p.keep + p.drop)) r).take p.keep = t.take p.keep := by
      rw [List.append_assoc, List.take_left' hl]
    have e2 : (t.take p.keep ++ p.put ++ apply (t.drop (p.keep + p.drop)) r).drop (p.keep + p.put.length) = apply (t.drop (p.keep + p.drop)) r := by
      rw [List.drop_left' (by rw [List.length_append, hl])]
    rw [e1, e2, ih, List.append_assoc, ← List.drop_drop, List.take_append_drop, List.take_append_drop]
theorem inv_extent : ∀ (l : List Pc) (t : List UInt8), extent l ≤ t.length → extent (inv t l) ≤ (apply t l).length
  | [], t, _ => Nat.zero_le _
  | p :: r, t, h => by
    unfold extent at h
    have ih := inv_extent r (t.drop (p.keep + p.drop)) (by rw [List.length_drop]; omega)
    rw [inv, extent, apply]
    simp only [List.length_append, List.length_take]
    omega
/-- undone, and made normal -/
theorem inv_norm (l : List Pc) (t : List UInt8) (h : extent l ≤ t.length) : apply (apply t l) (norm (inv t (norm l))) = t := by
  have hn : extent (norm l) ≤ t.length := Nat.le_trans (extent_norm l) h
  rw [apply_norm, ← apply_norm l t]
  exact inv_back (norm l) t hn

/-! ### an edit behind another one fits what that one leaves -/
theorem behind_extent (pa pb : Nat → List UInt8) (da db : Nat → Bool) (first : Bool) : ∀ (t : List UInt8) (i : Nat), extent (behind pa pb da db first t.length i) = (flat pb db t i).length
  | [], i => by
    rw [flat, List.length_nil, behind]
    unfold ends
    cases first <;> simp [extent]
  | c :: t, i => by
    have ih := behind_extent pa pb da db first t (i + 1)
    rw [flat, List.length_cons, behind, extent_append, extent_append, ih]
    simp only [List.length_append]
    have h1 : extent (ends pa pb first i) = (pb i).length := by unfold ends; cases first <;> simp [extent]
    have h2 : extent (mid da db i) = (if db i then ([] : List UInt8) else [c]).length := by
      unfold mid
      cases db i <;> cases da i <;> simp [extent]
    rw [h1, h2]
/-- behind what a text's places tell, the rest of a longer one: nothing more happens -/
theorem behind_longer (pa pb : Nat → List UInt8) (da db : Nat → Bool) (first : Bool) (n : Nat) (hpa : ∀ i, n < i → pa i = []) (hpb : ∀ i, n < i → pb i = []) (hda : ∀ i, n ≤ i → da i = false) (hdb : ∀ i, n ≤ i → db i = false) :
    ∀ (k i : Nat), n ≤ i + k → ∀ m, norm (behind pa pb da db first (k + m) i) = norm (behind pa pb da db first k i) := by
  intro k i hn m
  refine norm_ext ?_
  have hidle : ∀ (l e : List Pc), (∀ p ∈ e, idle p = true) → ∀ j, gap (l ++ e) j = gap l j := by
    intro l e he j
    have hz : ∀ (e : List Pc), (∀ p ∈ e, idle p = true) → ∀ j, gap e j = ([], 0) := by
      intro e
      induction e with
      | nil => intro _ j; rfl
      | cons p r ih =>
        intro h j
        have hp : p.put = [] ∧ p.drop = 0 := by
          have := h p List.mem_cons_self
          unfold idle at this
          simpa using this
        have hr := ih fun q hq => h q (List.mem_cons_of_mem _ hq)
        unfold gap
        rw [hr, hr, hp.1, hp.2]
        split
        · rfl
        · split <;> rfl
    rw [gap_append, hz e he, hz e he]
    split
    · rfl
    · split
      · simp
      · exact (gap_far l j (by omega)).symm
  have hmore : ∀ (m i : Nat), n < i → ∀ p ∈ behind pa pb da db first m i, idle p = true := by
    intro m
    induction m with
    | zero =>
      intro i hi p hp
      rw [behind] at hp
      unfold ends at hp
      rw [hpa i hi, hpb i hi] at hp
      cases first <;> simp at hp <;> rcases hp with rfl | rfl <;> rfl
    | succ m ih =>
      intro i hi p hp
      rw [behind, List.mem_append, List.mem_append] at hp
      rcases hp with (hp | hp) | hp
      · unfold ends at hp
        rw [hpa i hi, hpb i hi] at hp
        cases first <;> simp at hp <;> rcases hp with rfl | rfl <;> rfl
      · unfold mid at hp
        rw [hdb i (by omega), hda i (by omega)] at hp
        simp at hp
        subst hp
        rfl
      · exact ih (i + 1) (by omega) p hp
  have hex : ∀ (k i : Nat), n ≤ i + k → ∃ e, behind pa pb da db first (k + m) i = behind pa pb da db first k i ++ e ∧ ∀ p ∈ e, idle p = true := by
    intro k
    induction k with
    | zero =>
      intro i hi
      cases m with
      | zero => exact ⟨[], by simp, fun p hp => by cases hp⟩
      | succ m =>
        refine ⟨mid da db i ++ behind pa pb da db first m (i + 1), ?_, fun p hp => ?_⟩
        · rw [Nat.zero_add, behind, behind, List.append_assoc]
        · rcases List.mem_append.1 hp with hp | hp
          · unfold mid at hp
            rw [hdb i (by omega), hda i (by omega)] at hp
            simp at hp
            subst hp
            rfl
          · exact hmore m (i + 1) (by omega) p hp
    | succ k ih =>
      intro i hi
      obtain ⟨e, he, hid⟩ := ih (i + 1) (by omega)
      refine ⟨e, ?_, hid⟩
      rw [show k + 1 + m = (k + m) + 1 by omega, behind, behind, he]
      simp [List.append_assoc]
  obtain ⟨e, he, hid⟩ := hex k i hn
  intro j
  rw [he]
  exact hidle _ _ hid j
theorem putAt_far : ∀ (l : List Pc) (i : Nat), extent l < i → putAt l i = []
  | [], _, _ => rfl
  | p :: r, i, h => by
    unfold extent at h
    rw [putAt, if_neg (by omega), if_neg (by omega), if_neg (by omega)]
    exact putAt_far r _ (by omega)
theorem dropAt_far : ∀ (l : List Pc) (i : Nat), extent l ≤ i → dropAt l i = false
  | [], _, _ => rfl
  | p :: r, i, h => by
    unfold extent at h
    rw [dropAt, if_neg (by omega), if_neg (by omega)]
    exact dropAt_far r _ (by omega)
/-- what becomes of a behind b, both normal: by n places, n as far as both tell -/
def trans (a b : List Pc) (first : Bool) : List Pc := norm (behind (putAt a) (putAt b) (dropAt a) (dropAt b) first (max (extent a) (extent b)) 0)
/-- at any text that both fit -/
theorem trans_at (a b : List Pc) (first : Bool) (t : List UInt8) (ha : extent a ≤ t.length) (hb : extent b ≤ t.length) : trans a b first = norm (behind (putAt a) (putAt b) (dropAt a) (dropAt b) first t.length 0) := by
  unfold trans
  have h := behind_longer (putAt a) (putAt b) (dropAt a) (dropAt b) first (max (extent a) (extent b)) (fun i hi => putAt_far a i (by omega)) (fun i hi => putAt_far b i (by omega)) (fun i hi => dropAt_far a i (by omega)) (fun i hi => dropAt_far b i (by omega))
    (max (extent a) (extent b)) 0 (by omega) (t.length - max (extent a) (extent b))
  rw [show max (extent a) (extent b) + (t.length - max (extent a) (extent b)) = t.length by omega] at h
  exact h.symm
/-- THE SQUARE: both ways round make the same text -/
theorem square (a b : List Pc) (first : Bool) (t : List UInt8) (ha : extent a ≤ t.length) (hb : extent b ≤ t.length) : apply (apply t b) (trans a b first) = apply (apply t a) (trans b a (!first)) := by
  rw [trans_at a b first t ha hb, trans_at b a (!first) t hb ha, apply_norm, apply_norm, apply_flat b t hb, apply_flat a t ha]
  exact square_flat _ _ _ _ first t
/-- and they fit -/
theorem trans_fits (a b : List Pc) (first : Bool) (t : List UInt8) (ha : extent a ≤ t.length) (hb : extent b ≤ t.length) : extent (trans a b first) ≤ (apply t b).length := by
  rw [trans_at a b first t ha hb, apply_flat b t hb, ← behind_extent (putAt a) (putAt b) (dropAt a) (dropAt b) first t 0]
  exact extent_norm _
end Go.Proofs.Ytoeplaofgmdlbaa.Ltx
