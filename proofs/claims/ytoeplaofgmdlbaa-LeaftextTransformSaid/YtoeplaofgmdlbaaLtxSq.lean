/- A text, edited; edits place by place; what becomes of an edit behind another one; both ways round. -/
import Derived.Test.YtoeplaofgmdlbaaLtxVal
namespace Go.Proofs.Ytoeplaofgmdlbaa.Ltx

def emit : List UInt8 → List Pc → List UInt8
  | _, [] => []
  | t, p :: r => t.take p.keep ++ p.put ++ emit (t.drop (p.keep + p.drop)) r
theorem apply_emit : ∀ (l : List Pc) (t : List UInt8), apply t l = emit t l ++ t.drop (extent l)
  | [], t => by simp [apply, emit, extent]
  | p :: r, t => by
    simp only [apply, emit, extent]
    rw [apply_emit r, List.drop_drop]
    simp [List.append_assoc]
theorem extent_append (l m : List Pc) : extent (l ++ m) = extent l + extent m := by
  induction l with
  | nil => simp [extent]
  | cons p r ih => simp [extent, ih, Nat.add_assoc]
theorem apply_append : ∀ (l m : List Pc) (t : List UInt8), apply t (l ++ m) = emit t l ++ apply (t.drop (extent l)) m
  | [], m, t => by simp [emit, extent]
  | p :: r, m, t => by
    simp only [List.cons_append, apply, emit, extent]
    rw [apply_append r m, List.drop_drop]
    simp [List.append_assoc]
theorem emit_append : ∀ (l m : List Pc) (t : List UInt8), emit t (l ++ m) = emit t l ++ emit (t.drop (extent l)) m
  | [], m, t => by simp [emit, extent]
  | p :: r, m, t => by
    simp only [List.cons_append, emit, extent]
    rw [emit_append r m, List.drop_drop]
    simp [List.append_assoc]
/-- what is read so far, and the bytes kept since: they do the same -/
def Does (s : List Pc × Nat) (l : List Pc) : Prop := (∀ t, emit t s.1 ++ (t.drop (extent s.1)).take s.2 = emit t l) ∧ extent s.1 + s.2 = extent l
theorem Does.step {s : List Pc × Nat} {l : List Pc} (h : Does s l) (p : Pc) : Does (normStep s p) (l ++ [p]) := by
  obtain ⟨out, k⟩ := s
  obtain ⟨he, hx⟩ := h
  dsimp only at he hx
  have hone : ∀ t, emit t (l ++ [p]) = emit t l ++ (t.drop (extent l)).take p.keep ++ p.put := fun t => by
    rw [emit_append]
    simp [emit, List.append_assoc]
  have htake : ∀ t : List UInt8, (t.drop (extent out)).take k ++ (t.drop (extent l)).take p.keep = (t.drop (extent out)).take (k + p.keep) := fun t => by
    rw [List.take_add, List.drop_drop, hx]
  unfold normStep
  dsimp only
  by_cases hi : idle p = true
  · rw [if_pos hi]
    have hp : p.put = [] ∧ p.drop = 0 := by unfold idle at hi; simpa using hi
    refine ⟨fun t => ?_, by rw [extent_append]; simp [extent, hp.2]; omega⟩
    dsimp only
    rw [hone, ← he t, hp.1, List.append_nil, List.append_assoc, htake]
  · rw [if_neg hi]
    by_cases hz : k + p.keep = 0 ∧ out ≠ []
    · rw [if_pos hz]
      obtain ⟨hz1, hz2⟩ := hz
      obtain ⟨init, q, rfl⟩ : ∃ init q, out = init ++ [q] := ⟨out.dropLast, out.getLast hz2, (List.dropLast_concat_getLast hz2).symm⟩
      have hj : joinLast (init ++ [q]) p = init ++ [⟨q.keep, q.drop + p.drop, q.put ++ p.put⟩] := by
        unfold joinLast
        simp
      rw [hj]
      have hpk : p.keep = 0 := by omega
      have hk0 : k = 0 := by omega
      subst hk0
      refine ⟨fun t => ?_, ?_⟩
      · dsimp only
        rw [hone, ← he t, hpk, emit_append, emit_append]
        simp [emit, List.append_assoc]
      · dsimp only
        rw [extent_append] at hx ⊢
        rw [extent_append l]
        simp [extent] at hx ⊢
        omega
    · rw [if_neg hz]
      refine ⟨fun t => ?_, ?_⟩
      · dsimp only
        rw [hone, ← he t, emit_append]
        simp only [emit, List.append_nil, List.take_zero, List.append_assoc]
        rw [← List.append_assoc (List.take k _), htake]
      · dsimp only
        rw [extent_append, extent_append]
        simp [extent]
        omega
theorem does_all (l : List Pc) : ∀ (m : List Pc) (s : List Pc × Nat), Does s m → Does (l.foldl normStep s) (m ++ l) := by
  induction l with
  | nil => intro m s h; rw [List.append_nil]; exact h
  | cons p r ih =>
    intro m s h
    have := ih (m ++ [p]) (normStep s p) (h.step p)
    rw [List.append_assoc] at this
    exact this
theorem norm_does (l : List Pc) : Does (l.foldl normStep ([], 0)) l := does_all l [] ([], 0) ⟨fun t => by simp [emit], rfl⟩
/-- an edit and its normal one do the same -/
theorem apply_norm (l : List Pc) (t : List UInt8) : apply t (norm l) = apply t l := by
  obtain ⟨h1, h2⟩ := norm_does l
  rw [apply_emit, apply_emit, ← h1 t, ← h2, List.append_assoc]
  congr 1
  unfold norm
  rw [← List.drop_drop, List.take_append_drop]
theorem extent_norm (l : List Pc) : extent (norm l) ≤ extent l := by
  have h2 := (norm_does l).2
  unfold norm
  omega
theorem apply_same {l m : List Pc} (h : norm l = norm m) (t : List UInt8) : apply t l = apply t m := by rw [← apply_norm, h, apply_norm]

/-! ### place by place -/
def putAt : List Pc → Nat → List UInt8
  | [], _ => []
  | p :: r, i => if i < p.keep then [] else if i = p.keep then p.put ++ (if p.drop = 0 then putAt r 0 else []) else if i < p.keep + p.drop then [] else putAt r (i - (p.keep + p.drop))
def dropAt : List Pc → Nat → Bool
  | [], _ => false
  | p :: r, i => if i < p.keep then false else if i < p.keep + p.drop then true else dropAt r (i - (p.keep + p.drop))
/-- a text, place by place -/
def flat (pu : Nat → List UInt8) (dr : Nat → Bool) : List UInt8 → Nat → List UInt8
  | [], i => pu i
  | c :: t, i => pu i ++ (if dr i then [] else [c]) ++ flat pu dr t (i + 1)
theorem flat_congr {pu pu' : Nat → List UInt8} {dr dr' : Nat → Bool} : ∀ (t : List UInt8) (i j : Nat), (∀ k, pu (i + k) = pu' (j + k)) → (∀ k, dr (i + k) = dr' (j + k)) → flat pu dr t i = flat pu' dr' t j
  | [], i, j, h1, _ => h1 0
  | c :: t, i, j, h1, h2 => by
    unfold flat
    rw [show pu i = pu' j from h1 0, show dr i = dr' j from h2 0, flat_congr t (i + 1) (j + 1) (fun k => by have := h1 (k + 1); rw [show i + 1 + k = i + (k + 1) by omega, show j + 1 + k = j + (k + 1) by omega]; exact this)
      (fun k => by have := h2 (k + 1); rw [show i + 1 + k = i + (k + 1) by omega, show j + 1 + k = j + (k + 1) by omega]; exact this)]
theorem flat_keep {pu : Nat → List UInt8} {dr : Nat → Bool} : ∀ (s t : List UInt8) (i : Nat), (∀ k, k < s.length → pu (i + k) = [] ∧ dr (i + k) = false) → flat pu dr (s ++ t) i = s ++ flat pu dr t (i + s.length)
  | [], t, i, _ => by simp
  | c :: s, t, i, h => by
    have h0 := h 0 (by simp)
    have ih := flat_keep s t (i + 1) fun k hk => by
      have := h (k + 1) (by simp; omega)
      rw [show i + 1 + k = i + (k + 1) by omega]
      exact this
    simp only [Nat.add_zero] at h0
    rw [List.cons_append, flat, h0.1, h0.2, ih]
    simp only [List.length_cons, List.nil_append]
    rw [show i + 1 + s.length = i + (s.length + 1) by omega]
    simp
theorem flat_drop {pu : Nat → List UInt8} {dr : Nat → Bool} : ∀ (s t : List UInt8) (i : Nat), (∀ k, k < s.length → pu (i + k) = [] ∧ dr (i + k) = true) → flat pu dr (s ++ t) i = flat pu dr t (i + s.length)
  | [], t, i, _ => by simp
  | c :: s, t, i, h => by
    have h0 := h 0 (by simp)
    have ih := flat_drop s t (i + 1) fun k hk => by
      have := h (k + 1) (by simp; omega)
      rw [show i + 1 + k = i + (k + 1) by omega]
      exact this
    simp only [Nat.add_zero] at h0
    rw [List.cons_append, flat, h0.1, h0.2, ih]
    simp only [List.length_cons]
    rw [show i + 1 + s.length = i + (s.length + 1) by omega]
    simp
theorem flat_idle (t : List UInt8) (i : Nat) : flat (fun _ => []) (fun _ => false) t i = t := by
  induction t generalizing i with
  | nil => rfl
  | cons c t ih => rw [flat, ih]; simp
/-- a text, edited, place by place -/
theorem apply_flat : ∀ (l : List Pc) (t : List UInt8), extent l ≤ t.length → apply t l = flat (putAt l) (dropAt l) t 0
  | [], t, _ => by
    rw [show putAt [] = fun _ => [] from rfl, show dropAt [] = fun _ => false from rfl, flat_idle]
    rfl
  | p :: r, t, h => by
    unfold extent at h
    have hsplit : t = t.take p.keep ++ (t.drop p.keep) := (List.take_append_drop _ _).symm
    have hl : (t.take p.keep).length = p.keep := by rw [List.length_take]; omega
    have hk := flat_keep (pu := putAt (p :: r)) (dr := dropAt (p :: r)) (t.take p.keep) (t.drop p.keep) 0 fun k hk => by
      rw [hl] at hk
      rw [Nat.zero_add]
      exact ⟨by rw [putAt, if_pos hk], by rw [dropAt, if_pos hk]⟩
    rw [List.take_append_drop, hl, Nat.zero_add] at hk
    rw [hk, apply, apply_flat r _ (by rw [List.length_drop]; omega), List.append_assoc]
    congr 1
    by_cases hd : p.drop = 0
    · rw [hd, Nat.add_zero]
      cases ht : t.drop p.keep with
      | nil =>
        rw [flat, flat, putAt, if_neg (by omega), if_pos rfl, if_pos hd]
      | cons c s =>
        rw [flat, flat]
        have e1 : putAt (p :: r) p.keep = p.put ++ putAt r 0 := by rw [putAt, if_neg (by omega), if_pos rfl, if_pos hd]
        have e2 : dropAt (p :: r) p.keep = dropAt r 0 := by rw [dropAt, if_neg (by omega), if_neg (by omega), show p.keep - (p.keep + p.drop) = 0 by omega]
        have e3 : flat (putAt (p :: r)) (dropAt (p :: r)) s (p.keep + 1) = flat (putAt r) (dropAt r) s (0 + 1) := flat_congr s _ _
          (fun k => by rw [putAt, if_neg (by omega), if_neg (by omega), if_neg (by omega)]; congr 1; omega)
          (fun k => by rw [dropAt, if_neg (by omega), if_neg (by omega)]; congr 1; omega)
        rw [e1, e2, e3]
        simp [List.append_assoc]
    · obtain ⟨d, hd'⟩ : ∃ d, p.drop = d + 1 := ⟨p.drop - 1, by omega⟩
      cases ht : t.drop p.keep with
      | nil =>
        exfalso
        have : (t.drop p.keep).length = 0 := by rw [ht]; rfl
        rw [List.length_drop] at this
        omega
      | cons c s =>
        have hsl : d ≤ s.length := by
          have : (t.drop p.keep).length = s.length + 1 := by rw [ht]; rfl
          rw [List.length_drop] at this
          omega
        have hrest : t.drop (p.keep + p.drop) = s.drop d := by
          rw [← List.drop_drop, ht, hd']
          rfl
        have e1 : putAt (p :: r) p.keep = p.put := by rw [putAt, if_neg (by omega), if_pos rfl, if_neg hd, List.append_nil]
        have e2 : dropAt (p :: r) p.keep = true := by rw [dropAt, if_neg (by omega), if_pos (by omega)]
        have hdl : (s.take d).length = d := by rw [List.length_take]; omega
        have e3 := flat_drop (pu := putAt (p :: r)) (dr := dropAt (p :: r)) (s.take d) (s.drop d) (p.keep + 1) fun k hk => by
          rw [hdl] at hk
          exact ⟨by rw [putAt, if_neg (by omega), if_neg (by omega), if_pos (by omega)], by rw [dropAt, if_neg (by omega), if_pos (by omega)]⟩
        rw [List.take_append_drop, hdl] at e3
        have e4 : flat (putAt (p :: r)) (dropAt (p :: r)) (s.drop d) (p.keep + 1 + d) = flat (putAt r) (dropAt r) (s.drop d) 0 := flat_congr _ _ _
          (fun k => by
            rw [Nat.zero_add]
            rw [putAt, if_neg (by omega), if_neg (by omega), if_neg (by omega)]
            congr 1
            omega)
          (fun k => by
            rw [Nat.zero_add]
            rw [dropAt, if_neg (by omega), if_neg (by omega)]
            congr 1
            omega)
        rw [hrest, flat, e1, e2, e3, e4]
        simp

/-! ### behind each other -/
section
variable (pa pb : Nat → List UInt8) (da db : Nat → Bool) (first : Bool)
def ends (i : Nat) : List Pc := if first then [⟨0, 0, pa i⟩, ⟨(pb i).length, 0, []⟩] else [⟨(pb i).length, 0, []⟩, ⟨0, 0, pa i⟩]
def mid (i : Nat) : List Pc := if db i then [] else if da i then [⟨0, 1, []⟩] else [⟨1, 0, []⟩]
/-- a behind b, at k more places from i on -/
def behind : Nat → Nat → List Pc
  | 0, i => ends pa pb first i
  | k + 1, i => ends pa pb first i ++ mid da db i ++ behind k (i + 1)
def both (i : Nat) : List UInt8 := if first then pa i ++ pb i else pb i ++ pa i
theorem ends_emit (i : Nat) (x : List UInt8) : emit (pb i ++ x) (ends pa pb first i) = both pa pb first i ∧ (pb i ++ x).drop (extent (ends pa pb first i)) = x := by
  unfold ends both
  cases first <;> simp [emit, extent]
theorem behind_apply : ∀ (t : List UInt8) (i : Nat), apply (flat pb db t i) (behind pa pb da db first t.length i) = flat (both pa pb first) (fun j => da j || db j) t i
  | [], i => by
    obtain ⟨h1, h2⟩ := ends_emit pa pb first i []
    rw [List.append_nil] at h1 h2
    rw [flat, flat, List.length_nil, behind, apply_emit, h1, h2, List.append_nil]
  | c :: t, i => by
    obtain ⟨h1, h2⟩ := ends_emit pa pb first i ((if db i then [] else [c]) ++ flat pb db t (i + 1))
    have ih := behind_apply t (i + 1)
    rw [flat, flat, List.length_cons, behind, List.append_assoc (ends pa pb first i), apply_append, List.append_assoc (pb i), h1, h2, List.append_assoc (both pa pb first i)]
    congr 1
    rw [apply_append]
    unfold mid
    cases hb : db i with
    | true => simp [emit, extent, ih]
    | false =>
      cases ha : da i with
      | true => simp [emit, extent, ih]
      | false => simp [emit, extent, ih]
end
/-- both ways round -/
theorem square_flat (pa pb : Nat → List UInt8) (da db : Nat → Bool) (first : Bool) (t : List UInt8) :
    apply (flat pb db t 0) (behind pa pb da db first t.length 0) = apply (flat pa da t 0) (behind pb pa db da (!first) t.length 0) := by
  rw [behind_apply, behind_apply]
  refine flat_congr t 0 0 (fun k => ?_) (fun k => ?_)
  · unfold both; cases first <;> rfl
  · exact Bool.or_comm _ _
end Go.Proofs.Ytoeplaofgmdlbaa.Ltx
