/- Two edits, composed: the document's way, by the bytes that stay and those that are new. -/
import Derived.Test.YtoeplaofgmdlbaaLtxSize
namespace Go.Proofs.Ytoeplaofgmdlbaa.Ltx

theorem idle_gaps : ∀ (e : List Pc), (∀ p ∈ e, idle p = true) → ∀ j, gap e j = ([], 0)
  | [], _, _ => rfl
  | p :: r, h, j => by
    have hp : p.put = [] ∧ p.drop = 0 := by
      have := h p List.mem_cons_self
      unfold idle at this
      simpa using this
    have hr := idle_gaps r fun q hq => h q (List.mem_cons_of_mem _ hq)
    unfold gap
    rw [hr, hr, hp.1, hp.2]
    split
    · rfl
    · split <;> rfl
theorem norm_idle {l e : List Pc} (h : ∀ p ∈ e, idle p = true) : norm (l ++ e) = norm l := by
  refine norm_ext fun j => ?_
  rw [gap_append, idle_gaps e h, idle_gaps e h]
  split
  · rfl
  · split
    · simp
    · exact (gap_far l j (by omega)).symm

/-- a byte: one of the text, by its place, or a new one -/
inductive It where
  | old (w : Nat)
  | new (c : UInt8)
section
variable {α : Type} (f : UInt8 → α)
def applyP : List α → List Pc → List α
  | t, [] => t
  | t, p :: r => t.take p.keep ++ p.put.map f ++ applyP (t.drop (p.keep + p.drop)) r
end
theorem applyP_map {α β : Type} (f : UInt8 → α) (g : α → β) : ∀ (l : List Pc) (t : List α), (applyP f t l).map g = applyP (fun c => g (f c)) (t.map g) l
  | [], t => rfl
  | p :: r, t => by
    rw [applyP, applyP, List.map_append, List.map_append, applyP_map f g r, List.map_take, List.map_drop, List.map_map]
    rfl
theorem applyP_id : ∀ (l : List Pc) (t : List UInt8), applyP (fun c => c) t l = apply t l
  | [], t => rfl
  | p :: r, t => by rw [applyP, apply, applyP_id r]; simp
theorem applyP_snoc {α : Type} (f : UInt8 → α) : ∀ (l : List Pc) (t s : List α), extent l ≤ t.length → applyP f (t ++ s) l = applyP f t l ++ s
  | [], t, s, _ => rfl
  | p :: r, t, s, h => by
    unfold extent at h
    rw [applyP, applyP, List.take_append_of_le_length (by omega), List.drop_append_of_le_length (by omega), applyP_snoc f r _ _ (by rw [List.length_drop]; omega)]
    simp [List.append_assoc]
theorem applyP_len {α : Type} (f : UInt8 → α) : ∀ (l : List Pc) (t : List α), extent l ≤ t.length → (applyP f t l).length + drops l = t.length + puts l
  | [], t, _ => by simp [applyP, drops, puts]
  | p :: r, t, h => by
    unfold extent at h
    have := applyP_len f r (t.drop (p.keep + p.drop)) (by rw [List.length_drop]; omega)
    rw [List.length_drop] at this
    rw [applyP]
    simp only [List.length_append, List.length_take, List.length_map, drops, puts]
    omega

/-- the text's bytes from place s on, k of them -/
def places (s k : Nat) : List It := (List.range' s k).map It.old
/-- the text's bytes rise, from last on, below m -/
def Rise (m : Nat) : Nat → List It → Prop
  | _, [] => True
  | last, .old w :: r => last ≤ w ∧ w < m ∧ Rise m (w + 1) r
  | last, .new _ :: r => Rise m last r
theorem Rise.less {m : Nat} : ∀ {l : List It} {a b : Nat}, Rise m b l → a ≤ b → Rise m a l
  | [], _, _, _, _ => trivial
  | .old w :: r, a, b, h, hab => ⟨Nat.le_trans hab h.1, h.2.1, h.2.2⟩
  | .new _ :: r, a, b, h, hab => Rise.less (l := r) h hab
theorem rise_places {m : Nat} : ∀ (k s : Nat) (r : List It), s + k ≤ m → Rise m (s + k) r → Rise m s (places s k ++ r)
  | 0, s, r, _, h => h
  | k + 1, s, r, hm, h => by
    refine ⟨Nat.le_refl _, by omega, ?_⟩
    exact rise_places k (s + 1) r (by omega) (by rw [show s + 1 + k = s + (k + 1) by omega]; exact h)
theorem rise_new {m last : Nat} (b : List UInt8) (r : List It) (h : Rise m last r) : Rise m last (b.map It.new ++ r) := by
  induction b with
  | nil => exact h
  | cons c b ih => exact ih
theorem places_take (s k j : Nat) (h : j ≤ k) : (places s k).take j = places s j := by
  unfold places
  obtain ⟨d, rfl⟩ : ∃ d, k = j + d := ⟨k - j, by omega⟩
  rw [← List.map_take, ← List.range'_append_1, List.take_left' (by simp)]
theorem places_drop (s k j : Nat) : (places s k).drop j = places (s + j) (k - j) := by
  unfold places
  rw [← List.map_drop, List.drop_range', Nat.mul_one]
theorem rise_apply (m : Nat) : ∀ (l : List Pc) (s k : Nat), extent l ≤ k → s + k ≤ m → Rise m s (applyP It.new (places s k) l)
  | [], s, k, _, hm => by
    have := rise_places (m := m) k s [] hm trivial
    rw [List.append_nil] at this
    exact this
  | p :: r, s, k, h, hm => by
    unfold extent at h
    rw [applyP, places_take _ _ _ (by omega), places_drop, List.append_assoc]
    refine rise_places _ _ _ (by omega) (rise_new _ _ ?_)
    have := rise_apply m r (s + (p.keep + p.drop)) (k - (p.keep + p.drop)) (by omega) (by omega)
    exact this.less (by omega)
theorem places_snoc (s k : Nat) : places s (k + 1) = places s k ++ [.old (s + k)] := by
  unfold places
  rw [List.range'_concat, List.map_append]
  simp

section
variable (pu : Nat → List UInt8) (dr : Nat → Bool)
/-- the pieces, byte by byte -/
def compGo : List It → Nat → Nat → List UInt8 → List Pc
  | [], _, _, _ => []
  | .old w :: r, i, last, put => if dr i then compGo r (i + 1) last (put ++ pu i) else ⟨0, w - last, put ++ pu i⟩ :: ⟨1, 0, []⟩ :: compGo r (i + 1) (w + 1) []
  | .new c :: r, i, last, put => compGo r (i + 1) last (put ++ pu i ++ (if dr i then [] else [c]))
/-- .. and at a text's end -/
def compEnd (m : Nat) : List It → Nat → Nat → List UInt8 → List Pc
  | [], i, last, put => [⟨0, m - last, put ++ pu i⟩]
  | .old w :: r, i, last, put => if dr i then compEnd m r (i + 1) last (put ++ pu i) else ⟨0, w - last, put ++ pu i⟩ :: ⟨1, 0, []⟩ :: compEnd m r (i + 1) (w + 1) []
  | .new c :: r, i, last, put => compEnd m r (i + 1) last (put ++ pu i ++ (if dr i then [] else [c]))
theorem comp_end (m : Nat) : ∀ (l : List It) (i last : Nat) (put : List UInt8), dr (i + l.length) = false → compGo pu dr (l ++ [.old m]) i last put = compEnd pu dr m l i last put ++ [⟨1, 0, []⟩]
  | [], i, last, put, h => by
    rw [List.nil_append, compGo, if_neg (by rw [show dr i = false from h]; decide)]
    rfl
  | .old w :: r, i, last, put, h => by
    have h' : dr (i + 1 + r.length) = false := by rw [show i + 1 + r.length = i + (It.old w :: r).length by simp; omega]; exact h
    rw [List.cons_append, compGo, compEnd]
    split
    · exact comp_end m r _ _ _ h'
    · rw [comp_end m r _ _ _ h']
      rfl
  | .new c :: r, i, last, put, h => by
    have h' : dr (i + 1 + r.length) = false := by rw [show i + 1 + r.length = i + (It.new c :: r).length by simp; omega]; exact h
    rw [List.cons_append, compGo, compEnd]
    exact comp_end m r _ _ _ h'
/-- one more byte behind one that stays: nothing more -/
theorem comp_more (m : Nat) : ∀ (l : List It) (i last : Nat) (put : List UInt8), dr (i + l.length) = false → dr (i + l.length + 1) = false → pu (i + l.length + 1) = [] →
    compGo pu dr (l ++ [.old m] ++ [.old (m + 1)]) i last put = compGo pu dr (l ++ [.old m]) i last put ++ [⟨0, 0, []⟩, ⟨1, 0, []⟩]
  | [], i, last, put, h, h1, h2 => by
    simp only [List.nil_append, List.length_nil, Nat.add_zero] at h h1 h2 ⊢
    simp only [List.cons_append, List.nil_append, compGo, h, h1, h2]
    simp
  | .old w :: r, i, last, put, h, h1, h2 => by
    have e : i + 1 + r.length = i + (It.old w :: r).length := by simp; omega
    have ih := fun last put => comp_more m r (i + 1) last put (by rw [e]; exact h) (by rw [e]; exact h1) (by rw [e]; exact h2)
    rw [List.cons_append, List.cons_append, compGo, compGo]
    split
    · exact ih _ _
    · rw [ih]
      rfl
  | .new c :: r, i, last, put, h, h1, h2 => by
    have e : i + 1 + r.length = i + (It.new c :: r).length := by simp; omega
    have ih := fun last put => comp_more m r (i + 1) last put (by rw [e]; exact h) (by rw [e]; exact h1) (by rw [e]; exact h2)
    rw [List.cons_append, List.cons_append, compGo, compGo]
    exact ih _ _
/-- what a byte is, in a text -/
def val (t : List UInt8) : It → UInt8
  | .old w => t.getD w 0
  | .new c => c
theorem comp_apply (t : List UInt8) : ∀ (l : List It) (i last : Nat) (put : List UInt8), Rise t.length last l → last ≤ t.length → apply (t.drop last) (compEnd pu dr t.length l i last put) = put ++ flat pu dr (l.map (val t)) i
  | [], i, last, put, _, hl => by
    rw [compEnd, apply, apply, flat.eq_def]
    simp only [List.take_zero, List.nil_append, Nat.zero_add, List.map_nil, List.drop_drop]
    rw [show last + (t.length - last) = t.length by omega, List.drop_length]
    simp
  | .old w :: r, i, last, put, h, hl => by
    obtain ⟨h1, h2, h3⟩ := h
    rw [compEnd, List.map_cons, flat]
    split
    · rename_i hd
      rw [comp_apply t r _ _ _ (h3.less (by omega)) hl]
      simp [List.append_assoc]
    · rename_i hd
      have ih := comp_apply t r (i + 1) (w + 1) [] h3 (by omega)
      rw [apply, apply]
      simp only [List.take_zero, List.nil_append, Nat.zero_add, List.drop_drop, Nat.add_zero, List.append_nil]
      rw [show last + (w - last) = w by omega, show w + 1 = w + 1 from rfl, ih]
      have e : (t.drop w).take 1 = [val t (.old w)] := by
        rw [List.drop_eq_getElem_cons h2, List.take_succ_cons, List.take_zero]
        simp [val, h2]
      rw [e]
      simp [List.append_assoc]
  | .new c :: r, i, last, put, h, hl => by
    rw [compEnd, List.map_cons, flat, comp_apply t r _ _ _ h hl]
    simp [List.append_assoc, val]
end
/-- over m bytes of a text -/
def compAt (a b : List Pc) (m : Nat) : List Pc := compGo (putAt b) (dropAt b) (applyP It.new (places 0 m) a) 0 0 []
/-- the document's, of normal edits -/
def comp (a b : List Pc) : List Pc := norm (compAt a b (extent a + extent b + 1))
theorem comp_grow (a b : List Pc) (m : Nat) (ha : extent a ≤ m) (hb : extent b ≤ (applyP It.new (places 0 m) a).length) : ∀ j, norm (compAt a b (m + 1 + j)) = norm (compAt a b (m + 1))
  | 0 => rfl
  | j + 1 => by
    rw [← comp_grow a b m ha hb j]
    have hlen : (places 0 (m + j)).length = m + j := by simp [places]
    have hm0 : (places 0 m).length = m := by simp [places]
    have l0 := applyP_len It.new a (places 0 m) (by omega)
    have l1 := applyP_len It.new a (places 0 (m + j)) (by omega)
    rw [hm0] at l0
    rw [hlen] at l1
    have e1 : applyP It.new (places 0 (m + 1 + j)) a = applyP It.new (places 0 (m + j)) a ++ [.old (m + j)] := by
      rw [show m + 1 + j = (m + j) + 1 by omega, places_snoc, applyP_snoc _ _ _ _ (by omega), Nat.zero_add]
    have e2 : applyP It.new (places 0 (m + 1 + (j + 1))) a = applyP It.new (places 0 (m + j)) a ++ [.old (m + j)] ++ [.old (m + j + 1)] := by
      have h1 : (places 0 (m + 1 + j)).length = m + 1 + j := by simp [places]
      rw [show m + 1 + (j + 1) = (m + 1 + j) + 1 by omega, places_snoc, applyP_snoc _ _ _ _ (by omega), Nat.zero_add, e1, show m + 1 + j = m + j + 1 by omega]
    unfold compAt
    rw [e1, e2, comp_more _ _ _ _ _ _ _ (dropAt_far b _ (by omega)) (dropAt_far b _ (by omega)) (putAt_far b _ (by omega))]
    exact norm_idle (by intro p hp; simp at hp; rcases hp with rfl | rfl <;> rfl)
/-- two edits, composed, do what they do one behind the other -/
theorem comp_does (a b : List Pc) (t : List UInt8) (ha : extent a ≤ t.length) (hb : extent b ≤ (apply t a).length) : apply t (comp a b) = apply (apply t a) b := by
  have hpl : ∀ m, (places 0 m).length = m := fun m => by simp [places]
  have hval : (places 0 t.length).map (val t) = t := by
    unfold places
    rw [List.map_map]
    apply List.ext_getElem?
    intro i
    rw [List.getElem?_map]
    by_cases h : i < t.length
    · rw [List.getElem?_range' h, List.getElem?_eq_getElem h]
      simp [val, h]
    · rw [List.getElem?_eq_none (by simp; omega), List.getElem?_eq_none (by omega)]
      rfl
  have hmid : (applyP It.new (places 0 t.length) a).map (val t) = apply t a := by
    rw [applyP_map, hval]
    exact applyP_id a t
  have hbm : extent b ≤ (applyP It.new (places 0 t.length) a).length := by
    rw [← hmid, List.length_map] at hb
    exact hb
  have key : norm (compAt a b (t.length + 1)) = comp a b := by
    unfold comp
    rcases Nat.le_total t.length (extent a + extent b) with h | h
    · have := comp_grow a b t.length ha hbm (extent a + extent b - t.length)
      rw [show t.length + 1 + (extent a + extent b - t.length) = extent a + extent b + 1 by omega] at this
      exact this.symm
    · have hl := applyP_len It.new a (places 0 (extent a + extent b)) (by rw [hpl]; omega)
      rw [hpl] at hl
      have h2 := extent_two a
      have := comp_grow a b (extent a + extent b) (by omega) (by omega) (t.length - (extent a + extent b))
      rw [show extent a + extent b + 1 + (t.length - (extent a + extent b)) = t.length + 1 by omega] at this
      exact this
  rw [← key, apply_norm]
  unfold compAt
  rw [places_snoc, applyP_snoc _ _ _ _ (by rw [hpl]; omega), Nat.zero_add, comp_end _ _ _ _ _ _ _ (dropAt_far b _ (by omega))]
  have hr := rise_apply t.length a 0 t.length ha (by omega)
  have hc := comp_apply (putAt b) (dropAt b) t _ 0 0 [] hr (Nat.zero_le _)
  rw [List.drop_zero, List.nil_append, hmid] at hc
  have hidle := apply_same (norm_idle (l := compEnd (putAt b) (dropAt b) t.length (applyP It.new (places 0 t.length) a) 0 0 []) (e := [⟨1, 0, []⟩]) (by intro p hp; obtain rfl := List.mem_singleton.1 hp; rfl)) t
  rw [hidle, hc, apply_flat b _ hb]
end Go.Proofs.Ytoeplaofgmdlbaa.Ltx
