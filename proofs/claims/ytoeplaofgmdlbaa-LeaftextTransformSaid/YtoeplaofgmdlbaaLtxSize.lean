/- How much an edit puts, drops, and how many pieces it has: behind another one, made normal, undone. -/
import Derived.Test.YtoeplaofgmdlbaaLtxInv
namespace Go.Proofs.Ytoeplaofgmdlbaa.Ltx

def puts : List Pc → Nat
  | [] => 0
  | p :: r => p.put.length + puts r
def drops : List Pc → Nat
  | [] => 0
  | p :: r => p.drop + drops r
theorem puts_append (l m : List Pc) : puts (l ++ m) = puts l + puts m := by
  induction l with
  | nil => simp [puts]
  | cons p r ih => simp [puts, ih, Nat.add_assoc]
theorem drops_append (l m : List Pc) : drops (l ++ m) = drops l + drops m := by
  induction l with
  | nil => simp [drops]
  | cons p r ih => simp [drops, ih, Nat.add_assoc]
theorem extent_two (l : List Pc) : extent l = keeps l + drops l := by
  induction l with
  | nil => rfl
  | cons p r ih => simp [extent, keeps, drops, ih]; omega
theorem step_sums (s : List Pc × Nat) (p : Pc) : puts (normStep s p).1 = puts s.1 + p.put.length ∧ drops (normStep s p).1 = drops s.1 + p.drop := by
  obtain ⟨out, k⟩ := s
  unfold normStep
  dsimp only
  by_cases hi : idle p = true
  · rw [if_pos hi]
    have hp : p.put = [] ∧ p.drop = 0 := by unfold idle at hi; simpa using hi
    simp [hp.1, hp.2]
  · rw [if_neg hi]
    by_cases hz : k + p.keep = 0 ∧ out ≠ []
    · rw [if_pos hz]
      obtain ⟨init, q, rfl⟩ : ∃ init q, out = init ++ [q] := ⟨out.dropLast, out.getLast hz.2, (List.dropLast_concat_getLast hz.2).symm⟩
      have hj : joinLast (init ++ [q]) p = init ++ [⟨q.keep, q.drop + p.drop, q.put ++ p.put⟩] := by
        unfold joinLast
        simp
      rw [hj, puts_append, puts_append, drops_append, drops_append]
      simp [puts, drops]
      omega
    · rw [if_neg hz]
      dsimp only
      rw [puts_append, drops_append]
      simp [puts, drops]
theorem fold_sums (l : List Pc) : ∀ s : List Pc × Nat, puts (l.foldl normStep s).1 = puts s.1 + puts l ∧ drops (l.foldl normStep s).1 = drops s.1 + drops l := by
  induction l with
  | nil => intro s; simp [puts, drops]
  | cons p r ih =>
    intro s
    have h1 := ih (normStep s p)
    have h2 := step_sums s p
    simp only [List.foldl_cons, puts, drops]
    omega
theorem norm_puts (l : List Pc) : puts (norm l) = puts l := by
  have := (fold_sums l ([], 0)).1
  simpa [puts, norm] using this
theorem norm_drops (l : List Pc) : drops (norm l) = drops l := by
  have := (fold_sums l ([], 0)).2
  simpa [drops, norm] using this
/-- each piece of a normal edit puts or drops -/
theorem normal_len : ∀ {l : List Pc}, Normal l → l.length ≤ puts l + drops l := by
  have hone : ∀ p : Pc, idle p = false → 1 ≤ p.put.length + p.drop := by
    intro p h
    unfold idle at h
    cases hp : p.put with
    | nil => rw [hp] at h; simp at h; omega
    | cons a b => simp; omega
  have hT : ∀ l : List Pc, NormalT l → l.length ≤ puts l + drops l := by
    intro l
    induction l with
    | nil => intro _; exact Nat.zero_le _
    | cons p r ih =>
      intro h
      have h1 := hone p (h p List.mem_cons_self).1
      have h2 := ih fun q hq => h q (List.mem_cons_of_mem _ hq)
      simp only [List.length_cons, puts, drops]
      omega
  intro l h
  cases l with
  | nil => exact Nat.zero_le _
  | cons p r =>
    have h1 := hone p h.1
    have h2 := hT r h.2
    simp only [List.length_cons, puts, drops]
    omega
theorem norm_len (l : List Pc) : (norm l).length ≤ puts l + drops l := by
  have := normal_len (norm_normal l)
  rwa [norm_puts, norm_drops] at this
theorem apply_len : ∀ (l : List Pc) (t : List UInt8), (apply t l).length ≤ t.length + puts l
  | [], t => by simp [apply, puts]
  | p :: r, t => by
    have := apply_len r (t.drop (p.keep + p.drop))
    rw [apply]
    simp only [List.length_append, List.length_take, puts]
    rw [List.length_drop] at this
    omega
theorem mem_sizes : ∀ {l : List Pc} {p : Pc}, p ∈ l → p.keep + p.drop ≤ extent l ∧ p.put.length ≤ puts l
  | q :: r, p, h => by
    rcases List.mem_cons.1 h with rfl | h
    · simp only [extent, puts]; omega
    · have := mem_sizes h
      simp only [extent, puts]
      omega
/-- right, of pieces none of whose numbers is below 0 -/
def Fine (l : List Pc) : Prop := l.length ≤ 4096 ∧ (∀ p ∈ l, p.keep ≤ 1048576 ∧ p.drop ≤ 1048576) ∧ puts l ≤ 1048576
theorem fine_of {l : List Pc} (h1 : l.length ≤ 4096) (h2 : extent l ≤ 1048576) (h3 : puts l ≤ 1048576) : Fine l :=
  ⟨h1, fun p hp => by have := (mem_sizes hp).1; omega, h3⟩

/-! ### sums over places -/
def sumTo (f : Nat → Nat) : Nat → Nat
  | 0 => 0
  | k + 1 => sumTo f k + f k
theorem sumTo_le {f g : Nat → Nat} (h : ∀ i, f i ≤ g i) : ∀ k, sumTo f k ≤ sumTo g k
  | 0 => Nat.le_refl _
  | k + 1 => Nat.add_le_add (sumTo_le h k) (h k)
theorem sumTo_add (f g : Nat → Nat) : ∀ k, sumTo (fun i => f i + g i) k = sumTo f k + sumTo g k
  | 0 => rfl
  | k + 1 => by simp only [sumTo, sumTo_add f g k]; omega
theorem sumTo_one (n c : Nat) : ∀ k, sumTo (fun i => if i = n then c else 0) k ≤ c ∧ (k ≤ n → sumTo (fun i => if i = n then c else 0) k = 0)
  | 0 => ⟨Nat.zero_le _, fun _ => rfl⟩
  | k + 1 => by
    obtain ⟨h1, h2⟩ := sumTo_one n c k
    simp only [sumTo]
    by_cases h : k = n
    · rw [if_pos h, h2 (by omega)]
      exact ⟨by omega, fun h3 => by omega⟩
    · rw [if_neg h]
      exact ⟨by omega, fun h3 => by rw [h2 (by omega)]⟩
theorem sumTo_shift (f : Nat → Nat) (n : Nat) : ∀ k, sumTo (fun i => if i < n then 0 else f (i - n)) k = sumTo f (k - n)
  | 0 => by simp [sumTo]
  | k + 1 => by
    simp only [sumTo, sumTo_shift f n k]
    by_cases h : k < n
    · rw [if_pos h, show k + 1 - n = 0 by omega, show k - n = 0 by omega]; rfl
    · rw [if_neg h, show k + 1 - n = (k - n) + 1 by omega]
      rfl
theorem sumTo_range (n c : Nat) : ∀ k, sumTo (fun i => if n ≤ i ∧ i < n + c then 1 else 0) k ≤ c ∧ sumTo (fun i => if n ≤ i ∧ i < n + c then 1 else 0) k ≤ k - n
  | 0 => ⟨Nat.zero_le _, Nat.zero_le _⟩
  | k + 1 => by
    obtain ⟨h1, h2⟩ := sumTo_range n c k
    simp only [sumTo]
    split
    · rename_i h; omega
    · omega
theorem sum_puts : ∀ (l : List Pc) (k : Nat), sumTo (fun i => (putAt l i).length) k ≤ puts l
  | [], k => by
    have : ∀ k, sumTo (fun i => (putAt [] i).length) k = 0 := fun k => by
      induction k with
      | zero => rfl
      | succ k ih => simp only [sumTo, ih]; rfl
    rw [this]
    exact Nat.zero_le _
  | p :: r, k => by
    have h1 := sumTo_le (f := fun i => (putAt (p :: r) i).length) (g := fun i => (if i = p.keep then p.put.length else 0) + (if i < p.keep + p.drop then 0 else (putAt r (i - (p.keep + p.drop))).length)) (fun i => by
      rw [putAt]
      by_cases h1 : i < p.keep
      · rw [if_pos h1]; simp
      · rw [if_neg h1]
        by_cases h2 : i = p.keep
        · rw [if_pos h2, if_pos h2]
          by_cases h3 : p.drop = 0
          · rw [if_pos h3, if_neg (by omega), show i - (p.keep + p.drop) = 0 by omega]; simp
          · rw [if_neg h3]; simp
        · rw [if_neg h2]
          by_cases h3 : i < p.keep + p.drop
          · rw [if_pos h3]; simp
          · rw [if_neg h3, if_neg h3]; omega) k
    rw [sumTo_add, sumTo_shift (fun i => (putAt r i).length)] at h1
    have h2 := (sumTo_one p.keep p.put.length k).1
    have h3 := sum_puts r (k - (p.keep + p.drop))
    simp only [puts]
    omega
theorem sum_drops : ∀ (l : List Pc) (k : Nat), sumTo (fun i => if dropAt l i then 1 else 0) k ≤ drops l
  | [], k => by
    have : ∀ k, sumTo (fun i => if dropAt [] i then 1 else 0) k = 0 := fun k => by
      induction k with
      | zero => rfl
      | succ k ih => simp only [sumTo, ih]; rfl
    rw [this]
    exact Nat.zero_le _
  | p :: r, k => by
    have h1 := sumTo_le (f := fun i => if dropAt (p :: r) i then 1 else 0) (g := fun i => (if p.keep ≤ i ∧ i < p.keep + p.drop then 1 else 0) + (if i < p.keep + p.drop then 0 else if dropAt r (i - (p.keep + p.drop)) then 1 else 0)) (fun i => by
      rw [dropAt]
      by_cases h1 : i < p.keep
      · rw [if_pos h1]; simp
      · rw [if_neg h1]
        by_cases h2 : i < p.keep + p.drop
        · have h3 : p.keep ≤ i ∧ i < p.keep + p.drop := ⟨by omega, h2⟩
          rw [if_pos h3, if_pos h2, if_pos h2]; simp
        · rw [if_neg h2, if_neg h2]; omega) k
    rw [sumTo_add, sumTo_shift (fun i => if dropAt r i then 1 else 0)] at h1
    have h2 := (sumTo_range p.keep p.drop k).1
    have h3 := sum_drops r (k - (p.keep + p.drop))
    simp only [drops]
    omega
theorem behind_sums (pa pb : Nat → List UInt8) (da db : Nat → Bool) (first : Bool) : ∀ (k i : Nat),
    puts (behind pa pb da db first k i) + sumTo (fun j => (pa j).length) i = sumTo (fun j => (pa j).length) (i + k + 1) ∧ drops (behind pa pb da db first k i) + sumTo (fun j => if da j then 1 else 0) i ≤ sumTo (fun j => if da j then 1 else 0) (i + k)
  | 0, i => by
    rw [behind]
    unfold ends
    cases first <;> simp [puts, drops, sumTo, Nat.add_comm]
  | k + 1, i => by
    obtain ⟨h1, h2⟩ := behind_sums pa pb da db first k (i + 1)
    rw [behind, puts_append, puts_append, drops_append, drops_append]
    have e1 : puts (ends pa pb first i) = (pa i).length ∧ drops (ends pa pb first i) = 0 := by unfold ends; cases first <;> simp [puts, drops]
    have e2 : puts (mid da db i) = 0 ∧ drops (mid da db i) ≤ if da i then 1 else 0 := by unfold mid; cases db i <;> cases da i <;> simp [puts, drops]
    rw [show i + (k + 1) + 1 = i + 1 + k + 1 by omega, show i + (k + 1) = i + 1 + k by omega]
    simp only [sumTo] at h1 h2 ⊢
    omega
theorem trans_sums (a b : List Pc) (first : Bool) : puts (trans a b first) ≤ puts a ∧ drops (trans a b first) ≤ drops a := by
  unfold trans
  rw [norm_puts, norm_drops]
  obtain ⟨h1, h2⟩ := behind_sums (putAt a) (putAt b) (dropAt a) (dropAt b) first (max (extent a) (extent b)) 0
  have h3 := sum_puts a (0 + max (extent a) (extent b) + 1)
  have h4 := sum_drops a (0 + max (extent a) (extent b))
  simp only [sumTo] at h1 h2 h3
  omega
theorem trans_extent (a b : List Pc) (first : Bool) : extent (trans a b first) ≤ max (extent a) (extent b) + puts b := by
  have h := trans_fits a b first (List.replicate (max (extent a) (extent b)) 0) (by simp; omega) (by simp; omega)
  have h2 := apply_len b (List.replicate (max (extent a) (extent b)) 0)
  rw [List.length_replicate] at h2
  omega
/-- small edits stay right behind each other -/
theorem trans_fine {a b : List Pc} {n : Nat} (hn : n ≤ 2000) (first : Bool) (ha : extent a + puts a ≤ n) (hb : extent b + puts b ≤ n) : Fine (trans a b first) := by
  have h1 := trans_sums a b first
  have h2 := trans_extent a b first
  have h3 : (trans a b first).length ≤ puts (trans a b first) + drops (trans a b first) := normal_len (by unfold trans; exact norm_normal _)
  have h4 := extent_two a
  exact fine_of (by omega) (by omega) (by omega)
end Go.Proofs.Ytoeplaofgmdlbaa.Ltx
