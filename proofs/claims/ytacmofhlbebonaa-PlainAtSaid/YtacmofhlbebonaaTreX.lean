/- What is put is there; put back, the tree is what it was; sizes. -/
import Derived.Test.YtacmofhlbebonaaTreV
namespace Go.Proofs.Ytacmofhlbebonaa
open Go.RowKit
set_option maxRecDepth 20000

theorem with_kids (t : Nd) (l : List Nd) : (t.withKids l).kids = l := by cases t; rfl
theorem with_with (t : Nd) (l m : List Nd) : (t.withKids l).withKids m = t.withKids m := by cases t; rfl
theorem with_self (t : Nd) : t.withKids t.kids = t := by cases t; rfl
theorem countV_with (t : Nd) (l : List Nd) : countV (t.withKids l) = 1 + countsV l := by cases t; simp [Nd.withKids, countV]
theorem weighV_with (t : Nd) (l : List Nd) : weighV (t.withKids l) + weighsV t.kids = weighV t + weighsV l := by cases t; simp only [Nd.withKids, weighV, Nd.kids]; omega
theorem counts_set : ∀ (l : List Nd) (j : Nat) (k z : Nd), l[j]? = some k → countsV (l.set j z) + countV k = countsV l + countV z
  | [], j, k, z, h => by simp at h
  | a :: r, 0, k, z, h => by
    simp at h
    subst h
    simp only [List.set_cons_zero, countsV]
    omega
  | a :: r, j + 1, k, z, h => by
    have := counts_set r j k z (by simpa using h)
    simp only [List.set_cons_succ, countsV]
    omega
theorem weighs_set : ∀ (l : List Nd) (j : Nat) (k z : Nd), l[j]? = some k → weighsV (l.set j z) + weighV k = weighsV l + weighV z
  | [], j, k, z, h => by simp at h
  | a :: r, 0, k, z, h => by
    simp at h
    subst h
    simp only [List.set_cons_zero, weighsV]
    omega
  | a :: r, j + 1, k, z, h => by
    have := weighs_set r j k z (by simpa using h)
    simp only [List.set_cons_succ, weighsV]
    omega
theorem atV_cons {t ws : Nd} {i : Int} {p : List Int} (h : atV t (i :: p) = some ws) : ∃ (j : Nat) (k : Nd), i = (j : Int) ∧ t.kids[j]? = some k ∧ atV k p = some ws := by
  simp only [atV] at h
  split at h
  · rename_i hi
    cases hk : t.kids[i.toNat]? with
    | none => rw [hk] at h; cases h
    | some k =>
      rw [hk] at h
      exact ⟨i.toNat, k, by omega, hk, h⟩
  · cases h
theorem putV_nat {t k x : Nd} {j : Nat} {p : List Int} (h : t.kids[j]? = some k) : putV t ((j : Int) :: p) x = (putV k p x).map fun z => t.withKids (t.kids.set j z) := by
  simp only [putV]
  rw [if_pos (by omega)]
  simp only [Int.toNat_natCast, h]
  cases putV k p x <;> rfl
theorem atV_nat {t k : Nd} {j : Nat} {p : List Int} (h : t.kids[j]? = some k) : atV t ((j : Int) :: p) = atV k p := by
  simp only [atV]
  rw [if_pos (by omega)]
  simp [h]
theorem put_is : ∀ (p : List Int) (t x : Nd), (putV t p x).isSome = (atV t p).isSome
  | [], t, x => rfl
  | i :: p, t, x => by
    simp only [putV, atV]
    split
    · cases hk : t.kids[i.toNat]? with
      | none => rfl
      | some k =>
        have := put_is p k x
        dsimp only
        cases h : putV k p x with
        | none => rw [h] at this; exact this
        | some z => rw [h] at this; exact this
    · rfl
/-- all that the law asks -/
theorem put_all : ∀ (p : List Int) (t x ws : Nd), atV t p = some ws → ∃ a, putV t p x = some a ∧ atV a p = some x ∧ putV a p ws = some t ∧ countV a + countV ws = countV t + countV x ∧ weighV a + weighV ws = weighV t + weighV x
  | [], t, x, ws, h => by
    simp only [atV, Option.some.injEq] at h
    subst h
    exact ⟨x, rfl, rfl, rfl, by omega, by omega⟩
  | i :: p, t, x, ws, h => by
    obtain ⟨j, k, rfl, hk, hw⟩ := atV_cons h
    obtain ⟨a, h1, h2, h3, h4, h5⟩ := put_all p k x ws hw
    have hj : j < t.kids.length := (List.getElem?_eq_some_iff.1 hk).1
    have hs : (t.withKids (t.kids.set j a)).kids[j]? = some a := by rw [with_kids, List.getElem?_set_self hj]
    refine ⟨t.withKids (t.kids.set j a), ?_, ?_, ?_, ?_, ?_⟩
    · rw [putV_nat hk, h1]; rfl
    · rw [atV_nat hs, h2]
    · rw [putV_nat hs, h3]
      simp only [Option.map_some, with_kids, with_with, List.set_set]
      have : t.kids.set j k = t.kids := by
        apply List.ext_getElem?
        intro q
        rw [List.getElem?_set]
        split
        · subst_vars
          first | exact hk.symm | (rw [if_pos hj, hk])
        · rfl
      rw [this, with_self]
    · have := counts_set t.kids j k a hk
      rw [countV_with, countV_eq t]
      omega
    · have h6 := weighs_set t.kids j k a hk
      have h7 := weighV_with t (t.kids.set j a)
      omega
theorem at_count : ∀ (p : List Int) (t ws : Nd), atV t p = some ws → countV ws ≤ countV t ∧ weighV ws ≤ weighV t
  | [], t, ws, h => by
    simp only [atV, Option.some.injEq] at h
    subst h
    exact ⟨Nat.le_refl _, Nat.le_refl _⟩
  | i :: p, t, ws, h => by
    obtain ⟨j, k, rfl, hk, hw⟩ := atV_cons h
    obtain ⟨h1, h2⟩ := at_count p k ws hw
    have h3 := weigh_kid hk
    have h4 := counts_set t.kids j k k hk
    have h5 : countV k ≤ countsV t.kids := by
      have : ∀ (l : List Nd) (j : Nat), l[j]? = some k → countV k ≤ countsV l := by
        intro l
        induction l with
        | nil => intro j h; simp at h
        | cons a r ih =>
          intro j h
          cases j with
          | zero => simp at h; subst h; simp only [countsV]; omega
          | succ j => have := ih j (by simpa using h); simp only [countsV]; omega
      exact this _ _ hk
    rw [countV_eq t]
    omega

/-- a tree in a variable's block -/
structure Bx (W : World) (b : Nat) (s : Nd) (aA kA : Option Addr) (an ac kn kc : Nat) : Prop where
  lt : b < W.heap.size
  row : W.heap[b]? = some (.cells (val6 s aA an ac kA kn kc) 26 (0, 0))
  node : NodeV (Old W) W aA an ac kA kn kc s
section
variable {W W' : World} {b : Nat} {s : Nd} {aA kA : Option Addr} {an ac kn kc : Nat}
theorem Bx.below (h : Bx W b s aA kA an ac kn kc) (hb : Below W.heap.size W W') : Bx W' b s aA kA an ac kn kc := ⟨Nat.lt_of_lt_of_le h.lt hb.size, (hb.block b h.lt).trans h.row, h.node.below hb⟩
theorem Bx.new (h : NodeV (Old W) W aA an ac kA kn kc s) : Bx (W.alloc (.cells (val6 s aA an ac kA kn kc) 26)) W.heap.size s aA kA an ac kn kc :=
  ⟨by simp, heap_alloc_new W _, h.below ((Below.refl _ _).alloc (Nat.le_refl _) _)⟩
theorem Bx.cells (h : Bx W b s aA kA an ac kn kc) : W.cell? ⟨b, 0, none⟩ = some (.int .u64 (s.id : Int)) ∧ W.cell? ⟨b, 1, none⟩ = some (.bool s.leaf) ∧ W.cell? ⟨b, 2, none⟩ = some (.string ⟨s.label.toArray⟩) ∧ W.cell? ⟨b, 3, none⟩ = some (.slice aA an ac) ∧
    W.cell? ⟨b, 4, none⟩ = some (.string ⟨s.text.toArray⟩) ∧ W.cell? ⟨b, 5, none⟩ = some (.slice kA kn kc) := by
  have h := h.row
  unfold val6 at h
  obtain ⟨c0, c1, c2, c3, c4, c5, -⟩ := six_cells h
  exact ⟨c0, c1, c2, c3, c4, c5⟩
end
end Go.Proofs.Ytacmofhlbebonaa
