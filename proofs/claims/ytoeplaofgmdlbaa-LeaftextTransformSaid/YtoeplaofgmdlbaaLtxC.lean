/- The program's draft: words. -/
import Derived.Test.YtoeplaofgmdlbaaLtxA
import Derived.Lib.AppendStr
namespace Go.Proofs.Ytoeplaofgmdlbaa
open Go.RowKit
set_option maxRecDepth 20000
open Ltx (Pc)

/-- the two lists have the same gaps, and keep as much -/
def Eqv (l m : List Pc) : Prop := Ltx.keeps l = Ltx.keeps m ∧ ∀ j, Ltx.gap l j = Ltx.gap m j
theorem Eqv.refl (l : List Pc) : Eqv l l := ⟨rfl, fun _ => rfl⟩
theorem Eqv.symm {l m : List Pc} (h : Eqv l m) : Eqv m l := ⟨h.1.symm, fun j => (h.2 j).symm⟩
theorem Eqv.trans {l m k : List Pc} (h : Eqv l m) (h2 : Eqv m k) : Eqv l k := ⟨h.1.trans h2.1, fun j => (h.2 j).trans (h2.2 j)⟩
theorem Eqv.app {l m l' m' : List Pc} (h : Eqv l m) (h2 : Eqv l' m') : Eqv (l ++ l') (m ++ m') := by
  refine ⟨by rw [Ltx.keeps_append, Ltx.keeps_append, h.1, h2.1], fun j => ?_⟩
  rw [Ltx.gap_append, Ltx.gap_append, h.1, h.2 j, h2.2 0, h2.2 (j - Ltx.keeps m)]
theorem gap_one (k d : Nat) (t : List UInt8) (j : Nat) : Ltx.gap [⟨k, d, t⟩] j = if j = k then (t, d) else ([], 0) := by
  unfold Ltx.gap
  dsimp only
  split
  · rw [if_neg (by omega)]
  · split
    · simp [Ltx.gap]
    · rfl
/-- put, then drop: one piece -/
theorem eqv_one {k d k' d' : Nat} {t t' : List UInt8} (h : k' = 0) : Eqv [⟨k, d, t⟩, ⟨k', d', t'⟩] [⟨k, d + d', t ++ t'⟩] := by
  subst h
  refine ⟨by simp [Ltx.keeps], fun j => ?_⟩
  have hk : Ltx.keeps [(⟨k, d, t⟩ : Pc)] = k := by simp [Ltx.keeps]
  rw [show ([⟨k, d, t⟩, ⟨0, d', t'⟩] : List Pc) = [⟨k, d, t⟩] ++ [⟨0, d', t'⟩] from rfl, Ltx.gap_append, hk, gap_one, gap_one, gap_one, gap_one]
  by_cases h1 : j < k
  · have h2 : ¬ j = k := by omega
    simp [h1, h2]
  · by_cases h2 : j = k
    · simp [h2]
    · have h3 : ¬ j - k = 0 := by omega
      simp [h1, h2, h3]
/-- a piece that neither puts nor drops, kept with the next one -/
theorem eqv_keep {k k' d : Nat} {t : List UInt8} : Eqv [⟨k, 0, []⟩, ⟨k', d, t⟩] [⟨k + k', d, t⟩] := by
  refine ⟨by simp [Ltx.keeps], fun j => ?_⟩
  have hk : Ltx.keeps [(⟨k, 0, []⟩ : Pc)] = k := by simp [Ltx.keeps]
  rw [show ([⟨k, 0, []⟩, ⟨k', d, t⟩] : List Pc) = [⟨k, 0, []⟩] ++ [⟨k', d, t⟩] from rfl, Ltx.gap_append, hk, gap_one, gap_one, gap_one, gap_one]
  by_cases h1 : j < k
  · have h2 : ¬ j = k := by omega
    have h3 : ¬ j = k + k' := by omega
    simp [h1, h2, h3]
  · by_cases h2 : j = k
    · subst h2
      by_cases h3 : k' = 0
      · subst h3; simp
      · have h4 : ¬ 0 = k' := fun e => h3 e.symm
        simp [h3, h4]
    · by_cases h3 : j - k = k'
      · have h4 : j = k + k' := by omega
        rw [if_neg h1, if_neg h2, if_pos h3, if_pos h4]
      · have h4 : ¬ j = k + k' := by omega
        rw [if_neg h1, if_neg h2, if_neg h3, if_neg h4]
theorem eqv_nil : Eqv [⟨0, 0, []⟩] [] := ⟨rfl, fun j => by rw [gap_one]; split <;> rfl⟩
theorem norm_eqv {l m : List Pc} (h : Eqv l m) : Ltx.norm l = Ltx.norm m := Ltx.norm_ext h.2

/-- a draft, as a value: what is done, and the piece that it is at -/
structure DV where
  done : List Pc
  kept : Nat
  text : List UInt8
  gone : Nat
def DV.last (d : DV) : Pc := ⟨d.kept, d.gone, d.text⟩
/-- it stands for what was put, dropped and kept up to now -/
structure DV.For (d : DV) (raw : List Pc) : Prop where
  eqv : Eqv (d.done ++ [d.last]) raw
  nm : Ltx.Normal d.done
  at_ : d.done = [] ∨ d.kept ≠ 0
def DV.fresh : DV := ⟨[], 0, [], 0⟩
theorem DV.For.fresh : DV.For DV.fresh [] := ⟨eqv_nil, trivial, .inl rfl⟩
theorem DV.For.put {d : DV} {raw : List Pc} (h : d.For raw) (t : List UInt8) : DV.For { d with text := d.text ++ t } (raw ++ [⟨0, 0, t⟩]) := by
  refine ⟨Eqv.trans ?_ (h.eqv.app (Eqv.refl _)), h.nm, h.at_⟩
  rw [List.append_assoc]
  exact (Eqv.refl _).app (eqv_one rfl).symm
theorem DV.For.drop {d : DV} {raw : List Pc} (h : d.For raw) (n : Nat) : DV.For { d with gone := d.gone + n } (raw ++ [⟨0, n, []⟩]) := by
  refine ⟨Eqv.trans ?_ (h.eqv.app (Eqv.refl _)), h.nm, h.at_⟩
  rw [List.append_assoc]
  have := (eqv_one (k := d.kept) (d := d.gone) (t := d.text) (k' := 0) (d' := n) (t' := []) rfl).symm
  rw [List.append_nil] at this
  exact (Eqv.refl _).app this
def DV.fin (d : DV) : DV := if d.text = [] ∧ d.gone = 0 then d else ⟨d.done ++ [d.last], 0, [], 0⟩
theorem DV.For.keep {d : DV} {raw : List Pc} (h : d.For raw) (n : Nat) (hn : 0 < n) : DV.For { d.fin with kept := d.fin.kept + n } (raw ++ [⟨n, 0, []⟩]) := by
  unfold DV.fin
  by_cases hi : d.text = [] ∧ d.gone = 0
  · rw [if_pos hi]
    refine ⟨Eqv.trans ?_ (h.eqv.app (Eqv.refl _)), h.nm, .inr (by show d.kept + n ≠ 0; omega)⟩
    rw [List.append_assoc]
    refine (Eqv.refl _).app ?_
    unfold DV.last
    dsimp only
    rw [hi.1, hi.2]
    exact eqv_keep.symm
  · rw [if_neg hi]
    refine ⟨?_, ?_, .inr (by show 0 + n ≠ 0; omega)⟩
    · show Eqv ((d.done ++ [d.last]) ++ [⟨0 + n, 0, []⟩]) _
      rw [Nat.zero_add]
      exact h.eqv.app (Eqv.refl _)
    · show Ltx.Normal (d.done ++ [d.last])
      refine Ltx.normal_snoc h.nm ?_ h.at_
      unfold Ltx.idle DV.last
      cases ht : d.text with
      | nil =>
        have : d.gone ≠ 0 := fun e => hi ⟨ht, e⟩
        simp [this]
      | cons a b => simp
theorem DV.For.fin_done {d : DV} {raw : List Pc} (h : d.For raw) : d.fin.done = Ltx.norm raw := by
  rw [← norm_eqv h.eqv]
  unfold DV.fin
  by_cases hi : d.text = [] ∧ d.gone = 0
  · rw [if_pos hi, Ltx.norm_idle (by intro p hp; obtain rfl := List.mem_singleton.1 hp; unfold Ltx.idle DV.last; rw [hi.1, hi.2]; rfl), Ltx.norm_self h.nm]
  · rw [if_neg hi]
    refine (Ltx.norm_self (Ltx.normal_snoc h.nm ?_ h.at_)).symm
    unfold Ltx.idle DV.last
    cases ht : d.text with
    | nil =>
      have : d.gone ≠ 0 := fun e => hi ⟨ht, e⟩
      simp [this]
    | cons a b => simp
end Go.Proofs.Ytoeplaofgmdlbaa
