/- A round of the program's Transform: any two steps in front. -/
import Derived.Test.YtoeplaofgmdlbaaLtxV
namespace Go.Proofs.Ytoeplaofgmdlbaa
open Go.RowKit
set_option maxRecDepth 20000
open Ltx (Pc)

def szS : List St → Nat
  | [] => 0
  | s :: r => s.size + szS r
theorem szS_trim : ∀ l : List St, szS (trim l) = szS l
  | [] => rfl
  | s :: r => by
    unfold trim
    split
    · rename_i h
      rw [szS_trim r, szS, h, Nat.zero_add]
    · rfl
theorem szS_cut (s : St) (r : List St) (m : Nat) : szS (cutS (s :: r) m) = (s.size - m) + szS r := by
  rw [cutS, szS_trim, szS, St.cut_size]
def Head (l : List St) : Prop := ∀ s r, l = s :: r → s.size ≠ 0
theorem head_trim : ∀ l : List St, Head (trim l)
  | [] => fun s r h => by cases h
  | s :: r => by
    unfold trim
    split
    · exact head_trim r
    · rename_i h
      intro s' r' e
      injection e with e1 _
      rw [← e1]
      exact h
theorem head_cut (l : List St) (m : Nat) : Head (cutS l m) := by
  cases l with
  | nil => exact fun s r h => by cases h
  | cons s r => exact head_trim _
theorem cut_zero (s : St) : s.cut 0 = s := by cases s <;> simp [St.cut]
theorem cutS_zero {l : List St} (h : Head l) : cutS l 0 = l := by
  cases l with
  | nil => rfl
  | cons s r => rw [cutS, cut_zero, trim, if_neg (h s r rfl)]
theorem look_cut (s : St) (r : List St) (m : Nat) : Look (pcs (cutS (s :: r) m)) ((s.cut m).pc :: pcs r) := look_trim _
def isDrop : List St → Bool
  | .drop _ :: _ => true
  | _ => false
def isPut : List St → Bool
  | .put _ :: _ => true
  | _ => false
theorem front_S {l : List St} {m : Nat} (hp : isPut l = false) (hm : ∀ s r, l = s :: r → m ≤ s.size) : Front (pcs l) m (isDrop l) (pcs (cutS l m)) := by
  cases l with
  | nil => exact front_nil m
  | cons s r =>
    have h := hm s r rfl
    cases s with
    | keep n => exact (front_keep (pcs r) h).look (look_cut (.keep n) r m).symm
    | drop n => exact (front_drop (pcs r) h).look (look_cut (.drop n) r m).symm
    | put t => cases hp
theorem put0_S {l : List St} (hp : isPut l = false) (hh : Head l) : Ltx.putAt (pcs l) 0 = [] := by
  cases l with
  | nil => rfl
  | cons s r =>
    have h := hh s r rfl
    cases s with
    | keep n => show Ltx.putAt (⟨n, 0, []⟩ :: pcs r) 0 = []; rw [pa_keep, if_pos (by have : n ≠ 0 := h; omega)]
    | drop n => show Ltx.putAt (⟨0, n, []⟩ :: pcs r) 0 = []; rw [pa_drop, if_pos (by have : n ≠ 0 := h; omega)]
    | put t => cases hp
theorem ext_S {l : List St} (hp : isPut l = false) (hh : Head l) (hn : l ≠ []) : Ltx.extent (pcs l) ≠ 0 := by
  cases l with
  | nil => exact absurd rfl hn
  | cons s r =>
    have h := hh s r rfl
    cases s with
    | keep n => show Ltx.extent (⟨n, 0, []⟩ :: pcs r) ≠ 0; simp only [Ltx.extent]; have : n ≠ 0 := h; omega
    | drop n => show Ltx.extent (⟨0, n, []⟩ :: pcs r) ≠ 0; simp only [Ltx.extent]; have : n ≠ 0 := h; omega
    | put t => cases hp
theorem isPut_iff {l : List St} (h : isPut l = true) : ∃ t r, l = .put t :: r := by
  cases l with
  | nil => cases h
  | cons s r => cases s with
    | put t => exact ⟨t, r, rfl⟩
    | keep n => cases h
    | drop n => cases h
/-- what has been written, and what is still to come, are the document's -/
structure TVal (prior : Bool) (TB TA : List Pc) (C : Nat) (sx sy : List St) (rawB rawA : List Pc) : Prop where
  b : Eqv (rawB ++ docB prior (pcs sx) (pcs sy)) TB
  a : Eqv (rawA ++ docB (!prior) (pcs sy) (pcs sx)) TA
  cb : totP rawB + szS sx + szS sy ≤ C
  ca : totP rawA + szS sx + szS sy ≤ C
theorem TVal.x {prior : Bool} {TB TA : List Pc} {C : Nat} {t : List UInt8} {r sy : List St} {rawB rawA : List Pc} (h : TVal prior TB TA C (.put t :: r) sy rawB rawA) (hy : Head sy) (hg : prior = true ∨ isPut sy = false) :
    TVal prior TB TA C (cutS (.put t :: r) t.length) (cutS sy 0) (rawB ++ [⟨0, 0, t⟩]) (rawA ++ [⟨t.length, 0, []⟩]) := by
  have hz := szS_cut (.put t) r t.length
  have hl : Look (pcs (cutS (.put t :: r) t.length)) (pcs r) := (look_cut (.put t) r t.length).trans (look_zero _ _ (by simp [St.cut, St.size]))
  have hg2 : prior = true ∨ Ltx.putAt (pcs sy) 0 = [] := hg.imp id (fun e => put0_S e hy)
  obtain ⟨m1, m2⟩ := meet_put (t := t) (r := pcs r) hg2
  have h1 := h.b
  have h2 := h.a
  have h3 := h.cb
  have h4 := h.ca
  simp only [szS, St.size] at h3 h4 hz
  rw [cutS_zero hy]
  refine ⟨?_, ?_, ?_, ?_⟩
  · rw [docB_look hl (Look.refl _), List.append_assoc]
    exact ((Eqv.refl rawB).app m1).symm.trans h1
  · rw [docB_look (Look.refl _) hl, List.append_assoc]
    exact ((Eqv.refl rawA).app m2).symm.trans h2
  · rw [totP_append, totP_one, hz]; omega
  · rw [totP_append, totP_one, hz]; simp only [List.length_nil]; omega
theorem TVal.swap {prior : Bool} {TB TA : List Pc} {C : Nat} {sx sy : List St} {rawB rawA : List Pc} (h : TVal prior TB TA C sx sy rawB rawA) : TVal (!prior) TA TB C sy sx rawA rawB :=
  ⟨h.a, by rw [Bool.not_not]; exact h.b, by have := h.ca; omega, by have := h.cb; omega⟩
theorem TVal.both {prior : Bool} {TB TA : List Pc} {C m : Nat} {sx sy : List St} {rawB rawA : List Pc} (h : TVal prior TB TA C sx sy rawB rawA) (hx : Head sx) (hy : Head sy) (px : isPut sx = false) (py : isPut sy = false) (hm : 0 < m) (mx : ∀ s r, sx = s :: r → m ≤ s.size) (my : ∀ s r, sy = s :: r → m ≤ s.size) (hn : sx ≠ [] ∨ sy ≠ []) :
    TVal prior TB TA C (cutS sx m) (cutS sy m) (rawB ++ run (isDrop sx) (isDrop sy) m) (rawA ++ run (isDrop sy) (isDrop sx) m) ∧ szS (cutS sx m) + szS (cutS sy m) + m ≤ szS sx + szS sy := by
  have fx := front_S px mx
  have fy := front_S py my
  have hne : Ltx.extent (pcs sx) ≠ 0 ∨ Ltx.extent (pcs sy) ≠ 0 := hn.imp (ext_S px hx) (ext_S py hy)
  have e1 := meet_run (first := prior) hm fx fy hne
  have e2 := meet_run (first := !prior) hm fy fx hne.symm
  have hr : ∀ A B, totP (run A B m) ≤ m := fun A B => by
    unfold run
    cases A <;> cases B <;> simp [totP, Ltx.extent, Ltx.puts]
  have hs : szS (cutS sx m) + szS (cutS sy m) + m ≤ szS sx + szS sy := by
    have c : ∀ l : List St, (∀ s r, l = s :: r → m ≤ s.size) → (l = [] ∧ szS (cutS l m) = 0) ∨ szS (cutS l m) + m = szS l := fun l hl => by
      cases l with
      | nil => exact .inl ⟨rfl, rfl⟩
      | cons s r =>
        have := hl s r rfl
        rw [szS_cut, szS]
        exact .inr (by omega)
    rcases c sx mx with ⟨a1, a2⟩ | a1 <;> rcases c sy my with ⟨b1, b2⟩ | b1
    · rcases hn with e | e
      · exact absurd a1 e
      · exact absurd b1 e
    · omega
    · omega
    · omega
  refine ⟨⟨?_, ?_, ?_, ?_⟩, hs⟩
  · rw [List.append_assoc]
    exact ((Eqv.refl rawB).app e1).symm.trans h.b
  · rw [List.append_assoc]
    exact ((Eqv.refl rawA).app e2).symm.trans h.a
  · have := hr (isDrop sx) (isDrop sy)
    have := h.cb
    rw [totP_append]
    omega
  · have := hr (isDrop sy) (isDrop sx)
    have := h.ca
    rw [totP_append]
    omega
/-- how much of a row's head may be met -/
def meetN (sx sy : List St) : Nat :=
  match sx, sy with
  | s :: _, u :: _ => min s.size u.size
  | s :: _, [] => s.size
  | [], u :: _ => u.size
  | [], [] => 0
section
variable {w : World} {SB SA : Nat → Prop} {base pB pA Q : Nat} {rawB rawA TB TA : List Pc} {prior : Bool} {sx sy : List St}
theorem tmeet_any (h : Pr w SB SA base pB pA rawB rawA) (hQ : w.heap[Q]? = some (.cells #[.bool prior] 4 (0, 0))) (hv : TVal prior TB TA 200000 sx sy rawB rawA) (hx : Head sx) (hy : Head sy) (hn : sx ≠ [] ∨ sy ≠ []) (hbase : base ≤ w.heap.size) :
    Calls Try.prog 35 #[stepV (headC sx), stepV (headC sy), .pointer (some ⟨Q, 0, none⟩), .pointer (some ⟨pB, 0, none⟩), .pointer (some ⟨pA, 0, none⟩)] w fun e w' =>
      ∃ (n m : Nat) (rawB' rawA' : List Pc), e = .returned (.tuple #[.int .i64 (n : Int), .int .i64 (m : Int)]) ∧ Pst w w' SB SA base pB pA rawB' rawA' ∧ TVal prior TB TA 200000 (cutS sx n) (cutS sy m) rawB' rawA' ∧
        (∀ s r, sx = s :: r → n ≤ s.size) ∧ (∀ s r, sy = s :: r → m ≤ s.size) ∧ szS (cutS sx n) + szS (cutS sy m) < szS sx + szS sy ∧ n ≤ 200000 ∧ m ≤ 200000 := by
  have hcb := hv.cb
  have hca := hv.ca
  by_cases c1 : isPut sx = true ∧ (prior = true ∨ isPut sy = false)
  · obtain ⟨p1, p2⟩ := c1
    obtain ⟨t, r, rfl⟩ := isPut_iff p1
    have ht0 : t.length ≠ 0 := hx _ _ rfl
    simp only [szS, St.size] at hcb hca
    have hyc : ∃ (a2 b2 : Int) (t2 : List UInt8), headC sy = [.int .u8 a2, .int .i64 b2, .string ⟨t2.toArray⟩] ∧ (prior = true ∨ a2 ≠ 2) := by
      cases sy with
      | nil => exact ⟨_, _, [], rfl, .inr (by decide)⟩
      | cons s r' => cases s with
        | keep n => exact ⟨_, _, _, rfl, .inr (show (1 : Int) ≠ 2 by decide)⟩
        | drop n => exact ⟨_, _, _, rfl, .inr (show (3 : Int) ≠ 2 by decide)⟩
        | put t' => exact ⟨_, _, _, rfl, .inl (p2.resolve_right (by simp [isPut]))⟩
    obtain ⟨a2, b2, t2, e2, hg⟩ := hyc
    rw [show stepV (headC (.put t :: r)) = .agg #[.int .u8 2, .int .i64 (t.length : Int), .string ⟨t.toArray⟩] from rfl, show stepV (headC sy) = .agg #[.int .u8 a2, .int .i64 b2, .string ⟨t2.toArray⟩] by rw [e2]; rfl]
    refine (tmeet_x h hQ t a2 b2 t2 hg (by omega) (by omega) hbase).mono ?_
    rintro e w' ⟨rfl, hp⟩
    refine ⟨t.length, 0, _, _, rfl, hp, hv.x hy p2, (fun s r e => by injection e with e _; rw [← e]; exact Nat.le_refl _), (fun s r _ => Nat.zero_le _), ?_, by omega, by omega⟩
    rw [szS_cut, cutS_zero hy]
    simp only [szS, St.size]
    omega
  · by_cases c2 : isPut sy = true
    · have hg : (!prior) = true ∨ isPut sx = false := by
        cases hpx : isPut sx with
        | false => exact .inr rfl
        | true =>
          left
          cases prior with
          | true => exact absurd ⟨hpx, .inl rfl⟩ c1
          | false => rfl
      obtain ⟨t, r, rfl⟩ := isPut_iff c2
      have ht0 : t.length ≠ 0 := hy _ _ rfl
      simp only [szS, St.size] at hcb hca
      have hxc : ∃ (a1 b1 : Int) (t1 : List UInt8), headC sx = [.int .u8 a1, .int .i64 b1, .string ⟨t1.toArray⟩] ∧ (prior = false ∨ a1 ≠ 2) := by
        cases sx with
        | nil => exact ⟨_, _, [], rfl, .inr (by decide)⟩
        | cons s r' => cases s with
          | keep n => exact ⟨_, _, _, rfl, .inr (show (1 : Int) ≠ 2 by decide)⟩
          | drop n => exact ⟨_, _, _, rfl, .inr (show (3 : Int) ≠ 2 by decide)⟩
          | put t' => exact ⟨_, _, _, rfl, .inl (by have := hg.resolve_right (by simp [isPut]); simpa using this)⟩
      obtain ⟨a1, b1, t1, e1, hg1⟩ := hxc
      rw [show stepV (headC (.put t :: r)) = .agg #[.int .u8 2, .int .i64 (t.length : Int), .string ⟨t.toArray⟩] from rfl, show stepV (headC sx) = .agg #[.int .u8 a1, .int .i64 b1, .string ⟨t1.toArray⟩] by rw [e1]; rfl]
      refine (tmeet_y h hQ t a1 b1 t1 hg1 (by omega) (by omega) hbase).mono ?_
      rintro e w' ⟨rfl, hp⟩
      have hv2 := (hv.swap.x hx hg).swap
      rw [Bool.not_not] at hv2
      refine ⟨0, t.length, _, _, rfl, hp, hv2, (fun s r _ => Nat.zero_le _), (fun s r e => by injection e with e _; rw [← e]; exact Nat.le_refl _), ?_, by omega, by omega⟩
      rw [szS_cut, cutS_zero hx]
      simp only [szS, St.size]
      omega
    · have py : isPut sy = false := by simpa using c2
      have px : isPut sx = false := by
        cases hpx : isPut sx with
        | false => rfl
        | true => exact absurd ⟨hpx, .inr py⟩ c1
      have code : ∀ l : List St, isPut l = false → szS l ≤ 200000 → ∃ (a b : Int) (t : List UInt8), headC l = [.int .u8 a, .int .i64 b, .string ⟨t.toArray⟩] ∧ a ≠ 2 ∧ isDrop l = decide (a = 3) ∧ ((l = [] ∧ b = 9223372036854775807) ∨ ∃ s r, l = s :: r ∧ b = (s.size : Int) ∧ s.size ≤ 200000) := fun l hl hs => by
        cases l with
        | nil => exact ⟨_, _, [], rfl, by decide, rfl, .inl ⟨rfl, rfl⟩⟩
        | cons s r =>
          simp only [szS] at hs
          cases s with
          | keep n => exact ⟨_, _, _, rfl, (show (1 : Int) ≠ 2 by decide), rfl, .inr ⟨_, _, rfl, rfl, by omega⟩⟩
          | drop n => exact ⟨_, _, _, rfl, (show (3 : Int) ≠ 2 by decide), rfl, .inr ⟨_, _, rfl, rfl, by omega⟩⟩
          | put t => cases hl
      obtain ⟨a1, b1, t1, e1, n1, d1, s1⟩ := code sx px (by omega)
      obtain ⟨a2, b2, t2, e2, n2, d2, s2⟩ := code sy py (by omega)
      obtain ⟨m, hm0, hmm, mx, my, hmC⟩ : ∃ m : Nat, 0 < m ∧ min b1 b2 = (m : Int) ∧ (∀ s r, sx = s :: r → m ≤ s.size) ∧ (∀ s r, sy = s :: r → m ≤ s.size) ∧ m ≤ 200000 := by
        rcases s1 with ⟨rfl, rfl⟩ | ⟨u, r, rfl, rfl, hu⟩ <;> rcases s2 with ⟨rfl, rfl⟩ | ⟨u2, r2, rfl, rfl, hu2⟩
        · rcases hn with e | e <;> exact absurd rfl e
        · have := hy _ _ rfl
          exact ⟨u2.size, by omega, by omega, (fun s r e => by cases e), (fun s r e => by injection e with e _; rw [← e]; exact Nat.le_refl _), hu2⟩
        · have := hx _ _ rfl
          exact ⟨u.size, by omega, by omega, (fun s r e => by injection e with e _; rw [← e]; exact Nat.le_refl _), (fun s r e => by cases e), hu⟩
        · have := hx _ _ rfl
          have := hy _ _ rfl
          exact ⟨min u.size u2.size, by omega, by omega, (fun s r e => by injection e with e _; rw [← e]; omega), (fun s r e => by injection e with e _; rw [← e]; omega), by omega⟩
      obtain ⟨hv2, hsz⟩ := hv.both hx hy px py hm0 mx my hn
      rw [show stepV (headC sx) = .agg #[.int .u8 a1, .int .i64 b1, .string ⟨t1.toArray⟩] by rw [e1]; rfl, show stepV (headC sy) = .agg #[.int .u8 a2, .int .i64 b2, .string ⟨t2.toArray⟩] by rw [e2]; rfl]
      refine (tmeet_both h a1 b1 a2 b2 t1 t2 m _ _ d1 d2 n1 n2 hmm (by omega) (by omega) hbase).mono ?_
      rintro e w' ⟨rfl, hp⟩
      exact ⟨m, m, _, _, rfl, hp, hv2, mx, my, by omega, hmC, hmC⟩
end
end Go.Proofs.Ytoeplaofgmdlbaa
