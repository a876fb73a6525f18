/- Both rows gone along, whatever is made of the steps in front. -/
import Derived.Test.YtoeplaofgmdlbaaLtxW
import Derived.Deep.LoopGhost
import Derived.ScopeJumps
namespace Go.Proofs.Ytoeplaofgmdlbaa
open Go.RowKit
set_option maxRecDepth 20000
open Ltx (Pc)

theorem szS_mem : ∀ {l : List St} {s : St}, s ∈ l → s.size ≤ szS l
  | a :: r, s, h => by
    rcases List.mem_cons.1 h with rfl | h
    · rw [szS]; omega
    · have := szS_mem h; rw [szS]; omega
theorem szS_row : ∀ l : List Pc, szS (rowS l) = totP l
  | [] => rfl
  | p :: r => by
    have := szS_row r
    have e : rowS (p :: r) = .keep p.keep :: .put p.put :: .drop p.drop :: rowS r := rfl
    rw [e, szS, szS, szS, this]
    simp only [St.size, totP, Ltx.extent, Ltx.puts]
    omega
theorem szS_cut0 (l : List St) : szS (cutS l 0) = szS l := by
  cases l with
  | nil => rfl
  | cons s r => rw [szS_cut, szS, Nat.sub_zero]
theorem look_cut0 (l : List Pc) : Look (pcs (cutS (rowS l) 0)) l := by
  have h : Look (pcs (cutS (rowS l) 0)) (pcs (rowS l)) := by
    cases rowS l with
    | nil => exact Look.refl _
    | cons s r => have := look_cut s r 0; rw [cut_zero] at this; exact this
  rw [pcs_row] at h
  exact h.trans (look_prim l)
theorem headC_form (l : List St) : ∃ (a b : Int) (t : List UInt8), headC l = [.int .u8 a, .int .i64 b, .string ⟨t.toArray⟩] ∧ (l = [] → a = 4) ∧ (l ≠ [] → ¬ a = 4) := by
  cases l with
  | nil => exact ⟨_, _, [], rfl, fun _ => rfl, fun h => absurd rfl h⟩
  | cons s r => cases s with
    | keep n => exact ⟨_, _, _, rfl, (fun h => by cases h), fun _ => show ¬ (1 : Int) = 4 by decide⟩
    | put t => exact ⟨_, _, _, rfl, (fun h => by cases h), fun _ => show ¬ (2 : Int) = 4 by decide⟩
    | drop n => exact ⟨_, _, _, rfl, (fun h => by cases h), fun _ => show ¬ (3 : Int) = 4 by decide⟩
theorem RowAt.low {w : World} {S : Nat → Prop} {base b2 P : Nat} {sts : List St} (h : RowAt w S base P sts) (hb : b2 ≤ base) : RowAt w S b2 P sts :=
  ⟨fun k hk => ⟨by have := (h.own k hk).1; omega, (h.own k hk).2⟩, h.here, h.dat⟩
/-- what is made of the steps in front -/
structure Meets (F : Nat) (fv : Array Value) (b0 : Nat) (J : World → (Nat → Prop) → List St → List St → Prop) : Prop where
  fn : ∀ (args : Array Value) (w : World), Sem.run Try.prog (callFunc F args) w = .ok (.enter F args) w
  lt : ∀ {w S x y}, J w S x y → ∀ k, S k → k < w.heap.size
  kept : ∀ {w w' : World} {S x y}, J w S x y → w.heap.size ≤ w'.heap.size → (∀ k, S k → w'.heap[k]? = w.heap[k]?) → J w' S x y
  sz : ∀ {w S x y}, J w S x y → szS x + szS y ≤ 200000
  call : ∀ {w S x y}, J w S x y → Head x → Head y → (x ≠ [] ∨ y ≠ []) → b0 ≤ w.heap.size →
    Calls Try.prog F (#[stepV (headC x), stepV (headC y)] ++ fv) w fun e w' => ∃ (n m : Nat) (S' : Nat → Prop), e = .returned (.tuple #[.int .i64 (n : Int), .int .i64 (m : Int)]) ∧ J w' S' (cutS x n) (cutS y m) ∧ (∀ k, S' k → S k ∨ w.heap.size ≤ k) ∧ FrX S w w' ∧
      (∀ s r, x = s :: r → n ≤ s.size) ∧ (∀ s r, y = s :: r → m ≤ s.size) ∧ szS (cutS x n) + szS (cutS y m) < szS x + szS y ∧ n ≤ 200000 ∧ m ≤ 200000
/-- both rows, and what is made of them: no two share a block -/
def Mem (w wr : World) (S0 : Nat → Prop) (J : World → (Nat → Prop) → List St → List St → Prop) (P1 P2 : Nat) (sx sy tx ty : List St) : Prop :=
  ∃ S1 S2 S, RowAt wr S1 w.heap.size P1 sx ∧ RowAt wr S2 w.heap.size P2 sy ∧ J wr S tx ty ∧ (∀ k, S1 k → ¬ S2 k ∧ ¬ S k) ∧ (∀ k, S2 k → ¬ S k) ∧ (∀ k, S k → S0 k ∨ w.heap.size ≤ k) ∧ FrX S0 w wr
section
variable {w wr w' : World} {S0 : Nat → Prop} {J : World → (Nat → Prop) → List St → List St → Prop} {F b0 P1 P2 : Nat} {fv : Array Value} {sx sy tx ty : List St}
theorem Mem.fr (h : Mem w wr S0 J P1 P2 sx sy tx ty) : FrX S0 w wr := by
  obtain ⟨_, _, _, _, _, _, _, _, _, f⟩ := h
  exact f
theorem Mem.ow (h : Mem w wr S0 J P1 P2 sx sy tx ty) : ∃ S, J wr S tx ty ∧ (∀ k, S k → S0 k ∨ w.heap.size ≤ k) := by
  obtain ⟨_, _, S, _, _, p, _, _, i, _⟩ := h
  exact ⟨S, p, i⟩
theorem Mem.below (hM : Meets F fv b0 J) (h : Mem w wr S0 J P1 P2 sx sy tx ty) (hb : Below wr.heap.size wr w') : Mem w w' S0 J P1 P2 sx sy tx ty := by
  obtain ⟨S1, S2, S, r1, r2, p, d1, d2, i1, f⟩ := h
  exact ⟨S1, S2, S, r1.below hb, r2.below hb, hM.kept p hb.size (fun k hk => hb.block k (hM.lt p k hk)), d1, d2, i1, f.trans (FrX.of_below (S := S0) hb) fun k hk => .inl hk⟩
theorem Mem.swap (h : Mem w wr S0 J P1 P2 sx sy tx ty) : Mem w wr S0 (fun w S x y => J w S y x) P2 P1 sy sx ty tx := by
  obtain ⟨S1, S2, S, r1, r2, p, d1, d2, i1, f⟩ := h
  exact ⟨S2, S1, S, r2, r1, p, fun k hk => ⟨fun e => (d1 k e).1 hk, d2 k hk⟩, fun k hk => (d1 k hk).2, i1, f⟩
theorem Mem.cut1 (hM : Meets F fv b0 J) (h : Mem w wr S0 J P1 P2 sx sy tx ty) (m : Nat) (hm : ∀ s r, sx = s :: r → m ≤ s.size) (hz : ∀ s ∈ sx, s.size ≤ 1000000000) :
    Calls Try.prog 50 #[.int .i64 (m : Int), .pointer (some ⟨P1, 0, none⟩)] wr fun e w' => e = .returned (stepV (headC (cutS sx m))) ∧ Mem w w' S0 J P1 P2 (cutS sx m) sy tx ty := by
  obtain ⟨S1, S2, S, r1, r2, p, d1, d2, i1, f⟩ := h
  refine (cut_any wr S1 w.heap.size P1 sx m r1 (fun s r e => ⟨hm s r e, hz s (by rw [e]; exact List.mem_cons_self)⟩) hz).mono ?_
  rintro e w1 ⟨he, q1, f1⟩
  exact ⟨he, S1, S2, S, q1, r2.kept f1.size fun k hk => f1.block k (r2.own k hk).2 (fun e => (d1 k e).1 hk), hM.kept p f1.size (fun k hk => f1.block k (hM.lt p k hk) (fun e => (d1 k e).2 hk)), d1, d2, i1, f.trans f1 fun k hk => .inr (r1.own k hk).1⟩
theorem Mem.cut2 (hM : Meets F fv b0 J) (h : Mem w wr S0 J P1 P2 sx sy tx ty) (m : Nat) (hm : ∀ s r, sy = s :: r → m ≤ s.size) (hz : ∀ s ∈ sy, s.size ≤ 1000000000) :
    Calls Try.prog 50 #[.int .i64 (m : Int), .pointer (some ⟨P2, 0, none⟩)] wr fun e w' => e = .returned (stepV (headC (cutS sy m))) ∧ Mem w w' S0 J P1 P2 sx (cutS sy m) tx ty := by
  obtain ⟨S1, S2, S, r1, r2, p, d1, d2, i1, f⟩ := h
  refine (cut_any wr S2 w.heap.size P2 sy m r2 (fun s r e => ⟨hm s r e, hz s (by rw [e]; exact List.mem_cons_self)⟩) hz).mono ?_
  rintro e w1 ⟨he, q1, f1⟩
  exact ⟨he, S1, S2, S, r1.kept f1.size fun k hk => f1.block k (r1.own k hk).2 (fun e => (d1 k hk).1 e), q1, hM.kept p f1.size (fun k hk => f1.block k (hM.lt p k hk) (fun e => d2 k e hk)), d1, d2, i1, f.trans f1 fun k hk => .inr (r2.own k hk).1⟩
theorem Mem.meet (hM : Meets F fv b0 J) (h : Mem w wr S0 J P1 P2 sx sy tx ty) (hx : Head tx) (hy : Head ty) (hn : tx ≠ [] ∨ ty ≠ []) (hb : b0 ≤ w.heap.size) :
    Calls Try.prog F (#[stepV (headC tx), stepV (headC ty)] ++ fv) wr fun e w' => ∃ (n m : Nat), e = .returned (.tuple #[.int .i64 (n : Int), .int .i64 (m : Int)]) ∧ Mem w w' S0 J P1 P2 sx sy (cutS tx n) (cutS ty m) ∧
      (∀ s r, tx = s :: r → n ≤ s.size) ∧ (∀ s r, ty = s :: r → m ≤ s.size) ∧ szS (cutS tx n) + szS (cutS ty m) < szS tx + szS ty ∧ n ≤ 200000 ∧ m ≤ 200000 := by
  obtain ⟨S1, S2, S, r1, r2, p, d1, d2, i1, f⟩ := h
  refine (hM.call p hx hy hn (by have := f.size; omega)).mono ?_
  rintro e w1 ⟨n, m, S', he, q, hs, f1, rest⟩
  refine ⟨n, m, he, ⟨S1, S2, S', r1.kept f1.size fun k hk => f1.block k (r1.own k hk).2 (fun e => (d1 k hk).2 e), r2.kept f1.size fun k hk => f1.block k (r2.own k hk).2 (fun e => d2 k hk e), q, fun k hk => ⟨(d1 k hk).1, fun e => ?_⟩, fun k hk e => ?_, fun k hk => ?_, f.trans f1 fun k hk => i1 k hk⟩, rest⟩
  · rcases hs k e with e | e
    · exact (d1 k hk).2 e
    · have := (r1.own k hk).2; omega
  · rcases hs k e with e | e
    · exact d2 k hk e
    · have := (r2.own k hk).2; omega
  · rcases hs k hk with e | e
    · exact i1 k e
    · exact .inr (by have := f.size; omega)
end
end Go.Proofs.Ytoeplaofgmdlbaa
