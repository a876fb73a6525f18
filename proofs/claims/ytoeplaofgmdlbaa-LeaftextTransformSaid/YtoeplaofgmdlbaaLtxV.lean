/- What two steps make of both drafts: the program's Transform, step by step. -/
import Derived.Test.YtoeplaofgmdlbaaLtxU
namespace Go.Proofs.Ytoeplaofgmdlbaa
open Go.RowKit
set_option maxRecDepth 20000
open Ltx (Pc)

/-- two drafts that share no block -/
structure Pr (w : World) (SB SA : Nat → Prop) (base pB pA : Nat) (rawB rawA : List Pc) : Prop where
  b : Drf w SB base pB rawB
  a : Drf w SA base pA rawA
  ap : ∀ k, SB k → ¬ SA k
section
variable {w w' : World} {SB SA : Nat → Prop} {base pB pA : Nat} {rawB rawA raw' : List Pc}
theorem Pr.below (h : Pr w SB SA base pB pA rawB rawA) (hb : Below w.heap.size w w') : Pr w' SB SA base pB pA rawB rawA := ⟨h.b.below hb, h.a.below hb, h.ap⟩
theorem Pr.swap (h : Pr w SB SA base pB pA rawB rawA) : Pr w SA SB base pA pB rawA rawB := ⟨h.a, h.b, fun k h1 h2 => h.ap k h2 h1⟩
/-- a draft behind a call -/
def Dst (w w' : World) (S : Nat → Prop) (base p : Nat) (raw : List Pc) : Prop := ∃ S', Drf w' S' base p raw ∧ (∀ k, S' k → S k ∨ w.heap.size ≤ k) ∧ FrX S w w'
theorem Dst.of {S : Nat → Prop} {p : Nat} {raw : List Pc} (hd : Drf w' (Also S w w') base p raw) (hF : FrX S w w') : Dst w w' S base p raw := ⟨_, hd, fun k hk => by rcases hk with hk | hk; exact .inl hk; exact .inr hk.1, hF⟩
theorem Dst.from_ {w0 : World} {S : Nat → Prop} {p : Nat} {raw : List Pc} (hb : Below w.heap.size w w0) (hd : Dst w0 w' S base p raw) : Dst w w' S base p raw := by
  obtain ⟨S', h1, h2, h3⟩ := hd
  refine ⟨S', h1, fun k hk => ?_, (FrX.of_below (S := S) hb).trans h3 fun k hk => .inl hk⟩
  rcases h2 k hk with e | e
  · exact .inl e
  · exact .inr (by have := hb.size; omega)
theorem Pr.step {rawB rawA raw' : List Pc} {pB pA : Nat} {SB SA : Nat → Prop} (h : Pr w SB SA base pB pA rawB rawA) (hd : Dst w w' SB base pB raw') : ∃ SB', Pr w' SB' SA base pB pA raw' rawA ∧ (∀ k, SB' k → SB k ∨ w.heap.size ≤ k) ∧ FrX SB w w' := by
  obtain ⟨SB', h1, h2, hF⟩ := hd
  refine ⟨SB', ⟨h1, h.a.kept hF.size fun k hk => hF.block k (h.a.lt k hk).2 (fun e => h.ap k e hk), fun k hk hA => ?_⟩, h2, hF⟩
  rcases h2 k hk with e | e
  · exact h.ap k e hA
  · have := (h.a.lt k hA).2
    omega
end
set_option maxHeartbeats 1000000 in
theorem beside_any (w : World) (S : Nat → Prop) (base p : Nat) (raw : List Pc) (a1 a2 b1 b2 : Int) (t1 t2 : List UInt8) (m : Nat) (X Y : Bool) (hX : X = decide (a1 = 3)) (hY : Y = decide (a2 = 3)) (h : Drf w S base p raw) (hb : totP raw + m ≤ 1000000) (hbase : base ≤ w.heap.size) :
    Calls Try.prog 38 #[.agg #[.int .u8 a1, .int .i64 b1, .string ⟨t1.toArray⟩], .agg #[.int .u8 a2, .int .i64 b2, .string ⟨t2.toArray⟩], .int .i64 (m : Int), .pointer (some ⟨p, 0, none⟩)] w fun e w' => e = .returned (.tuple #[]) ∧ Dst w w' S base p (raw ++ run X Y m) := by
  have h1 := Lib.hid (fun o1 o2 => h.below (new2 (w := w) o1 o2))
  have hsz := Lib.hid (show ∀ o1 o2, ((w.alloc o1).alloc o2).heap.size = w.heap.size + 2 from fun o1 o2 => by simp)
  have hnew := Lib.hid (fun o1 o2 => new2 (w := w) o1 o2)
  clear h
  by_cases ha2 : a2 = 3
  · subst ha2
    have hr := Lib.hid (show raw ++ run X Y m = raw by rw [hY]; simp [run])
    clear hX hY
    go_enter Try.func38, Try.ntmps38
    go_wp2_with fail
    first | go_end0 | skip
    refine ⟨rfl, Dst.from_ (hnew.out _ _) ⟨S, ?_, fun k hk => .inl hk, FrX.refl _ _⟩⟩
    rw [hr.out]
    exact h1.out _ _
  · have hb2 : ((a2 : Int) == 3) = false := by simpa using ha2
    by_cases ha1 : a1 = 3
    · subst ha1
      have hr := Lib.hid (show run X Y m = [⟨0, m, []⟩] by rw [hX, hY]; simp [run, ha2])
      clear ha2 hX hY
      go_enter Try.func38, Try.ntmps38
      go_wp2_with (go_at_call 43; refine (ddrop_any (h1.out _ _) m hb).mono ?_; rintro e w3 ⟨rfl, hd3, hF3⟩; have hd3' := Lib.hid hd3; have hF3' := Lib.hid hF3; clear hd3 hF3)
      first | go_end0 | skip
      have hd := Dst.of hd3'.out hF3'.out
      rw [← hr.out] at hd
      exact ⟨rfl, Dst.from_ (hnew.out _ _) hd⟩
    · have hb1 : ((a1 : Int) == 3) = false := by simpa using ha1
      have hr := Lib.hid (show run X Y m = [⟨m, 0, []⟩] by rw [hX, hY]; simp [run, ha2, ha1])
      clear ha2 ha1 hX hY
      go_enter Try.func38, Try.ntmps38
      go_wp2_with (go_at_call 37; refine (dkeep_any (h1.out _ _) m hb (by rw [hsz.out]; omega)).mono ?_; rintro e w3 ⟨rfl, hd3, hF3⟩; have hd3' := Lib.hid hd3; have hF3' := Lib.hid hF3; clear hd3 hF3)
      first | go_end0 | skip
      have hd := Dst.of hd3'.out hF3'.out
      rw [← hr.out] at hd
      exact ⟨rfl, Dst.from_ (hnew.out _ _) hd⟩
/-- both drafts behind a call of both -/
def Pst (w w' : World) (SB SA : Nat → Prop) (base pB pA : Nat) (rawB rawA : List Pc) : Prop :=
  ∃ SB' SA', Pr w' SB' SA' base pB pA rawB rawA ∧ (∀ k, SB' k → SB k ∨ w.heap.size ≤ k) ∧ (∀ k, SA' k → SA k ∨ w.heap.size ≤ k) ∧ FrX (fun k => SB k ∨ SA k) w w'
theorem Pr.both {w w1 w2 : World} {SB SA : Nat → Prop} {base pB pA : Nat} {rawB rawA rawB' rawA' : List Pc} (h : Pr w SB SA base pB pA rawB rawA) (h1 : Dst w w1 SB base pB rawB') (h2 : Dst w1 w2 SA base pA rawA') : Pst w w2 SB SA base pB pA rawB' rawA' := by
  obtain ⟨SB', p1, s1, f1⟩ := h.step h1
  obtain ⟨SA', p2, s2, f2⟩ := p1.swap.step h2
  refine ⟨SB', SA', p2.swap, s1, fun k hk => ?_, (f1.mono fun k _ hk => .inl hk).trans f2 fun k hk => .inl (.inr hk)⟩
  rcases s2 k hk with e | e
  · exact .inl e
  · exact .inr (by have := f1.size; omega)
theorem Pst.from_ {w w0 w' : World} {SB SA : Nat → Prop} {base pB pA : Nat} {rawB rawA : List Pc} (hb : Below w.heap.size w w0) (h : Pst w0 w' SB SA base pB pA rawB rawA) : Pst w w' SB SA base pB pA rawB rawA := by
  obtain ⟨SB', SA', p, s1, s2, f⟩ := h
  have := hb.size
  refine ⟨SB', SA', p, fun k hk => ?_, fun k hk => ?_, (FrX.of_below (S := fun k => SB k ∨ SA k) hb).trans f fun k hk => .inl hk⟩
  · rcases s1 k hk with e | e
    · exact .inl e
    · exact .inr (by omega)
  · rcases s2 k hk with e | e
    · exact .inl e
    · exact .inr (by omega)
theorem Pst.swap {w w' : World} {SB SA : Nat → Prop} {base pB pA : Nat} {rawB rawA : List Pc} (h : Pst w w' SB SA base pB pA rawB rawA) : Pst w w' SA SB base pA pB rawA rawB := by
  obtain ⟨SB', SA', p, s1, s2, f⟩ := h
  exact ⟨SA', SB', p.swap, s2, s1, f.mono fun k _ hk => by rcases hk with e | e; exact .inr e; exact .inl e⟩
section
variable {w : World} {SB SA : Nat → Prop} {base pB pA Q : Nat} {rawB rawA : List Pc} {prior : Bool}
set_option maxHeartbeats 2000000 in
theorem tmeet_x (h : Pr w SB SA base pB pA rawB rawA) (hQ : w.heap[Q]? = some (.cells #[.bool prior] 4 (0, 0))) (t1 : List UInt8) (a2 b2 : Int) (t2 : List UInt8) (hg : prior = true ∨ a2 ≠ 2)
    (hb1 : totP rawB + t1.length ≤ 1000000) (hb2 : totP rawA + t1.length ≤ 1000000) (hbase : base ≤ w.heap.size) :
    Calls Try.prog 35 #[.agg #[.int .u8 2, .int .i64 (t1.length : Int), .string ⟨t1.toArray⟩], .agg #[.int .u8 a2, .int .i64 b2, .string ⟨t2.toArray⟩], .pointer (some ⟨Q, 0, none⟩), .pointer (some ⟨pB, 0, none⟩), .pointer (some ⟨pA, 0, none⟩)] w fun e w' =>
      e = .returned (.tuple #[.int .i64 (t1.length : Int), .int .i64 0]) ∧ Pst w w' SB SA base pB pA (rawB ++ [⟨0, 0, t1⟩]) (rawA ++ [⟨t1.length, 0, []⟩]) := by
  have h1 := Lib.hid (fun o1 o2 => h.below (new2 (w := w) o1 o2))
  have hsz := Lib.hid (show ∀ o1 o2, ((w.alloc o1).alloc o2).heap.size = w.heap.size + 2 from fun o1 o2 => by simp)
  have hnew := Lib.hid (fun o1 o2 => new2 (w := w) o1 o2)
  have hlt := Lib.hid (fun k (hk : SB k) => (h.b.lt k hk).2)
  have hltA := Lib.hid (fun k (hk : SA k) => (h.a.lt k hk).2)
  have hQl : Q < w.heap.size := (Array.getElem?_eq_some_iff.1 hQ).1
  have cQ := cell_of_row w Q 0 _ _ _ hQ
  simp at cQ
  have hxb := Lib.hid (show ∀ o, ((w.alloc (.cells #[.int .u8 2, .int .i64 (t1.length : Int), .string ⟨t1.toArray⟩] 61)).alloc o).heap[w.heap.size]? = some (.cells #[.int .u8 2, .int .i64 (t1.length : Int), .string ⟨t1.toArray⟩] 61 (0, 0)) from fun o => (Go.heap_alloc_old _ o (by simp)).trans (heap_alloc_new w _))
  have hgI : prior = true ∨ (prior = false ∧ ((a2 : Int) != 2) = true) := by
    rcases hg with e | e
    · exact .inl e
    · cases prior
      · exact .inr ⟨rfl, by simpa using e⟩
      · exact .inl rfl
  clear h hQ hg
  rcases hgI with rfl | ⟨rfl, hg2⟩
  all_goals
    go_enter Try.func35, Try.ntmps35
    go_wp2_with (first
      | (go_at_call 36; refine (dput_any (h1.out _ _).b t1 hb1 (by rw [hsz.out]; omega)).mono ?_; rintro e w3 ⟨rfl, hd3, hF3⟩; have hx3 := hF3.cells (hxb.out _) (fun e => by have := hlt.out _ e; omega); have q1 := cell_of_row w3 w.heap.size 1 _ _ _ hx3; simp at q1; have hx3' := Lib.hid hx3; have hdst := Lib.hid (Dst.of hd3 hF3); have hF3' := Lib.hid hF3; have hs3 := hF3.size; rw [hsz.out] at hs3; clear hx3 hd3 hF3; obtain ⟨SB3, hp3, hsb3, -⟩ := (h1.out _ _).step hdst.out; have hp3' := Lib.hid hp3; clear hp3 hsb3)
      | (go_at_call 37; refine (dkeep_any hp3'.out.a t1.length hb2 (by omega)).mono ?_; rintro e w4 ⟨rfl, hd4, hF4⟩; have hx4 := hF4.cells hx3'.out (fun e => by have := hltA.out _ e; omega); have q4 := cell_of_row w4 w.heap.size 1 _ _ _ hx4; simp at q4; have hdst4 := Lib.hid (Dst.of hd4 hF4); clear hx4 hd4 hF4))
    go_ret2
    exact ⟨rfl, Pst.from_ (hnew.out _ _) ((h1.out _ _).both hdst.out hdst4.out)⟩
set_option maxHeartbeats 2000000 in
theorem tmeet_y (h : Pr w SB SA base pB pA rawB rawA) (hQ : w.heap[Q]? = some (.cells #[.bool prior] 4 (0, 0))) (t2 : List UInt8) (a1 b1 : Int) (t1 : List UInt8) (hg : prior = false ∨ a1 ≠ 2)
    (hb1 : totP rawA + t2.length ≤ 1000000) (hb2 : totP rawB + t2.length ≤ 1000000) (hbase : base ≤ w.heap.size) :
    Calls Try.prog 35 #[.agg #[.int .u8 a1, .int .i64 b1, .string ⟨t1.toArray⟩], .agg #[.int .u8 2, .int .i64 (t2.length : Int), .string ⟨t2.toArray⟩], .pointer (some ⟨Q, 0, none⟩), .pointer (some ⟨pB, 0, none⟩), .pointer (some ⟨pA, 0, none⟩)] w fun e w' =>
      e = .returned (.tuple #[.int .i64 0, .int .i64 (t2.length : Int)]) ∧ Pst w w' SB SA base pB pA (rawB ++ [⟨t2.length, 0, []⟩]) (rawA ++ [⟨0, 0, t2⟩]) := by
  have h1 := Lib.hid (fun o1 o2 => h.below (new2 (w := w) o1 o2))
  have hsz := Lib.hid (show ∀ o1 o2, ((w.alloc o1).alloc o2).heap.size = w.heap.size + 2 from fun o1 o2 => by simp)
  have hnew := Lib.hid (fun o1 o2 => new2 (w := w) o1 o2)
  have hltA := Lib.hid (fun k (hk : SA k) => (h.a.lt k hk).2)
  have hltB := Lib.hid (fun k (hk : SB k) => (h.b.lt k hk).2)
  have hQl : Q < w.heap.size := (Array.getElem?_eq_some_iff.1 hQ).1
  have cQ := cell_of_row w Q 0 _ _ _ hQ
  simp at cQ
  have hxb := Lib.hid (show ∀ o, ((w.alloc o).alloc (.cells #[.int .u8 2, .int .i64 (t2.length : Int), .string ⟨t2.toArray⟩] 61)).heap[w.heap.size + 1]? = some (.cells #[.int .u8 2, .int .i64 (t2.length : Int), .string ⟨t2.toArray⟩] 61 (0, 0)) from fun o => by
    have := heap_alloc_new (w.alloc o) (.cells #[.int .u8 2, .int .i64 (t2.length : Int), .string ⟨t2.toArray⟩] 61)
    rwa [show (w.alloc o).heap.size = w.heap.size + 1 from by simp] at this)
  have hgI : ((a1 : Int) == 2) = false ∨ (((a1 : Int) == 2) = true ∧ prior = false) := by
    by_cases e : a1 = 2
    · exact .inr ⟨by simpa using e, by rcases hg with e2 | e2; exact e2; exact absurd e e2⟩
    · exact .inl (by simpa using e)
  clear h hQ hg
  rcases hgI with g1 | ⟨g1, rfl⟩
  all_goals
    go_enter Try.func35, Try.ntmps35
    go_wp2_with (first
      | (go_at_call 36; refine (dput_any (h1.out _ _).a t2 hb1 (by rw [hsz.out]; omega)).mono ?_; rintro e w3 ⟨rfl, hd3, hF3⟩; have hx3 := hF3.cells (hxb.out _) (fun e => by have := hltA.out _ e; omega); have q1 := cell_of_row w3 (w.heap.size + 1) 1 _ _ _ hx3; simp at q1; have hx3' := Lib.hid hx3; have hdst := Lib.hid (Dst.of hd3 hF3); have hF3' := Lib.hid hF3; have hs3 := hF3.size; rw [hsz.out] at hs3; clear hx3 hd3 hF3; obtain ⟨SA3, hp3, hsa3, -⟩ := (h1.out _ _).swap.step hdst.out; have hp3' := Lib.hid hp3; clear hp3 hsa3)
      | (go_at_call 37; refine (dkeep_any hp3'.out.a t2.length hb2 (by omega)).mono ?_; rintro e w4 ⟨rfl, hd4, hF4⟩; have hx4 := hF4.cells hx3'.out (fun e => by have := hltB.out _ e; omega); have q4 := cell_of_row w4 (w.heap.size + 1) 1 _ _ _ hx4; simp at q4; have hdst4 := Lib.hid (Dst.of hd4 hF4); clear hx4 hd4 hF4))
    go_quiet (fail)
    go_wp2_with fail
    go_ret2
    obtain ⟨SB', SA', p, s1, s2, f⟩ := Pst.from_ (hnew.out _ _) ((h1.out _ _).swap.both hdst.out hdst4.out)
    exact ⟨rfl, SA', SB', (p.swap).below (draws (Below.refl _ _) _), s2, s1, (f.mono fun k _ hk => by rcases hk with e | e; exact .inr e; exact .inl e).drew _⟩
set_option maxHeartbeats 2000000 in
theorem tmeet_both (h : Pr w SB SA base pB pA rawB rawA) (a1 b1 a2 b2 : Int) (t1 t2 : List UInt8) (m : Nat) (X Y : Bool) (hX : X = decide (a1 = 3)) (hY : Y = decide (a2 = 3)) (h1 : a1 ≠ 2) (h2 : a2 ≠ 2) (hm : min b1 b2 = (m : Int))
    (hb1 : totP rawA + m ≤ 1000000) (hb2 : totP rawB + m ≤ 1000000) (hbase : base ≤ w.heap.size) :
    Calls Try.prog 35 #[.agg #[.int .u8 a1, .int .i64 b1, .string ⟨t1.toArray⟩], .agg #[.int .u8 a2, .int .i64 b2, .string ⟨t2.toArray⟩], .pointer (some ⟨Q, 0, none⟩), .pointer (some ⟨pB, 0, none⟩), .pointer (some ⟨pA, 0, none⟩)] w fun e w' =>
      e = .returned (.tuple #[.int .i64 (m : Int), .int .i64 (m : Int)]) ∧ Pst w w' SB SA base pB pA (rawB ++ run X Y m) (rawA ++ run Y X m) := by
  have hh := Lib.hid (fun o1 o2 => h.below (new2 (w := w) o1 o2))
  have hsz := Lib.hid (show ∀ o1 o2, ((w.alloc o1).alloc o2).heap.size = w.heap.size + 2 from fun o1 o2 => by simp)
  have hnew := Lib.hid (fun o1 o2 => new2 (w := w) o1 o2)
  have hltB := Lib.hid (fun k (hk : SB k) => (h.b.lt k hk).2)
  have hxb := Lib.hid (show ∀ o1 o2, ((w.alloc o1).alloc o2).heap[w.heap.size]? = some o1 from fun o1 o2 => (Go.heap_alloc_old _ o2 (by simp)).trans (heap_alloc_new w _))
  have hyb := Lib.hid (show ∀ o1 o2, ((w.alloc o1).alloc o2).heap[w.heap.size + 1]? = some o2 from fun o1 o2 => by
    have := heap_alloc_new (w.alloc o1) o2
    rwa [show (w.alloc o1).heap.size = w.heap.size + 1 from by simp] at this)
  have g1 : ((a1 : Int) == 2) = false := by simpa using h1
  have g2 : ((a2 : Int) == 2) = false := by simpa using h2
  have hX' := Lib.hid hX
  have hY' := Lib.hid hY
  have hm' := Lib.hid hm
  clear h h1 h2 hX hY hm
  go_enter Try.func35, Try.ntmps35
  go_wp2_with fail
  rw [hm'.out]
  refine (beside_any _ SB base pB rawB a1 a2 b1 b2 t1 t2 m X Y hX'.out hY'.out (hh.out _ _).b hb2 (by rw [hsz.out]; omega)).mono ?_
  rintro e w3 ⟨rfl, hd3⟩
  have hdst := Lib.hid hd3
  obtain ⟨SB3, hp3, hs3, hF3⟩ := (hh.out _ _).step hd3
  have hx3 := hF3.cells (hxb.out _ _) (fun e => by have := hltB.out _ e; omega)
  have hy3 := hF3.cells (hyb.out _ _) (fun e => by have := hltB.out _ e; omega)
  have x0 := cell_of_row w3 w.heap.size 0 _ _ _ hx3
  have x1 := cell_of_row w3 w.heap.size 1 _ _ _ hx3
  have x2 := cell_of_row w3 w.heap.size 2 _ _ _ hx3
  have y0 := cell_of_row w3 (w.heap.size + 1) 0 _ _ _ hy3
  have y1 := cell_of_row w3 (w.heap.size + 1) 1 _ _ _ hy3
  have y2 := cell_of_row w3 (w.heap.size + 1) 2 _ _ _ hy3
  simp at x0 x1 x2 y0 y1 y2
  have hz3 := hF3.size
  rw [hsz.out] at hz3
  have hp3' := Lib.hid hp3
  clear hd3 hp3 hs3 hF3 hx3 hy3
  go_wp2_with (go_at_call 38; refine (beside_any w3 SA base pA rawA a2 a1 b2 b1 t2 t1 m Y X hY'.out hX'.out hp3'.out.a hb1 (by omega)).mono ?_; rintro e w4 ⟨rfl, hd4⟩; have hdst4 := Lib.hid hd4; clear hd4)
  go_ret2
  exact ⟨rfl, Pst.from_ (hnew.out _ _) ((hh.out _ _).both hdst.out hdst4.out)⟩
end
end Go.Proofs.Ytoeplaofgmdlbaa
