/- Copies; parents and children. -/
import Derived.Test.YtflllhodeakpgaaPthC
import Derived.Deep.RegionWith
import Derived.OwnWalk
namespace Go.Proofs.Ytflllhodeakpgaa
open Go.RowKit
set_option maxRecDepth 20000

/-- a new row of the call's own with these numbers -/
def NewRow (w : World) (xs : List Int) (e : Ending) (w' : World) : Prop := ∃ v, e = .returned v ∧ OwnI w.heap.size w' v xs ∧ Below w.heap.size w w'
theorem grown_nil {w w' : World} (hg : w.grownBy w' (Value.slice none 0 0).ownBlock) : Below w.heap.size w w' :=
  Below.grown (Below.refl _ _) hg (Nat.le_refl _) (by intro k hk; cases hk)

theorem copied_any (w : World) (A : Option Addr) (n c : Nat) (xs : List Int) (hA : Its w A n xs) (hnil : A = none → c = 0) (hn : n ≤ 500000) :
    Calls Try.prog 35 #[.slice A n c] w (NewRow w xs) := by
  have hA' := Lib.hid hA
  have hl := Lib.hid hA.1
  have hn' := Lib.hid hnil
  clear hA hnil
  go_enter Try.func35, Try.ntmps35
  go_wp2_with (at_builtin; refine wpList_append_its rfl _ (.tmp 3) rfl w.heap.size (.slice none 0 0) [] xs rfl (OwnI.nil_ _ _) A n c rfl hA'.out hn'.out (by have := hl.out; simp; omega) (Nat.le_refl _) ?_; intro v1 w1 ho1 hg1 hat1)
  go_ret
  exact ⟨_, rfl, ho1, grown_nil hg1⟩
theorem refCopied_any (w : World) (A : Option Addr) (n c : Nat) (xs : List Int) (hA : Its w A n xs) (hnil : A = none → c = 0) (hn : n ≤ 500000) :
    Calls Try.prog 20 #[.slice A n c] w (NewRow w xs) := by
  have hA' := Lib.hid hA
  have hl := Lib.hid hA.1
  have hn' := Lib.hid hnil
  clear hA hnil
  go_enter Try.func20, Try.ntmps20
  go_wp2_with (at_builtin; refine wpList_append_its rfl (.tmp 4) (.tmp 5) rfl w.heap.size (.slice none 0 0) [] xs rfl (OwnI.nil_ _ _) A n c rfl hA'.out hn'.out (by have := hl.out; simp; omega) (Nat.le_refl _) ?_; intro v1 w1 ho1 hg1 hat1)
  go_ret
  exact ⟨_, rfl, ho1, grown_nil hg1⟩
theorem child_any (w : World) (A : Option Addr) (n c : Nat) (i : Int) (xs : List Int) (hA : Its w A n xs) (hnil : A = none → c = 0) (hn : n ≤ 500000) :
    Calls Try.prog 21 #[.slice A n c, .int .i64 i] w (NewRow w (xs ++ [i])) := by
  have hA' := Lib.hid hA
  have hl := Lib.hid hA.1
  have hn' := Lib.hid hnil
  clear hA hnil
  go_enter Try.func21, Try.ntmps21
  go_wp2_with (first
    | (go_at_call 35; refine (copied_any w A n c xs hA'.out hn'.out hn).mono ?_; rintro e w1 ⟨v1, rfl, ho1, hb1⟩; have hz1 := hb1.size)
    | (at_builtin; refine wpList_append_its rfl (.tmp 6) (.tmp 8) rfl w.heap.size v1 xs [i] rfl (World.ownsRow.alloc ho1 _) _ 1 1 rfl (Its.of_block (heap_alloc_new w1 _) rfl rfl) (by intro e; cases e) (by have := hl.out; simp; omega) (by simp; omega) ?_; intro v2 w2 ho2 hg2 hat2))
  have hb2 : Below w.heap.size w w2 := Below.grown (hb1.alloc hz1 (.cells #[.int .i64 i] 3)) hg2 (by simp; omega) (fun j hj => (World.ownsRow.lt (World.ownsRow.alloc ho1 (.cells #[.int .i64 i] 3)) j hj).1)
  go_ret
  exact ⟨_, rfl, ho2, hb2⟩
theorem refChild_any (w : World) (A : Option Addr) (n c : Nat) (i : Int) (xs : List Int) (hA : Its w A n xs) (hnil : A = none → c = 0) (hn : n ≤ 500000) :
    Calls Try.prog 24 #[.slice A n c, .int .i64 i] w (NewRow w (xs ++ [i])) := by
  have hA' := Lib.hid hA
  have hl := Lib.hid hA.1
  have hn' := Lib.hid hnil
  clear hA hnil
  go_enter Try.func24, Try.ntmps24
  go_wp2_with (first
    | (go_at_call 20; refine (refCopied_any w A n c xs hA'.out hn'.out hn).mono ?_; rintro e w1 ⟨v1, rfl, ho1, hb1⟩; have hz1 := hb1.size)
    | (at_builtin; refine wpList_append_its rfl (.tmp 6) (.tmp 8) rfl w.heap.size v1 xs [i] rfl (World.ownsRow.alloc ho1 _) _ 1 1 rfl (Its.of_block (heap_alloc_new w1 _) rfl rfl) (by intro e; cases e) (by have := hl.out; simp; omega) (by simp; omega) ?_; intro v2 w2 ho2 hg2 hat2))
  have hb2 : Below w.heap.size w w2 := Below.grown (hb1.alloc hz1 (.cells #[.int .i64 i] 3)) hg2 (by simp; omega) (fun j hj => (World.ownsRow.lt (World.ownsRow.alloc ho1 (.cells #[.int .i64 i] 3)) j hj).1)
  go_ret
  exact ⟨_, rfl, ho2, hb2⟩
/-- what Parent tells -/
def Parented (w : World) (xs : List Int) (e : Ending) (w' : World) : Prop :=
  (xs = [] ∧ e = .returned (.tuple #[.slice none 0 0, .int .i64 0, .bool false]) ∧ w' = w) ∨
  (∃ (v : Value) (ys : List Int) (z : Int), xs = ys ++ [z] ∧ e = .returned (.tuple #[v, .int .i64 z, .bool true]) ∧ OwnI w.heap.size w' v ys ∧ Below w.heap.size w w')
theorem parent_any (w : World) (A : Option Addr) (n c : Nat) (xs : List Int) (hA : Its w A n xs) (hnil : A = none → c = 0) (hn : n ≤ 500000) (hnc : n ≤ c) (hcm : c ≤ maxLen) :
    Calls Try.prog 22 #[.slice A n c] w (Parented w xs) := by
  have hA' := Lib.hid hA
  have hl := Lib.hid hA.1
  have hn' := Lib.hid hnil
  rcases Nat.eq_zero_or_pos n with h0 | h0
  · subst h0
    obtain rfl := List.eq_nil_of_length_eq_zero hA.1
    clear hA hnil
    go_enter Try.func22, Try.ntmps22
    go_wp2_with fail
    go_ret3
    exact .inl ⟨rfl, rfl, rfl⟩
  · obtain ⟨m, rfl⟩ : ∃ m, n = m + 1 := ⟨n - 1, by omega⟩
    obtain ⟨ad, z, rfl, hz, hcz⟩ := hA.at_ (show m < m + 1 by omega)
    have hlt : (ad.add m).block < w.heap.size := World.block_lt_of_cell? w _ hcz
    have hup := Lib.hid (hA.upto (q := m) (by omega))
    have hx := Lib.hid (show xs = xs.take m ++ [z] by
      have h1 := hA.1
      have h2 : xs.take (m + 1) = xs := List.take_of_length_le (by omega)
      rw [List.take_add_one, hz] at h2
      exact h2.symm)
    have e1 : (((m + 1 : Nat) : Int) == 0) = false := by rw [beq_eq_false_iff_ne]; omega
    have e2 : ((m + 1 : Nat) : Int) - 1 = (m : Int) := by omega
    have e3 : (0 : Int) ≤ (m : Int) := by omega
    have e4 : (m : Int) ≤ (c : Int) := by omega
    have e5 : (m : Int) < ((m + 1 : Nat) : Int) := by omega
    have e6 : (m : Int) < (m : Int) + 1 := by omega
    have hm5 : m ≤ 500000 := by omega
    clear hA hnil hz
    go_enter Try.func22, Try.ntmps22
    go_wp2_with fail
    go_region_law (first
      | (go_simp; go_at_call 35; refine (copied_any w.drew _ m c (xs.take m) (hup.out.drewN 1) (fun e => by cases e) hm5).mono ?_; rintro e w2 ⟨v2, rfl, ho2, hb2'⟩; have hb2 : Below w.heap.size w w2 := ⟨hb2'.os, hb2'.tape, hb2'.output, hb2'.size, hb2'.block⟩; clear hb2'; have hc2 := (hb2.cell (p := ad.add m) hlt).trans hcz))
    all_goals
      go_wp2_with fail
      go_ret3
      exact .inr ⟨v2, _, z, hx.out, rfl, ho2, hb2⟩
end Go.Proofs.Ytflllhodeakpgaa
