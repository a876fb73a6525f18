/- CrcBack: on any number and any two rows of bytes the law returns true, and turns nothing that was there. -/
import Derived.Test.YtkfggbafgjephaaCrcOwn
namespace Go.Proofs.Ytkfggbafgjephaa
open Go.RowKit

set_option maxHeartbeats 600000 in
theorem back_any (x : Nat) (A1 A2 : Option Addr) (n1 c1 n2 c2 : Nat) (xs bs : List UInt8) (w : World) (hx : x < 4294967296) (hA : Bts w A1 n1 xs) (hB : Bts w A2 n2 bs) (hm1 : n1 ≤ maxLen) (hm2 : n2 ≤ maxLen)
    (hn1 : A1 = none → c1 = 0) (hn2 : A2 = none → c2 = 0) :
    Calls Try.prog 6 #[.int .u32 (x : Int), .slice A1 n1 c1, .slice A2 n2 c2] w fun e w' => e = .returned (.bool true) ∧ Below w.heap.size w w' := by
  by_cases hbig : (1500 : Int) < (n1 : Int)
  · clear hA hB hn1 hn2
    go_enter Try.func6, Try.ntmps6
    go_wp2_with (go_at_call 10; refine (works_any _).mono ?_; rintro e w' ⟨rfl, hb⟩)
    go_ret
    exact ⟨rfl, hb⟩
  by_cases hbig2 : (1500 : Int) < (n2 : Int)
  · clear hA hB hn1 hn2
    go_enter Try.func6, Try.ntmps6
    go_wp2_with (go_at_call 10; refine (works_any _).mono ?_; rintro e w' ⟨rfl, hb⟩)
    go_ret
    exact ⟨rfl, hb⟩
  obtain rfl := hA.1
  obtain rfl := hB.1
  have hx1 := moreV_lt xs hx
  have hx2 := lessV_lt bs hx
  have hxx := moreV_lt bs hx1
  have hyy := lessV_lt xs hx2
  have q1 : (((lessV (moreV (moreV x xs) bs) (xs ++ bs) : Nat) : Int) == (x : Int)) = true := by
    rw [less_append, less_more bs hx1, less_more xs hx, beq_self_eq_true]
  have q2 : (((moreV (lessV (lessV x bs) xs) (xs ++ bs) : Nat) : Int) == (x : Int)) = true := by
    rw [more_append, more_less, more_less, beq_self_eq_true]
  have q3 : (((moreV x (xs ++ bs) : Nat) : Int) == ((moreV (moreV x xs) bs : Nat) : Int)) = true := by rw [more_append, beq_self_eq_true]
  have q4 : (((lessV x (xs ++ bs) : Nat) : Int) == ((lessV (lessV x bs) xs : Nat) : Int)) = true := by rw [less_append, beq_self_eq_true]
  have hA' := Lib.hid hA
  have hB' := Lib.hid hB
  have hn1' := Lib.hid hn1
  have hn2' := Lib.hid hn2
  have L : (xs ++ bs).length ≤ maxLen := by rw [List.length_append]; unfold maxLen; omega
  have L' := Lib.hid L
  have Q1 := Lib.hid q1
  have Q2 := Lib.hid q2
  have Q3 := Lib.hid q3
  have Q4 := Lib.hid q4
  clear hA hB hn1 hn2 L q1 q2 q3 q4
  go_enter Try.func6, Try.ntmps6
  go_wp2_with (first
    | (at_builtin; refine wpList_append_bytes rfl (.tmp 19) (.tmp 20) rfl w.heap.size _ [] xs rfl (OwnB.nil_ _ _) A1 _ c1 rfl hA'.out hn1'.out (by simp; omega) (Nat.le_refl _) ?_; intro v1 w1 ho1 hg1 hat1)
    | (at_builtin; refine wpList_append_bytes rfl (.tmp 21) (.tmp 22) rfl w.heap.size _ xs bs rfl ho1 A2 _ c2 rfl (hB'.out.below (Below.grown (Below.refl _ _) hg1 (Nat.le_refl _) (by intro k hk; cases hk))) hn2'.out (by omega) hg1.size ?_; intro v2 w2 ho2 hg2 hat2))
  have hb1 : Below w.heap.size w w1 := Below.grown (Below.refl _ _) hg1 (Nat.le_refl _) (by intro k hk; cases hk)
  have hb2 : Below w.heap.size w w2 := Below.grown hb1 hg2 hb1.size (by
    intro k hk
    exact (World.ownsRow.lt ho1 k hk).1)
  obtain ⟨A3, c3, hv, _, _, hC, _⟩ := ho2.shape L'.out
  have hL := L'.out
  clear L'
  generalize (xs ++ bs).length = N at hv hC hL
  have L' := Lib.hid hL
  clear hL
  have hA2 := Lib.hid (hA'.out.below hb2)
  have hB2 := Lib.hid (hB'.out.below hb2)
  have hC2 := Lib.hid hC
  rw [hv]
  clear hv
  clear ho1 ho2 hg1 hg2 hat1 hat2 hC
  refine (more_any _ _ _ _ xs _ hx hA2.out hm1).mono ?_
  rintro e w' ⟨rfl, rfl⟩
  go_wp2_with fail
  refine (more_any _ _ _ _ bs _ hx1 hB2.out hm2).mono ?_
  rintro e w' ⟨rfl, rfl⟩
  go_wp2_with fail
  refine (less_any _ _ _ _ bs _ hx hB2.out hm2).mono ?_
  rintro e w' ⟨rfl, rfl⟩
  go_wp2_with fail
  refine (less_any _ _ _ _ xs _ hx2 hA2.out hm1).mono ?_
  rintro e w' ⟨rfl, rfl⟩
  have q1 := Q1.out
  have q2 := Q2.out
  have q3 := Q3.out
  have q4 := Q4.out
  go_wp2_with fail
  refine (less_any _ _ _ _ (xs ++ bs) _ hxx hC2.out L'.out).mono ?_
  rintro e w' ⟨rfl, rfl⟩
  go_wp2_with fail
  refine (more_any _ _ _ _ (xs ++ bs) _ hyy hC2.out L'.out).mono ?_
  rintro e w' ⟨rfl, rfl⟩
  go_wp2_with fail
  refine (more_any _ _ _ _ (xs ++ bs) _ hx hC2.out L'.out).mono ?_
  rintro e w' ⟨rfl, rfl⟩
  go_wp2_with fail
  refine (less_any _ _ _ _ (xs ++ bs) _ hx hC2.out L'.out).mono ?_
  rintro e w' ⟨rfl, rfl⟩
  go_wp2_with fail
  refine (works_any _).mono ?_
  rintro e w3 ⟨rfl, hb3⟩
  go_wp2_with fail
  go_ret
  exact ⟨rfl, hb2.trans (hb3.mono hb2.size)⟩
end Go.Proofs.Ytkfggbafgjephaa
