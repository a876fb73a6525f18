/- CrcHalves: on any number and any bytes the law returns true, and turns nothing that was there. -/
import Derived.Test.YtkfggbafgjephaaCrcConv
namespace Go.Proofs.Ytkfggbafgjephaa
open Go.RowKit

set_option maxHeartbeats 1600000 in
theorem halves_any (x : Nat) (A : Option Addr) (n c : Nat) (bs : List UInt8) (w : World) (hx : x < 4294967296) (hB : Bts w A n bs) (hn : n ≤ maxLen) :
    Calls Try.prog 3 #[.int .u32 (x : Int), .slice A n c] w fun e w' => e = .returned (.bool true) ∧ Below w.heap.size w w' := by
  by_cases hbig : (3000 : Int) < (n : Int)
  · clear hB
    go_enter Try.func3, Try.ntmps3
    go_wp2_with (go_at_call 10; refine (works_any _).mono ?_; rintro e w' ⟨rfl, hb⟩)
    go_ret
    exact ⟨rfl, hb⟩
  · obtain rfl := hB.1
    have hs1 := run_str w A _ c bs hB
    obtain ⟨k, w1, hs2, hO, hb1, hz1, hk1, hk2⟩ := run_own w bs hn
    have hB1 := hB.below hb1
    have hs3 := run_str w1 _ _ k bs hO
    have hs4 := run_str w1 A _ c bs hB1
    generalize hst : (⟨bs.toArray⟩ : ByteArray) = st at *
    clear hst hz1 hk1 hk2 hB
    have hO' := Lib.hid hO
    have hB1' := Lib.hid hB1
    have hn' := Lib.hid hn
    clear hO hB1
    go_enter Try.func3, Try.ntmps3
    go_wp2_with (first
      | (go_at_call 11; refine (sum_any _ _ _ bs _ hO'.out hn'.out).mono ?_; rintro e w' ⟨rfl, rfl⟩)
      | (go_at_call 12; refine (refSum_any _ _ _ bs _ hB1'.out hn'.out).mono ?_; rintro e w' ⟨rfl, rfl⟩)
      | (go_at_call 13; refine (more_any _ _ _ _ bs _ hx hO'.out hn'.out).mono ?_; rintro e w' ⟨rfl, rfl⟩)
      | (go_at_call 14; refine (refMore_any _ _ _ _ bs _ hx hB1'.out hn'.out).mono ?_; rintro e w' ⟨rfl, rfl⟩)
      | (go_at_call 15; refine (less_any _ _ _ _ bs _ hx hO'.out hn'.out).mono ?_; rintro e w' ⟨rfl, rfl⟩)
      | (go_at_call 16; refine (refLess_any _ _ _ _ bs _ hx hB1'.out hn'.out).mono ?_; rintro e w' ⟨rfl, rfl⟩)
      | (go_at_call 10; refine (works_any _).mono ?_; rintro e w2 ⟨rfl, hb2⟩))
    go_ret
    exact ⟨rfl, hb1.trans (hb2.mono hb1.size)⟩
end Go.Proofs.Ytkfggbafgjephaa
