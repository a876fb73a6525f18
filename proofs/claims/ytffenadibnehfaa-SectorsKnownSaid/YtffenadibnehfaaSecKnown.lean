/- The example of the chapter, and what bounds ask, over any disk of the program's. -/
import Derived.Test.YtffenadibnehfaaSecNil
import Derived.Test.YtffenadibnehfaaSecLit
import Derived.Test.YtffenadibnehfaaSecSys
import Derived.Test.YtffenadibnehfaaSecLawF
import Derived.Test.YtffenadibnehfaaSecCutsB
import Derived.Lib.SlBytesConst
namespace Go.Proofs.Ytffenadibnehfaa
open Go.RowKit

theorem new_many (s : Int) (h : newN s ≤ 20000) : Lim (newV s) := ⟨by show (List.replicate (newN s) (secL [])).length ≤ 20000; rw [List.length_replicate]; exact h, Nat.zero_le _, by show (-9223372036854775808 : Int) ≤ 0; omega, by show (0 : Int) ≤ 9223372036854775807; omega⟩
theorem new_length (s : Int) : (newV s).base.length = newN s := List.length_replicate

theorem conv_at (w : World) (C : Array Value) (n c N : Nat) (h : w.heap.size = N) : (convert 29 29 (.slice (some ⟨N, 0, none⟩) n c)).run Try.prog (w.alloc (.cells C 5)) = .ok (.slice (some ⟨N, 0, none⟩) n c) (w.alloc (.cells C 5 (C.size, C.size + 1))) := by
  subst h
  exact Lib.run_convert_bytes_const (P := Try.prog) w 29 5 C n c Try.underlying29 Try.underlying5
def long129 : Array Value := (List.replicate 129 (Value.int .u8 0)).toArray
theorem run_long (w : World) : (Instr.makeSlice 29 (.int .i64 129) (.int .i64 129)).run Try.prog w = .ok (.slice (some ⟨w.heap.size, 0, none⟩) 129 129) (w.alloc (.cells long129 5 (0, 0))) := by kernel_rfl
set_option maxRecDepth 100000 in
set_option maxHeartbeats 64000000 in
theorem known_any (Y : Sys) (hplays : ∀ (s : Int) (A : Option Addr) (n c : Nat) (xs : List CX) (w : World), CallsIn w A n xs → n ≤ maxLen → Calls Try.prog 3 #[.int .i64 s, .slice A n c] w fun e w' => e = .returned (.bool true) ∧ Below w.heap.size w w')
    (hcuts : ∀ (A : Option Addr) (n c : Nat) (xs : List CX) (w : World), CallsIn w A n xs → n ≤ maxLen → Calls Try.prog 4 #[.slice A n c, .slice A n c] w fun e w' => e = .returned (.bool true) ∧ Below w.heap.size w w') (w : World) :
    Calls Try.prog 5 #[] w fun e w' => e = .returned (.bool true) ∧ Below w.heap.size w w' := by
  have kc := conv_at
  have hmk := run_long
  obtain ⟨ll, hll⟩ : ∃ ll, ll = long129 := ⟨_, rfl⟩
  rw [← hll] at hmk
  have hll' := Lib.hid hll
  clear hll
  go_enter Try.func5, Try.ntmps5
  go_wp2_with fail
  refine (nil_fail w 1).mono ?_
  rintro e w1 ⟨rfl, rfl⟩
  go_wp2_with fail
  refine (nil_crash w).mono ?_
  rintro e w1 ⟨rfl, rfl⟩
  go_wp2_with fail
  refine (nil_on w).mono ?_
  rintro e w1 ⟨rfl, rfl⟩
  go_wp2_with fail
  refine (nil_settle w).mono ?_
  rintro e w1 ⟨rfl, rfl⟩
  go_wp2_with fail
  refine (nil_read w 0).mono ?_
  rintro e w1 ⟨rfl, rfl⟩
  go_wp2_with fail
  refine (nil_off w).mono ?_
  rintro e w1 ⟨rfl, rfl⟩
  go_wp2_with fail
  refine (nil_write w 0).mono ?_
  rintro e w1 ⟨rfl, rfl⟩
  go_wp2_with fail
  refine (nil_sectors w).mono ?_
  rintro e w1 ⟨rfl, rfl⟩
  go_wp2_with fail
  refine (nil_writes w).mono ?_
  rintro e w1 ⟨rfl, rfl⟩
  go_wp2_with fail
  refine (nil_cut w 1).mono ?_
  rintro e w1 ⟨rfl, rfl⟩
  go_wp2_with fail
  refine (Y.new_ w 20000).mono ?_
  rintro e w1 ⟨X1, S1, rfl, hA1, _, hb1⟩
  have hA1' := Lib.hid hA1
  have hb1' := Lib.hid hb1
  have q1 : Calls Try.prog 24 #[.pointer (some ⟨X1, 0, none⟩)] w1 fun e w' => e = .returned (.int .i64 16384) ∧ w1 = w' := by
    have h := Y.sectors hA1 (new_many 20000 (by decide))
    rw [new_length] at h
    exact h
  have q1' := Lib.hid q1
  clear hA1 hb1 q1
  go_wp2_with fail
  refine q1'.out.mono ?_
  rintro e wz ⟨rfl, rfl⟩
  go_wp2_with fail
  refine (Y.new_ w1 (-1)).mono ?_
  rintro e w2 ⟨X2, S2, rfl, hA2, _, hb2⟩
  have hb2' := Lib.hid (hb1'.out.trans (hb2.mono hb1'.out.size))
  have q2 : Calls Try.prog 24 #[.pointer (some ⟨X2, 0, none⟩)] w2 fun e w' => e = .returned (.int .i64 0) ∧ w2 = w' := by
    have h := Y.sectors hA2 (new_many (-1) (by decide))
    rw [new_length] at h
    exact h
  have q2' := Lib.hid q2
  clear hA2 hb2 q2 hA1' q1'
  go_wp2_with fail
  refine q2'.out.mono ?_
  rintro e wz ⟨rfl, rfl⟩
  go_wp2_with fail
  change Calls Try.prog 3 #[.int .i64 3, .slice (some ⟨w2.heap.size + 1 + 1 + 1 + 1 + 1 + 1 + 1 + 1 + 1 + 1, 0, none⟩) 22 22] ((litObjs w2.heap.size ll).foldl World.alloc w2) _
  have hC := Lib.hid (lit_in w2 ll hll'.out)
  have hbl := Lib.hid (hb2'.out.trans ((lit_below w2 ll).mono hb2'.out.size))
  clear hmk kc
  generalize (litObjs w2.heap.size ll).foldl World.alloc w2 = W at *
  generalize w2.heap.size + 1 + 1 + 1 + 1 + 1 + 1 + 1 + 1 + 1 + 1 = N at *
  generalize (litCalls w2.heap.size).map LC.call = xs at *
  refine (hplays 3 _ 22 22 xs W hC.out (by unfold maxLen; omega)).mono ?_
  rintro e w3 ⟨rfl, hb3⟩
  have hb3' := Lib.hid hb3
  clear hb3
  go_wp2_with fail
  refine (hplays 0 _ 22 22 xs w3 (hC.out.below hb3'.out) (by unfold maxLen; omega)).mono ?_
  rintro e w4 ⟨rfl, hb4⟩
  have hb4' := Lib.hid (hb3'.out.trans (hb4.mono hb3'.out.size))
  clear hb4
  go_wp2_with fail
  refine (hcuts _ 22 22 xs w4 (hC.out.below hb4'.out) (by unfold maxLen; omega)).mono ?_
  rintro e w5 ⟨rfl, hb5⟩
  have hb5' := Lib.hid (hb4'.out.trans (hb5.mono hb4'.out.size))
  clear hb5
  go_wp2_with fail
  refine (works_any Y w5).mono ?_
  rintro e w6 ⟨rfl, hb6⟩
  have hfin := Lib.hid (hbl.out.trans ((hb5'.out.trans (hb6.mono hb5'.out.size)).mono hbl.out.size))
  clear hb6
  go_wp2_with fail
  go_ret
  exact ⟨rfl, hfin.out⟩
end Go.Proofs.Ytffenadibnehfaa
