/- A disk that is cut. -/
import Derived.Test.YtffenadibnehfaaSecLawC
import Derived.Lib.SlBytesConst
import Derived.Deep.QuietTactic
import Derived.BigQuiet
namespace Go.Proofs.Ytffenadibnehfaa
open Go.RowKit

theorem Sys.below (Y : Sys) {w w' : World} {S : Nat → Prop} {B p : Nat} {d : RD} (h : Y.At w S B p d) (hb : Below w.heap.size w w') : Y.At w' S B p d := Y.kept h fun k hk => hb.block k (Y.lt h k hk)
def d0 : RD := newV 2
def d1 : RD := wrote d0 0 [65, 66]
def d2 : RD := wrote d1 1 [67]
def d3 : RD := wrote d2 0 [68]
theorem lim0 : Lim d0 := ⟨by decide, by decide, by decide, by decide⟩
theorem lim1 : Lim d1 := ⟨by decide, by decide, by decide, by decide⟩
theorem lim2 : Lim d2 := ⟨by decide, by decide, by decide, by decide⟩
theorem lim3 : Lim d3 := ⟨by decide, by decide, by decide, by decide⟩
theorem limc : Lim (cutV d3 2) := ⟨by decide, by decide, by decide, by decide⟩
theorem wr1 : writeV d0 0 [65, 66] = (0, d1) := rfl
theorem wr2 : writeV d1 1 [67] = (0, d2) := rfl
theorem wr3 : writeV d2 0 [68] = (0, d3) := rfl
theorem as3 : askedV d3 0 = 0 := by decide
theorem asc : askedV (cutV d3 2) 0 = 0 := by decide
theorem rd3 : readV d3 0 = secL [68] := by decide
theorem rdc : readV (cutV d3 2) 0 = secL [65, 66] := by decide

theorem frs_below {w w1 w2 w3 : World} {S : Nat → Prop} (h : Below w.heap.size w w1) (h2 : Below w1.heap.size w1 w2) (hF : FrS S w.heap.size w2 w3) : Below w.heap.size w w3 := by
  have h3 := h.trans (h2.mono h.size)
  have e := hF.below
  rw [Nat.min_eq_left h3.size] at e
  exact h3.trans e
set_option maxRecDepth 20000 in
set_option maxHeartbeats 3200000 in
theorem works_any (Y : Sys) (w : World) : Calls Try.prog 7 #[] w fun e w' => e = .returned (.bool true) ∧ Below w.heap.size w w' := by
  have kc := fun (w : World) (C : Array Value) (n c : Nat) => Lib.run_convert_bytes_const (P := Try.prog) w 29 5 C n c Try.underlying29 Try.underlying5
  go_enter Try.func7, Try.ntmps7
  go_wp2_with fail
  refine (Y.new_ w 2).mono ?_
  rintro e w1 ⟨X, S1, rfl, hA1, hS1, hb1⟩
  have hA1' := Lib.hid (show Y.At w1 S1 w.heap.size X d0 from hA1)
  have hb1' := Lib.hid hb1
  clear hA1 hb1 hS1
  go_wp2_with fail
  refine (Y.write (Y.below hA1'.out ((Below.refl _ _).alloc (Nat.le_refl _) _)) lim0 0 (some ⟨w1.heap.size, 0, none⟩) 2 2 [65, 66] (Bts.of_block (heap_alloc_new w1 _) rfl rfl) (Nat.le_refl _) (by unfold maxLen; omega) (fun e => by cases e)).mono ?_
  rintro e w2 ⟨rfl, S2, hA2, _, hF2⟩
  rw [wr1] at hA2
  rw [show (writeV d0 0 [65, 66]).1 = 0 from rfl]
  have hA2' := Lib.hid (show Y.At w2 S2 w.heap.size X d1 from hA2)
  have hb2' := Lib.hid (frs_below hb1'.out ((Below.refl _ _).alloc (Nat.le_refl _) _) hF2)
  clear hA2 hF2
  go_wp2_with fail
  refine (Y.write (Y.below hA2'.out ((Below.refl _ _).alloc (Nat.le_refl _) _)) lim1 1 (some ⟨w2.heap.size, 0, none⟩) 1 1 [67] (Bts.of_block (heap_alloc_new w2 _) rfl rfl) (Nat.le_refl _) (by unfold maxLen; omega) (fun e => by cases e)).mono ?_
  rintro e w3 ⟨rfl, S3, hA3, _, hF3⟩
  rw [wr2] at hA3
  rw [show (writeV d1 1 [67]).1 = 0 from rfl]
  have hA3' := Lib.hid (show Y.At w3 S3 w.heap.size X d2 from hA3)
  have hb3' := Lib.hid (frs_below hb2'.out ((Below.refl _ _).alloc (Nat.le_refl _) _) hF3)
  clear hA3 hF3
  go_wp2_with fail
  refine (Y.write (Y.below hA3'.out ((Below.refl _ _).alloc (Nat.le_refl _) _)) lim2 0 (some ⟨w3.heap.size, 0, none⟩) 1 1 [68] (Bts.of_block (heap_alloc_new w3 _) rfl rfl) (Nat.le_refl _) (by unfold maxLen; omega) (fun e => by cases e)).mono ?_
  rintro e w4 ⟨rfl, S4, hA4, _, hF4⟩
  rw [wr3] at hA4
  rw [show (writeV d2 0 [68]).1 = 0 from rfl]
  have hA4' := Lib.hid (show Y.At w4 S4 w.heap.size X d3 from hA4)
  have hb4' := Lib.hid (frs_below hb3'.out ((Below.refl _ _).alloc (Nat.le_refl _) _) hF4)
  clear hA4 hF4
  go_wp2_with fail
  refine (Y.cut hA4'.out lim3 2).mono ?_
  rintro e w5 ⟨X5, S5, rfl, hA5, _, hb5⟩
  have hA5' := Lib.hid hA5
  have hb5' := Lib.hid hb5
  clear hA5 hb5
  go_wp2_with fail
  refine (Y.read hA5'.out limc 0).mono ?_
  rintro e w6 ⟨v6, rfl, hv6, hb6⟩
  rw [asc, rdc] at *
  obtain ⟨A6, c6, rfl, hc6, hm6, _, hB6, _⟩ := hv6
  have hB6' := Lib.hid hB6
  have hb6' := Lib.hid hb6
  have hA6' := Lib.hid (Y.below (Y.below hA4'.out hb5'.out) hb6)
  rw [show (secL [65, 66]).length = 128 from rfl] at *
  clear hB6 hb6
  go_wp2_with fail
  refine (Y.read hA6'.out lim3 0).mono ?_
  rintro e w7 ⟨v7, rfl, hv7, hb7⟩
  rw [as3, rd3] at *
  obtain ⟨A7, c7, rfl, hc7, hm7, _, hB7, _⟩ := hv7
  rw [show (secL [68]).length = 128 from rfl] at *
  have hA7' := Lib.hid (Y.below hA6'.out hb7)
  have hs6 := run_str w7 A6 2 c6 [65, 66] ((hB6'.out.below hb7).upto (q := 2) (by omega))
  have hs7 := run_str w7 A7 2 c7 [68, 0] (hB7.upto (q := 2) (by omega))
  have hb7' := Lib.hid hb7
  have hw7 : Calls Try.prog 17 #[.pointer (some ⟨X, 0, none⟩)] w7 fun e w' => e = .returned (.int .i64 3) ∧ w7 = w' := Y.writes hA7'.out lim3
  have hw7' := Lib.hid hw7
  clear hB7 hb7 hw7
  go_wp2_with fail
  refine hw7'.out.mono ?_
  rintro e w8 ⟨rfl, rfl⟩
  clear hs6 hs7 hc6 hm6 hc7 hm7
  go_wp2_with fail
  go_ret
  exact ⟨rfl, ((hb4'.out.trans (hb5'.out.mono hb4'.out.size)).trans (hb6'.out.mono (Nat.le_trans hb4'.out.size hb5'.out.size))).trans (hb7'.out.mono (Nat.le_trans (Nat.le_trans hb4'.out.size hb5'.out.size) hb6'.out.size))⟩
end Go.Proofs.Ytffenadibnehfaa
