/- Are both disks the same? What is told is spoilt. -/
import Derived.Test.YtffenadibnehfaaSecLawC
namespace Go.Proofs.Ytffenadibnehfaa
open Go.RowKit

theorem Sys.drew (Y : Sys) {w : World} {S : Nat → Prop} {B p : Nat} {d : RD} (h : Y.At w S B p d) (n : Nat) : Y.At (w.drewN n) S B p d := Y.kept h fun _ _ => rfl
theorem quietly {P : Program} {f : FuncId} {args : Array Value} {w : World} {n : Nat} {v : Value} (h : Calls P f args (w.drewN n) fun e w' => e = .returned v ∧ w.drewN n = w') :
    Calls P f args (w.drewN n) fun e w'' => e = .returned v ∧ ∃ m, w'' = w.drewN m := Calls.quiet_of_same (h.mono fun _ _ ⟨a, b⟩ => ⟨a, b.symm⟩)
set_option maxHeartbeats 1600000 in
theorem same_any (Y : Sys) (w : World) (S : Nat → Prop) (B p B2 q : Nat) (d : RD) (h : Both Y w S B p d B2 q d) (hL : Lim d) :
    Calls Try.prog 12 #[.pointer (some ⟨p, 0, none⟩), .pointer (some ⟨q, 0, none⟩)] w fun e w' => e = .returned (.bool true) ∧ Below w.heap.size w w' := by
  have h' := Lib.hid h
  have hL' := Lib.hid hL
  have hw1 := hL.wr
  have hb1 := hL.base
  obtain ⟨hat, ⟨_, _, bv, lv, hp, hbo, hwo⟩, _⟩ := h
  have hq : q < w.heap.size := (Array.getElem?_eq_some_iff.1 hp).1
  have c0 := cell_of_row w q 0 _ _ _ hp
  have c1 := cell_of_row w q 1 _ _ _ hp
  have c4 := cell_of_row w q 4 _ _ _ hp
  obtain ⟨A, c, rfl, _⟩ := own_form hbo
  obtain ⟨A2, c2, rfl, _⟩ := own_form hwo
  simp at c0 c1 c4
  have hat' := Lib.hid hat
  clear hp hbo hwo hat hL
  obtain ⟨n, hn⟩ : ∃ n, n = d.base.length := ⟨_, rfl⟩
  have hn' := Lib.hid hn
  obtain ⟨m, hm⟩ : ∃ m, m = d.wr.length := ⟨_, rfl⟩
  have hm' := Lib.hid hm
  obtain ⟨o, ho⟩ : ∃ o, o = d.gone := ⟨_, rfl⟩
  have ho' := Lib.hid ho
  rw [← hn] at c0 hb1
  rw [← hm] at c1 hw1
  rw [← ho] at c4
  have t1 : ((n : Int) != (n : Int)) = false := by simp
  have t2 : ((m : Int) != (m : Int)) = false := by simp
  clear hn hm ho
  have q1 : ∀ k, Calls Try.prog 24 #[.pointer (some ⟨p, 0, none⟩)] (w.drewN k) fun e w'' => e = .returned (.int .i64 (n : Int)) ∧ ∃ m, w'' = w.drewN m := fun k => quietly (by rw [hn'.out]; exact Y.sectors (Y.drew hat'.out k) hL'.out)
  have q2 : ∀ k, Calls Try.prog 17 #[.pointer (some ⟨p, 0, none⟩)] (w.drewN k) fun e w'' => e = .returned (.int .i64 (m : Int)) ∧ ∃ m, w'' = w.drewN m := fun k => quietly (by rw [hm'.out]; exact Y.writes (Y.drew hat'.out k) hL'.out)
  have q3 : ∀ k, Calls Try.prog 23 #[.pointer (some ⟨p, 0, none⟩)] (w.drewN k) fun e w'' => e = .returned (.bool o) ∧ ∃ m, w'' = w.drewN m := fun k => quietly (by rw [ho'.out]; exact Y.off (Y.drew hat'.out k) hL'.out)
  have q1' := Lib.hid q1
  have q2' := Lib.hid q2
  have q3' := Lib.hid q3
  clear q1 q2 q3
  go_enter Try.func12, Try.ntmps12
  go_wp2_with fail
  go_quiet (first
    | (go_at_call 24; exact q1'.out _)
    | (go_at_call 17; exact q2'.out _)
    | (go_at_call 23; exact q3'.out _))
  go_wp2_with fail
  clear c1 c4 q1' q2' q3' t1 t2 hw1
  have hb0 := fun k => Lib.hid (draws (Below.refl w.heap.size w) k)
  go_loopw [5] (fun v wr => ∃ r : Nat, r ≤ n + 2 ∧ v = .int .i64 ((r : Int) - 1) ∧ Below w.heap.size w wr) (fun v _ => n + 2 - (intOf v + 1).toNat)
  case atStart => exact ⟨0, Nat.zero_le _, rfl, (hb0 _).out⟩
  case round =>
    obtain ⟨r, hr, rfl, hbel⟩ := hrel
    clear hb0
    have d0 := (hbel.cell (p := ⟨q, 0, none⟩) hq).trans c0
    have hbel' := Lib.hid hbel
    have hB := Lib.hid (h'.out.below hbel)
    clear c0 hbel
    by_cases h1 : (r : Int) - 1 ≤ (n : Int)
    · go_wp2_with fail
      refine (Y.read hB.out.at_ hL'.out ((r : Int) - 1)).mono ?_
      rintro e w1 ⟨v, rfl, hv, hb1'⟩
      go_wp2_with fail
      refine (read_any w1 B2 q d ((r : Int) - 1) (hB.out.ref.below hb1') (by have := hL'.out.base; omega) (by have := hL'.out.wr; omega)).mono ?_
      rintro e w2 ⟨rfl, rfl⟩
      obtain ⟨A3, c3, rfl, hnc, hcm, _, hB3, hN3⟩ := hv
      generalize hn3 : (readV d ((r : Int) - 1)).length = n3 at *
      have hstr := run_str w1 A3 n3 c3 _ hB3
      have hb1'' := Lib.hid hb1'
      generalize readV d ((r : Int) - 1) = bs at *
      generalize askedV d ((r : Int) - 1) = ek at *
      have t1 : (ek != ek) = false := by simp
      unfold strV
      have hst := Lib.hid hN3
      replace hcm := Nat.le_trans hnc hcm
      clear hN3 hb1' hB3 hn3 hnc
      go_wp2_with fail
      clear hstr t1
      go_loopw [10] (fun v wi => ∃ k : Nat, k ≤ n3 ∧ v = .int .i64 (k : Int) ∧ Below wr.heap.size wr wi ∧ NRow wi wr.heap.size A3 n3) (fun v _ => n3 - (intOf v).toNat)
      case atStart => exact ⟨0, Nat.zero_le _, rfl, hb1''.out, hst.out⟩
      case round =>
        obtain ⟨k, hk, rfl, hbi, hrow⟩ := hrel
        clear hst hb1''
        by_cases h2 : k < n3
        · obtain ⟨g, off, z, rfl, hgb, hc, hfz⟩ := hrow.at_ h2
          have hst3 := Lib.hid (hrow.set h2 (IntKind.u8.wrap (z + 1)))
          have hbi2 := Lib.hid (hbi.setCell (p := ⟨g, off + k, none⟩) hgb (.int .u8 (IntKind.u8.wrap (z + 1))))
          have hkI : (k : Int) < (n3 : Int) := by omega
          have hk0 : (0 : Int) ≤ (k : Int) := Int.natCast_nonneg _
          unfold maxLen at hcm
          clear hrow hbi
          go_wp2_with fail
          go_roundw
          case rel => exact ⟨k + 1, by omega, by go_num, hbi2.out, hst3.out⟩
          case measure => simp [intOf]; omega
        · have hkI : ¬ (k : Int) < (n3 : Int) := by omega
          have hbi2 := Lib.hid hbi
          clear hrow hbi h2
          go_wp2_with fail
          go_roundw
          case rel => exact ⟨r + 1, by omega, by go_num, (hbel'.out.trans (hbi2.out.mono hbel'.out.size))⟩
          case measure => simp [intOf]; omega
    · have hfin := Lib.hid (show Below w.heap.size w wr from hbel'.out)
      go_wp2_with fail
      go_ret
      exact ⟨rfl, hfin.out⟩
end Go.Proofs.Ytffenadibnehfaa
