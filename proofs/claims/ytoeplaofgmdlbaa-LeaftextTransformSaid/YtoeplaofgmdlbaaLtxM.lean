/- A text, edited: the document's. -/
import Derived.Test.YtoeplaofgmdlbaaLtxL
namespace Go.Proofs.Ytoeplaofgmdlbaa
open Go.RowKit
set_option maxRecDepth 20000
open Ltx (Pc)

set_option maxHeartbeats 2000000 in
theorem rapply_ok (w : World) (t : List UInt8) (A : Option Addr) (n c : Nat) (l : List Pc) (hx : PcsIn w A n (l.map ipc)) (hn : n ≤ maxLen) (ht : t.length ≤ 10000000) (hr : rightV (l.map ipc) = true) (hf : Ltx.extent l ≤ t.length) :
    Calls Try.prog 19 #[.string ⟨t.toArray⟩, .slice A n c] w fun e w' => e = .returned (.tuple #[.string ⟨(Ltx.apply t l).toArray⟩, .int .i64 0]) ∧ Below w.heap.size w w' := by
  have hx' := Lib.hid hx
  have hr' := Lib.hid hr
  have hlen := Lib.hid (show l.length = n by have := hx.1; simpa using this)
  have hpu := right_puts hr
  have hex0 := (right_extent hr).1
  have hfI : ¬ (t.length : Int) < (Ltx.extent l : Int) := by omega
  clear hx hr
  have hn' : (n : Int) ≤ 9223372036854775807 := by unfold maxLen at hn; omega
  obtain ⟨E, hE⟩ : ∃ E, E = Ltx.extent l := ⟨_, rfl⟩
  have hE' := Lib.hid hE
  rw [← hE] at hfI hf hex0
  clear hE
  go_enter Try.func19, Try.ntmps19
  go_wp2_with (first
    | (go_at_call 12; have hh := rright_any w A n c _ hx'.out hn; rw [hr'.out] at hh; refine hh.mono ?_; clear hh; rintro e w2 ⟨rfl, hb2⟩; have hb2' := Lib.hid hb2; have hs2 := hb2.size; clear hb2)
    | (go_at_call 33; have hh := extent_any w2 A n c l (hx'.out.below hb2'.out) hn (by rw [← hE'.out]; omega); rw [← hE'.out] at hh; refine hh.mono ?_; clear hh; rintro e w3 ⟨rfl, hb3⟩; have hb3' := Lib.hid (hb2'.out.trans (hb3.mono hs2)); clear hb3))
  go_loopw [0, 6, 7] (fun s o k wr => ∃ (q : Nat), q ≤ n ∧ k = .int .i64 (q : Int) ∧ s = .string ⟨(t.drop (Ltx.extent (l.take q))).toArray⟩ ∧ o = .string ⟨(Ltx.emit t (l.take q)).toArray⟩ ∧ Below w.heap.size w wr) (fun _ _ k _ => n - (intOf k).toNat)
  case atStart => exact ⟨0, Nat.zero_le _, rfl, by simp [Ltx.extent], rfl, hb3'.out⟩
  case round =>
    obtain ⟨q, hq, rfl, rfl, rfl, hbel⟩ := hrel
    by_cases h1 : q < n
    · have h1I : (q : Int) < (n : Int) := by omega
      obtain ⟨ad, p, rfl, hpq, hlt, hp⟩ := (hx'.out.below hbel).pc h1
      obtain ⟨x1, x2, x3, x4, x5, x6, x7, x8⟩ := hp
      have hex := extent_take l q p hpq
      have hele := extent_le l (q + 1)
      rw [← hE'.out] at hele
      have hem := Lib.hid (emit_take t l q p hpq)
      have hpl := puts_le l (q + 1)
      have hel := emit_len t (l.take (q + 1))
      rw [hem.out, List.length_append, List.length_append] at hel
      have hbs := hbel.size
      obtain ⟨kp, dr, pu⟩ := p
      simp only [ipc] at *
      have hdl : (t.drop (Ltx.extent (l.take q))).length = t.length - Ltx.extent (l.take q) := by rw [List.length_drop]
      have hkl : kp + dr ≤ (t.drop (Ltx.extent (l.take q))).length := by omega
      have hdd := Lib.hid (show (t.drop (Ltx.extent (l.take q))).drop (kp + dr) = t.drop (Ltx.extent (l.take (q + 1))) by rw [List.drop_drop, hex, Nat.add_assoc])
      obtain ⟨bs, hbs0⟩ : ∃ bs, bs = t.drop (Ltx.extent (l.take q)) := ⟨_, rfl⟩
      rw [← hbs0] at hem hkl hdd hdl hel ⊢
      have hbl : bs.length ≤ 10000000 := by omega
      have hlt2 : (bs.take kp).length = kp := by rw [List.length_take]; omega
      rw [hlt2] at hel
      obtain ⟨em, hem0⟩ : ∃ em, em = Ltx.emit t (l.take q) := ⟨_, rfl⟩
      rw [← hem0] at hem hel ⊢
      have hbel' := Lib.hid hbel
      have hI1 : (kp : Int) ≤ (bs.length : Int) := by omega
      have hI2 : (kp : Int) + (dr : Int) ≤ (bs.length : Int) := by omega
      have hIe : em.length + kp + pu.length ≤ 20000000 := by omega
      clear hbel hpq hbs0 hex hele hpl hel hdl x1 x2 x3 x4 hem0 hlt2
      unfold maxLen at x5
      go_wp2_with (fail)
      go_quiet (fail)
      go_wp2_with fail
      go_quiet (fail)
      go_wp2_with fail
      go_roundw
      case rel =>
        refine ⟨q + 1, by omega, by go_num, ?_, ?_, draws hbel'.out _⟩
        · rw [← hdd.out]
          first | rfl | exact congrArg Value.string (ext_drop _ _)
        · rw [hem.out]
          first | rfl | (simp only [ext_take, bcat])
      case measure => simp [intOf]; omega
    · have hqn : q = n := by omega
      have h1I : ¬ (q : Int) < (n : Int) := by omega
      have hlt : l.take q = l := by rw [hqn, ← hlen.out, List.take_length]
      rw [hlt] at ⊢
      have hel := emit_len t l
      have hbel' := Lib.hid hbel
      have hap := Lib.hid (Ltx.apply_emit l t)
      have hbl : (t.drop (Ltx.extent l)).length ≤ 10000000 := by rw [List.length_drop]; omega
      clear hbel hqn h1 hlt
      generalize t.drop (Ltx.extent l) = bs at *
      generalize Ltx.emit t l = em at *
      have hIe : em.length ≤ 20000000 := by omega
      clear hel
      go_wp2_with fail
      go_ret2
      exact ⟨by rw [hap.out]; first | rfl | (simp only [bcat]; rfl), hbel'.out⟩
set_option maxHeartbeats 1000000 in
theorem rapply_far (w : World) (t : List UInt8) (A : Option Addr) (n c : Nat) (l : List Pc) (hx : PcsIn w A n (l.map ipc)) (hn : n ≤ maxLen) (ht : t.length ≤ 10000000) (hr : rightV (l.map ipc) = true) (hf : t.length < Ltx.extent l) :
    Calls Try.prog 19 #[.string ⟨t.toArray⟩, .slice A n c] w fun e w' => e = .returned (.tuple #[.string ⟨#[]⟩, .int .i64 50]) ∧ Below w.heap.size w w' := by
  have hx' := Lib.hid hx
  have hr' := Lib.hid hr
  have hex0 := (right_extent hr).1
  have hfI : (t.length : Int) < (Ltx.extent l : Int) := by omega
  clear hx hr
  obtain ⟨E, hE⟩ : ∃ E, E = Ltx.extent l := ⟨_, rfl⟩
  have hE' := Lib.hid hE
  rw [← hE] at hfI hf hex0
  clear hE
  go_enter Try.func19, Try.ntmps19
  go_wp2_with (first
    | (go_at_call 12; have hh := rright_any w A n c _ hx'.out hn; rw [hr'.out] at hh; refine hh.mono ?_; clear hh; rintro e w2 ⟨rfl, hb2⟩; have hb2' := Lib.hid hb2; have hs2 := hb2.size; clear hb2)
    | (go_at_call 33; have hh := extent_any w2 A n c l (hx'.out.below hb2'.out) hn (by rw [← hE'.out]; omega); rw [← hE'.out] at hh; refine hh.mono ?_; clear hh; rintro e w3 ⟨rfl, hb3⟩; have hb3' := Lib.hid (hb2'.out.trans (hb3.mono hs2)); clear hb3))
  go_ret2
  exact ⟨rfl, hb3'.out⟩
set_option maxHeartbeats 1000000 in
theorem rapply_not (w : World) (t : List UInt8) (A : Option Addr) (n c : Nat) (xs : List IP) (hx : PcsIn w A n xs) (hn : n ≤ maxLen) (hr : rightV xs = false) :
    Calls Try.prog 19 #[.string ⟨t.toArray⟩, .slice A n c] w fun e w' => e = .returned (.tuple #[.string ⟨#[]⟩, .int .i64 2]) ∧ Below w.heap.size w w' := by
  have hx' := Lib.hid hx
  have hr' := Lib.hid hr
  clear hx hr
  go_enter Try.func19, Try.ntmps19
  go_wp2_with (go_at_call 12; have hh := rright_any w A n c _ hx'.out hn; rw [hr'.out] at hh; refine hh.mono ?_; clear hh; rintro e w2 ⟨rfl, hb2⟩; have hb2' := Lib.hid hb2; clear hb2)
  go_ret2
  exact ⟨rfl, hb2'.out⟩
end Go.Proofs.Ytoeplaofgmdlbaa
