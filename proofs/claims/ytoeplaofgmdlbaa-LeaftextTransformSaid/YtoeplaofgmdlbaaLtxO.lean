/- What undoes an edit: the program's. -/
import Derived.Test.YtoeplaofgmdlbaaLtxN
namespace Go.Proofs.Ytoeplaofgmdlbaa
open Go.RowKit
set_option maxRecDepth 20000
open Ltx (Pc)

set_option maxHeartbeats 2000000 in
theorem invert_ok (w : World) (t : List UInt8) (A : Option Addr) (n c : Nat) (l : List Pc) (hx : PcsIn w A n (l.map ipc)) (hn : n ≤ maxLen) (ht : t.length ≤ 10000000) (hr : rightV (l.map ipc) = true) (hf : Ltx.extent l ≤ t.length) (hsm : totP l ≤ 4000) :
    Calls Try.prog 24 #[.string ⟨t.toArray⟩, .slice A n c] w fun e w' => ∃ v, e = .returned (.tuple #[v, .int .i64 0]) ∧ OwnP w.heap.size w' v (Ltx.norm (Ltx.inv t l)) ∧ Below w.heap.size w w' := by
  have hx' := Lib.hid hx
  have hr' := Lib.hid hr
  have hlen := Lib.hid (show l.length = n by have := hx.1; simpa using this)
  have hf' := Lib.hid hf
  have hit := inv_tot l t
  have hfine := Lib.hid (fine_tot (l := Ltx.inv t l) (by omega))
  have hlow := Lib.hid (low_of (l := Ltx.norm (Ltx.inv t l)) (Nat.le_trans (totP_norm _) (by omega)))
  clear hx hr
  have hn' : (n : Int) ≤ 9223372036854775807 := by unfold maxLen at hn; omega
  go_enter Try.func24, Try.ntmps24
  go_wp2_with (go_at_call 30; have hh := fault_any w t A n c l hx'.out hn (by omega) hr'.out; rw [if_neg (show ¬ t.length < Ltx.extent l by omega)] at hh; refine hh.mono ?_; clear hh; rintro e w2 ⟨rfl, hb2⟩; have hb2' := Lib.hid hb2; have hs2 := hb2.size; clear hb2)
  go_loopw [0, 18] (fun s k wr => ∃ (q : Nat) (S : Nat → Prop), q ≤ n ∧ k = .int .i64 (q : Int) ∧ s = .string ⟨(t.drop (Ltx.extent (l.take q))).toArray⟩ ∧ Drf wr S w.heap.size w2.heap.size (prim ((Ltx.inv t l).take q)) ∧ Below w.heap.size w wr) (fun _ k _ => n - (intOf k).toNat)
  case atStart => exact ⟨0, _, Nat.zero_le _, rfl, by simp [Ltx.extent], Drf.new hs2, hb2'.out.alloc hs2 _⟩
  case round =>
    obtain ⟨q, S, hq, rfl, rfl, hd, hbel⟩ := hrel
    by_cases h1 : q < n
    · have h1I : (q : Int) < (n : Int) := by omega
      obtain ⟨ad, p, rfl, hpq, hlt, hp⟩ := (hx'.out.below hbel).pc h1
      obtain ⟨x1, x2, x3, x4, x5, x6, x7, x8⟩ := hp
      have hex := extent_take l q p hpq
      have hele := extent_le l (q + 1)
      have hia := inv_at l t q p hpq
      have htk := Lib.hid (prim_take (Ltx.inv t l) q _ hia)
      have ht1 := tot_take (Ltx.inv t l) (q + 1)
      have ht2 := totP_prim ((Ltx.inv t l).take (q + 1))
      rw [htk.out, totP_append, totP_append, totP_append, totP_one, totP_one, totP_one] at ht2
      simp only [List.length_nil, Nat.add_zero, Nat.zero_add] at ht2
      have hbs := hbel.size
      obtain ⟨kp, dr, pu⟩ := p
      simp only [ipc] at *
      have hdl : (t.drop (Ltx.extent (l.take q))).length = t.length - Ltx.extent (l.take q) := by rw [List.length_drop]
      have hkl : kp + dr ≤ (t.drop (Ltx.extent (l.take q))).length := by omega
      have hdd := Lib.hid (show (t.drop (Ltx.extent (l.take q))).drop (kp + dr) = t.drop (Ltx.extent (l.take (q + 1))) by rw [List.drop_drop, hex, Nat.add_assoc])
      obtain ⟨bs, hbs0⟩ : ∃ bs, bs = t.drop (Ltx.extent (l.take q)) := ⟨_, rfl⟩
      rw [← hbs0] at hkl hdd hdl htk ht2 ⊢
      have hbl : bs.length ≤ 10000000 := by omega
      have hb1 : totP (prim ((Ltx.inv t l).take q)) + kp ≤ 1000000 := by omega
      have hb2 := Lib.hid (show totP (prim ((Ltx.inv t l).take q) ++ [⟨kp, 0, []⟩]) + ((bs.drop kp).take dr).length ≤ 1000000 by rw [totP_append, totP_one]; simp only [List.length_nil]; omega)
      have hb3 := Lib.hid (show totP (prim ((Ltx.inv t l).take q) ++ [⟨kp, 0, []⟩] ++ [⟨0, 0, (bs.drop kp).take dr⟩]) + pu.length ≤ 1000000 by rw [totP_append, totP_append, totP_one, totP_one]; simp only [List.length_nil]; omega)
      have hSlt := Lib.hid hd.lt
      have hd1 := Lib.hid (fun o => hd.below ((Below.refl wr.heap.size wr).alloc (Nat.le_refl _) o))
      have hbel' := Lib.hid hbel
      have hsz0' := Lib.hid (show ∀ o, (wr.alloc o).heap.size = wr.heap.size + 1 from fun o => by simp)
      have hI1 : (kp : Int) ≤ (bs.length : Int) := by omega
      have hI2 : (kp : Int) + (dr : Int) ≤ (bs.length : Int) := by omega
      have hem := Lib.hid (ext_mid bs kp dr hkl)
      clear hd hbel hpq hbs0 hex hele ht1 ht2 hia hdl x1 x2 x3 x4
      unfold maxLen at x5
      go_wp2_with (first
        | (go_at_call 37; refine (dkeep_any (hd1.out _) kp hb1 (by rw [hsz0'.out]; omega)).mono ?_; rintro e w3 ⟨rfl, hd3, hF3⟩; have hx3 := hF3.cells (heap_alloc_new wr _) (fun e => by have := (hSlt.out _ e).2; omega); have q0 := cell_of_row w3 wr.heap.size 0 _ _ _ hx3; have q1 := cell_of_row w3 wr.heap.size 1 _ _ _ hx3; simp at q0 q1; have hx3' := Lib.hid hx3; have hd3' := Lib.hid hd3; have hF3' := Lib.hid hF3; have hs3 := hF3.size; rw [hsz0'.out] at hs3; clear hx3 hd3 hF3)
        | (go_at_call 36; rw [hem.out]; refine (dput_any hd3'.out ((bs.drop kp).take dr) hb2.out (by omega)).mono ?_; rintro e w4 ⟨rfl, hd4, hF4⟩; have hx4 := hF4.cells hx3'.out (fun e => by rcases e with e | e; (have := (hSlt.out _ e).2; omega); (have := e.1; rw [hsz0'.out] at this; omega)); have r2 := cell_of_row w4 wr.heap.size 2 _ _ _ hx4; simp at r2; have hx4' := Lib.hid hx4; have hd4' := Lib.hid hd4; have hF4' := Lib.hid hF4; have hs4 := hF4.size; clear hx4 hd4 hF4)
        | (go_at_call 43; refine (ddrop_any hd4'.out pu.length hb3.out).mono ?_; rintro e w5 ⟨rfl, hd5, hF5⟩; have hx5 := hF5.cells hx4'.out (fun e => by rcases e with (e | e) | e; (have := (hSlt.out _ e).2; omega); (have := e.1; rw [hsz0'.out] at this; omega); (have := e.1; omega)); have s0 := cell_of_row w5 wr.heap.size 0 _ _ _ hx5; have s1 := cell_of_row w5 wr.heap.size 1 _ _ _ hx5; simp at s0 s1; have hd5' := Lib.hid hd5; have hF5' := Lib.hid hF5; have hs5 := hF5.size; clear hx5 hd5 hF5))
      go_roundw
      case rel =>
        have hd6 := hd5'.out
        rw [← htk.out] at hd6
        refine ⟨q + 1, _, by omega, by go_num, ?_, hd6, ?_⟩
        · rw [← hdd.out]
          first | rfl | exact congrArg Value.string (ext_drop _ _)
        · have e1 : Below w.heap.size w (wr.alloc (.cells #[.int .i64 (kp : Int), .int .i64 (dr : Int), .string ⟨pu.toArray⟩] 29)) := hbel'.out.alloc hbs _
          have e2 := e1.trans (hF3'.out.below (B := w.heap.size) (fun k hk => (hSlt.out k hk).1) (by rw [hsz0'.out]; omega))
          have e3 := e2.trans (hF4'.out.below (B := w.heap.size) (fun k hk => (hd3'.out.lt k hk).1) (by omega))
          exact e3.trans (hF5'.out.below (B := w.heap.size) (fun k hk => (hd4'.out.lt k hk).1) (by omega))
      case measure => simp [intOf]; omega
    · have hqn : q = n := by omega
      have h1I : ¬ (q : Int) < (n : Int) := by omega
      have hd' := Lib.hid (show Drf wr S w.heap.size w2.heap.size (prim (Ltx.inv t l)) by
        have e : (Ltx.inv t l).take q = Ltx.inv t l := by rw [hqn, ← hlen.out, ← inv_len l t, List.take_length]
        rw [e] at hd
        exact hd)
      have hbel' := Lib.hid hbel
      have hbs := hbel.size
      have htb := Lib.hid (show totP (prim (Ltx.inv t l)) ≤ 1000000 by rw [totP_prim]; omega)
      have hpn := Lib.hid (prim_norm (Ltx.inv t l))
      clear hd hbel hqn h1
      generalize (⟨(t.drop (Ltx.extent (l.take q))).toArray⟩ : ByteArray) = rest at *
      go_wp2_with (go_at_call 39; refine (dwhole_any hd'.out htb.out hbs (by rw [hpn.out]; exact hfine.out)).mono ?_; rintro e w3 ⟨v, rfl, hv, hs, hF⟩; rw [hpn.out] at hv; obtain ⟨A1, n1, k1, rfl, -, -, -, -, -⟩ := hv.shape hlow.out; have hv' := Lib.hid hv; have hF' := Lib.hid hF; clear hv hs hF)
      go_ret2
      exact ⟨_, rfl, hv'.out, hbel'.out.trans (hF'.out.below (B := w.heap.size) (fun k hk => (hd'.out.lt k hk).1) hbs)⟩
set_option maxHeartbeats 1000000 in
theorem invert_far (w : World) (t : List UInt8) (A : Option Addr) (n c : Nat) (l : List Pc) (hx : PcsIn w A n (l.map ipc)) (hn : n ≤ maxLen) (ht : t.length ≤ 10000000) (hr : rightV (l.map ipc) = true) (hf : t.length < Ltx.extent l) :
    Calls Try.prog 24 #[.string ⟨t.toArray⟩, .slice A n c] w fun e w' => e = .returned (.tuple #[.slice none 0 0, .int .i64 50]) ∧ Below w.heap.size w w' := by
  have hx' := Lib.hid hx
  have hr' := Lib.hid hr
  have hf' := Lib.hid hf
  clear hx hr hf
  go_enter Try.func24, Try.ntmps24
  go_wp2_with (go_at_call 30; have hh := fault_any w t A n c l hx'.out hn (by omega) hr'.out; rw [if_pos hf'.out] at hh; refine hh.mono ?_; clear hh; rintro e w2 ⟨rfl, hb2⟩; have hb2' := Lib.hid hb2; clear hb2)
  go_ret2
  exact ⟨rfl, hb2'.out⟩
set_option maxHeartbeats 1000000 in
theorem invert_not (w : World) (t : List UInt8) (A : Option Addr) (n c : Nat) (xs : List IP) (hx : PcsIn w A n xs) (hn : n ≤ maxLen) (hr : rightV xs = false) :
    Calls Try.prog 24 #[.string ⟨t.toArray⟩, .slice A n c] w fun e w' => e = .returned (.tuple #[.slice none 0 0, .int .i64 2]) ∧ Below w.heap.size w w' := by
  have hx' := Lib.hid hx
  have hr' := Lib.hid hr
  clear hx hr
  go_enter Try.func24, Try.ntmps24
  go_wp2_with (go_at_call 30; refine (fault_not w t A n c xs hx'.out hn hr'.out).mono ?_; rintro e w2 ⟨rfl, hb2⟩; have hb2' := Lib.hid hb2; clear hb2)
  go_ret2
  exact ⟨rfl, hb2'.out⟩
end Go.Proofs.Ytoeplaofgmdlbaa
