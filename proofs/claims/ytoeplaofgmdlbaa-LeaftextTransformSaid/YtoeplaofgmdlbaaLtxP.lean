/- What undoes an edit: the document's. -/
import Derived.Test.YtoeplaofgmdlbaaLtxO
import Derived.IntWalk
namespace Go.Proofs.Ytoeplaofgmdlbaa
open Go.RowKit
set_option maxRecDepth 20000
open Ltx (Pc)

theorem inv_take_succ (l : List Pc) (t : List UInt8) (q : Nat) (p : Pc) (h : l[q]? = some p) : (Ltx.inv t l).take (q + 1) = (Ltx.inv t l).take q ++ [⟨p.keep, p.put.length, ((t.drop (Ltx.extent (l.take q))).drop p.keep).take p.drop⟩] := by
  rw [List.take_add_one, inv_at l t q p h]
  rfl
set_option maxHeartbeats 4000000 in
theorem rinvert_ok (w : World) (t : List UInt8) (A : Option Addr) (n c : Nat) (l : List Pc) (hx : PcsIn w A n (l.map ipc)) (hn : n ≤ maxLen) (ht : t.length ≤ 10000000) (hr : rightV (l.map ipc) = true) (hf : Ltx.extent l ≤ t.length) (hsm : totP l ≤ 4000) :
    Calls Try.prog 25 #[.string ⟨t.toArray⟩, .slice A n c] w fun e w' => ∃ v, e = .returned (.tuple #[v, .int .i64 0]) ∧ OwnP w.heap.size w' v (Ltx.norm (Ltx.inv t l)) ∧ Below w.heap.size w w' := by
  have hx' := Lib.hid hx
  have hr' := Lib.hid hr
  have hf' := Lib.hid hf
  have hll := Lib.hid (show l.length ≤ 1000000 by have := (right_extent hr).2; omega)
  have htn := totP_norm l
  have hlown := Lib.hid (low_of (l := Ltx.norm l) (by omega))
  have hit := inv_tot (Ltx.norm l) t
  have hsame := Lib.hid (inv_same l t)
  have hfine := Lib.hid (fine_tot (l := Ltx.inv t (Ltx.norm l)) (by omega))
  have hlow := Lib.hid (low_of (l := Ltx.norm (Ltx.inv t (Ltx.norm l))) (Nat.le_trans (totP_norm _) (by omega)))
  have hnf : Ltx.extent (Ltx.norm l) ≤ t.length := Nat.le_trans (Ltx.extent_norm l) hf
  have hnl := normal_tot (Ltx.norm_normal l)
  clear hx hr
  go_enter Try.func25, Try.ntmps25
  go_wp2_with (first
    | (go_at_call 19; refine (rapply_ok w t A n c l hx'.out hn (by omega) hr'.out hf'.out).mono ?_; rintro e w2 ⟨rfl, hb2⟩; have hb2' := Lib.hid hb2; have hs2 := hb2.size; clear hb2)
    | (go_at_call 29; refine (rnorm_any w2 A n c l (hx'.out.below hb2'.out) hn (by omega) hll.out).mono ?_; rintro e w3 ⟨v, rfl, hv, hb3⟩; obtain ⟨A1, n1, k1, rfl, hn1, hnk1, hkm1, hP1, hA1⟩ := hv.shape hlown.out; have hP1' := Lib.hid hP1; have hn1' := Lib.hid hn1; have hb3' := Lib.hid hb3; have hs3 := hb3.size; clear hv hb3 hP1 hn1))
  have hn1m : n1 ≤ 100000 := by rw [hn1'.out]; omega
  have hm' : (n1 : Int) ≤ 9223372036854775807 := by omega
  obtain ⟨m, hm⟩ : ∃ m, m = Ltx.norm l := ⟨_, rfl⟩
  rw [← hm] at hP1' hn1' hsame hfine hlow hit hnf htn
  have hm2 := Lib.hid hm
  clear hm hlown
  go_loopw [8, 9, 10] (fun o s k wr => ∃ (q : Nat), q ≤ n1 ∧ k = .int .i64 (q : Int) ∧ s = .int .i64 (Ltx.extent (m.take q) : Int) ∧ OwnP w3.heap.size wr o ((Ltx.inv t m).take q) ∧ Below w3.heap.size w3 wr) (fun _ _ k _ => n1 - (intOf k).toNat)
  case atStart => exact ⟨0, Nat.zero_le _, rfl, by simp [Ltx.extent], OwnP.nil_ _ _, Below.refl _ _⟩
  case round =>
    obtain ⟨q, hq, rfl, rfl, hown, hbel⟩ := hrel
    have hti := tot_take (Ltx.inv t m) q
    obtain ⟨A2, n2, k2, rfl, hn2, hnk2, hkm2, hP2, hA2⟩ := hown.shape (low_of (by omega))
    have hn2' := Lib.hid hn2
    have hn2q : n2 ≤ 100000 := by rw [hn2, List.length_take, inv_len, ← hn1'.out]; omega
    have hown' := Lib.hid hown
    have hbel' := Lib.hid hbel
    have hbs := hbel.size
    by_cases h1 : q < n1
    · have h1I : (q : Int) < (n1 : Int) := by omega
      obtain ⟨ad, p, rfl, hpq, hlt, hp⟩ := (hP1'.out.below hbel).pc h1
      obtain ⟨x1, x2, x3, x4, x5, x6, x7, x8⟩ := hp
      have hex := extent_take m q p hpq
      have hele := extent_le m (q + 1)
      have hfin := Lib.hid (inv_take_succ m t q p hpq)
      have hadlt := Lib.hid (show ad.block < w3.heap.size by
        obtain ⟨ad', _, e, _, hb', _⟩ := hP1'.out.pc h1
        injection e with e
        rw [e]
        exact hb')
      obtain ⟨kp, dr, pu⟩ := p
      simp only [ipc] at *
      generalize hS : Ltx.extent (m.take q) = s at *
      have hex' := Lib.hid hex
      have hem := Lib.hid (ext_mid t (s + kp) dr (by omega))
      have hI1 : (s : Int) + (kp : Int) ≤ (t.length : Int) := by omega
      have hI2 : (s : Int) + (kp : Int) + (dr : Int) ≤ (t.length : Int) := by omega
      unfold maxLen at x5
      have hltE : (ad.add (q * 3)).block < wr.heap.size := by rw [block_add]; exact hlt
      obtain ⟨i0, hi0, hz0, hz1, hz2⟩ := info_parts Try.infoP
      have hi0' := Lib.hid hi0
      have hz0' := Lib.hid hz0
      have hz1' := Lib.hid hz1
      have hz2' := Lib.hid hz2
      obtain ⟨cs, hcs⟩ : ∃ cs : Array Value, cs = #[.int .i64 (kp : Int), .int .i64 (pu.length : Int), .string ((⟨t.toArray⟩ : ByteArray).extract (s + kp) (s + kp + dr))] := ⟨_, rfl⟩
      have hrow := Lib.hid (show ∀ o, ((wr.alloc o).drew).ownsRow w3.heap.size 29 3 (.slice A2 n2 k2) n2 (((Ltx.inv t m).take q).flatMap cellsOf) from fun o => by
        have h := hown'.out
        unfold OwnP at h
        rw [← hn2'.out] at h
        exact World.ownsRow.alloc h o)
      have hnews := Lib.hid (show ∀ (j : Nat) (u : Value), ([.int .i64 (kp : Int), .int .i64 (pu.length : Int), .string ((⟨t.toArray⟩ : ByteArray).extract (s + kp) (s + kp + dr))] : List Value)[j]? = some u → (wr.alloc (.cells #[.int .i64 (kp : Int), .int .i64 (pu.length : Int), .string ((⟨t.toArray⟩ : ByteArray).extract (s + kp) (s + kp + dr))] 29)).drew.cell? ((⟨wr.heap.size, 0, none⟩ : Addr).add j) = some u from
        World.news_of_block (w := wr.alloc (.cells #[.int .i64 (kp : Int), .int .i64 (pu.length : Int), .string ((⟨t.toArray⟩ : ByteArray).extract (s + kp) (s + kp + dr))] 29)) (cs := #[.int .i64 (kp : Int), .int .i64 (pu.length : Int), .string ((⟨t.toArray⟩ : ByteArray).extract (s + kp) (s + kp + dr))]) (t := 29) (fr := (0, 0)) (heap_alloc_new wr _))
      have hone := Lib.hid (show ∀ u ∈ ([.int .i64 (kp : Int), .int .i64 (pu.length : Int), .string ((⟨t.toArray⟩ : ByteArray).extract (s + kp) (s + kp + dr))] : List Value), u.oneCell' = true from by simp [Value.oneCell'])
      have hbd := Lib.hid (show n2 + 1 ≤ maxLen ∧ (n2 + 1) * 32 ≤ 140737488355328 from by unfold maxLen; omega)
      have hbd2 := Lib.hid (show ∀ o, w3.heap.size ≤ (wr.alloc o).drew.heap.size from fun o => by simp; omega)
      have kkeep := Lib.hid (show ∀ w4 o, World.grownBy ((wr.alloc o).drew) w4 (Value.ownBlock (.slice A2 n2 k2)) → w4.cell? (ad.add (q * 3)) = some (.int .i64 (kp : Int)) ∧ w4.cell? ⟨(ad.add (q * 3)).block, (ad.add (q * 3)).off + 1, none⟩ = some (.int .i64 (dr : Int)) ∧ w4.cell? ⟨(ad.add (q * 3)).block, (ad.add (q * 3)).off + 2, none⟩ = some (.string ⟨pu.toArray⟩) from fun w4 o hg3 => by
        have hb : w4.heap[(ad.add (q * 3)).block]? = wr.heap[(ad.add (q * 3)).block]? := by
          rw [block_add]
          rw [hg3.block ad.block (by simp; omega) (fun e => by
            have := (World.ownsRow.lt hown'.out _ e.symm).1
            have := hadlt.out
            omega)]
          exact Go.heap_alloc_old wr _ hlt
        exact ⟨(World.cell?_of_block (w := wr) (w' := w4) (a := ad.add (q * 3)) hb).trans x6, (World.cell?_of_block (w := wr) (w' := w4) (a := ⟨(ad.add (q * 3)).block, (ad.add (q * 3)).off + 1, none⟩) hb).trans x7, (World.cell?_of_block (w := wr) (w' := w4) (a := ⟨(ad.add (q * 3)).block, (ad.add (q * 3)).off + 2, none⟩) hb).trans x8⟩)
      clear hi0 hz0 hz1 hz2 hown hbel hti hn2 hP2 hpq hex hele hS hcs cs
      go_wp2_with fail
      have g1 : (0 : Int) ≤ (s : Int) + (kp : Int) := by omega
      have g2 : (0 : Int) ≤ (s : Int) + (kp : Int) + (dr : Int) := by omega
      have g3 : (s : Int) + (kp : Int) ≤ (s : Int) + (kp : Int) + (dr : Int) := by omega
      have g4 : ((s : Int) + (kp : Int)).toNat = s + kp := by omega
      have g5 : ((s : Int) + (kp : Int) + (dr : Int)).toNat = s + kp + dr := by omega
      have g6 : IntKind.i64.wrap ((s : Int) + (kp : Int) + (dr : Int)) = (s : Int) + (kp : Int) + (dr : Int) := IntWalk.i64_in _ (by omega)
      go_region_held3 (fun w' => w'.cell? (ad.add (q * 3)) = some (.int .i64 (kp : Int)) ∧ w'.cell? ⟨(ad.add (q * 3)).block, (ad.add (q * 3)).off + 1, none⟩ = some (.int .i64 (dr : Int)) ∧ w'.cell? ⟨(ad.add (q * 3)).block, (ad.add (q * 3)).off + 2, none⟩ = some (.string ⟨pu.toArray⟩))
        (first
          | go_keep
          | exact kk.out)
        ((refine step_append_lies _ (by rfl) (.tmp 35) (.tmp 58) 22 (by rfl) w3.heap.size 29 i0 _ 3 32 Try.underlying22 hi0'.out hz0'.out hz1'.out hz2'.out rfl (by decide) (.slice A2 n2 k2) n2 (((Ltx.inv t m).take q).flatMap cellsOf) (by rfl) (hrow.out _)
            ⟨wr.heap.size, 0, none⟩ 1 1 [.int .i64 (kp : Int), .int .i64 (pu.length : Int), .string ((⟨t.toArray⟩ : ByteArray).extract (s + kp) (s + kp + dr))] (by rfl) (by rfl) hnews.out hone.out
            (by decide) hbd.out.1 hbd.out.2 (hbd2.out _) (wr.heap.size + 1) (by simp) ?_; intro g cap w4 ho4 hg4 hat hlt4; have kk := Lib.hid (kkeep.out w4 _ hg4); have ho4' := Lib.hid ho4; have hg4' := Lib.hid hg4; clear ho4 hg4 hat))
      obtain ⟨y6, y7, y8⟩ := kk.out
      clear g1 g2 g3 g4 g5 g6
      go_wp2_with fail
      go_roundw
      case rel =>
        refine ⟨q + 1, by omega, by go_num, ?_, ?_, ?_⟩
        · rw [hex'.out]
          go_num
        · have h := ho4'.out
          rw [hem.out, hn2'.out] at h
          rw [hfin.out, hn2'.out]
          unfold OwnP
          rw [List.length_append, List.flatMap_append]
          rw [List.drop_drop]
          exact h
        · exact Below.grown (w := (wr.alloc (.cells #[.int .i64 (kp : Int), .int .i64 (pu.length : Int), .string ((⟨t.toArray⟩ : ByteArray).extract (s + kp) (s + kp + dr))] 29)).drew) ((hbel'.out.alloc hbs _).drew) hg4'.out (by simp; omega) (fun b hb => (World.ownsRow.lt hown'.out b hb).1)
      case measure => simp [intOf]; omega
    · have hqn : q = n1 := by omega
      have h1I : ¬ (q : Int) < (n1 : Int) := by omega
      have hfin := Lib.hid (show (Ltx.inv t m).take q = Ltx.inv t m by rw [hqn, hn1'.out, ← inv_len m t, List.take_length])
      have hP2' := Lib.hid (show PcsIn wr A2 n2 ((Ltx.inv t m).map ipc) by rw [hfin.out] at hP2; exact hP2)
      have hil := Lib.hid (show (Ltx.inv t m).length ≤ 1000000 by rw [inv_len, ← hn1'.out]; omega)
      have hn2m : n2 ≤ maxLen := by unfold maxLen; omega
      clear hqn h1 hti hn2 hown hbel hP2
      go_wp2_with (first
        | (go_at_call 29; refine (rnorm_any wr A2 n2 k2 (Ltx.inv t m) hP2'.out hn2m (by omega) hil.out).mono ?_; rintro e w5 ⟨v, rfl, hv, hb5⟩; obtain ⟨A5, n5, k5, rfl, hn5, hnk5, hkm5, hP5, -⟩ := hv.shape hlow.out; have hv' := Lib.hid hv; have hP5' := Lib.hid hP5; have hnm5 := Lib.hid (Nat.le_trans hnk5 hkm5); have hb5' := Lib.hid hb5; have hs5 := hb5.size; clear hv hb5 hP5 hn5 hnk5 hkm5)
        | (go_at_call 12; have hh := rright_any w5 A5 n5 k5 _ hP5'.out hnm5.out; rw [right_fine hfine.out] at hh; refine hh.mono ?_; clear hh; rintro e w6 ⟨rfl, hb6⟩; have hb6' := Lib.hid hb6; clear hb6))
      go_ret2
      have hv6 := own_kept hv'.out fun k hk => hb6'.out.block k (World.ownsRow.lt hv'.out k hk).2
      refine ⟨_, rfl, ?_, ?_⟩
      · have h := own_base hv6 (show w.heap.size ≤ wr.heap.size by omega)
        rw [hm2.out] at h
        rw [← inv_same l t]
        exact h
      · have b3 : Below w.heap.size w w3 := hb2'.out.trans (hb3'.out.mono hs2)
        have b4 : Below w.heap.size w wr := b3.trans (hbel'.out.mono (by omega))
        exact (b4.trans (hb5'.out.mono (by omega))).trans (hb6'.out.mono (by omega))
set_option maxHeartbeats 1000000 in
theorem rinvert_far (w : World) (t : List UInt8) (A : Option Addr) (n c : Nat) (l : List Pc) (hx : PcsIn w A n (l.map ipc)) (hn : n ≤ maxLen) (ht : t.length ≤ 10000000) (hr : rightV (l.map ipc) = true) (hf : t.length < Ltx.extent l) :
    Calls Try.prog 25 #[.string ⟨t.toArray⟩, .slice A n c] w fun e w' => e = .returned (.tuple #[.slice none 0 0, .int .i64 50]) ∧ Below w.heap.size w w' := by
  have hx' := Lib.hid hx
  have hr' := Lib.hid hr
  have hf' := Lib.hid hf
  clear hx hr hf
  go_enter Try.func25, Try.ntmps25
  go_wp2_with (go_at_call 19; refine (rapply_far w t A n c l hx'.out hn ht hr'.out hf'.out).mono ?_; rintro e w2 ⟨rfl, hb2⟩; have hb2' := Lib.hid hb2; clear hb2)
  go_ret2
  exact ⟨rfl, hb2'.out⟩
set_option maxHeartbeats 1000000 in
theorem rinvert_not (w : World) (t : List UInt8) (A : Option Addr) (n c : Nat) (xs : List IP) (hx : PcsIn w A n xs) (hn : n ≤ maxLen) (hr : rightV xs = false) :
    Calls Try.prog 25 #[.string ⟨t.toArray⟩, .slice A n c] w fun e w' => e = .returned (.tuple #[.slice none 0 0, .int .i64 2]) ∧ Below w.heap.size w w' := by
  have hx' := Lib.hid hx
  have hr' := Lib.hid hr
  clear hx hr
  go_enter Try.func25, Try.ntmps25
  go_wp2_with (go_at_call 19; refine (rapply_not w t A n c xs hx'.out hn hr'.out).mono ?_; rintro e w2 ⟨rfl, hb2⟩; have hb2' := Lib.hid hb2; clear hb2)
  go_ret2
  exact ⟨rfl, hb2'.out⟩
end Go.Proofs.Ytoeplaofgmdlbaa
