/- All sectors told; are two rows of them alike, but one? -/
import Derived.Test.YtffenadibnehfaaSecWorks
import Derived.Deep.AppendLies
namespace Go.Proofs.Ytffenadibnehfaa
open Go.RowKit

/-- what a disk that is on tells -/
def tellV (d : RD) (q : Nat) : List (List UInt8) := (List.range q).map fun i : Nat => readV d (i : Int)
theorem tellV_succ (d : RD) (q : Nat) : (tellV d (q + 1)).map strV = (tellV d q).map strV ++ [strV (readV d (q : Int))] := by simp [tellV, List.range_succ]
theorem tellV_len (d : RD) (q : Nat) : (tellV d q).length = q := by simp [tellV]
theorem tellV_at (d : RD) {q i : Nat} (h : i < q) : (tellV d q)[i]? = some (readV d (i : Int)) := by simp [tellV, h]
theorem asked_on {d : RD} {q : Nat} (hg : d.gone = false) (h : q < d.base.length) : askedV d (q : Int) = 0 := by
  unfold askedV
  rw [hg, if_neg (by decide), if_neg (by omega)]
theorem own_below {w w' : World} {base : Nat} {e : TypeId} {size : Nat} {v : Value} {n : Nat} {xs : List Value} (h : w.ownsRow base e size v n xs) (hb : Below w.heap.size w w') : w'.ownsRow base e size v n xs :=
  own_kept h fun k hk => hb.block k (World.ownsRow.lt h k hk).2

set_option maxHeartbeats 1600000 in
theorem tell_any (Y : Sys) {w : World} {S : Nat → Prop} {B p : Nat} {d : RD} (h : Y.At w S B p d) (hL : Lim d) (hg : d.gone = false) :
    Calls Try.prog 16 #[.pointer (some ⟨p, 0, none⟩)] w fun e w' => ∃ v, e = .returned v ∧ w'.ownsRow w.heap.size 9 1 v d.base.length ((tellV d d.base.length).map strV) ∧ Below w.heap.size w w' := by
  obtain ⟨i0, hi, hz0, hz1, hz2⟩ := info_parts Try.info9
  have hi' := Lib.hid hi
  have hz0' := Lib.hid hz0
  have hz1' := Lib.hid hz1
  have hz2' := Lib.hid hz2
  have h' := Lib.hid h
  have hL' := Lib.hid hL
  have hg' := Lib.hid hg
  have hb := hL.base
  obtain ⟨n, hn⟩ : ∃ n, n = d.base.length := ⟨_, rfl⟩
  have hn' := Lib.hid hn
  rw [← hn] at hb
  have q1 : ∀ W, Below w.heap.size w W → Calls Try.prog 24 #[.pointer (some ⟨p, 0, none⟩)] W fun e w' => e = .returned (.int .i64 (n : Int)) ∧ W = w' := fun W hb => by rw [hn]; exact Y.sectors (Y.below h hb) hL
  have q1' := Lib.hid q1
  clear hi hz0 hz1 hz2 h hL hg hn q1
  go_enter Try.func16, Try.ntmps16
  go_wp2_with fail
  go_loopw [3, 4] (fun v k wr => ∃ q : Nat, q ≤ n ∧ k = .int .i64 (q : Int) ∧ wr.ownsRow w.heap.size 9 1 v q ((tellV d q).map strV) ∧ Below w.heap.size w wr) (fun _ k _ => n - (intOf k).toNat)
  case atStart => exact ⟨0, Nat.zero_le _, rfl, World.ownsRow_nil _ _ _ _, Below.refl _ _⟩
  case round =>
    obtain ⟨q, hq, rfl, hown, hbel⟩ := hrel
    have hown' := Lib.hid hown
    have hbel' := Lib.hid hbel
    clear hown hbel
    go_wp2_with fail
    refine (q1'.out wr hbel'.out).mono ?_
    rintro e wz ⟨rfl, rfl⟩
    by_cases h1 : q < n
    · have h1I : (q : Int) < (n : Int) := by omega
      go_wp2_with fail
      refine (Y.read (Y.below h'.out hbel'.out) hL'.out (q : Int)).mono ?_
      rintro e w2 ⟨v2, rfl, hv2, hb2⟩
      rw [asked_on hg'.out (by rw [← hn'.out]; exact h1)]
      obtain ⟨A2, c2, rfl, hc2, hm2, _, hB2, _⟩ := hv2
      have hstr := run_str w2 A2 _ c2 _ hB2
      have hb2' := Lib.hid hb2
      have hzz := hb2.size
      have hzb := hbel'.out.size
      generalize hs : readV d (q : Int) = s at *
      have hs' := Lib.hid hs
      clear hB2 hb2 hs
      go_wp2_with (first
        | (refine wpList_append_lies _ rfl (.tmp 21) (.tmp 24) 37 rfl w.heap.size 9 i0 _ 1 16 Try.underlying37 hi'.out hz0'.out hz1'.out hz2'.out rfl (by decide) _ q ((tellV d q).map strV) rfl ((own_below hown'.out hb2'.out).alloc _) ⟨w2.heap.size, 0, none⟩ 1 1 [strV s] rfl rfl (World.news_of_block (cs := #[strV s]) (t := 9) (fr := (0, 0)) (heap_alloc_new w2 _)) (by simp [Value.oneCell', strV]) (by decide) (by unfold maxLen; omega) (by omega) (by simp; omega) _ rfl ?_; intro g cap w3 ho3 hg3 hat hlt3)
        | go_in)
      have hb3 := Lib.hid (show Below w.heap.size w w3 from Below.grown ((hbel'.out.trans (hb2'.out.mono hzb)).alloc (Nat.le_trans hzb hzz) _) hg3 (by simp; omega) (fun j hj => (World.ownsRow.lt hown'.out j hj).1))
      have ho4 := Lib.hid (show w3.ownsRow w.heap.size 9 1 (.slice (some ⟨g, 0, none⟩) (q + 1) cap) (q + 1) ((tellV d (q + 1)).map strV) by rw [tellV_succ, hs'.out]; exact ho3)
      clear ho3 hg3 hat hstr
      go_roundw
      case rel => exact ⟨q + 1, by omega, by go_num, ho4.out, hb3.out⟩
      case measure => simp [intOf]; omega
    · have h1I : ¬ (q : Int) < (n : Int) := by omega
      have hqn : q = n := by omega
      have hfin := Lib.hid hown'.out
      rw [hqn, hn'.out] at hfin
      clear h1 hqn
      go_wp2_with fail
      go_ret
      exact ⟨_, rfl, hfin.out, hbel'.out⟩

/-- a row of n texts -/
def Strs (w : World) (v : Value) (ss : List (List UInt8)) : Prop := ∃ (A : Option Addr) (c : Nat), v = .slice A ss.length c ∧ ∀ k s, ss[k]? = some s → ∃ g, A = some ⟨g, 0, none⟩ ∧ w.cell? ⟨g, k, none⟩ = some (.string ⟨s.toArray⟩)
theorem strs_own {w : World} {base : Nat} {v : Value} {ss : List (List UInt8)} {n : Nat} (hn : ss.length = n) (h : w.ownsRow base 9 1 v n (ss.map strV)) : Strs w v ss := by
  subst hn
  obtain ⟨A, c, rfl, _, _, _, hA⟩ := own_form h
  refine ⟨A, c, rfl, fun k s hk => ?_⟩
  have hkl := (List.getElem?_eq_some_iff.1 hk).1
  obtain ⟨g, e, _, _, hc⟩ := hA (by omega)
  exact ⟨g, e, hc k _ (by rw [List.getElem?_map, hk]; rfl)⟩

set_option maxHeartbeats 1600000 in
theorem like_any (w : World) (va vb : Value) (xs ys : List (List UInt8)) (but : Int) (ha : Strs w va xs) (hb : Strs w vb ys) (hx : xs.length = 8) (hy : ys.length = 8) (hb0 : -9223372036854775808 ≤ but) (hb1 : but ≤ 9223372036854775807)
    (h : ∀ i : Nat, i < 8 → (i : Int) ≠ but → xs[i]? = ys[i]?) :
    Calls Try.prog 18 #[va, vb, .int .i64 but] w fun e w' => e = .returned (.bool true) ∧ Below w.heap.size w w' := by
  obtain ⟨A, ca, rfl, hA⟩ := ha
  obtain ⟨A2, cb, rfl, hB⟩ := hb
  rw [hx, hy]
  have hA' := Lib.hid hA
  have hB' := Lib.hid hB
  have h' := Lib.hid h
  have hx' := Lib.hid hx
  clear hA hB h hx hy
  go_enter Try.func18, Try.ntmps18
  go_wp2_with fail
  go_loopw [7] (fun k wr => ∃ q : Nat, q ≤ 8 ∧ k = .int .i64 (q : Int) ∧ ∃ m, wr = w.drewN m) (fun k _ => 8 - (intOf k).toNat)
  case atStart => exact ⟨0, by omega, rfl, 0, rfl⟩
  case round =>
    obtain ⟨q, hq, rfl, m, rfl⟩ := hrel
    by_cases h1 : q < 8
    · have h1I : (q : Int) < (8 : Int) := by omega
      have hxq : xs[q]? = some (xs.getD q []) := by rw [List.getD_eq_getElem?_getD, List.getElem?_eq_getElem (by rw [hx'.out]; exact h1)]; rfl
      by_cases h2 : (q : Int) = but
      · have t1 : ((q : Int) != but) = false := by simp [h2]
        clear h2 hxq
        go_wp2_with fail
        go_quiet (fail)
        go_wp2_with fail
        go_roundw
        case rel => exact ⟨q + 1, by omega, by go_num, m + nq, rfl⟩
        case measure => simp [intOf]; omega
      · have hyq : ys[q]? = some (xs.getD q []) := (h'.out q h1 h2).symm.trans hxq
        have t1 : ((q : Int) != but) = true := by rw [bne_iff_ne]; exact h2
        obtain ⟨g1, rfl, c1⟩ := hA'.out q _ hxq
        obtain ⟨g2, rfl, c2⟩ := hB'.out q _ hyq
        generalize xs.getD q [] = s at *
        clear hxq hyq h2
        go_wp2_with fail
        go_quiet (fail)
        go_wp2_with fail
        go_roundw
        case rel => exact ⟨q + 1, by omega, by go_num, m + nq, rfl⟩
        case measure => simp [intOf]; omega
    · have h1I : ¬ (q : Int) < (8 : Int) := by omega
      go_wp2_with fail
      go_ret
      exact ⟨rfl, draws (Below.refl _ _) m⟩
end Go.Proofs.Ytffenadibnehfaa
