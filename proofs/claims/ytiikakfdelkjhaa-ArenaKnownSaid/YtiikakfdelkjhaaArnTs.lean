/- ArenaTree: the law. -/
import Derived.Test.YtiikakfdelkjhaaArnTr
namespace Go.Proofs.Ytiikakfdelkjhaa.Arn
open Go.RowKit
set_option maxRecDepth 20000
set_option linter.unusedVariables false

set_option maxHeartbeats 8000000 in
theorem lawTree_any (w : World) (A0 : Option Addr) (n0 c0 : Nat) (l0 : List Cl) (hcl : ClsIn (Old w) w A0 n0 l0) (hn0 : n0 ≤ c0) (hc0 : c0 ≤ maxLen) :
    Calls Try.prog 5 #[.slice A0 n0 c0] w fun e w' => e = .returned (.bool true) ∧ Below w.heap.size w w' := by
  have hcl' := Lib.hid hcl
  have hfw := Lib.hid (few_any w A0 n0 c0 l0 hcl hn0 hc0 200 (by decide))
  have hll := Lib.hid hcl.1
  clear hcl
  cases hf : fewV l0 200 with
  | false =>
    have hf' := Lib.hid hf
    clear hf
    go_enter Try.func5, Try.ntmps5
    go_wp2_with (first
      | (go_at_call 8; refine hfw.out.mono ?_; rintro e w7 ⟨rfl, h7⟩; rw [h7, hf'.out]; clear h7 w7)
      | (go_at_call 9; refine (works_any _).mono ?_; rintro e w8 ⟨rfl, hb8⟩; have hb8' := Lib.hid hb8; clear hb8))
    go_ret
    exact ⟨rfl, hb8'.out⟩
  | true =>
    have hf' := Lib.hid hf
    clear hf
    have hall := Lib.hid (show l0.length ≤ 200 ∧ ∀ c ∈ l0, c.an ≤ 30 from by
      have h := hf'.out
      unfold fewV at h
      rw [Bool.and_eq_true, decide_eq_true_eq, List.all_eq_true] at h
      refine ⟨h.1, fun c hc => ?_⟩
      have h2 := h.2 c hc
      unfold fewD at h2
      rw [Bool.and_eq_true, decide_eq_true_eq] at h2
      exact h2.1)
    have hn60 : n0 ≤ 200 := by have := hall.out.1; have := hll.out; omega
    go_enter Try.func5, Try.ntmps5
    go_wp2_with (first
      | (go_at_call 8; refine hfw.out.mono ?_; rintro e w7 ⟨rfl, h7⟩; rw [h7, hf'.out]; clear h7 w7)
      | (go_at_call 10; refine (new_any _ (fun _ => .off) (off_low _) (fun _ e => e) (fun _ => False) Dt.zero none 0 0 (zero_dat _) (fun _ e => e.elim)).mono ?_; rintro e w1 ⟨P, ow1, rfl, hp, hr1, hb1⟩; have hp' := Lib.hid hp; have hr1' := Lib.hid hr1; have hb1' := Lib.hid hb1; clear hp hr1 hb1)
      | (go_at_call 11; refine (rnew_any _ ow1 hp'.out.low (fun _ => False) Dt.zero none 0 0 (zero_dat _) (fun _ e => e.elim)).mono ?_; rintro e w2 ⟨R, ow2, rfl, hr, hr2, hb2⟩; have hrun := Lib.hid (run_new hp'.out hr1'.out hb1'.out hr hr2 hb2); clear hr hr2 hb2))
    clear hp' hr1' hb1'
    go_loopw [5] (fun i wr => ∃ (q : Nat) (a : Av), q ≤ n0 ∧ i = .int .i64 (q : Int) ∧ Run w wr P R a q) (fun i _ => n0 - (intOf i).toNat)
    case atStart => exact ⟨0, _, Nat.zero_le _, rfl, hrun.out⟩
    case round =>
      obtain ⟨q, a, hq, rfl, hR⟩ := hrel
      have hR' := Lib.hid hR
      clear hR
      by_cases hqn : q < n0
      · have hcw : ClsIn (Old w) wr A0 n0 l0 := hcl'.out.kept (fun _ h => h) fun k hk => hR'.out.bel.block k hk
        obtain ⟨ad, c, rfl, hlc, hok, x0, xs⟩ := call_cell hcw hqn
        have x1 := xs 1 _ (by decide) rfl
        have x2 := xs 2 _ (by decide) rfl
        have x3 := xs 3 _ (by decide) rfl
        have x4 := xs 4 _ (by decide) rfl
        have x5 := xs 5 _ (by decide) rfl
        have x6 := xs 6 _ (by decide) rfl
        have x7 := xs 7 _ (by decide) rfl
        have x8 := xs 8 _ (by decide) rfl
        obtain ⟨ow, hB, ho⟩ := hR'.out.both
        have ho' := Lib.hid ho
        have hqI : (q : Int) < (n0 : Int) := by omega
        have hD := Lib.hid (does_any hB hR'.out.wf (by have := hR'.out.cnt; have := hall.out.1; have := hll.out; omega) (Old w) c hok (fun k hk => ⟨Nat.lt_of_lt_of_le hk hR'.out.bel.size, ho k hk⟩) (hall.out.2 c (List.mem_of_getElem? hlc)))
        clear xs hok hlc hcw hB ho
        go_wp2_with (first
          | (go_at_call 14; refine hD.out.mono ?_; rintro e w5 ⟨rfl, hd5⟩; have hS := Lib.hid (hR'.out.step ho'.out c hd5); clear hd5)
          | (go_at_call 17; refine (whole_any (w := w5) (hS.out.both.choose_spec.1.p) hS.out.wf (by have := hS.out.cnt; omega)).mono ?_; rintro e w6 ⟨rfl, hb6⟩; have hS6 := Lib.hid (hS.out.below hb6); clear hb6))
        go_roundw
        case rel => exact ⟨q + 1, _, by omega, by go_num, hS6.out⟩
        case measure => simp [intOf]; omega
      · have hqI : ¬ (q : Int) < (n0 : Int) := by omega
        obtain ⟨W0, hW0⟩ : ∃ W0, W0 = wr := ⟨_, rfl⟩
        subst hW0
        obtain ⟨ow, hB, ho⟩ := hR'.out.both
        obtain ⟨B0, m0, sv, sA, sc, fA, fc, hPA⟩ := hB.p
        have hPA' := Lib.hid hPA
        have hwf' := Lib.hid hR'.out.wf
        have hbw := Lib.hid hR'.out.bel
        obtain ⟨N, hN⟩ : ∃ N, N = a.cnt := ⟨_, rfl⟩
        have hN' := Lib.hid hN
        have hNs : N ≤ 1000 := by have := hR'.out.cnt; omega
        have hN1 : 0 < N := by have := hR'.out.wf.cnt_pos; omega
        have hmk := mk_int N (by omega)
        clear hB ho hPA hN hR'
        go_wp2_with (go_at_call 18; refine (slots_any hPA'.out).mono ?_; rintro e w7 ⟨rfl, rfl⟩; rw [← hN'.out])
        go_loopw [8] (fun i ws => ∃ q : Nat, q ≤ N ∧ i = .int .i64 (q : Int) ∧ Cnt ws W0.heap.size N (seen1 a q 0) ∧ Below W0.heap.size W0 ws) (fun i _ => N - (intOf i).toNat)
        case atStart => exact ⟨0, Nat.zero_le _, rfl, (Cnt.new W0 N).eq fun j => (seen1_start hwf'.out j).symm, (Below.refl _ _).alloc (Nat.le_refl _) _⟩
        case round =>
          obtain ⟨x, hx, rfl, hc, hb⟩ := hrel
          have hc' := Lib.hid hc
          have hb' := Lib.hid hb
          clear hc hb
          by_cases hxN : x < N
          · have hxI : (x : Int) < (N : Int) := by omega
            have hK := Lib.hid (kids_any (hPA'.out.below hb'.out) (x : Int))
            rw [kidsI_nat hwf'.out x] at hK
            obtain ⟨L, hL⟩ : ∃ L, L = (a.kids x).length := ⟨_, rfl⟩
            have hL' := Lib.hid hL
            have hLs : L ≤ 1000 := by have := hwf'.out.kids_len x; have := hN'.out; omega
            rw [← hL] at hK
            clear hL
            go_wp2_with (go_at_call 19; refine hK.out.mono ?_; rintro e w3 ⟨KA, kc, rfl, ho3, hn3, hb3⟩; have ho3' := Lib.hid ho3; have hn3' := Lib.hid hn3; have hb3' := Lib.hid hb3; clear ho3 hn3 hb3)
            have hkg := Lib.hid (show ∀ ad, KA = some ad → ad.block ≠ W0.heap.size from fun ad e h => by have := hn3'.out ad e; have := hc'.out.lt; omega)
            have hkl := Lib.hid (show w3.heap[W0.heap.size]? = _ from hb3'.out.block _ hc'.out.lt)
            have hLc := ho3'.out.blk.2.1
            go_loopw [10] (fun i wt => ∃ z : Nat, z ≤ L ∧ i = .int .i64 (z : Int) ∧ Cnt wt W0.heap.size N (seen1 a x z) ∧ OwnN wt (.slice KA L kc) (a.kids x) ∧ Below W0.heap.size W0 wt) (fun i _ => L - (intOf i).toNat)
            case atStart => exact ⟨0, Nat.zero_le _, rfl, hc'.out.kept hkl.out, ho3'.out, hb'.out.trans (hb3'.out.mono hb'.out.size)⟩
            case round =>
              obtain ⟨z, hz, rfl, hc4, ho4, hb4⟩ := hrel
              have hc4' := Lib.hid hc4
              have ho4' := Lib.hid ho4
              have hb4' := Lib.hid hb4
              clear hc4 ho4 hb4
              by_cases hzL : z < L
              · have hzI : (z : Int) < (L : Int) := by omega
                obtain ⟨y, hy⟩ : ∃ y, (a.kids x)[z]? = some y := ⟨_, List.getElem?_eq_getElem (by have := hL'.out; omega)⟩
                obtain ⟨g, hg, hgc⟩ := ho4'.out.at_ hy
                obtain ⟨y0, yN, yp⟩ := kid_facts hwf'.out hy
                have yp' := Lib.hid yp
                have y0I : ¬ (y : Int) ≤ 0 := by omega
                have yNI : ¬ (N : Int) ≤ (y : Int) := by have := hN'.out; omega
                have yNI2 : (y : Int) < (N : Int) := by omega
                obtain ⟨s0, sf⟩ := hc4'.out.at_ (show y < N by omega)
                rw [seen1_at hwf'.out hy] at s0
                unfold natV at hgc
                have hnext := Lib.hid ((hc4'.out.put (i := y) (by omega)).eq fun j => seen1_step hwf'.out hy j)
                have hpar := Lib.hid (parent_any (hPA'.out.below hb4'.out) (y : Int))
                have hbes := Lib.hid (ho4'.out.beside (g := W0.heap.size) (i := y) (v := .int .i64 1) hkg.out)
                subst hg
                clear hy yp yN y0
                go_wp2_with (go_at_call 20; refine hpar.out.mono ?_; rintro e w9 ⟨rfl, rfl⟩; rw [yp'.out])
                go_region
                go_wp2_with fail
                go_roundw
                case rel => exact ⟨z + 1, by omega, by go_num, hnext.out, hbes.out, (hb4'.out.setCell (Nat.le_refl _) _).drew⟩
                case measure => simp [intOf]; omega
              · have hzI : ¬ (z : Int) < (L : Int) := by omega
                have hzL' : z = L := by omega
                subst hzL'
                have hnx := Lib.hid (show Cnt _ W0.heap.size N (seen1 a (x + 1) 0) from hc4'.out.eq fun j => by rw [seen1_next hwf'.out x j, ← hL'.out])
                go_wp2_with fail
                go_roundw
                case rel => exact ⟨x + 1, by omega, by go_num, hnx.out, hb4'.out⟩
                case measure => simp [intOf]; omega
          · have hxI : ¬ (x : Int) < (N : Int) := by omega
            obtain rfl : x = N := by omega
            have hF := Lib.hid (free_any (hPA'.out.below hb'.out))
            obtain ⟨L, hL⟩ : ∃ L, L = a.free.length := ⟨_, rfl⟩
            have hL' := Lib.hid hL
            have hLs : L ≤ 1000 := by have := hwf'.out.free_len; have := hN'.out; omega
            rw [← hL] at hF
            clear hL
            go_wp2_with (go_at_call 21; refine hF.out.mono ?_; rintro e w3 ⟨KA, kc, rfl, ho3, hn3, hb3⟩; have ho3' := Lib.hid ho3; have hn3' := Lib.hid hn3; have hb3' := Lib.hid hb3; clear ho3 hn3 hb3)
            have hkg := Lib.hid (show ∀ ad, KA = some ad → ad.block ≠ W0.heap.size from fun ad e h => by have := hn3'.out ad e; have := hc'.out.lt; omega)
            have hkl := Lib.hid (show w3.heap[W0.heap.size]? = _ from hb3'.out.block _ hc'.out.lt)
            have hLc := ho3'.out.blk.2.1
            go_loopw [12] (fun i wt => ∃ z : Nat, z ≤ L ∧ i = .int .i64 (z : Int) ∧ Cnt wt W0.heap.size x (seen2 a x z) ∧ OwnN wt (.slice KA L kc) a.free ∧ Below W0.heap.size W0 wt) (fun i _ => L - (intOf i).toNat)
            case atStart => exact ⟨0, Nat.zero_le _, rfl, (hc'.out.kept hkl.out).eq fun j => seen2_start hwf'.out x j, ho3'.out, hb'.out.trans (hb3'.out.mono hb'.out.size)⟩
            case round =>
              obtain ⟨z, hz, rfl, hc4, ho4, hb4⟩ := hrel
              have hc4' := Lib.hid hc4
              have ho4' := Lib.hid ho4
              have hb4' := Lib.hid hb4
              clear hc4 ho4 hb4
              by_cases hzL : z < L
              · have hzI : (z : Int) < (L : Int) := by omega
                obtain ⟨y, hy⟩ : ∃ y, a.free[z]? = some y := ⟨_, List.getElem?_eq_getElem (by have := hL'.out; omega)⟩
                obtain ⟨g, hg, hgc⟩ := ho4'.out.at_ hy
                obtain ⟨y0, yN⟩ := free_facts hwf'.out hy
                have y0I : ¬ (y : Int) ≤ 0 := by omega
                have yNI : ¬ (x : Int) ≤ (y : Int) := by have := hN'.out; omega
                have yNI2 : (y : Int) < (x : Int) := by omega
                obtain ⟨s0, sf⟩ := hc4'.out.at_ (show y < x by omega)
                have hs0 := seen2_at hwf'.out hy
                rw [← hN'.out] at hs0
                rw [hs0] at s0
                unfold natV at hgc
                have hnext := Lib.hid ((hc4'.out.put (i := y) (by omega)).eq fun j => seen2_step hwf'.out hy j)
                have hbes := Lib.hid (ho4'.out.beside (g := W0.heap.size) (i := y) (v := .int .i64 1) hkg.out)
                subst hg
                clear hy yN y0 hs0
                go_wp2_with fail
                go_region
                go_wp2_with fail
                go_roundw
                case rel => exact ⟨z + 1, by omega, by go_num, hnext.out, hbes.out, (hb4'.out.setCell (Nat.le_refl _) _).drew⟩
                case measure => simp [intOf]; omega
              · have hzI : ¬ (z : Int) < (L : Int) := by omega
                have hzL' : z = L := by omega
                subst hzL'
                have hcE := Lib.hid (show Cnt _ W0.heap.size x (seen2 a a.cnt a.free.length) from hc4'.out.eq fun j => by rw [← hN'.out, ← hL'.out])
                clear hc4' ho4'
                go_wp2_with fail
                go_loopw [13] (fun i wu => ∃ y : Nat, 1 ≤ y ∧ y ≤ x ∧ i = .int .i64 (y : Int) ∧ Cnt wu W0.heap.size x (seen2 a a.cnt a.free.length) ∧ Below W0.heap.size W0 wu) (fun i _ => x - (intOf i).toNat)
                case atStart => exact ⟨1, by omega, by omega, rfl, hcE.out, hb4'.out⟩
                case round =>
                  obtain ⟨y, hy1, hyx, rfl, hc5, hb5⟩ := hrel
                  have hc5' := Lib.hid hc5
                  have hb5' := Lib.hid hb5
                  clear hc5 hb5
                  by_cases hyN : y < x
                  · have hyI : (y : Int) < (x : Int) := by omega
                    have hone := seen2_one hwf'.out (show 0 < y by omega) (show y < a.cnt by have := hN'.out; omega)
                    have hG := Lib.hid (get_any (hPA'.out.below hb5'.out) (y : Int))
                    have hy0 : (0 : Int) < (y : Int) := by omega
                    have hy0' : 0 < y := by omega
                    obtain ⟨W1, hW1⟩ : ∃ W1, W1 = wr := ⟨_, rfl⟩
                    subst hW1
                    have hone' := Lib.hid hone
                    have hx1 : (0 : Int) < (x : Int) := by omega
                    have hx1' : 0 < x := by omega
                    have hGd := Lib.hid (show ∀ w9 o, Below W1.heap.size W1 w9 → Cnt (w9.alloc o) W0.heap.size x (seen2 a a.cnt a.free.length) ∧ Below W0.heap.size W0 (w9.alloc o) from fun w9 o hb9 =>
                      ⟨hc5'.out.kept ((Go.heap_alloc_old w9 _ (Nat.lt_of_lt_of_le hc5'.out.lt hb9.size)).trans (hb9.block _ hc5'.out.lt)), (hb5'.out.trans (hb9.mono hb5'.out.size)).alloc (Nat.le_trans hb5'.out.size hb9.size) _⟩)
                    clear hone
                    cases hlv : a.live y with
                    | false =>
                      have hli := Lib.hid (show liveI a (y : Int) = false by unfold liveI; simp [hlv])
                      clear hlv
                      go_wp2_with (go_at_call 22; refine hG.out.mono ?_; rintro e w9 ⟨A9, n9, c9, rfl, -, hb9⟩; rw [hli.out]; unfold datV; have hb9' := Lib.hid hb9; clear hb9)
                      obtain ⟨g1, g2⟩ := hGd.out w9 (.cells #[.int .u64 ((datI a (y : Int)).id : Int), .bool (datI a (y : Int)).leaf, .string ⟨(datI a (y : Int)).label.toArray⟩, .slice A9 n9 c9, .string ⟨(datI a (y : Int)).text.toArray⟩] 25) hb9'.out
                      obtain ⟨W9, hW9⟩ : ∃ W9, W9 = w9.alloc (.cells #[.int .u64 ((datI a (y : Int)).id : Int), .bool (datI a (y : Int)).leaf, .string ⟨(datI a (y : Int)).label.toArray⟩, .slice A9 n9 c9, .string ⟨(datI a (y : Int)).text.toArray⟩] 25) := ⟨_, rfl⟩
                      rw [← hW9] at g1 g2 ⊢
                      clear hW9
                      obtain ⟨s0, sf⟩ := g1.at_ hyN
                      rw [hone'.out] at s0
                      have g1' := Lib.hid g1
                      have g2' := Lib.hid g2
                      clear g1 g2
                      go_loopw [16, 17] (fun up i wu => up = .int .i64 (y : Int) ∧ i = .int .i64 0 ∧ wu = W9) (fun _ _ _ => 0)
                      case atStart => exact ⟨rfl, rfl, rfl⟩
                      case round =>
                        obtain ⟨rfl, rfl, rfl⟩ := hrel
                        go_wp2_with fail
                        go_roundw
                        case rel => exact ⟨y + 1, by omega, by omega, by go_num, g1'.out, g2'.out⟩
                        case measure => simp [intOf]; omega
                    | true =>
                      have hli := Lib.hid (show liveI a (y : Int) = true by unfold liveI; simp [hlv])
                      obtain ⟨d0, hd0, hdn⟩ := deep_facts hwf'.out hlv
                      rw [← hN'.out] at hdn
                      have hd0' := Lib.hid hd0
                      have hlv' := Lib.hid hlv
                      clear hlv hd0
                      go_wp2_with (go_at_call 22; refine hG.out.mono ?_; rintro e w9 ⟨A9, n9, c9, rfl, -, hb9⟩; rw [hli.out]; unfold datV; have hb9' := Lib.hid hb9; clear hb9)
                      obtain ⟨g1, g2⟩ := hGd.out w9 (.cells #[.int .u64 ((datI a (y : Int)).id : Int), .bool (datI a (y : Int)).leaf, .string ⟨(datI a (y : Int)).label.toArray⟩, .slice A9 n9 c9, .string ⟨(datI a (y : Int)).text.toArray⟩] 25) hb9'.out
                      obtain ⟨W9, hW9⟩ : ∃ W9, W9 = w9.alloc (.cells #[.int .u64 ((datI a (y : Int)).id : Int), .bool (datI a (y : Int)).leaf, .string ⟨(datI a (y : Int)).label.toArray⟩, .slice A9 n9 c9, .string ⟨(datI a (y : Int)).text.toArray⟩] 25) := ⟨_, rfl⟩
                      rw [← hW9] at g1 g2 ⊢
                      clear hW9
                      obtain ⟨s0, sf⟩ := g1.at_ hyN
                      rw [hone'.out] at s0
                      have g1' := Lib.hid g1
                      have g2' := Lib.hid g2
                      clear g1 g2
                      go_loopw [16, 17] (fun up i wu => ∃ z u d : Nat, up = .int .i64 (u : Int) ∧ i = .int .i64 (z : Int) ∧ wu = W9 ∧ a.live u = true ∧ Dp a.par u d ∧ d + z = d0) (fun _ i _ => x - (intOf i).toNat)
                      case atStart => exact ⟨0, y, d0, rfl, rfl, rfl, hlv'.out, hd0'.out, rfl⟩
                      case round =>
                        obtain ⟨z, u, d, rfl, rfl, rfl, hu, hd, hsum⟩ := hrel
                        have hzx : z < x := by omega
                        have hzxI : (z : Int) < (x : Int) := by omega
                        by_cases hu0 : 0 < u
                        · have hu0I : (0 : Int) < (u : Int) := by omega
                          obtain ⟨p, d', rfl, hp, hpl, hpd⟩ := up_facts hwf'.out hu hd hu0
                          have hpar := Lib.hid (parent_any (hPA'.out.below g2'.out) (u : Int))
                          have hp' := Lib.hid hp
                          have hpl' := Lib.hid hpl
                          have hpd' := Lib.hid hpd
                          clear hp hu hd hpl hpd
                          go_wp2_with (go_at_call 20; refine hpar.out.mono ?_; rintro e w7 ⟨rfl, rfl⟩; rw [hp'.out])
                          go_roundw
                          case rel => exact ⟨z + 1, p, d', rfl, by go_num, by trivial, hpl'.out, hpd'.out, by omega⟩
                          case measure => simp [intOf]; omega
                        · obtain rfl : u = 0 := by omega
                          clear hu hd
                          go_wp2_with fail
                          go_roundw
                          case rel => exact ⟨y + 1, by omega, by omega, by go_num, g1'.out, g2'.out⟩
                          case measure => simp [intOf]; omega
                  · have hyI : ¬ (y : Int) < (x : Int) := by omega
                    obtain ⟨s0, sf⟩ := hc5'.out.at_ hN1
                    have hroot := seen2_root hwf'.out
                    rw [hroot] at s0
                    have hx1 : (1 : Int) ≤ (x : Int) := by omega
                    have hx1' : 1 ≤ x := by omega
                    have hpr := Lib.hid (show parI a 0 = -1 by unfold parI; split; exact hwf'.out.par0; rfl)
                    have hpar := Lib.hid (parent_any (hPA'.out.below hb5'.out) 0)
                    clear hroot
                    go_wp2_with (first
                      | (go_at_call 20; refine hpar.out.mono ?_; rintro e w9 ⟨rfl, rfl⟩; rw [hpr.out])
                      | (go_at_call 9; refine (works_any _).mono ?_; rintro e w8 ⟨rfl, hb8⟩; have hb8' := Lib.hid hb8; clear hb8))
                    go_ret
                    exact ⟨rfl, (hbw.out.trans (hb5'.out.mono hbw.out.size)).trans (hb8'.out.mono (by have := hbw.out.size; have := hb5'.out.size; omega))⟩
end Go.Proofs.Ytiikakfdelkjhaa.Arn
