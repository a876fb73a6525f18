/- The law of a node that is put: what is put is there, put back the tree is what it was. -/
import Derived.Deep.RegionHeld3
import Derived.Test.YtacmofhlbebonaaTreW
import Derived.Test.YtacmofhlbebonaaTreX
import Derived.Test.YtacmofhlbebonaaTreLd
namespace Go.Proofs.Ytacmofhlbebonaa
open Go.RowKit
set_option maxRecDepth 20000

theorem Its.kept_ {w w' : World} {A : Option Addr} {n : Nat} {xs : List Int} (h : Its w A n xs) (hb : Below w.heap.size w w') : Its w' A n xs := h.below hb
set_option maxHeartbeats 16000000 in
theorem lawPut_any (w : World) (t x : Nd) (tA tK xA xK : Option Addr) (tn tc tm td xn xc xm xd : Nat) (pA : Option Addr) (pn pc : Nat) (p : List Int) (h : NodeV (Old w) w tA tn tc tK tm td t) (hx : NodeV (Old w) w xA xn xc xK xm xd x) (hp : Its w pA pn p) (hpn : pn ≤ maxLen) :
    Calls Try.prog 7 #[.agg (val6 t tA tn tc tK tm td), .slice pA pn pc, .agg (val6 x xA xn xc xK xm xd)] w fun e w' => e = .returned (.bool true) ∧ Below w.heap.size w w' := by
  obtain ⟨W0, hW0⟩ : ∃ W0, W0 = (w.alloc (.cells (val6 t tA tn tc tK tm td) 26)).alloc (.cells (val6 x xA xn xc xK xm xd) 26) := ⟨_, rfl⟩
  have hb0 : Below w.heap.size w W0 := by rw [hW0]; exact ((Below.refl _ w).alloc (Nat.le_refl _) _).alloc (by simp) _
  have ht0 := Lib.hid (show Bx W0 w.heap.size t tA tK tn tc tm td from ⟨by rw [hW0]; simp; omega, by rw [hW0]; exact two_first w _ _, h.below hb0⟩)
  have hx0 := Lib.hid (show Bx W0 (w.heap.size + 1) x xA xK xn xc xm xd from ⟨by rw [hW0]; simp, by rw [hW0]; exact two_second w _ _, hx.below hb0⟩)
  have hp0 := Lib.hid (hp.below hb0)
  have hb0' := Lib.hid hb0
  have hpn' := Lib.hid hpn
  clear h hx hp hb0
  unfold maxLen at hpn
  unfold val6 at hW0
  unfold val6
  go_enter Try.func7, Try.ntmps7
  go_wp2_with fail
  rw [← hW0]
  clear hW0
  refine (weight_any t W0 tA tK tn tc tm td 600 ht0.out.node (by decide)).mono ?_
  rintro e w1 ⟨y, rfl, hy3, hy, hb1⟩
  have hy' := Lib.hid hy
  have ht1 := Lib.hid (ht0.out.below hb1)
  have hx1 := Lib.hid (hx0.out.below hb1)
  have hp1 := Lib.hid (hp0.out.below hb1)
  have hbl1 := Lib.hid (hb0'.out.trans (hb1.mono hb0'.out.size))
  clear hy hb1 ht0 hx0 hp0 hb0'
  by_cases q1 : y ≤ 600
  · have q1I : ¬ (600 : Int) < (y : Int) := by omega
    obtain ⟨c0, c1, c2, c3, c4, c5⟩ := ht1.out.cells
    obtain ⟨d0, d1, d2, d3, d4, d5⟩ := hx1.out.cells
    go_wp2_with fail
    refine (weight_any x w1 xA xK xn xc xm xd 600 hx1.out.node (by decide)).mono ?_
    rintro e w2 ⟨z, rfl, hz3, hz, hb2⟩
    have hz' := Lib.hid hz
    have ht2 := Lib.hid (ht1.out.below hb2)
    have hx2 := Lib.hid (hx1.out.below hb2)
    have hp2 := Lib.hid (hp1.out.below hb2)
    have hbl2 := Lib.hid (hbl1.out.trans (hb2.mono hbl1.out.size))
    clear hz hb2 ht1 hx1 hp1 hbl1
    clear c0 c1 c2 c3 c4 c5 d0 d1 d2 d3 d4 d5
    by_cases q2 : z ≤ 600
    · have q2I : ¬ (600 : Int) < (z : Int) := by omega
      by_cases q3 : pn ≤ 100
      · have q3I : ¬ (100 : Int) < (pn : Int) := by omega
        have hwt := Lib.hid (show weighV t ≤ 600 by have := hy'.out q1; omega)
        have hwx := Lib.hid (show weighV x ≤ 600 by have := hz'.out q2; omega)
        obtain ⟨ws, hws⟩ : ∃ ws, ws = (atV t p).getD Nd.zero := ⟨_, rfl⟩
        obtain ⟨ok, hok⟩ : ∃ ok, ok = (atV t p).isSome := ⟨_, rfl⟩
        obtain ⟨ps, hps⟩ : ∃ ps, ps = (putV t p x).getD Nd.zero := ⟨_, rfl⟩
        have hz2 := Lib.hid (Below.refl w2.heap.size w2)
        have hc1 := Lib.hid (at_any w2 t tA tK tn tc tm td ht2.out.node pA pn pc p hp2.out hpn'.out (by have := hwt.out; omega))
        unfold AtAns at hc1
        rw [← hws, ← hok] at hc1
        have hc2 : Hid (∀ W, Below w2.heap.size w2 W → Calls Try.prog 31 #[.agg (val6 t tA tn tc tK tm td), .slice pA pn pc, .agg (val6 x xA xn xc xK xm xd)] W fun e w' => ∃ aA an ac kA kn kc, e = .returned (.tuple #[.agg (val6 ps aA an ac kA kn kc), .bool ok]) ∧ NodeV (Old w') w' aA an ac kA kn kc ps ∧ Below W.heap.size W w') := fun W hb => by
          have := put_any W t x tA tK xA xK tn tc tm td xn xc xm xd (ht2.out.below hb).node (hx2.out.below hb).node pA pn pc p (hp2.out.below hb) hpn'.out (by have := hwt.out; omega) (by have := hwx.out; omega)
          unfold PutAns at this
          rw [← hps, put_is, ← hok] at this
          exact this
        have hws' := Lib.hid hws
        have hok' := Lib.hid hok
        have hps' := Lib.hid hps
        clear hws hok hps
        unfold val6 at hc1 hc2
        obtain ⟨c0, c1, c2, c3, c4, c5⟩ := ht2.out.cells
        obtain ⟨d0, d1, d2, d3, d4, d5⟩ := hx2.out.cells
        go_wp2_with fail
        refine (hc1.out).mono ?_
        rintro e w3 ⟨fA, fn, fc, fK, fm, fd, rfl, hN3, hb3⟩
        obtain ⟨W3, hW3⟩ : ∃ W3, W3 = w3.alloc (.cells (val6 ws fA fn fc fK fm fd) 26) := ⟨_, rfl⟩
        obtain ⟨b7, hb7⟩ : ∃ b, b = w3.heap.size := ⟨_, rfl⟩
        have hbb3 : Below w2.heap.size w2 W3 := by rw [hW3]; exact hb3.alloc hb3.size _
        have hxb7 := Lib.hid (show Bx W3 b7 ws fA fK fn fc fm fd by rw [hW3, hb7]; exact Bx.new hN3)
        have ht3 := Lib.hid (ht2.out.below hbb3)
        have hx3 := Lib.hid (hx2.out.below hbb3)
        have hp3 := Lib.hid (hp2.out.below hbb3)
        have hbl3 := Lib.hid (hbl2.out.trans (hbb3.mono hbl2.out.size))
        have hz3 := Lib.hid (hz2.out.trans (hbb3.mono hz2.out.size))
        unfold val6 at hW3
        have hW3' := Lib.hid hW3
        have hb7' := Lib.hid hb7
        clear hN3 hb3 hbb3 hW3 hb7 c0 c1 c2 c3 c4 c5 d0 d1 d2 d3 d4 d5
        obtain ⟨c0, c1, c2, c3, c4, c5⟩ := ht3.out.cells
        obtain ⟨d0, d1, d2, d3, d4, d5⟩ := hx3.out.cells
        rw [hW3'.out] at c0 c1 c2 c3 c4 c5 d0 d1 d2 d3 d4 d5
        go_wp2_with fail
        rw [← hW3'.out, ← hb7'.out]
        refine (hc2.out _ hz3.out).mono ?_
        rintro e w4 ⟨gA, gn, gc, gK, gm, gd, rfl, hN4, hb4⟩
        obtain ⟨W4, hW4⟩ : ∃ W4, W4 = w4.alloc (.cells (val6 ps gA gn gc gK gm gd) 26) := ⟨_, rfl⟩
        obtain ⟨b9, hb9⟩ : ∃ b, b = w4.heap.size := ⟨_, rfl⟩
        have hbb4 : Below W3.heap.size W3 W4 := by rw [hW4]; exact hb4.alloc hb4.size _
        have hxb9 := Lib.hid (show Bx W4 b9 ps gA gK gn gc gm gd by rw [hW4, hb9]; exact Bx.new hN4)
        have ht4 := Lib.hid (ht3.out.below hbb4)
        have hx4 := Lib.hid (hx3.out.below hbb4)
        have hp4 := Lib.hid (hp3.out.below hbb4)
        have hf4 := Lib.hid (hxb7.out.below hbb4)
        have hbl4 := Lib.hid (hbl3.out.trans (hbb4.mono hbl3.out.size))
        have hz4 := Lib.hid (hz3.out.trans (hbb4.mono hz3.out.size))
        unfold val6 at hW4
        have hW4' := Lib.hid hW4
        have hb9' := Lib.hid hb9
        clear hN4 hb4 hbb4 hW4 hb9 c0 c1 c2 c3 c4 c5 d0 d1 d2 d3 d4 d5
        cases hokc : ok with
        | false =>
          have hpz : ps = Nd.zero := by
            rw [hps'.out]
            have h1 := put_is p t x
            rw [← hok'.out, hokc] at h1
            cases hq : putV t p x with
            | none => rfl
            | some a => rw [hq] at h1; cases h1
          have hc3 := Lib.hid (same_all W4 ps Nd.zero gA gK none none gn gc gm gd 0 0 0 0 hxb9.out.node zero_node (by rw [hpz]; decide))
          rw [show eqV sameA ps Nd.zero = true by rw [hpz]; exact eqV_refl sameA sameA_refl _] at hc3
          have hc3' : Hid (Calls Try.prog 16 #[.agg (val6 ps gA gn gc gK gm gd), .agg #[.int .u64 0, .bool false, .string ⟨#[]⟩, .slice none 0 0, .string ⟨#[]⟩, .slice none 0 0]] W4 fun e w' => e = .returned (.bool true) ∧ Below W4.heap.size W4 w') := hc3
          unfold val6 at hc3'
          clear hpz hc3 hokc
          obtain ⟨c0, c1, c2, c3, c4, c5⟩ := hxb9.out.cells
          rw [hW4'.out] at c0 c1 c2 c3 c4 c5
          go_wp2_with fail
          rw [← hW4'.out, ← hb9'.out]
          refine hc3'.out.mono ?_
          rintro e w5 ⟨rfl, hb5⟩
          have hbl5 := Lib.hid (hbl4.out.trans (hb5.mono hbl4.out.size))
          clear hb5 c0 c1 c2 c3 c4 c5
          go_wp2_with fail
          refine (works_any _).mono ?_
          rintro e w6 ⟨rfl, hb6⟩
          have hbl6 := Lib.hid (hbl5.out.trans (hb6.mono hbl5.out.size))
          clear hb6
          go_wp2_with fail
          go_ret
          exact ⟨rfl, hbl6.out⟩
        | true =>
          have hsome : atV t p = some ws := by
            rw [hws'.out]
            have h1 := hok'.out
            rw [hokc] at h1
            cases hq : atV t p with
            | none => rw [hq] at h1; cases h1
            | some a => rfl
          obtain ⟨a, e1, e2, e3, e4, e5⟩ := put_all p t x ws hsome
          obtain rfl : ps = a := by rw [hps'.out, e1]; rfl
          obtain ⟨e6, e7⟩ := at_count p t ws hsome
          have hwp := Lib.hid (show weighV ps ≤ 1200 by have := hwt.out; have := hwx.out; omega)
          have hww := Lib.hid (show weighV ws ≤ 600 by have := hwt.out; omega)
          have hc3 := Lib.hid (at_any W4 ps gA gK gn gc gm gd hxb9.out.node pA pn pc p hp4.out hpn'.out (by have := hwp.out; omega))
          unfold AtAns at hc3
          rw [e2] at hc3
          have hc3' : Hid (Calls Try.prog 29 #[.agg (val6 ps gA gn gc gK gm gd), .slice pA pn pc] W4 fun e w' => ∃ aA an ac kA kn kc, e = .returned (.tuple #[.agg (val6 x aA an ac kA kn kc), .bool true]) ∧ NodeV (Old w') w' aA an ac kA kn kc x ∧ Below W4.heap.size W4 w') := hc3
          have hc4 : Hid (∀ W, Below W4.heap.size W4 W → Calls Try.prog 31 #[.agg (val6 ps gA gn gc gK gm gd), .slice pA pn pc, .agg (val6 ws fA fn fc fK fm fd)] W fun e w' => ∃ aA an ac kA kn kc, e = .returned (.tuple #[.agg (val6 t aA an ac kA kn kc), .bool true]) ∧ NodeV (Old w') w' aA an ac kA kn kc t ∧ Below W.heap.size W w') := fun W hb => by
            have := put_any W ps ws gA gK fA fK gn gc gm gd fn fc fm fd (hxb9.out.below hb).node (hf4.out.below hb).node pA pn pc p (hp4.out.below hb) hpn'.out (by have := hwp.out; omega) (by have := hww.out; omega)
            unfold PutAns at this
            rw [e3] at this
            exact this
          obtain ⟨ct, hct⟩ : ∃ ct, ct = countV t := ⟨_, rfl⟩
          obtain ⟨cw, hcw⟩ : ∃ cw, cw = countV ws := ⟨_, rfl⟩
          obtain ⟨cx, hcx⟩ : ∃ cx, cx = countV x := ⟨_, rfl⟩
          obtain ⟨cp, hcp⟩ : ∃ cp, cp = countV ps := ⟨_, rfl⟩
          have l1 := count_le t
          have l2 := count_le ws
          have l3 := count_le x
          have l4 := count_le ps
          have b1 : ct ≤ 1000 := by have := hwt.out; omega
          have b2 : cw ≤ 1000 := by have := hww.out; omega
          have b3 : cx ≤ 1000 := by have := hwx.out; omega
          have b4 : cp ≤ 2000 := by have := hwp.out; omega
          obtain ⟨df, hdf⟩ : ∃ df, ct = cw + df := ⟨ct - cw, by omega⟩
          have hsub : (ct : Int) - (cw : Int) = (df : Int) := by omega
          obtain rfl : cp = df + cx := by omega
          have hdb : df ≤ 1000 := by omega
          have hw1 : IntKind.i64.wrap (df : Int) = (df : Int) := IntWalk.i64_in _ (by omega)
          have hw2 : IntKind.i64.wrap ((df : Int) + (cx : Int)) = (df : Int) + (cx : Int) := IntWalk.i64_in _ (by omega)
          have hq1 : Hid (∀ W (aA kA : Option Addr) (an ac kn kc : Nat), NodeV (Old W) W aA an ac kA kn kc t → Calls Try.prog 22 #[.agg (val6 t aA an ac kA kn kc)] W fun e w' => e = .returned (.int .i64 (ct : Int)) ∧ Below W.heap.size W w') := fun W aA kA an ac kn kc h => by rw [hct]; exact count_any W t aA kA an ac kn kc h (by omega)
          have hq2 : Hid (∀ W (aA kA : Option Addr) (an ac kn kc : Nat), NodeV (Old W) W aA an ac kA kn kc ws → Calls Try.prog 22 #[.agg (val6 ws aA an ac kA kn kc)] W fun e w' => e = .returned (.int .i64 (cw : Int)) ∧ Below W.heap.size W w') := fun W aA kA an ac kn kc h => by rw [hcw]; exact count_any W ws aA kA an ac kn kc h (by omega)
          have hq3 : Hid (∀ W (aA kA : Option Addr) (an ac kn kc : Nat), NodeV (Old W) W aA an ac kA kn kc x → Calls Try.prog 22 #[.agg (val6 x aA an ac kA kn kc)] W fun e w' => e = .returned (.int .i64 (cx : Int)) ∧ Below W.heap.size W w') := fun W aA kA an ac kn kc h => by rw [hcx]; exact count_any W x aA kA an ac kn kc h (by omega)
          have hq4 : Hid (∀ W (aA kA : Option Addr) (an ac kn kc : Nat), NodeV (Old W) W aA an ac kA kn kc ps → Calls Try.prog 22 #[.agg (val6 ps aA an ac kA kn kc)] W fun e w' => e = .returned (.int .i64 ((df : Int) + (cx : Int))) ∧ Below W.heap.size W w') := fun W aA kA an ac kn kc h => by
            have := count_any W ps aA kA an ac kn kc h (by omega)
            rw [← hcp] at this
            exact this
          have hct' := Lib.hid (show countV t ≤ 100000 by omega)
          have hcx' := Lib.hid (show countV x ≤ 100000 by omega)
          clear hct hcw hcx hcp l1 l2 l3 l4 hdf e1 e2 e3 e4 e5 e6 e7 hsome hokc hc3
          unfold val6 at hc3' hc4 hq1 hq2 hq3 hq4
          obtain ⟨c0, c1, c2, c3, c4, c5⟩ := hxb9.out.cells
          rw [hW4'.out] at c0 c1 c2 c3 c4 c5
          go_wp2_with fail
          rw [← hW4'.out, ← hb9'.out]
          refine (hc3'.out).mono ?_
          rintro e w5 ⟨rA, rn, rc, rK, rm, rd, rfl, hN5, hb5⟩
          obtain ⟨W5, hW5⟩ : ∃ W5, W5 = w5.alloc (.cells (val6 x rA rn rc rK rm rd) 26) := ⟨_, rfl⟩
          obtain ⟨b11, hb11⟩ : ∃ b, b = w5.heap.size := ⟨_, rfl⟩
          have hbb5 : Below W4.heap.size W4 W5 := by rw [hW5]; exact hb5.alloc hb5.size _
          have hxb11 := Lib.hid (show Bx W5 b11 x rA rK rn rc rm rd by rw [hW5, hb11]; exact Bx.new hN5)
          have ht5 := Lib.hid (ht4.out.below hbb5)
          have hx5 := Lib.hid (hx4.out.below hbb5)
          have hf5 := Lib.hid (hf4.out.below hbb5)
          have hg5 := Lib.hid (hxb9.out.below hbb5)
          have hbl5 := Lib.hid (hbl4.out.trans (hbb5.mono hbl4.out.size))
          have hz5 := Lib.hid ((Below.refl W4.heap.size W4).trans (hbb5.mono (Nat.le_refl _)))
          unfold val6 at hW5
          have hW5' := Lib.hid hW5
          have hb11' := Lib.hid hb11
          clear hN5 hb5 hbb5 hW5 hb11 c0 c1 c2 c3 c4 c5
          obtain ⟨c0, c1, c2, c3, c4, c5⟩ := hg5.out.cells
          obtain ⟨d0, d1, d2, d3, d4, d5⟩ := hf5.out.cells
          rw [hW5'.out] at c0 c1 c2 c3 c4 c5 d0 d1 d2 d3 d4 d5
          go_wp2_with fail
          rw [← hW5'.out, ← hb11'.out]
          refine (hc4.out _ hz5.out).mono ?_
          rintro e w6 ⟨sA, sn, sc, sK, sm, sd, rfl, hN6, hb6⟩
          obtain ⟨W6, hW6⟩ : ∃ W6, W6 = w6.alloc (.cells (val6 t sA sn sc sK sm sd) 26) := ⟨_, rfl⟩
          obtain ⟨b13, hb13⟩ : ∃ b, b = w6.heap.size := ⟨_, rfl⟩
          have hbb6 : Below W5.heap.size W5 W6 := by rw [hW6]; exact hb6.alloc hb6.size _
          have hxb13 := Lib.hid (show Bx W6 b13 t sA sK sn sc sm sd by rw [hW6, hb13]; exact Bx.new hN6)
          have ht6 := Lib.hid (ht5.out.below hbb6)
          have hx6 := Lib.hid (hx5.out.below hbb6)
          have hf6 := Lib.hid (hf5.out.below hbb6)
          have hg6 := Lib.hid (hg5.out.below hbb6)
          have hr6 := Lib.hid (hxb11.out.below hbb6)
          have hbl6 := Lib.hid (hbl5.out.trans (hbb6.mono hbl5.out.size))
          have hz6 := Lib.hid (hz5.out.trans (hbb6.mono hz5.out.size))
          unfold val6 at hW6
          have hW6' := Lib.hid hW6
          have hb13' := Lib.hid hb13
          clear hN6 hb6 hbb6 hW6 hb13 c0 c1 c2 c3 c4 c5 d0 d1 d2 d3 d4 d5
          have hs1 : Hid (∀ W, Below W6.heap.size W6 W → Calls Try.prog 16 #[.agg (val6 x rA rn rc rK rm rd), .agg (val6 x xA xn xc xK xm xd)] W fun e w' => e = .returned (.bool true) ∧ Below W.heap.size W w') := fun W hb => by
            have := same_all W x x rA rK xA xK rn rc rm rd xn xc xm xd (hr6.out.below hb).node (hx6.out.below hb).node hcx'.out
            rw [eqV_refl sameA sameA_refl x] at this
            exact this
          have hs2 : Hid (∀ W, Below W6.heap.size W6 W → Calls Try.prog 16 #[.agg (val6 t sA sn sc sK sm sd), .agg (val6 t tA tn tc tK tm td)] W fun e w' => e = .returned (.bool true) ∧ Below W.heap.size W w') := fun W hb => by
            have := same_all W t t sA sK tA tK sn sc sm sd tn tc tm td (hxb13.out.below hb).node (ht6.out.below hb).node hct'.out
            rw [eqV_refl sameA sameA_refl t] at this
            exact this
          unfold val6 at hs1 hs2
          have hS : Hid (∀ w' : World, Below W6.heap.size W6 w' → Below W6.heap.size W6 w' ∧ w'.cell? ⟨b11, 0, none⟩ = some (.int .u64 (x.id : Int)) ∧ w'.cell? ⟨b11, 1, none⟩ = some (.bool x.leaf) ∧ w'.cell? ⟨b11, 2, none⟩ = some (.string ⟨x.label.toArray⟩) ∧ w'.cell? ⟨b11, 3, none⟩ = some (.slice rA rn rc) ∧ w'.cell? ⟨b11, 4, none⟩ = some (.string ⟨x.text.toArray⟩) ∧ w'.cell? ⟨b11, 5, none⟩ = some (.slice rK rm rd) ∧ w'.cell? ⟨w.heap.size + 1, 0, none⟩ = some (.int .u64 (x.id : Int)) ∧ w'.cell? ⟨w.heap.size + 1, 1, none⟩ = some (.bool x.leaf) ∧ w'.cell? ⟨w.heap.size + 1, 2, none⟩ = some (.string ⟨x.label.toArray⟩) ∧ w'.cell? ⟨w.heap.size + 1, 3, none⟩ = some (.slice xA xn xc) ∧ w'.cell? ⟨w.heap.size + 1, 4, none⟩ = some (.string ⟨x.text.toArray⟩) ∧ w'.cell? ⟨w.heap.size + 1, 5, none⟩ = some (.slice xK xm xd) ∧ w'.cell? ⟨b13, 0, none⟩ = some (.int .u64 (t.id : Int)) ∧ w'.cell? ⟨b13, 1, none⟩ = some (.bool t.leaf) ∧ w'.cell? ⟨b13, 2, none⟩ = some (.string ⟨t.label.toArray⟩) ∧ w'.cell? ⟨b13, 3, none⟩ = some (.slice sA sn sc) ∧ w'.cell? ⟨b13, 4, none⟩ = some (.string ⟨t.text.toArray⟩) ∧ w'.cell? ⟨b13, 5, none⟩ = some (.slice sK sm sd) ∧ w'.cell? ⟨w.heap.size, 0, none⟩ = some (.int .u64 (t.id : Int)) ∧ w'.cell? ⟨w.heap.size, 1, none⟩ = some (.bool t.leaf) ∧ w'.cell? ⟨w.heap.size, 2, none⟩ = some (.string ⟨t.label.toArray⟩) ∧ w'.cell? ⟨w.heap.size, 3, none⟩ = some (.slice tA tn tc) ∧ w'.cell? ⟨w.heap.size, 4, none⟩ = some (.string ⟨t.text.toArray⟩) ∧ w'.cell? ⟨w.heap.size, 5, none⟩ = some (.slice tK tm td) ∧ w'.cell? ⟨b9, 0, none⟩ = some (.int .u64 (ps.id : Int)) ∧ w'.cell? ⟨b9, 1, none⟩ = some (.bool ps.leaf) ∧ w'.cell? ⟨b9, 2, none⟩ = some (.string ⟨ps.label.toArray⟩) ∧ w'.cell? ⟨b9, 3, none⟩ = some (.slice gA gn gc) ∧ w'.cell? ⟨b9, 4, none⟩ = some (.string ⟨ps.text.toArray⟩) ∧ w'.cell? ⟨b9, 5, none⟩ = some (.slice gK gm gd) ∧ w'.cell? ⟨b7, 0, none⟩ = some (.int .u64 (ws.id : Int)) ∧ w'.cell? ⟨b7, 1, none⟩ = some (.bool ws.leaf) ∧ w'.cell? ⟨b7, 2, none⟩ = some (.string ⟨ws.label.toArray⟩) ∧ w'.cell? ⟨b7, 3, none⟩ = some (.slice fA fn fc) ∧ w'.cell? ⟨b7, 4, none⟩ = some (.string ⟨ws.text.toArray⟩) ∧ w'.cell? ⟨b7, 5, none⟩ = some (.slice fK fm fd)) := fun w' hb => by
            obtain ⟨c0, c1, c2, c3, c4, c5⟩ := (hr6.out.below hb).cells
            obtain ⟨d0, d1, d2, d3, d4, d5⟩ := (hx6.out.below hb).cells
            obtain ⟨f0, f1, f2, f3, f4, f5⟩ := (hxb13.out.below hb).cells
            obtain ⟨g0, g1, g2, g3, g4, g5⟩ := (ht6.out.below hb).cells
            obtain ⟨h0, h1, h2, h3, h4, h5⟩ := (hg6.out.below hb).cells
            obtain ⟨k0, k1, k2, k3, k4, k5⟩ := (hf6.out.below hb).cells
            exact ⟨hb, c0, c1, c2, c3, c4, c5, d0, d1, d2, d3, d4, d5, f0, f1, f2, f3, f4, f5, g0, g1, g2, g3, g4, g5, h0, h1, h2, h3, h4, h5, k0, k1, k2, k3, k4, k5⟩
          have hd := hS.out W6.drew (Below.refl W6.heap.size W6).drew
          go_wp2_with fail
          rw [← hW6'.out, ← hb13'.out]
          go_region_held3 (fun w' => Below W6.heap.size W6 w' ∧ w'.cell? ⟨b11, 0, none⟩ = some (.int .u64 (x.id : Int)) ∧ w'.cell? ⟨b11, 1, none⟩ = some (.bool x.leaf) ∧ w'.cell? ⟨b11, 2, none⟩ = some (.string ⟨x.label.toArray⟩) ∧ w'.cell? ⟨b11, 3, none⟩ = some (.slice rA rn rc) ∧ w'.cell? ⟨b11, 4, none⟩ = some (.string ⟨x.text.toArray⟩) ∧ w'.cell? ⟨b11, 5, none⟩ = some (.slice rK rm rd) ∧ w'.cell? ⟨w.heap.size + 1, 0, none⟩ = some (.int .u64 (x.id : Int)) ∧ w'.cell? ⟨w.heap.size + 1, 1, none⟩ = some (.bool x.leaf) ∧ w'.cell? ⟨w.heap.size + 1, 2, none⟩ = some (.string ⟨x.label.toArray⟩) ∧ w'.cell? ⟨w.heap.size + 1, 3, none⟩ = some (.slice xA xn xc) ∧ w'.cell? ⟨w.heap.size + 1, 4, none⟩ = some (.string ⟨x.text.toArray⟩) ∧ w'.cell? ⟨w.heap.size + 1, 5, none⟩ = some (.slice xK xm xd) ∧ w'.cell? ⟨b13, 0, none⟩ = some (.int .u64 (t.id : Int)) ∧ w'.cell? ⟨b13, 1, none⟩ = some (.bool t.leaf) ∧ w'.cell? ⟨b13, 2, none⟩ = some (.string ⟨t.label.toArray⟩) ∧ w'.cell? ⟨b13, 3, none⟩ = some (.slice sA sn sc) ∧ w'.cell? ⟨b13, 4, none⟩ = some (.string ⟨t.text.toArray⟩) ∧ w'.cell? ⟨b13, 5, none⟩ = some (.slice sK sm sd) ∧ w'.cell? ⟨w.heap.size, 0, none⟩ = some (.int .u64 (t.id : Int)) ∧ w'.cell? ⟨w.heap.size, 1, none⟩ = some (.bool t.leaf) ∧ w'.cell? ⟨w.heap.size, 2, none⟩ = some (.string ⟨t.label.toArray⟩) ∧ w'.cell? ⟨w.heap.size, 3, none⟩ = some (.slice tA tn tc) ∧ w'.cell? ⟨w.heap.size, 4, none⟩ = some (.string ⟨t.text.toArray⟩) ∧ w'.cell? ⟨w.heap.size, 5, none⟩ = some (.slice tK tm td) ∧ w'.cell? ⟨b9, 0, none⟩ = some (.int .u64 (ps.id : Int)) ∧ w'.cell? ⟨b9, 1, none⟩ = some (.bool ps.leaf) ∧ w'.cell? ⟨b9, 2, none⟩ = some (.string ⟨ps.label.toArray⟩) ∧ w'.cell? ⟨b9, 3, none⟩ = some (.slice gA gn gc) ∧ w'.cell? ⟨b9, 4, none⟩ = some (.string ⟨ps.text.toArray⟩) ∧ w'.cell? ⟨b9, 5, none⟩ = some (.slice gK gm gd) ∧ w'.cell? ⟨b7, 0, none⟩ = some (.int .u64 (ws.id : Int)) ∧ w'.cell? ⟨b7, 1, none⟩ = some (.bool ws.leaf) ∧ w'.cell? ⟨b7, 2, none⟩ = some (.string ⟨ws.label.toArray⟩) ∧ w'.cell? ⟨b7, 3, none⟩ = some (.slice fA fn fc) ∧ w'.cell? ⟨b7, 4, none⟩ = some (.string ⟨ws.text.toArray⟩) ∧ w'.cell? ⟨b7, 5, none⟩ = some (.slice fK fm fd))
            (first | exact hd8 | exact hd7 | exact hd6 | exact hd5 | exact hd4 | exact hd3 | exact hd2 | exact hd)
            (first
              | (go_at_call 11; refine (works_any _).mono ?_; rintro e w26 ⟨rfl, hb26⟩; have hd8 := hS.out _ (hd7.1.trans (hb26.mono hd7.1.size)))
              | (go_at_call 22; refine (hq3.out _ _ _ _ _ _ _ (hx6.out.below hd6.1).node).mono ?_; rintro e w25 ⟨rfl, hb25⟩; have hd7 := hS.out _ (hd6.1.trans (hb25.mono hd6.1.size)))
              | (go_at_call 22; refine (hq2.out _ _ _ _ _ _ _ (hf6.out.below hd5.1).node).mono ?_; rintro e w24 ⟨rfl, hb24⟩; have hd6 := hS.out _ (hd5.1.trans (hb24.mono hd5.1.size)))
              | (go_at_call 22; refine (hq1.out _ _ _ _ _ _ _ (ht6.out.below hd4.1).node).mono ?_; rintro e w23 ⟨rfl, hb23⟩; have hd5 := hS.out _ (hd4.1.trans (hb23.mono hd4.1.size)))
              | (go_at_call 22; refine (hq4.out _ _ _ _ _ _ _ (hg6.out.below hd3.1).node).mono ?_; rintro e w22 ⟨rfl, hb22⟩; have hd4 := hS.out _ (hd3.1.trans (hb22.mono hd3.1.size)))
              | (go_at_call 16; refine (hs2.out _ hd2.1).mono ?_; rintro e w21 ⟨rfl, hb21⟩; have hd3 := hS.out _ (hd2.1.trans (hb21.mono hd2.1.size)))
              | (go_at_call 16; refine (hs1.out _ hd.1).mono ?_; rintro e w20 ⟨rfl, hb20⟩; have hd2 := hS.out _ (hd.1.trans (hb20.mono hd.1.size))))
          go_wp2_with fail
          go_ret
          exact ⟨rfl, hbl6.out.trans (hd8.1.mono hbl6.out.size)⟩
      · have q3I : (100 : Int) < (pn : Int) := by omega
        go_wp2_with fail
        refine (works_any _).mono ?_
        rintro e w3 ⟨rfl, hb3⟩
        have hbl3 := Lib.hid (hbl2.out.trans (hb3.mono hbl2.out.size))
        clear hb3
        go_wp2_with fail
        go_ret
        exact ⟨rfl, hbl3.out⟩
    · have q2I : (600 : Int) < (z : Int) := by omega
      go_wp2_with fail
      refine (works_any _).mono ?_
      rintro e w3 ⟨rfl, hb3⟩
      have hbl3 := Lib.hid (hbl2.out.trans (hb3.mono hbl2.out.size))
      clear hb3
      go_wp2_with fail
      go_ret
      exact ⟨rfl, hbl3.out⟩
  · have q1I : (600 : Int) < (y : Int) := by omega
    go_wp2_with fail
    refine (works_any _).mono ?_
    rintro e w2 ⟨rfl, hb2⟩
    have hbl2 := Lib.hid (hbl1.out.trans (hb2.mono hbl1.out.size))
    clear hb2
    go_wp2_with fail
    go_ret
    exact ⟨rfl, hbl2.out⟩
end Go.Proofs.Ytacmofhlbebonaa
