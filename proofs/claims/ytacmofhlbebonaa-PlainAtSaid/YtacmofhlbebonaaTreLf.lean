/- The law of the node at a path, and of the tree with another one there. -/
import Derived.Deep.RegionHeld3
import Derived.Test.YtacmofhlbebonaaTreW
import Derived.Test.YtacmofhlbebonaaTreX
import Derived.Test.YtacmofhlbebonaaTreLd
import Derived.Test.YtacmofhlbebonaaTreLc
import Derived.Test.YtacmofhlbebonaaTreY
import Derived.Test.YtacmofhlbebonaaTreZa
namespace Go.Proofs.Ytacmofhlbebonaa
open Go.RowKit
set_option maxRecDepth 20000

theorem rput_all (w : World) (t x : Nd) (aA kA xA xK pA : Option Addr) (an ac kn kc xn xc xm xd pn pc : Nat) (p : List Int) (h : NodeV (Old w) w aA an ac kA kn kc t) (hx : NodeV (Old w) w xA xn xc xK xm xd x) (hp : Its w pA pn p) (hpc : pn ≤ pc) (hpm : pc ≤ maxLen) (hw : weighV t ≤ 1000000) :
    Calls Try.prog 28 #[.agg (val6 t aA an ac kA kn kc), .slice pA pn pc, .agg (val6 x xA xn xc xK xm xd)] w (PutAns w t p x) :=
  (rput_any p t x w (Old w) aA kA xA xK pA an ac kn kc xn xc xm xd pn pc (fun _ h => h) h hx hp hpc hpm hw).mono (by
    rintro e w' ⟨aA, an, ac, kA, kn, kc, rfl, hN, hb⟩
    exact ⟨aA, an, ac, kA, kn, kc, rfl, hN.kept (fun k hk => by
      rcases hk with hk | hk
      · exact Nat.lt_of_lt_of_le hk hb.size
      · exact hk.2) (fun _ _ => rfl), hb⟩)
set_option maxHeartbeats 16000000 in
theorem lawAt_any (w : World) (t x : Nd) (tA tK xA xK : Option Addr) (tn tc tm td xn xc xm xd : Nat) (pA : Option Addr) (pn pc : Nat) (p : List Int) (h : NodeV (Old w) w tA tn tc tK tm td t) (hx : NodeV (Old w) w xA xn xc xK xm xd x) (hp : Its w pA pn p) (hpc : pn ≤ pc) (hpm : pc ≤ maxLen) :
    Calls Try.prog 6 #[.agg (val6 t tA tn tc tK tm td), .slice pA pn pc, .agg (val6 x xA xn xc xK xm xd)] w fun e w' => e = .returned (.bool true) ∧ Below w.heap.size w w' := by
  obtain ⟨W0, hW0⟩ : ∃ W0, W0 = (w.alloc (.cells (val6 t tA tn tc tK tm td) 26)).alloc (.cells (val6 x xA xn xc xK xm xd) 26) := ⟨_, rfl⟩
  have hb0 : Below w.heap.size w W0 := by rw [hW0]; exact ((Below.refl _ w).alloc (Nat.le_refl _) _).alloc (by simp) _
  have ht0 := Lib.hid (show Bx W0 w.heap.size t tA tK tn tc tm td from ⟨by rw [hW0]; simp; omega, by rw [hW0]; exact two_first w _ _, h.below hb0⟩)
  have hx0 := Lib.hid (show Bx W0 (w.heap.size + 1) x xA xK xn xc xm xd from ⟨by rw [hW0]; simp, by rw [hW0]; exact two_second w _ _, hx.below hb0⟩)
  have hp0 := Lib.hid (hp.below hb0)
  have hb0' := Lib.hid hb0
  have hpn := Nat.le_trans hpc hpm
  have hpn' := Lib.hid hpn
  have hpc' := Lib.hid hpc
  have hpm' := Lib.hid hpm
  clear hpm
  clear h hx hp hb0
  unfold maxLen at hpn
  unfold val6 at hW0
  unfold val6
  go_enter Try.func6, Try.ntmps6
  go_wp2_with fail
  rw [← hW0]
  clear hW0
  refine (weight_any t W0 tA tK tn tc tm td 600 ht0.out.node (by decide)).mono ?_
  rintro e w1 ⟨y, rfl, hy3, hy, hb1⟩
  have hy' := Lib.hid hy
  have ht1 := Lib.hid (ht0.out.below hb1)
  have hx1 := Lib.hid (hx0.out.below hb1)
  have hp1 := Lib.hid (hp0.out.below hb1)
  have hbl1 := Lib.hid (hb0'.out.trans (hb1.mono hb0'.out.size))
  clear hy hb1 ht0 hx0 hp0 hb0'
  by_cases q1 : y ≤ 600
  · have q1I : ¬ (600 : Int) < (y : Int) := by omega
    obtain ⟨c0, c1, c2, c3, c4, c5⟩ := ht1.out.cells
    obtain ⟨d0, d1, d2, d3, d4, d5⟩ := hx1.out.cells
    go_wp2_with fail
    refine (weight_any x w1 xA xK xn xc xm xd 600 hx1.out.node (by decide)).mono ?_
    rintro e w2 ⟨z, rfl, hz3, hz, hb2⟩
    have hz' := Lib.hid hz
    have ht2 := Lib.hid (ht1.out.below hb2)
    have hx2 := Lib.hid (hx1.out.below hb2)
    have hp2 := Lib.hid (hp1.out.below hb2)
    have hbl2 := Lib.hid (hbl1.out.trans (hb2.mono hbl1.out.size))
    clear hz hb2 ht1 hx1 hp1 hbl1
    clear c0 c1 c2 c3 c4 c5 d0 d1 d2 d3 d4 d5
    by_cases q2 : z ≤ 600
    · have q2I : ¬ (600 : Int) < (z : Int) := by omega
      by_cases q3 : pn ≤ 100
      · have q3I : ¬ (100 : Int) < (pn : Int) := by omega
        have hwt := Lib.hid (show weighV t ≤ 600 by have := hy'.out q1; omega)
        have hwx := Lib.hid (show weighV x ≤ 600 by have := hz'.out q2; omega)
        obtain ⟨ws, hws⟩ : ∃ ws, ws = (atV t p).getD Nd.zero := ⟨_, rfl⟩
        obtain ⟨ok, hok⟩ : ∃ ok, ok = (atV t p).isSome := ⟨_, rfl⟩
        obtain ⟨ps, hps⟩ : ∃ ps, ps = (putV t p x).getD Nd.zero := ⟨_, rfl⟩
        obtain ⟨cn, hcn⟩ : ∃ cn, cn = countV t := ⟨_, rfl⟩
        obtain ⟨is, his⟩ : ∃ is, is = idsV t := ⟨_, rfl⟩
        have hz2 := Lib.hid (Below.refl w2.heap.size w2)
        have hilc := Lib.hid (show is.length = cn by rw [his, hcn]; exact ids_count t)
        have hcnb : cn ≤ 1000 := by have := count_le t; have := hwt.out; omega
        have hoo : (ok == ok) = true := by simp
        have hc1 : Hid (Calls Try.prog 28 #[.agg (val6 t tA tn tc tK tm td), .slice none 0 0, .agg (val6 t tA tn tc tK tm td)] w2 fun e w' => ∃ aA an ac kA kn kc, e = .returned (.tuple #[.agg (val6 t aA an ac kA kn kc), .bool true]) ∧ NodeV (Old w') w' aA an ac kA kn kc t ∧ Below w2.heap.size w2 w') :=
          rput_all w2 t t tA tK tA tK none tn tc tm td tn tc tm td 0 0 [] ht2.out.node ht2.out.node (Its.none_ _) (Nat.le_refl _) (Nat.zero_le _) (by have := hwt.out; omega)
        have hc2 : Hid (∀ W, Below w2.heap.size w2 W → Calls Try.prog 21 #[.agg (val6 t tA tn tc tK tm td)] W fun e w' => (∃ A c, e = .returned (.slice A cn c) ∧ OwnId W.heap.size w' (.slice A cn c) is) ∧ Below W.heap.size W w') := fun W hb => (rids_any t W tA tK tn tc tm td (ht2.out.below hb).node (by have := hwt.out; omega)).mono (by
          rintro e w' ⟨v, rfl, ho, hb⟩
          obtain ⟨A, c, rfl, -⟩ := ho.len
          have h1 := hilc.out
          rw [his] at h1
          rw [h1] at ho ⊢
          rw [← his] at ho
          exact ⟨⟨A, c, rfl, ho⟩, hb⟩)
        have hc3 : Hid (∀ W, Below w2.heap.size w2 W → Calls Try.prog 29 #[.agg (val6 t tA tn tc tK tm td), .slice pA pn pc] W fun e w' => ∃ aA an ac kA kn kc, e = .returned (.tuple #[.agg (val6 ws aA an ac kA kn kc), .bool ok]) ∧ NodeV (Old w') w' aA an ac kA kn kc ws ∧ Below W.heap.size W w') := fun W hb => by
          rw [hws, hok]
          exact at_any W t tA tK tn tc tm td (ht2.out.below hb).node pA pn pc p (hp2.out.below hb) hpn'.out (by have := hwt.out; omega)
        have hc4 : Hid (∀ W, Below w2.heap.size w2 W → Calls Try.prog 30 #[.agg (val6 t tA tn tc tK tm td), .slice pA pn pc] W fun e w' => ∃ aA an ac kA kn kc, e = .returned (.tuple #[.agg (val6 ws aA an ac kA kn kc), .bool ok]) ∧ NodeV (Old w') w' aA an ac kA kn kc ws ∧ Below W.heap.size W w') := fun W hb => by
          rw [hws, hok]
          exact rat_any W t tA tK tn tc tm td (ht2.out.below hb).node pA pn pc p (hp2.out.below hb) hpn'.out
        have hc5 : Hid (∀ W, Below w2.heap.size w2 W → Calls Try.prog 31 #[.agg (val6 t tA tn tc tK tm td), .slice pA pn pc, .agg (val6 x xA xn xc xK xm xd)] W fun e w' => ∃ aA an ac kA kn kc, e = .returned (.tuple #[.agg (val6 ps aA an ac kA kn kc), .bool ok]) ∧ NodeV (Old w') w' aA an ac kA kn kc ps ∧ Below W.heap.size W w') := fun W hb => by
          rw [hps, hok, ← put_is p t x]
          exact put_any W t x tA tK xA xK tn tc tm td xn xc xm xd (ht2.out.below hb).node (hx2.out.below hb).node pA pn pc p (hp2.out.below hb) hpn'.out (by have := hwt.out; omega) (by have := hwx.out; omega)
        have hc6 : Hid (∀ W, Below w2.heap.size w2 W → Calls Try.prog 28 #[.agg (val6 t tA tn tc tK tm td), .slice pA pn pc, .agg (val6 x xA xn xc xK xm xd)] W fun e w' => ∃ aA an ac kA kn kc, e = .returned (.tuple #[.agg (val6 ps aA an ac kA kn kc), .bool ok]) ∧ NodeV (Old w') w' aA an ac kA kn kc ps ∧ Below W.heap.size W w') := fun W hb => by
          rw [hps, hok, ← put_is p t x]
          exact rput_all W t x tA tK xA xK pA tn tc tm td xn xc xm xd pn pc p (ht2.out.below hb).node (hx2.out.below hb).node (hp2.out.below hb) hpc'.out hpm'.out (by have := hwt.out; omega)
        clear hws hok hps hcn his
        unfold val6 at hc1 hc2 hc3 hc4 hc5 hc6
        obtain ⟨c0, c1, c2, c3, c4, c5⟩ := ht2.out.cells
        go_wp2_with fail
        refine (hc1.out).mono ?_
        rintro e w3 ⟨fA, fn, fc, fK, fm, fd, rfl, hN3, hb3⟩
        obtain ⟨W3, hW3⟩ : ∃ W3, W3 = w3.alloc (.cells (val6 t fA fn fc fK fm fd) 26) := ⟨_, rfl⟩
        obtain ⟨b7, hb7⟩ : ∃ b, b = w3.heap.size := ⟨_, rfl⟩
        have hbb3 : Below w2.heap.size w2 W3 := by rw [hW3]; exact hb3.alloc hb3.size _
        have hxb7 := Lib.hid (show Bx W3 b7 t fA fK fn fc fm fd by rw [hW3, hb7]; exact Bx.new hN3)
        have ht3 := Lib.hid (ht2.out.below hbb3)
        have hx3 := Lib.hid (hx2.out.below hbb3)
        have hp3 := Lib.hid (hp2.out.below hbb3)
        have hbl3 := Lib.hid (hbl2.out.trans (hbb3.mono hbl2.out.size))
        have hz3 := Lib.hid (hz2.out.trans (hbb3.mono hz2.out.size))
        unfold val6 at hW3
        have hW3' := Lib.hid hW3
        have hb7' := Lib.hid hb7
        clear hN3 hb3 hbb3 hW3 hb7 c0 c1 c2 c3 c4 c5
        obtain ⟨c0, c1, c2, c3, c4, c5⟩ := ht3.out.cells
        rw [hW3'.out] at c0 c1 c2 c3 c4 c5
        go_wp2_with fail
        rw [← hW3'.out, ← hb7'.out]
        refine (hc2.out _ hz3.out).mono ?_
        rintro e w4 ⟨⟨iA, ic, rfl, ho4⟩, hb4⟩
        have ha4 := Lib.hid ho4
        have ht4 := Lib.hid (ht3.out.below hb4)
        have hx4 := Lib.hid (hx3.out.below hb4)
        have hp4 := Lib.hid (hp3.out.below hb4)
        have hf4 := Lib.hid (hxb7.out.below hb4)
        have hbl4 := Lib.hid (hbl3.out.trans (hb4.mono hbl3.out.size))
        have hz4 := Lib.hid (hz3.out.trans (hb4.mono hz3.out.size))
        clear hb4 ho4 c0 c1 c2 c3 c4 c5
        obtain ⟨c0, c1, c2, c3, c4, c5⟩ := ht4.out.cells
        go_wp2_with fail
        refine (hc3.out _ hz4.out).mono ?_
        rintro e w5 ⟨gA, gn, gc, gK, gm, gd, rfl, hN5, hb5⟩
        obtain ⟨W5, hW5⟩ : ∃ W5, W5 = w5.alloc (.cells (val6 ws gA gn gc gK gm gd) 26) := ⟨_, rfl⟩
        obtain ⟨b10, hb10⟩ : ∃ b, b = w5.heap.size := ⟨_, rfl⟩
        have hbb5 : Below w4.heap.size w4 W5 := by rw [hW5]; exact hb5.alloc hb5.size _
        have hxb10 := Lib.hid (show Bx W5 b10 ws gA gK gn gc gm gd by rw [hW5, hb10]; exact Bx.new hN5)
        have ht5 := Lib.hid (ht4.out.below hbb5)
        have hx5 := Lib.hid (hx4.out.below hbb5)
        have hp5 := Lib.hid (hp4.out.below hbb5)
        have hf5 := Lib.hid (hf4.out.below hbb5)
        have ha5 := Lib.hid (own_kept ha4.out fun k hk => hbb5.block k (World.ownsRow.lt ha4.out k hk).2)
        have hbl5 := Lib.hid (hbl4.out.trans (hbb5.mono hbl4.out.size))
        have hz5 := Lib.hid (hz4.out.trans (hbb5.mono hz4.out.size))
        unfold val6 at hW5
        have hW5' := Lib.hid hW5
        have hb10' := Lib.hid hb10
        clear hN5 hb5 hbb5 hW5 hb10 c0 c1 c2 c3 c4 c5
        obtain ⟨c0, c1, c2, c3, c4, c5⟩ := ht5.out.cells
        rw [hW5'.out] at c0 c1 c2 c3 c4 c5
        go_wp2_with fail
        rw [← hW5'.out, ← hb10'.out]
        refine (hc4.out _ hz5.out).mono ?_
        rintro e w6 ⟨hA, hn, hc, hK, hm, hd, rfl, hN6, hb6⟩
        obtain ⟨W6, hW6⟩ : ∃ W6, W6 = w6.alloc (.cells (val6 ws hA hn hc hK hm hd) 26) := ⟨_, rfl⟩
        obtain ⟨b12, hb12⟩ : ∃ b, b = w6.heap.size := ⟨_, rfl⟩
        have hbb6 : Below W5.heap.size W5 W6 := by rw [hW6]; exact hb6.alloc hb6.size _
        have hxb12 := Lib.hid (show Bx W6 b12 ws hA hK hn hc hm hd by rw [hW6, hb12]; exact Bx.new hN6)
        have ht6 := Lib.hid (ht5.out.below hbb6)
        have hx6 := Lib.hid (hx5.out.below hbb6)
        have hp6 := Lib.hid (hp5.out.below hbb6)
        have hf6 := Lib.hid (hf5.out.below hbb6)
        have hg6 := Lib.hid (hxb10.out.below hbb6)
        have ha6 := Lib.hid (own_kept ha5.out fun k hk => hbb6.block k (World.ownsRow.lt ha5.out k hk).2)
        have hbl6 := Lib.hid (hbl5.out.trans (hbb6.mono hbl5.out.size))
        have hz6 := Lib.hid (hz5.out.trans (hbb6.mono hz5.out.size))
        unfold val6 at hW6
        have hW6' := Lib.hid hW6
        have hb12' := Lib.hid hb12
        clear hN6 hb6 hbb6 hW6 hb12 c0 c1 c2 c3 c4 c5
        obtain ⟨c0, c1, c2, c3, c4, c5⟩ := ht6.out.cells
        obtain ⟨d0, d1, d2, d3, d4, d5⟩ := hx6.out.cells
        rw [hW6'.out] at c0 c1 c2 c3 c4 c5 d0 d1 d2 d3 d4 d5
        go_wp2_with fail
        rw [← hW6'.out, ← hb12'.out]
        refine (hc5.out _ hz6.out).mono ?_
        rintro e w7 ⟨eaA, ean, eac, eaK, eam, ead, rfl, hN7, hb7⟩
        obtain ⟨W7, hW7⟩ : ∃ W7, W7 = w7.alloc (.cells (val6 ps eaA ean eac eaK eam ead) 26) := ⟨_, rfl⟩
        obtain ⟨b14, hb14⟩ : ∃ b, b = w7.heap.size := ⟨_, rfl⟩
        have hbb7 : Below W6.heap.size W6 W7 := by rw [hW7]; exact hb7.alloc hb7.size _
        have hxb14 := Lib.hid (show Bx W7 b14 ps eaA eaK ean eac eam ead by rw [hW7, hb14]; exact Bx.new hN7)
        have ht7 := Lib.hid (ht6.out.below hbb7)
        have hx7 := Lib.hid (hx6.out.below hbb7)
        have hp7 := Lib.hid (hp6.out.below hbb7)
        have hf7 := Lib.hid (hf6.out.below hbb7)
        have hg7 := Lib.hid (hg6.out.below hbb7)
        have hh7 := Lib.hid (hxb12.out.below hbb7)
        have ha7 := Lib.hid (own_kept ha6.out fun k hk => hbb7.block k (World.ownsRow.lt ha6.out k hk).2)
        have hbl7 := Lib.hid (hbl6.out.trans (hbb7.mono hbl6.out.size))
        have hz7 := Lib.hid (hz6.out.trans (hbb7.mono hz6.out.size))
        unfold val6 at hW7
        have hW7' := Lib.hid hW7
        have hb14' := Lib.hid hb14
        clear hN7 hb7 hbb7 hW7 hb14 c0 c1 c2 c3 c4 c5 d0 d1 d2 d3 d4 d5
        obtain ⟨c0, c1, c2, c3, c4, c5⟩ := ht7.out.cells
        obtain ⟨d0, d1, d2, d3, d4, d5⟩ := hx7.out.cells
        rw [hW7'.out] at c0 c1 c2 c3 c4 c5 d0 d1 d2 d3 d4 d5
        go_wp2_with fail
        rw [← hW7'.out, ← hb14'.out]
        refine (hc6.out _ hz7.out).mono ?_
        rintro e w8 ⟨ebA, ebn, ebc, ebK, ebm, ebd, rfl, hN8, hb8⟩
        obtain ⟨W8, hW8⟩ : ∃ W8, W8 = w8.alloc (.cells (val6 ps ebA ebn ebc ebK ebm ebd) 26) := ⟨_, rfl⟩
        obtain ⟨b16, hb16⟩ : ∃ b, b = w8.heap.size := ⟨_, rfl⟩
        have hbb8 : Below W7.heap.size W7 W8 := by rw [hW8]; exact hb8.alloc hb8.size _
        have hxb16 := Lib.hid (show Bx W8 b16 ps ebA ebK ebn ebc ebm ebd by rw [hW8, hb16]; exact Bx.new hN8)
        have ht8 := Lib.hid (ht7.out.below hbb8)
        have hx8 := Lib.hid (hx7.out.below hbb8)
        have hp8 := Lib.hid (hp7.out.below hbb8)
        have hf8 := Lib.hid (hf7.out.below hbb8)
        have hg8 := Lib.hid (hg7.out.below hbb8)
        have hh8 := Lib.hid (hh7.out.below hbb8)
        have hi8 := Lib.hid (hxb14.out.below hbb8)
        have ha8 := Lib.hid (own_kept ha7.out fun k hk => hbb8.block k (World.ownsRow.lt ha7.out k hk).2)
        have hbl8 := Lib.hid (hbl7.out.trans (hbb8.mono hbl7.out.size))
        have hz8 := Lib.hid (hz7.out.trans (hbb8.mono hz7.out.size))
        unfold val6 at hW8
        have hW8' := Lib.hid hW8
        have hb16' := Lib.hid hb16
        clear hN8 hb8 hbb8 hW8 hb16 c0 c1 c2 c3 c4 c5 d0 d1 d2 d3 d4 d5
        obtain ⟨c0, c1, c2, c3, c4, c5⟩ := hg8.out.cells
        obtain ⟨d0, d1, d2, d3, d4, d5⟩ := hh8.out.cells
        rw [hW8'.out] at c0 c1 c2 c3 c4 c5 d0 d1 d2 d3 d4 d5
        go_wp2_with fail
        rw [← hW8'.out, ← hb16'.out]
        have hj8 := hxb16
        have hs9 := Lib.hid (rsame_any ws ws W8 gA gK hA hK gn gc gm gd hn hc hm hd hg8.out.node hh8.out.node)
        rw [eqV_refl sameA sameA_refl ws] at hs9
        unfold val6 at hs9
        refine hs9.out.mono ?_
        rintro e w9 ⟨rfl, hb9⟩
        have ht9 := Lib.hid (ht8.out.below hb9)
        have hf9 := Lib.hid (hf8.out.below hb9)
        have hi9 := Lib.hid (hi8.out.below hb9)
        have hj9 := Lib.hid (hj8.out.below hb9)
        have ha9 := Lib.hid (own_kept ha8.out fun k hk => hb9.block k (World.ownsRow.lt ha8.out k hk).2)
        have hbl9 := Lib.hid (hbl8.out.trans (hb9.mono hbl8.out.size))
        have hz9 := Lib.hid (hz8.out.trans (hb9.mono hz8.out.size))
        clear hb9 hs9 c0 c1 c2 c3 c4 c5 d0 d1 d2 d3 d4 d5
        obtain ⟨c0, c1, c2, c3, c4, c5⟩ := hi9.out.cells
        obtain ⟨d0, d1, d2, d3, d4, d5⟩ := hj9.out.cells
        go_wp2_with fail
        have hs10 := Lib.hid (rsame_any ps ps w9 eaA eaK ebA ebK ean eac eam ead ebn ebc ebm ebd hi9.out.node hj9.out.node)
        rw [eqV_refl sameA sameA_refl ps] at hs10
        unfold val6 at hs10
        refine hs10.out.mono ?_
        rintro e w10 ⟨rfl, hb10⟩
        have ht10 := Lib.hid (ht9.out.below hb10)
        have hf10 := Lib.hid (hf9.out.below hb10)
        have ha10 := Lib.hid (own_kept ha9.out fun k hk => hb10.block k (World.ownsRow.lt ha9.out k hk).2)
        have hbl10 := Lib.hid (hbl9.out.trans (hb10.mono hbl9.out.size))
        have hz10 := Lib.hid (hz9.out.trans (hb10.mono hz9.out.size))
        clear hb10 hs10 c0 c1 c2 c3 c4 c5 d0 d1 d2 d3 d4 d5
        obtain ⟨c0, c1, c2, c3, c4, c5⟩ := ht10.out.cells
        obtain ⟨d0, d1, d2, d3, d4, d5⟩ := hf10.out.cells
        go_wp2_with fail
        have hs11 := Lib.hid (rsame_any t t w10 tA tK fA fK tn tc tm td fn fc fm fd ht10.out.node hf10.out.node)
        rw [eqV_refl sameA sameA_refl t] at hs11
        unfold val6 at hs11
        refine hs11.out.mono ?_
        rintro e w11 ⟨rfl, hb11⟩
        have ht11 := Lib.hid (ht10.out.below hb11)
        have ha11 := Lib.hid (own_kept ha10.out fun k hk => hb11.block k (World.ownsRow.lt ha10.out k hk).2)
        have hbl11 := Lib.hid (hbl10.out.trans (hb11.mono hbl10.out.size))
        have hz11 := Lib.hid (hz10.out.trans (hb11.mono hz10.out.size))
        clear hb11 hs11 c0 c1 c2 c3 c4 c5 d0 d1 d2 d3 d4 d5
        obtain ⟨c0, c1, c2, c3, c4, c5⟩ := ht11.out.cells
        go_wp2_with fail
        refine (hc2.out _ hz11.out).mono ?_
        rintro e w12 ⟨⟨jA, jc, rfl, ho12⟩, hb12⟩
        have hbr := Lib.hid ho12
        have hr1 := Lib.hid (own_kept ha11.out fun k hk => hb12.block k (World.ownsRow.lt ha11.out k hk).2)
        have hbl12 := Lib.hid (hbl11.out.trans (hb12.mono hbl11.out.size))
        clear hb12 ho12 c0 c1 c2 c3 c4 c5
        go_wp2_with fail
        go_loopw [19] (fun k wr => ∃ q : Nat, q ≤ cn ∧ k = .int .i64 (q : Int) ∧ Below w12.heap.size w12 wr) (fun k _ => cn - (intOf k).toNat)
        case atStart => exact ⟨0, Nat.zero_le _, rfl, Below.refl _ _⟩
        case round =>
          obtain ⟨q, hq, rfl, hbel⟩ := hrel
          have hbel' := Lib.hid hbel
          clear hbel
          by_cases m1 : q < cn
          · have m1I : (q : Int) < (cn : Int) := by omega
            obtain ⟨ga, i, rfl, -, ga1, hi1, ca⟩ := OwnId.at_ (show OwnId _ w12 (.slice iA cn ic) is from hr1.out) hilc.out m1
            obtain ⟨gb, j, rfl, -, gb1, hi2, cb⟩ := hbr.out.at_ hilc.out m1
            obtain rfl : i = j := by rw [hi1] at hi2; injection hi2
            have ca' := (hbel'.out.cell (p := ⟨ga, q, none⟩) ga1).trans ca
            have cb' := (hbel'.out.cell (p := ⟨gb, q, none⟩) gb1).trans cb
            clear ca cb hi1 hi2
            go_wp2_with fail
            go_quiet (fail)
            go_wp2_with fail
            go_roundw
            case rel => exact ⟨q + 1, by omega, by go_num, draws hbel'.out _⟩
            case measure => simp [intOf]; omega
          · have m1I : ¬ (q : Int) < (cn : Int) := by omega
            go_wp2_with fail
            refine (works_any _).mono ?_
            rintro e w13 ⟨rfl, hb13⟩
            have hbl13 := Lib.hid (hbl12.out.trans ((hbel'.out.mono hbl12.out.size).trans (hb13.mono (Nat.le_trans hbl12.out.size hbel'.out.size))))
            clear hb13
            go_wp2_with fail
            go_ret
            exact ⟨rfl, hbl13.out⟩
      · have q3I : (100 : Int) < (pn : Int) := by omega
        go_wp2_with fail
        refine (works_any _).mono ?_
        rintro e w3 ⟨rfl, hb3⟩
        have hbl3 := Lib.hid (hbl2.out.trans (hb3.mono hbl2.out.size))
        clear hb3
        go_wp2_with fail
        go_ret
        exact ⟨rfl, hbl3.out⟩
    · have q2I : (600 : Int) < (z : Int) := by omega
      go_wp2_with fail
      refine (works_any _).mono ?_
      rintro e w3 ⟨rfl, hb3⟩
      have hbl3 := Lib.hid (hbl2.out.trans (hb3.mono hbl2.out.size))
      clear hb3
      go_wp2_with fail
      go_ret
      exact ⟨rfl, hbl3.out⟩
  · have q1I : (600 : Int) < (y : Int) := by omega
    go_wp2_with fail
    refine (works_any _).mono ?_
    rintro e w2 ⟨rfl, hb2⟩
    have hbl2 := Lib.hid (hbl1.out.trans (hb2.mono hbl1.out.size))
    clear hb2
    go_wp2_with fail
    go_ret
    exact ⟨rfl, hbl2.out⟩
end Go.Proofs.Ytacmofhlbebonaa
