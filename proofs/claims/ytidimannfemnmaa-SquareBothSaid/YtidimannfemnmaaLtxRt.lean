/- The document's Transform. -/
import Derived.Test.YtidimannfemnmaaMgAU
import Derived.Test.YtidimannfemnmaaMgAL
import Derived.Deep.RegionHeld3
set_option linter.all false
namespace Go.Proofs.Ytidimannfemnmaa.P5
open Go.RowKit
set_option maxRecDepth 20000
open Ltx (Pc)

theorem put_le (l:List Pc) (j:Nat):(Ltx.putAt l j).length≤Ltx.puts l:=by
  have h:=Ltx.sum_puts l (j + 1)
  rw [Ltx.sumTo] at h
  omega
theorem two_cells {w:World} {o1 o2:Obj} {x1 x2 y1 y2:Value} {T:TypeId} (h1:o1 = .cells #[x1,x2] T (0,0)) (h2:o2 = .cells #[y1,y2] T (0,0)):((w.alloc o1).alloc o2).cell? ⟨w.heap.size,0,none⟩ = some x1∧((w.alloc o1).alloc o2).cell? ⟨w.heap.size,1,none⟩ = some x2∧((w.alloc o1).alloc o2).cell? ⟨w.heap.size + 1,0,none⟩ = some y1∧((w.alloc o1).alloc o2).cell? ⟨w.heap.size + 1,1,none⟩ = some y2:=by
  have s1:(w.alloc o1).heap.size = w.heap.size + 1:=by simp
  have e1:=(Go.heap_alloc_old (w.alloc o1) o2 (show w.heap.size < (w.alloc o1).heap.size by omega)).trans (heap_alloc_new w o1)
  have e2:=heap_alloc_new (w.alloc o1) o2
  rw [s1] at e2
  rw [h1] at e1 e2
  rw [h2] at e1 e2
  rw [h1,h2]
  exact ⟨cell_of_row _ _ 0 _ _ _ e1,cell_of_row _ _ 1 _ _ _ e1,cell_of_row _ _ 0 _ _ _ e2,cell_of_row _ _ 1 _ _ _ e2⟩
set_option maxHeartbeats 4000000 in
theorem rtransform_ok (w:World) (A B:Option Addr) (n c m k:Nat) (la lb:List Pc) (prior:Bool) (ha:PcsIn w A n (la.map ipc)) (hb:PcsIn w B m (lb.map ipc)) (hn:n≤100000) (hm:m≤100000) (hsa:totP la≤2000) (hsb:totP lb≤2000)
    (hra:rightV (la.map ipc) = true) (hrb:rightV (lb.map ipc) = true) :
    Calls Try.prog 195 #[.slice A n c,.slice B m k,.bool prior] w fun e w'=>∃ v1 v2,e = .returned (.tuple #[v1,v2,.int .i64 0])∧OwnP w.heap.size w' v1 (Ltx.trans (Ltx.norm la) (Ltx.norm lb) prior)∧OwnP w.heap.size w' v2 (Ltx.trans (Ltx.norm lb) (Ltx.norm la) (!prior))∧Below w.heap.size w w':=by
  have hta:=Nat.le_trans (totP_norm la) hsa
  have htb:=Nat.le_trans (totP_norm lb) hsb
  have hla:=ha.1
  have hlb:=hb.1
  rw [List.length_map] at hla hlb
  have hx0:=Lib.hid ha
  have hy0:=Lib.hid hb
  have hbl0:=Lib.hid (Below.refl w.heap.size w)
  have hra':=Lib.hid hra
  have hrb':=Lib.hid hrb
  have hnm:n≤maxLen:=by unfold maxLen;omega
  have hmm:m≤maxLen:=by unfold maxLen;omega
  have hla2:la.length≤1000000:=by omega
  have hlb2:lb.length≤1000000:=by omega
  have hlowA:=Lib.hid (low_of (l:=Ltx.norm la) (by omega))
  have hlowB:=Lib.hid (low_of (l:=Ltx.norm lb) (by omega))
  obtain ⟨na,hna⟩:∃ l,l = Ltx.norm la:=⟨_,rfl⟩
  obtain ⟨nb,hnb⟩:∃ l,l = Ltx.norm lb:=⟨_,rfl⟩
  have hNa:=Lib.hid (show Ltx.Normal na by rw [hna];exact Ltx.norm_normal la)
  have hNb:=Lib.hid (show Ltx.Normal nb by rw [hnb];exact Ltx.norm_normal lb)
  rw [← hna] at hta hlowA
  rw [← hnb] at htb hlowB
  rw [← hna,← hnb]
  have hea:Ltx.extent na≤2000:=by unfold totP at hta;omega
  have heb:Ltx.extent nb≤2000:=by unfold totP at htb;omega
  have hpa:Ltx.puts na≤2000:=by unfold totP at hta;omega
  have hpb:Ltx.puts nb≤2000:=by unfold totP at htb;omega
  obtain ⟨nn,hnn⟩:∃ nn,nn = max (Ltx.extent na) (Ltx.extent nb):=⟨_,rfl⟩
  have hmax:max (Ltx.extent na:Int) (Ltx.extent nb:Int) = (nn:Int):=by omega
  have hn1:Ltx.extent na≤nn:=by omega
  have hn2:Ltx.extent nb≤nn:=by omega
  have hn3:nn≤2000:=by omega
  have hT1:=Lib.hid (show Ltx.norm (Ltx.behind (Ltx.putAt na) (Ltx.putAt nb) (Ltx.dropAt na) (Ltx.dropAt nb) prior nn 0) = Ltx.trans na nb prior by rw [hnn];rfl)
  have hT2:=Lib.hid (show Ltx.norm (Ltx.behind (Ltx.putAt nb) (Ltx.putAt na) (Ltx.dropAt nb) (Ltx.dropAt na) (!prior) nn 0) = Ltx.trans nb na (!prior) by rw [hnn,Nat.max_comm];rfl)
  have hF1:=Lib.hid (show Ltx.Fine (Ltx.trans na nb prior) from Ltx.trans_fine (n:=2000) (Nat.le_refl _) _ hta htb)
  have hF2:=Lib.hid (show Ltx.Fine (Ltx.trans nb na (!prior)) from Ltx.trans_fine (n:=2000) (Nat.le_refl _) _ htb hta)
  have hlow:∀ X:List Pc,Ltx.Fine X→Low X:=fun X hfX q hq=>by
    have h1:=hfX.2.1 q hq
    have h2:=(Ltx.mem_sizes hq).2
    have h3:=hfX.2.2
    exact ⟨by omega,by omega,by omega⟩
  have hlow':=Lib.hid hlow
  have hBe:=Lib.hid (fun (W:World) (g1 g2 h1 h2:Nat) (ea:VRow W g1 g2 (nn + 1) (Ltx.putAt na) (Ltx.dropAt na)) (eb:VRow W h1 h2 (nn + 1) (Ltx.putAt nb) (Ltx.dropAt nb))=>And.intro
    (behind_any W g1 g2 h1 h2 nn (Ltx.putAt na) (Ltx.putAt nb) (Ltx.dropAt na) (Ltx.dropAt nb) prior ea eb (by omega) (fun j=>by have:=put_le na j;omega) (fun j=>by have:=put_le nb j;omega) (by have:=Ltx.sum_puts na (nn + 1);have:=Ltx.sum_puts nb (nn + 1);omega) (Ltx.dropAt_far na nn hn1) (Ltx.dropAt_far nb nn hn2))
    (behind_any W h1 h2 g1 g2 nn (Ltx.putAt nb) (Ltx.putAt na) (Ltx.dropAt nb) (Ltx.dropAt na) (!prior) eb ea (by omega) (fun j=>by have:=put_le nb j;omega) (fun j=>by have:=put_le na j;omega) (by have:=Ltx.sum_puts na (nn + 1);have:=Ltx.sum_puts nb (nn + 1);omega) (Ltx.dropAt_far nb nn hn2) (Ltx.dropAt_far na nn hn1)))
  have hnaH:=Lib.hid hna
  have hnbH:=Lib.hid hnb
  clear ha hb hra hrb hla hlb hnn hna hnb hlow hta htb hpa hpb
  go_enter Try.func195,Try.ntmps195
  go_wp2_with fail
  refine (rright_any w A n c _ hx0.out hnm).mono ?_
  rw [hra'.out]
  rintro e w1 ⟨rfl,hb1⟩
  have hx1:=Lib.hid (hx0.out.below hb1)
  have hy1:=Lib.hid (hy0.out.below hb1)
  have hbl1:=Lib.hid (hbl0.out.trans (hb1.mono hbl0.out.size))
  clear hb1
  go_wp2_with fail
  refine (rright_any w1 B m k _ hy1.out hmm).mono ?_
  rw [hrb'.out]
  rintro e w2 ⟨rfl,hb2⟩
  have hx2:=Lib.hid (hx1.out.below hb2)
  have hy2:=Lib.hid (hy1.out.below hb2)
  have hbl2:=Lib.hid (hbl1.out.trans (hb2.mono hbl1.out.size))
  clear hb2
  go_wp2_with fail
  refine (rnorm_any w2 A n c la hx2.out hnm (by omega) hla2).mono ?_
  rintro e w3 ⟨v,rfl,hv,hb3⟩
  have hy3:=Lib.hid (hy2.out.below hb3)
  have hbl3:=Lib.hid (hbl2.out.trans (hb3.mono hbl2.out.size))
  rw [← hnaH.out] at hv
  obtain ⟨AX,nX,cX,rfl,hnX,hncX,hcmX,hPX,-⟩:=hv.shape hlowA.out
  have hnmX:=Lib.hid (Nat.le_trans hncX hcmX)
  have hX3:=Lib.hid hPX
  clear hv hnX hncX hcmX hPX
  clear hb3
  go_wp2_with fail
  refine (rnorm_any w3 B m k lb hy3.out hmm (by omega) hlb2).mono ?_
  rintro e w4 ⟨v,rfl,hv,hb4⟩
  have hX4:=Lib.hid (hX3.out.below hb4)
  have hbl4:=Lib.hid (hbl3.out.trans (hb4.mono hbl3.out.size))
  rw [← hnbH.out] at hv
  obtain ⟨AY,nY,cY,rfl,hnY,hncY,hcmY,hPY,-⟩:=hv.shape hlowB.out
  have hnmY:=Lib.hid (Nat.le_trans hncY hcmY)
  have hY4:=Lib.hid hPY
  clear hv hnY hncY hcmY hPY
  clear hb4
  go_wp2_with fail
  refine (extent_any w4 AX nX cX na hX4.out hnmX.out (by omega)).mono ?_
  rintro e w5 ⟨rfl,hb5⟩
  have hX5:=Lib.hid (hX4.out.below hb5)
  have hY5:=Lib.hid (hY4.out.below hb5)
  have hbl5:=Lib.hid (hbl4.out.trans (hb5.mono hbl4.out.size))
  clear hb5
  go_wp2_with fail
  refine (extent_any w5 AY nY cY nb hY5.out hnmY.out (by omega)).mono ?_
  rintro e w6 ⟨rfl,hb6⟩
  have hX6:=Lib.hid (hX5.out.below hb6)
  have hY6:=Lib.hid (hY5.out.below hb6)
  have hbl6:=Lib.hid (hbl5.out.trans (hb6.mono hbl5.out.size))
  clear hb6
  go_wp2_with fail
  refine (view_any w6 AX nX cX nn na hX6.out hnmX.out hNa.out hn1 (by omega)).mono ?_
  rintro e w7 ⟨g1,g2,rfl,hV,hg1,hg2,hb7⟩
  have hY7:=Lib.hid (hY6.out.below hb7)
  have hbl7:=Lib.hid (hbl6.out.trans (hb7.mono hbl6.out.size))
  have hV7:=Lib.hid hV
  clear hV hg1 hg2
  clear hb7
  go_wp2_with fail
  refine (view_any w7 AY nY cY nn nb hY7.out hnmY.out hNb.out hn2 (by omega)).mono ?_
  rintro e w8 ⟨h1,h2,rfl,hV,hg1,hg2,hb8⟩
  have hbl8:=Lib.hid (hbl7.out.trans (hb8.mono hbl7.out.size))
  have hV8:=Lib.hid (show VRow w8 g1 g2 (nn + 1) (Ltx.putAt na) (Ltx.dropAt na) from by obtain ⟨⟨c1,q1,q2,q3⟩,⟨c2,q4,q5,q6⟩⟩:=hV7.out;exact hV7.out.kept (hb8.block g1 (Array.getElem?_eq_some_iff.1 q1).1) (hb8.block g2 (Array.getElem?_eq_some_iff.1 q4).1))
  have hU8:=Lib.hid hV
  clear hV hg1 hg2
  clear hb8
  go_wp2_with fail
  obtain ⟨wz,hwz⟩:∃ wz,wz = (w8.alloc (.cells #[.slice (some ⟨g1,0,none⟩) (nn + 1) (nn + 1),.slice (some ⟨g2,0,none⟩) (nn + 1) (nn + 1)] 110)).alloc (.cells #[.slice (some ⟨h1,0,none⟩) (nn + 1) (nn + 1),.slice (some ⟨h2,0,none⟩) (nn + 1) (nn + 1)] 110):=⟨_,rfl⟩
  rw [← hwz]
  have hbz:Below w8.heap.size w8 wz:=by rw [hwz];exact new2 _ _
  have hsz:wz.heap.size = w8.heap.size + 2:=by rw [hwz];simp
  obtain ⟨z1,z2,z3,z4⟩:wz.cell? ⟨w8.heap.size,0,none⟩ = some (.slice (some ⟨g1,0,none⟩) (nn + 1) (nn + 1))∧wz.cell? ⟨w8.heap.size,1,none⟩ = some (.slice (some ⟨g2,0,none⟩) (nn + 1) (nn + 1))∧wz.cell? ⟨w8.heap.size + 1,0,none⟩ = some (.slice (some ⟨h1,0,none⟩) (nn + 1) (nn + 1))∧wz.cell? ⟨w8.heap.size + 1,1,none⟩ = some (.slice (some ⟨h2,0,none⟩) (nn + 1) (nn + 1)):=by rw [hwz];exact two_cells rfl rfl
  have hrows:∀ W,Below wz.heap.size wz W→VRow W g1 g2 (nn + 1) (Ltx.putAt na) (Ltx.dropAt na)∧VRow W h1 h2 (nn + 1) (Ltx.putAt nb) (Ltx.dropAt nb):=fun W hb=>by
    have hb9:Below w8.heap.size w8 W:=hbz.trans (hb.mono (by omega))
    obtain ⟨⟨c1,q1,-⟩,⟨c2,q4,-⟩⟩:=hV8.out
    obtain ⟨⟨c3,q5,-⟩,⟨c4,q6,-⟩⟩:=hU8.out
    exact ⟨hV8.out.kept (hb9.block g1 (Array.getElem?_eq_some_iff.1 q1).1) (hb9.block g2 (Array.getElem?_eq_some_iff.1 q4).1),hU8.out.kept (hb9.block h1 (Array.getElem?_eq_some_iff.1 q5).1) (hb9.block h2 (Array.getElem?_eq_some_iff.1 q6).1)⟩
  have hrowsH:=Lib.hid hrows
  have hS:Hid (∀ w':World,Below wz.heap.size wz w'→Below wz.heap.size wz w'∧w'.cell? ⟨w8.heap.size,0,none⟩ = some (.slice (some ⟨g1,0,none⟩) (nn + 1) (nn + 1))∧w'.cell? ⟨w8.heap.size,1,none⟩ = some (.slice (some ⟨g2,0,none⟩) (nn + 1) (nn + 1))∧w'.cell? ⟨w8.heap.size + 1,0,none⟩ = some (.slice (some ⟨h1,0,none⟩) (nn + 1) (nn + 1))∧w'.cell? ⟨w8.heap.size + 1,1,none⟩ = some (.slice (some ⟨h2,0,none⟩) (nn + 1) (nn + 1))) :=
    fun w' hb=>⟨hb,(hb.cell (p:=⟨w8.heap.size,0,none⟩) (show w8.heap.size < wz.heap.size by omega)).trans z1,(hb.cell (p:=⟨w8.heap.size,1,none⟩) (show w8.heap.size < wz.heap.size by omega)).trans z2,(hb.cell (p:=⟨w8.heap.size + 1,0,none⟩) (show w8.heap.size + 1 < wz.heap.size by omega)).trans z3,(hb.cell (p:=⟨w8.heap.size + 1,1,none⟩) (show w8.heap.size + 1 < wz.heap.size by omega)).trans z4⟩
  have hd:=hS.out wz.drew (Below.refl wz.heap.size wz).drew
  have hbzH:=Lib.hid (hbl8.out.trans (hbz.mono hbl8.out.size))
  clear hwz hbz hsz z1 z2 z3 z4 hrows
  go_region_held3 (fun w'=>Below wz.heap.size wz w'∧w'.cell? ⟨w8.heap.size,0,none⟩ = some (.slice (some ⟨g1,0,none⟩) (nn + 1) (nn + 1))∧w'.cell? ⟨w8.heap.size,1,none⟩ = some (.slice (some ⟨g2,0,none⟩) (nn + 1) (nn + 1))∧w'.cell? ⟨w8.heap.size + 1,0,none⟩ = some (.slice (some ⟨h1,0,none⟩) (nn + 1) (nn + 1))∧w'.cell? ⟨w8.heap.size + 1,1,none⟩ = some (.slice (some ⟨h2,0,none⟩) (nn + 1) (nn + 1)))
    (first | exact hd3 | exact hd2 | exact hd)
    (first
      | (go_at_call 203;refine (hBe.out _ g1 g2 h1 h2 (hrowsH.out _ hd2.1).1 (hrowsH.out _ hd2.1).2).2.mono ?_;rw [hT2.out];rintro e w10 ⟨v2,rfl,hv2,hb10⟩;have hd3:=hS.out _ (hd2.1.trans (hb10.mono hd2.1.size));obtain ⟨A10,n10,c10,rfl,-,hnc10,hcm10,hP10,-⟩:=hv2.shape (hlow'.out _ hF2.out);have hv2':=Lib.hid hv2;have hP10':=Lib.hid hP10;have hnm10:=Lib.hid (Nat.le_trans hnc10 hcm10);have hb10':=Lib.hid hb10;clear hv2 hP10 hnc10 hcm10 hb10)
      | (go_at_call 203;refine (hBe.out _ g1 g2 h1 h2 (hrowsH.out _ hd.1).1 (hrowsH.out _ hd.1).2).1.mono ?_;rw [hT1.out];rintro e w9 ⟨v1,rfl,hv1,hb9⟩;have hd2:=hS.out _ (hd.1.trans (hb9.mono hd.1.size));obtain ⟨A9,n9,c9,rfl,-,hnc9,hcm9,hP9,-⟩:=hv1.shape (hlow'.out _ hF1.out);have hv1':=Lib.hid hv1;have hP9':=Lib.hid hP9;have hnm9:=Lib.hid (Nat.le_trans hnc9 hcm9);clear hv1 hP9 hnc9 hcm9))
  have hr1:=Lib.hid (right_fine hF1.out)
  have hr2:=Lib.hid (right_fine hF2.out)
  have hbl10:=Lib.hid (hbzH.out.trans (hd3.1.mono hbzH.out.size))
  have hq10:=Lib.hid (hP9'.out.below hb10'.out)
  have hz10:=Lib.hid hP10'.out
  have hs9:=Lib.hid (show w.heap.size≤wz.heap.size from hbzH.out.size)
  have hs9':=Lib.hid (show wz.heap.size≤w9.heap.size from hd2.1.size)
  clear hd hd2 hd3
  go_wp2_with fail
  refine (rright_any w10 A9 n9 c9 _ hq10.out hnm9.out).mono ?_
  rw [hr1.out]
  rintro e w11 ⟨rfl,hb11⟩
  have hz11:=Lib.hid (hz10.out.below hb11)
  have hbl11:=Lib.hid (hbl10.out.trans (hb11.mono hbl10.out.size))
  have hb11':=Lib.hid hb11
  clear hb11
  go_wp2_with fail
  refine (rright_any w11 A10 n10 c10 _ hz11.out hnm10.out).mono ?_
  rw [hr2.out]
  rintro e w12 ⟨rfl,hb12⟩
  have hbl12:=Lib.hid (hbl11.out.trans (hb12.mono hbl11.out.size))
  have hb12':=Lib.hid hb12
  clear hb12
  go_wp2_with fail
  go_ret3
  refine ⟨_,_,rfl,?_,?_,hbl12.out⟩
  · have o1:=own_base hv1'.out (show w.heap.size≤wz.drew.heap.size from hs9.out)
    have o2:=own_kept o1 fun j hj=>hb10'.out.block j (World.ownsRow.lt o1 j hj).2
    have o3:=own_kept o2 fun j hj=>hb11'.out.block j (World.ownsRow.lt o2 j hj).2
    exact own_kept o3 fun j hj=>hb12'.out.block j (World.ownsRow.lt o3 j hj).2
  · have o1:=own_base hv2'.out (show w.heap.size≤w9.heap.size by have:=hs9.out;have:=hs9'.out;omega)
    have o3:=own_kept o1 fun j hj=>hb11'.out.block j (World.ownsRow.lt o1 j hj).2
    exact own_kept o3 fun j hj=>hb12'.out.block j (World.ownsRow.lt o3 j hj).2
end Go.Proofs.Ytidimannfemnmaa.P5

