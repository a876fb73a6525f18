/- Apply: the law. -/
import Derived.Test.YtmipodnffhngaaaMgAL
import Derived.Test.YtmipodnffhngaaaMgAN
import Derived.Test.YtmipodnffhngaaaMgAQ
import Derived.Test.YtmipodnffhngaaaMgAJ
import Derived.Test.YtmipodnffhngaaaMgAF
set_option linter.all false
namespace Go.Proofs.Ytmipodnffhngaaa.Top
open Go.RowKit
set_option maxRecDepth 20000
set_option linter.unusedVariables false

section
variable {P:Program} {md:Region.Mode} {ops:Array Oper} {Q:Exit→Act→World→Prop} {S:World→Prop}
end
set_option maxHeartbeats 8000000 in
theorem lawApply_any (w:World) (t:Nd) (aA kA:Option Addr) (an ac kn kc:Nat) (o:Ov) (s:OS) (h:NodeV (Old w) w aA an ac kA kn kc t) (hraw:OpRaw w o s):Calls Try.prog 5 #[.agg (val6 t aA an ac kA kn kc),.agg (opCells o s)] w fun e w'=>e = .returned (.bool true)∧Below w.heap.size w w':=by
  obtain ⟨W2,hW2⟩:∃ W2,W2 = (w.alloc (.cells (val6 t aA an ac kA kn kc) 33)).alloc (.cells (opCells o s) 26):=⟨_,rfl⟩
  have z1:W2.heap[w.heap.size]? = some (.cells (val6 t aA an ac kA kn kc) 33 (0,0)):=by rw [hW2];exact (Go.heap_alloc_old _ _ (by simp)).trans (heap_alloc_new w _)
  have z2:W2.heap[w.heap.size + 1]? = some (.cells (opCells o s) 26 (0,0)):=by rw [hW2];have h1:=heap_alloc_new (w.alloc (.cells (val6 t aA an ac kA kn kc) 33)) (.cells (opCells o s) 26);rw [World.size_alloc] at h1;exact h1
  have z4':=Lib.hid (show Below w.heap.size w W2 by rw [hW2];exact ((Below.refl _ _).alloc (Nat.le_refl _) _).alloc (by simp) _)
  have z5:=Lib.hid (show W2.heap.size = w.heap.size + 1 + 1 by rw [hW2];simp)
  have hbx:=Lib.hid (fun (W:World) (hb:Below W2.heap.size W2 W)=>show W.heap[w.heap.size]? = some (.cells (val6 t aA an ac kA kn kc) 33 (0,0))∧W.heap[w.heap.size + 1]? = some (.cells (opCells o s) 26 (0,0)) from ⟨(hb.block _ (by have:=z5.out;omega)).trans z1,(hb.block _ (by have:=z5.out;omega)).trans z2⟩)
  have hN:=Lib.hid (fun (W:World) (hb:Below W2.heap.size W2 W)=>(h.below z4'.out).below hb)
  have hO:=Lib.hid (fun (W:World) (hb:Below W2.heap.size W2 W)=>(hraw.below z4'.out).below hb)
  have hwt:=Lib.hid (fun (W:World) (hb:Below W2.heap.size W2 W)=>weight_any t W aA kA an ac kn kc 600 (hN.out W hb) (by decide))
  have hli:=Lib.hid (fun (W:World) (hb:Below W2.heap.size W2 W)=>light_any W o s (hO.out W hb) 500 (by decide))
  have hin:=Lib.hid (fun (hl:lightB o 500 = true) (W:World) (hb:Below W2.heap.size W2 W)=>(hO.out W hb).op (by have:=(of_decide_eq_true hl).1;omega) (by have:=(of_decide_eq_true hl).2.1;omega) (by have:=(of_decide_eq_true hl).2.2.2.2.2.1;omega))
  have hsl:=Lib.hid (fun (hl:lightB o 500 = true)=>show Slim o from ⟨by have:=(of_decide_eq_true hl).2.2.1;omega,by have:=(of_decide_eq_true hl).2.2.2.1;omega,by have:=(of_decide_eq_true hl).2.2.2.2.1;omega,by have:=(of_decide_eq_true hl).2.2.2.2.2.2;omega⟩)
  obtain ⟨b,hb⟩:∃ b,b = lightB o 500:=⟨_,rfl⟩
  rw [← hb] at hli hin hsl
  clear h hraw hb
  obtain ⟨o0,o1,o2,o3,o4,o5,o6,o7,o8,o9,o10⟩:=op_cells z2
  have z1u:=z1
  unfold val6 at z1u
  obtain ⟨p0,p1,p2,p3,p4,p5,pf⟩:=six_cells z1u
  clear z1 z1u z2
  rw [hW2] at o0 o1 o2 o3 o4 o5 o6 o7 o8 o9 o10 p0 p1 p2 p3 p4 p5 pf
  unfold opCells at hli
  unfold val6 at hwt
  unfold val6 opCells at hW2 o0 o1 o2 o3 o4 o5 o6 o7 o8 o9 o10 p0 p1 p2 p3 p4 p5
  unfold val6 opCells
  go_enter Try.func5,Try.ntmps5
  go_wp2_with fail
  rw [← hW2]
  clear hW2 o0 o1 o2 o3 o4 o5 o6 o7 o8 o9 o10 p0 p1 p2 p3 p4 p5 pf
  refine (hwt.out W2 (Below.refl _ _)).mono ?_
  rintro e w1 ⟨x,rfl,hx3,hx,hb1⟩
  have B1:=Lib.hid hb1
  have hx':=Lib.hid hx
  obtain ⟨r1,r2⟩:=hbx.out w1 hb1
  obtain ⟨o0,o1,o2,o3,o4,o5,o6,o7,o8,o9,o10⟩:=op_cells r2
  unfold val6 at r1
  obtain ⟨p0,p1,p2,p3,p4,p5,pf⟩:=six_cells r1
  clear hb1 hx r1 r2 hwt
  by_cases g1:x≤600
  · have g1I:¬ (600:Int) < (x:Int):=by omega
    cases b with
    | false =>
      clear hin hsl
      go_wp2_with (first
        | (go_at_call 16;go_loud (refine (works_any _).mono ?_;rintro e w5 ⟨rfl,hb5⟩;have B5:=Lib.hid (B2.out.trans (hb5.mono B2.out.size));clear hb5))
        | (go_at_call 13;go_loud (refine (hli.out w1 B1.out).mono ?_;rintro e w2 ⟨rfl,hb2⟩;have B2:=Lib.hid (B1.out.trans (hb2.mono B1.out.size));obtain ⟨r1,r2⟩:=hbx.out w2 B2.out;clear o0 o1 o2 o3 o4 o5 o6 o7 o8 o9 o10 p0 p1 p2 p3 p4 p5 pf;obtain ⟨o0,o1,o2,o3,o4,o5,o6,o7,o8,o9,o10⟩:=op_cells r2;unfold val6 at r1;obtain ⟨p0,p1,p2,p3,p4,p5,pf⟩:=six_cells r1;clear hb2 r1 r2)))
      go_ret
      exact ⟨rfl,z4'.out.trans (B5.out.mono z4'.out.size)⟩
    | true =>
      have hin1:=Lib.hid (hin.out rfl)
      have hsl1:=Lib.hid (hsl.out rfl)
      clear hin hsl
      go_upto_region 3 with (go_at_call 13;go_loud (refine (hli.out w1 B1.out).mono ?_;rintro e w2 ⟨rfl,hb2⟩;have B2:=Lib.hid (B1.out.trans (hb2.mono B1.out.size));obtain ⟨r1,r2⟩:=hbx.out w2 B2.out;clear o0 o1 o2 o3 o4 o5 o6 o7 o8 o9 o10 p0 p1 p2 p3 p4 p5 pf;obtain ⟨o0,o1,o2,o3,o4,o5,o6,o7,o8,o9,o10⟩:=op_cells r2;unfold val6 at r1;obtain ⟨p0,p1,p2,p3,p4,p5,pf⟩:=six_cells r1;clear hb2 r1 r2))
      have hwg:weighV t≤600:=by have:=hx'.out g1;omega
      have hap:=Lib.hid (fun (W:World) (hb:Below W2.heap.size W2 W)=>apply_any W t aA kA an ac kn kc (hN.out W hb) o s (hin1.out W hb) hsl1.out (by omega))
      have hrp:=Lib.hid (fun (W:World) (hb:Below W2.heap.size W2 W)=>rapply_any (Old W) W (fun _ h=>h) t aA kA an ac kn kc (hN.out W hb) o s (hin1.out W hb) hsl1.out (by omega))
      have hid':=Lib.hid (fun (W:World) (hb:Below W2.heap.size W2 W)=>rids_any t W aA kA an ac kn kc (hN.out W hb) (by omega))
      have hlg:=Lib.hid (fun (W:World) (hb:Below W2.heap.size W2 W)=>rlong_any t W aA kA an ac kn kc (hN.out W hb) (by omega))
      have hwl':=Lib.hid (show (idsV t).length≤600 by rw [ids_count];have:=count_le t;omega)
      obtain ⟨vv,hvv⟩:∃ vv,vv = validV t o:=⟨_,rfl⟩
      obtain ⟨m,hm⟩:∃ m,m = applyV t o:=⟨_,rfl⟩
      obtain ⟨ws,hws⟩:∃ ws,ws = idsV t:=⟨_,rfl⟩
      obtain ⟨lg,hlgE⟩:∃ lg,lg = longV t:=⟨_,rfl⟩
      rw [← hvv,← hm] at hap hrp
      rw [← hws] at hid' hwl'
      rw [← hlgE] at hlg
      clear hvv hm hws hlgE hli
      unfold AppA val6 opCells at hap hrp
      unfold val6 at hid' hlg
      go_upto_region 4 with (go_at_call 20;go_loud (refine (hid'.out w2 B2.out).mono ?_;rintro e w3 ⟨v3,rfl,ho3,hb3⟩;have B3:=Lib.hid (B2.out.trans (hb3.mono B2.out.size));obtain ⟨r1,r2⟩:=hbx.out w3 B3.out;clear o0 o1 o2 o3 o4 o5 o6 o7 o8 o9 o10 p0 p1 p2 p3 p4 p5 pf;obtain ⟨o0,o1,o2,o3,o4,o5,o6,o7,o8,o9,o10⟩:=op_cells r2;unfold val6 at r1;obtain ⟨p0,p1,p2,p3,p4,p5,pf⟩:=six_cells r1;clear r1 r2;obtain ⟨A1,c1,rfl,hca3,hcb3,hr3⟩:=own_nts ho3;have hr3h:=Lib.hid hr3;have hz1:=Lib.hid (show c1≤maxLen∧ws.length≤c1 from ⟨hcb3,hca3⟩);clear ho3 hr3 hca3 hcb3 hb3))
      go_upto_region 5 with (go_at_call 21;go_loud (refine (hlg.out w3 B3.out).mono ?_;rintro e w4 ⟨rfl,hb4⟩;have B4:=Lib.hid (B3.out.trans (hb4.mono B3.out.size));obtain ⟨r1,r2⟩:=hbx.out w4 B4.out;clear o0 o1 o2 o3 o4 o5 o6 o7 o8 o9 o10 p0 p1 p2 p3 p4 p5 pf;obtain ⟨o0,o1,o2,o3,o4,o5,o6,o7,o8,o9,o10⟩:=op_cells r2;unfold val6 at r1;obtain ⟨p0,p1,p2,p3,p4,p5,pf⟩:=six_cells r1;clear r1 r2;have hr4h:=Lib.hid (hr3h.out.below hb4);clear hb4))
      go_upto_region 6 with (go_at_call 22;go_loud (refine (hap.out w4 B4.out).mono ?_;rintro e w5 ⟨mA,mn,mc,mK,mk,md,rfl,hn5,hb5⟩;have B5:=Lib.hid (B4.out.trans (hb5.mono B4.out.size));obtain ⟨r1,r2⟩:=hbx.out w5 B5.out;clear o0 o1 o2 o3 o4 o5 o6 o7 o8 o9 o10 p0 p1 p2 p3 p4 p5 pf;obtain ⟨o0,o1,o2,o3,o4,o5,o6,o7,o8,o9,o10⟩:=op_cells r2;unfold val6 at r1;obtain ⟨p0,p1,p2,p3,p4,p5,pf⟩:=six_cells r1;clear r1 r2))
      obtain ⟨X5,hX5⟩:∃ X,X = w5.alloc (.cells (val6 m mA mn mc mK mk md) 33):=⟨_,rfl⟩
      have m5:=Lib.hid (show X5.heap[w5.heap.size]? = some (.cells (val6 m mA mn mc mK mk md) 33 (0,0)) by rw [hX5];exact heap_alloc_new w5 _)
      have h45:=Lib.hid (show Below w4.heap.size w4 X5 by rw [hX5];exact hb5.alloc hb5.size _)
      have hM5:=Lib.hid (show NodeV (Old X5) X5 mA mn mc mK mk md m by
        rw [hX5]
        exact (hn5.kept (fun k hk=>show Old w5 k by
          rcases hk with hk | hk
          · exact Nat.lt_of_lt_of_le hk hb5.size
          · exact hk.2) (fun _ _=>rfl)).below ((Below.refl _ _).alloc (Nat.le_refl _) _))
      have hs5:w5.heap.size < X5.heap.size:=by rw [hX5];simp
      unfold val6 at hX5
      rw [← hX5]
      clear hX5 hn5 hb5 o0 o1 o2 o3 o4 o5 o6 o7 o8 o9 o10 p0 p1 p2 p3 p4 p5 pf
      obtain ⟨b5,hbe⟩:∃ b,b = w5.heap.size:=⟨_,rfl⟩
      rw [← hbe] at m5 hs5 ⊢
      clear hbe
      have C5:=Lib.hid (B4.out.trans (h45.out.mono B4.out.size))
      have N5:=Lib.hid (hr4h.out.below h45.out)
      obtain ⟨r1,r2⟩:=hbx.out X5 C5.out
      obtain ⟨o0,o1,o2,o3,o4,o5,o6,o7,o8,o9,o10⟩:=op_cells r2
      unfold val6 at r1
      obtain ⟨p0,p1,p2,p3,p4,p5,pf⟩:=six_cells r1
      clear r1 r2 B5
      go_upto_region 7 with (go_at_call 23;go_loud (refine (hrp.out X5 C5.out).mono ?_;rintro e w6 ⟨nA,nn,nc,nK,nk,nd,rfl,hn6,hb6⟩;have B6:=Lib.hid (C5.out.trans (hb6.mono C5.out.size));obtain ⟨r1,r2⟩:=hbx.out w6 B6.out;clear o0 o1 o2 o3 o4 o5 o6 o7 o8 o9 o10 p0 p1 p2 p3 p4 p5 pf;obtain ⟨o0,o1,o2,o3,o4,o5,o6,o7,o8,o9,o10⟩:=op_cells r2;unfold val6 at r1;obtain ⟨p0,p1,p2,p3,p4,p5,pf⟩:=six_cells r1;clear r1 r2))
      obtain ⟨X6,hX6⟩:∃ X,X = w6.alloc (.cells (val6 m nA nn nc nK nk nd) 33):=⟨_,rfl⟩
      have m6:=Lib.hid (show X6.heap[w6.heap.size]? = some (.cells (val6 m nA nn nc nK nk nd) 33 (0,0)) by rw [hX6];exact heap_alloc_new w6 _)
      have h56:=Lib.hid (show Below X5.heap.size X5 X6 by rw [hX6];exact hb6.alloc hb6.size _)
      have hM6:=Lib.hid (show NodeV (Old X6) X6 nA nn nc nK nk nd m by
        rw [hX6]
        exact (hn6.kept (fun k hk=>show Old w6 k by
          rcases hk with hk | hk
          · exact Nat.lt_of_lt_of_le hk hb6.size
          · exact hk.2) (fun _ _=>rfl)).below ((Below.refl _ _).alloc (Nat.le_refl _) _))
      have hs6:w6.heap.size < X6.heap.size:=by rw [hX6];simp
      unfold val6 at hX6
      rw [← hX6]
      clear hX6 hn6 hb6 o0 o1 o2 o3 o4 o5 o6 o7 o8 o9 o10 p0 p1 p2 p3 p4 p5 pf
      obtain ⟨b6,hbe⟩:∃ b,b = w6.heap.size:=⟨_,rfl⟩
      rw [← hbe] at m6 hs6 ⊢
      clear hbe
      have C6:=Lib.hid (C5.out.trans (h56.out.mono C5.out.size))
      have N6:=Lib.hid (N5.out.below h56.out)
      have m56:=Lib.hid ((h56.out.block b5 hs5).trans m5.out)
      have hM56:=Lib.hid (hM5.out.below h56.out)
      obtain ⟨r1,r2⟩:=hbx.out X6 C6.out
      obtain ⟨o0,o1,o2,o3,o4,o5,o6,o7,o8,o9,o10⟩:=op_cells r2
      unfold val6 at r1
      obtain ⟨p0,p1,p2,p3,p4,p5,pf⟩:=six_cells r1
      clear r1 r2 B6
      go_upto_region 8 with (go_at_call 20;go_loud (refine (hid'.out X6 C6.out).mono ?_;rintro e w7 ⟨v7,rfl,ho7,hb7⟩;have B7:=Lib.hid (C6.out.trans (hb7.mono C6.out.size));obtain ⟨r1,r2⟩:=hbx.out w7 B7.out;clear o0 o1 o2 o3 o4 o5 o6 o7 o8 o9 o10 p0 p1 p2 p3 p4 p5 pf;obtain ⟨o0,o1,o2,o3,o4,o5,o6,o7,o8,o9,o10⟩:=op_cells r2;unfold val6 at r1;obtain ⟨p0,p1,p2,p3,p4,p5,pf⟩:=six_cells r1;clear r1 r2;obtain ⟨A2,c2,rfl,hca7,hcb7,hr7⟩:=own_nts ho7;have N7:=Lib.hid (N6.out.below hb7);have hr7h:=Lib.hid hr7;have hz2:=Lib.hid (show c2≤maxLen∧ws.length≤c2 from ⟨hcb7,hca7⟩);have h67:=Lib.hid hb7;clear ho7 hr7 hca7 hcb7 hb7))
      clear o0 o1 o2 o3 o4 o5 o6 o7 o8 o9 o10 p0 p1 p2 p3 p4 p5 pf
      have hcl:=Lib.hid (fun (W:World) (hb:Below w7.heap.size w7 W)=>show W.heap[b5]? = some (.cells (val6 m mA mn mc mK mk md) 33 (0,0))∧W.heap[b6]? = some (.cells (val6 m nA nn nc nK nk nd) 33 (0,0))∧W.heap[w.heap.size]? = some (.cells (val6 t aA an ac kA kn kc) 33 (0,0)) from
        ⟨(hb.block _ (by have:=h67.out.size;have:=h56.out.size;omega)).trans ((h67.out.block _ (by have:=h56.out.size;omega)).trans m56.out),(hb.block _ (by have:=h67.out.size;omega)).trans ((h67.out.block _ hs6).trans m6.out),(hbx.out W (B7.out.trans (hb.mono B7.out.size))).1⟩)
      have hsm:=Lib.hid (fun (W:World) (hb:Below w7.heap.size w7 W)=>by
        have h5:=rsame_any m m W mA mK nA nK mn mc mk md nn nc nk nd ((hM56.out.below h67.out).below hb) ((hM6.out.below h67.out).below hb)
        rw [eqV_refl sameA sameA_refl] at h5
        unfold val6 at h5
        exact h5)
      have hll:=Lib.hid (fun (W:World) (hb:Below w7.heap.size w7 W)=>hlg.out W (B7.out.trans (hb.mono B7.out.size)))
      clear hap hrp hid' hlg
      obtain ⟨r1,r2,r3⟩:=hcl.out w7 (Below.refl _ _)
      unfold val6 at r1 r2 r3
      obtain ⟨p0,p1,p2,p3,p4,p5,pf⟩:=six_cells r1
      obtain ⟨q0,q1,q2,q3,q4,q5,qf⟩:=six_cells r2
      obtain ⟨t0,t1,t2,t3,t4,t5,tf⟩:=six_cells r3
      clear r1 r2 r3
      go_wp2_with (first | (go_at_call 24;go_loud (refine (hsm.out w7 (Below.refl _ _)).mono ?_;rintro e w8 ⟨rfl,hb8⟩;have h8:=Lib.hid hb8;clear p0 p1 p2 p3 p4 p5 pf q0 q1 q2 q3 q4 q5 qf t0 t1 t2 t3 t4 t5 tf;obtain ⟨r1,r2,r3⟩:=hcl.out w8 h8.out;unfold val6 at r3;obtain ⟨t0,t1,t2,t3,t4,t5,tf⟩:=six_cells r3;clear r1 r2 r3 hb8)) | (go_at_call 21;go_loud (refine (hll.out w8 h8.out).mono ?_;rintro e w9 ⟨rfl,hb9⟩;have h9:=Lib.hid (h8.out.trans (hb9.mono h8.out.size));clear hb9 t0 t1 t2 t3 t4 t5 tf)))
      clear hcl hsm hll
      have h79:=h9.out
      have BC:=Lib.hid (B7.out.trans (h79.mono B7.out.size))
      have N1:=Lib.hid (N7.out.below h79)
      have N2:=Lib.hid (hr7h.out.below h79)
      clear h79 h8
      go_loopw [12] (fun v12 wr=>∃ q:Nat,q≤ws.length∧v12 = .int .i64 (q:Int)∧Below w9.heap.size w9 wr) (fun v12 _=>ws.length - (intOf v12).toNat)
      case atStart=>exact ⟨0,Nat.zero_le _,rfl,Below.refl _ _⟩
      case round =>
        obtain ⟨q,hq,rfl,hbr⟩:=hrel
        have HR:=Lib.hid hbr
        have BR:=Lib.hid (BC.out.trans (hbr.mono BC.out.size))
        clear hbr
        have lw:=hwl'.out
        by_cases hq1:q < ws.length
        · have hq1I:(q:Int) < (ws.length:Int):=by omega
          obtain ⟨ad,i,hA,hi1,ci⟩:=(N1.out.below HR.out).at_ hq1
          obtain ⟨ae,j,hE,hi2,cj⟩:=(N2.out.below HR.out).at_ hq1
          obtain rfl:i = j:=by rw [hi1] at hi2;injection hi2
          subst hA
          subst hE
          clear hi1 hi2
          go_wp2_with fail
          go_quiet (fail)
          rename_i nq
          go_wp2_with fail
          go_roundw
          case rel=>exact ⟨q + 1,by omega,by go_num,draws HR.out _⟩
          case measure=>simp [intOf];omega
        · have hq1I:¬ (q:Int) < (ws.length:Int):=by omega
          go_wp2_with (go_at_call 16;go_loud (refine (works_any _).mono ?_;rintro e w12 ⟨rfl,hb12⟩;have B12:=Lib.hid (BR.out.trans (hb12.mono BR.out.size));clear hb12))
          go_ret
          exact ⟨rfl,z4'.out.trans (B12.out.mono z4'.out.size)⟩
  · have g1I:(600:Int) < (x:Int):=by omega
    clear hin hsl hli
    go_wp2_with (go_at_call 16;go_loud (refine (works_any _).mono ?_;rintro e w5 ⟨rfl,hb5⟩;have B5:=Lib.hid (B1.out.trans (hb5.mono B1.out.size));clear hb5))
    go_ret
    exact ⟨rfl,z4'.out.trans (B5.out.mono z4'.out.size)⟩
end Go.Proofs.Ytmipodnffhngaaa.Top

