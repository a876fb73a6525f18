/- Which operations say the same: the law. -/
import Derived.Test.YtmipodnffhngaaaMgAK
import Derived.Test.YtmipodnffhngaaaTopBh
import Derived.Test.YtmipodnffhngaaaMgAN
import Derived.Test.YtmipodnffhngaaaTopLi
import Derived.Test.YtmipodnffhngaaaMgAJ
import Derived.Test.YtmipodnffhngaaaMgAF
set_option linter.all false
namespace Go.Proofs.Ytmipodnffhngaaa.Top
open Go.RowKit
set_option maxRecDepth 20000
set_option linter.unusedVariables false

structure FrL (S:Nat→Prop) (lo:Nat) (Y W:World):Prop where
  below:Below lo Y W
  size:W.heap.size = Y.heap.size
  far:∀ k,¬ S k→W.heap[k]? = Y.heap[k]?
theorem FrL.refl (S:Nat→Prop) (lo:Nat) (Y:World):FrL S lo Y Y:=⟨Below.refl _ _,rfl,fun _ _=>rfl⟩
theorem FrL.mono {S S':Nat→Prop} {lo:Nat} {Y W:World} (h:FrL S lo Y W) (hs:∀ k,S k→S' k):FrL S' lo Y W:=⟨h.below,h.size,fun k hk=>h.far k fun e=>hk (hs k e)⟩
theorem FrL.set {S:Nat→Prop} {lo g i:Nat} {Y W:World} {v:Value} (h:FrL S lo Y W) (h1:lo≤g) (h2:S g):FrL S lo Y (W.setCell ⟨g,i,none⟩ v) :=
  ⟨h.below.setCell (p:=⟨g,i,none⟩) h1 _,by rw [World.size_setCell];exact h.size,fun k hk=>(heap_setCell_other _ _ k _ (by intro e;exact hk (by rw [e];exact h2))).trans (h.far k hk)⟩
theorem own_kept2 {w w':World} {base:Nat} {e:TypeId} {size:Nat} {v:Value} {n:Nat} {xs:List Value} (h:w.ownsRow base e size v n xs) (hk:∀ k,v.ownBlock = some k→w'.heap[k]? = w.heap[k]?):w'.ownsRow base e size v n xs:=by
  obtain ⟨h1,h2 | ⟨g,cap,cur,rfl,hb,hg,hr⟩⟩:=h
  · exact ⟨h1,.inl h2⟩
  · exact ⟨h1,.inr ⟨g,cap,cur,rfl,hb,(hk g rfl).trans hg,hr⟩⟩
theorem rows_apart {w:World} {b1 b2 e1 e2 s1 s2 n1 n2:Nat} {v1 v2:Value} {xs1 xs2:List Value} (h1:w.ownsRow b1 e1 s1 v1 n1 xs1) (h2:w.ownsRow b2 e2 s2 v2 n2 xs2) (hne:e1 ≠ e2) (k:Nat) (k1:v1.ownBlock = some k) (k2:v2.ownBlock = some k):False:=by
  obtain ⟨-,⟨rfl,-⟩ | ⟨g,cap,cur,rfl,-,hg,-⟩⟩:=h1
  · cases k1
  · obtain ⟨-,⟨rfl,-⟩ | ⟨g',cap',cur',rfl,-,hg',-⟩⟩:=h2
    · cases k2
    · injection k1 with k1
      injection k2 with k2
      subst k1
      subst k2
      rw [hg] at hg'
      injection hg' with hg'
      injection hg' with _ h5
      exact hne h5
set_option maxHeartbeats 16000000 in
theorem lawSame_any8 (w:World) (t:Nd) (aA kA:Option Addr) (an ac kn kc:Nat) (h:NodeV (Old w) w aA an ac kA kn kc t) (a:Ov) (sa:OS) (ha:OpRaw w a sa) (b:Ov) (sb:OS) (hb:OpRaw w b sb) :
    Calls Try.prog 7 #[.agg (val6 t aA an ac kA kn kc),.agg (opCells a sa),.agg (opCells b sb)] w fun e w'=>e = .returned (.bool true)∧Below w.heap.size w w':=by
  obtain ⟨z1,z2,z3,z4,z5⟩:=three_new w (.cells (val6 t aA an ac kA kn kc) 33) (.cells (opCells a sa) 26) (.cells (opCells b sb) 26)
  obtain ⟨W3,hW3⟩:∃ W3,W3 = ((w.alloc (.cells (val6 t aA an ac kA kn kc) 33)).alloc (.cells (opCells a sa) 26)).alloc (.cells (opCells b sb) 26):=⟨_,rfl⟩
  rw [← hW3] at z1 z2 z3 z4 z5
  have z4':=Lib.hid z4
  have z5':=Lib.hid z5
  have hbx:=Lib.hid (fun (W:World) (hb:Below W3.heap.size W3 W)=>show W.heap[w.heap.size]? = some (.cells (val6 t aA an ac kA kn kc) 33 (0,0))∧W.heap[w.heap.size + 1]? = some (.cells (opCells a sa) 26 (0,0))∧W.heap[w.heap.size + 1 + 1]? = some (.cells (opCells b sb) 26 (0,0)) from ⟨(hb.block _ (by have:=z5'.out;omega)).trans z1,(hb.block _ (by have:=z5'.out;omega)).trans z2,(hb.block _ (by have:=z5'.out;omega)).trans z3⟩)
  have hN:=Lib.hid (fun (W:World) (hb:Below W3.heap.size W3 W)=>(h.below z4'.out).below hb)
  have hT:=Lib.hid (fun (W:World) (hb:Below W3.heap.size W3 W)=>show NodeV (Old w) W aA an ac kA kn kc t from h.kept (fun _ h=>h) (fun k hk=>(z4'.out.trans (hb.mono z4'.out.size)).block k hk))
  have hTl:=Lib.hid (fun (W:World) (hb:Below W3.heap.size W3 W) (k:Nat) (hk:Old w k)=>show k < W.heap.size from Nat.lt_of_lt_of_le hk (z4'.out.trans (hb.mono z4'.out.size)).size)
  have hOa:=Lib.hid (fun (W:World) (hb:Below W3.heap.size W3 W)=>(ha.below z4'.out).below hb)
  have hOb:=Lib.hid (fun (W:World) (hc:Below W3.heap.size W3 W)=>(hb.below z4'.out).below hc)
  have hwt:=Lib.hid (fun (W:World) (hb:Below W3.heap.size W3 W)=>weight_any t W aA kA an ac kn kc 300 (hN.out W hb) (by decide))
  have hla:=Lib.hid (fun (W:World) (hb:Below W3.heap.size W3 W)=>light_any W a sa (hOa.out W hb) 300 (by decide))
  have hlb:=Lib.hid (fun (W:World) (hb:Below W3.heap.size W3 W)=>light_any W b sb (hOb.out W hb) 300 (by decide))
  have hia:=Lib.hid (fun (hl:lightB a 300 = true) (W:World) (hb:Below W3.heap.size W3 W)=>(hOa.out W hb).op (by have:=(of_decide_eq_true hl).1;omega) (by have:=(of_decide_eq_true hl).2.1;omega) (by have:=(of_decide_eq_true hl).2.2.2.2.2.1;omega))
  have hib:=Lib.hid (fun (hl:lightB b 300 = true) (W:World) (hb:Below W3.heap.size W3 W)=>(hOb.out W hb).op (by have:=(of_decide_eq_true hl).1;omega) (by have:=(of_decide_eq_true hl).2.1;omega) (by have:=(of_decide_eq_true hl).2.2.2.2.2.1;omega))
  have hsl:=Lib.hid (fun (hl:lightB a 300 = true)=>show Slim a from ⟨by have:=(of_decide_eq_true hl).2.2.1;omega,by have:=(of_decide_eq_true hl).2.2.2.1;omega,by have:=(of_decide_eq_true hl).2.2.2.2.1;omega,by have:=(of_decide_eq_true hl).2.2.2.2.2.2;omega⟩)
  obtain ⟨ba,hba⟩:∃ ba,ba = lightB a 300:=⟨_,rfl⟩
  obtain ⟨bb,hbb⟩:∃ bb,bb = lightB b 300:=⟨_,rfl⟩
  rw [← hba] at hla hia hsl
  rw [← hbb] at hlb hib
  clear h ha hb hba hbb
  obtain ⟨a0,a1,a2,a3,a4,a5,a6,a7,a8,a9,a10⟩:=op_cells z2
  obtain ⟨b0,b1,b2,b3,b4,b5,b6,b7,b8,b9,b10⟩:=op_cells z3
  have z1u:=z1
  unfold val6 at z1u
  obtain ⟨p0,p1,p2,p3,p4,p5,pf⟩:=six_cells z1u
  clear z1 z1u z2 z3 z4 z5
  rw [hW3] at p0 p1 p2 p3 p4 p5 pf a0 a1 a2 a3 a4 a5 a6 a7 a8 a9 a10 b0 b1 b2 b3 b4 b5 b6 b7 b8 b9 b10
  unfold opCells at hla hlb
  unfold val6 at hwt
  unfold val6 opCells at hW3 p0 p1 p2 p3 p4 p5 pf a0 a1 a2 a3 a4 a5 a6 a7 a8 a9 a10 b0 b1 b2 b3 b4 b5 b6 b7 b8 b9 b10
  unfold val6 opCells
  go_enter Try.func7,Try.ntmps7
  go_wp2_with fail
  rw [← hW3]
  clear hW3 p0 p1 p2 p3 p4 p5 pf a0 a1 a2 a3 a4 a5 a6 a7 a8 a9 a10 b0 b1 b2 b3 b4 b5 b6 b7 b8 b9 b10
  refine (hwt.out W3 (Below.refl _ _)).mono ?_
  rintro e w1 ⟨x,rfl,hx3,hx,hb1⟩
  have B1:=Lib.hid hb1
  have hx':=Lib.hid hx
  obtain ⟨r1,r2,r3⟩:=hbx.out w1 hb1
  unfold val6 at r1
  obtain ⟨p0,p1,p2,p3,p4,p5,pf⟩:=six_cells r1
  obtain ⟨a0,a1,a2,a3,a4,a5,a6,a7,a8,a9,a10⟩:=op_cells r2
  obtain ⟨b0,b1,b2,b3,b4,b5,b6,b7,b8,b9,b10⟩:=op_cells r3
  clear hb1 hx r1 r2 r3 hwt
  by_cases g1:x≤300
  · have g1I:¬ (300:Int) < (x:Int):=by omega
    cases ba with
    | false =>
      clear hia hib hsl hlb
      go_wp2_with (first
        | (go_at_call 16;go_loud (refine (works_any _).mono ?_;rintro e w5 ⟨rfl,hb5⟩;have B5:=Lib.hid (B2.out.trans (hb5.mono B2.out.size));clear hb5))
        | (go_at_call 13;go_loud (refine (hla.out w1 B1.out).mono ?_;rintro e w2 ⟨rfl,hb2⟩;have B2:=Lib.hid (B1.out.trans (hb2.mono B1.out.size));clear hb2 p0 p1 p2 p3 p4 p5 pf a0 a1 a2 a3 a4 a5 a6 a7 a8 a9 a10 b0 b1 b2 b3 b4 b5 b6 b7 b8 b9 b10)))
      go_ret
      exact ⟨rfl,z4'.out.trans (B5.out.mono z4'.out.size)⟩
    | true =>
      have hia1:=Lib.hid (hia.out rfl)
      have hsl1:=Lib.hid (hsl.out rfl)
      clear hia hsl
      cases bb with
      | false =>
        clear hib
        go_wp2_with (first
          | (go_at_call 16;go_loud (refine (works_any _).mono ?_;rintro e w5 ⟨rfl,hb5⟩;have B5:=Lib.hid (B3.out.trans (hb5.mono B3.out.size));clear hb5))
          | (go_at_call_of 13 sa.pA;go_loud (refine (hla.out w1 B1.out).mono ?_;rintro e w2 ⟨rfl,hb2⟩;have B2:=Lib.hid (B1.out.trans (hb2.mono B1.out.size));clear hb2;clear p0 p1 p2 p3 p4 p5 pf a0 a1 a2 a3 a4 a5 a6 a7 a8 a9 a10 b0 b1 b2 b3 b4 b5 b6 b7 b8 b9 b10;obtain ⟨r1,r2,r3⟩:=hbx.out w2 B2.out;unfold val6 at r1;obtain ⟨p0,p1,p2,p3,p4,p5,pf⟩:=six_cells r1;obtain ⟨a0,a1,a2,a3,a4,a5,a6,a7,a8,a9,a10⟩:=op_cells r2;obtain ⟨b0,b1,b2,b3,b4,b5,b6,b7,b8,b9,b10⟩:=op_cells r3;clear r1 r2 r3))
          | (go_at_call_of 13 sb.pA;go_loud (refine (hlb.out w2 B2.out).mono ?_;rintro e w3 ⟨rfl,hb3⟩;have B3:=Lib.hid (B2.out.trans (hb3.mono B2.out.size));clear hb3 p0 p1 p2 p3 p4 p5 pf a0 a1 a2 a3 a4 a5 a6 a7 a8 a9 a10 b0 b1 b2 b3 b4 b5 b6 b7 b8 b9 b10)))
        go_ret
        exact ⟨rfl,z4'.out.trans (B5.out.mono z4'.out.size)⟩
      | true =>
        have hib1:=Lib.hid (hib.out rfl)
        clear hib
        have hwg:=Lib.hid (show weighV t≤300 by have:=hx'.out g1;omega)
        go_upto_region 3 with (first
          | (go_at_call_of 13 sa.pA;go_loud (refine (hla.out w1 B1.out).mono ?_;rintro e w2 ⟨rfl,hb2⟩;have B2:=Lib.hid (B1.out.trans (hb2.mono B1.out.size));clear hb2;clear p0 p1 p2 p3 p4 p5 pf a0 a1 a2 a3 a4 a5 a6 a7 a8 a9 a10 b0 b1 b2 b3 b4 b5 b6 b7 b8 b9 b10;obtain ⟨r1,r2,r3⟩:=hbx.out w2 B2.out;unfold val6 at r1;obtain ⟨p0,p1,p2,p3,p4,p5,pf⟩:=six_cells r1;obtain ⟨a0,a1,a2,a3,a4,a5,a6,a7,a8,a9,a10⟩:=op_cells r2;obtain ⟨b0,b1,b2,b3,b4,b5,b6,b7,b8,b9,b10⟩:=op_cells r3;clear r1 r2 r3))
          | (go_at_call_of 13 sb.pA;go_loud (refine (hlb.out w2 B2.out).mono ?_;rintro e w3 ⟨rfl,hb3⟩;have B3:=Lib.hid (B2.out.trans (hb3.mono B2.out.size));clear hb3;clear p0 p1 p2 p3 p4 p5 pf a0 a1 a2 a3 a4 a5 a6 a7 a8 a9 a10 b0 b1 b2 b3 b4 b5 b6 b7 b8 b9 b10;obtain ⟨r1,r2,r3⟩:=hbx.out w3 B3.out;unfold val6 at r1;obtain ⟨p0,p1,p2,p3,p4,p5,pf⟩:=six_cells r1;obtain ⟨a0,a1,a2,a3,a4,a5,a6,a7,a8,a9,a10⟩:=op_cells r2;obtain ⟨b0,b1,b2,b3,b4,b5,b6,b7,b8,b9,b10⟩:=op_cells r3;clear r1 r2 r3)))
        clear hla hlb B1 B2
        have hbr:=Lib.hid (bare_any w3 a sa (hia1.out w3 B3.out))
        have hrb:=Lib.hid (fun (W:World) (hb:Below W3.heap.size W3 W)=>rbare_any W a sa (hia1.out W hb))
        have hok:=Lib.hid (op_ok (hia1.out w3 B3.out)).bare
        have hap:=Lib.hid (fun (W:World) (hb:Below W3.heap.size W3 W)=>apply_T (Old w) W (hTl.out W hb) t aA kA an ac kn kc (hT.out W hb) a sa (hia1.out W hb) hsl1.out (by have:=hwg.out;omega))
        have hac:=Lib.hid (fun (W:World) (hb:Below W3.heap.size W3 W) (s1:OS) (hi:OpIn W (bareV a) s1)=>by
          have h5:=apply_T (Old w) W (hTl.out W hb) t aA kA an ac kn kc (hT.out W hb) (bareV a) s1 hi (bare_slim hsl1.out) (by have:=hwg.out;omega)
          rw [bare_valid,bare_apply] at h5
          exact h5)
        obtain ⟨vv,hvv⟩:∃ vv,vv = validV t a:=⟨_,rfl⟩
        obtain ⟨m,hm⟩:∃ m,m = applyV t a:=⟨_,rfl⟩
        have hcm:=Lib.hid (show countV m≤100000 by
          rw [hm]
          unfold applyV
          split
          · rename_i hv
            have hf:faultV t a = 0:=by
              unfold validV at hv
              cases hr:rightV ltB t with
              | false=>rw [hr] at hv;simp at hv
              | true=>rw [hr] at hv;simpa using hv
            have h1:=size_after hf
            have h2:=count_le t
            have:=hwg.out
            have h3:(if a.kind = 1 then 1 else 0)≤1:=by split <;> omega
            omega
          · simp [Nd.zero,countV,countsV])
        have hps:=Lib.hid (fun (W:World) (hb:Below W3.heap.size W3 W)=>psame_any W a b sa sb (hia1.out W hb) (hib1.out W hb))
        have hrs:=Lib.hid (fun (W:World) (hb:Below W3.heap.size W3 W)=>rsame_any8 W a b sa sb (hia1.out W hb) (hib1.out W hb))
        have hba2:=Lib.hid (fun (W:World) (hb:Below W3.heap.size W3 W)=>bare_any W a sa (hia1.out W hb))
        have hpc:=Lib.hid (fun (W:World) (hb:Below W3.heap.size W3 W) (s5:OS) (hi:OpIn W (bareV a) s5)=>by
          have h5:=psame_any W a (bareV a) sa s5 (hia1.out W hb) hi
          rw [bare_bare,sameB_refl] at h5
          exact h5)
        rw [← hvv,← hm] at hap hac
        obtain ⟨C,hC⟩:∃ C,C = bareV a:=⟨_,rfl⟩
        rw [← hC] at hbr hrb hok hac hba2 hpc
        obtain ⟨ks,hks⟩:∃ ks,ks = sameB C (bareV b):=⟨_,rfl⟩
        rw [← hC,← hks] at hps hrs
        clear hvv hm hC hks
        unfold BareA opCells at hbr hrb hba2
        unfold AppA val6 opCells at hap hac
        unfold opCells at hps hrs hpc
        go_upto_region 4 with (go_at_call 28;go_loud (refine hbr.out.mono ?_;rintro e w4 ⟨⟨pA,pn,pc,tA,tn,tc,qA,qn,qc⟩,rfl,ho4,hb4⟩;dsimp only;have O4:=Lib.hid ho4;have B34:=Lib.hid hb4;have B4:=Lib.hid (B3.out.trans (hb4.mono B3.out.size));clear p0 p1 p2 p3 p4 p5 pf a0 a1 a2 a3 a4 a5 a6 a7 a8 a9 a10 b0 b1 b2 b3 b4 b5 b6 b7 b8 b9 b10;obtain ⟨r1,r2,r3⟩:=hbx.out w4 B4.out;unfold val6 at r1;obtain ⟨p0,p1,p2,p3,p4,p5,pf⟩:=six_cells r1;obtain ⟨a0,a1,a2,a3,a4,a5,a6,a7,a8,a9,a10⟩:=op_cells r2;obtain ⟨b0,b1,b2,b3,b4,b5,b6,b7,b8,b9,b10⟩:=op_cells r3;clear r1 r2 r3;clear ho4 hb4))
        obtain ⟨X1,hX1⟩:∃ X,X = w4.alloc (.cells (opCells C ⟨pA,pn,pc,tA,tn,tc,qA,qn,qc⟩) 26):=⟨_,rfl⟩
        have m1:=Lib.hid (show X1.heap[w4.heap.size]? = some (.cells (opCells C ⟨pA,pn,pc,tA,tn,tc,qA,qn,qc⟩) 26 (0,0)) by rw [hX1];exact heap_alloc_new w4 _)
        have E1:=Lib.hid (show Below w4.heap.size w4 X1 by rw [hX1];exact (Below.refl _ _).alloc (Nat.le_refl _) _)
        have s1:w4.heap.size < X1.heap.size:=by rw [hX1];simp
        unfold opCells at hX1
        rw [← hX1]
        clear hX1 p0 p1 p2 p3 p4 p5 pf a0 a1 a2 a3 a4 a5 a6 a7 a8 a9 a10 b0 b1 b2 b3 b4 b5 b6 b7 b8 b9 b10
        obtain ⟨x7,hbe⟩:∃ b,b = w4.heap.size:=⟨_,rfl⟩
        have hx7:=Lib.hid hbe
        rw [← hbe] at m1 s1 ⊢
        clear hbe
        have B5:=Lib.hid (B4.out.trans (E1.out.mono B4.out.size))
        obtain ⟨r1,r2,r3⟩:=hbx.out X1 B5.out
        unfold val6 at r1
        obtain ⟨p0,p1,p2,p3,p4,p5,pf⟩:=six_cells r1
        obtain ⟨a0,a1,a2,a3,a4,a5,a6,a7,a8,a9,a10⟩:=op_cells r2
        obtain ⟨b0,b1,b2,b3,b4,b5,b6,b7,b8,b9,b10⟩:=op_cells r3
        clear r1 r2 r3
        go_upto_region 5 with (go_at_call 29;go_loud (refine (hrb.out X1 B5.out).mono ?_;rintro e w5 ⟨⟨fA,fn,fc,gA,gn,gc,iA,inn,ic⟩,rfl,ho5,hb5⟩;dsimp only;have O5:=Lib.hid ho5;have E5:=Lib.hid hb5;have B6:=Lib.hid (B5.out.trans (hb5.mono B5.out.size));clear ho5 hb5;clear p0 p1 p2 p3 p4 p5 pf a0 a1 a2 a3 a4 a5 a6 a7 a8 a9 a10 b0 b1 b2 b3 b4 b5 b6 b7 b8 b9 b10;obtain ⟨r1,r2,r3⟩:=hbx.out w5 B6.out;unfold val6 at r1;obtain ⟨p0,p1,p2,p3,p4,p5,pf⟩:=six_cells r1;obtain ⟨a0,a1,a2,a3,a4,a5,a6,a7,a8,a9,a10⟩:=op_cells r2;obtain ⟨b0,b1,b2,b3,b4,b5,b6,b7,b8,b9,b10⟩:=op_cells r3;clear r1 r2 r3))
        obtain ⟨X2,hX2⟩:∃ X,X = w5.alloc (.cells (opCells C ⟨fA,fn,fc,gA,gn,gc,iA,inn,ic⟩) 26):=⟨_,rfl⟩
        have m2:=Lib.hid (show X2.heap[w5.heap.size]? = some (.cells (opCells C ⟨fA,fn,fc,gA,gn,gc,iA,inn,ic⟩) 26 (0,0)) by rw [hX2];exact heap_alloc_new w5 _)
        have E2:=Lib.hid (show Below w5.heap.size w5 X2 by rw [hX2];exact (Below.refl _ _).alloc (Nat.le_refl _) _)
        have s2:w5.heap.size < X2.heap.size:=by rw [hX2];simp
        unfold opCells at hX2
        rw [← hX2]
        clear hX2 p0 p1 p2 p3 p4 p5 pf a0 a1 a2 a3 a4 a5 a6 a7 a8 a9 a10 b0 b1 b2 b3 b4 b5 b6 b7 b8 b9 b10
        obtain ⟨x8,hbe⟩:∃ b,b = w5.heap.size:=⟨_,rfl⟩
        rw [← hbe] at m2 s2 ⊢
        have hx8:=Lib.hid hbe
        clear hbe
        have B7:=Lib.hid (B6.out.trans (E2.out.mono B6.out.size))
        have E12:=Lib.hid (E5.out.trans (E2.out.mono E5.out.size))
        obtain ⟨r1,r2,r3⟩:=hbx.out X2 B7.out
        unfold val6 at r1
        obtain ⟨p0,p1,p2,p3,p4,p5,pf⟩:=six_cells r1
        obtain ⟨a0,a1,a2,a3,a4,a5,a6,a7,a8,a9,a10⟩:=op_cells r2
        obtain ⟨b0,b1,b2,b3,b4,b5,b6,b7,b8,b9,b10⟩:=op_cells r3
        clear r1 r2 r3
        go_upto_region 6 with (go_at_call 22;go_loud (refine (hap.out X2 B7.out).mono ?_;rintro e w6 ⟨mA,mn,mc,mK,mk,md,rfl,hn6,hb6⟩;have N6:=Lib.hid hn6;have E6:=Lib.hid hb6;have B8:=Lib.hid (B7.out.trans (hb6.mono B7.out.size));clear hn6 hb6;clear p0 p1 p2 p3 p4 p5 pf a0 a1 a2 a3 a4 a5 a6 a7 a8 a9 a10 b0 b1 b2 b3 b4 b5 b6 b7 b8 b9 b10;obtain ⟨r1,r2,r3⟩:=hbx.out w6 B8.out;unfold val6 at r1;obtain ⟨p0,p1,p2,p3,p4,p5,pf⟩:=six_cells r1;obtain ⟨a0,a1,a2,a3,a4,a5,a6,a7,a8,a9,a10⟩:=op_cells r2;obtain ⟨b0,b1,b2,b3,b4,b5,b6,b7,b8,b9,b10⟩:=op_cells r3;clear r1 r2 r3))
        obtain ⟨X3,hX3⟩:∃ X,X = w6.alloc (.cells (val6 m mA mn mc mK mk md) 33):=⟨_,rfl⟩
        have m3:=Lib.hid (show X3.heap[w6.heap.size]? = some (.cells (val6 m mA mn mc mK mk md) 33 (0,0)) by rw [hX3];exact heap_alloc_new w6 _)
        have E3:=Lib.hid (show Below w6.heap.size w6 X3 by rw [hX3];exact (Below.refl _ _).alloc (Nat.le_refl _) _)
        have s3:w6.heap.size < X3.heap.size:=by rw [hX3];simp
        unfold val6 at hX3
        rw [← hX3]
        clear hX3 p0 p1 p2 p3 p4 p5 pf a0 a1 a2 a3 a4 a5 a6 a7 a8 a9 a10 b0 b1 b2 b3 b4 b5 b6 b7 b8 b9 b10 hap
        obtain ⟨x9,hbe⟩:∃ b,b = w6.heap.size:=⟨_,rfl⟩
        rw [← hbe] at m3 s3 ⊢
        have hx9:=Lib.hid hbe
        clear hbe
        have B9:=Lib.hid (B8.out.trans (E3.out.mono B8.out.size))
        have E23:=Lib.hid (E6.out.trans (E3.out.mono E6.out.size))
        have E13:=Lib.hid (E12.out.trans (E23.out.mono E12.out.size))
        have k1:=Lib.hid ((E13.out.block x7 s1).trans m1.out)
        have O4x:=Lib.hid (O4.out.kept (w':=X3) fun k h1 h2=>(E13.out.block k (by have:=E1.out.size;omega)).trans (E1.out.block k h2))
        obtain ⟨r1,r2,r3⟩:=hbx.out X3 B9.out
        unfold val6 at r1
        obtain ⟨p0,p1,p2,p3,p4,p5,pf⟩:=six_cells r1
        obtain ⟨a0,a1,a2,a3,a4,a5,a6,a7,a8,a9,a10⟩:=op_cells r2
        obtain ⟨b0,b1,b2,b3,b4,b5,b6,b7,b8,b9,b10⟩:=op_cells r3
        clear r1 r2 r3
        have k1u:=k1.out
        unfold opCells at k1u
        obtain ⟨c0,c1,c2,c3,c4,c5,c6,c7,c8,c9,c10,cf⟩:=eleven_cells k1u
        clear k1u
        have hac3:=Lib.hid (hac.out X3 B9.out ⟨pA,pn,pc,tA,tn,tc,qA,qn,qc⟩ (O4x.out.op hok.out))
        clear hac
        go_upto_region 7 with (go_at_call 22;go_loud (refine hac3.out.mono ?_;rintro e w7 ⟨nA,nn,nc,nK,nk,nd,rfl,hn7,hb7⟩;have N7:=Lib.hid hn7;have E7:=Lib.hid hb7;have B10:=Lib.hid (B9.out.trans (hb7.mono B9.out.size));clear hn7 hb7 p0 p1 p2 p3 p4 p5 pf a0 a1 a2 a3 a4 a5 a6 a7 a8 a9 a10 b0 b1 b2 b3 b4 b5 b6 b7 b8 b9 b10 c0 c1 c2 c3 c4 c5 c6 c7 c8 c9 c10 cf))
        obtain ⟨X4,hX4⟩:∃ X,X = w7.alloc (.cells (val6 m nA nn nc nK nk nd) 33):=⟨_,rfl⟩
        have m4:=Lib.hid (show X4.heap[w7.heap.size]? = some (.cells (val6 m nA nn nc nK nk nd) 33 (0,0)) by rw [hX4];exact heap_alloc_new w7 _)
        have E4:=Lib.hid (show Below w7.heap.size w7 X4 by rw [hX4];exact (Below.refl _ _).alloc (Nat.le_refl _) _)
        have s4:w7.heap.size < X4.heap.size:=by rw [hX4];simp
        unfold val6 at hX4
        rw [← hX4]
        clear hX4 hac3
        obtain ⟨x11,hbe⟩:∃ b,b = w7.heap.size:=⟨_,rfl⟩
        rw [← hbe] at m4 s4 ⊢
        have hx11:=Lib.hid hbe
        clear hbe
        have B11:=Lib.hid (B10.out.trans (E4.out.mono B10.out.size))
        have E34:=Lib.hid (E7.out.trans (E4.out.mono E7.out.size))
        have E24:=Lib.hid (E23.out.trans (E34.out.mono E23.out.size))
        have E14:=Lib.hid (E12.out.trans (E24.out.mono E12.out.size))
        have q7:=Lib.hid ((E14.out.block x7 s1).trans m1.out)
        have q8:=Lib.hid ((E24.out.block x8 s2).trans m2.out)
        have q9:=Lib.hid ((E34.out.block x9 s3).trans m3.out)
        have O4y:=Lib.hid (O4.out.kept (w':=X4) fun k h1 h2=>(E14.out.block k (by have:=E1.out.size;omega)).trans (E1.out.block k h2))
        have O5y:=Lib.hid (O5.out.kept (w':=X4) fun k h1 h2=>(E24.out.block k (by have:=E2.out.size;omega)).trans (E2.out.block k h2))
        have sz:=Lib.hid (show w4.heap.size≤x7∧x7 < x8∧x8 < x9∧x9 < x11∧X2.heap.size≤x9∧X3.heap.size≤x11∧w3.heap.size≤w4.heap.size from ⟨by rw [hx7.out];exact Nat.le_refl _,by have:=E5.out.size;have:=hx8.out;omega,by have:=E6.out.size;have:=hx9.out;omega,by have:=E7.out.size;have:=hx11.out;omega,by have:=E6.out.size;have:=hx9.out;omega,by have:=E7.out.size;have:=hx11.out;omega,B34.out.size⟩)
        have NX:=Lib.hid (show NodeV (fun k=>Old w k∨(x8 < k∧k < X4.heap.size)) X4 mA mn mc mK mk md m from N6.out.kept (fun k hk=>by
          rcases hk with hk | hk
          · exact .inl hk
          · have:=E3.out.size;have:=E34.out.size
            exact .inr ⟨by omega,by omega⟩) (fun k hk=>by
          rcases hk with hk | hk
          · exact ((E34.out.block k (hTl.out X3 B9.out k hk)).trans (E3.out.block k (hTl.out w6 B8.out k hk)))
          · have:=E3.out.size
            exact ((E34.out.block k (by omega)).trans (E3.out.block k hk.2))))
        have NY:=Lib.hid (show NodeV (fun k=>Old w k∨(x8 < k∧k < X4.heap.size)) X4 nA nn nc nK nk nd m from N7.out.kept (fun k hk=>by
          rcases hk with hk | hk
          · exact .inl hk
          · have:=E4.out.size;have:=sz.out
            exact .inr ⟨by omega,by omega⟩) (fun k hk=>by
          rcases hk with hk | hk
          · exact E4.out.block k (hTl.out w7 B10.out k hk)
          · exact E4.out.block k hk.2))
        have P4own:=Lib.hid O4.out.path
        have Q4own:=Lib.hid O4.out.pieces
        clear N6 N7 m1 m2 m3 k1 O4 O5 O4x hbr hrb
        have i4:=Lib.hid (O4y.out.op hok.out)
        have i5:=Lib.hid (O5y.out.op hok.out)
        have u7:=q7.out
        have u8:=q8.out
        unfold opCells at u7 u8
        obtain ⟨c0,c1,c2,c3,c4,c5,c6,c7,c8,c9,c10,cf⟩:=eleven_cells u7
        obtain ⟨d0,d1,d2,d3,d4,d5,d6,d7,d8,d9,d10,df⟩:=eleven_cells u8
        clear u7 u8
        have y1:=Lib.hid (show P4.eqV C.path C.path = true from decide_eq_true rfl)
        have y2:=Lib.hid (show P4.eqV C.to_ C.to_ = true from decide_eq_true rfl)
        have y3:=Lib.hid (show P5.sameP C.pieces C.pieces = true from P5.sameP_iff.2 rfl)
        have hpA:=Lib.hid (show ∀ g,pA = some ⟨g,0,none⟩→w3.heap.size≤g∧g < x7 from fun g hg=>by
          have h5:=World.ownsRow.lt P4own.out g (by rw [hg];rfl)
          have:=sz.out
          exact ⟨h5.1,by omega⟩)
        have hqA:=Lib.hid (show ∀ g,qA = some ⟨g,0,none⟩→w3.heap.size≤g∧g < x7 from fun g hg=>by
          have h5:=World.ownsRow.lt Q4own.out g (by rw [hg];rfl)
          have:=sz.out
          exact ⟨h5.1,by omega⟩)
        have hpn:=Lib.hid (show C.path.length = pn from i4.out.path.1)
        have hpb:pn≤500000:=i4.out.pfew
        have hqb:qn≤500000:=i4.out.qfew
        have hqn:=Lib.hid (show C.pieces.length = qn from i4.out.pieces.1)
        go_wp2_with (first
          | (go_at_call_of 30 pA;go_loud (refine (P4.refSame_any X4 pA fA pn pc fn fc C.path C.path i4.out.path i5.out.path (Nat.le_trans i4.out.pnc i4.out.pcm) (Nat.le_trans i5.out.pnc i5.out.pcm)).mono ?_;rw [y1.out];rintro e w8 ⟨rfl,k8,rfl⟩))
          | (go_at_call_of 30 tA;go_loud (refine (P4.refSame_any _ tA gA tn tc gn gc C.to_ C.to_ (P4.Its.drewN i4.out.to_ _) (P4.Its.drewN i5.out.to_ _) (Nat.le_trans i4.out.tnc i4.out.tcm) (Nat.le_trans i5.out.tnc i5.out.tcm)).mono ?_;rw [y2.out];rintro e w9 ⟨rfl,k9,rfl⟩))
          | (go_at_call 31;go_loud (refine (P5.same_any _ qA iA qn qc inn ic C.pieces C.pieces (i4.out.pieces.below (draws (Below.refl _ _) _)) (i5.out.pieces.below (draws (Below.refl _ _) _)) (Nat.le_trans i4.out.qnc i4.out.qcm) (Nat.le_trans i5.out.qnc i5.out.qcm)).mono ?_;rw [y3.out];rintro e w10 ⟨rfl,hb10⟩;have E10:=Lib.hid (show Below X4.heap.size X4 w10 from (draws (Below.refl X4.heap.size X4) _).trans hb10);clear hb10 c0 c1 c2 c3 c4 c5 c6 c7 c8 c9 c10 cf d0 d1 d2 d3 d4 d5 d6 d7 d8 d9 d10 df)))
        have B12:=Lib.hid (B11.out.trans (E10.out.mono B11.out.size))
        have O4z:=Lib.hid (O4y.out.kept (w':=w10) fun k h1 h2=>E10.out.block k h2)
        have q7':=Lib.hid ((E10.out.block x7 (by have:=sz.out;omega)).trans q7.out)
        clear O4y O5y i4 i5 y1 y2 y3 P4own Q4own
        go_loopw [13] (fun v13 wr=>∃ (q:Nat) (vs:List Value),q≤pn∧v13 = .int .i64 (q:Int)∧wr.ownsRow w3.heap.size 3 1 (.slice pA pn pc) pn vs∧FrL (fun k=>pA = some ⟨k,0,none⟩) w3.heap.size w10 wr) (fun v13 _=>pn - (intOf v13).toNat)
        case atStart=>exact ⟨0,C.path.map P4.intV,Nat.zero_le _,rfl,by have h5:=O4z.out.path;unfold P4.OwnI at h5;rw [hpn.out] at h5;exact h5,FrL.refl _ _ _⟩
        case round =>
          obtain ⟨q,vs,hq,rfl,hrow,hfr⟩:=hrel
          have HF:=Lib.hid hfr
          have HR:=Lib.hid hrow
          have u7:=(hfr.far x7 (fun e=>by have:=(hpA.out x7 e).2;omega)).trans q7'.out
          unfold opCells at u7
          obtain ⟨c0,c1,c2,c3,c4,c5,c6,c7,c8,c9,c10,cf⟩:=eleven_cells u7
          clear u7 hfr
          by_cases h1:q < pn
          · have h1I:(q:Int) < (pn:Int):=by omega
            rcases hrow.2 with ⟨e,-⟩ | ⟨g,cap,cur,e,hgb,hgh,-⟩
            · exfalso
              injection e with e1 e2 e3
              omega
            · injection e with e1 e2 e3
              subst e1
              obtain ⟨v,hv⟩:∃ v,vs[q]? = some v:=⟨_,List.getElem?_eq_getElem (by rw [hrow.1];omega)⟩
              have hc:=(hrow.cellAt q (by omega)).trans hv
              have hfz:=hrow.frozenAt q
              have hgl:g < wr.heap.size:=(Array.getElem?_eq_some_iff.1 hgh).1
              have hadd:(⟨g,0,none⟩:Addr).add q = ⟨g,q,none⟩:=by unfold Addr.add;split <;> simp_all
              have hst:=Lib.hid (hrow.stored q (.int .i64 (-9))).1
              have hfs:=Lib.hid (HF.out.set (i:=q) (v:=.int .i64 (-9)) hgb rfl)
              clear hrow hgh e2 e3 hv
              go_wp2_with fail
              go_roundw
              case rel=>exact ⟨q + 1,_,by omega,by go_num,hst.out,hfs.out⟩
              case measure=>simp [intOf];omega
          · have h1I:¬ (q:Int) < (pn:Int):=by omega
            clear hrow
            go_wp2_with fail
            obtain ⟨Y1,hY1⟩:∃ Y1,Y1 = wr:=⟨_,rfl⟩
            subst hY1
            clear c0 c1 c2 c3 c4 c5 c6 c7 c8 c9 c10 cf HR
            go_loopw [14] (fun v14 wr=>∃ (q:Nat) (vs:List Value),q≤qn∧v14 = .int .i64 (q:Int)∧wr.ownsRow w3.heap.size 53 3 (.slice qA qn qc) qn vs∧FrL (fun k=>pA = some ⟨k,0,none⟩∨qA = some ⟨k,0,none⟩) w3.heap.size w10 wr) (fun v14 _=>qn - (intOf v14).toNat)
            case atStart=>exact ⟨0,C.pieces.flatMap ipCells,Nat.zero_le _,rfl,by
              have h5:=own_kept2 (w':=Y1) O4z.out.pieces fun k h1=>HF.out.far k (fun e=>rows_apart O4z.out.path O4z.out.pieces (by decide) k (by rw [e];rfl) h1)
              rw [hqn.out] at h5
              exact h5,HF.out.mono fun k e=>.inl e⟩
            case round =>
              obtain ⟨q,vs,hq,rfl,hrow,hfr⟩:=hrel
              have HG:=Lib.hid hfr
              have u7:=(hfr.far x7 (fun e=>by (rcases e with e | e);(have:=(hpA.out x7 e).2;omega);(have:=(hqA.out x7 e).2;omega))).trans q7'.out
              unfold opCells at u7
              obtain ⟨c0,c1,c2,c3,c4,c5,c6,c7,c8,c9,c10,cf⟩:=eleven_cells u7
              clear u7 hfr
              by_cases h2:q < qn
              · have h2I:(q:Int) < (qn:Int):=by omega
                rcases hrow.2 with ⟨e,-⟩ | ⟨g,cap,cur,e,hgb,hgh,-⟩
                · exfalso
                  injection e with e1 e2 e3
                  omega
                · injection e with e1 e2 e3
                  subst e1
                  obtain ⟨v,hv⟩:∃ v,vs[q * 3]? = some v:=⟨_,List.getElem?_eq_getElem (by rw [hrow.1];omega)⟩
                  have hc:=(hrow.cellAt (q * 3) (by omega)).trans hv
                  have hfz:=hrow.frozenAt (q * 3)
                  have hgl:g < wr.heap.size:=(Array.getElem?_eq_some_iff.1 hgh).1
                  have hadd:(⟨g,0,none⟩:Addr).add (q * 3) = ⟨g,q * 3,none⟩:=by unfold Addr.add;split <;> simp_all
                  have hst:=Lib.hid (hrow.stored (q * 3) (.int .i64 (-9))).1
                  have hfs:=Lib.hid (HG.out.set (i:=q * 3) (v:=.int .i64 (-9)) hgb (.inr rfl))
                  clear hrow hgh e2 e3 hv
                  go_wp2_with fail
                  go_roundw
                  case rel=>exact ⟨q + 1,_,by omega,by go_num,hst.out,hfs.out⟩
                  case measure=>simp [intOf];omega
              · have h2I:¬ (q:Int) < (qn:Int):=by omega
                clear hrow
                go_upto_region 17 with fail
                clear c0 c1 c2 c3 c4 c5 c6 c7 c8 c9 c10 cf
                have nS:∀ k,(k < w3.heap.size∨x7≤k)→¬ (pA = some ⟨k,0,none⟩∨qA = some ⟨k,0,none⟩):=fun k hk e=>by
                  rcases e with e | e
                  · have:=hpA.out k e;omega
                  · have:=hqA.out k e;omega
                have hX:=Lib.hid (show Below W3.heap.size W3 wr from B12.out.trans (HG.out.below.mono B3.out.size))
                have hBX:=Lib.hid (fun (W:World) (hb:Below wr.heap.size wr W)=>show Below W3.heap.size W3 W from hX.out.trans (hb.mono hX.out.size))
                have v9:=(HG.out.far x9 (nS x9 (by have:=sz.out;omega))).trans ((E10.out.block x9 (by have:=sz.out;omega)).trans q9.out)
                have v11:=(HG.out.far x11 (nS x11 (by have:=sz.out;omega))).trans ((E10.out.block x11 s4).trans m4.out)
                have l9:=(Array.getElem?_eq_some_iff.1 v9).1
                have l11:=(Array.getElem?_eq_some_iff.1 v11).1
                have hQ:=Lib.hid (fun (W:World) (hb:Below wr.heap.size wr W)=>show W.heap[x9]? = some (.cells (val6 m mA mn mc mK mk md) 33 (0,0))∧W.heap[x11]? = some (.cells (val6 m nA nn nc nK nk nd) 33 (0,0)) from ⟨(hb.block x9 l9).trans v9,(hb.block x11 l11).trans v11⟩)
                have hkp:∀ (W:World),Below wr.heap.size wr W→∀ k,(Old w k∨(x8 < k∧k < X4.heap.size))→k < W.heap.size∧W.heap[k]? = X4.heap[k]?:=fun W hb k hk=>by
                  have hkl:k < X4.heap.size:=by
                    rcases hk with hk | hk
                    · exact hTl.out X4 B11.out k hk
                    · exact hk.2
                  have hkw:k < wr.heap.size:=by rw [HG.out.size];exact Nat.lt_of_lt_of_le hkl E10.out.size
                  refine ⟨Nat.lt_of_lt_of_le hkw hb.size,(hb.block k hkw).trans ((HG.out.far k (nS k ?_)).trans (E10.out.block k hkl))⟩
                  have h1:=sz.out
                  rcases hk with hk | hk
                  · have:=hTl.out w3 B3.out k hk
                    omega
                  · omega
                have hsm:=Lib.hid (fun (W:World) (hb:Below wr.heap.size wr W)=>by
                  have h5:=same_all W m m mA mK nA nK mn mc mk md nn nc nk nd (NX.out.kept (T':=Old W) (fun k hk=>(hkp W hb k hk).1) (fun k hk=>(hkp W hb k hk).2)) (NY.out.kept (T':=Old W) (fun k hk=>(hkp W hb k hk).1) (fun k hk=>(hkp W hb k hk).2)) hcm.out
                  rw [eqV_refl sameA sameA_refl] at h5
                  unfold val6 at h5
                  exact h5)
                clear v9 v11 l9 l11 hkp
                rename_i K0 hK0
                refine Top.wp_region_L (fun W=>Below wr.heap.size wr W) 26 rfl ((Below.refl wr.heap.size wr).drew) (fun hHeld=>?_)
                refine Top.wpAnyL_take (i:=0) (oi:={ dst:=some 146,op:=Go.Op.load 26 (Go.Operand.tmp 4),type:=26,pos:="law.go:76",after:=#[],guard:=none }) (v:=?_) rfl (by kernel_rfl) (by kernel_rfl) (by kernel_rfl) (by kernel_rfl) (fun _ _ _ h=>h) (Or.inl ⟨by rfl,?_⟩) hHeld ?_
                rotate_left 1
                · intro W hSw;obtain ⟨-,r2,r3⟩:=hbx.out W (hBX.out W hSw);obtain ⟨a0,a1,a2,a3,a4,a5,a6,a7,a8,a9,a10⟩:=op_cells r2;obtain ⟨b0,b1,b2,b3,b4,b5,b6,b7,b8,b9,b10⟩:=op_cells r3;obtain ⟨r4,r5⟩:=hQ.out W hSw;unfold val6 at r4 r5;obtain ⟨e0,e1,e2,e3,e4,e5,ef⟩:=six_cells r4;obtain ⟨f0,f1,f2,f3,f4,f5,ff⟩:=six_cells r5;go_simp;try with_reducible rfl
                try simp only [Act.put,List.setIfInBounds_toArray,List.set_cons_zero,List.set_cons_succ]
                refine Top.wpAnyL_take (i:=1) (oi:={ dst:=some 147,op:=Go.Op.load 26 (Go.Operand.tmp 5),type:=26,pos:="law.go:76",after:=#[],guard:=none }) (v:=?_) rfl (by kernel_rfl) (by kernel_rfl) (by kernel_rfl) (by kernel_rfl) (fun _ _ _ h=>h) (Or.inl ⟨by rfl,?_⟩) hHeld ?_
                rotate_left 1
                · intro W hSw;obtain ⟨-,r2,r3⟩:=hbx.out W (hBX.out W hSw);obtain ⟨a0,a1,a2,a3,a4,a5,a6,a7,a8,a9,a10⟩:=op_cells r2;obtain ⟨b0,b1,b2,b3,b4,b5,b6,b7,b8,b9,b10⟩:=op_cells r3;obtain ⟨r4,r5⟩:=hQ.out W hSw;unfold val6 at r4 r5;obtain ⟨e0,e1,e2,e3,e4,e5,ef⟩:=six_cells r4;obtain ⟨f0,f1,f2,f3,f4,f5,ff⟩:=six_cells r5;go_simp;try with_reducible rfl
                try simp only [Act.put,List.setIfInBounds_toArray,List.set_cons_zero,List.set_cons_succ]
                refine Top.wpAnyL_take (i:=3) (oi:={ dst:=some 149,op:=Go.Op.load 26 (Go.Operand.tmp 4),type:=26,pos:="law.go:76",after:=#[],guard:=none }) (v:=?_) rfl (by kernel_rfl) (by kernel_rfl) (by kernel_rfl) (by kernel_rfl) (fun _ _ _ h=>h) (Or.inl ⟨by rfl,?_⟩) hHeld ?_
                rotate_left 1
                · intro W hSw;obtain ⟨-,r2,r3⟩:=hbx.out W (hBX.out W hSw);obtain ⟨a0,a1,a2,a3,a4,a5,a6,a7,a8,a9,a10⟩:=op_cells r2;obtain ⟨b0,b1,b2,b3,b4,b5,b6,b7,b8,b9,b10⟩:=op_cells r3;obtain ⟨r4,r5⟩:=hQ.out W hSw;unfold val6 at r4 r5;obtain ⟨e0,e1,e2,e3,e4,e5,ef⟩:=six_cells r4;obtain ⟨f0,f1,f2,f3,f4,f5,ff⟩:=six_cells r5;go_simp;try with_reducible rfl
                try simp only [Act.put,List.setIfInBounds_toArray,List.set_cons_zero,List.set_cons_succ]
                refine Top.wpAnyL_take (i:=4) (oi:={ dst:=some 150,op:=Go.Op.load 26 (Go.Operand.tmp 5),type:=26,pos:="law.go:76",after:=#[],guard:=none }) (v:=?_) rfl (by kernel_rfl) (by kernel_rfl) (by kernel_rfl) (by kernel_rfl) (fun _ _ _ h=>h) (Or.inl ⟨by rfl,?_⟩) hHeld ?_
                rotate_left 1
                · intro W hSw;obtain ⟨-,r2,r3⟩:=hbx.out W (hBX.out W hSw);obtain ⟨a0,a1,a2,a3,a4,a5,a6,a7,a8,a9,a10⟩:=op_cells r2;obtain ⟨b0,b1,b2,b3,b4,b5,b6,b7,b8,b9,b10⟩:=op_cells r3;obtain ⟨r4,r5⟩:=hQ.out W hSw;unfold val6 at r4 r5;obtain ⟨e0,e1,e2,e3,e4,e5,ef⟩:=six_cells r4;obtain ⟨f0,f1,f2,f3,f4,f5,ff⟩:=six_cells r5;go_simp;try with_reducible rfl
                try simp only [Act.put,List.setIfInBounds_toArray,List.set_cons_zero,List.set_cons_succ]
                refine Top.wpAnyL_one (i:=2) (o:={ dst:=some 148,op:=Go.Op.call { callee:=Go.Callee.value (Go.Operand.func 32),args:=#[Go.Operand.tmp 146,Go.Operand.tmp 147],argTypes:=#[26,26] },type:=4,pos:="law.go:76",after:=#[{ on:=0,ground:=Go.Ground.data },{ on:=1,ground:=Go.Ground.data }],guard:=none }) (by kernel_rfl) rfl (by decide) (fun K hK=>?_)
                go_simp
                refine (hps.out _ (hBX.out _ hHeld)).mono ?_
                rintro e w12 ⟨rfl,hbn⟩
                have F2:=Lib.hid (show Below wr.heap.size wr w12 from hHeld.trans (hbn.mono hHeld.size))
                clear hbn
                go_simp
                refine hK.out _ _ ?_ (fun hNew=>?_)
                · exact F2.out
                clear hK K hHeld
                have hHeld:=hNew
                clear hNew
                try simp only [Act.put,List.setIfInBounds_toArray,List.set_cons_zero,List.set_cons_succ]
                refine Top.wpAnyL_one (i:=5) (o:={ dst:=some 151,op:=Go.Op.call { callee:=Go.Callee.value (Go.Operand.func 33),args:=#[Go.Operand.tmp 149,Go.Operand.tmp 150],argTypes:=#[26,26] },type:=4,pos:="law.go:76",after:=#[{ on:=3,ground:=Go.Ground.data },{ on:=4,ground:=Go.Ground.data },{ on:=2,ground:=Go.Ground.chain }],guard:=none }) (by kernel_rfl) rfl (by decide) (fun K hK=>?_)
                go_simp
                refine (hrs.out _ (hBX.out _ hHeld)).mono ?_
                rintro e w13 ⟨rfl,hbn⟩
                have F3:=Lib.hid (show Below wr.heap.size wr w13 from hHeld.trans (hbn.mono hHeld.size))
                clear hbn
                go_simp
                refine hK.out _ _ ?_ (fun hNew=>?_)
                · exact F3.out
                clear hK K hHeld
                have hHeld:=hNew
                clear hNew
                try simp only [Act.put,List.setIfInBounds_toArray,List.set_cons_zero,List.set_cons_succ]
                refine Top.wpAnyL_take (i:=6) (oi:={ dst:=some 152,op:=Go.Op.binOp Go.BinOp.eql 4 (Go.Operand.tmp 148) (Go.Operand.tmp 151) 4,type:=4,pos:="law.go:76",after:=#[{ on:=2,ground:=Go.Ground.data },{ on:=5,ground:=Go.Ground.data }],guard:=none }) (v:=?_) rfl (by kernel_rfl) (by kernel_rfl) (by kernel_rfl) (by kernel_rfl) (fun _ _ _ h=>h) (Or.inl ⟨by rfl,?_⟩) hHeld ?_
                rotate_left 1
                · intro W hSw;skip;go_simp;try with_reducible rfl
                try simp only [Act.put,List.setIfInBounds_toArray,List.set_cons_zero,List.set_cons_succ]
                refine Top.wpAnyL_take (i:=7) (oi:={ dst:=some 153,op:=Go.Op.move (Go.Operand.tmp 152),type:=4,pos:="law.go:76",after:=#[{ on:=6,ground:=Go.Ground.data },{ on:=5,ground:=Go.Ground.chain }],guard:=none }) (v:=?_) rfl (by kernel_rfl) (by kernel_rfl) (by kernel_rfl) (by kernel_rfl) (fun _ _ _ h=>h) (Or.inl ⟨by rfl,?_⟩) hHeld ?_
                rotate_left 1
                · intro W hSw;skip;go_simp;try with_reducible rfl
                try simp only [Act.put,List.setIfInBounds_toArray,List.set_cons_zero,List.set_cons_succ]
                refine Top.wpAnyL_take (i:=8) (oi:={ dst:=some 154,op:=Go.Op.load 26 (Go.Operand.tmp 4),type:=26,pos:="law.go:76",after:=#[{ on:=7,ground:=Go.Ground.guard }],guard:=some (7,true) }) (v:=?_) rfl (by kernel_rfl) (by kernel_rfl) (by kernel_rfl) (by kernel_rfl) (fun _ _ _ h=>h) (Or.inl ⟨by rfl,?_⟩) hHeld ?_
                rotate_left 1
                · intro W hSw;obtain ⟨-,r2,r3⟩:=hbx.out W (hBX.out W hSw);obtain ⟨a0,a1,a2,a3,a4,a5,a6,a7,a8,a9,a10⟩:=op_cells r2;obtain ⟨b0,b1,b2,b3,b4,b5,b6,b7,b8,b9,b10⟩:=op_cells r3;obtain ⟨r4,r5⟩:=hQ.out W hSw;unfold val6 at r4 r5;obtain ⟨e0,e1,e2,e3,e4,e5,ef⟩:=six_cells r4;obtain ⟨f0,f1,f2,f3,f4,f5,ff⟩:=six_cells r5;go_simp;try with_reducible rfl
                try simp only [Act.put,List.setIfInBounds_toArray,List.set_cons_zero,List.set_cons_succ]
                refine Top.wpAnyL_take (i:=9) (oi:={ dst:=some 155,op:=Go.Op.load 26 (Go.Operand.tmp 4),type:=26,pos:="law.go:76",after:=#[{ on:=7,ground:=Go.Ground.guard }],guard:=some (7,true) }) (v:=?_) rfl (by kernel_rfl) (by kernel_rfl) (by kernel_rfl) (by kernel_rfl) (fun _ _ _ h=>h) (Or.inl ⟨by rfl,?_⟩) hHeld ?_
                rotate_left 1
                · intro W hSw;obtain ⟨-,r2,r3⟩:=hbx.out W (hBX.out W hSw);obtain ⟨a0,a1,a2,a3,a4,a5,a6,a7,a8,a9,a10⟩:=op_cells r2;obtain ⟨b0,b1,b2,b3,b4,b5,b6,b7,b8,b9,b10⟩:=op_cells r3;obtain ⟨r4,r5⟩:=hQ.out W hSw;unfold val6 at r4 r5;obtain ⟨e0,e1,e2,e3,e4,e5,ef⟩:=six_cells r4;obtain ⟨f0,f1,f2,f3,f4,f5,ff⟩:=six_cells r5;go_simp;try with_reducible rfl
                try simp only [Act.put,List.setIfInBounds_toArray,List.set_cons_zero,List.set_cons_succ]
                refine Top.wpAnyL_one (i:=10) (o:={ dst:=some 156,op:=Go.Op.call { callee:=Go.Callee.value (Go.Operand.func 28),args:=#[Go.Operand.tmp 155],argTypes:=#[26] },type:=26,pos:="law.go:76",after:=#[{ on:=9,ground:=Go.Ground.data },{ on:=7,ground:=Go.Ground.chain },{ on:=7,ground:=Go.Ground.guard }],guard:=some (7,true) }) (by kernel_rfl) rfl (by decide) (fun K hK=>?_)
                go_simp
                refine (hba2.out _ (hBX.out _ hHeld)).mono ?_
                rintro e w14 ⟨⟨jA,jn,jc,lA,ln,lc,oA,on,oc⟩,rfl,ho14,hbn⟩
                dsimp only
                have F4:=Lib.hid (show Below wr.heap.size wr w14 from hHeld.trans (hbn.mono hHeld.size))
                have O14:=Lib.hid ho14
                clear hbn ho14
                go_simp
                refine hK.out _ _ ?_ (fun hNew=>?_)
                · exact F4.out
                clear hK K hHeld
                have hHeld:=hNew
                clear hNew
                try simp only [Act.put,List.setIfInBounds_toArray,List.set_cons_zero,List.set_cons_succ]
                refine Top.wpAnyL_one (i:=11) (o:={ dst:=some 157,op:=Go.Op.call { callee:=Go.Callee.value (Go.Operand.func 32),args:=#[Go.Operand.tmp 154,Go.Operand.tmp 156],argTypes:=#[26,26] },type:=4,pos:="law.go:76",after:=#[{ on:=8,ground:=Go.Ground.data },{ on:=10,ground:=Go.Ground.data },{ on:=10,ground:=Go.Ground.chain },{ on:=7,ground:=Go.Ground.guard }],guard:=some (7,true) }) (by kernel_rfl) rfl (by decide) (fun K hK=>?_)
                go_simp
                refine (hpc.out _ (hBX.out _ hHeld) ⟨jA,jn,jc,lA,ln,lc,oA,on,oc⟩ (O14.out.op hok.out)).mono ?_
                rintro e w15 ⟨rfl,hbn⟩
                have F5:=Lib.hid (show Below wr.heap.size wr w15 from hHeld.trans (hbn.mono hHeld.size))
                clear hbn
                go_simp
                refine hK.out _ _ ?_ (fun hNew=>?_)
                · exact F5.out
                clear hK K hHeld
                have hHeld:=hNew
                clear hNew
                try simp only [Act.put,List.setIfInBounds_toArray,List.set_cons_zero,List.set_cons_succ]
                refine Top.wpAnyL_take (i:=12) (oi:={ dst:=some 158,op:=Go.Op.pick (Go.Operand.tmp 153) (Go.Operand.tmp 157) (Go.Operand.const (Go.Value.bool false)),type:=4,pos:="law.go:76",after:=#[{ on:=7,ground:=Go.Ground.data },{ on:=11,ground:=Go.Ground.data }],guard:=none }) (v:=?_) rfl (by kernel_rfl) (by kernel_rfl) (by kernel_rfl) (by kernel_rfl) (fun _ _ _ h=>h) (Or.inl ⟨by rfl,?_⟩) hHeld ?_
                rotate_left 1
                · intro W hSw;skip;go_simp;try with_reducible rfl
                try simp only [Act.put,List.setIfInBounds_toArray,List.set_cons_zero,List.set_cons_succ]
                refine Top.wpAnyL_take (i:=13) (oi:={ dst:=some 159,op:=Go.Op.move (Go.Operand.tmp 158),type:=4,pos:="law.go:76",after:=#[{ on:=12,ground:=Go.Ground.data },{ on:=11,ground:=Go.Ground.chain }],guard:=none }) (v:=?_) rfl (by kernel_rfl) (by kernel_rfl) (by kernel_rfl) (by kernel_rfl) (fun _ _ _ h=>h) (Or.inl ⟨by rfl,?_⟩) hHeld ?_
                rotate_left 1
                · intro W hSw;skip;go_simp;try with_reducible rfl
                try simp only [Act.put,List.setIfInBounds_toArray,List.set_cons_zero,List.set_cons_succ]
                refine Top.wpAnyL_take (i:=14) (oi:={ dst:=some 160,op:=Go.Op.move (Go.Operand.tmp 10),type:=35,pos:="law.go:76",after:=#[{ on:=13,ground:=Go.Ground.guard }],guard:=some (13,true) }) (v:=?_) rfl (by kernel_rfl) (by kernel_rfl) (by kernel_rfl) (by kernel_rfl) (fun _ _ _ h=>h) (Or.inl ⟨by rfl,?_⟩) hHeld ?_
                rotate_left 1
                · intro W hSw;skip;go_simp;try with_reducible rfl
                try simp only [Act.put,List.setIfInBounds_toArray,List.set_cons_zero,List.set_cons_succ]
                refine Top.wpAnyL_take (i:=15) (oi:={ dst:=some 161,op:=Go.Op.move (Go.Operand.tmp 12),type:=35,pos:="law.go:76",after:=#[{ on:=13,ground:=Go.Ground.guard }],guard:=some (13,true) }) (v:=?_) rfl (by kernel_rfl) (by kernel_rfl) (by kernel_rfl) (by kernel_rfl) (fun _ _ _ h=>h) (Or.inl ⟨by rfl,?_⟩) hHeld ?_
                rotate_left 1
                · intro W hSw;skip;go_simp;try with_reducible rfl
                try simp only [Act.put,List.setIfInBounds_toArray,List.set_cons_zero,List.set_cons_succ]
                refine Top.wpAnyL_take (i:=16) (oi:={ dst:=some 162,op:=Go.Op.binOp Go.BinOp.eql 35 (Go.Operand.tmp 160) (Go.Operand.tmp 161) 35,type:=4,pos:="law.go:76",after:=#[{ on:=14,ground:=Go.Ground.data },{ on:=15,ground:=Go.Ground.data },{ on:=13,ground:=Go.Ground.guard }],guard:=some (13,true) }) (v:=?_) rfl (by kernel_rfl) (by kernel_rfl) (by kernel_rfl) (by kernel_rfl) (fun _ _ _ h=>h) (Or.inl ⟨by rfl,?_⟩) hHeld ?_
                rotate_left 1
                · intro W hSw;skip;go_simp;try with_reducible rfl
                try simp only [Act.put,List.setIfInBounds_toArray,List.set_cons_zero,List.set_cons_succ]
                refine Top.wpAnyL_take (i:=17) (oi:={ dst:=some 163,op:=Go.Op.pick (Go.Operand.tmp 159) (Go.Operand.tmp 162) (Go.Operand.const (Go.Value.bool false)),type:=4,pos:="law.go:76",after:=#[{ on:=13,ground:=Go.Ground.data },{ on:=16,ground:=Go.Ground.data }],guard:=none }) (v:=?_) rfl (by kernel_rfl) (by kernel_rfl) (by kernel_rfl) (by kernel_rfl) (fun _ _ _ h=>h) (Or.inl ⟨by rfl,?_⟩) hHeld ?_
                rotate_left 1
                · intro W hSw;skip;go_simp;try with_reducible rfl
                try simp only [Act.put,List.setIfInBounds_toArray,List.set_cons_zero,List.set_cons_succ]
                refine Top.wpAnyL_take (i:=18) (oi:={ dst:=some 164,op:=Go.Op.move (Go.Operand.tmp 163),type:=4,pos:="law.go:76",after:=#[{ on:=17,ground:=Go.Ground.data },{ on:=13,ground:=Go.Ground.chain }],guard:=none }) (v:=?_) rfl (by kernel_rfl) (by kernel_rfl) (by kernel_rfl) (by kernel_rfl) (fun _ _ _ h=>h) (Or.inl ⟨by rfl,?_⟩) hHeld ?_
                rotate_left 1
                · intro W hSw;skip;go_simp;try with_reducible rfl
                try simp only [Act.put,List.setIfInBounds_toArray,List.set_cons_zero,List.set_cons_succ]
                refine Top.wpAnyL_take (i:=19) (oi:={ dst:=some 165,op:=Go.Op.load 33 (Go.Operand.tmp 9),type:=33,pos:="law.go:76",after:=#[{ on:=18,ground:=Go.Ground.guard }],guard:=some (18,true) }) (v:=?_) rfl (by kernel_rfl) (by kernel_rfl) (by kernel_rfl) (by kernel_rfl) (fun _ _ _ h=>h) (Or.inl ⟨by rfl,?_⟩) hHeld ?_
                rotate_left 1
                · intro W hSw;obtain ⟨-,r2,r3⟩:=hbx.out W (hBX.out W hSw);obtain ⟨a0,a1,a2,a3,a4,a5,a6,a7,a8,a9,a10⟩:=op_cells r2;obtain ⟨b0,b1,b2,b3,b4,b5,b6,b7,b8,b9,b10⟩:=op_cells r3;obtain ⟨r4,r5⟩:=hQ.out W hSw;unfold val6 at r4 r5;obtain ⟨e0,e1,e2,e3,e4,e5,ef⟩:=six_cells r4;obtain ⟨f0,f1,f2,f3,f4,f5,ff⟩:=six_cells r5;go_simp;try with_reducible rfl
                try simp only [Act.put,List.setIfInBounds_toArray,List.set_cons_zero,List.set_cons_succ]
                refine Top.wpAnyL_take (i:=20) (oi:={ dst:=some 166,op:=Go.Op.load 33 (Go.Operand.tmp 11),type:=33,pos:="law.go:76",after:=#[{ on:=18,ground:=Go.Ground.guard }],guard:=some (18,true) }) (v:=?_) rfl (by kernel_rfl) (by kernel_rfl) (by kernel_rfl) (by kernel_rfl) (fun _ _ _ h=>h) (Or.inl ⟨by rfl,?_⟩) hHeld ?_
                rotate_left 1
                · intro W hSw;obtain ⟨-,r2,r3⟩:=hbx.out W (hBX.out W hSw);obtain ⟨a0,a1,a2,a3,a4,a5,a6,a7,a8,a9,a10⟩:=op_cells r2;obtain ⟨b0,b1,b2,b3,b4,b5,b6,b7,b8,b9,b10⟩:=op_cells r3;obtain ⟨r4,r5⟩:=hQ.out W hSw;unfold val6 at r4 r5;obtain ⟨e0,e1,e2,e3,e4,e5,ef⟩:=six_cells r4;obtain ⟨f0,f1,f2,f3,f4,f5,ff⟩:=six_cells r5;go_simp;try with_reducible rfl
                try simp only [Act.put,List.setIfInBounds_toArray,List.set_cons_zero,List.set_cons_succ]
                refine Top.wpAnyL_one (i:=21) (o:={ dst:=some 167,op:=Go.Op.call { callee:=Go.Callee.value (Go.Operand.func 34),args:=#[Go.Operand.tmp 165,Go.Operand.tmp 166],argTypes:=#[33,33] },type:=4,pos:="law.go:76",after:=#[{ on:=19,ground:=Go.Ground.data },{ on:=20,ground:=Go.Ground.data },{ on:=18,ground:=Go.Ground.chain },{ on:=18,ground:=Go.Ground.guard }],guard:=some (18,true) }) (by kernel_rfl) rfl (by decide) (fun K hK=>?_)
                go_simp
                refine (hsm.out _ hHeld).mono ?_
                rintro e w16 ⟨rfl,hbn⟩
                have F6:=Lib.hid (show Below wr.heap.size wr w16 from hHeld.trans (hbn.mono hHeld.size))
                clear hbn
                go_simp
                refine hK.out _ _ ?_ (fun hNew=>?_)
                · exact F6.out
                clear hK K hHeld
                have hHeld:=hNew
                clear hNew
                try simp only [Act.put,List.setIfInBounds_toArray,List.set_cons_zero,List.set_cons_succ]
                refine Top.wpAnyL_take (i:=22) (oi:={ dst:=some 168,op:=Go.Op.pick (Go.Operand.tmp 164) (Go.Operand.tmp 167) (Go.Operand.const (Go.Value.bool false)),type:=4,pos:="law.go:76",after:=#[{ on:=18,ground:=Go.Ground.data },{ on:=21,ground:=Go.Ground.data }],guard:=none }) (v:=?_) rfl (by kernel_rfl) (by kernel_rfl) (by kernel_rfl) (by kernel_rfl) (fun _ _ _ h=>h) (Or.inl ⟨by rfl,?_⟩) hHeld ?_
                rotate_left 1
                · intro W hSw;skip;go_simp;try with_reducible rfl
                try simp only [Act.put,List.setIfInBounds_toArray,List.set_cons_zero,List.set_cons_succ]
                refine Top.wpAnyL_take (i:=23) (oi:={ dst:=some 169,op:=Go.Op.move (Go.Operand.tmp 168),type:=4,pos:="law.go:76",after:=#[{ on:=22,ground:=Go.Ground.data },{ on:=21,ground:=Go.Ground.chain }],guard:=none }) (v:=?_) rfl (by kernel_rfl) (by kernel_rfl) (by kernel_rfl) (by kernel_rfl) (fun _ _ _ h=>h) (Or.inl ⟨by rfl,?_⟩) hHeld ?_
                rotate_left 1
                · intro W hSw;skip;go_simp;try with_reducible rfl
                try simp only [Act.put,List.setIfInBounds_toArray,List.set_cons_zero,List.set_cons_succ]
                refine Top.wpAnyL_one (i:=24) (o:={ dst:=some 170,op:=Go.Op.call { callee:=Go.Callee.value (Go.Operand.func 16),args:=#[],argTypes:=#[] },type:=4,pos:="law.go:76",after:=#[{ on:=23,ground:=Go.Ground.chain },{ on:=23,ground:=Go.Ground.guard }],guard:=some (23,true) }) (by kernel_rfl) rfl (by decide) (fun K hK=>?_)
                go_simp
                refine (works_any _).mono ?_
                rintro e w17 ⟨rfl,hbn⟩
                have F7:=Lib.hid (show Below wr.heap.size wr w17 from hHeld.trans (hbn.mono hHeld.size))
                clear hbn
                go_simp
                refine hK.out _ _ ?_ (fun hNew=>?_)
                · exact F7.out
                clear hK K hHeld
                have hHeld:=hNew
                clear hNew
                try simp only [Act.put,List.setIfInBounds_toArray,List.set_cons_zero,List.set_cons_succ]
                refine Top.wpAnyL_take (i:=25) (oi:={ dst:=some 171,op:=Go.Op.pick (Go.Operand.tmp 169) (Go.Operand.tmp 170) (Go.Operand.const (Go.Value.bool false)),type:=4,pos:="law.go:76",after:=#[{ on:=23,ground:=Go.Ground.data },{ on:=24,ground:=Go.Ground.data }],guard:=none }) (v:=?_) rfl (by kernel_rfl) (by kernel_rfl) (by kernel_rfl) (by kernel_rfl) (fun _ _ _ h=>h) (Or.inl ⟨by rfl,?_⟩) hHeld ?_
                rotate_left 1
                · intro W hSw;skip;go_simp;try with_reducible rfl
                try simp only [Act.put,List.setIfInBounds_toArray,List.set_cons_zero,List.set_cons_succ]
                refine Top.wpAnyL_last (o:={ dst:=some 6,op:=Go.Op.assign (Go.Operand.tmp 171),type:=4,pos:="law.go:76",after:=#[{ on:=25,ground:=Go.Ground.data },{ on:=24,ground:=Go.Ground.chain },{ on:=0,ground:=Go.Ground.phase },{ on:=1,ground:=Go.Ground.phase },{ on:=2,ground:=Go.Ground.phase },{ on:=3,ground:=Go.Ground.phase },{ on:=4,ground:=Go.Ground.phase },{ on:=5,ground:=Go.Ground.phase },{ on:=6,ground:=Go.Ground.phase },{ on:=7,ground:=Go.Ground.phase },{ on:=8,ground:=Go.Ground.phase },{ on:=9,ground:=Go.Ground.phase },{ on:=10,ground:=Go.Ground.phase },{ on:=11,ground:=Go.Ground.phase },{ on:=12,ground:=Go.Ground.phase },{ on:=13,ground:=Go.Ground.phase },{ on:=14,ground:=Go.Ground.phase },{ on:=15,ground:=Go.Ground.phase },{ on:=16,ground:=Go.Ground.phase },{ on:=17,ground:=Go.Ground.phase },{ on:=18,ground:=Go.Ground.phase },{ on:=19,ground:=Go.Ground.phase },{ on:=20,ground:=Go.Ground.phase },{ on:=21,ground:=Go.Ground.phase },{ on:=22,ground:=Go.Ground.phase },{ on:=23,ground:=Go.Ground.phase },{ on:=24,ground:=Go.Ground.phase },{ on:=25,ground:=Go.Ground.phase }],guard:=none }) (by kernel_rfl) rfl (fun K hK=>?_)
                go_simp
                refine hK _ _ ?_
                clear hK K
                try simp only [Act.put,List.setIfInBounds_toArray,List.set_cons_zero,List.set_cons_succ]
                refine wpAny_done (by kernel_rfl) ?_ _
                refine hK0 _ _ ?_
                clear hK0
                go_wp2_with fail
                go_ret
                exact ⟨rfl,z4'.out.trans ((hBX.out _ F7.out).mono z4'.out.size)⟩
  · have g1I:(300:Int) < (x:Int):=by omega
    clear hia hib hsl hla hlb
    go_wp2_with (go_at_call 16;go_loud (refine (works_any _).mono ?_;rintro e w5 ⟨rfl,hb5⟩;have B5:=Lib.hid (B1.out.trans (hb5.mono B1.out.size));clear hb5))
    go_ret
    exact ⟨rfl,z4'.out.trans (B5.out.mono z4'.out.size)⟩
end Go.Proofs.Ytmipodnffhngaaa.Top

