/- MgAT: SqrI SqrJ SqrL -/
import Derived.Test.YtidimannfemnmaaSqrFko
import Derived.Test.YtidimannfemnmaaSqrFk2
import Derived.Test.YtidimannfemnmaaSqrFk23
import Derived.Test.YtidimannfemnmaaSqrFk33
import Derived.Test.YtidimannfemnmaaSqrFk44
import Derived.Test.YtidimannfemnmaaSqrFk55
import Derived.Test.YtidimannfemnmaaSqrFk66
import Derived.Test.YtidimannfemnmaaSqrE
import Derived.Test.YtidimannfemnmaaMgAL
import Derived.Test.YtidimannfemnmaaMgAN
import Derived.Test.YtidimannfemnmaaLtxVw
import Derived.Test.YtidimannfemnmaaMgAK
import Derived.Maps.AppendAt
import Derived.Deep.RegionHeld3
import Derived.Test.YtidimannfemnmaaTopMb
import Derived.Test.YtidimannfemnmaaMgAR
import Derived.Test.YtidimannfemnmaaLtxB
set_option linter.all false
namespace Go.Proofs.Ytidimannfemnmaa.Sqr
open Go.RowKit Top Shf Sim
set_option maxRecDepth 20000

theorem becomes_any (w:World) (b a:Ov) (sb sa:OS) (prior:Bool) (hb:OpIn w b sb) (ha:OpIn w a sa) (hlb:Tiny b) (hla:Tiny a) (hed:b.kind = 6→a.kind = 6→P5.rightV b.pieces = true∧P5.rightV a.pieces = true∧P5.totP (pcs b.pieces)≤2000∧P5.totP (pcs a.pieces)≤2000) :
    Calls Try.prog 168 #[.agg (opCells b sb),.agg (opCells a sa),.bool prior] w fun e w'=>∃ v,e = .returned (.tuple #[v,.int .i64 0])∧RowA w (becomesV b a prior) v w':=by
  by_cases h2:a.kind = 2
  · exact becomes_k2 w b a sb sa prior hb ha hlb hla h2
  · by_cases h23:b.kind = 2∧a.kind = 3
    · exact becomes_k23 w b a sb sa prior hb ha hlb hla h23.1 h23.2
    · by_cases h33:b.kind = 3∧a.kind = 3
      · exact becomes_k33 w b a sb sa prior hb ha hlb hla h33.1 h33.2
      · by_cases h44:b.kind = 4∧a.kind = 4
        · exact becomes_k44 w b a sb sa prior hb ha hlb hla h44.1 h44.2
        · by_cases h55:b.kind = 5∧a.kind = 5
          · exact becomes_k55 w b a sb sa prior hb ha hlb hla h55.1 h55.2
          · by_cases h66:b.kind = 6∧a.kind = 6
            · obtain ⟨r1,r2,r3,r4⟩:=hed h66.1 h66.2
              exact becomes_k66 w b a sb sa prior hb ha hlb hla h66.1 h66.2 r1 r2 r3 r4
            · exact becomes_ko w b a sb sa prior hb ha hlb hla h2 (Lib.hid ⟨h23,h33,h44,h55,h66⟩)
def BehA (w:World) (r:List Ov × Int) (e:Ending) (w':World):Prop :=
  ∃ v l',e = .returned (.tuple #[v,.int .i64 r.2])∧l'.map Prod.fst = r.1∧OwnO w.heap.size w' v l'∧(∀ x ∈ l',OwnOp w.heap.size w' x.1 x.2∧OvOk x.1)∧Below w.heap.size w w'
theorem BehA.nil_ {w w':World} {k:Int} (hb:Below w.heap.size w w'):BehA w ([],k) (.returned (.tuple #[.slice none 0 0,.int .i64 k])) w' :=
  ⟨_,[],rfl,rfl,OwnO.nil_ _ _,fun x hx=>by simp at hx,hb⟩
theorem sound_right {o:Ov} (h:soundV o = true) (h6:o.kind = 6):P5.rightV o.pieces = true:=formed_right (sound_formed h) h6
theorem op_other {base g:Nat} {w w':World} {o:Ov} {s:OS} {cs:Array Value} (h:OwnOp base w o s) (hg:w.heap[g]? = some (.cells cs 52 (0,0))) (hk:∀ k,k ≠ g→w'.heap[k]? = w.heap[k]?):OwnOp base w' o s :=
  ⟨own_kept2 h.path fun k e=>hk k fun e2=>by subst e2;exact own_ne h.path hg (by decide) e,own_kept2 h.to_ fun k e=>hk k fun e2=>by subst e2;exact own_ne h.to_ hg (by decide) e,own_kept2 h.pieces fun k e=>hk k fun e2=>by subst e2;exact own_ne h.pieces hg (by decide) e⟩
theorem cell_in {w:World} {g q n:Nat} {cs:Array Value} {t:TypeId} (h:w.heap[g]? = some (.cells cs t (0,0))) (hs:n * 11≤cs.size) (hq:q < n) (k:Nat) (hk:k < q * 11 + 11):∃ v,w.cell? ⟨g,k,none⟩ = some v:=by
  rw [cell_of_row w g k _ _ _ h]
  exact ⟨_,Array.getElem?_eq_getElem (by omega)⟩
theorem behind_unsound {b a:Ov} {prior:Bool} (h:soundV b = false∨soundV a = false):behindV b a prior = ([],80):=by
  unfold behindV
  rw [if_neg]
  rintro ⟨h1,h2⟩
  rcases h with h | h
  · rw [h] at h1;cases h1
  · rw [h] at h2;cases h2
theorem behind_unformed {b a y:Ov} {prior:Bool} (h1:soundV b = true) (h2:soundV a = true) (hy:y ∈ becomesV b a prior) (hf:formedV y = false):behindV b a prior = ([],3):=by
  unfold behindV
  rw [if_pos ⟨h1,h2⟩,if_neg]
  intro e
  rw [List.all_eq_true.1 e y hy] at hf
  cases hf
theorem behind_formed {b a:Ov} {prior:Bool} (h1:soundV b = true) (h2:soundV a = true) (hf:∀ y ∈ becomesV b a prior,formedV y = true):behindV b a prior = ((becomesV b a prior).map bareV,0):=by
  unfold behindV
  rw [if_pos ⟨h1,h2⟩,if_pos (List.all_eq_true.2 hf)]

end Go.Proofs.Ytidimannfemnmaa.Sqr
namespace Go.Proofs.Ytidimannfemnmaa.Sqr
open Go.RowKit Top Shf Sim
set_option maxRecDepth 20000

set_option maxHeartbeats 32000000 in
theorem Behind_any (w:World) (b a:Ov) (sb sa:OS) (prior:Bool) (hb:OpIn w b sb) (ha:OpIn w a sa) (hlb:Tiny b) (hla:Tiny a) (htb:P5.totP (pcs b.pieces)≤2000) (hta:P5.totP (pcs a.pieces)≤2000) :
    Calls Try.prog 128 #[.agg (opCells b sb),.agg (opCells a sa),.bool prior] w (BehA w (behindV b a prior)):=by
  obtain ⟨z1,z2,z4,z5⟩:=two_news w (.cells (opCells b sb) 52) (.cells (opCells a sa) 52)
  obtain ⟨W2,hW2⟩:∃ Q9,Q9 = ((w.alloc (.cells (opCells b sb) 52)).alloc (.cells (opCells a sa) 52)):=⟨_,rfl⟩
  rw [← hW2] at z1 z2 z4 z5
  have z4':=Lib.hid z4
  have z5':=Lib.hid z5
  have hrow:=Lib.hid (fun (W:World) (hB:Below W2.heap.size W2 W)=>And.intro ((hB.block w.heap.size (by omega)).trans z1) ((hB.block (w.heap.size + 1) (by omega)).trans z2))
  have hsb:=Lib.hid (fun (W:World) (hB:Below w.heap.size w W)=>sound_any W b sb (hb.below hB))
  have hsa:=Lib.hid (fun (W:World) (hB:Below w.heap.size w W)=>sound_any W a sa (ha.below hB))
  have hbec:=Lib.hid (fun (h1:soundV b = true) (h2:soundV a = true) (W:World) (hB:Below w.heap.size w W)=>becomes_any W b a sb sa prior (hb.below hB) (ha.below hB) hlb hla fun e1 e2=>⟨sound_right h1 e1,sound_right h2 e2,htb,hta⟩)
  obtain ⟨R,hR⟩:∃ Q9,Q9 = behindV b a prior:=⟨_,rfl⟩
  rw [← hR]
  have HR:=Lib.hid hR
  clear hb ha hlb hla htb hta z1 z2 z4 z5 hR
  unfold opCells at hW2 hsb hsa hbec
  unfold opCells
  go_enter Try.func128,Try.ntmps128
  go_upto_region 1 with fail
  rw [← hW2]
  clear hW2
  obtain ⟨r1,r2⟩:=hrow.out W2 (Below.refl _ _)
  obtain ⟨o0,o1,o2,o3,o4,o5,o6,o7,o8,o9,o10⟩:=op_cells r1
  obtain ⟨a0,a1,a2,a3,a4,a5,a6,a7,a8,a9,a10⟩:=op_cells r2
  clear r1 r2
  obtain ⟨s1,hs1⟩:∃ Q9,Q9 = soundV b:=⟨_,rfl⟩
  obtain ⟨s2,hs2⟩:∃ Q9,Q9 = soundV a:=⟨_,rfl⟩
  rw [← hs1] at hsb
  rw [← hs2] at hsa
  have HS1:=Lib.hid hs1.symm
  have HS2:=Lib.hid hs2.symm
  clear hs1 hs2
  cases s1 with
  | false =>
    have hv:=Lib.hid (HR.out.trans (behind_unsound (.inl HS1.out)))
    go_wp2_with (go_at_call_of 167 sb.pA;(refine (hsb.out _ z4'.out).mono ?_;rintro e w1 ⟨rfl,hb1⟩;have E1:=Lib.hid hb1;have V1:=Lib.hid (z4'.out.trans (hb1.mono z4'.out.size));clear hb1 o0 o1 o2 o3 o4 o5 o6 o7 o8 o9 o10 a0 a1 a2 a3 a4 a5 a6 a7 a8 a9 a10;obtain ⟨r1,r2⟩:=hrow.out _ E1.out;obtain ⟨o0,o1,o2,o3,o4,o5,o6,o7,o8,o9,o10⟩:=op_cells r1;obtain ⟨a0,a1,a2,a3,a4,a5,a6,a7,a8,a9,a10⟩:=op_cells r2;clear r1 r2))
    go_ret2
    rw [hv.out]
    exact BehA.nil_ V1.out
  | true =>
    cases s2 with
    | false =>
      have hv:=Lib.hid (HR.out.trans (behind_unsound (.inr HS2.out)))
      go_wp2_with (first | (go_at_call_of 167 sa.pA;(refine (hsa.out w1 V1.out).mono ?_;rintro e w2 ⟨rfl,hb2⟩;have E2:=Lib.hid (E1.out.trans (hb2.mono E1.out.size));have V2:=Lib.hid (z4'.out.trans (E2.out.mono z4'.out.size));clear hb2 o0 o1 o2 o3 o4 o5 o6 o7 o8 o9 o10 a0 a1 a2 a3 a4 a5 a6 a7 a8 a9 a10;obtain ⟨r1,r2⟩:=hrow.out _ E2.out;obtain ⟨o0,o1,o2,o3,o4,o5,o6,o7,o8,o9,o10⟩:=op_cells r1;obtain ⟨a0,a1,a2,a3,a4,a5,a6,a7,a8,a9,a10⟩:=op_cells r2;clear r1 r2)) | (go_at_call_of 167 sb.pA;(refine (hsb.out _ z4'.out).mono ?_;rintro e w1 ⟨rfl,hb1⟩;have E1:=Lib.hid hb1;have V1:=Lib.hid (z4'.out.trans (hb1.mono z4'.out.size));clear hb1 o0 o1 o2 o3 o4 o5 o6 o7 o8 o9 o10 a0 a1 a2 a3 a4 a5 a6 a7 a8 a9 a10;obtain ⟨r1,r2⟩:=hrow.out _ E1.out;obtain ⟨o0,o1,o2,o3,o4,o5,o6,o7,o8,o9,o10⟩:=op_cells r1;obtain ⟨a0,a1,a2,a3,a4,a5,a6,a7,a8,a9,a10⟩:=op_cells r2;clear r1 r2)))
      go_ret2
      rw [hv.out]
      exact BehA.nil_ V2.out
    | true =>
      have hbec2:=Lib.hid (hbec.out HS1.out HS2.out)
      clear hbec
      go_wp2_with (first | (go_at_call 168;(refine (hbec2.out w2 V2.out).mono ?_;rintro e w3 ⟨v3,rfl,h3⟩;obtain ⟨l',X,hl1,hl2,hl3,hl4,hl5⟩:=h3;obtain ⟨A,n,c,rfl,hn,hnc,hcm,-⟩:=hl4.shape;have HL:=Lib.hid (And.intro hl1 (And.intro hl2 (And.intro hl3 (And.intro hl4 (And.intro hl5 hn)))));have VX:=Lib.hid (V2.out.trans (hl3.mono V2.out.size));have HNC:=Lib.hid (And.intro hnc hcm);clear hl1 hl2 hl3 hl4 hl5 hn hnc hcm o0 o1 o2 o3 o4 o5 o6 o7 o8 o9 o10 a0 a1 a2 a3 a4 a5 a6 a7 a8 a9 a10)) | (go_at_call_of 167 sa.pA;(refine (hsa.out w1 V1.out).mono ?_;rintro e w2 ⟨rfl,hb2⟩;have E2:=Lib.hid (E1.out.trans (hb2.mono E1.out.size));have V2:=Lib.hid (z4'.out.trans (E2.out.mono z4'.out.size));clear hb2 o0 o1 o2 o3 o4 o5 o6 o7 o8 o9 o10 a0 a1 a2 a3 a4 a5 a6 a7 a8 a9 a10;obtain ⟨r1,r2⟩:=hrow.out _ E2.out;obtain ⟨o0,o1,o2,o3,o4,o5,o6,o7,o8,o9,o10⟩:=op_cells r1;obtain ⟨a0,a1,a2,a3,a4,a5,a6,a7,a8,a9,a10⟩:=op_cells r2;clear r1 r2)) | (go_at_call_of 167 sb.pA;(refine (hsb.out _ z4'.out).mono ?_;rintro e w1 ⟨rfl,hb1⟩;have E1:=Lib.hid hb1;have V1:=Lib.hid (z4'.out.trans (hb1.mono z4'.out.size));clear hb1 o0 o1 o2 o3 o4 o5 o6 o7 o8 o9 o10 a0 a1 a2 a3 a4 a5 a6 a7 a8 a9 a10;obtain ⟨r1,r2⟩:=hrow.out _ E1.out;obtain ⟨o0,o1,o2,o3,o4,o5,o6,o7,o8,o9,o10⟩:=op_cells r1;obtain ⟨a0,a1,a2,a3,a4,a5,a6,a7,a8,a9,a10⟩:=op_cells r2;clear r1 r2)))
      go_loopw [32] (fun v32 wr=>∃ q:Nat,q≤n∧v32 = .int .i64 (q:Int)∧∃ L:List (Ov × OS),OwnO X.heap.size wr (.slice A n c) L∧L.length = n∧(∀ j x,j < q→L[j]? = some x→OwnOp X.heap.size wr x.1 x.2∧OvOk x.1∧∃ y,l'[j]? = some y∧x.1 = bareV y.1∧formedV y.1 = true)∧(∀ j,q≤j→L[j]? = l'[j]?)∧Below X.heap.size X wr) (fun v32 _=>n - (intOf v32).toNat)
      case atStart=>exact ⟨0,Nat.zero_le _,rfl,l',HL.out.2.2.2.1,HL.out.2.2.2.2.2.symm,fun j x hj=>by omega,fun j _=>rfl,HL.out.2.2.2.2.1⟩
      case round =>
        obtain ⟨q,hq,rfl,L,i1,i2,i3,i4,i5⟩:=hrel
        have I1:=Lib.hid i1
        have I2:=Lib.hid i2
        have I3:=Lib.hid i3
        have I4:=Lib.hid i4
        have I5:=Lib.hid i5
        have VR:=Lib.hid (VX.out.trans (i5.mono VX.out.size))
        clear i1 i2 i3 i4 i5
        by_cases hqn:q < n
        · have hqI:(q:Int) < (n:Int):=by omega
          have e0_:(0:Int)≤(q:Int):=by omega
          obtain ⟨y,hy⟩:∃ y,L[q]? = some y:=⟨_,List.getElem?_eq_getElem (by have:=I2.out;omega)⟩
          obtain ⟨o,s⟩:=y
          obtain ⟨A',n',c',p1,p2,p3,p4,p5,p6⟩:=I1.out.shape
          injection p1 with f1 f2 f3
          subst f1 f2 f3
          obtain ⟨g,rfl,hgb,hgl,hel⟩:=p6 q (o,s) hy
          have hadd:(⟨g,0,none⟩:Addr).add (q * 11) = ⟨g,q * 11,none⟩:=add_zero_off g (q * 11)
          obtain ⟨e0,e1,e2,e3,e4,e5,e6,e7,e8,e9,e10⟩:=hel
          dsimp only at e0 e1 e2 e3 e4 e5 e6 e7 e8 e9 e10
          have HY:=Lib.hid hy
          have hy4:=(I4.out q (Nat.le_refl _)).symm.trans hy
          have HY4:=Lib.hid hy4
          have hin:=Lib.hid (fun (W:World) (hB:Below wr.heap.size wr W)=>(HL.out.2.1 (o,s) (List.mem_of_getElem? hy4)).below (I5.out.trans (hB.mono I5.out.size)))
          obtain ⟨Wx,hWx⟩:∃ Q9,Q9 = wr.alloc (.cells (opCells o s) 52):=⟨_,rfl⟩
          have hxr:=Lib.hid (show Wx.heap[wr.heap.size]? = some (.cells (opCells o s) 52 (0,0)) by rw [hWx];exact heap_alloc_new wr _)
          have hxs:=Lib.hid (show Wx.heap.size = wr.heap.size + 1 by rw [hWx];simp)
          have hxb:=Lib.hid (show Below wr.heap.size wr Wx by rw [hWx];exact (Below.refl _ _).alloc (Nat.le_refl _) _)
          have hfo:=Lib.hid (formed_any Wx o s (hin.out Wx hxb.out))
          have hba:=Lib.hid (fun (W:World) (hw:Below wr.heap.size wr W)=>bare_any W o s (hin.out W hw))
          have hok:=Lib.hid (op_ok (hin.out Wx hxb.out)).bare
          have hgl':=Lib.hid hgl
          have hgb':=Lib.hid hgb
          have hnm:(n:Int)≤9223372036854775807:=by unfold maxLen at p4;omega
          have hgx:=Lib.hid (show ∀ W,Below wr.heap.size wr W→∃ cs,W.heap[g]? = some (.cells cs 52 (0,0))∧L.length * 11≤cs.size from fun W hB=>by
            rcases I1.out.2 with ⟨f,-⟩ | ⟨g2,cap,cur,f,k1,k2,k3,k4,k5,k6⟩
            · cases f
            · injection f with f1 f2 f3
              injection f1 with f1
              injection f1 with f1
              subst f1
              exact ⟨cur,(hB.block g (Array.getElem?_eq_some_iff.1 k2).1).trans k2,by rw [k5];exact Nat.mul_le_mul_right 11 k3⟩)
          obtain ⟨ff,hff⟩:∃ Q9,Q9 = formedV o:=⟨_,rfl⟩
          rw [← hff] at hfo
          have HFF:=Lib.hid hff.symm
          obtain ⟨b',hb'⟩:∃ Q9,Q9 = bareV o:=⟨_,rfl⟩
          rw [← hb'] at hba hok
          have HB':=Lib.hid hb'
          unfold opCells at hWx hfo hba
          clear hy hy4 hgb hgl hff hb' p2 p3 p4 p5 p6
          cases ff with
          | false =>
            have hv:=Lib.hid (HR.out.trans (behind_unformed HS1.out HS2.out (show o ∈ becomesV b a prior by rw [← HL.out.1];exact List.mem_map.2 ⟨(o,s),List.mem_of_getElem? HY4.out,rfl⟩) HFF.out))
            go_wp2_with (go_at_call 151;(rw [← hWx];refine hfo.out.mono ?_;rintro e w4 ⟨rfl,hb4⟩;have E4:=Lib.hid (hxb.out.trans (hb4.mono hxb.out.size));have hx4:=(hb4.block wr.heap.size (by have:=hxs.out;omega)).trans hxr.out;have HX4:=Lib.hid hx4;clear hb4 e0 e1 e2 e3 e4 e5 e6 e7 e8 e9 e10;obtain ⟨o0,o1,o2,o3,o4,o5,o6,o7,o8,o9,o10⟩:=op_cells hx4;clear hx4))
            go_ret2
            rw [hv.out]
            exact BehA.nil_ (VR.out.trans (E4.out.mono VR.out.size))
          | true =>
            go_upto_region 12 with (first | (go_at_call 105;(refine (hba.out w4 E4.out).mono ?_;rintro e w5 ⟨s5,rfl,h5,hb5⟩;have H5:=Lib.hid h5;have F5:=Lib.hid hb5;have E5:=Lib.hid (E4.out.trans (hb5.mono E4.out.size));obtain ⟨cs,hc1,hc2⟩:=hgx.out w5 E5.out;have HC:=Lib.hid hc1;have hcf:∀ k,w5.frozen? ⟨g,k,none⟩ = false:=(fun k=>frozen_of_row w5 g k _ _ hc1);have hcc:=(fun k hk=>cell_in hc1 hc2 (by have:=I2.out;omega) k hk:∀ k,k < q * 11 + 11→∃ v,w5.cell? ⟨g,k,none⟩ = some v);clear h5 hb5 hc1 hc2 o0 o1 o2 o3 o4 o5 o6 o7 o8 o9 o10;obtain ⟨u0,d0⟩:=hcc (q * 11) (by omega);obtain ⟨u1,d1⟩:=hcc (q * 11 + 1) (by omega);obtain ⟨u2,d2⟩:=hcc (q * 11 + 2) (by omega);obtain ⟨u3,d3⟩:=hcc (q * 11 + 3) (by omega);obtain ⟨u4,d4⟩:=hcc (q * 11 + 4) (by omega);obtain ⟨u5,d5⟩:=hcc (q * 11 + 5) (by omega);obtain ⟨u6,d6⟩:=hcc (q * 11 + 6) (by omega);obtain ⟨u7,d7⟩:=hcc (q * 11 + 7) (by omega);obtain ⟨u8,d8⟩:=hcc (q * 11 + 8) (by omega);obtain ⟨u9,d9⟩:=hcc (q * 11 + 9) (by omega);obtain ⟨u10,d10⟩:=hcc (q * 11 + 10) (by omega);clear hcc;unfold opCells)) | (go_at_call 151;(rw [← hWx];refine hfo.out.mono ?_;rintro e w4 ⟨rfl,hb4⟩;have E4:=Lib.hid (hxb.out.trans (hb4.mono hxb.out.size));have hx4:=(hb4.block wr.heap.size (by have:=hxs.out;omega)).trans hxr.out;have HX4:=Lib.hid hx4;clear hb4 e0 e1 e2 e3 e4 e5 e6 e7 e8 e9 e10;obtain ⟨o0,o1,o2,o3,o4,o5,o6,o7,o8,o9,o10⟩:=op_cells hx4;clear hx4)))
            obtain ⟨W5,hW5⟩:∃ Q9,Q9 = elevW w5 g (q * 11) b' s5:=⟨_,rfl⟩
            have hrow5:=Lib.hid (show OwnO X.heap.size W5 (.slice (some ⟨g,0,none⟩) n c) (L.set q (b',s5)) by rw [hW5];exact OwnO.set (I1.out.kept fun k h1 h2=>E5.out.block k h2) (by have:=I2.out;omega))
            have B5:=Lib.hid (show Below X.heap.size X W5 by rw [hW5,elevW_eq];exact setW_below _ _ (I5.out.trans (E5.out.mono I5.out.size)) hgb'.out)
            have O5:=Lib.hid (show ∀ k,k ≠ g→W5.heap[k]? = w5.heap[k]? by intro k hk;rw [hW5,elevW_eq];exact setW_other _ _ _ _ _ hk)
            unfold elevW at hW5
            rw [← hW5]
            clear hW5 d0 d1 d2 d3 d4 d5 d6 d7 d8 d9 d10 hcf
            go_wp2_with fail
            go_roundw
            case rel =>
              refine ⟨q + 1,by omega,by go_num,L.set q (b',s5),hrow5.out,by rw [List.length_set];exact I2.out,fun j x hj hx=>?_,fun j hj=>?_,B5.out⟩
              · by_cases hjq:j = q
                · subst hjq
                  rw [List.getElem?_set_self (by have:=I2.out;omega)] at hx
                  injection hx with hx
                  subst hx
                  refine ⟨((op_other H5.out HC.out O5.out).mono (by have:=I5.out.size;have:=E4.out.size;omega)),hok.out,(o,s),HY4.out,HB'.out,HFF.out⟩
                · rw [List.getElem?_set_ne (fun e=>hjq e.symm)] at hx
                  obtain ⟨k1,k2,k3⟩:=I3.out j x (by omega) hx
                  exact ⟨op_other (k1.kept fun k h1 h2=>E5.out.block k h2) HC.out O5.out,k2,k3⟩
              · rw [List.getElem?_set_ne (by omega)]
                exact I4.out j (by omega)
            case measure=>simp [intOf];omega
        · have hqI:¬ (q:Int) < (n:Int):=by omega
          obtain rfl:q = n:=by omega
          have hall:∀ (j:Nat) (y:Ov × OS),l'[j]? = some y→∃ x,L[j]? = some x∧x.1 = bareV y.1∧formedV y.1 = true:=fun j y hj=>by
            have hjl:=(List.getElem?_eq_some_iff.1 hj).1
            have e1:=HL.out.2.2.2.2.2
            have e2:=I2.out
            obtain ⟨x,hx⟩:∃ x,L[j]? = some x:=⟨_,List.getElem?_eq_getElem (by omega)⟩
            obtain ⟨-,-,y2,hy2,k3,k4⟩:=I3.out j x (by omega) hx
            rw [hj] at hy2
            injection hy2 with hy2
            subst hy2
            exact ⟨x,hx,k3,k4⟩
          have hfm:∀ y ∈ becomesV b a prior,formedV y = true:=fun y hy=>by
            rw [← HL.out.1] at hy
            obtain ⟨z,hz,rfl⟩:=List.mem_map.1 hy
            obtain ⟨j,hj⟩:=List.getElem?_of_mem hz
            obtain ⟨x,-,-,h⟩:=hall j z hj
            exact h
          have hv:=Lib.hid (HR.out.trans (behind_formed HS1.out HS2.out hfm))
          have hmap:=Lib.hid (show L.map Prod.fst = (becomesV b a prior).map bareV by
            rw [← HL.out.1]
            refine List.ext_getElem? fun j=>?_
            rw [List.getElem?_map,List.getElem?_map,List.getElem?_map]
            cases hj:l'[j]? with
            | none =>
              have e0:=List.getElem?_eq_none_iff.1 hj
              have e1:=HL.out.2.2.2.2.2
              have e2:=I2.out
              rw [List.getElem?_eq_none (by omega)]
              rfl
            | some y =>
              obtain ⟨x,hx,k,-⟩:=hall j y hj
              rw [hx]
              exact congrArg some k)
          clear hall hfm
          go_wp2_with fail
          go_ret2
          rw [hv.out]
          refine ⟨_,L,rfl,hmap.out,own_mono I1.out VX.out.size,fun x hx=>?_,VR.out⟩
          obtain ⟨j,hj⟩:=List.getElem?_of_mem hx
          obtain ⟨k1,k2,-⟩:=I3.out j x (by have e1:=(List.getElem?_eq_some_iff.1 hj).1;have e2:=I2.out;omega) hj
          exact ⟨k1.mono VX.out.size,k2⟩

end Go.Proofs.Ytidimannfemnmaa.Sqr
namespace Go.Proofs.Ytidimannfemnmaa.Sqr
open Go.RowKit Top Shf Sim
set_option maxRecDepth 20000

def RowR (w:World) (A:Option Addr) (n:Nat) (l:List (Ov × OS)):Prop :=
  l.length = n∧n≤maxLen∧∀ q x,l[q]? = some x→OpIn w x.1 x.2∧∃ g,A = some ⟨g,0,none⟩∧g < w.heap.size∧Elev w ⟨g,q * 11,none⟩ x.1 x.2
theorem RowR.below {w w':World} {A:Option Addr} {n:Nat} {l:List (Ov × OS)} (h:RowR w A n l) (hb:Below w.heap.size w w'):RowR w' A n l :=
  ⟨h.1,h.2.1,fun q x hx=>by
    obtain ⟨h1,g,h2,h3,h4⟩:=h.2.2 q x hx
    exact ⟨h1.below hb,g,h2,Nat.lt_of_lt_of_le h3 hb.size,h4.kept (hb.block g h3)⟩⟩
end Go.Proofs.Ytidimannfemnmaa.Sqr
