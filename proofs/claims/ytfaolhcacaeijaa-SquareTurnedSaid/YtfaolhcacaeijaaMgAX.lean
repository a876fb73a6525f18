/- MgAX: SqrM SqrK -/
import Derived.Test.YtfaolhcacaeijaaMgAW
import Derived.Test.YtfaolhcacaeijaaSqrL
import Derived.Test.YtfaolhcacaeijaaTopLi
import Derived.Test.YtfaolhcacaeijaaMgAU
import Derived.Test.YtfaolhcacaeijaaMgAP
set_option linter.all false
namespace Go.Proofs.Ytfaolhcacaeijaa.Sqr
open Go.RowKit Top Shf Sim
set_option maxRecDepth 20000
set_option linter.unusedVariables false

theorem totCosts:∀ l:List P5.IP,P5.totP (pcs l) = P5.costs l
  | []=>rfl
  | x :: r=>by
    have ih:=totCosts r
    rw [show pcs (x :: r) = [⟨x.keep.toNat,x.drop.toNat,x.put⟩] ++ pcs r from rfl,P5.totP_append,P5.totP_one,ih]
    show _ = P5.costI x + P5.costs r
    unfold P5.costI
    have h1:(max 0 x.keep).toNat = x.keep.toNat:=by omega
    have h2:(max 0 x.drop).toNat = x.drop.toNat:=by omega
    rw [h1,h2]
theorem fit_of {o:Ov} (h1:lightB o 200 = true) (h2:P5.smallV o.pieces 400 = true):Tiny o∧P5.totP (pcs o.pieces)≤2000:=by
  have e:=of_decide_eq_true h1
  obtain ⟨a,b,-⟩:=e
  refine ⟨⟨by omega,by omega⟩,?_⟩
  rw [totCosts]
  unfold P5.smallV at h2
  simp only [Bool.and_eq_true,decide_eq_true_eq] at h2
  omega
theorem raw_op {w:World} {o:Ov} {s:OS} (h:OpRaw w o s) (h1:lightB o 200 = true):OpIn w o s:=by
  have e:=of_decide_eq_true h1
  obtain ⟨a,b,-,-,-,c,-⟩:=e
  exact h.op (by omega) (by omega) (by omega)
theorem behA_read {w:World} {r:List Ov × Int} {e:Ending} {w':World} (h:BehA w r e w'):∃ A n c l,e = .returned (.tuple #[.slice A n c,.int .i64 r.2])∧l.map Prod.fst = r.1∧RowR w' A n l∧Below w.heap.size w w':=by
  obtain ⟨v,l,rfl,h1,h2,h3,h4⟩:=h
  obtain ⟨A,n,c,rfl,h5⟩:=row_read h2 h3
  exact ⟨A,n,c,l,rfl,h1,h5,h4⟩

end Go.Proofs.Ytfaolhcacaeijaa.Sqr
namespace Go.Proofs.Ytfaolhcacaeijaa.Sqr
open Go.RowKit Top Shf Sim
set_option maxRecDepth 20000
set_option linter.unusedVariables false

theorem own_len {base:Nat} {w:World} {A:Option Addr} {n c:Nat} {l:List (Ov × OS)} (h:OwnO base w (.slice A n c) l):l.length = n:=by
  obtain ⟨A',n',c',e,h1,-⟩:=h.shape
  injection e with e1 e2 e3
  omega
theorem becomes_few (b a:Ov) (prior:Bool):(becomesV b a prior).length≤2:=by
  unfold becomesV
  repeat' split
  all_goals simp
set_option maxHeartbeats 32000000 in
theorem rBehind_any (w:World) (b a:Ov) (sb sa:OS) (prior:Bool) (hb:OpIn w b sb) (ha:OpIn w a sa) (hlb:Tiny b) (hla:Tiny a) (htb:P5.totP (pcs b.pieces)≤2000) (hta:P5.totP (pcs a.pieces)≤2000) :
    Calls Try.prog 18 #[.agg (opCells b sb),.agg (opCells a sa),.bool prior] w (BehA w (behindV b a prior)):=by
  obtain ⟨z1,z2,z4,z5⟩:=two_news w (.cells (opCells b sb) 26) (.cells (opCells a sa) 26)
  obtain ⟨W2,hW2⟩:∃ Q9,Q9 = ((w.alloc (.cells (opCells b sb) 26)).alloc (.cells (opCells a sa) 26)):=⟨_,rfl⟩
  rw [← hW2] at z1 z2 z4 z5
  have z4':=Lib.hid z4
  have z5':=Lib.hid z5
  have hrow:=Lib.hid (fun (W:World) (hB:Below W2.heap.size W2 W)=>And.intro ((hB.block w.heap.size (by omega)).trans z1) ((hB.block (w.heap.size + 1) (by omega)).trans z2))
  have hsb:=Lib.hid (fun (W:World) (hB:Below w.heap.size w W)=>rsound_any W b sb (hb.below hB))
  have hsa:=Lib.hid (fun (W:World) (hB:Below w.heap.size w W)=>rsound_any W a sa (ha.below hB))
  have hbec:=Lib.hid (fun (h1:soundV b = true) (h2:soundV a = true) (W:World) (hB:Below w.heap.size w W)=>rbehind_any W b a sb sa prior (hb.below hB) (ha.below hB) hlb hla fun e1 e2=>⟨sound_right h1 e1,sound_right h2 e2,htb,hta⟩)
  obtain ⟨R,hR⟩:∃ Q9,Q9 = behindV b a prior:=⟨_,rfl⟩
  rw [← hR]
  have HR:=Lib.hid hR
  have hfew:=Lib.hid (fun (m:List (Ov × OS)) (e:m.map Prod.fst = becomesV b a prior)=>show m.length≤2 by rw [← List.length_map (f:=Prod.fst),e];exact becomes_few b a prior)
  clear hb ha hlb hla htb hta z1 z2 z4 z5 hR
  unfold opCells at hW2 hsb hsa hbec
  unfold opCells
  go_enter Try.func18,Try.ntmps18
  go_upto_region 1 with fail
  rw [← hW2]
  clear hW2
  obtain ⟨r1,r2⟩:=hrow.out W2 (Below.refl _ _)
  obtain ⟨o0,o1,o2,o3,o4,o5,o6,o7,o8,o9,o10⟩:=op_cells r1
  obtain ⟨a0,a1,a2,a3,a4,a5,a6,a7,a8,a9,a10⟩:=op_cells r2
  clear r1 r2
  obtain ⟨s1,hs1⟩:∃ Q9,Q9 = soundV b:=⟨_,rfl⟩
  obtain ⟨s2,hs2⟩:∃ Q9,Q9 = soundV a:=⟨_,rfl⟩
  rw [← hs1] at hsb
  rw [← hs2] at hsa
  have HS1:=Lib.hid hs1.symm
  have HS2:=Lib.hid hs2.symm
  clear hs1 hs2
  cases s2 with
  | false =>
    have hv:=Lib.hid (HR.out.trans (behind_unsound (.inr HS2.out)))
    go_wp2_with (go_at_call_of 76 sa.pA;go_loud (refine (hsa.out _ z4'.out).mono ?_;rintro e w1 ⟨rfl,hb1⟩;have E1:=Lib.hid hb1;have V1:=Lib.hid (z4'.out.trans (hb1.mono z4'.out.size));clear hb1 o0 o1 o2 o3 o4 o5 o6 o7 o8 o9 o10 a0 a1 a2 a3 a4 a5 a6 a7 a8 a9 a10;obtain ⟨r1,r2⟩:=hrow.out _ E1.out;obtain ⟨o0,o1,o2,o3,o4,o5,o6,o7,o8,o9,o10⟩:=op_cells r1;obtain ⟨a0,a1,a2,a3,a4,a5,a6,a7,a8,a9,a10⟩:=op_cells r2;clear r1 r2))
    go_ret2
    rw [hv.out]
    exact BehA.nil_ V1.out
  | true =>
    cases s1 with
    | false =>
      have hv:=Lib.hid (HR.out.trans (behind_unsound (.inl HS1.out)))
      go_wp2_with (first | (go_at_call_of 76 sb.pA;go_loud (refine (hsb.out w1 V1.out).mono ?_;rintro e w2 ⟨rfl,hb2⟩;have E2:=Lib.hid (E1.out.trans (hb2.mono E1.out.size));have V2:=Lib.hid (z4'.out.trans (E2.out.mono z4'.out.size));clear hb2 o0 o1 o2 o3 o4 o5 o6 o7 o8 o9 o10 a0 a1 a2 a3 a4 a5 a6 a7 a8 a9 a10;obtain ⟨r1,r2⟩:=hrow.out _ E2.out;obtain ⟨o0,o1,o2,o3,o4,o5,o6,o7,o8,o9,o10⟩:=op_cells r1;obtain ⟨a0,a1,a2,a3,a4,a5,a6,a7,a8,a9,a10⟩:=op_cells r2;clear r1 r2)) | (go_at_call_of 76 sa.pA;go_loud (refine (hsa.out _ z4'.out).mono ?_;rintro e w1 ⟨rfl,hb1⟩;have E1:=Lib.hid hb1;have V1:=Lib.hid (z4'.out.trans (hb1.mono z4'.out.size));clear hb1 o0 o1 o2 o3 o4 o5 o6 o7 o8 o9 o10 a0 a1 a2 a3 a4 a5 a6 a7 a8 a9 a10;obtain ⟨r1,r2⟩:=hrow.out _ E1.out;obtain ⟨o0,o1,o2,o3,o4,o5,o6,o7,o8,o9,o10⟩:=op_cells r1;obtain ⟨a0,a1,a2,a3,a4,a5,a6,a7,a8,a9,a10⟩:=op_cells r2;clear r1 r2)))
      go_ret2
      rw [hv.out]
      exact BehA.nil_ V2.out
    | true =>
      have hbec2:=Lib.hid (hbec.out HS1.out HS2.out)
      clear hbec
      go_wp2_with (first | (go_at_call 77;go_loud (refine (hbec2.out w2 V2.out).mono ?_;rintro e w3 ⟨v3,rfl,h3⟩;obtain ⟨l',X,hl1,hl2,hl3,hl4,hl5⟩:=h3;obtain ⟨A,n,c,rfl,hn,hnc,hcm,-⟩:=hl4.shape;have HL:=Lib.hid (And.intro hl1 (And.intro hl2 (And.intro hl3 (And.intro hl4 (And.intro hl5 hn)))));have VX:=Lib.hid (V2.out.trans (hl3.mono V2.out.size));have HNC:=Lib.hid (And.intro hnc hcm);clear hl1 hl2 hl3 hl4 hl5 hn hnc hcm o0 o1 o2 o3 o4 o5 o6 o7 o8 o9 o10 a0 a1 a2 a3 a4 a5 a6 a7 a8 a9 a10)) | (go_at_call_of 76 sb.pA;go_loud (refine (hsb.out w1 V1.out).mono ?_;rintro e w2 ⟨rfl,hb2⟩;have E2:=Lib.hid (E1.out.trans (hb2.mono E1.out.size));have V2:=Lib.hid (z4'.out.trans (E2.out.mono z4'.out.size));clear hb2 o0 o1 o2 o3 o4 o5 o6 o7 o8 o9 o10 a0 a1 a2 a3 a4 a5 a6 a7 a8 a9 a10;obtain ⟨r1,r2⟩:=hrow.out _ E2.out;obtain ⟨o0,o1,o2,o3,o4,o5,o6,o7,o8,o9,o10⟩:=op_cells r1;obtain ⟨a0,a1,a2,a3,a4,a5,a6,a7,a8,a9,a10⟩:=op_cells r2;clear r1 r2)) | (go_at_call_of 76 sa.pA;go_loud (refine (hsa.out _ z4'.out).mono ?_;rintro e w1 ⟨rfl,hb1⟩;have E1:=Lib.hid hb1;have V1:=Lib.hid (z4'.out.trans (hb1.mono z4'.out.size));clear hb1 o0 o1 o2 o3 o4 o5 o6 o7 o8 o9 o10 a0 a1 a2 a3 a4 a5 a6 a7 a8 a9 a10;obtain ⟨r1,r2⟩:=hrow.out _ E1.out;obtain ⟨o0,o1,o2,o3,o4,o5,o6,o7,o8,o9,o10⟩:=op_cells r1;obtain ⟨a0,a1,a2,a3,a4,a5,a6,a7,a8,a9,a10⟩:=op_cells r2;clear r1 r2)))
      have B3:=Lib.hid (HL.out.2.2.1.trans (HL.out.2.2.2.2.1.mono HL.out.2.2.1.size))
      have V3:=Lib.hid (VX.out.trans (HL.out.2.2.2.2.1.mono VX.out.size))
      go_loopw [10,11] (fun v10 v11 wr=>∃ q:Nat,q≤n∧v11 = .int .i64 (q:Int)∧∃ (A1:Option Addr) (n1 c1:Nat) (rl:List (Ov × OS)),v10 = .slice A1 n1 c1∧OwnO w3.heap.size wr (.slice A1 n1 c1) rl∧(∀ x ∈ rl,OwnOp w3.heap.size wr x.1 x.2∧OvOk x.1)∧rl.map Prod.fst = ((l'.take q).map Prod.fst).map bareV∧(∀ j y,j < q→l'[j]? = some y→formedV y.1 = true)∧Below w3.heap.size w3 wr) (fun _ v11 _=>n - (intOf v11).toNat)
      case atStart=>exact ⟨0,Nat.zero_le _,rfl,none,0,0,[],rfl,OwnO.nil_ _ _,fun x hx=>by simp at hx,rfl,fun j y hj=>by omega,Below.refl _ _⟩
      case round =>
        obtain ⟨q,hq,rfl,A1,n1,c1,rl,rfl,i1,i2,i3,i4,i5⟩:=hrel
        have I1:=Lib.hid i1
        have I2:=Lib.hid i2
        have I3:=Lib.hid i3
        have I4:=Lib.hid i4
        have I5:=Lib.hid i5
        have VR:=Lib.hid (V3.out.trans (i5.mono V3.out.size))
        clear i1 i2 i3 i4 i5
        obtain ⟨wo,hwo⟩:∃ Z,Z = wr:=⟨_,rfl⟩
        subst hwo
        by_cases hqn:q < n
        · have hqI:(q:Int) < (n:Int):=by omega
          have e0_:(0:Int)≤(q:Int):=by omega
          obtain ⟨y,hy⟩:∃ y,l'[q]? = some y:=⟨_,List.getElem?_eq_getElem (by have:=HL.out.2.2.2.2.2;omega)⟩
          obtain ⟨o,s⟩:=y
          obtain ⟨A',n',c',p1,p2,p3,p4,p5,p6⟩:=HL.out.2.2.2.1.shape
          injection p1 with f1 f2 f3
          subst f1 f2 f3
          obtain ⟨g,rfl,hgb,hgl,hel⟩:=p6 q (o,s) hy
          have hadd:(⟨g,0,none⟩:Addr).add (q * 11) = ⟨g,q * 11,none⟩:=add_zero_off g (q * 11)
          have HEL:=Lib.hid (fun (W:World) (hB:Below w3.heap.size w3 W)=>hel.kept (w':=W) (hB.block g hgl))
          obtain ⟨e0,e1,e2,e3,e4,e5,e6,e7,e8,e9,e10⟩:=HEL.out _ I5.out
          dsimp only at e0 e1 e2 e3 e4 e5 e6 e7 e8 e9 e10
          have HY:=Lib.hid hy
          have hin:=Lib.hid (fun (W:World) (hB:Below w3.heap.size w3 W)=>(HL.out.2.1 (o,s) (List.mem_of_getElem? hy)).below (HL.out.2.2.2.2.1.trans (hB.mono HL.out.2.2.2.2.1.size)))
          have hfo:=Lib.hid (rformed_any wo o s (hin.out wo I5.out))
          have hba:=Lib.hid (fun (W:World) (hw:Below w3.heap.size w3 W)=>rbare_any W o s (hin.out W hw))
          have hok:=Lib.hid (op_ok (hin.out wo I5.out)).bare
          have hnm:(n:Int)≤9223372036854775807:=by unfold maxLen at p4;omega
          obtain ⟨ff,hff⟩:∃ Q9,Q9 = formedV o:=⟨_,rfl⟩
          rw [← hff] at hfo
          have HFF:=Lib.hid hff.symm
          obtain ⟨b',hb'⟩:∃ Q9,Q9 = bareV o:=⟨_,rfl⟩
          rw [← hb'] at hba hok
          have HB':=Lib.hid hb'
          unfold opCells at hfo hba
          clear hy hgb hgl hff hb' p2 p3 p4 p5 p6 hel
          cases ff with
          | false =>
            have hv:=Lib.hid (HR.out.trans (behind_unformed HS1.out HS2.out (show o ∈ becomesV b a prior by rw [← HL.out.1];exact List.mem_map.2 ⟨(o,s),List.mem_of_getElem? HY.out,rfl⟩) HFF.out))
            go_wp2_with (go_at_call 78;go_loud (refine hfo.out.mono ?_;rintro e w4 ⟨rfl,hb4⟩;have E4:=Lib.hid hb4;have J4:=Lib.hid (I5.out.trans (hb4.mono I5.out.size));clear hb4 e0 e1 e2 e3 e4 e5 e6 e7 e8 e9 e10;obtain ⟨e0,e1,e2,e3,e4,e5,e6,e7,e8,e9,e10⟩:=HEL.out _ J4.out;dsimp only at e0 e1 e2 e3 e4 e5 e6 e7 e8 e9 e10))
            go_ret2
            rw [hv.out]
            exact BehA.nil_ (VR.out.trans (E4.out.mono VR.out.size))
          | true =>
            go_wp2_with (first | (at_builtin;go_loud (refine wpList_append_op rfl (.tmp 41) (.tmp 47) rfl w3.heap.size (.slice A1 n1 c1) rl rfl (I1.out.kept fun k h1 h2=>E5.out.block k h2) (b',s5) rfl (by have e1:=congrArg List.length I3.out;simp only [List.length_map,List.length_take] at e1;have e2:=HL.out.2.2.2.2.2;have e3:=hfew.out l' HL.out.1;omega) J5.out.size ?_;intro v6 w6 hv6 hg6;have V6:=Lib.hid hv6;have G6:=Lib.hid hg6;clear hv6 hg6)) | (go_at_call 20;go_loud (refine (hba.out w4 J4.out).mono ?_;rintro e w5 ⟨s5,rfl,h5,hb5⟩;have H5:=Lib.hid h5;have E5:=Lib.hid (E4.out.trans (hb5.mono E4.out.size));have J5:=Lib.hid (J4.out.trans (hb5.mono J4.out.size));have HN1:=Lib.hid (own_len I1.out);clear h5 hb5 e0 e1 e2 e3 e4 e5 e6 e7 e8 e9 e10;unfold opCells)) | (go_at_call 78;go_loud (refine hfo.out.mono ?_;rintro e w4 ⟨rfl,hb4⟩;have E4:=Lib.hid hb4;have J4:=Lib.hid (I5.out.trans (hb4.mono I5.out.size));clear hb4 e0 e1 e2 e3 e4 e5 e6 e7 e8 e9 e10;obtain ⟨e0,e1,e2,e3,e4,e5,e6,e7,e8,e9,e10⟩:=HEL.out _ J4.out;dsimp only at e0 e1 e2 e3 e4 e5 e6 e7 e8 e9 e10)))
            go_roundw
            case rel =>
              have hlen:=HL.out.2.2.2.2.2
              obtain ⟨A2,n2,c2,rfl,x1,x2,x3⟩:=behind_fin (k:=n1) I1.out I2.out I5.out.size (Nat.le_refl _) (H5.out.mono (by have:=I5.out.size;have:=E4.out.size;omega)) hok.out E5.out (by rw [List.take_of_length_le (by rw [HN1.out];exact Nat.le_refl _)];exact V6.out) G6.out
              rw [List.take_of_length_le (by rw [HN1.out];exact Nat.le_refl _)] at x1 x2
              refine ⟨q + 1,by omega,by go_num,A2,n2,c2,_,rfl,x1,x2,?_,fun j y hj hy=>?_,I5.out.trans (x3.mono (Nat.le_refl _))⟩
              · rw [List.map_append,I3.out,List.take_add_one,HY.out]
                simp [HB'.out]
              · by_cases hjq:j = q
                · subst hjq
                  rw [HY.out] at hy
                  injection hy with hy
                  rw [← hy]
                  exact HFF.out
                · exact I4.out j y (by omega) hy
            case measure=>simp [intOf];omega
        · have hqI:¬ (q:Int) < (n:Int):=by omega
          obtain rfl:q = n:=by omega
          have hlen:=HL.out.2.2.2.2.2
          have htk:l'.take q = l':=List.take_of_length_le (by omega)
          have hv:=Lib.hid (HR.out.trans (behind_formed HS1.out HS2.out (fun y hy=>by
            rw [← HL.out.1] at hy
            obtain ⟨z,hz,rfl⟩:=List.mem_map.1 hy
            obtain ⟨j,hj⟩:=List.getElem?_of_mem hz
            exact I4.out j z (by have:=(List.getElem?_eq_some_iff.1 hj).1;omega) hj)))
          have hmap:=Lib.hid (show rl.map Prod.fst = (becomesV b a prior).map bareV by rw [I3.out,htk,HL.out.1])
          clear htk hlen
          go_wp2_with fail
          go_ret2
          rw [hv.out]
          exact ⟨_,rl,rfl,hmap.out,own_mono I1.out V3.out.size,fun x hx=>⟨(I2.out x hx).1.mono V3.out.size,(I2.out x hx).2⟩,VR.out⟩

end Go.Proofs.Ytfaolhcacaeijaa.Sqr
