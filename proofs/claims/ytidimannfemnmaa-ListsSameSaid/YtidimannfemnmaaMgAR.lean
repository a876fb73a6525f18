/- MgAR: TopBi TopMa SqrA TopBc TopBd ShfW -/
import Derived.Test.YtidimannfemnmaaTopBe
import Derived.Test.YtidimannfemnmaaTopBf
import Derived.Test.YtidimannfemnmaaMgAH
import Derived.Test.YtidimannfemnmaaMgAM
import Derived.Test.YtidimannfemnmaaMgAN
import Derived.Test.YtidimannfemnmaaMgAL
import Derived.Test.YtidimannfemnmaaMgAK
import Derived.Test.YtidimannfemnmaaTopS
set_option linter.all false
namespace Go.Proofs.Ytidimannfemnmaa.Top
open Go.RowKit
set_option maxRecDepth 20000

def sameB (A B:Ov):Bool:=((A.kind:Int) == (B.kind:Int)) && (P4.eqV A.path B.path && ((A.at_ == B.at_) && (P4.eqV A.to_ B.to_ && (((A.id:Int) == (B.id:Int)) && ((A.leaf == B.leaf) && ((A.label == B.label) && ((A.key == B.key) && ((A.value == B.value) && ((A.gone == B.gone) && P5.sameP A.pieces B.pieces)))))))))
theorem sameB_iff {A B:Ov}:sameB A B = true ↔ A = B:=by
  unfold sameB P4.eqV
  simp only [Bool.and_eq_true,beq_iff_eq,decide_eq_true_eq,P5.sameP_iff]
  constructor
  · rintro ⟨h1,h2,h3,h4,h5,h6,h7,h8,h9,h10,h11⟩
    cases A;cases B
    simp only at *
    have e1:=Int.ofNat.inj h1
    have e5:=Int.ofNat.inj h5
    subst h2 h3 h4 h6 h7 h8 h9 h10 h11 e1 e5
    rfl
  · rintro rfl
    exact ⟨rfl,rfl,rfl,rfl,rfl,rfl,rfl,rfl,rfl,rfl,rfl⟩
theorem pair_new (w:World) (o1 o2:Obj):(((w.alloc o1).alloc o2).heap[w.heap.size]? = some o1)∧(((w.alloc o1).alloc o2).heap[w.heap.size + 1]? = some o2)∧Below w.heap.size w ((w.alloc o1).alloc o2)∧((w.alloc o1).alloc o2).heap.size = w.heap.size + 1 + 1:=by
  have h1:=heap_alloc_new w o1
  have h2:=heap_alloc_new (w.alloc o1) o2
  rw [World.size_alloc] at h2
  exact ⟨(Go.heap_alloc_old _ _ (by simp)).trans h1,h2,((Below.refl _ _).alloc (Nat.le_refl _) _).alloc (by simp) _,by simp⟩
end Go.Proofs.Ytidimannfemnmaa.Top
namespace Go.Proofs.Ytidimannfemnmaa.Top
open Go.RowKit
set_option maxRecDepth 20000

structure OwnPp (base:Nat) (w:World) (v:Value) (l:List (Value × List Int)):Prop where
  row:w.ownsRow base 40 1 v l.length (l.map (·.1))
  own:∀ x ∈ l,P4.OwnI base w x.1 x.2
theorem OwnPp.kept {w w':World} {base:Nat} {v:Value} {l:List (Value × List Int)} (h:OwnPp base w v l) (hk:∀ k,base≤k→k < w.heap.size→w'.heap[k]? = w.heap[k]?):OwnPp base w' v l :=
  ⟨own_kept h.row hk,fun x hx=>own_kept (h.own x hx) hk⟩
theorem OwnPp.mono {w:World} {base base':Nat} {v:Value} {l:List (Value × List Int)} (h:OwnPp base w v l) (hb:base'≤base):OwnPp base' w v l :=
  ⟨own_mono h.row hb,fun x hx=>own_mono (h.own x hx) hb⟩
end Go.Proofs.Ytidimannfemnmaa.Top
namespace Go.Proofs.Ytidimannfemnmaa.Sqr
open Go.RowKit Top Shf
set_option maxRecDepth 20000

set_option maxHeartbeats 8000000 in
theorem sound_any (w:World) (o:Ov) (s:OS) (ho:OpIn w o s):Calls Try.prog 167 #[.agg (opCells o s)] w fun e w'=>e = .returned (.bool (soundV o))∧Below w.heap.size w w':=by
  obtain ⟨W2,hW2⟩:∃ Q9,Q9 = w.alloc (.cells (opCells o s) 52):=⟨_,rfl⟩
  have z1:=Lib.hid (show W2.heap[w.heap.size]? = some (.cells (opCells o s) 52 (0,0)) by rw [hW2];exact heap_alloc_new w _)
  have z4':=Lib.hid (show Below w.heap.size w W2 by rw [hW2];exact (Below.refl _ _).alloc (Nat.le_refl _) _)
  have hrow:=Lib.hid (fun (W:World) (hb:Below W2.heap.size W2 W)=>(hb.block w.heap.size (Array.getElem?_eq_some_iff.1 z1.out).1).trans z1.out)
  have hfo:=Lib.hid (formed_any W2 o s (ho.below z4'.out))
  have hwi:=Lib.hid (fun (W:World) (hb:Below w.heap.size w W)=>P4.within_any W s.pA s.tA s.pn s.pc s.tn s.tc o.path o.to_ (its4 (ho.below hb).path) (its4 (ho.below hb).to_) (Nat.le_trans ho.pnc ho.pcm) (Nat.le_trans ho.tnc ho.tcm))
  obtain ⟨r,hr⟩:∃ r,r = soundV o:=⟨_,rfl⟩
  rw [← hr]
  have hpl:=ho.path.1
  obtain ⟨o0,o1,o2,o3,o4,o5,o6,o7,o8,o9,o10⟩:=op_cells z1.out
  rw [hW2] at o0 o1 o2 o3 o4 o5 o6 o7 o8 o9 o10
  cases hf:formedV o with
  | false =>
    have hr':=Lib.hid (show r = false by rw [hr];unfold soundV;rw [hf];rfl)
    rw [hf] at hfo
    unfold opCells at hW2 hfo
    unfold opCells
    clear ho hf hpl hr
    go_enter Try.func167,Try.ntmps167
    go_wp2_with (go_at_call 151;(rw [← hW2];refine hfo.out.mono ?_;rintro e w1 ⟨rfl,hb1⟩;have E1:=Lib.hid hb1;have B1:=Lib.hid (z4'.out.trans (hb1.mono z4'.out.size));clear hb1 o0 o1 o2 o3 o4 o5 o6 o7 o8 o9 o10;obtain ⟨o0,o1,o2,o3,o4,o5,o6,o7,o8,o9,o10⟩:=op_cells (hrow.out w1 E1.out)))
    go_ret
    exact ⟨by rw [hr'.out] <;> rfl,B1.out⟩
  | true =>
    rw [hf] at hfo
    by_cases hk2:o.kind = 2
    · have hkI:=Lib.hid (show (o.kind:Int) = 2 by omega)
      by_cases hp:o.path = []
      · skip
        have hpn:s.pn = 0:=by rw [← hpl,hp];rfl
        have hr':=Lib.hid (show r = false by rw [hr];unfold soundV;rw [hf,if_pos hk2,hp];rfl)
        have hpI:¬ (0:Int) < (s.pn:Int):=by omega
        have hpJ:=Lib.hid (show s.pn = 0 from hpn)
        clear hp hk2 hpn
        unfold opCells at hW2 hfo
        unfold opCells
        rw [hkI.out] at hW2 hfo o0 ⊢
        clear ho hf hpl hr
        go_enter Try.func167,Try.ntmps167
        go_wp2_with (go_at_call 151;(rw [← hW2];refine hfo.out.mono ?_;rintro e w1 ⟨rfl,hb1⟩;have E1:=Lib.hid hb1;have B1:=Lib.hid (z4'.out.trans (hb1.mono z4'.out.size));clear hb1 o0 o1 o2 o3 o4 o5 o6 o7 o8 o9 o10;obtain ⟨o0,o1,o2,o3,o4,o5,o6,o7,o8,o9,o10⟩:=op_cells (hrow.out w1 E1.out);rw [hkI.out] at o0))
        go_ret
        exact ⟨by rw [hr'.out];first | rfl | simp [hpJ.out],B1.out⟩
      · skip
        have hpn:0 < s.pn:=by rw [← hpl];exact List.length_pos_iff.2 hp
        have hr':=Lib.hid (show r = true by rw [hr];unfold soundV;rw [hf,if_pos hk2];simp [hp])
        have hpI:(0:Int) < (s.pn:Int):=by omega
        have hpJ:=Lib.hid hpn
        clear hp hk2 hpn
        unfold opCells at hW2 hfo
        unfold opCells
        rw [hkI.out] at hW2 hfo o0 ⊢
        clear ho hf hpl hr
        go_enter Try.func167,Try.ntmps167
        go_wp2_with (go_at_call 151;(rw [← hW2];refine hfo.out.mono ?_;rintro e w1 ⟨rfl,hb1⟩;have E1:=Lib.hid hb1;have B1:=Lib.hid (z4'.out.trans (hb1.mono z4'.out.size));clear hb1 o0 o1 o2 o3 o4 o5 o6 o7 o8 o9 o10;obtain ⟨o0,o1,o2,o3,o4,o5,o6,o7,o8,o9,o10⟩:=op_cells (hrow.out w1 E1.out);rw [hkI.out] at o0))
        go_ret
        exact ⟨by rw [hr'.out];first | rfl | simp [hpJ.out],B1.out⟩
    · by_cases hk3:o.kind = 3
      · have hkI:=Lib.hid (show (o.kind:Int) = 3 by omega)
        obtain ⟨b,hb⟩:∃ b,b = P4.withinV o.path o.to_:=⟨_,rfl⟩
        rw [← hb] at hwi
        have hr':=Lib.hid (show r = !b by rw [hr];unfold soundV;rw [hf,if_neg hk2,if_pos hk3,hb];rfl)
        clear hk2 hk3 hb
        unfold opCells at hW2 hfo
        unfold opCells
        rw [hkI.out] at hW2 hfo o0 ⊢
        clear ho hf hpl hr
        go_enter Try.func167,Try.ntmps167
        go_wp2_with (first | (go_at_call 151;(rw [← hW2];refine hfo.out.mono ?_;rintro e w1 ⟨rfl,hb1⟩;have E1:=Lib.hid hb1;have B1:=Lib.hid (z4'.out.trans (hb1.mono z4'.out.size));clear hb1 o0 o1 o2 o3 o4 o5 o6 o7 o8 o9 o10;obtain ⟨o0,o1,o2,o3,o4,o5,o6,o7,o8,o9,o10⟩:=op_cells (hrow.out w1 E1.out);rw [hkI.out] at o0)) | (go_at_call 165;(refine (hwi.out _ B1.out).mono ?_;rintro e w2 ⟨rfl,k2,rfl⟩)))
        go_ret
        exact ⟨by rw [hr'.out] <;> rfl,draws B1.out _⟩
      · have e2:((o.kind:Int) == 2) = false:=by simp;omega
        have e3:((o.kind:Int) == 3) = false:=by simp;omega
        have hr':=Lib.hid (show r = true by rw [hr];unfold soundV;rw [hf,if_neg hk2,if_neg hk3];rfl)
        clear hk2 hk3
        unfold opCells at hW2 hfo
        unfold opCells
        clear ho hf hpl hr
        go_enter Try.func167,Try.ntmps167
        go_wp2_with (go_at_call 151;(rw [← hW2];refine hfo.out.mono ?_;rintro e w1 ⟨rfl,hb1⟩;have E1:=Lib.hid hb1;have B1:=Lib.hid (z4'.out.trans (hb1.mono z4'.out.size));clear hb1 o0 o1 o2 o3 o4 o5 o6 o7 o8 o9 o10;obtain ⟨o0,o1,o2,o3,o4,o5,o6,o7,o8,o9,o10⟩:=op_cells (hrow.out w1 E1.out)))
        go_ret
        exact ⟨by rw [hr'.out] <;> rfl,B1.out⟩
end Go.Proofs.Ytidimannfemnmaa.Sqr
namespace Go.Proofs.Ytidimannfemnmaa.Top
open Go.RowKit
set_option maxRecDepth 20000

set_option maxHeartbeats 4000000 in
theorem bare_k2 (w:World) (o:Ov) (s:OS) (ho:OpIn w o s) (hk:o.kind = 2):Calls Try.prog 105 #[.agg (opCells o s)] w (BareA w (bareV o)):=by
  obtain ⟨z1,z2,z3,z4,z5⟩:=three_new w (.cells (opCells o s) 52) (.cells zero11 52) (.cells #[.int .u8 2,.slice none 0 0,.int .i64 0,.slice none 0 0,.int .u64 0,.bool false,.string ⟨#[]⟩,.string ⟨#[]⟩,.string ⟨#[]⟩,.bool false,.slice none 0 0] 52)
  obtain ⟨W3,hW3⟩:∃ W3,W3 = ((w.alloc (.cells (opCells o s) 52)).alloc (.cells zero11 52)).alloc (.cells #[.int .u8 2,.slice none 0 0,.int .i64 0,.slice none 0 0,.int .u64 0,.bool false,.string ⟨#[]⟩,.string ⟨#[]⟩,.string ⟨#[]⟩,.bool false,.slice none 0 0] 52):=⟨_,rfl⟩
  rw [← hW3] at z1 z2 z3 z4 z5
  have hkI:=Lib.hid (show (o.kind:Int) = 2 by omega)
  have ho':=Lib.hid ho
  unfold opCells zero11 at hW3
  unfold opCells
  rw [hkI.out] at hW3 ⊢
  have z1':=Lib.hid z1
  have z2':=Lib.hid z2
  have z3':=Lib.hid z3
  have z4':=Lib.hid z4
  have z5':=Lib.hid z5
  clear ho z1 z2 z3 z4 z5
  go_enter Try.func105,Try.ntmps105
  go_upto_region 17 with fail
  rw [← hW3]
  obtain ⟨X,hX⟩:∃ X,X = W3:=⟨_,rfl⟩
  rw [← hX]
  have bX:=Lib.hid (show Below W3.heap.size W3 X by rw [hX];exact Below.refl _ _)
  clear hX hW3
  have x1:=Lib.hid ((bX.out.block w.heap.size (by have:=z5'.out;omega)).trans z1'.out)
  have x2:=Lib.hid ((bX.out.block (w.heap.size + 1) (by have:=z5'.out;omega)).trans z2'.out)
  have x3:=Lib.hid ((bX.out.block (w.heap.size + 1 + 1) (by have:=z5'.out;omega)).trans z3'.out)
  have xw:=Lib.hid (z4'.out.trans (bX.out.mono z4'.out.size))
  have xs:=Lib.hid (show w.heap.size + 1 + 1 + 1≤X.heap.size by have:=z5'.out;have:=bX.out.size;omega)
  have OT:=Lib.hid (P4.OwnI.nil_ (w.heap.size + 1 + 1 + 1) X)
  have OQ:=Lib.hid (OwnQ.nil_ (w.heap.size + 1 + 1 + 1) X)
  have hcp:=Lib.hid (copied_any X s.pA s.pn s.pc o.path (ho'.out.below xw.out).path ho'.out.pnil ho'.out.pfew)
  unfold P4.NewRow at hcp
  have x1u:=x1.out
  have x3u:=x3.out
  obtain ⟨o0,o1,o2,o3,o4,o5,o6,o7,o8,o9,o10⟩:=op_cells x1u
  obtain ⟨p0,p1,p2,p3,p4,p5,p6,p7,p8,p9,p10,pf⟩:=eleven_cells x3u
  clear x1u x3u
  go_upto_region 18 with (go_at_call 155;(refine hcp.out.mono ?_;rintro e w1 ⟨v1,rfl,hv1,hb1⟩;have V1:=Lib.hid hv1;have b1:=Lib.hid hb1;have y3:=(hb1.block (w.heap.size + 1 + 1) (by have:=xs.out;omega)).trans x3.out;have Y3:=Lib.hid y3;obtain ⟨A1,n1,c1,rfl,-⟩:=P4.OwnI.shape hv1;clear o0 o1 o2 o3 o4 o5 o6 o7 o8 o9 o10 p0 p1 p2 p3 p4 p5 p6 p7 p8 p9 p10 pf hv1 hb1;obtain ⟨p0,p1,p2,p3,p4,p5,p6,p7,p8,p9,p10,pf⟩:=eleven_cells y3;have hl3:w.heap.size + 1 + 1 < w1.heap.size:=(Array.getElem?_eq_some_iff.1 y3).1;clear y3))
  clear p0 p1 p2 p3 p4 p5 p6 p7 p8 p9 p10 pf hcp
  obtain ⟨W5,hW5⟩:∃ W5,W5 = w1.setCell ⟨w.heap.size + 1 + 1,1,none⟩ (.slice A1 n1 c1):=⟨_,rfl⟩
  have r3:W5.heap[w.heap.size + 1 + 1]? = some (.cells #[.int .u8 2,.slice A1 n1 c1,.int .i64 0,.slice none 0 0,.int .u64 0,.bool false,.string ⟨#[]⟩,.string ⟨#[]⟩,.string ⟨#[]⟩,.bool false,.slice none 0 0] 52 (0,0)):=by rw [hW5,heap_setCell_same w1 _ 1 _ _ _ Y3.out];simp
  have h5:=Lib.hid (show ∀ k,k ≠ w.heap.size + 1 + 1→W5.heap[k]? = w1.heap[k]? by intro k hk;rw [hW5];exact heap_setCell_other _ _ k _ hk)
  have w5b:=Lib.hid (show Below w.heap.size w W5 by rw [hW5];exact (xw.out.trans (b1.out.mono xw.out.size)).setCell (p:=⟨w.heap.size + 1 + 1,1,none⟩) (by show w.heap.size≤w.heap.size + 1 + 1;omega) _)
  have w5s:=Lib.hid (show W5.heap.size = w1.heap.size by rw [hW5];simp)
  rw [← hW5]
  clear hW5
  have r2:=(h5.out (w.heap.size + 1) (by omega)).trans ((b1.out.block (w.heap.size + 1) (by have:=xs.out;omega)).trans x2.out)
  unfold zero11 at r2
  have r2h:=Lib.hid r2
  obtain ⟨p0,p1,p2,p3,p4,p5,p6,p7,p8,p9,p10,pf⟩:=eleven_cells r3
  obtain ⟨q0,q1,q2,q3,q4,q5,q6,q7,q8,q9,q10,qf⟩:=eleven_cells r2
  have hl2:w.heap.size + 1 < W5.heap.size:=(Array.getElem?_eq_some_iff.1 r2).1
  clear r2 r3
  go_wp2_with fail
  obtain ⟨W9,hW9,R9,B9,Z9,K9⟩:=end_op (o:=(⟨2,o.path,0,[],0,false,[],[],[],false,[]⟩:Ov)) (s:=⟨A1,n1,c1,none,0,0,none,0,0⟩) (r:=w.heap.size + 1) (by omega) w5b.out r2h.out
  have hW9':W9 = (((((((((((W5.setCell ⟨w.heap.size + 1,0,none⟩ (.int .u8 2)).setCell ⟨w.heap.size + 1,1,none⟩ (.slice A1 n1 c1)).setCell ⟨w.heap.size + 1,2,none⟩ (.int .i64 0)).setCell ⟨w.heap.size + 1,3,none⟩ (.slice none 0 0)).setCell ⟨w.heap.size + 1,4,none⟩ (.int .u64 0)).setCell ⟨w.heap.size + 1,5,none⟩ (.bool false)).setCell ⟨w.heap.size + 1,6,none⟩ (.string ⟨#[]⟩)).setCell ⟨w.heap.size + 1,7,none⟩ (.string ⟨#[]⟩)).setCell ⟨w.heap.size + 1,8,none⟩ (.string ⟨#[]⟩)).setCell ⟨w.heap.size + 1,9,none⟩ (.bool false)).setCell ⟨w.heap.size + 1,10,none⟩ (.slice none 0 0)):=hW9
  rw [← hW9']
  clear hW9' hW9
  unfold opCells at R9
  obtain ⟨d0,d1,d2,d3,d4,d5,d6,d7,d8,d9,d10,df⟩:=eleven_cells R9
  refine bodyPost_ret (v:=.agg (opCells (⟨2,o.path,0,[],0,false,[],[],[],false,[]⟩:Ov) ⟨A1,n1,c1,none,0,0,none,0,0⟩)) (by simp [results,Try.results105,go_sem,d0,d1,d2,d3,d4,d5,d6,d7,d8,d9,d10,opCells]) rfl ?_
  have kk:∀ k,w.heap.size + 1 + 1 + 1≤k→W9.heap[k]? = w1.heap[k]?:=fun k hk=>(K9 k (by omega)).trans (h5.out k (by omega))
  rw [show bareV o = (⟨2,o.path,0,[],0,false,[],[],[],false,[]⟩:Ov) by unfold bareV;simp [hk]]
  refine ⟨_,rfl,⟨own_mono (own_kept V1.out fun k h1 h2=>kk k (Nat.le_trans xs.out h1)) (Nat.le_trans (by omega) xs.out),own_mono (own_kept OT.out fun k h1 h2=>(kk k h1).trans (b1.out.block k h2)) (by omega),own_mono (own_kept OQ.out fun k h1 h2=>(kk k h1).trans (b1.out.block k h2)) (by omega)⟩,B9⟩
set_option maxHeartbeats 4000000 in
theorem bare_k1 (w:World) (o:Ov) (s:OS) (ho:OpIn w o s) (hk:o.kind = 1):Calls Try.prog 105 #[.agg (opCells o s)] w (BareA w (bareV o)):=by
  obtain ⟨z1,z2,z3,z4,z5⟩:=three_new w (.cells (opCells o s) 52) (.cells zero11 52) (.cells #[.int .u8 1,.slice none 0 0,.int .i64 o.at_,.slice none 0 0,.int .u64 (o.id:Int),.bool o.leaf,.string ⟨o.label.toArray⟩,.string ⟨#[]⟩,.string ⟨#[]⟩,.bool false,.slice none 0 0] 52)
  obtain ⟨W3,hW3⟩:∃ W3,W3 = ((w.alloc (.cells (opCells o s) 52)).alloc (.cells zero11 52)).alloc (.cells #[.int .u8 1,.slice none 0 0,.int .i64 o.at_,.slice none 0 0,.int .u64 (o.id:Int),.bool o.leaf,.string ⟨o.label.toArray⟩,.string ⟨#[]⟩,.string ⟨#[]⟩,.bool false,.slice none 0 0] 52):=⟨_,rfl⟩
  rw [← hW3] at z1 z2 z3 z4 z5
  have hkI:=Lib.hid (show (o.kind:Int) = 1 by omega)
  have ho':=Lib.hid ho
  unfold opCells zero11 at hW3
  unfold opCells
  rw [hkI.out] at hW3 ⊢
  have z1':=Lib.hid z1
  have z2':=Lib.hid z2
  have z3':=Lib.hid z3
  have z4':=Lib.hid z4
  have z5':=Lib.hid z5
  clear ho z1 z2 z3 z4 z5
  go_enter Try.func105,Try.ntmps105
  go_upto_region 5 with fail
  go_region
  go_upto_region 17 with fail
  rw [← hW3]
  obtain ⟨X,hX⟩:∃ X,X = W3.drew:=⟨_,rfl⟩
  rw [← hX]
  have bX:=Lib.hid (show Below W3.heap.size W3 X by rw [hX];exact (Below.refl _ _).drew)
  clear hX hW3
  have x1:=Lib.hid ((bX.out.block w.heap.size (by have:=z5'.out;omega)).trans z1'.out)
  have x2:=Lib.hid ((bX.out.block (w.heap.size + 1) (by have:=z5'.out;omega)).trans z2'.out)
  have x3:=Lib.hid ((bX.out.block (w.heap.size + 1 + 1) (by have:=z5'.out;omega)).trans z3'.out)
  have xw:=Lib.hid (z4'.out.trans (bX.out.mono z4'.out.size))
  have xs:=Lib.hid (show w.heap.size + 1 + 1 + 1≤X.heap.size by have:=z5'.out;have:=bX.out.size;omega)
  have OT:=Lib.hid (P4.OwnI.nil_ (w.heap.size + 1 + 1 + 1) X)
  have OQ:=Lib.hid (OwnQ.nil_ (w.heap.size + 1 + 1 + 1) X)
  have hcp:=Lib.hid (copied_any X s.pA s.pn s.pc o.path (ho'.out.below xw.out).path ho'.out.pnil ho'.out.pfew)
  unfold P4.NewRow at hcp
  have x1u:=x1.out
  have x3u:=x3.out
  obtain ⟨o0,o1,o2,o3,o4,o5,o6,o7,o8,o9,o10⟩:=op_cells x1u
  obtain ⟨p0,p1,p2,p3,p4,p5,p6,p7,p8,p9,p10,pf⟩:=eleven_cells x3u
  clear x1u x3u
  go_upto_region 18 with (go_at_call 155;(refine hcp.out.mono ?_;rintro e w1 ⟨v1,rfl,hv1,hb1⟩;have V1:=Lib.hid hv1;have b1:=Lib.hid hb1;have y3:=(hb1.block (w.heap.size + 1 + 1) (by have:=xs.out;omega)).trans x3.out;have Y3:=Lib.hid y3;obtain ⟨A1,n1,c1,rfl,-⟩:=P4.OwnI.shape hv1;clear o0 o1 o2 o3 o4 o5 o6 o7 o8 o9 o10 p0 p1 p2 p3 p4 p5 p6 p7 p8 p9 p10 pf hv1 hb1;obtain ⟨p0,p1,p2,p3,p4,p5,p6,p7,p8,p9,p10,pf⟩:=eleven_cells y3;have hl3:w.heap.size + 1 + 1 < w1.heap.size:=(Array.getElem?_eq_some_iff.1 y3).1;clear y3))
  clear p0 p1 p2 p3 p4 p5 p6 p7 p8 p9 p10 pf hcp
  obtain ⟨W5,hW5⟩:∃ W5,W5 = w1.setCell ⟨w.heap.size + 1 + 1,1,none⟩ (.slice A1 n1 c1):=⟨_,rfl⟩
  have r3:W5.heap[w.heap.size + 1 + 1]? = some (.cells #[.int .u8 1,.slice A1 n1 c1,.int .i64 o.at_,.slice none 0 0,.int .u64 (o.id:Int),.bool o.leaf,.string ⟨o.label.toArray⟩,.string ⟨#[]⟩,.string ⟨#[]⟩,.bool false,.slice none 0 0] 52 (0,0)):=by rw [hW5,heap_setCell_same w1 _ 1 _ _ _ Y3.out];simp
  have h5:=Lib.hid (show ∀ k,k ≠ w.heap.size + 1 + 1→W5.heap[k]? = w1.heap[k]? by intro k hk;rw [hW5];exact heap_setCell_other _ _ k _ hk)
  have w5b:=Lib.hid (show Below w.heap.size w W5 by rw [hW5];exact (xw.out.trans (b1.out.mono xw.out.size)).setCell (p:=⟨w.heap.size + 1 + 1,1,none⟩) (by show w.heap.size≤w.heap.size + 1 + 1;omega) _)
  have w5s:=Lib.hid (show W5.heap.size = w1.heap.size by rw [hW5];simp)
  rw [← hW5]
  clear hW5
  have r2:=(h5.out (w.heap.size + 1) (by omega)).trans ((b1.out.block (w.heap.size + 1) (by have:=xs.out;omega)).trans x2.out)
  unfold zero11 at r2
  have r2h:=Lib.hid r2
  obtain ⟨p0,p1,p2,p3,p4,p5,p6,p7,p8,p9,p10,pf⟩:=eleven_cells r3
  obtain ⟨q0,q1,q2,q3,q4,q5,q6,q7,q8,q9,q10,qf⟩:=eleven_cells r2
  have hl2:w.heap.size + 1 < W5.heap.size:=(Array.getElem?_eq_some_iff.1 r2).1
  clear r2 r3
  go_wp2_with fail
  obtain ⟨W9,hW9,R9,B9,Z9,K9⟩:=end_op (o:=(⟨1,o.path,o.at_,[],o.id,o.leaf,o.label,[],[],false,[]⟩:Ov)) (s:=⟨A1,n1,c1,none,0,0,none,0,0⟩) (r:=w.heap.size + 1) (by omega) w5b.out r2h.out
  have hW9':W9 = (((((((((((W5.setCell ⟨w.heap.size + 1,0,none⟩ (.int .u8 1)).setCell ⟨w.heap.size + 1,1,none⟩ (.slice A1 n1 c1)).setCell ⟨w.heap.size + 1,2,none⟩ (.int .i64 o.at_)).setCell ⟨w.heap.size + 1,3,none⟩ (.slice none 0 0)).setCell ⟨w.heap.size + 1,4,none⟩ (.int .u64 (o.id:Int))).setCell ⟨w.heap.size + 1,5,none⟩ (.bool o.leaf)).setCell ⟨w.heap.size + 1,6,none⟩ (.string ⟨o.label.toArray⟩)).setCell ⟨w.heap.size + 1,7,none⟩ (.string ⟨#[]⟩)).setCell ⟨w.heap.size + 1,8,none⟩ (.string ⟨#[]⟩)).setCell ⟨w.heap.size + 1,9,none⟩ (.bool false)).setCell ⟨w.heap.size + 1,10,none⟩ (.slice none 0 0)):=hW9
  rw [← hW9']
  clear hW9' hW9
  unfold opCells at R9
  obtain ⟨d0,d1,d2,d3,d4,d5,d6,d7,d8,d9,d10,df⟩:=eleven_cells R9
  refine bodyPost_ret (v:=.agg (opCells (⟨1,o.path,o.at_,[],o.id,o.leaf,o.label,[],[],false,[]⟩:Ov) ⟨A1,n1,c1,none,0,0,none,0,0⟩)) (by simp [results,Try.results105,go_sem,d0,d1,d2,d3,d4,d5,d6,d7,d8,d9,d10,opCells]) rfl ?_
  have kk:∀ k,w.heap.size + 1 + 1 + 1≤k→W9.heap[k]? = w1.heap[k]?:=fun k hk=>(K9 k (by omega)).trans (h5.out k (by omega))
  rw [show bareV o = (⟨1,o.path,o.at_,[],o.id,o.leaf,o.label,[],[],false,[]⟩:Ov) by unfold bareV;simp [hk]]
  refine ⟨_,rfl,⟨own_mono (own_kept V1.out fun k h1 h2=>kk k (Nat.le_trans xs.out h1)) (Nat.le_trans (by omega) xs.out),own_mono (own_kept OT.out fun k h1 h2=>(kk k h1).trans (b1.out.block k h2)) (by omega),own_mono (own_kept OQ.out fun k h1 h2=>(kk k h1).trans (b1.out.block k h2)) (by omega)⟩,B9⟩
set_option maxHeartbeats 4000000 in
theorem bare_k5 (w:World) (o:Ov) (s:OS) (ho:OpIn w o s) (hk:o.kind = 5):Calls Try.prog 105 #[.agg (opCells o s)] w (BareA w (bareV o)):=by
  obtain ⟨z1,z2,z3,z4,z5⟩:=three_new w (.cells (opCells o s) 52) (.cells zero11 52) (.cells #[.int .u8 5,.slice none 0 0,.int .i64 0,.slice none 0 0,.int .u64 0,.bool false,.string ⟨o.label.toArray⟩,.string ⟨#[]⟩,.string ⟨#[]⟩,.bool false,.slice none 0 0] 52)
  obtain ⟨W3,hW3⟩:∃ W3,W3 = ((w.alloc (.cells (opCells o s) 52)).alloc (.cells zero11 52)).alloc (.cells #[.int .u8 5,.slice none 0 0,.int .i64 0,.slice none 0 0,.int .u64 0,.bool false,.string ⟨o.label.toArray⟩,.string ⟨#[]⟩,.string ⟨#[]⟩,.bool false,.slice none 0 0] 52):=⟨_,rfl⟩
  rw [← hW3] at z1 z2 z3 z4 z5
  have hkI:=Lib.hid (show (o.kind:Int) = 5 by omega)
  have ho':=Lib.hid ho
  unfold opCells zero11 at hW3
  unfold opCells
  rw [hkI.out] at hW3 ⊢
  have z1':=Lib.hid z1
  have z2':=Lib.hid z2
  have z3':=Lib.hid z3
  have z4':=Lib.hid z4
  have z5':=Lib.hid z5
  clear ho z1 z2 z3 z4 z5
  go_enter Try.func105,Try.ntmps105
  go_upto_region 17 with fail
  rw [← hW3]
  obtain ⟨X,hX⟩:∃ X,X = W3:=⟨_,rfl⟩
  rw [← hX]
  have bX:=Lib.hid (show Below W3.heap.size W3 X by rw [hX];exact Below.refl _ _)
  clear hX hW3
  have x1:=Lib.hid ((bX.out.block w.heap.size (by have:=z5'.out;omega)).trans z1'.out)
  have x2:=Lib.hid ((bX.out.block (w.heap.size + 1) (by have:=z5'.out;omega)).trans z2'.out)
  have x3:=Lib.hid ((bX.out.block (w.heap.size + 1 + 1) (by have:=z5'.out;omega)).trans z3'.out)
  have xw:=Lib.hid (z4'.out.trans (bX.out.mono z4'.out.size))
  have xs:=Lib.hid (show w.heap.size + 1 + 1 + 1≤X.heap.size by have:=z5'.out;have:=bX.out.size;omega)
  have OT:=Lib.hid (P4.OwnI.nil_ (w.heap.size + 1 + 1 + 1) X)
  have OQ:=Lib.hid (OwnQ.nil_ (w.heap.size + 1 + 1 + 1) X)
  have hcp:=Lib.hid (copied_any X s.pA s.pn s.pc o.path (ho'.out.below xw.out).path ho'.out.pnil ho'.out.pfew)
  unfold P4.NewRow at hcp
  have x1u:=x1.out
  have x3u:=x3.out
  obtain ⟨o0,o1,o2,o3,o4,o5,o6,o7,o8,o9,o10⟩:=op_cells x1u
  obtain ⟨p0,p1,p2,p3,p4,p5,p6,p7,p8,p9,p10,pf⟩:=eleven_cells x3u
  clear x1u x3u
  go_upto_region 18 with (go_at_call 155;(refine hcp.out.mono ?_;rintro e w1 ⟨v1,rfl,hv1,hb1⟩;have V1:=Lib.hid hv1;have b1:=Lib.hid hb1;have y3:=(hb1.block (w.heap.size + 1 + 1) (by have:=xs.out;omega)).trans x3.out;have Y3:=Lib.hid y3;obtain ⟨A1,n1,c1,rfl,-⟩:=P4.OwnI.shape hv1;clear o0 o1 o2 o3 o4 o5 o6 o7 o8 o9 o10 p0 p1 p2 p3 p4 p5 p6 p7 p8 p9 p10 pf hv1 hb1;obtain ⟨p0,p1,p2,p3,p4,p5,p6,p7,p8,p9,p10,pf⟩:=eleven_cells y3;have hl3:w.heap.size + 1 + 1 < w1.heap.size:=(Array.getElem?_eq_some_iff.1 y3).1;clear y3))
  clear p0 p1 p2 p3 p4 p5 p6 p7 p8 p9 p10 pf hcp
  obtain ⟨W5,hW5⟩:∃ W5,W5 = w1.setCell ⟨w.heap.size + 1 + 1,1,none⟩ (.slice A1 n1 c1):=⟨_,rfl⟩
  have r3:W5.heap[w.heap.size + 1 + 1]? = some (.cells #[.int .u8 5,.slice A1 n1 c1,.int .i64 0,.slice none 0 0,.int .u64 0,.bool false,.string ⟨o.label.toArray⟩,.string ⟨#[]⟩,.string ⟨#[]⟩,.bool false,.slice none 0 0] 52 (0,0)):=by rw [hW5,heap_setCell_same w1 _ 1 _ _ _ Y3.out];simp
  have h5:=Lib.hid (show ∀ k,k ≠ w.heap.size + 1 + 1→W5.heap[k]? = w1.heap[k]? by intro k hk;rw [hW5];exact heap_setCell_other _ _ k _ hk)
  have w5b:=Lib.hid (show Below w.heap.size w W5 by rw [hW5];exact (xw.out.trans (b1.out.mono xw.out.size)).setCell (p:=⟨w.heap.size + 1 + 1,1,none⟩) (by show w.heap.size≤w.heap.size + 1 + 1;omega) _)
  have w5s:=Lib.hid (show W5.heap.size = w1.heap.size by rw [hW5];simp)
  rw [← hW5]
  clear hW5
  have r2:=(h5.out (w.heap.size + 1) (by omega)).trans ((b1.out.block (w.heap.size + 1) (by have:=xs.out;omega)).trans x2.out)
  unfold zero11 at r2
  have r2h:=Lib.hid r2
  obtain ⟨p0,p1,p2,p3,p4,p5,p6,p7,p8,p9,p10,pf⟩:=eleven_cells r3
  obtain ⟨q0,q1,q2,q3,q4,q5,q6,q7,q8,q9,q10,qf⟩:=eleven_cells r2
  have hl2:w.heap.size + 1 < W5.heap.size:=(Array.getElem?_eq_some_iff.1 r2).1
  clear r2 r3
  go_wp2_with fail
  obtain ⟨W9,hW9,R9,B9,Z9,K9⟩:=end_op (o:=(⟨5,o.path,0,[],0,false,o.label,[],[],false,[]⟩:Ov)) (s:=⟨A1,n1,c1,none,0,0,none,0,0⟩) (r:=w.heap.size + 1) (by omega) w5b.out r2h.out
  have hW9':W9 = (((((((((((W5.setCell ⟨w.heap.size + 1,0,none⟩ (.int .u8 5)).setCell ⟨w.heap.size + 1,1,none⟩ (.slice A1 n1 c1)).setCell ⟨w.heap.size + 1,2,none⟩ (.int .i64 0)).setCell ⟨w.heap.size + 1,3,none⟩ (.slice none 0 0)).setCell ⟨w.heap.size + 1,4,none⟩ (.int .u64 0)).setCell ⟨w.heap.size + 1,5,none⟩ (.bool false)).setCell ⟨w.heap.size + 1,6,none⟩ (.string ⟨o.label.toArray⟩)).setCell ⟨w.heap.size + 1,7,none⟩ (.string ⟨#[]⟩)).setCell ⟨w.heap.size + 1,8,none⟩ (.string ⟨#[]⟩)).setCell ⟨w.heap.size + 1,9,none⟩ (.bool false)).setCell ⟨w.heap.size + 1,10,none⟩ (.slice none 0 0)):=hW9
  rw [← hW9']
  clear hW9' hW9
  unfold opCells at R9
  obtain ⟨d0,d1,d2,d3,d4,d5,d6,d7,d8,d9,d10,df⟩:=eleven_cells R9
  refine bodyPost_ret (v:=.agg (opCells (⟨5,o.path,0,[],0,false,o.label,[],[],false,[]⟩:Ov) ⟨A1,n1,c1,none,0,0,none,0,0⟩)) (by simp [results,Try.results105,go_sem,d0,d1,d2,d3,d4,d5,d6,d7,d8,d9,d10,opCells]) rfl ?_
  have kk:∀ k,w.heap.size + 1 + 1 + 1≤k→W9.heap[k]? = w1.heap[k]?:=fun k hk=>(K9 k (by omega)).trans (h5.out k (by omega))
  rw [show bareV o = (⟨5,o.path,0,[],0,false,o.label,[],[],false,[]⟩:Ov) by unfold bareV;simp [hk]]
  refine ⟨_,rfl,⟨own_mono (own_kept V1.out fun k h1 h2=>kk k (Nat.le_trans xs.out h1)) (Nat.le_trans (by omega) xs.out),own_mono (own_kept OT.out fun k h1 h2=>(kk k h1).trans (b1.out.block k h2)) (by omega),own_mono (own_kept OQ.out fun k h1 h2=>(kk k h1).trans (b1.out.block k h2)) (by omega)⟩,B9⟩
set_option maxHeartbeats 4000000 in
theorem bare_k4 (w:World) (o:Ov) (s:OS) (ho:OpIn w o s) (hk:o.kind = 4) (hg:o.gone = false):Calls Try.prog 105 #[.agg (opCells o s)] w (BareA w (bareV o)):=by
  obtain ⟨z1,z2,z3,z4,z5⟩:=three_new w (.cells (opCells o s) 52) (.cells zero11 52) (.cells #[.int .u8 4,.slice none 0 0,.int .i64 0,.slice none 0 0,.int .u64 0,.bool false,.string ⟨#[]⟩,.string ⟨o.key.toArray⟩,.string ⟨o.value.toArray⟩,.bool false,.slice none 0 0] 52)
  obtain ⟨W3,hW3⟩:∃ W3,W3 = ((w.alloc (.cells (opCells o s) 52)).alloc (.cells zero11 52)).alloc (.cells #[.int .u8 4,.slice none 0 0,.int .i64 0,.slice none 0 0,.int .u64 0,.bool false,.string ⟨#[]⟩,.string ⟨o.key.toArray⟩,.string ⟨o.value.toArray⟩,.bool false,.slice none 0 0] 52):=⟨_,rfl⟩
  rw [← hW3] at z1 z2 z3 z4 z5
  have hkI:=Lib.hid (show (o.kind:Int) = 4 by omega)
  have ho':=Lib.hid ho
  have hg':=Lib.hid hg
  unfold opCells zero11 at hW3
  unfold opCells
  rw [hkI.out,hg] at hW3 ⊢
  have z1':=Lib.hid z1
  have z2':=Lib.hid z2
  have z3':=Lib.hid z3
  have z4':=Lib.hid z4
  have z5':=Lib.hid z5
  clear ho z1 z2 z3 z4 z5
  go_enter Try.func105,Try.ntmps105
  go_upto_region 10 with fail
  go_region
  go_upto_region 17 with fail
  rw [← hW3]
  obtain ⟨X,hX⟩:∃ X,X = W3.drew:=⟨_,rfl⟩
  rw [← hX]
  have bX:=Lib.hid (show Below W3.heap.size W3 X by rw [hX];exact (Below.refl _ _).drew)
  clear hX hW3
  have x1:=Lib.hid ((bX.out.block w.heap.size (by have:=z5'.out;omega)).trans z1'.out)
  have x2:=Lib.hid ((bX.out.block (w.heap.size + 1) (by have:=z5'.out;omega)).trans z2'.out)
  have x3:=Lib.hid ((bX.out.block (w.heap.size + 1 + 1) (by have:=z5'.out;omega)).trans z3'.out)
  have xw:=Lib.hid (z4'.out.trans (bX.out.mono z4'.out.size))
  have xs:=Lib.hid (show w.heap.size + 1 + 1 + 1≤X.heap.size by have:=z5'.out;have:=bX.out.size;omega)
  have OT:=Lib.hid (P4.OwnI.nil_ (w.heap.size + 1 + 1 + 1) X)
  have OQ:=Lib.hid (OwnQ.nil_ (w.heap.size + 1 + 1 + 1) X)
  have hcp:=Lib.hid (copied_any X s.pA s.pn s.pc o.path (ho'.out.below xw.out).path ho'.out.pnil ho'.out.pfew)
  unfold P4.NewRow at hcp
  have x1u:=x1.out
  have x3u:=x3.out
  obtain ⟨o0,o1,o2,o3,o4,o5,o6,o7,o8,o9,o10⟩:=op_cells x1u
  obtain ⟨p0,p1,p2,p3,p4,p5,p6,p7,p8,p9,p10,pf⟩:=eleven_cells x3u
  clear x1u x3u
  go_upto_region 18 with (go_at_call 155;(refine hcp.out.mono ?_;rintro e w1 ⟨v1,rfl,hv1,hb1⟩;have V1:=Lib.hid hv1;have b1:=Lib.hid hb1;have y3:=(hb1.block (w.heap.size + 1 + 1) (by have:=xs.out;omega)).trans x3.out;have Y3:=Lib.hid y3;obtain ⟨A1,n1,c1,rfl,-⟩:=P4.OwnI.shape hv1;clear o0 o1 o2 o3 o4 o5 o6 o7 o8 o9 o10 p0 p1 p2 p3 p4 p5 p6 p7 p8 p9 p10 pf hv1 hb1;obtain ⟨p0,p1,p2,p3,p4,p5,p6,p7,p8,p9,p10,pf⟩:=eleven_cells y3;have hl3:w.heap.size + 1 + 1 < w1.heap.size:=(Array.getElem?_eq_some_iff.1 y3).1;clear y3))
  clear p0 p1 p2 p3 p4 p5 p6 p7 p8 p9 p10 pf hcp
  obtain ⟨W5,hW5⟩:∃ W5,W5 = w1.setCell ⟨w.heap.size + 1 + 1,1,none⟩ (.slice A1 n1 c1):=⟨_,rfl⟩
  have r3:W5.heap[w.heap.size + 1 + 1]? = some (.cells #[.int .u8 4,.slice A1 n1 c1,.int .i64 0,.slice none 0 0,.int .u64 0,.bool false,.string ⟨#[]⟩,.string ⟨o.key.toArray⟩,.string ⟨o.value.toArray⟩,.bool false,.slice none 0 0] 52 (0,0)):=by rw [hW5,heap_setCell_same w1 _ 1 _ _ _ Y3.out];simp
  have h5:=Lib.hid (show ∀ k,k ≠ w.heap.size + 1 + 1→W5.heap[k]? = w1.heap[k]? by intro k hk;rw [hW5];exact heap_setCell_other _ _ k _ hk)
  have w5b:=Lib.hid (show Below w.heap.size w W5 by rw [hW5];exact (xw.out.trans (b1.out.mono xw.out.size)).setCell (p:=⟨w.heap.size + 1 + 1,1,none⟩) (by show w.heap.size≤w.heap.size + 1 + 1;omega) _)
  have w5s:=Lib.hid (show W5.heap.size = w1.heap.size by rw [hW5];simp)
  rw [← hW5]
  clear hW5
  have r2:=(h5.out (w.heap.size + 1) (by omega)).trans ((b1.out.block (w.heap.size + 1) (by have:=xs.out;omega)).trans x2.out)
  unfold zero11 at r2
  have r2h:=Lib.hid r2
  obtain ⟨p0,p1,p2,p3,p4,p5,p6,p7,p8,p9,p10,pf⟩:=eleven_cells r3
  obtain ⟨q0,q1,q2,q3,q4,q5,q6,q7,q8,q9,q10,qf⟩:=eleven_cells r2
  have hl2:w.heap.size + 1 < W5.heap.size:=(Array.getElem?_eq_some_iff.1 r2).1
  clear r2 r3
  go_wp2_with fail
  obtain ⟨W9,hW9,R9,B9,Z9,K9⟩:=end_op (o:=(⟨4,o.path,0,[],0,false,[],o.key,o.value,false,[]⟩:Ov)) (s:=⟨A1,n1,c1,none,0,0,none,0,0⟩) (r:=w.heap.size + 1) (by omega) w5b.out r2h.out
  have hW9':W9 = (((((((((((W5.setCell ⟨w.heap.size + 1,0,none⟩ (.int .u8 4)).setCell ⟨w.heap.size + 1,1,none⟩ (.slice A1 n1 c1)).setCell ⟨w.heap.size + 1,2,none⟩ (.int .i64 0)).setCell ⟨w.heap.size + 1,3,none⟩ (.slice none 0 0)).setCell ⟨w.heap.size + 1,4,none⟩ (.int .u64 0)).setCell ⟨w.heap.size + 1,5,none⟩ (.bool false)).setCell ⟨w.heap.size + 1,6,none⟩ (.string ⟨#[]⟩)).setCell ⟨w.heap.size + 1,7,none⟩ (.string ⟨o.key.toArray⟩)).setCell ⟨w.heap.size + 1,8,none⟩ (.string ⟨o.value.toArray⟩)).setCell ⟨w.heap.size + 1,9,none⟩ (.bool false)).setCell ⟨w.heap.size + 1,10,none⟩ (.slice none 0 0)):=hW9
  rw [← hW9']
  clear hW9' hW9
  unfold opCells at R9
  obtain ⟨d0,d1,d2,d3,d4,d5,d6,d7,d8,d9,d10,df⟩:=eleven_cells R9
  refine bodyPost_ret (v:=.agg (opCells (⟨4,o.path,0,[],0,false,[],o.key,o.value,false,[]⟩:Ov) ⟨A1,n1,c1,none,0,0,none,0,0⟩)) (by simp [results,Try.results105,go_sem,d0,d1,d2,d3,d4,d5,d6,d7,d8,d9,d10,opCells]) rfl ?_
  have kk:∀ k,w.heap.size + 1 + 1 + 1≤k→W9.heap[k]? = w1.heap[k]?:=fun k hk=>(K9 k (by omega)).trans (h5.out k (by omega))
  rw [show bareV o = (⟨4,o.path,0,[],0,false,[],o.key,o.value,false,[]⟩:Ov) by unfold bareV;simp [hk,hg]]
  refine ⟨_,rfl,⟨own_mono (own_kept V1.out fun k h1 h2=>kk k (Nat.le_trans xs.out h1)) (Nat.le_trans (by omega) xs.out),own_mono (own_kept OT.out fun k h1 h2=>(kk k h1).trans (b1.out.block k h2)) (by omega),own_mono (own_kept OQ.out fun k h1 h2=>(kk k h1).trans (b1.out.block k h2)) (by omega)⟩,B9⟩
set_option maxHeartbeats 4000000 in
theorem bare_k4g (w:World) (o:Ov) (s:OS) (ho:OpIn w o s) (hk:o.kind = 4) (hg:o.gone = true):Calls Try.prog 105 #[.agg (opCells o s)] w (BareA w (bareV o)):=by
  obtain ⟨z1,z2,z3,z4,z5⟩:=three_new w (.cells (opCells o s) 52) (.cells zero11 52) (.cells #[.int .u8 4,.slice none 0 0,.int .i64 0,.slice none 0 0,.int .u64 0,.bool false,.string ⟨#[]⟩,.string ⟨o.key.toArray⟩,.string ⟨#[]⟩,.bool true,.slice none 0 0] 52)
  obtain ⟨W3,hW3⟩:∃ W3,W3 = ((w.alloc (.cells (opCells o s) 52)).alloc (.cells zero11 52)).alloc (.cells #[.int .u8 4,.slice none 0 0,.int .i64 0,.slice none 0 0,.int .u64 0,.bool false,.string ⟨#[]⟩,.string ⟨o.key.toArray⟩,.string ⟨#[]⟩,.bool true,.slice none 0 0] 52):=⟨_,rfl⟩
  rw [← hW3] at z1 z2 z3 z4 z5
  have hkI:=Lib.hid (show (o.kind:Int) = 4 by omega)
  have ho':=Lib.hid ho
  have hg':=Lib.hid hg
  unfold opCells zero11 at hW3
  unfold opCells
  rw [hkI.out,hg] at hW3 ⊢
  have z1':=Lib.hid z1
  have z2':=Lib.hid z2
  have z3':=Lib.hid z3
  have z4':=Lib.hid z4
  have z5':=Lib.hid z5
  clear ho z1 z2 z3 z4 z5
  go_enter Try.func105,Try.ntmps105
  go_upto_region 10 with fail
  go_region
  go_upto_region 17 with fail
  rw [← hW3]
  obtain ⟨X,hX⟩:∃ X,X = W3.drew:=⟨_,rfl⟩
  rw [← hX]
  have bX:=Lib.hid (show Below W3.heap.size W3 X by rw [hX];exact (Below.refl _ _).drew)
  clear hX hW3
  have x1:=Lib.hid ((bX.out.block w.heap.size (by have:=z5'.out;omega)).trans z1'.out)
  have x2:=Lib.hid ((bX.out.block (w.heap.size + 1) (by have:=z5'.out;omega)).trans z2'.out)
  have x3:=Lib.hid ((bX.out.block (w.heap.size + 1 + 1) (by have:=z5'.out;omega)).trans z3'.out)
  have xw:=Lib.hid (z4'.out.trans (bX.out.mono z4'.out.size))
  have xs:=Lib.hid (show w.heap.size + 1 + 1 + 1≤X.heap.size by have:=z5'.out;have:=bX.out.size;omega)
  have OT:=Lib.hid (P4.OwnI.nil_ (w.heap.size + 1 + 1 + 1) X)
  have OQ:=Lib.hid (OwnQ.nil_ (w.heap.size + 1 + 1 + 1) X)
  have hcp:=Lib.hid (copied_any X s.pA s.pn s.pc o.path (ho'.out.below xw.out).path ho'.out.pnil ho'.out.pfew)
  unfold P4.NewRow at hcp
  have x1u:=x1.out
  have x3u:=x3.out
  obtain ⟨o0,o1,o2,o3,o4,o5,o6,o7,o8,o9,o10⟩:=op_cells x1u
  obtain ⟨p0,p1,p2,p3,p4,p5,p6,p7,p8,p9,p10,pf⟩:=eleven_cells x3u
  clear x1u x3u
  go_upto_region 18 with (go_at_call 155;(refine hcp.out.mono ?_;rintro e w1 ⟨v1,rfl,hv1,hb1⟩;have V1:=Lib.hid hv1;have b1:=Lib.hid hb1;have y3:=(hb1.block (w.heap.size + 1 + 1) (by have:=xs.out;omega)).trans x3.out;have Y3:=Lib.hid y3;obtain ⟨A1,n1,c1,rfl,-⟩:=P4.OwnI.shape hv1;clear o0 o1 o2 o3 o4 o5 o6 o7 o8 o9 o10 p0 p1 p2 p3 p4 p5 p6 p7 p8 p9 p10 pf hv1 hb1;obtain ⟨p0,p1,p2,p3,p4,p5,p6,p7,p8,p9,p10,pf⟩:=eleven_cells y3;have hl3:w.heap.size + 1 + 1 < w1.heap.size:=(Array.getElem?_eq_some_iff.1 y3).1;clear y3))
  clear p0 p1 p2 p3 p4 p5 p6 p7 p8 p9 p10 pf hcp
  obtain ⟨W5,hW5⟩:∃ W5,W5 = w1.setCell ⟨w.heap.size + 1 + 1,1,none⟩ (.slice A1 n1 c1):=⟨_,rfl⟩
  have r3:W5.heap[w.heap.size + 1 + 1]? = some (.cells #[.int .u8 4,.slice A1 n1 c1,.int .i64 0,.slice none 0 0,.int .u64 0,.bool false,.string ⟨#[]⟩,.string ⟨o.key.toArray⟩,.string ⟨#[]⟩,.bool true,.slice none 0 0] 52 (0,0)):=by rw [hW5,heap_setCell_same w1 _ 1 _ _ _ Y3.out];simp
  have h5:=Lib.hid (show ∀ k,k ≠ w.heap.size + 1 + 1→W5.heap[k]? = w1.heap[k]? by intro k hk;rw [hW5];exact heap_setCell_other _ _ k _ hk)
  have w5b:=Lib.hid (show Below w.heap.size w W5 by rw [hW5];exact (xw.out.trans (b1.out.mono xw.out.size)).setCell (p:=⟨w.heap.size + 1 + 1,1,none⟩) (by show w.heap.size≤w.heap.size + 1 + 1;omega) _)
  have w5s:=Lib.hid (show W5.heap.size = w1.heap.size by rw [hW5];simp)
  rw [← hW5]
  clear hW5
  have r2:=(h5.out (w.heap.size + 1) (by omega)).trans ((b1.out.block (w.heap.size + 1) (by have:=xs.out;omega)).trans x2.out)
  unfold zero11 at r2
  have r2h:=Lib.hid r2
  obtain ⟨p0,p1,p2,p3,p4,p5,p6,p7,p8,p9,p10,pf⟩:=eleven_cells r3
  obtain ⟨q0,q1,q2,q3,q4,q5,q6,q7,q8,q9,q10,qf⟩:=eleven_cells r2
  have hl2:w.heap.size + 1 < W5.heap.size:=(Array.getElem?_eq_some_iff.1 r2).1
  clear r2 r3
  go_wp2_with fail
  obtain ⟨W9,hW9,R9,B9,Z9,K9⟩:=end_op (o:=(⟨4,o.path,0,[],0,false,[],o.key,[],true,[]⟩:Ov)) (s:=⟨A1,n1,c1,none,0,0,none,0,0⟩) (r:=w.heap.size + 1) (by omega) w5b.out r2h.out
  have hW9':W9 = (((((((((((W5.setCell ⟨w.heap.size + 1,0,none⟩ (.int .u8 4)).setCell ⟨w.heap.size + 1,1,none⟩ (.slice A1 n1 c1)).setCell ⟨w.heap.size + 1,2,none⟩ (.int .i64 0)).setCell ⟨w.heap.size + 1,3,none⟩ (.slice none 0 0)).setCell ⟨w.heap.size + 1,4,none⟩ (.int .u64 0)).setCell ⟨w.heap.size + 1,5,none⟩ (.bool false)).setCell ⟨w.heap.size + 1,6,none⟩ (.string ⟨#[]⟩)).setCell ⟨w.heap.size + 1,7,none⟩ (.string ⟨o.key.toArray⟩)).setCell ⟨w.heap.size + 1,8,none⟩ (.string ⟨#[]⟩)).setCell ⟨w.heap.size + 1,9,none⟩ (.bool true)).setCell ⟨w.heap.size + 1,10,none⟩ (.slice none 0 0)):=hW9
  rw [← hW9']
  clear hW9' hW9
  unfold opCells at R9
  obtain ⟨d0,d1,d2,d3,d4,d5,d6,d7,d8,d9,d10,df⟩:=eleven_cells R9
  refine bodyPost_ret (v:=.agg (opCells (⟨4,o.path,0,[],0,false,[],o.key,[],true,[]⟩:Ov) ⟨A1,n1,c1,none,0,0,none,0,0⟩)) (by simp [results,Try.results105,go_sem,d0,d1,d2,d3,d4,d5,d6,d7,d8,d9,d10,opCells]) rfl ?_
  have kk:∀ k,w.heap.size + 1 + 1 + 1≤k→W9.heap[k]? = w1.heap[k]?:=fun k hk=>(K9 k (by omega)).trans (h5.out k (by omega))
  rw [show bareV o = (⟨4,o.path,0,[],0,false,[],o.key,[],true,[]⟩:Ov) by unfold bareV;simp [hk,hg]]
  refine ⟨_,rfl,⟨own_mono (own_kept V1.out fun k h1 h2=>kk k (Nat.le_trans xs.out h1)) (Nat.le_trans (by omega) xs.out),own_mono (own_kept OT.out fun k h1 h2=>(kk k h1).trans (b1.out.block k h2)) (by omega),own_mono (own_kept OQ.out fun k h1 h2=>(kk k h1).trans (b1.out.block k h2)) (by omega)⟩,B9⟩
end Go.Proofs.Ytidimannfemnmaa.Top
namespace Go.Proofs.Ytidimannfemnmaa.Top
open Go.RowKit
set_option maxRecDepth 20000

set_option maxHeartbeats 4000000 in
theorem bare_k6 (w:World) (o:Ov) (s:OS) (ho:OpIn w o s) (hk:o.kind = 6):Calls Try.prog 105 #[.agg (opCells o s)] w (BareA w (bareV o)):=by
  obtain ⟨z1,z2,z3,z4,z5⟩:=three_new w (.cells (opCells o s) 52) (.cells zero11 52) (.cells #[.int .u8 6,.slice none 0 0,.int .i64 0,.slice none 0 0,.int .u64 0,.bool false,.string ⟨#[]⟩,.string ⟨#[]⟩,.string ⟨#[]⟩,.bool false,.slice none 0 0] 52)
  obtain ⟨W3,hW3⟩:∃ W3,W3 = ((w.alloc (.cells (opCells o s) 52)).alloc (.cells zero11 52)).alloc (.cells #[.int .u8 6,.slice none 0 0,.int .i64 0,.slice none 0 0,.int .u64 0,.bool false,.string ⟨#[]⟩,.string ⟨#[]⟩,.string ⟨#[]⟩,.bool false,.slice none 0 0] 52):=⟨_,rfl⟩
  rw [← hW3] at z1 z2 z3 z4 z5
  have hkI:=Lib.hid (show (o.kind:Int) = 6 by omega)
  have ho':=Lib.hid ho
  unfold opCells zero11 at hW3
  unfold opCells
  rw [hkI.out] at hW3 ⊢
  have z1':=Lib.hid z1
  have z2':=Lib.hid z2
  have z3':=Lib.hid z3
  have z4':=Lib.hid z4
  have z5':=Lib.hid z5
  clear ho z1 z2 z3 z4 z5
  go_enter Try.func105,Try.ntmps105
  have hpc:=Lib.hid (ho'.out.pieces.below z4'.out)
  go_upto_region 16 with fail
  rw [← hW3]
  clear hW3
  have o1u:=z1'.out
  have o3u:=z3'.out
  obtain ⟨o0,o1,o2,o3,o4,o5,o6,o7,o8,o9,o10⟩:=op_cells o1u
  obtain ⟨p0,p1,p2,p3,p4,p5,p6,p7,p8,p9,p10,pf⟩:=eleven_cells o3u
  clear o1u o3u
  go_upto_region 17 with (at_builtin;(refine wpList_append_pcs rfl _ (.tmp 57) rfl (w.heap.size + 1 + 1 + 1) (.slice none 0 0) [] o.pieces rfl (OwnQ.nil_ _ _) s.qA s.qn s.qc rfl hpc.out ho'.out.qnil (by have h7:=hpc.out.1;have h8:=ho'.out.qfew;simp only [List.length_nil];omega) (by have:=z5'.out;omega) ?_;intro v1 w1 ho1 hg1 hat1;have hb1:=P4.grown_nil hg1;have B1:=Lib.hid hb1;have V1:=Lib.hid ho1;obtain ⟨A6,n6,c6,rfl,-⟩:=OwnQ.shape ho1 (pcs_ok hpc.out);have y3:=(hb1.block (w.heap.size + 1 + 1) (by have:=z5'.out;omega)).trans z3'.out;have Y3:=Lib.hid y3;clear o0 o1 o2 o3 o4 o5 o6 o7 o8 o9 o10 p0 p1 p2 p3 p4 p5 p6 p7 p8 p9 p10 pf ho1 hg1 hat1 hb1;obtain ⟨p0,p1,p2,p3,p4,p5,p6,p7,p8,p9,p10,pf⟩:=eleven_cells y3;have hl3:w.heap.size + 1 + 1 < w1.heap.size:=(Array.getElem?_eq_some_iff.1 y3).1;clear y3))
  clear p0 p1 p2 p3 p4 p5 p6 p7 p8 p9 p10 pf
  obtain ⟨X,hX⟩:∃ X,X = w1.setCell ⟨w.heap.size + 1 + 1,10,none⟩ (.slice A6 n6 c6):=⟨_,rfl⟩
  have x3:=Lib.hid (show X.heap[w.heap.size + 1 + 1]? = some (.cells #[.int .u8 6,.slice none 0 0,.int .i64 0,.slice none 0 0,.int .u64 0,.bool false,.string ⟨#[]⟩,.string ⟨#[]⟩,.string ⟨#[]⟩,.bool false,.slice A6 n6 c6] 52 (0,0)) by rw [hX,heap_setCell_same w1 _ 10 _ _ _ Y3.out];simp)
  have hk5:=Lib.hid (show ∀ k,k ≠ w.heap.size + 1 + 1→X.heap[k]? = w1.heap[k]? by intro k hk;rw [hX];exact heap_setCell_other _ _ k _ hk)
  have xw:=Lib.hid (show Below w.heap.size w X by rw [hX];exact (z4'.out.trans (B1.out.mono z4'.out.size)).setCell (p:=⟨w.heap.size + 1 + 1,10,none⟩) (by show w.heap.size≤w.heap.size + 1 + 1;omega) _)
  have xs:=Lib.hid (show w.heap.size + 1 + 1 + 1≤X.heap.size by rw [hX];simp;have:=z5'.out;have:=B1.out.size;omega)
  rw [← hX]
  clear hX
  have x1:=Lib.hid ((hk5.out w.heap.size (by omega)).trans ((B1.out.block w.heap.size (by have:=z5'.out;omega)).trans z1'.out))
  have x2:=Lib.hid ((hk5.out (w.heap.size + 1) (by omega)).trans ((B1.out.block (w.heap.size + 1) (by have:=z5'.out;omega)).trans z2'.out))
  have OT:=Lib.hid (P4.OwnI.nil_ (w.heap.size + 1 + 1 + 1) X)
  have OQ:=Lib.hid (own_kept (w':=X) V1.out fun k h1 h2=>hk5.out k (by omega))
  have hcp:=Lib.hid (copied_any X s.pA s.pn s.pc o.path (ho'.out.below xw.out).path ho'.out.pnil ho'.out.pfew)
  unfold P4.NewRow at hcp
  have x1u:=x1.out
  have x3u:=x3.out
  obtain ⟨o0,o1,o2,o3,o4,o5,o6,o7,o8,o9,o10⟩:=op_cells x1u
  obtain ⟨p0,p1,p2,p3,p4,p5,p6,p7,p8,p9,p10,pf⟩:=eleven_cells x3u
  clear x1u x3u
  go_upto_region 18 with (go_at_call 155;(refine hcp.out.mono ?_;rintro e w1 ⟨v1,rfl,hv1,hb1⟩;have V1:=Lib.hid hv1;have b1:=Lib.hid hb1;have y3:=(hb1.block (w.heap.size + 1 + 1) (by have:=xs.out;omega)).trans x3.out;have Y3:=Lib.hid y3;obtain ⟨A1,n1,c1,rfl,-⟩:=P4.OwnI.shape hv1;clear o0 o1 o2 o3 o4 o5 o6 o7 o8 o9 o10 p0 p1 p2 p3 p4 p5 p6 p7 p8 p9 p10 pf hv1 hb1;obtain ⟨p0,p1,p2,p3,p4,p5,p6,p7,p8,p9,p10,pf⟩:=eleven_cells y3;have hl3:w.heap.size + 1 + 1 < w1.heap.size:=(Array.getElem?_eq_some_iff.1 y3).1;clear y3))
  clear p0 p1 p2 p3 p4 p5 p6 p7 p8 p9 p10 pf hcp
  obtain ⟨W5,hW5⟩:∃ W5,W5 = w1.setCell ⟨w.heap.size + 1 + 1,1,none⟩ (.slice A1 n1 c1):=⟨_,rfl⟩
  have r3:W5.heap[w.heap.size + 1 + 1]? = some (.cells #[.int .u8 6,.slice A1 n1 c1,.int .i64 0,.slice none 0 0,.int .u64 0,.bool false,.string ⟨#[]⟩,.string ⟨#[]⟩,.string ⟨#[]⟩,.bool false,.slice A6 n6 c6] 52 (0,0)):=by rw [hW5,heap_setCell_same w1 _ 1 _ _ _ Y3.out];simp
  have h5:=Lib.hid (show ∀ k,k ≠ w.heap.size + 1 + 1→W5.heap[k]? = w1.heap[k]? by intro k hk;rw [hW5];exact heap_setCell_other _ _ k _ hk)
  have w5b:=Lib.hid (show Below w.heap.size w W5 by rw [hW5];exact (xw.out.trans (b1.out.mono xw.out.size)).setCell (p:=⟨w.heap.size + 1 + 1,1,none⟩) (by show w.heap.size≤w.heap.size + 1 + 1;omega) _)
  have w5s:=Lib.hid (show W5.heap.size = w1.heap.size by rw [hW5];simp)
  rw [← hW5]
  clear hW5
  have r2:=(h5.out (w.heap.size + 1) (by omega)).trans ((b1.out.block (w.heap.size + 1) (by have:=xs.out;omega)).trans x2.out)
  unfold zero11 at r2
  have r2h:=Lib.hid r2
  obtain ⟨p0,p1,p2,p3,p4,p5,p6,p7,p8,p9,p10,pf⟩:=eleven_cells r3
  obtain ⟨q0,q1,q2,q3,q4,q5,q6,q7,q8,q9,q10,qf⟩:=eleven_cells r2
  have hl2:w.heap.size + 1 < W5.heap.size:=(Array.getElem?_eq_some_iff.1 r2).1
  clear r2 r3
  go_wp2_with fail
  obtain ⟨W9,hW9,R9,B9,Z9,K9⟩:=end_op (o:=(⟨6,o.path,0,[],0,false,[],[],[],false,o.pieces⟩:Ov)) (s:=⟨A1,n1,c1,none,0,0,A6,n6,c6⟩) (r:=w.heap.size + 1) (by omega) w5b.out r2h.out
  have hW9':W9 = (((((((((((W5.setCell ⟨w.heap.size + 1,0,none⟩ (.int .u8 6)).setCell ⟨w.heap.size + 1,1,none⟩ (.slice A1 n1 c1)).setCell ⟨w.heap.size + 1,2,none⟩ (.int .i64 0)).setCell ⟨w.heap.size + 1,3,none⟩ (.slice none 0 0)).setCell ⟨w.heap.size + 1,4,none⟩ (.int .u64 0)).setCell ⟨w.heap.size + 1,5,none⟩ (.bool false)).setCell ⟨w.heap.size + 1,6,none⟩ (.string ⟨#[]⟩)).setCell ⟨w.heap.size + 1,7,none⟩ (.string ⟨#[]⟩)).setCell ⟨w.heap.size + 1,8,none⟩ (.string ⟨#[]⟩)).setCell ⟨w.heap.size + 1,9,none⟩ (.bool false)).setCell ⟨w.heap.size + 1,10,none⟩ (.slice A6 n6 c6)):=hW9
  rw [← hW9']
  clear hW9' hW9
  unfold opCells at R9
  obtain ⟨d0,d1,d2,d3,d4,d5,d6,d7,d8,d9,d10,df⟩:=eleven_cells R9
  refine bodyPost_ret (v:=.agg (opCells (⟨6,o.path,0,[],0,false,[],[],[],false,o.pieces⟩:Ov) ⟨A1,n1,c1,none,0,0,A6,n6,c6⟩)) (by simp [results,Try.results105,go_sem,d0,d1,d2,d3,d4,d5,d6,d7,d8,d9,d10,opCells]) rfl ?_
  have kk:∀ k,w.heap.size + 1 + 1 + 1≤k→W9.heap[k]? = w1.heap[k]?:=fun k hk=>(K9 k (by omega)).trans (h5.out k (by omega))
  rw [show bareV o = (⟨6,o.path,0,[],0,false,[],[],[],false,o.pieces⟩:Ov) by unfold bareV;simp [hk]]
  refine ⟨_,rfl,⟨own_mono (own_kept V1.out fun k h1 h2=>kk k (Nat.le_trans xs.out h1)) (Nat.le_trans (by omega) xs.out),own_mono (own_kept OT.out fun k h1 h2=>(kk k h1).trans (b1.out.block k h2)) (by omega),own_mono (own_kept OQ.out fun k h1 h2=>(kk k h1).trans (b1.out.block k h2)) (by omega)⟩,B9⟩
set_option maxHeartbeats 4000000 in
theorem bare_k3 (w:World) (o:Ov) (s:OS) (ho:OpIn w o s) (hk:o.kind = 3):Calls Try.prog 105 #[.agg (opCells o s)] w (BareA w (bareV o)):=by
  obtain ⟨z1,z2,z3,z4,z5⟩:=three_new w (.cells (opCells o s) 52) (.cells zero11 52) (.cells #[.int .u8 3,.slice none 0 0,.int .i64 0,.slice none 0 0,.int .u64 0,.bool false,.string ⟨#[]⟩,.string ⟨#[]⟩,.string ⟨#[]⟩,.bool false,.slice none 0 0] 52)
  obtain ⟨W3,hW3⟩:∃ W3,W3 = ((w.alloc (.cells (opCells o s) 52)).alloc (.cells zero11 52)).alloc (.cells #[.int .u8 3,.slice none 0 0,.int .i64 0,.slice none 0 0,.int .u64 0,.bool false,.string ⟨#[]⟩,.string ⟨#[]⟩,.string ⟨#[]⟩,.bool false,.slice none 0 0] 52):=⟨_,rfl⟩
  rw [← hW3] at z1 z2 z3 z4 z5
  have hkI:=Lib.hid (show (o.kind:Int) = 3 by omega)
  have ho':=Lib.hid ho
  unfold opCells zero11 at hW3
  unfold opCells
  rw [hkI.out] at hW3 ⊢
  have z1':=Lib.hid z1
  have z2':=Lib.hid z2
  have z3':=Lib.hid z3
  have z4':=Lib.hid z4
  have z5':=Lib.hid z5
  clear ho z1 z2 z3 z4 z5
  go_enter Try.func105,Try.ntmps105
  have hcp:=Lib.hid (fun (W:World) (hb:Below w.heap.size w W)=>copied_any W s.tA s.tn s.tc o.to_ (ho'.out.below hb).to_ ho'.out.tnil ho'.out.tfew)
  unfold P4.NewRow at hcp
  go_upto_region 8 with fail
  rw [← hW3]
  clear hW3
  rename_i K0 hK0
  refine Top.wp_region_L (fun W=>Below w.heap.size w W∧W.heap[w.heap.size]? = some (.cells (opCells o s) 52 (0,0))) 8 rfl (⟨z4'.out.drew,z1'.out⟩) (fun hHeld=>?_)
  refine Top.wpAnyL_take (i:=0) (v:=?_) rfl (by kernel_rfl) (by kernel_rfl) (by kernel_rfl) (by kernel_rfl) (fun _ _ _ h=>h) (Or.inl ⟨by rfl,?_⟩) hHeld ?_
  rotate_left 1
  · intro W hSw;obtain ⟨o0,o1,o2,o3,o4,o5,o6,o7,o8,o9,o10⟩:=op_cells hSw.2;go_simp;try with_reducible rfl
  try simp only [Act.put,zA,zB,zC]
  refine Top.wpAnyL_take (i:=1) (v:=?_) rfl (by kernel_rfl) (by kernel_rfl) (by kernel_rfl) (by kernel_rfl) (fun _ _ _ h=>h) (Or.inl ⟨by rfl,?_⟩) hHeld ?_
  rotate_left 1
  · intro W hSw;obtain ⟨o0,o1,o2,o3,o4,o5,o6,o7,o8,o9,o10⟩:=op_cells hSw.2;go_simp;try with_reducible rfl
  try simp only [Act.put,zA,zB,zC]
  refine Top.wpAnyL_take (i:=3) (v:=?_) rfl (by kernel_rfl) (by kernel_rfl) (by kernel_rfl) (by kernel_rfl) (fun _ _ _ h=>h) (Or.inl ⟨by rfl,?_⟩) hHeld ?_
  rotate_left 1
  · intro W hSw;obtain ⟨o0,o1,o2,o3,o4,o5,o6,o7,o8,o9,o10⟩:=op_cells hSw.2;go_simp;try with_reducible rfl
  try simp only [Act.put,zA,zB,zC]
  refine Top.wpAnyL_take (i:=4) (v:=?_) rfl (by kernel_rfl) (by kernel_rfl) (by kernel_rfl) (by kernel_rfl) (fun _ _ _ h=>h) (Or.inl ⟨by rfl,?_⟩) hHeld ?_
  rotate_left 1
  · intro W hSw;obtain ⟨o0,o1,o2,o3,o4,o5,o6,o7,o8,o9,o10⟩:=op_cells hSw.2;go_simp;try with_reducible rfl
  try simp only [Act.put,zA,zB,zC]
  obtain ⟨Xd,hXd⟩:∃ X,X = W3.drew:=⟨_,rfl⟩
  have bd:=Lib.hid (show Below W3.heap.size W3 Xd by rw [hXd];exact (Below.refl _ _).drew)
  rw [← hXd] at hHeld ⊢
  clear hXd
  refine Top.wpAnyL_one (i:=2) (by kernel_rfl) rfl (by decide) (fun K hK=>?_)
  go_simp
  refine (hcp.out Xd hHeld.1).mono ?_
  rintro e w1 ⟨v1,rfl,ho1,hb1⟩
  have B1:=Lib.hid (bd.out.trans (hb1.mono bd.out.size))
  have V1:=Lib.hid (own_mono (base':=w.heap.size + 1 + 1 + 1) ho1 (by have:=bd.out.size;have:=z5'.out;omega))
  obtain ⟨A6,n6,c6,rfl,-⟩:=P4.OwnI.shape ho1
  have y3:=(B1.out.block (w.heap.size + 1 + 1) (by have:=z5'.out;omega)).trans z3'.out
  have Y3:=Lib.hid y3
  have nW1:=(⟨z4'.out.trans (B1.out.mono z4'.out.size),(B1.out.block w.heap.size (by have:=z5'.out;omega)).trans z1'.out⟩:Below w.heap.size w w1∧w1.heap[w.heap.size]? = some (.cells (opCells o s) 52 (0,0)))
  have NW1:=Lib.hid nW1
  go_simp
  refine hK.out _ _ nW1 (fun hNew=>?_)
  clear hK K hHeld ho1 hb1 nW1
  have hHeld:=hNew
  clear hNew
  try simp only [Act.put,zA,zB,zC]
  refine Top.wpAnyL_take (i:=5) (v:=?_) rfl (by kernel_rfl) (by kernel_rfl) (by kernel_rfl) (by kernel_rfl) (fun _ _ _ h=>h) (Or.inl ⟨by rfl,?_⟩) hHeld ?_
  rotate_left 1
  · intro W hSw;go_simp;try with_reducible rfl
  try simp only [Act.put,zA,zB,zC]
  obtain ⟨p0,p1,p2,p3,p4,p5,p6,p7,p8,p9,p10,pf⟩:=eleven_cells y3
  have hl3:w.heap.size + 1 + 1 < w1.heap.size:=(Array.getElem?_eq_some_iff.1 y3).1
  clear y3
  refine Top.wpAnyL_one (i:=6) (by kernel_rfl) rfl (by decide) (fun K hK=>?_)
  go_simp
  obtain ⟨Xa,hXa⟩:∃ X,X = w1.setCell ⟨w.heap.size + 1 + 1,3,none⟩ (.slice A6 n6 c6):=⟨_,rfl⟩
  have x3a:Xa.heap[w.heap.size + 1 + 1]? = some (.cells #[.int .u8 3,.slice none 0 0,.int .i64 0,.slice A6 n6 c6,.int .u64 0,.bool false,.string ⟨#[]⟩,.string ⟨#[]⟩,.string ⟨#[]⟩,.bool false,.slice none 0 0] 52 (0,0)):=by rw [hXa,heap_setCell_same w1 _ 3 _ _ _ Y3.out];simp
  have X3a:=Lib.hid x3a
  have hka:=Lib.hid (show ∀ k,k ≠ w.heap.size + 1 + 1→Xa.heap[k]? = w1.heap[k]? by intro k hk;rw [hXa];exact heap_setCell_other _ _ k _ hk)
  have xwa:=Lib.hid (show Below w.heap.size w Xa by rw [hXa];exact NW1.out.1.setCell (p:=⟨w.heap.size + 1 + 1,3,none⟩) (by show w.heap.size≤w.heap.size + 1 + 1;omega) _)
  have xsa:=Lib.hid (show Xa.heap.size = w1.heap.size by rw [hXa];simp)
  rw [← hXa]
  clear hXa
  refine hK.out _ _ ⟨xwa.out,(hka.out w.heap.size (by omega)).trans NW1.out.2⟩ (fun hNew=>?_)
  clear hK K hHeld p0 p1 p2 p3 p4 p5 p6 p7 p8 p9 p10 pf hl3
  have hHeld:=hNew
  clear hNew
  try simp only [Act.put,zA,zB,zC]
  obtain ⟨p0,p1,p2,p3,p4,p5,p6,p7,p8,p9,p10,pf⟩:=eleven_cells x3a
  have hl3:w.heap.size + 1 + 1 < Xa.heap.size:=(Array.getElem?_eq_some_iff.1 x3a).1
  clear x3a
  refine Top.wpAnyL_take (i:=7) (v:=?_) rfl (by kernel_rfl) (by kernel_rfl) (by kernel_rfl) (by kernel_rfl) (fun _ _ _ h=>h) (Or.inl ⟨by rfl,?_⟩) hHeld ?_
  rotate_left 1
  · intro W hSw;go_simp;try with_reducible rfl
  try simp only [Act.put,zA,zB,zC]
  refine Top.wpAnyL_last (by kernel_rfl) rfl (fun K hK=>?_)
  go_simp
  refine hK _ _ ?_
  clear hK K
  try simp only [Act.put,zA,zB,zC]
  refine wpAny_done (by kernel_rfl) ?_ _
  refine hK0 _ _ ?_
  clear hK0
  clear p0 p1 p2 p3 p4 p5 p6 p7 p8 p9 p10 pf
  obtain ⟨X,hX⟩:∃ X,X = Xa.setCell ⟨w.heap.size + 1 + 1,2,none⟩ (.int .i64 o.at_):=⟨_,rfl⟩
  have x3:=Lib.hid (show X.heap[w.heap.size + 1 + 1]? = some (.cells #[.int .u8 3,.slice none 0 0,.int .i64 o.at_,.slice A6 n6 c6,.int .u64 0,.bool false,.string ⟨#[]⟩,.string ⟨#[]⟩,.string ⟨#[]⟩,.bool false,.slice none 0 0] 52 (0,0)) by rw [hX,heap_setCell_same Xa _ 2 _ _ _ X3a.out];simp)
  have hk5:=Lib.hid (show ∀ k,k ≠ w.heap.size + 1 + 1→X.heap[k]? = w1.heap[k]? by intro k hk;rw [hX];exact (heap_setCell_other _ _ k _ hk).trans (hka.out k hk))
  have xw:=Lib.hid (show Below w.heap.size w X by rw [hX];exact xwa.out.setCell (p:=⟨w.heap.size + 1 + 1,2,none⟩) (by show w.heap.size≤w.heap.size + 1 + 1;omega) _)
  have xs:=Lib.hid (show w.heap.size + 1 + 1 + 1≤X.heap.size by rw [hX];simp;have:=z5'.out;have:=B1.out.size;have:=xsa.out;omega)
  rw [← hX]
  clear hX
  have x1:=Lib.hid ((hk5.out w.heap.size (by omega)).trans NW1.out.2)
  have x2:=Lib.hid ((hk5.out (w.heap.size + 1) (by omega)).trans ((B1.out.block (w.heap.size + 1) (by have:=z5'.out;omega)).trans z2'.out))
  have OT:=Lib.hid (own_kept (w':=X) V1.out fun k h1 h2=>hk5.out k (by omega))
  have OQ:=Lib.hid (OwnQ.nil_ (w.heap.size + 1 + 1 + 1) X)
  clear hcp
  have hcp:=Lib.hid (copied_any X s.pA s.pn s.pc o.path (ho'.out.below xw.out).path ho'.out.pnil ho'.out.pfew)
  unfold P4.NewRow at hcp
  have x1u:=x1.out
  have x3u:=x3.out
  obtain ⟨o0,o1,o2,o3,o4,o5,o6,o7,o8,o9,o10⟩:=op_cells x1u
  obtain ⟨p0,p1,p2,p3,p4,p5,p6,p7,p8,p9,p10,pf⟩:=eleven_cells x3u
  clear x1u x3u
  go_upto_region 18 with (go_at_call 155;(refine hcp.out.mono ?_;rintro e w1 ⟨v1,rfl,hv1,hb1⟩;have V1:=Lib.hid hv1;have b1:=Lib.hid hb1;have y3:=(hb1.block (w.heap.size + 1 + 1) (by have:=xs.out;omega)).trans x3.out;have Y3:=Lib.hid y3;obtain ⟨A1,n1,c1,rfl,-⟩:=P4.OwnI.shape hv1;clear o0 o1 o2 o3 o4 o5 o6 o7 o8 o9 o10 p0 p1 p2 p3 p4 p5 p6 p7 p8 p9 p10 pf hv1 hb1;obtain ⟨p0,p1,p2,p3,p4,p5,p6,p7,p8,p9,p10,pf⟩:=eleven_cells y3;have hl3:w.heap.size + 1 + 1 < w1.heap.size:=(Array.getElem?_eq_some_iff.1 y3).1;clear y3))
  clear p0 p1 p2 p3 p4 p5 p6 p7 p8 p9 p10 pf hcp
  obtain ⟨W5,hW5⟩:∃ W5,W5 = w1.setCell ⟨w.heap.size + 1 + 1,1,none⟩ (.slice A1 n1 c1):=⟨_,rfl⟩
  have r3:W5.heap[w.heap.size + 1 + 1]? = some (.cells #[.int .u8 3,.slice A1 n1 c1,.int .i64 o.at_,.slice A6 n6 c6,.int .u64 0,.bool false,.string ⟨#[]⟩,.string ⟨#[]⟩,.string ⟨#[]⟩,.bool false,.slice none 0 0] 52 (0,0)):=by rw [hW5,heap_setCell_same w1 _ 1 _ _ _ Y3.out];simp
  have h5:=Lib.hid (show ∀ k,k ≠ w.heap.size + 1 + 1→W5.heap[k]? = w1.heap[k]? by intro k hk;rw [hW5];exact heap_setCell_other _ _ k _ hk)
  have w5b:=Lib.hid (show Below w.heap.size w W5 by rw [hW5];exact (xw.out.trans (b1.out.mono xw.out.size)).setCell (p:=⟨w.heap.size + 1 + 1,1,none⟩) (by show w.heap.size≤w.heap.size + 1 + 1;omega) _)
  have w5s:=Lib.hid (show W5.heap.size = w1.heap.size by rw [hW5];simp)
  rw [← hW5]
  clear hW5
  have r2:=(h5.out (w.heap.size + 1) (by omega)).trans ((b1.out.block (w.heap.size + 1) (by have:=xs.out;omega)).trans x2.out)
  unfold zero11 at r2
  have r2h:=Lib.hid r2
  obtain ⟨p0,p1,p2,p3,p4,p5,p6,p7,p8,p9,p10,pf⟩:=eleven_cells r3
  obtain ⟨q0,q1,q2,q3,q4,q5,q6,q7,q8,q9,q10,qf⟩:=eleven_cells r2
  have hl2:w.heap.size + 1 < W5.heap.size:=(Array.getElem?_eq_some_iff.1 r2).1
  clear r2 r3
  go_wp2_with fail
  obtain ⟨W9,hW9,R9,B9,Z9,K9⟩:=end_op (o:=(⟨3,o.path,o.at_,o.to_,0,false,[],[],[],false,[]⟩:Ov)) (s:=⟨A1,n1,c1,A6,n6,c6,none,0,0⟩) (r:=w.heap.size + 1) (by omega) w5b.out r2h.out
  have hW9':W9 = (((((((((((W5.setCell ⟨w.heap.size + 1,0,none⟩ (.int .u8 3)).setCell ⟨w.heap.size + 1,1,none⟩ (.slice A1 n1 c1)).setCell ⟨w.heap.size + 1,2,none⟩ (.int .i64 o.at_)).setCell ⟨w.heap.size + 1,3,none⟩ (.slice A6 n6 c6)).setCell ⟨w.heap.size + 1,4,none⟩ (.int .u64 0)).setCell ⟨w.heap.size + 1,5,none⟩ (.bool false)).setCell ⟨w.heap.size + 1,6,none⟩ (.string ⟨#[]⟩)).setCell ⟨w.heap.size + 1,7,none⟩ (.string ⟨#[]⟩)).setCell ⟨w.heap.size + 1,8,none⟩ (.string ⟨#[]⟩)).setCell ⟨w.heap.size + 1,9,none⟩ (.bool false)).setCell ⟨w.heap.size + 1,10,none⟩ (.slice none 0 0)):=hW9
  rw [← hW9']
  clear hW9' hW9
  unfold opCells at R9
  obtain ⟨d0,d1,d2,d3,d4,d5,d6,d7,d8,d9,d10,df⟩:=eleven_cells R9
  refine bodyPost_ret (v:=.agg (opCells (⟨3,o.path,o.at_,o.to_,0,false,[],[],[],false,[]⟩:Ov) ⟨A1,n1,c1,A6,n6,c6,none,0,0⟩)) (by simp [results,Try.results105,go_sem,d0,d1,d2,d3,d4,d5,d6,d7,d8,d9,d10,opCells]) rfl ?_
  have kk:∀ k,w.heap.size + 1 + 1 + 1≤k→W9.heap[k]? = w1.heap[k]?:=fun k hk=>(K9 k (by omega)).trans (h5.out k (by omega))
  rw [show bareV o = (⟨3,o.path,o.at_,o.to_,0,false,[],[],[],false,[]⟩:Ov) by unfold bareV;simp [hk]]
  refine ⟨_,rfl,⟨own_mono (own_kept V1.out fun k h1 h2=>kk k (Nat.le_trans xs.out h1)) (Nat.le_trans (by omega) xs.out),own_mono (own_kept OT.out fun k h1 h2=>(kk k h1).trans (b1.out.block k h2)) (by omega),own_mono (own_kept OQ.out fun k h1 h2=>(kk k h1).trans (b1.out.block k h2)) (by omega)⟩,B9⟩
set_option maxHeartbeats 4000000 in
theorem bare_no (w:World) (o:Ov) (s:OS) (ho:OpIn w o s) (hk:¬ (1≤o.kind∧o.kind≤6)):Calls Try.prog 105 #[.agg (opCells o s)] w (BareA w (bareV o)):=by
  obtain ⟨z1,z2,z3,z4,z5⟩:=three_new w (.cells (opCells o s) 52) (.cells zero11 52) (.cells #[.int .u8 (o.kind:Int),.slice none 0 0,.int .i64 0,.slice none 0 0,.int .u64 0,.bool false,.string ⟨#[]⟩,.string ⟨#[]⟩,.string ⟨#[]⟩,.bool false,.slice none 0 0] 52)
  obtain ⟨W3,hW3⟩:∃ W3,W3 = ((w.alloc (.cells (opCells o s) 52)).alloc (.cells zero11 52)).alloc (.cells #[.int .u8 (o.kind:Int),.slice none 0 0,.int .i64 0,.slice none 0 0,.int .u64 0,.bool false,.string ⟨#[]⟩,.string ⟨#[]⟩,.string ⟨#[]⟩,.bool false,.slice none 0 0] 52):=⟨_,rfl⟩
  rw [← hW3] at z1 z2 z3 z4 z5
  have e1:((o.kind:Int) == 1) = false:=by simp;omega
  have e2:((o.kind:Int) == 2) = false:=by simp;omega
  have e3:((o.kind:Int) == 3) = false:=by simp;omega
  have e4:((o.kind:Int) == 4) = false:=by simp;omega
  have e5:((o.kind:Int) == 5) = false:=by simp;omega
  have e6:((o.kind:Int) == 6) = false:=by simp;omega
  unfold opCells zero11 at hW3
  unfold opCells
  have z2':=Lib.hid z2
  have z3':=Lib.hid z3
  have z4':=Lib.hid z4
  have z5':=Lib.hid z5
  have hk':=Lib.hid hk
  clear ho z1 z2 z3 z4 z5 hk
  go_enter Try.func105,Try.ntmps105
  go_upto_region 3 with fail
  rw [← hW3]
  clear hW3
  have r2:=z2'.out
  unfold zero11 at r2
  obtain ⟨q0,q1,q2,q3,q4,q5,q6,q7,q8,q9,q10,qf⟩:=eleven_cells r2
  obtain ⟨p0,p1,p2,p3,p4,p5,p6,p7,p8,p9,p10,pf⟩:=eleven_cells z3'.out
  have hl2:w.heap.size + 1 < W3.heap.size:=(Array.getElem?_eq_some_iff.1 r2).1
  clear r2
  go_wp2_with fail
  have r2h:=z2'.out
  unfold zero11 at r2h
  obtain ⟨W9,hW9,R9,B9,Z9,K9⟩:=end_op (o:=(⟨o.kind,[],0,[],0,false,[],[],[],false,[]⟩:Ov)) (s:=⟨none,0,0,none,0,0,none,0,0⟩) (r:=w.heap.size + 1) (by omega) z4'.out r2h
  have hW9':W9 = (((((((((((W3.setCell ⟨w.heap.size + 1,0,none⟩ (.int .u8 (o.kind:Int))).setCell ⟨w.heap.size + 1,1,none⟩ (.slice none 0 0)).setCell ⟨w.heap.size + 1,2,none⟩ (.int .i64 0)).setCell ⟨w.heap.size + 1,3,none⟩ (.slice none 0 0)).setCell ⟨w.heap.size + 1,4,none⟩ (.int .u64 0)).setCell ⟨w.heap.size + 1,5,none⟩ (.bool false)).setCell ⟨w.heap.size + 1,6,none⟩ (.string ⟨#[]⟩)).setCell ⟨w.heap.size + 1,7,none⟩ (.string ⟨#[]⟩)).setCell ⟨w.heap.size + 1,8,none⟩ (.string ⟨#[]⟩)).setCell ⟨w.heap.size + 1,9,none⟩ (.bool false)).setCell ⟨w.heap.size + 1,10,none⟩ (.slice none 0 0)):=hW9
  rw [← hW9']
  clear hW9' hW9
  unfold opCells at R9
  obtain ⟨d0,d1,d2,d3,d4,d5,d6,d7,d8,d9,d10,df⟩:=eleven_cells R9
  refine bodyPost_ret (v:=.agg (opCells (⟨o.kind,[],0,[],0,false,[],[],[],false,[]⟩:Ov) ⟨none,0,0,none,0,0,none,0,0⟩)) (by simp [results,Try.results105,go_sem,d0,d1,d2,d3,d4,d5,d6,d7,d8,d9,d10,opCells]) rfl ?_
  have hv:bareV o = (⟨o.kind,[],0,[],0,false,[],[],[],false,[]⟩:Ov):=by
    have h1:=hk'.out
    have h2:¬ (o.kind = 1∨o.kind = 3):=by omega
    have h3:¬ (o.kind = 1∨o.kind = 5):=by omega
    have h4:¬ (o.kind = 4∧o.gone = false):=fun h=>by omega
    unfold bareV
    rw [if_neg h1,if_neg h2,if_neg h3,if_neg h4,if_neg (by omega),if_neg (by omega),if_neg (by omega),if_neg (by omega),if_neg (by omega),if_neg (by omega)]
  rw [hv]
  exact ⟨_,rfl,⟨P4.OwnI.nil_ _ _,P4.OwnI.nil_ _ _,OwnQ.nil_ _ _⟩,B9⟩
theorem bare_any (w:World) (o:Ov) (s:OS) (ho:OpIn w o s):Calls Try.prog 105 #[.agg (opCells o s)] w (BareA w (bareV o)):=by
  by_cases k1:o.kind = 1
  · exact bare_k1 w o s ho k1
  · by_cases k2:o.kind = 2
    · exact bare_k2 w o s ho k2
    · by_cases k3:o.kind = 3
      · exact bare_k3 w o s ho k3
      · by_cases k4:o.kind = 4
        · cases hg:o.gone with
          | true=>exact bare_k4g w o s ho k4 hg
          | false=>exact bare_k4 w o s ho k4 hg
        · by_cases k5:o.kind = 5
          · exact bare_k5 w o s ho k5
          · by_cases k6:o.kind = 6
            · exact bare_k6 w o s ho k6
            · exact bare_no w o s ho (by omega)
end Go.Proofs.Ytidimannfemnmaa.Top
namespace Go.Proofs.Ytidimannfemnmaa.Shf
open Go.RowKit Top
set_option maxRecDepth 20000

theorem lit_fit {l:List Int} (h:(l.all fun x=>decide (-9223372036854775808≤x∧x≤9223372036854775807)) = true:=by decide):Fit l:=fun x hx=>of_decide_eq_true (List.all_eq_true.1 h x hx)
theorem lit_op {W:World} {o:Ov} {s:OS} (hk:o.kind < 256:=by decide) (hp:Its W s.pA s.pn o.path) (hp2:s.pn≤s.pc∧s.pc≤4:=by (dsimp only;decide)) (hp3:s.pA = none→s.pc = 0) (ha:-9223372036854775808≤o.at_∧o.at_≤9223372036854775807:=by decide) (ht:Its W s.tA s.tn o.to_) (ht2:s.tn≤s.tc∧s.tc≤4:=by (dsimp only;decide)) (ht3:s.tA = none→s.tc = 0)
    (hi:o.id < 18446744073709551616:=by decide) (hl:o.label.length≤4∧o.key.length≤4∧o.value.length≤4:=by decide) (hq:P5.PcsIn W s.qA s.qn o.pieces) (hq2:s.qn≤s.qc∧s.qc≤4:=by (dsimp only;decide)) (hq3:s.qA = none→s.qc = 0) (f1:Fit o.path) (f2:Fit o.to_):OpIn W o s :=
  ⟨hk,hp,hp2.1,by unfold maxLen;omega,hp3,ha,ht,ht2.1,by unfold maxLen;omega,ht3,hi,by unfold maxLen;omega,by unfold maxLen;omega,by unfold maxLen;omega,hq,hq2.1,by unfold maxLen;omega,hq3,by omega,by omega,by omega,f1,f2⟩
theorem lit_its2 {w:World} {g:Nat} {xs:List Int} {t:TypeId} (h:w.heap[g]? = some (.cells (xs.map fun x=>Value.int .i64 x).toArray t (0,0))):Its w (some ⟨g,0,none⟩) xs.length xs:=P4.Its.of_block h rfl rfl
theorem lit_pcs (W:World):P5.PcsIn W none 0 []:=P5.PcsIn.nil W
def ea:Ov:=⟨1,[0],1,[],0,false,[],[],[],false,[]⟩
def eb:Ov:=⟨2,[0,1],0,[],0,false,[],[],[],false,[]⟩
def ec:Ov:=⟨3,[0,1],0,[2],0,false,[],[],[],false,[]⟩
theorem lit_its (Z:World) (l:List Int):Its (Z.alloc (.cells (l.map P4.intV).toArray 3)) (some ⟨Z.heap.size,0,none⟩) l.length l :=
  P4.Its.of_block (heap_alloc_new Z _) rfl rfl
theorem kit_same (w:World) (A B:Option Addr) (n c m d:Nat) (xs ys:List Int) (hA:Its w A n xs) (hB:Its w B m ys) (hn:n≤maxLen) (hm:m≤maxLen) :
    Calls Try.prog 115 #[.slice A n c,.slice B m d] w fun e w'=>e = .returned (.bool (P4.eqV xs ys))∧∃ k,w' = w.drewN k:=P4.sameInts_any w A B n c m d xs ys (its4 hA) (its4 hB) hn
theorem wkS (Z:World) (A:Option Addr) (c:Nat) (r:List Int) (hA:Its Z A r.length r) (hn:r.length≤1000) :
    Calls Try.prog 115 #[.slice A r.length c,.slice (some ⟨Z.heap.size,0,none⟩) r.length r.length] (Z.alloc (.cells (r.map P4.intV).toArray 3)) fun e w'=>e = .returned (.bool true)∧Below Z.heap.size Z w':=by
  have hb:Below Z.heap.size Z (Z.alloc (.cells (r.map P4.intV).toArray 3)):=(Below.refl _ _).alloc (Nat.le_refl _) _
  refine (kit_same _ A _ _ c _ r.length r r (hA.below hb) (lit_its Z r) (by unfold maxLen;omega) (by unfold maxLen;omega)).mono ?_
  rw [show P4.eqV r r = true by unfold P4.eqV;simp]
  rintro e w' ⟨rfl,k,rfl⟩
  exact ⟨rfl,draws hb k⟩
end Go.Proofs.Ytidimannfemnmaa.Shf
