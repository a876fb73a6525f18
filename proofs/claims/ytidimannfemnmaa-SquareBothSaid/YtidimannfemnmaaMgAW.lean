/- MgAW: SqrM SqrP -/
import Derived.Test.YtidimannfemnmaaMgAV
import Derived.Test.YtidimannfemnmaaTopLi
set_option linter.all false
namespace Go.Proofs.Ytidimannfemnmaa.Sqr
open Go.RowKit Top Shf Sim
set_option maxRecDepth 20000

theorem totCosts:∀ l:List P5.IP,P5.totP (pcs l) = P5.costs l
  | []=>rfl
  | x :: r=>by
    have ih:=totCosts r
    rw [show pcs (x :: r) = [⟨x.keep.toNat,x.drop.toNat,x.put⟩] ++ pcs r from rfl,P5.totP_append,P5.totP_one,ih]
    show _ = P5.costI x + P5.costs r
    unfold P5.costI
    have h1:(max 0 x.keep).toNat = x.keep.toNat:=by omega
    have h2:(max 0 x.drop).toNat = x.drop.toNat:=by omega
    rw [h1,h2]
theorem fit_of {o:Ov} (h1:lightB o 200 = true) (h2:P5.smallV o.pieces 400 = true):Tiny o∧P5.totP (pcs o.pieces)≤2000:=by
  have e:=of_decide_eq_true h1
  obtain ⟨a,b,-⟩:=e
  refine ⟨⟨by omega,by omega⟩,?_⟩
  rw [totCosts]
  unfold P5.smallV at h2
  simp only [Bool.and_eq_true,decide_eq_true_eq] at h2
  omega
theorem raw_op {w:World} {o:Ov} {s:OS} (h:OpRaw w o s) (h1:lightB o 200 = true):OpIn w o s:=by
  have e:=of_decide_eq_true h1
  obtain ⟨a,b,-,-,-,c,-⟩:=e
  exact h.op (by omega) (by omega) (by omega)
end Go.Proofs.Ytidimannfemnmaa.Sqr
namespace Go.Proofs.Ytidimannfemnmaa.Sqr
open Go.RowKit Top Shf Sim
set_option maxRecDepth 20000

def bothV (b a:Ov) (prior:Bool):List Ov × List Ov × Int :=
  if (behindV b a prior).2 ≠ 0 then ([],[],(behindV b a prior).2) else if (behindV a b (!prior)).2 ≠ 0 then ([],[],(behindV a b (!prior)).2) else ((behindV b a prior).1,(behindV a b (!prior)).1,0)
def BothA (w:World) (r:List Ov × List Ov × Int) (e:Ending) (w':World):Prop :=
  ∃ v1 v2 l1 l2,e = .returned (.tuple #[v1,v2,.int .i64 r.2.2])∧l1.map Prod.fst = r.1∧l2.map Prod.fst = r.2.1∧(OwnO w.heap.size w' v1 l1∧∀ x ∈ l1,OwnOp w.heap.size w' x.1 x.2∧OvOk x.1)∧(OwnO w.heap.size w' v2 l2∧∀ x ∈ l2,OwnOp w.heap.size w' x.1 x.2∧OvOk x.1)∧Below w.heap.size w w'
theorem BothA.nil_ {w w':World} {k:Int} (hb:Below w.heap.size w w'):BothA w ([],[],k) (.returned (.tuple #[.slice none 0 0,.slice none 0 0,.int .i64 k])) w' :=
  ⟨_,_,[],[],rfl,rfl,rfl,⟨OwnO.nil_ _ _,fun x hx=>by simp at hx⟩,⟨OwnO.nil_ _ _,fun x hx=>by simp at hx⟩,hb⟩
set_option maxHeartbeats 16000000 in
theorem Both_any (w:World) (b a:Ov) (sb sa:OS) (prior:Bool) (hb:OpIn w b sb) (ha:OpIn w a sa) (hlb:Tiny b) (hla:Tiny a) (htb:P5.totP (pcs b.pieces)≤2000) (hta:P5.totP (pcs a.pieces)≤2000) :
    Calls Try.prog 53 #[.agg (opCells b sb),.agg (opCells a sa),.bool prior] w (BothA w (bothV b a prior)):=by
  obtain ⟨z1,z2,z4,z5⟩:=two_news w (.cells (opCells b sb) 52) (.cells (opCells a sa) 52)
  obtain ⟨W2,hW2⟩:∃ Q9,Q9 = ((w.alloc (.cells (opCells b sb) 52)).alloc (.cells (opCells a sa) 52)):=⟨_,rfl⟩
  rw [← hW2] at z1 z2 z4 z5
  have z4':=Lib.hid z4
  have z5':=Lib.hid z5
  have hrow:=Lib.hid (fun (W:World) (hB:Below W2.heap.size W2 W)=>And.intro ((hB.block w.heap.size (by omega)).trans z1) ((hB.block (w.heap.size + 1) (by omega)).trans z2))
  have hp:=Lib.hid (fun (W:World) (hB:Below w.heap.size w W)=>Behind_any W b a sb sa prior (hb.below hB) (ha.below hB) hlb hla htb hta)
  have hq:=Lib.hid (fun (W:World) (hB:Below w.heap.size w W)=>Behind_any W a b sa sb (!prior) (ha.below hB) (hb.below hB) hla hlb hta htb)
  obtain ⟨R,hR⟩:∃ Q9,Q9 = bothV b a prior:=⟨_,rfl⟩
  rw [← hR]
  unfold bothV at hR
  generalize behindV b a prior = P at hp hR
  generalize behindV a b (!prior) = Q at hq hR
  have HR:=Lib.hid hR
  obtain ⟨r1_,k1⟩:=P
  obtain ⟨r2_,k2⟩:=Q
  dsimp only at HR
  clear hb ha hlb hla htb hta z1 z2 z4 z5 hR
  unfold opCells at hW2 hp hq
  unfold opCells
  go_enter Try.func53,Try.ntmps53
  go_upto_region 1 with fail
  rw [← hW2]
  clear hW2
  obtain ⟨r1,r2⟩:=hrow.out W2 (Below.refl _ _)
  obtain ⟨o0,o1,o2,o3,o4,o5,o6,o7,o8,o9,o10⟩:=op_cells r1
  obtain ⟨a0,a1,a2,a3,a4,a5,a6,a7,a8,a9,a10⟩:=op_cells r2
  clear r1 r2
  by_cases h1:k1 = 0
  · subst h1
    by_cases h2:k2 = 0
    · subst h2
      have hv:=Lib.hid (HR.out.trans (show _ = (r1_,r2_,(0:Int)) by simp))
      go_wp2_with (first | (go_at_call 128;(refine (hq.out w5 V5.out).mono ?_;rintro e w6 ⟨v6,l6,rfl,h5,h6,h7,hb9⟩;have M6:=Lib.hid h5;have X6:=Lib.hid (And.intro h6 h7);have E6:=Lib.hid hb9;have V6:=Lib.hid (V5.out.trans (hb9.mono V5.out.size));clear h5 h6 h7 hb9 o0 o1 o2 o3 o4 o5 o6 o7 o8 o9 o10 a0 a1 a2 a3 a4 a5 a6 a7 a8 a9 a10)) | (go_at_call_of 128 sb.pA;(refine (hp.out _ z4'.out).mono ?_;rintro e w5 ⟨v5,l5,rfl,h5,h6,h7,hb9⟩;have M5:=Lib.hid h5;have X5:=Lib.hid (And.intro h6 h7);have E5:=Lib.hid hb9;have V5:=Lib.hid (z4'.out.trans (hb9.mono z4'.out.size));clear h5 h6 h7 hb9 o0 o1 o2 o3 o4 o5 o6 o7 o8 o9 o10 a0 a1 a2 a3 a4 a5 a6 a7 a8 a9 a10;obtain ⟨r1,r2⟩:=hrow.out _ E5.out;obtain ⟨o0,o1,o2,o3,o4,o5,o6,o7,o8,o9,o10⟩:=op_cells r1;obtain ⟨a0,a1,a2,a3,a4,a5,a6,a7,a8,a9,a10⟩:=op_cells r2;clear r1 r2)))
      go_ret3
      rw [hv.out]
      exact ⟨_,_,l5,l6,rfl,M5.out,M6.out,⟨own_mono (X5.out.1.kept fun k h1 h2=>E6.out.block k h2) z4'.out.size,fun x hx=>⟨((X5.out.2 x hx).1.kept fun k h1 h2=>E6.out.block k h2).mono z4'.out.size,(X5.out.2 x hx).2⟩⟩,⟨own_mono X6.out.1 V5.out.size,fun x hx=>⟨(X6.out.2 x hx).1.mono V5.out.size,(X6.out.2 x hx).2⟩⟩,V6.out⟩
    · have n2:(k2 != 0) = true:=by simp [h2]
      have hv:=Lib.hid (HR.out.trans (show _ = (([]:List Ov),([]:List Ov),k2) by simp [h2]))
      clear h2
      go_wp2_with (first | (go_at_call 128;(refine (hq.out w5 V5.out).mono ?_;rintro e w6 ⟨v6,l6,rfl,h5,h6,h7,hb9⟩;have M6:=Lib.hid h5;have X6:=Lib.hid (And.intro h6 h7);have E6:=Lib.hid hb9;have V6:=Lib.hid (V5.out.trans (hb9.mono V5.out.size));clear h5 h6 h7 hb9 o0 o1 o2 o3 o4 o5 o6 o7 o8 o9 o10 a0 a1 a2 a3 a4 a5 a6 a7 a8 a9 a10)) | (go_at_call_of 128 sb.pA;(refine (hp.out _ z4'.out).mono ?_;rintro e w5 ⟨v5,l5,rfl,h5,h6,h7,hb9⟩;have M5:=Lib.hid h5;have X5:=Lib.hid (And.intro h6 h7);have E5:=Lib.hid hb9;have V5:=Lib.hid (z4'.out.trans (hb9.mono z4'.out.size));clear h5 h6 h7 hb9 o0 o1 o2 o3 o4 o5 o6 o7 o8 o9 o10 a0 a1 a2 a3 a4 a5 a6 a7 a8 a9 a10;obtain ⟨r1,r2⟩:=hrow.out _ E5.out;obtain ⟨o0,o1,o2,o3,o4,o5,o6,o7,o8,o9,o10⟩:=op_cells r1;obtain ⟨a0,a1,a2,a3,a4,a5,a6,a7,a8,a9,a10⟩:=op_cells r2;clear r1 r2)))
      go_ret3
      rw [hv.out]
      exact BothA.nil_ V6.out
  · have n1:(k1 != 0) = true:=by simp [h1]
    have hv:=Lib.hid (HR.out.trans (show _ = (([]:List Ov),([]:List Ov),k1) by simp [h1]))
    clear h1
    go_wp2_with (go_at_call_of 128 sb.pA;(refine (hp.out _ z4'.out).mono ?_;rintro e w5 ⟨v5,l5,rfl,h5,h6,h7,hb9⟩;have M5:=Lib.hid h5;have X5:=Lib.hid (And.intro h6 h7);have E5:=Lib.hid hb9;have V5:=Lib.hid (z4'.out.trans (hb9.mono z4'.out.size));clear h5 h6 h7 hb9 o0 o1 o2 o3 o4 o5 o6 o7 o8 o9 o10 a0 a1 a2 a3 a4 a5 a6 a7 a8 a9 a10;obtain ⟨r1,r2⟩:=hrow.out _ E5.out;obtain ⟨o0,o1,o2,o3,o4,o5,o6,o7,o8,o9,o10⟩:=op_cells r1;obtain ⟨a0,a1,a2,a3,a4,a5,a6,a7,a8,a9,a10⟩:=op_cells r2;clear r1 r2))
    go_ret3
    rw [hv.out]
    exact BothA.nil_ V5.out

end Go.Proofs.Ytidimannfemnmaa.Sqr
