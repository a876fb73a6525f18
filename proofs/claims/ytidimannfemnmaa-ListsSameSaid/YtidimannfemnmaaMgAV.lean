/- MgAV: SqrM SqrP SqrBv -/
import Derived.Test.YtidimannfemnmaaMgAT
import Derived.Test.YtidimannfemnmaaMgAU
import Derived.Test.YtidimannfemnmaaMgAP
set_option linter.all false
namespace Go.Proofs.Ytidimannfemnmaa.Sqr
open Go.RowKit Top Shf Sim
set_option maxRecDepth 20000

theorem totCosts:∀ l:List P5.IP,P5.totP (pcs l) = P5.costs l
  | []=>rfl
  | x :: r=>by
    have ih:=totCosts r
    rw [show pcs (x :: r) = [⟨x.keep.toNat,x.drop.toNat,x.put⟩] ++ pcs r from rfl,P5.totP_append,P5.totP_one,ih]
    show _ = P5.costI x + P5.costs r
    unfold P5.costI
    have h1:(max 0 x.keep).toNat = x.keep.toNat:=by omega
    have h2:(max 0 x.drop).toNat = x.drop.toNat:=by omega
    rw [h1,h2]
end Go.Proofs.Ytidimannfemnmaa.Sqr
namespace Go.Proofs.Ytidimannfemnmaa.Sqr
open Go.RowKit Top Shf Sim
set_option maxRecDepth 20000

def bothV (b a:Ov) (prior:Bool):List Ov × List Ov × Int :=
  if (behindV b a prior).2 ≠ 0 then ([],[],(behindV b a prior).2) else if (behindV a b (!prior)).2 ≠ 0 then ([],[],(behindV a b (!prior)).2) else ((behindV b a prior).1,(behindV a b (!prior)).1,0)
def BothA (w:World) (r:List Ov × List Ov × Int) (e:Ending) (w':World):Prop :=
  ∃ v1 v2 l1 l2,e = .returned (.tuple #[v1,v2,.int .i64 r.2.2])∧l1.map Prod.fst = r.1∧l2.map Prod.fst = r.2.1∧(OwnO w.heap.size w' v1 l1∧∀ x ∈ l1,OwnOp w.heap.size w' x.1 x.2∧OvOk x.1)∧(OwnO w.heap.size w' v2 l2∧∀ x ∈ l2,OwnOp w.heap.size w' x.1 x.2∧OvOk x.1)∧Below w.heap.size w w'
theorem BothA.nil_ {w w':World} {k:Int} (hb:Below w.heap.size w w'):BothA w ([],[],k) (.returned (.tuple #[.slice none 0 0,.slice none 0 0,.int .i64 k])) w' :=
  ⟨_,_,[],[],rfl,rfl,rfl,⟨OwnO.nil_ _ _,fun x hx=>by simp at hx⟩,⟨OwnO.nil_ _ _,fun x hx=>by simp at hx⟩,hb⟩
set_option maxHeartbeats 16000000 in
theorem Both_any (w:World) (b a:Ov) (sb sa:OS) (prior:Bool) (hb:OpIn w b sb) (ha:OpIn w a sa) (hlb:Tiny b) (hla:Tiny a) (htb:P5.totP (pcs b.pieces)≤2000) (hta:P5.totP (pcs a.pieces)≤2000) :
    Calls Try.prog 53 #[.agg (opCells b sb),.agg (opCells a sa),.bool prior] w (BothA w (bothV b a prior)):=by
  obtain ⟨z1,z2,z4,z5⟩:=two_news w (.cells (opCells b sb) 52) (.cells (opCells a sa) 52)
  obtain ⟨W2,hW2⟩:∃ Q9,Q9 = ((w.alloc (.cells (opCells b sb) 52)).alloc (.cells (opCells a sa) 52)):=⟨_,rfl⟩
  rw [← hW2] at z1 z2 z4 z5
  have z4':=Lib.hid z4
  have z5':=Lib.hid z5
  have hrow:=Lib.hid (fun (W:World) (hB:Below W2.heap.size W2 W)=>And.intro ((hB.block w.heap.size (by omega)).trans z1) ((hB.block (w.heap.size + 1) (by omega)).trans z2))
  have hp:=Lib.hid (fun (W:World) (hB:Below w.heap.size w W)=>Behind_any W b a sb sa prior (hb.below hB) (ha.below hB) hlb hla htb hta)
  have hq:=Lib.hid (fun (W:World) (hB:Below w.heap.size w W)=>Behind_any W a b sa sb (!prior) (ha.below hB) (hb.below hB) hla hlb hta htb)
  obtain ⟨R,hR⟩:∃ Q9,Q9 = bothV b a prior:=⟨_,rfl⟩
  rw [← hR]
  unfold bothV at hR
  generalize behindV b a prior = P at hp hR
  generalize behindV a b (!prior) = Q at hq hR
  have HR:=Lib.hid hR
  obtain ⟨r1_,k1⟩:=P
  obtain ⟨r2_,k2⟩:=Q
  dsimp only at HR
  clear hb ha hlb hla htb hta z1 z2 z4 z5 hR
  unfold opCells at hW2 hp hq
  unfold opCells
  go_enter Try.func53,Try.ntmps53
  go_upto_region 1 with fail
  rw [← hW2]
  clear hW2
  obtain ⟨r1,r2⟩:=hrow.out W2 (Below.refl _ _)
  obtain ⟨o0,o1,o2,o3,o4,o5,o6,o7,o8,o9,o10⟩:=op_cells r1
  obtain ⟨a0,a1,a2,a3,a4,a5,a6,a7,a8,a9,a10⟩:=op_cells r2
  clear r1 r2
  by_cases h1:k1 = 0
  · subst h1
    by_cases h2:k2 = 0
    · subst h2
      have hv:=Lib.hid (HR.out.trans (show _ = (r1_,r2_,(0:Int)) by simp))
      go_wp2_with (first | (go_at_call 128;(refine (hq.out w5 V5.out).mono ?_;rintro e w6 ⟨v6,l6,rfl,h5,h6,h7,hb9⟩;have M6:=Lib.hid h5;have X6:=Lib.hid (And.intro h6 h7);have E6:=Lib.hid hb9;have V6:=Lib.hid (V5.out.trans (hb9.mono V5.out.size));clear h5 h6 h7 hb9 o0 o1 o2 o3 o4 o5 o6 o7 o8 o9 o10 a0 a1 a2 a3 a4 a5 a6 a7 a8 a9 a10)) | (go_at_call_of 128 sb.pA;(refine (hp.out _ z4'.out).mono ?_;rintro e w5 ⟨v5,l5,rfl,h5,h6,h7,hb9⟩;have M5:=Lib.hid h5;have X5:=Lib.hid (And.intro h6 h7);have E5:=Lib.hid hb9;have V5:=Lib.hid (z4'.out.trans (hb9.mono z4'.out.size));clear h5 h6 h7 hb9 o0 o1 o2 o3 o4 o5 o6 o7 o8 o9 o10 a0 a1 a2 a3 a4 a5 a6 a7 a8 a9 a10;obtain ⟨r1,r2⟩:=hrow.out _ E5.out;obtain ⟨o0,o1,o2,o3,o4,o5,o6,o7,o8,o9,o10⟩:=op_cells r1;obtain ⟨a0,a1,a2,a3,a4,a5,a6,a7,a8,a9,a10⟩:=op_cells r2;clear r1 r2)))
      go_ret3
      rw [hv.out]
      exact ⟨_,_,l5,l6,rfl,M5.out,M6.out,⟨own_mono (X5.out.1.kept fun k h1 h2=>E6.out.block k h2) z4'.out.size,fun x hx=>⟨((X5.out.2 x hx).1.kept fun k h1 h2=>E6.out.block k h2).mono z4'.out.size,(X5.out.2 x hx).2⟩⟩,⟨own_mono X6.out.1 V5.out.size,fun x hx=>⟨(X6.out.2 x hx).1.mono V5.out.size,(X6.out.2 x hx).2⟩⟩,V6.out⟩
    · have n2:(k2 != 0) = true:=by simp [h2]
      have hv:=Lib.hid (HR.out.trans (show _ = (([]:List Ov),([]:List Ov),k2) by simp [h2]))
      clear h2
      go_wp2_with (first | (go_at_call 128;(refine (hq.out w5 V5.out).mono ?_;rintro e w6 ⟨v6,l6,rfl,h5,h6,h7,hb9⟩;have M6:=Lib.hid h5;have X6:=Lib.hid (And.intro h6 h7);have E6:=Lib.hid hb9;have V6:=Lib.hid (V5.out.trans (hb9.mono V5.out.size));clear h5 h6 h7 hb9 o0 o1 o2 o3 o4 o5 o6 o7 o8 o9 o10 a0 a1 a2 a3 a4 a5 a6 a7 a8 a9 a10)) | (go_at_call_of 128 sb.pA;(refine (hp.out _ z4'.out).mono ?_;rintro e w5 ⟨v5,l5,rfl,h5,h6,h7,hb9⟩;have M5:=Lib.hid h5;have X5:=Lib.hid (And.intro h6 h7);have E5:=Lib.hid hb9;have V5:=Lib.hid (z4'.out.trans (hb9.mono z4'.out.size));clear h5 h6 h7 hb9 o0 o1 o2 o3 o4 o5 o6 o7 o8 o9 o10 a0 a1 a2 a3 a4 a5 a6 a7 a8 a9 a10;obtain ⟨r1,r2⟩:=hrow.out _ E5.out;obtain ⟨o0,o1,o2,o3,o4,o5,o6,o7,o8,o9,o10⟩:=op_cells r1;obtain ⟨a0,a1,a2,a3,a4,a5,a6,a7,a8,a9,a10⟩:=op_cells r2;clear r1 r2)))
      go_ret3
      rw [hv.out]
      exact BothA.nil_ V6.out
  · have n1:(k1 != 0) = true:=by simp [h1]
    have hv:=Lib.hid (HR.out.trans (show _ = (([]:List Ov),([]:List Ov),k1) by simp [h1]))
    clear h1
    go_wp2_with (go_at_call_of 128 sb.pA;(refine (hp.out _ z4'.out).mono ?_;rintro e w5 ⟨v5,l5,rfl,h5,h6,h7,hb9⟩;have M5:=Lib.hid h5;have X5:=Lib.hid (And.intro h6 h7);have E5:=Lib.hid hb9;have V5:=Lib.hid (z4'.out.trans (hb9.mono z4'.out.size));clear h5 h6 h7 hb9 o0 o1 o2 o3 o4 o5 o6 o7 o8 o9 o10 a0 a1 a2 a3 a4 a5 a6 a7 a8 a9 a10;obtain ⟨r1,r2⟩:=hrow.out _ E5.out;obtain ⟨o0,o1,o2,o3,o4,o5,o6,o7,o8,o9,o10⟩:=op_cells r1;obtain ⟨a0,a1,a2,a3,a4,a5,a6,a7,a8,a9,a10⟩:=op_cells r2;clear r1 r2))
    go_ret3
    rw [hv.out]
    exact BothA.nil_ V5.out

end Go.Proofs.Ytidimannfemnmaa.Sqr
namespace Go.Proofs.Ytidimannfemnmaa.Sqr
open Go.RowKit Top Shf
set_option maxRecDepth 20000

theorem bare_kind (o:Ov):(bareV o).kind = o.kind:=rfl
theorem bare_path {o:Ov} (h:formedV o = true):(bareV o).path = o.path:=by
  have hk:1≤o.kind∧o.kind≤6:=by
    unfold formedV at h
    rw [Bool.and_eq_true] at h
    have h2:=h.2
    by_cases k1:o.kind = 1
    · omega
    · by_cases k2:o.kind = 2
      · omega
      · by_cases k3:o.kind = 3
        · omega
        · by_cases k4:o.kind = 4
          · omega
          · by_cases k5:o.kind = 5
            · omega
            · by_cases k6:o.kind = 6
              · omega
              · simp [k1,k2,k3,k4,k5,k6] at h2
  show (if 1≤o.kind∧o.kind≤6 then o.path else []) = o.path
  rw [if_pos hk]
theorem bare_to {o:Ov} (h:o.kind = 3):(bareV o).to_ = o.to_:=by
  show (if o.kind = 3 then o.to_ else []) = o.to_
  rw [if_pos h]
theorem bare_at {o:Ov} (h:o.kind = 1∨o.kind = 3):(bareV o).at_ = o.at_:=by
  show (if o.kind = 1∨o.kind = 3 then o.at_ else 0) = o.at_
  rw [if_pos h]
theorem bare_ch {o:Ov} (h:formedV o = true):chV (bareV o) = chV o:=by
  unfold chV
  rw [bare_formed,bare_kind,bare_path h]
  by_cases k1:o.kind = 1
  · rw [bare_at (.inl k1)]
    simp [k1]
  · by_cases k3:o.kind = 3
    · rw [bare_at (.inr k3),bare_to k3]
    · simp [k1,k3]
theorem bare_sound (o:Ov):soundV (bareV o) = soundV o:=by
  unfold soundV
  rw [bare_formed,bare_kind]
  cases h:formedV o with
  | false=>rfl
  | true =>
    rw [bare_path h]
    by_cases k3:o.kind = 3
    · rw [bare_to k3]
    · simp [k3]
theorem bare_nodeD {a:Ov} (h:formedV a = true) (p:List Int):nodeD (bareV a) p = nodeD a p:=by unfold nodeD;rw [bare_ch h]
theorem bare_gapD {a:Ov} (h:formedV a = true) (p:List Int) (i:Int) (f:Bool):gapD (bareV a) p i f = gapD a p i f:=by unfold gapD;rw [bare_ch h]
theorem bare_shifted {b a:Ov} {prior:Bool} (hb:formedV b = true) (ha:formedV a = true):bareV (shiftedV (bareV b) (bareV a) prior) = bareV (shiftedV b a prior):=by
  unfold shiftedV
  rw [bare_kind,bare_path hb,bare_nodeD ha]
  by_cases k1:b.kind = 1
  · rw [if_pos k1,if_pos k1,bare_at (.inl k1),bare_gapD ha]
    simp [bareV,k1]
  · rw [if_neg k1,if_neg k1]
    by_cases k3:b.kind = 3
    · rw [if_pos k3,if_pos k3,bare_at (.inr k3),bare_to k3,bare_nodeD ha,bare_gapD ha]
      simp [bareV,k3]
    · rw [if_neg k3,if_neg k3]
      by_cases k2:b.kind = 2
      · simp [bareV,k2]
      · by_cases k4:b.kind = 4
        · cases hg:b.gone <;> simp [bareV,k4,hg]
        · by_cases k5:b.kind = 5
          · simp [bareV,k5]
          · by_cases k6:b.kind = 6
            · simp [bareV,k6]
            · simp [bareV,k1,k2,k3,k4,k5,k6]
theorem bare_edit {b a:Ov} {prior:Bool} (hb:b.kind = 6) (ha:a.kind = 6) (fb:formedV b = true):bareV (editV (bareV b) (bareV a) prior) = bareV (editV b a prior):=by
  have e1:(bareV b).pieces = b.pieces:=by show (if b.kind = 6 then b.pieces else []) = _;rw [if_pos hb]
  have e2:(bareV a).pieces = a.pieces:=by show (if a.kind = 6 then a.pieces else []) = _;rw [if_pos ha]
  unfold editV
  rw [e1,e2]
  simp [bareV,hb]
theorem bare_key {b:Ov} (hb:b.kind = 4):(bareV b).key = b.key:=by show (if b.kind = 4 then b.key else []) = _;rw [if_pos hb]
theorem bare_becomes {b a:Ov} {prior:Bool} (hb:formedV b = true) (ha:formedV a = true):(becomesV (bareV b) (bareV a) prior).map bareV = (becomesV b a prior).map bareV:=by
  have hs:=bare_shifted (prior:=prior) hb ha
  have hd:∀ p,bareV (delV p) = bareV (delV p):=fun _=>rfl
  by_cases h2:a.kind = 2
  · cases w1:P4.withinV a.path b.path with
    | true=>rw [val_k2a h2 w1,val_k2a (b:=bareV b) (a:=bareV a) h2 (by rw [bare_path ha,bare_path hb];exact w1)]
    | false =>
      by_cases hb3:b.kind = 3
      · cases w2:P4.withinV a.path b.to_ with
        | true =>
          rw [val_k2b h2 w1 hb3 w2,val_k2b (b:=bareV b) (a:=bareV a) h2 (by rw [bare_path ha,bare_path hb];exact w1) hb3 (by rw [bare_path ha,bare_to hb3];exact w2),bare_nodeD ha,bare_path hb]
        | false =>
          rw [val_k2c h2 w1 fun _=>w2,val_k2c (b:=bareV b) (a:=bareV a) h2 (by rw [bare_path ha,bare_path hb];exact w1) fun _=>by rw [bare_path ha,bare_to hb3];exact w2]
          simp [hs]
      · rw [val_k2c h2 w1 fun e=>absurd e hb3,val_k2c (b:=bareV b) (a:=bareV a) h2 (by rw [bare_path ha,bare_path hb];exact w1) fun e=>absurd e hb3]
        simp [hs]
  · by_cases h23:b.kind = 2∧a.kind = 3
    · obtain ⟨kb,ka⟩:=h23
      by_cases hh:P4.eqV b.path a.path = false∧P4.withinV b.path a.path = true∧P4.withinV b.path a.to_ = false
      · rw [val_k23a kb ka hh.1 hh.2.1 hh.2.2,val_k23a (b:=bareV b) (a:=bareV a) kb ka (by rw [bare_path ha,bare_path hb];exact hh.1) (by rw [bare_path ha,bare_path hb];exact hh.2.1) (by rw [bare_to ka,bare_path hb];exact hh.2.2)]
        rw [bare_nodeD ha,bare_nodeD ha,bare_path ha,bare_path hb]
      · have h3:P4.eqV b.path a.path = true∨P4.withinV b.path a.path = false∨P4.withinV b.path a.to_ = true:=by
          cases e1:P4.eqV b.path a.path with
          | true=>exact .inl rfl
          | false =>
            cases e2:P4.withinV b.path a.path with
            | false=>exact .inr (.inl rfl)
            | true =>
              cases e3:P4.withinV b.path a.to_ with
              | true=>exact .inr (.inr rfl)
              | false=>exact absurd ⟨e1,e2,e3⟩ hh
        rw [val_k23b kb ka h3,val_k23b (b:=bareV b) (a:=bareV a) kb ka (by rw [bare_path ha,bare_path hb,bare_to ka];exact h3)]
        simp [hs]
    · by_cases h33:b.kind = 3∧a.kind = 3
      · obtain ⟨kb,ka⟩:=h33
        cases e1:P4.eqV b.path a.path with
        | true =>
          rw [val_k33a kb ka e1,val_k33a (b:=bareV b) (a:=bareV a) kb ka (by rw [bare_path ha,bare_path hb];exact e1)]
          cases prior <;> simp [hs]
        | false =>
          by_cases hh:P4.withinV b.path a.to_ = true∧P4.withinV a.path b.to_ = true
          · rw [val_k33b kb ka e1 hh.1 hh.2,val_k33b (b:=bareV b) (a:=bareV a) kb ka (by rw [bare_path ha,bare_path hb];exact e1) (by rw [bare_to ka,bare_path hb];exact hh.1) (by rw [bare_path ha,bare_to kb];exact hh.2),bare_ch ha]
            cases prior <;> simp [bare_bare]
          · have h3:P4.withinV b.path a.to_ = false∨P4.withinV a.path b.to_ = false:=by
              cases e2:P4.withinV b.path a.to_ with
              | false=>exact .inl rfl
              | true =>
                cases e3:P4.withinV a.path b.to_ with
                | false=>exact .inr rfl
                | true=>exact absurd ⟨e2,e3⟩ hh
            rw [val_k33c kb ka e1 h3,val_k33c (b:=bareV b) (a:=bareV a) kb ka (by rw [bare_path ha,bare_path hb];exact e1) (by rw [bare_to ka,bare_path hb,bare_path ha,bare_to kb];exact h3)]
            simp [hs]
      · by_cases h44:b.kind = 4∧a.kind = 4
        · obtain ⟨kb,ka⟩:=h44
          by_cases hh:P4.eqV b.path a.path = true∧b.key = a.key
          · rw [val_k44a kb ka hh.1 hh.2,val_k44a (b:=bareV b) (a:=bareV a) kb ka (by rw [bare_path ha,bare_path hb];exact hh.1) (by rw [bare_key kb,bare_key ka];exact hh.2)]
            cases prior <;> simp [hs]
          · have h3:P4.eqV b.path a.path = false∨b.key ≠ a.key:=by
              cases e1:P4.eqV b.path a.path with
              | false=>exact .inl rfl
              | true=>exact .inr fun e=>hh ⟨e1,e⟩
            rw [val_k44b kb ka h3,val_k44b (b:=bareV b) (a:=bareV a) kb ka (by rw [bare_path ha,bare_path hb,bare_key kb,bare_key ka];exact h3)]
            simp [hs]
        · by_cases h55:b.kind = 5∧a.kind = 5
          · obtain ⟨kb,ka⟩:=h55
            cases e1:P4.eqV b.path a.path with
            | true =>
              rw [val_k55a kb ka e1,val_k55a (b:=bareV b) (a:=bareV a) kb ka (by rw [bare_path ha,bare_path hb];exact e1)]
              cases prior <;> simp [hs]
            | false =>
              rw [val_k55b kb ka e1,val_k55b (b:=bareV b) (a:=bareV a) kb ka (by rw [bare_path ha,bare_path hb];exact e1)]
              simp [hs]
          · by_cases h66:b.kind = 6∧a.kind = 6
            · obtain ⟨kb,ka⟩:=h66
              cases e1:P4.eqV b.path a.path with
              | true =>
                rw [val_k66a kb ka e1,val_k66a (b:=bareV b) (a:=bareV a) kb ka (by rw [bare_path ha,bare_path hb];exact e1)]
                simp [bare_edit kb ka hb]
              | false =>
                rw [val_k66b kb ka e1,val_k66b (b:=bareV b) (a:=bareV a) kb ka (by rw [bare_path ha,bare_path hb];exact e1)]
                simp [hs]
            · rw [val_ko h2 ⟨h23,h33,h44,h55,h66⟩,val_ko (b:=bareV b) (a:=bareV a) h2 ⟨h23,h33,h44,h55,h66⟩]
              simp [hs]
theorem all_bare (l:List Ov):l.all formedV = (l.map bareV).all formedV:=by
  induction l with
  | nil=>rfl
  | cons x r ih=>simp only [List.all_cons,List.map_cons,ih,bare_formed]
theorem bare_behind (b a:Ov) (prior:Bool):behindV (bareV b) (bareV a) prior = behindV b a prior:=by
  unfold behindV
  rw [bare_sound,bare_sound]
  by_cases h:soundV b = true∧soundV a = true
  · rw [if_pos h,if_pos h,all_bare,all_bare (becomesV b a prior),bare_becomes (sound_formed h.1) (sound_formed h.2)]
  · rw [if_neg h,if_neg h]
theorem bare_both (b a:Ov) (prior:Bool):bothV (bareV b) (bareV a) prior = bothV b a prior:=by
  unfold bothV
  rw [bare_behind,bare_behind]
end Go.Proofs.Ytidimannfemnmaa.Sqr
