/- MgAX: SqrBv SqrK SqrR SqrSp -/
import Derived.Test.YtidimannfemnmaaMgAW
import Derived.Test.YtidimannfemnmaaTopBj
import Derived.Test.YtidimannfemnmaaMgAV
import Derived.Test.YtidimannfemnmaaMgAT
import Derived.Test.YtidimannfemnmaaMgAO
set_option linter.all false
namespace Go.Proofs.Ytidimannfemnmaa.Sqr
open Go.RowKit Top Shf
set_option maxRecDepth 20000

theorem bare_kind (o:Ov):(bareV o).kind = o.kind:=rfl
theorem bare_path {o:Ov} (h:formedV o = true):(bareV o).path = o.path:=by
  have hk:1≤o.kind∧o.kind≤6:=by
    unfold formedV at h
    rw [Bool.and_eq_true] at h
    have h2:=h.2
    by_cases k1:o.kind = 1
    · omega
    · by_cases k2:o.kind = 2
      · omega
      · by_cases k3:o.kind = 3
        · omega
        · by_cases k4:o.kind = 4
          · omega
          · by_cases k5:o.kind = 5
            · omega
            · by_cases k6:o.kind = 6
              · omega
              · simp [k1,k2,k3,k4,k5,k6] at h2
  show (if 1≤o.kind∧o.kind≤6 then o.path else []) = o.path
  rw [if_pos hk]
theorem bare_to {o:Ov} (h:o.kind = 3):(bareV o).to_ = o.to_:=by
  show (if o.kind = 3 then o.to_ else []) = o.to_
  rw [if_pos h]
theorem bare_at {o:Ov} (h:o.kind = 1∨o.kind = 3):(bareV o).at_ = o.at_:=by
  show (if o.kind = 1∨o.kind = 3 then o.at_ else 0) = o.at_
  rw [if_pos h]
theorem bare_ch {o:Ov} (h:formedV o = true):chV (bareV o) = chV o:=by
  unfold chV
  rw [bare_formed,bare_kind,bare_path h]
  by_cases k1:o.kind = 1
  · rw [bare_at (.inl k1)]
    simp [k1]
  · by_cases k3:o.kind = 3
    · rw [bare_at (.inr k3),bare_to k3]
    · simp [k1,k3]
theorem bare_sound (o:Ov):soundV (bareV o) = soundV o:=by
  unfold soundV
  rw [bare_formed,bare_kind]
  cases h:formedV o with
  | false=>rfl
  | true =>
    rw [bare_path h]
    by_cases k3:o.kind = 3
    · rw [bare_to k3]
    · simp [k3]
theorem bare_nodeD {a:Ov} (h:formedV a = true) (p:List Int):nodeD (bareV a) p = nodeD a p:=by unfold nodeD;rw [bare_ch h]
theorem bare_gapD {a:Ov} (h:formedV a = true) (p:List Int) (i:Int) (f:Bool):gapD (bareV a) p i f = gapD a p i f:=by unfold gapD;rw [bare_ch h]
theorem bare_shifted {b a:Ov} {prior:Bool} (hb:formedV b = true) (ha:formedV a = true):bareV (shiftedV (bareV b) (bareV a) prior) = bareV (shiftedV b a prior):=by
  unfold shiftedV
  rw [bare_kind,bare_path hb,bare_nodeD ha]
  by_cases k1:b.kind = 1
  · rw [if_pos k1,if_pos k1,bare_at (.inl k1),bare_gapD ha]
    simp [bareV,k1]
  · rw [if_neg k1,if_neg k1]
    by_cases k3:b.kind = 3
    · rw [if_pos k3,if_pos k3,bare_at (.inr k3),bare_to k3,bare_nodeD ha,bare_gapD ha]
      simp [bareV,k3]
    · rw [if_neg k3,if_neg k3]
      by_cases k2:b.kind = 2
      · simp [bareV,k2]
      · by_cases k4:b.kind = 4
        · cases hg:b.gone <;> simp [bareV,k4,hg]
        · by_cases k5:b.kind = 5
          · simp [bareV,k5]
          · by_cases k6:b.kind = 6
            · simp [bareV,k6]
            · simp [bareV,k1,k2,k3,k4,k5,k6]
theorem bare_edit {b a:Ov} {prior:Bool} (hb:b.kind = 6) (ha:a.kind = 6) (fb:formedV b = true):bareV (editV (bareV b) (bareV a) prior) = bareV (editV b a prior):=by
  have e1:(bareV b).pieces = b.pieces:=by show (if b.kind = 6 then b.pieces else []) = _;rw [if_pos hb]
  have e2:(bareV a).pieces = a.pieces:=by show (if a.kind = 6 then a.pieces else []) = _;rw [if_pos ha]
  unfold editV
  rw [e1,e2]
  simp [bareV,hb]
theorem bare_key {b:Ov} (hb:b.kind = 4):(bareV b).key = b.key:=by show (if b.kind = 4 then b.key else []) = _;rw [if_pos hb]
theorem bare_becomes {b a:Ov} {prior:Bool} (hb:formedV b = true) (ha:formedV a = true):(becomesV (bareV b) (bareV a) prior).map bareV = (becomesV b a prior).map bareV:=by
  have hs:=bare_shifted (prior:=prior) hb ha
  have hd:∀ p,bareV (delV p) = bareV (delV p):=fun _=>rfl
  by_cases h2:a.kind = 2
  · cases w1:P4.withinV a.path b.path with
    | true=>rw [val_k2a h2 w1,val_k2a (b:=bareV b) (a:=bareV a) h2 (by rw [bare_path ha,bare_path hb];exact w1)]
    | false =>
      by_cases hb3:b.kind = 3
      · cases w2:P4.withinV a.path b.to_ with
        | true =>
          rw [val_k2b h2 w1 hb3 w2,val_k2b (b:=bareV b) (a:=bareV a) h2 (by rw [bare_path ha,bare_path hb];exact w1) hb3 (by rw [bare_path ha,bare_to hb3];exact w2),bare_nodeD ha,bare_path hb]
        | false =>
          rw [val_k2c h2 w1 fun _=>w2,val_k2c (b:=bareV b) (a:=bareV a) h2 (by rw [bare_path ha,bare_path hb];exact w1) fun _=>by rw [bare_path ha,bare_to hb3];exact w2]
          simp [hs]
      · rw [val_k2c h2 w1 fun e=>absurd e hb3,val_k2c (b:=bareV b) (a:=bareV a) h2 (by rw [bare_path ha,bare_path hb];exact w1) fun e=>absurd e hb3]
        simp [hs]
  · by_cases h23:b.kind = 2∧a.kind = 3
    · obtain ⟨kb,ka⟩:=h23
      by_cases hh:P4.eqV b.path a.path = false∧P4.withinV b.path a.path = true∧P4.withinV b.path a.to_ = false
      · rw [val_k23a kb ka hh.1 hh.2.1 hh.2.2,val_k23a (b:=bareV b) (a:=bareV a) kb ka (by rw [bare_path ha,bare_path hb];exact hh.1) (by rw [bare_path ha,bare_path hb];exact hh.2.1) (by rw [bare_to ka,bare_path hb];exact hh.2.2)]
        rw [bare_nodeD ha,bare_nodeD ha,bare_path ha,bare_path hb]
      · have h3:P4.eqV b.path a.path = true∨P4.withinV b.path a.path = false∨P4.withinV b.path a.to_ = true:=by
          cases e1:P4.eqV b.path a.path with
          | true=>exact .inl rfl
          | false =>
            cases e2:P4.withinV b.path a.path with
            | false=>exact .inr (.inl rfl)
            | true =>
              cases e3:P4.withinV b.path a.to_ with
              | true=>exact .inr (.inr rfl)
              | false=>exact absurd ⟨e1,e2,e3⟩ hh
        rw [val_k23b kb ka h3,val_k23b (b:=bareV b) (a:=bareV a) kb ka (by rw [bare_path ha,bare_path hb,bare_to ka];exact h3)]
        simp [hs]
    · by_cases h33:b.kind = 3∧a.kind = 3
      · obtain ⟨kb,ka⟩:=h33
        cases e1:P4.eqV b.path a.path with
        | true =>
          rw [val_k33a kb ka e1,val_k33a (b:=bareV b) (a:=bareV a) kb ka (by rw [bare_path ha,bare_path hb];exact e1)]
          cases prior <;> simp [hs]
        | false =>
          by_cases hh:P4.withinV b.path a.to_ = true∧P4.withinV a.path b.to_ = true
          · rw [val_k33b kb ka e1 hh.1 hh.2,val_k33b (b:=bareV b) (a:=bareV a) kb ka (by rw [bare_path ha,bare_path hb];exact e1) (by rw [bare_to ka,bare_path hb];exact hh.1) (by rw [bare_path ha,bare_to kb];exact hh.2),bare_ch ha]
            cases prior <;> simp [bare_bare]
          · have h3:P4.withinV b.path a.to_ = false∨P4.withinV a.path b.to_ = false:=by
              cases e2:P4.withinV b.path a.to_ with
              | false=>exact .inl rfl
              | true =>
                cases e3:P4.withinV a.path b.to_ with
                | false=>exact .inr rfl
                | true=>exact absurd ⟨e2,e3⟩ hh
            rw [val_k33c kb ka e1 h3,val_k33c (b:=bareV b) (a:=bareV a) kb ka (by rw [bare_path ha,bare_path hb];exact e1) (by rw [bare_to ka,bare_path hb,bare_path ha,bare_to kb];exact h3)]
            simp [hs]
      · by_cases h44:b.kind = 4∧a.kind = 4
        · obtain ⟨kb,ka⟩:=h44
          by_cases hh:P4.eqV b.path a.path = true∧b.key = a.key
          · rw [val_k44a kb ka hh.1 hh.2,val_k44a (b:=bareV b) (a:=bareV a) kb ka (by rw [bare_path ha,bare_path hb];exact hh.1) (by rw [bare_key kb,bare_key ka];exact hh.2)]
            cases prior <;> simp [hs]
          · have h3:P4.eqV b.path a.path = false∨b.key ≠ a.key:=by
              cases e1:P4.eqV b.path a.path with
              | false=>exact .inl rfl
              | true=>exact .inr fun e=>hh ⟨e1,e⟩
            rw [val_k44b kb ka h3,val_k44b (b:=bareV b) (a:=bareV a) kb ka (by rw [bare_path ha,bare_path hb,bare_key kb,bare_key ka];exact h3)]
            simp [hs]
        · by_cases h55:b.kind = 5∧a.kind = 5
          · obtain ⟨kb,ka⟩:=h55
            cases e1:P4.eqV b.path a.path with
            | true =>
              rw [val_k55a kb ka e1,val_k55a (b:=bareV b) (a:=bareV a) kb ka (by rw [bare_path ha,bare_path hb];exact e1)]
              cases prior <;> simp [hs]
            | false =>
              rw [val_k55b kb ka e1,val_k55b (b:=bareV b) (a:=bareV a) kb ka (by rw [bare_path ha,bare_path hb];exact e1)]
              simp [hs]
          · by_cases h66:b.kind = 6∧a.kind = 6
            · obtain ⟨kb,ka⟩:=h66
              cases e1:P4.eqV b.path a.path with
              | true =>
                rw [val_k66a kb ka e1,val_k66a (b:=bareV b) (a:=bareV a) kb ka (by rw [bare_path ha,bare_path hb];exact e1)]
                simp [bare_edit kb ka hb]
              | false =>
                rw [val_k66b kb ka e1,val_k66b (b:=bareV b) (a:=bareV a) kb ka (by rw [bare_path ha,bare_path hb];exact e1)]
                simp [hs]
            · rw [val_ko h2 ⟨h23,h33,h44,h55,h66⟩,val_ko (b:=bareV b) (a:=bareV a) h2 ⟨h23,h33,h44,h55,h66⟩]
              simp [hs]
theorem all_bare (l:List Ov):l.all formedV = (l.map bareV).all formedV:=by
  induction l with
  | nil=>rfl
  | cons x r ih=>simp only [List.all_cons,List.map_cons,ih,bare_formed]
theorem bare_behind (b a:Ov) (prior:Bool):behindV (bareV b) (bareV a) prior = behindV b a prior:=by
  unfold behindV
  rw [bare_sound,bare_sound]
  by_cases h:soundV b = true∧soundV a = true
  · rw [if_pos h,if_pos h,all_bare,all_bare (becomesV b a prior),bare_becomes (sound_formed h.1) (sound_formed h.2)]
  · rw [if_neg h,if_neg h]
theorem bare_both (b a:Ov) (prior:Bool):bothV (bareV b) (bareV a) prior = bothV b a prior:=by
  unfold bothV
  rw [bare_behind,bare_behind]
end Go.Proofs.Ytidimannfemnmaa.Sqr
namespace Go.Proofs.Ytidimannfemnmaa.Sqr
open Go.RowKit Top Shf Sim
set_option maxRecDepth 20000

theorem own_len {base:Nat} {w:World} {A:Option Addr} {n c:Nat} {l:List (Ov × OS)} (h:OwnO base w (.slice A n c) l):l.length = n:=by
  obtain ⟨A',n',c',e,h1,-⟩:=h.shape
  injection e with e1 e2 e3
  omega
theorem becomes_few (b a:Ov) (prior:Bool):(becomesV b a prior).length≤2:=by
  unfold becomesV
  repeat' split
  all_goals simp
set_option maxHeartbeats 32000000 in
theorem rBehind_any (w:World) (b a:Ov) (sb sa:OS) (prior:Bool) (hb:OpIn w b sb) (ha:OpIn w a sa) (hlb:Tiny b) (hla:Tiny a) (htb:P5.totP (pcs b.pieces)≤2000) (hta:P5.totP (pcs a.pieces)≤2000) :
    Calls Try.prog 130 #[.agg (opCells b sb),.agg (opCells a sa),.bool prior] w (BehA w (behindV b a prior)):=by
  obtain ⟨z1,z2,z4,z5⟩:=two_news w (.cells (opCells b sb) 52) (.cells (opCells a sa) 52)
  obtain ⟨W2,hW2⟩:∃ Q9,Q9 = ((w.alloc (.cells (opCells b sb) 52)).alloc (.cells (opCells a sa) 52)):=⟨_,rfl⟩
  rw [← hW2] at z1 z2 z4 z5
  have z4':=Lib.hid z4
  have z5':=Lib.hid z5
  have hrow:=Lib.hid (fun (W:World) (hB:Below W2.heap.size W2 W)=>And.intro ((hB.block w.heap.size (by omega)).trans z1) ((hB.block (w.heap.size + 1) (by omega)).trans z2))
  have hsb:=Lib.hid (fun (W:World) (hB:Below w.heap.size w W)=>rsound_any W b sb (hb.below hB))
  have hsa:=Lib.hid (fun (W:World) (hB:Below w.heap.size w W)=>rsound_any W a sa (ha.below hB))
  have hbec:=Lib.hid (fun (h1:soundV b = true) (h2:soundV a = true) (W:World) (hB:Below w.heap.size w W)=>rbehind_any W b a sb sa prior (hb.below hB) (ha.below hB) hlb hla fun e1 e2=>⟨sound_right h1 e1,sound_right h2 e2,htb,hta⟩)
  obtain ⟨R,hR⟩:∃ Q9,Q9 = behindV b a prior:=⟨_,rfl⟩
  rw [← hR]
  have HR:=Lib.hid hR
  have hfew:=Lib.hid (fun (m:List (Ov × OS)) (e:m.map Prod.fst = becomesV b a prior)=>show m.length≤2 by rw [← List.length_map (f:=Prod.fst),e];exact becomes_few b a prior)
  clear hb ha hlb hla htb hta z1 z2 z4 z5 hR
  unfold opCells at hW2 hsb hsa hbec
  unfold opCells
  go_enter Try.func130,Try.ntmps130
  go_upto_region 1 with fail
  rw [← hW2]
  clear hW2
  obtain ⟨r1,r2⟩:=hrow.out W2 (Below.refl _ _)
  obtain ⟨o0,o1,o2,o3,o4,o5,o6,o7,o8,o9,o10⟩:=op_cells r1
  obtain ⟨a0,a1,a2,a3,a4,a5,a6,a7,a8,a9,a10⟩:=op_cells r2
  clear r1 r2
  obtain ⟨s1,hs1⟩:∃ Q9,Q9 = soundV b:=⟨_,rfl⟩
  obtain ⟨s2,hs2⟩:∃ Q9,Q9 = soundV a:=⟨_,rfl⟩
  rw [← hs1] at hsb
  rw [← hs2] at hsa
  have HS1:=Lib.hid hs1.symm
  have HS2:=Lib.hid hs2.symm
  clear hs1 hs2
  cases s2 with
  | false =>
    have hv:=Lib.hid (HR.out.trans (behind_unsound (.inr HS2.out)))
    go_wp2_with (go_at_call_of 170 sa.pA;(refine (hsa.out _ z4'.out).mono ?_;rintro e w1 ⟨rfl,hb1⟩;have E1:=Lib.hid hb1;have V1:=Lib.hid (z4'.out.trans (hb1.mono z4'.out.size));clear hb1 o0 o1 o2 o3 o4 o5 o6 o7 o8 o9 o10 a0 a1 a2 a3 a4 a5 a6 a7 a8 a9 a10;obtain ⟨r1,r2⟩:=hrow.out _ E1.out;obtain ⟨o0,o1,o2,o3,o4,o5,o6,o7,o8,o9,o10⟩:=op_cells r1;obtain ⟨a0,a1,a2,a3,a4,a5,a6,a7,a8,a9,a10⟩:=op_cells r2;clear r1 r2))
    go_ret2
    rw [hv.out]
    exact BehA.nil_ V1.out
  | true =>
    cases s1 with
    | false =>
      have hv:=Lib.hid (HR.out.trans (behind_unsound (.inl HS1.out)))
      go_wp2_with (first | (go_at_call_of 170 sb.pA;(refine (hsb.out w1 V1.out).mono ?_;rintro e w2 ⟨rfl,hb2⟩;have E2:=Lib.hid (E1.out.trans (hb2.mono E1.out.size));have V2:=Lib.hid (z4'.out.trans (E2.out.mono z4'.out.size));clear hb2 o0 o1 o2 o3 o4 o5 o6 o7 o8 o9 o10 a0 a1 a2 a3 a4 a5 a6 a7 a8 a9 a10;obtain ⟨r1,r2⟩:=hrow.out _ E2.out;obtain ⟨o0,o1,o2,o3,o4,o5,o6,o7,o8,o9,o10⟩:=op_cells r1;obtain ⟨a0,a1,a2,a3,a4,a5,a6,a7,a8,a9,a10⟩:=op_cells r2;clear r1 r2)) | (go_at_call_of 170 sa.pA;(refine (hsa.out _ z4'.out).mono ?_;rintro e w1 ⟨rfl,hb1⟩;have E1:=Lib.hid hb1;have V1:=Lib.hid (z4'.out.trans (hb1.mono z4'.out.size));clear hb1 o0 o1 o2 o3 o4 o5 o6 o7 o8 o9 o10 a0 a1 a2 a3 a4 a5 a6 a7 a8 a9 a10;obtain ⟨r1,r2⟩:=hrow.out _ E1.out;obtain ⟨o0,o1,o2,o3,o4,o5,o6,o7,o8,o9,o10⟩:=op_cells r1;obtain ⟨a0,a1,a2,a3,a4,a5,a6,a7,a8,a9,a10⟩:=op_cells r2;clear r1 r2)))
      go_ret2
      rw [hv.out]
      exact BehA.nil_ V2.out
    | true =>
      have hbec2:=Lib.hid (hbec.out HS1.out HS2.out)
      clear hbec
      go_wp2_with (first | (go_at_call 171;(refine (hbec2.out w2 V2.out).mono ?_;rintro e w3 ⟨v3,rfl,h3⟩;obtain ⟨l',X,hl1,hl2,hl3,hl4,hl5⟩:=h3;obtain ⟨A,n,c,rfl,hn,hnc,hcm,-⟩:=hl4.shape;have HL:=Lib.hid (And.intro hl1 (And.intro hl2 (And.intro hl3 (And.intro hl4 (And.intro hl5 hn)))));have VX:=Lib.hid (V2.out.trans (hl3.mono V2.out.size));have HNC:=Lib.hid (And.intro hnc hcm);clear hl1 hl2 hl3 hl4 hl5 hn hnc hcm o0 o1 o2 o3 o4 o5 o6 o7 o8 o9 o10 a0 a1 a2 a3 a4 a5 a6 a7 a8 a9 a10)) | (go_at_call_of 170 sb.pA;(refine (hsb.out w1 V1.out).mono ?_;rintro e w2 ⟨rfl,hb2⟩;have E2:=Lib.hid (E1.out.trans (hb2.mono E1.out.size));have V2:=Lib.hid (z4'.out.trans (E2.out.mono z4'.out.size));clear hb2 o0 o1 o2 o3 o4 o5 o6 o7 o8 o9 o10 a0 a1 a2 a3 a4 a5 a6 a7 a8 a9 a10;obtain ⟨r1,r2⟩:=hrow.out _ E2.out;obtain ⟨o0,o1,o2,o3,o4,o5,o6,o7,o8,o9,o10⟩:=op_cells r1;obtain ⟨a0,a1,a2,a3,a4,a5,a6,a7,a8,a9,a10⟩:=op_cells r2;clear r1 r2)) | (go_at_call_of 170 sa.pA;(refine (hsa.out _ z4'.out).mono ?_;rintro e w1 ⟨rfl,hb1⟩;have E1:=Lib.hid hb1;have V1:=Lib.hid (z4'.out.trans (hb1.mono z4'.out.size));clear hb1 o0 o1 o2 o3 o4 o5 o6 o7 o8 o9 o10 a0 a1 a2 a3 a4 a5 a6 a7 a8 a9 a10;obtain ⟨r1,r2⟩:=hrow.out _ E1.out;obtain ⟨o0,o1,o2,o3,o4,o5,o6,o7,o8,o9,o10⟩:=op_cells r1;obtain ⟨a0,a1,a2,a3,a4,a5,a6,a7,a8,a9,a10⟩:=op_cells r2;clear r1 r2)))
      have B3:=Lib.hid (HL.out.2.2.1.trans (HL.out.2.2.2.2.1.mono HL.out.2.2.1.size))
      have V3:=Lib.hid (VX.out.trans (HL.out.2.2.2.2.1.mono VX.out.size))
      go_loopw [10,11] (fun v10 v11 wr=>∃ q:Nat,q≤n∧v11 = .int .i64 (q:Int)∧∃ (A1:Option Addr) (n1 c1:Nat) (rl:List (Ov × OS)),v10 = .slice A1 n1 c1∧OwnO w3.heap.size wr (.slice A1 n1 c1) rl∧(∀ x ∈ rl,OwnOp w3.heap.size wr x.1 x.2∧OvOk x.1)∧rl.map Prod.fst = ((l'.take q).map Prod.fst).map bareV∧(∀ j y,j < q→l'[j]? = some y→formedV y.1 = true)∧Below w3.heap.size w3 wr) (fun _ v11 _=>n - (intOf v11).toNat)
      case atStart=>exact ⟨0,Nat.zero_le _,rfl,none,0,0,[],rfl,OwnO.nil_ _ _,fun x hx=>by simp at hx,rfl,fun j y hj=>by omega,Below.refl _ _⟩
      case round =>
        obtain ⟨q,hq,rfl,A1,n1,c1,rl,rfl,i1,i2,i3,i4,i5⟩:=hrel
        have I1:=Lib.hid i1
        have I2:=Lib.hid i2
        have I3:=Lib.hid i3
        have I4:=Lib.hid i4
        have I5:=Lib.hid i5
        have VR:=Lib.hid (V3.out.trans (i5.mono V3.out.size))
        clear i1 i2 i3 i4 i5
        obtain ⟨wo,hwo⟩:∃ Z,Z = wr:=⟨_,rfl⟩
        subst hwo
        by_cases hqn:q < n
        · have hqI:(q:Int) < (n:Int):=by omega
          have e0_:(0:Int)≤(q:Int):=by omega
          obtain ⟨y,hy⟩:∃ y,l'[q]? = some y:=⟨_,List.getElem?_eq_getElem (by have:=HL.out.2.2.2.2.2;omega)⟩
          obtain ⟨o,s⟩:=y
          obtain ⟨A',n',c',p1,p2,p3,p4,p5,p6⟩:=HL.out.2.2.2.1.shape
          injection p1 with f1 f2 f3
          subst f1 f2 f3
          obtain ⟨g,rfl,hgb,hgl,hel⟩:=p6 q (o,s) hy
          have hadd:(⟨g,0,none⟩:Addr).add (q * 11) = ⟨g,q * 11,none⟩:=add_zero_off g (q * 11)
          have HEL:=Lib.hid (fun (W:World) (hB:Below w3.heap.size w3 W)=>hel.kept (w':=W) (hB.block g hgl))
          obtain ⟨e0,e1,e2,e3,e4,e5,e6,e7,e8,e9,e10⟩:=HEL.out _ I5.out
          dsimp only at e0 e1 e2 e3 e4 e5 e6 e7 e8 e9 e10
          have HY:=Lib.hid hy
          have hin:=Lib.hid (fun (W:World) (hB:Below w3.heap.size w3 W)=>(HL.out.2.1 (o,s) (List.mem_of_getElem? hy)).below (HL.out.2.2.2.2.1.trans (hB.mono HL.out.2.2.2.2.1.size)))
          have hfo:=Lib.hid (rformed_any wo o s (hin.out wo I5.out))
          have hba:=Lib.hid (fun (W:World) (hw:Below w3.heap.size w3 W)=>rbare_any W o s (hin.out W hw))
          have hok:=Lib.hid (op_ok (hin.out wo I5.out)).bare
          have hnm:(n:Int)≤9223372036854775807:=by unfold maxLen at p4;omega
          obtain ⟨ff,hff⟩:∃ Q9,Q9 = formedV o:=⟨_,rfl⟩
          rw [← hff] at hfo
          have HFF:=Lib.hid hff.symm
          obtain ⟨b',hb'⟩:∃ Q9,Q9 = bareV o:=⟨_,rfl⟩
          rw [← hb'] at hba hok
          have HB':=Lib.hid hb'
          unfold opCells at hfo hba
          clear hy hgb hgl hff hb' p2 p3 p4 p5 p6 hel
          cases ff with
          | false =>
            have hv:=Lib.hid (HR.out.trans (behind_unformed HS1.out HS2.out (show o ∈ becomesV b a prior by rw [← HL.out.1];exact List.mem_map.2 ⟨(o,s),List.mem_of_getElem? HY.out,rfl⟩) HFF.out))
            go_wp2_with (go_at_call 106;(refine hfo.out.mono ?_;rintro e w4 ⟨rfl,hb4⟩;have E4:=Lib.hid hb4;have J4:=Lib.hid (I5.out.trans (hb4.mono I5.out.size));clear hb4 e0 e1 e2 e3 e4 e5 e6 e7 e8 e9 e10;obtain ⟨e0,e1,e2,e3,e4,e5,e6,e7,e8,e9,e10⟩:=HEL.out _ J4.out;dsimp only at e0 e1 e2 e3 e4 e5 e6 e7 e8 e9 e10))
            go_ret2
            rw [hv.out]
            exact BehA.nil_ (VR.out.trans (E4.out.mono VR.out.size))
          | true =>
            go_wp2_with (first | (at_builtin;(refine wpList_append_op rfl (.tmp 41) (.tmp 47) rfl w3.heap.size (.slice A1 n1 c1) rl rfl (I1.out.kept fun k h1 h2=>E5.out.block k h2) (b',s5) rfl (by have e1:=congrArg List.length I3.out;simp only [List.length_map,List.length_take] at e1;have e2:=HL.out.2.2.2.2.2;have e3:=hfew.out l' HL.out.1;omega) J5.out.size ?_;intro v6 w6 hv6 hg6;have V6:=Lib.hid hv6;have G6:=Lib.hid hg6;clear hv6 hg6)) | (go_at_call 32;(refine (hba.out w4 J4.out).mono ?_;rintro e w5 ⟨s5,rfl,h5,hb5⟩;have H5:=Lib.hid h5;have E5:=Lib.hid (E4.out.trans (hb5.mono E4.out.size));have J5:=Lib.hid (J4.out.trans (hb5.mono J4.out.size));have HN1:=Lib.hid (own_len I1.out);clear h5 hb5 e0 e1 e2 e3 e4 e5 e6 e7 e8 e9 e10;unfold opCells)) | (go_at_call 106;(refine hfo.out.mono ?_;rintro e w4 ⟨rfl,hb4⟩;have E4:=Lib.hid hb4;have J4:=Lib.hid (I5.out.trans (hb4.mono I5.out.size));clear hb4 e0 e1 e2 e3 e4 e5 e6 e7 e8 e9 e10;obtain ⟨e0,e1,e2,e3,e4,e5,e6,e7,e8,e9,e10⟩:=HEL.out _ J4.out;dsimp only at e0 e1 e2 e3 e4 e5 e6 e7 e8 e9 e10)))
            go_roundw
            case rel =>
              have hlen:=HL.out.2.2.2.2.2
              obtain ⟨A2,n2,c2,rfl,x1,x2,x3⟩:=behind_fin (k:=n1) I1.out I2.out I5.out.size (Nat.le_refl _) (H5.out.mono (by have:=I5.out.size;have:=E4.out.size;omega)) hok.out E5.out (by rw [List.take_of_length_le (by rw [HN1.out];exact Nat.le_refl _)];exact V6.out) G6.out
              rw [List.take_of_length_le (by rw [HN1.out];exact Nat.le_refl _)] at x1 x2
              refine ⟨q + 1,by omega,by go_num,A2,n2,c2,_,rfl,x1,x2,?_,fun j y hj hy=>?_,I5.out.trans (x3.mono (Nat.le_refl _))⟩
              · rw [List.map_append,I3.out,List.take_add_one,HY.out]
                simp [HB'.out]
              · by_cases hjq:j = q
                · subst hjq
                  rw [HY.out] at hy
                  injection hy with hy
                  rw [← hy]
                  exact HFF.out
                · exact I4.out j y (by omega) hy
            case measure=>simp [intOf];omega
        · have hqI:¬ (q:Int) < (n:Int):=by omega
          obtain rfl:q = n:=by omega
          have hlen:=HL.out.2.2.2.2.2
          have htk:l'.take q = l':=List.take_of_length_le (by omega)
          have hv:=Lib.hid (HR.out.trans (behind_formed HS1.out HS2.out (fun y hy=>by
            rw [← HL.out.1] at hy
            obtain ⟨z,hz,rfl⟩:=List.mem_map.1 hy
            obtain ⟨j,hj⟩:=List.getElem?_of_mem hz
            exact I4.out j z (by have:=(List.getElem?_eq_some_iff.1 hj).1;omega) hj)))
          have hmap:=Lib.hid (show rl.map Prod.fst = (becomesV b a prior).map bareV by rw [I3.out,htk,HL.out.1])
          clear htk hlen
          go_wp2_with fail
          go_ret2
          rw [hv.out]
          exact ⟨_,rl,rfl,hmap.out,own_mono I1.out V3.out.size,fun x hx=>⟨(I2.out x hx).1.mono V3.out.size,(I2.out x hx).2⟩,VR.out⟩

end Go.Proofs.Ytidimannfemnmaa.Sqr
namespace Go.Proofs.Ytidimannfemnmaa.Sqr
open Go.RowKit Top Shf Sim
set_option maxRecDepth 20000

set_option maxHeartbeats 16000000 in
theorem rBoth_any (w:World) (b a:Ov) (sb sa:OS) (prior:Bool) (hb:OpIn w b sb) (ha:OpIn w a sa) (hlb:Tiny b) (hla:Tiny a) (htb:P5.totP (pcs b.pieces)≤2000) (hta:P5.totP (pcs a.pieces)≤2000) :
    Calls Try.prog 54 #[.agg (opCells b sb),.agg (opCells a sa),.bool prior] w (BothA w (bothV b a prior)):=by
  obtain ⟨z1,z2,z4,z5⟩:=two_news w (.cells (opCells b sb) 52) (.cells (opCells a sa) 52)
  obtain ⟨W2,hW2⟩:∃ Q9,Q9 = ((w.alloc (.cells (opCells b sb) 52)).alloc (.cells (opCells a sa) 52)):=⟨_,rfl⟩
  rw [← hW2] at z1 z2 z4 z5
  have z4':=Lib.hid z4
  have z5':=Lib.hid z5
  have hrow:=Lib.hid (fun (W:World) (hB:Below W2.heap.size W2 W)=>And.intro ((hB.block w.heap.size (by omega)).trans z1) ((hB.block (w.heap.size + 1) (by omega)).trans z2))
  have hp:=Lib.hid (fun (W:World) (hB:Below w.heap.size w W)=>rBehind_any W b a sb sa prior (hb.below hB) (ha.below hB) hlb hla htb hta)
  have hq:=Lib.hid (fun (W:World) (hB:Below w.heap.size w W)=>rBehind_any W a b sa sb (!prior) (ha.below hB) (hb.below hB) hla hlb hta htb)
  obtain ⟨R,hR⟩:∃ Q9,Q9 = bothV b a prior:=⟨_,rfl⟩
  rw [← hR]
  unfold bothV at hR
  generalize behindV b a prior = P at hp hR
  generalize behindV a b (!prior) = Q at hq hR
  have HR:=Lib.hid hR
  obtain ⟨r1_,k1⟩:=P
  obtain ⟨r2_,k2⟩:=Q
  dsimp only at HR
  clear hb ha hlb hla htb hta z1 z2 z4 z5 hR
  unfold opCells at hW2 hp hq
  unfold opCells
  go_enter Try.func54,Try.ntmps54
  go_upto_region 1 with fail
  rw [← hW2]
  clear hW2
  obtain ⟨r1,r2⟩:=hrow.out W2 (Below.refl _ _)
  obtain ⟨o0,o1,o2,o3,o4,o5,o6,o7,o8,o9,o10⟩:=op_cells r1
  obtain ⟨a0,a1,a2,a3,a4,a5,a6,a7,a8,a9,a10⟩:=op_cells r2
  clear r1 r2
  by_cases h1:k1 = 0
  · subst h1
    by_cases h2:k2 = 0
    · subst h2
      have hv:=Lib.hid (HR.out.trans (show _ = (r1_,r2_,(0:Int)) by simp))
      go_wp2_with (first | (go_at_call 130;(refine (hq.out w5 V5.out).mono ?_;rintro e w6 ⟨v6,l6,rfl,h5,h6,h7,hb9⟩;have M6:=Lib.hid h5;have X6:=Lib.hid (And.intro h6 h7);have E6:=Lib.hid hb9;have V6:=Lib.hid (V5.out.trans (hb9.mono V5.out.size));clear h5 h6 h7 hb9 o0 o1 o2 o3 o4 o5 o6 o7 o8 o9 o10 a0 a1 a2 a3 a4 a5 a6 a7 a8 a9 a10)) | (go_at_call_of 130 sb.pA;(refine (hp.out _ z4'.out).mono ?_;rintro e w5 ⟨v5,l5,rfl,h5,h6,h7,hb9⟩;have M5:=Lib.hid h5;have X5:=Lib.hid (And.intro h6 h7);have E5:=Lib.hid hb9;have V5:=Lib.hid (z4'.out.trans (hb9.mono z4'.out.size));clear h5 h6 h7 hb9 o0 o1 o2 o3 o4 o5 o6 o7 o8 o9 o10 a0 a1 a2 a3 a4 a5 a6 a7 a8 a9 a10;obtain ⟨r1,r2⟩:=hrow.out _ E5.out;obtain ⟨o0,o1,o2,o3,o4,o5,o6,o7,o8,o9,o10⟩:=op_cells r1;obtain ⟨a0,a1,a2,a3,a4,a5,a6,a7,a8,a9,a10⟩:=op_cells r2;clear r1 r2)))
      go_ret3
      rw [hv.out]
      exact ⟨_,_,l5,l6,rfl,M5.out,M6.out,⟨own_mono (X5.out.1.kept fun k h1 h2=>E6.out.block k h2) z4'.out.size,fun x hx=>⟨((X5.out.2 x hx).1.kept fun k h1 h2=>E6.out.block k h2).mono z4'.out.size,(X5.out.2 x hx).2⟩⟩,⟨own_mono X6.out.1 V5.out.size,fun x hx=>⟨(X6.out.2 x hx).1.mono V5.out.size,(X6.out.2 x hx).2⟩⟩,V6.out⟩
    · have n2:(k2 != 0) = true:=by simp [h2]
      have hv:=Lib.hid (HR.out.trans (show _ = (([]:List Ov),([]:List Ov),k2) by simp [h2]))
      clear h2
      go_wp2_with (first | (go_at_call 130;(refine (hq.out w5 V5.out).mono ?_;rintro e w6 ⟨v6,l6,rfl,h5,h6,h7,hb9⟩;have M6:=Lib.hid h5;have X6:=Lib.hid (And.intro h6 h7);have E6:=Lib.hid hb9;have V6:=Lib.hid (V5.out.trans (hb9.mono V5.out.size));clear h5 h6 h7 hb9 o0 o1 o2 o3 o4 o5 o6 o7 o8 o9 o10 a0 a1 a2 a3 a4 a5 a6 a7 a8 a9 a10)) | (go_at_call_of 130 sb.pA;(refine (hp.out _ z4'.out).mono ?_;rintro e w5 ⟨v5,l5,rfl,h5,h6,h7,hb9⟩;have M5:=Lib.hid h5;have X5:=Lib.hid (And.intro h6 h7);have E5:=Lib.hid hb9;have V5:=Lib.hid (z4'.out.trans (hb9.mono z4'.out.size));clear h5 h6 h7 hb9 o0 o1 o2 o3 o4 o5 o6 o7 o8 o9 o10 a0 a1 a2 a3 a4 a5 a6 a7 a8 a9 a10;obtain ⟨r1,r2⟩:=hrow.out _ E5.out;obtain ⟨o0,o1,o2,o3,o4,o5,o6,o7,o8,o9,o10⟩:=op_cells r1;obtain ⟨a0,a1,a2,a3,a4,a5,a6,a7,a8,a9,a10⟩:=op_cells r2;clear r1 r2)))
      go_ret3
      rw [hv.out]
      exact BothA.nil_ V6.out
  · have n1:(k1 != 0) = true:=by simp [h1]
    have hv:=Lib.hid (HR.out.trans (show _ = (([]:List Ov),([]:List Ov),k1) by simp [h1]))
    clear h1
    go_wp2_with (first | (go_at_call 130;(refine (hq.out w5 V5.out).mono ?_;rintro e w6 ⟨v6,l6,rfl,h5,h6,h7,hb9⟩;have M6:=Lib.hid h5;have X6:=Lib.hid (And.intro h6 h7);have E6:=Lib.hid hb9;have V6:=Lib.hid (V5.out.trans (hb9.mono V5.out.size));clear h5 h6 h7 hb9 o0 o1 o2 o3 o4 o5 o6 o7 o8 o9 o10 a0 a1 a2 a3 a4 a5 a6 a7 a8 a9 a10)) | (go_at_call_of 130 sb.pA;(refine (hp.out _ z4'.out).mono ?_;rintro e w5 ⟨v5,l5,rfl,h5,h6,h7,hb9⟩;have M5:=Lib.hid h5;have X5:=Lib.hid (And.intro h6 h7);have E5:=Lib.hid hb9;have V5:=Lib.hid (z4'.out.trans (hb9.mono z4'.out.size));clear h5 h6 h7 hb9 o0 o1 o2 o3 o4 o5 o6 o7 o8 o9 o10 a0 a1 a2 a3 a4 a5 a6 a7 a8 a9 a10;obtain ⟨r1,r2⟩:=hrow.out _ E5.out;obtain ⟨o0,o1,o2,o3,o4,o5,o6,o7,o8,o9,o10⟩:=op_cells r1;obtain ⟨a0,a1,a2,a3,a4,a5,a6,a7,a8,a9,a10⟩:=op_cells r2;clear r1 r2)))
    go_ret3
    rw [hv.out]
    exact BothA.nil_ V6.out

end Go.Proofs.Ytidimannfemnmaa.Sqr
namespace Go.Proofs.Ytidimannfemnmaa.Sqr
open Go.RowKit Top Shf Sim
set_option maxRecDepth 20000

structure Shp (base:Nat) (w w':World):Prop where
  bel:Below base w w'
  shape:∀ (g:Nat) (cs:Array Value) (t:TypeId),w.heap[g]? = some (.cells cs t (0,0))→∃ cs',w'.heap[g]? = some (.cells cs' t (0,0))∧cs'.size = cs.size∧(t = 52→cs' = cs)
theorem Shp.refl {base:Nat} {w:World}:Shp base w w:=⟨Below.refl _ _,fun g cs t h=>⟨cs,h,rfl,fun _=>rfl⟩⟩
theorem Shp.trans {base:Nat} {w w1 w2:World} (h:Shp base w w1) (h2:Shp base w1 w2):Shp base w w2 :=
  ⟨h.bel.trans h2.bel,fun g cs t e=>by
    obtain ⟨c1,e1,s1,k1⟩:=h.shape g cs t e
    obtain ⟨c2,e2,s2,k2⟩:=h2.shape g c1 t e1
    exact ⟨c2,e2,by omega,fun ht=>(k2 ht).trans (k1 ht)⟩⟩
theorem Shp.of_below {base:Nat} {w w1 w2:World} (h:Shp base w w1) (h2:Below w1.heap.size w1 w2) (hb:base≤w.heap.size):Shp base w w2 :=
  ⟨h.bel.trans (h2.mono (Nat.le_trans hb h.bel.size)),fun g cs t e=>by
    obtain ⟨c1,e1,s1,k1⟩:=h.shape g cs t e
    exact ⟨c1,(h2.block g (Array.getElem?_eq_some_iff.1 e1).1).trans e1,s1,k1⟩⟩
theorem Shp.set {base:Nat} {w w1:World} {g i:Nat} {v:Value} {cs:Array Value} {t:TypeId} (h:Shp base w w1) (hg:w1.heap[g]? = some (.cells cs t (0,0))) (ht:t ≠ 52) (hb:base≤g):Shp base w (w1.setCell ⟨g,i,none⟩ v) :=
  ⟨h.bel.setCell (p:=⟨g,i,none⟩) hb v,fun k c t' e=>by
    obtain ⟨c1,e1,s1,k1⟩:=h.shape k c t' e
    by_cases hk:k = g
    · subst hk
      rw [hg] at e1
      injection e1 with e1
      injection e1 with a1 a2 a3
      subst a1 a2
      exact ⟨_,heap_setCell_same w1 k i _ _ _ hg,by simpa using s1,fun e=>absurd e ht⟩
    · exact ⟨c1,(heap_setCell_other w1 ⟨g,i,none⟩ k _ hk).trans e1,s1,k1⟩⟩
def Wri (base:Nat) (w:World) (T:TypeId) (size:Nat) (A:Option Addr) (n:Nat):Prop:=n = 0∨∃ (g:Nat) (cs:Array Value),A = some ⟨g,0,none⟩∧base≤g∧w.heap[g]? = some (.cells cs T (0,0))∧n * size≤cs.size
theorem Wri.of {base size n c:Nat} {w:World} {T:TypeId} {A:Option Addr} {m:Nat} {xs:List Value} (h:w.ownsRow base T size (.slice A n c) m xs):Wri base w T size A n:=by
  rcases h.2 with ⟨e,e0⟩ | ⟨g,cap,cur,e,hb,hg,hnc,hcm,hcs,-⟩
  · injection e with e1 e2 e3
    exact .inl e2
  · injection e with e1 e2 e3
    subst e1 e2 e3
    exact .inr ⟨g,cur,rfl,hb,hg,by rw [hcs];exact Nat.mul_le_mul_right _ hnc⟩
theorem Wri.shp {base size n:Nat} {w w':World} {T:TypeId} {A:Option Addr} (h:Wri base w T size A n) (hs:Shp base w w'):Wri base w' T size A n:=by
  rcases h with h | ⟨g,cs,h1,h2,h3,h4⟩
  · exact .inl h
  · obtain ⟨c1,e1,s1,-⟩:=hs.shape g cs T h3
    exact .inr ⟨g,c1,h1,h2,e1,by omega⟩
structure Sp (base:Nat) (w:World) (s:OS):Prop where
  p:Wri base w 3 1 s.pA s.pn
  t:Wri base w 3 1 s.tA s.tn
  q:Wri base w 60 3 s.qA s.qn
theorem Sp.of {base:Nat} {w:World} {o:Ov} {s:OS} (h:OwnOp base w o s):Sp base w s:=⟨Wri.of h.path,Wri.of h.to_,Wri.of h.pieces⟩
theorem Sp.shp {base:Nat} {w w':World} {s:OS} (h:Sp base w s) (hs:Shp base w w'):Sp base w' s:=⟨h.p.shp hs,h.t.shp hs,h.q.shp hs⟩
set_option maxHeartbeats 16000000 in
theorem spoil_any (base:Nat) (w:World) (o:Ov) (s:OS) (hbase:base≤w.heap.size) (h:Sp base w s) (hm:s.pn≤maxLen∧s.tn≤maxLen∧s.qn≤maxLen) :
    Calls Try.prog 56 #[.agg (opCells o s)] w fun e w'=>e = .returned (.tuple #[])∧Shp base w w':=by
  obtain ⟨W2,hW2⟩:∃ Q9,Q9 = w.alloc (.cells (opCells o s) 52):=⟨_,rfl⟩
  have z1:=Lib.hid (show W2.heap[w.heap.size]? = some (.cells (opCells o s) 52 (0,0)) by rw [hW2];exact heap_alloc_new w _)
  have z4:=Lib.hid (show Shp base w W2 by rw [hW2];exact Shp.refl.of_below ((Below.refl _ _).alloc (Nat.le_refl _) _) hbase)
  have hH:=Lib.hid h
  have hb':=Lib.hid hbase
  obtain ⟨m1,m2,m3⟩:=hm
  unfold maxLen at m1 m2 m3
  have hrow:=Lib.hid (fun (W:World) (hs:Shp base W2 W)=>by obtain ⟨c1,e1,-,k⟩:=hs.shape _ _ _ z1.out;rw [k rfl] at e1;exact e1)
  obtain ⟨o0,o1,o2,o3,o4,o5,o6,o7,o8,o9,o10⟩:=op_cells z1.out
  rw [hW2] at o0 o1 o2 o3 o4 o5 o6 o7 o8 o9 o10
  unfold opCells at hW2
  unfold opCells
  clear h hbase
  go_enter Try.func56,Try.ntmps56
  go_wp2_with fail
  rw [← hW2]
  clear hW2 o0 o1 o2 o3 o4 o5 o6 o7 o8 o9 o10
  go_loopw [2] (fun v wr=>∃ q:Nat,q≤s.pn∧v = .int .i64 (q:Int)∧Shp base W2 wr) (fun v _=>s.pn - (intOf v).toNat)
  case atStart=>exact ⟨0,Nat.zero_le _,rfl,Shp.refl⟩
  case round =>
    obtain ⟨q,hq,rfl,hs⟩:=hrel
    have HS2:=Lib.hid hs
    have hr:=hrow.out _ hs
    obtain ⟨o0,o1,o2,o3,o4,o5,o6,o7,o8,o9,o10⟩:=op_cells hr
    clear hs hr
    by_cases hqn:q < s.pn
    · have hqI:(q:Int) < (s.pn:Int):=by omega
      have e0_:(0:Int)≤(q:Int):=by omega
      obtain ⟨g,cs,hA,hgb,hg,hsz⟩:∃ (g:Nat) (cs:Array Value),s.pA = some ⟨g,0,none⟩∧base≤g∧wr.heap[g]? = some (.cells cs 3 (0,0))∧s.pn * 1≤cs.size:=by
        rcases ((hH.out.shp z4.out).shp HS2.out).p with h0 | h0
        · omega
        · exact h0
      have hcell:∃ v,wr.cell? ⟨g,q,none⟩ = some v:=by
        rw [cell_of_row wr g _ _ _ _ hg]
        exact ⟨_,Array.getElem?_eq_getElem (by omega)⟩
      obtain ⟨v0,hv0⟩:=hcell
      have hfz:=frozen_of_row wr g (q) _ _ hg
      have hadd:(⟨g,0,none⟩:Addr).add (q) = ⟨g,q,none⟩:=add_zero_off g _
      have HG:=Lib.hid hg
      have HB:=Lib.hid hgb
      rw [hA] at o1
      clear hg hgb hsz hA
      go_wp2_with fail
      go_roundw
      case rel=>exact ⟨q + 1,by omega,by go_num,HS2.out.set HG.out (by decide) HB.out⟩
      case measure=>simp [intOf];omega
    · have hqI:¬ (q:Int) < (s.pn:Int):=by omega
      obtain ⟨wl2,hwl⟩:∃ Q9,Q9 = wr:=⟨_,rfl⟩
      subst hwl
      go_wp2_with fail
      clear hqI hq o0 o1 o2 o3 o4 o5 o6 o7 o8 o9 o10
      go_loopw [3] (fun v wr=>∃ q:Nat,q≤s.tn∧v = .int .i64 (q:Int)∧Shp base W2 wr) (fun v _=>s.tn - (intOf v).toNat)
      case atStart=>exact ⟨0,Nat.zero_le _,rfl,HS2.out⟩
      case round =>
        obtain ⟨q,hq,rfl,hs⟩:=hrel
        have HS3:=Lib.hid hs
        have hr:=hrow.out _ hs
        obtain ⟨o0,o1,o2,o3,o4,o5,o6,o7,o8,o9,o10⟩:=op_cells hr
        clear hs hr
        by_cases hqn:q < s.tn
        · have hqI:(q:Int) < (s.tn:Int):=by omega
          have e0_:(0:Int)≤(q:Int):=by omega
          obtain ⟨g,cs,hA,hgb,hg,hsz⟩:∃ (g:Nat) (cs:Array Value),s.tA = some ⟨g,0,none⟩∧base≤g∧wr.heap[g]? = some (.cells cs 3 (0,0))∧s.tn * 1≤cs.size:=by
            rcases ((hH.out.shp z4.out).shp HS3.out).t with h0 | h0
            · omega
            · exact h0
          have hcell:∃ v,wr.cell? ⟨g,q,none⟩ = some v:=by
            rw [cell_of_row wr g _ _ _ _ hg]
            exact ⟨_,Array.getElem?_eq_getElem (by omega)⟩
          obtain ⟨v0,hv0⟩:=hcell
          have hfz:=frozen_of_row wr g (q) _ _ hg
          have hadd:(⟨g,0,none⟩:Addr).add (q) = ⟨g,q,none⟩:=add_zero_off g _
          have HG:=Lib.hid hg
          have HB:=Lib.hid hgb
          rw [hA] at o3
          clear hg hgb hsz hA
          go_wp2_with fail
          go_roundw
          case rel=>exact ⟨q + 1,by omega,by go_num,HS3.out.set HG.out (by decide) HB.out⟩
          case measure=>simp [intOf];omega
        · have hqI:¬ (q:Int) < (s.tn:Int):=by omega
          obtain ⟨wl3,hwl⟩:∃ Q9,Q9 = wr:=⟨_,rfl⟩
          subst hwl
          go_wp2_with fail
          clear hqI hq o0 o1 o2 o3 o4 o5 o6 o7 o8 o9 o10
          go_loopw [4] (fun v wr=>∃ q:Nat,q≤s.qn∧v = .int .i64 (q:Int)∧Shp base W2 wr) (fun v _=>s.qn - (intOf v).toNat)
          case atStart=>exact ⟨0,Nat.zero_le _,rfl,HS3.out⟩
          case round =>
            obtain ⟨q,hq,rfl,hs⟩:=hrel
            have HS4:=Lib.hid hs
            have hr:=hrow.out _ hs
            obtain ⟨o0,o1,o2,o3,o4,o5,o6,o7,o8,o9,o10⟩:=op_cells hr
            clear hs hr
            by_cases hqn:q < s.qn
            · have hqI:(q:Int) < (s.qn:Int):=by omega
              have e0_:(0:Int)≤(q:Int):=by omega
              obtain ⟨g,cs,hA,hgb,hg,hsz⟩:∃ (g:Nat) (cs:Array Value),s.qA = some ⟨g,0,none⟩∧base≤g∧wr.heap[g]? = some (.cells cs 60 (0,0))∧s.qn * 3≤cs.size:=by
                rcases ((hH.out.shp z4.out).shp HS4.out).q with h0 | h0
                · omega
                · exact h0
              have hcell:∃ v,wr.cell? ⟨g,q * 3,none⟩ = some v:=by
                rw [cell_of_row wr g _ _ _ _ hg]
                exact ⟨_,Array.getElem?_eq_getElem (by omega)⟩
              obtain ⟨v0,hv0⟩:=hcell
              have hfz:=frozen_of_row wr g (q * 3) _ _ hg
              have hadd:(⟨g,0,none⟩:Addr).add (q * 3) = ⟨g,q * 3,none⟩:=add_zero_off g _
              have HG:=Lib.hid hg
              have HB:=Lib.hid hgb
              rw [hA] at o10
              clear hg hgb hsz hA
              go_wp2_with fail
              go_roundw
              case rel=>exact ⟨q + 1,by omega,by go_num,HS4.out.set HG.out (by decide) HB.out⟩
              case measure=>simp [intOf];omega
            · have hqI:¬ (q:Int) < (s.qn:Int):=by omega
              obtain ⟨wl4,hwl⟩:∃ Q9,Q9 = wr:=⟨_,rfl⟩
              subst hwl
              go_wp2_with fail
              go_end0
              exact ⟨rfl,z4.out.trans HS4.out⟩
end Go.Proofs.Ytidimannfemnmaa.Sqr
