/- MgAP: SimE SimF SimG SimH SimI -/
import Derived.Test.YtmipodnffhngaaaMgAM
import Derived.Test.YtmipodnffhngaaaMgAN
import Derived.Test.YtmipodnffhngaaaMgAO
import Derived.Stop.BytesEq
import Derived.Test.YtmipodnffhngaaaMgAK
import Derived.Deep.RegionHeld3
set_option linter.all false
namespace Go.Proofs.Ytmipodnffhngaaa.Sim
open Go.RowKit Top
set_option maxRecDepth 20000
set_option linter.unusedVariables false

def pairV (a b:Ov):Option (List Ov) :=
  if countsB a = true∧countsB b = true∧subjV a = b.path then
    if a.kind = 1∧b.kind = 2 then some []
    else if a.kind = 1∧b.kind = 5 then some [bareV { a with label:=b.label }]
    else if a.kind = 5∧b.kind = 5 then some [bareV b]
    else if a.kind = 4∧b.kind = 4 then (if a.key = b.key then some [bareV b] else none)
    else if a.kind = 6∧b.kind = 6 then
      (if Ltx.comp (Ltx.norm (pcs a.pieces)) (Ltx.norm (pcs b.pieces)) = [] then some [] else some [bareV { b with pieces:=(Ltx.comp (Ltx.norm (pcs a.pieces)) (Ltx.norm (pcs b.pieces))).map P5.ipc }])
    else none
  else none
theorem eq2 (w:World) (x y c d:Nat) (hx:x < 256) (hy:y < 256) (hc:c < 256) (hd:d < 256) :
    (binOp .eql 96 (.agg #[.int .u8 (x:Int),.int .u8 (y:Int)]) (.agg #[.int .u8 (c:Int),.int .u8 (d:Int)])).run Try.prog w = .ok (.bool (decide (x = c∧y = d))) w:=by
  have e:∀ n,n < 256→(UInt8.ofNat n).toNat = n:=fun n hn=>by rw [UInt8.toNat_ofNat'];omega
  have i:∀ n m,n < 256→m < 256→(UInt8.ofNat n == UInt8.ofNat m) = decide (n = m):=fun n m hn hm=>by
    by_cases h:n = m
    · subst h;simp
    · rw [decide_eq_false h,beq_eq_false_iff_ne]
      intro h2
      exact h (by rw [← e n hn,← e m hm,h2])
  have h:=run_eql_bytes (P:=Try.prog) w 96 5 2 Try.underlying96 Try.underlying5 (fun w=>by kernel_rfl) [UInt8.ofNat x,UInt8.ofNat y] [UInt8.ofNat c,UInt8.ofNat d] rfl rfl
  simp only [List.map_cons,List.map_nil,Extern.Stop.cell,e x hx,e y hy,e c hc,e d hd] at h
  refine h.trans ?_
  congr 2
  rw [List.cons_beq_cons,List.cons_beq_cons,i x c hx hc,i y d hy hd]
  simp [Bool.decide_and]
end Go.Proofs.Ytmipodnffhngaaa.Sim
namespace Go.Proofs.Ytmipodnffhngaaa.Sim
open Go.RowKit Top
set_option maxRecDepth 20000
set_option linter.unusedVariables false

def PairA (w:World) (r:Option (List Ov)) (e:Ending) (w':World):Prop :=
  Below w.heap.size w w'∧match r with
  | none=>e = .returned (.tuple #[.slice none 0 0,.bool false])
  | some []=>e = .returned (.tuple #[.slice none 0 0,.bool true])
  | some (x :: _)=>∃ g s,e = .returned (.tuple #[.slice (some ⟨g,0,none⟩) 1 1,.bool true])∧w.heap.size≤g∧w'.heap[g]? = some (.cells (opCells x s) 26 (0,0))∧OwnOp w.heap.size w' x s
set_option maxHeartbeats 8000000 in
theorem pair_not (w:World) (a b:Ov) (sa sb:OS) (ha:OpIn w a sa) (hb:OpIn w b sb) (hma:Mild a) (hmb:Mild b) (hno:¬ (countsB a = true∧countsB b = true∧subjV a = b.path)) :
    Calls Try.prog 45 #[.agg (opCells a sa),.agg (opCells b sb)] w (PairA w (pairV a b)):=by
  obtain ⟨z1,z2,z3,z4,z5⟩:=Top.three_new w (.cells (opCells a sa) 26) (.cells (opCells b sb) 26) (.cells zero11 26)
  obtain ⟨W3,hW3⟩:∃ W3,W3 = ((w.alloc (.cells (opCells a sa) 26)).alloc (.cells (opCells b sb) 26)).alloc (.cells zero11 26):=⟨_,rfl⟩
  rw [← hW3] at z1 z2 z3 z4 z5
  have z4':=Lib.hid z4
  have z5':=Lib.hid z5
  have hbx:=Lib.hid (fun (W:World) (hb:Below W3.heap.size W3 W)=>show W.heap[w.heap.size]? = some (.cells (opCells a sa) 26 (0,0))∧W.heap[w.heap.size + 1]? = some (.cells (opCells b sb) 26 (0,0))∧W.heap[w.heap.size + 1 + 1]? = some (.cells zero11 26 (0,0)) from ⟨(hb.block _ (by have:=z5'.out;omega)).trans z1,(hb.block _ (by have:=z5'.out;omega)).trans z2,(hb.block _ (by have:=z5'.out;omega)).trans z3⟩)
  have hOa:=Lib.hid (fun (W:World) (hb:Below W3.heap.size W3 W)=>ha.below (z4'.out.trans (hb.mono z4'.out.size)))
  have hOb:=Lib.hid (fun (W:World) (hc:Below W3.heap.size W3 W)=>hb.below (z4'.out.trans (hc.mono z4'.out.size)))
  have hsb:=Lib.hid (fun (W:World) (hb:Below W3.heap.size W3 W)=>subject_any W a sa (hOa.out W hb))
  have hca:=Lib.hid (fun (W:World) (hb:Below W3.heap.size W3 W)=>counts_any W a sa (hOa.out W hb) hma)
  have hcb:=Lib.hid (fun (W:World) (hb:Below W3.heap.size W3 W)=>counts_any W b sb (hOb.out W hb) hmb)
  obtain ⟨fs,hfs⟩:∃ fs,P4.eqV (subjV a) b.path = fs:=⟨_,rfl⟩
  obtain ⟨fa,hfa⟩:∃ fa,countsB a = fa:=⟨_,rfl⟩
  obtain ⟨fb,hfb⟩:∃ fb,countsB b = fb:=⟨_,rfl⟩
  rw [hfa] at hca
  rw [hfb] at hcb
  have HS:=Lib.hid hfs
  have HA:=Lib.hid hfa
  have HB:=Lib.hid hfb
  have hkA:=ha.kind
  have hkB:=hb.kind
  have HN:=Lib.hid hno
  clear ha hb hfs hfa hfb
  unfold opCells at hsb hca hcb
  unfold opCells zero11 at hW3
  obtain ⟨a0,a1,a2,a3,a4,a5,a6,a7,a8,a9,a10⟩:=op_cells z1
  obtain ⟨b0,b1,b2,b3,b4,b5,b6,b7,b8,b9,b10⟩:=op_cells z2
  clear z1 z2 z3 z4 z5
  unfold opCells
  go_enter Try.func45,Try.ntmps45
  go_wp2_with fail
  refine Top.wp_scope_once 0 rfl ?_
  go_upto_region 2 with fail
  rw [← hW3]
  clear hW3 a0 a1 a2 a3 a4 a5 a6 a7 a8 a9 a10 b0 b1 b2 b3 b4 b5 b6 b7 b8 b9 b10
  cases fs with
  | false =>
    rename_i K0 hK0
    refine wp_region_held_drew (S:=(fun W=>Below W3.heap.size W3 W)) (by kernel_rfl) ((Below.refl W3.heap.size W3).drew) (fun hHeld=>?_)
    refine wpAnyH_take (i:=0) (oi:={ dst:=some 9,op:=Go.Op.load 26 (Go.Operand.tmp 2),type:=26,pos:="simplify.go:28",after:=#[],guard:=none }) (v:=?_) rfl (by kernel_rfl) (by kernel_rfl) (by kernel_rfl) (fun _ _ _ h=>h) (Or.inl ⟨by rfl,?_⟩) hHeld ?_
    rotate_left 1
    · intro W hSw;obtain ⟨r1,r2,-⟩:=hbx.out W hSw;obtain ⟨a0,a1,a2,a3,a4,a5,a6,a7,a8,a9,a10⟩:=op_cells r1;obtain ⟨b0,b1,b2,b3,b4,b5,b6,b7,b8,b9,b10⟩:=op_cells r2;go_simp;try with_reducible rfl
    try simp only [Act.put,List.setIfInBounds_toArray,List.set_cons_zero,List.set_cons_succ]
    refine wpAnyH_take (i:=2) (oi:={ dst:=some 11,op:=Go.Op.fieldAddr 26 (Go.Operand.tmp 3) 1,type:=0,pos:="simplify.go:28",after:=#[],guard:=none }) (v:=?_) rfl (by kernel_rfl) (by kernel_rfl) (by kernel_rfl) (fun _ _ _ h=>h) (Or.inl ⟨by rfl,?_⟩) hHeld ?_
    rotate_left 1
    · intro W hSw;obtain ⟨r1,r2,-⟩:=hbx.out W hSw;obtain ⟨a0,a1,a2,a3,a4,a5,a6,a7,a8,a9,a10⟩:=op_cells r1;obtain ⟨b0,b1,b2,b3,b4,b5,b6,b7,b8,b9,b10⟩:=op_cells r2;go_simp;try with_reducible rfl
    try simp only [Act.put,List.setIfInBounds_toArray,List.set_cons_zero,List.set_cons_succ]
    refine wpAnyH_take (i:=3) (oi:={ dst:=some 12,op:=Go.Op.load 22 (Go.Operand.tmp 11),type:=22,pos:="simplify.go:28",after:=#[{ on:=2,ground:=Go.Ground.data }],guard:=none }) (v:=?_) rfl (by kernel_rfl) (by kernel_rfl) (by kernel_rfl) (fun _ _ _ h=>h) (Or.inl ⟨by rfl,?_⟩) hHeld ?_
    rotate_left 1
    · intro W hSw;obtain ⟨r1,r2,-⟩:=hbx.out W hSw;obtain ⟨a0,a1,a2,a3,a4,a5,a6,a7,a8,a9,a10⟩:=op_cells r1;obtain ⟨b0,b1,b2,b3,b4,b5,b6,b7,b8,b9,b10⟩:=op_cells r2;go_simp;try with_reducible rfl
    try simp only [Act.put,List.setIfInBounds_toArray,List.set_cons_zero,List.set_cons_succ]
    refine wpAnyH_ready (rs:=[1]) (by kernel_rfl) (by simp) ?_
    refine AllReadyH.cons (o:={ dst:=some 10,op:=Go.Op.call { callee:=Go.Callee.value (Go.Operand.func 88),args:=#[Go.Operand.tmp 9],argTypes:=#[26] },type:=22,pos:="simplify.go:28",after:=#[{ on:=0,ground:=Go.Ground.data }],guard:=none }) rfl (fun K hK=>?_) AllReadyH.nil
    go_simp
    refine (hsb.out _ hHeld).mono ?_
    rintro e w4 ⟨A4,n4,c4,rfl,hi4,hm4,hbn⟩
    have F1:=Lib.hid (show Below W3.heap.size W3 w4 from hHeld.trans (hbn.mono hHeld.size))
    have I4:=Lib.hid hi4
    clear hbn hi4
    go_simp
    refine hK.out _ _ ?_ (fun hNew=>?_)
    · exact F1.out
    clear hK K hHeld
    have hHeld:=hNew
    clear hNew
    try simp only [Act.put,List.setIfInBounds_toArray,List.set_cons_zero,List.set_cons_succ]
    refine wpAnyH_ready (rs:=[4]) (by kernel_rfl) (by simp) ?_
    refine AllReadyH.cons (o:={ dst:=some 13,op:=Go.Op.call { callee:=Go.Callee.value (Go.Operand.func 75),args:=#[Go.Operand.tmp 10,Go.Operand.tmp 12],argTypes:=#[22,22] },type:=4,pos:="simplify.go:28",after:=#[{ on:=1,ground:=Go.Ground.data },{ on:=3,ground:=Go.Ground.data },{ on:=1,ground:=Go.Ground.chain }],guard:=none }) rfl (fun K hK=>?_) AllReadyH.nil
    go_simp
    refine (P4.same_any _ A4 sb.pA n4 c4 sb.pn sb.pc (subjV a) b.path (its4 I4.out) (its4 (hOb.out _ hHeld).path) hm4).mono ?_
    rw [HS.out]
    rintro e w5 ⟨rfl,k5,rfl⟩
    go_simp
    refine hK.out _ _ ?_ (fun hNew=>?_)
    · exact draws hHeld _
    clear hK K hHeld
    have hHeld:=hNew
    clear hNew
    try simp only [Act.put,List.setIfInBounds_toArray,List.set_cons_zero,List.set_cons_succ]
    refine wpAnyH_take (i:=5) (oi:={ dst:=some 14,op:=Go.Op.unOp Go.UnOp.not 4 (Go.Operand.tmp 13),type:=4,pos:="simplify.go:28",after:=#[{ on:=4,ground:=Go.Ground.data }],guard:=none }) (v:=?_) rfl (by kernel_rfl) (by kernel_rfl) (by kernel_rfl) (fun _ _ _ h=>h) (Or.inl ⟨by rfl,?_⟩) hHeld ?_
    rotate_left 1
    · intro W hSw;skip;go_simp;try with_reducible rfl
    try simp only [Act.put,List.setIfInBounds_toArray,List.set_cons_zero,List.set_cons_succ]
    refine wpAnyH_take (i:=6) (oi:={ dst:=some 15,op:=Go.Op.move (Go.Operand.tmp 14),type:=4,pos:="simplify.go:28",after:=#[{ on:=5,ground:=Go.Ground.data },{ on:=4,ground:=Go.Ground.chain }],guard:=none }) (v:=?_) rfl (by kernel_rfl) (by kernel_rfl) (by kernel_rfl) (fun _ _ _ h=>h) (Or.inl ⟨by rfl,?_⟩) hHeld ?_
    rotate_left 1
    · intro W hSw;skip;go_simp;try with_reducible rfl
    try simp only [Act.put,List.setIfInBounds_toArray,List.set_cons_zero,List.set_cons_succ]
    refine wpAnyH_take (i:=7) (oi:={ dst:=some 16,op:=Go.Op.load 26 (Go.Operand.tmp 2),type:=26,pos:="simplify.go:28",after:=#[{ on:=6,ground:=Go.Ground.guard }],guard:=some (6,false) }) (v:=undef) rfl (by kernel_rfl) (by kernel_rfl) (by kernel_rfl) (fun _ _ _ h=>h) (Or.inr ⟨by rfl,rfl⟩) hHeld ?_
    try simp only [Act.put,List.setIfInBounds_toArray,List.set_cons_zero,List.set_cons_succ]
    refine wpAnyH_take (i:=8) (oi:={ dst:=some 17,op:=Go.Op.call { callee:=Go.Callee.value (Go.Operand.func 89),args:=#[Go.Operand.tmp 16],argTypes:=#[26] },type:=4,pos:="simplify.go:28",after:=#[{ on:=7,ground:=Go.Ground.data },{ on:=6,ground:=Go.Ground.chain },{ on:=6,ground:=Go.Ground.guard }],guard:=some (6,false) }) (v:=undef) rfl (by kernel_rfl) (by kernel_rfl) (by kernel_rfl) (fun _ _ _ h=>h) (Or.inr ⟨by rfl,rfl⟩) hHeld ?_
    try simp only [Act.put,List.setIfInBounds_toArray,List.set_cons_zero,List.set_cons_succ]
    refine wpAnyH_take (i:=9) (oi:={ dst:=some 18,op:=Go.Op.unOp Go.UnOp.not 4 (Go.Operand.tmp 17),type:=4,pos:="simplify.go:28",after:=#[{ on:=8,ground:=Go.Ground.data },{ on:=6,ground:=Go.Ground.guard }],guard:=some (6,false) }) (v:=undef) rfl (by kernel_rfl) (by kernel_rfl) (by kernel_rfl) (fun _ _ _ h=>h) (Or.inr ⟨by rfl,rfl⟩) hHeld ?_
    try simp only [Act.put,List.setIfInBounds_toArray,List.set_cons_zero,List.set_cons_succ]
    refine wpAnyH_take (i:=10) (oi:={ dst:=some 19,op:=Go.Op.pick (Go.Operand.tmp 15) (Go.Operand.const (Go.Value.bool true)) (Go.Operand.tmp 18),type:=4,pos:="simplify.go:28",after:=#[{ on:=6,ground:=Go.Ground.data },{ on:=9,ground:=Go.Ground.data }],guard:=none }) (v:=?_) rfl (by kernel_rfl) (by kernel_rfl) (by kernel_rfl) (fun _ _ _ h=>h) (Or.inl ⟨by rfl,?_⟩) hHeld ?_
    rotate_left 1
    · intro W hSw;skip;go_simp;try with_reducible rfl
    try simp only [Act.put,List.setIfInBounds_toArray,List.set_cons_zero,List.set_cons_succ]
    refine wpAnyH_take (i:=11) (oi:={ dst:=some 20,op:=Go.Op.move (Go.Operand.tmp 19),type:=4,pos:="simplify.go:28",after:=#[{ on:=10,ground:=Go.Ground.data },{ on:=8,ground:=Go.Ground.chain }],guard:=none }) (v:=?_) rfl (by kernel_rfl) (by kernel_rfl) (by kernel_rfl) (fun _ _ _ h=>h) (Or.inl ⟨by rfl,?_⟩) hHeld ?_
    rotate_left 1
    · intro W hSw;skip;go_simp;try with_reducible rfl
    try simp only [Act.put,List.setIfInBounds_toArray,List.set_cons_zero,List.set_cons_succ]
    refine wpAnyH_take (i:=12) (oi:={ dst:=some 21,op:=Go.Op.load 26 (Go.Operand.tmp 3),type:=26,pos:="simplify.go:28",after:=#[{ on:=11,ground:=Go.Ground.guard }],guard:=some (11,false) }) (v:=undef) rfl (by kernel_rfl) (by kernel_rfl) (by kernel_rfl) (fun _ _ _ h=>h) (Or.inr ⟨by rfl,rfl⟩) hHeld ?_
    try simp only [Act.put,List.setIfInBounds_toArray,List.set_cons_zero,List.set_cons_succ]
    refine wpAnyH_take (i:=13) (oi:={ dst:=some 22,op:=Go.Op.call { callee:=Go.Callee.value (Go.Operand.func 89),args:=#[Go.Operand.tmp 21],argTypes:=#[26] },type:=4,pos:="simplify.go:28",after:=#[{ on:=12,ground:=Go.Ground.data },{ on:=11,ground:=Go.Ground.chain },{ on:=11,ground:=Go.Ground.guard }],guard:=some (11,false) }) (v:=undef) rfl (by kernel_rfl) (by kernel_rfl) (by kernel_rfl) (fun _ _ _ h=>h) (Or.inr ⟨by rfl,rfl⟩) hHeld ?_
    try simp only [Act.put,List.setIfInBounds_toArray,List.set_cons_zero,List.set_cons_succ]
    refine wpAnyH_take (i:=14) (oi:={ dst:=some 23,op:=Go.Op.unOp Go.UnOp.not 4 (Go.Operand.tmp 22),type:=4,pos:="simplify.go:28",after:=#[{ on:=13,ground:=Go.Ground.data },{ on:=11,ground:=Go.Ground.guard }],guard:=some (11,false) }) (v:=undef) rfl (by kernel_rfl) (by kernel_rfl) (by kernel_rfl) (fun _ _ _ h=>h) (Or.inr ⟨by rfl,rfl⟩) hHeld ?_
    try simp only [Act.put,List.setIfInBounds_toArray,List.set_cons_zero,List.set_cons_succ]
    refine wpAnyH_take (i:=15) (oi:={ dst:=some 24,op:=Go.Op.pick (Go.Operand.tmp 20) (Go.Operand.const (Go.Value.bool true)) (Go.Operand.tmp 23),type:=4,pos:="simplify.go:28",after:=#[{ on:=11,ground:=Go.Ground.data },{ on:=14,ground:=Go.Ground.data }],guard:=none }) (v:=?_) rfl (by kernel_rfl) (by kernel_rfl) (by kernel_rfl) (fun _ _ _ h=>h) (Or.inl ⟨by rfl,?_⟩) hHeld ?_
    rotate_left 1
    · intro W hSw;skip;go_simp;try with_reducible rfl
    try simp only [Act.put,List.setIfInBounds_toArray,List.set_cons_zero,List.set_cons_succ]
    refine wpAnyH_done (by kernel_rfl) ?_ _
    refine hK0 _ _ ?_
    clear hK0
    have BZ:=Lib.hid hHeld
    clear hHeld
    go_wp2_with fail
    go_step3
    refine ⟨rfl,?_⟩
    go_wp2_with fail
    try simp only [Exit.jump]
    go_ret2
    refine ⟨z4'.out.trans (BZ.out.mono z4'.out.size),?_⟩
    rw [show pairV a b = none by unfold pairV;rw [if_neg (fun h=>by have h1:=HS.out;have h2:=HA.out;have h3:=HB.out;simp [h.1,h.2.1,h.2.2,P4.eqV] at h1 h2 h3)]]
    rfl
  | true =>
    cases fa with
    | false =>
      rename_i K0 hK0
      refine wp_region_held_drew (S:=(fun W=>Below W3.heap.size W3 W)) (by kernel_rfl) ((Below.refl W3.heap.size W3).drew) (fun hHeld=>?_)
      refine wpAnyH_take (i:=0) (oi:={ dst:=some 9,op:=Go.Op.load 26 (Go.Operand.tmp 2),type:=26,pos:="simplify.go:28",after:=#[],guard:=none }) (v:=?_) rfl (by kernel_rfl) (by kernel_rfl) (by kernel_rfl) (fun _ _ _ h=>h) (Or.inl ⟨by rfl,?_⟩) hHeld ?_
      rotate_left 1
      · intro W hSw;obtain ⟨r1,r2,-⟩:=hbx.out W hSw;obtain ⟨a0,a1,a2,a3,a4,a5,a6,a7,a8,a9,a10⟩:=op_cells r1;obtain ⟨b0,b1,b2,b3,b4,b5,b6,b7,b8,b9,b10⟩:=op_cells r2;go_simp;try with_reducible rfl
      try simp only [Act.put,List.setIfInBounds_toArray,List.set_cons_zero,List.set_cons_succ]
      refine wpAnyH_take (i:=2) (oi:={ dst:=some 11,op:=Go.Op.fieldAddr 26 (Go.Operand.tmp 3) 1,type:=0,pos:="simplify.go:28",after:=#[],guard:=none }) (v:=?_) rfl (by kernel_rfl) (by kernel_rfl) (by kernel_rfl) (fun _ _ _ h=>h) (Or.inl ⟨by rfl,?_⟩) hHeld ?_
      rotate_left 1
      · intro W hSw;obtain ⟨r1,r2,-⟩:=hbx.out W hSw;obtain ⟨a0,a1,a2,a3,a4,a5,a6,a7,a8,a9,a10⟩:=op_cells r1;obtain ⟨b0,b1,b2,b3,b4,b5,b6,b7,b8,b9,b10⟩:=op_cells r2;go_simp;try with_reducible rfl
      try simp only [Act.put,List.setIfInBounds_toArray,List.set_cons_zero,List.set_cons_succ]
      refine wpAnyH_take (i:=3) (oi:={ dst:=some 12,op:=Go.Op.load 22 (Go.Operand.tmp 11),type:=22,pos:="simplify.go:28",after:=#[{ on:=2,ground:=Go.Ground.data }],guard:=none }) (v:=?_) rfl (by kernel_rfl) (by kernel_rfl) (by kernel_rfl) (fun _ _ _ h=>h) (Or.inl ⟨by rfl,?_⟩) hHeld ?_
      rotate_left 1
      · intro W hSw;obtain ⟨r1,r2,-⟩:=hbx.out W hSw;obtain ⟨a0,a1,a2,a3,a4,a5,a6,a7,a8,a9,a10⟩:=op_cells r1;obtain ⟨b0,b1,b2,b3,b4,b5,b6,b7,b8,b9,b10⟩:=op_cells r2;go_simp;try with_reducible rfl
      try simp only [Act.put,List.setIfInBounds_toArray,List.set_cons_zero,List.set_cons_succ]
      refine wpAnyH_ready (rs:=[1]) (by kernel_rfl) (by simp) ?_
      refine AllReadyH.cons (o:={ dst:=some 10,op:=Go.Op.call { callee:=Go.Callee.value (Go.Operand.func 88),args:=#[Go.Operand.tmp 9],argTypes:=#[26] },type:=22,pos:="simplify.go:28",after:=#[{ on:=0,ground:=Go.Ground.data }],guard:=none }) rfl (fun K hK=>?_) AllReadyH.nil
      go_simp
      refine (hsb.out _ hHeld).mono ?_
      rintro e w4 ⟨A4,n4,c4,rfl,hi4,hm4,hbn⟩
      have F1:=Lib.hid (show Below W3.heap.size W3 w4 from hHeld.trans (hbn.mono hHeld.size))
      have I4:=Lib.hid hi4
      clear hbn hi4
      go_simp
      refine hK.out _ _ ?_ (fun hNew=>?_)
      · exact F1.out
      clear hK K hHeld
      have hHeld:=hNew
      clear hNew
      try simp only [Act.put,List.setIfInBounds_toArray,List.set_cons_zero,List.set_cons_succ]
      refine wpAnyH_ready (rs:=[4]) (by kernel_rfl) (by simp) ?_
      refine AllReadyH.cons (o:={ dst:=some 13,op:=Go.Op.call { callee:=Go.Callee.value (Go.Operand.func 75),args:=#[Go.Operand.tmp 10,Go.Operand.tmp 12],argTypes:=#[22,22] },type:=4,pos:="simplify.go:28",after:=#[{ on:=1,ground:=Go.Ground.data },{ on:=3,ground:=Go.Ground.data },{ on:=1,ground:=Go.Ground.chain }],guard:=none }) rfl (fun K hK=>?_) AllReadyH.nil
      go_simp
      refine (P4.same_any _ A4 sb.pA n4 c4 sb.pn sb.pc (subjV a) b.path (its4 I4.out) (its4 (hOb.out _ hHeld).path) hm4).mono ?_
      rw [HS.out]
      rintro e w5 ⟨rfl,k5,rfl⟩
      go_simp
      refine hK.out _ _ ?_ (fun hNew=>?_)
      · exact draws hHeld _
      clear hK K hHeld
      have hHeld:=hNew
      clear hNew
      try simp only [Act.put,List.setIfInBounds_toArray,List.set_cons_zero,List.set_cons_succ]
      refine wpAnyH_take (i:=5) (oi:={ dst:=some 14,op:=Go.Op.unOp Go.UnOp.not 4 (Go.Operand.tmp 13),type:=4,pos:="simplify.go:28",after:=#[{ on:=4,ground:=Go.Ground.data }],guard:=none }) (v:=?_) rfl (by kernel_rfl) (by kernel_rfl) (by kernel_rfl) (fun _ _ _ h=>h) (Or.inl ⟨by rfl,?_⟩) hHeld ?_
      rotate_left 1
      · intro W hSw;skip;go_simp;try with_reducible rfl
      try simp only [Act.put,List.setIfInBounds_toArray,List.set_cons_zero,List.set_cons_succ]
      refine wpAnyH_take (i:=6) (oi:={ dst:=some 15,op:=Go.Op.move (Go.Operand.tmp 14),type:=4,pos:="simplify.go:28",after:=#[{ on:=5,ground:=Go.Ground.data },{ on:=4,ground:=Go.Ground.chain }],guard:=none }) (v:=?_) rfl (by kernel_rfl) (by kernel_rfl) (by kernel_rfl) (fun _ _ _ h=>h) (Or.inl ⟨by rfl,?_⟩) hHeld ?_
      rotate_left 1
      · intro W hSw;skip;go_simp;try with_reducible rfl
      try simp only [Act.put,List.setIfInBounds_toArray,List.set_cons_zero,List.set_cons_succ]
      refine wpAnyH_take (i:=7) (oi:={ dst:=some 16,op:=Go.Op.load 26 (Go.Operand.tmp 2),type:=26,pos:="simplify.go:28",after:=#[{ on:=6,ground:=Go.Ground.guard }],guard:=some (6,false) }) (v:=?_) rfl (by kernel_rfl) (by kernel_rfl) (by kernel_rfl) (fun _ _ _ h=>h) (Or.inl ⟨by rfl,?_⟩) hHeld ?_
      rotate_left 1
      · intro W hSw;obtain ⟨r1,r2,-⟩:=hbx.out W hSw;obtain ⟨a0,a1,a2,a3,a4,a5,a6,a7,a8,a9,a10⟩:=op_cells r1;obtain ⟨b0,b1,b2,b3,b4,b5,b6,b7,b8,b9,b10⟩:=op_cells r2;go_simp;try with_reducible rfl
      try simp only [Act.put,List.setIfInBounds_toArray,List.set_cons_zero,List.set_cons_succ]
      refine wpAnyH_ready (rs:=[8]) (by kernel_rfl) (by simp) ?_
      refine AllReadyH.cons (o:={ dst:=some 17,op:=Go.Op.call { callee:=Go.Callee.value (Go.Operand.func 89),args:=#[Go.Operand.tmp 16],argTypes:=#[26] },type:=4,pos:="simplify.go:28",after:=#[{ on:=7,ground:=Go.Ground.data },{ on:=6,ground:=Go.Ground.chain },{ on:=6,ground:=Go.Ground.guard }],guard:=some (6,false) }) rfl (fun K hK=>?_) AllReadyH.nil
      go_simp
      refine (hca.out _ hHeld).mono ?_
      rintro e w6 ⟨rfl,hbn⟩
      have F2:=Lib.hid (show Below W3.heap.size W3 w6 from hHeld.trans (hbn.mono hHeld.size))
      clear hbn
      go_simp
      refine hK.out _ _ ?_ (fun hNew=>?_)
      · exact F2.out
      clear hK K hHeld
      have hHeld:=hNew
      clear hNew
      try simp only [Act.put,List.setIfInBounds_toArray,List.set_cons_zero,List.set_cons_succ]
      refine wpAnyH_take (i:=9) (oi:={ dst:=some 18,op:=Go.Op.unOp Go.UnOp.not 4 (Go.Operand.tmp 17),type:=4,pos:="simplify.go:28",after:=#[{ on:=8,ground:=Go.Ground.data },{ on:=6,ground:=Go.Ground.guard }],guard:=some (6,false) }) (v:=?_) rfl (by kernel_rfl) (by kernel_rfl) (by kernel_rfl) (fun _ _ _ h=>h) (Or.inl ⟨by rfl,?_⟩) hHeld ?_
      rotate_left 1
      · intro W hSw;skip;go_simp;try with_reducible rfl
      try simp only [Act.put,List.setIfInBounds_toArray,List.set_cons_zero,List.set_cons_succ]
      refine wpAnyH_take (i:=10) (oi:={ dst:=some 19,op:=Go.Op.pick (Go.Operand.tmp 15) (Go.Operand.const (Go.Value.bool true)) (Go.Operand.tmp 18),type:=4,pos:="simplify.go:28",after:=#[{ on:=6,ground:=Go.Ground.data },{ on:=9,ground:=Go.Ground.data }],guard:=none }) (v:=?_) rfl (by kernel_rfl) (by kernel_rfl) (by kernel_rfl) (fun _ _ _ h=>h) (Or.inl ⟨by rfl,?_⟩) hHeld ?_
      rotate_left 1
      · intro W hSw;skip;go_simp;try with_reducible rfl
      try simp only [Act.put,List.setIfInBounds_toArray,List.set_cons_zero,List.set_cons_succ]
      refine wpAnyH_take (i:=11) (oi:={ dst:=some 20,op:=Go.Op.move (Go.Operand.tmp 19),type:=4,pos:="simplify.go:28",after:=#[{ on:=10,ground:=Go.Ground.data },{ on:=8,ground:=Go.Ground.chain }],guard:=none }) (v:=?_) rfl (by kernel_rfl) (by kernel_rfl) (by kernel_rfl) (fun _ _ _ h=>h) (Or.inl ⟨by rfl,?_⟩) hHeld ?_
      rotate_left 1
      · intro W hSw;skip;go_simp;try with_reducible rfl
      try simp only [Act.put,List.setIfInBounds_toArray,List.set_cons_zero,List.set_cons_succ]
      refine wpAnyH_take (i:=12) (oi:={ dst:=some 21,op:=Go.Op.load 26 (Go.Operand.tmp 3),type:=26,pos:="simplify.go:28",after:=#[{ on:=11,ground:=Go.Ground.guard }],guard:=some (11,false) }) (v:=undef) rfl (by kernel_rfl) (by kernel_rfl) (by kernel_rfl) (fun _ _ _ h=>h) (Or.inr ⟨by rfl,rfl⟩) hHeld ?_
      try simp only [Act.put,List.setIfInBounds_toArray,List.set_cons_zero,List.set_cons_succ]
      refine wpAnyH_take (i:=13) (oi:={ dst:=some 22,op:=Go.Op.call { callee:=Go.Callee.value (Go.Operand.func 89),args:=#[Go.Operand.tmp 21],argTypes:=#[26] },type:=4,pos:="simplify.go:28",after:=#[{ on:=12,ground:=Go.Ground.data },{ on:=11,ground:=Go.Ground.chain },{ on:=11,ground:=Go.Ground.guard }],guard:=some (11,false) }) (v:=undef) rfl (by kernel_rfl) (by kernel_rfl) (by kernel_rfl) (fun _ _ _ h=>h) (Or.inr ⟨by rfl,rfl⟩) hHeld ?_
      try simp only [Act.put,List.setIfInBounds_toArray,List.set_cons_zero,List.set_cons_succ]
      refine wpAnyH_take (i:=14) (oi:={ dst:=some 23,op:=Go.Op.unOp Go.UnOp.not 4 (Go.Operand.tmp 22),type:=4,pos:="simplify.go:28",after:=#[{ on:=13,ground:=Go.Ground.data },{ on:=11,ground:=Go.Ground.guard }],guard:=some (11,false) }) (v:=undef) rfl (by kernel_rfl) (by kernel_rfl) (by kernel_rfl) (fun _ _ _ h=>h) (Or.inr ⟨by rfl,rfl⟩) hHeld ?_
      try simp only [Act.put,List.setIfInBounds_toArray,List.set_cons_zero,List.set_cons_succ]
      refine wpAnyH_take (i:=15) (oi:={ dst:=some 24,op:=Go.Op.pick (Go.Operand.tmp 20) (Go.Operand.const (Go.Value.bool true)) (Go.Operand.tmp 23),type:=4,pos:="simplify.go:28",after:=#[{ on:=11,ground:=Go.Ground.data },{ on:=14,ground:=Go.Ground.data }],guard:=none }) (v:=?_) rfl (by kernel_rfl) (by kernel_rfl) (by kernel_rfl) (fun _ _ _ h=>h) (Or.inl ⟨by rfl,?_⟩) hHeld ?_
      rotate_left 1
      · intro W hSw;skip;go_simp;try with_reducible rfl
      try simp only [Act.put,List.setIfInBounds_toArray,List.set_cons_zero,List.set_cons_succ]
      refine wpAnyH_done (by kernel_rfl) ?_ _
      refine hK0 _ _ ?_
      clear hK0
      have BZ:=Lib.hid hHeld
      clear hHeld
      go_wp2_with fail
      go_step3
      refine ⟨rfl,?_⟩
      go_wp2_with fail
      try simp only [Exit.jump]
      go_ret2
      refine ⟨z4'.out.trans (BZ.out.mono z4'.out.size),?_⟩
      rw [show pairV a b = none by unfold pairV;rw [if_neg (fun h=>by have h1:=HS.out;have h2:=HA.out;have h3:=HB.out;simp [h.1,h.2.1,h.2.2,P4.eqV] at h1 h2 h3)]]
      rfl
    | true =>
      cases fb with
      | false =>
        rename_i K0 hK0
        refine wp_region_held_drew (S:=(fun W=>Below W3.heap.size W3 W)) (by kernel_rfl) ((Below.refl W3.heap.size W3).drew) (fun hHeld=>?_)
        refine wpAnyH_take (i:=0) (oi:={ dst:=some 9,op:=Go.Op.load 26 (Go.Operand.tmp 2),type:=26,pos:="simplify.go:28",after:=#[],guard:=none }) (v:=?_) rfl (by kernel_rfl) (by kernel_rfl) (by kernel_rfl) (fun _ _ _ h=>h) (Or.inl ⟨by rfl,?_⟩) hHeld ?_
        rotate_left 1
        · intro W hSw;obtain ⟨r1,r2,-⟩:=hbx.out W hSw;obtain ⟨a0,a1,a2,a3,a4,a5,a6,a7,a8,a9,a10⟩:=op_cells r1;obtain ⟨b0,b1,b2,b3,b4,b5,b6,b7,b8,b9,b10⟩:=op_cells r2;go_simp;try with_reducible rfl
        try simp only [Act.put,List.setIfInBounds_toArray,List.set_cons_zero,List.set_cons_succ]
        refine wpAnyH_take (i:=2) (oi:={ dst:=some 11,op:=Go.Op.fieldAddr 26 (Go.Operand.tmp 3) 1,type:=0,pos:="simplify.go:28",after:=#[],guard:=none }) (v:=?_) rfl (by kernel_rfl) (by kernel_rfl) (by kernel_rfl) (fun _ _ _ h=>h) (Or.inl ⟨by rfl,?_⟩) hHeld ?_
        rotate_left 1
        · intro W hSw;obtain ⟨r1,r2,-⟩:=hbx.out W hSw;obtain ⟨a0,a1,a2,a3,a4,a5,a6,a7,a8,a9,a10⟩:=op_cells r1;obtain ⟨b0,b1,b2,b3,b4,b5,b6,b7,b8,b9,b10⟩:=op_cells r2;go_simp;try with_reducible rfl
        try simp only [Act.put,List.setIfInBounds_toArray,List.set_cons_zero,List.set_cons_succ]
        refine wpAnyH_take (i:=3) (oi:={ dst:=some 12,op:=Go.Op.load 22 (Go.Operand.tmp 11),type:=22,pos:="simplify.go:28",after:=#[{ on:=2,ground:=Go.Ground.data }],guard:=none }) (v:=?_) rfl (by kernel_rfl) (by kernel_rfl) (by kernel_rfl) (fun _ _ _ h=>h) (Or.inl ⟨by rfl,?_⟩) hHeld ?_
        rotate_left 1
        · intro W hSw;obtain ⟨r1,r2,-⟩:=hbx.out W hSw;obtain ⟨a0,a1,a2,a3,a4,a5,a6,a7,a8,a9,a10⟩:=op_cells r1;obtain ⟨b0,b1,b2,b3,b4,b5,b6,b7,b8,b9,b10⟩:=op_cells r2;go_simp;try with_reducible rfl
        try simp only [Act.put,List.setIfInBounds_toArray,List.set_cons_zero,List.set_cons_succ]
        refine wpAnyH_ready (rs:=[1]) (by kernel_rfl) (by simp) ?_
        refine AllReadyH.cons (o:={ dst:=some 10,op:=Go.Op.call { callee:=Go.Callee.value (Go.Operand.func 88),args:=#[Go.Operand.tmp 9],argTypes:=#[26] },type:=22,pos:="simplify.go:28",after:=#[{ on:=0,ground:=Go.Ground.data }],guard:=none }) rfl (fun K hK=>?_) AllReadyH.nil
        go_simp
        refine (hsb.out _ hHeld).mono ?_
        rintro e w4 ⟨A4,n4,c4,rfl,hi4,hm4,hbn⟩
        have F1:=Lib.hid (show Below W3.heap.size W3 w4 from hHeld.trans (hbn.mono hHeld.size))
        have I4:=Lib.hid hi4
        clear hbn hi4
        go_simp
        refine hK.out _ _ ?_ (fun hNew=>?_)
        · exact F1.out
        clear hK K hHeld
        have hHeld:=hNew
        clear hNew
        try simp only [Act.put,List.setIfInBounds_toArray,List.set_cons_zero,List.set_cons_succ]
        refine wpAnyH_ready (rs:=[4]) (by kernel_rfl) (by simp) ?_
        refine AllReadyH.cons (o:={ dst:=some 13,op:=Go.Op.call { callee:=Go.Callee.value (Go.Operand.func 75),args:=#[Go.Operand.tmp 10,Go.Operand.tmp 12],argTypes:=#[22,22] },type:=4,pos:="simplify.go:28",after:=#[{ on:=1,ground:=Go.Ground.data },{ on:=3,ground:=Go.Ground.data },{ on:=1,ground:=Go.Ground.chain }],guard:=none }) rfl (fun K hK=>?_) AllReadyH.nil
        go_simp
        refine (P4.same_any _ A4 sb.pA n4 c4 sb.pn sb.pc (subjV a) b.path (its4 I4.out) (its4 (hOb.out _ hHeld).path) hm4).mono ?_
        rw [HS.out]
        rintro e w5 ⟨rfl,k5,rfl⟩
        go_simp
        refine hK.out _ _ ?_ (fun hNew=>?_)
        · exact draws hHeld _
        clear hK K hHeld
        have hHeld:=hNew
        clear hNew
        try simp only [Act.put,List.setIfInBounds_toArray,List.set_cons_zero,List.set_cons_succ]
        refine wpAnyH_take (i:=5) (oi:={ dst:=some 14,op:=Go.Op.unOp Go.UnOp.not 4 (Go.Operand.tmp 13),type:=4,pos:="simplify.go:28",after:=#[{ on:=4,ground:=Go.Ground.data }],guard:=none }) (v:=?_) rfl (by kernel_rfl) (by kernel_rfl) (by kernel_rfl) (fun _ _ _ h=>h) (Or.inl ⟨by rfl,?_⟩) hHeld ?_
        rotate_left 1
        · intro W hSw;skip;go_simp;try with_reducible rfl
        try simp only [Act.put,List.setIfInBounds_toArray,List.set_cons_zero,List.set_cons_succ]
        refine wpAnyH_take (i:=6) (oi:={ dst:=some 15,op:=Go.Op.move (Go.Operand.tmp 14),type:=4,pos:="simplify.go:28",after:=#[{ on:=5,ground:=Go.Ground.data },{ on:=4,ground:=Go.Ground.chain }],guard:=none }) (v:=?_) rfl (by kernel_rfl) (by kernel_rfl) (by kernel_rfl) (fun _ _ _ h=>h) (Or.inl ⟨by rfl,?_⟩) hHeld ?_
        rotate_left 1
        · intro W hSw;skip;go_simp;try with_reducible rfl
        try simp only [Act.put,List.setIfInBounds_toArray,List.set_cons_zero,List.set_cons_succ]
        refine wpAnyH_take (i:=7) (oi:={ dst:=some 16,op:=Go.Op.load 26 (Go.Operand.tmp 2),type:=26,pos:="simplify.go:28",after:=#[{ on:=6,ground:=Go.Ground.guard }],guard:=some (6,false) }) (v:=?_) rfl (by kernel_rfl) (by kernel_rfl) (by kernel_rfl) (fun _ _ _ h=>h) (Or.inl ⟨by rfl,?_⟩) hHeld ?_
        rotate_left 1
        · intro W hSw;obtain ⟨r1,r2,-⟩:=hbx.out W hSw;obtain ⟨a0,a1,a2,a3,a4,a5,a6,a7,a8,a9,a10⟩:=op_cells r1;obtain ⟨b0,b1,b2,b3,b4,b5,b6,b7,b8,b9,b10⟩:=op_cells r2;go_simp;try with_reducible rfl
        try simp only [Act.put,List.setIfInBounds_toArray,List.set_cons_zero,List.set_cons_succ]
        refine wpAnyH_ready (rs:=[8]) (by kernel_rfl) (by simp) ?_
        refine AllReadyH.cons (o:={ dst:=some 17,op:=Go.Op.call { callee:=Go.Callee.value (Go.Operand.func 89),args:=#[Go.Operand.tmp 16],argTypes:=#[26] },type:=4,pos:="simplify.go:28",after:=#[{ on:=7,ground:=Go.Ground.data },{ on:=6,ground:=Go.Ground.chain },{ on:=6,ground:=Go.Ground.guard }],guard:=some (6,false) }) rfl (fun K hK=>?_) AllReadyH.nil
        go_simp
        refine (hca.out _ hHeld).mono ?_
        rintro e w6 ⟨rfl,hbn⟩
        have F2:=Lib.hid (show Below W3.heap.size W3 w6 from hHeld.trans (hbn.mono hHeld.size))
        clear hbn
        go_simp
        refine hK.out _ _ ?_ (fun hNew=>?_)
        · exact F2.out
        clear hK K hHeld
        have hHeld:=hNew
        clear hNew
        try simp only [Act.put,List.setIfInBounds_toArray,List.set_cons_zero,List.set_cons_succ]
        refine wpAnyH_take (i:=9) (oi:={ dst:=some 18,op:=Go.Op.unOp Go.UnOp.not 4 (Go.Operand.tmp 17),type:=4,pos:="simplify.go:28",after:=#[{ on:=8,ground:=Go.Ground.data },{ on:=6,ground:=Go.Ground.guard }],guard:=some (6,false) }) (v:=?_) rfl (by kernel_rfl) (by kernel_rfl) (by kernel_rfl) (fun _ _ _ h=>h) (Or.inl ⟨by rfl,?_⟩) hHeld ?_
        rotate_left 1
        · intro W hSw;skip;go_simp;try with_reducible rfl
        try simp only [Act.put,List.setIfInBounds_toArray,List.set_cons_zero,List.set_cons_succ]
        refine wpAnyH_take (i:=10) (oi:={ dst:=some 19,op:=Go.Op.pick (Go.Operand.tmp 15) (Go.Operand.const (Go.Value.bool true)) (Go.Operand.tmp 18),type:=4,pos:="simplify.go:28",after:=#[{ on:=6,ground:=Go.Ground.data },{ on:=9,ground:=Go.Ground.data }],guard:=none }) (v:=?_) rfl (by kernel_rfl) (by kernel_rfl) (by kernel_rfl) (fun _ _ _ h=>h) (Or.inl ⟨by rfl,?_⟩) hHeld ?_
        rotate_left 1
        · intro W hSw;skip;go_simp;try with_reducible rfl
        try simp only [Act.put,List.setIfInBounds_toArray,List.set_cons_zero,List.set_cons_succ]
        refine wpAnyH_take (i:=11) (oi:={ dst:=some 20,op:=Go.Op.move (Go.Operand.tmp 19),type:=4,pos:="simplify.go:28",after:=#[{ on:=10,ground:=Go.Ground.data },{ on:=8,ground:=Go.Ground.chain }],guard:=none }) (v:=?_) rfl (by kernel_rfl) (by kernel_rfl) (by kernel_rfl) (fun _ _ _ h=>h) (Or.inl ⟨by rfl,?_⟩) hHeld ?_
        rotate_left 1
        · intro W hSw;skip;go_simp;try with_reducible rfl
        try simp only [Act.put,List.setIfInBounds_toArray,List.set_cons_zero,List.set_cons_succ]
        refine wpAnyH_take (i:=12) (oi:={ dst:=some 21,op:=Go.Op.load 26 (Go.Operand.tmp 3),type:=26,pos:="simplify.go:28",after:=#[{ on:=11,ground:=Go.Ground.guard }],guard:=some (11,false) }) (v:=?_) rfl (by kernel_rfl) (by kernel_rfl) (by kernel_rfl) (fun _ _ _ h=>h) (Or.inl ⟨by rfl,?_⟩) hHeld ?_
        rotate_left 1
        · intro W hSw;obtain ⟨r1,r2,-⟩:=hbx.out W hSw;obtain ⟨a0,a1,a2,a3,a4,a5,a6,a7,a8,a9,a10⟩:=op_cells r1;obtain ⟨b0,b1,b2,b3,b4,b5,b6,b7,b8,b9,b10⟩:=op_cells r2;go_simp;try with_reducible rfl
        try simp only [Act.put,List.setIfInBounds_toArray,List.set_cons_zero,List.set_cons_succ]
        refine wpAnyH_ready (rs:=[13]) (by kernel_rfl) (by simp) ?_
        refine AllReadyH.cons (o:={ dst:=some 22,op:=Go.Op.call { callee:=Go.Callee.value (Go.Operand.func 89),args:=#[Go.Operand.tmp 21],argTypes:=#[26] },type:=4,pos:="simplify.go:28",after:=#[{ on:=12,ground:=Go.Ground.data },{ on:=11,ground:=Go.Ground.chain },{ on:=11,ground:=Go.Ground.guard }],guard:=some (11,false) }) rfl (fun K hK=>?_) AllReadyH.nil
        go_simp
        refine (hcb.out _ hHeld).mono ?_
        rintro e w7 ⟨rfl,hbn⟩
        have F3:=Lib.hid (show Below W3.heap.size W3 w7 from hHeld.trans (hbn.mono hHeld.size))
        clear hbn
        go_simp
        refine hK.out _ _ ?_ (fun hNew=>?_)
        · exact F3.out
        clear hK K hHeld
        have hHeld:=hNew
        clear hNew
        try simp only [Act.put,List.setIfInBounds_toArray,List.set_cons_zero,List.set_cons_succ]
        refine wpAnyH_take (i:=14) (oi:={ dst:=some 23,op:=Go.Op.unOp Go.UnOp.not 4 (Go.Operand.tmp 22),type:=4,pos:="simplify.go:28",after:=#[{ on:=13,ground:=Go.Ground.data },{ on:=11,ground:=Go.Ground.guard }],guard:=some (11,false) }) (v:=?_) rfl (by kernel_rfl) (by kernel_rfl) (by kernel_rfl) (fun _ _ _ h=>h) (Or.inl ⟨by rfl,?_⟩) hHeld ?_
        rotate_left 1
        · intro W hSw;skip;go_simp;try with_reducible rfl
        try simp only [Act.put,List.setIfInBounds_toArray,List.set_cons_zero,List.set_cons_succ]
        refine wpAnyH_take (i:=15) (oi:={ dst:=some 24,op:=Go.Op.pick (Go.Operand.tmp 20) (Go.Operand.const (Go.Value.bool true)) (Go.Operand.tmp 23),type:=4,pos:="simplify.go:28",after:=#[{ on:=11,ground:=Go.Ground.data },{ on:=14,ground:=Go.Ground.data }],guard:=none }) (v:=?_) rfl (by kernel_rfl) (by kernel_rfl) (by kernel_rfl) (fun _ _ _ h=>h) (Or.inl ⟨by rfl,?_⟩) hHeld ?_
        rotate_left 1
        · intro W hSw;skip;go_simp;try with_reducible rfl
        try simp only [Act.put,List.setIfInBounds_toArray,List.set_cons_zero,List.set_cons_succ]
        refine wpAnyH_done (by kernel_rfl) ?_ _
        refine hK0 _ _ ?_
        clear hK0
        have BZ:=Lib.hid hHeld
        clear hHeld
        go_wp2_with fail
        go_step3
        refine ⟨rfl,?_⟩
        go_wp2_with fail
        try simp only [Exit.jump]
        go_ret2
        refine ⟨z4'.out.trans (BZ.out.mono z4'.out.size),?_⟩
        rw [show pairV a b = none by unfold pairV;rw [if_neg (fun h=>by have h1:=HS.out;have h2:=HA.out;have h3:=HB.out;simp [h.1,h.2.1,h.2.2,P4.eqV] at h1 h2 h3)]]
        rfl
      | true =>
        exact absurd ⟨HA.out,HB.out,of_decide_eq_true HS.out⟩ HN.out
end Go.Proofs.Ytmipodnffhngaaa.Sim
namespace Go.Proofs.Ytmipodnffhngaaa.Sim
open Go.RowKit Top
set_option maxRecDepth 20000
set_option linter.unusedVariables false

set_option maxHeartbeats 8000000 in
theorem pair_none (w:World) (a b:Ov) (sa sb:OS) (ha:OpIn w a sa) (hb:OpIn w b sb) (hma:Mild a) (hmb:Mild b) (hyes:countsB a = true∧countsB b = true∧subjV a = b.path) (h12:¬ (a.kind = 1∧b.kind = 2)) (h15:¬ (a.kind = 1∧b.kind = 5)) (h55:¬ (a.kind = 5∧b.kind = 5)) (h44:¬ (a.kind = 4∧b.kind = 4)) (h66:¬ (a.kind = 6∧b.kind = 6)) :
    Calls Try.prog 45 #[.agg (opCells a sa),.agg (opCells b sb)] w (PairA w (pairV a b)):=by
  obtain ⟨z1,z2,z3,z4,z5⟩:=Top.three_new w (.cells (opCells a sa) 26) (.cells (opCells b sb) 26) (.cells zero11 26)
  obtain ⟨W3,hW3⟩:∃ W3,W3 = ((w.alloc (.cells (opCells a sa) 26)).alloc (.cells (opCells b sb) 26)).alloc (.cells zero11 26):=⟨_,rfl⟩
  rw [← hW3] at z1 z2 z3 z4 z5
  have z4':=Lib.hid z4
  have z5':=Lib.hid z5
  have hbx:=Lib.hid (fun (W:World) (hb:Below W3.heap.size W3 W)=>show W.heap[w.heap.size]? = some (.cells (opCells a sa) 26 (0,0))∧W.heap[w.heap.size + 1]? = some (.cells (opCells b sb) 26 (0,0))∧W.heap[w.heap.size + 1 + 1]? = some (.cells zero11 26 (0,0)) from ⟨(hb.block _ (by have:=z5'.out;omega)).trans z1,(hb.block _ (by have:=z5'.out;omega)).trans z2,(hb.block _ (by have:=z5'.out;omega)).trans z3⟩)
  have hOa:=Lib.hid (fun (W:World) (hb:Below W3.heap.size W3 W)=>ha.below (z4'.out.trans (hb.mono z4'.out.size)))
  have hOb:=Lib.hid (fun (W:World) (hc:Below W3.heap.size W3 W)=>hb.below (z4'.out.trans (hc.mono z4'.out.size)))
  have hsb:=Lib.hid (fun (W:World) (hb:Below W3.heap.size W3 W)=>subject_any W a sa (hOa.out W hb))
  have hca:=Lib.hid (fun (W:World) (hb:Below W3.heap.size W3 W)=>counts_any W a sa (hOa.out W hb) hma)
  have hcb:=Lib.hid (fun (W:World) (hb:Below W3.heap.size W3 W)=>counts_any W b sb (hOb.out W hb) hmb)
  have hfs:P4.eqV (subjV a) b.path = true:=decide_eq_true hyes.2.2
  have hfa:=hyes.1
  have hfb:=hyes.2.1
  rw [hfa] at hca
  rw [hfb] at hcb
  have HS:=Lib.hid hfs
  have HA:=Lib.hid hfa
  have HB:=Lib.hid hfb
  have hkA:=ha.kind
  have hkB:=hb.kind
  have HN:=Lib.hid hyes
  have hal:=ha.label
  have hbl:=hb.label
  have hav:=ha.key
  have hbv:=hb.key
  have hE12:∀ W:World,(binOp .eql 96 (.agg #[.int .u8 (a.kind:Int),.int .u8 (b.kind:Int)]) (.agg #[.int .u8 1,.int .u8 2])).run Try.prog W = .ok (.bool false) W:=fun W=>by
    have h5:=eq2 W a.kind b.kind 1 2 hkA hkB (by decide) (by decide)
    rw [decide_eq_false (by omega)] at h5
    exact h5
  have hE15:∀ W:World,(binOp .eql 96 (.agg #[.int .u8 (a.kind:Int),.int .u8 (b.kind:Int)]) (.agg #[.int .u8 1,.int .u8 5])).run Try.prog W = .ok (.bool false) W:=fun W=>by
    have h5:=eq2 W a.kind b.kind 1 5 hkA hkB (by decide) (by decide)
    rw [decide_eq_false (by omega)] at h5
    exact h5
  have hE55:∀ W:World,(binOp .eql 96 (.agg #[.int .u8 (a.kind:Int),.int .u8 (b.kind:Int)]) (.agg #[.int .u8 5,.int .u8 5])).run Try.prog W = .ok (.bool false) W:=fun W=>by
    have h5:=eq2 W a.kind b.kind 5 5 hkA hkB (by decide) (by decide)
    rw [decide_eq_false (by omega)] at h5
    exact h5
  have hE44:∀ W:World,(binOp .eql 96 (.agg #[.int .u8 (a.kind:Int),.int .u8 (b.kind:Int)]) (.agg #[.int .u8 4,.int .u8 4])).run Try.prog W = .ok (.bool false) W:=fun W=>by
    have h5:=eq2 W a.kind b.kind 4 4 hkA hkB (by decide) (by decide)
    rw [decide_eq_false (by omega)] at h5
    exact h5
  have hE66:∀ W:World,(binOp .eql 96 (.agg #[.int .u8 (a.kind:Int),.int .u8 (b.kind:Int)]) (.agg #[.int .u8 6,.int .u8 6])).run Try.prog W = .ok (.bool false) W:=fun W=>by
    have h5:=eq2 W a.kind b.kind 6 6 hkA hkB (by decide) (by decide)
    rw [decide_eq_false (by omega)] at h5
    exact h5
  have H12:=Lib.hid h12
  have H15:=Lib.hid h15
  have H55:=Lib.hid h55
  have H44:=Lib.hid h44
  have H66:=Lib.hid h66
  clear h12 h15 h55 h44 h66
  clear ha hb hfs hfa hfb
  unfold opCells at hsb hca hcb
  unfold opCells zero11 at hW3
  obtain ⟨a0,a1,a2,a3,a4,a5,a6,a7,a8,a9,a10⟩:=op_cells z1
  obtain ⟨b0,b1,b2,b3,b4,b5,b6,b7,b8,b9,b10⟩:=op_cells z2
  clear z1 z2 z3 z4 z5
  unfold opCells
  go_enter Try.func45,Try.ntmps45
  go_wp2_with fail
  refine Top.wp_scope_once 0 rfl ?_
  go_upto_region 2 with fail
  rw [← hW3]
  clear hW3 a0 a1 a2 a3 a4 a5 a6 a7 a8 a9 a10 b0 b1 b2 b3 b4 b5 b6 b7 b8 b9 b10
  rename_i K0 hK0
  refine wp_region_held_drew (S:=(fun W=>Below W3.heap.size W3 W)) (by kernel_rfl) ((Below.refl W3.heap.size W3).drew) (fun hHeld=>?_)
  refine wpAnyH_take (i:=0) (oi:={ dst:=some 9,op:=Go.Op.load 26 (Go.Operand.tmp 2),type:=26,pos:="simplify.go:28",after:=#[],guard:=none }) (v:=?_) rfl (by kernel_rfl) (by kernel_rfl) (by kernel_rfl) (fun _ _ _ h=>h) (Or.inl ⟨by rfl,?_⟩) hHeld ?_
  rotate_left 1
  · intro W hSw;obtain ⟨r1,r2,-⟩:=hbx.out W hSw;obtain ⟨a0,a1,a2,a3,a4,a5,a6,a7,a8,a9,a10⟩:=op_cells r1;obtain ⟨b0,b1,b2,b3,b4,b5,b6,b7,b8,b9,b10⟩:=op_cells r2;go_simp;try with_reducible rfl
  try simp only [Act.put,List.setIfInBounds_toArray,List.set_cons_zero,List.set_cons_succ]
  refine wpAnyH_take (i:=2) (oi:={ dst:=some 11,op:=Go.Op.fieldAddr 26 (Go.Operand.tmp 3) 1,type:=0,pos:="simplify.go:28",after:=#[],guard:=none }) (v:=?_) rfl (by kernel_rfl) (by kernel_rfl) (by kernel_rfl) (fun _ _ _ h=>h) (Or.inl ⟨by rfl,?_⟩) hHeld ?_
  rotate_left 1
  · intro W hSw;obtain ⟨r1,r2,-⟩:=hbx.out W hSw;obtain ⟨a0,a1,a2,a3,a4,a5,a6,a7,a8,a9,a10⟩:=op_cells r1;obtain ⟨b0,b1,b2,b3,b4,b5,b6,b7,b8,b9,b10⟩:=op_cells r2;go_simp;try with_reducible rfl
  try simp only [Act.put,List.setIfInBounds_toArray,List.set_cons_zero,List.set_cons_succ]
  refine wpAnyH_take (i:=3) (oi:={ dst:=some 12,op:=Go.Op.load 22 (Go.Operand.tmp 11),type:=22,pos:="simplify.go:28",after:=#[{ on:=2,ground:=Go.Ground.data }],guard:=none }) (v:=?_) rfl (by kernel_rfl) (by kernel_rfl) (by kernel_rfl) (fun _ _ _ h=>h) (Or.inl ⟨by rfl,?_⟩) hHeld ?_
  rotate_left 1
  · intro W hSw;obtain ⟨r1,r2,-⟩:=hbx.out W hSw;obtain ⟨a0,a1,a2,a3,a4,a5,a6,a7,a8,a9,a10⟩:=op_cells r1;obtain ⟨b0,b1,b2,b3,b4,b5,b6,b7,b8,b9,b10⟩:=op_cells r2;go_simp;try with_reducible rfl
  try simp only [Act.put,List.setIfInBounds_toArray,List.set_cons_zero,List.set_cons_succ]
  refine wpAnyH_ready (rs:=[1]) (by kernel_rfl) (by simp) ?_
  refine AllReadyH.cons (o:={ dst:=some 10,op:=Go.Op.call { callee:=Go.Callee.value (Go.Operand.func 88),args:=#[Go.Operand.tmp 9],argTypes:=#[26] },type:=22,pos:="simplify.go:28",after:=#[{ on:=0,ground:=Go.Ground.data }],guard:=none }) rfl (fun K hK=>?_) AllReadyH.nil
  go_simp
  refine (hsb.out _ hHeld).mono ?_
  rintro e w4 ⟨A4,n4,c4,rfl,hi4,hm4,hbn⟩
  have F1:=Lib.hid (show Below W3.heap.size W3 w4 from hHeld.trans (hbn.mono hHeld.size))
  have I4:=Lib.hid hi4
  clear hbn hi4
  go_simp
  refine hK.out _ _ ?_ (fun hNew=>?_)
  · exact F1.out
  clear hK K hHeld
  have hHeld:=hNew
  clear hNew
  try simp only [Act.put,List.setIfInBounds_toArray,List.set_cons_zero,List.set_cons_succ]
  refine wpAnyH_ready (rs:=[4]) (by kernel_rfl) (by simp) ?_
  refine AllReadyH.cons (o:={ dst:=some 13,op:=Go.Op.call { callee:=Go.Callee.value (Go.Operand.func 75),args:=#[Go.Operand.tmp 10,Go.Operand.tmp 12],argTypes:=#[22,22] },type:=4,pos:="simplify.go:28",after:=#[{ on:=1,ground:=Go.Ground.data },{ on:=3,ground:=Go.Ground.data },{ on:=1,ground:=Go.Ground.chain }],guard:=none }) rfl (fun K hK=>?_) AllReadyH.nil
  go_simp
  refine (P4.same_any _ A4 sb.pA n4 c4 sb.pn sb.pc (subjV a) b.path (its4 I4.out) (its4 (hOb.out _ hHeld).path) hm4).mono ?_
  rw [HS.out]
  rintro e w5 ⟨rfl,k5,rfl⟩
  go_simp
  refine hK.out _ _ ?_ (fun hNew=>?_)
  · exact draws hHeld _
  clear hK K hHeld
  have hHeld:=hNew
  clear hNew
  try simp only [Act.put,List.setIfInBounds_toArray,List.set_cons_zero,List.set_cons_succ]
  refine wpAnyH_take (i:=5) (oi:={ dst:=some 14,op:=Go.Op.unOp Go.UnOp.not 4 (Go.Operand.tmp 13),type:=4,pos:="simplify.go:28",after:=#[{ on:=4,ground:=Go.Ground.data }],guard:=none }) (v:=?_) rfl (by kernel_rfl) (by kernel_rfl) (by kernel_rfl) (fun _ _ _ h=>h) (Or.inl ⟨by rfl,?_⟩) hHeld ?_
  rotate_left 1
  · intro W hSw;skip;go_simp;try with_reducible rfl
  try simp only [Act.put,List.setIfInBounds_toArray,List.set_cons_zero,List.set_cons_succ]
  refine wpAnyH_take (i:=6) (oi:={ dst:=some 15,op:=Go.Op.move (Go.Operand.tmp 14),type:=4,pos:="simplify.go:28",after:=#[{ on:=5,ground:=Go.Ground.data },{ on:=4,ground:=Go.Ground.chain }],guard:=none }) (v:=?_) rfl (by kernel_rfl) (by kernel_rfl) (by kernel_rfl) (fun _ _ _ h=>h) (Or.inl ⟨by rfl,?_⟩) hHeld ?_
  rotate_left 1
  · intro W hSw;skip;go_simp;try with_reducible rfl
  try simp only [Act.put,List.setIfInBounds_toArray,List.set_cons_zero,List.set_cons_succ]
  refine wpAnyH_take (i:=7) (oi:={ dst:=some 16,op:=Go.Op.load 26 (Go.Operand.tmp 2),type:=26,pos:="simplify.go:28",after:=#[{ on:=6,ground:=Go.Ground.guard }],guard:=some (6,false) }) (v:=?_) rfl (by kernel_rfl) (by kernel_rfl) (by kernel_rfl) (fun _ _ _ h=>h) (Or.inl ⟨by rfl,?_⟩) hHeld ?_
  rotate_left 1
  · intro W hSw;obtain ⟨r1,r2,-⟩:=hbx.out W hSw;obtain ⟨a0,a1,a2,a3,a4,a5,a6,a7,a8,a9,a10⟩:=op_cells r1;obtain ⟨b0,b1,b2,b3,b4,b5,b6,b7,b8,b9,b10⟩:=op_cells r2;go_simp;try with_reducible rfl
  try simp only [Act.put,List.setIfInBounds_toArray,List.set_cons_zero,List.set_cons_succ]
  refine wpAnyH_ready (rs:=[8]) (by kernel_rfl) (by simp) ?_
  refine AllReadyH.cons (o:={ dst:=some 17,op:=Go.Op.call { callee:=Go.Callee.value (Go.Operand.func 89),args:=#[Go.Operand.tmp 16],argTypes:=#[26] },type:=4,pos:="simplify.go:28",after:=#[{ on:=7,ground:=Go.Ground.data },{ on:=6,ground:=Go.Ground.chain },{ on:=6,ground:=Go.Ground.guard }],guard:=some (6,false) }) rfl (fun K hK=>?_) AllReadyH.nil
  go_simp
  refine (hca.out _ hHeld).mono ?_
  rintro e w6 ⟨rfl,hbn⟩
  have F2:=Lib.hid (show Below W3.heap.size W3 w6 from hHeld.trans (hbn.mono hHeld.size))
  clear hbn
  go_simp
  refine hK.out _ _ ?_ (fun hNew=>?_)
  · exact F2.out
  clear hK K hHeld
  have hHeld:=hNew
  clear hNew
  try simp only [Act.put,List.setIfInBounds_toArray,List.set_cons_zero,List.set_cons_succ]
  refine wpAnyH_take (i:=9) (oi:={ dst:=some 18,op:=Go.Op.unOp Go.UnOp.not 4 (Go.Operand.tmp 17),type:=4,pos:="simplify.go:28",after:=#[{ on:=8,ground:=Go.Ground.data },{ on:=6,ground:=Go.Ground.guard }],guard:=some (6,false) }) (v:=?_) rfl (by kernel_rfl) (by kernel_rfl) (by kernel_rfl) (fun _ _ _ h=>h) (Or.inl ⟨by rfl,?_⟩) hHeld ?_
  rotate_left 1
  · intro W hSw;skip;go_simp;try with_reducible rfl
  try simp only [Act.put,List.setIfInBounds_toArray,List.set_cons_zero,List.set_cons_succ]
  refine wpAnyH_take (i:=10) (oi:={ dst:=some 19,op:=Go.Op.pick (Go.Operand.tmp 15) (Go.Operand.const (Go.Value.bool true)) (Go.Operand.tmp 18),type:=4,pos:="simplify.go:28",after:=#[{ on:=6,ground:=Go.Ground.data },{ on:=9,ground:=Go.Ground.data }],guard:=none }) (v:=?_) rfl (by kernel_rfl) (by kernel_rfl) (by kernel_rfl) (fun _ _ _ h=>h) (Or.inl ⟨by rfl,?_⟩) hHeld ?_
  rotate_left 1
  · intro W hSw;skip;go_simp;try with_reducible rfl
  try simp only [Act.put,List.setIfInBounds_toArray,List.set_cons_zero,List.set_cons_succ]
  refine wpAnyH_take (i:=11) (oi:={ dst:=some 20,op:=Go.Op.move (Go.Operand.tmp 19),type:=4,pos:="simplify.go:28",after:=#[{ on:=10,ground:=Go.Ground.data },{ on:=8,ground:=Go.Ground.chain }],guard:=none }) (v:=?_) rfl (by kernel_rfl) (by kernel_rfl) (by kernel_rfl) (fun _ _ _ h=>h) (Or.inl ⟨by rfl,?_⟩) hHeld ?_
  rotate_left 1
  · intro W hSw;skip;go_simp;try with_reducible rfl
  try simp only [Act.put,List.setIfInBounds_toArray,List.set_cons_zero,List.set_cons_succ]
  refine wpAnyH_take (i:=12) (oi:={ dst:=some 21,op:=Go.Op.load 26 (Go.Operand.tmp 3),type:=26,pos:="simplify.go:28",after:=#[{ on:=11,ground:=Go.Ground.guard }],guard:=some (11,false) }) (v:=?_) rfl (by kernel_rfl) (by kernel_rfl) (by kernel_rfl) (fun _ _ _ h=>h) (Or.inl ⟨by rfl,?_⟩) hHeld ?_
  rotate_left 1
  · intro W hSw;obtain ⟨r1,r2,-⟩:=hbx.out W hSw;obtain ⟨a0,a1,a2,a3,a4,a5,a6,a7,a8,a9,a10⟩:=op_cells r1;obtain ⟨b0,b1,b2,b3,b4,b5,b6,b7,b8,b9,b10⟩:=op_cells r2;go_simp;try with_reducible rfl
  try simp only [Act.put,List.setIfInBounds_toArray,List.set_cons_zero,List.set_cons_succ]
  refine wpAnyH_ready (rs:=[13]) (by kernel_rfl) (by simp) ?_
  refine AllReadyH.cons (o:={ dst:=some 22,op:=Go.Op.call { callee:=Go.Callee.value (Go.Operand.func 89),args:=#[Go.Operand.tmp 21],argTypes:=#[26] },type:=4,pos:="simplify.go:28",after:=#[{ on:=12,ground:=Go.Ground.data },{ on:=11,ground:=Go.Ground.chain },{ on:=11,ground:=Go.Ground.guard }],guard:=some (11,false) }) rfl (fun K hK=>?_) AllReadyH.nil
  go_simp
  refine (hcb.out _ hHeld).mono ?_
  rintro e w7 ⟨rfl,hbn⟩
  have F3:=Lib.hid (show Below W3.heap.size W3 w7 from hHeld.trans (hbn.mono hHeld.size))
  clear hbn
  go_simp
  refine hK.out _ _ ?_ (fun hNew=>?_)
  · exact F3.out
  clear hK K hHeld
  have hHeld:=hNew
  clear hNew
  try simp only [Act.put,List.setIfInBounds_toArray,List.set_cons_zero,List.set_cons_succ]
  refine wpAnyH_take (i:=14) (oi:={ dst:=some 23,op:=Go.Op.unOp Go.UnOp.not 4 (Go.Operand.tmp 22),type:=4,pos:="simplify.go:28",after:=#[{ on:=13,ground:=Go.Ground.data },{ on:=11,ground:=Go.Ground.guard }],guard:=some (11,false) }) (v:=?_) rfl (by kernel_rfl) (by kernel_rfl) (by kernel_rfl) (fun _ _ _ h=>h) (Or.inl ⟨by rfl,?_⟩) hHeld ?_
  rotate_left 1
  · intro W hSw;skip;go_simp;try with_reducible rfl
  try simp only [Act.put,List.setIfInBounds_toArray,List.set_cons_zero,List.set_cons_succ]
  refine wpAnyH_take (i:=15) (oi:={ dst:=some 24,op:=Go.Op.pick (Go.Operand.tmp 20) (Go.Operand.const (Go.Value.bool true)) (Go.Operand.tmp 23),type:=4,pos:="simplify.go:28",after:=#[{ on:=11,ground:=Go.Ground.data },{ on:=14,ground:=Go.Ground.data }],guard:=none }) (v:=?_) rfl (by kernel_rfl) (by kernel_rfl) (by kernel_rfl) (fun _ _ _ h=>h) (Or.inl ⟨by rfl,?_⟩) hHeld ?_
  rotate_left 1
  · intro W hSw;skip;go_simp;try with_reducible rfl
  try simp only [Act.put,List.setIfInBounds_toArray,List.set_cons_zero,List.set_cons_succ]
  refine wpAnyH_done (by kernel_rfl) ?_ _
  refine hK0 _ _ ?_
  clear hK0
  have BW:=Lib.hid hHeld
  clear hHeld
  obtain ⟨r1,r2,r3⟩:=hbx.out w7 BW.out
  unfold zero11 at r3
  have R3:=Lib.hid r3
  obtain ⟨a0,a1,a2,a3,a4,a5,a6,a7,a8,a9,a10⟩:=op_cells r1
  obtain ⟨b0,b1,b2,b3,b4,b5,b6,b7,b8,b9,b10⟩:=op_cells r2
  obtain ⟨q0,q1,q2,q3,q4,q5,q6,q7,q8,q9,q10,qf⟩:=eleven_cells r3
  have hl3:w.heap.size + 1 + 1 < w7.heap.size:=(Array.getElem?_eq_some_iff.1 r3).1
  clear r1 r2 r3
  go_wp2_with fail
  go_step3
  refine ⟨rfl,?_⟩
  go_wp2_with fail
  try simp only [Exit.jump]
  go_ret2
  refine ⟨z4'.out.trans (BW.out.mono z4'.out.size),?_⟩
  rw [show pairV a b = none by unfold pairV;rw [if_pos HN.out,if_neg H12.out,if_neg H15.out,if_neg H55.out,if_neg H44.out,if_neg H66.out]]
  rfl
set_option maxHeartbeats 8000000 in
theorem pair_12 (w:World) (a b:Ov) (sa sb:OS) (ha:OpIn w a sa) (hb:OpIn w b sb) (hma:Mild a) (hmb:Mild b) (hyes:countsB a = true∧countsB b = true∧subjV a = b.path) (h12:a.kind = 1∧b.kind = 2) :
    Calls Try.prog 45 #[.agg (opCells a sa),.agg (opCells b sb)] w (PairA w (pairV a b)):=by
  obtain ⟨z1,z2,z3,z4,z5⟩:=Top.three_new w (.cells (opCells a sa) 26) (.cells (opCells b sb) 26) (.cells zero11 26)
  obtain ⟨W3,hW3⟩:∃ W3,W3 = ((w.alloc (.cells (opCells a sa) 26)).alloc (.cells (opCells b sb) 26)).alloc (.cells zero11 26):=⟨_,rfl⟩
  rw [← hW3] at z1 z2 z3 z4 z5
  have z4':=Lib.hid z4
  have z5':=Lib.hid z5
  have hbx:=Lib.hid (fun (W:World) (hb:Below W3.heap.size W3 W)=>show W.heap[w.heap.size]? = some (.cells (opCells a sa) 26 (0,0))∧W.heap[w.heap.size + 1]? = some (.cells (opCells b sb) 26 (0,0))∧W.heap[w.heap.size + 1 + 1]? = some (.cells zero11 26 (0,0)) from ⟨(hb.block _ (by have:=z5'.out;omega)).trans z1,(hb.block _ (by have:=z5'.out;omega)).trans z2,(hb.block _ (by have:=z5'.out;omega)).trans z3⟩)
  have hOa:=Lib.hid (fun (W:World) (hb:Below W3.heap.size W3 W)=>ha.below (z4'.out.trans (hb.mono z4'.out.size)))
  have hOb:=Lib.hid (fun (W:World) (hc:Below W3.heap.size W3 W)=>hb.below (z4'.out.trans (hc.mono z4'.out.size)))
  have hsb:=Lib.hid (fun (W:World) (hb:Below W3.heap.size W3 W)=>subject_any W a sa (hOa.out W hb))
  have hca:=Lib.hid (fun (W:World) (hb:Below W3.heap.size W3 W)=>counts_any W a sa (hOa.out W hb) hma)
  have hcb:=Lib.hid (fun (W:World) (hb:Below W3.heap.size W3 W)=>counts_any W b sb (hOb.out W hb) hmb)
  have hfs:P4.eqV (subjV a) b.path = true:=decide_eq_true hyes.2.2
  have hfa:=hyes.1
  have hfb:=hyes.2.1
  rw [hfa] at hca
  rw [hfb] at hcb
  have HS:=Lib.hid hfs
  have HA:=Lib.hid hfa
  have HB:=Lib.hid hfb
  have hkA:=ha.kind
  have hkB:=hb.kind
  have HN:=Lib.hid hyes
  have hal:=ha.label
  have hbl:=hb.label
  have hav:=ha.key
  have hbv:=hb.key
  have hE12:∀ W:World,(binOp .eql 96 (.agg #[.int .u8 (a.kind:Int),.int .u8 (b.kind:Int)]) (.agg #[.int .u8 1,.int .u8 2])).run Try.prog W = .ok (.bool true) W:=fun W=>by
    have h5:=eq2 W a.kind b.kind 1 2 hkA hkB (by decide) (by decide)
    rw [decide_eq_true (by omega)] at h5
    exact h5
  have hE15:∀ W:World,(binOp .eql 96 (.agg #[.int .u8 (a.kind:Int),.int .u8 (b.kind:Int)]) (.agg #[.int .u8 1,.int .u8 5])).run Try.prog W = .ok (.bool false) W:=fun W=>by
    have h5:=eq2 W a.kind b.kind 1 5 hkA hkB (by decide) (by decide)
    rw [decide_eq_false (by omega)] at h5
    exact h5
  have hE55:∀ W:World,(binOp .eql 96 (.agg #[.int .u8 (a.kind:Int),.int .u8 (b.kind:Int)]) (.agg #[.int .u8 5,.int .u8 5])).run Try.prog W = .ok (.bool false) W:=fun W=>by
    have h5:=eq2 W a.kind b.kind 5 5 hkA hkB (by decide) (by decide)
    rw [decide_eq_false (by omega)] at h5
    exact h5
  have hE44:∀ W:World,(binOp .eql 96 (.agg #[.int .u8 (a.kind:Int),.int .u8 (b.kind:Int)]) (.agg #[.int .u8 4,.int .u8 4])).run Try.prog W = .ok (.bool false) W:=fun W=>by
    have h5:=eq2 W a.kind b.kind 4 4 hkA hkB (by decide) (by decide)
    rw [decide_eq_false (by omega)] at h5
    exact h5
  have hE66:∀ W:World,(binOp .eql 96 (.agg #[.int .u8 (a.kind:Int),.int .u8 (b.kind:Int)]) (.agg #[.int .u8 6,.int .u8 6])).run Try.prog W = .ok (.bool false) W:=fun W=>by
    have h5:=eq2 W a.kind b.kind 6 6 hkA hkB (by decide) (by decide)
    rw [decide_eq_false (by omega)] at h5
    exact h5
  have H12:=Lib.hid h12
  clear h12
  clear ha hb hfs hfa hfb
  unfold opCells at hsb hca hcb
  unfold opCells zero11 at hW3
  obtain ⟨a0,a1,a2,a3,a4,a5,a6,a7,a8,a9,a10⟩:=op_cells z1
  obtain ⟨b0,b1,b2,b3,b4,b5,b6,b7,b8,b9,b10⟩:=op_cells z2
  clear z1 z2 z3 z4 z5
  unfold opCells
  go_enter Try.func45,Try.ntmps45
  go_wp2_with fail
  refine Top.wp_scope_once 0 rfl ?_
  go_upto_region 2 with fail
  rw [← hW3]
  clear hW3 a0 a1 a2 a3 a4 a5 a6 a7 a8 a9 a10 b0 b1 b2 b3 b4 b5 b6 b7 b8 b9 b10
  rename_i K0 hK0
  refine wp_region_held_drew (S:=(fun W=>Below W3.heap.size W3 W)) (by kernel_rfl) ((Below.refl W3.heap.size W3).drew) (fun hHeld=>?_)
  refine wpAnyH_take (i:=0) (oi:={ dst:=some 9,op:=Go.Op.load 26 (Go.Operand.tmp 2),type:=26,pos:="simplify.go:28",after:=#[],guard:=none }) (v:=?_) rfl (by kernel_rfl) (by kernel_rfl) (by kernel_rfl) (fun _ _ _ h=>h) (Or.inl ⟨by rfl,?_⟩) hHeld ?_
  rotate_left 1
  · intro W hSw;obtain ⟨r1,r2,-⟩:=hbx.out W hSw;obtain ⟨a0,a1,a2,a3,a4,a5,a6,a7,a8,a9,a10⟩:=op_cells r1;obtain ⟨b0,b1,b2,b3,b4,b5,b6,b7,b8,b9,b10⟩:=op_cells r2;go_simp;try with_reducible rfl
  try simp only [Act.put,List.setIfInBounds_toArray,List.set_cons_zero,List.set_cons_succ]
  refine wpAnyH_take (i:=2) (oi:={ dst:=some 11,op:=Go.Op.fieldAddr 26 (Go.Operand.tmp 3) 1,type:=0,pos:="simplify.go:28",after:=#[],guard:=none }) (v:=?_) rfl (by kernel_rfl) (by kernel_rfl) (by kernel_rfl) (fun _ _ _ h=>h) (Or.inl ⟨by rfl,?_⟩) hHeld ?_
  rotate_left 1
  · intro W hSw;obtain ⟨r1,r2,-⟩:=hbx.out W hSw;obtain ⟨a0,a1,a2,a3,a4,a5,a6,a7,a8,a9,a10⟩:=op_cells r1;obtain ⟨b0,b1,b2,b3,b4,b5,b6,b7,b8,b9,b10⟩:=op_cells r2;go_simp;try with_reducible rfl
  try simp only [Act.put,List.setIfInBounds_toArray,List.set_cons_zero,List.set_cons_succ]
  refine wpAnyH_take (i:=3) (oi:={ dst:=some 12,op:=Go.Op.load 22 (Go.Operand.tmp 11),type:=22,pos:="simplify.go:28",after:=#[{ on:=2,ground:=Go.Ground.data }],guard:=none }) (v:=?_) rfl (by kernel_rfl) (by kernel_rfl) (by kernel_rfl) (fun _ _ _ h=>h) (Or.inl ⟨by rfl,?_⟩) hHeld ?_
  rotate_left 1
  · intro W hSw;obtain ⟨r1,r2,-⟩:=hbx.out W hSw;obtain ⟨a0,a1,a2,a3,a4,a5,a6,a7,a8,a9,a10⟩:=op_cells r1;obtain ⟨b0,b1,b2,b3,b4,b5,b6,b7,b8,b9,b10⟩:=op_cells r2;go_simp;try with_reducible rfl
  try simp only [Act.put,List.setIfInBounds_toArray,List.set_cons_zero,List.set_cons_succ]
  refine wpAnyH_ready (rs:=[1]) (by kernel_rfl) (by simp) ?_
  refine AllReadyH.cons (o:={ dst:=some 10,op:=Go.Op.call { callee:=Go.Callee.value (Go.Operand.func 88),args:=#[Go.Operand.tmp 9],argTypes:=#[26] },type:=22,pos:="simplify.go:28",after:=#[{ on:=0,ground:=Go.Ground.data }],guard:=none }) rfl (fun K hK=>?_) AllReadyH.nil
  go_simp
  refine (hsb.out _ hHeld).mono ?_
  rintro e w4 ⟨A4,n4,c4,rfl,hi4,hm4,hbn⟩
  have F1:=Lib.hid (show Below W3.heap.size W3 w4 from hHeld.trans (hbn.mono hHeld.size))
  have I4:=Lib.hid hi4
  clear hbn hi4
  go_simp
  refine hK.out _ _ ?_ (fun hNew=>?_)
  · exact F1.out
  clear hK K hHeld
  have hHeld:=hNew
  clear hNew
  try simp only [Act.put,List.setIfInBounds_toArray,List.set_cons_zero,List.set_cons_succ]
  refine wpAnyH_ready (rs:=[4]) (by kernel_rfl) (by simp) ?_
  refine AllReadyH.cons (o:={ dst:=some 13,op:=Go.Op.call { callee:=Go.Callee.value (Go.Operand.func 75),args:=#[Go.Operand.tmp 10,Go.Operand.tmp 12],argTypes:=#[22,22] },type:=4,pos:="simplify.go:28",after:=#[{ on:=1,ground:=Go.Ground.data },{ on:=3,ground:=Go.Ground.data },{ on:=1,ground:=Go.Ground.chain }],guard:=none }) rfl (fun K hK=>?_) AllReadyH.nil
  go_simp
  refine (P4.same_any _ A4 sb.pA n4 c4 sb.pn sb.pc (subjV a) b.path (its4 I4.out) (its4 (hOb.out _ hHeld).path) hm4).mono ?_
  rw [HS.out]
  rintro e w5 ⟨rfl,k5,rfl⟩
  go_simp
  refine hK.out _ _ ?_ (fun hNew=>?_)
  · exact draws hHeld _
  clear hK K hHeld
  have hHeld:=hNew
  clear hNew
  try simp only [Act.put,List.setIfInBounds_toArray,List.set_cons_zero,List.set_cons_succ]
  refine wpAnyH_take (i:=5) (oi:={ dst:=some 14,op:=Go.Op.unOp Go.UnOp.not 4 (Go.Operand.tmp 13),type:=4,pos:="simplify.go:28",after:=#[{ on:=4,ground:=Go.Ground.data }],guard:=none }) (v:=?_) rfl (by kernel_rfl) (by kernel_rfl) (by kernel_rfl) (fun _ _ _ h=>h) (Or.inl ⟨by rfl,?_⟩) hHeld ?_
  rotate_left 1
  · intro W hSw;skip;go_simp;try with_reducible rfl
  try simp only [Act.put,List.setIfInBounds_toArray,List.set_cons_zero,List.set_cons_succ]
  refine wpAnyH_take (i:=6) (oi:={ dst:=some 15,op:=Go.Op.move (Go.Operand.tmp 14),type:=4,pos:="simplify.go:28",after:=#[{ on:=5,ground:=Go.Ground.data },{ on:=4,ground:=Go.Ground.chain }],guard:=none }) (v:=?_) rfl (by kernel_rfl) (by kernel_rfl) (by kernel_rfl) (fun _ _ _ h=>h) (Or.inl ⟨by rfl,?_⟩) hHeld ?_
  rotate_left 1
  · intro W hSw;skip;go_simp;try with_reducible rfl
  try simp only [Act.put,List.setIfInBounds_toArray,List.set_cons_zero,List.set_cons_succ]
  refine wpAnyH_take (i:=7) (oi:={ dst:=some 16,op:=Go.Op.load 26 (Go.Operand.tmp 2),type:=26,pos:="simplify.go:28",after:=#[{ on:=6,ground:=Go.Ground.guard }],guard:=some (6,false) }) (v:=?_) rfl (by kernel_rfl) (by kernel_rfl) (by kernel_rfl) (fun _ _ _ h=>h) (Or.inl ⟨by rfl,?_⟩) hHeld ?_
  rotate_left 1
  · intro W hSw;obtain ⟨r1,r2,-⟩:=hbx.out W hSw;obtain ⟨a0,a1,a2,a3,a4,a5,a6,a7,a8,a9,a10⟩:=op_cells r1;obtain ⟨b0,b1,b2,b3,b4,b5,b6,b7,b8,b9,b10⟩:=op_cells r2;go_simp;try with_reducible rfl
  try simp only [Act.put,List.setIfInBounds_toArray,List.set_cons_zero,List.set_cons_succ]
  refine wpAnyH_ready (rs:=[8]) (by kernel_rfl) (by simp) ?_
  refine AllReadyH.cons (o:={ dst:=some 17,op:=Go.Op.call { callee:=Go.Callee.value (Go.Operand.func 89),args:=#[Go.Operand.tmp 16],argTypes:=#[26] },type:=4,pos:="simplify.go:28",after:=#[{ on:=7,ground:=Go.Ground.data },{ on:=6,ground:=Go.Ground.chain },{ on:=6,ground:=Go.Ground.guard }],guard:=some (6,false) }) rfl (fun K hK=>?_) AllReadyH.nil
  go_simp
  refine (hca.out _ hHeld).mono ?_
  rintro e w6 ⟨rfl,hbn⟩
  have F2:=Lib.hid (show Below W3.heap.size W3 w6 from hHeld.trans (hbn.mono hHeld.size))
  clear hbn
  go_simp
  refine hK.out _ _ ?_ (fun hNew=>?_)
  · exact F2.out
  clear hK K hHeld
  have hHeld:=hNew
  clear hNew
  try simp only [Act.put,List.setIfInBounds_toArray,List.set_cons_zero,List.set_cons_succ]
  refine wpAnyH_take (i:=9) (oi:={ dst:=some 18,op:=Go.Op.unOp Go.UnOp.not 4 (Go.Operand.tmp 17),type:=4,pos:="simplify.go:28",after:=#[{ on:=8,ground:=Go.Ground.data },{ on:=6,ground:=Go.Ground.guard }],guard:=some (6,false) }) (v:=?_) rfl (by kernel_rfl) (by kernel_rfl) (by kernel_rfl) (fun _ _ _ h=>h) (Or.inl ⟨by rfl,?_⟩) hHeld ?_
  rotate_left 1
  · intro W hSw;skip;go_simp;try with_reducible rfl
  try simp only [Act.put,List.setIfInBounds_toArray,List.set_cons_zero,List.set_cons_succ]
  refine wpAnyH_take (i:=10) (oi:={ dst:=some 19,op:=Go.Op.pick (Go.Operand.tmp 15) (Go.Operand.const (Go.Value.bool true)) (Go.Operand.tmp 18),type:=4,pos:="simplify.go:28",after:=#[{ on:=6,ground:=Go.Ground.data },{ on:=9,ground:=Go.Ground.data }],guard:=none }) (v:=?_) rfl (by kernel_rfl) (by kernel_rfl) (by kernel_rfl) (fun _ _ _ h=>h) (Or.inl ⟨by rfl,?_⟩) hHeld ?_
  rotate_left 1
  · intro W hSw;skip;go_simp;try with_reducible rfl
  try simp only [Act.put,List.setIfInBounds_toArray,List.set_cons_zero,List.set_cons_succ]
  refine wpAnyH_take (i:=11) (oi:={ dst:=some 20,op:=Go.Op.move (Go.Operand.tmp 19),type:=4,pos:="simplify.go:28",after:=#[{ on:=10,ground:=Go.Ground.data },{ on:=8,ground:=Go.Ground.chain }],guard:=none }) (v:=?_) rfl (by kernel_rfl) (by kernel_rfl) (by kernel_rfl) (fun _ _ _ h=>h) (Or.inl ⟨by rfl,?_⟩) hHeld ?_
  rotate_left 1
  · intro W hSw;skip;go_simp;try with_reducible rfl
  try simp only [Act.put,List.setIfInBounds_toArray,List.set_cons_zero,List.set_cons_succ]
  refine wpAnyH_take (i:=12) (oi:={ dst:=some 21,op:=Go.Op.load 26 (Go.Operand.tmp 3),type:=26,pos:="simplify.go:28",after:=#[{ on:=11,ground:=Go.Ground.guard }],guard:=some (11,false) }) (v:=?_) rfl (by kernel_rfl) (by kernel_rfl) (by kernel_rfl) (fun _ _ _ h=>h) (Or.inl ⟨by rfl,?_⟩) hHeld ?_
  rotate_left 1
  · intro W hSw;obtain ⟨r1,r2,-⟩:=hbx.out W hSw;obtain ⟨a0,a1,a2,a3,a4,a5,a6,a7,a8,a9,a10⟩:=op_cells r1;obtain ⟨b0,b1,b2,b3,b4,b5,b6,b7,b8,b9,b10⟩:=op_cells r2;go_simp;try with_reducible rfl
  try simp only [Act.put,List.setIfInBounds_toArray,List.set_cons_zero,List.set_cons_succ]
  refine wpAnyH_ready (rs:=[13]) (by kernel_rfl) (by simp) ?_
  refine AllReadyH.cons (o:={ dst:=some 22,op:=Go.Op.call { callee:=Go.Callee.value (Go.Operand.func 89),args:=#[Go.Operand.tmp 21],argTypes:=#[26] },type:=4,pos:="simplify.go:28",after:=#[{ on:=12,ground:=Go.Ground.data },{ on:=11,ground:=Go.Ground.chain },{ on:=11,ground:=Go.Ground.guard }],guard:=some (11,false) }) rfl (fun K hK=>?_) AllReadyH.nil
  go_simp
  refine (hcb.out _ hHeld).mono ?_
  rintro e w7 ⟨rfl,hbn⟩
  have F3:=Lib.hid (show Below W3.heap.size W3 w7 from hHeld.trans (hbn.mono hHeld.size))
  clear hbn
  go_simp
  refine hK.out _ _ ?_ (fun hNew=>?_)
  · exact F3.out
  clear hK K hHeld
  have hHeld:=hNew
  clear hNew
  try simp only [Act.put,List.setIfInBounds_toArray,List.set_cons_zero,List.set_cons_succ]
  refine wpAnyH_take (i:=14) (oi:={ dst:=some 23,op:=Go.Op.unOp Go.UnOp.not 4 (Go.Operand.tmp 22),type:=4,pos:="simplify.go:28",after:=#[{ on:=13,ground:=Go.Ground.data },{ on:=11,ground:=Go.Ground.guard }],guard:=some (11,false) }) (v:=?_) rfl (by kernel_rfl) (by kernel_rfl) (by kernel_rfl) (fun _ _ _ h=>h) (Or.inl ⟨by rfl,?_⟩) hHeld ?_
  rotate_left 1
  · intro W hSw;skip;go_simp;try with_reducible rfl
  try simp only [Act.put,List.setIfInBounds_toArray,List.set_cons_zero,List.set_cons_succ]
  refine wpAnyH_take (i:=15) (oi:={ dst:=some 24,op:=Go.Op.pick (Go.Operand.tmp 20) (Go.Operand.const (Go.Value.bool true)) (Go.Operand.tmp 23),type:=4,pos:="simplify.go:28",after:=#[{ on:=11,ground:=Go.Ground.data },{ on:=14,ground:=Go.Ground.data }],guard:=none }) (v:=?_) rfl (by kernel_rfl) (by kernel_rfl) (by kernel_rfl) (fun _ _ _ h=>h) (Or.inl ⟨by rfl,?_⟩) hHeld ?_
  rotate_left 1
  · intro W hSw;skip;go_simp;try with_reducible rfl
  try simp only [Act.put,List.setIfInBounds_toArray,List.set_cons_zero,List.set_cons_succ]
  refine wpAnyH_done (by kernel_rfl) ?_ _
  refine hK0 _ _ ?_
  clear hK0
  have BW:=Lib.hid hHeld
  clear hHeld
  obtain ⟨r1,r2,r3⟩:=hbx.out w7 BW.out
  unfold zero11 at r3
  have R3:=Lib.hid r3
  obtain ⟨a0,a1,a2,a3,a4,a5,a6,a7,a8,a9,a10⟩:=op_cells r1
  obtain ⟨b0,b1,b2,b3,b4,b5,b6,b7,b8,b9,b10⟩:=op_cells r2
  obtain ⟨q0,q1,q2,q3,q4,q5,q6,q7,q8,q9,q10,qf⟩:=eleven_cells r3
  have hl3:w.heap.size + 1 + 1 < w7.heap.size:=(Array.getElem?_eq_some_iff.1 r3).1
  clear r1 r2 r3
  go_wp2_with fail
  try simp only [Exit.jump]
  go_ret2
  refine ⟨z4'.out.trans (BW.out.mono z4'.out.size),?_⟩
  rw [show pairV a b = some [] by unfold pairV;rw [if_pos HN.out,if_pos H12.out]]
  rfl
set_option maxHeartbeats 8000000 in
theorem pair_55 (w:World) (a b:Ov) (sa sb:OS) (ha:OpIn w a sa) (hb:OpIn w b sb) (hma:Mild a) (hmb:Mild b) (hyes:countsB a = true∧countsB b = true∧subjV a = b.path) (h55:a.kind = 5∧b.kind = 5) :
    Calls Try.prog 45 #[.agg (opCells a sa),.agg (opCells b sb)] w (PairA w (pairV a b)):=by
  obtain ⟨z1,z2,z3,z4,z5⟩:=Top.three_new w (.cells (opCells a sa) 26) (.cells (opCells b sb) 26) (.cells zero11 26)
  obtain ⟨W3,hW3⟩:∃ W3,W3 = ((w.alloc (.cells (opCells a sa) 26)).alloc (.cells (opCells b sb) 26)).alloc (.cells zero11 26):=⟨_,rfl⟩
  rw [← hW3] at z1 z2 z3 z4 z5
  have z4':=Lib.hid z4
  have z5':=Lib.hid z5
  have hbx:=Lib.hid (fun (W:World) (hb:Below W3.heap.size W3 W)=>show W.heap[w.heap.size]? = some (.cells (opCells a sa) 26 (0,0))∧W.heap[w.heap.size + 1]? = some (.cells (opCells b sb) 26 (0,0))∧W.heap[w.heap.size + 1 + 1]? = some (.cells zero11 26 (0,0)) from ⟨(hb.block _ (by have:=z5'.out;omega)).trans z1,(hb.block _ (by have:=z5'.out;omega)).trans z2,(hb.block _ (by have:=z5'.out;omega)).trans z3⟩)
  have hOa:=Lib.hid (fun (W:World) (hb:Below W3.heap.size W3 W)=>ha.below (z4'.out.trans (hb.mono z4'.out.size)))
  have hOb:=Lib.hid (fun (W:World) (hc:Below W3.heap.size W3 W)=>hb.below (z4'.out.trans (hc.mono z4'.out.size)))
  have hsb:=Lib.hid (fun (W:World) (hb:Below W3.heap.size W3 W)=>subject_any W a sa (hOa.out W hb))
  have hca:=Lib.hid (fun (W:World) (hb:Below W3.heap.size W3 W)=>counts_any W a sa (hOa.out W hb) hma)
  have hcb:=Lib.hid (fun (W:World) (hb:Below W3.heap.size W3 W)=>counts_any W b sb (hOb.out W hb) hmb)
  have hfs:P4.eqV (subjV a) b.path = true:=decide_eq_true hyes.2.2
  have hfa:=hyes.1
  have hfb:=hyes.2.1
  rw [hfa] at hca
  rw [hfb] at hcb
  have HS:=Lib.hid hfs
  have HA:=Lib.hid hfa
  have HB:=Lib.hid hfb
  have hkA:=ha.kind
  have hkB:=hb.kind
  have HN:=Lib.hid hyes
  have hal:=ha.label
  have hbl:=hb.label
  have hav:=ha.key
  have hbv:=hb.key
  have hOb0:=Lib.hid hb
  have hOa0:=Lib.hid ha
  have hE12:∀ W:World,(binOp .eql 96 (.agg #[.int .u8 (a.kind:Int),.int .u8 (b.kind:Int)]) (.agg #[.int .u8 1,.int .u8 2])).run Try.prog W = .ok (.bool false) W:=fun W=>by
    have h5:=eq2 W a.kind b.kind 1 2 hkA hkB (by decide) (by decide)
    rw [decide_eq_false (by omega)] at h5
    exact h5
  have hE15:∀ W:World,(binOp .eql 96 (.agg #[.int .u8 (a.kind:Int),.int .u8 (b.kind:Int)]) (.agg #[.int .u8 1,.int .u8 5])).run Try.prog W = .ok (.bool false) W:=fun W=>by
    have h5:=eq2 W a.kind b.kind 1 5 hkA hkB (by decide) (by decide)
    rw [decide_eq_false (by omega)] at h5
    exact h5
  have hE55:∀ W:World,(binOp .eql 96 (.agg #[.int .u8 (a.kind:Int),.int .u8 (b.kind:Int)]) (.agg #[.int .u8 5,.int .u8 5])).run Try.prog W = .ok (.bool true) W:=fun W=>by
    have h5:=eq2 W a.kind b.kind 5 5 hkA hkB (by decide) (by decide)
    rw [decide_eq_true (by omega)] at h5
    exact h5
  have hE44:∀ W:World,(binOp .eql 96 (.agg #[.int .u8 (a.kind:Int),.int .u8 (b.kind:Int)]) (.agg #[.int .u8 4,.int .u8 4])).run Try.prog W = .ok (.bool false) W:=fun W=>by
    have h5:=eq2 W a.kind b.kind 4 4 hkA hkB (by decide) (by decide)
    rw [decide_eq_false (by omega)] at h5
    exact h5
  have hE66:∀ W:World,(binOp .eql 96 (.agg #[.int .u8 (a.kind:Int),.int .u8 (b.kind:Int)]) (.agg #[.int .u8 6,.int .u8 6])).run Try.prog W = .ok (.bool false) W:=fun W=>by
    have h5:=eq2 W a.kind b.kind 6 6 hkA hkB (by decide) (by decide)
    rw [decide_eq_false (by omega)] at h5
    exact h5
  have H55:=Lib.hid h55
  clear h55
  clear ha hb hfs hfa hfb
  unfold opCells at hsb hca hcb
  unfold opCells zero11 at hW3
  obtain ⟨a0,a1,a2,a3,a4,a5,a6,a7,a8,a9,a10⟩:=op_cells z1
  obtain ⟨b0,b1,b2,b3,b4,b5,b6,b7,b8,b9,b10⟩:=op_cells z2
  clear z1 z2 z3 z4 z5
  unfold opCells
  go_enter Try.func45,Try.ntmps45
  go_wp2_with fail
  refine Top.wp_scope_once 0 rfl ?_
  go_upto_region 2 with fail
  rw [← hW3]
  clear hW3 a0 a1 a2 a3 a4 a5 a6 a7 a8 a9 a10 b0 b1 b2 b3 b4 b5 b6 b7 b8 b9 b10
  rename_i K0 hK0
  refine wp_region_held_drew (S:=(fun W=>Below W3.heap.size W3 W)) (by kernel_rfl) ((Below.refl W3.heap.size W3).drew) (fun hHeld=>?_)
  refine wpAnyH_take (i:=0) (oi:={ dst:=some 9,op:=Go.Op.load 26 (Go.Operand.tmp 2),type:=26,pos:="simplify.go:28",after:=#[],guard:=none }) (v:=?_) rfl (by kernel_rfl) (by kernel_rfl) (by kernel_rfl) (fun _ _ _ h=>h) (Or.inl ⟨by rfl,?_⟩) hHeld ?_
  rotate_left 1
  · intro W hSw;obtain ⟨r1,r2,-⟩:=hbx.out W hSw;obtain ⟨a0,a1,a2,a3,a4,a5,a6,a7,a8,a9,a10⟩:=op_cells r1;obtain ⟨b0,b1,b2,b3,b4,b5,b6,b7,b8,b9,b10⟩:=op_cells r2;go_simp;try with_reducible rfl
  try simp only [Act.put,List.setIfInBounds_toArray,List.set_cons_zero,List.set_cons_succ]
  refine wpAnyH_take (i:=2) (oi:={ dst:=some 11,op:=Go.Op.fieldAddr 26 (Go.Operand.tmp 3) 1,type:=0,pos:="simplify.go:28",after:=#[],guard:=none }) (v:=?_) rfl (by kernel_rfl) (by kernel_rfl) (by kernel_rfl) (fun _ _ _ h=>h) (Or.inl ⟨by rfl,?_⟩) hHeld ?_
  rotate_left 1
  · intro W hSw;obtain ⟨r1,r2,-⟩:=hbx.out W hSw;obtain ⟨a0,a1,a2,a3,a4,a5,a6,a7,a8,a9,a10⟩:=op_cells r1;obtain ⟨b0,b1,b2,b3,b4,b5,b6,b7,b8,b9,b10⟩:=op_cells r2;go_simp;try with_reducible rfl
  try simp only [Act.put,List.setIfInBounds_toArray,List.set_cons_zero,List.set_cons_succ]
  refine wpAnyH_take (i:=3) (oi:={ dst:=some 12,op:=Go.Op.load 22 (Go.Operand.tmp 11),type:=22,pos:="simplify.go:28",after:=#[{ on:=2,ground:=Go.Ground.data }],guard:=none }) (v:=?_) rfl (by kernel_rfl) (by kernel_rfl) (by kernel_rfl) (fun _ _ _ h=>h) (Or.inl ⟨by rfl,?_⟩) hHeld ?_
  rotate_left 1
  · intro W hSw;obtain ⟨r1,r2,-⟩:=hbx.out W hSw;obtain ⟨a0,a1,a2,a3,a4,a5,a6,a7,a8,a9,a10⟩:=op_cells r1;obtain ⟨b0,b1,b2,b3,b4,b5,b6,b7,b8,b9,b10⟩:=op_cells r2;go_simp;try with_reducible rfl
  try simp only [Act.put,List.setIfInBounds_toArray,List.set_cons_zero,List.set_cons_succ]
  refine wpAnyH_ready (rs:=[1]) (by kernel_rfl) (by simp) ?_
  refine AllReadyH.cons (o:={ dst:=some 10,op:=Go.Op.call { callee:=Go.Callee.value (Go.Operand.func 88),args:=#[Go.Operand.tmp 9],argTypes:=#[26] },type:=22,pos:="simplify.go:28",after:=#[{ on:=0,ground:=Go.Ground.data }],guard:=none }) rfl (fun K hK=>?_) AllReadyH.nil
  go_simp
  refine (hsb.out _ hHeld).mono ?_
  rintro e w4 ⟨A4,n4,c4,rfl,hi4,hm4,hbn⟩
  have F1:=Lib.hid (show Below W3.heap.size W3 w4 from hHeld.trans (hbn.mono hHeld.size))
  have I4:=Lib.hid hi4
  clear hbn hi4
  go_simp
  refine hK.out _ _ ?_ (fun hNew=>?_)
  · exact F1.out
  clear hK K hHeld
  have hHeld:=hNew
  clear hNew
  try simp only [Act.put,List.setIfInBounds_toArray,List.set_cons_zero,List.set_cons_succ]
  refine wpAnyH_ready (rs:=[4]) (by kernel_rfl) (by simp) ?_
  refine AllReadyH.cons (o:={ dst:=some 13,op:=Go.Op.call { callee:=Go.Callee.value (Go.Operand.func 75),args:=#[Go.Operand.tmp 10,Go.Operand.tmp 12],argTypes:=#[22,22] },type:=4,pos:="simplify.go:28",after:=#[{ on:=1,ground:=Go.Ground.data },{ on:=3,ground:=Go.Ground.data },{ on:=1,ground:=Go.Ground.chain }],guard:=none }) rfl (fun K hK=>?_) AllReadyH.nil
  go_simp
  refine (P4.same_any _ A4 sb.pA n4 c4 sb.pn sb.pc (subjV a) b.path (its4 I4.out) (its4 (hOb.out _ hHeld).path) hm4).mono ?_
  rw [HS.out]
  rintro e w5 ⟨rfl,k5,rfl⟩
  go_simp
  refine hK.out _ _ ?_ (fun hNew=>?_)
  · exact draws hHeld _
  clear hK K hHeld
  have hHeld:=hNew
  clear hNew
  try simp only [Act.put,List.setIfInBounds_toArray,List.set_cons_zero,List.set_cons_succ]
  refine wpAnyH_take (i:=5) (oi:={ dst:=some 14,op:=Go.Op.unOp Go.UnOp.not 4 (Go.Operand.tmp 13),type:=4,pos:="simplify.go:28",after:=#[{ on:=4,ground:=Go.Ground.data }],guard:=none }) (v:=?_) rfl (by kernel_rfl) (by kernel_rfl) (by kernel_rfl) (fun _ _ _ h=>h) (Or.inl ⟨by rfl,?_⟩) hHeld ?_
  rotate_left 1
  · intro W hSw;skip;go_simp;try with_reducible rfl
  try simp only [Act.put,List.setIfInBounds_toArray,List.set_cons_zero,List.set_cons_succ]
  refine wpAnyH_take (i:=6) (oi:={ dst:=some 15,op:=Go.Op.move (Go.Operand.tmp 14),type:=4,pos:="simplify.go:28",after:=#[{ on:=5,ground:=Go.Ground.data },{ on:=4,ground:=Go.Ground.chain }],guard:=none }) (v:=?_) rfl (by kernel_rfl) (by kernel_rfl) (by kernel_rfl) (fun _ _ _ h=>h) (Or.inl ⟨by rfl,?_⟩) hHeld ?_
  rotate_left 1
  · intro W hSw;skip;go_simp;try with_reducible rfl
  try simp only [Act.put,List.setIfInBounds_toArray,List.set_cons_zero,List.set_cons_succ]
  refine wpAnyH_take (i:=7) (oi:={ dst:=some 16,op:=Go.Op.load 26 (Go.Operand.tmp 2),type:=26,pos:="simplify.go:28",after:=#[{ on:=6,ground:=Go.Ground.guard }],guard:=some (6,false) }) (v:=?_) rfl (by kernel_rfl) (by kernel_rfl) (by kernel_rfl) (fun _ _ _ h=>h) (Or.inl ⟨by rfl,?_⟩) hHeld ?_
  rotate_left 1
  · intro W hSw;obtain ⟨r1,r2,-⟩:=hbx.out W hSw;obtain ⟨a0,a1,a2,a3,a4,a5,a6,a7,a8,a9,a10⟩:=op_cells r1;obtain ⟨b0,b1,b2,b3,b4,b5,b6,b7,b8,b9,b10⟩:=op_cells r2;go_simp;try with_reducible rfl
  try simp only [Act.put,List.setIfInBounds_toArray,List.set_cons_zero,List.set_cons_succ]
  refine wpAnyH_ready (rs:=[8]) (by kernel_rfl) (by simp) ?_
  refine AllReadyH.cons (o:={ dst:=some 17,op:=Go.Op.call { callee:=Go.Callee.value (Go.Operand.func 89),args:=#[Go.Operand.tmp 16],argTypes:=#[26] },type:=4,pos:="simplify.go:28",after:=#[{ on:=7,ground:=Go.Ground.data },{ on:=6,ground:=Go.Ground.chain },{ on:=6,ground:=Go.Ground.guard }],guard:=some (6,false) }) rfl (fun K hK=>?_) AllReadyH.nil
  go_simp
  refine (hca.out _ hHeld).mono ?_
  rintro e w6 ⟨rfl,hbn⟩
  have F2:=Lib.hid (show Below W3.heap.size W3 w6 from hHeld.trans (hbn.mono hHeld.size))
  clear hbn
  go_simp
  refine hK.out _ _ ?_ (fun hNew=>?_)
  · exact F2.out
  clear hK K hHeld
  have hHeld:=hNew
  clear hNew
  try simp only [Act.put,List.setIfInBounds_toArray,List.set_cons_zero,List.set_cons_succ]
  refine wpAnyH_take (i:=9) (oi:={ dst:=some 18,op:=Go.Op.unOp Go.UnOp.not 4 (Go.Operand.tmp 17),type:=4,pos:="simplify.go:28",after:=#[{ on:=8,ground:=Go.Ground.data },{ on:=6,ground:=Go.Ground.guard }],guard:=some (6,false) }) (v:=?_) rfl (by kernel_rfl) (by kernel_rfl) (by kernel_rfl) (fun _ _ _ h=>h) (Or.inl ⟨by rfl,?_⟩) hHeld ?_
  rotate_left 1
  · intro W hSw;skip;go_simp;try with_reducible rfl
  try simp only [Act.put,List.setIfInBounds_toArray,List.set_cons_zero,List.set_cons_succ]
  refine wpAnyH_take (i:=10) (oi:={ dst:=some 19,op:=Go.Op.pick (Go.Operand.tmp 15) (Go.Operand.const (Go.Value.bool true)) (Go.Operand.tmp 18),type:=4,pos:="simplify.go:28",after:=#[{ on:=6,ground:=Go.Ground.data },{ on:=9,ground:=Go.Ground.data }],guard:=none }) (v:=?_) rfl (by kernel_rfl) (by kernel_rfl) (by kernel_rfl) (fun _ _ _ h=>h) (Or.inl ⟨by rfl,?_⟩) hHeld ?_
  rotate_left 1
  · intro W hSw;skip;go_simp;try with_reducible rfl
  try simp only [Act.put,List.setIfInBounds_toArray,List.set_cons_zero,List.set_cons_succ]
  refine wpAnyH_take (i:=11) (oi:={ dst:=some 20,op:=Go.Op.move (Go.Operand.tmp 19),type:=4,pos:="simplify.go:28",after:=#[{ on:=10,ground:=Go.Ground.data },{ on:=8,ground:=Go.Ground.chain }],guard:=none }) (v:=?_) rfl (by kernel_rfl) (by kernel_rfl) (by kernel_rfl) (fun _ _ _ h=>h) (Or.inl ⟨by rfl,?_⟩) hHeld ?_
  rotate_left 1
  · intro W hSw;skip;go_simp;try with_reducible rfl
  try simp only [Act.put,List.setIfInBounds_toArray,List.set_cons_zero,List.set_cons_succ]
  refine wpAnyH_take (i:=12) (oi:={ dst:=some 21,op:=Go.Op.load 26 (Go.Operand.tmp 3),type:=26,pos:="simplify.go:28",after:=#[{ on:=11,ground:=Go.Ground.guard }],guard:=some (11,false) }) (v:=?_) rfl (by kernel_rfl) (by kernel_rfl) (by kernel_rfl) (fun _ _ _ h=>h) (Or.inl ⟨by rfl,?_⟩) hHeld ?_
  rotate_left 1
  · intro W hSw;obtain ⟨r1,r2,-⟩:=hbx.out W hSw;obtain ⟨a0,a1,a2,a3,a4,a5,a6,a7,a8,a9,a10⟩:=op_cells r1;obtain ⟨b0,b1,b2,b3,b4,b5,b6,b7,b8,b9,b10⟩:=op_cells r2;go_simp;try with_reducible rfl
  try simp only [Act.put,List.setIfInBounds_toArray,List.set_cons_zero,List.set_cons_succ]
  refine wpAnyH_ready (rs:=[13]) (by kernel_rfl) (by simp) ?_
  refine AllReadyH.cons (o:={ dst:=some 22,op:=Go.Op.call { callee:=Go.Callee.value (Go.Operand.func 89),args:=#[Go.Operand.tmp 21],argTypes:=#[26] },type:=4,pos:="simplify.go:28",after:=#[{ on:=12,ground:=Go.Ground.data },{ on:=11,ground:=Go.Ground.chain },{ on:=11,ground:=Go.Ground.guard }],guard:=some (11,false) }) rfl (fun K hK=>?_) AllReadyH.nil
  go_simp
  refine (hcb.out _ hHeld).mono ?_
  rintro e w7 ⟨rfl,hbn⟩
  have F3:=Lib.hid (show Below W3.heap.size W3 w7 from hHeld.trans (hbn.mono hHeld.size))
  clear hbn
  go_simp
  refine hK.out _ _ ?_ (fun hNew=>?_)
  · exact F3.out
  clear hK K hHeld
  have hHeld:=hNew
  clear hNew
  try simp only [Act.put,List.setIfInBounds_toArray,List.set_cons_zero,List.set_cons_succ]
  refine wpAnyH_take (i:=14) (oi:={ dst:=some 23,op:=Go.Op.unOp Go.UnOp.not 4 (Go.Operand.tmp 22),type:=4,pos:="simplify.go:28",after:=#[{ on:=13,ground:=Go.Ground.data },{ on:=11,ground:=Go.Ground.guard }],guard:=some (11,false) }) (v:=?_) rfl (by kernel_rfl) (by kernel_rfl) (by kernel_rfl) (fun _ _ _ h=>h) (Or.inl ⟨by rfl,?_⟩) hHeld ?_
  rotate_left 1
  · intro W hSw;skip;go_simp;try with_reducible rfl
  try simp only [Act.put,List.setIfInBounds_toArray,List.set_cons_zero,List.set_cons_succ]
  refine wpAnyH_take (i:=15) (oi:={ dst:=some 24,op:=Go.Op.pick (Go.Operand.tmp 20) (Go.Operand.const (Go.Value.bool true)) (Go.Operand.tmp 23),type:=4,pos:="simplify.go:28",after:=#[{ on:=11,ground:=Go.Ground.data },{ on:=14,ground:=Go.Ground.data }],guard:=none }) (v:=?_) rfl (by kernel_rfl) (by kernel_rfl) (by kernel_rfl) (fun _ _ _ h=>h) (Or.inl ⟨by rfl,?_⟩) hHeld ?_
  rotate_left 1
  · intro W hSw;skip;go_simp;try with_reducible rfl
  try simp only [Act.put,List.setIfInBounds_toArray,List.set_cons_zero,List.set_cons_succ]
  refine wpAnyH_done (by kernel_rfl) ?_ _
  refine hK0 _ _ ?_
  clear hK0
  have BW:=Lib.hid hHeld
  clear hHeld
  obtain ⟨r1,r2,r3⟩:=hbx.out w7 BW.out
  unfold zero11 at r3
  have R3:=Lib.hid r3
  obtain ⟨a0,a1,a2,a3,a4,a5,a6,a7,a8,a9,a10⟩:=op_cells r1
  obtain ⟨b0,b1,b2,b3,b4,b5,b6,b7,b8,b9,b10⟩:=op_cells r2
  obtain ⟨q0,q1,q2,q3,q4,q5,q6,q7,q8,q9,q10,qf⟩:=eleven_cells r3
  have hl3:w.heap.size + 1 + 1 < w7.heap.size:=(Array.getElem?_eq_some_iff.1 r3).1
  clear r1 r2 r3
  go_upto_region 21 with fail
  have r3:=R3.out
  obtain ⟨X,hX,xr,hxw,hxz,hxk⟩:=end_op (o:=b) (s:=sb) (w:=w) (r:=w.heap.size + 1 + 1) (by omega) (z4'.out.trans (BW.out.mono z4'.out.size)) r3
  rw [← hX]
  clear hX r3 q0 q1 q2 q3 q4 q5 q6 q7 q8 q9 q10 qf a0 a1 a2 a3 a4 a5 a6 a7 a8 a9 a10 b0 b1 b2 b3 b4 b5 b6 b7 b8 b9 b10
  have xw:=Lib.hid hxw
  have hl9:w.heap.size + 1 + 1 < X.heap.size:=by rw [hxz];exact hl3
  have ob:=Lib.hid (show OpIn X b sb from hOb0.out.below hxw)
  clear hxw hxz hxk
  have xr':=Lib.hid xr
  have hbr:=Lib.hid (bare_any X (b) (sb) (ob.out))
  obtain ⟨y,hy⟩:∃ y,y = bareV (b):=⟨_,rfl⟩
  rw [← hy] at hbr
  have hy':=Lib.hid hy
  clear hy
  unfold BareA opCells at hbr
  unfold opCells at xr
  obtain ⟨q0,q1,q2,q3,q4,q5,q6,q7,q8,q9,q10,qf⟩:=eleven_cells xr
  clear xr
  try dsimp only at hbr
  try dsimp only at q0 q1 q2 q3 q4 q5 q6 q7 q8 q9 q10 qf
  go_wp2_with (go_at_call 28;go_loud (refine hbr.out.mono ?_;rintro e w8 ⟨⟨pA,pn,pc,tA,tn,tc,qA,qn,qc⟩,rfl,ho8,hb8⟩;dsimp only;have O8:=Lib.hid ho8;have B8:=Lib.hid (xw.out.trans (hb8.mono xw.out.size));have S8:=Lib.hid hb8.size;clear ho8 hb8 q0 q1 q2 q3 q4 q5 q6 q7 q8 q9 q10 qf))
  try simp only [Exit.jump]
  obtain ⟨W9,hW9⟩:∃ W9,W9 = w8.alloc (.cells (opCells y ⟨pA,pn,pc,tA,tn,tc,qA,qn,qc⟩) 26):=⟨_,rfl⟩
  have r9:=Lib.hid (show W9.heap[w8.heap.size]? = some (.cells (opCells y ⟨pA,pn,pc,tA,tn,tc,qA,qn,qc⟩) 26 (0,0)) by rw [hW9];exact heap_alloc_new w8 _)
  have b9:=Lib.hid (show Below w8.heap.size w8 W9 by rw [hW9];exact (Below.refl _ _).alloc (Nat.le_refl _) _)
  unfold opCells at hW9
  try dsimp only at hW9
  rw [← hW9]
  go_ret2
  refine ⟨B8.out.trans (b9.out.mono B8.out.size),?_⟩
  rw [show pairV a b = some [y] by rw [hy'.out];unfold pairV;rw [if_pos HN.out,if_neg (by have:=H55.out;omega),if_neg (by have:=H55.out;omega),if_pos H55.out]]
  exact ⟨w8.heap.size,_,rfl,B8.out.size,r9.out,(O8.out.kept fun k h1 h2=>b9.out.block k h2).mono xw.out.size⟩
set_option maxHeartbeats 8000000 in
theorem pair_44 (w:World) (a b:Ov) (sa sb:OS) (ha:OpIn w a sa) (hb:OpIn w b sb) (hma:Mild a) (hmb:Mild b) (hyes:countsB a = true∧countsB b = true∧subjV a = b.path) (h44:a.kind = 4∧b.kind = 4) (hkey:a.key = b.key) :
    Calls Try.prog 45 #[.agg (opCells a sa),.agg (opCells b sb)] w (PairA w (pairV a b)):=by
  obtain ⟨z1,z2,z3,z4,z5⟩:=Top.three_new w (.cells (opCells a sa) 26) (.cells (opCells b sb) 26) (.cells zero11 26)
  obtain ⟨W3,hW3⟩:∃ W3,W3 = ((w.alloc (.cells (opCells a sa) 26)).alloc (.cells (opCells b sb) 26)).alloc (.cells zero11 26):=⟨_,rfl⟩
  rw [← hW3] at z1 z2 z3 z4 z5
  have z4':=Lib.hid z4
  have z5':=Lib.hid z5
  have hbx:=Lib.hid (fun (W:World) (hb:Below W3.heap.size W3 W)=>show W.heap[w.heap.size]? = some (.cells (opCells a sa) 26 (0,0))∧W.heap[w.heap.size + 1]? = some (.cells (opCells b sb) 26 (0,0))∧W.heap[w.heap.size + 1 + 1]? = some (.cells zero11 26 (0,0)) from ⟨(hb.block _ (by have:=z5'.out;omega)).trans z1,(hb.block _ (by have:=z5'.out;omega)).trans z2,(hb.block _ (by have:=z5'.out;omega)).trans z3⟩)
  have hOa:=Lib.hid (fun (W:World) (hb:Below W3.heap.size W3 W)=>ha.below (z4'.out.trans (hb.mono z4'.out.size)))
  have hOb:=Lib.hid (fun (W:World) (hc:Below W3.heap.size W3 W)=>hb.below (z4'.out.trans (hc.mono z4'.out.size)))
  have hsb:=Lib.hid (fun (W:World) (hb:Below W3.heap.size W3 W)=>subject_any W a sa (hOa.out W hb))
  have hca:=Lib.hid (fun (W:World) (hb:Below W3.heap.size W3 W)=>counts_any W a sa (hOa.out W hb) hma)
  have hcb:=Lib.hid (fun (W:World) (hb:Below W3.heap.size W3 W)=>counts_any W b sb (hOb.out W hb) hmb)
  have hfs:P4.eqV (subjV a) b.path = true:=decide_eq_true hyes.2.2
  have hfa:=hyes.1
  have hfb:=hyes.2.1
  rw [hfa] at hca
  rw [hfb] at hcb
  have HS:=Lib.hid hfs
  have HA:=Lib.hid hfa
  have HB:=Lib.hid hfb
  have hkA:=ha.kind
  have hkB:=hb.kind
  have HN:=Lib.hid hyes
  have hal:=ha.label
  have hbl:=hb.label
  have hav:=ha.key
  have hbv:=hb.key
  have hOb0:=Lib.hid hb
  have hOa0:=Lib.hid ha
  have hE12:∀ W:World,(binOp .eql 96 (.agg #[.int .u8 (a.kind:Int),.int .u8 (b.kind:Int)]) (.agg #[.int .u8 1,.int .u8 2])).run Try.prog W = .ok (.bool false) W:=fun W=>by
    have h5:=eq2 W a.kind b.kind 1 2 hkA hkB (by decide) (by decide)
    rw [decide_eq_false (by omega)] at h5
    exact h5
  have hE15:∀ W:World,(binOp .eql 96 (.agg #[.int .u8 (a.kind:Int),.int .u8 (b.kind:Int)]) (.agg #[.int .u8 1,.int .u8 5])).run Try.prog W = .ok (.bool false) W:=fun W=>by
    have h5:=eq2 W a.kind b.kind 1 5 hkA hkB (by decide) (by decide)
    rw [decide_eq_false (by omega)] at h5
    exact h5
  have hE55:∀ W:World,(binOp .eql 96 (.agg #[.int .u8 (a.kind:Int),.int .u8 (b.kind:Int)]) (.agg #[.int .u8 5,.int .u8 5])).run Try.prog W = .ok (.bool false) W:=fun W=>by
    have h5:=eq2 W a.kind b.kind 5 5 hkA hkB (by decide) (by decide)
    rw [decide_eq_false (by omega)] at h5
    exact h5
  have hE44:∀ W:World,(binOp .eql 96 (.agg #[.int .u8 (a.kind:Int),.int .u8 (b.kind:Int)]) (.agg #[.int .u8 4,.int .u8 4])).run Try.prog W = .ok (.bool true) W:=fun W=>by
    have h5:=eq2 W a.kind b.kind 4 4 hkA hkB (by decide) (by decide)
    rw [decide_eq_true (by omega)] at h5
    exact h5
  have hE66:∀ W:World,(binOp .eql 96 (.agg #[.int .u8 (a.kind:Int),.int .u8 (b.kind:Int)]) (.agg #[.int .u8 6,.int .u8 6])).run Try.prog W = .ok (.bool false) W:=fun W=>by
    have h5:=eq2 W a.kind b.kind 6 6 hkA hkB (by decide) (by decide)
    rw [decide_eq_false (by omega)] at h5
    exact h5
  have H44:=Lib.hid h44
  have HKEY:=Lib.hid hkey
  clear h44 hkey
  clear ha hb hfs hfa hfb
  unfold opCells at hsb hca hcb
  unfold opCells zero11 at hW3
  obtain ⟨a0,a1,a2,a3,a4,a5,a6,a7,a8,a9,a10⟩:=op_cells z1
  obtain ⟨b0,b1,b2,b3,b4,b5,b6,b7,b8,b9,b10⟩:=op_cells z2
  clear z1 z2 z3 z4 z5
  unfold opCells
  have hke:(a.key != b.key) = false:=by rw [HKEY.out];simp
  have hkf:(a.key == b.key) = true:=by rw [HKEY.out];simp
  go_enter Try.func45,Try.ntmps45
  go_wp2_with fail
  refine Top.wp_scope_once 0 rfl ?_
  go_upto_region 2 with fail
  rw [← hW3]
  clear hW3 a0 a1 a2 a3 a4 a5 a6 a7 a8 a9 a10 b0 b1 b2 b3 b4 b5 b6 b7 b8 b9 b10
  rename_i K0 hK0
  refine wp_region_held_drew (S:=(fun W=>Below W3.heap.size W3 W)) (by kernel_rfl) ((Below.refl W3.heap.size W3).drew) (fun hHeld=>?_)
  refine wpAnyH_take (i:=0) (oi:={ dst:=some 9,op:=Go.Op.load 26 (Go.Operand.tmp 2),type:=26,pos:="simplify.go:28",after:=#[],guard:=none }) (v:=?_) rfl (by kernel_rfl) (by kernel_rfl) (by kernel_rfl) (fun _ _ _ h=>h) (Or.inl ⟨by rfl,?_⟩) hHeld ?_
  rotate_left 1
  · intro W hSw;obtain ⟨r1,r2,-⟩:=hbx.out W hSw;obtain ⟨a0,a1,a2,a3,a4,a5,a6,a7,a8,a9,a10⟩:=op_cells r1;obtain ⟨b0,b1,b2,b3,b4,b5,b6,b7,b8,b9,b10⟩:=op_cells r2;go_simp;try with_reducible rfl
  try simp only [Act.put,List.setIfInBounds_toArray,List.set_cons_zero,List.set_cons_succ]
  refine wpAnyH_take (i:=2) (oi:={ dst:=some 11,op:=Go.Op.fieldAddr 26 (Go.Operand.tmp 3) 1,type:=0,pos:="simplify.go:28",after:=#[],guard:=none }) (v:=?_) rfl (by kernel_rfl) (by kernel_rfl) (by kernel_rfl) (fun _ _ _ h=>h) (Or.inl ⟨by rfl,?_⟩) hHeld ?_
  rotate_left 1
  · intro W hSw;obtain ⟨r1,r2,-⟩:=hbx.out W hSw;obtain ⟨a0,a1,a2,a3,a4,a5,a6,a7,a8,a9,a10⟩:=op_cells r1;obtain ⟨b0,b1,b2,b3,b4,b5,b6,b7,b8,b9,b10⟩:=op_cells r2;go_simp;try with_reducible rfl
  try simp only [Act.put,List.setIfInBounds_toArray,List.set_cons_zero,List.set_cons_succ]
  refine wpAnyH_take (i:=3) (oi:={ dst:=some 12,op:=Go.Op.load 22 (Go.Operand.tmp 11),type:=22,pos:="simplify.go:28",after:=#[{ on:=2,ground:=Go.Ground.data }],guard:=none }) (v:=?_) rfl (by kernel_rfl) (by kernel_rfl) (by kernel_rfl) (fun _ _ _ h=>h) (Or.inl ⟨by rfl,?_⟩) hHeld ?_
  rotate_left 1
  · intro W hSw;obtain ⟨r1,r2,-⟩:=hbx.out W hSw;obtain ⟨a0,a1,a2,a3,a4,a5,a6,a7,a8,a9,a10⟩:=op_cells r1;obtain ⟨b0,b1,b2,b3,b4,b5,b6,b7,b8,b9,b10⟩:=op_cells r2;go_simp;try with_reducible rfl
  try simp only [Act.put,List.setIfInBounds_toArray,List.set_cons_zero,List.set_cons_succ]
  refine wpAnyH_ready (rs:=[1]) (by kernel_rfl) (by simp) ?_
  refine AllReadyH.cons (o:={ dst:=some 10,op:=Go.Op.call { callee:=Go.Callee.value (Go.Operand.func 88),args:=#[Go.Operand.tmp 9],argTypes:=#[26] },type:=22,pos:="simplify.go:28",after:=#[{ on:=0,ground:=Go.Ground.data }],guard:=none }) rfl (fun K hK=>?_) AllReadyH.nil
  go_simp
  refine (hsb.out _ hHeld).mono ?_
  rintro e w4 ⟨A4,n4,c4,rfl,hi4,hm4,hbn⟩
  have F1:=Lib.hid (show Below W3.heap.size W3 w4 from hHeld.trans (hbn.mono hHeld.size))
  have I4:=Lib.hid hi4
  clear hbn hi4
  go_simp
  refine hK.out _ _ ?_ (fun hNew=>?_)
  · exact F1.out
  clear hK K hHeld
  have hHeld:=hNew
  clear hNew
  try simp only [Act.put,List.setIfInBounds_toArray,List.set_cons_zero,List.set_cons_succ]
  refine wpAnyH_ready (rs:=[4]) (by kernel_rfl) (by simp) ?_
  refine AllReadyH.cons (o:={ dst:=some 13,op:=Go.Op.call { callee:=Go.Callee.value (Go.Operand.func 75),args:=#[Go.Operand.tmp 10,Go.Operand.tmp 12],argTypes:=#[22,22] },type:=4,pos:="simplify.go:28",after:=#[{ on:=1,ground:=Go.Ground.data },{ on:=3,ground:=Go.Ground.data },{ on:=1,ground:=Go.Ground.chain }],guard:=none }) rfl (fun K hK=>?_) AllReadyH.nil
  go_simp
  refine (P4.same_any _ A4 sb.pA n4 c4 sb.pn sb.pc (subjV a) b.path (its4 I4.out) (its4 (hOb.out _ hHeld).path) hm4).mono ?_
  rw [HS.out]
  rintro e w5 ⟨rfl,k5,rfl⟩
  go_simp
  refine hK.out _ _ ?_ (fun hNew=>?_)
  · exact draws hHeld _
  clear hK K hHeld
  have hHeld:=hNew
  clear hNew
  try simp only [Act.put,List.setIfInBounds_toArray,List.set_cons_zero,List.set_cons_succ]
  refine wpAnyH_take (i:=5) (oi:={ dst:=some 14,op:=Go.Op.unOp Go.UnOp.not 4 (Go.Operand.tmp 13),type:=4,pos:="simplify.go:28",after:=#[{ on:=4,ground:=Go.Ground.data }],guard:=none }) (v:=?_) rfl (by kernel_rfl) (by kernel_rfl) (by kernel_rfl) (fun _ _ _ h=>h) (Or.inl ⟨by rfl,?_⟩) hHeld ?_
  rotate_left 1
  · intro W hSw;skip;go_simp;try with_reducible rfl
  try simp only [Act.put,List.setIfInBounds_toArray,List.set_cons_zero,List.set_cons_succ]
  refine wpAnyH_take (i:=6) (oi:={ dst:=some 15,op:=Go.Op.move (Go.Operand.tmp 14),type:=4,pos:="simplify.go:28",after:=#[{ on:=5,ground:=Go.Ground.data },{ on:=4,ground:=Go.Ground.chain }],guard:=none }) (v:=?_) rfl (by kernel_rfl) (by kernel_rfl) (by kernel_rfl) (fun _ _ _ h=>h) (Or.inl ⟨by rfl,?_⟩) hHeld ?_
  rotate_left 1
  · intro W hSw;skip;go_simp;try with_reducible rfl
  try simp only [Act.put,List.setIfInBounds_toArray,List.set_cons_zero,List.set_cons_succ]
  refine wpAnyH_take (i:=7) (oi:={ dst:=some 16,op:=Go.Op.load 26 (Go.Operand.tmp 2),type:=26,pos:="simplify.go:28",after:=#[{ on:=6,ground:=Go.Ground.guard }],guard:=some (6,false) }) (v:=?_) rfl (by kernel_rfl) (by kernel_rfl) (by kernel_rfl) (fun _ _ _ h=>h) (Or.inl ⟨by rfl,?_⟩) hHeld ?_
  rotate_left 1
  · intro W hSw;obtain ⟨r1,r2,-⟩:=hbx.out W hSw;obtain ⟨a0,a1,a2,a3,a4,a5,a6,a7,a8,a9,a10⟩:=op_cells r1;obtain ⟨b0,b1,b2,b3,b4,b5,b6,b7,b8,b9,b10⟩:=op_cells r2;go_simp;try with_reducible rfl
  try simp only [Act.put,List.setIfInBounds_toArray,List.set_cons_zero,List.set_cons_succ]
  refine wpAnyH_ready (rs:=[8]) (by kernel_rfl) (by simp) ?_
  refine AllReadyH.cons (o:={ dst:=some 17,op:=Go.Op.call { callee:=Go.Callee.value (Go.Operand.func 89),args:=#[Go.Operand.tmp 16],argTypes:=#[26] },type:=4,pos:="simplify.go:28",after:=#[{ on:=7,ground:=Go.Ground.data },{ on:=6,ground:=Go.Ground.chain },{ on:=6,ground:=Go.Ground.guard }],guard:=some (6,false) }) rfl (fun K hK=>?_) AllReadyH.nil
  go_simp
  refine (hca.out _ hHeld).mono ?_
  rintro e w6 ⟨rfl,hbn⟩
  have F2:=Lib.hid (show Below W3.heap.size W3 w6 from hHeld.trans (hbn.mono hHeld.size))
  clear hbn
  go_simp
  refine hK.out _ _ ?_ (fun hNew=>?_)
  · exact F2.out
  clear hK K hHeld
  have hHeld:=hNew
  clear hNew
  try simp only [Act.put,List.setIfInBounds_toArray,List.set_cons_zero,List.set_cons_succ]
  refine wpAnyH_take (i:=9) (oi:={ dst:=some 18,op:=Go.Op.unOp Go.UnOp.not 4 (Go.Operand.tmp 17),type:=4,pos:="simplify.go:28",after:=#[{ on:=8,ground:=Go.Ground.data },{ on:=6,ground:=Go.Ground.guard }],guard:=some (6,false) }) (v:=?_) rfl (by kernel_rfl) (by kernel_rfl) (by kernel_rfl) (fun _ _ _ h=>h) (Or.inl ⟨by rfl,?_⟩) hHeld ?_
  rotate_left 1
  · intro W hSw;skip;go_simp;try with_reducible rfl
  try simp only [Act.put,List.setIfInBounds_toArray,List.set_cons_zero,List.set_cons_succ]
  refine wpAnyH_take (i:=10) (oi:={ dst:=some 19,op:=Go.Op.pick (Go.Operand.tmp 15) (Go.Operand.const (Go.Value.bool true)) (Go.Operand.tmp 18),type:=4,pos:="simplify.go:28",after:=#[{ on:=6,ground:=Go.Ground.data },{ on:=9,ground:=Go.Ground.data }],guard:=none }) (v:=?_) rfl (by kernel_rfl) (by kernel_rfl) (by kernel_rfl) (fun _ _ _ h=>h) (Or.inl ⟨by rfl,?_⟩) hHeld ?_
  rotate_left 1
  · intro W hSw;skip;go_simp;try with_reducible rfl
  try simp only [Act.put,List.setIfInBounds_toArray,List.set_cons_zero,List.set_cons_succ]
  refine wpAnyH_take (i:=11) (oi:={ dst:=some 20,op:=Go.Op.move (Go.Operand.tmp 19),type:=4,pos:="simplify.go:28",after:=#[{ on:=10,ground:=Go.Ground.data },{ on:=8,ground:=Go.Ground.chain }],guard:=none }) (v:=?_) rfl (by kernel_rfl) (by kernel_rfl) (by kernel_rfl) (fun _ _ _ h=>h) (Or.inl ⟨by rfl,?_⟩) hHeld ?_
  rotate_left 1
  · intro W hSw;skip;go_simp;try with_reducible rfl
  try simp only [Act.put,List.setIfInBounds_toArray,List.set_cons_zero,List.set_cons_succ]
  refine wpAnyH_take (i:=12) (oi:={ dst:=some 21,op:=Go.Op.load 26 (Go.Operand.tmp 3),type:=26,pos:="simplify.go:28",after:=#[{ on:=11,ground:=Go.Ground.guard }],guard:=some (11,false) }) (v:=?_) rfl (by kernel_rfl) (by kernel_rfl) (by kernel_rfl) (fun _ _ _ h=>h) (Or.inl ⟨by rfl,?_⟩) hHeld ?_
  rotate_left 1
  · intro W hSw;obtain ⟨r1,r2,-⟩:=hbx.out W hSw;obtain ⟨a0,a1,a2,a3,a4,a5,a6,a7,a8,a9,a10⟩:=op_cells r1;obtain ⟨b0,b1,b2,b3,b4,b5,b6,b7,b8,b9,b10⟩:=op_cells r2;go_simp;try with_reducible rfl
  try simp only [Act.put,List.setIfInBounds_toArray,List.set_cons_zero,List.set_cons_succ]
  refine wpAnyH_ready (rs:=[13]) (by kernel_rfl) (by simp) ?_
  refine AllReadyH.cons (o:={ dst:=some 22,op:=Go.Op.call { callee:=Go.Callee.value (Go.Operand.func 89),args:=#[Go.Operand.tmp 21],argTypes:=#[26] },type:=4,pos:="simplify.go:28",after:=#[{ on:=12,ground:=Go.Ground.data },{ on:=11,ground:=Go.Ground.chain },{ on:=11,ground:=Go.Ground.guard }],guard:=some (11,false) }) rfl (fun K hK=>?_) AllReadyH.nil
  go_simp
  refine (hcb.out _ hHeld).mono ?_
  rintro e w7 ⟨rfl,hbn⟩
  have F3:=Lib.hid (show Below W3.heap.size W3 w7 from hHeld.trans (hbn.mono hHeld.size))
  clear hbn
  go_simp
  refine hK.out _ _ ?_ (fun hNew=>?_)
  · exact F3.out
  clear hK K hHeld
  have hHeld:=hNew
  clear hNew
  try simp only [Act.put,List.setIfInBounds_toArray,List.set_cons_zero,List.set_cons_succ]
  refine wpAnyH_take (i:=14) (oi:={ dst:=some 23,op:=Go.Op.unOp Go.UnOp.not 4 (Go.Operand.tmp 22),type:=4,pos:="simplify.go:28",after:=#[{ on:=13,ground:=Go.Ground.data },{ on:=11,ground:=Go.Ground.guard }],guard:=some (11,false) }) (v:=?_) rfl (by kernel_rfl) (by kernel_rfl) (by kernel_rfl) (fun _ _ _ h=>h) (Or.inl ⟨by rfl,?_⟩) hHeld ?_
  rotate_left 1
  · intro W hSw;skip;go_simp;try with_reducible rfl
  try simp only [Act.put,List.setIfInBounds_toArray,List.set_cons_zero,List.set_cons_succ]
  refine wpAnyH_take (i:=15) (oi:={ dst:=some 24,op:=Go.Op.pick (Go.Operand.tmp 20) (Go.Operand.const (Go.Value.bool true)) (Go.Operand.tmp 23),type:=4,pos:="simplify.go:28",after:=#[{ on:=11,ground:=Go.Ground.data },{ on:=14,ground:=Go.Ground.data }],guard:=none }) (v:=?_) rfl (by kernel_rfl) (by kernel_rfl) (by kernel_rfl) (fun _ _ _ h=>h) (Or.inl ⟨by rfl,?_⟩) hHeld ?_
  rotate_left 1
  · intro W hSw;skip;go_simp;try with_reducible rfl
  try simp only [Act.put,List.setIfInBounds_toArray,List.set_cons_zero,List.set_cons_succ]
  refine wpAnyH_done (by kernel_rfl) ?_ _
  refine hK0 _ _ ?_
  clear hK0
  have BW:=Lib.hid hHeld
  clear hHeld
  obtain ⟨r1,r2,r3⟩:=hbx.out w7 BW.out
  unfold zero11 at r3
  have R3:=Lib.hid r3
  obtain ⟨a0,a1,a2,a3,a4,a5,a6,a7,a8,a9,a10⟩:=op_cells r1
  obtain ⟨b0,b1,b2,b3,b4,b5,b6,b7,b8,b9,b10⟩:=op_cells r2
  obtain ⟨q0,q1,q2,q3,q4,q5,q6,q7,q8,q9,q10,qf⟩:=eleven_cells r3
  have hl3:w.heap.size + 1 + 1 < w7.heap.size:=(Array.getElem?_eq_some_iff.1 r3).1
  clear r1 r2 r3
  go_upto_region 21 with fail
  have r3:=R3.out
  obtain ⟨X,hX,xr,hxw,hxz,hxk⟩:=end_op (o:=b) (s:=sb) (w:=w) (r:=w.heap.size + 1 + 1) (by omega) (z4'.out.trans (BW.out.mono z4'.out.size)) r3
  rw [← hX]
  clear hX r3 q0 q1 q2 q3 q4 q5 q6 q7 q8 q9 q10 qf a0 a1 a2 a3 a4 a5 a6 a7 a8 a9 a10 b0 b1 b2 b3 b4 b5 b6 b7 b8 b9 b10
  have xw:=Lib.hid hxw
  have hl9:w.heap.size + 1 + 1 < X.heap.size:=by rw [hxz];exact hl3
  have ob:=Lib.hid (show OpIn X b sb from hOb0.out.below hxw)
  clear hxw hxz hxk
  have xr':=Lib.hid xr
  have hbr:=Lib.hid (bare_any X (b) (sb) (ob.out))
  obtain ⟨y,hy⟩:∃ y,y = bareV (b):=⟨_,rfl⟩
  rw [← hy] at hbr
  have hy':=Lib.hid hy
  clear hy
  unfold BareA opCells at hbr
  unfold opCells at xr
  obtain ⟨q0,q1,q2,q3,q4,q5,q6,q7,q8,q9,q10,qf⟩:=eleven_cells xr
  clear xr
  try dsimp only at hbr
  try dsimp only at q0 q1 q2 q3 q4 q5 q6 q7 q8 q9 q10 qf
  go_wp2_with (go_at_call 28;go_loud (refine hbr.out.mono ?_;rintro e w8 ⟨⟨pA,pn,pc,tA,tn,tc,qA,qn,qc⟩,rfl,ho8,hb8⟩;dsimp only;have O8:=Lib.hid ho8;have B8:=Lib.hid (xw.out.trans (hb8.mono xw.out.size));have S8:=Lib.hid hb8.size;clear ho8 hb8 q0 q1 q2 q3 q4 q5 q6 q7 q8 q9 q10 qf))
  try simp only [Exit.jump]
  obtain ⟨W9,hW9⟩:∃ W9,W9 = w8.alloc (.cells (opCells y ⟨pA,pn,pc,tA,tn,tc,qA,qn,qc⟩) 26):=⟨_,rfl⟩
  have r9:=Lib.hid (show W9.heap[w8.heap.size]? = some (.cells (opCells y ⟨pA,pn,pc,tA,tn,tc,qA,qn,qc⟩) 26 (0,0)) by rw [hW9];exact heap_alloc_new w8 _)
  have b9:=Lib.hid (show Below w8.heap.size w8 W9 by rw [hW9];exact (Below.refl _ _).alloc (Nat.le_refl _) _)
  unfold opCells at hW9
  try dsimp only at hW9
  rw [← hW9]
  go_ret2
  refine ⟨B8.out.trans (b9.out.mono B8.out.size),?_⟩
  rw [show pairV a b = some [y] by rw [hy'.out];unfold pairV;rw [if_pos HN.out,if_neg (by have:=H44.out;omega),if_neg (by have:=H44.out;omega),if_neg (by have:=H44.out;omega),if_pos H44.out,if_pos HKEY.out]]
  exact ⟨w8.heap.size,_,rfl,B8.out.size,r9.out,(O8.out.kept fun k h1 h2=>b9.out.block k h2).mono xw.out.size⟩
set_option maxHeartbeats 8000000 in
theorem pair_44n (w:World) (a b:Ov) (sa sb:OS) (ha:OpIn w a sa) (hb:OpIn w b sb) (hma:Mild a) (hmb:Mild b) (hyes:countsB a = true∧countsB b = true∧subjV a = b.path) (h44:a.kind = 4∧b.kind = 4) (hkey:¬ a.key = b.key) :
    Calls Try.prog 45 #[.agg (opCells a sa),.agg (opCells b sb)] w (PairA w (pairV a b)):=by
  obtain ⟨z1,z2,z3,z4,z5⟩:=Top.three_new w (.cells (opCells a sa) 26) (.cells (opCells b sb) 26) (.cells zero11 26)
  obtain ⟨W3,hW3⟩:∃ W3,W3 = ((w.alloc (.cells (opCells a sa) 26)).alloc (.cells (opCells b sb) 26)).alloc (.cells zero11 26):=⟨_,rfl⟩
  rw [← hW3] at z1 z2 z3 z4 z5
  have z4':=Lib.hid z4
  have z5':=Lib.hid z5
  have hbx:=Lib.hid (fun (W:World) (hb:Below W3.heap.size W3 W)=>show W.heap[w.heap.size]? = some (.cells (opCells a sa) 26 (0,0))∧W.heap[w.heap.size + 1]? = some (.cells (opCells b sb) 26 (0,0))∧W.heap[w.heap.size + 1 + 1]? = some (.cells zero11 26 (0,0)) from ⟨(hb.block _ (by have:=z5'.out;omega)).trans z1,(hb.block _ (by have:=z5'.out;omega)).trans z2,(hb.block _ (by have:=z5'.out;omega)).trans z3⟩)
  have hOa:=Lib.hid (fun (W:World) (hb:Below W3.heap.size W3 W)=>ha.below (z4'.out.trans (hb.mono z4'.out.size)))
  have hOb:=Lib.hid (fun (W:World) (hc:Below W3.heap.size W3 W)=>hb.below (z4'.out.trans (hc.mono z4'.out.size)))
  have hsb:=Lib.hid (fun (W:World) (hb:Below W3.heap.size W3 W)=>subject_any W a sa (hOa.out W hb))
  have hca:=Lib.hid (fun (W:World) (hb:Below W3.heap.size W3 W)=>counts_any W a sa (hOa.out W hb) hma)
  have hcb:=Lib.hid (fun (W:World) (hb:Below W3.heap.size W3 W)=>counts_any W b sb (hOb.out W hb) hmb)
  have hfs:P4.eqV (subjV a) b.path = true:=decide_eq_true hyes.2.2
  have hfa:=hyes.1
  have hfb:=hyes.2.1
  rw [hfa] at hca
  rw [hfb] at hcb
  have HS:=Lib.hid hfs
  have HA:=Lib.hid hfa
  have HB:=Lib.hid hfb
  have hkA:=ha.kind
  have hkB:=hb.kind
  have HN:=Lib.hid hyes
  have hal:=ha.label
  have hbl:=hb.label
  have hav:=ha.key
  have hbv:=hb.key
  have hOb0:=Lib.hid hb
  have hOa0:=Lib.hid ha
  have hE12:∀ W:World,(binOp .eql 96 (.agg #[.int .u8 (a.kind:Int),.int .u8 (b.kind:Int)]) (.agg #[.int .u8 1,.int .u8 2])).run Try.prog W = .ok (.bool false) W:=fun W=>by
    have h5:=eq2 W a.kind b.kind 1 2 hkA hkB (by decide) (by decide)
    rw [decide_eq_false (by omega)] at h5
    exact h5
  have hE15:∀ W:World,(binOp .eql 96 (.agg #[.int .u8 (a.kind:Int),.int .u8 (b.kind:Int)]) (.agg #[.int .u8 1,.int .u8 5])).run Try.prog W = .ok (.bool false) W:=fun W=>by
    have h5:=eq2 W a.kind b.kind 1 5 hkA hkB (by decide) (by decide)
    rw [decide_eq_false (by omega)] at h5
    exact h5
  have hE55:∀ W:World,(binOp .eql 96 (.agg #[.int .u8 (a.kind:Int),.int .u8 (b.kind:Int)]) (.agg #[.int .u8 5,.int .u8 5])).run Try.prog W = .ok (.bool false) W:=fun W=>by
    have h5:=eq2 W a.kind b.kind 5 5 hkA hkB (by decide) (by decide)
    rw [decide_eq_false (by omega)] at h5
    exact h5
  have hE44:∀ W:World,(binOp .eql 96 (.agg #[.int .u8 (a.kind:Int),.int .u8 (b.kind:Int)]) (.agg #[.int .u8 4,.int .u8 4])).run Try.prog W = .ok (.bool true) W:=fun W=>by
    have h5:=eq2 W a.kind b.kind 4 4 hkA hkB (by decide) (by decide)
    rw [decide_eq_true (by omega)] at h5
    exact h5
  have hE66:∀ W:World,(binOp .eql 96 (.agg #[.int .u8 (a.kind:Int),.int .u8 (b.kind:Int)]) (.agg #[.int .u8 6,.int .u8 6])).run Try.prog W = .ok (.bool false) W:=fun W=>by
    have h5:=eq2 W a.kind b.kind 6 6 hkA hkB (by decide) (by decide)
    rw [decide_eq_false (by omega)] at h5
    exact h5
  have H44:=Lib.hid h44
  have HKEY:=Lib.hid hkey
  clear h44 hkey
  clear ha hb hfs hfa hfb
  unfold opCells at hsb hca hcb
  unfold opCells zero11 at hW3
  obtain ⟨a0,a1,a2,a3,a4,a5,a6,a7,a8,a9,a10⟩:=op_cells z1
  obtain ⟨b0,b1,b2,b3,b4,b5,b6,b7,b8,b9,b10⟩:=op_cells z2
  clear z1 z2 z3 z4 z5
  unfold opCells
  have hke:(a.key != b.key) = true:=by simp;exact HKEY.out
  have hkf:(a.key == b.key) = false:=by simp;exact HKEY.out
  go_enter Try.func45,Try.ntmps45
  go_wp2_with fail
  refine Top.wp_scope_once 0 rfl ?_
  go_upto_region 2 with fail
  rw [← hW3]
  clear hW3 a0 a1 a2 a3 a4 a5 a6 a7 a8 a9 a10 b0 b1 b2 b3 b4 b5 b6 b7 b8 b9 b10
  rename_i K0 hK0
  refine wp_region_held_drew (S:=(fun W=>Below W3.heap.size W3 W)) (by kernel_rfl) ((Below.refl W3.heap.size W3).drew) (fun hHeld=>?_)
  refine wpAnyH_take (i:=0) (oi:={ dst:=some 9,op:=Go.Op.load 26 (Go.Operand.tmp 2),type:=26,pos:="simplify.go:28",after:=#[],guard:=none }) (v:=?_) rfl (by kernel_rfl) (by kernel_rfl) (by kernel_rfl) (fun _ _ _ h=>h) (Or.inl ⟨by rfl,?_⟩) hHeld ?_
  rotate_left 1
  · intro W hSw;obtain ⟨r1,r2,-⟩:=hbx.out W hSw;obtain ⟨a0,a1,a2,a3,a4,a5,a6,a7,a8,a9,a10⟩:=op_cells r1;obtain ⟨b0,b1,b2,b3,b4,b5,b6,b7,b8,b9,b10⟩:=op_cells r2;go_simp;try with_reducible rfl
  try simp only [Act.put,List.setIfInBounds_toArray,List.set_cons_zero,List.set_cons_succ]
  refine wpAnyH_take (i:=2) (oi:={ dst:=some 11,op:=Go.Op.fieldAddr 26 (Go.Operand.tmp 3) 1,type:=0,pos:="simplify.go:28",after:=#[],guard:=none }) (v:=?_) rfl (by kernel_rfl) (by kernel_rfl) (by kernel_rfl) (fun _ _ _ h=>h) (Or.inl ⟨by rfl,?_⟩) hHeld ?_
  rotate_left 1
  · intro W hSw;obtain ⟨r1,r2,-⟩:=hbx.out W hSw;obtain ⟨a0,a1,a2,a3,a4,a5,a6,a7,a8,a9,a10⟩:=op_cells r1;obtain ⟨b0,b1,b2,b3,b4,b5,b6,b7,b8,b9,b10⟩:=op_cells r2;go_simp;try with_reducible rfl
  try simp only [Act.put,List.setIfInBounds_toArray,List.set_cons_zero,List.set_cons_succ]
  refine wpAnyH_take (i:=3) (oi:={ dst:=some 12,op:=Go.Op.load 22 (Go.Operand.tmp 11),type:=22,pos:="simplify.go:28",after:=#[{ on:=2,ground:=Go.Ground.data }],guard:=none }) (v:=?_) rfl (by kernel_rfl) (by kernel_rfl) (by kernel_rfl) (fun _ _ _ h=>h) (Or.inl ⟨by rfl,?_⟩) hHeld ?_
  rotate_left 1
  · intro W hSw;obtain ⟨r1,r2,-⟩:=hbx.out W hSw;obtain ⟨a0,a1,a2,a3,a4,a5,a6,a7,a8,a9,a10⟩:=op_cells r1;obtain ⟨b0,b1,b2,b3,b4,b5,b6,b7,b8,b9,b10⟩:=op_cells r2;go_simp;try with_reducible rfl
  try simp only [Act.put,List.setIfInBounds_toArray,List.set_cons_zero,List.set_cons_succ]
  refine wpAnyH_ready (rs:=[1]) (by kernel_rfl) (by simp) ?_
  refine AllReadyH.cons (o:={ dst:=some 10,op:=Go.Op.call { callee:=Go.Callee.value (Go.Operand.func 88),args:=#[Go.Operand.tmp 9],argTypes:=#[26] },type:=22,pos:="simplify.go:28",after:=#[{ on:=0,ground:=Go.Ground.data }],guard:=none }) rfl (fun K hK=>?_) AllReadyH.nil
  go_simp
  refine (hsb.out _ hHeld).mono ?_
  rintro e w4 ⟨A4,n4,c4,rfl,hi4,hm4,hbn⟩
  have F1:=Lib.hid (show Below W3.heap.size W3 w4 from hHeld.trans (hbn.mono hHeld.size))
  have I4:=Lib.hid hi4
  clear hbn hi4
  go_simp
  refine hK.out _ _ ?_ (fun hNew=>?_)
  · exact F1.out
  clear hK K hHeld
  have hHeld:=hNew
  clear hNew
  try simp only [Act.put,List.setIfInBounds_toArray,List.set_cons_zero,List.set_cons_succ]
  refine wpAnyH_ready (rs:=[4]) (by kernel_rfl) (by simp) ?_
  refine AllReadyH.cons (o:={ dst:=some 13,op:=Go.Op.call { callee:=Go.Callee.value (Go.Operand.func 75),args:=#[Go.Operand.tmp 10,Go.Operand.tmp 12],argTypes:=#[22,22] },type:=4,pos:="simplify.go:28",after:=#[{ on:=1,ground:=Go.Ground.data },{ on:=3,ground:=Go.Ground.data },{ on:=1,ground:=Go.Ground.chain }],guard:=none }) rfl (fun K hK=>?_) AllReadyH.nil
  go_simp
  refine (P4.same_any _ A4 sb.pA n4 c4 sb.pn sb.pc (subjV a) b.path (its4 I4.out) (its4 (hOb.out _ hHeld).path) hm4).mono ?_
  rw [HS.out]
  rintro e w5 ⟨rfl,k5,rfl⟩
  go_simp
  refine hK.out _ _ ?_ (fun hNew=>?_)
  · exact draws hHeld _
  clear hK K hHeld
  have hHeld:=hNew
  clear hNew
  try simp only [Act.put,List.setIfInBounds_toArray,List.set_cons_zero,List.set_cons_succ]
  refine wpAnyH_take (i:=5) (oi:={ dst:=some 14,op:=Go.Op.unOp Go.UnOp.not 4 (Go.Operand.tmp 13),type:=4,pos:="simplify.go:28",after:=#[{ on:=4,ground:=Go.Ground.data }],guard:=none }) (v:=?_) rfl (by kernel_rfl) (by kernel_rfl) (by kernel_rfl) (fun _ _ _ h=>h) (Or.inl ⟨by rfl,?_⟩) hHeld ?_
  rotate_left 1
  · intro W hSw;skip;go_simp;try with_reducible rfl
  try simp only [Act.put,List.setIfInBounds_toArray,List.set_cons_zero,List.set_cons_succ]
  refine wpAnyH_take (i:=6) (oi:={ dst:=some 15,op:=Go.Op.move (Go.Operand.tmp 14),type:=4,pos:="simplify.go:28",after:=#[{ on:=5,ground:=Go.Ground.data },{ on:=4,ground:=Go.Ground.chain }],guard:=none }) (v:=?_) rfl (by kernel_rfl) (by kernel_rfl) (by kernel_rfl) (fun _ _ _ h=>h) (Or.inl ⟨by rfl,?_⟩) hHeld ?_
  rotate_left 1
  · intro W hSw;skip;go_simp;try with_reducible rfl
  try simp only [Act.put,List.setIfInBounds_toArray,List.set_cons_zero,List.set_cons_succ]
  refine wpAnyH_take (i:=7) (oi:={ dst:=some 16,op:=Go.Op.load 26 (Go.Operand.tmp 2),type:=26,pos:="simplify.go:28",after:=#[{ on:=6,ground:=Go.Ground.guard }],guard:=some (6,false) }) (v:=?_) rfl (by kernel_rfl) (by kernel_rfl) (by kernel_rfl) (fun _ _ _ h=>h) (Or.inl ⟨by rfl,?_⟩) hHeld ?_
  rotate_left 1
  · intro W hSw;obtain ⟨r1,r2,-⟩:=hbx.out W hSw;obtain ⟨a0,a1,a2,a3,a4,a5,a6,a7,a8,a9,a10⟩:=op_cells r1;obtain ⟨b0,b1,b2,b3,b4,b5,b6,b7,b8,b9,b10⟩:=op_cells r2;go_simp;try with_reducible rfl
  try simp only [Act.put,List.setIfInBounds_toArray,List.set_cons_zero,List.set_cons_succ]
  refine wpAnyH_ready (rs:=[8]) (by kernel_rfl) (by simp) ?_
  refine AllReadyH.cons (o:={ dst:=some 17,op:=Go.Op.call { callee:=Go.Callee.value (Go.Operand.func 89),args:=#[Go.Operand.tmp 16],argTypes:=#[26] },type:=4,pos:="simplify.go:28",after:=#[{ on:=7,ground:=Go.Ground.data },{ on:=6,ground:=Go.Ground.chain },{ on:=6,ground:=Go.Ground.guard }],guard:=some (6,false) }) rfl (fun K hK=>?_) AllReadyH.nil
  go_simp
  refine (hca.out _ hHeld).mono ?_
  rintro e w6 ⟨rfl,hbn⟩
  have F2:=Lib.hid (show Below W3.heap.size W3 w6 from hHeld.trans (hbn.mono hHeld.size))
  clear hbn
  go_simp
  refine hK.out _ _ ?_ (fun hNew=>?_)
  · exact F2.out
  clear hK K hHeld
  have hHeld:=hNew
  clear hNew
  try simp only [Act.put,List.setIfInBounds_toArray,List.set_cons_zero,List.set_cons_succ]
  refine wpAnyH_take (i:=9) (oi:={ dst:=some 18,op:=Go.Op.unOp Go.UnOp.not 4 (Go.Operand.tmp 17),type:=4,pos:="simplify.go:28",after:=#[{ on:=8,ground:=Go.Ground.data },{ on:=6,ground:=Go.Ground.guard }],guard:=some (6,false) }) (v:=?_) rfl (by kernel_rfl) (by kernel_rfl) (by kernel_rfl) (fun _ _ _ h=>h) (Or.inl ⟨by rfl,?_⟩) hHeld ?_
  rotate_left 1
  · intro W hSw;skip;go_simp;try with_reducible rfl
  try simp only [Act.put,List.setIfInBounds_toArray,List.set_cons_zero,List.set_cons_succ]
  refine wpAnyH_take (i:=10) (oi:={ dst:=some 19,op:=Go.Op.pick (Go.Operand.tmp 15) (Go.Operand.const (Go.Value.bool true)) (Go.Operand.tmp 18),type:=4,pos:="simplify.go:28",after:=#[{ on:=6,ground:=Go.Ground.data },{ on:=9,ground:=Go.Ground.data }],guard:=none }) (v:=?_) rfl (by kernel_rfl) (by kernel_rfl) (by kernel_rfl) (fun _ _ _ h=>h) (Or.inl ⟨by rfl,?_⟩) hHeld ?_
  rotate_left 1
  · intro W hSw;skip;go_simp;try with_reducible rfl
  try simp only [Act.put,List.setIfInBounds_toArray,List.set_cons_zero,List.set_cons_succ]
  refine wpAnyH_take (i:=11) (oi:={ dst:=some 20,op:=Go.Op.move (Go.Operand.tmp 19),type:=4,pos:="simplify.go:28",after:=#[{ on:=10,ground:=Go.Ground.data },{ on:=8,ground:=Go.Ground.chain }],guard:=none }) (v:=?_) rfl (by kernel_rfl) (by kernel_rfl) (by kernel_rfl) (fun _ _ _ h=>h) (Or.inl ⟨by rfl,?_⟩) hHeld ?_
  rotate_left 1
  · intro W hSw;skip;go_simp;try with_reducible rfl
  try simp only [Act.put,List.setIfInBounds_toArray,List.set_cons_zero,List.set_cons_succ]
  refine wpAnyH_take (i:=12) (oi:={ dst:=some 21,op:=Go.Op.load 26 (Go.Operand.tmp 3),type:=26,pos:="simplify.go:28",after:=#[{ on:=11,ground:=Go.Ground.guard }],guard:=some (11,false) }) (v:=?_) rfl (by kernel_rfl) (by kernel_rfl) (by kernel_rfl) (fun _ _ _ h=>h) (Or.inl ⟨by rfl,?_⟩) hHeld ?_
  rotate_left 1
  · intro W hSw;obtain ⟨r1,r2,-⟩:=hbx.out W hSw;obtain ⟨a0,a1,a2,a3,a4,a5,a6,a7,a8,a9,a10⟩:=op_cells r1;obtain ⟨b0,b1,b2,b3,b4,b5,b6,b7,b8,b9,b10⟩:=op_cells r2;go_simp;try with_reducible rfl
  try simp only [Act.put,List.setIfInBounds_toArray,List.set_cons_zero,List.set_cons_succ]
  refine wpAnyH_ready (rs:=[13]) (by kernel_rfl) (by simp) ?_
  refine AllReadyH.cons (o:={ dst:=some 22,op:=Go.Op.call { callee:=Go.Callee.value (Go.Operand.func 89),args:=#[Go.Operand.tmp 21],argTypes:=#[26] },type:=4,pos:="simplify.go:28",after:=#[{ on:=12,ground:=Go.Ground.data },{ on:=11,ground:=Go.Ground.chain },{ on:=11,ground:=Go.Ground.guard }],guard:=some (11,false) }) rfl (fun K hK=>?_) AllReadyH.nil
  go_simp
  refine (hcb.out _ hHeld).mono ?_
  rintro e w7 ⟨rfl,hbn⟩
  have F3:=Lib.hid (show Below W3.heap.size W3 w7 from hHeld.trans (hbn.mono hHeld.size))
  clear hbn
  go_simp
  refine hK.out _ _ ?_ (fun hNew=>?_)
  · exact F3.out
  clear hK K hHeld
  have hHeld:=hNew
  clear hNew
  try simp only [Act.put,List.setIfInBounds_toArray,List.set_cons_zero,List.set_cons_succ]
  refine wpAnyH_take (i:=14) (oi:={ dst:=some 23,op:=Go.Op.unOp Go.UnOp.not 4 (Go.Operand.tmp 22),type:=4,pos:="simplify.go:28",after:=#[{ on:=13,ground:=Go.Ground.data },{ on:=11,ground:=Go.Ground.guard }],guard:=some (11,false) }) (v:=?_) rfl (by kernel_rfl) (by kernel_rfl) (by kernel_rfl) (fun _ _ _ h=>h) (Or.inl ⟨by rfl,?_⟩) hHeld ?_
  rotate_left 1
  · intro W hSw;skip;go_simp;try with_reducible rfl
  try simp only [Act.put,List.setIfInBounds_toArray,List.set_cons_zero,List.set_cons_succ]
  refine wpAnyH_take (i:=15) (oi:={ dst:=some 24,op:=Go.Op.pick (Go.Operand.tmp 20) (Go.Operand.const (Go.Value.bool true)) (Go.Operand.tmp 23),type:=4,pos:="simplify.go:28",after:=#[{ on:=11,ground:=Go.Ground.data },{ on:=14,ground:=Go.Ground.data }],guard:=none }) (v:=?_) rfl (by kernel_rfl) (by kernel_rfl) (by kernel_rfl) (fun _ _ _ h=>h) (Or.inl ⟨by rfl,?_⟩) hHeld ?_
  rotate_left 1
  · intro W hSw;skip;go_simp;try with_reducible rfl
  try simp only [Act.put,List.setIfInBounds_toArray,List.set_cons_zero,List.set_cons_succ]
  refine wpAnyH_done (by kernel_rfl) ?_ _
  refine hK0 _ _ ?_
  clear hK0
  have BW:=Lib.hid hHeld
  clear hHeld
  obtain ⟨r1,r2,r3⟩:=hbx.out w7 BW.out
  unfold zero11 at r3
  have R3:=Lib.hid r3
  obtain ⟨a0,a1,a2,a3,a4,a5,a6,a7,a8,a9,a10⟩:=op_cells r1
  obtain ⟨b0,b1,b2,b3,b4,b5,b6,b7,b8,b9,b10⟩:=op_cells r2
  obtain ⟨q0,q1,q2,q3,q4,q5,q6,q7,q8,q9,q10,qf⟩:=eleven_cells r3
  have hl3:w.heap.size + 1 + 1 < w7.heap.size:=(Array.getElem?_eq_some_iff.1 r3).1
  clear r1 r2 r3
  go_wp2_with fail
  go_step3
  refine ⟨rfl,?_⟩
  go_wp2_with fail
  try simp only [Exit.jump]
  go_ret2
  refine ⟨z4'.out.trans (BW.out.mono z4'.out.size),?_⟩
  rw [show pairV a b = none by unfold pairV;rw [if_pos HN.out,if_neg (by have:=H44.out;omega),if_neg (by have:=H44.out;omega),if_neg (by have:=H44.out;omega),if_pos H44.out,if_neg HKEY.out]]
  rfl
set_option maxHeartbeats 8000000 in
theorem pair_15 (w:World) (a b:Ov) (sa sb:OS) (ha:OpIn w a sa) (hb:OpIn w b sb) (hma:Mild a) (hmb:Mild b) (hyes:countsB a = true∧countsB b = true∧subjV a = b.path) (h15:a.kind = 1∧b.kind = 5) :
    Calls Try.prog 45 #[.agg (opCells a sa),.agg (opCells b sb)] w (PairA w (pairV a b)):=by
  obtain ⟨z1,z2,z3,z4,z5⟩:=Top.three_new w (.cells (opCells a sa) 26) (.cells (opCells b sb) 26) (.cells zero11 26)
  obtain ⟨W3,hW3⟩:∃ W3,W3 = ((w.alloc (.cells (opCells a sa) 26)).alloc (.cells (opCells b sb) 26)).alloc (.cells zero11 26):=⟨_,rfl⟩
  rw [← hW3] at z1 z2 z3 z4 z5
  have z4':=Lib.hid z4
  have z5':=Lib.hid z5
  have hbx:=Lib.hid (fun (W:World) (hb:Below W3.heap.size W3 W)=>show W.heap[w.heap.size]? = some (.cells (opCells a sa) 26 (0,0))∧W.heap[w.heap.size + 1]? = some (.cells (opCells b sb) 26 (0,0))∧W.heap[w.heap.size + 1 + 1]? = some (.cells zero11 26 (0,0)) from ⟨(hb.block _ (by have:=z5'.out;omega)).trans z1,(hb.block _ (by have:=z5'.out;omega)).trans z2,(hb.block _ (by have:=z5'.out;omega)).trans z3⟩)
  have hOa:=Lib.hid (fun (W:World) (hb:Below W3.heap.size W3 W)=>ha.below (z4'.out.trans (hb.mono z4'.out.size)))
  have hOb:=Lib.hid (fun (W:World) (hc:Below W3.heap.size W3 W)=>hb.below (z4'.out.trans (hc.mono z4'.out.size)))
  have hsb:=Lib.hid (fun (W:World) (hb:Below W3.heap.size W3 W)=>subject_any W a sa (hOa.out W hb))
  have hca:=Lib.hid (fun (W:World) (hb:Below W3.heap.size W3 W)=>counts_any W a sa (hOa.out W hb) hma)
  have hcb:=Lib.hid (fun (W:World) (hb:Below W3.heap.size W3 W)=>counts_any W b sb (hOb.out W hb) hmb)
  have hfs:P4.eqV (subjV a) b.path = true:=decide_eq_true hyes.2.2
  have hfa:=hyes.1
  have hfb:=hyes.2.1
  rw [hfa] at hca
  rw [hfb] at hcb
  have HS:=Lib.hid hfs
  have HA:=Lib.hid hfa
  have HB:=Lib.hid hfb
  have hkA:=ha.kind
  have hkB:=hb.kind
  have HN:=Lib.hid hyes
  have hal:=ha.label
  have hbl:=hb.label
  have hav:=ha.key
  have hbv:=hb.key
  have hOb0:=Lib.hid hb
  have hOa0:=Lib.hid ha
  have hE12:∀ W:World,(binOp .eql 96 (.agg #[.int .u8 (a.kind:Int),.int .u8 (b.kind:Int)]) (.agg #[.int .u8 1,.int .u8 2])).run Try.prog W = .ok (.bool false) W:=fun W=>by
    have h5:=eq2 W a.kind b.kind 1 2 hkA hkB (by decide) (by decide)
    rw [decide_eq_false (by omega)] at h5
    exact h5
  have hE15:∀ W:World,(binOp .eql 96 (.agg #[.int .u8 (a.kind:Int),.int .u8 (b.kind:Int)]) (.agg #[.int .u8 1,.int .u8 5])).run Try.prog W = .ok (.bool true) W:=fun W=>by
    have h5:=eq2 W a.kind b.kind 1 5 hkA hkB (by decide) (by decide)
    rw [decide_eq_true (by omega)] at h5
    exact h5
  have hE55:∀ W:World,(binOp .eql 96 (.agg #[.int .u8 (a.kind:Int),.int .u8 (b.kind:Int)]) (.agg #[.int .u8 5,.int .u8 5])).run Try.prog W = .ok (.bool false) W:=fun W=>by
    have h5:=eq2 W a.kind b.kind 5 5 hkA hkB (by decide) (by decide)
    rw [decide_eq_false (by omega)] at h5
    exact h5
  have hE44:∀ W:World,(binOp .eql 96 (.agg #[.int .u8 (a.kind:Int),.int .u8 (b.kind:Int)]) (.agg #[.int .u8 4,.int .u8 4])).run Try.prog W = .ok (.bool false) W:=fun W=>by
    have h5:=eq2 W a.kind b.kind 4 4 hkA hkB (by decide) (by decide)
    rw [decide_eq_false (by omega)] at h5
    exact h5
  have hE66:∀ W:World,(binOp .eql 96 (.agg #[.int .u8 (a.kind:Int),.int .u8 (b.kind:Int)]) (.agg #[.int .u8 6,.int .u8 6])).run Try.prog W = .ok (.bool false) W:=fun W=>by
    have h5:=eq2 W a.kind b.kind 6 6 hkA hkB (by decide) (by decide)
    rw [decide_eq_false (by omega)] at h5
    exact h5
  have H15:=Lib.hid h15
  clear h15
  clear ha hb hfs hfa hfb
  unfold opCells at hsb hca hcb
  unfold opCells zero11 at hW3
  obtain ⟨a0,a1,a2,a3,a4,a5,a6,a7,a8,a9,a10⟩:=op_cells z1
  obtain ⟨b0,b1,b2,b3,b4,b5,b6,b7,b8,b9,b10⟩:=op_cells z2
  clear z1 z2 z3 z4 z5
  unfold opCells
  go_enter Try.func45,Try.ntmps45
  go_wp2_with fail
  refine Top.wp_scope_once 0 rfl ?_
  go_upto_region 2 with fail
  rw [← hW3]
  clear hW3 a0 a1 a2 a3 a4 a5 a6 a7 a8 a9 a10 b0 b1 b2 b3 b4 b5 b6 b7 b8 b9 b10
  rename_i K0 hK0
  refine wp_region_held_drew (S:=(fun W=>Below W3.heap.size W3 W)) (by kernel_rfl) ((Below.refl W3.heap.size W3).drew) (fun hHeld=>?_)
  refine wpAnyH_take (i:=0) (oi:={ dst:=some 9,op:=Go.Op.load 26 (Go.Operand.tmp 2),type:=26,pos:="simplify.go:28",after:=#[],guard:=none }) (v:=?_) rfl (by kernel_rfl) (by kernel_rfl) (by kernel_rfl) (fun _ _ _ h=>h) (Or.inl ⟨by rfl,?_⟩) hHeld ?_
  rotate_left 1
  · intro W hSw;obtain ⟨r1,r2,-⟩:=hbx.out W hSw;obtain ⟨a0,a1,a2,a3,a4,a5,a6,a7,a8,a9,a10⟩:=op_cells r1;obtain ⟨b0,b1,b2,b3,b4,b5,b6,b7,b8,b9,b10⟩:=op_cells r2;go_simp;try with_reducible rfl
  try simp only [Act.put,List.setIfInBounds_toArray,List.set_cons_zero,List.set_cons_succ]
  refine wpAnyH_take (i:=2) (oi:={ dst:=some 11,op:=Go.Op.fieldAddr 26 (Go.Operand.tmp 3) 1,type:=0,pos:="simplify.go:28",after:=#[],guard:=none }) (v:=?_) rfl (by kernel_rfl) (by kernel_rfl) (by kernel_rfl) (fun _ _ _ h=>h) (Or.inl ⟨by rfl,?_⟩) hHeld ?_
  rotate_left 1
  · intro W hSw;obtain ⟨r1,r2,-⟩:=hbx.out W hSw;obtain ⟨a0,a1,a2,a3,a4,a5,a6,a7,a8,a9,a10⟩:=op_cells r1;obtain ⟨b0,b1,b2,b3,b4,b5,b6,b7,b8,b9,b10⟩:=op_cells r2;go_simp;try with_reducible rfl
  try simp only [Act.put,List.setIfInBounds_toArray,List.set_cons_zero,List.set_cons_succ]
  refine wpAnyH_take (i:=3) (oi:={ dst:=some 12,op:=Go.Op.load 22 (Go.Operand.tmp 11),type:=22,pos:="simplify.go:28",after:=#[{ on:=2,ground:=Go.Ground.data }],guard:=none }) (v:=?_) rfl (by kernel_rfl) (by kernel_rfl) (by kernel_rfl) (fun _ _ _ h=>h) (Or.inl ⟨by rfl,?_⟩) hHeld ?_
  rotate_left 1
  · intro W hSw;obtain ⟨r1,r2,-⟩:=hbx.out W hSw;obtain ⟨a0,a1,a2,a3,a4,a5,a6,a7,a8,a9,a10⟩:=op_cells r1;obtain ⟨b0,b1,b2,b3,b4,b5,b6,b7,b8,b9,b10⟩:=op_cells r2;go_simp;try with_reducible rfl
  try simp only [Act.put,List.setIfInBounds_toArray,List.set_cons_zero,List.set_cons_succ]
  refine wpAnyH_ready (rs:=[1]) (by kernel_rfl) (by simp) ?_
  refine AllReadyH.cons (o:={ dst:=some 10,op:=Go.Op.call { callee:=Go.Callee.value (Go.Operand.func 88),args:=#[Go.Operand.tmp 9],argTypes:=#[26] },type:=22,pos:="simplify.go:28",after:=#[{ on:=0,ground:=Go.Ground.data }],guard:=none }) rfl (fun K hK=>?_) AllReadyH.nil
  go_simp
  refine (hsb.out _ hHeld).mono ?_
  rintro e w4 ⟨A4,n4,c4,rfl,hi4,hm4,hbn⟩
  have F1:=Lib.hid (show Below W3.heap.size W3 w4 from hHeld.trans (hbn.mono hHeld.size))
  have I4:=Lib.hid hi4
  clear hbn hi4
  go_simp
  refine hK.out _ _ ?_ (fun hNew=>?_)
  · exact F1.out
  clear hK K hHeld
  have hHeld:=hNew
  clear hNew
  try simp only [Act.put,List.setIfInBounds_toArray,List.set_cons_zero,List.set_cons_succ]
  refine wpAnyH_ready (rs:=[4]) (by kernel_rfl) (by simp) ?_
  refine AllReadyH.cons (o:={ dst:=some 13,op:=Go.Op.call { callee:=Go.Callee.value (Go.Operand.func 75),args:=#[Go.Operand.tmp 10,Go.Operand.tmp 12],argTypes:=#[22,22] },type:=4,pos:="simplify.go:28",after:=#[{ on:=1,ground:=Go.Ground.data },{ on:=3,ground:=Go.Ground.data },{ on:=1,ground:=Go.Ground.chain }],guard:=none }) rfl (fun K hK=>?_) AllReadyH.nil
  go_simp
  refine (P4.same_any _ A4 sb.pA n4 c4 sb.pn sb.pc (subjV a) b.path (its4 I4.out) (its4 (hOb.out _ hHeld).path) hm4).mono ?_
  rw [HS.out]
  rintro e w5 ⟨rfl,k5,rfl⟩
  go_simp
  refine hK.out _ _ ?_ (fun hNew=>?_)
  · exact draws hHeld _
  clear hK K hHeld
  have hHeld:=hNew
  clear hNew
  try simp only [Act.put,List.setIfInBounds_toArray,List.set_cons_zero,List.set_cons_succ]
  refine wpAnyH_take (i:=5) (oi:={ dst:=some 14,op:=Go.Op.unOp Go.UnOp.not 4 (Go.Operand.tmp 13),type:=4,pos:="simplify.go:28",after:=#[{ on:=4,ground:=Go.Ground.data }],guard:=none }) (v:=?_) rfl (by kernel_rfl) (by kernel_rfl) (by kernel_rfl) (fun _ _ _ h=>h) (Or.inl ⟨by rfl,?_⟩) hHeld ?_
  rotate_left 1
  · intro W hSw;skip;go_simp;try with_reducible rfl
  try simp only [Act.put,List.setIfInBounds_toArray,List.set_cons_zero,List.set_cons_succ]
  refine wpAnyH_take (i:=6) (oi:={ dst:=some 15,op:=Go.Op.move (Go.Operand.tmp 14),type:=4,pos:="simplify.go:28",after:=#[{ on:=5,ground:=Go.Ground.data },{ on:=4,ground:=Go.Ground.chain }],guard:=none }) (v:=?_) rfl (by kernel_rfl) (by kernel_rfl) (by kernel_rfl) (fun _ _ _ h=>h) (Or.inl ⟨by rfl,?_⟩) hHeld ?_
  rotate_left 1
  · intro W hSw;skip;go_simp;try with_reducible rfl
  try simp only [Act.put,List.setIfInBounds_toArray,List.set_cons_zero,List.set_cons_succ]
  refine wpAnyH_take (i:=7) (oi:={ dst:=some 16,op:=Go.Op.load 26 (Go.Operand.tmp 2),type:=26,pos:="simplify.go:28",after:=#[{ on:=6,ground:=Go.Ground.guard }],guard:=some (6,false) }) (v:=?_) rfl (by kernel_rfl) (by kernel_rfl) (by kernel_rfl) (fun _ _ _ h=>h) (Or.inl ⟨by rfl,?_⟩) hHeld ?_
  rotate_left 1
  · intro W hSw;obtain ⟨r1,r2,-⟩:=hbx.out W hSw;obtain ⟨a0,a1,a2,a3,a4,a5,a6,a7,a8,a9,a10⟩:=op_cells r1;obtain ⟨b0,b1,b2,b3,b4,b5,b6,b7,b8,b9,b10⟩:=op_cells r2;go_simp;try with_reducible rfl
  try simp only [Act.put,List.setIfInBounds_toArray,List.set_cons_zero,List.set_cons_succ]
  refine wpAnyH_ready (rs:=[8]) (by kernel_rfl) (by simp) ?_
  refine AllReadyH.cons (o:={ dst:=some 17,op:=Go.Op.call { callee:=Go.Callee.value (Go.Operand.func 89),args:=#[Go.Operand.tmp 16],argTypes:=#[26] },type:=4,pos:="simplify.go:28",after:=#[{ on:=7,ground:=Go.Ground.data },{ on:=6,ground:=Go.Ground.chain },{ on:=6,ground:=Go.Ground.guard }],guard:=some (6,false) }) rfl (fun K hK=>?_) AllReadyH.nil
  go_simp
  refine (hca.out _ hHeld).mono ?_
  rintro e w6 ⟨rfl,hbn⟩
  have F2:=Lib.hid (show Below W3.heap.size W3 w6 from hHeld.trans (hbn.mono hHeld.size))
  clear hbn
  go_simp
  refine hK.out _ _ ?_ (fun hNew=>?_)
  · exact F2.out
  clear hK K hHeld
  have hHeld:=hNew
  clear hNew
  try simp only [Act.put,List.setIfInBounds_toArray,List.set_cons_zero,List.set_cons_succ]
  refine wpAnyH_take (i:=9) (oi:={ dst:=some 18,op:=Go.Op.unOp Go.UnOp.not 4 (Go.Operand.tmp 17),type:=4,pos:="simplify.go:28",after:=#[{ on:=8,ground:=Go.Ground.data },{ on:=6,ground:=Go.Ground.guard }],guard:=some (6,false) }) (v:=?_) rfl (by kernel_rfl) (by kernel_rfl) (by kernel_rfl) (fun _ _ _ h=>h) (Or.inl ⟨by rfl,?_⟩) hHeld ?_
  rotate_left 1
  · intro W hSw;skip;go_simp;try with_reducible rfl
  try simp only [Act.put,List.setIfInBounds_toArray,List.set_cons_zero,List.set_cons_succ]
  refine wpAnyH_take (i:=10) (oi:={ dst:=some 19,op:=Go.Op.pick (Go.Operand.tmp 15) (Go.Operand.const (Go.Value.bool true)) (Go.Operand.tmp 18),type:=4,pos:="simplify.go:28",after:=#[{ on:=6,ground:=Go.Ground.data },{ on:=9,ground:=Go.Ground.data }],guard:=none }) (v:=?_) rfl (by kernel_rfl) (by kernel_rfl) (by kernel_rfl) (fun _ _ _ h=>h) (Or.inl ⟨by rfl,?_⟩) hHeld ?_
  rotate_left 1
  · intro W hSw;skip;go_simp;try with_reducible rfl
  try simp only [Act.put,List.setIfInBounds_toArray,List.set_cons_zero,List.set_cons_succ]
  refine wpAnyH_take (i:=11) (oi:={ dst:=some 20,op:=Go.Op.move (Go.Operand.tmp 19),type:=4,pos:="simplify.go:28",after:=#[{ on:=10,ground:=Go.Ground.data },{ on:=8,ground:=Go.Ground.chain }],guard:=none }) (v:=?_) rfl (by kernel_rfl) (by kernel_rfl) (by kernel_rfl) (fun _ _ _ h=>h) (Or.inl ⟨by rfl,?_⟩) hHeld ?_
  rotate_left 1
  · intro W hSw;skip;go_simp;try with_reducible rfl
  try simp only [Act.put,List.setIfInBounds_toArray,List.set_cons_zero,List.set_cons_succ]
  refine wpAnyH_take (i:=12) (oi:={ dst:=some 21,op:=Go.Op.load 26 (Go.Operand.tmp 3),type:=26,pos:="simplify.go:28",after:=#[{ on:=11,ground:=Go.Ground.guard }],guard:=some (11,false) }) (v:=?_) rfl (by kernel_rfl) (by kernel_rfl) (by kernel_rfl) (fun _ _ _ h=>h) (Or.inl ⟨by rfl,?_⟩) hHeld ?_
  rotate_left 1
  · intro W hSw;obtain ⟨r1,r2,-⟩:=hbx.out W hSw;obtain ⟨a0,a1,a2,a3,a4,a5,a6,a7,a8,a9,a10⟩:=op_cells r1;obtain ⟨b0,b1,b2,b3,b4,b5,b6,b7,b8,b9,b10⟩:=op_cells r2;go_simp;try with_reducible rfl
  try simp only [Act.put,List.setIfInBounds_toArray,List.set_cons_zero,List.set_cons_succ]
  refine wpAnyH_ready (rs:=[13]) (by kernel_rfl) (by simp) ?_
  refine AllReadyH.cons (o:={ dst:=some 22,op:=Go.Op.call { callee:=Go.Callee.value (Go.Operand.func 89),args:=#[Go.Operand.tmp 21],argTypes:=#[26] },type:=4,pos:="simplify.go:28",after:=#[{ on:=12,ground:=Go.Ground.data },{ on:=11,ground:=Go.Ground.chain },{ on:=11,ground:=Go.Ground.guard }],guard:=some (11,false) }) rfl (fun K hK=>?_) AllReadyH.nil
  go_simp
  refine (hcb.out _ hHeld).mono ?_
  rintro e w7 ⟨rfl,hbn⟩
  have F3:=Lib.hid (show Below W3.heap.size W3 w7 from hHeld.trans (hbn.mono hHeld.size))
  clear hbn
  go_simp
  refine hK.out _ _ ?_ (fun hNew=>?_)
  · exact F3.out
  clear hK K hHeld
  have hHeld:=hNew
  clear hNew
  try simp only [Act.put,List.setIfInBounds_toArray,List.set_cons_zero,List.set_cons_succ]
  refine wpAnyH_take (i:=14) (oi:={ dst:=some 23,op:=Go.Op.unOp Go.UnOp.not 4 (Go.Operand.tmp 22),type:=4,pos:="simplify.go:28",after:=#[{ on:=13,ground:=Go.Ground.data },{ on:=11,ground:=Go.Ground.guard }],guard:=some (11,false) }) (v:=?_) rfl (by kernel_rfl) (by kernel_rfl) (by kernel_rfl) (fun _ _ _ h=>h) (Or.inl ⟨by rfl,?_⟩) hHeld ?_
  rotate_left 1
  · intro W hSw;skip;go_simp;try with_reducible rfl
  try simp only [Act.put,List.setIfInBounds_toArray,List.set_cons_zero,List.set_cons_succ]
  refine wpAnyH_take (i:=15) (oi:={ dst:=some 24,op:=Go.Op.pick (Go.Operand.tmp 20) (Go.Operand.const (Go.Value.bool true)) (Go.Operand.tmp 23),type:=4,pos:="simplify.go:28",after:=#[{ on:=11,ground:=Go.Ground.data },{ on:=14,ground:=Go.Ground.data }],guard:=none }) (v:=?_) rfl (by kernel_rfl) (by kernel_rfl) (by kernel_rfl) (fun _ _ _ h=>h) (Or.inl ⟨by rfl,?_⟩) hHeld ?_
  rotate_left 1
  · intro W hSw;skip;go_simp;try with_reducible rfl
  try simp only [Act.put,List.setIfInBounds_toArray,List.set_cons_zero,List.set_cons_succ]
  refine wpAnyH_done (by kernel_rfl) ?_ _
  refine hK0 _ _ ?_
  clear hK0
  have BW:=Lib.hid hHeld
  clear hHeld
  obtain ⟨r1,r2,r3⟩:=hbx.out w7 BW.out
  unfold zero11 at r3
  have R3:=Lib.hid r3
  obtain ⟨a0,a1,a2,a3,a4,a5,a6,a7,a8,a9,a10⟩:=op_cells r1
  obtain ⟨b0,b1,b2,b3,b4,b5,b6,b7,b8,b9,b10⟩:=op_cells r2
  obtain ⟨q0,q1,q2,q3,q4,q5,q6,q7,q8,q9,q10,qf⟩:=eleven_cells r3
  have hl3:w.heap.size + 1 + 1 < w7.heap.size:=(Array.getElem?_eq_some_iff.1 r3).1
  clear r1 r2 r3
  go_upto_region 21 with fail
  have r3:=R3.out
  obtain ⟨Xa,hXa,xra,hxw,hxz,hxk⟩:=end_op (o:=a) (s:=sa) (w:=w) (r:=w.heap.size + 1 + 1) (by omega) (z4'.out.trans (BW.out.mono z4'.out.size)) r3
  rw [← hXa]
  clear hXa r3 q0 q1 q2 q3 q4 q5 q6 q7 q8 q9 q10 qf a0 a1 a2 a3 a4 a5 a6 a7 a8 a9 a10 b0 b1 b2 b3 b4 b5 b6 b7 b8 b9 b10
  obtain ⟨X,hX⟩:∃ X,X = Xa.setCell ⟨w.heap.size + 1 + 1,6,none⟩ (.string ⟨b.label.toArray⟩):=⟨_,rfl⟩
  have xr:X.heap[w.heap.size + 1 + 1]? = some (.cells (opCells { a with label:=b.label } sa) 26 (0,0)):=by rw [hX,heap_setCell_same Xa _ 6 _ _ _ xra];unfold opCells;simp
  have hxw2:Below w.heap.size w X:=by rw [hX];exact hxw.setCell (p:=⟨w.heap.size + 1 + 1,6,none⟩) (by show w.heap.size≤w.heap.size + 1 + 1;omega) _
  have hl9:w.heap.size + 1 + 1 < X.heap.size:=by rw [hX,World.size_setCell,hxz];exact hl3
  rw [← hX]
  have xw:=Lib.hid hxw2
  have h0:=hOa0.out.below hxw2
  have ob:=Lib.hid (show OpIn X { a with label:=b.label } sa from ⟨h0.kind,h0.path,h0.pnc,h0.pcm,h0.pnil,h0.at_,h0.to_,h0.tnc,h0.tcm,h0.tnil,h0.id,hOb0.out.label,h0.key,h0.value,h0.pieces,h0.qnc,h0.qcm,h0.qnil,h0.pfew,h0.tfew,h0.qfew,h0.pfit,h0.tfit⟩)
  clear hxw hxz hxk hX xra hxw2 h0
  have xr':=Lib.hid xr
  have hbr:=Lib.hid (bare_any X ({ a with label:=b.label }) (sa) (ob.out))
  obtain ⟨y,hy⟩:∃ y,y = bareV ({ a with label:=b.label }):=⟨_,rfl⟩
  rw [← hy] at hbr
  have hy':=Lib.hid hy
  clear hy
  unfold BareA opCells at hbr
  unfold opCells at xr
  obtain ⟨q0,q1,q2,q3,q4,q5,q6,q7,q8,q9,q10,qf⟩:=eleven_cells xr
  clear xr
  try dsimp only at hbr
  try dsimp only at q0 q1 q2 q3 q4 q5 q6 q7 q8 q9 q10 qf
  go_wp2_with (go_at_call 28;go_loud (refine hbr.out.mono ?_;rintro e w8 ⟨⟨pA,pn,pc,tA,tn,tc,qA,qn,qc⟩,rfl,ho8,hb8⟩;dsimp only;have O8:=Lib.hid ho8;have B8:=Lib.hid (xw.out.trans (hb8.mono xw.out.size));have S8:=Lib.hid hb8.size;clear ho8 hb8 q0 q1 q2 q3 q4 q5 q6 q7 q8 q9 q10 qf))
  try simp only [Exit.jump]
  obtain ⟨W9,hW9⟩:∃ W9,W9 = w8.alloc (.cells (opCells y ⟨pA,pn,pc,tA,tn,tc,qA,qn,qc⟩) 26):=⟨_,rfl⟩
  have r9:=Lib.hid (show W9.heap[w8.heap.size]? = some (.cells (opCells y ⟨pA,pn,pc,tA,tn,tc,qA,qn,qc⟩) 26 (0,0)) by rw [hW9];exact heap_alloc_new w8 _)
  have b9:=Lib.hid (show Below w8.heap.size w8 W9 by rw [hW9];exact (Below.refl _ _).alloc (Nat.le_refl _) _)
  unfold opCells at hW9
  try dsimp only at hW9
  rw [← hW9]
  go_ret2
  refine ⟨B8.out.trans (b9.out.mono B8.out.size),?_⟩
  rw [show pairV a b = some [y] by rw [hy'.out];unfold pairV;rw [if_pos HN.out,if_neg (by have:=H15.out;omega),if_pos H15.out]]
  exact ⟨w8.heap.size,_,rfl,B8.out.size,r9.out,(O8.out.kept fun k h1 h2=>b9.out.block k h2).mono xw.out.size⟩
end Go.Proofs.Ytmipodnffhngaaa.Sim
namespace Go.Proofs.Ytmipodnffhngaaa.Sim
open Go.RowKit Top
set_option maxRecDepth 20000
set_option linter.unusedVariables false

theorem right_few {l:List P5.IP} (h:P5.rightV l = true):l.length≤4096:=by
  unfold P5.rightV at h
  simp only [Bool.and_eq_true,decide_eq_true_eq] at h
  omega
set_option maxHeartbeats 8000000 in
theorem pair_66 (w:World) (a b:Ov) (sa sb:OS) (ha:OpIn w a sa) (hb:OpIn w b sb) (hma:Mild a) (hmb:Mild b) (hyes:countsB a = true∧countsB b = true∧subjV a = b.path) (h66:a.kind = 6∧b.kind = 6) (hta:P5.totP (pcs a.pieces)≤2000) (htb:P5.totP (pcs b.pieces)≤2000) :
    Calls Try.prog 45 #[.agg (opCells a sa),.agg (opCells b sb)] w (PairA w (pairV a b)):=by
  obtain ⟨z1,z2,z3,z4,z5⟩:=Top.three_new w (.cells (opCells a sa) 26) (.cells (opCells b sb) 26) (.cells zero11 26)
  obtain ⟨W3,hW3⟩:∃ W3,W3 = ((w.alloc (.cells (opCells a sa) 26)).alloc (.cells (opCells b sb) 26)).alloc (.cells zero11 26):=⟨_,rfl⟩
  rw [← hW3] at z1 z2 z3 z4 z5
  have z4':=Lib.hid z4
  have z5':=Lib.hid z5
  have hbx:=Lib.hid (fun (W:World) (hb:Below W3.heap.size W3 W)=>show W.heap[w.heap.size]? = some (.cells (opCells a sa) 26 (0,0))∧W.heap[w.heap.size + 1]? = some (.cells (opCells b sb) 26 (0,0))∧W.heap[w.heap.size + 1 + 1]? = some (.cells zero11 26 (0,0)) from ⟨(hb.block _ (by have:=z5'.out;omega)).trans z1,(hb.block _ (by have:=z5'.out;omega)).trans z2,(hb.block _ (by have:=z5'.out;omega)).trans z3⟩)
  have hOa:=Lib.hid (fun (W:World) (hb:Below W3.heap.size W3 W)=>ha.below (z4'.out.trans (hb.mono z4'.out.size)))
  have hOb:=Lib.hid (fun (W:World) (hc:Below W3.heap.size W3 W)=>hb.below (z4'.out.trans (hc.mono z4'.out.size)))
  have hsb:=Lib.hid (fun (W:World) (hb:Below W3.heap.size W3 W)=>subject_any W a sa (hOa.out W hb))
  have hca:=Lib.hid (fun (W:World) (hb:Below W3.heap.size W3 W)=>counts_any W a sa (hOa.out W hb) hma)
  have hcb:=Lib.hid (fun (W:World) (hb:Below W3.heap.size W3 W)=>counts_any W b sb (hOb.out W hb) hmb)
  have hfs:P4.eqV (subjV a) b.path = true:=decide_eq_true hyes.2.2
  have hfa:=hyes.1
  have hfb:=hyes.2.1
  rw [hfa] at hca
  rw [hfb] at hcb
  have HS:=Lib.hid hfs
  have HA:=Lib.hid hfa
  have HB:=Lib.hid hfb
  have hkA:=ha.kind
  have hkB:=hb.kind
  have HN:=Lib.hid hyes
  have hal:=ha.label
  have hbl:=hb.label
  have hav:=ha.key
  have hbv:=hb.key
  have hOb0:=Lib.hid hb
  have hOa0:=Lib.hid ha
  have hE12:∀ W:World,(binOp .eql 96 (.agg #[.int .u8 (a.kind:Int),.int .u8 (b.kind:Int)]) (.agg #[.int .u8 1,.int .u8 2])).run Try.prog W = .ok (.bool false) W:=fun W=>by
    have h5:=eq2 W a.kind b.kind 1 2 hkA hkB (by decide) (by decide)
    rw [decide_eq_false (by omega)] at h5
    exact h5
  have hE15:∀ W:World,(binOp .eql 96 (.agg #[.int .u8 (a.kind:Int),.int .u8 (b.kind:Int)]) (.agg #[.int .u8 1,.int .u8 5])).run Try.prog W = .ok (.bool false) W:=fun W=>by
    have h5:=eq2 W a.kind b.kind 1 5 hkA hkB (by decide) (by decide)
    rw [decide_eq_false (by omega)] at h5
    exact h5
  have hE55:∀ W:World,(binOp .eql 96 (.agg #[.int .u8 (a.kind:Int),.int .u8 (b.kind:Int)]) (.agg #[.int .u8 5,.int .u8 5])).run Try.prog W = .ok (.bool false) W:=fun W=>by
    have h5:=eq2 W a.kind b.kind 5 5 hkA hkB (by decide) (by decide)
    rw [decide_eq_false (by omega)] at h5
    exact h5
  have hE44:∀ W:World,(binOp .eql 96 (.agg #[.int .u8 (a.kind:Int),.int .u8 (b.kind:Int)]) (.agg #[.int .u8 4,.int .u8 4])).run Try.prog W = .ok (.bool false) W:=fun W=>by
    have h5:=eq2 W a.kind b.kind 4 4 hkA hkB (by decide) (by decide)
    rw [decide_eq_false (by omega)] at h5
    exact h5
  have hE66:∀ W:World,(binOp .eql 96 (.agg #[.int .u8 (a.kind:Int),.int .u8 (b.kind:Int)]) (.agg #[.int .u8 6,.int .u8 6])).run Try.prog W = .ok (.bool true) W:=fun W=>by
    have h5:=eq2 W a.kind b.kind 6 6 hkA hkB (by decide) (by decide)
    rw [decide_eq_true (by omega)] at h5
    exact h5
  have H66:=Lib.hid h66
  clear h66
  clear ha hb hfs hfa hfb
  have hra:=formed_right (o:=a) (by have h5:=HN.out.1;unfold countsB at h5;rw [Bool.and_eq_true] at h5;exact h5.1) H66.out.1
  have hrb:=formed_right (o:=b) (by have h5:=HN.out.2.1;unfold countsB at h5;rw [Bool.and_eq_true] at h5;exact h5.1) H66.out.2
  have hco:=Lib.hid (fun (W:World) (hb:Below W3.heap.size W3 W)=>P5.compose_ok W sa.qA sb.qA sa.qn sa.qc sb.qn sb.qc (pcs a.pieces) (pcs b.pieces) (by rw [pcs_right hra];exact (hOa.out W hb).pieces) (by rw [pcs_right hrb];exact (hOb.out W hb).pieces) (by have h5:=(hOa.out W hb).pieces.1;have h6:=right_few hra;omega) (by have h5:=(hOb.out W hb).pieces.1;have h6:=right_few hrb;omega) hta htb (by rw [pcs_right hra];exact hra) (by rw [pcs_right hrb];exact hrb))
  obtain ⟨L,hL⟩:∃ L,L = Ltx.comp (Ltx.norm (pcs a.pieces)) (Ltx.norm (pcs b.pieces)):=⟨_,rfl⟩
  rw [← hL] at hco
  have HL:=Lib.hid hL
  clear hL hra hrb
  clear hta htb
  unfold opCells at hsb hca hcb
  unfold opCells zero11 at hW3
  obtain ⟨a0,a1,a2,a3,a4,a5,a6,a7,a8,a9,a10⟩:=op_cells z1
  obtain ⟨b0,b1,b2,b3,b4,b5,b6,b7,b8,b9,b10⟩:=op_cells z2
  clear z1 z2 z3 z4 z5
  unfold opCells
  go_enter Try.func45,Try.ntmps45
  go_wp2_with fail
  refine Top.wp_scope_once 0 rfl ?_
  go_upto_region 2 with fail
  rw [← hW3]
  clear hW3 a0 a1 a2 a3 a4 a5 a6 a7 a8 a9 a10 b0 b1 b2 b3 b4 b5 b6 b7 b8 b9 b10
  rename_i K0 hK0
  refine wp_region_held_drew (S:=(fun W=>Below W3.heap.size W3 W)) (by kernel_rfl) ((Below.refl W3.heap.size W3).drew) (fun hHeld=>?_)
  refine wpAnyH_take (i:=0) (oi:={ dst:=some 9,op:=Go.Op.load 26 (Go.Operand.tmp 2),type:=26,pos:="simplify.go:28",after:=#[],guard:=none }) (v:=?_) rfl (by kernel_rfl) (by kernel_rfl) (by kernel_rfl) (fun _ _ _ h=>h) (Or.inl ⟨by rfl,?_⟩) hHeld ?_
  rotate_left 1
  · intro W hSw;obtain ⟨r1,r2,-⟩:=hbx.out W hSw;obtain ⟨a0,a1,a2,a3,a4,a5,a6,a7,a8,a9,a10⟩:=op_cells r1;obtain ⟨b0,b1,b2,b3,b4,b5,b6,b7,b8,b9,b10⟩:=op_cells r2;go_simp;try with_reducible rfl
  try simp only [Act.put,List.setIfInBounds_toArray,List.set_cons_zero,List.set_cons_succ]
  refine wpAnyH_take (i:=2) (oi:={ dst:=some 11,op:=Go.Op.fieldAddr 26 (Go.Operand.tmp 3) 1,type:=0,pos:="simplify.go:28",after:=#[],guard:=none }) (v:=?_) rfl (by kernel_rfl) (by kernel_rfl) (by kernel_rfl) (fun _ _ _ h=>h) (Or.inl ⟨by rfl,?_⟩) hHeld ?_
  rotate_left 1
  · intro W hSw;obtain ⟨r1,r2,-⟩:=hbx.out W hSw;obtain ⟨a0,a1,a2,a3,a4,a5,a6,a7,a8,a9,a10⟩:=op_cells r1;obtain ⟨b0,b1,b2,b3,b4,b5,b6,b7,b8,b9,b10⟩:=op_cells r2;go_simp;try with_reducible rfl
  try simp only [Act.put,List.setIfInBounds_toArray,List.set_cons_zero,List.set_cons_succ]
  refine wpAnyH_take (i:=3) (oi:={ dst:=some 12,op:=Go.Op.load 22 (Go.Operand.tmp 11),type:=22,pos:="simplify.go:28",after:=#[{ on:=2,ground:=Go.Ground.data }],guard:=none }) (v:=?_) rfl (by kernel_rfl) (by kernel_rfl) (by kernel_rfl) (fun _ _ _ h=>h) (Or.inl ⟨by rfl,?_⟩) hHeld ?_
  rotate_left 1
  · intro W hSw;obtain ⟨r1,r2,-⟩:=hbx.out W hSw;obtain ⟨a0,a1,a2,a3,a4,a5,a6,a7,a8,a9,a10⟩:=op_cells r1;obtain ⟨b0,b1,b2,b3,b4,b5,b6,b7,b8,b9,b10⟩:=op_cells r2;go_simp;try with_reducible rfl
  try simp only [Act.put,List.setIfInBounds_toArray,List.set_cons_zero,List.set_cons_succ]
  refine wpAnyH_ready (rs:=[1]) (by kernel_rfl) (by simp) ?_
  refine AllReadyH.cons (o:={ dst:=some 10,op:=Go.Op.call { callee:=Go.Callee.value (Go.Operand.func 88),args:=#[Go.Operand.tmp 9],argTypes:=#[26] },type:=22,pos:="simplify.go:28",after:=#[{ on:=0,ground:=Go.Ground.data }],guard:=none }) rfl (fun K hK=>?_) AllReadyH.nil
  go_simp
  refine (hsb.out _ hHeld).mono ?_
  rintro e w4 ⟨A4,n4,c4,rfl,hi4,hm4,hbn⟩
  have F1:=Lib.hid (show Below W3.heap.size W3 w4 from hHeld.trans (hbn.mono hHeld.size))
  have I4:=Lib.hid hi4
  clear hbn hi4
  go_simp
  refine hK.out _ _ ?_ (fun hNew=>?_)
  · exact F1.out
  clear hK K hHeld
  have hHeld:=hNew
  clear hNew
  try simp only [Act.put,List.setIfInBounds_toArray,List.set_cons_zero,List.set_cons_succ]
  refine wpAnyH_ready (rs:=[4]) (by kernel_rfl) (by simp) ?_
  refine AllReadyH.cons (o:={ dst:=some 13,op:=Go.Op.call { callee:=Go.Callee.value (Go.Operand.func 75),args:=#[Go.Operand.tmp 10,Go.Operand.tmp 12],argTypes:=#[22,22] },type:=4,pos:="simplify.go:28",after:=#[{ on:=1,ground:=Go.Ground.data },{ on:=3,ground:=Go.Ground.data },{ on:=1,ground:=Go.Ground.chain }],guard:=none }) rfl (fun K hK=>?_) AllReadyH.nil
  go_simp
  refine (P4.same_any _ A4 sb.pA n4 c4 sb.pn sb.pc (subjV a) b.path (its4 I4.out) (its4 (hOb.out _ hHeld).path) hm4).mono ?_
  rw [HS.out]
  rintro e w5 ⟨rfl,k5,rfl⟩
  go_simp
  refine hK.out _ _ ?_ (fun hNew=>?_)
  · exact draws hHeld _
  clear hK K hHeld
  have hHeld:=hNew
  clear hNew
  try simp only [Act.put,List.setIfInBounds_toArray,List.set_cons_zero,List.set_cons_succ]
  refine wpAnyH_take (i:=5) (oi:={ dst:=some 14,op:=Go.Op.unOp Go.UnOp.not 4 (Go.Operand.tmp 13),type:=4,pos:="simplify.go:28",after:=#[{ on:=4,ground:=Go.Ground.data }],guard:=none }) (v:=?_) rfl (by kernel_rfl) (by kernel_rfl) (by kernel_rfl) (fun _ _ _ h=>h) (Or.inl ⟨by rfl,?_⟩) hHeld ?_
  rotate_left 1
  · intro W hSw;skip;go_simp;try with_reducible rfl
  try simp only [Act.put,List.setIfInBounds_toArray,List.set_cons_zero,List.set_cons_succ]
  refine wpAnyH_take (i:=6) (oi:={ dst:=some 15,op:=Go.Op.move (Go.Operand.tmp 14),type:=4,pos:="simplify.go:28",after:=#[{ on:=5,ground:=Go.Ground.data },{ on:=4,ground:=Go.Ground.chain }],guard:=none }) (v:=?_) rfl (by kernel_rfl) (by kernel_rfl) (by kernel_rfl) (fun _ _ _ h=>h) (Or.inl ⟨by rfl,?_⟩) hHeld ?_
  rotate_left 1
  · intro W hSw;skip;go_simp;try with_reducible rfl
  try simp only [Act.put,List.setIfInBounds_toArray,List.set_cons_zero,List.set_cons_succ]
  refine wpAnyH_take (i:=7) (oi:={ dst:=some 16,op:=Go.Op.load 26 (Go.Operand.tmp 2),type:=26,pos:="simplify.go:28",after:=#[{ on:=6,ground:=Go.Ground.guard }],guard:=some (6,false) }) (v:=?_) rfl (by kernel_rfl) (by kernel_rfl) (by kernel_rfl) (fun _ _ _ h=>h) (Or.inl ⟨by rfl,?_⟩) hHeld ?_
  rotate_left 1
  · intro W hSw;obtain ⟨r1,r2,-⟩:=hbx.out W hSw;obtain ⟨a0,a1,a2,a3,a4,a5,a6,a7,a8,a9,a10⟩:=op_cells r1;obtain ⟨b0,b1,b2,b3,b4,b5,b6,b7,b8,b9,b10⟩:=op_cells r2;go_simp;try with_reducible rfl
  try simp only [Act.put,List.setIfInBounds_toArray,List.set_cons_zero,List.set_cons_succ]
  refine wpAnyH_ready (rs:=[8]) (by kernel_rfl) (by simp) ?_
  refine AllReadyH.cons (o:={ dst:=some 17,op:=Go.Op.call { callee:=Go.Callee.value (Go.Operand.func 89),args:=#[Go.Operand.tmp 16],argTypes:=#[26] },type:=4,pos:="simplify.go:28",after:=#[{ on:=7,ground:=Go.Ground.data },{ on:=6,ground:=Go.Ground.chain },{ on:=6,ground:=Go.Ground.guard }],guard:=some (6,false) }) rfl (fun K hK=>?_) AllReadyH.nil
  go_simp
  refine (hca.out _ hHeld).mono ?_
  rintro e w6 ⟨rfl,hbn⟩
  have F2:=Lib.hid (show Below W3.heap.size W3 w6 from hHeld.trans (hbn.mono hHeld.size))
  clear hbn
  go_simp
  refine hK.out _ _ ?_ (fun hNew=>?_)
  · exact F2.out
  clear hK K hHeld
  have hHeld:=hNew
  clear hNew
  try simp only [Act.put,List.setIfInBounds_toArray,List.set_cons_zero,List.set_cons_succ]
  refine wpAnyH_take (i:=9) (oi:={ dst:=some 18,op:=Go.Op.unOp Go.UnOp.not 4 (Go.Operand.tmp 17),type:=4,pos:="simplify.go:28",after:=#[{ on:=8,ground:=Go.Ground.data },{ on:=6,ground:=Go.Ground.guard }],guard:=some (6,false) }) (v:=?_) rfl (by kernel_rfl) (by kernel_rfl) (by kernel_rfl) (fun _ _ _ h=>h) (Or.inl ⟨by rfl,?_⟩) hHeld ?_
  rotate_left 1
  · intro W hSw;skip;go_simp;try with_reducible rfl
  try simp only [Act.put,List.setIfInBounds_toArray,List.set_cons_zero,List.set_cons_succ]
  refine wpAnyH_take (i:=10) (oi:={ dst:=some 19,op:=Go.Op.pick (Go.Operand.tmp 15) (Go.Operand.const (Go.Value.bool true)) (Go.Operand.tmp 18),type:=4,pos:="simplify.go:28",after:=#[{ on:=6,ground:=Go.Ground.data },{ on:=9,ground:=Go.Ground.data }],guard:=none }) (v:=?_) rfl (by kernel_rfl) (by kernel_rfl) (by kernel_rfl) (fun _ _ _ h=>h) (Or.inl ⟨by rfl,?_⟩) hHeld ?_
  rotate_left 1
  · intro W hSw;skip;go_simp;try with_reducible rfl
  try simp only [Act.put,List.setIfInBounds_toArray,List.set_cons_zero,List.set_cons_succ]
  refine wpAnyH_take (i:=11) (oi:={ dst:=some 20,op:=Go.Op.move (Go.Operand.tmp 19),type:=4,pos:="simplify.go:28",after:=#[{ on:=10,ground:=Go.Ground.data },{ on:=8,ground:=Go.Ground.chain }],guard:=none }) (v:=?_) rfl (by kernel_rfl) (by kernel_rfl) (by kernel_rfl) (fun _ _ _ h=>h) (Or.inl ⟨by rfl,?_⟩) hHeld ?_
  rotate_left 1
  · intro W hSw;skip;go_simp;try with_reducible rfl
  try simp only [Act.put,List.setIfInBounds_toArray,List.set_cons_zero,List.set_cons_succ]
  refine wpAnyH_take (i:=12) (oi:={ dst:=some 21,op:=Go.Op.load 26 (Go.Operand.tmp 3),type:=26,pos:="simplify.go:28",after:=#[{ on:=11,ground:=Go.Ground.guard }],guard:=some (11,false) }) (v:=?_) rfl (by kernel_rfl) (by kernel_rfl) (by kernel_rfl) (fun _ _ _ h=>h) (Or.inl ⟨by rfl,?_⟩) hHeld ?_
  rotate_left 1
  · intro W hSw;obtain ⟨r1,r2,-⟩:=hbx.out W hSw;obtain ⟨a0,a1,a2,a3,a4,a5,a6,a7,a8,a9,a10⟩:=op_cells r1;obtain ⟨b0,b1,b2,b3,b4,b5,b6,b7,b8,b9,b10⟩:=op_cells r2;go_simp;try with_reducible rfl
  try simp only [Act.put,List.setIfInBounds_toArray,List.set_cons_zero,List.set_cons_succ]
  refine wpAnyH_ready (rs:=[13]) (by kernel_rfl) (by simp) ?_
  refine AllReadyH.cons (o:={ dst:=some 22,op:=Go.Op.call { callee:=Go.Callee.value (Go.Operand.func 89),args:=#[Go.Operand.tmp 21],argTypes:=#[26] },type:=4,pos:="simplify.go:28",after:=#[{ on:=12,ground:=Go.Ground.data },{ on:=11,ground:=Go.Ground.chain },{ on:=11,ground:=Go.Ground.guard }],guard:=some (11,false) }) rfl (fun K hK=>?_) AllReadyH.nil
  go_simp
  refine (hcb.out _ hHeld).mono ?_
  rintro e w7 ⟨rfl,hbn⟩
  have F3:=Lib.hid (show Below W3.heap.size W3 w7 from hHeld.trans (hbn.mono hHeld.size))
  clear hbn
  go_simp
  refine hK.out _ _ ?_ (fun hNew=>?_)
  · exact F3.out
  clear hK K hHeld
  have hHeld:=hNew
  clear hNew
  try simp only [Act.put,List.setIfInBounds_toArray,List.set_cons_zero,List.set_cons_succ]
  refine wpAnyH_take (i:=14) (oi:={ dst:=some 23,op:=Go.Op.unOp Go.UnOp.not 4 (Go.Operand.tmp 22),type:=4,pos:="simplify.go:28",after:=#[{ on:=13,ground:=Go.Ground.data },{ on:=11,ground:=Go.Ground.guard }],guard:=some (11,false) }) (v:=?_) rfl (by kernel_rfl) (by kernel_rfl) (by kernel_rfl) (fun _ _ _ h=>h) (Or.inl ⟨by rfl,?_⟩) hHeld ?_
  rotate_left 1
  · intro W hSw;skip;go_simp;try with_reducible rfl
  try simp only [Act.put,List.setIfInBounds_toArray,List.set_cons_zero,List.set_cons_succ]
  refine wpAnyH_take (i:=15) (oi:={ dst:=some 24,op:=Go.Op.pick (Go.Operand.tmp 20) (Go.Operand.const (Go.Value.bool true)) (Go.Operand.tmp 23),type:=4,pos:="simplify.go:28",after:=#[{ on:=11,ground:=Go.Ground.data },{ on:=14,ground:=Go.Ground.data }],guard:=none }) (v:=?_) rfl (by kernel_rfl) (by kernel_rfl) (by kernel_rfl) (fun _ _ _ h=>h) (Or.inl ⟨by rfl,?_⟩) hHeld ?_
  rotate_left 1
  · intro W hSw;skip;go_simp;try with_reducible rfl
  try simp only [Act.put,List.setIfInBounds_toArray,List.set_cons_zero,List.set_cons_succ]
  refine wpAnyH_done (by kernel_rfl) ?_ _
  refine hK0 _ _ ?_
  clear hK0
  have BW:=Lib.hid hHeld
  clear hHeld
  obtain ⟨r1,r2,r3⟩:=hbx.out w7 BW.out
  unfold zero11 at r3
  have R3:=Lib.hid r3
  obtain ⟨a0,a1,a2,a3,a4,a5,a6,a7,a8,a9,a10⟩:=op_cells r1
  obtain ⟨b0,b1,b2,b3,b4,b5,b6,b7,b8,b9,b10⟩:=op_cells r2
  obtain ⟨q0,q1,q2,q3,q4,q5,q6,q7,q8,q9,q10,qf⟩:=eleven_cells r3
  have hl3:w.heap.size + 1 + 1 < w7.heap.size:=(Array.getElem?_eq_some_iff.1 r3).1
  clear r1 r2 r3
  go_upto_region 16 with (go_at_call 90;go_loud (refine (hco.out w7 BW.out).mono ?_;rintro e w8 ⟨v8,rfl,ho8,hb8,ht8,hl8⟩;obtain ⟨A8,n8,c8,rfl,hn8,hnc8,hcm8,hi8,hz8⟩:=ho8.shape (P5.low_of (Nat.le_trans ht8 (by decide)));have B8:=Lib.hid (BW.out.trans (hb8.mono BW.out.size));have N8:=Lib.hid hn8;have I8:=Lib.hid hi8;have M8:=Lib.hid (show n8≤c8∧c8≤maxLen∧(A8 = none→c8 = 0)∧n8≤4096 from ⟨hnc8,hcm8,hz8,by rw [hn8];exact hl8⟩);have O8:=Lib.hid ho8;obtain ⟨r1,r2,r3⟩:=hbx.out w8 B8.out;unfold zero11 at r3;have R8:=Lib.hid r3;clear a0 a1 a2 a3 a4 a5 a6 a7 a8 a9 a10 b0 b1 b2 b3 b4 b5 b6 b7 b8 b9 b10 q0 q1 q2 q3 q4 q5 q6 q7 q8 q9 q10 qf hl3;obtain ⟨a0,a1,a2,a3,a4,a5,a6,a7,a8,a9,a10⟩:=op_cells r1;obtain ⟨b0,b1,b2,b3,b4,b5,b6,b7,b8,b9,b10⟩:=op_cells r2;obtain ⟨q0,q1,q2,q3,q4,q5,q6,q7,q8,q9,q10,qf⟩:=eleven_cells r3;have hl3:w.heap.size + 1 + 1 < w8.heap.size:=(Array.getElem?_eq_some_iff.1 r3).1;clear ho8 hb8 ht8 hl8 hn8 hnc8 hcm8 hi8 hz8 r1 r2 r3))
  cases L with
  | nil =>
    have hn0:=N8.out
    simp only [List.length_nil] at hn0
    subst hn0
    go_wp2_with fail
    try simp only [Exit.jump]
    go_ret2
    refine ⟨z4'.out.trans (B8.out.mono z4'.out.size),?_⟩
    rw [show pairV a b = some [] by unfold pairV;rw [if_pos HN.out,if_neg (by have:=H66.out;omega),if_neg (by have:=H66.out;omega),if_neg (by have:=H66.out;omega),if_neg (by have:=H66.out;omega),if_pos H66.out,if_pos HL.out.symm]]
    rfl
  | cons p0 pr =>
    have hn0:((n8:Int) == 0) = false:=by have h5:=N8.out;simp only [List.length_cons] at h5;simp;omega
    obtain ⟨L,hLL⟩:∃ L,L = p0 :: pr:=⟨_,rfl⟩
    rw [← hLL] at HL I8
    have hLn:=Lib.hid (show ¬ L = [] by rw [hLL];simp)
    clear hLL
    go_upto_region 20 with fail
    have r3:=R8.out
    obtain ⟨Xa,hXa,xra,hxw,hxz,hxk⟩:=end_op (o:=b) (s:=sb) (w:=w) (r:=w.heap.size + 1 + 1) (by omega) (z4'.out.trans (B8.out.mono z4'.out.size)) r3
    rw [← hXa]
    clear hXa r3 q0 q1 q2 q3 q4 q5 q6 q7 q8 q9 q10 qf a0 a1 a2 a3 a4 a5 a6 a7 a8 a9 a10 b0 b1 b2 b3 b4 b5 b6 b7 b8 b9 b10
    have xrau:=xra
    unfold opCells at xrau
    obtain ⟨q0,q1,q2,q3,q4,q5,q6,q7,q8,q9,q10,qf⟩:=eleven_cells xrau
    have hla:w.heap.size + 1 + 1 < Xa.heap.size:=by rw [hxz];exact hl3
    clear xrau
    have HXA:=Lib.hid xra
    have HXW:=Lib.hid hxw
    have HXK:=Lib.hid hxk
    have HXZ:=Lib.hid hxz
    clear xra hxw hxz hxk
    go_upto_region 21 with fail
    obtain ⟨X,hX⟩:∃ X,X = Xa.setCell ⟨w.heap.size + 1 + 1,10,none⟩ (.slice A8 n8 c8):=⟨_,rfl⟩
    have xr:X.heap[w.heap.size + 1 + 1]? = some (.cells (opCells { b with pieces:=L.map P5.ipc } ⟨sb.pA,sb.pn,sb.pc,sb.tA,sb.tn,sb.tc,A8,n8,c8⟩) 26 (0,0)):=by rw [hX,heap_setCell_same Xa _ 10 _ _ _ HXA.out];unfold opCells;simp
    have hxw2:Below w.heap.size w X:=by rw [hX];exact HXW.out.setCell (p:=⟨w.heap.size + 1 + 1,10,none⟩) (by show w.heap.size≤w.heap.size + 1 + 1;omega) _
    have hl9:w.heap.size + 1 + 1 < X.heap.size:=by rw [hX,World.size_setCell];exact hla
    have hpX:P5.PcsIn X A8 n8 (L.map P5.ipc):=by
      refine I8.out.where_ ?_ ?_
      · rw [hX,World.size_setCell];rw [HXZ.out];exact Nat.le_refl _
      · intro ad hA hn;have h5:=(World.ownsRow.lt O8.out ad.block (by rw [hA];rfl)).1;have h6:=BW.out.size;have h7:=z5'.out;rw [hX];exact (heap_setCell_other _ _ _ _ (by show ad.block ≠ w.heap.size + 1 + 1;omega)).trans (HXK.out _ (by omega))
    rw [← hX]
    clear hX q0 q1 q2 q3 q4 q5 q6 q7 q8 q9 q10 qf
    have xw:=Lib.hid hxw2
    have h0:=hOb0.out.below hxw2
    have m8:=M8.out
    have ob:=Lib.hid (show OpIn X { b with pieces:=L.map P5.ipc } ⟨sb.pA,sb.pn,sb.pc,sb.tA,sb.tn,sb.tc,A8,n8,c8⟩ from ⟨h0.kind,h0.path,h0.pnc,h0.pcm,h0.pnil,h0.at_,h0.to_,h0.tnc,h0.tcm,h0.tnil,h0.id,h0.label,h0.key,h0.value,hpX,m8.1,m8.2.1,m8.2.2.1,h0.pfew,h0.tfew,Nat.le_trans m8.2.2.2 (by decide),h0.pfit,h0.tfit⟩)
    clear hxw2 h0 hpX m8
    have xr':=Lib.hid xr
    have hbr:=Lib.hid (bare_any X ({ b with pieces:=L.map P5.ipc }) (⟨sb.pA,sb.pn,sb.pc,sb.tA,sb.tn,sb.tc,A8,n8,c8⟩) (ob.out))
    obtain ⟨y,hy⟩:∃ y,y = bareV ({ b with pieces:=L.map P5.ipc }):=⟨_,rfl⟩
    rw [← hy] at hbr
    have hy':=Lib.hid hy
    clear hy
    unfold BareA opCells at hbr
    unfold opCells at xr
    obtain ⟨q0,q1,q2,q3,q4,q5,q6,q7,q8,q9,q10,qf⟩:=eleven_cells xr
    clear xr
    try dsimp only at hbr
    try dsimp only at q0 q1 q2 q3 q4 q5 q6 q7 q8 q9 q10 qf
    go_wp2_with (go_at_call 28;go_loud (refine hbr.out.mono ?_;rintro e w8 ⟨⟨pA,pn,pc,tA,tn,tc,qA,qn,qc⟩,rfl,ho8,hb8⟩;dsimp only;have O8:=Lib.hid ho8;have B8:=Lib.hid (xw.out.trans (hb8.mono xw.out.size));have S8:=Lib.hid hb8.size;clear ho8 hb8 q0 q1 q2 q3 q4 q5 q6 q7 q8 q9 q10 qf))
    try simp only [Exit.jump]
    obtain ⟨W9,hW9⟩:∃ W9,W9 = w8.alloc (.cells (opCells y ⟨pA,pn,pc,tA,tn,tc,qA,qn,qc⟩) 26):=⟨_,rfl⟩
    have r9:=Lib.hid (show W9.heap[w8.heap.size]? = some (.cells (opCells y ⟨pA,pn,pc,tA,tn,tc,qA,qn,qc⟩) 26 (0,0)) by rw [hW9];exact heap_alloc_new w8 _)
    have b9:=Lib.hid (show Below w8.heap.size w8 W9 by rw [hW9];exact (Below.refl _ _).alloc (Nat.le_refl _) _)
    unfold opCells at hW9
    try dsimp only at hW9
    rw [← hW9]
    go_ret2
    refine ⟨B8.out.trans (b9.out.mono B8.out.size),?_⟩
    rw [show pairV a b = some [y] by rw [hy'.out];unfold pairV;rw [if_pos HN.out,if_neg (by have:=H66.out;omega),if_neg (by have:=H66.out;omega),if_neg (by have:=H66.out;omega),if_neg (by have:=H66.out;omega),if_pos H66.out,← HL.out,if_neg hLn.out]]
    exact ⟨w8.heap.size,_,rfl,B8.out.size,r9.out,(O8.out.kept fun k h1 h2=>b9.out.block k h2).mono xw.out.size⟩
end Go.Proofs.Ytmipodnffhngaaa.Sim
namespace Go.Proofs.Ytmipodnffhngaaa.Sim
open Go.RowKit Top
set_option maxRecDepth 20000
set_option linter.unusedVariables false

def Joins (a b:Ov):Prop:=a.kind = 6→b.kind = 6→P5.totP (pcs a.pieces)≤2000∧P5.totP (pcs b.pieces)≤2000
theorem pair_any (w:World) (a b:Ov) (sa sb:OS) (ha:OpIn w a sa) (hb:OpIn w b sb) (hma:Mild a) (hmb:Mild b) (hj:Joins a b) :
    Calls Try.prog 45 #[.agg (opCells a sa),.agg (opCells b sb)] w (PairA w (pairV a b)):=by
  by_cases h:countsB a = true∧countsB b = true∧subjV a = b.path
  · by_cases h12:a.kind = 1∧b.kind = 2
    · exact pair_12 w a b sa sb ha hb hma hmb h h12
    by_cases h15:a.kind = 1∧b.kind = 5
    · exact pair_15 w a b sa sb ha hb hma hmb h h15
    by_cases h55:a.kind = 5∧b.kind = 5
    · exact pair_55 w a b sa sb ha hb hma hmb h h55
    by_cases h44:a.kind = 4∧b.kind = 4
    · by_cases hk:a.key = b.key
      · exact pair_44 w a b sa sb ha hb hma hmb h h44 hk
      · exact pair_44n w a b sa sb ha hb hma hmb h h44 hk
    by_cases h66:a.kind = 6∧b.kind = 6
    · exact pair_66 w a b sa sb ha hb hma hmb h h66 (hj h66.1 h66.2).1 (hj h66.1 h66.2).2
    exact pair_none w a b sa sb ha hb hma hmb h h12 h15 h55 h44 h66
  · exact pair_not w a b sa sb ha hb hma hmb h
end Go.Proofs.Ytmipodnffhngaaa.Sim
