/- The law: what takes a Move back. -/
import Derived.Test.YtpoenlhikanooaaMgAM
import Derived.Test.YtpoenlhikanooaaMgAL
import Derived.Test.YtpoenlhikanooaaTopS
import Derived.Deep.CutBlock
set_option linter.all false
namespace Go.Proofs.Ytpoenlhikanooaa.Shf
open Go.RowKit Top
set_option maxRecDepth 20000
set_option linter.unusedVariables false

section
variable {P:Program} {ops:Array Oper} {Q:Exit→Act→World→Prop} {md:Region.Mode} {S S':World→Prop} {l:Nat}
theorem wpAnyL_three {i j k:Nat} {o o' o'':Oper} {fuel:Nat} {listed:Array Bool} {a:Act} {w:World} (hr:Region.ready md ops listed = [i,j,k]) (ho:ops[i]? = some o) (ho':ops[j]? = some o') (ho'':ops[k]? = some o'') (hil:i ≠ l) (hjl:j ≠ l) (hkl:k ≠ l)
    (h:∀ K':Act→World→Prop,Shut (∀ a w,S w→(S w→wpAnyL P md ops Q S l fuel (listed.setIfInBounds i true) a w)→K' a w)→if Region.wanted o (yielded ops a.tmps) = true then Oper.wp P o a w K' Q else K' (a.put o.dst undef) w)
    (h':∀ K':Act→World→Prop,Shut (∀ a w,S w→(S w→wpAnyL P md ops Q S l fuel (listed.setIfInBounds j true) a w)→K' a w)→if Region.wanted o' (yielded ops a.tmps) = true then Oper.wp P o' a w K' Q else K' (a.put o'.dst undef) w)
    (h'':∀ K':Act→World→Prop,Shut (∀ a w,S w→(S w→wpAnyL P md ops Q S l fuel (listed.setIfInBounds k true) a w)→K' a w)→if Region.wanted o'' (yielded ops a.tmps) = true then Oper.wp P o'' a w K' Q else K' (a.put o''.dst undef) w):wpAnyL P md ops Q S l (fuel + 1) listed a w:=by
  refine ⟨fun h0=>(by rw [hr] at h0;cases h0),fun q hq=>?_⟩
  rw [hr] at hq
  rcases List.mem_cons.1 hq with rfl | hq
  · simp only [if_neg hil]
    exact wpOp_step ho fun K' hK=>h K' (fun a w hS hW=>hK a w ⟨hS,hW hS⟩)
  · rcases List.mem_cons.1 hq with rfl | hq
    · simp only [if_neg hjl]
      exact wpOp_step ho' fun K' hK=>h' K' (fun a w hS hW=>hK a w ⟨hS,hW hS⟩)
    · obtain rfl:=List.mem_singleton.1 hq
      simp only [if_neg hkl]
      exact wpOp_step ho'' fun K' hK=>h'' K' (fun a w hS hW=>hK a w ⟨hS,hW hS⟩)
end
theorem own_away {base:Nat} {w w':World} {v:Value} {xs:List Int} {g:Nat} {cs:Array Value} (h:P4.OwnI base w v xs) (hg:w.heap[g]? = some (.cells cs 26 (0,0))) (hk:∀ k,k ≠ g→w'.heap[k]? = w.heap[k]?):P4.OwnI base w' v xs:=by
  refine ⟨h.1,?_⟩
  rcases h.2 with h2 | ⟨g2,cap,cur,rfl,hb,hgg,hr⟩
  · exact .inl h2
  · refine .inr ⟨g2,cap,cur,rfl,hb,?_,hr⟩
    rw [hk g2 ?_]
    · exact hgg
    · intro e
      rw [e,hg] at hgg
      injection hgg with h3
      injection h3 with h4 h5 h6
      exact absurd h5 (by decide)
theorem own_qn {base:Nat} {w:World} {A:Option Addr} {n c:Nat} (h:OwnQ base w (.slice A n c) []):n = 0:=by
  rcases h.2 with ⟨e,h0⟩ | ⟨g,cap,cur,e,-⟩
  · have h1:=congrArg (fun v=>match v with | Value.slice _ m _=>m | _=>0) e
    exact h1
  · have h1:=congrArg (fun v=>match v with | Value.slice _ m _=>m | _=>0) e
    exact h1
theorem undo_form (c:Ch):∃ (k:Nat) (p:List Int) (i:Int) (t:List Int),undoV c = ⟨k,p,i,t,0,false,[],[],[],false,[]⟩:=by
  unfold undoV
  split
  · exact ⟨_,_,_,_,rfl⟩
  · exact ⟨_,_,_,_,rfl⟩
set_option maxHeartbeats 64000000 in
theorem lawUndo_any (w:World) (o:Ov) (s:OS) (h:OpRaw w o s):Calls Try.prog 5 #[.agg (opCells o s)] w fun e w'=>e = .returned (.bool true)∧Below w.heap.size w w':=by
  obtain ⟨W1,hW1⟩:∃ W1,W1 = w.alloc (.cells (opCells o s) 26):=⟨_,rfl⟩
  have z1:=Lib.hid (show W1.heap[w.heap.size]? = some (.cells (opCells o s) 26 (0,0)) by rw [hW1];exact heap_alloc_new w _)
  have z4':=Lib.hid (show Below w.heap.size w W1 by rw [hW1];exact (Below.refl _ _).alloc (Nat.le_refl _) _)
  have z5':=Lib.hid (show W1.heap.size = w.heap.size + 1 by rw [hW1];simp)
  have hrow:=Lib.hid (fun (W:World) (hb:Below W1.heap.size W1 W)=>(hb.block w.heap.size (Array.getElem?_eq_some_iff.1 z1.out).1).trans z1.out)
  have hli:=Lib.hid (light_any W1 o s (h.below z4'.out) 300 (by omega))
  have hop:=Lib.hid (fun (hl:lightB o 300 = true) (W:World) (hb:Below w.heap.size w W)=>(h.below hb).op (light_slen hl (by omega)).2.1 (light_slen hl (by omega)).2.2.1 (light_slen hl (by omega)).2.2.2)
  obtain ⟨o0,o1,o2,o3,o4,o5,o6,o7,o8,o9,o10⟩:=op_cells z1.out
  rw [hW1] at o0 o1 o2 o3 o4 o5 o6 o7 o8 o9 o10
  cases hlb:lightB o 300 with
  | false =>
    rw [hlb] at hli
    unfold opCells at hW1 hli
    unfold opCells
    clear h hop hlb
    go_enter Try.func5,Try.ntmps5
    go_wp2_with (first | (go_at_call 14;go_loud (rw [← hW1];refine hli.out.mono ?_;rintro e w1 ⟨rfl,hb1⟩;have E1:=Lib.hid hb1;have B1:=Lib.hid (z4'.out.trans (hb1.mono z4'.out.size));clear hb1 o0 o1 o2 o3 o4 o5 o6 o7 o8 o9 o10;obtain ⟨o0,o1,o2,o3,o4,o5,o6,o7,o8,o9,o10⟩:=op_cells (hrow.out w1 E1.out))) | (go_at_call 15;go_loud (refine (works_any _).mono ?_;rintro e w9 ⟨rfl,hb9⟩;have B9:=Lib.hid (Below.trans (B1.out) (hb9.mono (Below.size (B1.out))));clear hb9)))
    go_ret
    exact ⟨rfl,B9.out⟩
  | true =>
    rw [hlb] at hli
    have hsl:=(light_slen hlb (by omega)).1
    obtain ⟨k,p,i,t,hU⟩:=undo_form (chV o)
    have hu1:=Lib.hid (fun (W:World) (hb:Below w.heap.size w W)=>Undo_any W o s (hop.out hlb W hb) hsl)
    have hu2:=Lib.hid (fun (W:World) (hb:Below w.heap.size w W)=>rUndo_any W o s (hop.out hlb W hb) hsl)
    simp only [hU] at hu1 hu2
    unfold opCells at hW1 hli hu1 hu2
    unfold opCells
    clear h hop hlb hsl hU
    dsimp only at hu1 hu2
    go_enter Try.func5,Try.ntmps5
    go_upto_region 3 with (go_at_call 14;go_loud (rw [← hW1];refine hli.out.mono ?_;rintro e w1 ⟨rfl,hb1⟩;have E1:=Lib.hid hb1;have B1:=Lib.hid (z4'.out.trans (hb1.mono z4'.out.size));clear hb1 o0 o1 o2 o3 o4 o5 o6 o7 o8 o9 o10;obtain ⟨o0,o1,o2,o3,o4,o5,o6,o7,o8,o9,o10⟩:=op_cells (hrow.out w1 E1.out)))
    clear o0 o1 o2 o3 o4 o5 o6 o7 o8 o9 o10
    go_cut [3,4] from 5 (fun v3 v4 wc=>∃ (g3 g4:Nat) (s1 s2:OS),v3 = .pointer (some ⟨g3,0,none⟩)∧v4 = .pointer (some ⟨g4,0,none⟩)∧wc.heap[g3]? = some (.cells (opCells (⟨k,p,i,t,0,false,[],[],[],false,[]⟩:Ov) s1) 26 (0,0))∧wc.heap[g4]? = some (.cells (opCells (⟨k,p,i,t,0,false,[],[],[],false,[]⟩:Ov) s2) 26 (0,0))∧P4.OwnI w.heap.size wc (.slice s1.pA s1.pn s1.pc) p∧P4.OwnI w.heap.size wc (.slice s1.tA s1.tn s1.tc) t∧P4.OwnI w.heap.size wc (.slice s2.pA s2.pn s2.pc) p∧P4.OwnI w.heap.size wc (.slice s2.tA s2.tn s2.tc) t∧s1.qn = 0∧Below w.heap.size w wc)
    case first =>
      rename_i K0 hK0
      refine Top.wp_region_L (fun W=>Below w1.heap.size w1 W) 7 rfl ((Below.refl w1.heap.size w1).drew) (fun hHeld=>?_)
      refine Top.wpAnyL_take (i:=0) (oi:={ dst:=some 9,op:=Go.Op.load 26 (Go.Operand.tmp 1),type:=26,pos:="law.go:46",after:=#[],guard:=none }) (v:=?_) rfl (by kernel_rfl) (by kernel_rfl) (by kernel_rfl) (by kernel_rfl) (fun _ _ _ h=>h) (Or.inl ⟨by rfl,?_⟩) hHeld ?_
      rotate_left 1
      · intro W hSw;obtain ⟨o0,o1,o2,o3,o4,o5,o6,o7,o8,o9,o10⟩:=op_cells (hrow.out W (E1.out.trans (hSw.mono E1.out.size)));go_simp;try with_reducible rfl
      try simp only [Act.put,List.setIfInBounds_toArray,List.set_cons_zero,List.set_cons_succ]
      refine Top.wpAnyL_take (i:=2) (oi:={ dst:=some 11,op:=Go.Op.load 26 (Go.Operand.tmp 1),type:=26,pos:="law.go:46",after:=#[],guard:=none }) (v:=?_) rfl (by kernel_rfl) (by kernel_rfl) (by kernel_rfl) (by kernel_rfl) (fun _ _ _ h=>h) (Or.inl ⟨by rfl,?_⟩) hHeld ?_
      rotate_left 1
      · intro W hSw;obtain ⟨o0,o1,o2,o3,o4,o5,o6,o7,o8,o9,o10⟩:=op_cells (hrow.out W (E1.out.trans (hSw.mono E1.out.size)));go_simp;try with_reducible rfl
      try simp only [Act.put,List.setIfInBounds_toArray,List.set_cons_zero,List.set_cons_succ]
      obtain ⟨D,hD⟩:∃ D,D = w1.drew:=⟨_,rfl⟩
      rw [← hD] at hHeld ⊢
      clear hD
      have BB:=Lib.hid hHeld
      refine wpAnyL_three (i:=1) (j:=4) (k:=5) (by kernel_rfl) (show _ = some { dst:=some 10,op:=Go.Op.call { callee:=Go.Callee.value (Go.Operand.func 22),args:=#[Go.Operand.tmp 9],argTypes:=#[26] },type:=26,pos:="law.go:46",after:=#[{ on:=0,ground:=Go.Ground.data }],guard:=none } from rfl) (show _ = some { dst:=some 3,op:=Go.Op.alloc 26,type:=0,pos:="law.go:46",after:=#[],guard:=none } from rfl) (show _ = some { dst:=some 4,op:=Go.Op.alloc 26,type:=0,pos:="law.go:46",after:=#[],guard:=none } from rfl) (by decide) (by decide) (by decide) (fun K hK=>?_) (fun K hK=>?_) (fun K hK=>?_)
      · go_simp
        refine (hu1.out D (B1.out.trans (BB.out.mono B1.out.size))).mono ?_
        have BBo:=BB
        rintro e y1 ⟨s1,rfl,ho,hb⟩
        have BB:=Lib.hid (BB.out.trans (hb.mono BB.out.size))
        have P1:=Lib.hid (own_mono ho.path (base':=w.heap.size) (Below.size (B1.out.trans (BBo.out.mono B1.out.size))))
        have T1:=Lib.hid (own_mono ho.to_ (base':=w.heap.size) (Below.size (B1.out.trans (BBo.out.mono B1.out.size))))
        have Q1:=Lib.hid (own_qn ho.pieces)
        clear ho hb BBo
        go_simp
        refine hK.out _ _ ?_ (fun hNew=>?_)
        · exact BB.out
        clear hK K hHeld
        have hHeld:=hNew
        clear hNew
        try simp only [Act.put,List.setIfInBounds_toArray,List.set_cons_zero,List.set_cons_succ]
        refine wpAnyL_three (i:=3) (j:=4) (k:=5) (by kernel_rfl) (show _ = some { dst:=some 12,op:=Go.Op.call { callee:=Go.Callee.value (Go.Operand.func 23),args:=#[Go.Operand.tmp 11],argTypes:=#[26] },type:=26,pos:="law.go:46",after:=#[{ on:=2,ground:=Go.Ground.data },{ on:=1,ground:=Go.Ground.chain }],guard:=none } from rfl) (show _ = some { dst:=some 3,op:=Go.Op.alloc 26,type:=0,pos:="law.go:46",after:=#[],guard:=none } from rfl) (show _ = some { dst:=some 4,op:=Go.Op.alloc 26,type:=0,pos:="law.go:46",after:=#[],guard:=none } from rfl) (by decide) (by decide) (by decide) (fun K hK=>?_) (fun K hK=>?_) (fun K hK=>?_)
        · go_simp
          refine (hu2.out y1 (B1.out.trans (BB.out.mono B1.out.size))).mono ?_
          have BBo:=BB
          rintro e y2 ⟨s2,rfl,ho,hb⟩
          have BB:=Lib.hid (BB.out.trans (hb.mono BB.out.size))
          have P1:=Lib.hid (Top.own_kept (w':=y2) P1.out fun k _ h2=>hb.block k h2)
          have T1:=Lib.hid (Top.own_kept (w':=y2) T1.out fun k _ h2=>hb.block k h2)
          have P2:=Lib.hid (own_mono ho.path (base':=w.heap.size) (Below.size (B1.out.trans (BBo.out.mono B1.out.size))))
          have T2:=Lib.hid (own_mono ho.to_ (base':=w.heap.size) (Below.size (B1.out.trans (BBo.out.mono B1.out.size))))
          have Q2:=Lib.hid (own_qn ho.pieces)
          clear ho hb BBo
          go_simp
          refine hK.out _ _ ?_ (fun hNew=>?_)
          · exact BB.out
          clear hK K hHeld
          have hHeld:=hNew
          clear hNew
          try simp only [Act.put,List.setIfInBounds_toArray,List.set_cons_zero,List.set_cons_succ]
          refine Top.wpAnyL_two (i:=4) (j:=5) (by kernel_rfl) (show _ = some { dst:=some 3,op:=Go.Op.alloc 26,type:=0,pos:="law.go:46",after:=#[],guard:=none } from rfl) (show _ = some { dst:=some 4,op:=Go.Op.alloc 26,type:=0,pos:="law.go:46",after:=#[],guard:=none } from rfl) (by decide) (by decide) (fun K hK=>?_) (fun K hK=>?_)
          · go_simp
            obtain ⟨x3,hX⟩:∃ Q9,Q9 = y2.alloc (.cells zero11 26):=⟨_,rfl⟩
            have hX':x3 = y2.alloc (.cells #[.int .u8 0,.slice none 0 0,.int .i64 0,.slice none 0 0,.int .u64 0,.bool false,.string ⟨#[]⟩,.string ⟨#[]⟩,.string ⟨#[]⟩,.bool false,.slice none 0 0] 26):=hX
            rw [← hX']
            have hb:Below y2.heap.size y2 x3:=by rw [hX];exact (Below.refl _ _).alloc (Nat.le_refl _) _
            have rn:x3.heap[y2.heap.size]? = some (.cells zero11 26 (0,0)):=by rw [hX];exact heap_alloc_new y2 _
            have hge:w1.heap.size≤y2.heap.size:=BB.out.size
            have BB:=Lib.hid (BB.out.trans (hb.mono BB.out.size))
            have P1:=Lib.hid (Top.own_kept (w':=x3) P1.out fun k _ h2=>hb.block k h2)
            have T1:=Lib.hid (Top.own_kept (w':=x3) T1.out fun k _ h2=>hb.block k h2)
            have P2:=Lib.hid (Top.own_kept (w':=x3) P2.out fun k _ h2=>hb.block k h2)
            have T2:=Lib.hid (Top.own_kept (w':=x3) T2.out fun k _ h2=>hb.block k h2)
            obtain ⟨g3,hg⟩:∃ g,g = y2.heap.size:=⟨_,rfl⟩
            rw [← hg] at rn hge ⊢
            have R3:=Lib.hid rn
            have G3:=Lib.hid hge
            clear hX hX' hb rn hge hg
            refine hK.out _ _ ?_ (fun hNew=>?_)
            · exact BB.out
            clear hK K hHeld
            have hHeld:=hNew
            clear hNew
            try simp only [Act.put,List.setIfInBounds_toArray,List.set_cons_zero,List.set_cons_succ]
            refine Top.wpAnyL_one (i:=5) (o:={ dst:=some 4,op:=Go.Op.alloc 26,type:=0,pos:="law.go:46",after:=#[],guard:=none }) (by kernel_rfl) rfl (by decide) (fun K hK=>?_)
            go_simp
            obtain ⟨x4,hX⟩:∃ Q9,Q9 = x3.alloc (.cells zero11 26):=⟨_,rfl⟩
            have hX':x4 = x3.alloc (.cells #[.int .u8 0,.slice none 0 0,.int .i64 0,.slice none 0 0,.int .u64 0,.bool false,.string ⟨#[]⟩,.string ⟨#[]⟩,.string ⟨#[]⟩,.bool false,.slice none 0 0] 26):=hX
            rw [← hX']
            have hb:Below x3.heap.size x3 x4:=by rw [hX];exact (Below.refl _ _).alloc (Nat.le_refl _) _
            have rn:x4.heap[x3.heap.size]? = some (.cells zero11 26 (0,0)):=by rw [hX];exact heap_alloc_new x3 _
            have hne0:g3 ≠ x3.heap.size:=Nat.ne_of_lt (Array.getElem?_eq_some_iff.1 R3.out).1
            have hge:w1.heap.size≤x3.heap.size:=BB.out.size
            have BB:=Lib.hid (BB.out.trans (hb.mono BB.out.size))
            have P1:=Lib.hid (Top.own_kept (w':=x4) P1.out fun k _ h2=>hb.block k h2)
            have T1:=Lib.hid (Top.own_kept (w':=x4) T1.out fun k _ h2=>hb.block k h2)
            have P2:=Lib.hid (Top.own_kept (w':=x4) P2.out fun k _ h2=>hb.block k h2)
            have T2:=Lib.hid (Top.own_kept (w':=x4) T2.out fun k _ h2=>hb.block k h2)
            have R3:=Lib.hid ((hb.block _ (Array.getElem?_eq_some_iff.1 R3.out).1).trans R3.out)
            obtain ⟨g4,hg⟩:∃ g,g = x3.heap.size:=⟨_,rfl⟩
            rw [← hg] at rn hge hne0 ⊢
            have R4:=Lib.hid rn
            have G4:=Lib.hid hge
            have NE:=Lib.hid (show g3 ≠ g4 from hne0)
            clear hne0
            clear hX hX' hb rn hge hg
            refine hK.out _ _ ?_ (fun hNew=>?_)
            · exact BB.out
            clear hK K hHeld
            have hHeld:=hNew
            clear hNew
            try simp only [Act.put,List.setIfInBounds_toArray,List.set_cons_zero,List.set_cons_succ]
            have y3:=R3.out
            unfold zero11 at y3
            obtain ⟨q0,q1,q2,q3,q4,q5,q6,q7,q8,q9,q10,qf⟩:=eleven_cells y3
            refine Top.wpAnyL_one (i:=6) (o:={ dst:=none,op:=Go.Op.store 26 (Go.Operand.tmp 3) (Go.Operand.tmp 10),type:=0,pos:="law.go:46",after:=#[{ on:=4,ground:=Go.Ground.data },{ on:=1,ground:=Go.Ground.data },{ on:=3,ground:=Go.Ground.chain },{ on:=0,ground:=Go.Ground.phase },{ on:=1,ground:=Go.Ground.phase },{ on:=2,ground:=Go.Ground.textOnly Go.Departure.lateStores },{ on:=3,ground:=Go.Ground.textOnly Go.Departure.lateStoresUnsure },{ on:=4,ground:=Go.Ground.phase },{ on:=5,ground:=Go.Ground.phase }],guard:=none }) (by kernel_rfl) rfl (by decide) (fun K hK=>?_)
            go_simp
            obtain ⟨X,hX,RX,-,ZX,KX⟩:=end_op (w:=w1) (o:=(⟨k,p,i,t,0,false,[],[],[],false,[]⟩:Ov)) (s:=s1) (r:=g3) G3.out BB.out (show x4.heap[g3]? = some (.cells #[.int .u8 0,.slice none 0 0,.int .i64 0,.slice none 0 0,.int .u64 0,.bool false,.string ⟨#[]⟩,.string ⟨#[]⟩,.string ⟨#[]⟩,.bool false,.slice none 0 0] _ (0,0)) from R3.out)
            have BX:Below w1.heap.size w1 X:=by rw [hX];exact below_op BB.out G3.out
            have hX':X = (((((((((((x4.setCell ⟨g3,0,none⟩ (.int .u8 (k:Int))).setCell ⟨g3,1,none⟩ (.slice s1.pA s1.pn s1.pc)).setCell ⟨g3,2,none⟩ (.int .i64 i)).setCell ⟨g3,3,none⟩ (.slice s1.tA s1.tn s1.tc)).setCell ⟨g3,4,none⟩ (.int .u64 0)).setCell ⟨g3,5,none⟩ (.bool false)).setCell ⟨g3,6,none⟩ (.string ⟨#[]⟩)).setCell ⟨g3,7,none⟩ (.string ⟨#[]⟩)).setCell ⟨g3,8,none⟩ (.string ⟨#[]⟩)).setCell ⟨g3,9,none⟩ (.bool false)).setCell ⟨g3,10,none⟩ (.slice s1.qA s1.qn s1.qc)):=hX
            rw [← hX']
            clear q0 q1 q2 q3 q4 q5 q6 q7 q8 q9 q10 qf y3
            refine hK.out _ _ ?_ (fun hNew=>?_)
            · exact BX
            clear hK K hHeld hX hX'
            have hHeld:=hNew
            clear hNew
            try simp only [Act.put,List.setIfInBounds_toArray,List.set_cons_zero,List.set_cons_succ]
            have R4X:=(KX g4 (Ne.symm NE.out)).trans R4.out
            have y3:=R4X
            unfold zero11 at y3
            obtain ⟨q0,q1,q2,q3,q4,q5,q6,q7,q8,q9,q10,qf⟩:=eleven_cells y3
            refine Top.wpAnyL_last (o:={ dst:=none,op:=Go.Op.store 26 (Go.Operand.tmp 4) (Go.Operand.tmp 12),type:=0,pos:="law.go:46",after:=#[{ on:=5,ground:=Go.Ground.data },{ on:=3,ground:=Go.Ground.data },{ on:=6,ground:=Go.Ground.chain },{ on:=0,ground:=Go.Ground.phase },{ on:=1,ground:=Go.Ground.phase },{ on:=2,ground:=Go.Ground.phase },{ on:=3,ground:=Go.Ground.phase },{ on:=4,ground:=Go.Ground.phase },{ on:=5,ground:=Go.Ground.phase },{ on:=6,ground:=Go.Ground.phase }],guard:=none }) (by kernel_rfl) rfl (fun K hK=>?_)
            go_simp
            obtain ⟨Y,hY,RY,-,ZY,KY⟩:=end_op (w:=w1) (o:=(⟨k,p,i,t,0,false,[],[],[],false,[]⟩:Ov)) (s:=s2) (r:=g4) G4.out BX (show X.heap[g4]? = some (.cells #[.int .u8 0,.slice none 0 0,.int .i64 0,.slice none 0 0,.int .u64 0,.bool false,.string ⟨#[]⟩,.string ⟨#[]⟩,.string ⟨#[]⟩,.bool false,.slice none 0 0] _ (0,0)) from R4X)
            have BY:Below w1.heap.size w1 Y:=by rw [hY];exact below_op BX G4.out
            have hY':Y = (((((((((((X.setCell ⟨g4,0,none⟩ (.int .u8 (k:Int))).setCell ⟨g4,1,none⟩ (.slice s2.pA s2.pn s2.pc)).setCell ⟨g4,2,none⟩ (.int .i64 i)).setCell ⟨g4,3,none⟩ (.slice s2.tA s2.tn s2.tc)).setCell ⟨g4,4,none⟩ (.int .u64 0)).setCell ⟨g4,5,none⟩ (.bool false)).setCell ⟨g4,6,none⟩ (.string ⟨#[]⟩)).setCell ⟨g4,7,none⟩ (.string ⟨#[]⟩)).setCell ⟨g4,8,none⟩ (.string ⟨#[]⟩)).setCell ⟨g4,9,none⟩ (.bool false)).setCell ⟨g4,10,none⟩ (.slice s2.qA s2.qn s2.qc)):=hY
            rw [← hY']
            clear q0 q1 q2 q3 q4 q5 q6 q7 q8 q9 q10 qf y3
            refine hK _ _ ?_
            clear hK K hY hY'
            try simp only [Act.put,List.setIfInBounds_toArray,List.set_cons_zero,List.set_cons_succ]
            have F:=Lib.hid (show Y.heap[g3]? = some (.cells (opCells (⟨k,p,i,t,0,false,[],[],[],false,[]⟩:Ov) s1) 26 (0,0))∧Y.heap[g4]? = some (.cells (opCells (⟨k,p,i,t,0,false,[],[],[],false,[]⟩:Ov) s2) 26 (0,0))∧P4.OwnI w.heap.size Y (.slice s1.pA s1.pn s1.pc) p∧P4.OwnI w.heap.size Y (.slice s1.tA s1.tn s1.tc) t∧P4.OwnI w.heap.size Y (.slice s2.pA s2.pn s2.pc) p∧P4.OwnI w.heap.size Y (.slice s2.tA s2.tn s2.tc) t∧s1.qn = 0∧Below w.heap.size w Y from ⟨(KY g3 NE.out).trans RX,RY,own_away (own_away P1.out R3.out KX) R4X KY,own_away (own_away T1.out R3.out KX) R4X KY,own_away (own_away P2.out R3.out KX) R4X KY,own_away (own_away T2.out R3.out KX) R4X KY,Q1.out,B1.out.trans (BY.mono B1.out.size)⟩)
            refine wpAny_done (by kernel_rfl) ?_ _
            refine hK0 _ _ ?_
            clear hK0 RX RY KX KY ZX ZY BX BY R4X hHeld
            go_wp2_with fail
            go_meet
            exact ⟨g3,g4,s1,s2,rfl,rfl,F.out⟩
          · go_simp
            obtain ⟨x5,hX⟩:∃ Q9,Q9 = y2.alloc (.cells zero11 26):=⟨_,rfl⟩
            have hX':x5 = y2.alloc (.cells #[.int .u8 0,.slice none 0 0,.int .i64 0,.slice none 0 0,.int .u64 0,.bool false,.string ⟨#[]⟩,.string ⟨#[]⟩,.string ⟨#[]⟩,.bool false,.slice none 0 0] 26):=hX
            rw [← hX']
            have hb:Below y2.heap.size y2 x5:=by rw [hX];exact (Below.refl _ _).alloc (Nat.le_refl _) _
            have rn:x5.heap[y2.heap.size]? = some (.cells zero11 26 (0,0)):=by rw [hX];exact heap_alloc_new y2 _
            have hge:w1.heap.size≤y2.heap.size:=BB.out.size
            have BB:=Lib.hid (BB.out.trans (hb.mono BB.out.size))
            have P1:=Lib.hid (Top.own_kept (w':=x5) P1.out fun k _ h2=>hb.block k h2)
            have T1:=Lib.hid (Top.own_kept (w':=x5) T1.out fun k _ h2=>hb.block k h2)
            have P2:=Lib.hid (Top.own_kept (w':=x5) P2.out fun k _ h2=>hb.block k h2)
            have T2:=Lib.hid (Top.own_kept (w':=x5) T2.out fun k _ h2=>hb.block k h2)
            obtain ⟨g4,hg⟩:∃ g,g = y2.heap.size:=⟨_,rfl⟩
            rw [← hg] at rn hge ⊢
            have R4:=Lib.hid rn
            have G4:=Lib.hid hge
            clear hX hX' hb rn hge hg
            refine hK.out _ _ ?_ (fun hNew=>?_)
            · exact BB.out
            clear hK K hHeld
            have hHeld:=hNew
            clear hNew
            try simp only [Act.put,List.setIfInBounds_toArray,List.set_cons_zero,List.set_cons_succ]
            refine Top.wpAnyL_one (i:=4) (o:={ dst:=some 3,op:=Go.Op.alloc 26,type:=0,pos:="law.go:46",after:=#[],guard:=none }) (by kernel_rfl) rfl (by decide) (fun K hK=>?_)
            go_simp
            obtain ⟨x6,hX⟩:∃ Q9,Q9 = x5.alloc (.cells zero11 26):=⟨_,rfl⟩
            have hX':x6 = x5.alloc (.cells #[.int .u8 0,.slice none 0 0,.int .i64 0,.slice none 0 0,.int .u64 0,.bool false,.string ⟨#[]⟩,.string ⟨#[]⟩,.string ⟨#[]⟩,.bool false,.slice none 0 0] 26):=hX
            rw [← hX']
            have hb:Below x5.heap.size x5 x6:=by rw [hX];exact (Below.refl _ _).alloc (Nat.le_refl _) _
            have rn:x6.heap[x5.heap.size]? = some (.cells zero11 26 (0,0)):=by rw [hX];exact heap_alloc_new x5 _
            have hne0:g4 ≠ x5.heap.size:=Nat.ne_of_lt (Array.getElem?_eq_some_iff.1 R4.out).1
            have hge:w1.heap.size≤x5.heap.size:=BB.out.size
            have BB:=Lib.hid (BB.out.trans (hb.mono BB.out.size))
            have P1:=Lib.hid (Top.own_kept (w':=x6) P1.out fun k _ h2=>hb.block k h2)
            have T1:=Lib.hid (Top.own_kept (w':=x6) T1.out fun k _ h2=>hb.block k h2)
            have P2:=Lib.hid (Top.own_kept (w':=x6) P2.out fun k _ h2=>hb.block k h2)
            have T2:=Lib.hid (Top.own_kept (w':=x6) T2.out fun k _ h2=>hb.block k h2)
            have R4:=Lib.hid ((hb.block _ (Array.getElem?_eq_some_iff.1 R4.out).1).trans R4.out)
            obtain ⟨g3,hg⟩:∃ g,g = x5.heap.size:=⟨_,rfl⟩
            rw [← hg] at rn hge hne0 ⊢
            have R3:=Lib.hid rn
            have G3:=Lib.hid hge
            have NE:=Lib.hid (show g3 ≠ g4 from Ne.symm hne0)
            clear hne0
            clear hX hX' hb rn hge hg
            refine hK.out _ _ ?_ (fun hNew=>?_)
            · exact BB.out
            clear hK K hHeld
            have hHeld:=hNew
            clear hNew
            try simp only [Act.put,List.setIfInBounds_toArray,List.set_cons_zero,List.set_cons_succ]
            have y3:=R3.out
            unfold zero11 at y3
            obtain ⟨q0,q1,q2,q3,q4,q5,q6,q7,q8,q9,q10,qf⟩:=eleven_cells y3
            refine Top.wpAnyL_one (i:=6) (o:={ dst:=none,op:=Go.Op.store 26 (Go.Operand.tmp 3) (Go.Operand.tmp 10),type:=0,pos:="law.go:46",after:=#[{ on:=4,ground:=Go.Ground.data },{ on:=1,ground:=Go.Ground.data },{ on:=3,ground:=Go.Ground.chain },{ on:=0,ground:=Go.Ground.phase },{ on:=1,ground:=Go.Ground.phase },{ on:=2,ground:=Go.Ground.textOnly Go.Departure.lateStores },{ on:=3,ground:=Go.Ground.textOnly Go.Departure.lateStoresUnsure },{ on:=4,ground:=Go.Ground.phase },{ on:=5,ground:=Go.Ground.phase }],guard:=none }) (by kernel_rfl) rfl (by decide) (fun K hK=>?_)
            go_simp
            obtain ⟨X,hX,RX,-,ZX,KX⟩:=end_op (w:=w1) (o:=(⟨k,p,i,t,0,false,[],[],[],false,[]⟩:Ov)) (s:=s1) (r:=g3) G3.out BB.out (show x6.heap[g3]? = some (.cells #[.int .u8 0,.slice none 0 0,.int .i64 0,.slice none 0 0,.int .u64 0,.bool false,.string ⟨#[]⟩,.string ⟨#[]⟩,.string ⟨#[]⟩,.bool false,.slice none 0 0] _ (0,0)) from R3.out)
            have BX:Below w1.heap.size w1 X:=by rw [hX];exact below_op BB.out G3.out
            have hX':X = (((((((((((x6.setCell ⟨g3,0,none⟩ (.int .u8 (k:Int))).setCell ⟨g3,1,none⟩ (.slice s1.pA s1.pn s1.pc)).setCell ⟨g3,2,none⟩ (.int .i64 i)).setCell ⟨g3,3,none⟩ (.slice s1.tA s1.tn s1.tc)).setCell ⟨g3,4,none⟩ (.int .u64 0)).setCell ⟨g3,5,none⟩ (.bool false)).setCell ⟨g3,6,none⟩ (.string ⟨#[]⟩)).setCell ⟨g3,7,none⟩ (.string ⟨#[]⟩)).setCell ⟨g3,8,none⟩ (.string ⟨#[]⟩)).setCell ⟨g3,9,none⟩ (.bool false)).setCell ⟨g3,10,none⟩ (.slice s1.qA s1.qn s1.qc)):=hX
            rw [← hX']
            clear q0 q1 q2 q3 q4 q5 q6 q7 q8 q9 q10 qf y3
            refine hK.out _ _ ?_ (fun hNew=>?_)
            · exact BX
            clear hK K hHeld hX hX'
            have hHeld:=hNew
            clear hNew
            try simp only [Act.put,List.setIfInBounds_toArray,List.set_cons_zero,List.set_cons_succ]
            have R4X:=(KX g4 (Ne.symm NE.out)).trans R4.out
            have y3:=R4X
            unfold zero11 at y3
            obtain ⟨q0,q1,q2,q3,q4,q5,q6,q7,q8,q9,q10,qf⟩:=eleven_cells y3
            refine Top.wpAnyL_last (o:={ dst:=none,op:=Go.Op.store 26 (Go.Operand.tmp 4) (Go.Operand.tmp 12),type:=0,pos:="law.go:46",after:=#[{ on:=5,ground:=Go.Ground.data },{ on:=3,ground:=Go.Ground.data },{ on:=6,ground:=Go.Ground.chain },{ on:=0,ground:=Go.Ground.phase },{ on:=1,ground:=Go.Ground.phase },{ on:=2,ground:=Go.Ground.phase },{ on:=3,ground:=Go.Ground.phase },{ on:=4,ground:=Go.Ground.phase },{ on:=5,ground:=Go.Ground.phase },{ on:=6,ground:=Go.Ground.phase }],guard:=none }) (by kernel_rfl) rfl (fun K hK=>?_)
            go_simp
            obtain ⟨Y,hY,RY,-,ZY,KY⟩:=end_op (w:=w1) (o:=(⟨k,p,i,t,0,false,[],[],[],false,[]⟩:Ov)) (s:=s2) (r:=g4) G4.out BX (show X.heap[g4]? = some (.cells #[.int .u8 0,.slice none 0 0,.int .i64 0,.slice none 0 0,.int .u64 0,.bool false,.string ⟨#[]⟩,.string ⟨#[]⟩,.string ⟨#[]⟩,.bool false,.slice none 0 0] _ (0,0)) from R4X)
            have BY:Below w1.heap.size w1 Y:=by rw [hY];exact below_op BX G4.out
            have hY':Y = (((((((((((X.setCell ⟨g4,0,none⟩ (.int .u8 (k:Int))).setCell ⟨g4,1,none⟩ (.slice s2.pA s2.pn s2.pc)).setCell ⟨g4,2,none⟩ (.int .i64 i)).setCell ⟨g4,3,none⟩ (.slice s2.tA s2.tn s2.tc)).setCell ⟨g4,4,none⟩ (.int .u64 0)).setCell ⟨g4,5,none⟩ (.bool false)).setCell ⟨g4,6,none⟩ (.string ⟨#[]⟩)).setCell ⟨g4,7,none⟩ (.string ⟨#[]⟩)).setCell ⟨g4,8,none⟩ (.string ⟨#[]⟩)).setCell ⟨g4,9,none⟩ (.bool false)).setCell ⟨g4,10,none⟩ (.slice s2.qA s2.qn s2.qc)):=hY
            rw [← hY']
            clear q0 q1 q2 q3 q4 q5 q6 q7 q8 q9 q10 qf y3
            refine hK _ _ ?_
            clear hK K hY hY'
            try simp only [Act.put,List.setIfInBounds_toArray,List.set_cons_zero,List.set_cons_succ]
            have F:=Lib.hid (show Y.heap[g3]? = some (.cells (opCells (⟨k,p,i,t,0,false,[],[],[],false,[]⟩:Ov) s1) 26 (0,0))∧Y.heap[g4]? = some (.cells (opCells (⟨k,p,i,t,0,false,[],[],[],false,[]⟩:Ov) s2) 26 (0,0))∧P4.OwnI w.heap.size Y (.slice s1.pA s1.pn s1.pc) p∧P4.OwnI w.heap.size Y (.slice s1.tA s1.tn s1.tc) t∧P4.OwnI w.heap.size Y (.slice s2.pA s2.pn s2.pc) p∧P4.OwnI w.heap.size Y (.slice s2.tA s2.tn s2.tc) t∧s1.qn = 0∧Below w.heap.size w Y from ⟨(KY g3 NE.out).trans RX,RY,own_away (own_away P1.out R3.out KX) R4X KY,own_away (own_away T1.out R3.out KX) R4X KY,own_away (own_away P2.out R3.out KX) R4X KY,own_away (own_away T2.out R3.out KX) R4X KY,Q1.out,B1.out.trans (BY.mono B1.out.size)⟩)
            refine wpAny_done (by kernel_rfl) ?_ _
            refine hK0 _ _ ?_
            clear hK0 RX RY KX KY ZX ZY BX BY R4X hHeld
            go_wp2_with fail
            go_meet
            exact ⟨g3,g4,s1,s2,rfl,rfl,F.out⟩
        · go_simp
          obtain ⟨x7,hX⟩:∃ Q9,Q9 = y1.alloc (.cells zero11 26):=⟨_,rfl⟩
          have hX':x7 = y1.alloc (.cells #[.int .u8 0,.slice none 0 0,.int .i64 0,.slice none 0 0,.int .u64 0,.bool false,.string ⟨#[]⟩,.string ⟨#[]⟩,.string ⟨#[]⟩,.bool false,.slice none 0 0] 26):=hX
          rw [← hX']
          have hb:Below y1.heap.size y1 x7:=by rw [hX];exact (Below.refl _ _).alloc (Nat.le_refl _) _
          have rn:x7.heap[y1.heap.size]? = some (.cells zero11 26 (0,0)):=by rw [hX];exact heap_alloc_new y1 _
          have hge:w1.heap.size≤y1.heap.size:=BB.out.size
          have BB:=Lib.hid (BB.out.trans (hb.mono BB.out.size))
          have P1:=Lib.hid (Top.own_kept (w':=x7) P1.out fun k _ h2=>hb.block k h2)
          have T1:=Lib.hid (Top.own_kept (w':=x7) T1.out fun k _ h2=>hb.block k h2)
          obtain ⟨g3,hg⟩:∃ g,g = y1.heap.size:=⟨_,rfl⟩
          rw [← hg] at rn hge ⊢
          have R3:=Lib.hid rn
          have G3:=Lib.hid hge
          clear hX hX' hb rn hge hg
          refine hK.out _ _ ?_ (fun hNew=>?_)
          · exact BB.out
          clear hK K hHeld
          have hHeld:=hNew
          clear hNew
          try simp only [Act.put,List.setIfInBounds_toArray,List.set_cons_zero,List.set_cons_succ]
          refine Top.wpAnyL_two (i:=3) (j:=5) (by kernel_rfl) (show _ = some { dst:=some 12,op:=Go.Op.call { callee:=Go.Callee.value (Go.Operand.func 23),args:=#[Go.Operand.tmp 11],argTypes:=#[26] },type:=26,pos:="law.go:46",after:=#[{ on:=2,ground:=Go.Ground.data },{ on:=1,ground:=Go.Ground.chain }],guard:=none } from rfl) (show _ = some { dst:=some 4,op:=Go.Op.alloc 26,type:=0,pos:="law.go:46",after:=#[],guard:=none } from rfl) (by decide) (by decide) (fun K hK=>?_) (fun K hK=>?_)
          · go_simp
            refine (hu2.out x7 (B1.out.trans (BB.out.mono B1.out.size))).mono ?_
            have BBo:=BB
            rintro e y8 ⟨s2,rfl,ho,hb⟩
            have BB:=Lib.hid (BB.out.trans (hb.mono BB.out.size))
            have P1:=Lib.hid (Top.own_kept (w':=y8) P1.out fun k _ h2=>hb.block k h2)
            have T1:=Lib.hid (Top.own_kept (w':=y8) T1.out fun k _ h2=>hb.block k h2)
            have R3:=Lib.hid ((hb.block _ (Array.getElem?_eq_some_iff.1 R3.out).1).trans R3.out)
            have P2:=Lib.hid (own_mono ho.path (base':=w.heap.size) (Below.size (B1.out.trans (BBo.out.mono B1.out.size))))
            have T2:=Lib.hid (own_mono ho.to_ (base':=w.heap.size) (Below.size (B1.out.trans (BBo.out.mono B1.out.size))))
            have Q2:=Lib.hid (own_qn ho.pieces)
            clear ho hb BBo
            go_simp
            refine hK.out _ _ ?_ (fun hNew=>?_)
            · exact BB.out
            clear hK K hHeld
            have hHeld:=hNew
            clear hNew
            try simp only [Act.put,List.setIfInBounds_toArray,List.set_cons_zero,List.set_cons_succ]
            refine Top.wpAnyL_one (i:=5) (o:={ dst:=some 4,op:=Go.Op.alloc 26,type:=0,pos:="law.go:46",after:=#[],guard:=none }) (by kernel_rfl) rfl (by decide) (fun K hK=>?_)
            go_simp
            obtain ⟨x9,hX⟩:∃ Q9,Q9 = y8.alloc (.cells zero11 26):=⟨_,rfl⟩
            have hX':x9 = y8.alloc (.cells #[.int .u8 0,.slice none 0 0,.int .i64 0,.slice none 0 0,.int .u64 0,.bool false,.string ⟨#[]⟩,.string ⟨#[]⟩,.string ⟨#[]⟩,.bool false,.slice none 0 0] 26):=hX
            rw [← hX']
            have hb:Below y8.heap.size y8 x9:=by rw [hX];exact (Below.refl _ _).alloc (Nat.le_refl _) _
            have rn:x9.heap[y8.heap.size]? = some (.cells zero11 26 (0,0)):=by rw [hX];exact heap_alloc_new y8 _
            have hne0:g3 ≠ y8.heap.size:=Nat.ne_of_lt (Array.getElem?_eq_some_iff.1 R3.out).1
            have hge:w1.heap.size≤y8.heap.size:=BB.out.size
            have BB:=Lib.hid (BB.out.trans (hb.mono BB.out.size))
            have P1:=Lib.hid (Top.own_kept (w':=x9) P1.out fun k _ h2=>hb.block k h2)
            have T1:=Lib.hid (Top.own_kept (w':=x9) T1.out fun k _ h2=>hb.block k h2)
            have P2:=Lib.hid (Top.own_kept (w':=x9) P2.out fun k _ h2=>hb.block k h2)
            have T2:=Lib.hid (Top.own_kept (w':=x9) T2.out fun k _ h2=>hb.block k h2)
            have R3:=Lib.hid ((hb.block _ (Array.getElem?_eq_some_iff.1 R3.out).1).trans R3.out)
            obtain ⟨g4,hg⟩:∃ g,g = y8.heap.size:=⟨_,rfl⟩
            rw [← hg] at rn hge hne0 ⊢
            have R4:=Lib.hid rn
            have G4:=Lib.hid hge
            have NE:=Lib.hid (show g3 ≠ g4 from hne0)
            clear hne0
            clear hX hX' hb rn hge hg
            refine hK.out _ _ ?_ (fun hNew=>?_)
            · exact BB.out
            clear hK K hHeld
            have hHeld:=hNew
            clear hNew
            try simp only [Act.put,List.setIfInBounds_toArray,List.set_cons_zero,List.set_cons_succ]
            have y3:=R3.out
            unfold zero11 at y3
            obtain ⟨q0,q1,q2,q3,q4,q5,q6,q7,q8,q9,q10,qf⟩:=eleven_cells y3
            refine Top.wpAnyL_one (i:=6) (o:={ dst:=none,op:=Go.Op.store 26 (Go.Operand.tmp 3) (Go.Operand.tmp 10),type:=0,pos:="law.go:46",after:=#[{ on:=4,ground:=Go.Ground.data },{ on:=1,ground:=Go.Ground.data },{ on:=3,ground:=Go.Ground.chain },{ on:=0,ground:=Go.Ground.phase },{ on:=1,ground:=Go.Ground.phase },{ on:=2,ground:=Go.Ground.textOnly Go.Departure.lateStores },{ on:=3,ground:=Go.Ground.textOnly Go.Departure.lateStoresUnsure },{ on:=4,ground:=Go.Ground.phase },{ on:=5,ground:=Go.Ground.phase }],guard:=none }) (by kernel_rfl) rfl (by decide) (fun K hK=>?_)
            go_simp
            obtain ⟨X,hX,RX,-,ZX,KX⟩:=end_op (w:=w1) (o:=(⟨k,p,i,t,0,false,[],[],[],false,[]⟩:Ov)) (s:=s1) (r:=g3) G3.out BB.out (show x9.heap[g3]? = some (.cells #[.int .u8 0,.slice none 0 0,.int .i64 0,.slice none 0 0,.int .u64 0,.bool false,.string ⟨#[]⟩,.string ⟨#[]⟩,.string ⟨#[]⟩,.bool false,.slice none 0 0] _ (0,0)) from R3.out)
            have BX:Below w1.heap.size w1 X:=by rw [hX];exact below_op BB.out G3.out
            have hX':X = (((((((((((x9.setCell ⟨g3,0,none⟩ (.int .u8 (k:Int))).setCell ⟨g3,1,none⟩ (.slice s1.pA s1.pn s1.pc)).setCell ⟨g3,2,none⟩ (.int .i64 i)).setCell ⟨g3,3,none⟩ (.slice s1.tA s1.tn s1.tc)).setCell ⟨g3,4,none⟩ (.int .u64 0)).setCell ⟨g3,5,none⟩ (.bool false)).setCell ⟨g3,6,none⟩ (.string ⟨#[]⟩)).setCell ⟨g3,7,none⟩ (.string ⟨#[]⟩)).setCell ⟨g3,8,none⟩ (.string ⟨#[]⟩)).setCell ⟨g3,9,none⟩ (.bool false)).setCell ⟨g3,10,none⟩ (.slice s1.qA s1.qn s1.qc)):=hX
            rw [← hX']
            clear q0 q1 q2 q3 q4 q5 q6 q7 q8 q9 q10 qf y3
            refine hK.out _ _ ?_ (fun hNew=>?_)
            · exact BX
            clear hK K hHeld hX hX'
            have hHeld:=hNew
            clear hNew
            try simp only [Act.put,List.setIfInBounds_toArray,List.set_cons_zero,List.set_cons_succ]
            have R4X:=(KX g4 (Ne.symm NE.out)).trans R4.out
            have y3:=R4X
            unfold zero11 at y3
            obtain ⟨q0,q1,q2,q3,q4,q5,q6,q7,q8,q9,q10,qf⟩:=eleven_cells y3
            refine Top.wpAnyL_last (o:={ dst:=none,op:=Go.Op.store 26 (Go.Operand.tmp 4) (Go.Operand.tmp 12),type:=0,pos:="law.go:46",after:=#[{ on:=5,ground:=Go.Ground.data },{ on:=3,ground:=Go.Ground.data },{ on:=6,ground:=Go.Ground.chain },{ on:=0,ground:=Go.Ground.phase },{ on:=1,ground:=Go.Ground.phase },{ on:=2,ground:=Go.Ground.phase },{ on:=3,ground:=Go.Ground.phase },{ on:=4,ground:=Go.Ground.phase },{ on:=5,ground:=Go.Ground.phase },{ on:=6,ground:=Go.Ground.phase }],guard:=none }) (by kernel_rfl) rfl (fun K hK=>?_)
            go_simp
            obtain ⟨Y,hY,RY,-,ZY,KY⟩:=end_op (w:=w1) (o:=(⟨k,p,i,t,0,false,[],[],[],false,[]⟩:Ov)) (s:=s2) (r:=g4) G4.out BX (show X.heap[g4]? = some (.cells #[.int .u8 0,.slice none 0 0,.int .i64 0,.slice none 0 0,.int .u64 0,.bool false,.string ⟨#[]⟩,.string ⟨#[]⟩,.string ⟨#[]⟩,.bool false,.slice none 0 0] _ (0,0)) from R4X)
            have BY:Below w1.heap.size w1 Y:=by rw [hY];exact below_op BX G4.out
            have hY':Y = (((((((((((X.setCell ⟨g4,0,none⟩ (.int .u8 (k:Int))).setCell ⟨g4,1,none⟩ (.slice s2.pA s2.pn s2.pc)).setCell ⟨g4,2,none⟩ (.int .i64 i)).setCell ⟨g4,3,none⟩ (.slice s2.tA s2.tn s2.tc)).setCell ⟨g4,4,none⟩ (.int .u64 0)).setCell ⟨g4,5,none⟩ (.bool false)).setCell ⟨g4,6,none⟩ (.string ⟨#[]⟩)).setCell ⟨g4,7,none⟩ (.string ⟨#[]⟩)).setCell ⟨g4,8,none⟩ (.string ⟨#[]⟩)).setCell ⟨g4,9,none⟩ (.bool false)).setCell ⟨g4,10,none⟩ (.slice s2.qA s2.qn s2.qc)):=hY
            rw [← hY']
            clear q0 q1 q2 q3 q4 q5 q6 q7 q8 q9 q10 qf y3
            refine hK _ _ ?_
            clear hK K hY hY'
            try simp only [Act.put,List.setIfInBounds_toArray,List.set_cons_zero,List.set_cons_succ]
            have F:=Lib.hid (show Y.heap[g3]? = some (.cells (opCells (⟨k,p,i,t,0,false,[],[],[],false,[]⟩:Ov) s1) 26 (0,0))∧Y.heap[g4]? = some (.cells (opCells (⟨k,p,i,t,0,false,[],[],[],false,[]⟩:Ov) s2) 26 (0,0))∧P4.OwnI w.heap.size Y (.slice s1.pA s1.pn s1.pc) p∧P4.OwnI w.heap.size Y (.slice s1.tA s1.tn s1.tc) t∧P4.OwnI w.heap.size Y (.slice s2.pA s2.pn s2.pc) p∧P4.OwnI w.heap.size Y (.slice s2.tA s2.tn s2.tc) t∧s1.qn = 0∧Below w.heap.size w Y from ⟨(KY g3 NE.out).trans RX,RY,own_away (own_away P1.out R3.out KX) R4X KY,own_away (own_away T1.out R3.out KX) R4X KY,own_away (own_away P2.out R3.out KX) R4X KY,own_away (own_away T2.out R3.out KX) R4X KY,Q1.out,B1.out.trans (BY.mono B1.out.size)⟩)
            refine wpAny_done (by kernel_rfl) ?_ _
            refine hK0 _ _ ?_
            clear hK0 RX RY KX KY ZX ZY BX BY R4X hHeld
            go_wp2_with fail
            go_meet
            exact ⟨g3,g4,s1,s2,rfl,rfl,F.out⟩
          · go_simp
            obtain ⟨x10,hX⟩:∃ Q9,Q9 = x7.alloc (.cells zero11 26):=⟨_,rfl⟩
            have hX':x10 = x7.alloc (.cells #[.int .u8 0,.slice none 0 0,.int .i64 0,.slice none 0 0,.int .u64 0,.bool false,.string ⟨#[]⟩,.string ⟨#[]⟩,.string ⟨#[]⟩,.bool false,.slice none 0 0] 26):=hX
            rw [← hX']
            have hb:Below x7.heap.size x7 x10:=by rw [hX];exact (Below.refl _ _).alloc (Nat.le_refl _) _
            have rn:x10.heap[x7.heap.size]? = some (.cells zero11 26 (0,0)):=by rw [hX];exact heap_alloc_new x7 _
            have hne0:g3 ≠ x7.heap.size:=Nat.ne_of_lt (Array.getElem?_eq_some_iff.1 R3.out).1
            have hge:w1.heap.size≤x7.heap.size:=BB.out.size
            have BB:=Lib.hid (BB.out.trans (hb.mono BB.out.size))
            have P1:=Lib.hid (Top.own_kept (w':=x10) P1.out fun k _ h2=>hb.block k h2)
            have T1:=Lib.hid (Top.own_kept (w':=x10) T1.out fun k _ h2=>hb.block k h2)
            have R3:=Lib.hid ((hb.block _ (Array.getElem?_eq_some_iff.1 R3.out).1).trans R3.out)
            obtain ⟨g4,hg⟩:∃ g,g = x7.heap.size:=⟨_,rfl⟩
            rw [← hg] at rn hge hne0 ⊢
            have R4:=Lib.hid rn
            have G4:=Lib.hid hge
            have NE:=Lib.hid (show g3 ≠ g4 from hne0)
            clear hne0
            clear hX hX' hb rn hge hg
            refine hK.out _ _ ?_ (fun hNew=>?_)
            · exact BB.out
            clear hK K hHeld
            have hHeld:=hNew
            clear hNew
            try simp only [Act.put,List.setIfInBounds_toArray,List.set_cons_zero,List.set_cons_succ]
            refine Top.wpAnyL_one (i:=3) (o:={ dst:=some 12,op:=Go.Op.call { callee:=Go.Callee.value (Go.Operand.func 23),args:=#[Go.Operand.tmp 11],argTypes:=#[26] },type:=26,pos:="law.go:46",after:=#[{ on:=2,ground:=Go.Ground.data },{ on:=1,ground:=Go.Ground.chain }],guard:=none }) (by kernel_rfl) rfl (by decide) (fun K hK=>?_)
            go_simp
            refine (hu2.out x10 (B1.out.trans (BB.out.mono B1.out.size))).mono ?_
            have BBo:=BB
            rintro e y11 ⟨s2,rfl,ho,hb⟩
            have BB:=Lib.hid (BB.out.trans (hb.mono BB.out.size))
            have P1:=Lib.hid (Top.own_kept (w':=y11) P1.out fun k _ h2=>hb.block k h2)
            have T1:=Lib.hid (Top.own_kept (w':=y11) T1.out fun k _ h2=>hb.block k h2)
            have R3:=Lib.hid ((hb.block _ (Array.getElem?_eq_some_iff.1 R3.out).1).trans R3.out)
            have R4:=Lib.hid ((hb.block _ (Array.getElem?_eq_some_iff.1 R4.out).1).trans R4.out)
            have P2:=Lib.hid (own_mono ho.path (base':=w.heap.size) (Below.size (B1.out.trans (BBo.out.mono B1.out.size))))
            have T2:=Lib.hid (own_mono ho.to_ (base':=w.heap.size) (Below.size (B1.out.trans (BBo.out.mono B1.out.size))))
            have Q2:=Lib.hid (own_qn ho.pieces)
            clear ho hb BBo
            go_simp
            refine hK.out _ _ ?_ (fun hNew=>?_)
            · exact BB.out
            clear hK K hHeld
            have hHeld:=hNew
            clear hNew
            try simp only [Act.put,List.setIfInBounds_toArray,List.set_cons_zero,List.set_cons_succ]
            have y3:=R3.out
            unfold zero11 at y3
            obtain ⟨q0,q1,q2,q3,q4,q5,q6,q7,q8,q9,q10,qf⟩:=eleven_cells y3
            refine Top.wpAnyL_one (i:=6) (o:={ dst:=none,op:=Go.Op.store 26 (Go.Operand.tmp 3) (Go.Operand.tmp 10),type:=0,pos:="law.go:46",after:=#[{ on:=4,ground:=Go.Ground.data },{ on:=1,ground:=Go.Ground.data },{ on:=3,ground:=Go.Ground.chain },{ on:=0,ground:=Go.Ground.phase },{ on:=1,ground:=Go.Ground.phase },{ on:=2,ground:=Go.Ground.textOnly Go.Departure.lateStores },{ on:=3,ground:=Go.Ground.textOnly Go.Departure.lateStoresUnsure },{ on:=4,ground:=Go.Ground.phase },{ on:=5,ground:=Go.Ground.phase }],guard:=none }) (by kernel_rfl) rfl (by decide) (fun K hK=>?_)
            go_simp
            obtain ⟨X,hX,RX,-,ZX,KX⟩:=end_op (w:=w1) (o:=(⟨k,p,i,t,0,false,[],[],[],false,[]⟩:Ov)) (s:=s1) (r:=g3) G3.out BB.out (show y11.heap[g3]? = some (.cells #[.int .u8 0,.slice none 0 0,.int .i64 0,.slice none 0 0,.int .u64 0,.bool false,.string ⟨#[]⟩,.string ⟨#[]⟩,.string ⟨#[]⟩,.bool false,.slice none 0 0] _ (0,0)) from R3.out)
            have BX:Below w1.heap.size w1 X:=by rw [hX];exact below_op BB.out G3.out
            have hX':X = (((((((((((y11.setCell ⟨g3,0,none⟩ (.int .u8 (k:Int))).setCell ⟨g3,1,none⟩ (.slice s1.pA s1.pn s1.pc)).setCell ⟨g3,2,none⟩ (.int .i64 i)).setCell ⟨g3,3,none⟩ (.slice s1.tA s1.tn s1.tc)).setCell ⟨g3,4,none⟩ (.int .u64 0)).setCell ⟨g3,5,none⟩ (.bool false)).setCell ⟨g3,6,none⟩ (.string ⟨#[]⟩)).setCell ⟨g3,7,none⟩ (.string ⟨#[]⟩)).setCell ⟨g3,8,none⟩ (.string ⟨#[]⟩)).setCell ⟨g3,9,none⟩ (.bool false)).setCell ⟨g3,10,none⟩ (.slice s1.qA s1.qn s1.qc)):=hX
            rw [← hX']
            clear q0 q1 q2 q3 q4 q5 q6 q7 q8 q9 q10 qf y3
            refine hK.out _ _ ?_ (fun hNew=>?_)
            · exact BX
            clear hK K hHeld hX hX'
            have hHeld:=hNew
            clear hNew
            try simp only [Act.put,List.setIfInBounds_toArray,List.set_cons_zero,List.set_cons_succ]
            have R4X:=(KX g4 (Ne.symm NE.out)).trans R4.out
            have y3:=R4X
            unfold zero11 at y3
            obtain ⟨q0,q1,q2,q3,q4,q5,q6,q7,q8,q9,q10,qf⟩:=eleven_cells y3
            refine Top.wpAnyL_last (o:={ dst:=none,op:=Go.Op.store 26 (Go.Operand.tmp 4) (Go.Operand.tmp 12),type:=0,pos:="law.go:46",after:=#[{ on:=5,ground:=Go.Ground.data },{ on:=3,ground:=Go.Ground.data },{ on:=6,ground:=Go.Ground.chain },{ on:=0,ground:=Go.Ground.phase },{ on:=1,ground:=Go.Ground.phase },{ on:=2,ground:=Go.Ground.phase },{ on:=3,ground:=Go.Ground.phase },{ on:=4,ground:=Go.Ground.phase },{ on:=5,ground:=Go.Ground.phase },{ on:=6,ground:=Go.Ground.phase }],guard:=none }) (by kernel_rfl) rfl (fun K hK=>?_)
            go_simp
            obtain ⟨Y,hY,RY,-,ZY,KY⟩:=end_op (w:=w1) (o:=(⟨k,p,i,t,0,false,[],[],[],false,[]⟩:Ov)) (s:=s2) (r:=g4) G4.out BX (show X.heap[g4]? = some (.cells #[.int .u8 0,.slice none 0 0,.int .i64 0,.slice none 0 0,.int .u64 0,.bool false,.string ⟨#[]⟩,.string ⟨#[]⟩,.string ⟨#[]⟩,.bool false,.slice none 0 0] _ (0,0)) from R4X)
            have BY:Below w1.heap.size w1 Y:=by rw [hY];exact below_op BX G4.out
            have hY':Y = (((((((((((X.setCell ⟨g4,0,none⟩ (.int .u8 (k:Int))).setCell ⟨g4,1,none⟩ (.slice s2.pA s2.pn s2.pc)).setCell ⟨g4,2,none⟩ (.int .i64 i)).setCell ⟨g4,3,none⟩ (.slice s2.tA s2.tn s2.tc)).setCell ⟨g4,4,none⟩ (.int .u64 0)).setCell ⟨g4,5,none⟩ (.bool false)).setCell ⟨g4,6,none⟩ (.string ⟨#[]⟩)).setCell ⟨g4,7,none⟩ (.string ⟨#[]⟩)).setCell ⟨g4,8,none⟩ (.string ⟨#[]⟩)).setCell ⟨g4,9,none⟩ (.bool false)).setCell ⟨g4,10,none⟩ (.slice s2.qA s2.qn s2.qc)):=hY
            rw [← hY']
            clear q0 q1 q2 q3 q4 q5 q6 q7 q8 q9 q10 qf y3
            refine hK _ _ ?_
            clear hK K hY hY'
            try simp only [Act.put,List.setIfInBounds_toArray,List.set_cons_zero,List.set_cons_succ]
            have F:=Lib.hid (show Y.heap[g3]? = some (.cells (opCells (⟨k,p,i,t,0,false,[],[],[],false,[]⟩:Ov) s1) 26 (0,0))∧Y.heap[g4]? = some (.cells (opCells (⟨k,p,i,t,0,false,[],[],[],false,[]⟩:Ov) s2) 26 (0,0))∧P4.OwnI w.heap.size Y (.slice s1.pA s1.pn s1.pc) p∧P4.OwnI w.heap.size Y (.slice s1.tA s1.tn s1.tc) t∧P4.OwnI w.heap.size Y (.slice s2.pA s2.pn s2.pc) p∧P4.OwnI w.heap.size Y (.slice s2.tA s2.tn s2.tc) t∧s1.qn = 0∧Below w.heap.size w Y from ⟨(KY g3 NE.out).trans RX,RY,own_away (own_away P1.out R3.out KX) R4X KY,own_away (own_away T1.out R3.out KX) R4X KY,own_away (own_away P2.out R3.out KX) R4X KY,own_away (own_away T2.out R3.out KX) R4X KY,Q1.out,B1.out.trans (BY.mono B1.out.size)⟩)
            refine wpAny_done (by kernel_rfl) ?_ _
            refine hK0 _ _ ?_
            clear hK0 RX RY KX KY ZX ZY BX BY R4X hHeld
            go_wp2_with fail
            go_meet
            exact ⟨g3,g4,s1,s2,rfl,rfl,F.out⟩
        · go_simp
          obtain ⟨x12,hX⟩:∃ Q9,Q9 = y1.alloc (.cells zero11 26):=⟨_,rfl⟩
          have hX':x12 = y1.alloc (.cells #[.int .u8 0,.slice none 0 0,.int .i64 0,.slice none 0 0,.int .u64 0,.bool false,.string ⟨#[]⟩,.string ⟨#[]⟩,.string ⟨#[]⟩,.bool false,.slice none 0 0] 26):=hX
          rw [← hX']
          have hb:Below y1.heap.size y1 x12:=by rw [hX];exact (Below.refl _ _).alloc (Nat.le_refl _) _
          have rn:x12.heap[y1.heap.size]? = some (.cells zero11 26 (0,0)):=by rw [hX];exact heap_alloc_new y1 _
          have hge:w1.heap.size≤y1.heap.size:=BB.out.size
          have BB:=Lib.hid (BB.out.trans (hb.mono BB.out.size))
          have P1:=Lib.hid (Top.own_kept (w':=x12) P1.out fun k _ h2=>hb.block k h2)
          have T1:=Lib.hid (Top.own_kept (w':=x12) T1.out fun k _ h2=>hb.block k h2)
          obtain ⟨g4,hg⟩:∃ g,g = y1.heap.size:=⟨_,rfl⟩
          rw [← hg] at rn hge ⊢
          have R4:=Lib.hid rn
          have G4:=Lib.hid hge
          clear hX hX' hb rn hge hg
          refine hK.out _ _ ?_ (fun hNew=>?_)
          · exact BB.out
          clear hK K hHeld
          have hHeld:=hNew
          clear hNew
          try simp only [Act.put,List.setIfInBounds_toArray,List.set_cons_zero,List.set_cons_succ]
          refine Top.wpAnyL_two (i:=3) (j:=4) (by kernel_rfl) (show _ = some { dst:=some 12,op:=Go.Op.call { callee:=Go.Callee.value (Go.Operand.func 23),args:=#[Go.Operand.tmp 11],argTypes:=#[26] },type:=26,pos:="law.go:46",after:=#[{ on:=2,ground:=Go.Ground.data },{ on:=1,ground:=Go.Ground.chain }],guard:=none } from rfl) (show _ = some { dst:=some 3,op:=Go.Op.alloc 26,type:=0,pos:="law.go:46",after:=#[],guard:=none } from rfl) (by decide) (by decide) (fun K hK=>?_) (fun K hK=>?_)
          · go_simp
            refine (hu2.out x12 (B1.out.trans (BB.out.mono B1.out.size))).mono ?_
            have BBo:=BB
            rintro e y13 ⟨s2,rfl,ho,hb⟩
            have BB:=Lib.hid (BB.out.trans (hb.mono BB.out.size))
            have P1:=Lib.hid (Top.own_kept (w':=y13) P1.out fun k _ h2=>hb.block k h2)
            have T1:=Lib.hid (Top.own_kept (w':=y13) T1.out fun k _ h2=>hb.block k h2)
            have R4:=Lib.hid ((hb.block _ (Array.getElem?_eq_some_iff.1 R4.out).1).trans R4.out)
            have P2:=Lib.hid (own_mono ho.path (base':=w.heap.size) (Below.size (B1.out.trans (BBo.out.mono B1.out.size))))
            have T2:=Lib.hid (own_mono ho.to_ (base':=w.heap.size) (Below.size (B1.out.trans (BBo.out.mono B1.out.size))))
            have Q2:=Lib.hid (own_qn ho.pieces)
            clear ho hb BBo
            go_simp
            refine hK.out _ _ ?_ (fun hNew=>?_)
            · exact BB.out
            clear hK K hHeld
            have hHeld:=hNew
            clear hNew
            try simp only [Act.put,List.setIfInBounds_toArray,List.set_cons_zero,List.set_cons_succ]
            refine Top.wpAnyL_one (i:=4) (o:={ dst:=some 3,op:=Go.Op.alloc 26,type:=0,pos:="law.go:46",after:=#[],guard:=none }) (by kernel_rfl) rfl (by decide) (fun K hK=>?_)
            go_simp
            obtain ⟨x14,hX⟩:∃ Q9,Q9 = y13.alloc (.cells zero11 26):=⟨_,rfl⟩
            have hX':x14 = y13.alloc (.cells #[.int .u8 0,.slice none 0 0,.int .i64 0,.slice none 0 0,.int .u64 0,.bool false,.string ⟨#[]⟩,.string ⟨#[]⟩,.string ⟨#[]⟩,.bool false,.slice none 0 0] 26):=hX
            rw [← hX']
            have hb:Below y13.heap.size y13 x14:=by rw [hX];exact (Below.refl _ _).alloc (Nat.le_refl _) _
            have rn:x14.heap[y13.heap.size]? = some (.cells zero11 26 (0,0)):=by rw [hX];exact heap_alloc_new y13 _
            have hne0:g4 ≠ y13.heap.size:=Nat.ne_of_lt (Array.getElem?_eq_some_iff.1 R4.out).1
            have hge:w1.heap.size≤y13.heap.size:=BB.out.size
            have BB:=Lib.hid (BB.out.trans (hb.mono BB.out.size))
            have P1:=Lib.hid (Top.own_kept (w':=x14) P1.out fun k _ h2=>hb.block k h2)
            have T1:=Lib.hid (Top.own_kept (w':=x14) T1.out fun k _ h2=>hb.block k h2)
            have P2:=Lib.hid (Top.own_kept (w':=x14) P2.out fun k _ h2=>hb.block k h2)
            have T2:=Lib.hid (Top.own_kept (w':=x14) T2.out fun k _ h2=>hb.block k h2)
            have R4:=Lib.hid ((hb.block _ (Array.getElem?_eq_some_iff.1 R4.out).1).trans R4.out)
            obtain ⟨g3,hg⟩:∃ g,g = y13.heap.size:=⟨_,rfl⟩
            rw [← hg] at rn hge hne0 ⊢
            have R3:=Lib.hid rn
            have G3:=Lib.hid hge
            have NE:=Lib.hid (show g3 ≠ g4 from Ne.symm hne0)
            clear hne0
            clear hX hX' hb rn hge hg
            refine hK.out _ _ ?_ (fun hNew=>?_)
            · exact BB.out
            clear hK K hHeld
            have hHeld:=hNew
            clear hNew
            try simp only [Act.put,List.setIfInBounds_toArray,List.set_cons_zero,List.set_cons_succ]
            have y3:=R3.out
            unfold zero11 at y3
            obtain ⟨q0,q1,q2,q3,q4,q5,q6,q7,q8,q9,q10,qf⟩:=eleven_cells y3
            refine Top.wpAnyL_one (i:=6) (o:={ dst:=none,op:=Go.Op.store 26 (Go.Operand.tmp 3) (Go.Operand.tmp 10),type:=0,pos:="law.go:46",after:=#[{ on:=4,ground:=Go.Ground.data },{ on:=1,ground:=Go.Ground.data },{ on:=3,ground:=Go.Ground.chain },{ on:=0,ground:=Go.Ground.phase },{ on:=1,ground:=Go.Ground.phase },{ on:=2,ground:=Go.Ground.textOnly Go.Departure.lateStores },{ on:=3,ground:=Go.Ground.textOnly Go.Departure.lateStoresUnsure },{ on:=4,ground:=Go.Ground.phase },{ on:=5,ground:=Go.Ground.phase }],guard:=none }) (by kernel_rfl) rfl (by decide) (fun K hK=>?_)
            go_simp
            obtain ⟨X,hX,RX,-,ZX,KX⟩:=end_op (w:=w1) (o:=(⟨k,p,i,t,0,false,[],[],[],false,[]⟩:Ov)) (s:=s1) (r:=g3) G3.out BB.out (show x14.heap[g3]? = some (.cells #[.int .u8 0,.slice none 0 0,.int .i64 0,.slice none 0 0,.int .u64 0,.bool false,.string ⟨#[]⟩,.string ⟨#[]⟩,.string ⟨#[]⟩,.bool false,.slice none 0 0] _ (0,0)) from R3.out)
            have BX:Below w1.heap.size w1 X:=by rw [hX];exact below_op BB.out G3.out
            have hX':X = (((((((((((x14.setCell ⟨g3,0,none⟩ (.int .u8 (k:Int))).setCell ⟨g3,1,none⟩ (.slice s1.pA s1.pn s1.pc)).setCell ⟨g3,2,none⟩ (.int .i64 i)).setCell ⟨g3,3,none⟩ (.slice s1.tA s1.tn s1.tc)).setCell ⟨g3,4,none⟩ (.int .u64 0)).setCell ⟨g3,5,none⟩ (.bool false)).setCell ⟨g3,6,none⟩ (.string ⟨#[]⟩)).setCell ⟨g3,7,none⟩ (.string ⟨#[]⟩)).setCell ⟨g3,8,none⟩ (.string ⟨#[]⟩)).setCell ⟨g3,9,none⟩ (.bool false)).setCell ⟨g3,10,none⟩ (.slice s1.qA s1.qn s1.qc)):=hX
            rw [← hX']
            clear q0 q1 q2 q3 q4 q5 q6 q7 q8 q9 q10 qf y3
            refine hK.out _ _ ?_ (fun hNew=>?_)
            · exact BX
            clear hK K hHeld hX hX'
            have hHeld:=hNew
            clear hNew
            try simp only [Act.put,List.setIfInBounds_toArray,List.set_cons_zero,List.set_cons_succ]
            have R4X:=(KX g4 (Ne.symm NE.out)).trans R4.out
            have y3:=R4X
            unfold zero11 at y3
            obtain ⟨q0,q1,q2,q3,q4,q5,q6,q7,q8,q9,q10,qf⟩:=eleven_cells y3
            refine Top.wpAnyL_last (o:={ dst:=none,op:=Go.Op.store 26 (Go.Operand.tmp 4) (Go.Operand.tmp 12),type:=0,pos:="law.go:46",after:=#[{ on:=5,ground:=Go.Ground.data },{ on:=3,ground:=Go.Ground.data },{ on:=6,ground:=Go.Ground.chain },{ on:=0,ground:=Go.Ground.phase },{ on:=1,ground:=Go.Ground.phase },{ on:=2,ground:=Go.Ground.phase },{ on:=3,ground:=Go.Ground.phase },{ on:=4,ground:=Go.Ground.phase },{ on:=5,ground:=Go.Ground.phase },{ on:=6,ground:=Go.Ground.phase }],guard:=none }) (by kernel_rfl) rfl (fun K hK=>?_)
            go_simp
            obtain ⟨Y,hY,RY,-,ZY,KY⟩:=end_op (w:=w1) (o:=(⟨k,p,i,t,0,false,[],[],[],false,[]⟩:Ov)) (s:=s2) (r:=g4) G4.out BX (show X.heap[g4]? = some (.cells #[.int .u8 0,.slice none 0 0,.int .i64 0,.slice none 0 0,.int .u64 0,.bool false,.string ⟨#[]⟩,.string ⟨#[]⟩,.string ⟨#[]⟩,.bool false,.slice none 0 0] _ (0,0)) from R4X)
            have BY:Below w1.heap.size w1 Y:=by rw [hY];exact below_op BX G4.out
            have hY':Y = (((((((((((X.setCell ⟨g4,0,none⟩ (.int .u8 (k:Int))).setCell ⟨g4,1,none⟩ (.slice s2.pA s2.pn s2.pc)).setCell ⟨g4,2,none⟩ (.int .i64 i)).setCell ⟨g4,3,none⟩ (.slice s2.tA s2.tn s2.tc)).setCell ⟨g4,4,none⟩ (.int .u64 0)).setCell ⟨g4,5,none⟩ (.bool false)).setCell ⟨g4,6,none⟩ (.string ⟨#[]⟩)).setCell ⟨g4,7,none⟩ (.string ⟨#[]⟩)).setCell ⟨g4,8,none⟩ (.string ⟨#[]⟩)).setCell ⟨g4,9,none⟩ (.bool false)).setCell ⟨g4,10,none⟩ (.slice s2.qA s2.qn s2.qc)):=hY
            rw [← hY']
            clear q0 q1 q2 q3 q4 q5 q6 q7 q8 q9 q10 qf y3
            refine hK _ _ ?_
            clear hK K hY hY'
            try simp only [Act.put,List.setIfInBounds_toArray,List.set_cons_zero,List.set_cons_succ]
            have F:=Lib.hid (show Y.heap[g3]? = some (.cells (opCells (⟨k,p,i,t,0,false,[],[],[],false,[]⟩:Ov) s1) 26 (0,0))∧Y.heap[g4]? = some (.cells (opCells (⟨k,p,i,t,0,false,[],[],[],false,[]⟩:Ov) s2) 26 (0,0))∧P4.OwnI w.heap.size Y (.slice s1.pA s1.pn s1.pc) p∧P4.OwnI w.heap.size Y (.slice s1.tA s1.tn s1.tc) t∧P4.OwnI w.heap.size Y (.slice s2.pA s2.pn s2.pc) p∧P4.OwnI w.heap.size Y (.slice s2.tA s2.tn s2.tc) t∧s1.qn = 0∧Below w.heap.size w Y from ⟨(KY g3 NE.out).trans RX,RY,own_away (own_away P1.out R3.out KX) R4X KY,own_away (own_away T1.out R3.out KX) R4X KY,own_away (own_away P2.out R3.out KX) R4X KY,own_away (own_away T2.out R3.out KX) R4X KY,Q1.out,B1.out.trans (BY.mono B1.out.size)⟩)
            refine wpAny_done (by kernel_rfl) ?_ _
            refine hK0 _ _ ?_
            clear hK0 RX RY KX KY ZX ZY BX BY R4X hHeld
            go_wp2_with fail
            go_meet
            exact ⟨g3,g4,s1,s2,rfl,rfl,F.out⟩
          · go_simp
            obtain ⟨x15,hX⟩:∃ Q9,Q9 = x12.alloc (.cells zero11 26):=⟨_,rfl⟩
            have hX':x15 = x12.alloc (.cells #[.int .u8 0,.slice none 0 0,.int .i64 0,.slice none 0 0,.int .u64 0,.bool false,.string ⟨#[]⟩,.string ⟨#[]⟩,.string ⟨#[]⟩,.bool false,.slice none 0 0] 26):=hX
            rw [← hX']
            have hb:Below x12.heap.size x12 x15:=by rw [hX];exact (Below.refl _ _).alloc (Nat.le_refl _) _
            have rn:x15.heap[x12.heap.size]? = some (.cells zero11 26 (0,0)):=by rw [hX];exact heap_alloc_new x12 _
            have hne0:g4 ≠ x12.heap.size:=Nat.ne_of_lt (Array.getElem?_eq_some_iff.1 R4.out).1
            have hge:w1.heap.size≤x12.heap.size:=BB.out.size
            have BB:=Lib.hid (BB.out.trans (hb.mono BB.out.size))
            have P1:=Lib.hid (Top.own_kept (w':=x15) P1.out fun k _ h2=>hb.block k h2)
            have T1:=Lib.hid (Top.own_kept (w':=x15) T1.out fun k _ h2=>hb.block k h2)
            have R4:=Lib.hid ((hb.block _ (Array.getElem?_eq_some_iff.1 R4.out).1).trans R4.out)
            obtain ⟨g3,hg⟩:∃ g,g = x12.heap.size:=⟨_,rfl⟩
            rw [← hg] at rn hge hne0 ⊢
            have R3:=Lib.hid rn
            have G3:=Lib.hid hge
            have NE:=Lib.hid (show g3 ≠ g4 from Ne.symm hne0)
            clear hne0
            clear hX hX' hb rn hge hg
            refine hK.out _ _ ?_ (fun hNew=>?_)
            · exact BB.out
            clear hK K hHeld
            have hHeld:=hNew
            clear hNew
            try simp only [Act.put,List.setIfInBounds_toArray,List.set_cons_zero,List.set_cons_succ]
            refine Top.wpAnyL_one (i:=3) (o:={ dst:=some 12,op:=Go.Op.call { callee:=Go.Callee.value (Go.Operand.func 23),args:=#[Go.Operand.tmp 11],argTypes:=#[26] },type:=26,pos:="law.go:46",after:=#[{ on:=2,ground:=Go.Ground.data },{ on:=1,ground:=Go.Ground.chain }],guard:=none }) (by kernel_rfl) rfl (by decide) (fun K hK=>?_)
            go_simp
            refine (hu2.out x15 (B1.out.trans (BB.out.mono B1.out.size))).mono ?_
            have BBo:=BB
            rintro e y16 ⟨s2,rfl,ho,hb⟩
            have BB:=Lib.hid (BB.out.trans (hb.mono BB.out.size))
            have P1:=Lib.hid (Top.own_kept (w':=y16) P1.out fun k _ h2=>hb.block k h2)
            have T1:=Lib.hid (Top.own_kept (w':=y16) T1.out fun k _ h2=>hb.block k h2)
            have R3:=Lib.hid ((hb.block _ (Array.getElem?_eq_some_iff.1 R3.out).1).trans R3.out)
            have R4:=Lib.hid ((hb.block _ (Array.getElem?_eq_some_iff.1 R4.out).1).trans R4.out)
            have P2:=Lib.hid (own_mono ho.path (base':=w.heap.size) (Below.size (B1.out.trans (BBo.out.mono B1.out.size))))
            have T2:=Lib.hid (own_mono ho.to_ (base':=w.heap.size) (Below.size (B1.out.trans (BBo.out.mono B1.out.size))))
            have Q2:=Lib.hid (own_qn ho.pieces)
            clear ho hb BBo
            go_simp
            refine hK.out _ _ ?_ (fun hNew=>?_)
            · exact BB.out
            clear hK K hHeld
            have hHeld:=hNew
            clear hNew
            try simp only [Act.put,List.setIfInBounds_toArray,List.set_cons_zero,List.set_cons_succ]
            have y3:=R3.out
            unfold zero11 at y3
            obtain ⟨q0,q1,q2,q3,q4,q5,q6,q7,q8,q9,q10,qf⟩:=eleven_cells y3
            refine Top.wpAnyL_one (i:=6) (o:={ dst:=none,op:=Go.Op.store 26 (Go.Operand.tmp 3) (Go.Operand.tmp 10),type:=0,pos:="law.go:46",after:=#[{ on:=4,ground:=Go.Ground.data },{ on:=1,ground:=Go.Ground.data },{ on:=3,ground:=Go.Ground.chain },{ on:=0,ground:=Go.Ground.phase },{ on:=1,ground:=Go.Ground.phase },{ on:=2,ground:=Go.Ground.textOnly Go.Departure.lateStores },{ on:=3,ground:=Go.Ground.textOnly Go.Departure.lateStoresUnsure },{ on:=4,ground:=Go.Ground.phase },{ on:=5,ground:=Go.Ground.phase }],guard:=none }) (by kernel_rfl) rfl (by decide) (fun K hK=>?_)
            go_simp
            obtain ⟨X,hX,RX,-,ZX,KX⟩:=end_op (w:=w1) (o:=(⟨k,p,i,t,0,false,[],[],[],false,[]⟩:Ov)) (s:=s1) (r:=g3) G3.out BB.out (show y16.heap[g3]? = some (.cells #[.int .u8 0,.slice none 0 0,.int .i64 0,.slice none 0 0,.int .u64 0,.bool false,.string ⟨#[]⟩,.string ⟨#[]⟩,.string ⟨#[]⟩,.bool false,.slice none 0 0] _ (0,0)) from R3.out)
            have BX:Below w1.heap.size w1 X:=by rw [hX];exact below_op BB.out G3.out
            have hX':X = (((((((((((y16.setCell ⟨g3,0,none⟩ (.int .u8 (k:Int))).setCell ⟨g3,1,none⟩ (.slice s1.pA s1.pn s1.pc)).setCell ⟨g3,2,none⟩ (.int .i64 i)).setCell ⟨g3,3,none⟩ (.slice s1.tA s1.tn s1.tc)).setCell ⟨g3,4,none⟩ (.int .u64 0)).setCell ⟨g3,5,none⟩ (.bool false)).setCell ⟨g3,6,none⟩ (.string ⟨#[]⟩)).setCell ⟨g3,7,none⟩ (.string ⟨#[]⟩)).setCell ⟨g3,8,none⟩ (.string ⟨#[]⟩)).setCell ⟨g3,9,none⟩ (.bool false)).setCell ⟨g3,10,none⟩ (.slice s1.qA s1.qn s1.qc)):=hX
            rw [← hX']
            clear q0 q1 q2 q3 q4 q5 q6 q7 q8 q9 q10 qf y3
            refine hK.out _ _ ?_ (fun hNew=>?_)
            · exact BX
            clear hK K hHeld hX hX'
            have hHeld:=hNew
            clear hNew
            try simp only [Act.put,List.setIfInBounds_toArray,List.set_cons_zero,List.set_cons_succ]
            have R4X:=(KX g4 (Ne.symm NE.out)).trans R4.out
            have y3:=R4X
            unfold zero11 at y3
            obtain ⟨q0,q1,q2,q3,q4,q5,q6,q7,q8,q9,q10,qf⟩:=eleven_cells y3
            refine Top.wpAnyL_last (o:={ dst:=none,op:=Go.Op.store 26 (Go.Operand.tmp 4) (Go.Operand.tmp 12),type:=0,pos:="law.go:46",after:=#[{ on:=5,ground:=Go.Ground.data },{ on:=3,ground:=Go.Ground.data },{ on:=6,ground:=Go.Ground.chain },{ on:=0,ground:=Go.Ground.phase },{ on:=1,ground:=Go.Ground.phase },{ on:=2,ground:=Go.Ground.phase },{ on:=3,ground:=Go.Ground.phase },{ on:=4,ground:=Go.Ground.phase },{ on:=5,ground:=Go.Ground.phase },{ on:=6,ground:=Go.Ground.phase }],guard:=none }) (by kernel_rfl) rfl (fun K hK=>?_)
            go_simp
            obtain ⟨Y,hY,RY,-,ZY,KY⟩:=end_op (w:=w1) (o:=(⟨k,p,i,t,0,false,[],[],[],false,[]⟩:Ov)) (s:=s2) (r:=g4) G4.out BX (show X.heap[g4]? = some (.cells #[.int .u8 0,.slice none 0 0,.int .i64 0,.slice none 0 0,.int .u64 0,.bool false,.string ⟨#[]⟩,.string ⟨#[]⟩,.string ⟨#[]⟩,.bool false,.slice none 0 0] _ (0,0)) from R4X)
            have BY:Below w1.heap.size w1 Y:=by rw [hY];exact below_op BX G4.out
            have hY':Y = (((((((((((X.setCell ⟨g4,0,none⟩ (.int .u8 (k:Int))).setCell ⟨g4,1,none⟩ (.slice s2.pA s2.pn s2.pc)).setCell ⟨g4,2,none⟩ (.int .i64 i)).setCell ⟨g4,3,none⟩ (.slice s2.tA s2.tn s2.tc)).setCell ⟨g4,4,none⟩ (.int .u64 0)).setCell ⟨g4,5,none⟩ (.bool false)).setCell ⟨g4,6,none⟩ (.string ⟨#[]⟩)).setCell ⟨g4,7,none⟩ (.string ⟨#[]⟩)).setCell ⟨g4,8,none⟩ (.string ⟨#[]⟩)).setCell ⟨g4,9,none⟩ (.bool false)).setCell ⟨g4,10,none⟩ (.slice s2.qA s2.qn s2.qc)):=hY
            rw [← hY']
            clear q0 q1 q2 q3 q4 q5 q6 q7 q8 q9 q10 qf y3
            refine hK _ _ ?_
            clear hK K hY hY'
            try simp only [Act.put,List.setIfInBounds_toArray,List.set_cons_zero,List.set_cons_succ]
            have F:=Lib.hid (show Y.heap[g3]? = some (.cells (opCells (⟨k,p,i,t,0,false,[],[],[],false,[]⟩:Ov) s1) 26 (0,0))∧Y.heap[g4]? = some (.cells (opCells (⟨k,p,i,t,0,false,[],[],[],false,[]⟩:Ov) s2) 26 (0,0))∧P4.OwnI w.heap.size Y (.slice s1.pA s1.pn s1.pc) p∧P4.OwnI w.heap.size Y (.slice s1.tA s1.tn s1.tc) t∧P4.OwnI w.heap.size Y (.slice s2.pA s2.pn s2.pc) p∧P4.OwnI w.heap.size Y (.slice s2.tA s2.tn s2.tc) t∧s1.qn = 0∧Below w.heap.size w Y from ⟨(KY g3 NE.out).trans RX,RY,own_away (own_away P1.out R3.out KX) R4X KY,own_away (own_away T1.out R3.out KX) R4X KY,own_away (own_away P2.out R3.out KX) R4X KY,own_away (own_away T2.out R3.out KX) R4X KY,Q1.out,B1.out.trans (BY.mono B1.out.size)⟩)
            refine wpAny_done (by kernel_rfl) ?_ _
            refine hK0 _ _ ?_
            clear hK0 RX RY KX KY ZX ZY BX BY R4X hHeld
            go_wp2_with fail
            go_meet
            exact ⟨g3,g4,s1,s2,rfl,rfl,F.out⟩
      · go_simp
        obtain ⟨x17,hX⟩:∃ Q9,Q9 = D.alloc (.cells zero11 26):=⟨_,rfl⟩
        have hX':x17 = D.alloc (.cells #[.int .u8 0,.slice none 0 0,.int .i64 0,.slice none 0 0,.int .u64 0,.bool false,.string ⟨#[]⟩,.string ⟨#[]⟩,.string ⟨#[]⟩,.bool false,.slice none 0 0] 26):=hX
        rw [← hX']
        have hb:Below D.heap.size D x17:=by rw [hX];exact (Below.refl _ _).alloc (Nat.le_refl _) _
        have rn:x17.heap[D.heap.size]? = some (.cells zero11 26 (0,0)):=by rw [hX];exact heap_alloc_new D _
        have hge:w1.heap.size≤D.heap.size:=BB.out.size
        have BB:=Lib.hid (BB.out.trans (hb.mono BB.out.size))
        obtain ⟨g3,hg⟩:∃ g,g = D.heap.size:=⟨_,rfl⟩
        rw [← hg] at rn hge ⊢
        have R3:=Lib.hid rn
        have G3:=Lib.hid hge
        clear hX hX' hb rn hge hg
        refine hK.out _ _ ?_ (fun hNew=>?_)
        · exact BB.out
        clear hK K hHeld
        have hHeld:=hNew
        clear hNew
        try simp only [Act.put,List.setIfInBounds_toArray,List.set_cons_zero,List.set_cons_succ]
        refine Top.wpAnyL_two (i:=1) (j:=5) (by kernel_rfl) (show _ = some { dst:=some 10,op:=Go.Op.call { callee:=Go.Callee.value (Go.Operand.func 22),args:=#[Go.Operand.tmp 9],argTypes:=#[26] },type:=26,pos:="law.go:46",after:=#[{ on:=0,ground:=Go.Ground.data }],guard:=none } from rfl) (show _ = some { dst:=some 4,op:=Go.Op.alloc 26,type:=0,pos:="law.go:46",after:=#[],guard:=none } from rfl) (by decide) (by decide) (fun K hK=>?_) (fun K hK=>?_)
        · go_simp
          refine (hu1.out x17 (B1.out.trans (BB.out.mono B1.out.size))).mono ?_
          have BBo:=BB
          rintro e y18 ⟨s1,rfl,ho,hb⟩
          have BB:=Lib.hid (BB.out.trans (hb.mono BB.out.size))
          have R3:=Lib.hid ((hb.block _ (Array.getElem?_eq_some_iff.1 R3.out).1).trans R3.out)
          have P1:=Lib.hid (own_mono ho.path (base':=w.heap.size) (Below.size (B1.out.trans (BBo.out.mono B1.out.size))))
          have T1:=Lib.hid (own_mono ho.to_ (base':=w.heap.size) (Below.size (B1.out.trans (BBo.out.mono B1.out.size))))
          have Q1:=Lib.hid (own_qn ho.pieces)
          clear ho hb BBo
          go_simp
          refine hK.out _ _ ?_ (fun hNew=>?_)
          · exact BB.out
          clear hK K hHeld
          have hHeld:=hNew
          clear hNew
          try simp only [Act.put,List.setIfInBounds_toArray,List.set_cons_zero,List.set_cons_succ]
          refine Top.wpAnyL_two (i:=3) (j:=5) (by kernel_rfl) (show _ = some { dst:=some 12,op:=Go.Op.call { callee:=Go.Callee.value (Go.Operand.func 23),args:=#[Go.Operand.tmp 11],argTypes:=#[26] },type:=26,pos:="law.go:46",after:=#[{ on:=2,ground:=Go.Ground.data },{ on:=1,ground:=Go.Ground.chain }],guard:=none } from rfl) (show _ = some { dst:=some 4,op:=Go.Op.alloc 26,type:=0,pos:="law.go:46",after:=#[],guard:=none } from rfl) (by decide) (by decide) (fun K hK=>?_) (fun K hK=>?_)
          · go_simp
            refine (hu2.out y18 (B1.out.trans (BB.out.mono B1.out.size))).mono ?_
            have BBo:=BB
            rintro e y19 ⟨s2,rfl,ho,hb⟩
            have BB:=Lib.hid (BB.out.trans (hb.mono BB.out.size))
            have P1:=Lib.hid (Top.own_kept (w':=y19) P1.out fun k _ h2=>hb.block k h2)
            have T1:=Lib.hid (Top.own_kept (w':=y19) T1.out fun k _ h2=>hb.block k h2)
            have R3:=Lib.hid ((hb.block _ (Array.getElem?_eq_some_iff.1 R3.out).1).trans R3.out)
            have P2:=Lib.hid (own_mono ho.path (base':=w.heap.size) (Below.size (B1.out.trans (BBo.out.mono B1.out.size))))
            have T2:=Lib.hid (own_mono ho.to_ (base':=w.heap.size) (Below.size (B1.out.trans (BBo.out.mono B1.out.size))))
            have Q2:=Lib.hid (own_qn ho.pieces)
            clear ho hb BBo
            go_simp
            refine hK.out _ _ ?_ (fun hNew=>?_)
            · exact BB.out
            clear hK K hHeld
            have hHeld:=hNew
            clear hNew
            try simp only [Act.put,List.setIfInBounds_toArray,List.set_cons_zero,List.set_cons_succ]
            refine Top.wpAnyL_one (i:=5) (o:={ dst:=some 4,op:=Go.Op.alloc 26,type:=0,pos:="law.go:46",after:=#[],guard:=none }) (by kernel_rfl) rfl (by decide) (fun K hK=>?_)
            go_simp
            obtain ⟨x20,hX⟩:∃ Q9,Q9 = y19.alloc (.cells zero11 26):=⟨_,rfl⟩
            have hX':x20 = y19.alloc (.cells #[.int .u8 0,.slice none 0 0,.int .i64 0,.slice none 0 0,.int .u64 0,.bool false,.string ⟨#[]⟩,.string ⟨#[]⟩,.string ⟨#[]⟩,.bool false,.slice none 0 0] 26):=hX
            rw [← hX']
            have hb:Below y19.heap.size y19 x20:=by rw [hX];exact (Below.refl _ _).alloc (Nat.le_refl _) _
            have rn:x20.heap[y19.heap.size]? = some (.cells zero11 26 (0,0)):=by rw [hX];exact heap_alloc_new y19 _
            have hne0:g3 ≠ y19.heap.size:=Nat.ne_of_lt (Array.getElem?_eq_some_iff.1 R3.out).1
            have hge:w1.heap.size≤y19.heap.size:=BB.out.size
            have BB:=Lib.hid (BB.out.trans (hb.mono BB.out.size))
            have P1:=Lib.hid (Top.own_kept (w':=x20) P1.out fun k _ h2=>hb.block k h2)
            have T1:=Lib.hid (Top.own_kept (w':=x20) T1.out fun k _ h2=>hb.block k h2)
            have P2:=Lib.hid (Top.own_kept (w':=x20) P2.out fun k _ h2=>hb.block k h2)
            have T2:=Lib.hid (Top.own_kept (w':=x20) T2.out fun k _ h2=>hb.block k h2)
            have R3:=Lib.hid ((hb.block _ (Array.getElem?_eq_some_iff.1 R3.out).1).trans R3.out)
            obtain ⟨g4,hg⟩:∃ g,g = y19.heap.size:=⟨_,rfl⟩
            rw [← hg] at rn hge hne0 ⊢
            have R4:=Lib.hid rn
            have G4:=Lib.hid hge
            have NE:=Lib.hid (show g3 ≠ g4 from hne0)
            clear hne0
            clear hX hX' hb rn hge hg
            refine hK.out _ _ ?_ (fun hNew=>?_)
            · exact BB.out
            clear hK K hHeld
            have hHeld:=hNew
            clear hNew
            try simp only [Act.put,List.setIfInBounds_toArray,List.set_cons_zero,List.set_cons_succ]
            have y3:=R3.out
            unfold zero11 at y3
            obtain ⟨q0,q1,q2,q3,q4,q5,q6,q7,q8,q9,q10,qf⟩:=eleven_cells y3
            refine Top.wpAnyL_one (i:=6) (o:={ dst:=none,op:=Go.Op.store 26 (Go.Operand.tmp 3) (Go.Operand.tmp 10),type:=0,pos:="law.go:46",after:=#[{ on:=4,ground:=Go.Ground.data },{ on:=1,ground:=Go.Ground.data },{ on:=3,ground:=Go.Ground.chain },{ on:=0,ground:=Go.Ground.phase },{ on:=1,ground:=Go.Ground.phase },{ on:=2,ground:=Go.Ground.textOnly Go.Departure.lateStores },{ on:=3,ground:=Go.Ground.textOnly Go.Departure.lateStoresUnsure },{ on:=4,ground:=Go.Ground.phase },{ on:=5,ground:=Go.Ground.phase }],guard:=none }) (by kernel_rfl) rfl (by decide) (fun K hK=>?_)
            go_simp
            obtain ⟨X,hX,RX,-,ZX,KX⟩:=end_op (w:=w1) (o:=(⟨k,p,i,t,0,false,[],[],[],false,[]⟩:Ov)) (s:=s1) (r:=g3) G3.out BB.out (show x20.heap[g3]? = some (.cells #[.int .u8 0,.slice none 0 0,.int .i64 0,.slice none 0 0,.int .u64 0,.bool false,.string ⟨#[]⟩,.string ⟨#[]⟩,.string ⟨#[]⟩,.bool false,.slice none 0 0] _ (0,0)) from R3.out)
            have BX:Below w1.heap.size w1 X:=by rw [hX];exact below_op BB.out G3.out
            have hX':X = (((((((((((x20.setCell ⟨g3,0,none⟩ (.int .u8 (k:Int))).setCell ⟨g3,1,none⟩ (.slice s1.pA s1.pn s1.pc)).setCell ⟨g3,2,none⟩ (.int .i64 i)).setCell ⟨g3,3,none⟩ (.slice s1.tA s1.tn s1.tc)).setCell ⟨g3,4,none⟩ (.int .u64 0)).setCell ⟨g3,5,none⟩ (.bool false)).setCell ⟨g3,6,none⟩ (.string ⟨#[]⟩)).setCell ⟨g3,7,none⟩ (.string ⟨#[]⟩)).setCell ⟨g3,8,none⟩ (.string ⟨#[]⟩)).setCell ⟨g3,9,none⟩ (.bool false)).setCell ⟨g3,10,none⟩ (.slice s1.qA s1.qn s1.qc)):=hX
            rw [← hX']
            clear q0 q1 q2 q3 q4 q5 q6 q7 q8 q9 q10 qf y3
            refine hK.out _ _ ?_ (fun hNew=>?_)
            · exact BX
            clear hK K hHeld hX hX'
            have hHeld:=hNew
            clear hNew
            try simp only [Act.put,List.setIfInBounds_toArray,List.set_cons_zero,List.set_cons_succ]
            have R4X:=(KX g4 (Ne.symm NE.out)).trans R4.out
            have y3:=R4X
            unfold zero11 at y3
            obtain ⟨q0,q1,q2,q3,q4,q5,q6,q7,q8,q9,q10,qf⟩:=eleven_cells y3
            refine Top.wpAnyL_last (o:={ dst:=none,op:=Go.Op.store 26 (Go.Operand.tmp 4) (Go.Operand.tmp 12),type:=0,pos:="law.go:46",after:=#[{ on:=5,ground:=Go.Ground.data },{ on:=3,ground:=Go.Ground.data },{ on:=6,ground:=Go.Ground.chain },{ on:=0,ground:=Go.Ground.phase },{ on:=1,ground:=Go.Ground.phase },{ on:=2,ground:=Go.Ground.phase },{ on:=3,ground:=Go.Ground.phase },{ on:=4,ground:=Go.Ground.phase },{ on:=5,ground:=Go.Ground.phase },{ on:=6,ground:=Go.Ground.phase }],guard:=none }) (by kernel_rfl) rfl (fun K hK=>?_)
            go_simp
            obtain ⟨Y,hY,RY,-,ZY,KY⟩:=end_op (w:=w1) (o:=(⟨k,p,i,t,0,false,[],[],[],false,[]⟩:Ov)) (s:=s2) (r:=g4) G4.out BX (show X.heap[g4]? = some (.cells #[.int .u8 0,.slice none 0 0,.int .i64 0,.slice none 0 0,.int .u64 0,.bool false,.string ⟨#[]⟩,.string ⟨#[]⟩,.string ⟨#[]⟩,.bool false,.slice none 0 0] _ (0,0)) from R4X)
            have BY:Below w1.heap.size w1 Y:=by rw [hY];exact below_op BX G4.out
            have hY':Y = (((((((((((X.setCell ⟨g4,0,none⟩ (.int .u8 (k:Int))).setCell ⟨g4,1,none⟩ (.slice s2.pA s2.pn s2.pc)).setCell ⟨g4,2,none⟩ (.int .i64 i)).setCell ⟨g4,3,none⟩ (.slice s2.tA s2.tn s2.tc)).setCell ⟨g4,4,none⟩ (.int .u64 0)).setCell ⟨g4,5,none⟩ (.bool false)).setCell ⟨g4,6,none⟩ (.string ⟨#[]⟩)).setCell ⟨g4,7,none⟩ (.string ⟨#[]⟩)).setCell ⟨g4,8,none⟩ (.string ⟨#[]⟩)).setCell ⟨g4,9,none⟩ (.bool false)).setCell ⟨g4,10,none⟩ (.slice s2.qA s2.qn s2.qc)):=hY
            rw [← hY']
            clear q0 q1 q2 q3 q4 q5 q6 q7 q8 q9 q10 qf y3
            refine hK _ _ ?_
            clear hK K hY hY'
            try simp only [Act.put,List.setIfInBounds_toArray,List.set_cons_zero,List.set_cons_succ]
            have F:=Lib.hid (show Y.heap[g3]? = some (.cells (opCells (⟨k,p,i,t,0,false,[],[],[],false,[]⟩:Ov) s1) 26 (0,0))∧Y.heap[g4]? = some (.cells (opCells (⟨k,p,i,t,0,false,[],[],[],false,[]⟩:Ov) s2) 26 (0,0))∧P4.OwnI w.heap.size Y (.slice s1.pA s1.pn s1.pc) p∧P4.OwnI w.heap.size Y (.slice s1.tA s1.tn s1.tc) t∧P4.OwnI w.heap.size Y (.slice s2.pA s2.pn s2.pc) p∧P4.OwnI w.heap.size Y (.slice s2.tA s2.tn s2.tc) t∧s1.qn = 0∧Below w.heap.size w Y from ⟨(KY g3 NE.out).trans RX,RY,own_away (own_away P1.out R3.out KX) R4X KY,own_away (own_away T1.out R3.out KX) R4X KY,own_away (own_away P2.out R3.out KX) R4X KY,own_away (own_away T2.out R3.out KX) R4X KY,Q1.out,B1.out.trans (BY.mono B1.out.size)⟩)
            refine wpAny_done (by kernel_rfl) ?_ _
            refine hK0 _ _ ?_
            clear hK0 RX RY KX KY ZX ZY BX BY R4X hHeld
            go_wp2_with fail
            go_meet
            exact ⟨g3,g4,s1,s2,rfl,rfl,F.out⟩
          · go_simp
            obtain ⟨x21,hX⟩:∃ Q9,Q9 = y18.alloc (.cells zero11 26):=⟨_,rfl⟩
            have hX':x21 = y18.alloc (.cells #[.int .u8 0,.slice none 0 0,.int .i64 0,.slice none 0 0,.int .u64 0,.bool false,.string ⟨#[]⟩,.string ⟨#[]⟩,.string ⟨#[]⟩,.bool false,.slice none 0 0] 26):=hX
            rw [← hX']
            have hb:Below y18.heap.size y18 x21:=by rw [hX];exact (Below.refl _ _).alloc (Nat.le_refl _) _
            have rn:x21.heap[y18.heap.size]? = some (.cells zero11 26 (0,0)):=by rw [hX];exact heap_alloc_new y18 _
            have hne0:g3 ≠ y18.heap.size:=Nat.ne_of_lt (Array.getElem?_eq_some_iff.1 R3.out).1
            have hge:w1.heap.size≤y18.heap.size:=BB.out.size
            have BB:=Lib.hid (BB.out.trans (hb.mono BB.out.size))
            have P1:=Lib.hid (Top.own_kept (w':=x21) P1.out fun k _ h2=>hb.block k h2)
            have T1:=Lib.hid (Top.own_kept (w':=x21) T1.out fun k _ h2=>hb.block k h2)
            have R3:=Lib.hid ((hb.block _ (Array.getElem?_eq_some_iff.1 R3.out).1).trans R3.out)
            obtain ⟨g4,hg⟩:∃ g,g = y18.heap.size:=⟨_,rfl⟩
            rw [← hg] at rn hge hne0 ⊢
            have R4:=Lib.hid rn
            have G4:=Lib.hid hge
            have NE:=Lib.hid (show g3 ≠ g4 from hne0)
            clear hne0
            clear hX hX' hb rn hge hg
            refine hK.out _ _ ?_ (fun hNew=>?_)
            · exact BB.out
            clear hK K hHeld
            have hHeld:=hNew
            clear hNew
            try simp only [Act.put,List.setIfInBounds_toArray,List.set_cons_zero,List.set_cons_succ]
            refine Top.wpAnyL_one (i:=3) (o:={ dst:=some 12,op:=Go.Op.call { callee:=Go.Callee.value (Go.Operand.func 23),args:=#[Go.Operand.tmp 11],argTypes:=#[26] },type:=26,pos:="law.go:46",after:=#[{ on:=2,ground:=Go.Ground.data },{ on:=1,ground:=Go.Ground.chain }],guard:=none }) (by kernel_rfl) rfl (by decide) (fun K hK=>?_)
            go_simp
            refine (hu2.out x21 (B1.out.trans (BB.out.mono B1.out.size))).mono ?_
            have BBo:=BB
            rintro e y22 ⟨s2,rfl,ho,hb⟩
            have BB:=Lib.hid (BB.out.trans (hb.mono BB.out.size))
            have P1:=Lib.hid (Top.own_kept (w':=y22) P1.out fun k _ h2=>hb.block k h2)
            have T1:=Lib.hid (Top.own_kept (w':=y22) T1.out fun k _ h2=>hb.block k h2)
            have R3:=Lib.hid ((hb.block _ (Array.getElem?_eq_some_iff.1 R3.out).1).trans R3.out)
            have R4:=Lib.hid ((hb.block _ (Array.getElem?_eq_some_iff.1 R4.out).1).trans R4.out)
            have P2:=Lib.hid (own_mono ho.path (base':=w.heap.size) (Below.size (B1.out.trans (BBo.out.mono B1.out.size))))
            have T2:=Lib.hid (own_mono ho.to_ (base':=w.heap.size) (Below.size (B1.out.trans (BBo.out.mono B1.out.size))))
            have Q2:=Lib.hid (own_qn ho.pieces)
            clear ho hb BBo
            go_simp
            refine hK.out _ _ ?_ (fun hNew=>?_)
            · exact BB.out
            clear hK K hHeld
            have hHeld:=hNew
            clear hNew
            try simp only [Act.put,List.setIfInBounds_toArray,List.set_cons_zero,List.set_cons_succ]
            have y3:=R3.out
            unfold zero11 at y3
            obtain ⟨q0,q1,q2,q3,q4,q5,q6,q7,q8,q9,q10,qf⟩:=eleven_cells y3
            refine Top.wpAnyL_one (i:=6) (o:={ dst:=none,op:=Go.Op.store 26 (Go.Operand.tmp 3) (Go.Operand.tmp 10),type:=0,pos:="law.go:46",after:=#[{ on:=4,ground:=Go.Ground.data },{ on:=1,ground:=Go.Ground.data },{ on:=3,ground:=Go.Ground.chain },{ on:=0,ground:=Go.Ground.phase },{ on:=1,ground:=Go.Ground.phase },{ on:=2,ground:=Go.Ground.textOnly Go.Departure.lateStores },{ on:=3,ground:=Go.Ground.textOnly Go.Departure.lateStoresUnsure },{ on:=4,ground:=Go.Ground.phase },{ on:=5,ground:=Go.Ground.phase }],guard:=none }) (by kernel_rfl) rfl (by decide) (fun K hK=>?_)
            go_simp
            obtain ⟨X,hX,RX,-,ZX,KX⟩:=end_op (w:=w1) (o:=(⟨k,p,i,t,0,false,[],[],[],false,[]⟩:Ov)) (s:=s1) (r:=g3) G3.out BB.out (show y22.heap[g3]? = some (.cells #[.int .u8 0,.slice none 0 0,.int .i64 0,.slice none 0 0,.int .u64 0,.bool false,.string ⟨#[]⟩,.string ⟨#[]⟩,.string ⟨#[]⟩,.bool false,.slice none 0 0] _ (0,0)) from R3.out)
            have BX:Below w1.heap.size w1 X:=by rw [hX];exact below_op BB.out G3.out
            have hX':X = (((((((((((y22.setCell ⟨g3,0,none⟩ (.int .u8 (k:Int))).setCell ⟨g3,1,none⟩ (.slice s1.pA s1.pn s1.pc)).setCell ⟨g3,2,none⟩ (.int .i64 i)).setCell ⟨g3,3,none⟩ (.slice s1.tA s1.tn s1.tc)).setCell ⟨g3,4,none⟩ (.int .u64 0)).setCell ⟨g3,5,none⟩ (.bool false)).setCell ⟨g3,6,none⟩ (.string ⟨#[]⟩)).setCell ⟨g3,7,none⟩ (.string ⟨#[]⟩)).setCell ⟨g3,8,none⟩ (.string ⟨#[]⟩)).setCell ⟨g3,9,none⟩ (.bool false)).setCell ⟨g3,10,none⟩ (.slice s1.qA s1.qn s1.qc)):=hX
            rw [← hX']
            clear q0 q1 q2 q3 q4 q5 q6 q7 q8 q9 q10 qf y3
            refine hK.out _ _ ?_ (fun hNew=>?_)
            · exact BX
            clear hK K hHeld hX hX'
            have hHeld:=hNew
            clear hNew
            try simp only [Act.put,List.setIfInBounds_toArray,List.set_cons_zero,List.set_cons_succ]
            have R4X:=(KX g4 (Ne.symm NE.out)).trans R4.out
            have y3:=R4X
            unfold zero11 at y3
            obtain ⟨q0,q1,q2,q3,q4,q5,q6,q7,q8,q9,q10,qf⟩:=eleven_cells y3
            refine Top.wpAnyL_last (o:={ dst:=none,op:=Go.Op.store 26 (Go.Operand.tmp 4) (Go.Operand.tmp 12),type:=0,pos:="law.go:46",after:=#[{ on:=5,ground:=Go.Ground.data },{ on:=3,ground:=Go.Ground.data },{ on:=6,ground:=Go.Ground.chain },{ on:=0,ground:=Go.Ground.phase },{ on:=1,ground:=Go.Ground.phase },{ on:=2,ground:=Go.Ground.phase },{ on:=3,ground:=Go.Ground.phase },{ on:=4,ground:=Go.Ground.phase },{ on:=5,ground:=Go.Ground.phase },{ on:=6,ground:=Go.Ground.phase }],guard:=none }) (by kernel_rfl) rfl (fun K hK=>?_)
            go_simp
            obtain ⟨Y,hY,RY,-,ZY,KY⟩:=end_op (w:=w1) (o:=(⟨k,p,i,t,0,false,[],[],[],false,[]⟩:Ov)) (s:=s2) (r:=g4) G4.out BX (show X.heap[g4]? = some (.cells #[.int .u8 0,.slice none 0 0,.int .i64 0,.slice none 0 0,.int .u64 0,.bool false,.string ⟨#[]⟩,.string ⟨#[]⟩,.string ⟨#[]⟩,.bool false,.slice none 0 0] _ (0,0)) from R4X)
            have BY:Below w1.heap.size w1 Y:=by rw [hY];exact below_op BX G4.out
            have hY':Y = (((((((((((X.setCell ⟨g4,0,none⟩ (.int .u8 (k:Int))).setCell ⟨g4,1,none⟩ (.slice s2.pA s2.pn s2.pc)).setCell ⟨g4,2,none⟩ (.int .i64 i)).setCell ⟨g4,3,none⟩ (.slice s2.tA s2.tn s2.tc)).setCell ⟨g4,4,none⟩ (.int .u64 0)).setCell ⟨g4,5,none⟩ (.bool false)).setCell ⟨g4,6,none⟩ (.string ⟨#[]⟩)).setCell ⟨g4,7,none⟩ (.string ⟨#[]⟩)).setCell ⟨g4,8,none⟩ (.string ⟨#[]⟩)).setCell ⟨g4,9,none⟩ (.bool false)).setCell ⟨g4,10,none⟩ (.slice s2.qA s2.qn s2.qc)):=hY
            rw [← hY']
            clear q0 q1 q2 q3 q4 q5 q6 q7 q8 q9 q10 qf y3
            refine hK _ _ ?_
            clear hK K hY hY'
            try simp only [Act.put,List.setIfInBounds_toArray,List.set_cons_zero,List.set_cons_succ]
            have F:=Lib.hid (show Y.heap[g3]? = some (.cells (opCells (⟨k,p,i,t,0,false,[],[],[],false,[]⟩:Ov) s1) 26 (0,0))∧Y.heap[g4]? = some (.cells (opCells (⟨k,p,i,t,0,false,[],[],[],false,[]⟩:Ov) s2) 26 (0,0))∧P4.OwnI w.heap.size Y (.slice s1.pA s1.pn s1.pc) p∧P4.OwnI w.heap.size Y (.slice s1.tA s1.tn s1.tc) t∧P4.OwnI w.heap.size Y (.slice s2.pA s2.pn s2.pc) p∧P4.OwnI w.heap.size Y (.slice s2.tA s2.tn s2.tc) t∧s1.qn = 0∧Below w.heap.size w Y from ⟨(KY g3 NE.out).trans RX,RY,own_away (own_away P1.out R3.out KX) R4X KY,own_away (own_away T1.out R3.out KX) R4X KY,own_away (own_away P2.out R3.out KX) R4X KY,own_away (own_away T2.out R3.out KX) R4X KY,Q1.out,B1.out.trans (BY.mono B1.out.size)⟩)
            refine wpAny_done (by kernel_rfl) ?_ _
            refine hK0 _ _ ?_
            clear hK0 RX RY KX KY ZX ZY BX BY R4X hHeld
            go_wp2_with fail
            go_meet
            exact ⟨g3,g4,s1,s2,rfl,rfl,F.out⟩
        · go_simp
          obtain ⟨x23,hX⟩:∃ Q9,Q9 = x17.alloc (.cells zero11 26):=⟨_,rfl⟩
          have hX':x23 = x17.alloc (.cells #[.int .u8 0,.slice none 0 0,.int .i64 0,.slice none 0 0,.int .u64 0,.bool false,.string ⟨#[]⟩,.string ⟨#[]⟩,.string ⟨#[]⟩,.bool false,.slice none 0 0] 26):=hX
          rw [← hX']
          have hb:Below x17.heap.size x17 x23:=by rw [hX];exact (Below.refl _ _).alloc (Nat.le_refl _) _
          have rn:x23.heap[x17.heap.size]? = some (.cells zero11 26 (0,0)):=by rw [hX];exact heap_alloc_new x17 _
          have hne0:g3 ≠ x17.heap.size:=Nat.ne_of_lt (Array.getElem?_eq_some_iff.1 R3.out).1
          have hge:w1.heap.size≤x17.heap.size:=BB.out.size
          have BB:=Lib.hid (BB.out.trans (hb.mono BB.out.size))
          have R3:=Lib.hid ((hb.block _ (Array.getElem?_eq_some_iff.1 R3.out).1).trans R3.out)
          obtain ⟨g4,hg⟩:∃ g,g = x17.heap.size:=⟨_,rfl⟩
          rw [← hg] at rn hge hne0 ⊢
          have R4:=Lib.hid rn
          have G4:=Lib.hid hge
          have NE:=Lib.hid (show g3 ≠ g4 from hne0)
          clear hne0
          clear hX hX' hb rn hge hg
          refine hK.out _ _ ?_ (fun hNew=>?_)
          · exact BB.out
          clear hK K hHeld
          have hHeld:=hNew
          clear hNew
          try simp only [Act.put,List.setIfInBounds_toArray,List.set_cons_zero,List.set_cons_succ]
          refine Top.wpAnyL_one (i:=1) (o:={ dst:=some 10,op:=Go.Op.call { callee:=Go.Callee.value (Go.Operand.func 22),args:=#[Go.Operand.tmp 9],argTypes:=#[26] },type:=26,pos:="law.go:46",after:=#[{ on:=0,ground:=Go.Ground.data }],guard:=none }) (by kernel_rfl) rfl (by decide) (fun K hK=>?_)
          go_simp
          refine (hu1.out x23 (B1.out.trans (BB.out.mono B1.out.size))).mono ?_
          have BBo:=BB
          rintro e y24 ⟨s1,rfl,ho,hb⟩
          have BB:=Lib.hid (BB.out.trans (hb.mono BB.out.size))
          have R3:=Lib.hid ((hb.block _ (Array.getElem?_eq_some_iff.1 R3.out).1).trans R3.out)
          have R4:=Lib.hid ((hb.block _ (Array.getElem?_eq_some_iff.1 R4.out).1).trans R4.out)
          have P1:=Lib.hid (own_mono ho.path (base':=w.heap.size) (Below.size (B1.out.trans (BBo.out.mono B1.out.size))))
          have T1:=Lib.hid (own_mono ho.to_ (base':=w.heap.size) (Below.size (B1.out.trans (BBo.out.mono B1.out.size))))
          have Q1:=Lib.hid (own_qn ho.pieces)
          clear ho hb BBo
          go_simp
          refine hK.out _ _ ?_ (fun hNew=>?_)
          · exact BB.out
          clear hK K hHeld
          have hHeld:=hNew
          clear hNew
          try simp only [Act.put,List.setIfInBounds_toArray,List.set_cons_zero,List.set_cons_succ]
          refine Top.wpAnyL_one (i:=3) (o:={ dst:=some 12,op:=Go.Op.call { callee:=Go.Callee.value (Go.Operand.func 23),args:=#[Go.Operand.tmp 11],argTypes:=#[26] },type:=26,pos:="law.go:46",after:=#[{ on:=2,ground:=Go.Ground.data },{ on:=1,ground:=Go.Ground.chain }],guard:=none }) (by kernel_rfl) rfl (by decide) (fun K hK=>?_)
          go_simp
          refine (hu2.out y24 (B1.out.trans (BB.out.mono B1.out.size))).mono ?_
          have BBo:=BB
          rintro e y25 ⟨s2,rfl,ho,hb⟩
          have BB:=Lib.hid (BB.out.trans (hb.mono BB.out.size))
          have P1:=Lib.hid (Top.own_kept (w':=y25) P1.out fun k _ h2=>hb.block k h2)
          have T1:=Lib.hid (Top.own_kept (w':=y25) T1.out fun k _ h2=>hb.block k h2)
          have R3:=Lib.hid ((hb.block _ (Array.getElem?_eq_some_iff.1 R3.out).1).trans R3.out)
          have R4:=Lib.hid ((hb.block _ (Array.getElem?_eq_some_iff.1 R4.out).1).trans R4.out)
          have P2:=Lib.hid (own_mono ho.path (base':=w.heap.size) (Below.size (B1.out.trans (BBo.out.mono B1.out.size))))
          have T2:=Lib.hid (own_mono ho.to_ (base':=w.heap.size) (Below.size (B1.out.trans (BBo.out.mono B1.out.size))))
          have Q2:=Lib.hid (own_qn ho.pieces)
          clear ho hb BBo
          go_simp
          refine hK.out _ _ ?_ (fun hNew=>?_)
          · exact BB.out
          clear hK K hHeld
          have hHeld:=hNew
          clear hNew
          try simp only [Act.put,List.setIfInBounds_toArray,List.set_cons_zero,List.set_cons_succ]
          have y3:=R3.out
          unfold zero11 at y3
          obtain ⟨q0,q1,q2,q3,q4,q5,q6,q7,q8,q9,q10,qf⟩:=eleven_cells y3
          refine Top.wpAnyL_one (i:=6) (o:={ dst:=none,op:=Go.Op.store 26 (Go.Operand.tmp 3) (Go.Operand.tmp 10),type:=0,pos:="law.go:46",after:=#[{ on:=4,ground:=Go.Ground.data },{ on:=1,ground:=Go.Ground.data },{ on:=3,ground:=Go.Ground.chain },{ on:=0,ground:=Go.Ground.phase },{ on:=1,ground:=Go.Ground.phase },{ on:=2,ground:=Go.Ground.textOnly Go.Departure.lateStores },{ on:=3,ground:=Go.Ground.textOnly Go.Departure.lateStoresUnsure },{ on:=4,ground:=Go.Ground.phase },{ on:=5,ground:=Go.Ground.phase }],guard:=none }) (by kernel_rfl) rfl (by decide) (fun K hK=>?_)
          go_simp
          obtain ⟨X,hX,RX,-,ZX,KX⟩:=end_op (w:=w1) (o:=(⟨k,p,i,t,0,false,[],[],[],false,[]⟩:Ov)) (s:=s1) (r:=g3) G3.out BB.out (show y25.heap[g3]? = some (.cells #[.int .u8 0,.slice none 0 0,.int .i64 0,.slice none 0 0,.int .u64 0,.bool false,.string ⟨#[]⟩,.string ⟨#[]⟩,.string ⟨#[]⟩,.bool false,.slice none 0 0] _ (0,0)) from R3.out)
          have BX:Below w1.heap.size w1 X:=by rw [hX];exact below_op BB.out G3.out
          have hX':X = (((((((((((y25.setCell ⟨g3,0,none⟩ (.int .u8 (k:Int))).setCell ⟨g3,1,none⟩ (.slice s1.pA s1.pn s1.pc)).setCell ⟨g3,2,none⟩ (.int .i64 i)).setCell ⟨g3,3,none⟩ (.slice s1.tA s1.tn s1.tc)).setCell ⟨g3,4,none⟩ (.int .u64 0)).setCell ⟨g3,5,none⟩ (.bool false)).setCell ⟨g3,6,none⟩ (.string ⟨#[]⟩)).setCell ⟨g3,7,none⟩ (.string ⟨#[]⟩)).setCell ⟨g3,8,none⟩ (.string ⟨#[]⟩)).setCell ⟨g3,9,none⟩ (.bool false)).setCell ⟨g3,10,none⟩ (.slice s1.qA s1.qn s1.qc)):=hX
          rw [← hX']
          clear q0 q1 q2 q3 q4 q5 q6 q7 q8 q9 q10 qf y3
          refine hK.out _ _ ?_ (fun hNew=>?_)
          · exact BX
          clear hK K hHeld hX hX'
          have hHeld:=hNew
          clear hNew
          try simp only [Act.put,List.setIfInBounds_toArray,List.set_cons_zero,List.set_cons_succ]
          have R4X:=(KX g4 (Ne.symm NE.out)).trans R4.out
          have y3:=R4X
          unfold zero11 at y3
          obtain ⟨q0,q1,q2,q3,q4,q5,q6,q7,q8,q9,q10,qf⟩:=eleven_cells y3
          refine Top.wpAnyL_last (o:={ dst:=none,op:=Go.Op.store 26 (Go.Operand.tmp 4) (Go.Operand.tmp 12),type:=0,pos:="law.go:46",after:=#[{ on:=5,ground:=Go.Ground.data },{ on:=3,ground:=Go.Ground.data },{ on:=6,ground:=Go.Ground.chain },{ on:=0,ground:=Go.Ground.phase },{ on:=1,ground:=Go.Ground.phase },{ on:=2,ground:=Go.Ground.phase },{ on:=3,ground:=Go.Ground.phase },{ on:=4,ground:=Go.Ground.phase },{ on:=5,ground:=Go.Ground.phase },{ on:=6,ground:=Go.Ground.phase }],guard:=none }) (by kernel_rfl) rfl (fun K hK=>?_)
          go_simp
          obtain ⟨Y,hY,RY,-,ZY,KY⟩:=end_op (w:=w1) (o:=(⟨k,p,i,t,0,false,[],[],[],false,[]⟩:Ov)) (s:=s2) (r:=g4) G4.out BX (show X.heap[g4]? = some (.cells #[.int .u8 0,.slice none 0 0,.int .i64 0,.slice none 0 0,.int .u64 0,.bool false,.string ⟨#[]⟩,.string ⟨#[]⟩,.string ⟨#[]⟩,.bool false,.slice none 0 0] _ (0,0)) from R4X)
          have BY:Below w1.heap.size w1 Y:=by rw [hY];exact below_op BX G4.out
          have hY':Y = (((((((((((X.setCell ⟨g4,0,none⟩ (.int .u8 (k:Int))).setCell ⟨g4,1,none⟩ (.slice s2.pA s2.pn s2.pc)).setCell ⟨g4,2,none⟩ (.int .i64 i)).setCell ⟨g4,3,none⟩ (.slice s2.tA s2.tn s2.tc)).setCell ⟨g4,4,none⟩ (.int .u64 0)).setCell ⟨g4,5,none⟩ (.bool false)).setCell ⟨g4,6,none⟩ (.string ⟨#[]⟩)).setCell ⟨g4,7,none⟩ (.string ⟨#[]⟩)).setCell ⟨g4,8,none⟩ (.string ⟨#[]⟩)).setCell ⟨g4,9,none⟩ (.bool false)).setCell ⟨g4,10,none⟩ (.slice s2.qA s2.qn s2.qc)):=hY
          rw [← hY']
          clear q0 q1 q2 q3 q4 q5 q6 q7 q8 q9 q10 qf y3
          refine hK _ _ ?_
          clear hK K hY hY'
          try simp only [Act.put,List.setIfInBounds_toArray,List.set_cons_zero,List.set_cons_succ]
          have F:=Lib.hid (show Y.heap[g3]? = some (.cells (opCells (⟨k,p,i,t,0,false,[],[],[],false,[]⟩:Ov) s1) 26 (0,0))∧Y.heap[g4]? = some (.cells (opCells (⟨k,p,i,t,0,false,[],[],[],false,[]⟩:Ov) s2) 26 (0,0))∧P4.OwnI w.heap.size Y (.slice s1.pA s1.pn s1.pc) p∧P4.OwnI w.heap.size Y (.slice s1.tA s1.tn s1.tc) t∧P4.OwnI w.heap.size Y (.slice s2.pA s2.pn s2.pc) p∧P4.OwnI w.heap.size Y (.slice s2.tA s2.tn s2.tc) t∧s1.qn = 0∧Below w.heap.size w Y from ⟨(KY g3 NE.out).trans RX,RY,own_away (own_away P1.out R3.out KX) R4X KY,own_away (own_away T1.out R3.out KX) R4X KY,own_away (own_away P2.out R3.out KX) R4X KY,own_away (own_away T2.out R3.out KX) R4X KY,Q1.out,B1.out.trans (BY.mono B1.out.size)⟩)
          refine wpAny_done (by kernel_rfl) ?_ _
          refine hK0 _ _ ?_
          clear hK0 RX RY KX KY ZX ZY BX BY R4X hHeld
          go_wp2_with fail
          go_meet
          exact ⟨g3,g4,s1,s2,rfl,rfl,F.out⟩
      · go_simp
        obtain ⟨x26,hX⟩:∃ Q9,Q9 = D.alloc (.cells zero11 26):=⟨_,rfl⟩
        have hX':x26 = D.alloc (.cells #[.int .u8 0,.slice none 0 0,.int .i64 0,.slice none 0 0,.int .u64 0,.bool false,.string ⟨#[]⟩,.string ⟨#[]⟩,.string ⟨#[]⟩,.bool false,.slice none 0 0] 26):=hX
        rw [← hX']
        have hb:Below D.heap.size D x26:=by rw [hX];exact (Below.refl _ _).alloc (Nat.le_refl _) _
        have rn:x26.heap[D.heap.size]? = some (.cells zero11 26 (0,0)):=by rw [hX];exact heap_alloc_new D _
        have hge:w1.heap.size≤D.heap.size:=BB.out.size
        have BB:=Lib.hid (BB.out.trans (hb.mono BB.out.size))
        obtain ⟨g4,hg⟩:∃ g,g = D.heap.size:=⟨_,rfl⟩
        rw [← hg] at rn hge ⊢
        have R4:=Lib.hid rn
        have G4:=Lib.hid hge
        clear hX hX' hb rn hge hg
        refine hK.out _ _ ?_ (fun hNew=>?_)
        · exact BB.out
        clear hK K hHeld
        have hHeld:=hNew
        clear hNew
        try simp only [Act.put,List.setIfInBounds_toArray,List.set_cons_zero,List.set_cons_succ]
        refine Top.wpAnyL_two (i:=1) (j:=4) (by kernel_rfl) (show _ = some { dst:=some 10,op:=Go.Op.call { callee:=Go.Callee.value (Go.Operand.func 22),args:=#[Go.Operand.tmp 9],argTypes:=#[26] },type:=26,pos:="law.go:46",after:=#[{ on:=0,ground:=Go.Ground.data }],guard:=none } from rfl) (show _ = some { dst:=some 3,op:=Go.Op.alloc 26,type:=0,pos:="law.go:46",after:=#[],guard:=none } from rfl) (by decide) (by decide) (fun K hK=>?_) (fun K hK=>?_)
        · go_simp
          refine (hu1.out x26 (B1.out.trans (BB.out.mono B1.out.size))).mono ?_
          have BBo:=BB
          rintro e y27 ⟨s1,rfl,ho,hb⟩
          have BB:=Lib.hid (BB.out.trans (hb.mono BB.out.size))
          have R4:=Lib.hid ((hb.block _ (Array.getElem?_eq_some_iff.1 R4.out).1).trans R4.out)
          have P1:=Lib.hid (own_mono ho.path (base':=w.heap.size) (Below.size (B1.out.trans (BBo.out.mono B1.out.size))))
          have T1:=Lib.hid (own_mono ho.to_ (base':=w.heap.size) (Below.size (B1.out.trans (BBo.out.mono B1.out.size))))
          have Q1:=Lib.hid (own_qn ho.pieces)
          clear ho hb BBo
          go_simp
          refine hK.out _ _ ?_ (fun hNew=>?_)
          · exact BB.out
          clear hK K hHeld
          have hHeld:=hNew
          clear hNew
          try simp only [Act.put,List.setIfInBounds_toArray,List.set_cons_zero,List.set_cons_succ]
          refine Top.wpAnyL_two (i:=3) (j:=4) (by kernel_rfl) (show _ = some { dst:=some 12,op:=Go.Op.call { callee:=Go.Callee.value (Go.Operand.func 23),args:=#[Go.Operand.tmp 11],argTypes:=#[26] },type:=26,pos:="law.go:46",after:=#[{ on:=2,ground:=Go.Ground.data },{ on:=1,ground:=Go.Ground.chain }],guard:=none } from rfl) (show _ = some { dst:=some 3,op:=Go.Op.alloc 26,type:=0,pos:="law.go:46",after:=#[],guard:=none } from rfl) (by decide) (by decide) (fun K hK=>?_) (fun K hK=>?_)
          · go_simp
            refine (hu2.out y27 (B1.out.trans (BB.out.mono B1.out.size))).mono ?_
            have BBo:=BB
            rintro e y28 ⟨s2,rfl,ho,hb⟩
            have BB:=Lib.hid (BB.out.trans (hb.mono BB.out.size))
            have P1:=Lib.hid (Top.own_kept (w':=y28) P1.out fun k _ h2=>hb.block k h2)
            have T1:=Lib.hid (Top.own_kept (w':=y28) T1.out fun k _ h2=>hb.block k h2)
            have R4:=Lib.hid ((hb.block _ (Array.getElem?_eq_some_iff.1 R4.out).1).trans R4.out)
            have P2:=Lib.hid (own_mono ho.path (base':=w.heap.size) (Below.size (B1.out.trans (BBo.out.mono B1.out.size))))
            have T2:=Lib.hid (own_mono ho.to_ (base':=w.heap.size) (Below.size (B1.out.trans (BBo.out.mono B1.out.size))))
            have Q2:=Lib.hid (own_qn ho.pieces)
            clear ho hb BBo
            go_simp
            refine hK.out _ _ ?_ (fun hNew=>?_)
            · exact BB.out
            clear hK K hHeld
            have hHeld:=hNew
            clear hNew
            try simp only [Act.put,List.setIfInBounds_toArray,List.set_cons_zero,List.set_cons_succ]
            refine Top.wpAnyL_one (i:=4) (o:={ dst:=some 3,op:=Go.Op.alloc 26,type:=0,pos:="law.go:46",after:=#[],guard:=none }) (by kernel_rfl) rfl (by decide) (fun K hK=>?_)
            go_simp
            obtain ⟨x29,hX⟩:∃ Q9,Q9 = y28.alloc (.cells zero11 26):=⟨_,rfl⟩
            have hX':x29 = y28.alloc (.cells #[.int .u8 0,.slice none 0 0,.int .i64 0,.slice none 0 0,.int .u64 0,.bool false,.string ⟨#[]⟩,.string ⟨#[]⟩,.string ⟨#[]⟩,.bool false,.slice none 0 0] 26):=hX
            rw [← hX']
            have hb:Below y28.heap.size y28 x29:=by rw [hX];exact (Below.refl _ _).alloc (Nat.le_refl _) _
            have rn:x29.heap[y28.heap.size]? = some (.cells zero11 26 (0,0)):=by rw [hX];exact heap_alloc_new y28 _
            have hne0:g4 ≠ y28.heap.size:=Nat.ne_of_lt (Array.getElem?_eq_some_iff.1 R4.out).1
            have hge:w1.heap.size≤y28.heap.size:=BB.out.size
            have BB:=Lib.hid (BB.out.trans (hb.mono BB.out.size))
            have P1:=Lib.hid (Top.own_kept (w':=x29) P1.out fun k _ h2=>hb.block k h2)
            have T1:=Lib.hid (Top.own_kept (w':=x29) T1.out fun k _ h2=>hb.block k h2)
            have P2:=Lib.hid (Top.own_kept (w':=x29) P2.out fun k _ h2=>hb.block k h2)
            have T2:=Lib.hid (Top.own_kept (w':=x29) T2.out fun k _ h2=>hb.block k h2)
            have R4:=Lib.hid ((hb.block _ (Array.getElem?_eq_some_iff.1 R4.out).1).trans R4.out)
            obtain ⟨g3,hg⟩:∃ g,g = y28.heap.size:=⟨_,rfl⟩
            rw [← hg] at rn hge hne0 ⊢
            have R3:=Lib.hid rn
            have G3:=Lib.hid hge
            have NE:=Lib.hid (show g3 ≠ g4 from Ne.symm hne0)
            clear hne0
            clear hX hX' hb rn hge hg
            refine hK.out _ _ ?_ (fun hNew=>?_)
            · exact BB.out
            clear hK K hHeld
            have hHeld:=hNew
            clear hNew
            try simp only [Act.put,List.setIfInBounds_toArray,List.set_cons_zero,List.set_cons_succ]
            have y3:=R3.out
            unfold zero11 at y3
            obtain ⟨q0,q1,q2,q3,q4,q5,q6,q7,q8,q9,q10,qf⟩:=eleven_cells y3
            refine Top.wpAnyL_one (i:=6) (o:={ dst:=none,op:=Go.Op.store 26 (Go.Operand.tmp 3) (Go.Operand.tmp 10),type:=0,pos:="law.go:46",after:=#[{ on:=4,ground:=Go.Ground.data },{ on:=1,ground:=Go.Ground.data },{ on:=3,ground:=Go.Ground.chain },{ on:=0,ground:=Go.Ground.phase },{ on:=1,ground:=Go.Ground.phase },{ on:=2,ground:=Go.Ground.textOnly Go.Departure.lateStores },{ on:=3,ground:=Go.Ground.textOnly Go.Departure.lateStoresUnsure },{ on:=4,ground:=Go.Ground.phase },{ on:=5,ground:=Go.Ground.phase }],guard:=none }) (by kernel_rfl) rfl (by decide) (fun K hK=>?_)
            go_simp
            obtain ⟨X,hX,RX,-,ZX,KX⟩:=end_op (w:=w1) (o:=(⟨k,p,i,t,0,false,[],[],[],false,[]⟩:Ov)) (s:=s1) (r:=g3) G3.out BB.out (show x29.heap[g3]? = some (.cells #[.int .u8 0,.slice none 0 0,.int .i64 0,.slice none 0 0,.int .u64 0,.bool false,.string ⟨#[]⟩,.string ⟨#[]⟩,.string ⟨#[]⟩,.bool false,.slice none 0 0] _ (0,0)) from R3.out)
            have BX:Below w1.heap.size w1 X:=by rw [hX];exact below_op BB.out G3.out
            have hX':X = (((((((((((x29.setCell ⟨g3,0,none⟩ (.int .u8 (k:Int))).setCell ⟨g3,1,none⟩ (.slice s1.pA s1.pn s1.pc)).setCell ⟨g3,2,none⟩ (.int .i64 i)).setCell ⟨g3,3,none⟩ (.slice s1.tA s1.tn s1.tc)).setCell ⟨g3,4,none⟩ (.int .u64 0)).setCell ⟨g3,5,none⟩ (.bool false)).setCell ⟨g3,6,none⟩ (.string ⟨#[]⟩)).setCell ⟨g3,7,none⟩ (.string ⟨#[]⟩)).setCell ⟨g3,8,none⟩ (.string ⟨#[]⟩)).setCell ⟨g3,9,none⟩ (.bool false)).setCell ⟨g3,10,none⟩ (.slice s1.qA s1.qn s1.qc)):=hX
            rw [← hX']
            clear q0 q1 q2 q3 q4 q5 q6 q7 q8 q9 q10 qf y3
            refine hK.out _ _ ?_ (fun hNew=>?_)
            · exact BX
            clear hK K hHeld hX hX'
            have hHeld:=hNew
            clear hNew
            try simp only [Act.put,List.setIfInBounds_toArray,List.set_cons_zero,List.set_cons_succ]
            have R4X:=(KX g4 (Ne.symm NE.out)).trans R4.out
            have y3:=R4X
            unfold zero11 at y3
            obtain ⟨q0,q1,q2,q3,q4,q5,q6,q7,q8,q9,q10,qf⟩:=eleven_cells y3
            refine Top.wpAnyL_last (o:={ dst:=none,op:=Go.Op.store 26 (Go.Operand.tmp 4) (Go.Operand.tmp 12),type:=0,pos:="law.go:46",after:=#[{ on:=5,ground:=Go.Ground.data },{ on:=3,ground:=Go.Ground.data },{ on:=6,ground:=Go.Ground.chain },{ on:=0,ground:=Go.Ground.phase },{ on:=1,ground:=Go.Ground.phase },{ on:=2,ground:=Go.Ground.phase },{ on:=3,ground:=Go.Ground.phase },{ on:=4,ground:=Go.Ground.phase },{ on:=5,ground:=Go.Ground.phase },{ on:=6,ground:=Go.Ground.phase }],guard:=none }) (by kernel_rfl) rfl (fun K hK=>?_)
            go_simp
            obtain ⟨Y,hY,RY,-,ZY,KY⟩:=end_op (w:=w1) (o:=(⟨k,p,i,t,0,false,[],[],[],false,[]⟩:Ov)) (s:=s2) (r:=g4) G4.out BX (show X.heap[g4]? = some (.cells #[.int .u8 0,.slice none 0 0,.int .i64 0,.slice none 0 0,.int .u64 0,.bool false,.string ⟨#[]⟩,.string ⟨#[]⟩,.string ⟨#[]⟩,.bool false,.slice none 0 0] _ (0,0)) from R4X)
            have BY:Below w1.heap.size w1 Y:=by rw [hY];exact below_op BX G4.out
            have hY':Y = (((((((((((X.setCell ⟨g4,0,none⟩ (.int .u8 (k:Int))).setCell ⟨g4,1,none⟩ (.slice s2.pA s2.pn s2.pc)).setCell ⟨g4,2,none⟩ (.int .i64 i)).setCell ⟨g4,3,none⟩ (.slice s2.tA s2.tn s2.tc)).setCell ⟨g4,4,none⟩ (.int .u64 0)).setCell ⟨g4,5,none⟩ (.bool false)).setCell ⟨g4,6,none⟩ (.string ⟨#[]⟩)).setCell ⟨g4,7,none⟩ (.string ⟨#[]⟩)).setCell ⟨g4,8,none⟩ (.string ⟨#[]⟩)).setCell ⟨g4,9,none⟩ (.bool false)).setCell ⟨g4,10,none⟩ (.slice s2.qA s2.qn s2.qc)):=hY
            rw [← hY']
            clear q0 q1 q2 q3 q4 q5 q6 q7 q8 q9 q10 qf y3
            refine hK _ _ ?_
            clear hK K hY hY'
            try simp only [Act.put,List.setIfInBounds_toArray,List.set_cons_zero,List.set_cons_succ]
            have F:=Lib.hid (show Y.heap[g3]? = some (.cells (opCells (⟨k,p,i,t,0,false,[],[],[],false,[]⟩:Ov) s1) 26 (0,0))∧Y.heap[g4]? = some (.cells (opCells (⟨k,p,i,t,0,false,[],[],[],false,[]⟩:Ov) s2) 26 (0,0))∧P4.OwnI w.heap.size Y (.slice s1.pA s1.pn s1.pc) p∧P4.OwnI w.heap.size Y (.slice s1.tA s1.tn s1.tc) t∧P4.OwnI w.heap.size Y (.slice s2.pA s2.pn s2.pc) p∧P4.OwnI w.heap.size Y (.slice s2.tA s2.tn s2.tc) t∧s1.qn = 0∧Below w.heap.size w Y from ⟨(KY g3 NE.out).trans RX,RY,own_away (own_away P1.out R3.out KX) R4X KY,own_away (own_away T1.out R3.out KX) R4X KY,own_away (own_away P2.out R3.out KX) R4X KY,own_away (own_away T2.out R3.out KX) R4X KY,Q1.out,B1.out.trans (BY.mono B1.out.size)⟩)
            refine wpAny_done (by kernel_rfl) ?_ _
            refine hK0 _ _ ?_
            clear hK0 RX RY KX KY ZX ZY BX BY R4X hHeld
            go_wp2_with fail
            go_meet
            exact ⟨g3,g4,s1,s2,rfl,rfl,F.out⟩
          · go_simp
            obtain ⟨x30,hX⟩:∃ Q9,Q9 = y27.alloc (.cells zero11 26):=⟨_,rfl⟩
            have hX':x30 = y27.alloc (.cells #[.int .u8 0,.slice none 0 0,.int .i64 0,.slice none 0 0,.int .u64 0,.bool false,.string ⟨#[]⟩,.string ⟨#[]⟩,.string ⟨#[]⟩,.bool false,.slice none 0 0] 26):=hX
            rw [← hX']
            have hb:Below y27.heap.size y27 x30:=by rw [hX];exact (Below.refl _ _).alloc (Nat.le_refl _) _
            have rn:x30.heap[y27.heap.size]? = some (.cells zero11 26 (0,0)):=by rw [hX];exact heap_alloc_new y27 _
            have hne0:g4 ≠ y27.heap.size:=Nat.ne_of_lt (Array.getElem?_eq_some_iff.1 R4.out).1
            have hge:w1.heap.size≤y27.heap.size:=BB.out.size
            have BB:=Lib.hid (BB.out.trans (hb.mono BB.out.size))
            have P1:=Lib.hid (Top.own_kept (w':=x30) P1.out fun k _ h2=>hb.block k h2)
            have T1:=Lib.hid (Top.own_kept (w':=x30) T1.out fun k _ h2=>hb.block k h2)
            have R4:=Lib.hid ((hb.block _ (Array.getElem?_eq_some_iff.1 R4.out).1).trans R4.out)
            obtain ⟨g3,hg⟩:∃ g,g = y27.heap.size:=⟨_,rfl⟩
            rw [← hg] at rn hge hne0 ⊢
            have R3:=Lib.hid rn
            have G3:=Lib.hid hge
            have NE:=Lib.hid (show g3 ≠ g4 from Ne.symm hne0)
            clear hne0
            clear hX hX' hb rn hge hg
            refine hK.out _ _ ?_ (fun hNew=>?_)
            · exact BB.out
            clear hK K hHeld
            have hHeld:=hNew
            clear hNew
            try simp only [Act.put,List.setIfInBounds_toArray,List.set_cons_zero,List.set_cons_succ]
            refine Top.wpAnyL_one (i:=3) (o:={ dst:=some 12,op:=Go.Op.call { callee:=Go.Callee.value (Go.Operand.func 23),args:=#[Go.Operand.tmp 11],argTypes:=#[26] },type:=26,pos:="law.go:46",after:=#[{ on:=2,ground:=Go.Ground.data },{ on:=1,ground:=Go.Ground.chain }],guard:=none }) (by kernel_rfl) rfl (by decide) (fun K hK=>?_)
            go_simp
            refine (hu2.out x30 (B1.out.trans (BB.out.mono B1.out.size))).mono ?_
            have BBo:=BB
            rintro e y31 ⟨s2,rfl,ho,hb⟩
            have BB:=Lib.hid (BB.out.trans (hb.mono BB.out.size))
            have P1:=Lib.hid (Top.own_kept (w':=y31) P1.out fun k _ h2=>hb.block k h2)
            have T1:=Lib.hid (Top.own_kept (w':=y31) T1.out fun k _ h2=>hb.block k h2)
            have R3:=Lib.hid ((hb.block _ (Array.getElem?_eq_some_iff.1 R3.out).1).trans R3.out)
            have R4:=Lib.hid ((hb.block _ (Array.getElem?_eq_some_iff.1 R4.out).1).trans R4.out)
            have P2:=Lib.hid (own_mono ho.path (base':=w.heap.size) (Below.size (B1.out.trans (BBo.out.mono B1.out.size))))
            have T2:=Lib.hid (own_mono ho.to_ (base':=w.heap.size) (Below.size (B1.out.trans (BBo.out.mono B1.out.size))))
            have Q2:=Lib.hid (own_qn ho.pieces)
            clear ho hb BBo
            go_simp
            refine hK.out _ _ ?_ (fun hNew=>?_)
            · exact BB.out
            clear hK K hHeld
            have hHeld:=hNew
            clear hNew
            try simp only [Act.put,List.setIfInBounds_toArray,List.set_cons_zero,List.set_cons_succ]
            have y3:=R3.out
            unfold zero11 at y3
            obtain ⟨q0,q1,q2,q3,q4,q5,q6,q7,q8,q9,q10,qf⟩:=eleven_cells y3
            refine Top.wpAnyL_one (i:=6) (o:={ dst:=none,op:=Go.Op.store 26 (Go.Operand.tmp 3) (Go.Operand.tmp 10),type:=0,pos:="law.go:46",after:=#[{ on:=4,ground:=Go.Ground.data },{ on:=1,ground:=Go.Ground.data },{ on:=3,ground:=Go.Ground.chain },{ on:=0,ground:=Go.Ground.phase },{ on:=1,ground:=Go.Ground.phase },{ on:=2,ground:=Go.Ground.textOnly Go.Departure.lateStores },{ on:=3,ground:=Go.Ground.textOnly Go.Departure.lateStoresUnsure },{ on:=4,ground:=Go.Ground.phase },{ on:=5,ground:=Go.Ground.phase }],guard:=none }) (by kernel_rfl) rfl (by decide) (fun K hK=>?_)
            go_simp
            obtain ⟨X,hX,RX,-,ZX,KX⟩:=end_op (w:=w1) (o:=(⟨k,p,i,t,0,false,[],[],[],false,[]⟩:Ov)) (s:=s1) (r:=g3) G3.out BB.out (show y31.heap[g3]? = some (.cells #[.int .u8 0,.slice none 0 0,.int .i64 0,.slice none 0 0,.int .u64 0,.bool false,.string ⟨#[]⟩,.string ⟨#[]⟩,.string ⟨#[]⟩,.bool false,.slice none 0 0] _ (0,0)) from R3.out)
            have BX:Below w1.heap.size w1 X:=by rw [hX];exact below_op BB.out G3.out
            have hX':X = (((((((((((y31.setCell ⟨g3,0,none⟩ (.int .u8 (k:Int))).setCell ⟨g3,1,none⟩ (.slice s1.pA s1.pn s1.pc)).setCell ⟨g3,2,none⟩ (.int .i64 i)).setCell ⟨g3,3,none⟩ (.slice s1.tA s1.tn s1.tc)).setCell ⟨g3,4,none⟩ (.int .u64 0)).setCell ⟨g3,5,none⟩ (.bool false)).setCell ⟨g3,6,none⟩ (.string ⟨#[]⟩)).setCell ⟨g3,7,none⟩ (.string ⟨#[]⟩)).setCell ⟨g3,8,none⟩ (.string ⟨#[]⟩)).setCell ⟨g3,9,none⟩ (.bool false)).setCell ⟨g3,10,none⟩ (.slice s1.qA s1.qn s1.qc)):=hX
            rw [← hX']
            clear q0 q1 q2 q3 q4 q5 q6 q7 q8 q9 q10 qf y3
            refine hK.out _ _ ?_ (fun hNew=>?_)
            · exact BX
            clear hK K hHeld hX hX'
            have hHeld:=hNew
            clear hNew
            try simp only [Act.put,List.setIfInBounds_toArray,List.set_cons_zero,List.set_cons_succ]
            have R4X:=(KX g4 (Ne.symm NE.out)).trans R4.out
            have y3:=R4X
            unfold zero11 at y3
            obtain ⟨q0,q1,q2,q3,q4,q5,q6,q7,q8,q9,q10,qf⟩:=eleven_cells y3
            refine Top.wpAnyL_last (o:={ dst:=none,op:=Go.Op.store 26 (Go.Operand.tmp 4) (Go.Operand.tmp 12),type:=0,pos:="law.go:46",after:=#[{ on:=5,ground:=Go.Ground.data },{ on:=3,ground:=Go.Ground.data },{ on:=6,ground:=Go.Ground.chain },{ on:=0,ground:=Go.Ground.phase },{ on:=1,ground:=Go.Ground.phase },{ on:=2,ground:=Go.Ground.phase },{ on:=3,ground:=Go.Ground.phase },{ on:=4,ground:=Go.Ground.phase },{ on:=5,ground:=Go.Ground.phase },{ on:=6,ground:=Go.Ground.phase }],guard:=none }) (by kernel_rfl) rfl (fun K hK=>?_)
            go_simp
            obtain ⟨Y,hY,RY,-,ZY,KY⟩:=end_op (w:=w1) (o:=(⟨k,p,i,t,0,false,[],[],[],false,[]⟩:Ov)) (s:=s2) (r:=g4) G4.out BX (show X.heap[g4]? = some (.cells #[.int .u8 0,.slice none 0 0,.int .i64 0,.slice none 0 0,.int .u64 0,.bool false,.string ⟨#[]⟩,.string ⟨#[]⟩,.string ⟨#[]⟩,.bool false,.slice none 0 0] _ (0,0)) from R4X)
            have BY:Below w1.heap.size w1 Y:=by rw [hY];exact below_op BX G4.out
            have hY':Y = (((((((((((X.setCell ⟨g4,0,none⟩ (.int .u8 (k:Int))).setCell ⟨g4,1,none⟩ (.slice s2.pA s2.pn s2.pc)).setCell ⟨g4,2,none⟩ (.int .i64 i)).setCell ⟨g4,3,none⟩ (.slice s2.tA s2.tn s2.tc)).setCell ⟨g4,4,none⟩ (.int .u64 0)).setCell ⟨g4,5,none⟩ (.bool false)).setCell ⟨g4,6,none⟩ (.string ⟨#[]⟩)).setCell ⟨g4,7,none⟩ (.string ⟨#[]⟩)).setCell ⟨g4,8,none⟩ (.string ⟨#[]⟩)).setCell ⟨g4,9,none⟩ (.bool false)).setCell ⟨g4,10,none⟩ (.slice s2.qA s2.qn s2.qc)):=hY
            rw [← hY']
            clear q0 q1 q2 q3 q4 q5 q6 q7 q8 q9 q10 qf y3
            refine hK _ _ ?_
            clear hK K hY hY'
            try simp only [Act.put,List.setIfInBounds_toArray,List.set_cons_zero,List.set_cons_succ]
            have F:=Lib.hid (show Y.heap[g3]? = some (.cells (opCells (⟨k,p,i,t,0,false,[],[],[],false,[]⟩:Ov) s1) 26 (0,0))∧Y.heap[g4]? = some (.cells (opCells (⟨k,p,i,t,0,false,[],[],[],false,[]⟩:Ov) s2) 26 (0,0))∧P4.OwnI w.heap.size Y (.slice s1.pA s1.pn s1.pc) p∧P4.OwnI w.heap.size Y (.slice s1.tA s1.tn s1.tc) t∧P4.OwnI w.heap.size Y (.slice s2.pA s2.pn s2.pc) p∧P4.OwnI w.heap.size Y (.slice s2.tA s2.tn s2.tc) t∧s1.qn = 0∧Below w.heap.size w Y from ⟨(KY g3 NE.out).trans RX,RY,own_away (own_away P1.out R3.out KX) R4X KY,own_away (own_away T1.out R3.out KX) R4X KY,own_away (own_away P2.out R3.out KX) R4X KY,own_away (own_away T2.out R3.out KX) R4X KY,Q1.out,B1.out.trans (BY.mono B1.out.size)⟩)
            refine wpAny_done (by kernel_rfl) ?_ _
            refine hK0 _ _ ?_
            clear hK0 RX RY KX KY ZX ZY BX BY R4X hHeld
            go_wp2_with fail
            go_meet
            exact ⟨g3,g4,s1,s2,rfl,rfl,F.out⟩
        · go_simp
          obtain ⟨x32,hX⟩:∃ Q9,Q9 = x26.alloc (.cells zero11 26):=⟨_,rfl⟩
          have hX':x32 = x26.alloc (.cells #[.int .u8 0,.slice none 0 0,.int .i64 0,.slice none 0 0,.int .u64 0,.bool false,.string ⟨#[]⟩,.string ⟨#[]⟩,.string ⟨#[]⟩,.bool false,.slice none 0 0] 26):=hX
          rw [← hX']
          have hb:Below x26.heap.size x26 x32:=by rw [hX];exact (Below.refl _ _).alloc (Nat.le_refl _) _
          have rn:x32.heap[x26.heap.size]? = some (.cells zero11 26 (0,0)):=by rw [hX];exact heap_alloc_new x26 _
          have hne0:g4 ≠ x26.heap.size:=Nat.ne_of_lt (Array.getElem?_eq_some_iff.1 R4.out).1
          have hge:w1.heap.size≤x26.heap.size:=BB.out.size
          have BB:=Lib.hid (BB.out.trans (hb.mono BB.out.size))
          have R4:=Lib.hid ((hb.block _ (Array.getElem?_eq_some_iff.1 R4.out).1).trans R4.out)
          obtain ⟨g3,hg⟩:∃ g,g = x26.heap.size:=⟨_,rfl⟩
          rw [← hg] at rn hge hne0 ⊢
          have R3:=Lib.hid rn
          have G3:=Lib.hid hge
          have NE:=Lib.hid (show g3 ≠ g4 from Ne.symm hne0)
          clear hne0
          clear hX hX' hb rn hge hg
          refine hK.out _ _ ?_ (fun hNew=>?_)
          · exact BB.out
          clear hK K hHeld
          have hHeld:=hNew
          clear hNew
          try simp only [Act.put,List.setIfInBounds_toArray,List.set_cons_zero,List.set_cons_succ]
          refine Top.wpAnyL_one (i:=1) (o:={ dst:=some 10,op:=Go.Op.call { callee:=Go.Callee.value (Go.Operand.func 22),args:=#[Go.Operand.tmp 9],argTypes:=#[26] },type:=26,pos:="law.go:46",after:=#[{ on:=0,ground:=Go.Ground.data }],guard:=none }) (by kernel_rfl) rfl (by decide) (fun K hK=>?_)
          go_simp
          refine (hu1.out x32 (B1.out.trans (BB.out.mono B1.out.size))).mono ?_
          have BBo:=BB
          rintro e y33 ⟨s1,rfl,ho,hb⟩
          have BB:=Lib.hid (BB.out.trans (hb.mono BB.out.size))
          have R3:=Lib.hid ((hb.block _ (Array.getElem?_eq_some_iff.1 R3.out).1).trans R3.out)
          have R4:=Lib.hid ((hb.block _ (Array.getElem?_eq_some_iff.1 R4.out).1).trans R4.out)
          have P1:=Lib.hid (own_mono ho.path (base':=w.heap.size) (Below.size (B1.out.trans (BBo.out.mono B1.out.size))))
          have T1:=Lib.hid (own_mono ho.to_ (base':=w.heap.size) (Below.size (B1.out.trans (BBo.out.mono B1.out.size))))
          have Q1:=Lib.hid (own_qn ho.pieces)
          clear ho hb BBo
          go_simp
          refine hK.out _ _ ?_ (fun hNew=>?_)
          · exact BB.out
          clear hK K hHeld
          have hHeld:=hNew
          clear hNew
          try simp only [Act.put,List.setIfInBounds_toArray,List.set_cons_zero,List.set_cons_succ]
          refine Top.wpAnyL_one (i:=3) (o:={ dst:=some 12,op:=Go.Op.call { callee:=Go.Callee.value (Go.Operand.func 23),args:=#[Go.Operand.tmp 11],argTypes:=#[26] },type:=26,pos:="law.go:46",after:=#[{ on:=2,ground:=Go.Ground.data },{ on:=1,ground:=Go.Ground.chain }],guard:=none }) (by kernel_rfl) rfl (by decide) (fun K hK=>?_)
          go_simp
          refine (hu2.out y33 (B1.out.trans (BB.out.mono B1.out.size))).mono ?_
          have BBo:=BB
          rintro e y34 ⟨s2,rfl,ho,hb⟩
          have BB:=Lib.hid (BB.out.trans (hb.mono BB.out.size))
          have P1:=Lib.hid (Top.own_kept (w':=y34) P1.out fun k _ h2=>hb.block k h2)
          have T1:=Lib.hid (Top.own_kept (w':=y34) T1.out fun k _ h2=>hb.block k h2)
          have R3:=Lib.hid ((hb.block _ (Array.getElem?_eq_some_iff.1 R3.out).1).trans R3.out)
          have R4:=Lib.hid ((hb.block _ (Array.getElem?_eq_some_iff.1 R4.out).1).trans R4.out)
          have P2:=Lib.hid (own_mono ho.path (base':=w.heap.size) (Below.size (B1.out.trans (BBo.out.mono B1.out.size))))
          have T2:=Lib.hid (own_mono ho.to_ (base':=w.heap.size) (Below.size (B1.out.trans (BBo.out.mono B1.out.size))))
          have Q2:=Lib.hid (own_qn ho.pieces)
          clear ho hb BBo
          go_simp
          refine hK.out _ _ ?_ (fun hNew=>?_)
          · exact BB.out
          clear hK K hHeld
          have hHeld:=hNew
          clear hNew
          try simp only [Act.put,List.setIfInBounds_toArray,List.set_cons_zero,List.set_cons_succ]
          have y3:=R3.out
          unfold zero11 at y3
          obtain ⟨q0,q1,q2,q3,q4,q5,q6,q7,q8,q9,q10,qf⟩:=eleven_cells y3
          refine Top.wpAnyL_one (i:=6) (o:={ dst:=none,op:=Go.Op.store 26 (Go.Operand.tmp 3) (Go.Operand.tmp 10),type:=0,pos:="law.go:46",after:=#[{ on:=4,ground:=Go.Ground.data },{ on:=1,ground:=Go.Ground.data },{ on:=3,ground:=Go.Ground.chain },{ on:=0,ground:=Go.Ground.phase },{ on:=1,ground:=Go.Ground.phase },{ on:=2,ground:=Go.Ground.textOnly Go.Departure.lateStores },{ on:=3,ground:=Go.Ground.textOnly Go.Departure.lateStoresUnsure },{ on:=4,ground:=Go.Ground.phase },{ on:=5,ground:=Go.Ground.phase }],guard:=none }) (by kernel_rfl) rfl (by decide) (fun K hK=>?_)
          go_simp
          obtain ⟨X,hX,RX,-,ZX,KX⟩:=end_op (w:=w1) (o:=(⟨k,p,i,t,0,false,[],[],[],false,[]⟩:Ov)) (s:=s1) (r:=g3) G3.out BB.out (show y34.heap[g3]? = some (.cells #[.int .u8 0,.slice none 0 0,.int .i64 0,.slice none 0 0,.int .u64 0,.bool false,.string ⟨#[]⟩,.string ⟨#[]⟩,.string ⟨#[]⟩,.bool false,.slice none 0 0] _ (0,0)) from R3.out)
          have BX:Below w1.heap.size w1 X:=by rw [hX];exact below_op BB.out G3.out
          have hX':X = (((((((((((y34.setCell ⟨g3,0,none⟩ (.int .u8 (k:Int))).setCell ⟨g3,1,none⟩ (.slice s1.pA s1.pn s1.pc)).setCell ⟨g3,2,none⟩ (.int .i64 i)).setCell ⟨g3,3,none⟩ (.slice s1.tA s1.tn s1.tc)).setCell ⟨g3,4,none⟩ (.int .u64 0)).setCell ⟨g3,5,none⟩ (.bool false)).setCell ⟨g3,6,none⟩ (.string ⟨#[]⟩)).setCell ⟨g3,7,none⟩ (.string ⟨#[]⟩)).setCell ⟨g3,8,none⟩ (.string ⟨#[]⟩)).setCell ⟨g3,9,none⟩ (.bool false)).setCell ⟨g3,10,none⟩ (.slice s1.qA s1.qn s1.qc)):=hX
          rw [← hX']
          clear q0 q1 q2 q3 q4 q5 q6 q7 q8 q9 q10 qf y3
          refine hK.out _ _ ?_ (fun hNew=>?_)
          · exact BX
          clear hK K hHeld hX hX'
          have hHeld:=hNew
          clear hNew
          try simp only [Act.put,List.setIfInBounds_toArray,List.set_cons_zero,List.set_cons_succ]
          have R4X:=(KX g4 (Ne.symm NE.out)).trans R4.out
          have y3:=R4X
          unfold zero11 at y3
          obtain ⟨q0,q1,q2,q3,q4,q5,q6,q7,q8,q9,q10,qf⟩:=eleven_cells y3
          refine Top.wpAnyL_last (o:={ dst:=none,op:=Go.Op.store 26 (Go.Operand.tmp 4) (Go.Operand.tmp 12),type:=0,pos:="law.go:46",after:=#[{ on:=5,ground:=Go.Ground.data },{ on:=3,ground:=Go.Ground.data },{ on:=6,ground:=Go.Ground.chain },{ on:=0,ground:=Go.Ground.phase },{ on:=1,ground:=Go.Ground.phase },{ on:=2,ground:=Go.Ground.phase },{ on:=3,ground:=Go.Ground.phase },{ on:=4,ground:=Go.Ground.phase },{ on:=5,ground:=Go.Ground.phase },{ on:=6,ground:=Go.Ground.phase }],guard:=none }) (by kernel_rfl) rfl (fun K hK=>?_)
          go_simp
          obtain ⟨Y,hY,RY,-,ZY,KY⟩:=end_op (w:=w1) (o:=(⟨k,p,i,t,0,false,[],[],[],false,[]⟩:Ov)) (s:=s2) (r:=g4) G4.out BX (show X.heap[g4]? = some (.cells #[.int .u8 0,.slice none 0 0,.int .i64 0,.slice none 0 0,.int .u64 0,.bool false,.string ⟨#[]⟩,.string ⟨#[]⟩,.string ⟨#[]⟩,.bool false,.slice none 0 0] _ (0,0)) from R4X)
          have BY:Below w1.heap.size w1 Y:=by rw [hY];exact below_op BX G4.out
          have hY':Y = (((((((((((X.setCell ⟨g4,0,none⟩ (.int .u8 (k:Int))).setCell ⟨g4,1,none⟩ (.slice s2.pA s2.pn s2.pc)).setCell ⟨g4,2,none⟩ (.int .i64 i)).setCell ⟨g4,3,none⟩ (.slice s2.tA s2.tn s2.tc)).setCell ⟨g4,4,none⟩ (.int .u64 0)).setCell ⟨g4,5,none⟩ (.bool false)).setCell ⟨g4,6,none⟩ (.string ⟨#[]⟩)).setCell ⟨g4,7,none⟩ (.string ⟨#[]⟩)).setCell ⟨g4,8,none⟩ (.string ⟨#[]⟩)).setCell ⟨g4,9,none⟩ (.bool false)).setCell ⟨g4,10,none⟩ (.slice s2.qA s2.qn s2.qc)):=hY
          rw [← hY']
          clear q0 q1 q2 q3 q4 q5 q6 q7 q8 q9 q10 qf y3
          refine hK _ _ ?_
          clear hK K hY hY'
          try simp only [Act.put,List.setIfInBounds_toArray,List.set_cons_zero,List.set_cons_succ]
          have F:=Lib.hid (show Y.heap[g3]? = some (.cells (opCells (⟨k,p,i,t,0,false,[],[],[],false,[]⟩:Ov) s1) 26 (0,0))∧Y.heap[g4]? = some (.cells (opCells (⟨k,p,i,t,0,false,[],[],[],false,[]⟩:Ov) s2) 26 (0,0))∧P4.OwnI w.heap.size Y (.slice s1.pA s1.pn s1.pc) p∧P4.OwnI w.heap.size Y (.slice s1.tA s1.tn s1.tc) t∧P4.OwnI w.heap.size Y (.slice s2.pA s2.pn s2.pc) p∧P4.OwnI w.heap.size Y (.slice s2.tA s2.tn s2.tc) t∧s1.qn = 0∧Below w.heap.size w Y from ⟨(KY g3 NE.out).trans RX,RY,own_away (own_away P1.out R3.out KX) R4X KY,own_away (own_away T1.out R3.out KX) R4X KY,own_away (own_away P2.out R3.out KX) R4X KY,own_away (own_away T2.out R3.out KX) R4X KY,Q1.out,B1.out.trans (BY.mono B1.out.size)⟩)
          refine wpAny_done (by kernel_rfl) ?_ _
          refine hK0 _ _ ?_
          clear hK0 RX RY KX KY ZX ZY BX BY R4X hHeld
          go_wp2_with fail
          go_meet
          exact ⟨g3,g4,s1,s2,rfl,rfl,F.out⟩
    case rest =>
      obtain ⟨g3,g4,s1,s2,rfl,rfl,r3,r4,k1,k2,k3,k4,hq,hB⟩:=hcut
      have C:=Lib.hid hB
      have I1:=Lib.hid (show Its wc s1.pA s1.pn p from (own_facts k1).1)
      have I2:=Lib.hid (show Its wc s2.pA s2.pn p from (own_facts k3).1)
      have I3:=Lib.hid (show Its wc s1.tA s1.tn t from (own_facts k2).1)
      have I4:=Lib.hid (show Its wc s2.tA s2.tn t from (own_facts k4).1)
      have m1:=Lib.hid (Nat.le_trans (own_facts k1).2.1 (own_facts k1).2.2.1)
      have m2:=Lib.hid (Nat.le_trans (own_facts k3).2.1 (own_facts k3).2.2.1)
      have m3:=Lib.hid (Nat.le_trans (own_facts k2).2.1 (own_facts k2).2.2.1)
      have m4:=Lib.hid (Nat.le_trans (own_facts k4).2.1 (own_facts k4).2.2.1)
      obtain ⟨a0,a1,a2,a3,a4,a5,a6,a7,a8,a9,a10⟩:=op_cells r3
      obtain ⟨b0,b1,b2,b3,b4,b5,b6,b7,b8,b9,b10⟩:=op_cells r4
      rw [hq] at a10
      dsimp only at a0 a1 a2 a3 a4 a5 a6 a7 a8 a9 a10 b0 b1 b2 b3 b4 b5 b6 b7 b8 b9 b10
      clear k1 k2 k3 k4 r3 r4 hB hq hu1 hu2 hli hrow z1 hW1
      go_wp2_with (first | (go_at_call_of 19 s1.tA;go_loud (refine (kit_same _ s1.tA s2.tA s1.tn s1.tc s2.tn s2.tc t t (I3.out.below (draws (Below.refl _ _) _)) (I4.out.below (draws (Below.refl _ _) _)) m3.out m4.out).mono ?_;rw [show P4.eqV t t = true by unfold P4.eqV;simp];rintro e w7 ⟨rfl,j7,rfl⟩)) | (go_at_call_of 19 s1.pA;go_loud (refine (kit_same _ s1.pA s2.pA s1.pn s1.pc s2.pn s2.pc p p I1.out I2.out m1.out m2.out).mono ?_;rw [show P4.eqV p p = true by unfold P4.eqV;simp];rintro e w6 ⟨rfl,j6,rfl⟩)) | (go_at_call 15;go_loud (refine (works_any _).mono ?_;rintro e w9 ⟨rfl,hb9⟩;have B9:=Lib.hid (Below.trans (draws C.out _) (hb9.mono (Below.size (draws C.out (j6 + j7)))));clear hb9)))
      go_ret
      exact ⟨rfl,B9.out⟩
end Go.Proofs.Ytpoenlhikanooaa.Shf

