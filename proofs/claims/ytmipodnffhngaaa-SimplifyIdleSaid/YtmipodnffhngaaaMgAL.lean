/- MgAL: TopB TopP SimA SimB SimC TopK TopBa TopBb -/
import Derived.Test.YtmipodnffhngaaaTopA
import Derived.Test.YtmipodnffhngaaaMgAI
import Derived.Test.YtmipodnffhngaaaMgAK
import Derived.Test.YtmipodnffhngaaaMgAH
import Derived.Test.YtmipodnffhngaaaMgAF
set_option linter.all false
namespace Go.Proofs.Ytmipodnffhngaaa.Top
open Go.RowKit
set_option maxRecDepth 20000
set_option linter.unusedVariables false

theorem its4 {w:World} {A:Option Addr} {n:Nat} {xs:List Int} (h:Its w A n xs):P4.Its w A n xs:=h
theorem wp_scope_once {P:Program} {a:Act} {w:World} {Q:Exit→Act→World→Prop} {c rest:Code} (l:Nat) (hf:findLabel c l = some rest)
    (first:c.wp P (Exit.jump l (fun a' w'=>rest.wp P (Exit.jump l (fun _ _=>False) Q) a' w') Q) a w):(Code.scope c).wp P Q a w :=
  wp_scope_jumps l (fun a' w'=>rest.wp P (Exit.jump l (fun _ _=>False) Q) a' w') (fun _ _=>0) hf first fun a w h=>Code.wp_mono (fun e a w hq=>by
    cases e <;> first | exact hq | exact absurd hq.2 id) h
structure Four (w:World) (v2 v3 v5 v6:Array Value) (W:World):Prop where
  rn:W.heap[w.heap.size]? = some (.cells v2 33 (0,0))
  ro:W.heap[w.heap.size + 1]? = some (.cells v3 26 (0,0))
  r5:W.heap[w.heap.size + 1 + 1]? = some (.cells v5 33 (0,0))
  r6:W.heap[w.heap.size + 1 + 1 + 1]? = some (.cells v6 33 (0,0))
  bel:Below w.heap.size w W
section
variable {w W W':World} {v2 v3 v5 v6:Array Value}
theorem Four.below (h:Four w v2 v3 v5 v6 W) (hb:Below W.heap.size W W'):Four w v2 v3 v5 v6 W' :=
  ⟨(hb.block _ (Array.getElem?_eq_some_iff.1 h.rn).1).trans h.rn,(hb.block _ (Array.getElem?_eq_some_iff.1 h.ro).1).trans h.ro,(hb.block _ (Array.getElem?_eq_some_iff.1 h.r5).1).trans h.r5,(hb.block _ (Array.getElem?_eq_some_iff.1 h.r6).1).trans h.r6,h.bel.trans (hb.mono h.bel.size)⟩
theorem Four.drew (h:Four w v2 v3 v5 v6 W) {k:Nat} (e:W' = W.drewN k):Four w v2 v3 v5 v6 W':=by
  subst e
  exact h.below (draws (Below.refl _ _) k)
theorem Four.start (w:World) (v2 v3 v5 v6:Array Value) :
    Four w v2 v3 v5 v6 ((((w.alloc (.cells v2 33)).alloc (.cells v3 26)).alloc (.cells v5 33)).alloc (.cells v6 33)):=by
  have h1:=heap_alloc_new w (.cells v2 33)
  have h2:=heap_alloc_new (w.alloc (.cells v2 33)) (.cells v3 26)
  have h3:=heap_alloc_new ((w.alloc (.cells v2 33)).alloc (.cells v3 26)) (.cells v5 33)
  have h4:=heap_alloc_new (((w.alloc (.cells v2 33)).alloc (.cells v3 26)).alloc (.cells v5 33)) (.cells v6 33)
  rw [World.size_alloc] at h2
  rw [World.size_alloc,World.size_alloc] at h3
  rw [World.size_alloc,World.size_alloc,World.size_alloc] at h4
  refine ⟨(Go.heap_alloc_old _ _ (by simp <;> omega)).trans ((Go.heap_alloc_old _ _ (by simp <;> omega)).trans ((Go.heap_alloc_old _ _ (by simp)).trans h1)),(Go.heap_alloc_old _ _ (by simp <;> omega)).trans ((Go.heap_alloc_old _ _ (by simp)).trans h2),(Go.heap_alloc_old _ _ (by simp)).trans h3,h4,
    ((((Below.refl _ _).alloc (Nat.le_refl _) _).alloc (by simp) _).alloc (by simp <;> omega) _).alloc (by simp <;> omega) _⟩
theorem Four.set5 {a0 a1 a2 a3 a4 a5:Value} (h:Four w v2 v3 #[a0,a1,a2,a3,a4,a5] v6 W) (b0 b1 b2 b3 b4 b5:Value):Four w v2 v3 #[b0,b1,b2,b3,b4,b5] v6
    ((((((W.setCell ⟨w.heap.size + 1 + 1,0,none⟩ b0).setCell ⟨w.heap.size + 1 + 1,1,none⟩ b1).setCell ⟨w.heap.size + 1 + 1,2,none⟩ b2).setCell ⟨w.heap.size + 1 + 1,3,none⟩ b3).setCell ⟨w.heap.size + 1 + 1,4,none⟩ b4).setCell ⟨w.heap.size + 1 + 1,5,none⟩ b5) :=
  ⟨(set_six_other (by omega)).trans h.rn,(set_six_other (by omega)).trans h.ro,set_six h.r5,(set_six_other (by omega)).trans h.r6,below_six h.bel (by omega)⟩
theorem Four.set6 {a0 a1 a2 a3 a4 a5:Value} (h:Four w v2 v3 v5 #[a0,a1,a2,a3,a4,a5] W) (b0 b1 b2 b3 b4 b5:Value):Four w v2 v3 v5 #[b0,b1,b2,b3,b4,b5]
    ((((((W.setCell ⟨w.heap.size + 1 + 1 + 1,0,none⟩ b0).setCell ⟨w.heap.size + 1 + 1 + 1,1,none⟩ b1).setCell ⟨w.heap.size + 1 + 1 + 1,2,none⟩ b2).setCell ⟨w.heap.size + 1 + 1 + 1,3,none⟩ b3).setCell ⟨w.heap.size + 1 + 1 + 1,4,none⟩ b4).setCell ⟨w.heap.size + 1 + 1 + 1,5,none⟩ b5) :=
  ⟨(set_six_other (by omega)).trans h.rn,(set_six_other (by omega)).trans h.ro,(set_six_other (by omega)).trans h.r5,set_six h.r6,below_six h.bel (by omega)⟩
end
theorem op_cells {W:World} {b:Nat} {o:Ov} {s:OS} (h:W.heap[b]? = some (.cells (opCells o s) 26 (0,0))):W.cell? ⟨b,0,none⟩ = some (.int .u8 (o.kind:Int))∧W.cell? ⟨b,1,none⟩ = some (.slice s.pA s.pn s.pc)∧W.cell? ⟨b,2,none⟩ = some (.int .i64 o.at_)∧W.cell? ⟨b,3,none⟩ = some (.slice s.tA s.tn s.tc)∧W.cell? ⟨b,4,none⟩ = some (.int .u64 (o.id:Int)) ∧
    W.cell? ⟨b,5,none⟩ = some (.bool o.leaf)∧W.cell? ⟨b,6,none⟩ = some (.string ⟨o.label.toArray⟩)∧W.cell? ⟨b,7,none⟩ = some (.string ⟨o.key.toArray⟩)∧W.cell? ⟨b,8,none⟩ = some (.string ⟨o.value.toArray⟩)∧W.cell? ⟨b,9,none⟩ = some (.bool o.gone)∧W.cell? ⟨b,10,none⟩ = some (.slice s.qA s.qn s.qc):=by
  unfold opCells at h
  exact ⟨cell_of_row W b 0 _ _ _ h,cell_of_row W b 1 _ _ _ h,cell_of_row W b 2 _ _ _ h,cell_of_row W b 3 _ _ _ h,cell_of_row W b 4 _ _ _ h,cell_of_row W b 5 _ _ _ h,cell_of_row W b 6 _ _ _ h,cell_of_row W b 7 _ _ _ h,cell_of_row W b 8 _ _ _ h,cell_of_row W b 9 _ _ _ h,cell_of_row W b 10 _ _ _ h⟩
set_option maxHeartbeats 8000000 in
theorem fault_c0 (w:World) (t:Nd) (aA kA:Option Addr) (an ac kn kc:Nat) (o:Ov) (s:OS) (h:NodeV (Old w) w aA an ac kA kn kc t) (ho:OpIn w o s) (hbig:weighV t≤1000000) (hf:formedV o = false) :
    Calls Try.prog 60 #[.agg (val6 t aA an ac kA kn kc),.agg (opCells o s)] w fun e w'=>e = .returned (.int .i64 (80))∧Below w.heap.size w w':=by
  obtain ⟨v2,hv2⟩:∃ v2,v2 = val6 t aA an ac kA kn kc:=⟨_,rfl⟩
  obtain ⟨v3,hv3⟩:∃ v3,v3 = opCells o s:=⟨_,rfl⟩
  have hF1:=Lib.hid (Four.start w (val6 t aA an ac kA kn kc) (opCells o s) zero6 zero6)
  have hn:=Lib.hid (fun W (hb:Below w.heap.size w W)=>h.below hb)
  have hop:=Lib.hid (fun W (hb:Below w.heap.size w W)=>ho.below hb)
  have ho':=Lib.hid ho
  have hbig':=Lib.hid hbig
  have hpm:=Nat.le_trans ho.pnc ho.pcm
  have htm:=Nat.le_trans ho.tnc ho.tcm
  have hqm:=Nat.le_trans ho.qnc ho.qcm
  have hpm':=Lib.hid hpm
  have htm':=Lib.hid htm
  have hqm':=Lib.hid hqm
  have hkr:=ho.kind
  have hf':=Lib.hid hf
  clear hf
  clear h ho hbig hv2 v2 hv3 v3 hpm htm hqm
  unfold zero6 val6 opCells at hF1
  unfold val6 opCells
  go_enter Try.func60,Try.ntmps60
  go_wp2_with fail
  refine wp_scope_once 0 rfl ?_
  go_wp2_with (first
    | (go_at_call 14;go_loud (refine (formed_any _ o s (hop.out _ hF1.out.bel)).mono ?_;rintro e w2 ⟨rfl,hb⟩;rw [hf'.out];have hFz:=Lib.hid (hF1.out.below hb);(try (clear o0 o1 o2 o3 o4 o5 o6 o7 o8 o9 o10));(try (clear n0 n1 n2 n3 n4 n5 nf));(try (clear p0 p1 p2 p3 p4 p5 pf));(try (clear q0 q1 q2 q3 q4 q5 qf));obtain ⟨o0,o1,o2,o3,o4,o5,o6,o7,o8,o9,o10⟩:=op_cells hFz.out.ro;clear hb)))
  go_step3
  refine ⟨rfl,?_⟩
  go_wp2_with fail
  try simp only [Exit.jump]
  go_ret
  exact ⟨rfl,by first | exact hFz.out.bel | exact below_six hFz.out.bel (by omega)⟩
set_option maxHeartbeats 8000000 in
theorem fault_c1 (w:World) (t:Nd) (aA kA:Option Addr) (an ac kn kc:Nat) (o:Ov) (s:OS) (h:NodeV (Old w) w aA an ac kA kn kc t) (ho:OpIn w o s) (hbig:weighV t≤1000000) (hf:formedV o = true) (hk:o.kind = 2∨o.kind = 3) (hp:o.path = []) :
    Calls Try.prog 60 #[.agg (val6 t aA an ac kA kn kc),.agg (opCells o s)] w fun e w'=>e = .returned (.int .i64 (82))∧Below w.heap.size w w':=by
  obtain ⟨v2,hv2⟩:∃ v2,v2 = val6 t aA an ac kA kn kc:=⟨_,rfl⟩
  obtain ⟨v3,hv3⟩:∃ v3,v3 = opCells o s:=⟨_,rfl⟩
  have hF1:=Lib.hid (Four.start w (val6 t aA an ac kA kn kc) (opCells o s) zero6 zero6)
  have hn:=Lib.hid (fun W (hb:Below w.heap.size w W)=>h.below hb)
  have hop:=Lib.hid (fun W (hb:Below w.heap.size w W)=>ho.below hb)
  have ho':=Lib.hid ho
  have hbig':=Lib.hid hbig
  have hpm:=Nat.le_trans ho.pnc ho.pcm
  have htm:=Nat.le_trans ho.tnc ho.tcm
  have hqm:=Nat.le_trans ho.qnc ho.qcm
  have hpm':=Lib.hid hpm
  have htm':=Lib.hid htm
  have hqm':=Lib.hid hqm
  have hkr:=ho.kind
  have hf':=Lib.hid hf
  clear hf
  have htk:=Lib.hid (show decide (o.kind = 2∨o.kind = 3) = true from decide_eq_true hk)
  have hplen:s.pn = 0:=by have:=ho'.out.path.1;rw [hp] at this;exact this.symm
  have hplen2:((s.pn:Int) == 0) = true:=by simp;omega
  clear hplen hp hk
  clear h ho hbig hv2 v2 hv3 v3 hpm htm hqm
  unfold zero6 val6 opCells at hF1
  unfold val6 opCells
  go_enter Try.func60,Try.ntmps60
  go_wp2_with fail
  refine wp_scope_once 0 rfl ?_
  go_wp2_with (first
    | (go_at_call 14;go_loud (refine (formed_any _ o s (hop.out _ hF1.out.bel)).mono ?_;rintro e w2 ⟨rfl,hb⟩;rw [hf'.out];have hF2:=Lib.hid (hF1.out.below hb);(try (clear o0 o1 o2 o3 o4 o5 o6 o7 o8 o9 o10));(try (clear n0 n1 n2 n3 n4 n5 nf));(try (clear p0 p1 p2 p3 p4 p5 pf));(try (clear q0 q1 q2 q3 q4 q5 qf));obtain ⟨o0,o1,o2,o3,o4,o5,o6,o7,o8,o9,o10⟩:=op_cells hF2.out.ro;clear hb))
    | (go_at_call 97;go_loud (refine (takesOut_any _ o s ho'.out.kind).mono ?_;rintro e w3 ⟨rfl,hb⟩;rw [htk.out];have hFz:=Lib.hid (hF2.out.below hb);(try (clear o0 o1 o2 o3 o4 o5 o6 o7 o8 o9 o10));(try (clear n0 n1 n2 n3 n4 n5 nf));(try (clear p0 p1 p2 p3 p4 p5 pf));(try (clear q0 q1 q2 q3 q4 q5 qf));obtain ⟨o0,o1,o2,o3,o4,o5,o6,o7,o8,o9,o10⟩:=op_cells hFz.out.ro;obtain ⟨n0,n1,n2,n3,n4,n5,nf⟩:=six_cells hFz.out.rn;clear hb)))
  go_step3
  refine ⟨rfl,?_⟩
  go_wp2_with fail
  try simp only [Exit.jump]
  go_ret
  exact ⟨rfl,by first | exact hFz.out.bel | exact below_six hFz.out.bel (by omega)⟩
set_option maxHeartbeats 8000000 in
theorem fault_c2a (w:World) (t:Nd) (aA kA:Option Addr) (an ac kn kc:Nat) (o:Ov) (s:OS) (h:NodeV (Old w) w aA an ac kA kn kc t) (ho:OpIn w o s) (hbig:weighV t≤1000000) (hf:formedV o = true) (hk:o.kind = 2∨o.kind = 3) (hp:o.path ≠ []) (hx:atV t o.path = none) :
    Calls Try.prog 60 #[.agg (val6 t aA an ac kA kn kc),.agg (opCells o s)] w fun e w'=>e = .returned (.int .i64 (81))∧Below w.heap.size w w':=by
  obtain ⟨v2,hv2⟩:∃ v2,v2 = val6 t aA an ac kA kn kc:=⟨_,rfl⟩
  obtain ⟨v3,hv3⟩:∃ v3,v3 = opCells o s:=⟨_,rfl⟩
  have hF1:=Lib.hid (Four.start w (val6 t aA an ac kA kn kc) (opCells o s) zero6 zero6)
  have hn:=Lib.hid (fun W (hb:Below w.heap.size w W)=>h.below hb)
  have hop:=Lib.hid (fun W (hb:Below w.heap.size w W)=>ho.below hb)
  have ho':=Lib.hid ho
  have hbig':=Lib.hid hbig
  have hpm:=Nat.le_trans ho.pnc ho.pcm
  have htm:=Nat.le_trans ho.tnc ho.tcm
  have hqm:=Nat.le_trans ho.qnc ho.qcm
  have hpm':=Lib.hid hpm
  have htm':=Lib.hid htm
  have hqm':=Lib.hid hqm
  have hkr:=ho.kind
  have hf':=Lib.hid hf
  clear hf
  have htk:=Lib.hid (show decide (o.kind = 2∨o.kind = 3) = true from decide_eq_true hk)
  have hplen:¬ ((s.pn:Int) = 0):=by
    have:=ho'.out.path.1
    cases hc:o.path with
    | nil=>exact absurd hc hp
    | cons a b=>rw [hc] at this;simp at this;omega
  have hplen2:((s.pn:Int) == 0) = false:=by simpa using hplen
  clear hplen hp
  have hx':=Lib.hid hx
  clear hx
  clear hk
  clear h ho hbig hv2 v2 hv3 v3 hpm htm hqm
  unfold zero6 val6 opCells at hF1
  unfold val6 opCells
  go_enter Try.func60,Try.ntmps60
  go_wp2_with fail
  refine wp_scope_once 0 rfl ?_
  go_wp2_with (first
    | (go_at_call 14;go_loud (refine (formed_any _ o s (hop.out _ hF1.out.bel)).mono ?_;rintro e w2 ⟨rfl,hb⟩;rw [hf'.out];have hF2:=Lib.hid (hF1.out.below hb);(try (clear o0 o1 o2 o3 o4 o5 o6 o7 o8 o9 o10));(try (clear n0 n1 n2 n3 n4 n5 nf));(try (clear p0 p1 p2 p3 p4 p5 pf));(try (clear q0 q1 q2 q3 q4 q5 qf));obtain ⟨o0,o1,o2,o3,o4,o5,o6,o7,o8,o9,o10⟩:=op_cells hF2.out.ro;clear hb))
    | (go_at_call 97;go_loud (refine (takesOut_any _ o s ho'.out.kind).mono ?_;rintro e w3 ⟨rfl,hb⟩;rw [htk.out];have hF3:=Lib.hid (hF2.out.below hb);(try (clear o0 o1 o2 o3 o4 o5 o6 o7 o8 o9 o10));(try (clear n0 n1 n2 n3 n4 n5 nf));(try (clear p0 p1 p2 p3 p4 p5 pf));(try (clear q0 q1 q2 q3 q4 q5 qf));obtain ⟨o0,o1,o2,o3,o4,o5,o6,o7,o8,o9,o10⟩:=op_cells hF3.out.ro;obtain ⟨n0,n1,n2,n3,n4,n5,nf⟩:=six_cells hF3.out.rn;clear hb))
    | (go_at_call 36;go_at_call_of 36 s.pA;go_loud (refine (at_any _ t aA kA an ac kn kc (hn.out _ hF3.out.bel) s.pA s.pn s.pc o.path (hop.out _ hF3.out.bel).path hpm'.out hbig'.out).mono ?_;rintro e w4 ⟨xA,xn,xc,xK,xm,xd,rfl,hnx,hb⟩;clear hnx;rw [hx'.out];unfold val6;have hFz:=Lib.hid (hF3.out.below hb);(try (clear o0 o1 o2 o3 o4 o5 o6 o7 o8 o9 o10));(try (clear n0 n1 n2 n3 n4 n5 nf));(try (clear p0 p1 p2 p3 p4 p5 pf));(try (clear q0 q1 q2 q3 q4 q5 qf));obtain ⟨p0,p1,p2,p3,p4,p5,pf⟩:=six_cells hFz.out.r5;clear hb)))
  go_step3
  refine ⟨rfl,?_⟩
  go_wp2_with fail
  try simp only [Exit.jump]
  go_ret
  exact ⟨rfl,by first | exact hFz.out.bel | exact below_six hFz.out.bel (by omega)⟩
set_option maxHeartbeats 8000000 in
theorem fault_kxa (w:World) (t:Nd) (aA kA:Option Addr) (an ac kn kc:Nat) (o:Ov) (s:OS) (h:NodeV (Old w) w aA an ac kA kn kc t) (ho:OpIn w o s) (hbig:weighV t≤1000000) (hf:formedV o = true) (hk:o.kind = 2∨o.kind = 3) (hp:o.path ≠ []) (h1:o.kind ≠ 1) (h3:o.kind ≠ 3) (h6:o.kind ≠ 6) (x:Nd) (hx:atV t o.path = some x) :
    Calls Try.prog 60 #[.agg (val6 t aA an ac kA kn kc),.agg (opCells o s)] w fun e w'=>e = .returned (.int .i64 (0))∧Below w.heap.size w w':=by
  obtain ⟨v2,hv2⟩:∃ v2,v2 = val6 t aA an ac kA kn kc:=⟨_,rfl⟩
  obtain ⟨v3,hv3⟩:∃ v3,v3 = opCells o s:=⟨_,rfl⟩
  have hF1:=Lib.hid (Four.start w (val6 t aA an ac kA kn kc) (opCells o s) zero6 zero6)
  have hn:=Lib.hid (fun W (hb:Below w.heap.size w W)=>h.below hb)
  have hop:=Lib.hid (fun W (hb:Below w.heap.size w W)=>ho.below hb)
  have ho':=Lib.hid ho
  have hbig':=Lib.hid hbig
  have hpm:=Nat.le_trans ho.pnc ho.pcm
  have htm:=Nat.le_trans ho.tnc ho.tcm
  have hqm:=Nat.le_trans ho.qnc ho.qcm
  have hpm':=Lib.hid hpm
  have htm':=Lib.hid htm
  have hqm':=Lib.hid hqm
  have hkr:=ho.kind
  have hf':=Lib.hid hf
  clear hf
  have htk:=Lib.hid (show decide (o.kind = 2∨o.kind = 3) = true from decide_eq_true hk)
  have hpi:=Lib.hid (show decide (o.kind = 1∨o.kind = 3) = false from decide_eq_false fun h=>by rcases h with h | h;exact h1 h;exact h3 h)
  have hplen:¬ ((s.pn:Int) = 0):=by
    have:=ho'.out.path.1
    cases hc:o.path with
    | nil=>exact absurd hc hp
    | cons a b=>rw [hc] at this;simp at this;omega
  have hplen2:((s.pn:Int) == 0) = false:=by simpa using hplen
  clear hplen hp
  have hx':=Lib.hid hx
  clear hx
  have b3:((o.kind:Int) == 3) = false:=by simp;omega
  have b6:((o.kind:Int) == 6) = false:=by simp;omega
  clear hk h1 h3 h6
  clear h ho hbig hv2 v2 hv3 v3 hpm htm hqm
  unfold zero6 val6 opCells at hF1
  unfold val6 opCells
  go_enter Try.func60,Try.ntmps60
  go_wp2_with fail
  refine wp_scope_once 0 rfl ?_
  go_wp2_with (first
    | (go_at_call 14;go_loud (refine (formed_any _ o s (hop.out _ hF1.out.bel)).mono ?_;rintro e w2 ⟨rfl,hb⟩;rw [hf'.out];have hF2:=Lib.hid (hF1.out.below hb);(try (clear o0 o1 o2 o3 o4 o5 o6 o7 o8 o9 o10));(try (clear n0 n1 n2 n3 n4 n5 nf));(try (clear p0 p1 p2 p3 p4 p5 pf));(try (clear q0 q1 q2 q3 q4 q5 qf));obtain ⟨o0,o1,o2,o3,o4,o5,o6,o7,o8,o9,o10⟩:=op_cells hF2.out.ro;clear hb))
    | (go_at_call 97;go_loud (refine (takesOut_any _ o s ho'.out.kind).mono ?_;rintro e w3 ⟨rfl,hb⟩;rw [htk.out];have hF3:=Lib.hid (hF2.out.below hb);(try (clear o0 o1 o2 o3 o4 o5 o6 o7 o8 o9 o10));(try (clear n0 n1 n2 n3 n4 n5 nf));(try (clear p0 p1 p2 p3 p4 p5 pf));(try (clear q0 q1 q2 q3 q4 q5 qf));obtain ⟨o0,o1,o2,o3,o4,o5,o6,o7,o8,o9,o10⟩:=op_cells hF3.out.ro;obtain ⟨n0,n1,n2,n3,n4,n5,nf⟩:=six_cells hF3.out.rn;clear hb))
    | (go_at_call 36;go_at_call_of 36 s.pA;go_loud (refine (at_any _ t aA kA an ac kn kc (hn.out _ hF3.out.bel) s.pA s.pn s.pc o.path (hop.out _ hF3.out.bel).path hpm'.out hbig'.out).mono ?_;rintro e w4 ⟨xA,xn,xc,xK,xm,xd,rfl,hnx,hb⟩;rw [hx'.out] at hnx ⊢;have hxk:=hnx.facts.kl;unfold val6;have hF4:=Lib.hid (hF3.out.below hb);(try (clear o0 o1 o2 o3 o4 o5 o6 o7 o8 o9 o10));(try (clear n0 n1 n2 n3 n4 n5 nf));(try (clear p0 p1 p2 p3 p4 p5 pf));(try (clear q0 q1 q2 q3 q4 q5 qf));obtain ⟨o0,o1,o2,o3,o4,o5,o6,o7,o8,o9,o10⟩:=op_cells hF4.out.ro;obtain ⟨p0,p1,p2,p3,p4,p5,pf⟩:=six_cells hF4.out.r5;obtain ⟨q0,q1,q2,q3,q4,q5,qf⟩:=six_cells hF4.out.r6;clear hb))
    | (go_at_call 99;go_loud (have hG:=((hF4.out.set5 (.int .u64 (x.id:Int)) (.bool x.leaf) (.string ⟨x.label.toArray⟩) (.slice xA xn xc) (.string ⟨x.text.toArray⟩) (.slice xK xm xd)).set6 (.int .u64 (x.id:Int)) (.bool x.leaf) (.string ⟨x.label.toArray⟩) (.slice xA xn xc) (.string ⟨x.text.toArray⟩) (.slice xK xm xd));refine (putsIn_any _ o s ho'.out.kind).mono ?_;rintro e w7 ⟨rfl,hb⟩;rw [hpi.out];have hFz:=Lib.hid (hG.below hb);(try (clear o0 o1 o2 o3 o4 o5 o6 o7 o8 o9 o10));(try (clear n0 n1 n2 n3 n4 n5 nf));(try (clear p0 p1 p2 p3 p4 p5 pf));(try (clear q0 q1 q2 q3 q4 q5 qf));obtain ⟨o0,o1,o2,o3,o4,o5,o6,o7,o8,o9,o10⟩:=op_cells hFz.out.ro;obtain ⟨p0,p1,p2,p3,p4,p5,pf⟩:=six_cells hFz.out.r5;obtain ⟨q0,q1,q2,q3,q4,q5,qf⟩:=six_cells hFz.out.r6;clear hb)))
  go_step3
  go_wp2_with fail
  try simp only [Exit.jump]
  go_ret
  exact ⟨rfl,by first | exact hFz.out.bel | exact below_six hFz.out.bel (by omega)⟩
set_option maxHeartbeats 8000000 in
theorem fault_c2b (w:World) (t:Nd) (aA kA:Option Addr) (an ac kn kc:Nat) (o:Ov) (s:OS) (h:NodeV (Old w) w aA an ac kA kn kc t) (ho:OpIn w o s) (hbig:weighV t≤1000000) (hf:formedV o = true) (hk:¬ (o.kind = 2∨o.kind = 3)) (hx:atV t o.path = none) :
    Calls Try.prog 60 #[.agg (val6 t aA an ac kA kn kc),.agg (opCells o s)] w fun e w'=>e = .returned (.int .i64 (81))∧Below w.heap.size w w':=by
  obtain ⟨v2,hv2⟩:∃ v2,v2 = val6 t aA an ac kA kn kc:=⟨_,rfl⟩
  obtain ⟨v3,hv3⟩:∃ v3,v3 = opCells o s:=⟨_,rfl⟩
  have hF1:=Lib.hid (Four.start w (val6 t aA an ac kA kn kc) (opCells o s) zero6 zero6)
  have hn:=Lib.hid (fun W (hb:Below w.heap.size w W)=>h.below hb)
  have hop:=Lib.hid (fun W (hb:Below w.heap.size w W)=>ho.below hb)
  have ho':=Lib.hid ho
  have hbig':=Lib.hid hbig
  have hpm:=Nat.le_trans ho.pnc ho.pcm
  have htm:=Nat.le_trans ho.tnc ho.tcm
  have hqm:=Nat.le_trans ho.qnc ho.qcm
  have hpm':=Lib.hid hpm
  have htm':=Lib.hid htm
  have hqm':=Lib.hid hqm
  have hkr:=ho.kind
  have hf':=Lib.hid hf
  clear hf
  have htk:=Lib.hid (show decide (o.kind = 2∨o.kind = 3) = false from decide_eq_false hk)
  have hx':=Lib.hid hx
  clear hx
  clear hk
  clear h ho hbig hv2 v2 hv3 v3 hpm htm hqm
  unfold zero6 val6 opCells at hF1
  unfold val6 opCells
  go_enter Try.func60,Try.ntmps60
  go_wp2_with fail
  refine wp_scope_once 0 rfl ?_
  go_wp2_with (first
    | (go_at_call 14;go_loud (refine (formed_any _ o s (hop.out _ hF1.out.bel)).mono ?_;rintro e w2 ⟨rfl,hb⟩;rw [hf'.out];have hF2:=Lib.hid (hF1.out.below hb);(try (clear o0 o1 o2 o3 o4 o5 o6 o7 o8 o9 o10));(try (clear n0 n1 n2 n3 n4 n5 nf));(try (clear p0 p1 p2 p3 p4 p5 pf));(try (clear q0 q1 q2 q3 q4 q5 qf));obtain ⟨o0,o1,o2,o3,o4,o5,o6,o7,o8,o9,o10⟩:=op_cells hF2.out.ro;clear hb))
    | (go_at_call 97;go_loud (refine (takesOut_any _ o s ho'.out.kind).mono ?_;rintro e w3 ⟨rfl,hb⟩;rw [htk.out];have hF3:=Lib.hid (hF2.out.below hb);(try (clear o0 o1 o2 o3 o4 o5 o6 o7 o8 o9 o10));(try (clear n0 n1 n2 n3 n4 n5 nf));(try (clear p0 p1 p2 p3 p4 p5 pf));(try (clear q0 q1 q2 q3 q4 q5 qf));obtain ⟨o0,o1,o2,o3,o4,o5,o6,o7,o8,o9,o10⟩:=op_cells hF3.out.ro;obtain ⟨n0,n1,n2,n3,n4,n5,nf⟩:=six_cells hF3.out.rn;clear hb))
    | (go_at_call 36;go_at_call_of 36 s.pA;go_loud (refine (at_any _ t aA kA an ac kn kc (hn.out _ hF3.out.bel) s.pA s.pn s.pc o.path (hop.out _ hF3.out.bel).path hpm'.out hbig'.out).mono ?_;rintro e w4 ⟨xA,xn,xc,xK,xm,xd,rfl,hnx,hb⟩;clear hnx;rw [hx'.out];unfold val6;have hFz:=Lib.hid (hF3.out.below hb);(try (clear o0 o1 o2 o3 o4 o5 o6 o7 o8 o9 o10));(try (clear n0 n1 n2 n3 n4 n5 nf));(try (clear p0 p1 p2 p3 p4 p5 pf));(try (clear q0 q1 q2 q3 q4 q5 qf));obtain ⟨p0,p1,p2,p3,p4,p5,pf⟩:=six_cells hFz.out.r5;clear hb)))
  go_step3
  refine ⟨rfl,?_⟩
  go_wp2_with fail
  try simp only [Exit.jump]
  go_ret
  exact ⟨rfl,by first | exact hFz.out.bel | exact below_six hFz.out.bel (by omega)⟩
set_option maxHeartbeats 8000000 in
theorem fault_kxb (w:World) (t:Nd) (aA kA:Option Addr) (an ac kn kc:Nat) (o:Ov) (s:OS) (h:NodeV (Old w) w aA an ac kA kn kc t) (ho:OpIn w o s) (hbig:weighV t≤1000000) (hf:formedV o = true) (hk:¬ (o.kind = 2∨o.kind = 3)) (h1:o.kind ≠ 1) (h3:o.kind ≠ 3) (h6:o.kind ≠ 6) (x:Nd) (hx:atV t o.path = some x) :
    Calls Try.prog 60 #[.agg (val6 t aA an ac kA kn kc),.agg (opCells o s)] w fun e w'=>e = .returned (.int .i64 (0))∧Below w.heap.size w w':=by
  obtain ⟨v2,hv2⟩:∃ v2,v2 = val6 t aA an ac kA kn kc:=⟨_,rfl⟩
  obtain ⟨v3,hv3⟩:∃ v3,v3 = opCells o s:=⟨_,rfl⟩
  have hF1:=Lib.hid (Four.start w (val6 t aA an ac kA kn kc) (opCells o s) zero6 zero6)
  have hn:=Lib.hid (fun W (hb:Below w.heap.size w W)=>h.below hb)
  have hop:=Lib.hid (fun W (hb:Below w.heap.size w W)=>ho.below hb)
  have ho':=Lib.hid ho
  have hbig':=Lib.hid hbig
  have hpm:=Nat.le_trans ho.pnc ho.pcm
  have htm:=Nat.le_trans ho.tnc ho.tcm
  have hqm:=Nat.le_trans ho.qnc ho.qcm
  have hpm':=Lib.hid hpm
  have htm':=Lib.hid htm
  have hqm':=Lib.hid hqm
  have hkr:=ho.kind
  have hf':=Lib.hid hf
  clear hf
  have htk:=Lib.hid (show decide (o.kind = 2∨o.kind = 3) = false from decide_eq_false hk)
  have hpi:=Lib.hid (show decide (o.kind = 1∨o.kind = 3) = false from decide_eq_false fun h=>by rcases h with h | h;exact h1 h;exact h3 h)
  have hx':=Lib.hid hx
  clear hx
  have b3:((o.kind:Int) == 3) = false:=by simp;omega
  have b6:((o.kind:Int) == 6) = false:=by simp;omega
  clear hk h1 h3 h6
  clear h ho hbig hv2 v2 hv3 v3 hpm htm hqm
  unfold zero6 val6 opCells at hF1
  unfold val6 opCells
  go_enter Try.func60,Try.ntmps60
  go_wp2_with fail
  refine wp_scope_once 0 rfl ?_
  go_wp2_with (first
    | (go_at_call 14;go_loud (refine (formed_any _ o s (hop.out _ hF1.out.bel)).mono ?_;rintro e w2 ⟨rfl,hb⟩;rw [hf'.out];have hF2:=Lib.hid (hF1.out.below hb);(try (clear o0 o1 o2 o3 o4 o5 o6 o7 o8 o9 o10));(try (clear n0 n1 n2 n3 n4 n5 nf));(try (clear p0 p1 p2 p3 p4 p5 pf));(try (clear q0 q1 q2 q3 q4 q5 qf));obtain ⟨o0,o1,o2,o3,o4,o5,o6,o7,o8,o9,o10⟩:=op_cells hF2.out.ro;clear hb))
    | (go_at_call 97;go_loud (refine (takesOut_any _ o s ho'.out.kind).mono ?_;rintro e w3 ⟨rfl,hb⟩;rw [htk.out];have hF3:=Lib.hid (hF2.out.below hb);(try (clear o0 o1 o2 o3 o4 o5 o6 o7 o8 o9 o10));(try (clear n0 n1 n2 n3 n4 n5 nf));(try (clear p0 p1 p2 p3 p4 p5 pf));(try (clear q0 q1 q2 q3 q4 q5 qf));obtain ⟨o0,o1,o2,o3,o4,o5,o6,o7,o8,o9,o10⟩:=op_cells hF3.out.ro;obtain ⟨n0,n1,n2,n3,n4,n5,nf⟩:=six_cells hF3.out.rn;clear hb))
    | (go_at_call 36;go_at_call_of 36 s.pA;go_loud (refine (at_any _ t aA kA an ac kn kc (hn.out _ hF3.out.bel) s.pA s.pn s.pc o.path (hop.out _ hF3.out.bel).path hpm'.out hbig'.out).mono ?_;rintro e w4 ⟨xA,xn,xc,xK,xm,xd,rfl,hnx,hb⟩;rw [hx'.out] at hnx ⊢;have hxk:=hnx.facts.kl;unfold val6;have hF4:=Lib.hid (hF3.out.below hb);(try (clear o0 o1 o2 o3 o4 o5 o6 o7 o8 o9 o10));(try (clear n0 n1 n2 n3 n4 n5 nf));(try (clear p0 p1 p2 p3 p4 p5 pf));(try (clear q0 q1 q2 q3 q4 q5 qf));obtain ⟨o0,o1,o2,o3,o4,o5,o6,o7,o8,o9,o10⟩:=op_cells hF4.out.ro;obtain ⟨p0,p1,p2,p3,p4,p5,pf⟩:=six_cells hF4.out.r5;obtain ⟨q0,q1,q2,q3,q4,q5,qf⟩:=six_cells hF4.out.r6;clear hb))
    | (go_at_call 99;go_loud (have hG:=((hF4.out.set5 (.int .u64 (x.id:Int)) (.bool x.leaf) (.string ⟨x.label.toArray⟩) (.slice xA xn xc) (.string ⟨x.text.toArray⟩) (.slice xK xm xd)).set6 (.int .u64 (x.id:Int)) (.bool x.leaf) (.string ⟨x.label.toArray⟩) (.slice xA xn xc) (.string ⟨x.text.toArray⟩) (.slice xK xm xd));refine (putsIn_any _ o s ho'.out.kind).mono ?_;rintro e w7 ⟨rfl,hb⟩;rw [hpi.out];have hFz:=Lib.hid (hG.below hb);(try (clear o0 o1 o2 o3 o4 o5 o6 o7 o8 o9 o10));(try (clear n0 n1 n2 n3 n4 n5 nf));(try (clear p0 p1 p2 p3 p4 p5 pf));(try (clear q0 q1 q2 q3 q4 q5 qf));obtain ⟨o0,o1,o2,o3,o4,o5,o6,o7,o8,o9,o10⟩:=op_cells hFz.out.ro;obtain ⟨p0,p1,p2,p3,p4,p5,pf⟩:=six_cells hFz.out.r5;obtain ⟨q0,q1,q2,q3,q4,q5,qf⟩:=six_cells hFz.out.r6;clear hb)))
  go_step3
  go_wp2_with fail
  try simp only [Exit.jump]
  go_ret
  exact ⟨rfl,by first | exact hFz.out.bel | exact below_six hFz.out.bel (by omega)⟩
set_option maxHeartbeats 8000000 in
theorem fault_k1 (w:World) (t:Nd) (aA kA:Option Addr) (an ac kn kc:Nat) (o:Ov) (s:OS) (h:NodeV (Old w) w aA an ac kA kn kc t) (ho:OpIn w o s) (hbig:weighV t≤1000000) (hf:formedV o = true) (k1:o.kind = 1) (x:Nd) (hx:atV t o.path = some x) :
    Calls Try.prog 60 #[.agg (val6 t aA an ac kA kn kc),.agg (opCells o s)] w fun e w'=>e = .returned (.int .i64 (gapE x o.at_))∧Below w.heap.size w w':=by
  obtain ⟨v2,hv2⟩:∃ v2,v2 = val6 t aA an ac kA kn kc:=⟨_,rfl⟩
  obtain ⟨v3,hv3⟩:∃ v3,v3 = opCells o s:=⟨_,rfl⟩
  have hF1:=Lib.hid (Four.start w (val6 t aA an ac kA kn kc) (opCells o s) zero6 zero6)
  have hn:=Lib.hid (fun W (hb:Below w.heap.size w W)=>h.below hb)
  have hop:=Lib.hid (fun W (hb:Below w.heap.size w W)=>ho.below hb)
  have ho':=Lib.hid ho
  have hbig':=Lib.hid hbig
  have hpm:=Nat.le_trans ho.pnc ho.pcm
  have htm:=Nat.le_trans ho.tnc ho.tcm
  have hqm:=Nat.le_trans ho.qnc ho.qcm
  have hpm':=Lib.hid hpm
  have htm':=Lib.hid htm
  have hqm':=Lib.hid hqm
  have hkr:=ho.kind
  have hf':=Lib.hid hf
  clear hf
  have htk:=Lib.hid (show decide (o.kind = 2∨o.kind = 3) = false from decide_eq_false fun h=>by omega)
  have hpi:=Lib.hid (show decide (o.kind = 1∨o.kind = 3) = true from decide_eq_true (.inl k1))
  have hx':=Lib.hid hx
  clear hx
  have b3:((o.kind:Int) == 3) = false:=by simp;omega
  clear k1
  clear h ho hbig hv2 v2 hv3 v3 hpm htm hqm
  unfold zero6 val6 opCells at hF1
  unfold val6 opCells
  go_enter Try.func60,Try.ntmps60
  go_wp2_with fail
  refine wp_scope_once 0 rfl ?_
  go_wp2_with (first
    | (go_at_call 14;go_loud (refine (formed_any _ o s (hop.out _ hF1.out.bel)).mono ?_;rintro e w2 ⟨rfl,hb⟩;rw [hf'.out];have hF2:=Lib.hid (hF1.out.below hb);(try (clear o0 o1 o2 o3 o4 o5 o6 o7 o8 o9 o10));(try (clear n0 n1 n2 n3 n4 n5 nf));(try (clear p0 p1 p2 p3 p4 p5 pf));(try (clear q0 q1 q2 q3 q4 q5 qf));obtain ⟨o0,o1,o2,o3,o4,o5,o6,o7,o8,o9,o10⟩:=op_cells hF2.out.ro;clear hb))
    | (go_at_call 97;go_loud (refine (takesOut_any _ o s ho'.out.kind).mono ?_;rintro e w3 ⟨rfl,hb⟩;rw [htk.out];have hF3:=Lib.hid (hF2.out.below hb);(try (clear o0 o1 o2 o3 o4 o5 o6 o7 o8 o9 o10));(try (clear n0 n1 n2 n3 n4 n5 nf));(try (clear p0 p1 p2 p3 p4 p5 pf));(try (clear q0 q1 q2 q3 q4 q5 qf));obtain ⟨o0,o1,o2,o3,o4,o5,o6,o7,o8,o9,o10⟩:=op_cells hF3.out.ro;obtain ⟨n0,n1,n2,n3,n4,n5,nf⟩:=six_cells hF3.out.rn;clear hb))
    | (go_at_call 36;go_at_call_of 36 s.pA;go_loud (refine (at_any _ t aA kA an ac kn kc (hn.out _ hF3.out.bel) s.pA s.pn s.pc o.path (hop.out _ hF3.out.bel).path hpm'.out hbig'.out).mono ?_;rintro e w4 ⟨xA,xn,xc,xK,xm,xd,rfl,hnx,hb⟩;rw [hx'.out] at hnx ⊢;have hxk:=hnx.facts.kl;unfold val6;have hF4:=Lib.hid (hF3.out.below hb);(try (clear o0 o1 o2 o3 o4 o5 o6 o7 o8 o9 o10));(try (clear n0 n1 n2 n3 n4 n5 nf));(try (clear p0 p1 p2 p3 p4 p5 pf));(try (clear q0 q1 q2 q3 q4 q5 qf));obtain ⟨o0,o1,o2,o3,o4,o5,o6,o7,o8,o9,o10⟩:=op_cells hF4.out.ro;obtain ⟨p0,p1,p2,p3,p4,p5,pf⟩:=six_cells hF4.out.r5;obtain ⟨q0,q1,q2,q3,q4,q5,qf⟩:=six_cells hF4.out.r6;clear hb))
    | (go_at_call 99;go_loud (have hG:=((hF4.out.set5 (.int .u64 (x.id:Int)) (.bool x.leaf) (.string ⟨x.label.toArray⟩) (.slice xA xn xc) (.string ⟨x.text.toArray⟩) (.slice xK xm xd)).set6 (.int .u64 (x.id:Int)) (.bool x.leaf) (.string ⟨x.label.toArray⟩) (.slice xA xn xc) (.string ⟨x.text.toArray⟩) (.slice xK xm xd));refine (putsIn_any _ o s ho'.out.kind).mono ?_;rintro e w7 ⟨rfl,hb⟩;rw [hpi.out];have hF7:=Lib.hid (hG.below hb);(try (clear o0 o1 o2 o3 o4 o5 o6 o7 o8 o9 o10));(try (clear n0 n1 n2 n3 n4 n5 nf));(try (clear p0 p1 p2 p3 p4 p5 pf));(try (clear q0 q1 q2 q3 q4 q5 qf));obtain ⟨o0,o1,o2,o3,o4,o5,o6,o7,o8,o9,o10⟩:=op_cells hF7.out.ro;obtain ⟨p0,p1,p2,p3,p4,p5,pf⟩:=six_cells hF7.out.r5;obtain ⟨q0,q1,q2,q3,q4,q5,qf⟩:=six_cells hF7.out.r6;clear hb))
    | (go_at_call 100;go_loud (refine (gapFault_any _ x xA xK xn xc xm xd hxk o.at_).mono ?_;rintro e w8 ⟨rfl,hb⟩;have hFz:=Lib.hid (hF7.out.below hb);(try (clear o0 o1 o2 o3 o4 o5 o6 o7 o8 o9 o10));(try (clear n0 n1 n2 n3 n4 n5 nf));(try (clear p0 p1 p2 p3 p4 p5 pf));(try (clear q0 q1 q2 q3 q4 q5 qf));clear hb)))
  go_step3
  go_wp2_with fail
  try simp only [Exit.jump]
  go_ret
  exact ⟨rfl,by first | exact hFz.out.bel | exact below_six hFz.out.bel (by omega)⟩
set_option maxHeartbeats 8000000 in
theorem fault_k6 (w:World) (t:Nd) (aA kA:Option Addr) (an ac kn kc:Nat) (o:Ov) (s:OS) (h:NodeV (Old w) w aA an ac kA kn kc t) (ho:OpIn w o s) (hbig:weighV t≤1000000) (hf:formedV o = true) (k6:o.kind = 6) (x:Nd) (hx:atV t o.path = some x) (hr:P5.rightV o.pieces = true) (hxl:x.text.length≤10000000) :
    Calls Try.prog 60 #[.agg (val6 t aA an ac kA kn kc),.agg (opCells o s)] w fun e w'=>e = .returned (.int .i64 (editE x o.pieces))∧Below w.heap.size w w':=by
  obtain ⟨v2,hv2⟩:∃ v2,v2 = val6 t aA an ac kA kn kc:=⟨_,rfl⟩
  obtain ⟨v3,hv3⟩:∃ v3,v3 = opCells o s:=⟨_,rfl⟩
  have hF1:=Lib.hid (Four.start w (val6 t aA an ac kA kn kc) (opCells o s) zero6 zero6)
  have hn:=Lib.hid (fun W (hb:Below w.heap.size w W)=>h.below hb)
  have hop:=Lib.hid (fun W (hb:Below w.heap.size w W)=>ho.below hb)
  have ho':=Lib.hid ho
  have hbig':=Lib.hid hbig
  have hpm:=Nat.le_trans ho.pnc ho.pcm
  have htm:=Nat.le_trans ho.tnc ho.tcm
  have hqm:=Nat.le_trans ho.qnc ho.qcm
  have hpm':=Lib.hid hpm
  have htm':=Lib.hid htm
  have hqm':=Lib.hid hqm
  have hkr:=ho.kind
  have hf':=Lib.hid hf
  clear hf
  have htk:=Lib.hid (show decide (o.kind = 2∨o.kind = 3) = false from decide_eq_false fun h=>by omega)
  have hpi:=Lib.hid (show decide (o.kind = 1∨o.kind = 3) = false from decide_eq_false fun h=>by omega)
  have hx':=Lib.hid hx
  clear hx
  have b3:((o.kind:Int) == 3) = false:=by simp;omega
  have b6:((o.kind:Int) == 6) = true:=by simp;omega
  have hrg:=Lib.hid hr
  have hxt:=Lib.hid hxl
  clear k6 hr hxl
  clear h ho hbig hv2 v2 hv3 v3 hpm htm hqm
  unfold zero6 val6 opCells at hF1
  unfold val6 opCells
  go_enter Try.func60,Try.ntmps60
  go_wp2_with fail
  refine wp_scope_once 0 rfl ?_
  go_wp2_with (first
    | (go_at_call 14;go_loud (refine (formed_any _ o s (hop.out _ hF1.out.bel)).mono ?_;rintro e w2 ⟨rfl,hb⟩;rw [hf'.out];have hF2:=Lib.hid (hF1.out.below hb);(try (clear o0 o1 o2 o3 o4 o5 o6 o7 o8 o9 o10));(try (clear n0 n1 n2 n3 n4 n5 nf));(try (clear p0 p1 p2 p3 p4 p5 pf));(try (clear q0 q1 q2 q3 q4 q5 qf));obtain ⟨o0,o1,o2,o3,o4,o5,o6,o7,o8,o9,o10⟩:=op_cells hF2.out.ro;clear hb))
    | (go_at_call 97;go_loud (refine (takesOut_any _ o s ho'.out.kind).mono ?_;rintro e w3 ⟨rfl,hb⟩;rw [htk.out];have hF3:=Lib.hid (hF2.out.below hb);(try (clear o0 o1 o2 o3 o4 o5 o6 o7 o8 o9 o10));(try (clear n0 n1 n2 n3 n4 n5 nf));(try (clear p0 p1 p2 p3 p4 p5 pf));(try (clear q0 q1 q2 q3 q4 q5 qf));obtain ⟨o0,o1,o2,o3,o4,o5,o6,o7,o8,o9,o10⟩:=op_cells hF3.out.ro;obtain ⟨n0,n1,n2,n3,n4,n5,nf⟩:=six_cells hF3.out.rn;clear hb))
    | (go_at_call 36;go_at_call_of 36 s.pA;go_loud (refine (at_any _ t aA kA an ac kn kc (hn.out _ hF3.out.bel) s.pA s.pn s.pc o.path (hop.out _ hF3.out.bel).path hpm'.out hbig'.out).mono ?_;rintro e w4 ⟨xA,xn,xc,xK,xm,xd,rfl,hnx,hb⟩;rw [hx'.out] at hnx ⊢;have hxk:=hnx.facts.kl;unfold val6;have hF4:=Lib.hid (hF3.out.below hb);(try (clear o0 o1 o2 o3 o4 o5 o6 o7 o8 o9 o10));(try (clear n0 n1 n2 n3 n4 n5 nf));(try (clear p0 p1 p2 p3 p4 p5 pf));(try (clear q0 q1 q2 q3 q4 q5 qf));obtain ⟨o0,o1,o2,o3,o4,o5,o6,o7,o8,o9,o10⟩:=op_cells hF4.out.ro;obtain ⟨p0,p1,p2,p3,p4,p5,pf⟩:=six_cells hF4.out.r5;obtain ⟨q0,q1,q2,q3,q4,q5,qf⟩:=six_cells hF4.out.r6;clear hb))
    | (go_at_call 99;go_loud (have hG:=((hF4.out.set5 (.int .u64 (x.id:Int)) (.bool x.leaf) (.string ⟨x.label.toArray⟩) (.slice xA xn xc) (.string ⟨x.text.toArray⟩) (.slice xK xm xd)).set6 (.int .u64 (x.id:Int)) (.bool x.leaf) (.string ⟨x.label.toArray⟩) (.slice xA xn xc) (.string ⟨x.text.toArray⟩) (.slice xK xm xd));refine (putsIn_any _ o s ho'.out.kind).mono ?_;rintro e w7 ⟨rfl,hb⟩;rw [hpi.out];have hF7:=Lib.hid (hG.below hb);(try (clear o0 o1 o2 o3 o4 o5 o6 o7 o8 o9 o10));(try (clear n0 n1 n2 n3 n4 n5 nf));(try (clear p0 p1 p2 p3 p4 p5 pf));(try (clear q0 q1 q2 q3 q4 q5 qf));obtain ⟨o0,o1,o2,o3,o4,o5,o6,o7,o8,o9,o10⟩:=op_cells hF7.out.ro;obtain ⟨p0,p1,p2,p3,p4,p5,pf⟩:=six_cells hF7.out.r5;obtain ⟨q0,q1,q2,q3,q4,q5,qf⟩:=six_cells hF7.out.r6;clear hb))
    | (go_at_call 101;go_loud (refine (editFault_any _ x xA xK xn xc xm xd hxt.out s.qA s.qn s.qc o.pieces (hop.out _ hF7.out.bel).pieces hqm'.out hrg.out).mono ?_;rintro e w8 ⟨rfl,hb⟩;have hFz:=Lib.hid (hF7.out.below hb);(try (clear o0 o1 o2 o3 o4 o5 o6 o7 o8 o9 o10));(try (clear n0 n1 n2 n3 n4 n5 nf));(try (clear p0 p1 p2 p3 p4 p5 pf));(try (clear q0 q1 q2 q3 q4 q5 qf));clear hb)))
  go_step3
  go_wp2_with fail
  try simp only [Exit.jump]
  go_ret
  exact ⟨rfl,by first | exact hFz.out.bel | exact below_six hFz.out.bel (by omega)⟩
set_option maxHeartbeats 8000000 in
theorem fault_k3a (w:World) (t:Nd) (aA kA:Option Addr) (an ac kn kc:Nat) (o:Ov) (s:OS) (h:NodeV (Old w) w aA an ac kA kn kc t) (ho:OpIn w o s) (hbig:weighV t≤1000000) (hf:formedV o = true) (k3:o.kind = 3) (hp:o.path ≠ []) (x:Nd) (hx:atV t o.path = some x) (hw:P4.withinV o.path o.to_ = true) :
    Calls Try.prog 60 #[.agg (val6 t aA an ac kA kn kc),.agg (opCells o s)] w fun e w'=>e = .returned (.int .i64 (84))∧Below w.heap.size w w':=by
  obtain ⟨v2,hv2⟩:∃ v2,v2 = val6 t aA an ac kA kn kc:=⟨_,rfl⟩
  obtain ⟨v3,hv3⟩:∃ v3,v3 = opCells o s:=⟨_,rfl⟩
  have hF1:=Lib.hid (Four.start w (val6 t aA an ac kA kn kc) (opCells o s) zero6 zero6)
  have hn:=Lib.hid (fun W (hb:Below w.heap.size w W)=>h.below hb)
  have hop:=Lib.hid (fun W (hb:Below w.heap.size w W)=>ho.below hb)
  have ho':=Lib.hid ho
  have hbig':=Lib.hid hbig
  have hpm:=Nat.le_trans ho.pnc ho.pcm
  have htm:=Nat.le_trans ho.tnc ho.tcm
  have hqm:=Nat.le_trans ho.qnc ho.qcm
  have hpm':=Lib.hid hpm
  have htm':=Lib.hid htm
  have hqm':=Lib.hid hqm
  have hkr:=ho.kind
  have hf':=Lib.hid hf
  clear hf
  have htk:=Lib.hid (show decide (o.kind = 2∨o.kind = 3) = true from decide_eq_true (.inr k3))
  have hpi:=Lib.hid (show decide (o.kind = 1∨o.kind = 3) = true from decide_eq_true (.inr k3))
  have b3:((o.kind:Int) == 3) = true:=by simp;omega
  have hplen:¬ ((s.pn:Int) = 0):=by
    have:=ho'.out.path.1
    cases hc:o.path with
    | nil=>exact absurd hc hp
    | cons a b=>rw [hc] at this;simp at this;omega
  have hplen2:((s.pn:Int) == 0) = false:=by simpa using hplen
  clear hplen hp
  have hx':=Lib.hid hx
  clear hx
  have hw':=Lib.hid hw
  clear k3 hw
  clear h ho hbig hv2 v2 hv3 v3 hpm htm hqm
  unfold zero6 val6 opCells at hF1
  unfold val6 opCells
  go_enter Try.func60,Try.ntmps60
  go_wp2_with fail
  refine wp_scope_once 0 rfl ?_
  go_wp2_with (first
    | (go_at_call 14;go_loud (refine (formed_any _ o s (hop.out _ hF1.out.bel)).mono ?_;rintro e w2 ⟨rfl,hb⟩;rw [hf'.out];have hF2:=Lib.hid (hF1.out.below hb);(try (clear o0 o1 o2 o3 o4 o5 o6 o7 o8 o9 o10));(try (clear n0 n1 n2 n3 n4 n5 nf));(try (clear p0 p1 p2 p3 p4 p5 pf));(try (clear q0 q1 q2 q3 q4 q5 qf));obtain ⟨o0,o1,o2,o3,o4,o5,o6,o7,o8,o9,o10⟩:=op_cells hF2.out.ro;clear hb))
    | (go_at_call 97;go_loud (refine (takesOut_any _ o s ho'.out.kind).mono ?_;rintro e w3 ⟨rfl,hb⟩;rw [htk.out];have hF3:=Lib.hid (hF2.out.below hb);(try (clear o0 o1 o2 o3 o4 o5 o6 o7 o8 o9 o10));(try (clear n0 n1 n2 n3 n4 n5 nf));(try (clear p0 p1 p2 p3 p4 p5 pf));(try (clear q0 q1 q2 q3 q4 q5 qf));obtain ⟨o0,o1,o2,o3,o4,o5,o6,o7,o8,o9,o10⟩:=op_cells hF3.out.ro;obtain ⟨n0,n1,n2,n3,n4,n5,nf⟩:=six_cells hF3.out.rn;clear hb))
    | (go_at_call 36;go_at_call_of 36 s.pA;go_loud (refine (at_any _ t aA kA an ac kn kc (hn.out _ hF3.out.bel) s.pA s.pn s.pc o.path (hop.out _ hF3.out.bel).path hpm'.out hbig'.out).mono ?_;rintro e w4 ⟨xA,xn,xc,xK,xm,xd,rfl,hnx,hb⟩;rw [hx'.out] at hnx ⊢;have hxk:=hnx.facts.kl;unfold val6;have hF4:=Lib.hid (hF3.out.below hb);(try (clear o0 o1 o2 o3 o4 o5 o6 o7 o8 o9 o10));(try (clear n0 n1 n2 n3 n4 n5 nf));(try (clear p0 p1 p2 p3 p4 p5 pf));(try (clear q0 q1 q2 q3 q4 q5 qf));obtain ⟨o0,o1,o2,o3,o4,o5,o6,o7,o8,o9,o10⟩:=op_cells hF4.out.ro;obtain ⟨p0,p1,p2,p3,p4,p5,pf⟩:=six_cells hF4.out.r5;obtain ⟨q0,q1,q2,q3,q4,q5,qf⟩:=six_cells hF4.out.r6;clear hb))
    | (go_at_call 98;go_loud (have hG:=((hF4.out.set5 (.int .u64 (x.id:Int)) (.bool x.leaf) (.string ⟨x.label.toArray⟩) (.slice xA xn xc) (.string ⟨x.text.toArray⟩) (.slice xK xm xd)).set6 (.int .u64 (x.id:Int)) (.bool x.leaf) (.string ⟨x.label.toArray⟩) (.slice xA xn xc) (.string ⟨x.text.toArray⟩) (.slice xK xm xd));refine (P4.within_any _ s.pA s.tA s.pn s.pc s.tn s.tc o.path o.to_ (hop.out _ hG.bel).path (hop.out _ hG.bel).to_ hpm'.out htm'.out).mono ?_;rw [hw'.out];rintro e w5 ⟨rfl,k5,hk5⟩;have hFz:=Lib.hid (hG.drew hk5);(try (clear o0 o1 o2 o3 o4 o5 o6 o7 o8 o9 o10));(try (clear n0 n1 n2 n3 n4 n5 nf));(try (clear p0 p1 p2 p3 p4 p5 pf));(try (clear q0 q1 q2 q3 q4 q5 qf));obtain ⟨o0,o1,o2,o3,o4,o5,o6,o7,o8,o9,o10⟩:=op_cells hFz.out.ro;obtain ⟨n0,n1,n2,n3,n4,n5,nf⟩:=six_cells hFz.out.rn;clear hk5)))
  go_step3
  refine ⟨rfl,?_⟩
  go_wp2_with fail
  try simp only [Exit.jump]
  go_ret
  exact ⟨rfl,by first | exact hFz.out.bel | exact below_six hFz.out.bel (by omega)⟩
set_option maxHeartbeats 8000000 in
theorem fault_k3b (w:World) (t:Nd) (aA kA:Option Addr) (an ac kn kc:Nat) (o:Ov) (s:OS) (h:NodeV (Old w) w aA an ac kA kn kc t) (ho:OpIn w o s) (hbig:weighV t≤1000000) (hf:formedV o = true) (k3:o.kind = 3) (hp:o.path ≠ []) (x:Nd) (hx:atV t o.path = some x) (hw:P4.withinV o.path o.to_ = false) (hy:atV t o.to_ = none) :
    Calls Try.prog 60 #[.agg (val6 t aA an ac kA kn kc),.agg (opCells o s)] w fun e w'=>e = .returned (.int .i64 (81))∧Below w.heap.size w w':=by
  obtain ⟨v2,hv2⟩:∃ v2,v2 = val6 t aA an ac kA kn kc:=⟨_,rfl⟩
  obtain ⟨v3,hv3⟩:∃ v3,v3 = opCells o s:=⟨_,rfl⟩
  have hF1:=Lib.hid (Four.start w (val6 t aA an ac kA kn kc) (opCells o s) zero6 zero6)
  have hn:=Lib.hid (fun W (hb:Below w.heap.size w W)=>h.below hb)
  have hop:=Lib.hid (fun W (hb:Below w.heap.size w W)=>ho.below hb)
  have ho':=Lib.hid ho
  have hbig':=Lib.hid hbig
  have hpm:=Nat.le_trans ho.pnc ho.pcm
  have htm:=Nat.le_trans ho.tnc ho.tcm
  have hqm:=Nat.le_trans ho.qnc ho.qcm
  have hpm':=Lib.hid hpm
  have htm':=Lib.hid htm
  have hqm':=Lib.hid hqm
  have hkr:=ho.kind
  have hf':=Lib.hid hf
  clear hf
  have htk:=Lib.hid (show decide (o.kind = 2∨o.kind = 3) = true from decide_eq_true (.inr k3))
  have hpi:=Lib.hid (show decide (o.kind = 1∨o.kind = 3) = true from decide_eq_true (.inr k3))
  have b3:((o.kind:Int) == 3) = true:=by simp;omega
  have hplen:¬ ((s.pn:Int) = 0):=by
    have:=ho'.out.path.1
    cases hc:o.path with
    | nil=>exact absurd hc hp
    | cons a b=>rw [hc] at this;simp at this;omega
  have hplen2:((s.pn:Int) == 0) = false:=by simpa using hplen
  clear hplen hp
  have hx':=Lib.hid hx
  clear hx
  have hw':=Lib.hid hw
  have hy':=Lib.hid hy
  clear k3 hw hy
  clear h ho hbig hv2 v2 hv3 v3 hpm htm hqm
  unfold zero6 val6 opCells at hF1
  unfold val6 opCells
  go_enter Try.func60,Try.ntmps60
  go_wp2_with fail
  refine wp_scope_once 0 rfl ?_
  go_wp2_with (first
    | (go_at_call 14;go_loud (refine (formed_any _ o s (hop.out _ hF1.out.bel)).mono ?_;rintro e w2 ⟨rfl,hb⟩;rw [hf'.out];have hF2:=Lib.hid (hF1.out.below hb);(try (clear o0 o1 o2 o3 o4 o5 o6 o7 o8 o9 o10));(try (clear n0 n1 n2 n3 n4 n5 nf));(try (clear p0 p1 p2 p3 p4 p5 pf));(try (clear q0 q1 q2 q3 q4 q5 qf));obtain ⟨o0,o1,o2,o3,o4,o5,o6,o7,o8,o9,o10⟩:=op_cells hF2.out.ro;clear hb))
    | (go_at_call 97;go_loud (refine (takesOut_any _ o s ho'.out.kind).mono ?_;rintro e w3 ⟨rfl,hb⟩;rw [htk.out];have hF3:=Lib.hid (hF2.out.below hb);(try (clear o0 o1 o2 o3 o4 o5 o6 o7 o8 o9 o10));(try (clear n0 n1 n2 n3 n4 n5 nf));(try (clear p0 p1 p2 p3 p4 p5 pf));(try (clear q0 q1 q2 q3 q4 q5 qf));obtain ⟨o0,o1,o2,o3,o4,o5,o6,o7,o8,o9,o10⟩:=op_cells hF3.out.ro;obtain ⟨n0,n1,n2,n3,n4,n5,nf⟩:=six_cells hF3.out.rn;clear hb))
    | (go_at_call 36;go_at_call_of 36 s.pA;go_loud (refine (at_any _ t aA kA an ac kn kc (hn.out _ hF3.out.bel) s.pA s.pn s.pc o.path (hop.out _ hF3.out.bel).path hpm'.out hbig'.out).mono ?_;rintro e w4 ⟨xA,xn,xc,xK,xm,xd,rfl,hnx,hb⟩;rw [hx'.out] at hnx ⊢;have hxk:=hnx.facts.kl;unfold val6;have hF4:=Lib.hid (hF3.out.below hb);(try (clear o0 o1 o2 o3 o4 o5 o6 o7 o8 o9 o10));(try (clear n0 n1 n2 n3 n4 n5 nf));(try (clear p0 p1 p2 p3 p4 p5 pf));(try (clear q0 q1 q2 q3 q4 q5 qf));obtain ⟨o0,o1,o2,o3,o4,o5,o6,o7,o8,o9,o10⟩:=op_cells hF4.out.ro;obtain ⟨p0,p1,p2,p3,p4,p5,pf⟩:=six_cells hF4.out.r5;obtain ⟨q0,q1,q2,q3,q4,q5,qf⟩:=six_cells hF4.out.r6;clear hb))
    | (go_at_call 98;go_loud (have hG:=((hF4.out.set5 (.int .u64 (x.id:Int)) (.bool x.leaf) (.string ⟨x.label.toArray⟩) (.slice xA xn xc) (.string ⟨x.text.toArray⟩) (.slice xK xm xd)).set6 (.int .u64 (x.id:Int)) (.bool x.leaf) (.string ⟨x.label.toArray⟩) (.slice xA xn xc) (.string ⟨x.text.toArray⟩) (.slice xK xm xd));refine (P4.within_any _ s.pA s.tA s.pn s.pc s.tn s.tc o.path o.to_ (hop.out _ hG.bel).path (hop.out _ hG.bel).to_ hpm'.out htm'.out).mono ?_;rw [hw'.out];rintro e w5 ⟨rfl,k5,hk5⟩;have hF5:=Lib.hid (hG.drew hk5);(try (clear o0 o1 o2 o3 o4 o5 o6 o7 o8 o9 o10));(try (clear n0 n1 n2 n3 n4 n5 nf));(try (clear p0 p1 p2 p3 p4 p5 pf));(try (clear q0 q1 q2 q3 q4 q5 qf));obtain ⟨o0,o1,o2,o3,o4,o5,o6,o7,o8,o9,o10⟩:=op_cells hF5.out.ro;obtain ⟨n0,n1,n2,n3,n4,n5,nf⟩:=six_cells hF5.out.rn;clear hk5))
    | (go_at_call 36;go_at_call_of 36 s.tA;go_loud (refine (at_any _ t aA kA an ac kn kc (hn.out _ hF5.out.bel) s.tA s.tn s.tc o.to_ (hop.out _ hF5.out.bel).to_ htm'.out hbig'.out).mono ?_;rintro e w6 ⟨yA,yn,yc,yK,ym,yd,rfl,hny,hb⟩;clear hny;rw [hy'.out];unfold val6;have hFz:=Lib.hid (hF5.out.below hb);(try (clear o0 o1 o2 o3 o4 o5 o6 o7 o8 o9 o10));(try (clear n0 n1 n2 n3 n4 n5 nf));(try (clear p0 p1 p2 p3 p4 p5 pf));(try (clear q0 q1 q2 q3 q4 q5 qf));obtain ⟨q0,q1,q2,q3,q4,q5,qf⟩:=six_cells hFz.out.r6;clear hb)))
  go_step3
  refine ⟨rfl,?_⟩
  go_wp2_with fail
  try simp only [Exit.jump]
  go_ret
  exact ⟨rfl,by first | exact hFz.out.bel | exact below_six hFz.out.bel (by omega)⟩
set_option maxHeartbeats 8000000 in
theorem fault_k3c (w:World) (t:Nd) (aA kA:Option Addr) (an ac kn kc:Nat) (o:Ov) (s:OS) (h:NodeV (Old w) w aA an ac kA kn kc t) (ho:OpIn w o s) (hbig:weighV t≤1000000) (hf:formedV o = true) (k3:o.kind = 3) (hp:o.path ≠ []) (x:Nd) (hx:atV t o.path = some x) (hw:P4.withinV o.path o.to_ = false) (y:Nd) (hy:atV t o.to_ = some y) :
    Calls Try.prog 60 #[.agg (val6 t aA an ac kA kn kc),.agg (opCells o s)] w fun e w'=>e = .returned (.int .i64 (gapE y o.at_))∧Below w.heap.size w w':=by
  obtain ⟨v2,hv2⟩:∃ v2,v2 = val6 t aA an ac kA kn kc:=⟨_,rfl⟩
  obtain ⟨v3,hv3⟩:∃ v3,v3 = opCells o s:=⟨_,rfl⟩
  have hF1:=Lib.hid (Four.start w (val6 t aA an ac kA kn kc) (opCells o s) zero6 zero6)
  have hn:=Lib.hid (fun W (hb:Below w.heap.size w W)=>h.below hb)
  have hop:=Lib.hid (fun W (hb:Below w.heap.size w W)=>ho.below hb)
  have ho':=Lib.hid ho
  have hbig':=Lib.hid hbig
  have hpm:=Nat.le_trans ho.pnc ho.pcm
  have htm:=Nat.le_trans ho.tnc ho.tcm
  have hqm:=Nat.le_trans ho.qnc ho.qcm
  have hpm':=Lib.hid hpm
  have htm':=Lib.hid htm
  have hqm':=Lib.hid hqm
  have hkr:=ho.kind
  have hf':=Lib.hid hf
  clear hf
  have htk:=Lib.hid (show decide (o.kind = 2∨o.kind = 3) = true from decide_eq_true (.inr k3))
  have hpi:=Lib.hid (show decide (o.kind = 1∨o.kind = 3) = true from decide_eq_true (.inr k3))
  have b3:((o.kind:Int) == 3) = true:=by simp;omega
  have hplen:¬ ((s.pn:Int) = 0):=by
    have:=ho'.out.path.1
    cases hc:o.path with
    | nil=>exact absurd hc hp
    | cons a b=>rw [hc] at this;simp at this;omega
  have hplen2:((s.pn:Int) == 0) = false:=by simpa using hplen
  clear hplen hp
  have hx':=Lib.hid hx
  clear hx
  have hw':=Lib.hid hw
  have hy':=Lib.hid hy
  clear k3 hw hy
  clear h ho hbig hv2 v2 hv3 v3 hpm htm hqm
  unfold zero6 val6 opCells at hF1
  unfold val6 opCells
  go_enter Try.func60,Try.ntmps60
  go_wp2_with fail
  refine wp_scope_once 0 rfl ?_
  go_wp2_with (first
    | (go_at_call 14;go_loud (refine (formed_any _ o s (hop.out _ hF1.out.bel)).mono ?_;rintro e w2 ⟨rfl,hb⟩;rw [hf'.out];have hF2:=Lib.hid (hF1.out.below hb);(try (clear o0 o1 o2 o3 o4 o5 o6 o7 o8 o9 o10));(try (clear n0 n1 n2 n3 n4 n5 nf));(try (clear p0 p1 p2 p3 p4 p5 pf));(try (clear q0 q1 q2 q3 q4 q5 qf));obtain ⟨o0,o1,o2,o3,o4,o5,o6,o7,o8,o9,o10⟩:=op_cells hF2.out.ro;clear hb))
    | (go_at_call 97;go_loud (refine (takesOut_any _ o s ho'.out.kind).mono ?_;rintro e w3 ⟨rfl,hb⟩;rw [htk.out];have hF3:=Lib.hid (hF2.out.below hb);(try (clear o0 o1 o2 o3 o4 o5 o6 o7 o8 o9 o10));(try (clear n0 n1 n2 n3 n4 n5 nf));(try (clear p0 p1 p2 p3 p4 p5 pf));(try (clear q0 q1 q2 q3 q4 q5 qf));obtain ⟨o0,o1,o2,o3,o4,o5,o6,o7,o8,o9,o10⟩:=op_cells hF3.out.ro;obtain ⟨n0,n1,n2,n3,n4,n5,nf⟩:=six_cells hF3.out.rn;clear hb))
    | (go_at_call 36;go_at_call_of 36 s.pA;go_loud (refine (at_any _ t aA kA an ac kn kc (hn.out _ hF3.out.bel) s.pA s.pn s.pc o.path (hop.out _ hF3.out.bel).path hpm'.out hbig'.out).mono ?_;rintro e w4 ⟨xA,xn,xc,xK,xm,xd,rfl,hnx,hb⟩;rw [hx'.out] at hnx ⊢;have hxk:=hnx.facts.kl;unfold val6;have hF4:=Lib.hid (hF3.out.below hb);(try (clear o0 o1 o2 o3 o4 o5 o6 o7 o8 o9 o10));(try (clear n0 n1 n2 n3 n4 n5 nf));(try (clear p0 p1 p2 p3 p4 p5 pf));(try (clear q0 q1 q2 q3 q4 q5 qf));obtain ⟨o0,o1,o2,o3,o4,o5,o6,o7,o8,o9,o10⟩:=op_cells hF4.out.ro;obtain ⟨p0,p1,p2,p3,p4,p5,pf⟩:=six_cells hF4.out.r5;obtain ⟨q0,q1,q2,q3,q4,q5,qf⟩:=six_cells hF4.out.r6;clear hb))
    | (go_at_call 98;go_loud (have hG:=((hF4.out.set5 (.int .u64 (x.id:Int)) (.bool x.leaf) (.string ⟨x.label.toArray⟩) (.slice xA xn xc) (.string ⟨x.text.toArray⟩) (.slice xK xm xd)).set6 (.int .u64 (x.id:Int)) (.bool x.leaf) (.string ⟨x.label.toArray⟩) (.slice xA xn xc) (.string ⟨x.text.toArray⟩) (.slice xK xm xd));refine (P4.within_any _ s.pA s.tA s.pn s.pc s.tn s.tc o.path o.to_ (hop.out _ hG.bel).path (hop.out _ hG.bel).to_ hpm'.out htm'.out).mono ?_;rw [hw'.out];rintro e w5 ⟨rfl,k5,hk5⟩;have hF5:=Lib.hid (hG.drew hk5);(try (clear o0 o1 o2 o3 o4 o5 o6 o7 o8 o9 o10));(try (clear n0 n1 n2 n3 n4 n5 nf));(try (clear p0 p1 p2 p3 p4 p5 pf));(try (clear q0 q1 q2 q3 q4 q5 qf));obtain ⟨o0,o1,o2,o3,o4,o5,o6,o7,o8,o9,o10⟩:=op_cells hF5.out.ro;obtain ⟨n0,n1,n2,n3,n4,n5,nf⟩:=six_cells hF5.out.rn;clear hk5))
    | (go_at_call 36;go_at_call_of 36 s.tA;go_loud (refine (at_any _ t aA kA an ac kn kc (hn.out _ hF5.out.bel) s.tA s.tn s.tc o.to_ (hop.out _ hF5.out.bel).to_ htm'.out hbig'.out).mono ?_;rintro e w6 ⟨yA,yn,yc,yK,ym,yd,rfl,hny,hb⟩;rw [hy'.out] at hny ⊢;have hyk:=hny.facts.kl;unfold val6;have hF6:=Lib.hid (hF5.out.below hb);(try (clear o0 o1 o2 o3 o4 o5 o6 o7 o8 o9 o10));(try (clear n0 n1 n2 n3 n4 n5 nf));(try (clear p0 p1 p2 p3 p4 p5 pf));(try (clear q0 q1 q2 q3 q4 q5 qf));obtain ⟨o0,o1,o2,o3,o4,o5,o6,o7,o8,o9,o10⟩:=op_cells hF6.out.ro;obtain ⟨q0,q1,q2,q3,q4,q5,qf⟩:=six_cells hF6.out.r6;clear hb))
    | (go_at_call 99;go_loud (have hG:=(hF6.out.set6 (.int .u64 (y.id:Int)) (.bool y.leaf) (.string ⟨y.label.toArray⟩) (.slice yA yn yc) (.string ⟨y.text.toArray⟩) (.slice yK ym yd));refine (putsIn_any _ o s ho'.out.kind).mono ?_;rintro e w7 ⟨rfl,hb⟩;rw [hpi.out];have hF7:=Lib.hid (hG.below hb);(try (clear o0 o1 o2 o3 o4 o5 o6 o7 o8 o9 o10));(try (clear n0 n1 n2 n3 n4 n5 nf));(try (clear p0 p1 p2 p3 p4 p5 pf));(try (clear q0 q1 q2 q3 q4 q5 qf));obtain ⟨o0,o1,o2,o3,o4,o5,o6,o7,o8,o9,o10⟩:=op_cells hF7.out.ro;obtain ⟨p0,p1,p2,p3,p4,p5,pf⟩:=six_cells hF7.out.r5;obtain ⟨q0,q1,q2,q3,q4,q5,qf⟩:=six_cells hF7.out.r6;clear hb))
    | (go_at_call 100;go_loud (refine (gapFault_any _ y yA yK yn yc ym yd hyk o.at_).mono ?_;rintro e w8 ⟨rfl,hb⟩;have hFz:=Lib.hid (hF7.out.below hb);(try (clear o0 o1 o2 o3 o4 o5 o6 o7 o8 o9 o10));(try (clear n0 n1 n2 n3 n4 n5 nf));(try (clear p0 p1 p2 p3 p4 p5 pf));(try (clear q0 q1 q2 q3 q4 q5 qf));clear hb)))
  go_step3
  go_wp2_with fail
  try simp only [Exit.jump]
  go_ret
  exact ⟨rfl,by first | exact hFz.out.bel | exact below_six hFz.out.bel (by omega)⟩
theorem at_text {t x:Nd} {p:List Int} (h:atV t p = some x) (hb:weighV t≤1000000):x.text.length≤10000000:=by
  have h1:=(at_count p t x h).2
  have h2:=weighV_eq x
  omega
theorem fault_any (w:World) (t:Nd) (aA kA:Option Addr) (an ac kn kc:Nat) (o:Ov) (s:OS) (h:NodeV (Old w) w aA an ac kA kn kc t) (ho:OpIn w o s) (hbig:weighV t≤1000000) :
    Calls Try.prog 60 #[.agg (val6 t aA an ac kA kn kc),.agg (opCells o s)] w fun e w'=>e = .returned (.int .i64 (faultV t o))∧Below w.heap.size w w':=by
  cases hf:formedV o with
  | false =>
    have:=fault_c0 w t aA kA an ac kn kc o s h ho hbig hf
    rw [show faultV t o = 80 by unfold faultV;rw [if_pos hf]]
    exact this
  | true =>
    have e0:¬ formedV o = false:=by rw [hf];decide
    by_cases hk:o.kind = 2∨o.kind = 3
    · by_cases hp:o.path = []
      · rw [show faultV t o = 82 by unfold faultV;rw [if_neg e0,if_pos ⟨hk,hp⟩]]
        exact fault_c1 w t aA kA an ac kn kc o s h ho hbig hf hk hp
      · have e1:¬ ((o.kind = 2∨o.kind = 3)∧o.path = []):=fun h=>hp h.2
        cases hx:atV t o.path with
        | none =>
          rw [show faultV t o = 81 by unfold faultV;rw [if_neg e0,if_neg e1,hx]]
          exact fault_c2a w t aA kA an ac kn kc o s h ho hbig hf hk hp hx
        | some x =>
          by_cases k3:o.kind = 3
          · have e3:¬ o.kind = 1:=by omega
            cases hw:P4.withinV o.path o.to_ with
            | true =>
              rw [show faultV t o = 84 by unfold faultV;rw [if_neg e0,if_neg e1,hx];dsimp only;rw [if_neg e3,if_pos k3,hw];rfl]
              exact fault_k3a w t aA kA an ac kn kc o s h ho hbig hf k3 hp x hx hw
            | false =>
              cases hy:atV t o.to_ with
              | none =>
                rw [show faultV t o = 81 by unfold faultV;rw [if_neg e0,if_neg e1,hx];dsimp only;rw [if_neg e3,if_pos k3,hw,hy];rfl]
                exact fault_k3b w t aA kA an ac kn kc o s h ho hbig hf k3 hp x hx hw hy
              | some y =>
                rw [show faultV t o = gapE y o.at_ by unfold faultV;rw [if_neg e0,if_neg e1,hx];dsimp only;rw [if_neg e3,if_pos k3,hw,hy];rfl]
                exact fault_k3c w t aA kA an ac kn kc o s h ho hbig hf k3 hp x hx hw y hy
          · rw [show faultV t o = 0 by unfold faultV;rw [if_neg e0,if_neg e1,hx];dsimp only;rw [if_neg (by omega),if_neg k3,if_neg (by omega)]]
            exact fault_kxa w t aA kA an ac kn kc o s h ho hbig hf hk hp (by omega) k3 (by omega) x hx
    · have e1:¬ ((o.kind = 2∨o.kind = 3)∧o.path = []):=fun h=>hk h.1
      cases hx:atV t o.path with
      | none =>
        rw [show faultV t o = 81 by unfold faultV;rw [if_neg e0,if_neg e1,hx]]
        exact fault_c2b w t aA kA an ac kn kc o s h ho hbig hf hk hx
      | some x =>
        by_cases k1:o.kind = 1
        · rw [show faultV t o = gapE x o.at_ by unfold faultV;rw [if_neg e0,if_neg e1,hx];dsimp only;rw [if_pos k1]]
          exact fault_k1 w t aA kA an ac kn kc o s h ho hbig hf k1 x hx
        · by_cases k6:o.kind = 6
          · rw [show faultV t o = editE x o.pieces by unfold faultV;rw [if_neg e0,if_neg e1,hx];dsimp only;rw [if_neg k1,if_neg (by omega),if_pos k6]]
            have hr:P5.rightV o.pieces = true:=by
              unfold formedV at hf
              rw [if_neg k1,if_neg (by omega),if_neg (by omega),if_neg (by omega),if_neg (by omega),if_pos k6,Bool.and_eq_true] at hf
              exact hf.2
            exact fault_k6 w t aA kA an ac kn kc o s h ho hbig hf k6 x hx hr (at_text hx hbig)
          · rw [show faultV t o = 0 by unfold faultV;rw [if_neg e0,if_neg e1,hx];dsimp only;rw [if_neg k1,if_neg (by omega),if_neg k6]]
            exact fault_kxb w t aA kA an ac kn kc o s h ho hbig hf hk k1 (by omega) k6 x hx
end Go.Proofs.Ytmipodnffhngaaa.Top
namespace Go.Proofs.Ytmipodnffhngaaa.Top
open Go.RowKit
set_option maxRecDepth 20000
set_option linter.unusedVariables false

theorem parent_c (w:World) (pA:Option Addr) (pn pc:Nat) (q:List Int) (c:Int) (hp:Its w pA pn (q ++ [c])) (hpnil:pA = none→pc = 0) (hpn:pn≤500000) (hpnc:pn≤pc) (hpcm:pc≤maxLen) :
    Calls Try.prog 118 #[.slice pA pn pc] w fun e w'=>∃ qA qn qc,e = .returned (.tuple #[.slice qA qn qc,.int .i64 c,.bool true])∧Its w' qA qn q∧qn≤qc∧qc≤maxLen∧(qA = none→qc = 0)∧Below w.heap.size w w':=by
  refine (P4.parent_any w pA pn pc (q ++ [c]) hp hpnil hpn hpnc hpcm).mono ?_
  rintro e w' hpr
  rcases hpr with ⟨h0,-⟩ | ⟨v,ys,z,hyz,rfl,hown,hb0⟩
  · exact absurd h0 (by simp)
  · have h1:=congrArg List.reverse hyz
    simp only [List.reverse_append,List.reverse_cons,List.reverse_nil,List.nil_append,List.singleton_append,List.cons.injEq] at h1
    obtain ⟨rfl,h2⟩:=h1
    have h3:q = ys:=List.reverse_inj.1 h2
    subst h3
    obtain ⟨A,n,k,rfl,hn,hnk,hkm,hits,hnil⟩:=hown.shape
    exact ⟨A,n,k,rfl,hits,hnk,hkm,hnil,hb0⟩
def m1:Nat:=13830554455654793216
def shOk:Bool:=(List.range 64).all fun k=>P4.fineS m1 (P4.fOf (k:Int)) && decide (P4.partsV m1 (P4.fOf (k:Int)) = some ((k:Int),-1))
theorem shOk_yes:shOk = true:=by kernel_rfl
theorem sh_at {k:Nat} (hk:k≤63):P4.fineS m1 (P4.fOf (k:Int)) = true∧P4.partsV m1 (P4.fOf (k:Int)) = some ((k:Int),-1):=by
  have h:=List.all_eq_true.1 shOk_yes k (List.mem_range.2 (by omega))
  rw [Bool.and_eq_true] at h
  exact ⟨h.1,of_decide_eq_true h.2⟩
theorem shift_less (w:World) (A:Option Addr) (n c:Nat) (q s:List Int) (e:Int) (hA:Its w A n (q ++ e :: s)) (hnil:A = none→c = 0) (hm:P4.mayV (q ++ e :: s) = true) (he:0 < e) (k:Nat) (hk:q.length = k) :
    Calls Try.prog 132 #[.slice A n c,.complex .f64 m1 (P4.fOf (k:Int))] w fun r w'=>∃ A' n' c',r = .returned (.tuple #[.slice A' n' c',.int .i64 0])∧Its w' A' n' (q ++ (e - 1) :: s)∧n'≤c'∧c'≤maxLen∧Below w.heap.size w w':=by
  subst hk
  have hmm:=of_decide_eq_true hm
  have hl:(q ++ e :: s).length = q.length + s.length + 1:=by simp;omega
  obtain ⟨f1,f2⟩:=sh_at (k:=q.length) (by omega)
  have hs:P4.shiftV (q ++ e :: s) m1 (P4.fOf (q.length:Int)) = (0,q ++ (e - 1) :: s):=by
    unfold P4.shiftV
    rw [f2]
    have e1:(q ++ e :: s).getD ((q.length:Int).toNat) 0 = e:=by
      rw [List.getD_eq_getElem?_getD,Int.toNat_natCast,List.getElem?_append_right (Nat.le_refl _),Nat.sub_self]
      rfl
    have e2:P4.stands (e + -1) = true:=decide_eq_true ⟨by omega,by have:=(hmm.2 e (by simp)).2;omega⟩
    simp only [hm,Bool.true_and]
    rw [if_pos (decide_eq_true (by rw [Int.toNat_natCast];omega)),e1,if_pos e2,Int.toNat_natCast]
    congr 1
    rw [List.set_append_right _ _ (Nat.le_refl _),Nat.sub_self]
    rfl
  refine (P4.shift_any w A n c _ (its4 hA) hnil (by have:=hA.1;omega) m1 _ f1).mono ?_
  rw [hs]
  rintro r w' ⟨v,rfl,hown,hb⟩
  obtain ⟨A',n',c',rfl,hn,hnc,hcm,hits,-⟩:=hown.shape
  exact ⟨A',n',c',rfl,hits,hnc,hcm,hb⟩
end Go.Proofs.Ytmipodnffhngaaa.Top
namespace Go.Proofs.Ytmipodnffhngaaa.Sim
open Go.RowKit Top
set_option maxRecDepth 20000
set_option linter.unusedVariables false

def staysV (o:Ov):Bool:=decide (o.path ≠ []∧o.path.dropLast = o.to_∧(o.at_ = o.path.getLastD 0∨o.at_ = o.path.getLastD 0 + 1))
def idleV (o:Ov):Bool:=formedV o && (if o.kind = 3 then staysV o else if o.kind = 6 then (Ltx.norm (pcs o.pieces)).isEmpty else false)
theorem stays_at {o:Ov} {q:List Int} {c:Int} (h:o.path = q ++ [c]):staysV o = (P4.eqV q o.to_ && ((o.at_ == c) || (o.at_ == c + 1))):=by
  unfold staysV P4.eqV
  rw [h]
  simp [Bool.decide_and,Bool.decide_or]
  rfl
theorem path_end {p:List Int} (h:p ≠ []) (hm:P4.mayV p = true):∃ q,∃ c:Nat,p = q ++ [(c:Int)]:=by
  obtain ⟨q,c,rfl⟩:∃ q c,p = q ++ [c]:=⟨p.dropLast,p.getLast h,(List.dropLast_concat_getLast h).symm⟩
  have:=(of_decide_eq_true hm).2 c (by simp)
  exact ⟨q,c.toNat,by rw [Int.toNat_of_nonneg this.1]⟩
theorem parent_nil (w:World) (pA:Option Addr) (pn pc:Nat) (hp:Its w pA pn []) (hpnil:pA = none→pc = 0) (hpn:pn≤500000) (hpnc:pn≤pc) (hpcm:pc≤maxLen) :
    Calls Try.prog 118 #[.slice pA pn pc] w fun e w'=>e = .returned (.tuple #[.slice none 0 0,.int .i64 0,.bool false])∧Below w.heap.size w w':=by
  refine (P4.parent_any w pA pn pc [] hp hpnil hpn hpnc hpcm).mono ?_
  rintro e w' hpr
  rcases hpr with ⟨h0,h1,h2⟩ | ⟨v,ys,z,hyz,-⟩
  · exact ⟨h1,by rw [h2];exact Below.refl _ _⟩
  · simp at hyz
set_option maxHeartbeats 4000000 in
theorem stays_any (w:World) (o:Ov) (s:OS) (ho:OpIn w o s) (hm:P4.mayV o.path = true):Calls Try.prog 85 #[.agg (opCells o s)] w fun e w'=>e = .returned (.bool (staysV o))∧Below w.heap.size w w':=by
  obtain ⟨W2,hW2⟩:∃ W2,W2 = w.alloc (.cells (opCells o s) 26):=⟨_,rfl⟩
  have z1:W2.heap[w.heap.size]? = some (.cells (opCells o s) 26 (0,0)):=by rw [hW2];exact heap_alloc_new w _
  have z4':=Lib.hid (show Below w.heap.size w W2 by rw [hW2];exact (Below.refl _ _).alloc (Nat.le_refl _) _)
  have z5':=Lib.hid (show W2.heap.size = w.heap.size + 1 by rw [hW2];simp)
  have ho':=Lib.hid ho
  have z1':=Lib.hid z1
  obtain ⟨o0,o1,o2,o3,o4,o5,o6,o7,o8,o9,o10⟩:=op_cells z1
  rw [hW2] at o0 o1 o2 o3 o4 o5 o6 o7 o8 o9 o10
  unfold opCells at hW2
  unfold opCells
  by_cases hp:o.path = []
  · have hv:staysV o = false:=by unfold staysV;rw [hp];simp
    rw [hv]
    have hpc:=Lib.hid (fun (W:World) (hb:Below w.heap.size w W)=>parent_nil W s.pA s.pn s.pc (hp ▸ (ho.below hb).path) ho.pnil ho.pfew ho.pnc ho.pcm)
    clear ho z1 hv hp hm
    go_enter Try.func85,Try.ntmps85
    go_wp2_with (go_at_call 118;go_loud (rw [← hW2];refine (hpc.out W2 z4'.out).mono ?_;rintro e w1 ⟨rfl,hb1⟩;have B1:=Lib.hid hb1;clear hb1 o0 o1 o2 o3 o4 o5 o6 o7 o8 o9 o10))
    go_ret
    exact ⟨rfl,z4'.out.trans (B1.out.mono z4'.out.size)⟩
  · obtain ⟨q,c,hq⟩:=path_end hp hm
    have hv:=Lib.hid (stays_at hq)
    have hcb:(c:Int) < 1048576:=by
      have h5:=(of_decide_eq_true hm).2 c (by rw [hq];simp)
      omega
    have hpc:=Lib.hid (fun (W:World) (hb:Below w.heap.size w W)=>parent_c W s.pA s.pn s.pc q c (hq ▸ (ho.below hb).path) ho.pnil ho.pfew ho.pnc ho.pcm)
    obtain ⟨t1,ht1⟩:∃ t1,(o.at_ == (c:Int)) = t1:=⟨_,rfl⟩
    obtain ⟨t2,ht2⟩:∃ t2,(o.at_ == (c:Int) + 1) = t2:=⟨_,rfl⟩
    rw [ht1,ht2] at hv
    clear ho z1 hp hm hq
    go_enter Try.func85,Try.ntmps85
    go_upto_region 2 with (go_at_call 118;go_loud (rw [← hW2];refine (hpc.out W2 z4'.out).mono ?_;rintro e w1 ⟨qA,qn,qc,rfl,hi1,hc1,hm1,hn1,hb1⟩;have B1:=Lib.hid hb1;have I1:=Lib.hid hi1;have y1:=(hb1.block w.heap.size (by have:=z5'.out;omega)).trans z1'.out;clear hb1 hi1 o0 o1 o2 o3 o4 o5 o6 o7 o8 o9 o10;obtain ⟨o0,o1,o2,o3,o4,o5,o6,o7,o8,o9,o10⟩:=op_cells y1;clear y1))
    go_wp2_with fail
    refine (P4.same_any w1 qA s.tA qn qc s.tn s.tc q o.to_ (its4 I1.out) (its4 (ho'.out.below (z4'.out.trans (B1.out.mono z4'.out.size))).to_) (Nat.le_trans hc1 hm1)).mono ?_
    rintro e w6 ⟨rfl,k6,rfl⟩
    have hwr:IntKind.i64.wrap ((c:Int) + 1) = (c:Int) + 1:=IntWalk.i64_in _ (by omega)
    cases hev:P4.eqV q o.to_ with
    | false =>
      go_wp2_with fail
      go_ret
      exact ⟨by rw [hv.out,hev];rfl,draws (z4'.out.trans (B1.out.mono z4'.out.size)) _⟩
    | true =>
      cases t1 with
      | true =>
        go_wp2_with fail
        go_ret
        exact ⟨by rw [hv.out,hev];rfl,draws (z4'.out.trans (B1.out.mono z4'.out.size)) _⟩
      | false =>
        cases t2 with
        | true =>
          go_wp2_with fail
          go_ret
          exact ⟨by rw [hv.out,hev];rfl,draws (z4'.out.trans (B1.out.mono z4'.out.size)) _⟩
        | false =>
          go_wp2_with fail
          go_ret
          exact ⟨by rw [hv.out,hev];rfl,draws (z4'.out.trans (B1.out.mono z4'.out.size)) _⟩
end Go.Proofs.Ytmipodnffhngaaa.Sim
namespace Go.Proofs.Ytmipodnffhngaaa.Sim
open Go.RowKit Top
set_option maxRecDepth 20000
set_option linter.unusedVariables false

def Mild (o:Ov):Prop:=P5.totP (pcs o.pieces)≤100000
theorem formed_right {o:Ov} (h:formedV o = true) (h6:o.kind = 6):P5.rightV o.pieces = true:=by
  unfold formedV at h
  rw [if_neg (by omega),if_neg (by omega),if_neg (by omega),if_neg (by omega),if_neg (by omega),if_pos h6,Bool.and_eq_true] at h
  exact h.2
theorem formed_may {o:Ov} (h:formedV o = true):P4.mayV o.path = true:=by
  unfold formedV at h
  rw [Bool.and_eq_true] at h
  exact h.1
set_option maxHeartbeats 4000000 in
theorem idle_any (w:World) (o:Ov) (s:OS) (ho:OpIn w o s) (hsz:Mild o):Calls Try.prog 42 #[.agg (opCells o s)] w fun e w'=>e = .returned (.bool (idleV o))∧Below w.heap.size w w':=by
  obtain ⟨W2,hW2⟩:∃ W2,W2 = w.alloc (.cells (opCells o s) 26):=⟨_,rfl⟩
  have z1:W2.heap[w.heap.size]? = some (.cells (opCells o s) 26 (0,0)):=by rw [hW2];exact heap_alloc_new w _
  have z4':=Lib.hid (show Below w.heap.size w W2 by rw [hW2];exact (Below.refl _ _).alloc (Nat.le_refl _) _)
  have z5':=Lib.hid (show W2.heap.size = w.heap.size + 1 by rw [hW2];simp)
  have ho':=Lib.hid ho
  have z1':=Lib.hid z1
  have hfo:=Lib.hid (formed_any W2 o s (ho.below z4'.out))
  obtain ⟨o0,o1,o2,o3,o4,o5,o6,o7,o8,o9,o10⟩:=op_cells z1
  rw [hW2] at o0 o1 o2 o3 o4 o5 o6 o7 o8 o9 o10
  cases hf:formedV o with
  | false =>
    have hv:idleV o = false:=by unfold idleV;rw [hf];rfl
    rw [hv]
    rw [hf] at hfo
    unfold opCells at hW2 hfo
    unfold opCells
    clear ho z1 hv hf
    go_enter Try.func42,Try.ntmps42
    go_wp2_with (go_at_call 14;go_loud (rw [← hW2];refine hfo.out.mono ?_;rintro e w1 ⟨rfl,hb1⟩;have B1:=Lib.hid hb1;clear hb1 o0 o1 o2 o3 o4 o5 o6 o7 o8 o9 o10))
    go_ret
    exact ⟨rfl,z4'.out.trans (B1.out.mono z4'.out.size)⟩
  | true =>
    rw [hf] at hfo
    have hf':=Lib.hid hf
    by_cases k3:o.kind = 3
    · have hkI:=Lib.hid (show (o.kind:Int) = 3 by omega)
      have hv:idleV o = staysV o:=by unfold idleV;rw [hf,if_pos k3];rfl
      rw [hv]
      have hst:=Lib.hid (fun (W:World) (hb:Below w.heap.size w W)=>stays_any W o s (ho.below hb) (formed_may hf))
      unfold opCells at hW2 hfo hst
      unfold opCells
      rw [hkI.out] at hW2 hfo hst o0 ⊢
      clear ho z1 hv hf
      go_enter Try.func42,Try.ntmps42
      go_wp2_with (first
        | (go_at_call 14;go_loud (rw [← hW2];refine hfo.out.mono ?_;rintro e w1 ⟨rfl,hb1⟩;have B1:=Lib.hid hb1;have y1:=(hb1.block w.heap.size (by have:=z5'.out;omega)).trans z1'.out;clear hb1 o0 o1 o2 o3 o4 o5 o6 o7 o8 o9 o10;obtain ⟨o0,o1,o2,o3,o4,o5,o6,o7,o8,o9,o10⟩:=op_cells y1;rw [hkI.out] at o0;clear y1))
        | (go_at_call 85;go_loud (refine (hst.out w1 (z4'.out.trans (B1.out.mono z4'.out.size))).mono ?_;rintro e w2 ⟨rfl,hb2⟩;have B2:=Lib.hid (B1.out.trans (hb2.mono B1.out.size));clear hb2 o0 o1 o2 o3 o4 o5 o6 o7 o8 o9 o10)))
      go_ret
      exact ⟨rfl,z4'.out.trans (B2.out.mono z4'.out.size)⟩
    · by_cases k6:o.kind = 6
      · have hkI:=Lib.hid (show (o.kind:Int) = 6 by omega)
        have hr:=formed_right hf k6
        have hpr:=pcs_right hr
        have hv:idleV o = (Ltx.norm (pcs o.pieces)).isEmpty:=by unfold idleV;rw [hf,if_neg k3,if_pos k6];rfl
        rw [hv]
        have hnr:=Lib.hid (fun (W:World) (hb:Below w.heap.size w W)=>P5.norm_right W s.qA s.qn s.qc (pcs o.pieces) (by rw [hpr];exact (ho.below hb).pieces) (Nat.le_trans ho.qnc ho.qcm) hsz (by rw [hpr];exact hr))
        obtain ⟨L,hL⟩:∃ L,L = Ltx.norm (pcs o.pieces):=⟨_,rfl⟩
        have hlow:=Lib.hid (show P5.Low L by rw [hL];exact P5.low_of (Nat.le_trans (P5.totP_norm _) (Nat.le_trans hsz (by omega))))
        rw [← hL] at hnr ⊢
        unfold opCells at hW2 hfo
        unfold opCells
        rw [hkI.out] at hW2 hfo o0 ⊢
        clear ho z1 hv hf hr hpr hL hsz
        go_enter Try.func42,Try.ntmps42
        go_wp2_with (first
          | (go_at_call 14;go_loud (rw [← hW2];refine hfo.out.mono ?_;rintro e w1 ⟨rfl,hb1⟩;have B1:=Lib.hid hb1;have y1:=(hb1.block w.heap.size (by have:=z5'.out;omega)).trans z1'.out;clear hb1 o0 o1 o2 o3 o4 o5 o6 o7 o8 o9 o10;obtain ⟨o0,o1,o2,o3,o4,o5,o6,o7,o8,o9,o10⟩:=op_cells y1;rw [hkI.out] at o0;clear y1))
          | (go_at_call 86;go_loud (refine (hnr.out w1 (z4'.out.trans (B1.out.mono z4'.out.size))).mono ?_;rintro e w2 ⟨v2,rfl,hv2,hb2⟩;have B2:=Lib.hid (B1.out.trans (hb2.mono B1.out.size));obtain ⟨A2,n2,c2,rfl,hn2,-⟩:=hv2.shape hlow.out;have hn2':=Lib.hid hn2;clear hv2 hb2 hn2 o0 o1 o2 o3 o4 o5 o6 o7 o8 o9 o10)))
        go_ret
        refine ⟨?_,z4'.out.trans (B2.out.mono z4'.out.size)⟩
        have h7:=hn2'.out
        cases L with
        | nil=>simp at h7;subst h7;rfl
        | cons x r=>simp at h7;subst h7;simp [List.isEmpty];omega
      · have hv:idleV o = false:=by unfold idleV;rw [hf,if_neg k3,if_neg k6];rfl
        rw [hv]
        have e3:((o.kind:Int) == 3) = false:=by simp;omega
        have e6:((o.kind:Int) == 6) = false:=by simp;omega
        unfold opCells at hW2 hfo
        unfold opCells
        clear ho z1 hv hf k3 k6
        go_enter Try.func42,Try.ntmps42
        go_wp2_with (go_at_call 14;go_loud (rw [← hW2];refine hfo.out.mono ?_;rintro e w1 ⟨rfl,hb1⟩;have B1:=Lib.hid hb1;have y1:=(hb1.block w.heap.size (by have:=z5'.out;omega)).trans z1'.out;clear hb1 o0 o1 o2 o3 o4 o5 o6 o7 o8 o9 o10;obtain ⟨o0,o1,o2,o3,o4,o5,o6,o7,o8,o9,o10⟩:=op_cells y1;clear y1))
        go_ret
        exact ⟨rfl,z4'.out.trans (B1.out.mono z4'.out.size)⟩
end Go.Proofs.Ytmipodnffhngaaa.Sim
namespace Go.Proofs.Ytmipodnffhngaaa.Sim
open Go.RowKit Top
set_option maxRecDepth 20000
set_option linter.unusedVariables false

set_option maxHeartbeats 4000000 in
theorem ridle_any (w:World) (o:Ov) (s:OS) (ho:OpIn w o s) (hsz:Mild o):Calls Try.prog 43 #[.agg (opCells o s)] w fun e w'=>e = .returned (.bool (idleV o))∧Below w.heap.size w w':=by
  obtain ⟨W2,hW2⟩:∃ W2,W2 = w.alloc (.cells (opCells o s) 26):=⟨_,rfl⟩
  have z1:W2.heap[w.heap.size]? = some (.cells (opCells o s) 26 (0,0)):=by rw [hW2];exact heap_alloc_new w _
  have z4':=Lib.hid (show Below w.heap.size w W2 by rw [hW2];exact (Below.refl _ _).alloc (Nat.le_refl _) _)
  have z5':=Lib.hid (show W2.heap.size = w.heap.size + 1 by rw [hW2];simp)
  have ho':=Lib.hid ho
  have z1':=Lib.hid z1
  have hfo:=Lib.hid (rformed_any W2 o s (ho.below z4'.out))
  obtain ⟨o0,o1,o2,o3,o4,o5,o6,o7,o8,o9,o10⟩:=op_cells z1
  rw [hW2] at o0 o1 o2 o3 o4 o5 o6 o7 o8 o9 o10
  cases hf:formedV o with
  | false =>
    have hv:idleV o = false:=by unfold idleV;rw [hf];rfl
    rw [hv]
    rw [hf] at hfo
    unfold opCells at hW2 hfo
    unfold opCells
    clear ho z1 hv hf
    go_enter Try.func43,Try.ntmps43
    go_wp2_with (go_at_call 15;go_loud (rw [← hW2];refine hfo.out.mono ?_;rintro e w1 ⟨rfl,hb1⟩;have B1:=Lib.hid hb1;have Y1:=Lib.hid ((hb1.block w.heap.size (by have:=z5'.out;omega)).trans z1'.out);have y1:=Y1.out;clear hb1 o0 o1 o2 o3 o4 o5 o6 o7 o8 o9 o10;obtain ⟨o0,o1,o2,o3,o4,o5,o6,o7,o8,o9,o10⟩:=op_cells y1;clear y1))
    go_ret
    exact ⟨rfl,z4'.out.trans (B1.out.mono z4'.out.size)⟩
  | true =>
    rw [hf] at hfo
    have hf':=Lib.hid hf
    by_cases k6:o.kind = 6
    · have hkI:=Lib.hid (show (o.kind:Int) = 6 by omega)
      have hr:=formed_right hf k6
      have hpr:=pcs_right hr
      have hv:idleV o = (Ltx.norm (pcs o.pieces)).isEmpty:=by unfold idleV;rw [hf,if_neg (by omega),if_pos k6];rfl
      rw [hv]
      have hnr:=Lib.hid (fun (W:World) (hb:Below w.heap.size w W)=>P5.rnorm_right W s.qA s.qn s.qc (pcs o.pieces) (by rw [hpr];exact (ho.below hb).pieces) (Nat.le_trans ho.qnc ho.qcm) hsz (by rw [hpr];exact hr))
      obtain ⟨L,hL⟩:∃ L,L = Ltx.norm (pcs o.pieces):=⟨_,rfl⟩
      have hlow:=Lib.hid (show P5.Low L by rw [hL];exact P5.low_of (Nat.le_trans (P5.totP_norm _) (Nat.le_trans hsz (by omega))))
      rw [← hL] at hnr ⊢
      unfold opCells at hW2 hfo
      unfold opCells
      rw [hkI.out] at hW2 hfo o0 ⊢
      clear ho z1 hv hf hr hpr hL hsz
      go_enter Try.func43,Try.ntmps43
      go_wp2_with (first
        | (go_at_call 15;go_loud (rw [← hW2];refine hfo.out.mono ?_;rintro e w1 ⟨rfl,hb1⟩;have B1:=Lib.hid hb1;have Y1:=Lib.hid ((hb1.block w.heap.size (by have:=z5'.out;omega)).trans z1'.out);have y1:=Y1.out;clear hb1 o0 o1 o2 o3 o4 o5 o6 o7 o8 o9 o10;obtain ⟨o0,o1,o2,o3,o4,o5,o6,o7,o8,o9,o10⟩:=op_cells y1;rw [hkI.out] at o0;clear y1))
        | (go_at_call 87;go_loud (refine (hnr.out w1 (z4'.out.trans (B1.out.mono z4'.out.size))).mono ?_;rintro e w2 ⟨v2,rfl,hv2,hb2⟩;have B2:=Lib.hid (B1.out.trans (hb2.mono B1.out.size));obtain ⟨A2,n2,c2,rfl,hn2,-⟩:=hv2.shape hlow.out;have hn2':=Lib.hid hn2;clear hv2 hb2 hn2 o0 o1 o2 o3 o4 o5 o6 o7 o8 o9 o10)))
      go_ret
      refine ⟨?_,z4'.out.trans (B2.out.mono z4'.out.size)⟩
      have h7:=hn2'.out
      cases L with
      | nil=>simp at h7;subst h7;rfl
      | cons x r=>simp at h7;subst h7;simp [List.isEmpty];omega
    · have e6:((o.kind:Int) == 6) = false:=by simp;omega
      by_cases k3:o.kind = 3
      · have hkI:=Lib.hid (show (o.kind:Int) = 3 by omega)
        have hv:idleV o = staysV o:=by unfold idleV;rw [hf,if_pos k3];rfl
        rw [hv]
        by_cases hp:o.path = []
        · have hs0:staysV o = false:=by unfold staysV;rw [hp];simp
          have hpn:s.pn = 0:=by rw [← ho.path.1,hp];rfl
          rw [hs0]
          unfold opCells at hW2 hfo
          unfold opCells
          rw [hkI.out] at hW2 hfo o0 ⊢
          rw [hpn] at hW2 hfo o1 ⊢
          have hpn':=Lib.hid hpn
          clear ho z1 hv hf hp hs0 hpn k3 k6 e6
          go_enter Try.func43,Try.ntmps43
          go_wp2_with (go_at_call 15;go_loud (rw [← hW2];refine hfo.out.mono ?_;rintro e w1 ⟨rfl,hb1⟩;have B1:=Lib.hid hb1;have Y1:=Lib.hid ((hb1.block w.heap.size (by have:=z5'.out;omega)).trans z1'.out);have y1:=Y1.out;clear hb1 o0 o1 o2 o3 o4 o5 o6 o7 o8 o9 o10;obtain ⟨o0,o1,o2,o3,o4,o5,o6,o7,o8,o9,o10⟩:=op_cells y1;rw [hkI.out] at o0;rw [hpn'.out] at o1;clear y1))
          go_ret
          exact ⟨rfl,z4'.out.trans (B1.out.mono z4'.out.size)⟩
        · obtain ⟨q,c,hq⟩:=path_end hp (formed_may hf)
          have hsv:=Lib.hid (stays_at hq)
          have hcb:(c:Int) < 1048576:=by
            have h5:=(of_decide_eq_true (formed_may hf)).2 c (by rw [hq];simp)
            omega
          have hlen:q.length + 1 = s.pn:=by rw [← ho.path.1,hq];simp
          obtain ⟨ad,c',hA,hc',hcell⟩:=ho.path.at_ (k:=q.length) (by omega)
          have hcc:c' = (c:Int):=by rw [hq,List.getElem?_append_right (Nat.le_refl _),Nat.sub_self] at hc';injection hc' with hc';exact hc'.symm
          subst hcc
          obtain ⟨m,hm⟩:∃ m,m = q.length:=⟨_,rfl⟩
          rw [← hm] at hlen hcell
          have hIq:=Lib.hid (fun (W:World) (hb:Below w.heap.size w W)=>show Its W (some ad) m q by
            have h5:=P4.Its.upto (its4 (Its.below ho.path hb)) (q:=m) (by omega)
            rw [hq,hA,List.take_left' hm.symm] at h5
            exact h5)
          have hcl:=Lib.hid (fun (W:World) (hb:Below w.heap.size w W)=>show W.cell? (ad.add m) = some (.int .i64 (c:Int)) from (hb.cell (p:=ad.add m) (World.block_lt_of_cell? _ _ hcell)).trans hcell)
          have hpnc:=ho.pnc
          have hpcm:=ho.pcm
          have hto:=Lib.hid ho.to_
          have htl:=Lib.hid (Nat.le_trans ho.tnc ho.tcm)
          obtain ⟨pn,hpn⟩:∃ pn,pn = s.pn:=⟨_,rfl⟩
          obtain ⟨pc,hpc⟩:∃ pc,pc = s.pc:=⟨_,rfl⟩
          rw [← hpn] at hlen hpnc
          rw [← hpc] at hpnc hpcm
          have hI:(pn:Int) - 1 = (m:Int):=by omega
          have hI0:(0:Int)≤(m:Int):=by omega
          have hI1:(m:Int)≤(pc:Int):=by omega
          have hI2:(m:Int) < (pn:Int):=by omega
          have hI3:m < pn:=by omega
          have hI4:m≤pc:=by omega
          have hI5:((pn:Int) == 0) = false:=by simp;omega
          have hml:m≤maxLen:=by omega
          unfold maxLen at hpcm
          have hwr:IntKind.i64.wrap (m:Int) = (m:Int):=IntWalk.i64_in _ (by omega)
          have hwr1:IntKind.i64.wrap ((c:Int) + 1) = (c:Int) + 1:=IntWalk.i64_in _ (by omega)
          unfold opCells at hW2 hfo
          unfold opCells
          rw [hkI.out] at hW2 hfo o0 ⊢
          rw [hA,← hpn,← hpc] at hW2 hfo o1 ⊢
          have hkp:=Lib.hid (show s.pA = some ad∧s.pn = pn∧s.pc = pc from ⟨hA,hpn.symm,hpc.symm⟩)
          obtain ⟨t1,ht1⟩:∃ t1,(o.at_ == (c:Int)) = t1:=⟨_,rfl⟩
          obtain ⟨t2,ht2⟩:∃ t2,(o.at_ == (c:Int) + 1) = t2:=⟨_,rfl⟩
          rw [ht1,ht2] at hsv
          clear ho z1 hv hf hp hq hc' hcell hA hpn hpc hm hlen k3 k6 e6
          go_enter Try.func43,Try.ntmps43
          go_upto_region 8 with (go_at_call 15;go_loud (rw [← hW2];refine hfo.out.mono ?_;rintro e w1 ⟨rfl,hb1⟩;have B1:=Lib.hid hb1;have Y1:=Lib.hid ((hb1.block w.heap.size (by have:=z5'.out;omega)).trans z1'.out);have y1:=Y1.out;clear hb1 o0 o1 o2 o3 o4 o5 o6 o7 o8 o9 o10;obtain ⟨o0,o1,o2,o3,o4,o5,o6,o7,o8,o9,o10⟩:=op_cells y1;rw [hkI.out] at o0;rw [hkp.out.1,hkp.out.2.1,hkp.out.2.2] at o1;clear y1))
          have hsm:=Lib.hid (fun (k:Nat)=>P4.refSame_any (w1.drewN k) (some ad) s.tA m pc s.tn s.tc q o.to_ (its4 ((hIq.out w1 (z4'.out.trans (B1.out.mono z4'.out.size))).below (draws (Below.refl _ _) _))) (its4 ((hto.out.below (z4'.out.trans (B1.out.mono z4'.out.size))).below (draws (Below.refl _ _) _))) hml htl.out)
          have hcw:=hcl.out w1 (z4'.out.trans (B1.out.mono z4'.out.size))
          have hsv':=Lib.hid hsv.out
          cases hev:P4.eqV q o.to_ with
          | false =>
            rw [hev] at hsm
            go_quiet ((go_at_call 30;exact Calls.quiet_of (hsm.out _)))
            go_wp2_with fail
            go_ret
            exact ⟨by rw [hsv'.out,hev];rfl,draws (z4'.out.trans (B1.out.mono z4'.out.size)) _⟩
          | true =>
            rw [hev] at hsm
            cases t1 with
            | true =>
              go_quiet ((go_at_call 30;exact Calls.quiet_of (hsm.out _)))
              go_wp2_with fail
              go_ret
              exact ⟨by rw [hsv'.out,hev];rfl,draws (z4'.out.trans (B1.out.mono z4'.out.size)) _⟩
            | false =>
              cases t2 with
              | true =>
                go_quiet ((go_at_call 30;exact Calls.quiet_of (hsm.out _)))
                go_wp2_with fail
                go_ret
                exact ⟨by rw [hsv'.out,hev];rfl,draws (z4'.out.trans (B1.out.mono z4'.out.size)) _⟩
              | false =>
                go_quiet ((go_at_call 30;exact Calls.quiet_of (hsm.out _)))
                go_wp2_with fail
                go_ret
                exact ⟨by rw [hsv'.out,hev];rfl,draws (z4'.out.trans (B1.out.mono z4'.out.size)) _⟩
      · have hv:idleV o = false:=by unfold idleV;rw [hf,if_neg k3,if_neg k6];rfl
        rw [hv]
        have e3:((o.kind:Int) == 3) = false:=by simp;omega
        have e3n:((o.kind:Int) != 3) = true:=by simp;omega
        unfold opCells at hW2 hfo
        unfold opCells
        clear ho z1 hv hf k3 k6
        go_enter Try.func43,Try.ntmps43
        go_wp2_with (go_at_call 15;go_loud (rw [← hW2];refine hfo.out.mono ?_;rintro e w1 ⟨rfl,hb1⟩;have B1:=Lib.hid hb1;have Y1:=Lib.hid ((hb1.block w.heap.size (by have:=z5'.out;omega)).trans z1'.out);have y1:=Y1.out;clear hb1 o0 o1 o2 o3 o4 o5 o6 o7 o8 o9 o10;obtain ⟨o0,o1,o2,o3,o4,o5,o6,o7,o8,o9,o10⟩:=op_cells y1;clear y1))
        go_ret
        exact ⟨rfl,z4'.out.trans (B1.out.mono z4'.out.size)⟩
end Go.Proofs.Ytmipodnffhngaaa.Sim
namespace Go.Proofs.Ytmipodnffhngaaa.Top
open Go.RowKit
set_option maxRecDepth 20000
set_option linter.unusedVariables false

theorem copied_any (w:World) (A:Option Addr) (n c:Nat) (xs:List Int) (hA:Its w A n xs) (hnil:A = none→c = 0) (hn:n≤500000) :
    Calls Try.prog 73 #[.slice A n c] w (P4.NewRow w xs):=by
  have hA':=Lib.hid hA
  have hl:=Lib.hid hA.1
  have hn':=Lib.hid hnil
  clear hA hnil
  go_enter Try.func73,Try.ntmps73
  go_wp2_with (at_builtin;go_loud (refine P4.wpList_append_its rfl _ (.tmp 3) rfl w.heap.size (.slice none 0 0) [] xs rfl (P4.OwnI.nil_ _ _) A n c rfl hA'.out hn'.out (by have:=hl.out;simp;omega) (Nat.le_refl _) ?_;intro v1 w1 ho1 hg1 hat1))
  go_ret
  exact ⟨_,rfl,ho1,P4.grown_nil hg1⟩
set_option maxHeartbeats 2000000 in
theorem valid_any (w:World) (t:Nd) (aA kA:Option Addr) (an ac kn kc:Nat) (o:Ov) (s:OS) (h:NodeV (Old w) w aA an ac kA kn kc t) (ho:OpIn w o s) (hbig:weighV t≤100000) :
    Calls Try.prog 18 #[.agg (val6 t aA an ac kA kn kc),.agg (opCells o s)] w fun e w'=>e = .returned (.int .i64 (validV t o))∧Below w.heap.size w w':=by
  obtain ⟨W2,hW2⟩:∃ W2,W2 = (w.alloc (.cells (val6 t aA an ac kA kn kc) 33)).alloc (.cells (opCells o s) 26):=⟨_,rfl⟩
  have z1:W2.heap[w.heap.size]? = some (.cells (val6 t aA an ac kA kn kc) 33 (0,0)):=by rw [hW2];exact (Go.heap_alloc_old _ _ (by simp)).trans (heap_alloc_new w _)
  have z2:W2.heap[w.heap.size + 1]? = some (.cells (opCells o s) 26 (0,0)):=by rw [hW2];have h1:=heap_alloc_new (w.alloc (.cells (val6 t aA an ac kA kn kc) 33)) (.cells (opCells o s) 26);rw [World.size_alloc] at h1;exact h1
  have z4':=Lib.hid (show Below w.heap.size w W2 by rw [hW2];exact ((Below.refl _ _).alloc (Nat.le_refl _) _).alloc (by simp) _)
  have z5:W2.heap.size = w.heap.size + 1 + 1:=by rw [hW2];simp
  have hr:=Lib.hid (right_any W2 t aA kA an ac kn kc (h.below z4'.out) (by have:=(count_le t);omega))
  rw [hW2] at hr
  have hf:=Lib.hid (fun (W:World) (hb:Below w.heap.size w W)=>fault_any W t aA kA an ac kn kc o s (h.below hb) (ho.below hb) (by omega))
  have hz1:=Lib.hid z1
  have hz2:=Lib.hid z2
  have hz5:=Lib.hid z5
  clear h ho z1 z2 z5
  cases hv:rightV ltB t with
  | false =>
    have hv':=Lib.hid hv
    rw [show validV t o = 2 by unfold validV;rw [hv];rfl]
    clear hv
    unfold val6 opCells at hr hW2
    unfold val6 opCells
    go_enter Try.func18,Try.ntmps18
    go_wp2_with (go_at_call 38;go_loud (refine hr.out.mono ?_;rw [← hW2];rintro e w3 ⟨rfl,hb⟩;rw [hv'.out];have hb':=Lib.hid hb;clear hb))
    go_ret
    exact ⟨rfl,z4'.out.trans (hb'.out.mono z4'.out.size)⟩
  | true =>
    have hv':=Lib.hid hv
    rw [show validV t o = faultV t o by unfold validV;rw [hv];rfl]
    clear hv
    unfold val6 opCells at hr hW2
    have hf':=Lib.hid (fun (W:World) (hb:Below w.heap.size w W)=>hf.out W hb)
    unfold val6 opCells at hf'
    unfold val6 opCells
    go_enter Try.func18,Try.ntmps18
    go_wp2_with (first
      | (go_at_call 38;go_loud (refine hr.out.mono ?_;rw [← hW2];rintro e w3 ⟨rfl,hb⟩;rw [hv'.out];have hb':=Lib.hid hb;have r2:=(hb.block _ (by have:=hz5.out;omega)).trans hz2.out;have r1:=(hb.block _ (by have:=hz5.out;omega)).trans hz1.out;unfold val6 at r1;obtain ⟨p0,p1,p2,p3,p4,p5,pf⟩:=six_cells r1;obtain ⟨o0,o1,o2,o3,o4,o5,o6,o7,o8,o9,o10⟩:=op_cells r2;clear hb r1 r2))
      | (go_at_call 60;go_loud (refine (hf'.out w3 (z4'.out.trans (hb'.out.mono z4'.out.size))).mono ?_;rintro e w4 ⟨rfl,hb4⟩;have hb4':=Lib.hid hb4;clear hb4)))
    go_ret
    exact ⟨rfl,(z4'.out.trans (hb'.out.mono z4'.out.size)).trans (hb4'.out.mono ((z4'.out.trans (hb'.out.mono z4'.out.size)).size))⟩
end Go.Proofs.Ytmipodnffhngaaa.Top
namespace Go.Proofs.Ytmipodnffhngaaa.Top
open Go.RowKit
set_option maxRecDepth 20000
set_option linter.unusedVariables false

def ipCells (x:P5.IP):List Value:=[.int .i64 x.keep,.int .i64 x.drop,.string ⟨x.put.toArray⟩]
theorem ip_len (l:List P5.IP):(l.flatMap ipCells).length = l.length * 3:=by
  induction l with
  | nil=>rfl
  | cons p r ih=>rw [List.flatMap_cons,List.length_append,ih];simp [ipCells];omega
theorem ip_at:∀ (l:List P5.IP) (q:Nat) (p:P5.IP),l[q]? = some p→∀ j v,(ipCells p)[j]? = some v→(l.flatMap ipCells)[q * 3 + j]? = some v
  | a :: r,0,p,h,j,v,hj=>by
    simp at h
    subst h
    have hjl:=(List.getElem?_eq_some_iff.1 hj).1
    rw [List.flatMap_cons,Nat.zero_mul,Nat.zero_add,List.getElem?_append_left hjl,hj]
  | a :: r,q + 1,p,h,j,v,hj=>by
    have ih:=ip_at r q p (by simpa using h) j v hj
    rw [List.flatMap_cons,List.getElem?_append_right (by simp [ipCells];omega)]
    rw [show (q + 1) * 3 + j - (ipCells a).length = q * 3 + j by simp [ipCells];omega]
    exact ih
theorem ip_of:∀ (l:List P5.IP) (i:Nat) (v:Value),(l.flatMap ipCells)[i]? = some v→∃ p j,l[i / 3]? = some p∧j = i % 3∧(ipCells p)[j]? = some v
  | [],i,v,h=>by simp at h
  | a :: r,i,v,h=>by
    rw [List.flatMap_cons] at h
    by_cases hi:i < 3
    · rw [List.getElem?_append_left (by simp [ipCells];omega)] at h
      refine ⟨a,i,by rw [show i / 3 = 0 by omega];rfl,by omega,h⟩
    · rw [List.getElem?_append_right (by simp [ipCells];omega)] at h
      obtain ⟨p,j,h1,h2,h3⟩:=ip_of r _ v h
      refine ⟨p,j,?_,?_,h3⟩
      · rw [show i / 3 = (i - 3) / 3 + 1 by omega]
        simpa [ipCells] using h1
      · simp [ipCells] at h2
        omega
def OwnQ (base:Nat) (w:World) (v:Value) (l:List P5.IP):Prop:=w.ownsRow base 53 3 v l.length (l.flatMap ipCells)
theorem OwnQ.nil_ (base:Nat) (w:World):OwnQ base w (.slice none 0 0) []:=World.ownsRow_nil w base _ _
def IPok (x:P5.IP):Prop:=-9223372036854775808≤x.keep∧x.keep≤9223372036854775807∧-9223372036854775808≤x.drop∧x.drop≤9223372036854775807∧x.put.length≤maxLen
theorem pcs_ok {w:World} {A:Option Addr} {n:Nat} {l:List P5.IP} (h:P5.PcsIn w A n l):∀ x ∈ l,IPok x:=fun x hx=>by
  obtain ⟨q,hq⟩:=List.mem_iff_getElem?.1 hx
  obtain ⟨ad,-,-,h1,h2,h3,h4,h5,-⟩:=h.2 q x hq
  exact ⟨h1,h2,h3,h4,h5⟩
theorem OwnQ.shape {base:Nat} {w:World} {v:Value} {l:List P5.IP} (h:OwnQ base w v l) (hl:∀ x ∈ l,IPok x):∃ (A:Option Addr) (n c:Nat),v = .slice A n c∧n = l.length∧n≤c∧c≤maxLen∧P5.PcsIn w A n l∧(A = none→c = 0):=by
  obtain ⟨A,c,rfl,h1,h2,h3,h4⟩:=own_form h
  refine ⟨A,_,c,rfl,rfl,h1,h2,⟨rfl,fun q p hp=>?_⟩,h3⟩
  have hq:=(List.getElem?_eq_some_iff.1 hp).1
  obtain ⟨g,rfl,hb,hlt,hc⟩:=h4 (by omega)
  obtain ⟨m1,m2,m3,m4,m5⟩:=hl p (List.mem_of_getElem? hp)
  have c0:=hc _ _ (ip_at l q p hp 0 _ rfl)
  have c1:=hc _ _ (ip_at l q p hp 1 _ rfl)
  have c2:=hc _ _ (ip_at l q p hp 2 _ rfl)
  have hadd:(⟨g,0,none⟩:Addr).add (q * 3) = ⟨g,q * 3,none⟩:=by unfold Addr.add;split <;> simp_all
  refine ⟨_,rfl,hlt,?_⟩
  rw [hadd]
  exact ⟨m1,m2,m3,m4,m5,c0,c1,c2⟩
theorem wpList_append_pcs {w:World} {ops:Array Oper} {rest:List Oper} {o:Oper} {a:Act} {Q:Exit→Act→World→Prop} (hgd:o.guard = none) (s x:Operand)
    (ho:o.op = .call { callee:=.builtin .append,args:=#[s,x],argTypes:=#[24,24] })
    (base:Nat) (v:Value) (xs ys:List P5.IP) (hs:a.eval s = v) (hown:OwnQ base w v xs)
    (A:Option Addr) (m c:Nat) (hx:a.eval x = .slice A m c) (hB:P5.PcsIn w A m ys) (hnil:A = none→c = 0)
    (hlen:xs.length + ys.length≤1000000) (hbase:base≤w.heap.size)
    (h:∀ v' w',OwnQ base w' v' (xs ++ ys)→w.grownBy w' v.ownBlock→(v'.ownBlock = v.ownBlock∨v'.ownBlock = some w.heap.size)→wpList Try.prog ops Q rest (a.put o.dst v') w') :
    wpList Try.prog ops Q (o :: rest) a w:=by
  obtain ⟨i0,hi,hz0,hz1,hz2⟩:=info_parts P5.Try.infoP
  obtain rfl:=hB.1
  cases A with
  | none =>
    obtain rfl:=hB.none_nil
    obtain rfl:=hnil rfl
    refine wpList_append_own_none hgd s x _ ho base 53 i0 3 Try.underlying24 hi v _ _ hs hown hx ?_
    exact h v w (by rw [List.append_nil];exact hown) (World.grownBy.refl w _) (.inl rfl)
  | some ad =>
    refine wpList_append_own_at w hgd s x _ ho base 53 i0 _ 3 32 Try.underlying24 hi hz0 hz1 hz2 rfl (by omega) v xs.length (xs.flatMap ipCells) hs hown ad ys.length c (ys.flatMap ipCells) hx (by rw [ip_len])
      (fun j u hj=>?_) (fun u hu=>?_) (by unfold maxLen;omega) (by omega) hbase ?_
    · obtain ⟨p,k,h1,h2,h3⟩:=ip_of ys j u hj
      obtain ⟨ad',e,_,-,-,-,-,-,c0,c1,c2⟩:=hB.2 _ p h1
      cases Option.some.inj e
      have hj3:j = (j / 3) * 3 + k:=by omega
      have hk:k = 0∨k = 1∨k = 2:=by omega
      have haa:∀ (E:Addr) (i:Nat),(⟨E.block,E.off + (i + 1),none⟩:Addr) = E.add (i + 1):=fun E i=>rfl
      rw [hj3,← P4.add_add]
      rcases hk with rfl | rfl | rfl
      · simp only [ipCells] at h3
        injection h3 with h3
        rw [← h3]
        exact c0
      · simp only [ipCells] at h3
        injection h3 with h3
        rw [← h3]
        exact c1
      · simp only [ipCells] at h3
        injection h3 with h3
        rw [← h3]
        exact c2
    · obtain ⟨p,-,h2⟩:=List.mem_flatMap.1 hu
      simp only [ipCells,List.mem_cons,List.not_mem_nil,or_false] at h2
      rcases h2 with rfl | rfl | rfl <;> rfl
    · intro v' w' hown' hgrow _ hat
      refine h v' w' ?_ hgrow hat
      unfold OwnQ
      rw [List.length_append,List.flatMap_append]
      exact hown'
end Go.Proofs.Ytmipodnffhngaaa.Top
namespace Go.Proofs.Ytmipodnffhngaaa.Top
open Go.RowKit
set_option maxRecDepth 20000
set_option linter.unusedVariables false

def bareV (o:Ov):Ov where
  kind:=o.kind
  path:=if 1≤o.kind∧o.kind≤6 then o.path else []
  at_:=if o.kind = 1∨o.kind = 3 then o.at_ else 0
  to_:=if o.kind = 3 then o.to_ else []
  id:=if o.kind = 1 then o.id else 0
  leaf:=if o.kind = 1 then o.leaf else false
  label:=if o.kind = 1∨o.kind = 5 then o.label else []
  key:=if o.kind = 4 then o.key else []
  value:=if o.kind = 4∧o.gone = false then o.value else []
  gone:=if o.kind = 4 then o.gone else false
  pieces:=if o.kind = 6 then o.pieces else []
theorem own_kept {w w':World} {base:Nat} {e:TypeId} {size:Nat} {v:Value} {n:Nat} {xs:List Value} (h:w.ownsRow base e size v n xs) (hk:∀ k,base≤k→k < w.heap.size→w'.heap[k]? = w.heap[k]?):w'.ownsRow base e size v n xs:=by
  obtain ⟨h1,h2 | ⟨g,cap,cur,rfl,hb,hg,hr⟩⟩:=h
  · exact ⟨h1,.inl h2⟩
  · exact ⟨h1,.inr ⟨g,cap,cur,rfl,hb,(hk g hb (Array.getElem?_eq_some_iff.1 hg).1).trans hg,hr⟩⟩
theorem own_mono {w:World} {base base':Nat} {e:TypeId} {size:Nat} {v:Value} {n:Nat} {xs:List Value} (h:w.ownsRow base e size v n xs) (hb:base'≤base):w.ownsRow base' e size v n xs:=by
  obtain ⟨h1,h2 | ⟨g,cap,cur,rfl,hbb,hr⟩⟩:=h
  · exact ⟨h1,.inl h2⟩
  · exact ⟨h1,.inr ⟨g,cap,cur,rfl,Nat.le_trans hb hbb,hr⟩⟩
structure OwnOp (base:Nat) (w:World) (o:Ov) (s:OS):Prop where
  path:P4.OwnI base w (.slice s.pA s.pn s.pc) o.path
  to_:P4.OwnI base w (.slice s.tA s.tn s.tc) o.to_
  pieces:OwnQ base w (.slice s.qA s.qn s.qc) o.pieces
theorem OwnOp.kept {w w':World} {base:Nat} {o:Ov} {s:OS} (h:OwnOp base w o s) (hk:∀ k,base≤k→k < w.heap.size→w'.heap[k]? = w.heap[k]?):OwnOp base w' o s :=
  ⟨own_kept h.path hk,own_kept h.to_ hk,own_kept h.pieces hk⟩
theorem OwnOp.mono {w:World} {base base':Nat} {o:Ov} {s:OS} (h:OwnOp base w o s) (hb:base'≤base):OwnOp base' w o s :=
  ⟨own_mono h.path hb,own_mono h.to_ hb,own_mono h.pieces hb⟩
structure OvOk (o:Ov):Prop where
  kind:o.kind < 256
  at_:-9223372036854775808≤o.at_∧o.at_≤9223372036854775807
  id:o.id < 18446744073709551616
  label:o.label.length≤maxLen
  key:o.key.length≤maxLen
  value:o.value.length≤maxLen
  pfew:o.path.length≤500000
  tfew:o.to_.length≤500000
  qfew:o.pieces.length≤500000
  pfit:Fit o.path
  tfit:Fit o.to_
  pieces:∀ x ∈ o.pieces,IPok x
theorem op_ok {w:World} {o:Ov} {s:OS} (h:OpIn w o s):OvOk o :=
  ⟨h.kind,h.at_,h.id,h.label,h.key,h.value,by rw [h.path.1];exact h.pfew,by rw [h.to_.1];exact h.tfew,by rw [h.pieces.1];exact h.qfew,h.pfit,h.tfit,pcs_ok h.pieces⟩
theorem OvOk.bare {o:Ov} (h:OvOk o):OvOk (bareV o):=by
  have nilP:Fit []:=fun x hx=>by cases hx
  refine ⟨h.kind,?_,?_,?_,?_,?_,?_,?_,?_,?_,?_,?_⟩ <;> unfold bareV <;> dsimp only <;> split
  · exact h.at_
  · omega
  · exact h.id
  · omega
  · exact h.label
  · exact Nat.zero_le _
  · exact h.key
  · exact Nat.zero_le _
  · exact h.value
  · exact Nat.zero_le _
  · exact h.pfew
  · exact Nat.zero_le _
  · exact h.tfew
  · exact Nat.zero_le _
  · exact h.qfew
  · exact Nat.zero_le _
  · exact h.pfit
  · exact nilP
  · exact h.tfit
  · exact nilP
  · exact h.pieces
  · intro x hx;cases hx
theorem OwnOp.op {base:Nat} {w:World} {o:Ov} {s:OS} (h:OwnOp base w o s) (hok:OvOk o):OpIn w o s:=by
  obtain ⟨A1,n1,c1,e1,hn1,hc1,hm1,hi1,hz1⟩:=P4.OwnI.shape h.path
  obtain ⟨A2,n2,c2,e2,hn2,hc2,hm2,hi2,hz2⟩:=P4.OwnI.shape h.to_
  obtain ⟨A3,n3,c3,e3,hn3,hc3,hm3,hi3,hz3⟩:=OwnQ.shape h.pieces hok.pieces
  injection e1 with a1 b1 d1
  injection e2 with a2 b2 d2
  injection e3 with a3 b3 d3
  subst a1 b1 d1 a2 b2 d2 a3 b3 d3
  exact ⟨hok.kind,hi1,hc1,hm1,hz1,hok.at_,hi2,hc2,hm2,hz2,hok.id,hok.label,hok.key,hok.value,hi3,hc3,hm3,hz3,by rw [hn1];exact hok.pfew,by rw [hn2];exact hok.tfew,by rw [hn3];exact hok.qfew,hok.pfit,hok.tfit⟩
theorem set_op {w:World} {g:Nat} {a0 a1 a2 a3 a4 a5 a6 a7 a8 a9 a10 b0 b1 b2 b3 b4 b5 b6 b7 b8 b9 b10:Value} {ty:TypeId} (h:w.heap[g]? = some (.cells #[a0,a1,a2,a3,a4,a5,a6,a7,a8,a9,a10] ty (0,0))) :
    (((((((((((w.setCell ⟨g,0,none⟩ (b0)).setCell ⟨g,1,none⟩ (b1)).setCell ⟨g,2,none⟩ (b2)).setCell ⟨g,3,none⟩ (b3)).setCell ⟨g,4,none⟩ (b4)).setCell ⟨g,5,none⟩ (b5)).setCell ⟨g,6,none⟩ (b6)).setCell ⟨g,7,none⟩ (b7)).setCell ⟨g,8,none⟩ (b8)).setCell ⟨g,9,none⟩ (b9)).setCell ⟨g,10,none⟩ (b10)).heap[g]? = some (.cells #[b0,b1,b2,b3,b4,b5,b6,b7,b8,b9,b10] ty (0,0)):=by
  have e0:=heap_setCell_same w g 0 _ _ b0 h
  have e1:=heap_setCell_same _ g 1 _ _ b1 e0
  have e2:=heap_setCell_same _ g 2 _ _ b2 e1
  have e3:=heap_setCell_same _ g 3 _ _ b3 e2
  have e4:=heap_setCell_same _ g 4 _ _ b4 e3
  have e5:=heap_setCell_same _ g 5 _ _ b5 e4
  have e6:=heap_setCell_same _ g 6 _ _ b6 e5
  have e7:=heap_setCell_same _ g 7 _ _ b7 e6
  have e8:=heap_setCell_same _ g 8 _ _ b8 e7
  have e9:=heap_setCell_same _ g 9 _ _ b9 e8
  have e10:=heap_setCell_same _ g 10 _ _ b10 e9
  rw [e10]
  simp
theorem set_op_other {w:World} {g k:Nat} {b0 b1 b2 b3 b4 b5 b6 b7 b8 b9 b10:Value} (h:k ≠ g):(((((((((((w.setCell ⟨g,0,none⟩ (b0)).setCell ⟨g,1,none⟩ (b1)).setCell ⟨g,2,none⟩ (b2)).setCell ⟨g,3,none⟩ (b3)).setCell ⟨g,4,none⟩ (b4)).setCell ⟨g,5,none⟩ (b5)).setCell ⟨g,6,none⟩ (b6)).setCell ⟨g,7,none⟩ (b7)).setCell ⟨g,8,none⟩ (b8)).setCell ⟨g,9,none⟩ (b9)).setCell ⟨g,10,none⟩ (b10)).heap[k]? = w.heap[k]?:=by
  repeat rw [heap_setCell_other _ _ k _ h]
theorem below_op {B:Nat} {w0 w:World} {g:Nat} {b0 b1 b2 b3 b4 b5 b6 b7 b8 b9 b10:Value} (h:Below B w0 w) (hg:B≤g):Below B w0 (((((((((((w.setCell ⟨g,0,none⟩ (b0)).setCell ⟨g,1,none⟩ (b1)).setCell ⟨g,2,none⟩ (b2)).setCell ⟨g,3,none⟩ (b3)).setCell ⟨g,4,none⟩ (b4)).setCell ⟨g,5,none⟩ (b5)).setCell ⟨g,6,none⟩ (b6)).setCell ⟨g,7,none⟩ (b7)).setCell ⟨g,8,none⟩ (b8)).setCell ⟨g,9,none⟩ (b9)).setCell ⟨g,10,none⟩ (b10)) :=
  ((((((((((h.setCell hg _).setCell hg _).setCell hg _).setCell hg _).setCell hg _).setCell hg _).setCell hg _).setCell hg _).setCell hg _).setCell hg _).setCell hg _
theorem end_op {w w1:World} {r:Nat} {ty:TypeId} {o:Ov} {s:OS} {a0 a1 a2 a3 a4 a5 a6 a7 a8 a9 a10:Value} (hw:w.heap.size≤r) (hb:Below w.heap.size w w1) (hr:w1.heap[r]? = some (.cells #[a0,a1,a2,a3,a4,a5,a6,a7,a8,a9,a10] ty (0,0))) :
    ∃ W9,W9 = (((((((((((w1.setCell ⟨r,0,none⟩ (.int .u8 (o.kind:Int))).setCell ⟨r,1,none⟩ (.slice s.pA s.pn s.pc)).setCell ⟨r,2,none⟩ (.int .i64 o.at_)).setCell ⟨r,3,none⟩ (.slice s.tA s.tn s.tc)).setCell ⟨r,4,none⟩ (.int .u64 (o.id:Int))).setCell ⟨r,5,none⟩ (.bool o.leaf)).setCell ⟨r,6,none⟩ (.string ⟨o.label.toArray⟩)).setCell ⟨r,7,none⟩ (.string ⟨o.key.toArray⟩)).setCell ⟨r,8,none⟩ (.string ⟨o.value.toArray⟩)).setCell ⟨r,9,none⟩ (.bool o.gone)).setCell ⟨r,10,none⟩ (.slice s.qA s.qn s.qc))∧W9.heap[r]? = some (.cells (opCells o s) ty (0,0))∧Below w.heap.size w W9∧W9.heap.size = w1.heap.size∧∀ k,k ≠ r→W9.heap[k]? = w1.heap[k]? :=
  ⟨_,rfl,set_op hr,below_op hb hw,by simp only [World.size_setCell],fun k hk=>set_op_other hk⟩
def zero11:Array Value:=#[.int .u8 0,.slice none 0 0,.int .i64 0,.slice none 0 0,.int .u64 0,.bool false,.string ⟨#[]⟩,.string ⟨#[]⟩,.string ⟨#[]⟩,.bool false,.slice none 0 0]
def BareA (w:World) (b:Ov) (e:Ending) (w':World):Prop:=∃ s,e = .returned (.agg (opCells b s))∧OwnOp w.heap.size w' b s∧Below w.heap.size w w'
theorem eleven_cells {w:World} {g:Nat} {b0 b1 b2 b3 b4 b5 b6 b7 b8 b9 b10:Value} {t:TypeId} (h:w.heap[g]? = some (.cells #[b0,b1,b2,b3,b4,b5,b6,b7,b8,b9,b10] t (0,0))) :
    w.cell? ⟨g,0,none⟩ = some b0∧w.cell? ⟨g,1,none⟩ = some b1∧w.cell? ⟨g,2,none⟩ = some b2∧w.cell? ⟨g,3,none⟩ = some b3∧w.cell? ⟨g,4,none⟩ = some b4∧w.cell? ⟨g,5,none⟩ = some b5∧w.cell? ⟨g,6,none⟩ = some b6∧w.cell? ⟨g,7,none⟩ = some b7∧w.cell? ⟨g,8,none⟩ = some b8∧w.cell? ⟨g,9,none⟩ = some b9∧w.cell? ⟨g,10,none⟩ = some b10∧∀ o,w.frozen? ⟨g,o,none⟩ = false :=
  ⟨cell_of_row w g 0 _ _ _ h,cell_of_row w g 1 _ _ _ h,cell_of_row w g 2 _ _ _ h,cell_of_row w g 3 _ _ _ h,cell_of_row w g 4 _ _ _ h,cell_of_row w g 5 _ _ _ h,cell_of_row w g 6 _ _ _ h,cell_of_row w g 7 _ _ _ h,cell_of_row w g 8 _ _ _ h,cell_of_row w g 9 _ _ _ h,cell_of_row w g 10 _ _ _ h,fun o=>frozen_of_row w g o _ _ h⟩
end Go.Proofs.Ytmipodnffhngaaa.Top
