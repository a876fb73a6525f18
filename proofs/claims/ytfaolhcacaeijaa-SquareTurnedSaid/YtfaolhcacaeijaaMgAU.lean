/- MgAU: SqrE SqrG SqrHa SqrHk33 SqrHk55 -/
import Derived.Test.YtfaolhcacaeijaaSqrD
import Derived.Stop.BytesEq
import Derived.Test.YtfaolhcacaeijaaTopFr
import Derived.Test.YtfaolhcacaeijaaMgAP
import Derived.Test.YtfaolhcacaeijaaMgAN
set_option linter.all false
namespace Go.Proofs.Ytfaolhcacaeijaa.Sqr
open Go.RowKit Top Shf Sim
set_option maxRecDepth 20000
set_option linter.unusedVariables false

def Tiny (o:Ov):Prop:=o.path.length≤300∧o.to_.length≤300
theorem Tiny.slen {o:Ov} (h:Tiny o):Slen o:=⟨by have:=h.1;omega,by have:=h.2;omega⟩
theorem nodeD_len (a:Ov) (p:List Int):(nodeD a p).length≤p.length + a.path.length + a.to_.length + 1:=by
  unfold nodeD
  cases h:nodeV (chV a) p with
  | none=>exact Nat.zero_le _
  | some xs =>
    have e1:=nodeR_len _ _ xs h
    rw [List.length_reverse] at e1
    show xs.length≤_
    rcases ch_to a with e | e | e <;> rw [e] at e1 <;> (try simp only [List.length_nil] at e1) <;> omega
section
variable {b a:Ov} {prior:Bool}
theorem val_ko (h2:a.kind ≠ 2) (h:¬ (b.kind = 2∧a.kind = 3)∧¬ (b.kind = 3∧a.kind = 3)∧¬ (b.kind = 4∧a.kind = 4)∧¬ (b.kind = 5∧a.kind = 5)∧¬ (b.kind = 6∧a.kind = 6)):becomesV b a prior = [shiftedV b a prior]:=by
  obtain ⟨h23,h33,h44,h55,h66⟩:=h
  unfold becomesV
  rw [if_neg (fun e=>h2 e.1),if_neg (fun e=>h2 e.2.1),if_neg (fun e=>h23 ⟨e.1,e.2.1⟩),if_neg (fun e=>h33 ⟨e.1,e.2.1⟩),if_neg (fun e=>h33 ⟨e.1,e.2.1⟩),if_neg (fun e=>h44 ⟨e.1,e.2.1⟩),if_neg (fun e=>h55 ⟨e.1,e.2.1⟩),if_neg (fun e=>h66 ⟨e.1,e.2.1⟩)]
theorem val_k2a (h2:a.kind = 2) (w1:P4.withinV a.path b.path = true):becomesV b a prior = []:=by
  unfold becomesV
  rw [if_pos ⟨h2,w1⟩]
theorem val_k2b (h2:a.kind = 2) (w1:P4.withinV a.path b.path = false) (hb:b.kind = 3) (w2:P4.withinV a.path b.to_ = true):becomesV b a prior = [delV (nodeD a b.path)]:=by
  unfold becomesV
  rw [if_neg (fun e=>by rw [w1] at e;exact absurd e.2 (by decide)),if_pos ⟨hb,h2,w2⟩]
theorem val_k2c (h2:a.kind = 2) (w1:P4.withinV a.path b.path = false) (hb:b.kind = 3→P4.withinV a.path b.to_ = false):becomesV b a prior = [shiftedV b a prior]:=by
  unfold becomesV
  rw [if_neg (fun e=>by rw [w1] at e;exact absurd e.2 (by decide)),if_neg (fun e=>by rw [hb e.1] at e;exact absurd e.2.2 (by decide)),if_neg (fun e=>by omega),if_neg (fun e=>by omega),if_neg (fun e=>by omega),if_neg (fun e=>by omega),if_neg (fun e=>by omega),if_neg (fun e=>by omega)]
theorem val_k23a (hb:b.kind = 2) (ha:a.kind = 3) (s:P4.eqV b.path a.path = false) (w3:P4.withinV b.path a.path = true) (w4:P4.withinV b.path a.to_ = false):becomesV b a prior = [delV (nodeD a a.path),delV (nodeD (delV (nodeD a a.path)) (nodeD a b.path))]:=by
  unfold becomesV
  rw [if_neg (fun e=>by omega),if_neg (fun e=>by omega),if_pos ⟨hb,ha,s,w3,w4⟩]
theorem val_k23b (hb:b.kind = 2) (ha:a.kind = 3) (h:P4.eqV b.path a.path = true∨P4.withinV b.path a.path = false∨P4.withinV b.path a.to_ = true):becomesV b a prior = [shiftedV b a prior]:=by
  unfold becomesV
  rw [if_neg (fun e=>by omega),if_neg (fun e=>by omega),if_neg (fun e=>by
    obtain ⟨-,-,e1,e2,e3⟩:=e
    rcases h with h | h | h
    · rw [h] at e1;cases e1
    · rw [h] at e2;cases e2
    · rw [h] at e3;cases e3),if_neg (fun e=>by omega),if_neg (fun e=>by omega),if_neg (fun e=>by omega),if_neg (fun e=>by omega),if_neg (fun e=>by omega)]
theorem val_k33a (hb:b.kind = 3) (ha:a.kind = 3) (s:P4.eqV b.path a.path = true):becomesV b a prior = if prior = true then [shiftedV b a prior] else []:=by
  unfold becomesV
  rw [if_neg (fun e=>by omega),if_neg (fun e=>by omega),if_neg (fun e=>by omega),if_pos ⟨hb,ha,s⟩]
theorem val_k33b (hb:b.kind = 3) (ha:a.kind = 3) (s:P4.eqV b.path a.path = false) (w4:P4.withinV b.path a.to_ = true) (w2:P4.withinV a.path b.to_ = true):becomesV b a prior = if prior = true then [undoV (chV a),b] else []:=by
  unfold becomesV
  rw [if_neg (fun e=>by omega),if_neg (fun e=>by omega),if_neg (fun e=>by omega),if_neg (fun e=>by rw [s] at e;exact absurd e.2.2 (by decide)),if_pos ⟨hb,ha,w4,w2⟩]
theorem val_k33c (hb:b.kind = 3) (ha:a.kind = 3) (s:P4.eqV b.path a.path = false) (h:P4.withinV b.path a.to_ = false∨P4.withinV a.path b.to_ = false):becomesV b a prior = [shiftedV b a prior]:=by
  unfold becomesV
  rw [if_neg (fun e=>by omega),if_neg (fun e=>by omega),if_neg (fun e=>by omega),if_neg (fun e=>by rw [s] at e;exact absurd e.2.2 (by decide)),if_neg (fun e=>by
    obtain ⟨-,-,e1,e2⟩:=e
    rcases h with h | h
    · rw [h] at e1;cases e1
    · rw [h] at e2;cases e2),if_neg (fun e=>by omega),if_neg (fun e=>by omega),if_neg (fun e=>by omega)]
theorem val_k44a (hb:b.kind = 4) (ha:a.kind = 4) (s:P4.eqV b.path a.path = true) (hk:b.key = a.key):becomesV b a prior = if prior = true then [shiftedV b a prior] else []:=by
  unfold becomesV
  rw [if_neg (fun e=>by omega),if_neg (fun e=>by omega),if_neg (fun e=>by omega),if_neg (fun e=>by omega),if_neg (fun e=>by omega),if_pos ⟨hb,ha,s,hk⟩]
theorem val_k44b (hb:b.kind = 4) (ha:a.kind = 4) (h:P4.eqV b.path a.path = false∨b.key ≠ a.key):becomesV b a prior = [shiftedV b a prior]:=by
  unfold becomesV
  rw [if_neg (fun e=>by omega),if_neg (fun e=>by omega),if_neg (fun e=>by omega),if_neg (fun e=>by omega),if_neg (fun e=>by omega),if_neg (fun e=>by
    obtain ⟨-,-,e1,e2⟩:=e
    rcases h with h | h
    · rw [h] at e1;cases e1
    · exact h e2),if_neg (fun e=>by omega),if_neg (fun e=>by omega)]
theorem val_k55a (hb:b.kind = 5) (ha:a.kind = 5) (s:P4.eqV b.path a.path = true):becomesV b a prior = if prior = true then [shiftedV b a prior] else []:=by
  unfold becomesV
  rw [if_neg (fun e=>by omega),if_neg (fun e=>by omega),if_neg (fun e=>by omega),if_neg (fun e=>by omega),if_neg (fun e=>by omega),if_neg (fun e=>by omega),if_pos ⟨hb,ha,s⟩]
theorem val_k55b (hb:b.kind = 5) (ha:a.kind = 5) (s:P4.eqV b.path a.path = false):becomesV b a prior = [shiftedV b a prior]:=by
  unfold becomesV
  rw [if_neg (fun e=>by omega),if_neg (fun e=>by omega),if_neg (fun e=>by omega),if_neg (fun e=>by omega),if_neg (fun e=>by omega),if_neg (fun e=>by omega),if_neg (fun e=>by rw [s] at e;exact absurd e.2.2 (by decide)),if_neg (fun e=>by omega)]
theorem val_k66a (hb:b.kind = 6) (ha:a.kind = 6) (s:P4.eqV b.path a.path = true):becomesV b a prior = [editV b a prior]:=by
  unfold becomesV
  rw [if_neg (fun e=>by omega),if_neg (fun e=>by omega),if_neg (fun e=>by omega),if_neg (fun e=>by omega),if_neg (fun e=>by omega),if_neg (fun e=>by omega),if_neg (fun e=>by omega),if_pos ⟨hb,ha,s⟩]
theorem val_k66b (hb:b.kind = 6) (ha:a.kind = 6) (s:P4.eqV b.path a.path = false):becomesV b a prior = [shiftedV b a prior]:=by
  unfold becomesV
  rw [if_neg (fun e=>by omega),if_neg (fun e=>by omega),if_neg (fun e=>by omega),if_neg (fun e=>by omega),if_neg (fun e=>by omega),if_neg (fun e=>by omega),if_neg (fun e=>by omega),if_neg (fun e=>by rw [s] at e;exact absurd e.2.2 (by decide))]
end
theorem ch_fromfit {o:Ov} (hp:Fit o.path):Fit (chV o).from_∧InI (chV o).child:=by
  have z:InI 0:=by unfold InI;omega
  have zf:Fit ([]:List Int):=fun x hx=>by simp at hx
  have hd:Fit o.path.dropLast∧InI (o.path.getLastD 0):=by
    refine ⟨fun x hx=>hp x ((List.dropLast_sublist o.path).subset hx),?_⟩
    rw [List.getLastD_eq_getLast?]
    cases h:o.path.getLast? with
    | none=>exact z
    | some y=>exact hp y (List.mem_of_getLast? h)
  unfold chV
  split
  · split
    · exact ⟨zf,z⟩
    · split
      · split
        · exact ⟨zf,z⟩
        · exact hd
      · split
        · split
          · exact ⟨zf,z⟩
          · exact hd
        · exact ⟨zf,z⟩
  · exact ⟨zf,z⟩
theorem ch_fromlen (o:Ov):(chV o).from_.length≤o.path.length:=by
  unfold chV
  split
  · split
    · exact Nat.zero_le _
    · split
      · split
        · exact Nat.zero_le _
        · show o.path.dropLast.length≤_;rw [List.length_dropLast];omega
      · split
        · split
          · exact Nat.zero_le _
          · show o.path.dropLast.length≤_;rw [List.length_dropLast];omega
        · exact Nat.zero_le _
  · exact Nat.zero_le _
theorem undo_ok {a:Ov} (ha:OvOk a) (hl:Tiny a):OvOk (undoV (chV a)):=by
  have hin:=ha.at_
  have hgi:=ch_gap (o:=a) hin
  have htf:=ch_tofit ha.pfit ha.tfit
  have hz:Fit ([]:List Int):=fun x hx=>by simp at hx
  have hcf:Fit (chV a).from_∧InI (chV a).child:=ch_fromfit ha.pfit
  have htl:=ch_few hl.slen
  have hfl:=ch_fromlen a
  unfold undoV
  split
  · refine ⟨by show 3 < 256;decide,?_,by show 0 < 18446744073709551616;decide,Nat.zero_le _,Nat.zero_le _,Nat.zero_le _,?_,?_,Nat.zero_le _,?_,?_,fun x hx=>by simp at hx⟩
    · show InI (backV (chV a))
      unfold backV
      split
      · exact wrap_in _
      · exact hcf.2
    · show (toV (chV a) ++ [landV (chV a)]).length≤500000
      rw [List.length_append,to_len]
      simp only [List.length_cons,List.length_nil]
      omega
    · show (plainR (chV a) (chV a).from_.reverse).length≤500000
      rw [plain_len,List.length_reverse]
      have:=hl.1
      omega
    · show Fit (toV (chV a) ++ [landV (chV a)])
      intro x hx
      rw [List.mem_append,List.mem_singleton] at hx
      rcases hx with hx | rfl
      · exact to_fit htf x hx
      · exact land_in hgi
    · exact plain_fit _ _ fun x hx=>hcf.1 x (List.mem_reverse.1 hx)
  · exact ⟨by show 0 < 256;decide,⟨by show (-9223372036854775808:Int)≤0;omega,by show (0:Int)≤9223372036854775807;omega⟩,by show 0 < 18446744073709551616;decide,Nat.zero_le _,Nat.zero_le _,Nat.zero_le _,Nat.zero_le _,Nat.zero_le _,Nat.zero_le _,hz,hz,fun x hx=>by simp [zeroO] at hx⟩
theorem undo_in (w:World) (a:Ov) (s:OS) (ha:OpIn w a s) (hl:Tiny a):Calls Try.prog 83 #[.agg (opCells a s)] w (OpA w (undoV (chV a))):=by
  refine (Undo_any w a s ha hl.slen).mono fun e w' h=>?_
  obtain ⟨s',rfl,h1,h2⟩:=h
  exact ⟨s',rfl,h1.op (undo_ok (op_ok ha) hl),h2⟩
theorem two_at {w:World} {g:Nat} {x y:Value} {t:TypeId} (h:w.heap[g]? = some (.cells #[x,y] t (0,0))):w.cell? ⟨g,0,none⟩ = some x∧w.cell? ⟨g,1,none⟩ = some y∧∀ o,w.frozen? ⟨g,o,none⟩ = false :=
  ⟨cell_of_row w g 0 _ _ _ h,cell_of_row w g 1 _ _ _ h,fun o=>frozen_of_row w g o _ _ h⟩
theorem two_set {w:World} {g:Nat} {x y u v:Value} {t:TypeId} (h:w.heap[g]? = some (.cells #[x,y] t (0,0))):((w.setCell ⟨g,0,none⟩ u).setCell ⟨g,1,none⟩ v).heap[g]? = some (.cells #[u,v] t (0,0)):=by
  rw [heap_setCell_same _ g 1 _ _ _ (heap_setCell_same w g 0 _ _ _ h)]
  simp
theorem eqK (w:World) (x y c d:Nat) (hx:x < 256) (hy:y < 256) (hc:c < 256) (hd:d < 256) :
    (binOp .eql 154 (.agg #[.int .u8 (x:Int),.int .u8 (y:Int)]) (.agg #[.int .u8 (c:Int),.int .u8 (d:Int)])).run Try.prog w = .ok (.bool (decide (x = c∧y = d))) w:=by
  have e:∀ n,n < 256→(UInt8.ofNat n).toNat = n:=fun n hn=>by rw [UInt8.toNat_ofNat'];omega
  have i:∀ n m,n < 256→m < 256→(UInt8.ofNat n == UInt8.ofNat m) = decide (n = m):=fun n m hn hm=>by
    by_cases h:n = m
    · subst h;simp
    · rw [decide_eq_false h,beq_eq_false_iff_ne]
      intro h2
      exact h (by rw [← e n hn,← e m hm,h2])
  have h:=run_eql_bytes (P:=Try.prog) w 154 5 2 Try.underlying154 Try.underlying5 (fun w=>by kernel_rfl) [UInt8.ofNat x,UInt8.ofNat y] [UInt8.ofNat c,UInt8.ofNat d] rfl rfl
  simp only [List.map_cons,List.map_nil,Extern.Stop.cell,e x hx,e y hy,e c hc,e d hd] at h
  refine h.trans ?_
  congr 2
  rw [List.cons_beq_cons,List.cons_beq_cons,i x c hx hc,i y d hy hd]
  simp [Bool.decide_and]
set_option maxHeartbeats 16000000 in
theorem bothGone_any (w:World) (b a:Ov) (sb sa:OS) (hb:OpIn w b sb) (ha:OpIn w a sa) (hlb:Tiny b) (hla:Tiny a) :
    Calls Try.prog 151 #[.agg (opCells b sb),.agg (opCells a sa)] w fun e w'=>∃ v,e = .returned v∧RowA w [delV (nodeD a a.path),delV (nodeD (delV (nodeD a a.path)) (nodeD a b.path))] v w':=by
  obtain ⟨z1,z2,z4,z5⟩:=two_news w (.cells (opCells b sb) 26) (.cells (opCells a sa) 26)
  obtain ⟨W2,hW2⟩:∃ Q9,Q9 = ((w.alloc (.cells (opCells b sb) 26)).alloc (.cells (opCells a sa) 26)):=⟨_,rfl⟩
  rw [← hW2] at z1 z2 z4 z5
  have z1':=Lib.hid z1
  have z2':=Lib.hid z2
  have z4':=Lib.hid z4
  have z5':=Lib.hid z5
  have hd1:=Lib.hid (deleteBehind_any W2 a sa sa.pA sa.pn sa.pc a.path (ha.below z4) hla.slen (ha.below z4).path ha.pnc ha.pcm ha.pnil (by have:=ha.path.1;have:=hla.1;omega) ha.pfit)
  have hno:=Lib.hid (fun (W:World) (hB:Below w.heap.size w W)=>(Node_any W a sa sb.pA sb.pn sb.pc b.path (ha.below hB) hla.slen (hb.below hB).path hb.pnc hb.pcm (by have:=hb.path.1;have:=hlb.1;omega)).mono fun e w' h=>nodeS h)
  have hq1:=Lib.hid (nodeD_len a a.path)
  have hq2:=Lib.hid (nodeD_len a b.path)
  have hf2:=Lib.hid (nodeD_ok hla.slen (op_ok ha) (op_ok hb).pfit).2
  have hsz:=Lib.hid (And.intro hla hlb)
  generalize nodeD a a.path = q1 at hd1 hq1 ⊢
  generalize nodeD a b.path = q2 at hno hq2 hf2 ⊢
  obtain ⟨q3,hq3⟩:∃ Q9,Q9 = nodeD (delV q1) q2:=⟨_,rfl⟩
  rw [← hq3]
  have HQ:=Lib.hid hq3
  clear hq3
  obtain ⟨o0,o1,o2,o3,o4,o5,o6,o7,o8,o9,o10⟩:=op_cells z1
  obtain ⟨a0,a1,a2,a3,a4,a5,a6,a7,a8,a9,a10⟩:=op_cells z2
  rw [hW2] at o0 o1 o2 o3 o4 o5 o6 o7 o8 o9 o10 a0 a1 a2 a3 a4 a5 a6 a7 a8 a9 a10
  clear hb ha hlb hla z1 z2 z4 z5
  unfold opCells at hW2 hd1 hno
  unfold opCells
  go_enter Try.func151,Try.ntmps151
  go_upto_region 2 with (go_at_call 150;go_loud (rw [← hW2];refine hd1.out.mono ?_;rintro e w1 ⟨s1,rfl,h1,hb1⟩;have H1:=Lib.hid h1;have E1:=Lib.hid hb1;have y1:=(hb1.block w.heap.size (by have:=z5'.out;omega)).trans z1'.out;have y2:=(hb1.block (w.heap.size + 1) (by have:=z5'.out;omega)).trans z2'.out;have Y1:=Lib.hid y1;have Y2:=Lib.hid y2;clear o0 o1 o2 o3 o4 o5 o6 o7 o8 o9 o10 a0 a1 a2 a3 a4 a5 a6 a7 a8 a9 a10 h1 hb1 y1 y2;unfold opCells;dsimp only [delV]))
  obtain ⟨X1,hX1⟩:∃ Q9,Q9 = w1.alloc (.cells (opCells (delV q1) s1) 26):=⟨_,rfl⟩
  have x1:=Lib.hid (show X1.heap[w1.heap.size]? = some (.cells (opCells (delV q1) s1) 26 (0,0)) by rw [hX1];exact heap_alloc_new w1 _)
  have xB:=Lib.hid (show Below w1.heap.size w1 X1 by rw [hX1];exact (Below.refl _ _).alloc (Nat.le_refl _) _)
  have xS:=Lib.hid (show X1.heap.size = w1.heap.size + 1 by rw [hX1];simp)
  have hX1':X1 = w1.alloc (.cells #[.int .u8 2,.slice s1.pA s1.pn s1.pc,.int .i64 0,.slice s1.tA s1.tn s1.tc,.int .u64 0,.bool false,.string ⟨#[]⟩,.string ⟨#[]⟩,.string ⟨#[]⟩,.bool false,.slice s1.qA s1.qn s1.qc] 26):=hX1
  rw [← hX1']
  clear hX1 hX1'
  have EX:=Lib.hid (E1.out.trans (xB.out.mono E1.out.size))
  have V1:=Lib.hid (z4'.out.trans (EX.out.mono z4'.out.size))
  have r1:=(xB.out.block w.heap.size (Array.getElem?_eq_some_iff.1 Y1.out).1).trans Y1.out
  have r2:=(xB.out.block (w.heap.size + 1) (Array.getElem?_eq_some_iff.1 Y2.out).1).trans Y2.out
  obtain ⟨o0,o1,o2,o3,o4,o5,o6,o7,o8,o9,o10⟩:=op_cells r1
  obtain ⟨a0,a1,a2,a3,a4,a5,a6,a7,a8,a9,a10⟩:=op_cells r2
  obtain ⟨g,hg⟩:∃ Q9,Q9 = w1.heap.size:=⟨_,rfl⟩
  rw [← hg] at x1 ⊢
  clear r1 r2 hg
  go_upto_region 3 with (go_at_call 81;go_loud (refine (hno.out _ V1.out).mono ?_;rintro e w2 ⟨A2,n2,c2,bb,rfl,h2,hb2⟩;have H2:=Lib.hid h2;have E2:=Lib.hid hb2;clear o0 o1 o2 o3 o4 o5 o6 o7 o8 o9 o10 a0 a1 a2 a3 a4 a5 a6 a7 a8 a9 a10 h2 hb2))
  have V2:=Lib.hid (V1.out.trans (E2.out.mono V1.out.size))
  have x2:=Lib.hid ((E2.out.block g (Array.getElem?_eq_some_iff.1 x1.out).1).trans x1.out)
  have F1:=Lib.hid (H1.out.below (xB.out.trans (E2.out.mono xB.out.size)))
  have hd3:=Lib.hid (fun (W:World) (hB:Below w2.heap.size w2 W)=>by
    obtain ⟨e1,e2,e3,e4,e5⟩:=own_facts H2.out
    exact deleteBehind_any W (delV q1) s1 A2 n2 c2 q2 (F1.out.below hB) ⟨by have:=hq1.out;have:=hsz.out.1.1;have:=hsz.out.1.2;show q1.length≤1000;omega,Nat.zero_le _⟩ (e1.below hB) e2 e3 e4 (by have:=hq2.out;have:=hsz.out.1.1;have:=hsz.out.1.2;have:=hsz.out.2.1;omega) hf2.out)
  rw [← HQ.out] at hd3
  have hd3':=Lib.hid (show ∀ W,Below w2.heap.size w2 W→Calls Try.prog 150 #[.agg #[.int .u8 2,.slice s1.pA s1.pn s1.pc,.int .i64 0,.slice s1.tA s1.tn s1.tc,.int .u64 0,.bool false,.string ⟨#[]⟩,.string ⟨#[]⟩,.string ⟨#[]⟩,.bool false,.slice s1.qA s1.qn s1.qc],.slice A2 n2 c2] W (OpA W (delV q3)) from hd3.out)
  clear hd3
  have hx:=Lib.hid (fun (W:World) (hB:Below w2.heap.size w2 W)=>show W.heap[g]? = some (.cells #[.int .u8 2,.slice s1.pA s1.pn s1.pc,.int .i64 0,.slice s1.tA s1.tn s1.tc,.int .u64 0,.bool false,.string ⟨#[]⟩,.string ⟨#[]⟩,.string ⟨#[]⟩,.bool false,.slice s1.qA s1.qn s1.qc] 26 (0,0)) from (hB.block g (Array.getElem?_eq_some_iff.1 x2.out).1).trans x2.out)
  rename_i K0 hK0
  refine wp_region_held_drew (S:=(fun W=>Below w2.heap.size w2 W)) (by kernel_rfl) ((Below.refl w2.heap.size w2).drew) (fun hHeld=>?_)
  refine wpAnyH_take (i:=0) (oi:={ dst:=some 19,op:=Go.Op.load 26 (Go.Operand.tmp 5),type:=26,pos:="rows.go:52",after:=#[],guard:=none }) (v:=?_) rfl (by kernel_rfl) (by kernel_rfl) (by kernel_rfl) (fun _ _ _ h=>h) (Or.inl ⟨by rfl,?_⟩) hHeld ?_
  rotate_left 1
  · intro W hSw;obtain ⟨p0,p1,p2,p3,p4,p5,p6,p7,p8,p9,p10,pf⟩:=eleven_cells (hx.out W hSw);go_simp;try with_reducible rfl
  try simp only [Act.put,List.setIfInBounds_toArray,List.set_cons_zero,List.set_cons_succ]
  refine wpAnyH_take (i:=1) (oi:={ dst:=some 20,op:=Go.Op.load 26 (Go.Operand.tmp 5),type:=26,pos:="rows.go:52",after:=#[],guard:=none }) (v:=?_) rfl (by kernel_rfl) (by kernel_rfl) (by kernel_rfl) (fun _ _ _ h=>h) (Or.inl ⟨by rfl,?_⟩) hHeld ?_
  rotate_left 1
  · intro W hSw;obtain ⟨p0,p1,p2,p3,p4,p5,p6,p7,p8,p9,p10,pf⟩:=eleven_cells (hx.out W hSw);go_simp;try with_reducible rfl
  try simp only [Act.put,List.setIfInBounds_toArray,List.set_cons_zero,List.set_cons_succ]
  refine wpAnyH_take (i:=2) (oi:={ dst:=some 21,op:=Go.Op.move (Go.Operand.tmp 6),type:=22,pos:="rows.go:52",after:=#[],guard:=none }) (v:=?_) rfl (by kernel_rfl) (by kernel_rfl) (by kernel_rfl) (fun _ _ _ h=>h) (Or.inl ⟨by rfl,?_⟩) hHeld ?_
  rotate_left 1
  · intro W hSw;obtain ⟨p0,p1,p2,p3,p4,p5,p6,p7,p8,p9,p10,pf⟩:=eleven_cells (hx.out W hSw);go_simp;try with_reducible rfl
  try simp only [Act.put,List.setIfInBounds_toArray,List.set_cons_zero,List.set_cons_succ]
  refine wpAnyH_ready (rs:=[3]) (by kernel_rfl) (by simp) ?_
  refine AllReadyH.cons (o:={ dst:=some 22,op:=Go.Op.call { callee:=Go.Callee.value (Go.Operand.func 150),args:=#[Go.Operand.tmp 20,Go.Operand.tmp 21],argTypes:=#[26,22] },type:=26,pos:="rows.go:52",after:=#[{ on:=1,ground:=Go.Ground.data },{ on:=2,ground:=Go.Ground.data }],guard:=none }) rfl (fun K hK=>?_) AllReadyH.nil
  go_simp
  refine (hd3'.out _ hHeld).mono ?_
  rintro e w3 ⟨s3,rfl,h3,hb3⟩
  have H3:=Lib.hid h3
  have E3:=Lib.hid (Below.trans hHeld (hb3.mono (Below.size hHeld)))
  clear h3 hb3
  unfold opCells
  dsimp only [delV]
  go_simp
  refine hK.out _ _ ?_ (fun hNew=>?_)
  · exact E3.out
  clear hK K hHeld
  have hHeld:=hNew
  clear hNew
  try simp only [Act.put,List.setIfInBounds_toArray,List.set_cons_zero,List.set_cons_succ]
  refine wpAnyH_ready (rs:=[4]) (by kernel_rfl) (by simp) ?_
  refine AllReadyH.cons (o:={ dst:=some 23,op:=Go.Op.buildSlice 30 2 #[(0,Go.Operand.tmp 19),(1,Go.Operand.tmp 22)],type:=30,pos:="rows.go:52",after:=#[{ on:=0,ground:=Go.Ground.data },{ on:=3,ground:=Go.Ground.data }],guard:=none }) rfl (fun K hK=>?_) AllReadyH.nil
  go_simp
  refine hK.out _ _ ?_ (fun hNew=>?_)
  · exact (E3.out.alloc E3.out.size _)
  clear hK K hHeld
  have hHeld:=hNew
  clear hNew
  try simp only [Act.put,List.setIfInBounds_toArray,List.set_cons_zero,List.set_cons_succ]
  refine wpAnyH_ready (rs:=[5]) (by kernel_rfl) (by simp) ?_
  refine AllReadyH.cons (o:={ dst:=some 4,op:=Go.Op.assign (Go.Operand.tmp 23),type:=30,pos:="rows.go:52",after:=#[{ on:=4,ground:=Go.Ground.data },{ on:=3,ground:=Go.Ground.chain },{ on:=0,ground:=Go.Ground.phase },{ on:=1,ground:=Go.Ground.phase },{ on:=2,ground:=Go.Ground.phase },{ on:=3,ground:=Go.Ground.phase },{ on:=4,ground:=Go.Ground.phase }],guard:=none }) rfl (fun K hK=>?_) AllReadyH.nil
  go_simp
  refine hK.out _ _ hHeld (fun hNew=>?_)
  clear hK K hHeld
  have hHeld:=hNew
  clear hNew
  try simp only [Act.put,List.setIfInBounds_toArray,List.set_cons_zero,List.set_cons_succ]
  refine wpAnyH_done (by kernel_rfl) ?_ _
  refine hK0 _ _ ?_
  clear hK0
  go_wp2_with fail
  go_ret
  have E3':=E3.out
  refine ⟨_,rfl,?_⟩
  exact RowA.two (V2.out.trans (E3'.mono V2.out.size)) (F1.out.below E3') H3.out
end Go.Proofs.Ytfaolhcacaeijaa.Sqr
namespace Go.Proofs.Ytfaolhcacaeijaa.Sqr
open Go.RowKit Top Shf Sim
set_option maxRecDepth 20000
set_option linter.unusedVariables false

set_option maxHeartbeats 8000000 in
theorem rsound_any (w:World) (o:Ov) (s:OS) (ho:OpIn w o s):Calls Try.prog 76 #[.agg (opCells o s)] w fun e w'=>e = .returned (.bool (soundV o))∧Below w.heap.size w w':=by
  obtain ⟨W2,hW2⟩:∃ Q9,Q9 = w.alloc (.cells (opCells o s) 26):=⟨_,rfl⟩
  have z1:=Lib.hid (show W2.heap[w.heap.size]? = some (.cells (opCells o s) 26 (0,0)) by rw [hW2];exact heap_alloc_new w _)
  have z4':=Lib.hid (show Below w.heap.size w W2 by rw [hW2];exact (Below.refl _ _).alloc (Nat.le_refl _) _)
  have hrow:=Lib.hid (fun (W:World) (hb:Below W2.heap.size W2 W)=>(hb.block w.heap.size (Array.getElem?_eq_some_iff.1 z1.out).1).trans z1.out)
  have hfo:=Lib.hid (rformed_any W2 o s (ho.below z4'.out))
  obtain ⟨b,hb⟩:∃ b,b = P4.withinV o.path o.to_:=⟨_,rfl⟩
  have hwi:=Lib.hid (fun (W:World) (hB:Below w.heap.size w W)=>(P4.refWithin_any W s.pA s.tA s.pn s.pc s.tn s.tc o.path o.to_ (its4 (ho.below hB).path) (its4 (ho.below hB).to_) (Nat.le_trans ho.pnc ho.pcm) (Nat.le_trans ho.tnc ho.tcm)).mono (R':=fun e w'=>e = .returned (.bool b)∧∃ k,w' = W.drewN k) fun e w' h=>by rw [hb];exact h)
  obtain ⟨r,hr⟩:∃ r,r = soundV o:=⟨_,rfl⟩
  rw [← hr]
  have hrv:r = (formedV o && (if o.kind = 2 then decide (o.path ≠ []) else if o.kind = 3 then !b else true)):=by rw [hr,hb];rfl
  have hbn:o.path = []→b = true:=fun e=>by rw [hb,e];exact within_nil _
  have hpl:s.pn = o.path.length:=ho.path.1.symm
  obtain ⟨o0,o1,o2,o3,o4,o5,o6,o7,o8,o9,o10⟩:=op_cells z1.out
  rw [hW2] at o0 o1 o2 o3 o4 o5 o6 o7 o8 o9 o10
  unfold opCells at hW2 hfo
  unfold opCells
  clear ho hr hb
  generalize formedV o = f at hfo hrv
  generalize hpe:o.path = p at hrv hbn hpl
  clear hpe
  cases f with
  | false =>
    have hr':=Lib.hid (show r = false by rw [hrv];rfl)
    clear hrv hbn hpl
    try clear hk2
    try clear hk3
    try clear hp
    go_enter Try.func76,Try.ntmps76
    go_wp2_with (go_at_call 78;go_loud (rw [← hW2];refine hfo.out.mono ?_;rintro e w1 ⟨rfl,hb1⟩;have E1:=Lib.hid hb1;have B1:=Lib.hid (z4'.out.trans (hb1.mono z4'.out.size));clear hb1 o0 o1 o2 o3 o4 o5 o6 o7 o8 o9 o10;obtain ⟨o0,o1,o2,o3,o4,o5,o6,o7,o8,o9,o10⟩:=op_cells (hrow.out w1 E1.out)))
    go_ret
    exact ⟨by rw [hr'.out] <;> rfl,B1.out⟩
  | true =>
    by_cases hk2:o.kind = 2
    · by_cases hp:p = []
      · skip
        have l0:((s.pn:Int) == 0) = true:=by rw [hpl,hp];rfl
        have e2:((o.kind:Int) == 2) = true:=by simp;omega
        have hr':=Lib.hid (show r = false by rw [hrv];rw [if_pos hk2];simp [hp])
        clear hrv hbn hpl
        try clear hk2
        try clear hk3
        try clear hp
        go_enter Try.func76,Try.ntmps76
        go_wp2_with (go_at_call 78;go_loud (rw [← hW2];refine hfo.out.mono ?_;rintro e w1 ⟨rfl,hb1⟩;have E1:=Lib.hid hb1;have B1:=Lib.hid (z4'.out.trans (hb1.mono z4'.out.size));clear hb1 o0 o1 o2 o3 o4 o5 o6 o7 o8 o9 o10;obtain ⟨o0,o1,o2,o3,o4,o5,o6,o7,o8,o9,o10⟩:=op_cells (hrow.out w1 E1.out)))
        go_ret
        exact ⟨by rw [hr'.out] <;> rfl,B1.out⟩
      · skip
        have l0:((s.pn:Int) == 0) = false:=by have:=List.length_pos_iff.2 hp;simp;omega
        have e2:((o.kind:Int) == 2) = true:=by simp;omega
        have n3:((o.kind:Int) != 3) = true:=by simp;omega
        have hr':=Lib.hid (show r = true by rw [hrv];rw [if_pos hk2];simp [hp])
        clear hrv hbn hpl
        try clear hk2
        try clear hk3
        try clear hp
        go_enter Try.func76,Try.ntmps76
        go_wp2_with (go_at_call 78;go_loud (rw [← hW2];refine hfo.out.mono ?_;rintro e w1 ⟨rfl,hb1⟩;have E1:=Lib.hid hb1;have B1:=Lib.hid (z4'.out.trans (hb1.mono z4'.out.size));clear hb1 o0 o1 o2 o3 o4 o5 o6 o7 o8 o9 o10;obtain ⟨o0,o1,o2,o3,o4,o5,o6,o7,o8,o9,o10⟩:=op_cells (hrow.out w1 E1.out)))
        go_ret
        exact ⟨by rw [hr'.out] <;> rfl,B1.out⟩
    · by_cases hk3:o.kind = 3
      · by_cases hp:p = []
        · skip
          have l0:((s.pn:Int) == 0) = true:=by rw [hpl,hp];rfl
          have e2:((o.kind:Int) == 2) = false:=by simp;omega
          have e3:((o.kind:Int) == 3) = true:=by simp;omega
          have hr':=Lib.hid (show r = false by rw [hrv];rw [if_neg hk2,if_pos hk3,hbn hp];rfl)
          clear hrv hbn hpl
          try clear hk2
          try clear hk3
          try clear hp
          go_enter Try.func76,Try.ntmps76
          go_wp2_with (go_at_call 78;go_loud (rw [← hW2];refine hfo.out.mono ?_;rintro e w1 ⟨rfl,hb1⟩;have E1:=Lib.hid hb1;have B1:=Lib.hid (z4'.out.trans (hb1.mono z4'.out.size));clear hb1 o0 o1 o2 o3 o4 o5 o6 o7 o8 o9 o10;obtain ⟨o0,o1,o2,o3,o4,o5,o6,o7,o8,o9,o10⟩:=op_cells (hrow.out w1 E1.out)))
          go_ret
          exact ⟨by rw [hr'.out] <;> rfl,B1.out⟩
        · skip
          have l0:((s.pn:Int) == 0) = false:=by have:=List.length_pos_iff.2 hp;simp;omega
          have e2:((o.kind:Int) == 2) = false:=by simp;omega
          have e3:((o.kind:Int) == 3) = true:=by simp;omega
          have n3:((o.kind:Int) != 3) = false:=by simp;omega
          have hr':=Lib.hid (show r = !b by rw [hrv];rw [if_neg hk2,if_pos hk3];rfl)
          clear hrv hbn hpl
          try clear hk2
          try clear hk3
          try clear hp
          go_enter Try.func76,Try.ntmps76
          go_wp2_with (first | (go_at_call 78;go_loud (rw [← hW2];refine hfo.out.mono ?_;rintro e w1 ⟨rfl,hb1⟩;have E1:=Lib.hid hb1;have B1:=Lib.hid (z4'.out.trans (hb1.mono z4'.out.size));clear hb1 o0 o1 o2 o3 o4 o5 o6 o7 o8 o9 o10;obtain ⟨o0,o1,o2,o3,o4,o5,o6,o7,o8,o9,o10⟩:=op_cells (hrow.out w1 E1.out))) | (go_at_call 159;go_loud (refine (hwi.out _ B1.out).mono ?_;rintro e w2 ⟨rfl,k2,rfl⟩)))
          go_ret
          exact ⟨by rw [hr'.out] <;> rfl,draws B1.out _⟩
      · skip
        have e2:((o.kind:Int) == 2) = false:=by simp;omega
        have e3:((o.kind:Int) == 3) = false:=by simp;omega
        have n3:((o.kind:Int) != 3) = true:=by simp;omega
        have hr':=Lib.hid (show r = true by rw [hrv];rw [if_neg hk2,if_neg hk3];rfl)
        clear hrv hbn hpl
        try clear hk2
        try clear hk3
        try clear hp
        go_enter Try.func76,Try.ntmps76
        go_wp2_with (go_at_call 78;go_loud (rw [← hW2];refine hfo.out.mono ?_;rintro e w1 ⟨rfl,hb1⟩;have E1:=Lib.hid hb1;have B1:=Lib.hid (z4'.out.trans (hb1.mono z4'.out.size));clear hb1 o0 o1 o2 o3 o4 o5 o6 o7 o8 o9 o10;obtain ⟨o0,o1,o2,o3,o4,o5,o6,o7,o8,o9,o10⟩:=op_cells (hrow.out w1 E1.out)))
        go_ret
        exact ⟨by rw [hr'.out] <;> rfl,B1.out⟩
theorem one_any (w:World) (o:Ov) (s:OS) (ho:OpIn w o s):Calls Try.prog 160 #[.agg (opCells o s)] w fun e w'=>∃ v,e = .returned v∧RowA w [o] v w':=by
  obtain ⟨W2,hW2⟩:∃ Q9,Q9 = w.alloc (.cells (opCells o s) 26):=⟨_,rfl⟩
  have z1:=Lib.hid (show W2.heap[w.heap.size]? = some (.cells (opCells o s) 26 (0,0)) by rw [hW2];exact heap_alloc_new w _)
  have z4':=Lib.hid (show Below w.heap.size w W2 by rw [hW2];exact (Below.refl _ _).alloc (Nat.le_refl _) _)
  have hfin:=Lib.hid (RowA.one (X:=W2) z4'.out (ho.below z4'.out))
  obtain ⟨o0,o1,o2,o3,o4,o5,o6,o7,o8,o9,o10⟩:=op_cells z1.out
  unfold opCells at hW2 hfin
  unfold opCells
  rw [hW2] at o0 o1 o2 o3 o4 o5 o6 o7 o8 o9 o10
  clear ho
  go_enter Try.func160,Try.ntmps160
  go_wp2_with fail
  go_ret
  rw [← hW2]
  have hz:W2.heap.size = w.heap.size + 1:=by rw [hW2];simp
  rw [hz] at hfin
  exact ⟨_,rfl,hfin.out⟩
theorem keep_any (w:World) (h:Bool) (A:Option Addr) (n c:Nat):Calls Try.prog 163 #[.bool h,.slice A n c] w fun e w'=>e = .returned (if h = true then .slice A n c else .slice none 0 0)∧w' = w:=by
  cases h with
  | true =>
    go_enter Try.func163,Try.ntmps163
    go_wp2_with fail
    go_ret
    exact ⟨rfl,rfl⟩
  | false =>
    go_enter Try.func163,Try.ntmps163
    go_wp2_with fail
    go_ret
    exact ⟨rfl,rfl⟩
end Go.Proofs.Ytfaolhcacaeijaa.Sqr
namespace Go.Proofs.Ytfaolhcacaeijaa.Sqr
open Go.RowKit Top Shf Sim
set_option maxRecDepth 20000
set_option linter.unusedVariables false


theorem rowA_slice {w w':World} {l:List Ov} {v:Value} (h:RowA w l v w'):∃ A n c,v = .slice A n c:=by
  obtain ⟨l',X,h1,h2,h3,h4,h5⟩:=h
  obtain ⟨A,n,c,rfl,-⟩:=h4.shape
  exact ⟨A,n,c,rfl⟩
theorem eqV_len {p q:List Int} (h:p.length ≠ q.length):P4.eqV p q = false:=by
  unfold P4.eqV
  simp
  intro e
  exact h (by rw [e])
theorem within_len {p q:List Int} (h:¬ p.length < q.length):P4.eqV p q = true∨P4.withinV p q = false:=by
  rw [within_pre]
  by_cases hp:p <+: q
  · refine .inl ?_
    have e:=hp.eq_of_length_le (by omega)
    unfold P4.eqV
    simp [e]
  · exact .inr (by simp [hp])
theorem keep_true (w:World) (A:Option Addr) (n c:Nat):Calls Try.prog 163 #[.bool true,.slice A n c] w fun e w'=>e = .returned (.slice A n c)∧w' = w:=by simpa using keep_any w true A n c
theorem keep_false (w:World) (A:Option Addr) (n c:Nat):Calls Try.prog 163 #[.bool false,.slice A n c] w fun e w'=>e = .returned (.slice none 0 0)∧w' = w:=by simpa using keep_any w false A n c
theorem rundo_in (w:World) (a:Ov) (s:OS) (ha:OpIn w a s) (hl:Tiny a):Calls Try.prog 124 #[.agg (opCells a s)] w (OpA w (undoV (chV a))):=by
  refine (rUndo_any w a s ha hl.slen).mono fun e w' h=>?_
  obtain ⟨s',rfl,h1,h2⟩:=h
  exact ⟨s',rfl,h1.op (undo_ok (op_ok ha) hl),h2⟩
set_option maxHeartbeats 32000000 in
theorem twoMoves_any (w:World) (b a:Ov) (sb sa:OS) (prior:Bool) (hb:OpIn w b sb) (ha:OpIn w a sa) (hlb:Tiny b) (hla:Tiny a) (hkb:b.kind = 3) (hka:a.kind = 3) :
    Calls Try.prog 162 #[.agg (opCells b sb),.agg (opCells a sa),.bool prior] w fun e w'=>∃ v,e = .returned v∧RowA w (becomesV b a prior) v w':=by
  obtain ⟨z1,z2,z4,z5⟩:=two_news w (.cells (opCells b sb) 26) (.cells (opCells a sa) 26)
  obtain ⟨W2,hW2⟩:∃ Q9,Q9 = ((w.alloc (.cells (opCells b sb) 26)).alloc (.cells (opCells a sa) 26)):=⟨_,rfl⟩
  rw [← hW2] at z1 z2 z4 z5
  have z1':=Lib.hid z1
  have z2':=Lib.hid z2
  have z4':=Lib.hid z4
  have z5':=Lib.hid z5
  have hrow:=Lib.hid (fun (W:World) (hB:Below W2.heap.size W2 W)=>And.intro ((hB.block w.heap.size (by omega)).trans z1) ((hB.block (w.heap.size + 1) (by omega)).trans z2))
  obtain ⟨sm,hsm⟩:∃ Q9,Q9 = P4.eqV b.path a.path:=⟨_,rfl⟩
  have hs:=Lib.hid (fun (W:World) (hB:Below w.heap.size w W)=>(rsame_its W sa.pA sb.pA sa.pn sa.pc sb.pn sb.pc a.path b.path (ha.below hB).path (hb.below hB).path (Nat.le_trans ha.pnc ha.pcm) (Nat.le_trans hb.pnc hb.pcm)).mono (R':=fun e w'=>e = .returned (.bool sm)∧∃ k,w' = W.drewN k) fun e w' h=>⟨by rw [hsm,eqV_comm];exact h.1,h.2⟩)
  have hsm2:=Lib.hid hsm.symm
  have hbo:=Lib.hid (fun (W:World) (hB:Below w.heap.size w W)=>And.intro (hb.below hB) (ha.below hB))
  have hkr:=Lib.hid (show b.kind < 256∧a.kind < 256 from ⟨hb.kind,ha.kind⟩)
  have hti:=Lib.hid (And.intro hlb hla)
  have hw4:=Lib.hid (fun (W:World) (hB:Below w.heap.size w W)=>P4.refWithin_any W sb.pA sa.tA sb.pn sb.pc sa.tn sa.tc b.path a.to_ (its4 (hb.below hB).path) (its4 (ha.below hB).to_) (Nat.le_trans hb.pnc hb.pcm) (Nat.le_trans ha.tnc ha.tcm))
  have hw2:=Lib.hid (fun (W:World) (hB:Below w.heap.size w W)=>P4.refWithin_any W sa.pA sb.tA sa.pn sa.pc sb.tn sb.tc a.path b.to_ (its4 (ha.below hB).path) (its4 (hb.below hB).to_) (Nat.le_trans ha.pnc ha.pcm) (Nat.le_trans hb.tnc hb.tcm))
  have HV:=Lib.hid (And.intro hkb hka)
  have hshift:=Lib.hid (fun (W:World) (hB:Below w.heap.size w W)=>row9_any W b a sb sa prior (hb.below hB) (ha.below hB) hlb.slen hla.slen)
  have hundo:=Lib.hid (fun (W:World) (hB:Below w.heap.size w W)=>rundo_in W a sa (ha.below hB) hla)
  clear hb ha z1 z2 z4 z5 hlb hla hsm
  unfold opCells at hW2 hshift hundo
  unfold opCells
  clear hkb hka
  go_enter Try.func162,Try.ntmps162
  go_upto_region 1 with fail
  rw [← hW2]
  clear hW2
  obtain ⟨r1,r2⟩:=hrow.out W2 (Below.refl _ _)
  obtain ⟨o0,o1,o2,o3,o4,o5,o6,o7,o8,o9,o10⟩:=op_cells r1
  obtain ⟨a0,a1,a2,a3,a4,a5,a6,a7,a8,a9,a10⟩:=op_cells r2
  clear r1 r2
  cases sm with
  | true =>
    cases prior with
    | true =>
      have hval:=Lib.hid (show becomesV b a true = [shiftedV b a true] from (val_k33a HV.out.1 HV.out.2 hsm2.out).trans (if_pos rfl))
      go_wp2_with (first | (go_at_call 163;go_loud (refine (keep_true _ A9 n9 c9).mono ?_;rintro e wk ⟨rfl,rfl⟩)) | (go_at_call 160;go_loud (refine (one_any w8 _ s8 H8.out).mono ?_;rintro e w9 ⟨v9,rfl,h9⟩;obtain ⟨A9,n9,c9,rfl⟩:=rowA_slice h9;have H9:=Lib.hid (h9.from_ V8.out);clear h9)) | (go_at_call 164;go_loud (refine (hshift.out _ (by first | exact z4'.out | exact draws z4'.out _)).mono ?_;rintro e w8 ⟨s8,rfl,h8,hb8⟩;have H8:=Lib.hid h8;have V8:=Lib.hid (show Below w.heap.size w w8 by first | exact Below.trans z4'.out (hb8.mono (Below.size z4'.out)) | exact Below.trans (draws z4'.out _) (hb8.mono (Below.size (draws z4'.out _))));clear h8 hb8 o0 o1 o2 o3 o4 o5 o6 o7 o8 o9 o10 a0 a1 a2 a3 a4 a5 a6 a7 a8 a9 a10;unfold opCells)) | (go_at_call 79;go_loud (refine (hs.out _ (by first | exact z4'.out | exact draws z4'.out _)).mono ?_;rintro e ws ⟨rfl,ks,rfl⟩)))
      go_ret
      rw [hval.out]
      exact ⟨_,rfl,H9.out⟩
    | false =>
      have hval:=Lib.hid (show becomesV b a false = [] from (val_k33a HV.out.1 HV.out.2 hsm2.out).trans (if_neg (by decide)))
      go_wp2_with (first | (go_at_call 163;go_loud (refine (keep_false _ A9 n9 c9).mono ?_;rintro e wk ⟨rfl,rfl⟩)) | (go_at_call 160;go_loud (refine (one_any w8 _ s8 H8.out).mono ?_;rintro e w9 ⟨v9,rfl,h9⟩;obtain ⟨A9,n9,c9,rfl⟩:=rowA_slice h9;have H9:=Lib.hid (h9.from_ V8.out);clear h9)) | (go_at_call 164;go_loud (refine (hshift.out _ (by first | exact z4'.out | exact draws z4'.out _)).mono ?_;rintro e w8 ⟨s8,rfl,h8,hb8⟩;have H8:=Lib.hid h8;have V8:=Lib.hid (show Below w.heap.size w w8 by first | exact Below.trans z4'.out (hb8.mono (Below.size z4'.out)) | exact Below.trans (draws z4'.out _) (hb8.mono (Below.size (draws z4'.out _))));clear h8 hb8 o0 o1 o2 o3 o4 o5 o6 o7 o8 o9 o10 a0 a1 a2 a3 a4 a5 a6 a7 a8 a9 a10;unfold opCells)) | (go_at_call 79;go_loud (refine (hs.out _ (by first | exact z4'.out | exact draws z4'.out _)).mono ?_;rintro e ws ⟨rfl,ks,rfl⟩)))
      go_ret
      rw [hval.out]
      exact ⟨_,rfl,RowA.none_ H9.out.bel⟩
  | false =>
    cases h_w4:P4.withinV b.path a.to_ with
    | true =>
      rw [h_w4] at hw4
      have H_w4:=Lib.hid h_w4
      clear h_w4
      cases h_w2:P4.withinV a.path b.to_ with
      | true =>
        rw [h_w2] at hw2
        have H_w2:=Lib.hid h_w2
        clear h_w2
        cases prior with
        | true =>
          have hval:=Lib.hid (show becomesV b a true = [undoV (chV a),b] from (val_k33b HV.out.1 HV.out.2 hsm2.out H_w4.out H_w2.out).trans (if_pos rfl))
          go_upto_region 4 with (first | (go_at_call_of 159 sb.tA;go_loud (refine (hw2.out _ (by first | exact z4'.out | exact draws z4'.out _)).mono ?_;rintro e wy ⟨rfl,kw2,rfl⟩)) | (go_at_call_of 159 sa.tA;go_loud (refine (hw4.out _ (by first | exact z4'.out | exact draws z4'.out _)).mono ?_;rintro e wy ⟨rfl,kw4,rfl⟩)) | (go_at_call 79;go_loud (refine (hs.out _ (by first | exact z4'.out | exact draws z4'.out _)).mono ?_;rintro e ws ⟨rfl,ks,rfl⟩)))
          clear o0 o1 o2 o3 o4 o5 o6 o7 o8 o9 o10 a0 a1 a2 a3 a4 a5 a6 a7 a8 a9 a10
          obtain ⟨wd,hwd⟩:∃ Q9,Q9 = W2.drewN (ks + kw4 + kw2):=⟨_,rfl⟩
          rw [← hwd]
          have Vd:=Lib.hid (show Below W2.heap.size W2 wd by rw [hwd];exact draws (Below.refl _ _) _)
          have Ud:=Lib.hid (z4'.out.trans (Vd.out.mono z4'.out.size))
          have hrd:=Lib.hid (fun (W:World) (hB:Below wd.heap.size wd W)=>hrow.out W (Vd.out.trans (hB.mono Vd.out.size)))
          clear hwd
          rename_i K0 hK0
          refine wp_region_held_drew (S:=(fun W=>Below wd.heap.size wd W)) (by kernel_rfl) ((Below.refl wd.heap.size wd).drew) (fun hHeld=>?_)
          refine wpAnyH_take (i:=0) (oi:={ dst:=some 31,op:=Go.Op.move (Go.Operand.tmp 2),type:=4,pos:="ref.go:59",after:=#[],guard:=none }) (v:=?_) rfl (by kernel_rfl) (by kernel_rfl) (by kernel_rfl) (fun _ _ _ h=>h) (Or.inl ⟨by rfl,?_⟩) hHeld ?_
          rotate_left 1
          · intro W hSw;obtain ⟨r1,r2⟩:=hrd.out W hSw;obtain ⟨o0,o1,o2,o3,o4,o5,o6,o7,o8,o9,o10⟩:=op_cells r1;obtain ⟨a0,a1,a2,a3,a4,a5,a6,a7,a8,a9,a10⟩:=op_cells r2;go_simp;try with_reducible rfl
          try simp only [Act.put,List.setIfInBounds_toArray,List.set_cons_zero,List.set_cons_succ]
          refine wpAnyH_take (i:=1) (oi:={ dst:=some 32,op:=Go.Op.load 26 (Go.Operand.tmp 4),type:=26,pos:="ref.go:59",after:=#[],guard:=none }) (v:=?_) rfl (by kernel_rfl) (by kernel_rfl) (by kernel_rfl) (fun _ _ _ h=>h) (Or.inl ⟨by rfl,?_⟩) hHeld ?_
          rotate_left 1
          · intro W hSw;obtain ⟨r1,r2⟩:=hrd.out W hSw;obtain ⟨o0,o1,o2,o3,o4,o5,o6,o7,o8,o9,o10⟩:=op_cells r1;obtain ⟨a0,a1,a2,a3,a4,a5,a6,a7,a8,a9,a10⟩:=op_cells r2;go_simp;try with_reducible rfl
          try simp only [Act.put,List.setIfInBounds_toArray,List.set_cons_zero,List.set_cons_succ]
          refine wpAnyH_take (i:=3) (oi:={ dst:=some 34,op:=Go.Op.load 26 (Go.Operand.tmp 3),type:=26,pos:="ref.go:59",after:=#[],guard:=none }) (v:=?_) rfl (by kernel_rfl) (by kernel_rfl) (by kernel_rfl) (fun _ _ _ h=>h) (Or.inl ⟨by rfl,?_⟩) hHeld ?_
          rotate_left 1
          · intro W hSw;obtain ⟨r1,r2⟩:=hrd.out W hSw;obtain ⟨o0,o1,o2,o3,o4,o5,o6,o7,o8,o9,o10⟩:=op_cells r1;obtain ⟨a0,a1,a2,a3,a4,a5,a6,a7,a8,a9,a10⟩:=op_cells r2;go_simp;try with_reducible rfl
          try simp only [Act.put,List.setIfInBounds_toArray,List.set_cons_zero,List.set_cons_succ]
          refine wpAnyH_ready (rs:=[2]) (by kernel_rfl) (by simp) ?_
          refine AllReadyH.cons (o:={ dst:=some 33,op:=Go.Op.call { callee:=Go.Callee.value (Go.Operand.func 124),args:=#[Go.Operand.tmp 32],argTypes:=#[26] },type:=26,pos:="ref.go:59",after:=#[{ on:=1,ground:=Go.Ground.data }],guard:=none }) rfl (fun K hK=>?_) AllReadyH.nil
          go_simp
          refine (hundo.out _ (Ud.out.trans (hHeld.mono Ud.out.size))).mono ?_
          rintro e w8 ⟨s8,rfl,h8,hb8⟩
          have H8:=Lib.hid h8
          have E8:=Lib.hid (Below.trans hHeld (hb8.mono (Below.size hHeld)))
          clear h8 hb8
          unfold opCells
          go_simp
          refine hK.out _ _ ?_ (fun hNew=>?_)
          · exact E8.out
          clear hK K hHeld
          have hHeld:=hNew
          clear hNew
          try simp only [Act.put,List.setIfInBounds_toArray,List.set_cons_zero,List.set_cons_succ]
          refine wpAnyH_ready (rs:=[4]) (by kernel_rfl) (by simp) ?_
          refine AllReadyH.cons (o:={ dst:=some 35,op:=Go.Op.buildSlice 30 2 #[(0,Go.Operand.tmp 33),(1,Go.Operand.tmp 34)],type:=30,pos:="ref.go:59",after:=#[{ on:=2,ground:=Go.Ground.data },{ on:=3,ground:=Go.Ground.data }],guard:=none }) rfl (fun K hK=>?_) AllReadyH.nil
          go_simp
          refine hK.out _ _ ?_ (fun hNew=>?_)
          · exact (E8.out.alloc E8.out.size _)
          clear hK K hHeld
          have hHeld:=hNew
          clear hNew
          try simp only [Act.put,List.setIfInBounds_toArray,List.set_cons_zero,List.set_cons_succ]
          refine wpAnyH_ready (rs:=[5]) (by kernel_rfl) (by simp) ?_
          refine AllReadyH.cons (o:={ dst:=some 36,op:=Go.Op.call { callee:=Go.Callee.value (Go.Operand.func 163),args:=#[Go.Operand.tmp 31,Go.Operand.tmp 35],argTypes:=#[4,30] },type:=30,pos:="ref.go:59",after:=#[{ on:=0,ground:=Go.Ground.data },{ on:=4,ground:=Go.Ground.data },{ on:=2,ground:=Go.Ground.chain }],guard:=none }) rfl (fun K hK=>?_) AllReadyH.nil
          go_simp
          refine (keep_true _ _ _ _).mono ?_
          rintro e wk ⟨rfl,rfl⟩
          go_simp
          refine hK.out _ _ ?_ (fun hNew=>?_)
          · exact hHeld
          clear hK K hHeld
          have hHeld:=hNew
          clear hNew
          try simp only [Act.put,List.setIfInBounds_toArray,List.set_cons_zero,List.set_cons_succ]
          refine wpAnyH_ready (rs:=[6]) (by kernel_rfl) (by simp) ?_
          refine AllReadyH.cons (o:={ dst:=some 6,op:=Go.Op.assign (Go.Operand.tmp 36),type:=30,pos:="ref.go:59",after:=#[{ on:=5,ground:=Go.Ground.data },{ on:=5,ground:=Go.Ground.chain },{ on:=0,ground:=Go.Ground.phase },{ on:=1,ground:=Go.Ground.phase },{ on:=2,ground:=Go.Ground.phase },{ on:=3,ground:=Go.Ground.phase },{ on:=4,ground:=Go.Ground.phase },{ on:=5,ground:=Go.Ground.phase }],guard:=none }) rfl (fun K hK=>?_) AllReadyH.nil
          go_simp
          refine hK.out _ _ hHeld (fun hNew=>?_)
          clear hK K hHeld
          have hHeld:=hNew
          clear hNew
          try simp only [Act.put,List.setIfInBounds_toArray,List.set_cons_zero,List.set_cons_succ]
          refine wpAnyH_done (by kernel_rfl) ?_ _
          refine hK0 _ _ ?_
          clear hK0
          go_wp2_with fail
          go_ret
          rw [hval.out]
          have V9:=Ud.out.trans (E8.out.mono Ud.out.size)
          exact ⟨_,rfl,RowA.two (s:=s8) (t:=sb) V9 H8.out (hbo.out _ V9).1⟩
        | false =>
          have hval:=Lib.hid (show becomesV b a false = [] from (val_k33b HV.out.1 HV.out.2 hsm2.out H_w4.out H_w2.out).trans (if_neg (by decide)))
          go_upto_region 4 with (first | (go_at_call_of 159 sb.tA;go_loud (refine (hw2.out _ (by first | exact z4'.out | exact draws z4'.out _)).mono ?_;rintro e wy ⟨rfl,kw2,rfl⟩)) | (go_at_call_of 159 sa.tA;go_loud (refine (hw4.out _ (by first | exact z4'.out | exact draws z4'.out _)).mono ?_;rintro e wy ⟨rfl,kw4,rfl⟩)) | (go_at_call 79;go_loud (refine (hs.out _ (by first | exact z4'.out | exact draws z4'.out _)).mono ?_;rintro e ws ⟨rfl,ks,rfl⟩)))
          clear o0 o1 o2 o3 o4 o5 o6 o7 o8 o9 o10 a0 a1 a2 a3 a4 a5 a6 a7 a8 a9 a10
          obtain ⟨wd,hwd⟩:∃ Q9,Q9 = W2.drewN (ks + kw4 + kw2):=⟨_,rfl⟩
          rw [← hwd]
          have Vd:=Lib.hid (show Below W2.heap.size W2 wd by rw [hwd];exact draws (Below.refl _ _) _)
          have Ud:=Lib.hid (z4'.out.trans (Vd.out.mono z4'.out.size))
          have hrd:=Lib.hid (fun (W:World) (hB:Below wd.heap.size wd W)=>hrow.out W (Vd.out.trans (hB.mono Vd.out.size)))
          clear hwd
          rename_i K0 hK0
          refine wp_region_held_drew (S:=(fun W=>Below wd.heap.size wd W)) (by kernel_rfl) ((Below.refl wd.heap.size wd).drew) (fun hHeld=>?_)
          refine wpAnyH_take (i:=0) (oi:={ dst:=some 31,op:=Go.Op.move (Go.Operand.tmp 2),type:=4,pos:="ref.go:59",after:=#[],guard:=none }) (v:=?_) rfl (by kernel_rfl) (by kernel_rfl) (by kernel_rfl) (fun _ _ _ h=>h) (Or.inl ⟨by rfl,?_⟩) hHeld ?_
          rotate_left 1
          · intro W hSw;obtain ⟨r1,r2⟩:=hrd.out W hSw;obtain ⟨o0,o1,o2,o3,o4,o5,o6,o7,o8,o9,o10⟩:=op_cells r1;obtain ⟨a0,a1,a2,a3,a4,a5,a6,a7,a8,a9,a10⟩:=op_cells r2;go_simp;try with_reducible rfl
          try simp only [Act.put,List.setIfInBounds_toArray,List.set_cons_zero,List.set_cons_succ]
          refine wpAnyH_take (i:=1) (oi:={ dst:=some 32,op:=Go.Op.load 26 (Go.Operand.tmp 4),type:=26,pos:="ref.go:59",after:=#[],guard:=none }) (v:=?_) rfl (by kernel_rfl) (by kernel_rfl) (by kernel_rfl) (fun _ _ _ h=>h) (Or.inl ⟨by rfl,?_⟩) hHeld ?_
          rotate_left 1
          · intro W hSw;obtain ⟨r1,r2⟩:=hrd.out W hSw;obtain ⟨o0,o1,o2,o3,o4,o5,o6,o7,o8,o9,o10⟩:=op_cells r1;obtain ⟨a0,a1,a2,a3,a4,a5,a6,a7,a8,a9,a10⟩:=op_cells r2;go_simp;try with_reducible rfl
          try simp only [Act.put,List.setIfInBounds_toArray,List.set_cons_zero,List.set_cons_succ]
          refine wpAnyH_take (i:=3) (oi:={ dst:=some 34,op:=Go.Op.load 26 (Go.Operand.tmp 3),type:=26,pos:="ref.go:59",after:=#[],guard:=none }) (v:=?_) rfl (by kernel_rfl) (by kernel_rfl) (by kernel_rfl) (fun _ _ _ h=>h) (Or.inl ⟨by rfl,?_⟩) hHeld ?_
          rotate_left 1
          · intro W hSw;obtain ⟨r1,r2⟩:=hrd.out W hSw;obtain ⟨o0,o1,o2,o3,o4,o5,o6,o7,o8,o9,o10⟩:=op_cells r1;obtain ⟨a0,a1,a2,a3,a4,a5,a6,a7,a8,a9,a10⟩:=op_cells r2;go_simp;try with_reducible rfl
          try simp only [Act.put,List.setIfInBounds_toArray,List.set_cons_zero,List.set_cons_succ]
          refine wpAnyH_ready (rs:=[2]) (by kernel_rfl) (by simp) ?_
          refine AllReadyH.cons (o:={ dst:=some 33,op:=Go.Op.call { callee:=Go.Callee.value (Go.Operand.func 124),args:=#[Go.Operand.tmp 32],argTypes:=#[26] },type:=26,pos:="ref.go:59",after:=#[{ on:=1,ground:=Go.Ground.data }],guard:=none }) rfl (fun K hK=>?_) AllReadyH.nil
          go_simp
          refine (hundo.out _ (Ud.out.trans (hHeld.mono Ud.out.size))).mono ?_
          rintro e w8 ⟨s8,rfl,h8,hb8⟩
          have H8:=Lib.hid h8
          have E8:=Lib.hid (Below.trans hHeld (hb8.mono (Below.size hHeld)))
          clear h8 hb8
          unfold opCells
          go_simp
          refine hK.out _ _ ?_ (fun hNew=>?_)
          · exact E8.out
          clear hK K hHeld
          have hHeld:=hNew
          clear hNew
          try simp only [Act.put,List.setIfInBounds_toArray,List.set_cons_zero,List.set_cons_succ]
          refine wpAnyH_ready (rs:=[4]) (by kernel_rfl) (by simp) ?_
          refine AllReadyH.cons (o:={ dst:=some 35,op:=Go.Op.buildSlice 30 2 #[(0,Go.Operand.tmp 33),(1,Go.Operand.tmp 34)],type:=30,pos:="ref.go:59",after:=#[{ on:=2,ground:=Go.Ground.data },{ on:=3,ground:=Go.Ground.data }],guard:=none }) rfl (fun K hK=>?_) AllReadyH.nil
          go_simp
          refine hK.out _ _ ?_ (fun hNew=>?_)
          · exact (E8.out.alloc E8.out.size _)
          clear hK K hHeld
          have hHeld:=hNew
          clear hNew
          try simp only [Act.put,List.setIfInBounds_toArray,List.set_cons_zero,List.set_cons_succ]
          refine wpAnyH_ready (rs:=[5]) (by kernel_rfl) (by simp) ?_
          refine AllReadyH.cons (o:={ dst:=some 36,op:=Go.Op.call { callee:=Go.Callee.value (Go.Operand.func 163),args:=#[Go.Operand.tmp 31,Go.Operand.tmp 35],argTypes:=#[4,30] },type:=30,pos:="ref.go:59",after:=#[{ on:=0,ground:=Go.Ground.data },{ on:=4,ground:=Go.Ground.data },{ on:=2,ground:=Go.Ground.chain }],guard:=none }) rfl (fun K hK=>?_) AllReadyH.nil
          go_simp
          refine (keep_false _ _ _ _).mono ?_
          rintro e wk ⟨rfl,rfl⟩
          go_simp
          refine hK.out _ _ ?_ (fun hNew=>?_)
          · exact hHeld
          clear hK K hHeld
          have hHeld:=hNew
          clear hNew
          try simp only [Act.put,List.setIfInBounds_toArray,List.set_cons_zero,List.set_cons_succ]
          refine wpAnyH_ready (rs:=[6]) (by kernel_rfl) (by simp) ?_
          refine AllReadyH.cons (o:={ dst:=some 6,op:=Go.Op.assign (Go.Operand.tmp 36),type:=30,pos:="ref.go:59",after:=#[{ on:=5,ground:=Go.Ground.data },{ on:=5,ground:=Go.Ground.chain },{ on:=0,ground:=Go.Ground.phase },{ on:=1,ground:=Go.Ground.phase },{ on:=2,ground:=Go.Ground.phase },{ on:=3,ground:=Go.Ground.phase },{ on:=4,ground:=Go.Ground.phase },{ on:=5,ground:=Go.Ground.phase }],guard:=none }) rfl (fun K hK=>?_) AllReadyH.nil
          go_simp
          refine hK.out _ _ hHeld (fun hNew=>?_)
          clear hK K hHeld
          have hHeld:=hNew
          clear hNew
          try simp only [Act.put,List.setIfInBounds_toArray,List.set_cons_zero,List.set_cons_succ]
          refine wpAnyH_done (by kernel_rfl) ?_ _
          refine hK0 _ _ ?_
          clear hK0
          go_wp2_with fail
          go_ret
          rw [hval.out]
          have V9:=Ud.out.trans (E8.out.mono Ud.out.size)
          exact ⟨_,rfl,RowA.none_ (V9.alloc V9.size _)⟩
      | false =>
        rw [h_w2] at hw2
        have H_w2:=Lib.hid h_w2
        clear h_w2
        have hval:=Lib.hid (show becomesV b a prior = [shiftedV b a prior] from val_k33c HV.out.1 HV.out.2 hsm2.out (.inr H_w2.out))
        go_wp2_with (first | (go_at_call 160;go_loud (refine (one_any w8 _ s8 H8.out).mono ?_;rintro e w9 ⟨v9,rfl,h9⟩;obtain ⟨A9,n9,c9,rfl⟩:=rowA_slice h9;have H9:=Lib.hid (h9.from_ V8.out);clear h9)) | (go_at_call 164;go_loud (refine (hshift.out _ (by first | exact z4'.out | exact draws z4'.out _)).mono ?_;rintro e w8 ⟨s8,rfl,h8,hb8⟩;have H8:=Lib.hid h8;have V8:=Lib.hid (show Below w.heap.size w w8 by first | exact Below.trans z4'.out (hb8.mono (Below.size z4'.out)) | exact Below.trans (draws z4'.out _) (hb8.mono (Below.size (draws z4'.out _))));clear h8 hb8 o0 o1 o2 o3 o4 o5 o6 o7 o8 o9 o10 a0 a1 a2 a3 a4 a5 a6 a7 a8 a9 a10;unfold opCells)) | (go_at_call_of 159 sb.tA;go_loud (refine (hw2.out _ (by first | exact z4'.out | exact draws z4'.out _)).mono ?_;rintro e wy ⟨rfl,kw2,rfl⟩)) | (go_at_call_of 159 sa.tA;go_loud (refine (hw4.out _ (by first | exact z4'.out | exact draws z4'.out _)).mono ?_;rintro e wy ⟨rfl,kw4,rfl⟩)) | (go_at_call 79;go_loud (refine (hs.out _ (by first | exact z4'.out | exact draws z4'.out _)).mono ?_;rintro e ws ⟨rfl,ks,rfl⟩)))
        go_ret
        rw [hval.out]
        exact ⟨_,rfl,H9.out⟩
    | false =>
      rw [h_w4] at hw4
      have H_w4:=Lib.hid h_w4
      clear h_w4
      have hval:=Lib.hid (show becomesV b a prior = [shiftedV b a prior] from val_k33c HV.out.1 HV.out.2 hsm2.out (.inl H_w4.out))
      go_wp2_with (first | (go_at_call 160;go_loud (refine (one_any w8 _ s8 H8.out).mono ?_;rintro e w9 ⟨v9,rfl,h9⟩;obtain ⟨A9,n9,c9,rfl⟩:=rowA_slice h9;have H9:=Lib.hid (h9.from_ V8.out);clear h9)) | (go_at_call 164;go_loud (refine (hshift.out _ (by first | exact z4'.out | exact draws z4'.out _)).mono ?_;rintro e w8 ⟨s8,rfl,h8,hb8⟩;have H8:=Lib.hid h8;have V8:=Lib.hid (show Below w.heap.size w w8 by first | exact Below.trans z4'.out (hb8.mono (Below.size z4'.out)) | exact Below.trans (draws z4'.out _) (hb8.mono (Below.size (draws z4'.out _))));clear h8 hb8 o0 o1 o2 o3 o4 o5 o6 o7 o8 o9 o10 a0 a1 a2 a3 a4 a5 a6 a7 a8 a9 a10;unfold opCells)) | (go_at_call_of 159 sa.tA;go_loud (refine (hw4.out _ (by first | exact z4'.out | exact draws z4'.out _)).mono ?_;rintro e wy ⟨rfl,kw4,rfl⟩)) | (go_at_call 79;go_loud (refine (hs.out _ (by first | exact z4'.out | exact draws z4'.out _)).mono ?_;rintro e ws ⟨rfl,ks,rfl⟩)))
      go_ret
      rw [hval.out]
      exact ⟨_,rfl,H9.out⟩
end Go.Proofs.Ytfaolhcacaeijaa.Sqr
namespace Go.Proofs.Ytfaolhcacaeijaa.Sqr
open Go.RowKit Top Shf Sim
set_option maxRecDepth 20000
set_option linter.unusedVariables false


set_option maxHeartbeats 32000000 in
theorem rbehind_k33 (w:World) (b a:Ov) (sb sa:OS) (prior:Bool) (hb:OpIn w b sb) (ha:OpIn w a sa) (hlb:Tiny b) (hla:Tiny a) (hkb:b.kind = 3) (hka:a.kind = 3) :
    Calls Try.prog 77 #[.agg (opCells b sb),.agg (opCells a sa),.bool prior] w fun e w'=>∃ v,e = .returned (.tuple #[v,.int .i64 0])∧RowA w (becomesV b a prior) v w':=by
  obtain ⟨z1,z2,z4,z5⟩:=two_news w (.cells (opCells b sb) 26) (.cells (opCells a sa) 26)
  obtain ⟨W2,hW2⟩:∃ Q9,Q9 = ((w.alloc (.cells (opCells b sb) 26)).alloc (.cells (opCells a sa) 26)):=⟨_,rfl⟩
  rw [← hW2] at z1 z2 z4 z5
  have z1':=Lib.hid z1
  have z2':=Lib.hid z2
  have z4':=Lib.hid z4
  have z5':=Lib.hid z5
  have hrow:=Lib.hid (fun (W:World) (hB:Below W2.heap.size W2 W)=>And.intro ((hB.block w.heap.size (by omega)).trans z1) ((hB.block (w.heap.size + 1) (by omega)).trans z2))
  obtain ⟨sm,hsm⟩:∃ Q9,Q9 = P4.eqV b.path a.path:=⟨_,rfl⟩
  have hs:=Lib.hid (fun (W:World) (hB:Below w.heap.size w W)=>(rsame_its W sa.pA sb.pA sa.pn sa.pc sb.pn sb.pc a.path b.path (ha.below hB).path (hb.below hB).path (Nat.le_trans ha.pnc ha.pcm) (Nat.le_trans hb.pnc hb.pcm)).mono (R':=fun e w'=>e = .returned (.bool sm)∧∃ k,w' = W.drewN k) fun e w' h=>⟨by rw [hsm,eqV_comm];exact h.1,h.2⟩)
  have hsm2:=Lib.hid hsm.symm
  have hbo:=Lib.hid (fun (W:World) (hB:Below w.heap.size w W)=>And.intro (hb.below hB) (ha.below hB))
  have hkr:=Lib.hid (show b.kind < 256∧a.kind < 256 from ⟨hb.kind,ha.kind⟩)
  have hti:=Lib.hid (And.intro hlb hla)
  have HV:=And.intro hkb hka
  have htwo:=Lib.hid (fun (W:World) (hB:Below w.heap.size w W)=>twoMoves_any W b a sb sa prior (hb.below hB) (ha.below hB) hlb hla HV.1 HV.2)
  clear hb ha z1 z2 z4 z5 hlb hla hsm
  unfold opCells at hW2 htwo
  unfold opCells
  have ea2:((a.kind:Int) == 2) = false:=by simp;omega
  have ea3:((a.kind:Int) == 3) = true:=by simp;omega
  have eb2:((b.kind:Int) == 2) = false:=by simp;omega
  have eb3:((b.kind:Int) == 3) = true:=by simp;omega
  have ekk:((a.kind:Int) == (b.kind:Int)) = true:=by simp;omega
  clear HV
  try clear hka
  try clear hkb
  go_enter Try.func77,Try.ntmps77
  go_upto_region 1 with fail
  rw [← hW2]
  clear hW2
  obtain ⟨r1,r2⟩:=hrow.out W2 (Below.refl _ _)
  obtain ⟨o0,o1,o2,o3,o4,o5,o6,o7,o8,o9,o10⟩:=op_cells r1
  obtain ⟨a0,a1,a2,a3,a4,a5,a6,a7,a8,a9,a10⟩:=op_cells r2
  clear r1 r2
  have hval:=Lib.hid (show becomesV b a prior = becomesV b a prior from rfl)
  go_wp2_with (first | (go_at_call 162;go_loud (refine (htwo.out _ (by first | exact z4'.out | exact draws z4'.out _)).mono ?_;rintro e w9 ⟨v9,rfl,h9⟩;have H9:=Lib.hid (h9.from_ (by first | exact z4'.out | exact draws z4'.out _));clear h9)) | (go_at_call 79;go_loud (refine (hs.out _ (by first | exact z4'.out | exact draws z4'.out _)).mono ?_;rintro e ws ⟨rfl,ks,rfl⟩)))
  go_ret2
  exact ⟨_,rfl,H9.out⟩
end Go.Proofs.Ytfaolhcacaeijaa.Sqr
namespace Go.Proofs.Ytfaolhcacaeijaa.Sqr
open Go.RowKit Top Shf Sim
set_option maxRecDepth 20000
set_option linter.unusedVariables false


set_option maxHeartbeats 32000000 in
theorem rbehind_k55 (w:World) (b a:Ov) (sb sa:OS) (prior:Bool) (hb:OpIn w b sb) (ha:OpIn w a sa) (hlb:Tiny b) (hla:Tiny a) (hkb:b.kind = 5) (hka:a.kind = 5) :
    Calls Try.prog 77 #[.agg (opCells b sb),.agg (opCells a sa),.bool prior] w fun e w'=>∃ v,e = .returned (.tuple #[v,.int .i64 0])∧RowA w (becomesV b a prior) v w':=by
  obtain ⟨z1,z2,z4,z5⟩:=two_news w (.cells (opCells b sb) 26) (.cells (opCells a sa) 26)
  obtain ⟨W2,hW2⟩:∃ Q9,Q9 = ((w.alloc (.cells (opCells b sb) 26)).alloc (.cells (opCells a sa) 26)):=⟨_,rfl⟩
  rw [← hW2] at z1 z2 z4 z5
  have z1':=Lib.hid z1
  have z2':=Lib.hid z2
  have z4':=Lib.hid z4
  have z5':=Lib.hid z5
  have hrow:=Lib.hid (fun (W:World) (hB:Below W2.heap.size W2 W)=>And.intro ((hB.block w.heap.size (by omega)).trans z1) ((hB.block (w.heap.size + 1) (by omega)).trans z2))
  obtain ⟨sm,hsm⟩:∃ Q9,Q9 = P4.eqV b.path a.path:=⟨_,rfl⟩
  have hs:=Lib.hid (fun (W:World) (hB:Below w.heap.size w W)=>(rsame_its W sa.pA sb.pA sa.pn sa.pc sb.pn sb.pc a.path b.path (ha.below hB).path (hb.below hB).path (Nat.le_trans ha.pnc ha.pcm) (Nat.le_trans hb.pnc hb.pcm)).mono (R':=fun e w'=>e = .returned (.bool sm)∧∃ k,w' = W.drewN k) fun e w' h=>⟨by rw [hsm,eqV_comm];exact h.1,h.2⟩)
  have hsm2:=Lib.hid hsm.symm
  have hbo:=Lib.hid (fun (W:World) (hB:Below w.heap.size w W)=>And.intro (hb.below hB) (ha.below hB))
  have hkr:=Lib.hid (show b.kind < 256∧a.kind < 256 from ⟨hb.kind,ha.kind⟩)
  have hti:=Lib.hid (And.intro hlb hla)
  have HV:=Lib.hid (And.intro hkb hka)
  have hshift:=Lib.hid (fun (W:World) (hB:Below w.heap.size w W)=>row9_any W b a sb sa prior (hb.below hB) (ha.below hB) hlb.slen hla.slen)
  clear hb ha z1 z2 z4 z5 hlb hla hsm
  unfold opCells at hW2 hshift
  unfold opCells
  have ea2:((a.kind:Int) == 2) = false:=by simp;omega
  have ea3:((a.kind:Int) == 3) = false:=by simp;omega
  have ekk:((a.kind:Int) == (b.kind:Int)) = true:=by simp;omega
  have eb2:((b.kind:Int) == 2) = false:=by simp;omega
  have eb3:((b.kind:Int) == 3) = false:=by simp;omega
  have eb4:((b.kind:Int) == 4) = false:=by simp;omega
  have eb5:((b.kind:Int) == 5) = true:=by simp;omega
  have eb6:((b.kind:Int) == 6) = false:=by simp;omega
  try clear hka
  try clear hkb
  go_enter Try.func77,Try.ntmps77
  go_upto_region 1 with fail
  rw [← hW2]
  clear hW2
  obtain ⟨r1,r2⟩:=hrow.out W2 (Below.refl _ _)
  obtain ⟨o0,o1,o2,o3,o4,o5,o6,o7,o8,o9,o10⟩:=op_cells r1
  obtain ⟨a0,a1,a2,a3,a4,a5,a6,a7,a8,a9,a10⟩:=op_cells r2
  clear r1 r2
  cases sm with
  | true =>
    cases prior with
    | true =>
      have hval:=Lib.hid (show becomesV b a true = [b] from ((val_k55a HV.out.1 HV.out.2 hsm2.out).trans (if_pos rfl)).trans (by rw [shifted_still (by have h7:=HV.out;omega) (by have h7:=HV.out;omega) (by have h7:=HV.out;omega) (by have h7:=HV.out;omega) (by have h7:=HV.out;omega)]))
      go_wp2_with (first | (go_at_call 163;go_loud (refine (keep_true _ A9 n9 c9).mono ?_;rintro e wk ⟨rfl,rfl⟩)) | (go_at_call 160;go_loud (refine (one_any _ b sb (hbo.out _ (by first | exact z4'.out | exact draws z4'.out _)).1).mono ?_;rintro e w9 ⟨v9,rfl,h9⟩;obtain ⟨A9,n9,c9,rfl⟩:=rowA_slice h9;have H9:=Lib.hid (h9.from_ (by first | exact z4'.out | exact draws z4'.out _));clear h9)) | (go_at_call 79;go_loud (refine (hs.out _ (by first | exact z4'.out | exact draws z4'.out _)).mono ?_;rintro e ws ⟨rfl,ks,rfl⟩)))
      go_ret2
      rw [hval.out]
      exact ⟨_,rfl,H9.out⟩
    | false =>
      have hval:=Lib.hid (show becomesV b a false = [] from (val_k55a HV.out.1 HV.out.2 hsm2.out).trans (if_neg (by decide)))
      go_wp2_with (first | (go_at_call 163;go_loud (refine (keep_false _ A9 n9 c9).mono ?_;rintro e wk ⟨rfl,rfl⟩)) | (go_at_call 160;go_loud (refine (one_any _ b sb (hbo.out _ (by first | exact z4'.out | exact draws z4'.out _)).1).mono ?_;rintro e w9 ⟨v9,rfl,h9⟩;obtain ⟨A9,n9,c9,rfl⟩:=rowA_slice h9;have H9:=Lib.hid (h9.from_ (by first | exact z4'.out | exact draws z4'.out _));clear h9)) | (go_at_call 79;go_loud (refine (hs.out _ (by first | exact z4'.out | exact draws z4'.out _)).mono ?_;rintro e ws ⟨rfl,ks,rfl⟩)))
      go_ret2
      rw [hval.out]
      exact ⟨_,rfl,RowA.none_ H9.out.bel⟩
  | false =>
    have hval:=Lib.hid (show becomesV b a prior = [shiftedV b a prior] from val_k55b HV.out.1 HV.out.2 hsm2.out)
    go_wp2_with (first | (go_at_call 160;go_loud (refine (one_any w8 _ s8 H8.out).mono ?_;rintro e w9 ⟨v9,rfl,h9⟩;obtain ⟨A9,n9,c9,rfl⟩:=rowA_slice h9;have H9:=Lib.hid (h9.from_ V8.out);clear h9)) | (go_at_call 164;go_loud (refine (hshift.out _ (by first | exact z4'.out | exact draws z4'.out _)).mono ?_;rintro e w8 ⟨s8,rfl,h8,hb8⟩;have H8:=Lib.hid h8;have V8:=Lib.hid (show Below w.heap.size w w8 by first | exact Below.trans z4'.out (hb8.mono (Below.size z4'.out)) | exact Below.trans (draws z4'.out _) (hb8.mono (Below.size (draws z4'.out _))));clear h8 hb8 o0 o1 o2 o3 o4 o5 o6 o7 o8 o9 o10 a0 a1 a2 a3 a4 a5 a6 a7 a8 a9 a10;unfold opCells)) | (go_at_call 79;go_loud (refine (hs.out _ (by first | exact z4'.out | exact draws z4'.out _)).mono ?_;rintro e ws ⟨rfl,ks,rfl⟩)))
    go_ret2
    rw [hval.out]
    exact ⟨_,rfl,H9.out⟩
end Go.Proofs.Ytfaolhcacaeijaa.Sqr
