/- The program: what goes with a subtree; two kinds held against two. -/
import Derived.Test.YtidimannfemnmaaMgAS
import Derived.Stop.BytesEq
set_option linter.all false
namespace Go.Proofs.Ytidimannfemnmaa.Sqr
open Go.RowKit Top Shf Sim
set_option maxRecDepth 20000

def Tiny (o:Ov):Prop:=o.path.length≤300∧o.to_.length≤300
theorem Tiny.slen {o:Ov} (h:Tiny o):Slen o:=⟨by have:=h.1;omega,by have:=h.2;omega⟩
theorem nodeD_len (a:Ov) (p:List Int):(nodeD a p).length≤p.length + a.path.length + a.to_.length + 1:=by
  unfold nodeD
  cases h:nodeV (chV a) p with
  | none=>exact Nat.zero_le _
  | some xs =>
    have e1:=nodeR_len _ _ xs h
    rw [List.length_reverse] at e1
    show xs.length≤_
    rcases ch_to a with e | e | e <;> rw [e] at e1 <;> (try simp only [List.length_nil] at e1) <;> omega
section
variable {b a:Ov} {prior:Bool}
theorem val_ko (h2:a.kind ≠ 2) (h:¬ (b.kind = 2∧a.kind = 3)∧¬ (b.kind = 3∧a.kind = 3)∧¬ (b.kind = 4∧a.kind = 4)∧¬ (b.kind = 5∧a.kind = 5)∧¬ (b.kind = 6∧a.kind = 6)):becomesV b a prior = [shiftedV b a prior]:=by
  obtain ⟨h23,h33,h44,h55,h66⟩:=h
  unfold becomesV
  rw [if_neg (fun e=>h2 e.1),if_neg (fun e=>h2 e.2.1),if_neg (fun e=>h23 ⟨e.1,e.2.1⟩),if_neg (fun e=>h33 ⟨e.1,e.2.1⟩),if_neg (fun e=>h33 ⟨e.1,e.2.1⟩),if_neg (fun e=>h44 ⟨e.1,e.2.1⟩),if_neg (fun e=>h55 ⟨e.1,e.2.1⟩),if_neg (fun e=>h66 ⟨e.1,e.2.1⟩)]
theorem val_k2a (h2:a.kind = 2) (w1:P4.withinV a.path b.path = true):becomesV b a prior = []:=by
  unfold becomesV
  rw [if_pos ⟨h2,w1⟩]
theorem val_k2b (h2:a.kind = 2) (w1:P4.withinV a.path b.path = false) (hb:b.kind = 3) (w2:P4.withinV a.path b.to_ = true):becomesV b a prior = [delV (nodeD a b.path)]:=by
  unfold becomesV
  rw [if_neg (fun e=>by rw [w1] at e;exact absurd e.2 (by decide)),if_pos ⟨hb,h2,w2⟩]
theorem val_k2c (h2:a.kind = 2) (w1:P4.withinV a.path b.path = false) (hb:b.kind = 3→P4.withinV a.path b.to_ = false):becomesV b a prior = [shiftedV b a prior]:=by
  unfold becomesV
  rw [if_neg (fun e=>by rw [w1] at e;exact absurd e.2 (by decide)),if_neg (fun e=>by rw [hb e.1] at e;exact absurd e.2.2 (by decide)),if_neg (fun e=>by omega),if_neg (fun e=>by omega),if_neg (fun e=>by omega),if_neg (fun e=>by omega),if_neg (fun e=>by omega),if_neg (fun e=>by omega)]
theorem val_k23a (hb:b.kind = 2) (ha:a.kind = 3) (s:P4.eqV b.path a.path = false) (w3:P4.withinV b.path a.path = true) (w4:P4.withinV b.path a.to_ = false):becomesV b a prior = [delV (nodeD a a.path),delV (nodeD (delV (nodeD a a.path)) (nodeD a b.path))]:=by
  unfold becomesV
  rw [if_neg (fun e=>by omega),if_neg (fun e=>by omega),if_pos ⟨hb,ha,s,w3,w4⟩]
theorem val_k23b (hb:b.kind = 2) (ha:a.kind = 3) (h:P4.eqV b.path a.path = true∨P4.withinV b.path a.path = false∨P4.withinV b.path a.to_ = true):becomesV b a prior = [shiftedV b a prior]:=by
  unfold becomesV
  rw [if_neg (fun e=>by omega),if_neg (fun e=>by omega),if_neg (fun e=>by
    obtain ⟨-,-,e1,e2,e3⟩:=e
    rcases h with h | h | h
    · rw [h] at e1;cases e1
    · rw [h] at e2;cases e2
    · rw [h] at e3;cases e3),if_neg (fun e=>by omega),if_neg (fun e=>by omega),if_neg (fun e=>by omega),if_neg (fun e=>by omega),if_neg (fun e=>by omega)]
theorem val_k33a (hb:b.kind = 3) (ha:a.kind = 3) (s:P4.eqV b.path a.path = true):becomesV b a prior = if prior = true then [shiftedV b a prior] else []:=by
  unfold becomesV
  rw [if_neg (fun e=>by omega),if_neg (fun e=>by omega),if_neg (fun e=>by omega),if_pos ⟨hb,ha,s⟩]
theorem val_k33b (hb:b.kind = 3) (ha:a.kind = 3) (s:P4.eqV b.path a.path = false) (w4:P4.withinV b.path a.to_ = true) (w2:P4.withinV a.path b.to_ = true):becomesV b a prior = if prior = true then [undoV (chV a),b] else []:=by
  unfold becomesV
  rw [if_neg (fun e=>by omega),if_neg (fun e=>by omega),if_neg (fun e=>by omega),if_neg (fun e=>by rw [s] at e;exact absurd e.2.2 (by decide)),if_pos ⟨hb,ha,w4,w2⟩]
theorem val_k33c (hb:b.kind = 3) (ha:a.kind = 3) (s:P4.eqV b.path a.path = false) (h:P4.withinV b.path a.to_ = false∨P4.withinV a.path b.to_ = false):becomesV b a prior = [shiftedV b a prior]:=by
  unfold becomesV
  rw [if_neg (fun e=>by omega),if_neg (fun e=>by omega),if_neg (fun e=>by omega),if_neg (fun e=>by rw [s] at e;exact absurd e.2.2 (by decide)),if_neg (fun e=>by
    obtain ⟨-,-,e1,e2⟩:=e
    rcases h with h | h
    · rw [h] at e1;cases e1
    · rw [h] at e2;cases e2),if_neg (fun e=>by omega),if_neg (fun e=>by omega),if_neg (fun e=>by omega)]
theorem val_k44a (hb:b.kind = 4) (ha:a.kind = 4) (s:P4.eqV b.path a.path = true) (hk:b.key = a.key):becomesV b a prior = if prior = true then [shiftedV b a prior] else []:=by
  unfold becomesV
  rw [if_neg (fun e=>by omega),if_neg (fun e=>by omega),if_neg (fun e=>by omega),if_neg (fun e=>by omega),if_neg (fun e=>by omega),if_pos ⟨hb,ha,s,hk⟩]
theorem val_k44b (hb:b.kind = 4) (ha:a.kind = 4) (h:P4.eqV b.path a.path = false∨b.key ≠ a.key):becomesV b a prior = [shiftedV b a prior]:=by
  unfold becomesV
  rw [if_neg (fun e=>by omega),if_neg (fun e=>by omega),if_neg (fun e=>by omega),if_neg (fun e=>by omega),if_neg (fun e=>by omega),if_neg (fun e=>by
    obtain ⟨-,-,e1,e2⟩:=e
    rcases h with h | h
    · rw [h] at e1;cases e1
    · exact h e2),if_neg (fun e=>by omega),if_neg (fun e=>by omega)]
theorem val_k55a (hb:b.kind = 5) (ha:a.kind = 5) (s:P4.eqV b.path a.path = true):becomesV b a prior = if prior = true then [shiftedV b a prior] else []:=by
  unfold becomesV
  rw [if_neg (fun e=>by omega),if_neg (fun e=>by omega),if_neg (fun e=>by omega),if_neg (fun e=>by omega),if_neg (fun e=>by omega),if_neg (fun e=>by omega),if_pos ⟨hb,ha,s⟩]
theorem val_k55b (hb:b.kind = 5) (ha:a.kind = 5) (s:P4.eqV b.path a.path = false):becomesV b a prior = [shiftedV b a prior]:=by
  unfold becomesV
  rw [if_neg (fun e=>by omega),if_neg (fun e=>by omega),if_neg (fun e=>by omega),if_neg (fun e=>by omega),if_neg (fun e=>by omega),if_neg (fun e=>by omega),if_neg (fun e=>by rw [s] at e;exact absurd e.2.2 (by decide)),if_neg (fun e=>by omega)]
theorem val_k66a (hb:b.kind = 6) (ha:a.kind = 6) (s:P4.eqV b.path a.path = true):becomesV b a prior = [editV b a prior]:=by
  unfold becomesV
  rw [if_neg (fun e=>by omega),if_neg (fun e=>by omega),if_neg (fun e=>by omega),if_neg (fun e=>by omega),if_neg (fun e=>by omega),if_neg (fun e=>by omega),if_neg (fun e=>by omega),if_pos ⟨hb,ha,s⟩]
theorem val_k66b (hb:b.kind = 6) (ha:a.kind = 6) (s:P4.eqV b.path a.path = false):becomesV b a prior = [shiftedV b a prior]:=by
  unfold becomesV
  rw [if_neg (fun e=>by omega),if_neg (fun e=>by omega),if_neg (fun e=>by omega),if_neg (fun e=>by omega),if_neg (fun e=>by omega),if_neg (fun e=>by omega),if_neg (fun e=>by omega),if_neg (fun e=>by rw [s] at e;exact absurd e.2.2 (by decide))]
end
theorem ch_fromfit {o:Ov} (hp:Fit o.path):Fit (chV o).from_∧InI (chV o).child:=by
  have z:InI 0:=by unfold InI;omega
  have zf:Fit ([]:List Int):=fun x hx=>by simp at hx
  have hd:Fit o.path.dropLast∧InI (o.path.getLastD 0):=by
    refine ⟨fun x hx=>hp x ((List.dropLast_sublist o.path).subset hx),?_⟩
    rw [List.getLastD_eq_getLast?]
    cases h:o.path.getLast? with
    | none=>exact z
    | some y=>exact hp y (List.mem_of_getLast? h)
  unfold chV
  split
  · split
    · exact ⟨zf,z⟩
    · split
      · split
        · exact ⟨zf,z⟩
        · exact hd
      · split
        · split
          · exact ⟨zf,z⟩
          · exact hd
        · exact ⟨zf,z⟩
  · exact ⟨zf,z⟩
theorem ch_fromlen (o:Ov):(chV o).from_.length≤o.path.length:=by
  unfold chV
  split
  · split
    · exact Nat.zero_le _
    · split
      · split
        · exact Nat.zero_le _
        · show o.path.dropLast.length≤_;rw [List.length_dropLast];omega
      · split
        · split
          · exact Nat.zero_le _
          · show o.path.dropLast.length≤_;rw [List.length_dropLast];omega
        · exact Nat.zero_le _
  · exact Nat.zero_le _
theorem undo_ok {a:Ov} (ha:OvOk a) (hl:Tiny a):OvOk (undoV (chV a)):=by
  have hin:=ha.at_
  have hgi:=ch_gap (o:=a) hin
  have htf:=ch_tofit ha.pfit ha.tfit
  have hz:Fit ([]:List Int):=fun x hx=>by simp at hx
  have hcf:Fit (chV a).from_∧InI (chV a).child:=ch_fromfit ha.pfit
  have htl:=ch_few hl.slen
  have hfl:=ch_fromlen a
  unfold undoV
  split
  · refine ⟨by show 3 < 256;decide,?_,by show 0 < 18446744073709551616;decide,Nat.zero_le _,Nat.zero_le _,Nat.zero_le _,?_,?_,Nat.zero_le _,?_,?_,fun x hx=>by simp at hx⟩
    · show InI (backV (chV a))
      unfold backV
      split
      · exact wrap_in _
      · exact hcf.2
    · show (toV (chV a) ++ [landV (chV a)]).length≤500000
      rw [List.length_append,to_len]
      simp only [List.length_cons,List.length_nil]
      omega
    · show (plainR (chV a) (chV a).from_.reverse).length≤500000
      rw [plain_len,List.length_reverse]
      have:=hl.1
      omega
    · show Fit (toV (chV a) ++ [landV (chV a)])
      intro x hx
      rw [List.mem_append,List.mem_singleton] at hx
      rcases hx with hx | rfl
      · exact to_fit htf x hx
      · exact land_in hgi
    · exact plain_fit _ _ fun x hx=>hcf.1 x (List.mem_reverse.1 hx)
  · exact ⟨by show 0 < 256;decide,⟨by show (-9223372036854775808:Int)≤0;omega,by show (0:Int)≤9223372036854775807;omega⟩,by show 0 < 18446744073709551616;decide,Nat.zero_le _,Nat.zero_le _,Nat.zero_le _,Nat.zero_le _,Nat.zero_le _,Nat.zero_le _,hz,hz,fun x hx=>by simp [zeroO] at hx⟩
theorem undo_in (w:World) (a:Ov) (s:OS) (ha:OpIn w a s) (hl:Tiny a):Calls Try.prog 116 #[.agg (opCells a s)] w (OpA w (undoV (chV a))):=by
  refine (Undo_any w a s ha hl.slen).mono fun e w' h=>?_
  obtain ⟨s',rfl,h1,h2⟩:=h
  exact ⟨s',rfl,h1.op (undo_ok (op_ok ha) hl),h2⟩
theorem two_at {w:World} {g:Nat} {x y:Value} {t:TypeId} (h:w.heap[g]? = some (.cells #[x,y] t (0,0))):w.cell? ⟨g,0,none⟩ = some x∧w.cell? ⟨g,1,none⟩ = some y∧∀ o,w.frozen? ⟨g,o,none⟩ = false :=
  ⟨cell_of_row w g 0 _ _ _ h,cell_of_row w g 1 _ _ _ h,fun o=>frozen_of_row w g o _ _ h⟩
theorem two_set {w:World} {g:Nat} {x y u v:Value} {t:TypeId} (h:w.heap[g]? = some (.cells #[x,y] t (0,0))):((w.setCell ⟨g,0,none⟩ u).setCell ⟨g,1,none⟩ v).heap[g]? = some (.cells #[u,v] t (0,0)):=by
  rw [heap_setCell_same _ g 1 _ _ _ (heap_setCell_same w g 0 _ _ _ h)]
  simp
theorem eqK (w:World) (x y c d:Nat) (hx:x < 256) (hy:y < 256) (hc:c < 256) (hd:d < 256) :
    (binOp .eql 192 (.agg #[.int .u8 (x:Int),.int .u8 (y:Int)]) (.agg #[.int .u8 (c:Int),.int .u8 (d:Int)])).run Try.prog w = .ok (.bool (decide (x = c∧y = d))) w:=by
  have e:∀ n,n < 256→(UInt8.ofNat n).toNat = n:=fun n hn=>by rw [UInt8.toNat_ofNat'];omega
  have i:∀ n m,n < 256→m < 256→(UInt8.ofNat n == UInt8.ofNat m) = decide (n = m):=fun n m hn hm=>by
    by_cases h:n = m
    · subst h;simp
    · rw [decide_eq_false h,beq_eq_false_iff_ne]
      intro h2
      exact h (by rw [← e n hn,← e m hm,h2])
  have h:=run_eql_bytes (P:=Try.prog) w 192 5 2 Try.underlying192 Try.underlying5 (fun w=>by kernel_rfl) [UInt8.ofNat x,UInt8.ofNat y] [UInt8.ofNat c,UInt8.ofNat d] rfl rfl
  simp only [List.map_cons,List.map_nil,Extern.Stop.cell,e x hx,e y hy,e c hc,e d hd] at h
  refine h.trans ?_
  congr 2
  rw [List.cons_beq_cons,List.cons_beq_cons,i x c hx hc,i y d hy hd]
  simp [Bool.decide_and]
set_option maxHeartbeats 16000000 in
theorem bothGone_any (w:World) (b a:Ov) (sb sa:OS) (hb:OpIn w b sb) (ha:OpIn w a sa) (hlb:Tiny b) (hla:Tiny a) :
    Calls Try.prog 187 #[.agg (opCells b sb),.agg (opCells a sa)] w fun e w'=>∃ v,e = .returned v∧RowA w [delV (nodeD a a.path),delV (nodeD (delV (nodeD a a.path)) (nodeD a b.path))] v w':=by
  obtain ⟨z1,z2,z4,z5⟩:=two_news w (.cells (opCells b sb) 52) (.cells (opCells a sa) 52)
  obtain ⟨W2,hW2⟩:∃ Q9,Q9 = ((w.alloc (.cells (opCells b sb) 52)).alloc (.cells (opCells a sa) 52)):=⟨_,rfl⟩
  rw [← hW2] at z1 z2 z4 z5
  have z1':=Lib.hid z1
  have z2':=Lib.hid z2
  have z4':=Lib.hid z4
  have z5':=Lib.hid z5
  have hd1:=Lib.hid (deleteBehind_any W2 a sa sa.pA sa.pn sa.pc a.path (ha.below z4) hla.slen (ha.below z4).path ha.pnc ha.pcm ha.pnil (by have:=ha.path.1;have:=hla.1;omega) ha.pfit)
  have hno:=Lib.hid (fun (W:World) (hB:Below w.heap.size w W)=>(Node_any W a sa sb.pA sb.pn sb.pc b.path (ha.below hB) hla.slen (hb.below hB).path hb.pnc hb.pcm (by have:=hb.path.1;have:=hlb.1;omega)).mono fun e w' h=>nodeS h)
  have hq1:=Lib.hid (nodeD_len a a.path)
  have hq2:=Lib.hid (nodeD_len a b.path)
  have hf2:=Lib.hid (nodeD_ok hla.slen (op_ok ha) (op_ok hb).pfit).2
  have hsz:=Lib.hid (And.intro hla hlb)
  generalize nodeD a a.path = q1 at hd1 hq1 ⊢
  generalize nodeD a b.path = q2 at hno hq2 hf2 ⊢
  obtain ⟨q3,hq3⟩:∃ Q9,Q9 = nodeD (delV q1) q2:=⟨_,rfl⟩
  rw [← hq3]
  have HQ:=Lib.hid hq3
  clear hq3
  obtain ⟨o0,o1,o2,o3,o4,o5,o6,o7,o8,o9,o10⟩:=op_cells z1
  obtain ⟨a0,a1,a2,a3,a4,a5,a6,a7,a8,a9,a10⟩:=op_cells z2
  rw [hW2] at o0 o1 o2 o3 o4 o5 o6 o7 o8 o9 o10 a0 a1 a2 a3 a4 a5 a6 a7 a8 a9 a10
  clear hb ha hlb hla z1 z2 z4 z5
  unfold opCells at hW2 hd1 hno
  unfold opCells
  go_enter Try.func187,Try.ntmps187
  go_upto_region 2 with (go_at_call 186;(rw [← hW2];refine hd1.out.mono ?_;rintro e w1 ⟨s1,rfl,h1,hb1⟩;have H1:=Lib.hid h1;have E1:=Lib.hid hb1;have y1:=(hb1.block w.heap.size (by have:=z5'.out;omega)).trans z1'.out;have y2:=(hb1.block (w.heap.size + 1) (by have:=z5'.out;omega)).trans z2'.out;have Y1:=Lib.hid y1;have Y2:=Lib.hid y2;clear o0 o1 o2 o3 o4 o5 o6 o7 o8 o9 o10 a0 a1 a2 a3 a4 a5 a6 a7 a8 a9 a10 h1 hb1 y1 y2;unfold opCells;dsimp only [delV]))
  obtain ⟨X1,hX1⟩:∃ Q9,Q9 = w1.alloc (.cells (opCells (delV q1) s1) 52):=⟨_,rfl⟩
  have x1:=Lib.hid (show X1.heap[w1.heap.size]? = some (.cells (opCells (delV q1) s1) 52 (0,0)) by rw [hX1];exact heap_alloc_new w1 _)
  have xB:=Lib.hid (show Below w1.heap.size w1 X1 by rw [hX1];exact (Below.refl _ _).alloc (Nat.le_refl _) _)
  have xS:=Lib.hid (show X1.heap.size = w1.heap.size + 1 by rw [hX1];simp)
  have hX1':X1 = w1.alloc (.cells #[.int .u8 2,.slice s1.pA s1.pn s1.pc,.int .i64 0,.slice s1.tA s1.tn s1.tc,.int .u64 0,.bool false,.string ⟨#[]⟩,.string ⟨#[]⟩,.string ⟨#[]⟩,.bool false,.slice s1.qA s1.qn s1.qc] 52):=hX1
  rw [← hX1']
  clear hX1 hX1'
  have EX:=Lib.hid (E1.out.trans (xB.out.mono E1.out.size))
  have V1:=Lib.hid (z4'.out.trans (EX.out.mono z4'.out.size))
  have r1:=(xB.out.block w.heap.size (Array.getElem?_eq_some_iff.1 Y1.out).1).trans Y1.out
  have r2:=(xB.out.block (w.heap.size + 1) (Array.getElem?_eq_some_iff.1 Y2.out).1).trans Y2.out
  obtain ⟨o0,o1,o2,o3,o4,o5,o6,o7,o8,o9,o10⟩:=op_cells r1
  obtain ⟨a0,a1,a2,a3,a4,a5,a6,a7,a8,a9,a10⟩:=op_cells r2
  obtain ⟨g,hg⟩:∃ Q9,Q9 = w1.heap.size:=⟨_,rfl⟩
  rw [← hg] at x1 ⊢
  clear r1 r2 hg
  go_upto_region 3 with (go_at_call 114;(refine (hno.out _ V1.out).mono ?_;rintro e w2 ⟨A2,n2,c2,bb,rfl,h2,hb2⟩;have H2:=Lib.hid h2;have E2:=Lib.hid hb2;clear o0 o1 o2 o3 o4 o5 o6 o7 o8 o9 o10 a0 a1 a2 a3 a4 a5 a6 a7 a8 a9 a10 h2 hb2))
  have V2:=Lib.hid (V1.out.trans (E2.out.mono V1.out.size))
  have x2:=Lib.hid ((E2.out.block g (Array.getElem?_eq_some_iff.1 x1.out).1).trans x1.out)
  have F1:=Lib.hid (H1.out.below (xB.out.trans (E2.out.mono xB.out.size)))
  have hd3:=Lib.hid (fun (W:World) (hB:Below w2.heap.size w2 W)=>by
    obtain ⟨e1,e2,e3,e4,e5⟩:=own_facts H2.out
    exact deleteBehind_any W (delV q1) s1 A2 n2 c2 q2 (F1.out.below hB) ⟨by have:=hq1.out;have:=hsz.out.1.1;have:=hsz.out.1.2;show q1.length≤1000;omega,Nat.zero_le _⟩ (e1.below hB) e2 e3 e4 (by have:=hq2.out;have:=hsz.out.1.1;have:=hsz.out.1.2;have:=hsz.out.2.1;omega) hf2.out)
  rw [← HQ.out] at hd3
  have hd3':=Lib.hid (show ∀ W,Below w2.heap.size w2 W→Calls Try.prog 186 #[.agg #[.int .u8 2,.slice s1.pA s1.pn s1.pc,.int .i64 0,.slice s1.tA s1.tn s1.tc,.int .u64 0,.bool false,.string ⟨#[]⟩,.string ⟨#[]⟩,.string ⟨#[]⟩,.bool false,.slice s1.qA s1.qn s1.qc],.slice A2 n2 c2] W (OpA W (delV q3)) from hd3.out)
  clear hd3
  have hx:=Lib.hid (fun (W:World) (hB:Below w2.heap.size w2 W)=>show W.heap[g]? = some (.cells #[.int .u8 2,.slice s1.pA s1.pn s1.pc,.int .i64 0,.slice s1.tA s1.tn s1.tc,.int .u64 0,.bool false,.string ⟨#[]⟩,.string ⟨#[]⟩,.string ⟨#[]⟩,.bool false,.slice s1.qA s1.qn s1.qc] 52 (0,0)) from (hB.block g (Array.getElem?_eq_some_iff.1 x2.out).1).trans x2.out)
  rename_i K0 hK0
  refine wp_region_held_drew (S:=(fun W=>Below w2.heap.size w2 W)) (by kernel_rfl) ((Below.refl w2.heap.size w2).drew) (fun hHeld=>?_)
  refine wpAnyH_take (i:=0) (v:=?_) rfl (by kernel_rfl) (by kernel_rfl) (by kernel_rfl) (fun _ _ _ h=>h) (Or.inl ⟨by rfl,?_⟩) hHeld ?_
  rotate_left 1
  · intro W hSw;obtain ⟨p0,p1,p2,p3,p4,p5,p6,p7,p8,p9,p10,pf⟩:=eleven_cells (hx.out W hSw);go_simp;try with_reducible rfl
  try simp only [Act.put,zA,zB,zC]
  refine wpAnyH_take (i:=1) (v:=?_) rfl (by kernel_rfl) (by kernel_rfl) (by kernel_rfl) (fun _ _ _ h=>h) (Or.inl ⟨by rfl,?_⟩) hHeld ?_
  rotate_left 1
  · intro W hSw;obtain ⟨p0,p1,p2,p3,p4,p5,p6,p7,p8,p9,p10,pf⟩:=eleven_cells (hx.out W hSw);go_simp;try with_reducible rfl
  try simp only [Act.put,zA,zB,zC]
  refine wpAnyH_take (i:=2) (v:=?_) rfl (by kernel_rfl) (by kernel_rfl) (by kernel_rfl) (fun _ _ _ h=>h) (Or.inl ⟨by rfl,?_⟩) hHeld ?_
  rotate_left 1
  · intro W hSw;obtain ⟨p0,p1,p2,p3,p4,p5,p6,p7,p8,p9,p10,pf⟩:=eleven_cells (hx.out W hSw);go_simp;try with_reducible rfl
  try simp only [Act.put,zA,zB,zC]
  refine wpAnyH_ready (rs:=[3]) (by kernel_rfl) (by simp) ?_
  refine AllReadyH.cons rfl (fun K hK=>?_) AllReadyH.nil
  go_simp
  refine (hd3'.out _ hHeld).mono ?_
  rintro e w3 ⟨s3,rfl,h3,hb3⟩
  have H3:=Lib.hid h3
  have E3:=Lib.hid (Below.trans hHeld (hb3.mono (Below.size hHeld)))
  clear h3 hb3
  unfold opCells
  dsimp only [delV]
  go_simp
  refine hK.out _ _ ?_ (fun hNew=>?_)
  · exact E3.out
  clear hK K hHeld
  have hHeld:=hNew
  clear hNew
  try simp only [Act.put,zA,zB,zC]
  refine wpAnyH_ready (rs:=[4]) (by kernel_rfl) (by simp) ?_
  refine AllReadyH.cons rfl (fun K hK=>?_) AllReadyH.nil
  go_simp
  refine hK.out _ _ ?_ (fun hNew=>?_)
  · exact (E3.out.alloc E3.out.size _)
  clear hK K hHeld
  have hHeld:=hNew
  clear hNew
  try simp only [Act.put,zA,zB,zC]
  refine wpAnyH_ready (rs:=[5]) (by kernel_rfl) (by simp) ?_
  refine AllReadyH.cons rfl (fun K hK=>?_) AllReadyH.nil
  go_simp
  refine hK.out _ _ hHeld (fun hNew=>?_)
  clear hK K hHeld
  have hHeld:=hNew
  clear hNew
  try simp only [Act.put,zA,zB,zC]
  refine wpAnyH_done (by kernel_rfl) ?_ _
  refine hK0 _ _ ?_
  clear hK0
  go_wp2_with fail
  go_ret
  have E3':=E3.out
  refine ⟨_,rfl,?_⟩
  exact RowA.two (V2.out.trans (E3'.mono V2.out.size)) (F1.out.below E3') H3.out
end Go.Proofs.Ytidimannfemnmaa.Sqr

