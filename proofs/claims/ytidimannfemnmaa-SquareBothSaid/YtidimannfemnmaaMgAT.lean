/- MgAT: SqrE SqrFko SqrFk23 SqrFk44 SqrFk55 SqrFk66 SqrG SqrHa SqrHko SqrHk2 SqrHk23 SqrHk33 SqrHk44 SqrHk55 -/
import Derived.Test.YtidimannfemnmaaSqrD
import Derived.Stop.BytesEq
import Derived.Test.YtidimannfemnmaaMgAL
import Derived.Test.YtidimannfemnmaaMgAO
import Derived.Test.YtidimannfemnmaaMgAN
set_option linter.all false
namespace Go.Proofs.Ytidimannfemnmaa.Sqr
open Go.RowKit Top Shf Sim
set_option maxRecDepth 20000

def Tiny (o:Ov):Prop:=o.path.length≤300∧o.to_.length≤300
theorem Tiny.slen {o:Ov} (h:Tiny o):Slen o:=⟨by have:=h.1;omega,by have:=h.2;omega⟩
theorem nodeD_len (a:Ov) (p:List Int):(nodeD a p).length≤p.length + a.path.length + a.to_.length + 1:=by
  unfold nodeD
  cases h:nodeV (chV a) p with
  | none=>exact Nat.zero_le _
  | some xs =>
    have e1:=nodeR_len _ _ xs h
    rw [List.length_reverse] at e1
    show xs.length≤_
    rcases ch_to a with e | e | e <;> rw [e] at e1 <;> (try simp only [List.length_nil] at e1) <;> omega
section
variable {b a:Ov} {prior:Bool}
theorem val_ko (h2:a.kind ≠ 2) (h:¬ (b.kind = 2∧a.kind = 3)∧¬ (b.kind = 3∧a.kind = 3)∧¬ (b.kind = 4∧a.kind = 4)∧¬ (b.kind = 5∧a.kind = 5)∧¬ (b.kind = 6∧a.kind = 6)):becomesV b a prior = [shiftedV b a prior]:=by
  obtain ⟨h23,h33,h44,h55,h66⟩:=h
  unfold becomesV
  rw [if_neg (fun e=>h2 e.1),if_neg (fun e=>h2 e.2.1),if_neg (fun e=>h23 ⟨e.1,e.2.1⟩),if_neg (fun e=>h33 ⟨e.1,e.2.1⟩),if_neg (fun e=>h33 ⟨e.1,e.2.1⟩),if_neg (fun e=>h44 ⟨e.1,e.2.1⟩),if_neg (fun e=>h55 ⟨e.1,e.2.1⟩),if_neg (fun e=>h66 ⟨e.1,e.2.1⟩)]
theorem val_k2a (h2:a.kind = 2) (w1:P4.withinV a.path b.path = true):becomesV b a prior = []:=by
  unfold becomesV
  rw [if_pos ⟨h2,w1⟩]
theorem val_k2b (h2:a.kind = 2) (w1:P4.withinV a.path b.path = false) (hb:b.kind = 3) (w2:P4.withinV a.path b.to_ = true):becomesV b a prior = [delV (nodeD a b.path)]:=by
  unfold becomesV
  rw [if_neg (fun e=>by rw [w1] at e;exact absurd e.2 (by decide)),if_pos ⟨hb,h2,w2⟩]
theorem val_k2c (h2:a.kind = 2) (w1:P4.withinV a.path b.path = false) (hb:b.kind = 3→P4.withinV a.path b.to_ = false):becomesV b a prior = [shiftedV b a prior]:=by
  unfold becomesV
  rw [if_neg (fun e=>by rw [w1] at e;exact absurd e.2 (by decide)),if_neg (fun e=>by rw [hb e.1] at e;exact absurd e.2.2 (by decide)),if_neg (fun e=>by omega),if_neg (fun e=>by omega),if_neg (fun e=>by omega),if_neg (fun e=>by omega),if_neg (fun e=>by omega),if_neg (fun e=>by omega)]
theorem val_k23a (hb:b.kind = 2) (ha:a.kind = 3) (s:P4.eqV b.path a.path = false) (w3:P4.withinV b.path a.path = true) (w4:P4.withinV b.path a.to_ = false):becomesV b a prior = [delV (nodeD a a.path),delV (nodeD (delV (nodeD a a.path)) (nodeD a b.path))]:=by
  unfold becomesV
  rw [if_neg (fun e=>by omega),if_neg (fun e=>by omega),if_pos ⟨hb,ha,s,w3,w4⟩]
theorem val_k23b (hb:b.kind = 2) (ha:a.kind = 3) (h:P4.eqV b.path a.path = true∨P4.withinV b.path a.path = false∨P4.withinV b.path a.to_ = true):becomesV b a prior = [shiftedV b a prior]:=by
  unfold becomesV
  rw [if_neg (fun e=>by omega),if_neg (fun e=>by omega),if_neg (fun e=>by
    obtain ⟨-,-,e1,e2,e3⟩:=e
    rcases h with h | h | h
    · rw [h] at e1;cases e1
    · rw [h] at e2;cases e2
    · rw [h] at e3;cases e3),if_neg (fun e=>by omega),if_neg (fun e=>by omega),if_neg (fun e=>by omega),if_neg (fun e=>by omega),if_neg (fun e=>by omega)]
theorem val_k33a (hb:b.kind = 3) (ha:a.kind = 3) (s:P4.eqV b.path a.path = true):becomesV b a prior = if prior = true then [shiftedV b a prior] else []:=by
  unfold becomesV
  rw [if_neg (fun e=>by omega),if_neg (fun e=>by omega),if_neg (fun e=>by omega),if_pos ⟨hb,ha,s⟩]
theorem val_k33b (hb:b.kind = 3) (ha:a.kind = 3) (s:P4.eqV b.path a.path = false) (w4:P4.withinV b.path a.to_ = true) (w2:P4.withinV a.path b.to_ = true):becomesV b a prior = if prior = true then [undoV (chV a),b] else []:=by
  unfold becomesV
  rw [if_neg (fun e=>by omega),if_neg (fun e=>by omega),if_neg (fun e=>by omega),if_neg (fun e=>by rw [s] at e;exact absurd e.2.2 (by decide)),if_pos ⟨hb,ha,w4,w2⟩]
theorem val_k33c (hb:b.kind = 3) (ha:a.kind = 3) (s:P4.eqV b.path a.path = false) (h:P4.withinV b.path a.to_ = false∨P4.withinV a.path b.to_ = false):becomesV b a prior = [shiftedV b a prior]:=by
  unfold becomesV
  rw [if_neg (fun e=>by omega),if_neg (fun e=>by omega),if_neg (fun e=>by omega),if_neg (fun e=>by rw [s] at e;exact absurd e.2.2 (by decide)),if_neg (fun e=>by
    obtain ⟨-,-,e1,e2⟩:=e
    rcases h with h | h
    · rw [h] at e1;cases e1
    · rw [h] at e2;cases e2),if_neg (fun e=>by omega),if_neg (fun e=>by omega),if_neg (fun e=>by omega)]
theorem val_k44a (hb:b.kind = 4) (ha:a.kind = 4) (s:P4.eqV b.path a.path = true) (hk:b.key = a.key):becomesV b a prior = if prior = true then [shiftedV b a prior] else []:=by
  unfold becomesV
  rw [if_neg (fun e=>by omega),if_neg (fun e=>by omega),if_neg (fun e=>by omega),if_neg (fun e=>by omega),if_neg (fun e=>by omega),if_pos ⟨hb,ha,s,hk⟩]
theorem val_k44b (hb:b.kind = 4) (ha:a.kind = 4) (h:P4.eqV b.path a.path = false∨b.key ≠ a.key):becomesV b a prior = [shiftedV b a prior]:=by
  unfold becomesV
  rw [if_neg (fun e=>by omega),if_neg (fun e=>by omega),if_neg (fun e=>by omega),if_neg (fun e=>by omega),if_neg (fun e=>by omega),if_neg (fun e=>by
    obtain ⟨-,-,e1,e2⟩:=e
    rcases h with h | h
    · rw [h] at e1;cases e1
    · exact h e2),if_neg (fun e=>by omega),if_neg (fun e=>by omega)]
theorem val_k55a (hb:b.kind = 5) (ha:a.kind = 5) (s:P4.eqV b.path a.path = true):becomesV b a prior = if prior = true then [shiftedV b a prior] else []:=by
  unfold becomesV
  rw [if_neg (fun e=>by omega),if_neg (fun e=>by omega),if_neg (fun e=>by omega),if_neg (fun e=>by omega),if_neg (fun e=>by omega),if_neg (fun e=>by omega),if_pos ⟨hb,ha,s⟩]
theorem val_k55b (hb:b.kind = 5) (ha:a.kind = 5) (s:P4.eqV b.path a.path = false):becomesV b a prior = [shiftedV b a prior]:=by
  unfold becomesV
  rw [if_neg (fun e=>by omega),if_neg (fun e=>by omega),if_neg (fun e=>by omega),if_neg (fun e=>by omega),if_neg (fun e=>by omega),if_neg (fun e=>by omega),if_neg (fun e=>by rw [s] at e;exact absurd e.2.2 (by decide)),if_neg (fun e=>by omega)]
theorem val_k66a (hb:b.kind = 6) (ha:a.kind = 6) (s:P4.eqV b.path a.path = true):becomesV b a prior = [editV b a prior]:=by
  unfold becomesV
  rw [if_neg (fun e=>by omega),if_neg (fun e=>by omega),if_neg (fun e=>by omega),if_neg (fun e=>by omega),if_neg (fun e=>by omega),if_neg (fun e=>by omega),if_neg (fun e=>by omega),if_pos ⟨hb,ha,s⟩]
theorem val_k66b (hb:b.kind = 6) (ha:a.kind = 6) (s:P4.eqV b.path a.path = false):becomesV b a prior = [shiftedV b a prior]:=by
  unfold becomesV
  rw [if_neg (fun e=>by omega),if_neg (fun e=>by omega),if_neg (fun e=>by omega),if_neg (fun e=>by omega),if_neg (fun e=>by omega),if_neg (fun e=>by omega),if_neg (fun e=>by omega),if_neg (fun e=>by rw [s] at e;exact absurd e.2.2 (by decide))]
end
theorem ch_fromfit {o:Ov} (hp:Fit o.path):Fit (chV o).from_∧InI (chV o).child:=by
  have z:InI 0:=by unfold InI;omega
  have zf:Fit ([]:List Int):=fun x hx=>by simp at hx
  have hd:Fit o.path.dropLast∧InI (o.path.getLastD 0):=by
    refine ⟨fun x hx=>hp x ((List.dropLast_sublist o.path).subset hx),?_⟩
    rw [List.getLastD_eq_getLast?]
    cases h:o.path.getLast? with
    | none=>exact z
    | some y=>exact hp y (List.mem_of_getLast? h)
  unfold chV
  split
  · split
    · exact ⟨zf,z⟩
    · split
      · split
        · exact ⟨zf,z⟩
        · exact hd
      · split
        · split
          · exact ⟨zf,z⟩
          · exact hd
        · exact ⟨zf,z⟩
  · exact ⟨zf,z⟩
theorem ch_fromlen (o:Ov):(chV o).from_.length≤o.path.length:=by
  unfold chV
  split
  · split
    · exact Nat.zero_le _
    · split
      · split
        · exact Nat.zero_le _
        · show o.path.dropLast.length≤_;rw [List.length_dropLast];omega
      · split
        · split
          · exact Nat.zero_le _
          · show o.path.dropLast.length≤_;rw [List.length_dropLast];omega
        · exact Nat.zero_le _
  · exact Nat.zero_le _
theorem undo_ok {a:Ov} (ha:OvOk a) (hl:Tiny a):OvOk (undoV (chV a)):=by
  have hin:=ha.at_
  have hgi:=ch_gap (o:=a) hin
  have htf:=ch_tofit ha.pfit ha.tfit
  have hz:Fit ([]:List Int):=fun x hx=>by simp at hx
  have hcf:Fit (chV a).from_∧InI (chV a).child:=ch_fromfit ha.pfit
  have htl:=ch_few hl.slen
  have hfl:=ch_fromlen a
  unfold undoV
  split
  · refine ⟨by show 3 < 256;decide,?_,by show 0 < 18446744073709551616;decide,Nat.zero_le _,Nat.zero_le _,Nat.zero_le _,?_,?_,Nat.zero_le _,?_,?_,fun x hx=>by simp at hx⟩
    · show InI (backV (chV a))
      unfold backV
      split
      · exact wrap_in _
      · exact hcf.2
    · show (toV (chV a) ++ [landV (chV a)]).length≤500000
      rw [List.length_append,to_len]
      simp only [List.length_cons,List.length_nil]
      omega
    · show (plainR (chV a) (chV a).from_.reverse).length≤500000
      rw [plain_len,List.length_reverse]
      have:=hl.1
      omega
    · show Fit (toV (chV a) ++ [landV (chV a)])
      intro x hx
      rw [List.mem_append,List.mem_singleton] at hx
      rcases hx with hx | rfl
      · exact to_fit htf x hx
      · exact land_in hgi
    · exact plain_fit _ _ fun x hx=>hcf.1 x (List.mem_reverse.1 hx)
  · exact ⟨by show 0 < 256;decide,⟨by show (-9223372036854775808:Int)≤0;omega,by show (0:Int)≤9223372036854775807;omega⟩,by show 0 < 18446744073709551616;decide,Nat.zero_le _,Nat.zero_le _,Nat.zero_le _,Nat.zero_le _,Nat.zero_le _,Nat.zero_le _,hz,hz,fun x hx=>by simp [zeroO] at hx⟩
theorem undo_in (w:World) (a:Ov) (s:OS) (ha:OpIn w a s) (hl:Tiny a):Calls Try.prog 116 #[.agg (opCells a s)] w (OpA w (undoV (chV a))):=by
  refine (Undo_any w a s ha hl.slen).mono fun e w' h=>?_
  obtain ⟨s',rfl,h1,h2⟩:=h
  exact ⟨s',rfl,h1.op (undo_ok (op_ok ha) hl),h2⟩
theorem two_at {w:World} {g:Nat} {x y:Value} {t:TypeId} (h:w.heap[g]? = some (.cells #[x,y] t (0,0))):w.cell? ⟨g,0,none⟩ = some x∧w.cell? ⟨g,1,none⟩ = some y∧∀ o,w.frozen? ⟨g,o,none⟩ = false :=
  ⟨cell_of_row w g 0 _ _ _ h,cell_of_row w g 1 _ _ _ h,fun o=>frozen_of_row w g o _ _ h⟩
theorem two_set {w:World} {g:Nat} {x y u v:Value} {t:TypeId} (h:w.heap[g]? = some (.cells #[x,y] t (0,0))):((w.setCell ⟨g,0,none⟩ u).setCell ⟨g,1,none⟩ v).heap[g]? = some (.cells #[u,v] t (0,0)):=by
  rw [heap_setCell_same _ g 1 _ _ _ (heap_setCell_same w g 0 _ _ _ h)]
  simp
theorem eqK (w:World) (x y c d:Nat) (hx:x < 256) (hy:y < 256) (hc:c < 256) (hd:d < 256) :
    (binOp .eql 192 (.agg #[.int .u8 (x:Int),.int .u8 (y:Int)]) (.agg #[.int .u8 (c:Int),.int .u8 (d:Int)])).run Try.prog w = .ok (.bool (decide (x = c∧y = d))) w:=by
  have e:∀ n,n < 256→(UInt8.ofNat n).toNat = n:=fun n hn=>by rw [UInt8.toNat_ofNat'];omega
  have i:∀ n m,n < 256→m < 256→(UInt8.ofNat n == UInt8.ofNat m) = decide (n = m):=fun n m hn hm=>by
    by_cases h:n = m
    · subst h;simp
    · rw [decide_eq_false h,beq_eq_false_iff_ne]
      intro h2
      exact h (by rw [← e n hn,← e m hm,h2])
  have h:=run_eql_bytes (P:=Try.prog) w 192 5 2 Try.underlying192 Try.underlying5 (fun w=>by kernel_rfl) [UInt8.ofNat x,UInt8.ofNat y] [UInt8.ofNat c,UInt8.ofNat d] rfl rfl
  simp only [List.map_cons,List.map_nil,Extern.Stop.cell,e x hx,e y hy,e c hc,e d hd] at h
  refine h.trans ?_
  congr 2
  rw [List.cons_beq_cons,List.cons_beq_cons,i x c hx hc,i y d hy hd]
  simp [Bool.decide_and]
set_option maxHeartbeats 16000000 in
theorem bothGone_any (w:World) (b a:Ov) (sb sa:OS) (hb:OpIn w b sb) (ha:OpIn w a sa) (hlb:Tiny b) (hla:Tiny a) :
    Calls Try.prog 187 #[.agg (opCells b sb),.agg (opCells a sa)] w fun e w'=>∃ v,e = .returned v∧RowA w [delV (nodeD a a.path),delV (nodeD (delV (nodeD a a.path)) (nodeD a b.path))] v w':=by
  obtain ⟨z1,z2,z4,z5⟩:=two_news w (.cells (opCells b sb) 52) (.cells (opCells a sa) 52)
  obtain ⟨W2,hW2⟩:∃ Q9,Q9 = ((w.alloc (.cells (opCells b sb) 52)).alloc (.cells (opCells a sa) 52)):=⟨_,rfl⟩
  rw [← hW2] at z1 z2 z4 z5
  have z1':=Lib.hid z1
  have z2':=Lib.hid z2
  have z4':=Lib.hid z4
  have z5':=Lib.hid z5
  have hd1:=Lib.hid (deleteBehind_any W2 a sa sa.pA sa.pn sa.pc a.path (ha.below z4) hla.slen (ha.below z4).path ha.pnc ha.pcm ha.pnil (by have:=ha.path.1;have:=hla.1;omega) ha.pfit)
  have hno:=Lib.hid (fun (W:World) (hB:Below w.heap.size w W)=>(Node_any W a sa sb.pA sb.pn sb.pc b.path (ha.below hB) hla.slen (hb.below hB).path hb.pnc hb.pcm (by have:=hb.path.1;have:=hlb.1;omega)).mono fun e w' h=>nodeS h)
  have hq1:=Lib.hid (nodeD_len a a.path)
  have hq2:=Lib.hid (nodeD_len a b.path)
  have hf2:=Lib.hid (nodeD_ok hla.slen (op_ok ha) (op_ok hb).pfit).2
  have hsz:=Lib.hid (And.intro hla hlb)
  generalize nodeD a a.path = q1 at hd1 hq1 ⊢
  generalize nodeD a b.path = q2 at hno hq2 hf2 ⊢
  obtain ⟨q3,hq3⟩:∃ Q9,Q9 = nodeD (delV q1) q2:=⟨_,rfl⟩
  rw [← hq3]
  have HQ:=Lib.hid hq3
  clear hq3
  obtain ⟨o0,o1,o2,o3,o4,o5,o6,o7,o8,o9,o10⟩:=op_cells z1
  obtain ⟨a0,a1,a2,a3,a4,a5,a6,a7,a8,a9,a10⟩:=op_cells z2
  rw [hW2] at o0 o1 o2 o3 o4 o5 o6 o7 o8 o9 o10 a0 a1 a2 a3 a4 a5 a6 a7 a8 a9 a10
  clear hb ha hlb hla z1 z2 z4 z5
  unfold opCells at hW2 hd1 hno
  unfold opCells
  go_enter Try.func187,Try.ntmps187
  go_upto_region 2 with (go_at_call 186;(rw [← hW2];refine hd1.out.mono ?_;rintro e w1 ⟨s1,rfl,h1,hb1⟩;have H1:=Lib.hid h1;have E1:=Lib.hid hb1;have y1:=(hb1.block w.heap.size (by have:=z5'.out;omega)).trans z1'.out;have y2:=(hb1.block (w.heap.size + 1) (by have:=z5'.out;omega)).trans z2'.out;have Y1:=Lib.hid y1;have Y2:=Lib.hid y2;clear o0 o1 o2 o3 o4 o5 o6 o7 o8 o9 o10 a0 a1 a2 a3 a4 a5 a6 a7 a8 a9 a10 h1 hb1 y1 y2;unfold opCells;dsimp only [delV]))
  obtain ⟨X1,hX1⟩:∃ Q9,Q9 = w1.alloc (.cells (opCells (delV q1) s1) 52):=⟨_,rfl⟩
  have x1:=Lib.hid (show X1.heap[w1.heap.size]? = some (.cells (opCells (delV q1) s1) 52 (0,0)) by rw [hX1];exact heap_alloc_new w1 _)
  have xB:=Lib.hid (show Below w1.heap.size w1 X1 by rw [hX1];exact (Below.refl _ _).alloc (Nat.le_refl _) _)
  have xS:=Lib.hid (show X1.heap.size = w1.heap.size + 1 by rw [hX1];simp)
  have hX1':X1 = w1.alloc (.cells #[.int .u8 2,.slice s1.pA s1.pn s1.pc,.int .i64 0,.slice s1.tA s1.tn s1.tc,.int .u64 0,.bool false,.string ⟨#[]⟩,.string ⟨#[]⟩,.string ⟨#[]⟩,.bool false,.slice s1.qA s1.qn s1.qc] 52):=hX1
  rw [← hX1']
  clear hX1 hX1'
  have EX:=Lib.hid (E1.out.trans (xB.out.mono E1.out.size))
  have V1:=Lib.hid (z4'.out.trans (EX.out.mono z4'.out.size))
  have r1:=(xB.out.block w.heap.size (Array.getElem?_eq_some_iff.1 Y1.out).1).trans Y1.out
  have r2:=(xB.out.block (w.heap.size + 1) (Array.getElem?_eq_some_iff.1 Y2.out).1).trans Y2.out
  obtain ⟨o0,o1,o2,o3,o4,o5,o6,o7,o8,o9,o10⟩:=op_cells r1
  obtain ⟨a0,a1,a2,a3,a4,a5,a6,a7,a8,a9,a10⟩:=op_cells r2
  obtain ⟨g,hg⟩:∃ Q9,Q9 = w1.heap.size:=⟨_,rfl⟩
  rw [← hg] at x1 ⊢
  clear r1 r2 hg
  go_upto_region 3 with (go_at_call 114;(refine (hno.out _ V1.out).mono ?_;rintro e w2 ⟨A2,n2,c2,bb,rfl,h2,hb2⟩;have H2:=Lib.hid h2;have E2:=Lib.hid hb2;clear o0 o1 o2 o3 o4 o5 o6 o7 o8 o9 o10 a0 a1 a2 a3 a4 a5 a6 a7 a8 a9 a10 h2 hb2))
  have V2:=Lib.hid (V1.out.trans (E2.out.mono V1.out.size))
  have x2:=Lib.hid ((E2.out.block g (Array.getElem?_eq_some_iff.1 x1.out).1).trans x1.out)
  have F1:=Lib.hid (H1.out.below (xB.out.trans (E2.out.mono xB.out.size)))
  have hd3:=Lib.hid (fun (W:World) (hB:Below w2.heap.size w2 W)=>by
    obtain ⟨e1,e2,e3,e4,e5⟩:=own_facts H2.out
    exact deleteBehind_any W (delV q1) s1 A2 n2 c2 q2 (F1.out.below hB) ⟨by have:=hq1.out;have:=hsz.out.1.1;have:=hsz.out.1.2;show q1.length≤1000;omega,Nat.zero_le _⟩ (e1.below hB) e2 e3 e4 (by have:=hq2.out;have:=hsz.out.1.1;have:=hsz.out.1.2;have:=hsz.out.2.1;omega) hf2.out)
  rw [← HQ.out] at hd3
  have hd3':=Lib.hid (show ∀ W,Below w2.heap.size w2 W→Calls Try.prog 186 #[.agg #[.int .u8 2,.slice s1.pA s1.pn s1.pc,.int .i64 0,.slice s1.tA s1.tn s1.tc,.int .u64 0,.bool false,.string ⟨#[]⟩,.string ⟨#[]⟩,.string ⟨#[]⟩,.bool false,.slice s1.qA s1.qn s1.qc],.slice A2 n2 c2] W (OpA W (delV q3)) from hd3.out)
  clear hd3
  have hx:=Lib.hid (fun (W:World) (hB:Below w2.heap.size w2 W)=>show W.heap[g]? = some (.cells #[.int .u8 2,.slice s1.pA s1.pn s1.pc,.int .i64 0,.slice s1.tA s1.tn s1.tc,.int .u64 0,.bool false,.string ⟨#[]⟩,.string ⟨#[]⟩,.string ⟨#[]⟩,.bool false,.slice s1.qA s1.qn s1.qc] 52 (0,0)) from (hB.block g (Array.getElem?_eq_some_iff.1 x2.out).1).trans x2.out)
  rename_i K0 hK0
  refine wp_region_held_drew (S:=(fun W=>Below w2.heap.size w2 W)) (by kernel_rfl) ((Below.refl w2.heap.size w2).drew) (fun hHeld=>?_)
  refine wpAnyH_take (i:=0) (v:=?_) rfl (by kernel_rfl) (by kernel_rfl) (by kernel_rfl) (fun _ _ _ h=>h) (Or.inl ⟨by rfl,?_⟩) hHeld ?_
  rotate_left 1
  · intro W hSw;obtain ⟨p0,p1,p2,p3,p4,p5,p6,p7,p8,p9,p10,pf⟩:=eleven_cells (hx.out W hSw);go_simp;try with_reducible rfl
  try simp only [Act.put,zA,zB,zC]
  refine wpAnyH_take (i:=1) (v:=?_) rfl (by kernel_rfl) (by kernel_rfl) (by kernel_rfl) (fun _ _ _ h=>h) (Or.inl ⟨by rfl,?_⟩) hHeld ?_
  rotate_left 1
  · intro W hSw;obtain ⟨p0,p1,p2,p3,p4,p5,p6,p7,p8,p9,p10,pf⟩:=eleven_cells (hx.out W hSw);go_simp;try with_reducible rfl
  try simp only [Act.put,zA,zB,zC]
  refine wpAnyH_take (i:=2) (v:=?_) rfl (by kernel_rfl) (by kernel_rfl) (by kernel_rfl) (fun _ _ _ h=>h) (Or.inl ⟨by rfl,?_⟩) hHeld ?_
  rotate_left 1
  · intro W hSw;obtain ⟨p0,p1,p2,p3,p4,p5,p6,p7,p8,p9,p10,pf⟩:=eleven_cells (hx.out W hSw);go_simp;try with_reducible rfl
  try simp only [Act.put,zA,zB,zC]
  refine wpAnyH_ready (rs:=[3]) (by kernel_rfl) (by simp) ?_
  refine AllReadyH.cons rfl (fun K hK=>?_) AllReadyH.nil
  go_simp
  refine (hd3'.out _ hHeld).mono ?_
  rintro e w3 ⟨s3,rfl,h3,hb3⟩
  have H3:=Lib.hid h3
  have E3:=Lib.hid (Below.trans hHeld (hb3.mono (Below.size hHeld)))
  clear h3 hb3
  unfold opCells
  dsimp only [delV]
  go_simp
  refine hK.out _ _ ?_ (fun hNew=>?_)
  · exact E3.out
  clear hK K hHeld
  have hHeld:=hNew
  clear hNew
  try simp only [Act.put,zA,zB,zC]
  refine wpAnyH_ready (rs:=[4]) (by kernel_rfl) (by simp) ?_
  refine AllReadyH.cons rfl (fun K hK=>?_) AllReadyH.nil
  go_simp
  refine hK.out _ _ ?_ (fun hNew=>?_)
  · exact (E3.out.alloc E3.out.size _)
  clear hK K hHeld
  have hHeld:=hNew
  clear hNew
  try simp only [Act.put,zA,zB,zC]
  refine wpAnyH_ready (rs:=[5]) (by kernel_rfl) (by simp) ?_
  refine AllReadyH.cons rfl (fun K hK=>?_) AllReadyH.nil
  go_simp
  refine hK.out _ _ hHeld (fun hNew=>?_)
  clear hK K hHeld
  have hHeld:=hNew
  clear hNew
  try simp only [Act.put,zA,zB,zC]
  refine wpAnyH_done (by kernel_rfl) ?_ _
  refine hK0 _ _ ?_
  clear hK0
  go_wp2_with fail
  go_ret
  have E3':=E3.out
  refine ⟨_,rfl,?_⟩
  exact RowA.two (V2.out.trans (E3'.mono V2.out.size)) (F1.out.below E3') H3.out
end Go.Proofs.Ytidimannfemnmaa.Sqr
namespace Go.Proofs.Ytidimannfemnmaa.Sqr
open Go.RowKit Top Shf Sim
set_option maxRecDepth 20000
set_option maxHeartbeats 32000000 in
theorem becomes_ko (w:World) (b a:Ov) (sb sa:OS) (prior:Bool) (hb:OpIn w b sb) (ha:OpIn w a sa) (hlb:Tiny b) (hla:Tiny a) (h2:a.kind ≠ 2) (hka:Hid (¬ (b.kind = 2∧a.kind = 3)∧¬ (b.kind = 3∧a.kind = 3)∧¬ (b.kind = 4∧a.kind = 4)∧¬ (b.kind = 5∧a.kind = 5)∧¬ (b.kind = 6∧a.kind = 6))) :
    Calls Try.prog 168 #[.agg (opCells b sb),.agg (opCells a sa),.bool prior] w fun e w'=>∃ v,e = .returned (.tuple #[v,.int .i64 0])∧RowA w (becomesV b a prior) v w':=by
  obtain ⟨z1,z2,z4,z5⟩:=two_news w (.cells (opCells b sb) 52) (.cells (opCells a sa) 52)
  obtain ⟨W2,hW2⟩:∃ Q9,Q9 = ((w.alloc (.cells (opCells b sb) 52)).alloc (.cells (opCells a sa) 52)):=⟨_,rfl⟩
  rw [← hW2] at z1 z2 z4 z5
  have z1':=Lib.hid z1
  have z2':=Lib.hid z2
  have z4':=Lib.hid z4
  have z5':=Lib.hid z5
  have hrow:=Lib.hid (fun (W:World) (hB:Below W2.heap.size W2 W)=>And.intro ((hB.block w.heap.size (by omega)).trans z1) ((hB.block (w.heap.size + 1) (by omega)).trans z2))
  obtain ⟨sm,hsm⟩:∃ Q9,Q9 = P4.eqV b.path a.path:=⟨_,rfl⟩
  have hSM:=Lib.hid hsm
  have hs:=Lib.hid (fun (W:World) (hB:Below W2.heap.size W2 W)=>(P4.same_any W sb.pA sa.pA sb.pn sb.pc sa.pn sa.pc b.path a.path (its4 (hb.below (z4.trans (hB.mono z4.size))).path) (its4 (ha.below (z4.trans (hB.mono z4.size))).path) (Nat.le_trans hb.pnc hb.pcm)).mono (R':=fun e w'=>e = .returned (.bool sm)∧∃ k,w' = W.drewN k) fun e w' h=>⟨by rw [hsm];exact h.1,h.2⟩)
  have hshift:=Lib.hid (fun (W:World) (hB:Below w.heap.size w W)=>shifted_any W b a sb sa prior (hb.below hB) (ha.below hB) hlb.slen hla.slen)
  have hbo:=Lib.hid (fun (W:World) (hB:Below w.heap.size w W)=>And.intro (hb.below hB) (ha.below hB))
  have hkr:=Lib.hid (show b.kind < 256∧a.kind < 256 from ⟨hb.kind,ha.kind⟩)
  clear hb ha z1 z2 z4 z5 hlb hla
  have hsm2:=Lib.hid hsm.symm
  clear hsm
  have hnn:=hka.out
  have HV:=Lib.hid (show a.kind ≠ 2 from h2)
  have ea2:((a.kind:Int) == 2) = false:=by simp;omega
  have e32:∀ W,(binOp .eql 192 (.agg #[.int .u8 (b.kind:Int),.int .u8 (a.kind:Int)]) (.agg #[.int .u8 3,.int .u8 2])).run Try.prog W = .ok (.bool false) W:=fun W=>by have h5:=eqK W b.kind a.kind 3 2 hkr.out.1 hkr.out.2 (by decide) (by decide);rw [decide_eq_false (by omega)] at h5;exact h5
  have e23:∀ W,(binOp .eql 192 (.agg #[.int .u8 (b.kind:Int),.int .u8 (a.kind:Int)]) (.agg #[.int .u8 2,.int .u8 3])).run Try.prog W = .ok (.bool false) W:=fun W=>by have h5:=eqK W b.kind a.kind 2 3 hkr.out.1 hkr.out.2 (by decide) (by decide);rw [decide_eq_false (by omega)] at h5;exact h5
  have e33:∀ W,(binOp .eql 192 (.agg #[.int .u8 (b.kind:Int),.int .u8 (a.kind:Int)]) (.agg #[.int .u8 3,.int .u8 3])).run Try.prog W = .ok (.bool false) W:=fun W=>by have h5:=eqK W b.kind a.kind 3 3 hkr.out.1 hkr.out.2 (by decide) (by decide);rw [decide_eq_false (by omega)] at h5;exact h5
  have e44:∀ W,(binOp .eql 192 (.agg #[.int .u8 (b.kind:Int),.int .u8 (a.kind:Int)]) (.agg #[.int .u8 4,.int .u8 4])).run Try.prog W = .ok (.bool false) W:=fun W=>by have h5:=eqK W b.kind a.kind 4 4 hkr.out.1 hkr.out.2 (by decide) (by decide);rw [decide_eq_false (by omega)] at h5;exact h5
  have e55:∀ W,(binOp .eql 192 (.agg #[.int .u8 (b.kind:Int),.int .u8 (a.kind:Int)]) (.agg #[.int .u8 5,.int .u8 5])).run Try.prog W = .ok (.bool false) W:=fun W=>by have h5:=eqK W b.kind a.kind 5 5 hkr.out.1 hkr.out.2 (by decide) (by decide);rw [decide_eq_false (by omega)] at h5;exact h5
  have e66:∀ W,(binOp .eql 192 (.agg #[.int .u8 (b.kind:Int),.int .u8 (a.kind:Int)]) (.agg #[.int .u8 6,.int .u8 6])).run Try.prog W = .ok (.bool false) W:=fun W=>by have h5:=eqK W b.kind a.kind 6 6 hkr.out.1 hkr.out.2 (by decide) (by decide);rw [decide_eq_false (by omega)] at h5;exact h5
  have hk1_:=Lib.hid (And.intro trivial trivial)
  unfold opCells at hW2 hshift
  unfold opCells
  go_enter Try.func168,Try.ntmps168
  go_wp2_with fail
  refine Top.wp_scope_once 0 rfl ?_
  go_upto_region 1 with fail
  rw [← hW2]
  clear hW2
  go_cut [8,9] from 10 (fun v8 v9 wc=>∃ g:Nat,v8 = .pointer (some ⟨g,0,none⟩)∧v9 = .bool sm∧wc.heap[g]? = some (.cells #[.int .u8 (b.kind:Int),.int .u8 (a.kind:Int)] 192 (0,0))∧W2.heap.size≤g∧Below W2.heap.size W2 wc)
  case first =>
    rename_i K0 hK0
    refine wp_region_held_drew (S:=(fun W=>Below W2.heap.size W2 W)) (by kernel_rfl) ((Below.refl W2.heap.size W2).drew) (fun hHeld=>?_)
    refine wpAnyH_take (i:=0) (v:=?_) rfl (by kernel_rfl) (by kernel_rfl) (by kernel_rfl) (fun _ _ _ h=>h) (Or.inl ⟨by rfl,?_⟩) hHeld ?_
    rotate_left 1
    · intro W hSw;obtain ⟨r1,r2⟩:=hrow.out W hSw;obtain ⟨o0,o1,o2,o3,o4,o5,o6,o7,o8,o9,o10⟩:=op_cells r1;obtain ⟨a0,a1,a2,a3,a4,a5,a6,a7,a8,a9,a10⟩:=op_cells r2;go_simp;try with_reducible rfl
    try simp only [Act.put,zA,zB,zC]
    refine wpAnyH_take (i:=1) (v:=?_) rfl (by kernel_rfl) (by kernel_rfl) (by kernel_rfl) (fun _ _ _ h=>h) (Or.inl ⟨by rfl,?_⟩) hHeld ?_
    rotate_left 1
    · intro W hSw;obtain ⟨r1,r2⟩:=hrow.out W hSw;obtain ⟨o0,o1,o2,o3,o4,o5,o6,o7,o8,o9,o10⟩:=op_cells r1;obtain ⟨a0,a1,a2,a3,a4,a5,a6,a7,a8,a9,a10⟩:=op_cells r2;go_simp;try with_reducible rfl
    try simp only [Act.put,zA,zB,zC]
    refine wpAnyH_take (i:=2) (v:=?_) rfl (by kernel_rfl) (by kernel_rfl) (by kernel_rfl) (fun _ _ _ h=>h) (Or.inl ⟨by rfl,?_⟩) hHeld ?_
    rotate_left 1
    · intro W hSw;obtain ⟨r1,r2⟩:=hrow.out W hSw;obtain ⟨o0,o1,o2,o3,o4,o5,o6,o7,o8,o9,o10⟩:=op_cells r1;obtain ⟨a0,a1,a2,a3,a4,a5,a6,a7,a8,a9,a10⟩:=op_cells r2;go_simp;try with_reducible rfl
    try simp only [Act.put,zA,zB,zC]
    refine wpAnyH_take (i:=3) (v:=?_) rfl (by kernel_rfl) (by kernel_rfl) (by kernel_rfl) (fun _ _ _ h=>h) (Or.inl ⟨by rfl,?_⟩) hHeld ?_
    rotate_left 1
    · intro W hSw;obtain ⟨r1,r2⟩:=hrow.out W hSw;obtain ⟨o0,o1,o2,o3,o4,o5,o6,o7,o8,o9,o10⟩:=op_cells r1;obtain ⟨a0,a1,a2,a3,a4,a5,a6,a7,a8,a9,a10⟩:=op_cells r2;go_simp;try with_reducible rfl
    try simp only [Act.put,zA,zB,zC]
    refine wpAnyH_take (i:=4) (v:=?_) rfl (by kernel_rfl) (by kernel_rfl) (by kernel_rfl) (fun _ _ _ h=>h) (Or.inl ⟨by rfl,?_⟩) hHeld ?_
    rotate_left 1
    · intro W hSw;obtain ⟨r1,r2⟩:=hrow.out W hSw;obtain ⟨o0,o1,o2,o3,o4,o5,o6,o7,o8,o9,o10⟩:=op_cells r1;obtain ⟨a0,a1,a2,a3,a4,a5,a6,a7,a8,a9,a10⟩:=op_cells r2;go_simp;try with_reducible rfl
    try simp only [Act.put,zA,zB,zC]
    refine wpAnyH_take (i:=5) (v:=?_) rfl (by kernel_rfl) (by kernel_rfl) (by kernel_rfl) (fun _ _ _ h=>h) (Or.inl ⟨by rfl,?_⟩) hHeld ?_
    rotate_left 1
    · intro W hSw;obtain ⟨r1,r2⟩:=hrow.out W hSw;obtain ⟨o0,o1,o2,o3,o4,o5,o6,o7,o8,o9,o10⟩:=op_cells r1;obtain ⟨a0,a1,a2,a3,a4,a5,a6,a7,a8,a9,a10⟩:=op_cells r2;go_simp;try with_reducible rfl
    try simp only [Act.put,zA,zB,zC]
    refine wpAnyH_take (i:=6) (v:=?_) rfl (by kernel_rfl) (by kernel_rfl) (by kernel_rfl) (fun _ _ _ h=>h) (Or.inl ⟨by rfl,?_⟩) hHeld ?_
    rotate_left 1
    · intro W hSw;obtain ⟨r1,r2⟩:=hrow.out W hSw;obtain ⟨o0,o1,o2,o3,o4,o5,o6,o7,o8,o9,o10⟩:=op_cells r1;obtain ⟨a0,a1,a2,a3,a4,a5,a6,a7,a8,a9,a10⟩:=op_cells r2;go_simp;try with_reducible rfl
    try simp only [Act.put,zA,zB,zC]
    refine wpAnyH_take (i:=7) (v:=?_) rfl (by kernel_rfl) (by kernel_rfl) (by kernel_rfl) (fun _ _ _ h=>h) (Or.inl ⟨by rfl,?_⟩) hHeld ?_
    rotate_left 1
    · intro W hSw;obtain ⟨r1,r2⟩:=hrow.out W hSw;obtain ⟨o0,o1,o2,o3,o4,o5,o6,o7,o8,o9,o10⟩:=op_cells r1;obtain ⟨a0,a1,a2,a3,a4,a5,a6,a7,a8,a9,a10⟩:=op_cells r2;go_simp;try with_reducible rfl
    try simp only [Act.put,zA,zB,zC]
    refine wpAnyH_take (i:=8) (v:=?_) rfl (by kernel_rfl) (by kernel_rfl) (by kernel_rfl) (fun _ _ _ h=>h) (Or.inl ⟨by rfl,?_⟩) hHeld ?_
    rotate_left 1
    · intro W hSw;obtain ⟨r1,r2⟩:=hrow.out W hSw;obtain ⟨o0,o1,o2,o3,o4,o5,o6,o7,o8,o9,o10⟩:=op_cells r1;obtain ⟨a0,a1,a2,a3,a4,a5,a6,a7,a8,a9,a10⟩:=op_cells r2;go_simp;try with_reducible rfl
    try simp only [Act.put,zA,zB,zC]
    refine wpAnyH_ready (rs:=[9,10]) (by kernel_rfl) (by simp) ?_
    refine AllReadyH.cons rfl (fun K hK=>?_) (AllReadyH.cons rfl (fun K hK=>?_) AllReadyH.nil)
    · go_simp
      refine (hs.out _ hHeld).mono ?_
      rintro e w1 ⟨rfl,k1,hk1⟩
      have E1:=Lib.hid (show Below W2.heap.size W2 w1 by rw [hk1];exact draws hHeld k1)
      have hK1:=Lib.hid hk1
      clear hk1
      go_simp
      refine hK.out _ _ ?_ (fun hNew=>?_)
      · exact E1.out
      clear hK K hHeld
      have hHeld:=hNew
      clear hNew
      try simp only [Act.put,zA,zB,zC]
      refine wpAnyH_ready (rs:=[10]) (by kernel_rfl) (by simp) ?_
      refine AllReadyH.cons rfl (fun K hK=>?_) AllReadyH.nil
      go_simp
      refine hK.out _ _ ?_ (fun hNew=>?_)
      · exact hHeld.alloc hHeld.size _
      clear hK K
      try simp only [Act.put,zA,zB,zC]
      obtain ⟨Xa,hXa⟩:∃ Q9,Q9 = ((w1).alloc (.cells #[.int .u8 0,.int .u8 0] 192)):=⟨_,rfl⟩
      have xr:=Lib.hid (show Xa.heap[(w1).heap.size]? = some (.cells #[.int .u8 0,.int .u8 0] 192 (0,0)) by rw [hXa];exact heap_alloc_new _ _)
      have xs:=Lib.hid (show W2.heap.size≤(w1).heap.size from hHeld.size)
      rw [← hXa] at hNew ⊢
      clear hXa hHeld
      have hHeld:=hNew
      clear hNew
      obtain ⟨q0,q1,qf⟩:=two_at (xr.out)
      refine wpAnyH_ready (rs:=[11]) (by kernel_rfl) (by simp) ?_
      refine AllReadyH.cons rfl (fun K hK=>?_) AllReadyH.nil
      go_simp
      refine hK.out _ _ ?_ (fun hNew=>?_)
      · exact (hHeld.setCell (p:=⟨w1.heap.size,0,none⟩) (by have:=xs.out;first | exact this | omega) _).setCell (p:=⟨w1.heap.size,1,none⟩) (by have:=xs.out;first | exact this | omega) _
      clear hK K hHeld
      have hHeld:=hNew
      clear hNew
      try simp only [Act.put,zA,zB,zC]
      refine wpAnyH_ready (rs:=[12]) (by kernel_rfl) (by simp) ?_
      refine AllReadyH.cons rfl (fun K hK=>?_) AllReadyH.nil
      go_simp
      refine hK.out _ _ hHeld (fun hNew=>?_)
      clear hK K hHeld
      have hHeld:=hNew
      clear hNew
      try simp only [Act.put,zA,zB,zC]
      refine wpAnyH_done (by kernel_rfl) ?_ _
      refine hK0 _ _ ?_
      clear hK0
      go_meet
      exact ⟨w1.heap.size,rfl,rfl,two_set (xr.out),by have:=xs.out;first | exact this | omega,hHeld⟩
    · go_simp
      refine hK.out _ _ ?_ (fun hNew=>?_)
      · exact hHeld.alloc hHeld.size _
      clear hK K
      try simp only [Act.put,zA,zB,zC]
      obtain ⟨Xa,hXa⟩:∃ Q9,Q9 = ((W2).alloc (.cells #[.int .u8 0,.int .u8 0] 192)).drew:=⟨_,rfl⟩
      have xr:=Lib.hid (show Xa.heap[(W2).heap.size]? = some (.cells #[.int .u8 0,.int .u8 0] 192 (0,0)) by rw [hXa];exact heap_alloc_new _ _)
      have xs:=Lib.hid (show W2.heap.size≤(W2).heap.size from hHeld.size)
      rw [← hXa] at hNew ⊢
      clear hXa hHeld
      have hHeld:=hNew
      clear hNew
      refine wpAnyH_ready (rs:=[9]) (by kernel_rfl) (by simp) ?_
      refine AllReadyH.cons rfl (fun K hK=>?_) AllReadyH.nil
      go_simp
      refine (hs.out _ hHeld).mono ?_
      rintro e w1 ⟨rfl,k1,hk1⟩
      have E1:=Lib.hid (show Below W2.heap.size W2 w1 by rw [hk1];exact draws hHeld k1)
      have hK1:=Lib.hid hk1
      clear hk1
      go_simp
      refine hK.out _ _ ?_ (fun hNew=>?_)
      · exact E1.out
      clear hK K hHeld
      have hHeld:=hNew
      clear hNew
      try simp only [Act.put,zA,zB,zC]
      obtain ⟨q0,q1,qf⟩:=two_at (show w1.heap[W2.heap.size]? = some (.cells #[.int .u8 0,.int .u8 0] 192 (0,0)) by rw [hK1.out];exact xr.out)
      refine wpAnyH_ready (rs:=[11]) (by kernel_rfl) (by simp) ?_
      refine AllReadyH.cons rfl (fun K hK=>?_) AllReadyH.nil
      go_simp
      refine hK.out _ _ ?_ (fun hNew=>?_)
      · exact (hHeld.setCell (p:=⟨W2.heap.size,0,none⟩) (by have:=xs.out;first | exact this | omega) _).setCell (p:=⟨W2.heap.size,1,none⟩) (by have:=xs.out;first | exact this | omega) _
      clear hK K hHeld
      have hHeld:=hNew
      clear hNew
      try simp only [Act.put,zA,zB,zC]
      refine wpAnyH_ready (rs:=[12]) (by kernel_rfl) (by simp) ?_
      refine AllReadyH.cons rfl (fun K hK=>?_) AllReadyH.nil
      go_simp
      refine hK.out _ _ hHeld (fun hNew=>?_)
      clear hK K hHeld
      have hHeld:=hNew
      clear hNew
      try simp only [Act.put,zA,zB,zC]
      refine wpAnyH_done (by kernel_rfl) ?_ _
      refine hK0 _ _ ?_
      clear hK0
      go_meet
      exact ⟨W2.heap.size,rfl,rfl,two_set (show w1.heap[W2.heap.size]? = some (.cells #[.int .u8 0,.int .u8 0] 192 (0,0)) by rw [hK1.out];exact xr.out),by have:=xs.out;first | exact this | omega,hHeld⟩
  case rest =>
    obtain ⟨g,rfl,rfl,hk,hg,hwc⟩:=hcut
    have HW:=Lib.hid hwc
    have VW:=Lib.hid (z4'.out.trans (hwc.mono z4'.out.size))
    obtain ⟨r1,r2⟩:=hrow.out wc hwc
    obtain ⟨q0,q1,qf⟩:=two_at hk
    obtain ⟨o0,o1,o2,o3,o4,o5,o6,o7,o8,o9,o10⟩:=op_cells r1
    obtain ⟨a0,a1,a2,a3,a4,a5,a6,a7,a8,a9,a10⟩:=op_cells r2
    clear r1 r2 hk hg hwc hs
    have hval:=Lib.hid (show becomesV b a prior = [shiftedV b a prior] from val_ko HV.out hka.out)
    go_wp2_with (first | (go_at_call 189;(refine (hshift.out _ (by first | exact VW.out | exact draws VW.out _)).mono ?_;rintro e w8 ⟨s8,rfl,h8,hb8⟩;have H8:=Lib.hid h8;have E8:=Lib.hid hb8;clear h8 hb8 o0 o1 o2 o3 o4 o5 o6 o7 o8 o9 o10 a0 a1 a2 a3 a4 a5 a6 a7 a8 a9 a10 q0 q1 qf;unfold opCells)))
    try simp only [Exit.jump]
    go_ret2
    rw [hval.out]
    exact ⟨_,rfl,RowA.one (by first | exact Below.trans VW.out (E8.out.mono (Below.size VW.out)) | exact Below.trans (draws VW.out _) (E8.out.mono (Below.size (draws VW.out _)))) H8.out⟩
end Go.Proofs.Ytidimannfemnmaa.Sqr
namespace Go.Proofs.Ytidimannfemnmaa.Sqr
open Go.RowKit Top Shf Sim
set_option maxRecDepth 20000
set_option maxHeartbeats 32000000 in
theorem becomes_k23 (w:World) (b a:Ov) (sb sa:OS) (prior:Bool) (hb:OpIn w b sb) (ha:OpIn w a sa) (hlb:Tiny b) (hla:Tiny a) (hkb:b.kind = 2) (hka:a.kind = 3) :
    Calls Try.prog 168 #[.agg (opCells b sb),.agg (opCells a sa),.bool prior] w fun e w'=>∃ v,e = .returned (.tuple #[v,.int .i64 0])∧RowA w (becomesV b a prior) v w':=by
  obtain ⟨z1,z2,z4,z5⟩:=two_news w (.cells (opCells b sb) 52) (.cells (opCells a sa) 52)
  obtain ⟨W2,hW2⟩:∃ Q9,Q9 = ((w.alloc (.cells (opCells b sb) 52)).alloc (.cells (opCells a sa) 52)):=⟨_,rfl⟩
  rw [← hW2] at z1 z2 z4 z5
  have z1':=Lib.hid z1
  have z2':=Lib.hid z2
  have z4':=Lib.hid z4
  have z5':=Lib.hid z5
  have hrow:=Lib.hid (fun (W:World) (hB:Below W2.heap.size W2 W)=>And.intro ((hB.block w.heap.size (by omega)).trans z1) ((hB.block (w.heap.size + 1) (by omega)).trans z2))
  obtain ⟨sm,hsm⟩:∃ Q9,Q9 = P4.eqV b.path a.path:=⟨_,rfl⟩
  have hSM:=Lib.hid hsm
  have hs:=Lib.hid (fun (W:World) (hB:Below W2.heap.size W2 W)=>(P4.same_any W sb.pA sa.pA sb.pn sb.pc sa.pn sa.pc b.path a.path (its4 (hb.below (z4.trans (hB.mono z4.size))).path) (its4 (ha.below (z4.trans (hB.mono z4.size))).path) (Nat.le_trans hb.pnc hb.pcm)).mono (R':=fun e w'=>e = .returned (.bool sm)∧∃ k,w' = W.drewN k) fun e w' h=>⟨by rw [hsm];exact h.1,h.2⟩)
  have hw3:=Lib.hid (fun (W:World) (hB:Below w.heap.size w W)=>P4.within_any W sb.pA sa.pA sb.pn sb.pc sa.pn sa.pc b.path a.path (its4 (hb.below hB).path) (its4 (ha.below hB).path) (Nat.le_trans hb.pnc hb.pcm) (Nat.le_trans ha.pnc ha.pcm))
  have hw4:=Lib.hid (fun (W:World) (hB:Below w.heap.size w W)=>P4.within_any W sb.pA sa.tA sb.pn sb.pc sa.tn sa.tc b.path a.to_ (its4 (hb.below hB).path) (its4 (ha.below hB).to_) (Nat.le_trans hb.pnc hb.pcm) (Nat.le_trans ha.tnc ha.tcm))
  have hshift:=Lib.hid (fun (W:World) (hB:Below w.heap.size w W)=>shifted_any W b a sb sa prior (hb.below hB) (ha.below hB) hlb.slen hla.slen)
  have hrow3:=Lib.hid (fun (W:World) (hB:Below w.heap.size w W)=>bothGone_any W b a sb sa (hb.below hB) (ha.below hB) hlb hla)
  have hbo:=Lib.hid (fun (W:World) (hB:Below w.heap.size w W)=>And.intro (hb.below hB) (ha.below hB))
  have hkr:=Lib.hid (show b.kind < 256∧a.kind < 256 from ⟨hb.kind,ha.kind⟩)
  clear hb ha z1 z2 z4 z5 hlb hla
  have hsm2:=Lib.hid hsm.symm
  clear hsm
  have HV:=Lib.hid (And.intro hkb hka)
  have ea2:((a.kind:Int) == 2) = false:=by simp;omega
  have e32:∀ W,(binOp .eql 192 (.agg #[.int .u8 (b.kind:Int),.int .u8 (a.kind:Int)]) (.agg #[.int .u8 3,.int .u8 2])).run Try.prog W = .ok (.bool false) W:=fun W=>by have h5:=eqK W b.kind a.kind 3 2 hkr.out.1 hkr.out.2 (by decide) (by decide);rw [decide_eq_false (by omega)] at h5;exact h5
  have e23:∀ W,(binOp .eql 192 (.agg #[.int .u8 (b.kind:Int),.int .u8 (a.kind:Int)]) (.agg #[.int .u8 2,.int .u8 3])).run Try.prog W = .ok (.bool true) W:=fun W=>by have h5:=eqK W b.kind a.kind 2 3 hkr.out.1 hkr.out.2 (by decide) (by decide);rw [decide_eq_true (by omega)] at h5;exact h5
  have e33:∀ W,(binOp .eql 192 (.agg #[.int .u8 (b.kind:Int),.int .u8 (a.kind:Int)]) (.agg #[.int .u8 3,.int .u8 3])).run Try.prog W = .ok (.bool false) W:=fun W=>by have h5:=eqK W b.kind a.kind 3 3 hkr.out.1 hkr.out.2 (by decide) (by decide);rw [decide_eq_false (by omega)] at h5;exact h5
  have e44:∀ W,(binOp .eql 192 (.agg #[.int .u8 (b.kind:Int),.int .u8 (a.kind:Int)]) (.agg #[.int .u8 4,.int .u8 4])).run Try.prog W = .ok (.bool false) W:=fun W=>by have h5:=eqK W b.kind a.kind 4 4 hkr.out.1 hkr.out.2 (by decide) (by decide);rw [decide_eq_false (by omega)] at h5;exact h5
  have e55:∀ W,(binOp .eql 192 (.agg #[.int .u8 (b.kind:Int),.int .u8 (a.kind:Int)]) (.agg #[.int .u8 5,.int .u8 5])).run Try.prog W = .ok (.bool false) W:=fun W=>by have h5:=eqK W b.kind a.kind 5 5 hkr.out.1 hkr.out.2 (by decide) (by decide);rw [decide_eq_false (by omega)] at h5;exact h5
  have e66:∀ W,(binOp .eql 192 (.agg #[.int .u8 (b.kind:Int),.int .u8 (a.kind:Int)]) (.agg #[.int .u8 6,.int .u8 6])).run Try.prog W = .ok (.bool false) W:=fun W=>by have h5:=eqK W b.kind a.kind 6 6 hkr.out.1 hkr.out.2 (by decide) (by decide);rw [decide_eq_false (by omega)] at h5;exact h5
  clear hka hkb
  unfold opCells at hW2 hshift hrow3
  unfold opCells
  go_enter Try.func168,Try.ntmps168
  go_wp2_with fail
  refine Top.wp_scope_once 0 rfl ?_
  go_upto_region 1 with fail
  rw [← hW2]
  clear hW2
  go_cut [8,9] from 10 (fun v8 v9 wc=>∃ g:Nat,v8 = .pointer (some ⟨g,0,none⟩)∧v9 = .bool sm∧wc.heap[g]? = some (.cells #[.int .u8 (b.kind:Int),.int .u8 (a.kind:Int)] 192 (0,0))∧W2.heap.size≤g∧Below W2.heap.size W2 wc)
  case first =>
    rename_i K0 hK0
    refine wp_region_held_drew (S:=(fun W=>Below W2.heap.size W2 W)) (by kernel_rfl) ((Below.refl W2.heap.size W2).drew) (fun hHeld=>?_)
    refine wpAnyH_take (i:=0) (v:=?_) rfl (by kernel_rfl) (by kernel_rfl) (by kernel_rfl) (fun _ _ _ h=>h) (Or.inl ⟨by rfl,?_⟩) hHeld ?_
    rotate_left 1
    · intro W hSw;obtain ⟨r1,r2⟩:=hrow.out W hSw;obtain ⟨o0,o1,o2,o3,o4,o5,o6,o7,o8,o9,o10⟩:=op_cells r1;obtain ⟨a0,a1,a2,a3,a4,a5,a6,a7,a8,a9,a10⟩:=op_cells r2;go_simp;try with_reducible rfl
    try simp only [Act.put,zA,zB,zC]
    refine wpAnyH_take (i:=1) (v:=?_) rfl (by kernel_rfl) (by kernel_rfl) (by kernel_rfl) (fun _ _ _ h=>h) (Or.inl ⟨by rfl,?_⟩) hHeld ?_
    rotate_left 1
    · intro W hSw;obtain ⟨r1,r2⟩:=hrow.out W hSw;obtain ⟨o0,o1,o2,o3,o4,o5,o6,o7,o8,o9,o10⟩:=op_cells r1;obtain ⟨a0,a1,a2,a3,a4,a5,a6,a7,a8,a9,a10⟩:=op_cells r2;go_simp;try with_reducible rfl
    try simp only [Act.put,zA,zB,zC]
    refine wpAnyH_take (i:=2) (v:=?_) rfl (by kernel_rfl) (by kernel_rfl) (by kernel_rfl) (fun _ _ _ h=>h) (Or.inl ⟨by rfl,?_⟩) hHeld ?_
    rotate_left 1
    · intro W hSw;obtain ⟨r1,r2⟩:=hrow.out W hSw;obtain ⟨o0,o1,o2,o3,o4,o5,o6,o7,o8,o9,o10⟩:=op_cells r1;obtain ⟨a0,a1,a2,a3,a4,a5,a6,a7,a8,a9,a10⟩:=op_cells r2;go_simp;try with_reducible rfl
    try simp only [Act.put,zA,zB,zC]
    refine wpAnyH_take (i:=3) (v:=?_) rfl (by kernel_rfl) (by kernel_rfl) (by kernel_rfl) (fun _ _ _ h=>h) (Or.inl ⟨by rfl,?_⟩) hHeld ?_
    rotate_left 1
    · intro W hSw;obtain ⟨r1,r2⟩:=hrow.out W hSw;obtain ⟨o0,o1,o2,o3,o4,o5,o6,o7,o8,o9,o10⟩:=op_cells r1;obtain ⟨a0,a1,a2,a3,a4,a5,a6,a7,a8,a9,a10⟩:=op_cells r2;go_simp;try with_reducible rfl
    try simp only [Act.put,zA,zB,zC]
    refine wpAnyH_take (i:=4) (v:=?_) rfl (by kernel_rfl) (by kernel_rfl) (by kernel_rfl) (fun _ _ _ h=>h) (Or.inl ⟨by rfl,?_⟩) hHeld ?_
    rotate_left 1
    · intro W hSw;obtain ⟨r1,r2⟩:=hrow.out W hSw;obtain ⟨o0,o1,o2,o3,o4,o5,o6,o7,o8,o9,o10⟩:=op_cells r1;obtain ⟨a0,a1,a2,a3,a4,a5,a6,a7,a8,a9,a10⟩:=op_cells r2;go_simp;try with_reducible rfl
    try simp only [Act.put,zA,zB,zC]
    refine wpAnyH_take (i:=5) (v:=?_) rfl (by kernel_rfl) (by kernel_rfl) (by kernel_rfl) (fun _ _ _ h=>h) (Or.inl ⟨by rfl,?_⟩) hHeld ?_
    rotate_left 1
    · intro W hSw;obtain ⟨r1,r2⟩:=hrow.out W hSw;obtain ⟨o0,o1,o2,o3,o4,o5,o6,o7,o8,o9,o10⟩:=op_cells r1;obtain ⟨a0,a1,a2,a3,a4,a5,a6,a7,a8,a9,a10⟩:=op_cells r2;go_simp;try with_reducible rfl
    try simp only [Act.put,zA,zB,zC]
    refine wpAnyH_take (i:=6) (v:=?_) rfl (by kernel_rfl) (by kernel_rfl) (by kernel_rfl) (fun _ _ _ h=>h) (Or.inl ⟨by rfl,?_⟩) hHeld ?_
    rotate_left 1
    · intro W hSw;obtain ⟨r1,r2⟩:=hrow.out W hSw;obtain ⟨o0,o1,o2,o3,o4,o5,o6,o7,o8,o9,o10⟩:=op_cells r1;obtain ⟨a0,a1,a2,a3,a4,a5,a6,a7,a8,a9,a10⟩:=op_cells r2;go_simp;try with_reducible rfl
    try simp only [Act.put,zA,zB,zC]
    refine wpAnyH_take (i:=7) (v:=?_) rfl (by kernel_rfl) (by kernel_rfl) (by kernel_rfl) (fun _ _ _ h=>h) (Or.inl ⟨by rfl,?_⟩) hHeld ?_
    rotate_left 1
    · intro W hSw;obtain ⟨r1,r2⟩:=hrow.out W hSw;obtain ⟨o0,o1,o2,o3,o4,o5,o6,o7,o8,o9,o10⟩:=op_cells r1;obtain ⟨a0,a1,a2,a3,a4,a5,a6,a7,a8,a9,a10⟩:=op_cells r2;go_simp;try with_reducible rfl
    try simp only [Act.put,zA,zB,zC]
    refine wpAnyH_take (i:=8) (v:=?_) rfl (by kernel_rfl) (by kernel_rfl) (by kernel_rfl) (fun _ _ _ h=>h) (Or.inl ⟨by rfl,?_⟩) hHeld ?_
    rotate_left 1
    · intro W hSw;obtain ⟨r1,r2⟩:=hrow.out W hSw;obtain ⟨o0,o1,o2,o3,o4,o5,o6,o7,o8,o9,o10⟩:=op_cells r1;obtain ⟨a0,a1,a2,a3,a4,a5,a6,a7,a8,a9,a10⟩:=op_cells r2;go_simp;try with_reducible rfl
    try simp only [Act.put,zA,zB,zC]
    refine wpAnyH_ready (rs:=[9,10]) (by kernel_rfl) (by simp) ?_
    refine AllReadyH.cons rfl (fun K hK=>?_) (AllReadyH.cons rfl (fun K hK=>?_) AllReadyH.nil)
    · go_simp
      refine (hs.out _ hHeld).mono ?_
      rintro e w1 ⟨rfl,k1,hk1⟩
      have E1:=Lib.hid (show Below W2.heap.size W2 w1 by rw [hk1];exact draws hHeld k1)
      have hK1:=Lib.hid hk1
      clear hk1
      go_simp
      refine hK.out _ _ ?_ (fun hNew=>?_)
      · exact E1.out
      clear hK K hHeld
      have hHeld:=hNew
      clear hNew
      try simp only [Act.put,zA,zB,zC]
      refine wpAnyH_ready (rs:=[10]) (by kernel_rfl) (by simp) ?_
      refine AllReadyH.cons rfl (fun K hK=>?_) AllReadyH.nil
      go_simp
      refine hK.out _ _ ?_ (fun hNew=>?_)
      · exact hHeld.alloc hHeld.size _
      clear hK K
      try simp only [Act.put,zA,zB,zC]
      obtain ⟨Xa,hXa⟩:∃ Q9,Q9 = ((w1).alloc (.cells #[.int .u8 0,.int .u8 0] 192)):=⟨_,rfl⟩
      have xr:=Lib.hid (show Xa.heap[(w1).heap.size]? = some (.cells #[.int .u8 0,.int .u8 0] 192 (0,0)) by rw [hXa];exact heap_alloc_new _ _)
      have xs:=Lib.hid (show W2.heap.size≤(w1).heap.size from hHeld.size)
      rw [← hXa] at hNew ⊢
      clear hXa hHeld
      have hHeld:=hNew
      clear hNew
      obtain ⟨q0,q1,qf⟩:=two_at (xr.out)
      refine wpAnyH_ready (rs:=[11]) (by kernel_rfl) (by simp) ?_
      refine AllReadyH.cons rfl (fun K hK=>?_) AllReadyH.nil
      go_simp
      refine hK.out _ _ ?_ (fun hNew=>?_)
      · exact (hHeld.setCell (p:=⟨w1.heap.size,0,none⟩) (by have:=xs.out;first | exact this | omega) _).setCell (p:=⟨w1.heap.size,1,none⟩) (by have:=xs.out;first | exact this | omega) _
      clear hK K hHeld
      have hHeld:=hNew
      clear hNew
      try simp only [Act.put,zA,zB,zC]
      refine wpAnyH_ready (rs:=[12]) (by kernel_rfl) (by simp) ?_
      refine AllReadyH.cons rfl (fun K hK=>?_) AllReadyH.nil
      go_simp
      refine hK.out _ _ hHeld (fun hNew=>?_)
      clear hK K hHeld
      have hHeld:=hNew
      clear hNew
      try simp only [Act.put,zA,zB,zC]
      refine wpAnyH_done (by kernel_rfl) ?_ _
      refine hK0 _ _ ?_
      clear hK0
      go_meet
      exact ⟨w1.heap.size,rfl,rfl,two_set (xr.out),by have:=xs.out;first | exact this | omega,hHeld⟩
    · go_simp
      refine hK.out _ _ ?_ (fun hNew=>?_)
      · exact hHeld.alloc hHeld.size _
      clear hK K
      try simp only [Act.put,zA,zB,zC]
      obtain ⟨Xa,hXa⟩:∃ Q9,Q9 = ((W2).alloc (.cells #[.int .u8 0,.int .u8 0] 192)).drew:=⟨_,rfl⟩
      have xr:=Lib.hid (show Xa.heap[(W2).heap.size]? = some (.cells #[.int .u8 0,.int .u8 0] 192 (0,0)) by rw [hXa];exact heap_alloc_new _ _)
      have xs:=Lib.hid (show W2.heap.size≤(W2).heap.size from hHeld.size)
      rw [← hXa] at hNew ⊢
      clear hXa hHeld
      have hHeld:=hNew
      clear hNew
      refine wpAnyH_ready (rs:=[9]) (by kernel_rfl) (by simp) ?_
      refine AllReadyH.cons rfl (fun K hK=>?_) AllReadyH.nil
      go_simp
      refine (hs.out _ hHeld).mono ?_
      rintro e w1 ⟨rfl,k1,hk1⟩
      have E1:=Lib.hid (show Below W2.heap.size W2 w1 by rw [hk1];exact draws hHeld k1)
      have hK1:=Lib.hid hk1
      clear hk1
      go_simp
      refine hK.out _ _ ?_ (fun hNew=>?_)
      · exact E1.out
      clear hK K hHeld
      have hHeld:=hNew
      clear hNew
      try simp only [Act.put,zA,zB,zC]
      obtain ⟨q0,q1,qf⟩:=two_at (show w1.heap[W2.heap.size]? = some (.cells #[.int .u8 0,.int .u8 0] 192 (0,0)) by rw [hK1.out];exact xr.out)
      refine wpAnyH_ready (rs:=[11]) (by kernel_rfl) (by simp) ?_
      refine AllReadyH.cons rfl (fun K hK=>?_) AllReadyH.nil
      go_simp
      refine hK.out _ _ ?_ (fun hNew=>?_)
      · exact (hHeld.setCell (p:=⟨W2.heap.size,0,none⟩) (by have:=xs.out;first | exact this | omega) _).setCell (p:=⟨W2.heap.size,1,none⟩) (by have:=xs.out;first | exact this | omega) _
      clear hK K hHeld
      have hHeld:=hNew
      clear hNew
      try simp only [Act.put,zA,zB,zC]
      refine wpAnyH_ready (rs:=[12]) (by kernel_rfl) (by simp) ?_
      refine AllReadyH.cons rfl (fun K hK=>?_) AllReadyH.nil
      go_simp
      refine hK.out _ _ hHeld (fun hNew=>?_)
      clear hK K hHeld
      have hHeld:=hNew
      clear hNew
      try simp only [Act.put,zA,zB,zC]
      refine wpAnyH_done (by kernel_rfl) ?_ _
      refine hK0 _ _ ?_
      clear hK0
      go_meet
      exact ⟨W2.heap.size,rfl,rfl,two_set (show w1.heap[W2.heap.size]? = some (.cells #[.int .u8 0,.int .u8 0] 192 (0,0)) by rw [hK1.out];exact xr.out),by have:=xs.out;first | exact this | omega,hHeld⟩
  case rest =>
    obtain ⟨g,rfl,rfl,hk,hg,hwc⟩:=hcut
    have HW:=Lib.hid hwc
    have VW:=Lib.hid (z4'.out.trans (hwc.mono z4'.out.size))
    obtain ⟨r1,r2⟩:=hrow.out wc hwc
    obtain ⟨q0,q1,qf⟩:=two_at hk
    obtain ⟨o0,o1,o2,o3,o4,o5,o6,o7,o8,o9,o10⟩:=op_cells r1
    obtain ⟨a0,a1,a2,a3,a4,a5,a6,a7,a8,a9,a10⟩:=op_cells r2
    clear r1 r2 hk hg hwc hs
    cases sm with
    | true =>
      have hval:=Lib.hid (show becomesV b a prior = [shiftedV b a prior] from val_k23b HV.out.1 HV.out.2 (.inl hsm2.out))
      go_wp2_with (first | (go_at_call 189;(refine (hshift.out _ (by first | exact VW.out | exact draws VW.out _)).mono ?_;rintro e w8 ⟨s8,rfl,h8,hb8⟩;have H8:=Lib.hid h8;have E8:=Lib.hid hb8;clear h8 hb8 o0 o1 o2 o3 o4 o5 o6 o7 o8 o9 o10 a0 a1 a2 a3 a4 a5 a6 a7 a8 a9 a10 q0 q1 qf;unfold opCells)))
      try simp only [Exit.jump]
      go_ret2
      rw [hval.out]
      exact ⟨_,rfl,RowA.one (by first | exact Below.trans VW.out (E8.out.mono (Below.size VW.out)) | exact Below.trans (draws VW.out _) (E8.out.mono (Below.size (draws VW.out _)))) H8.out⟩
    | false =>
      cases h_w3:P4.withinV b.path a.path with
      | true =>
        rw [h_w3] at hw3
        have H_w3:=Lib.hid h_w3
        clear h_w3
        cases h_w4:P4.withinV b.path a.to_ with
        | true =>
          rw [h_w4] at hw4
          have H_w4:=Lib.hid h_w4
          clear h_w4
          have hval:=Lib.hid (show becomesV b a prior = [shiftedV b a prior] from val_k23b HV.out.1 HV.out.2 (.inr (.inr H_w4.out)))
          go_wp2_with (first | (go_at_call 189;(refine (hshift.out _ (by first | exact VW.out | exact draws VW.out _)).mono ?_;rintro e w8 ⟨s8,rfl,h8,hb8⟩;have H8:=Lib.hid h8;have E8:=Lib.hid hb8;clear h8 hb8 o0 o1 o2 o3 o4 o5 o6 o7 o8 o9 o10 a0 a1 a2 a3 a4 a5 a6 a7 a8 a9 a10 q0 q1 qf;unfold opCells)) | (go_at_call_of 165 sa.tA;(refine (hw4.out _ (by first | exact VW.out | exact draws VW.out _)).mono ?_;rintro e wy ⟨rfl,kw4,rfl⟩)) | (go_at_call_of 165 sa.pA;(refine (hw3.out _ (by first | exact VW.out | exact draws VW.out _)).mono ?_;rintro e wx ⟨rfl,kw3,rfl⟩)))
          try simp only [Exit.jump]
          go_ret2
          rw [hval.out]
          exact ⟨_,rfl,RowA.one (by first | exact Below.trans VW.out (E8.out.mono (Below.size VW.out)) | exact Below.trans (draws VW.out _) (E8.out.mono (Below.size (draws VW.out _)))) H8.out⟩
        | false =>
          rw [h_w4] at hw4
          have H_w4:=Lib.hid h_w4
          clear h_w4
          have hval:=Lib.hid (show becomesV b a prior = [delV (nodeD a a.path),delV (nodeD (delV (nodeD a a.path)) (nodeD a b.path))] from val_k23a HV.out.1 HV.out.2 hsm2.out H_w3.out H_w4.out)
          go_wp2_with (first | (go_at_call 187;(refine (hrow3.out _ (by first | exact VW.out | exact draws VW.out _)).mono ?_;rintro e w8 ⟨v8,rfl,h8⟩;have hb8:=h8.bel;have H8:=Lib.hid h8;have E8:=Lib.hid hb8;clear h8 hb8 o0 o1 o2 o3 o4 o5 o6 o7 o8 o9 o10 a0 a1 a2 a3 a4 a5 a6 a7 a8 a9 a10 q0 q1 qf)) | (go_at_call_of 165 sa.tA;(refine (hw4.out _ (by first | exact VW.out | exact draws VW.out _)).mono ?_;rintro e wy ⟨rfl,kw4,rfl⟩)) | (go_at_call_of 165 sa.pA;(refine (hw3.out _ (by first | exact VW.out | exact draws VW.out _)).mono ?_;rintro e wx ⟨rfl,kw3,rfl⟩)))
          try simp only [Exit.jump]
          go_ret2
          rw [hval.out]
          exact ⟨_,rfl,H8.out.from_ (by first | exact VW.out | exact draws VW.out _)⟩
      | false =>
        rw [h_w3] at hw3
        have H_w3:=Lib.hid h_w3
        clear h_w3
        have hval:=Lib.hid (show becomesV b a prior = [shiftedV b a prior] from val_k23b HV.out.1 HV.out.2 (.inr (.inl H_w3.out)))
        go_wp2_with (first | (go_at_call 189;(refine (hshift.out _ (by first | exact VW.out | exact draws VW.out _)).mono ?_;rintro e w8 ⟨s8,rfl,h8,hb8⟩;have H8:=Lib.hid h8;have E8:=Lib.hid hb8;clear h8 hb8 o0 o1 o2 o3 o4 o5 o6 o7 o8 o9 o10 a0 a1 a2 a3 a4 a5 a6 a7 a8 a9 a10 q0 q1 qf;unfold opCells)) | (go_at_call_of 165 sa.pA;(refine (hw3.out _ (by first | exact VW.out | exact draws VW.out _)).mono ?_;rintro e wx ⟨rfl,kw3,rfl⟩)))
        try simp only [Exit.jump]
        go_ret2
        rw [hval.out]
        exact ⟨_,rfl,RowA.one (by first | exact Below.trans VW.out (E8.out.mono (Below.size VW.out)) | exact Below.trans (draws VW.out _) (E8.out.mono (Below.size (draws VW.out _)))) H8.out⟩
end Go.Proofs.Ytidimannfemnmaa.Sqr
namespace Go.Proofs.Ytidimannfemnmaa.Sqr
open Go.RowKit Top Shf Sim
set_option maxRecDepth 20000
set_option maxHeartbeats 32000000 in
theorem becomes_k44 (w:World) (b a:Ov) (sb sa:OS) (prior:Bool) (hb:OpIn w b sb) (ha:OpIn w a sa) (hlb:Tiny b) (hla:Tiny a) (hkb:b.kind = 4) (hka:a.kind = 4) :
    Calls Try.prog 168 #[.agg (opCells b sb),.agg (opCells a sa),.bool prior] w fun e w'=>∃ v,e = .returned (.tuple #[v,.int .i64 0])∧RowA w (becomesV b a prior) v w':=by
  obtain ⟨z1,z2,z4,z5⟩:=two_news w (.cells (opCells b sb) 52) (.cells (opCells a sa) 52)
  obtain ⟨W2,hW2⟩:∃ Q9,Q9 = ((w.alloc (.cells (opCells b sb) 52)).alloc (.cells (opCells a sa) 52)):=⟨_,rfl⟩
  rw [← hW2] at z1 z2 z4 z5
  have z1':=Lib.hid z1
  have z2':=Lib.hid z2
  have z4':=Lib.hid z4
  have z5':=Lib.hid z5
  have hrow:=Lib.hid (fun (W:World) (hB:Below W2.heap.size W2 W)=>And.intro ((hB.block w.heap.size (by omega)).trans z1) ((hB.block (w.heap.size + 1) (by omega)).trans z2))
  obtain ⟨sm,hsm⟩:∃ Q9,Q9 = P4.eqV b.path a.path:=⟨_,rfl⟩
  have hSM:=Lib.hid hsm
  have hs:=Lib.hid (fun (W:World) (hB:Below W2.heap.size W2 W)=>(P4.same_any W sb.pA sa.pA sb.pn sb.pc sa.pn sa.pc b.path a.path (its4 (hb.below (z4.trans (hB.mono z4.size))).path) (its4 (ha.below (z4.trans (hB.mono z4.size))).path) (Nat.le_trans hb.pnc hb.pcm)).mono (R':=fun e w'=>e = .returned (.bool sm)∧∃ k,w' = W.drewN k) fun e w' h=>⟨by rw [hsm];exact h.1,h.2⟩)
  have hshift:=Lib.hid (fun (W:World) (hB:Below w.heap.size w W)=>shifted_any W b a sb sa prior (hb.below hB) (ha.below hB) hlb.slen hla.slen)
  have hbo:=Lib.hid (fun (W:World) (hB:Below w.heap.size w W)=>And.intro (hb.below hB) (ha.below hB))
  have hkr:=Lib.hid (show b.kind < 256∧a.kind < 256 from ⟨hb.kind,ha.kind⟩)
  clear hb ha z1 z2 z4 z5 hlb hla
  have hsm2:=Lib.hid hsm.symm
  clear hsm
  have HV:=Lib.hid (And.intro hkb hka)
  have ea2:((a.kind:Int) == 2) = false:=by simp;omega
  have e32:∀ W,(binOp .eql 192 (.agg #[.int .u8 (b.kind:Int),.int .u8 (a.kind:Int)]) (.agg #[.int .u8 3,.int .u8 2])).run Try.prog W = .ok (.bool false) W:=fun W=>by have h5:=eqK W b.kind a.kind 3 2 hkr.out.1 hkr.out.2 (by decide) (by decide);rw [decide_eq_false (by omega)] at h5;exact h5
  have e23:∀ W,(binOp .eql 192 (.agg #[.int .u8 (b.kind:Int),.int .u8 (a.kind:Int)]) (.agg #[.int .u8 2,.int .u8 3])).run Try.prog W = .ok (.bool false) W:=fun W=>by have h5:=eqK W b.kind a.kind 2 3 hkr.out.1 hkr.out.2 (by decide) (by decide);rw [decide_eq_false (by omega)] at h5;exact h5
  have e33:∀ W,(binOp .eql 192 (.agg #[.int .u8 (b.kind:Int),.int .u8 (a.kind:Int)]) (.agg #[.int .u8 3,.int .u8 3])).run Try.prog W = .ok (.bool false) W:=fun W=>by have h5:=eqK W b.kind a.kind 3 3 hkr.out.1 hkr.out.2 (by decide) (by decide);rw [decide_eq_false (by omega)] at h5;exact h5
  have e44:∀ W,(binOp .eql 192 (.agg #[.int .u8 (b.kind:Int),.int .u8 (a.kind:Int)]) (.agg #[.int .u8 4,.int .u8 4])).run Try.prog W = .ok (.bool true) W:=fun W=>by have h5:=eqK W b.kind a.kind 4 4 hkr.out.1 hkr.out.2 (by decide) (by decide);rw [decide_eq_true (by omega)] at h5;exact h5
  have e55:∀ W,(binOp .eql 192 (.agg #[.int .u8 (b.kind:Int),.int .u8 (a.kind:Int)]) (.agg #[.int .u8 5,.int .u8 5])).run Try.prog W = .ok (.bool false) W:=fun W=>by have h5:=eqK W b.kind a.kind 5 5 hkr.out.1 hkr.out.2 (by decide) (by decide);rw [decide_eq_false (by omega)] at h5;exact h5
  have e66:∀ W,(binOp .eql 192 (.agg #[.int .u8 (b.kind:Int),.int .u8 (a.kind:Int)]) (.agg #[.int .u8 6,.int .u8 6])).run Try.prog W = .ok (.bool false) W:=fun W=>by have h5:=eqK W b.kind a.kind 6 6 hkr.out.1 hkr.out.2 (by decide) (by decide);rw [decide_eq_false (by omega)] at h5;exact h5
  clear hka hkb
  unfold opCells at hW2 hshift
  unfold opCells
  go_enter Try.func168,Try.ntmps168
  go_wp2_with fail
  refine Top.wp_scope_once 0 rfl ?_
  go_upto_region 1 with fail
  rw [← hW2]
  clear hW2
  go_cut [8,9] from 10 (fun v8 v9 wc=>∃ g:Nat,v8 = .pointer (some ⟨g,0,none⟩)∧v9 = .bool sm∧wc.heap[g]? = some (.cells #[.int .u8 (b.kind:Int),.int .u8 (a.kind:Int)] 192 (0,0))∧W2.heap.size≤g∧Below W2.heap.size W2 wc)
  case first =>
    rename_i K0 hK0
    refine wp_region_held_drew (S:=(fun W=>Below W2.heap.size W2 W)) (by kernel_rfl) ((Below.refl W2.heap.size W2).drew) (fun hHeld=>?_)
    refine wpAnyH_take (i:=0) (v:=?_) rfl (by kernel_rfl) (by kernel_rfl) (by kernel_rfl) (fun _ _ _ h=>h) (Or.inl ⟨by rfl,?_⟩) hHeld ?_
    rotate_left 1
    · intro W hSw;obtain ⟨r1,r2⟩:=hrow.out W hSw;obtain ⟨o0,o1,o2,o3,o4,o5,o6,o7,o8,o9,o10⟩:=op_cells r1;obtain ⟨a0,a1,a2,a3,a4,a5,a6,a7,a8,a9,a10⟩:=op_cells r2;go_simp;try with_reducible rfl
    try simp only [Act.put,zA,zB,zC]
    refine wpAnyH_take (i:=1) (v:=?_) rfl (by kernel_rfl) (by kernel_rfl) (by kernel_rfl) (fun _ _ _ h=>h) (Or.inl ⟨by rfl,?_⟩) hHeld ?_
    rotate_left 1
    · intro W hSw;obtain ⟨r1,r2⟩:=hrow.out W hSw;obtain ⟨o0,o1,o2,o3,o4,o5,o6,o7,o8,o9,o10⟩:=op_cells r1;obtain ⟨a0,a1,a2,a3,a4,a5,a6,a7,a8,a9,a10⟩:=op_cells r2;go_simp;try with_reducible rfl
    try simp only [Act.put,zA,zB,zC]
    refine wpAnyH_take (i:=2) (v:=?_) rfl (by kernel_rfl) (by kernel_rfl) (by kernel_rfl) (fun _ _ _ h=>h) (Or.inl ⟨by rfl,?_⟩) hHeld ?_
    rotate_left 1
    · intro W hSw;obtain ⟨r1,r2⟩:=hrow.out W hSw;obtain ⟨o0,o1,o2,o3,o4,o5,o6,o7,o8,o9,o10⟩:=op_cells r1;obtain ⟨a0,a1,a2,a3,a4,a5,a6,a7,a8,a9,a10⟩:=op_cells r2;go_simp;try with_reducible rfl
    try simp only [Act.put,zA,zB,zC]
    refine wpAnyH_take (i:=3) (v:=?_) rfl (by kernel_rfl) (by kernel_rfl) (by kernel_rfl) (fun _ _ _ h=>h) (Or.inl ⟨by rfl,?_⟩) hHeld ?_
    rotate_left 1
    · intro W hSw;obtain ⟨r1,r2⟩:=hrow.out W hSw;obtain ⟨o0,o1,o2,o3,o4,o5,o6,o7,o8,o9,o10⟩:=op_cells r1;obtain ⟨a0,a1,a2,a3,a4,a5,a6,a7,a8,a9,a10⟩:=op_cells r2;go_simp;try with_reducible rfl
    try simp only [Act.put,zA,zB,zC]
    refine wpAnyH_take (i:=4) (v:=?_) rfl (by kernel_rfl) (by kernel_rfl) (by kernel_rfl) (fun _ _ _ h=>h) (Or.inl ⟨by rfl,?_⟩) hHeld ?_
    rotate_left 1
    · intro W hSw;obtain ⟨r1,r2⟩:=hrow.out W hSw;obtain ⟨o0,o1,o2,o3,o4,o5,o6,o7,o8,o9,o10⟩:=op_cells r1;obtain ⟨a0,a1,a2,a3,a4,a5,a6,a7,a8,a9,a10⟩:=op_cells r2;go_simp;try with_reducible rfl
    try simp only [Act.put,zA,zB,zC]
    refine wpAnyH_take (i:=5) (v:=?_) rfl (by kernel_rfl) (by kernel_rfl) (by kernel_rfl) (fun _ _ _ h=>h) (Or.inl ⟨by rfl,?_⟩) hHeld ?_
    rotate_left 1
    · intro W hSw;obtain ⟨r1,r2⟩:=hrow.out W hSw;obtain ⟨o0,o1,o2,o3,o4,o5,o6,o7,o8,o9,o10⟩:=op_cells r1;obtain ⟨a0,a1,a2,a3,a4,a5,a6,a7,a8,a9,a10⟩:=op_cells r2;go_simp;try with_reducible rfl
    try simp only [Act.put,zA,zB,zC]
    refine wpAnyH_take (i:=6) (v:=?_) rfl (by kernel_rfl) (by kernel_rfl) (by kernel_rfl) (fun _ _ _ h=>h) (Or.inl ⟨by rfl,?_⟩) hHeld ?_
    rotate_left 1
    · intro W hSw;obtain ⟨r1,r2⟩:=hrow.out W hSw;obtain ⟨o0,o1,o2,o3,o4,o5,o6,o7,o8,o9,o10⟩:=op_cells r1;obtain ⟨a0,a1,a2,a3,a4,a5,a6,a7,a8,a9,a10⟩:=op_cells r2;go_simp;try with_reducible rfl
    try simp only [Act.put,zA,zB,zC]
    refine wpAnyH_take (i:=7) (v:=?_) rfl (by kernel_rfl) (by kernel_rfl) (by kernel_rfl) (fun _ _ _ h=>h) (Or.inl ⟨by rfl,?_⟩) hHeld ?_
    rotate_left 1
    · intro W hSw;obtain ⟨r1,r2⟩:=hrow.out W hSw;obtain ⟨o0,o1,o2,o3,o4,o5,o6,o7,o8,o9,o10⟩:=op_cells r1;obtain ⟨a0,a1,a2,a3,a4,a5,a6,a7,a8,a9,a10⟩:=op_cells r2;go_simp;try with_reducible rfl
    try simp only [Act.put,zA,zB,zC]
    refine wpAnyH_take (i:=8) (v:=?_) rfl (by kernel_rfl) (by kernel_rfl) (by kernel_rfl) (fun _ _ _ h=>h) (Or.inl ⟨by rfl,?_⟩) hHeld ?_
    rotate_left 1
    · intro W hSw;obtain ⟨r1,r2⟩:=hrow.out W hSw;obtain ⟨o0,o1,o2,o3,o4,o5,o6,o7,o8,o9,o10⟩:=op_cells r1;obtain ⟨a0,a1,a2,a3,a4,a5,a6,a7,a8,a9,a10⟩:=op_cells r2;go_simp;try with_reducible rfl
    try simp only [Act.put,zA,zB,zC]
    refine wpAnyH_ready (rs:=[9,10]) (by kernel_rfl) (by simp) ?_
    refine AllReadyH.cons rfl (fun K hK=>?_) (AllReadyH.cons rfl (fun K hK=>?_) AllReadyH.nil)
    · go_simp
      refine (hs.out _ hHeld).mono ?_
      rintro e w1 ⟨rfl,k1,hk1⟩
      have E1:=Lib.hid (show Below W2.heap.size W2 w1 by rw [hk1];exact draws hHeld k1)
      have hK1:=Lib.hid hk1
      clear hk1
      go_simp
      refine hK.out _ _ ?_ (fun hNew=>?_)
      · exact E1.out
      clear hK K hHeld
      have hHeld:=hNew
      clear hNew
      try simp only [Act.put,zA,zB,zC]
      refine wpAnyH_ready (rs:=[10]) (by kernel_rfl) (by simp) ?_
      refine AllReadyH.cons rfl (fun K hK=>?_) AllReadyH.nil
      go_simp
      refine hK.out _ _ ?_ (fun hNew=>?_)
      · exact hHeld.alloc hHeld.size _
      clear hK K
      try simp only [Act.put,zA,zB,zC]
      obtain ⟨Xa,hXa⟩:∃ Q9,Q9 = ((w1).alloc (.cells #[.int .u8 0,.int .u8 0] 192)):=⟨_,rfl⟩
      have xr:=Lib.hid (show Xa.heap[(w1).heap.size]? = some (.cells #[.int .u8 0,.int .u8 0] 192 (0,0)) by rw [hXa];exact heap_alloc_new _ _)
      have xs:=Lib.hid (show W2.heap.size≤(w1).heap.size from hHeld.size)
      rw [← hXa] at hNew ⊢
      clear hXa hHeld
      have hHeld:=hNew
      clear hNew
      obtain ⟨q0,q1,qf⟩:=two_at (xr.out)
      refine wpAnyH_ready (rs:=[11]) (by kernel_rfl) (by simp) ?_
      refine AllReadyH.cons rfl (fun K hK=>?_) AllReadyH.nil
      go_simp
      refine hK.out _ _ ?_ (fun hNew=>?_)
      · exact (hHeld.setCell (p:=⟨w1.heap.size,0,none⟩) (by have:=xs.out;first | exact this | omega) _).setCell (p:=⟨w1.heap.size,1,none⟩) (by have:=xs.out;first | exact this | omega) _
      clear hK K hHeld
      have hHeld:=hNew
      clear hNew
      try simp only [Act.put,zA,zB,zC]
      refine wpAnyH_ready (rs:=[12]) (by kernel_rfl) (by simp) ?_
      refine AllReadyH.cons rfl (fun K hK=>?_) AllReadyH.nil
      go_simp
      refine hK.out _ _ hHeld (fun hNew=>?_)
      clear hK K hHeld
      have hHeld:=hNew
      clear hNew
      try simp only [Act.put,zA,zB,zC]
      refine wpAnyH_done (by kernel_rfl) ?_ _
      refine hK0 _ _ ?_
      clear hK0
      go_meet
      exact ⟨w1.heap.size,rfl,rfl,two_set (xr.out),by have:=xs.out;first | exact this | omega,hHeld⟩
    · go_simp
      refine hK.out _ _ ?_ (fun hNew=>?_)
      · exact hHeld.alloc hHeld.size _
      clear hK K
      try simp only [Act.put,zA,zB,zC]
      obtain ⟨Xa,hXa⟩:∃ Q9,Q9 = ((W2).alloc (.cells #[.int .u8 0,.int .u8 0] 192)).drew:=⟨_,rfl⟩
      have xr:=Lib.hid (show Xa.heap[(W2).heap.size]? = some (.cells #[.int .u8 0,.int .u8 0] 192 (0,0)) by rw [hXa];exact heap_alloc_new _ _)
      have xs:=Lib.hid (show W2.heap.size≤(W2).heap.size from hHeld.size)
      rw [← hXa] at hNew ⊢
      clear hXa hHeld
      have hHeld:=hNew
      clear hNew
      refine wpAnyH_ready (rs:=[9]) (by kernel_rfl) (by simp) ?_
      refine AllReadyH.cons rfl (fun K hK=>?_) AllReadyH.nil
      go_simp
      refine (hs.out _ hHeld).mono ?_
      rintro e w1 ⟨rfl,k1,hk1⟩
      have E1:=Lib.hid (show Below W2.heap.size W2 w1 by rw [hk1];exact draws hHeld k1)
      have hK1:=Lib.hid hk1
      clear hk1
      go_simp
      refine hK.out _ _ ?_ (fun hNew=>?_)
      · exact E1.out
      clear hK K hHeld
      have hHeld:=hNew
      clear hNew
      try simp only [Act.put,zA,zB,zC]
      obtain ⟨q0,q1,qf⟩:=two_at (show w1.heap[W2.heap.size]? = some (.cells #[.int .u8 0,.int .u8 0] 192 (0,0)) by rw [hK1.out];exact xr.out)
      refine wpAnyH_ready (rs:=[11]) (by kernel_rfl) (by simp) ?_
      refine AllReadyH.cons rfl (fun K hK=>?_) AllReadyH.nil
      go_simp
      refine hK.out _ _ ?_ (fun hNew=>?_)
      · exact (hHeld.setCell (p:=⟨W2.heap.size,0,none⟩) (by have:=xs.out;first | exact this | omega) _).setCell (p:=⟨W2.heap.size,1,none⟩) (by have:=xs.out;first | exact this | omega) _
      clear hK K hHeld
      have hHeld:=hNew
      clear hNew
      try simp only [Act.put,zA,zB,zC]
      refine wpAnyH_ready (rs:=[12]) (by kernel_rfl) (by simp) ?_
      refine AllReadyH.cons rfl (fun K hK=>?_) AllReadyH.nil
      go_simp
      refine hK.out _ _ hHeld (fun hNew=>?_)
      clear hK K hHeld
      have hHeld:=hNew
      clear hNew
      try simp only [Act.put,zA,zB,zC]
      refine wpAnyH_done (by kernel_rfl) ?_ _
      refine hK0 _ _ ?_
      clear hK0
      go_meet
      exact ⟨W2.heap.size,rfl,rfl,two_set (show w1.heap[W2.heap.size]? = some (.cells #[.int .u8 0,.int .u8 0] 192 (0,0)) by rw [hK1.out];exact xr.out),by have:=xs.out;first | exact this | omega,hHeld⟩
  case rest =>
    obtain ⟨g,rfl,rfl,hk,hg,hwc⟩:=hcut
    have HW:=Lib.hid hwc
    have VW:=Lib.hid (z4'.out.trans (hwc.mono z4'.out.size))
    obtain ⟨r1,r2⟩:=hrow.out wc hwc
    obtain ⟨q0,q1,qf⟩:=two_at hk
    obtain ⟨o0,o1,o2,o3,o4,o5,o6,o7,o8,o9,o10⟩:=op_cells r1
    obtain ⟨a0,a1,a2,a3,a4,a5,a6,a7,a8,a9,a10⟩:=op_cells r2
    clear r1 r2 hk hg hwc hs
    cases sm with
    | true =>
      by_cases hke:b.key = a.key
      · have HK:=Lib.hid hke
        have ke:(b.key == a.key) = true:=by simp [hke]
        clear hke
        cases prior with
        | true =>
          have hval:=Lib.hid (show becomesV b a true = [shiftedV b a true] from (val_k44a HV.out.1 HV.out.2 hsm2.out HK.out).trans (if_pos rfl))
          go_wp2_with (first | (go_at_call 189;(refine (hshift.out _ (by first | exact VW.out | exact draws VW.out _)).mono ?_;rintro e w8 ⟨s8,rfl,h8,hb8⟩;have H8:=Lib.hid h8;have E8:=Lib.hid hb8;clear h8 hb8 o0 o1 o2 o3 o4 o5 o6 o7 o8 o9 o10 a0 a1 a2 a3 a4 a5 a6 a7 a8 a9 a10 q0 q1 qf;unfold opCells)))
          try simp only [Exit.jump]
          go_ret2
          rw [hval.out]
          exact ⟨_,rfl,RowA.one (by first | exact Below.trans VW.out (E8.out.mono (Below.size VW.out)) | exact Below.trans (draws VW.out _) (E8.out.mono (Below.size (draws VW.out _)))) H8.out⟩
        | false =>
          have hval:=Lib.hid (show becomesV b a false = [] from (val_k44a HV.out.1 HV.out.2 hsm2.out HK.out).trans (if_neg (by decide)))
          go_wp2_with fail
          go_step3
          refine ⟨rfl,?_⟩
          go_wp2_with fail
          try simp only [Exit.jump]
          go_ret2
          rw [hval.out]
          exact ⟨_,rfl,RowA.none_ (by first | exact VW.out | exact draws VW.out _)⟩
      · have HK:=Lib.hid hke
        have ke:(b.key == a.key) = false:=by simp [hke]
        clear hke
        have hval:=Lib.hid (show becomesV b a prior = [shiftedV b a prior] from val_k44b HV.out.1 HV.out.2 (.inr HK.out))
        go_wp2_with (first | (go_at_call 189;(refine (hshift.out _ (by first | exact VW.out | exact draws VW.out _)).mono ?_;rintro e w8 ⟨s8,rfl,h8,hb8⟩;have H8:=Lib.hid h8;have E8:=Lib.hid hb8;clear h8 hb8 o0 o1 o2 o3 o4 o5 o6 o7 o8 o9 o10 a0 a1 a2 a3 a4 a5 a6 a7 a8 a9 a10 q0 q1 qf;unfold opCells)))
        try simp only [Exit.jump]
        go_ret2
        rw [hval.out]
        exact ⟨_,rfl,RowA.one (by first | exact Below.trans VW.out (E8.out.mono (Below.size VW.out)) | exact Below.trans (draws VW.out _) (E8.out.mono (Below.size (draws VW.out _)))) H8.out⟩
    | false =>
      have hval:=Lib.hid (show becomesV b a prior = [shiftedV b a prior] from val_k44b HV.out.1 HV.out.2 (.inl hsm2.out))
      go_wp2_with (first | (go_at_call 189;(refine (hshift.out _ (by first | exact VW.out | exact draws VW.out _)).mono ?_;rintro e w8 ⟨s8,rfl,h8,hb8⟩;have H8:=Lib.hid h8;have E8:=Lib.hid hb8;clear h8 hb8 o0 o1 o2 o3 o4 o5 o6 o7 o8 o9 o10 a0 a1 a2 a3 a4 a5 a6 a7 a8 a9 a10 q0 q1 qf;unfold opCells)))
      try simp only [Exit.jump]
      go_ret2
      rw [hval.out]
      exact ⟨_,rfl,RowA.one (by first | exact Below.trans VW.out (E8.out.mono (Below.size VW.out)) | exact Below.trans (draws VW.out _) (E8.out.mono (Below.size (draws VW.out _)))) H8.out⟩
end Go.Proofs.Ytidimannfemnmaa.Sqr
namespace Go.Proofs.Ytidimannfemnmaa.Sqr
open Go.RowKit Top Shf Sim
set_option maxRecDepth 20000
set_option maxHeartbeats 32000000 in
theorem becomes_k55 (w:World) (b a:Ov) (sb sa:OS) (prior:Bool) (hb:OpIn w b sb) (ha:OpIn w a sa) (hlb:Tiny b) (hla:Tiny a) (hkb:b.kind = 5) (hka:a.kind = 5) :
    Calls Try.prog 168 #[.agg (opCells b sb),.agg (opCells a sa),.bool prior] w fun e w'=>∃ v,e = .returned (.tuple #[v,.int .i64 0])∧RowA w (becomesV b a prior) v w':=by
  obtain ⟨z1,z2,z4,z5⟩:=two_news w (.cells (opCells b sb) 52) (.cells (opCells a sa) 52)
  obtain ⟨W2,hW2⟩:∃ Q9,Q9 = ((w.alloc (.cells (opCells b sb) 52)).alloc (.cells (opCells a sa) 52)):=⟨_,rfl⟩
  rw [← hW2] at z1 z2 z4 z5
  have z1':=Lib.hid z1
  have z2':=Lib.hid z2
  have z4':=Lib.hid z4
  have z5':=Lib.hid z5
  have hrow:=Lib.hid (fun (W:World) (hB:Below W2.heap.size W2 W)=>And.intro ((hB.block w.heap.size (by omega)).trans z1) ((hB.block (w.heap.size + 1) (by omega)).trans z2))
  obtain ⟨sm,hsm⟩:∃ Q9,Q9 = P4.eqV b.path a.path:=⟨_,rfl⟩
  have hSM:=Lib.hid hsm
  have hs:=Lib.hid (fun (W:World) (hB:Below W2.heap.size W2 W)=>(P4.same_any W sb.pA sa.pA sb.pn sb.pc sa.pn sa.pc b.path a.path (its4 (hb.below (z4.trans (hB.mono z4.size))).path) (its4 (ha.below (z4.trans (hB.mono z4.size))).path) (Nat.le_trans hb.pnc hb.pcm)).mono (R':=fun e w'=>e = .returned (.bool sm)∧∃ k,w' = W.drewN k) fun e w' h=>⟨by rw [hsm];exact h.1,h.2⟩)
  have hshift:=Lib.hid (fun (W:World) (hB:Below w.heap.size w W)=>shifted_any W b a sb sa prior (hb.below hB) (ha.below hB) hlb.slen hla.slen)
  have hbo:=Lib.hid (fun (W:World) (hB:Below w.heap.size w W)=>And.intro (hb.below hB) (ha.below hB))
  have hkr:=Lib.hid (show b.kind < 256∧a.kind < 256 from ⟨hb.kind,ha.kind⟩)
  clear hb ha z1 z2 z4 z5 hlb hla
  have hsm2:=Lib.hid hsm.symm
  clear hsm
  have HV:=Lib.hid (And.intro hkb hka)
  have ea2:((a.kind:Int) == 2) = false:=by simp;omega
  have e32:∀ W,(binOp .eql 192 (.agg #[.int .u8 (b.kind:Int),.int .u8 (a.kind:Int)]) (.agg #[.int .u8 3,.int .u8 2])).run Try.prog W = .ok (.bool false) W:=fun W=>by have h5:=eqK W b.kind a.kind 3 2 hkr.out.1 hkr.out.2 (by decide) (by decide);rw [decide_eq_false (by omega)] at h5;exact h5
  have e23:∀ W,(binOp .eql 192 (.agg #[.int .u8 (b.kind:Int),.int .u8 (a.kind:Int)]) (.agg #[.int .u8 2,.int .u8 3])).run Try.prog W = .ok (.bool false) W:=fun W=>by have h5:=eqK W b.kind a.kind 2 3 hkr.out.1 hkr.out.2 (by decide) (by decide);rw [decide_eq_false (by omega)] at h5;exact h5
  have e33:∀ W,(binOp .eql 192 (.agg #[.int .u8 (b.kind:Int),.int .u8 (a.kind:Int)]) (.agg #[.int .u8 3,.int .u8 3])).run Try.prog W = .ok (.bool false) W:=fun W=>by have h5:=eqK W b.kind a.kind 3 3 hkr.out.1 hkr.out.2 (by decide) (by decide);rw [decide_eq_false (by omega)] at h5;exact h5
  have e44:∀ W,(binOp .eql 192 (.agg #[.int .u8 (b.kind:Int),.int .u8 (a.kind:Int)]) (.agg #[.int .u8 4,.int .u8 4])).run Try.prog W = .ok (.bool false) W:=fun W=>by have h5:=eqK W b.kind a.kind 4 4 hkr.out.1 hkr.out.2 (by decide) (by decide);rw [decide_eq_false (by omega)] at h5;exact h5
  have e55:∀ W,(binOp .eql 192 (.agg #[.int .u8 (b.kind:Int),.int .u8 (a.kind:Int)]) (.agg #[.int .u8 5,.int .u8 5])).run Try.prog W = .ok (.bool true) W:=fun W=>by have h5:=eqK W b.kind a.kind 5 5 hkr.out.1 hkr.out.2 (by decide) (by decide);rw [decide_eq_true (by omega)] at h5;exact h5
  have e66:∀ W,(binOp .eql 192 (.agg #[.int .u8 (b.kind:Int),.int .u8 (a.kind:Int)]) (.agg #[.int .u8 6,.int .u8 6])).run Try.prog W = .ok (.bool false) W:=fun W=>by have h5:=eqK W b.kind a.kind 6 6 hkr.out.1 hkr.out.2 (by decide) (by decide);rw [decide_eq_false (by omega)] at h5;exact h5
  clear hka hkb
  unfold opCells at hW2 hshift
  unfold opCells
  go_enter Try.func168,Try.ntmps168
  go_wp2_with fail
  refine Top.wp_scope_once 0 rfl ?_
  go_upto_region 1 with fail
  rw [← hW2]
  clear hW2
  go_cut [8,9] from 10 (fun v8 v9 wc=>∃ g:Nat,v8 = .pointer (some ⟨g,0,none⟩)∧v9 = .bool sm∧wc.heap[g]? = some (.cells #[.int .u8 (b.kind:Int),.int .u8 (a.kind:Int)] 192 (0,0))∧W2.heap.size≤g∧Below W2.heap.size W2 wc)
  case first =>
    rename_i K0 hK0
    refine wp_region_held_drew (S:=(fun W=>Below W2.heap.size W2 W)) (by kernel_rfl) ((Below.refl W2.heap.size W2).drew) (fun hHeld=>?_)
    refine wpAnyH_take (i:=0) (v:=?_) rfl (by kernel_rfl) (by kernel_rfl) (by kernel_rfl) (fun _ _ _ h=>h) (Or.inl ⟨by rfl,?_⟩) hHeld ?_
    rotate_left 1
    · intro W hSw;obtain ⟨r1,r2⟩:=hrow.out W hSw;obtain ⟨o0,o1,o2,o3,o4,o5,o6,o7,o8,o9,o10⟩:=op_cells r1;obtain ⟨a0,a1,a2,a3,a4,a5,a6,a7,a8,a9,a10⟩:=op_cells r2;go_simp;try with_reducible rfl
    try simp only [Act.put,zA,zB,zC]
    refine wpAnyH_take (i:=1) (v:=?_) rfl (by kernel_rfl) (by kernel_rfl) (by kernel_rfl) (fun _ _ _ h=>h) (Or.inl ⟨by rfl,?_⟩) hHeld ?_
    rotate_left 1
    · intro W hSw;obtain ⟨r1,r2⟩:=hrow.out W hSw;obtain ⟨o0,o1,o2,o3,o4,o5,o6,o7,o8,o9,o10⟩:=op_cells r1;obtain ⟨a0,a1,a2,a3,a4,a5,a6,a7,a8,a9,a10⟩:=op_cells r2;go_simp;try with_reducible rfl
    try simp only [Act.put,zA,zB,zC]
    refine wpAnyH_take (i:=2) (v:=?_) rfl (by kernel_rfl) (by kernel_rfl) (by kernel_rfl) (fun _ _ _ h=>h) (Or.inl ⟨by rfl,?_⟩) hHeld ?_
    rotate_left 1
    · intro W hSw;obtain ⟨r1,r2⟩:=hrow.out W hSw;obtain ⟨o0,o1,o2,o3,o4,o5,o6,o7,o8,o9,o10⟩:=op_cells r1;obtain ⟨a0,a1,a2,a3,a4,a5,a6,a7,a8,a9,a10⟩:=op_cells r2;go_simp;try with_reducible rfl
    try simp only [Act.put,zA,zB,zC]
    refine wpAnyH_take (i:=3) (v:=?_) rfl (by kernel_rfl) (by kernel_rfl) (by kernel_rfl) (fun _ _ _ h=>h) (Or.inl ⟨by rfl,?_⟩) hHeld ?_
    rotate_left 1
    · intro W hSw;obtain ⟨r1,r2⟩:=hrow.out W hSw;obtain ⟨o0,o1,o2,o3,o4,o5,o6,o7,o8,o9,o10⟩:=op_cells r1;obtain ⟨a0,a1,a2,a3,a4,a5,a6,a7,a8,a9,a10⟩:=op_cells r2;go_simp;try with_reducible rfl
    try simp only [Act.put,zA,zB,zC]
    refine wpAnyH_take (i:=4) (v:=?_) rfl (by kernel_rfl) (by kernel_rfl) (by kernel_rfl) (fun _ _ _ h=>h) (Or.inl ⟨by rfl,?_⟩) hHeld ?_
    rotate_left 1
    · intro W hSw;obtain ⟨r1,r2⟩:=hrow.out W hSw;obtain ⟨o0,o1,o2,o3,o4,o5,o6,o7,o8,o9,o10⟩:=op_cells r1;obtain ⟨a0,a1,a2,a3,a4,a5,a6,a7,a8,a9,a10⟩:=op_cells r2;go_simp;try with_reducible rfl
    try simp only [Act.put,zA,zB,zC]
    refine wpAnyH_take (i:=5) (v:=?_) rfl (by kernel_rfl) (by kernel_rfl) (by kernel_rfl) (fun _ _ _ h=>h) (Or.inl ⟨by rfl,?_⟩) hHeld ?_
    rotate_left 1
    · intro W hSw;obtain ⟨r1,r2⟩:=hrow.out W hSw;obtain ⟨o0,o1,o2,o3,o4,o5,o6,o7,o8,o9,o10⟩:=op_cells r1;obtain ⟨a0,a1,a2,a3,a4,a5,a6,a7,a8,a9,a10⟩:=op_cells r2;go_simp;try with_reducible rfl
    try simp only [Act.put,zA,zB,zC]
    refine wpAnyH_take (i:=6) (v:=?_) rfl (by kernel_rfl) (by kernel_rfl) (by kernel_rfl) (fun _ _ _ h=>h) (Or.inl ⟨by rfl,?_⟩) hHeld ?_
    rotate_left 1
    · intro W hSw;obtain ⟨r1,r2⟩:=hrow.out W hSw;obtain ⟨o0,o1,o2,o3,o4,o5,o6,o7,o8,o9,o10⟩:=op_cells r1;obtain ⟨a0,a1,a2,a3,a4,a5,a6,a7,a8,a9,a10⟩:=op_cells r2;go_simp;try with_reducible rfl
    try simp only [Act.put,zA,zB,zC]
    refine wpAnyH_take (i:=7) (v:=?_) rfl (by kernel_rfl) (by kernel_rfl) (by kernel_rfl) (fun _ _ _ h=>h) (Or.inl ⟨by rfl,?_⟩) hHeld ?_
    rotate_left 1
    · intro W hSw;obtain ⟨r1,r2⟩:=hrow.out W hSw;obtain ⟨o0,o1,o2,o3,o4,o5,o6,o7,o8,o9,o10⟩:=op_cells r1;obtain ⟨a0,a1,a2,a3,a4,a5,a6,a7,a8,a9,a10⟩:=op_cells r2;go_simp;try with_reducible rfl
    try simp only [Act.put,zA,zB,zC]
    refine wpAnyH_take (i:=8) (v:=?_) rfl (by kernel_rfl) (by kernel_rfl) (by kernel_rfl) (fun _ _ _ h=>h) (Or.inl ⟨by rfl,?_⟩) hHeld ?_
    rotate_left 1
    · intro W hSw;obtain ⟨r1,r2⟩:=hrow.out W hSw;obtain ⟨o0,o1,o2,o3,o4,o5,o6,o7,o8,o9,o10⟩:=op_cells r1;obtain ⟨a0,a1,a2,a3,a4,a5,a6,a7,a8,a9,a10⟩:=op_cells r2;go_simp;try with_reducible rfl
    try simp only [Act.put,zA,zB,zC]
    refine wpAnyH_ready (rs:=[9,10]) (by kernel_rfl) (by simp) ?_
    refine AllReadyH.cons rfl (fun K hK=>?_) (AllReadyH.cons rfl (fun K hK=>?_) AllReadyH.nil)
    · go_simp
      refine (hs.out _ hHeld).mono ?_
      rintro e w1 ⟨rfl,k1,hk1⟩
      have E1:=Lib.hid (show Below W2.heap.size W2 w1 by rw [hk1];exact draws hHeld k1)
      have hK1:=Lib.hid hk1
      clear hk1
      go_simp
      refine hK.out _ _ ?_ (fun hNew=>?_)
      · exact E1.out
      clear hK K hHeld
      have hHeld:=hNew
      clear hNew
      try simp only [Act.put,zA,zB,zC]
      refine wpAnyH_ready (rs:=[10]) (by kernel_rfl) (by simp) ?_
      refine AllReadyH.cons rfl (fun K hK=>?_) AllReadyH.nil
      go_simp
      refine hK.out _ _ ?_ (fun hNew=>?_)
      · exact hHeld.alloc hHeld.size _
      clear hK K
      try simp only [Act.put,zA,zB,zC]
      obtain ⟨Xa,hXa⟩:∃ Q9,Q9 = ((w1).alloc (.cells #[.int .u8 0,.int .u8 0] 192)):=⟨_,rfl⟩
      have xr:=Lib.hid (show Xa.heap[(w1).heap.size]? = some (.cells #[.int .u8 0,.int .u8 0] 192 (0,0)) by rw [hXa];exact heap_alloc_new _ _)
      have xs:=Lib.hid (show W2.heap.size≤(w1).heap.size from hHeld.size)
      rw [← hXa] at hNew ⊢
      clear hXa hHeld
      have hHeld:=hNew
      clear hNew
      obtain ⟨q0,q1,qf⟩:=two_at (xr.out)
      refine wpAnyH_ready (rs:=[11]) (by kernel_rfl) (by simp) ?_
      refine AllReadyH.cons rfl (fun K hK=>?_) AllReadyH.nil
      go_simp
      refine hK.out _ _ ?_ (fun hNew=>?_)
      · exact (hHeld.setCell (p:=⟨w1.heap.size,0,none⟩) (by have:=xs.out;first | exact this | omega) _).setCell (p:=⟨w1.heap.size,1,none⟩) (by have:=xs.out;first | exact this | omega) _
      clear hK K hHeld
      have hHeld:=hNew
      clear hNew
      try simp only [Act.put,zA,zB,zC]
      refine wpAnyH_ready (rs:=[12]) (by kernel_rfl) (by simp) ?_
      refine AllReadyH.cons rfl (fun K hK=>?_) AllReadyH.nil
      go_simp
      refine hK.out _ _ hHeld (fun hNew=>?_)
      clear hK K hHeld
      have hHeld:=hNew
      clear hNew
      try simp only [Act.put,zA,zB,zC]
      refine wpAnyH_done (by kernel_rfl) ?_ _
      refine hK0 _ _ ?_
      clear hK0
      go_meet
      exact ⟨w1.heap.size,rfl,rfl,two_set (xr.out),by have:=xs.out;first | exact this | omega,hHeld⟩
    · go_simp
      refine hK.out _ _ ?_ (fun hNew=>?_)
      · exact hHeld.alloc hHeld.size _
      clear hK K
      try simp only [Act.put,zA,zB,zC]
      obtain ⟨Xa,hXa⟩:∃ Q9,Q9 = ((W2).alloc (.cells #[.int .u8 0,.int .u8 0] 192)).drew:=⟨_,rfl⟩
      have xr:=Lib.hid (show Xa.heap[(W2).heap.size]? = some (.cells #[.int .u8 0,.int .u8 0] 192 (0,0)) by rw [hXa];exact heap_alloc_new _ _)
      have xs:=Lib.hid (show W2.heap.size≤(W2).heap.size from hHeld.size)
      rw [← hXa] at hNew ⊢
      clear hXa hHeld
      have hHeld:=hNew
      clear hNew
      refine wpAnyH_ready (rs:=[9]) (by kernel_rfl) (by simp) ?_
      refine AllReadyH.cons rfl (fun K hK=>?_) AllReadyH.nil
      go_simp
      refine (hs.out _ hHeld).mono ?_
      rintro e w1 ⟨rfl,k1,hk1⟩
      have E1:=Lib.hid (show Below W2.heap.size W2 w1 by rw [hk1];exact draws hHeld k1)
      have hK1:=Lib.hid hk1
      clear hk1
      go_simp
      refine hK.out _ _ ?_ (fun hNew=>?_)
      · exact E1.out
      clear hK K hHeld
      have hHeld:=hNew
      clear hNew
      try simp only [Act.put,zA,zB,zC]
      obtain ⟨q0,q1,qf⟩:=two_at (show w1.heap[W2.heap.size]? = some (.cells #[.int .u8 0,.int .u8 0] 192 (0,0)) by rw [hK1.out];exact xr.out)
      refine wpAnyH_ready (rs:=[11]) (by kernel_rfl) (by simp) ?_
      refine AllReadyH.cons rfl (fun K hK=>?_) AllReadyH.nil
      go_simp
      refine hK.out _ _ ?_ (fun hNew=>?_)
      · exact (hHeld.setCell (p:=⟨W2.heap.size,0,none⟩) (by have:=xs.out;first | exact this | omega) _).setCell (p:=⟨W2.heap.size,1,none⟩) (by have:=xs.out;first | exact this | omega) _
      clear hK K hHeld
      have hHeld:=hNew
      clear hNew
      try simp only [Act.put,zA,zB,zC]
      refine wpAnyH_ready (rs:=[12]) (by kernel_rfl) (by simp) ?_
      refine AllReadyH.cons rfl (fun K hK=>?_) AllReadyH.nil
      go_simp
      refine hK.out _ _ hHeld (fun hNew=>?_)
      clear hK K hHeld
      have hHeld:=hNew
      clear hNew
      try simp only [Act.put,zA,zB,zC]
      refine wpAnyH_done (by kernel_rfl) ?_ _
      refine hK0 _ _ ?_
      clear hK0
      go_meet
      exact ⟨W2.heap.size,rfl,rfl,two_set (show w1.heap[W2.heap.size]? = some (.cells #[.int .u8 0,.int .u8 0] 192 (0,0)) by rw [hK1.out];exact xr.out),by have:=xs.out;first | exact this | omega,hHeld⟩
  case rest =>
    obtain ⟨g,rfl,rfl,hk,hg,hwc⟩:=hcut
    have HW:=Lib.hid hwc
    have VW:=Lib.hid (z4'.out.trans (hwc.mono z4'.out.size))
    obtain ⟨r1,r2⟩:=hrow.out wc hwc
    obtain ⟨q0,q1,qf⟩:=two_at hk
    obtain ⟨o0,o1,o2,o3,o4,o5,o6,o7,o8,o9,o10⟩:=op_cells r1
    obtain ⟨a0,a1,a2,a3,a4,a5,a6,a7,a8,a9,a10⟩:=op_cells r2
    clear r1 r2 hk hg hwc hs
    cases sm with
    | true =>
      cases prior with
      | true =>
        have hval:=Lib.hid (show becomesV b a true = [shiftedV b a true] from (val_k55a HV.out.1 HV.out.2 hsm2.out).trans (if_pos rfl))
        go_wp2_with (first | (go_at_call 189;(refine (hshift.out _ (by first | exact VW.out | exact draws VW.out _)).mono ?_;rintro e w8 ⟨s8,rfl,h8,hb8⟩;have H8:=Lib.hid h8;have E8:=Lib.hid hb8;clear h8 hb8 o0 o1 o2 o3 o4 o5 o6 o7 o8 o9 o10 a0 a1 a2 a3 a4 a5 a6 a7 a8 a9 a10 q0 q1 qf;unfold opCells)))
        try simp only [Exit.jump]
        go_ret2
        rw [hval.out]
        exact ⟨_,rfl,RowA.one (by first | exact Below.trans VW.out (E8.out.mono (Below.size VW.out)) | exact Below.trans (draws VW.out _) (E8.out.mono (Below.size (draws VW.out _)))) H8.out⟩
      | false =>
        have hval:=Lib.hid (show becomesV b a false = [] from (val_k55a HV.out.1 HV.out.2 hsm2.out).trans (if_neg (by decide)))
        go_wp2_with fail
        go_step3
        refine ⟨rfl,?_⟩
        go_wp2_with fail
        try simp only [Exit.jump]
        go_ret2
        rw [hval.out]
        exact ⟨_,rfl,RowA.none_ (by first | exact VW.out | exact draws VW.out _)⟩
    | false =>
      have hval:=Lib.hid (show becomesV b a prior = [shiftedV b a prior] from val_k55b HV.out.1 HV.out.2 hsm2.out)
      go_wp2_with (first | (go_at_call 189;(refine (hshift.out _ (by first | exact VW.out | exact draws VW.out _)).mono ?_;rintro e w8 ⟨s8,rfl,h8,hb8⟩;have H8:=Lib.hid h8;have E8:=Lib.hid hb8;clear h8 hb8 o0 o1 o2 o3 o4 o5 o6 o7 o8 o9 o10 a0 a1 a2 a3 a4 a5 a6 a7 a8 a9 a10 q0 q1 qf;unfold opCells)))
      try simp only [Exit.jump]
      go_ret2
      rw [hval.out]
      exact ⟨_,rfl,RowA.one (by first | exact Below.trans VW.out (E8.out.mono (Below.size VW.out)) | exact Below.trans (draws VW.out _) (E8.out.mono (Below.size (draws VW.out _)))) H8.out⟩
end Go.Proofs.Ytidimannfemnmaa.Sqr
namespace Go.Proofs.Ytidimannfemnmaa.Sqr
open Go.RowKit Top Shf Sim
set_option maxRecDepth 20000
set_option maxHeartbeats 32000000 in
theorem becomes_k66 (w:World) (b a:Ov) (sb sa:OS) (prior:Bool) (hb:OpIn w b sb) (ha:OpIn w a sa) (hlb:Tiny b) (hla:Tiny a) (hkb:b.kind = 6) (hka:a.kind = 6) (hrb:P5.rightV b.pieces = true) (hra:P5.rightV a.pieces = true) (htb:P5.totP (pcs b.pieces)≤2000) (hta:P5.totP (pcs a.pieces)≤2000) :
    Calls Try.prog 168 #[.agg (opCells b sb),.agg (opCells a sa),.bool prior] w fun e w'=>∃ v,e = .returned (.tuple #[v,.int .i64 0])∧RowA w (becomesV b a prior) v w':=by
  obtain ⟨z1,z2,z4,z5⟩:=two_news w (.cells (opCells b sb) 52) (.cells (opCells a sa) 52)
  obtain ⟨W2,hW2⟩:∃ Q9,Q9 = ((w.alloc (.cells (opCells b sb) 52)).alloc (.cells (opCells a sa) 52)):=⟨_,rfl⟩
  rw [← hW2] at z1 z2 z4 z5
  have z1':=Lib.hid z1
  have z2':=Lib.hid z2
  have z4':=Lib.hid z4
  have z5':=Lib.hid z5
  have hrow:=Lib.hid (fun (W:World) (hB:Below W2.heap.size W2 W)=>And.intro ((hB.block w.heap.size (by omega)).trans z1) ((hB.block (w.heap.size + 1) (by omega)).trans z2))
  obtain ⟨sm,hsm⟩:∃ Q9,Q9 = P4.eqV b.path a.path:=⟨_,rfl⟩
  have hSM:=Lib.hid hsm
  have hs:=Lib.hid (fun (W:World) (hB:Below W2.heap.size W2 W)=>(P4.same_any W sb.pA sa.pA sb.pn sb.pc sa.pn sa.pc b.path a.path (its4 (hb.below (z4.trans (hB.mono z4.size))).path) (its4 (ha.below (z4.trans (hB.mono z4.size))).path) (Nat.le_trans hb.pnc hb.pcm)).mono (R':=fun e w'=>e = .returned (.bool sm)∧∃ k,w' = W.drewN k) fun e w' h=>⟨by rw [hsm];exact h.1,h.2⟩)
  have hshift:=Lib.hid (fun (W:World) (hB:Below w.heap.size w W)=>shifted_any W b a sb sa prior (hb.below hB) (ha.below hB) hlb.slen hla.slen)
  have hrow8:=Lib.hid (fun (W:World) (hB:Below w.heap.size w W)=>edited_any W b a sb sa prior (hb.below hB) (ha.below hB) hrb hra htb hta)
  have hbo:=Lib.hid (fun (W:World) (hB:Below w.heap.size w W)=>And.intro (hb.below hB) (ha.below hB))
  have hkr:=Lib.hid (show b.kind < 256∧a.kind < 256 from ⟨hb.kind,ha.kind⟩)
  clear hb ha z1 z2 z4 z5 hlb hla
  have hsm2:=Lib.hid hsm.symm
  clear hsm
  have HV:=Lib.hid (And.intro hkb hka)
  clear hrb hra htb hta
  have ea2:((a.kind:Int) == 2) = false:=by simp;omega
  have e32:∀ W,(binOp .eql 192 (.agg #[.int .u8 (b.kind:Int),.int .u8 (a.kind:Int)]) (.agg #[.int .u8 3,.int .u8 2])).run Try.prog W = .ok (.bool false) W:=fun W=>by have h5:=eqK W b.kind a.kind 3 2 hkr.out.1 hkr.out.2 (by decide) (by decide);rw [decide_eq_false (by omega)] at h5;exact h5
  have e23:∀ W,(binOp .eql 192 (.agg #[.int .u8 (b.kind:Int),.int .u8 (a.kind:Int)]) (.agg #[.int .u8 2,.int .u8 3])).run Try.prog W = .ok (.bool false) W:=fun W=>by have h5:=eqK W b.kind a.kind 2 3 hkr.out.1 hkr.out.2 (by decide) (by decide);rw [decide_eq_false (by omega)] at h5;exact h5
  have e33:∀ W,(binOp .eql 192 (.agg #[.int .u8 (b.kind:Int),.int .u8 (a.kind:Int)]) (.agg #[.int .u8 3,.int .u8 3])).run Try.prog W = .ok (.bool false) W:=fun W=>by have h5:=eqK W b.kind a.kind 3 3 hkr.out.1 hkr.out.2 (by decide) (by decide);rw [decide_eq_false (by omega)] at h5;exact h5
  have e44:∀ W,(binOp .eql 192 (.agg #[.int .u8 (b.kind:Int),.int .u8 (a.kind:Int)]) (.agg #[.int .u8 4,.int .u8 4])).run Try.prog W = .ok (.bool false) W:=fun W=>by have h5:=eqK W b.kind a.kind 4 4 hkr.out.1 hkr.out.2 (by decide) (by decide);rw [decide_eq_false (by omega)] at h5;exact h5
  have e55:∀ W,(binOp .eql 192 (.agg #[.int .u8 (b.kind:Int),.int .u8 (a.kind:Int)]) (.agg #[.int .u8 5,.int .u8 5])).run Try.prog W = .ok (.bool false) W:=fun W=>by have h5:=eqK W b.kind a.kind 5 5 hkr.out.1 hkr.out.2 (by decide) (by decide);rw [decide_eq_false (by omega)] at h5;exact h5
  have e66:∀ W,(binOp .eql 192 (.agg #[.int .u8 (b.kind:Int),.int .u8 (a.kind:Int)]) (.agg #[.int .u8 6,.int .u8 6])).run Try.prog W = .ok (.bool true) W:=fun W=>by have h5:=eqK W b.kind a.kind 6 6 hkr.out.1 hkr.out.2 (by decide) (by decide);rw [decide_eq_true (by omega)] at h5;exact h5
  clear hka hkb
  unfold opCells at hW2 hshift hrow8
  unfold opCells
  go_enter Try.func168,Try.ntmps168
  go_wp2_with fail
  refine Top.wp_scope_once 0 rfl ?_
  go_upto_region 1 with fail
  rw [← hW2]
  clear hW2
  go_cut [8,9] from 10 (fun v8 v9 wc=>∃ g:Nat,v8 = .pointer (some ⟨g,0,none⟩)∧v9 = .bool sm∧wc.heap[g]? = some (.cells #[.int .u8 (b.kind:Int),.int .u8 (a.kind:Int)] 192 (0,0))∧W2.heap.size≤g∧Below W2.heap.size W2 wc)
  case first =>
    rename_i K0 hK0
    refine wp_region_held_drew (S:=(fun W=>Below W2.heap.size W2 W)) (by kernel_rfl) ((Below.refl W2.heap.size W2).drew) (fun hHeld=>?_)
    refine wpAnyH_take (i:=0) (v:=?_) rfl (by kernel_rfl) (by kernel_rfl) (by kernel_rfl) (fun _ _ _ h=>h) (Or.inl ⟨by rfl,?_⟩) hHeld ?_
    rotate_left 1
    · intro W hSw;obtain ⟨r1,r2⟩:=hrow.out W hSw;obtain ⟨o0,o1,o2,o3,o4,o5,o6,o7,o8,o9,o10⟩:=op_cells r1;obtain ⟨a0,a1,a2,a3,a4,a5,a6,a7,a8,a9,a10⟩:=op_cells r2;go_simp;try with_reducible rfl
    try simp only [Act.put,zA,zB,zC]
    refine wpAnyH_take (i:=1) (v:=?_) rfl (by kernel_rfl) (by kernel_rfl) (by kernel_rfl) (fun _ _ _ h=>h) (Or.inl ⟨by rfl,?_⟩) hHeld ?_
    rotate_left 1
    · intro W hSw;obtain ⟨r1,r2⟩:=hrow.out W hSw;obtain ⟨o0,o1,o2,o3,o4,o5,o6,o7,o8,o9,o10⟩:=op_cells r1;obtain ⟨a0,a1,a2,a3,a4,a5,a6,a7,a8,a9,a10⟩:=op_cells r2;go_simp;try with_reducible rfl
    try simp only [Act.put,zA,zB,zC]
    refine wpAnyH_take (i:=2) (v:=?_) rfl (by kernel_rfl) (by kernel_rfl) (by kernel_rfl) (fun _ _ _ h=>h) (Or.inl ⟨by rfl,?_⟩) hHeld ?_
    rotate_left 1
    · intro W hSw;obtain ⟨r1,r2⟩:=hrow.out W hSw;obtain ⟨o0,o1,o2,o3,o4,o5,o6,o7,o8,o9,o10⟩:=op_cells r1;obtain ⟨a0,a1,a2,a3,a4,a5,a6,a7,a8,a9,a10⟩:=op_cells r2;go_simp;try with_reducible rfl
    try simp only [Act.put,zA,zB,zC]
    refine wpAnyH_take (i:=3) (v:=?_) rfl (by kernel_rfl) (by kernel_rfl) (by kernel_rfl) (fun _ _ _ h=>h) (Or.inl ⟨by rfl,?_⟩) hHeld ?_
    rotate_left 1
    · intro W hSw;obtain ⟨r1,r2⟩:=hrow.out W hSw;obtain ⟨o0,o1,o2,o3,o4,o5,o6,o7,o8,o9,o10⟩:=op_cells r1;obtain ⟨a0,a1,a2,a3,a4,a5,a6,a7,a8,a9,a10⟩:=op_cells r2;go_simp;try with_reducible rfl
    try simp only [Act.put,zA,zB,zC]
    refine wpAnyH_take (i:=4) (v:=?_) rfl (by kernel_rfl) (by kernel_rfl) (by kernel_rfl) (fun _ _ _ h=>h) (Or.inl ⟨by rfl,?_⟩) hHeld ?_
    rotate_left 1
    · intro W hSw;obtain ⟨r1,r2⟩:=hrow.out W hSw;obtain ⟨o0,o1,o2,o3,o4,o5,o6,o7,o8,o9,o10⟩:=op_cells r1;obtain ⟨a0,a1,a2,a3,a4,a5,a6,a7,a8,a9,a10⟩:=op_cells r2;go_simp;try with_reducible rfl
    try simp only [Act.put,zA,zB,zC]
    refine wpAnyH_take (i:=5) (v:=?_) rfl (by kernel_rfl) (by kernel_rfl) (by kernel_rfl) (fun _ _ _ h=>h) (Or.inl ⟨by rfl,?_⟩) hHeld ?_
    rotate_left 1
    · intro W hSw;obtain ⟨r1,r2⟩:=hrow.out W hSw;obtain ⟨o0,o1,o2,o3,o4,o5,o6,o7,o8,o9,o10⟩:=op_cells r1;obtain ⟨a0,a1,a2,a3,a4,a5,a6,a7,a8,a9,a10⟩:=op_cells r2;go_simp;try with_reducible rfl
    try simp only [Act.put,zA,zB,zC]
    refine wpAnyH_take (i:=6) (v:=?_) rfl (by kernel_rfl) (by kernel_rfl) (by kernel_rfl) (fun _ _ _ h=>h) (Or.inl ⟨by rfl,?_⟩) hHeld ?_
    rotate_left 1
    · intro W hSw;obtain ⟨r1,r2⟩:=hrow.out W hSw;obtain ⟨o0,o1,o2,o3,o4,o5,o6,o7,o8,o9,o10⟩:=op_cells r1;obtain ⟨a0,a1,a2,a3,a4,a5,a6,a7,a8,a9,a10⟩:=op_cells r2;go_simp;try with_reducible rfl
    try simp only [Act.put,zA,zB,zC]
    refine wpAnyH_take (i:=7) (v:=?_) rfl (by kernel_rfl) (by kernel_rfl) (by kernel_rfl) (fun _ _ _ h=>h) (Or.inl ⟨by rfl,?_⟩) hHeld ?_
    rotate_left 1
    · intro W hSw;obtain ⟨r1,r2⟩:=hrow.out W hSw;obtain ⟨o0,o1,o2,o3,o4,o5,o6,o7,o8,o9,o10⟩:=op_cells r1;obtain ⟨a0,a1,a2,a3,a4,a5,a6,a7,a8,a9,a10⟩:=op_cells r2;go_simp;try with_reducible rfl
    try simp only [Act.put,zA,zB,zC]
    refine wpAnyH_take (i:=8) (v:=?_) rfl (by kernel_rfl) (by kernel_rfl) (by kernel_rfl) (fun _ _ _ h=>h) (Or.inl ⟨by rfl,?_⟩) hHeld ?_
    rotate_left 1
    · intro W hSw;obtain ⟨r1,r2⟩:=hrow.out W hSw;obtain ⟨o0,o1,o2,o3,o4,o5,o6,o7,o8,o9,o10⟩:=op_cells r1;obtain ⟨a0,a1,a2,a3,a4,a5,a6,a7,a8,a9,a10⟩:=op_cells r2;go_simp;try with_reducible rfl
    try simp only [Act.put,zA,zB,zC]
    refine wpAnyH_ready (rs:=[9,10]) (by kernel_rfl) (by simp) ?_
    refine AllReadyH.cons rfl (fun K hK=>?_) (AllReadyH.cons rfl (fun K hK=>?_) AllReadyH.nil)
    · go_simp
      refine (hs.out _ hHeld).mono ?_
      rintro e w1 ⟨rfl,k1,hk1⟩
      have E1:=Lib.hid (show Below W2.heap.size W2 w1 by rw [hk1];exact draws hHeld k1)
      have hK1:=Lib.hid hk1
      clear hk1
      go_simp
      refine hK.out _ _ ?_ (fun hNew=>?_)
      · exact E1.out
      clear hK K hHeld
      have hHeld:=hNew
      clear hNew
      try simp only [Act.put,zA,zB,zC]
      refine wpAnyH_ready (rs:=[10]) (by kernel_rfl) (by simp) ?_
      refine AllReadyH.cons rfl (fun K hK=>?_) AllReadyH.nil
      go_simp
      refine hK.out _ _ ?_ (fun hNew=>?_)
      · exact hHeld.alloc hHeld.size _
      clear hK K
      try simp only [Act.put,zA,zB,zC]
      obtain ⟨Xa,hXa⟩:∃ Q9,Q9 = ((w1).alloc (.cells #[.int .u8 0,.int .u8 0] 192)):=⟨_,rfl⟩
      have xr:=Lib.hid (show Xa.heap[(w1).heap.size]? = some (.cells #[.int .u8 0,.int .u8 0] 192 (0,0)) by rw [hXa];exact heap_alloc_new _ _)
      have xs:=Lib.hid (show W2.heap.size≤(w1).heap.size from hHeld.size)
      rw [← hXa] at hNew ⊢
      clear hXa hHeld
      have hHeld:=hNew
      clear hNew
      obtain ⟨q0,q1,qf⟩:=two_at (xr.out)
      refine wpAnyH_ready (rs:=[11]) (by kernel_rfl) (by simp) ?_
      refine AllReadyH.cons rfl (fun K hK=>?_) AllReadyH.nil
      go_simp
      refine hK.out _ _ ?_ (fun hNew=>?_)
      · exact (hHeld.setCell (p:=⟨w1.heap.size,0,none⟩) (by have:=xs.out;first | exact this | omega) _).setCell (p:=⟨w1.heap.size,1,none⟩) (by have:=xs.out;first | exact this | omega) _
      clear hK K hHeld
      have hHeld:=hNew
      clear hNew
      try simp only [Act.put,zA,zB,zC]
      refine wpAnyH_ready (rs:=[12]) (by kernel_rfl) (by simp) ?_
      refine AllReadyH.cons rfl (fun K hK=>?_) AllReadyH.nil
      go_simp
      refine hK.out _ _ hHeld (fun hNew=>?_)
      clear hK K hHeld
      have hHeld:=hNew
      clear hNew
      try simp only [Act.put,zA,zB,zC]
      refine wpAnyH_done (by kernel_rfl) ?_ _
      refine hK0 _ _ ?_
      clear hK0
      go_meet
      exact ⟨w1.heap.size,rfl,rfl,two_set (xr.out),by have:=xs.out;first | exact this | omega,hHeld⟩
    · go_simp
      refine hK.out _ _ ?_ (fun hNew=>?_)
      · exact hHeld.alloc hHeld.size _
      clear hK K
      try simp only [Act.put,zA,zB,zC]
      obtain ⟨Xa,hXa⟩:∃ Q9,Q9 = ((W2).alloc (.cells #[.int .u8 0,.int .u8 0] 192)).drew:=⟨_,rfl⟩
      have xr:=Lib.hid (show Xa.heap[(W2).heap.size]? = some (.cells #[.int .u8 0,.int .u8 0] 192 (0,0)) by rw [hXa];exact heap_alloc_new _ _)
      have xs:=Lib.hid (show W2.heap.size≤(W2).heap.size from hHeld.size)
      rw [← hXa] at hNew ⊢
      clear hXa hHeld
      have hHeld:=hNew
      clear hNew
      refine wpAnyH_ready (rs:=[9]) (by kernel_rfl) (by simp) ?_
      refine AllReadyH.cons rfl (fun K hK=>?_) AllReadyH.nil
      go_simp
      refine (hs.out _ hHeld).mono ?_
      rintro e w1 ⟨rfl,k1,hk1⟩
      have E1:=Lib.hid (show Below W2.heap.size W2 w1 by rw [hk1];exact draws hHeld k1)
      have hK1:=Lib.hid hk1
      clear hk1
      go_simp
      refine hK.out _ _ ?_ (fun hNew=>?_)
      · exact E1.out
      clear hK K hHeld
      have hHeld:=hNew
      clear hNew
      try simp only [Act.put,zA,zB,zC]
      obtain ⟨q0,q1,qf⟩:=two_at (show w1.heap[W2.heap.size]? = some (.cells #[.int .u8 0,.int .u8 0] 192 (0,0)) by rw [hK1.out];exact xr.out)
      refine wpAnyH_ready (rs:=[11]) (by kernel_rfl) (by simp) ?_
      refine AllReadyH.cons rfl (fun K hK=>?_) AllReadyH.nil
      go_simp
      refine hK.out _ _ ?_ (fun hNew=>?_)
      · exact (hHeld.setCell (p:=⟨W2.heap.size,0,none⟩) (by have:=xs.out;first | exact this | omega) _).setCell (p:=⟨W2.heap.size,1,none⟩) (by have:=xs.out;first | exact this | omega) _
      clear hK K hHeld
      have hHeld:=hNew
      clear hNew
      try simp only [Act.put,zA,zB,zC]
      refine wpAnyH_ready (rs:=[12]) (by kernel_rfl) (by simp) ?_
      refine AllReadyH.cons rfl (fun K hK=>?_) AllReadyH.nil
      go_simp
      refine hK.out _ _ hHeld (fun hNew=>?_)
      clear hK K hHeld
      have hHeld:=hNew
      clear hNew
      try simp only [Act.put,zA,zB,zC]
      refine wpAnyH_done (by kernel_rfl) ?_ _
      refine hK0 _ _ ?_
      clear hK0
      go_meet
      exact ⟨W2.heap.size,rfl,rfl,two_set (show w1.heap[W2.heap.size]? = some (.cells #[.int .u8 0,.int .u8 0] 192 (0,0)) by rw [hK1.out];exact xr.out),by have:=xs.out;first | exact this | omega,hHeld⟩
  case rest =>
    obtain ⟨g,rfl,rfl,hk,hg,hwc⟩:=hcut
    have HW:=Lib.hid hwc
    have VW:=Lib.hid (z4'.out.trans (hwc.mono z4'.out.size))
    obtain ⟨r1,r2⟩:=hrow.out wc hwc
    obtain ⟨q0,q1,qf⟩:=two_at hk
    obtain ⟨o0,o1,o2,o3,o4,o5,o6,o7,o8,o9,o10⟩:=op_cells r1
    obtain ⟨a0,a1,a2,a3,a4,a5,a6,a7,a8,a9,a10⟩:=op_cells r2
    clear r1 r2 hk hg hwc hs
    cases sm with
    | true =>
      have hval:=Lib.hid (show becomesV b a prior = [editV b a prior] from val_k66a HV.out.1 HV.out.2 hsm2.out)
      go_wp2_with (first | (go_at_call 188;(refine (hrow8.out _ (by first | exact VW.out | exact draws VW.out _)).mono ?_;rintro e w8 ⟨v8,rfl,h8⟩;have hb8:=h8.bel;have H8:=Lib.hid h8;have E8:=Lib.hid hb8;clear h8 hb8 o0 o1 o2 o3 o4 o5 o6 o7 o8 o9 o10 a0 a1 a2 a3 a4 a5 a6 a7 a8 a9 a10 q0 q1 qf)))
      try simp only [Exit.jump]
      go_ret2
      rw [hval.out]
      exact ⟨_,rfl,H8.out.from_ (by first | exact VW.out | exact draws VW.out _)⟩
    | false =>
      have hval:=Lib.hid (show becomesV b a prior = [shiftedV b a prior] from val_k66b HV.out.1 HV.out.2 hsm2.out)
      go_wp2_with (first | (go_at_call 189;(refine (hshift.out _ (by first | exact VW.out | exact draws VW.out _)).mono ?_;rintro e w8 ⟨s8,rfl,h8,hb8⟩;have H8:=Lib.hid h8;have E8:=Lib.hid hb8;clear h8 hb8 o0 o1 o2 o3 o4 o5 o6 o7 o8 o9 o10 a0 a1 a2 a3 a4 a5 a6 a7 a8 a9 a10 q0 q1 qf;unfold opCells)))
      try simp only [Exit.jump]
      go_ret2
      rw [hval.out]
      exact ⟨_,rfl,RowA.one (by first | exact Below.trans VW.out (E8.out.mono (Below.size VW.out)) | exact Below.trans (draws VW.out _) (E8.out.mono (Below.size (draws VW.out _)))) H8.out⟩
end Go.Proofs.Ytidimannfemnmaa.Sqr
namespace Go.Proofs.Ytidimannfemnmaa.Sqr
open Go.RowKit Top Shf Sim
set_option maxRecDepth 20000

set_option maxHeartbeats 8000000 in
theorem rsound_any (w:World) (o:Ov) (s:OS) (ho:OpIn w o s):Calls Try.prog 170 #[.agg (opCells o s)] w fun e w'=>e = .returned (.bool (soundV o))∧Below w.heap.size w w':=by
  obtain ⟨W2,hW2⟩:∃ Q9,Q9 = w.alloc (.cells (opCells o s) 52):=⟨_,rfl⟩
  have z1:=Lib.hid (show W2.heap[w.heap.size]? = some (.cells (opCells o s) 52 (0,0)) by rw [hW2];exact heap_alloc_new w _)
  have z4':=Lib.hid (show Below w.heap.size w W2 by rw [hW2];exact (Below.refl _ _).alloc (Nat.le_refl _) _)
  have hrow:=Lib.hid (fun (W:World) (hb:Below W2.heap.size W2 W)=>(hb.block w.heap.size (Array.getElem?_eq_some_iff.1 z1.out).1).trans z1.out)
  have hfo:=Lib.hid (rformed_any W2 o s (ho.below z4'.out))
  obtain ⟨b,hb⟩:∃ b,b = P4.withinV o.path o.to_:=⟨_,rfl⟩
  have hwi:=Lib.hid (fun (W:World) (hB:Below w.heap.size w W)=>(P4.refWithin_any W s.pA s.tA s.pn s.pc s.tn s.tc o.path o.to_ (its4 (ho.below hB).path) (its4 (ho.below hB).to_) (Nat.le_trans ho.pnc ho.pcm) (Nat.le_trans ho.tnc ho.tcm)).mono (R':=fun e w'=>e = .returned (.bool b)∧∃ k,w' = W.drewN k) fun e w' h=>by rw [hb];exact h)
  obtain ⟨r,hr⟩:∃ r,r = soundV o:=⟨_,rfl⟩
  rw [← hr]
  have hrv:r = (formedV o && (if o.kind = 2 then decide (o.path ≠ []) else if o.kind = 3 then !b else true)):=by rw [hr,hb];rfl
  have hbn:o.path = []→b = true:=fun e=>by rw [hb,e];exact within_nil _
  have hpl:s.pn = o.path.length:=ho.path.1.symm
  obtain ⟨o0,o1,o2,o3,o4,o5,o6,o7,o8,o9,o10⟩:=op_cells z1.out
  rw [hW2] at o0 o1 o2 o3 o4 o5 o6 o7 o8 o9 o10
  unfold opCells at hW2 hfo
  unfold opCells
  clear ho hr hb
  generalize formedV o = f at hfo hrv
  generalize hpe:o.path = p at hrv hbn hpl
  clear hpe
  cases f with
  | false =>
    have hr':=Lib.hid (show r = false by rw [hrv];rfl)
    clear hrv hbn hpl
    try clear hk2
    try clear hk3
    try clear hp
    go_enter Try.func170,Try.ntmps170
    go_wp2_with (go_at_call 106;(rw [← hW2];refine hfo.out.mono ?_;rintro e w1 ⟨rfl,hb1⟩;have E1:=Lib.hid hb1;have B1:=Lib.hid (z4'.out.trans (hb1.mono z4'.out.size));clear hb1 o0 o1 o2 o3 o4 o5 o6 o7 o8 o9 o10;obtain ⟨o0,o1,o2,o3,o4,o5,o6,o7,o8,o9,o10⟩:=op_cells (hrow.out w1 E1.out)))
    go_ret
    exact ⟨by rw [hr'.out] <;> rfl,B1.out⟩
  | true =>
    by_cases hk2:o.kind = 2
    · by_cases hp:p = []
      · skip
        have l0:((s.pn:Int) == 0) = true:=by rw [hpl,hp];rfl
        have e2:((o.kind:Int) == 2) = true:=by simp;omega
        have hr':=Lib.hid (show r = false by rw [hrv];rw [if_pos hk2];simp [hp])
        clear hrv hbn hpl
        try clear hk2
        try clear hk3
        try clear hp
        go_enter Try.func170,Try.ntmps170
        go_wp2_with (go_at_call 106;(rw [← hW2];refine hfo.out.mono ?_;rintro e w1 ⟨rfl,hb1⟩;have E1:=Lib.hid hb1;have B1:=Lib.hid (z4'.out.trans (hb1.mono z4'.out.size));clear hb1 o0 o1 o2 o3 o4 o5 o6 o7 o8 o9 o10;obtain ⟨o0,o1,o2,o3,o4,o5,o6,o7,o8,o9,o10⟩:=op_cells (hrow.out w1 E1.out)))
        go_ret
        exact ⟨by rw [hr'.out] <;> rfl,B1.out⟩
      · skip
        have l0:((s.pn:Int) == 0) = false:=by have:=List.length_pos_iff.2 hp;simp;omega
        have e2:((o.kind:Int) == 2) = true:=by simp;omega
        have n3:((o.kind:Int) != 3) = true:=by simp;omega
        have hr':=Lib.hid (show r = true by rw [hrv];rw [if_pos hk2];simp [hp])
        clear hrv hbn hpl
        try clear hk2
        try clear hk3
        try clear hp
        go_enter Try.func170,Try.ntmps170
        go_wp2_with (go_at_call 106;(rw [← hW2];refine hfo.out.mono ?_;rintro e w1 ⟨rfl,hb1⟩;have E1:=Lib.hid hb1;have B1:=Lib.hid (z4'.out.trans (hb1.mono z4'.out.size));clear hb1 o0 o1 o2 o3 o4 o5 o6 o7 o8 o9 o10;obtain ⟨o0,o1,o2,o3,o4,o5,o6,o7,o8,o9,o10⟩:=op_cells (hrow.out w1 E1.out)))
        go_ret
        exact ⟨by rw [hr'.out] <;> rfl,B1.out⟩
    · by_cases hk3:o.kind = 3
      · by_cases hp:p = []
        · skip
          have l0:((s.pn:Int) == 0) = true:=by rw [hpl,hp];rfl
          have e2:((o.kind:Int) == 2) = false:=by simp;omega
          have e3:((o.kind:Int) == 3) = true:=by simp;omega
          have hr':=Lib.hid (show r = false by rw [hrv];rw [if_neg hk2,if_pos hk3,hbn hp];rfl)
          clear hrv hbn hpl
          try clear hk2
          try clear hk3
          try clear hp
          go_enter Try.func170,Try.ntmps170
          go_wp2_with (go_at_call 106;(rw [← hW2];refine hfo.out.mono ?_;rintro e w1 ⟨rfl,hb1⟩;have E1:=Lib.hid hb1;have B1:=Lib.hid (z4'.out.trans (hb1.mono z4'.out.size));clear hb1 o0 o1 o2 o3 o4 o5 o6 o7 o8 o9 o10;obtain ⟨o0,o1,o2,o3,o4,o5,o6,o7,o8,o9,o10⟩:=op_cells (hrow.out w1 E1.out)))
          go_ret
          exact ⟨by rw [hr'.out] <;> rfl,B1.out⟩
        · skip
          have l0:((s.pn:Int) == 0) = false:=by have:=List.length_pos_iff.2 hp;simp;omega
          have e2:((o.kind:Int) == 2) = false:=by simp;omega
          have e3:((o.kind:Int) == 3) = true:=by simp;omega
          have n3:((o.kind:Int) != 3) = false:=by simp;omega
          have hr':=Lib.hid (show r = !b by rw [hrv];rw [if_neg hk2,if_pos hk3];rfl)
          clear hrv hbn hpl
          try clear hk2
          try clear hk3
          try clear hp
          go_enter Try.func170,Try.ntmps170
          go_wp2_with (first | (go_at_call 106;(rw [← hW2];refine hfo.out.mono ?_;rintro e w1 ⟨rfl,hb1⟩;have E1:=Lib.hid hb1;have B1:=Lib.hid (z4'.out.trans (hb1.mono z4'.out.size));clear hb1 o0 o1 o2 o3 o4 o5 o6 o7 o8 o9 o10;obtain ⟨o0,o1,o2,o3,o4,o5,o6,o7,o8,o9,o10⟩:=op_cells (hrow.out w1 E1.out))) | (go_at_call 162;(refine (hwi.out _ B1.out).mono ?_;rintro e w2 ⟨rfl,k2,rfl⟩)))
          go_ret
          exact ⟨by rw [hr'.out] <;> rfl,draws B1.out _⟩
      · skip
        have e2:((o.kind:Int) == 2) = false:=by simp;omega
        have e3:((o.kind:Int) == 3) = false:=by simp;omega
        have n3:((o.kind:Int) != 3) = true:=by simp;omega
        have hr':=Lib.hid (show r = true by rw [hrv];rw [if_neg hk2,if_neg hk3];rfl)
        clear hrv hbn hpl
        try clear hk2
        try clear hk3
        try clear hp
        go_enter Try.func170,Try.ntmps170
        go_wp2_with (go_at_call 106;(rw [← hW2];refine hfo.out.mono ?_;rintro e w1 ⟨rfl,hb1⟩;have E1:=Lib.hid hb1;have B1:=Lib.hid (z4'.out.trans (hb1.mono z4'.out.size));clear hb1 o0 o1 o2 o3 o4 o5 o6 o7 o8 o9 o10;obtain ⟨o0,o1,o2,o3,o4,o5,o6,o7,o8,o9,o10⟩:=op_cells (hrow.out w1 E1.out)))
        go_ret
        exact ⟨by rw [hr'.out] <;> rfl,B1.out⟩
theorem one_any (w:World) (o:Ov) (s:OS) (ho:OpIn w o s):Calls Try.prog 191 #[.agg (opCells o s)] w fun e w'=>∃ v,e = .returned v∧RowA w [o] v w':=by
  obtain ⟨W2,hW2⟩:∃ Q9,Q9 = w.alloc (.cells (opCells o s) 52):=⟨_,rfl⟩
  have z1:=Lib.hid (show W2.heap[w.heap.size]? = some (.cells (opCells o s) 52 (0,0)) by rw [hW2];exact heap_alloc_new w _)
  have z4':=Lib.hid (show Below w.heap.size w W2 by rw [hW2];exact (Below.refl _ _).alloc (Nat.le_refl _) _)
  have hfin:=Lib.hid (RowA.one (X:=W2) z4'.out (ho.below z4'.out))
  obtain ⟨o0,o1,o2,o3,o4,o5,o6,o7,o8,o9,o10⟩:=op_cells z1.out
  unfold opCells at hW2 hfin
  unfold opCells
  rw [hW2] at o0 o1 o2 o3 o4 o5 o6 o7 o8 o9 o10
  clear ho
  go_enter Try.func191,Try.ntmps191
  go_wp2_with fail
  go_ret
  rw [← hW2]
  have hz:W2.heap.size = w.heap.size + 1:=by rw [hW2];simp
  rw [hz] at hfin
  exact ⟨_,rfl,hfin.out⟩
theorem keep_any (w:World) (h:Bool) (A:Option Addr) (n c:Nat):Calls Try.prog 194 #[.bool h,.slice A n c] w fun e w'=>e = .returned (if h = true then .slice A n c else .slice none 0 0)∧w' = w:=by
  cases h with
  | true =>
    go_enter Try.func194,Try.ntmps194
    go_wp2_with fail
    go_ret
    exact ⟨rfl,rfl⟩
  | false =>
    go_enter Try.func194,Try.ntmps194
    go_wp2_with fail
    go_ret
    exact ⟨rfl,rfl⟩
end Go.Proofs.Ytidimannfemnmaa.Sqr
namespace Go.Proofs.Ytidimannfemnmaa.Sqr
open Go.RowKit Top Shf Sim
set_option maxRecDepth 20000


theorem rowA_slice {w w':World} {l:List Ov} {v:Value} (h:RowA w l v w'):∃ A n c,v = .slice A n c:=by
  obtain ⟨l',X,h1,h2,h3,h4,h5⟩:=h
  obtain ⟨A,n,c,rfl,-⟩:=h4.shape
  exact ⟨A,n,c,rfl⟩
theorem eqV_len {p q:List Int} (h:p.length ≠ q.length):P4.eqV p q = false:=by
  unfold P4.eqV
  simp
  intro e
  exact h (by rw [e])
theorem within_len {p q:List Int} (h:¬ p.length < q.length):P4.eqV p q = true∨P4.withinV p q = false:=by
  rw [within_pre]
  by_cases hp:p <+: q
  · refine .inl ?_
    have e:=hp.eq_of_length_le (by omega)
    unfold P4.eqV
    simp [e]
  · exact .inr (by simp [hp])
theorem keep_true (w:World) (A:Option Addr) (n c:Nat):Calls Try.prog 194 #[.bool true,.slice A n c] w fun e w'=>e = .returned (.slice A n c)∧w' = w:=by simpa using keep_any w true A n c
theorem keep_false (w:World) (A:Option Addr) (n c:Nat):Calls Try.prog 194 #[.bool false,.slice A n c] w fun e w'=>e = .returned (.slice none 0 0)∧w' = w:=by simpa using keep_any w false A n c
theorem rundo_in (w:World) (a:Ov) (s:OS) (ha:OpIn w a s) (hl:Tiny a):Calls Try.prog 202 #[.agg (opCells a s)] w (OpA w (undoV (chV a))):=by
  refine (rUndo_any w a s ha hl.slen).mono fun e w' h=>?_
  obtain ⟨s',rfl,h1,h2⟩:=h
  exact ⟨s',rfl,h1.op (undo_ok (op_ok ha) hl),h2⟩
set_option maxHeartbeats 32000000 in
theorem twoMoves_any (w:World) (b a:Ov) (sb sa:OS) (prior:Bool) (hb:OpIn w b sb) (ha:OpIn w a sa) (hlb:Tiny b) (hla:Tiny a) (hkb:b.kind = 3) (hka:a.kind = 3) :
    Calls Try.prog 193 #[.agg (opCells b sb),.agg (opCells a sa),.bool prior] w fun e w'=>∃ v,e = .returned v∧RowA w (becomesV b a prior) v w':=by
  obtain ⟨z1,z2,z4,z5⟩:=two_news w (.cells (opCells b sb) 52) (.cells (opCells a sa) 52)
  obtain ⟨W2,hW2⟩:∃ Q9,Q9 = ((w.alloc (.cells (opCells b sb) 52)).alloc (.cells (opCells a sa) 52)):=⟨_,rfl⟩
  rw [← hW2] at z1 z2 z4 z5
  have z1':=Lib.hid z1
  have z2':=Lib.hid z2
  have z4':=Lib.hid z4
  have z5':=Lib.hid z5
  have hrow:=Lib.hid (fun (W:World) (hB:Below W2.heap.size W2 W)=>And.intro ((hB.block w.heap.size (by omega)).trans z1) ((hB.block (w.heap.size + 1) (by omega)).trans z2))
  obtain ⟨sm,hsm⟩:∃ Q9,Q9 = P4.eqV b.path a.path:=⟨_,rfl⟩
  have hs:=Lib.hid (fun (W:World) (hB:Below w.heap.size w W)=>(rsame_its W sa.pA sb.pA sa.pn sa.pc sb.pn sb.pc a.path b.path (ha.below hB).path (hb.below hB).path (Nat.le_trans ha.pnc ha.pcm) (Nat.le_trans hb.pnc hb.pcm)).mono (R':=fun e w'=>e = .returned (.bool sm)∧∃ k,w' = W.drewN k) fun e w' h=>⟨by rw [hsm,eqV_comm];exact h.1,h.2⟩)
  have hsm2:=Lib.hid hsm.symm
  have hbo:=Lib.hid (fun (W:World) (hB:Below w.heap.size w W)=>And.intro (hb.below hB) (ha.below hB))
  have hkr:=Lib.hid (show b.kind < 256∧a.kind < 256 from ⟨hb.kind,ha.kind⟩)
  have hti:=Lib.hid (And.intro hlb hla)
  have hw4:=Lib.hid (fun (W:World) (hB:Below w.heap.size w W)=>P4.refWithin_any W sb.pA sa.tA sb.pn sb.pc sa.tn sa.tc b.path a.to_ (its4 (hb.below hB).path) (its4 (ha.below hB).to_) (Nat.le_trans hb.pnc hb.pcm) (Nat.le_trans ha.tnc ha.tcm))
  have hw2:=Lib.hid (fun (W:World) (hB:Below w.heap.size w W)=>P4.refWithin_any W sa.pA sb.tA sa.pn sa.pc sb.tn sb.tc a.path b.to_ (its4 (ha.below hB).path) (its4 (hb.below hB).to_) (Nat.le_trans ha.pnc ha.pcm) (Nat.le_trans hb.tnc hb.tcm))
  have HV:=Lib.hid (And.intro hkb hka)
  have hshift:=Lib.hid (fun (W:World) (hB:Below w.heap.size w W)=>row9_any W b a sb sa prior (hb.below hB) (ha.below hB) hlb.slen hla.slen)
  have hundo:=Lib.hid (fun (W:World) (hB:Below w.heap.size w W)=>rundo_in W a sa (ha.below hB) hla)
  clear hb ha z1 z2 z4 z5 hlb hla hsm
  unfold opCells at hW2 hshift hundo
  unfold opCells
  clear hkb hka
  go_enter Try.func193,Try.ntmps193
  go_upto_region 1 with fail
  rw [← hW2]
  clear hW2
  obtain ⟨r1,r2⟩:=hrow.out W2 (Below.refl _ _)
  obtain ⟨o0,o1,o2,o3,o4,o5,o6,o7,o8,o9,o10⟩:=op_cells r1
  obtain ⟨a0,a1,a2,a3,a4,a5,a6,a7,a8,a9,a10⟩:=op_cells r2
  clear r1 r2
  cases sm with
  | true =>
    cases prior with
    | true =>
      have hval:=Lib.hid (show becomesV b a true = [shiftedV b a true] from (val_k33a HV.out.1 HV.out.2 hsm2.out).trans (if_pos rfl))
      go_wp2_with (first | (go_at_call 194;(refine (keep_true _ A9 n9 c9).mono ?_;rintro e wk ⟨rfl,rfl⟩)) | (go_at_call 191;(refine (one_any w8 _ s8 H8.out).mono ?_;rintro e w9 ⟨v9,rfl,h9⟩;obtain ⟨A9,n9,c9,rfl⟩:=rowA_slice h9;have H9:=Lib.hid (h9.from_ V8.out);clear h9)) | (go_at_call 196;(refine (hshift.out _ (by first | exact z4'.out | exact draws z4'.out _)).mono ?_;rintro e w8 ⟨s8,rfl,h8,hb8⟩;have H8:=Lib.hid h8;have V8:=Lib.hid (show Below w.heap.size w w8 by first | exact Below.trans z4'.out (hb8.mono (Below.size z4'.out)) | exact Below.trans (draws z4'.out _) (hb8.mono (Below.size (draws z4'.out _))));clear h8 hb8 o0 o1 o2 o3 o4 o5 o6 o7 o8 o9 o10 a0 a1 a2 a3 a4 a5 a6 a7 a8 a9 a10;unfold opCells)) | (go_at_call 108;(refine (hs.out _ (by first | exact z4'.out | exact draws z4'.out _)).mono ?_;rintro e ws ⟨rfl,ks,rfl⟩)))
      go_ret
      rw [hval.out]
      exact ⟨_,rfl,H9.out⟩
    | false =>
      have hval:=Lib.hid (show becomesV b a false = [] from (val_k33a HV.out.1 HV.out.2 hsm2.out).trans (if_neg (by decide)))
      go_wp2_with (first | (go_at_call 194;(refine (keep_false _ A9 n9 c9).mono ?_;rintro e wk ⟨rfl,rfl⟩)) | (go_at_call 191;(refine (one_any w8 _ s8 H8.out).mono ?_;rintro e w9 ⟨v9,rfl,h9⟩;obtain ⟨A9,n9,c9,rfl⟩:=rowA_slice h9;have H9:=Lib.hid (h9.from_ V8.out);clear h9)) | (go_at_call 196;(refine (hshift.out _ (by first | exact z4'.out | exact draws z4'.out _)).mono ?_;rintro e w8 ⟨s8,rfl,h8,hb8⟩;have H8:=Lib.hid h8;have V8:=Lib.hid (show Below w.heap.size w w8 by first | exact Below.trans z4'.out (hb8.mono (Below.size z4'.out)) | exact Below.trans (draws z4'.out _) (hb8.mono (Below.size (draws z4'.out _))));clear h8 hb8 o0 o1 o2 o3 o4 o5 o6 o7 o8 o9 o10 a0 a1 a2 a3 a4 a5 a6 a7 a8 a9 a10;unfold opCells)) | (go_at_call 108;(refine (hs.out _ (by first | exact z4'.out | exact draws z4'.out _)).mono ?_;rintro e ws ⟨rfl,ks,rfl⟩)))
      go_ret
      rw [hval.out]
      exact ⟨_,rfl,RowA.none_ H9.out.bel⟩
  | false =>
    cases h_w4:P4.withinV b.path a.to_ with
    | true =>
      rw [h_w4] at hw4
      have H_w4:=Lib.hid h_w4
      clear h_w4
      cases h_w2:P4.withinV a.path b.to_ with
      | true =>
        rw [h_w2] at hw2
        have H_w2:=Lib.hid h_w2
        clear h_w2
        cases prior with
        | true =>
          have hval:=Lib.hid (show becomesV b a true = [undoV (chV a),b] from (val_k33b HV.out.1 HV.out.2 hsm2.out H_w4.out H_w2.out).trans (if_pos rfl))
          go_upto_region 4 with (first | (go_at_call_of 162 sb.tA;(refine (hw2.out _ (by first | exact z4'.out | exact draws z4'.out _)).mono ?_;rintro e wy ⟨rfl,kw2,rfl⟩)) | (go_at_call_of 162 sa.tA;(refine (hw4.out _ (by first | exact z4'.out | exact draws z4'.out _)).mono ?_;rintro e wy ⟨rfl,kw4,rfl⟩)) | (go_at_call 108;(refine (hs.out _ (by first | exact z4'.out | exact draws z4'.out _)).mono ?_;rintro e ws ⟨rfl,ks,rfl⟩)))
          clear o0 o1 o2 o3 o4 o5 o6 o7 o8 o9 o10 a0 a1 a2 a3 a4 a5 a6 a7 a8 a9 a10
          obtain ⟨wd,hwd⟩:∃ Q9,Q9 = W2.drewN (ks + kw4 + kw2):=⟨_,rfl⟩
          rw [← hwd]
          have Vd:=Lib.hid (show Below W2.heap.size W2 wd by rw [hwd];exact draws (Below.refl _ _) _)
          have Ud:=Lib.hid (z4'.out.trans (Vd.out.mono z4'.out.size))
          have hrd:=Lib.hid (fun (W:World) (hB:Below wd.heap.size wd W)=>hrow.out W (Vd.out.trans (hB.mono Vd.out.size)))
          clear hwd
          rename_i K0 hK0
          refine wp_region_held_drew (S:=(fun W=>Below wd.heap.size wd W)) (by kernel_rfl) ((Below.refl wd.heap.size wd).drew) (fun hHeld=>?_)
          refine wpAnyH_take (i:=0) (v:=?_) rfl (by kernel_rfl) (by kernel_rfl) (by kernel_rfl) (fun _ _ _ h=>h) (Or.inl ⟨by rfl,?_⟩) hHeld ?_
          rotate_left 1
          · intro W hSw;obtain ⟨r1,r2⟩:=hrd.out W hSw;obtain ⟨o0,o1,o2,o3,o4,o5,o6,o7,o8,o9,o10⟩:=op_cells r1;obtain ⟨a0,a1,a2,a3,a4,a5,a6,a7,a8,a9,a10⟩:=op_cells r2;go_simp;try with_reducible rfl
          try simp only [Act.put,zA,zB,zC]
          refine wpAnyH_take (i:=1) (v:=?_) rfl (by kernel_rfl) (by kernel_rfl) (by kernel_rfl) (fun _ _ _ h=>h) (Or.inl ⟨by rfl,?_⟩) hHeld ?_
          rotate_left 1
          · intro W hSw;obtain ⟨r1,r2⟩:=hrd.out W hSw;obtain ⟨o0,o1,o2,o3,o4,o5,o6,o7,o8,o9,o10⟩:=op_cells r1;obtain ⟨a0,a1,a2,a3,a4,a5,a6,a7,a8,a9,a10⟩:=op_cells r2;go_simp;try with_reducible rfl
          try simp only [Act.put,zA,zB,zC]
          refine wpAnyH_take (i:=3) (v:=?_) rfl (by kernel_rfl) (by kernel_rfl) (by kernel_rfl) (fun _ _ _ h=>h) (Or.inl ⟨by rfl,?_⟩) hHeld ?_
          rotate_left 1
          · intro W hSw;obtain ⟨r1,r2⟩:=hrd.out W hSw;obtain ⟨o0,o1,o2,o3,o4,o5,o6,o7,o8,o9,o10⟩:=op_cells r1;obtain ⟨a0,a1,a2,a3,a4,a5,a6,a7,a8,a9,a10⟩:=op_cells r2;go_simp;try with_reducible rfl
          try simp only [Act.put,zA,zB,zC]
          refine wpAnyH_ready (rs:=[2]) (by kernel_rfl) (by simp) ?_
          refine AllReadyH.cons rfl (fun K hK=>?_) AllReadyH.nil
          go_simp
          refine (hundo.out _ (Ud.out.trans (hHeld.mono Ud.out.size))).mono ?_
          rintro e w8 ⟨s8,rfl,h8,hb8⟩
          have H8:=Lib.hid h8
          have E8:=Lib.hid (Below.trans hHeld (hb8.mono (Below.size hHeld)))
          clear h8 hb8
          unfold opCells
          go_simp
          refine hK.out _ _ ?_ (fun hNew=>?_)
          · exact E8.out
          clear hK K hHeld
          have hHeld:=hNew
          clear hNew
          try simp only [Act.put,zA,zB,zC]
          refine wpAnyH_ready (rs:=[4]) (by kernel_rfl) (by simp) ?_
          refine AllReadyH.cons rfl (fun K hK=>?_) AllReadyH.nil
          go_simp
          refine hK.out _ _ ?_ (fun hNew=>?_)
          · exact (E8.out.alloc E8.out.size _)
          clear hK K hHeld
          have hHeld:=hNew
          clear hNew
          try simp only [Act.put,zA,zB,zC]
          refine wpAnyH_ready (rs:=[5]) (by kernel_rfl) (by simp) ?_
          refine AllReadyH.cons rfl (fun K hK=>?_) AllReadyH.nil
          go_simp
          refine (keep_true _ _ _ _).mono ?_
          rintro e wk ⟨rfl,rfl⟩
          go_simp
          refine hK.out _ _ ?_ (fun hNew=>?_)
          · exact hHeld
          clear hK K hHeld
          have hHeld:=hNew
          clear hNew
          try simp only [Act.put,zA,zB,zC]
          refine wpAnyH_ready (rs:=[6]) (by kernel_rfl) (by simp) ?_
          refine AllReadyH.cons rfl (fun K hK=>?_) AllReadyH.nil
          go_simp
          refine hK.out _ _ hHeld (fun hNew=>?_)
          clear hK K hHeld
          have hHeld:=hNew
          clear hNew
          try simp only [Act.put,zA,zB,zC]
          refine wpAnyH_done (by kernel_rfl) ?_ _
          refine hK0 _ _ ?_
          clear hK0
          go_wp2_with fail
          go_ret
          rw [hval.out]
          have V9:=Ud.out.trans (E8.out.mono Ud.out.size)
          exact ⟨_,rfl,RowA.two (s:=s8) (t:=sb) V9 H8.out (hbo.out _ V9).1⟩
        | false =>
          have hval:=Lib.hid (show becomesV b a false = [] from (val_k33b HV.out.1 HV.out.2 hsm2.out H_w4.out H_w2.out).trans (if_neg (by decide)))
          go_upto_region 4 with (first | (go_at_call_of 162 sb.tA;(refine (hw2.out _ (by first | exact z4'.out | exact draws z4'.out _)).mono ?_;rintro e wy ⟨rfl,kw2,rfl⟩)) | (go_at_call_of 162 sa.tA;(refine (hw4.out _ (by first | exact z4'.out | exact draws z4'.out _)).mono ?_;rintro e wy ⟨rfl,kw4,rfl⟩)) | (go_at_call 108;(refine (hs.out _ (by first | exact z4'.out | exact draws z4'.out _)).mono ?_;rintro e ws ⟨rfl,ks,rfl⟩)))
          clear o0 o1 o2 o3 o4 o5 o6 o7 o8 o9 o10 a0 a1 a2 a3 a4 a5 a6 a7 a8 a9 a10
          obtain ⟨wd,hwd⟩:∃ Q9,Q9 = W2.drewN (ks + kw4 + kw2):=⟨_,rfl⟩
          rw [← hwd]
          have Vd:=Lib.hid (show Below W2.heap.size W2 wd by rw [hwd];exact draws (Below.refl _ _) _)
          have Ud:=Lib.hid (z4'.out.trans (Vd.out.mono z4'.out.size))
          have hrd:=Lib.hid (fun (W:World) (hB:Below wd.heap.size wd W)=>hrow.out W (Vd.out.trans (hB.mono Vd.out.size)))
          clear hwd
          rename_i K0 hK0
          refine wp_region_held_drew (S:=(fun W=>Below wd.heap.size wd W)) (by kernel_rfl) ((Below.refl wd.heap.size wd).drew) (fun hHeld=>?_)
          refine wpAnyH_take (i:=0) (v:=?_) rfl (by kernel_rfl) (by kernel_rfl) (by kernel_rfl) (fun _ _ _ h=>h) (Or.inl ⟨by rfl,?_⟩) hHeld ?_
          rotate_left 1
          · intro W hSw;obtain ⟨r1,r2⟩:=hrd.out W hSw;obtain ⟨o0,o1,o2,o3,o4,o5,o6,o7,o8,o9,o10⟩:=op_cells r1;obtain ⟨a0,a1,a2,a3,a4,a5,a6,a7,a8,a9,a10⟩:=op_cells r2;go_simp;try with_reducible rfl
          try simp only [Act.put,zA,zB,zC]
          refine wpAnyH_take (i:=1) (v:=?_) rfl (by kernel_rfl) (by kernel_rfl) (by kernel_rfl) (fun _ _ _ h=>h) (Or.inl ⟨by rfl,?_⟩) hHeld ?_
          rotate_left 1
          · intro W hSw;obtain ⟨r1,r2⟩:=hrd.out W hSw;obtain ⟨o0,o1,o2,o3,o4,o5,o6,o7,o8,o9,o10⟩:=op_cells r1;obtain ⟨a0,a1,a2,a3,a4,a5,a6,a7,a8,a9,a10⟩:=op_cells r2;go_simp;try with_reducible rfl
          try simp only [Act.put,zA,zB,zC]
          refine wpAnyH_take (i:=3) (v:=?_) rfl (by kernel_rfl) (by kernel_rfl) (by kernel_rfl) (fun _ _ _ h=>h) (Or.inl ⟨by rfl,?_⟩) hHeld ?_
          rotate_left 1
          · intro W hSw;obtain ⟨r1,r2⟩:=hrd.out W hSw;obtain ⟨o0,o1,o2,o3,o4,o5,o6,o7,o8,o9,o10⟩:=op_cells r1;obtain ⟨a0,a1,a2,a3,a4,a5,a6,a7,a8,a9,a10⟩:=op_cells r2;go_simp;try with_reducible rfl
          try simp only [Act.put,zA,zB,zC]
          refine wpAnyH_ready (rs:=[2]) (by kernel_rfl) (by simp) ?_
          refine AllReadyH.cons rfl (fun K hK=>?_) AllReadyH.nil
          go_simp
          refine (hundo.out _ (Ud.out.trans (hHeld.mono Ud.out.size))).mono ?_
          rintro e w8 ⟨s8,rfl,h8,hb8⟩
          have H8:=Lib.hid h8
          have E8:=Lib.hid (Below.trans hHeld (hb8.mono (Below.size hHeld)))
          clear h8 hb8
          unfold opCells
          go_simp
          refine hK.out _ _ ?_ (fun hNew=>?_)
          · exact E8.out
          clear hK K hHeld
          have hHeld:=hNew
          clear hNew
          try simp only [Act.put,zA,zB,zC]
          refine wpAnyH_ready (rs:=[4]) (by kernel_rfl) (by simp) ?_
          refine AllReadyH.cons rfl (fun K hK=>?_) AllReadyH.nil
          go_simp
          refine hK.out _ _ ?_ (fun hNew=>?_)
          · exact (E8.out.alloc E8.out.size _)
          clear hK K hHeld
          have hHeld:=hNew
          clear hNew
          try simp only [Act.put,zA,zB,zC]
          refine wpAnyH_ready (rs:=[5]) (by kernel_rfl) (by simp) ?_
          refine AllReadyH.cons rfl (fun K hK=>?_) AllReadyH.nil
          go_simp
          refine (keep_false _ _ _ _).mono ?_
          rintro e wk ⟨rfl,rfl⟩
          go_simp
          refine hK.out _ _ ?_ (fun hNew=>?_)
          · exact hHeld
          clear hK K hHeld
          have hHeld:=hNew
          clear hNew
          try simp only [Act.put,zA,zB,zC]
          refine wpAnyH_ready (rs:=[6]) (by kernel_rfl) (by simp) ?_
          refine AllReadyH.cons rfl (fun K hK=>?_) AllReadyH.nil
          go_simp
          refine hK.out _ _ hHeld (fun hNew=>?_)
          clear hK K hHeld
          have hHeld:=hNew
          clear hNew
          try simp only [Act.put,zA,zB,zC]
          refine wpAnyH_done (by kernel_rfl) ?_ _
          refine hK0 _ _ ?_
          clear hK0
          go_wp2_with fail
          go_ret
          rw [hval.out]
          have V9:=Ud.out.trans (E8.out.mono Ud.out.size)
          exact ⟨_,rfl,RowA.none_ (V9.alloc V9.size _)⟩
      | false =>
        rw [h_w2] at hw2
        have H_w2:=Lib.hid h_w2
        clear h_w2
        have hval:=Lib.hid (show becomesV b a prior = [shiftedV b a prior] from val_k33c HV.out.1 HV.out.2 hsm2.out (.inr H_w2.out))
        go_wp2_with (first | (go_at_call 191;(refine (one_any w8 _ s8 H8.out).mono ?_;rintro e w9 ⟨v9,rfl,h9⟩;obtain ⟨A9,n9,c9,rfl⟩:=rowA_slice h9;have H9:=Lib.hid (h9.from_ V8.out);clear h9)) | (go_at_call 196;(refine (hshift.out _ (by first | exact z4'.out | exact draws z4'.out _)).mono ?_;rintro e w8 ⟨s8,rfl,h8,hb8⟩;have H8:=Lib.hid h8;have V8:=Lib.hid (show Below w.heap.size w w8 by first | exact Below.trans z4'.out (hb8.mono (Below.size z4'.out)) | exact Below.trans (draws z4'.out _) (hb8.mono (Below.size (draws z4'.out _))));clear h8 hb8 o0 o1 o2 o3 o4 o5 o6 o7 o8 o9 o10 a0 a1 a2 a3 a4 a5 a6 a7 a8 a9 a10;unfold opCells)) | (go_at_call_of 162 sb.tA;(refine (hw2.out _ (by first | exact z4'.out | exact draws z4'.out _)).mono ?_;rintro e wy ⟨rfl,kw2,rfl⟩)) | (go_at_call_of 162 sa.tA;(refine (hw4.out _ (by first | exact z4'.out | exact draws z4'.out _)).mono ?_;rintro e wy ⟨rfl,kw4,rfl⟩)) | (go_at_call 108;(refine (hs.out _ (by first | exact z4'.out | exact draws z4'.out _)).mono ?_;rintro e ws ⟨rfl,ks,rfl⟩)))
        go_ret
        rw [hval.out]
        exact ⟨_,rfl,H9.out⟩
    | false =>
      rw [h_w4] at hw4
      have H_w4:=Lib.hid h_w4
      clear h_w4
      have hval:=Lib.hid (show becomesV b a prior = [shiftedV b a prior] from val_k33c HV.out.1 HV.out.2 hsm2.out (.inl H_w4.out))
      go_wp2_with (first | (go_at_call 191;(refine (one_any w8 _ s8 H8.out).mono ?_;rintro e w9 ⟨v9,rfl,h9⟩;obtain ⟨A9,n9,c9,rfl⟩:=rowA_slice h9;have H9:=Lib.hid (h9.from_ V8.out);clear h9)) | (go_at_call 196;(refine (hshift.out _ (by first | exact z4'.out | exact draws z4'.out _)).mono ?_;rintro e w8 ⟨s8,rfl,h8,hb8⟩;have H8:=Lib.hid h8;have V8:=Lib.hid (show Below w.heap.size w w8 by first | exact Below.trans z4'.out (hb8.mono (Below.size z4'.out)) | exact Below.trans (draws z4'.out _) (hb8.mono (Below.size (draws z4'.out _))));clear h8 hb8 o0 o1 o2 o3 o4 o5 o6 o7 o8 o9 o10 a0 a1 a2 a3 a4 a5 a6 a7 a8 a9 a10;unfold opCells)) | (go_at_call_of 162 sa.tA;(refine (hw4.out _ (by first | exact z4'.out | exact draws z4'.out _)).mono ?_;rintro e wy ⟨rfl,kw4,rfl⟩)) | (go_at_call 108;(refine (hs.out _ (by first | exact z4'.out | exact draws z4'.out _)).mono ?_;rintro e ws ⟨rfl,ks,rfl⟩)))
      go_ret
      rw [hval.out]
      exact ⟨_,rfl,H9.out⟩
end Go.Proofs.Ytidimannfemnmaa.Sqr
namespace Go.Proofs.Ytidimannfemnmaa.Sqr
open Go.RowKit Top Shf Sim
set_option maxRecDepth 20000


set_option maxHeartbeats 32000000 in
theorem rbehind_ko (w:World) (b a:Ov) (sb sa:OS) (prior:Bool) (hb:OpIn w b sb) (ha:OpIn w a sa) (hlb:Tiny b) (hla:Tiny a) (h2:a.kind ≠ 2) (hka:¬ (b.kind = 2∧a.kind = 3)∧¬ (b.kind = 3∧a.kind = 3)∧¬ (b.kind = 4∧a.kind = 4)∧¬ (b.kind = 5∧a.kind = 5)∧¬ (b.kind = 6∧a.kind = 6)) :
    Calls Try.prog 171 #[.agg (opCells b sb),.agg (opCells a sa),.bool prior] w fun e w'=>∃ v,e = .returned (.tuple #[v,.int .i64 0])∧RowA w (becomesV b a prior) v w':=by
  obtain ⟨z1,z2,z4,z5⟩:=two_news w (.cells (opCells b sb) 52) (.cells (opCells a sa) 52)
  obtain ⟨W2,hW2⟩:∃ Q9,Q9 = ((w.alloc (.cells (opCells b sb) 52)).alloc (.cells (opCells a sa) 52)):=⟨_,rfl⟩
  rw [← hW2] at z1 z2 z4 z5
  have z1':=Lib.hid z1
  have z2':=Lib.hid z2
  have z4':=Lib.hid z4
  have z5':=Lib.hid z5
  have hrow:=Lib.hid (fun (W:World) (hB:Below W2.heap.size W2 W)=>And.intro ((hB.block w.heap.size (by omega)).trans z1) ((hB.block (w.heap.size + 1) (by omega)).trans z2))
  obtain ⟨sm,hsm⟩:∃ Q9,Q9 = P4.eqV b.path a.path:=⟨_,rfl⟩
  have hs:=Lib.hid (fun (W:World) (hB:Below w.heap.size w W)=>(rsame_its W sa.pA sb.pA sa.pn sa.pc sb.pn sb.pc a.path b.path (ha.below hB).path (hb.below hB).path (Nat.le_trans ha.pnc ha.pcm) (Nat.le_trans hb.pnc hb.pcm)).mono (R':=fun e w'=>e = .returned (.bool sm)∧∃ k,w' = W.drewN k) fun e w' h=>⟨by rw [hsm,eqV_comm];exact h.1,h.2⟩)
  have hsm2:=Lib.hid hsm.symm
  have hbo:=Lib.hid (fun (W:World) (hB:Below w.heap.size w W)=>And.intro (hb.below hB) (ha.below hB))
  have hkr:=Lib.hid (show b.kind < 256∧a.kind < 256 from ⟨hb.kind,ha.kind⟩)
  have hti:=Lib.hid (And.intro hlb hla)
  have HV:=Lib.hid (And.intro h2 hka)
  have hshift:=Lib.hid (fun (W:World) (hB:Below w.heap.size w W)=>row9_any W b a sb sa prior (hb.below hB) (ha.below hB) hlb.slen hla.slen)
  clear hb ha z1 z2 z4 z5 hlb hla hsm
  unfold opCells at hW2 hshift
  unfold opCells
  have ea2:((a.kind:Int) == 2) = false:=by simp;omega
  clear h2
  try clear hka
  try clear hkb
  go_enter Try.func171,Try.ntmps171
  go_upto_region 1 with fail
  rw [← hW2]
  clear hW2
  obtain ⟨r1,r2⟩:=hrow.out W2 (Below.refl _ _)
  obtain ⟨o0,o1,o2,o3,o4,o5,o6,o7,o8,o9,o10⟩:=op_cells r1
  obtain ⟨a0,a1,a2,a3,a4,a5,a6,a7,a8,a9,a10⟩:=op_cells r2
  clear r1 r2
  by_cases hkk:a.kind = b.kind
  · have hb0:b.kind ≠ 2∧b.kind ≠ 3∧b.kind ≠ 4∧b.kind ≠ 5∧b.kind ≠ 6:=by have h6:=HV.out.1;have h7:=HV.out.2;omega
    have ekk:((a.kind:Int) == (b.kind:Int)) = true:=by simp;omega
    have ea3:((a.kind:Int) == 3) = false:=by simp;omega
    have eb2:((b.kind:Int) == 2) = false:=by simp;omega
    have eb3:((b.kind:Int) == 3) = false:=by simp;omega
    have eb4:((b.kind:Int) == 4) = false:=by simp;omega
    have eb5:((b.kind:Int) == 5) = false:=by simp;omega
    have eb6:((b.kind:Int) == 6) = false:=by simp;omega
    clear hkk hb0
    cases sm with
    | true =>
      have hval:=Lib.hid (show becomesV b a prior = [shiftedV b a prior] from val_ko HV.out.1 HV.out.2)
      go_wp2_with (first | (go_at_call 191;(refine (one_any w8 _ s8 H8.out).mono ?_;rintro e w9 ⟨v9,rfl,h9⟩;obtain ⟨A9,n9,c9,rfl⟩:=rowA_slice h9;have H9:=Lib.hid (h9.from_ V8.out);clear h9)) | (go_at_call 196;(refine (hshift.out _ (by first | exact z4'.out | exact draws z4'.out _)).mono ?_;rintro e w8 ⟨s8,rfl,h8,hb8⟩;have H8:=Lib.hid h8;have V8:=Lib.hid (show Below w.heap.size w w8 by first | exact Below.trans z4'.out (hb8.mono (Below.size z4'.out)) | exact Below.trans (draws z4'.out _) (hb8.mono (Below.size (draws z4'.out _))));clear h8 hb8 o0 o1 o2 o3 o4 o5 o6 o7 o8 o9 o10 a0 a1 a2 a3 a4 a5 a6 a7 a8 a9 a10;unfold opCells)) | (go_at_call 108;(refine (hs.out _ (by first | exact z4'.out | exact draws z4'.out _)).mono ?_;rintro e ws ⟨rfl,ks,rfl⟩)))
      go_ret2
      rw [hval.out]
      exact ⟨_,rfl,H9.out⟩
    | false =>
      have hval:=Lib.hid (show becomesV b a prior = [shiftedV b a prior] from val_ko HV.out.1 HV.out.2)
      go_wp2_with (first | (go_at_call 191;(refine (one_any w8 _ s8 H8.out).mono ?_;rintro e w9 ⟨v9,rfl,h9⟩;obtain ⟨A9,n9,c9,rfl⟩:=rowA_slice h9;have H9:=Lib.hid (h9.from_ V8.out);clear h9)) | (go_at_call 196;(refine (hshift.out _ (by first | exact z4'.out | exact draws z4'.out _)).mono ?_;rintro e w8 ⟨s8,rfl,h8,hb8⟩;have H8:=Lib.hid h8;have V8:=Lib.hid (show Below w.heap.size w w8 by first | exact Below.trans z4'.out (hb8.mono (Below.size z4'.out)) | exact Below.trans (draws z4'.out _) (hb8.mono (Below.size (draws z4'.out _))));clear h8 hb8 o0 o1 o2 o3 o4 o5 o6 o7 o8 o9 o10 a0 a1 a2 a3 a4 a5 a6 a7 a8 a9 a10;unfold opCells)) | (go_at_call 108;(refine (hs.out _ (by first | exact z4'.out | exact draws z4'.out _)).mono ?_;rintro e ws ⟨rfl,ks,rfl⟩)))
      go_ret2
      rw [hval.out]
      exact ⟨_,rfl,H9.out⟩
  · have ekk:((a.kind:Int) == (b.kind:Int)) = false:=by simp;omega
    by_cases ha3:a.kind = 3
    · have hb0:b.kind ≠ 2∧b.kind ≠ 3:=by have h7:=HV.out.2;omega
      have ea3:((a.kind:Int) == 3) = true:=by simp;omega
      have eb2:((b.kind:Int) == 2) = false:=by simp;omega
      have eb3:((b.kind:Int) == 3) = false:=by simp;omega
      clear hkk hb0 ha3
      have hval:=Lib.hid (show becomesV b a prior = [shiftedV b a prior] from val_ko HV.out.1 HV.out.2)
      go_wp2_with (first | (go_at_call 191;(refine (one_any w8 _ s8 H8.out).mono ?_;rintro e w9 ⟨v9,rfl,h9⟩;obtain ⟨A9,n9,c9,rfl⟩:=rowA_slice h9;have H9:=Lib.hid (h9.from_ V8.out);clear h9)) | (go_at_call 196;(refine (hshift.out _ (by first | exact z4'.out | exact draws z4'.out _)).mono ?_;rintro e w8 ⟨s8,rfl,h8,hb8⟩;have H8:=Lib.hid h8;have V8:=Lib.hid (show Below w.heap.size w w8 by first | exact Below.trans z4'.out (hb8.mono (Below.size z4'.out)) | exact Below.trans (draws z4'.out _) (hb8.mono (Below.size (draws z4'.out _))));clear h8 hb8 o0 o1 o2 o3 o4 o5 o6 o7 o8 o9 o10 a0 a1 a2 a3 a4 a5 a6 a7 a8 a9 a10;unfold opCells)))
      go_ret2
      rw [hval.out]
      exact ⟨_,rfl,H9.out⟩
    · have ea3:((a.kind:Int) == 3) = false:=by simp;omega
      clear hkk ha3
      have hval:=Lib.hid (show becomesV b a prior = [shiftedV b a prior] from val_ko HV.out.1 HV.out.2)
      go_wp2_with (first | (go_at_call 191;(refine (one_any w8 _ s8 H8.out).mono ?_;rintro e w9 ⟨v9,rfl,h9⟩;obtain ⟨A9,n9,c9,rfl⟩:=rowA_slice h9;have H9:=Lib.hid (h9.from_ V8.out);clear h9)) | (go_at_call 196;(refine (hshift.out _ (by first | exact z4'.out | exact draws z4'.out _)).mono ?_;rintro e w8 ⟨s8,rfl,h8,hb8⟩;have H8:=Lib.hid h8;have V8:=Lib.hid (show Below w.heap.size w w8 by first | exact Below.trans z4'.out (hb8.mono (Below.size z4'.out)) | exact Below.trans (draws z4'.out _) (hb8.mono (Below.size (draws z4'.out _))));clear h8 hb8 o0 o1 o2 o3 o4 o5 o6 o7 o8 o9 o10 a0 a1 a2 a3 a4 a5 a6 a7 a8 a9 a10;unfold opCells)))
      go_ret2
      rw [hval.out]
      exact ⟨_,rfl,H9.out⟩
end Go.Proofs.Ytidimannfemnmaa.Sqr
namespace Go.Proofs.Ytidimannfemnmaa.Sqr
open Go.RowKit Top Shf Sim
set_option maxRecDepth 20000


set_option maxHeartbeats 32000000 in
theorem rbehind_k2 (w:World) (b a:Ov) (sb sa:OS) (prior:Bool) (hb:OpIn w b sb) (ha:OpIn w a sa) (hlb:Tiny b) (hla:Tiny a) (hka:a.kind = 2) :
    Calls Try.prog 171 #[.agg (opCells b sb),.agg (opCells a sa),.bool prior] w fun e w'=>∃ v,e = .returned (.tuple #[v,.int .i64 0])∧RowA w (becomesV b a prior) v w':=by
  obtain ⟨z1,z2,z4,z5⟩:=two_news w (.cells (opCells b sb) 52) (.cells (opCells a sa) 52)
  obtain ⟨W2,hW2⟩:∃ Q9,Q9 = ((w.alloc (.cells (opCells b sb) 52)).alloc (.cells (opCells a sa) 52)):=⟨_,rfl⟩
  rw [← hW2] at z1 z2 z4 z5
  have z1':=Lib.hid z1
  have z2':=Lib.hid z2
  have z4':=Lib.hid z4
  have z5':=Lib.hid z5
  have hrow:=Lib.hid (fun (W:World) (hB:Below W2.heap.size W2 W)=>And.intro ((hB.block w.heap.size (by omega)).trans z1) ((hB.block (w.heap.size + 1) (by omega)).trans z2))
  obtain ⟨sm,hsm⟩:∃ Q9,Q9 = P4.eqV b.path a.path:=⟨_,rfl⟩
  have hs:=Lib.hid (fun (W:World) (hB:Below w.heap.size w W)=>(rsame_its W sa.pA sb.pA sa.pn sa.pc sb.pn sb.pc a.path b.path (ha.below hB).path (hb.below hB).path (Nat.le_trans ha.pnc ha.pcm) (Nat.le_trans hb.pnc hb.pcm)).mono (R':=fun e w'=>e = .returned (.bool sm)∧∃ k,w' = W.drewN k) fun e w' h=>⟨by rw [hsm,eqV_comm];exact h.1,h.2⟩)
  have hsm2:=Lib.hid hsm.symm
  have hbo:=Lib.hid (fun (W:World) (hB:Below w.heap.size w W)=>And.intro (hb.below hB) (ha.below hB))
  have hkr:=Lib.hid (show b.kind < 256∧a.kind < 256 from ⟨hb.kind,ha.kind⟩)
  have hti:=Lib.hid (And.intro hlb hla)
  have hw1:=Lib.hid (fun (W:World) (hB:Below w.heap.size w W)=>P4.refWithin_any W sa.pA sb.pA sa.pn sa.pc sb.pn sb.pc a.path b.path (its4 (ha.below hB).path) (its4 (hb.below hB).path) (Nat.le_trans ha.pnc ha.pcm) (Nat.le_trans hb.pnc hb.pcm))
  have hw2:=Lib.hid (fun (W:World) (hB:Below w.heap.size w W)=>P4.refWithin_any W sa.pA sb.tA sa.pn sa.pc sb.tn sb.tc a.path b.to_ (its4 (ha.below hB).path) (its4 (hb.below hB).to_) (Nat.le_trans ha.pnc ha.pcm) (Nat.le_trans hb.tnc hb.tcm))
  have HV:=Lib.hid hka
  have hq:=Lib.hid (nodeD_ok hla.slen (op_ok ha) (op_ok hb).pfit)
  have hshift:=Lib.hid (fun (W:World) (hB:Below w.heap.size w W)=>row9_any W b a sb sa prior (hb.below hB) (ha.below hB) hlb.slen hla.slen)
  have hnodeB:=Lib.hid (fun (W:World) (hB:Below w.heap.size w W)=>(rNode_any W a sa sb.pA sb.pn sb.pc b.path (ha.below hB) hla.slen (hb.below hB).path hb.pnc hb.pcm hb.pnil (by have:=hb.path.1;have:=hlb.1;omega)).mono fun e w' h=>nodeS h)
  clear hb ha z1 z2 z4 z5 hlb hla hsm
  unfold opCells at hW2 hshift hnodeB
  unfold opCells
  have ea2:((a.kind:Int) == 2) = true:=by simp;omega
  have ea3:((a.kind:Int) == 3) = false:=by simp;omega
  try clear hka
  try clear hkb
  go_enter Try.func171,Try.ntmps171
  go_upto_region 1 with fail
  rw [← hW2]
  clear hW2
  obtain ⟨r1,r2⟩:=hrow.out W2 (Below.refl _ _)
  obtain ⟨o0,o1,o2,o3,o4,o5,o6,o7,o8,o9,o10⟩:=op_cells r1
  obtain ⟨a0,a1,a2,a3,a4,a5,a6,a7,a8,a9,a10⟩:=op_cells r2
  clear r1 r2
  by_cases hb2:b.kind = 2
  · have HB:=Lib.hid (show b.kind ≠ 3 by omega)
    have ekk:((a.kind:Int) == (b.kind:Int)) = true:=by have h7:=HV.out;simp;omega
    have eb3:((b.kind:Int) == 3) = false:=by simp;omega
    have eb4:((b.kind:Int) == 4) = false:=by simp;omega
    have eb5:((b.kind:Int) == 5) = false:=by simp;omega
    have eb6:((b.kind:Int) == 6) = false:=by simp;omega
    clear hb2
    cases sm with
    | true =>
      cases h_w1:P4.withinV a.path b.path with
      | true =>
        rw [h_w1] at hw1
        have H_w1:=Lib.hid h_w1
        clear h_w1
        have hval:=Lib.hid (show becomesV b a prior = [] from val_k2a HV.out H_w1.out)
        go_wp2_with (first | (go_at_call_of 162 sb.pA;(refine (hw1.out _ (by first | exact z4'.out | exact draws z4'.out _)).mono ?_;rintro e wx ⟨rfl,kw1,rfl⟩)) | (go_at_call 108;(refine (hs.out _ (by first | exact z4'.out | exact draws z4'.out _)).mono ?_;rintro e ws ⟨rfl,ks,rfl⟩)))
        go_ret2
        rw [hval.out]
        exact ⟨_,rfl,RowA.none_ (by first | exact z4'.out | exact draws z4'.out _)⟩
      | false =>
        rw [h_w1] at hw1
        have H_w1:=Lib.hid h_w1
        clear h_w1
        have hval:=Lib.hid (show becomesV b a prior = [shiftedV b a prior] from val_k2c HV.out H_w1.out fun e=>absurd e HB.out)
        go_wp2_with (first | (go_at_call 191;(refine (one_any w8 _ s8 H8.out).mono ?_;rintro e w9 ⟨v9,rfl,h9⟩;obtain ⟨A9,n9,c9,rfl⟩:=rowA_slice h9;have H9:=Lib.hid (h9.from_ V8.out);clear h9)) | (go_at_call 196;(refine (hshift.out _ (by first | exact z4'.out | exact draws z4'.out _)).mono ?_;rintro e w8 ⟨s8,rfl,h8,hb8⟩;have H8:=Lib.hid h8;have V8:=Lib.hid (show Below w.heap.size w w8 by first | exact Below.trans z4'.out (hb8.mono (Below.size z4'.out)) | exact Below.trans (draws z4'.out _) (hb8.mono (Below.size (draws z4'.out _))));clear h8 hb8 o0 o1 o2 o3 o4 o5 o6 o7 o8 o9 o10 a0 a1 a2 a3 a4 a5 a6 a7 a8 a9 a10;unfold opCells)) | (go_at_call_of 162 sb.pA;(refine (hw1.out _ (by first | exact z4'.out | exact draws z4'.out _)).mono ?_;rintro e wx ⟨rfl,kw1,rfl⟩)) | (go_at_call 108;(refine (hs.out _ (by first | exact z4'.out | exact draws z4'.out _)).mono ?_;rintro e ws ⟨rfl,ks,rfl⟩)))
        go_ret2
        rw [hval.out]
        exact ⟨_,rfl,H9.out⟩
    | false =>
      cases h_w1:P4.withinV a.path b.path with
      | true =>
        rw [h_w1] at hw1
        have H_w1:=Lib.hid h_w1
        clear h_w1
        have hval:=Lib.hid (show becomesV b a prior = [] from val_k2a HV.out H_w1.out)
        go_wp2_with (first | (go_at_call_of 162 sb.pA;(refine (hw1.out _ (by first | exact z4'.out | exact draws z4'.out _)).mono ?_;rintro e wx ⟨rfl,kw1,rfl⟩)) | (go_at_call 108;(refine (hs.out _ (by first | exact z4'.out | exact draws z4'.out _)).mono ?_;rintro e ws ⟨rfl,ks,rfl⟩)))
        go_ret2
        rw [hval.out]
        exact ⟨_,rfl,RowA.none_ (by first | exact z4'.out | exact draws z4'.out _)⟩
      | false =>
        rw [h_w1] at hw1
        have H_w1:=Lib.hid h_w1
        clear h_w1
        have hval:=Lib.hid (show becomesV b a prior = [shiftedV b a prior] from val_k2c HV.out H_w1.out fun e=>absurd e HB.out)
        go_wp2_with (first | (go_at_call 191;(refine (one_any w8 _ s8 H8.out).mono ?_;rintro e w9 ⟨v9,rfl,h9⟩;obtain ⟨A9,n9,c9,rfl⟩:=rowA_slice h9;have H9:=Lib.hid (h9.from_ V8.out);clear h9)) | (go_at_call 196;(refine (hshift.out _ (by first | exact z4'.out | exact draws z4'.out _)).mono ?_;rintro e w8 ⟨s8,rfl,h8,hb8⟩;have H8:=Lib.hid h8;have V8:=Lib.hid (show Below w.heap.size w w8 by first | exact Below.trans z4'.out (hb8.mono (Below.size z4'.out)) | exact Below.trans (draws z4'.out _) (hb8.mono (Below.size (draws z4'.out _))));clear h8 hb8 o0 o1 o2 o3 o4 o5 o6 o7 o8 o9 o10 a0 a1 a2 a3 a4 a5 a6 a7 a8 a9 a10;unfold opCells)) | (go_at_call_of 162 sb.pA;(refine (hw1.out _ (by first | exact z4'.out | exact draws z4'.out _)).mono ?_;rintro e wx ⟨rfl,kw1,rfl⟩)) | (go_at_call 108;(refine (hs.out _ (by first | exact z4'.out | exact draws z4'.out _)).mono ?_;rintro e ws ⟨rfl,ks,rfl⟩)))
        go_ret2
        rw [hval.out]
        exact ⟨_,rfl,H9.out⟩
  · by_cases hb3:b.kind = 3
    · have HB:=Lib.hid hb3
      have eb3:((b.kind:Int) == 3) = true:=by simp;omega
      have ekk:((a.kind:Int) == (b.kind:Int)) = false:=by have h7:=HV.out;simp;omega
      clear hb2 hb3
      cases h_w1:P4.withinV a.path b.path with
      | true =>
        rw [h_w1] at hw1
        have H_w1:=Lib.hid h_w1
        clear h_w1
        have hval:=Lib.hid (show becomesV b a prior = [] from val_k2a HV.out H_w1.out)
        go_wp2_with (go_at_call_of 162 sb.pA;(refine (hw1.out _ (by first | exact z4'.out | exact draws z4'.out _)).mono ?_;rintro e wx ⟨rfl,kw1,rfl⟩))
        go_ret2
        rw [hval.out]
        exact ⟨_,rfl,RowA.none_ (by first | exact z4'.out | exact draws z4'.out _)⟩
      | false =>
        rw [h_w1] at hw1
        have H_w1:=Lib.hid h_w1
        clear h_w1
        cases h_w2:P4.withinV a.path b.to_ with
        | true =>
          rw [h_w2] at hw2
          have H_w2:=Lib.hid h_w2
          clear h_w2
          have hval:=Lib.hid (show becomesV b a prior = [delV (nodeD a b.path)] from val_k2b HV.out H_w1.out HB.out H_w2.out)
          go_wp2_with (first | (go_at_call 191;(refine (one_any w8 _ s8 H8.out).mono ?_;rintro e w9 ⟨v9,rfl,h9⟩;obtain ⟨A9,n9,c9,rfl⟩:=rowA_slice h9;have H9:=Lib.hid (h9.from_ V8.out);clear h9)) | (go_at_call 192;(refine (drop_any w5 A5 n5 c5 _ H5.out.1 H5.out.2.1 H5.out.2.2.1 H5.out.2.2.2.1 (by have h6:=H5.out.2.2.2.2;have h7:=hq.out.1;have h8:=hti.out.1.1;omega) hq.out.2).mono ?_;rintro e w8 ⟨s8,rfl,h8,hb8⟩;have H8:=Lib.hid h8;have V8:=Lib.hid (V5.out.trans (hb8.mono V5.out.size));clear h8 hb8;unfold opCells;dsimp only [delV])) | (go_at_call_of 190 sb.pA;(refine (hnodeB.out _ (by first | exact z4'.out | exact draws z4'.out _)).mono ?_;rintro e w5 ⟨A5,n5,c5,bb5,rfl,h5,hb5⟩;have H5:=Lib.hid (own_facts h5);have V5:=Lib.hid (show Below w.heap.size w w5 by first | exact Below.trans z4'.out (hb5.mono (Below.size z4'.out)) | exact Below.trans (draws z4'.out _) (hb5.mono (Below.size (draws z4'.out _))));clear h5 hb5 o0 o1 o2 o3 o4 o5 o6 o7 o8 o9 o10 a0 a1 a2 a3 a4 a5 a6 a7 a8 a9 a10)) | (go_at_call_of 162 sb.tA;(refine (hw2.out _ (by first | exact z4'.out | exact draws z4'.out _)).mono ?_;rintro e wy ⟨rfl,kw2,rfl⟩)) | (go_at_call_of 162 sb.pA;(refine (hw1.out _ (by first | exact z4'.out | exact draws z4'.out _)).mono ?_;rintro e wx ⟨rfl,kw1,rfl⟩)))
          go_ret2
          rw [hval.out]
          exact ⟨_,rfl,H9.out⟩
        | false =>
          rw [h_w2] at hw2
          have H_w2:=Lib.hid h_w2
          clear h_w2
          have hval:=Lib.hid (show becomesV b a prior = [shiftedV b a prior] from val_k2c HV.out H_w1.out fun _=>H_w2.out)
          go_wp2_with (first | (go_at_call 191;(refine (one_any w8 _ s8 H8.out).mono ?_;rintro e w9 ⟨v9,rfl,h9⟩;obtain ⟨A9,n9,c9,rfl⟩:=rowA_slice h9;have H9:=Lib.hid (h9.from_ V8.out);clear h9)) | (go_at_call 196;(refine (hshift.out _ (by first | exact z4'.out | exact draws z4'.out _)).mono ?_;rintro e w8 ⟨s8,rfl,h8,hb8⟩;have H8:=Lib.hid h8;have V8:=Lib.hid (show Below w.heap.size w w8 by first | exact Below.trans z4'.out (hb8.mono (Below.size z4'.out)) | exact Below.trans (draws z4'.out _) (hb8.mono (Below.size (draws z4'.out _))));clear h8 hb8 o0 o1 o2 o3 o4 o5 o6 o7 o8 o9 o10 a0 a1 a2 a3 a4 a5 a6 a7 a8 a9 a10;unfold opCells)) | (go_at_call_of 162 sb.tA;(refine (hw2.out _ (by first | exact z4'.out | exact draws z4'.out _)).mono ?_;rintro e wy ⟨rfl,kw2,rfl⟩)) | (go_at_call_of 162 sb.pA;(refine (hw1.out _ (by first | exact z4'.out | exact draws z4'.out _)).mono ?_;rintro e wx ⟨rfl,kw1,rfl⟩)))
          go_ret2
          rw [hval.out]
          exact ⟨_,rfl,H9.out⟩
    · have HB:=Lib.hid hb3
      have eb3:((b.kind:Int) == 3) = false:=by simp;omega
      have ekk:((a.kind:Int) == (b.kind:Int)) = false:=by have h7:=HV.out;simp;omega
      clear hb2 hb3
      cases h_w1:P4.withinV a.path b.path with
      | true =>
        rw [h_w1] at hw1
        have H_w1:=Lib.hid h_w1
        clear h_w1
        have hval:=Lib.hid (show becomesV b a prior = [] from val_k2a HV.out H_w1.out)
        go_wp2_with (go_at_call_of 162 sb.pA;(refine (hw1.out _ (by first | exact z4'.out | exact draws z4'.out _)).mono ?_;rintro e wx ⟨rfl,kw1,rfl⟩))
        go_ret2
        rw [hval.out]
        exact ⟨_,rfl,RowA.none_ (by first | exact z4'.out | exact draws z4'.out _)⟩
      | false =>
        rw [h_w1] at hw1
        have H_w1:=Lib.hid h_w1
        clear h_w1
        have hval:=Lib.hid (show becomesV b a prior = [shiftedV b a prior] from val_k2c HV.out H_w1.out fun e=>absurd e HB.out)
        go_wp2_with (first | (go_at_call 191;(refine (one_any w8 _ s8 H8.out).mono ?_;rintro e w9 ⟨v9,rfl,h9⟩;obtain ⟨A9,n9,c9,rfl⟩:=rowA_slice h9;have H9:=Lib.hid (h9.from_ V8.out);clear h9)) | (go_at_call 196;(refine (hshift.out _ (by first | exact z4'.out | exact draws z4'.out _)).mono ?_;rintro e w8 ⟨s8,rfl,h8,hb8⟩;have H8:=Lib.hid h8;have V8:=Lib.hid (show Below w.heap.size w w8 by first | exact Below.trans z4'.out (hb8.mono (Below.size z4'.out)) | exact Below.trans (draws z4'.out _) (hb8.mono (Below.size (draws z4'.out _))));clear h8 hb8 o0 o1 o2 o3 o4 o5 o6 o7 o8 o9 o10 a0 a1 a2 a3 a4 a5 a6 a7 a8 a9 a10;unfold opCells)) | (go_at_call_of 162 sb.pA;(refine (hw1.out _ (by first | exact z4'.out | exact draws z4'.out _)).mono ?_;rintro e wx ⟨rfl,kw1,rfl⟩)))
        go_ret2
        rw [hval.out]
        exact ⟨_,rfl,H9.out⟩
end Go.Proofs.Ytidimannfemnmaa.Sqr
namespace Go.Proofs.Ytidimannfemnmaa.Sqr
open Go.RowKit Top Shf Sim
set_option maxRecDepth 20000


set_option maxHeartbeats 32000000 in
theorem rbehind_k23 (w:World) (b a:Ov) (sb sa:OS) (prior:Bool) (hb:OpIn w b sb) (ha:OpIn w a sa) (hlb:Tiny b) (hla:Tiny a) (hkb:b.kind = 2) (hka:a.kind = 3) :
    Calls Try.prog 171 #[.agg (opCells b sb),.agg (opCells a sa),.bool prior] w fun e w'=>∃ v,e = .returned (.tuple #[v,.int .i64 0])∧RowA w (becomesV b a prior) v w':=by
  obtain ⟨z1,z2,z4,z5⟩:=two_news w (.cells (opCells b sb) 52) (.cells (opCells a sa) 52)
  obtain ⟨W2,hW2⟩:∃ Q9,Q9 = ((w.alloc (.cells (opCells b sb) 52)).alloc (.cells (opCells a sa) 52)):=⟨_,rfl⟩
  rw [← hW2] at z1 z2 z4 z5
  have z1':=Lib.hid z1
  have z2':=Lib.hid z2
  have z4':=Lib.hid z4
  have z5':=Lib.hid z5
  have hrow:=Lib.hid (fun (W:World) (hB:Below W2.heap.size W2 W)=>And.intro ((hB.block w.heap.size (by omega)).trans z1) ((hB.block (w.heap.size + 1) (by omega)).trans z2))
  obtain ⟨sm,hsm⟩:∃ Q9,Q9 = P4.eqV b.path a.path:=⟨_,rfl⟩
  have hs:=Lib.hid (fun (W:World) (hB:Below w.heap.size w W)=>(rsame_its W sa.pA sb.pA sa.pn sa.pc sb.pn sb.pc a.path b.path (ha.below hB).path (hb.below hB).path (Nat.le_trans ha.pnc ha.pcm) (Nat.le_trans hb.pnc hb.pcm)).mono (R':=fun e w'=>e = .returned (.bool sm)∧∃ k,w' = W.drewN k) fun e w' h=>⟨by rw [hsm,eqV_comm];exact h.1,h.2⟩)
  have hsm2:=Lib.hid hsm.symm
  have hbo:=Lib.hid (fun (W:World) (hB:Below w.heap.size w W)=>And.intro (hb.below hB) (ha.below hB))
  have hkr:=Lib.hid (show b.kind < 256∧a.kind < 256 from ⟨hb.kind,ha.kind⟩)
  have hti:=Lib.hid (And.intro hlb hla)
  have hw3:=Lib.hid (fun (W:World) (hB:Below w.heap.size w W)=>P4.refWithin_any W sb.pA sa.pA sb.pn sb.pc sa.pn sa.pc b.path a.path (its4 (hb.below hB).path) (its4 (ha.below hB).path) (Nat.le_trans hb.pnc hb.pcm) (Nat.le_trans ha.pnc ha.pcm))
  have hw4:=Lib.hid (fun (W:World) (hB:Below w.heap.size w W)=>P4.refWithin_any W sb.pA sa.tA sb.pn sb.pc sa.tn sa.tc b.path a.to_ (its4 (hb.below hB).path) (its4 (ha.below hB).to_) (Nat.le_trans hb.pnc hb.pcm) (Nat.le_trans ha.tnc ha.tcm))
  have HV:=Lib.hid (And.intro hkb hka)
  have hpa:=ha.path.1
  have hpb:=hb.path.1
  have hnq:=Lib.hid (show sb.pn < sa.pn→P4.eqV b.path a.path = false from fun h=>eqV_len (by omega))
  have hlen:=Lib.hid (show ¬ sb.pn < sa.pn→P4.eqV b.path a.path = true∨P4.withinV b.path a.path = false from fun h=>within_len (by omega))
  have hq0:=And.intro (And.intro (show (nodeD a a.path).length≤901 by have:=nodeD_len a a.path;have:=hla.1;have:=hla.2;omega) (nodeD_ok hla.slen (op_ok ha) (op_ok ha).pfit).2) (And.intro (show (nodeD a b.path).length≤901 by have:=nodeD_len a b.path;have:=hla.1;have:=hla.2;have:=hlb.1;omega) (nodeD_ok hla.slen (op_ok ha) (op_ok hb).pfit).2)
  obtain ⟨q1,hE1⟩:∃ Q9,Q9 = nodeD a a.path:=⟨_,rfl⟩
  obtain ⟨q2,hE2⟩:∃ Q9,Q9 = nodeD a b.path:=⟨_,rfl⟩
  obtain ⟨q3,hE3⟩:∃ Q9,Q9 = nodeD (delV q1) q2:=⟨_,rfl⟩
  have HE:=Lib.hid (show [delV (nodeD a a.path),delV (nodeD (delV (nodeD a a.path)) (nodeD a b.path))] = [delV q1,delV q3] by rw [hE3,hE2,hE1])
  have HQ3:=Lib.hid hE3
  rw [← hE1,← hE2] at hq0
  have hq:=Lib.hid hq0
  have hshift:=Lib.hid (fun (W:World) (hB:Below w.heap.size w W)=>row9_any W b a sb sa prior (hb.below hB) (ha.below hB) hlb.slen hla.slen)
  have hnodeA:=Lib.hid (fun (W:World) (hB:Below w.heap.size w W)=>(rNode_any W a sa sa.pA sa.pn sa.pc a.path (ha.below hB) hla.slen (ha.below hB).path ha.pnc ha.pcm ha.pnil (by have:=ha.path.1;have:=hla.1;omega)).mono fun e w' h=>nodeS h)
  have hnodeB:=Lib.hid (fun (W:World) (hB:Below w.heap.size w W)=>(rNode_any W a sa sb.pA sb.pn sb.pc b.path (ha.below hB) hla.slen (hb.below hB).path hb.pnc hb.pcm hb.pnil (by have:=hb.path.1;have:=hlb.1;omega)).mono fun e w' h=>nodeS h)
  rw [← hE1] at hnodeA
  rw [← hE2] at hnodeB
  clear hE1 hE2 hE3 hq0 hpa hpb
  clear hb ha z1 z2 z4 z5 hlb hla hsm
  unfold opCells at hW2 hshift hnodeA hnodeB
  unfold opCells
  have ea2:((a.kind:Int) == 2) = false:=by simp;omega
  have ea3:((a.kind:Int) == 3) = true:=by simp;omega
  have eb2:((b.kind:Int) == 2) = true:=by simp;omega
  have eb3:((b.kind:Int) == 3) = false:=by simp;omega
  have ekk:((a.kind:Int) == (b.kind:Int)) = false:=by simp;omega
  try clear hka
  try clear hkb
  go_enter Try.func171,Try.ntmps171
  go_upto_region 1 with fail
  rw [← hW2]
  clear hW2
  obtain ⟨r1,r2⟩:=hrow.out W2 (Below.refl _ _)
  obtain ⟨o0,o1,o2,o3,o4,o5,o6,o7,o8,o9,o10⟩:=op_cells r1
  obtain ⟨a0,a1,a2,a3,a4,a5,a6,a7,a8,a9,a10⟩:=op_cells r2
  clear r1 r2
  by_cases hlt:sb.pn < sa.pn
  · have hlI:(sb.pn:Int) < (sa.pn:Int):=by omega
    have HS:=Lib.hid (hnq.out hlt)
    clear hlt
    cases h_w3:P4.withinV b.path a.path with
    | true =>
      rw [h_w3] at hw3
      have H_w3:=Lib.hid h_w3
      clear h_w3
      cases h_w4:P4.withinV b.path a.to_ with
      | true =>
        rw [h_w4] at hw4
        have H_w4:=Lib.hid h_w4
        clear h_w4
        have hval:=Lib.hid (show becomesV b a prior = [shiftedV b a prior] from val_k23b HV.out.1 HV.out.2 (.inr (.inr H_w4.out)))
        go_wp2_with (first | (go_at_call 191;(refine (one_any w8 _ s8 H8.out).mono ?_;rintro e w9 ⟨v9,rfl,h9⟩;obtain ⟨A9,n9,c9,rfl⟩:=rowA_slice h9;have H9:=Lib.hid (h9.from_ V8.out);clear h9)) | (go_at_call 196;(refine (hshift.out _ (by first | exact z4'.out | exact draws z4'.out _)).mono ?_;rintro e w8 ⟨s8,rfl,h8,hb8⟩;have H8:=Lib.hid h8;have V8:=Lib.hid (show Below w.heap.size w w8 by first | exact Below.trans z4'.out (hb8.mono (Below.size z4'.out)) | exact Below.trans (draws z4'.out _) (hb8.mono (Below.size (draws z4'.out _))));clear h8 hb8 o0 o1 o2 o3 o4 o5 o6 o7 o8 o9 o10 a0 a1 a2 a3 a4 a5 a6 a7 a8 a9 a10;unfold opCells)) | (go_at_call_of 162 sa.tA;(refine (hw4.out _ (by first | exact z4'.out | exact draws z4'.out _)).mono ?_;rintro e wy ⟨rfl,kw4,rfl⟩)) | (go_at_call_of 162 sa.pA;(refine (hw3.out _ (by first | exact z4'.out | exact draws z4'.out _)).mono ?_;rintro e wx ⟨rfl,kw3,rfl⟩)))
        go_ret2
        rw [hval.out]
        exact ⟨_,rfl,H9.out⟩
      | false =>
        rw [h_w4] at hw4
        have H_w4:=Lib.hid h_w4
        clear h_w4
        have hval:=Lib.hid (show becomesV b a prior = [delV q1,delV q3] from (val_k23a HV.out.1 HV.out.2 HS.out H_w3.out H_w4.out).trans HE.out)
        go_wp2_with (first | (go_at_call_of 192 A8;(refine (drop_any w9 A8 n8 c8 q3 (H8.out.1.below F9.out) H8.out.2.1 H8.out.2.2.1 H8.out.2.2.2.1 (by have h6:=H8.out.2.2.2.2;have h7:=hq3.out.1;have h8:=hq.out.2.1;omega) hq3.out.2).mono ?_;rintro e wt ⟨st,rfl,h8,hb8⟩;have HT:=Lib.hid h8;have FT:=Lib.hid hb8;have VT:=Lib.hid (V9.out.trans (hb8.mono V9.out.size));clear h8 hb8;unfold opCells;dsimp only [delV])) | (go_at_call_of 192 A5;(refine (drop_any w8 A5 n5 c5 q1 (((H5.out.1.below F6.out).below F7.out).below F8.out) H5.out.2.1 H5.out.2.2.1 H5.out.2.2.2.1 (by have h6:=H5.out.2.2.2.2;have h7:=hq.out.1.1;omega) hq.out.1.2).mono ?_;rintro e w9 ⟨s9,rfl,h8,hb8⟩;have H9:=Lib.hid h8;have F9:=Lib.hid hb8;have V9:=Lib.hid (V8.out.trans (hb8.mono V8.out.size));clear h8 hb8;unfold opCells;dsimp only [delV])) | (go_at_call_of 190 A6;(refine ((rNode_any w7 (delV q1) s7 A6 n6 c6 q2 H7.out ⟨by have h6:=hq.out.1.1;show q1.length≤1000;omega,Nat.zero_le _⟩ (H6.out.1.below F7.out) H6.out.2.1 H6.out.2.2.1 H6.out.2.2.2.1 (by have h6:=H6.out.2.2.2.2;have h7:=hq.out.2.1;omega)).mono fun e w' h=>nodeS h).mono ?_;rintro e w8 ⟨A8,n8,c8,bb8,rfl,h8,hb8⟩;have H8:=Lib.hid (own_facts h8);have hq3:=Lib.hid (nodeD_ok (a:=delV q1) ⟨by have h6:=hq.out.1.1;show q1.length≤1000;omega,Nat.zero_le _⟩ (op_ok H7.out) hq.out.2.2);rw [← HQ3.out] at H8 hq3;have F8:=Lib.hid hb8;have V8:=Lib.hid (V7.out.trans (hb8.mono V7.out.size));clear h8 hb8)) | (go_at_call_of 192 A5;(refine (drop_any w6 A5 n5 c5 q1 (H5.out.1.below F6.out) H5.out.2.1 H5.out.2.2.1 H5.out.2.2.2.1 (by have h6:=H5.out.2.2.2.2;have h7:=hq.out.1.1;omega) hq.out.1.2).mono ?_;rintro e w7 ⟨s7,rfl,h8,hb8⟩;have H7:=Lib.hid h8;have F7:=Lib.hid hb8;have V7:=Lib.hid (V6.out.trans (hb8.mono V6.out.size));clear h8 hb8;unfold opCells;dsimp only [delV])) | (go_at_call_of 190 sb.pA;(refine (hnodeB.out w5 V5.out).mono ?_;rintro e w6 ⟨A6,n6,c6,bb6,rfl,h6,hb6⟩;have H6:=Lib.hid (own_facts h6);have F6:=Lib.hid hb6;have V6:=Lib.hid (V5.out.trans (hb6.mono V5.out.size));clear h6 hb6 o0 o1 o2 o3 o4 o5 o6 o7 o8 o9 o10 a0 a1 a2 a3 a4 a5 a6 a7 a8 a9 a10)) | (go_at_call_of 190 sa.pA;(refine (hnodeA.out _ (by first | exact z4'.out | exact draws z4'.out _)).mono ?_;rintro e w5 ⟨A5,n5,c5,bb5,rfl,h5,hb5⟩;have H5:=Lib.hid (own_facts h5);have V5:=Lib.hid (show Below w.heap.size w w5 by first | exact Below.trans z4'.out (hb5.mono (Below.size z4'.out)) | exact Below.trans (draws z4'.out _) (hb5.mono (Below.size (draws z4'.out _))));have E5:=Lib.hid (show Below W2.heap.size W2 w5 by first | exact hb5 | exact Below.trans (draws (Below.refl W2.heap.size W2) _) hb5);clear h5 hb5 o0 o1 o2 o3 o4 o5 o6 o7 o8 o9 o10 a0 a1 a2 a3 a4 a5 a6 a7 a8 a9 a10;obtain ⟨r1,r2⟩:=hrow.out _ E5.out;obtain ⟨o0,o1,o2,o3,o4,o5,o6,o7,o8,o9,o10⟩:=op_cells r1;obtain ⟨a0,a1,a2,a3,a4,a5,a6,a7,a8,a9,a10⟩:=op_cells r2;clear r1 r2)) | (go_at_call_of 162 sa.tA;(refine (hw4.out _ (by first | exact z4'.out | exact draws z4'.out _)).mono ?_;rintro e wy ⟨rfl,kw4,rfl⟩)) | (go_at_call_of 162 sa.pA;(refine (hw3.out _ (by first | exact z4'.out | exact draws z4'.out _)).mono ?_;rintro e wx ⟨rfl,kw3,rfl⟩)))
        go_ret2
        rw [hval.out]
        exact ⟨_,rfl,RowA.two VT.out (H9.out.below FT.out) HT.out⟩
    | false =>
      rw [h_w3] at hw3
      have H_w3:=Lib.hid h_w3
      clear h_w3
      have hval:=Lib.hid (show becomesV b a prior = [shiftedV b a prior] from val_k23b HV.out.1 HV.out.2 (.inr (.inl H_w3.out)))
      go_wp2_with (first | (go_at_call 191;(refine (one_any w8 _ s8 H8.out).mono ?_;rintro e w9 ⟨v9,rfl,h9⟩;obtain ⟨A9,n9,c9,rfl⟩:=rowA_slice h9;have H9:=Lib.hid (h9.from_ V8.out);clear h9)) | (go_at_call 196;(refine (hshift.out _ (by first | exact z4'.out | exact draws z4'.out _)).mono ?_;rintro e w8 ⟨s8,rfl,h8,hb8⟩;have H8:=Lib.hid h8;have V8:=Lib.hid (show Below w.heap.size w w8 by first | exact Below.trans z4'.out (hb8.mono (Below.size z4'.out)) | exact Below.trans (draws z4'.out _) (hb8.mono (Below.size (draws z4'.out _))));clear h8 hb8 o0 o1 o2 o3 o4 o5 o6 o7 o8 o9 o10 a0 a1 a2 a3 a4 a5 a6 a7 a8 a9 a10;unfold opCells)) | (go_at_call_of 162 sa.pA;(refine (hw3.out _ (by first | exact z4'.out | exact draws z4'.out _)).mono ?_;rintro e wx ⟨rfl,kw3,rfl⟩)))
      go_ret2
      rw [hval.out]
      exact ⟨_,rfl,H9.out⟩
  · have hlI:¬ (sb.pn:Int) < (sa.pn:Int):=by omega
    have HS:=Lib.hid (hlen.out hlt)
    clear hlt
    have hval:=Lib.hid (show becomesV b a prior = [shiftedV b a prior] from val_k23b HV.out.1 HV.out.2 (HS.out.imp id .inl))
    go_wp2_with (first | (go_at_call 191;(refine (one_any w8 _ s8 H8.out).mono ?_;rintro e w9 ⟨v9,rfl,h9⟩;obtain ⟨A9,n9,c9,rfl⟩:=rowA_slice h9;have H9:=Lib.hid (h9.from_ V8.out);clear h9)) | (go_at_call 196;(refine (hshift.out _ (by first | exact z4'.out | exact draws z4'.out _)).mono ?_;rintro e w8 ⟨s8,rfl,h8,hb8⟩;have H8:=Lib.hid h8;have V8:=Lib.hid (show Below w.heap.size w w8 by first | exact Below.trans z4'.out (hb8.mono (Below.size z4'.out)) | exact Below.trans (draws z4'.out _) (hb8.mono (Below.size (draws z4'.out _))));clear h8 hb8 o0 o1 o2 o3 o4 o5 o6 o7 o8 o9 o10 a0 a1 a2 a3 a4 a5 a6 a7 a8 a9 a10;unfold opCells)))
    go_ret2
    rw [hval.out]
    exact ⟨_,rfl,H9.out⟩
end Go.Proofs.Ytidimannfemnmaa.Sqr
namespace Go.Proofs.Ytidimannfemnmaa.Sqr
open Go.RowKit Top Shf Sim
set_option maxRecDepth 20000


set_option maxHeartbeats 32000000 in
theorem rbehind_k33 (w:World) (b a:Ov) (sb sa:OS) (prior:Bool) (hb:OpIn w b sb) (ha:OpIn w a sa) (hlb:Tiny b) (hla:Tiny a) (hkb:b.kind = 3) (hka:a.kind = 3) :
    Calls Try.prog 171 #[.agg (opCells b sb),.agg (opCells a sa),.bool prior] w fun e w'=>∃ v,e = .returned (.tuple #[v,.int .i64 0])∧RowA w (becomesV b a prior) v w':=by
  obtain ⟨z1,z2,z4,z5⟩:=two_news w (.cells (opCells b sb) 52) (.cells (opCells a sa) 52)
  obtain ⟨W2,hW2⟩:∃ Q9,Q9 = ((w.alloc (.cells (opCells b sb) 52)).alloc (.cells (opCells a sa) 52)):=⟨_,rfl⟩
  rw [← hW2] at z1 z2 z4 z5
  have z1':=Lib.hid z1
  have z2':=Lib.hid z2
  have z4':=Lib.hid z4
  have z5':=Lib.hid z5
  have hrow:=Lib.hid (fun (W:World) (hB:Below W2.heap.size W2 W)=>And.intro ((hB.block w.heap.size (by omega)).trans z1) ((hB.block (w.heap.size + 1) (by omega)).trans z2))
  obtain ⟨sm,hsm⟩:∃ Q9,Q9 = P4.eqV b.path a.path:=⟨_,rfl⟩
  have hs:=Lib.hid (fun (W:World) (hB:Below w.heap.size w W)=>(rsame_its W sa.pA sb.pA sa.pn sa.pc sb.pn sb.pc a.path b.path (ha.below hB).path (hb.below hB).path (Nat.le_trans ha.pnc ha.pcm) (Nat.le_trans hb.pnc hb.pcm)).mono (R':=fun e w'=>e = .returned (.bool sm)∧∃ k,w' = W.drewN k) fun e w' h=>⟨by rw [hsm,eqV_comm];exact h.1,h.2⟩)
  have hsm2:=Lib.hid hsm.symm
  have hbo:=Lib.hid (fun (W:World) (hB:Below w.heap.size w W)=>And.intro (hb.below hB) (ha.below hB))
  have hkr:=Lib.hid (show b.kind < 256∧a.kind < 256 from ⟨hb.kind,ha.kind⟩)
  have hti:=Lib.hid (And.intro hlb hla)
  have HV:=And.intro hkb hka
  have htwo:=Lib.hid (fun (W:World) (hB:Below w.heap.size w W)=>twoMoves_any W b a sb sa prior (hb.below hB) (ha.below hB) hlb hla HV.1 HV.2)
  clear hb ha z1 z2 z4 z5 hlb hla hsm
  unfold opCells at hW2 htwo
  unfold opCells
  have ea2:((a.kind:Int) == 2) = false:=by simp;omega
  have ea3:((a.kind:Int) == 3) = true:=by simp;omega
  have eb2:((b.kind:Int) == 2) = false:=by simp;omega
  have eb3:((b.kind:Int) == 3) = true:=by simp;omega
  have ekk:((a.kind:Int) == (b.kind:Int)) = true:=by simp;omega
  clear HV
  try clear hka
  try clear hkb
  go_enter Try.func171,Try.ntmps171
  go_upto_region 1 with fail
  rw [← hW2]
  clear hW2
  obtain ⟨r1,r2⟩:=hrow.out W2 (Below.refl _ _)
  obtain ⟨o0,o1,o2,o3,o4,o5,o6,o7,o8,o9,o10⟩:=op_cells r1
  obtain ⟨a0,a1,a2,a3,a4,a5,a6,a7,a8,a9,a10⟩:=op_cells r2
  clear r1 r2
  have hval:=Lib.hid (show becomesV b a prior = becomesV b a prior from rfl)
  go_wp2_with (first | (go_at_call 193;(refine (htwo.out _ (by first | exact z4'.out | exact draws z4'.out _)).mono ?_;rintro e w9 ⟨v9,rfl,h9⟩;have H9:=Lib.hid (h9.from_ (by first | exact z4'.out | exact draws z4'.out _));clear h9)) | (go_at_call 108;(refine (hs.out _ (by first | exact z4'.out | exact draws z4'.out _)).mono ?_;rintro e ws ⟨rfl,ks,rfl⟩)))
  go_ret2
  exact ⟨_,rfl,H9.out⟩
end Go.Proofs.Ytidimannfemnmaa.Sqr
namespace Go.Proofs.Ytidimannfemnmaa.Sqr
open Go.RowKit Top Shf Sim
set_option maxRecDepth 20000


set_option maxHeartbeats 32000000 in
theorem rbehind_k44 (w:World) (b a:Ov) (sb sa:OS) (prior:Bool) (hb:OpIn w b sb) (ha:OpIn w a sa) (hlb:Tiny b) (hla:Tiny a) (hkb:b.kind = 4) (hka:a.kind = 4) :
    Calls Try.prog 171 #[.agg (opCells b sb),.agg (opCells a sa),.bool prior] w fun e w'=>∃ v,e = .returned (.tuple #[v,.int .i64 0])∧RowA w (becomesV b a prior) v w':=by
  obtain ⟨z1,z2,z4,z5⟩:=two_news w (.cells (opCells b sb) 52) (.cells (opCells a sa) 52)
  obtain ⟨W2,hW2⟩:∃ Q9,Q9 = ((w.alloc (.cells (opCells b sb) 52)).alloc (.cells (opCells a sa) 52)):=⟨_,rfl⟩
  rw [← hW2] at z1 z2 z4 z5
  have z1':=Lib.hid z1
  have z2':=Lib.hid z2
  have z4':=Lib.hid z4
  have z5':=Lib.hid z5
  have hrow:=Lib.hid (fun (W:World) (hB:Below W2.heap.size W2 W)=>And.intro ((hB.block w.heap.size (by omega)).trans z1) ((hB.block (w.heap.size + 1) (by omega)).trans z2))
  obtain ⟨sm,hsm⟩:∃ Q9,Q9 = P4.eqV b.path a.path:=⟨_,rfl⟩
  have hs:=Lib.hid (fun (W:World) (hB:Below w.heap.size w W)=>(rsame_its W sa.pA sb.pA sa.pn sa.pc sb.pn sb.pc a.path b.path (ha.below hB).path (hb.below hB).path (Nat.le_trans ha.pnc ha.pcm) (Nat.le_trans hb.pnc hb.pcm)).mono (R':=fun e w'=>e = .returned (.bool sm)∧∃ k,w' = W.drewN k) fun e w' h=>⟨by rw [hsm,eqV_comm];exact h.1,h.2⟩)
  have hsm2:=Lib.hid hsm.symm
  have hbo:=Lib.hid (fun (W:World) (hB:Below w.heap.size w W)=>And.intro (hb.below hB) (ha.below hB))
  have hkr:=Lib.hid (show b.kind < 256∧a.kind < 256 from ⟨hb.kind,ha.kind⟩)
  have hti:=Lib.hid (And.intro hlb hla)
  have HV:=Lib.hid (And.intro hkb hka)
  have hshift:=Lib.hid (fun (W:World) (hB:Below w.heap.size w W)=>row9_any W b a sb sa prior (hb.below hB) (ha.below hB) hlb.slen hla.slen)
  clear hb ha z1 z2 z4 z5 hlb hla hsm
  unfold opCells at hW2 hshift
  unfold opCells
  have ea2:((a.kind:Int) == 2) = false:=by simp;omega
  have ea3:((a.kind:Int) == 3) = false:=by simp;omega
  have ekk:((a.kind:Int) == (b.kind:Int)) = true:=by simp;omega
  have eb2:((b.kind:Int) == 2) = false:=by simp;omega
  have eb3:((b.kind:Int) == 3) = false:=by simp;omega
  have eb4:((b.kind:Int) == 4) = true:=by simp;omega
  have eb5:((b.kind:Int) == 5) = false:=by simp;omega
  have eb6:((b.kind:Int) == 6) = false:=by simp;omega
  try clear hka
  try clear hkb
  go_enter Try.func171,Try.ntmps171
  go_upto_region 1 with fail
  rw [← hW2]
  clear hW2
  obtain ⟨r1,r2⟩:=hrow.out W2 (Below.refl _ _)
  obtain ⟨o0,o1,o2,o3,o4,o5,o6,o7,o8,o9,o10⟩:=op_cells r1
  obtain ⟨a0,a1,a2,a3,a4,a5,a6,a7,a8,a9,a10⟩:=op_cells r2
  clear r1 r2
  cases sm with
  | true =>
    by_cases hke:b.key = a.key
    · have HK:=Lib.hid hke
      have ke:(a.key == b.key) = true:=by simp [hke]
      clear hke
      cases prior with
      | true =>
        have hval:=Lib.hid (show becomesV b a true = [b] from ((val_k44a HV.out.1 HV.out.2 hsm2.out HK.out).trans (if_pos rfl)).trans (by rw [shifted_still (by have h7:=HV.out;omega) (by have h7:=HV.out;omega) (by have h7:=HV.out;omega) (by have h7:=HV.out;omega) (by have h7:=HV.out;omega)]))
        go_wp2_with (first | (go_at_call 194;(refine (keep_true _ A9 n9 c9).mono ?_;rintro e wk ⟨rfl,rfl⟩)) | (go_at_call 191;(refine (one_any _ b sb (hbo.out _ (by first | exact z4'.out | exact draws z4'.out _)).1).mono ?_;rintro e w9 ⟨v9,rfl,h9⟩;obtain ⟨A9,n9,c9,rfl⟩:=rowA_slice h9;have H9:=Lib.hid (h9.from_ (by first | exact z4'.out | exact draws z4'.out _));clear h9)) | (go_at_call 108;(refine (hs.out _ (by first | exact z4'.out | exact draws z4'.out _)).mono ?_;rintro e ws ⟨rfl,ks,rfl⟩)))
        go_ret2
        rw [hval.out]
        exact ⟨_,rfl,H9.out⟩
      | false =>
        have hval:=Lib.hid (show becomesV b a false = [] from (val_k44a HV.out.1 HV.out.2 hsm2.out HK.out).trans (if_neg (by decide)))
        go_wp2_with (first | (go_at_call 194;(refine (keep_false _ A9 n9 c9).mono ?_;rintro e wk ⟨rfl,rfl⟩)) | (go_at_call 191;(refine (one_any _ b sb (hbo.out _ (by first | exact z4'.out | exact draws z4'.out _)).1).mono ?_;rintro e w9 ⟨v9,rfl,h9⟩;obtain ⟨A9,n9,c9,rfl⟩:=rowA_slice h9;have H9:=Lib.hid (h9.from_ (by first | exact z4'.out | exact draws z4'.out _));clear h9)) | (go_at_call 108;(refine (hs.out _ (by first | exact z4'.out | exact draws z4'.out _)).mono ?_;rintro e ws ⟨rfl,ks,rfl⟩)))
        go_ret2
        rw [hval.out]
        exact ⟨_,rfl,RowA.none_ H9.out.bel⟩
    · have HK:=Lib.hid hke
      have ke:(a.key == b.key) = false:=by simp;exact fun e=>hke e.symm
      clear hke
      have hval:=Lib.hid (show becomesV b a prior = [shiftedV b a prior] from val_k44b HV.out.1 HV.out.2 (.inr HK.out))
      go_wp2_with (first | (go_at_call 191;(refine (one_any w8 _ s8 H8.out).mono ?_;rintro e w9 ⟨v9,rfl,h9⟩;obtain ⟨A9,n9,c9,rfl⟩:=rowA_slice h9;have H9:=Lib.hid (h9.from_ V8.out);clear h9)) | (go_at_call 196;(refine (hshift.out _ (by first | exact z4'.out | exact draws z4'.out _)).mono ?_;rintro e w8 ⟨s8,rfl,h8,hb8⟩;have H8:=Lib.hid h8;have V8:=Lib.hid (show Below w.heap.size w w8 by first | exact Below.trans z4'.out (hb8.mono (Below.size z4'.out)) | exact Below.trans (draws z4'.out _) (hb8.mono (Below.size (draws z4'.out _))));clear h8 hb8 o0 o1 o2 o3 o4 o5 o6 o7 o8 o9 o10 a0 a1 a2 a3 a4 a5 a6 a7 a8 a9 a10;unfold opCells)) | (go_at_call 108;(refine (hs.out _ (by first | exact z4'.out | exact draws z4'.out _)).mono ?_;rintro e ws ⟨rfl,ks,rfl⟩)))
      go_ret2
      rw [hval.out]
      exact ⟨_,rfl,H9.out⟩
  | false =>
    have hval:=Lib.hid (show becomesV b a prior = [shiftedV b a prior] from val_k44b HV.out.1 HV.out.2 (.inl hsm2.out))
    go_wp2_with (first | (go_at_call 191;(refine (one_any w8 _ s8 H8.out).mono ?_;rintro e w9 ⟨v9,rfl,h9⟩;obtain ⟨A9,n9,c9,rfl⟩:=rowA_slice h9;have H9:=Lib.hid (h9.from_ V8.out);clear h9)) | (go_at_call 196;(refine (hshift.out _ (by first | exact z4'.out | exact draws z4'.out _)).mono ?_;rintro e w8 ⟨s8,rfl,h8,hb8⟩;have H8:=Lib.hid h8;have V8:=Lib.hid (show Below w.heap.size w w8 by first | exact Below.trans z4'.out (hb8.mono (Below.size z4'.out)) | exact Below.trans (draws z4'.out _) (hb8.mono (Below.size (draws z4'.out _))));clear h8 hb8 o0 o1 o2 o3 o4 o5 o6 o7 o8 o9 o10 a0 a1 a2 a3 a4 a5 a6 a7 a8 a9 a10;unfold opCells)) | (go_at_call 108;(refine (hs.out _ (by first | exact z4'.out | exact draws z4'.out _)).mono ?_;rintro e ws ⟨rfl,ks,rfl⟩)))
    go_ret2
    rw [hval.out]
    exact ⟨_,rfl,H9.out⟩
end Go.Proofs.Ytidimannfemnmaa.Sqr
namespace Go.Proofs.Ytidimannfemnmaa.Sqr
open Go.RowKit Top Shf Sim
set_option maxRecDepth 20000


set_option maxHeartbeats 32000000 in
theorem rbehind_k55 (w:World) (b a:Ov) (sb sa:OS) (prior:Bool) (hb:OpIn w b sb) (ha:OpIn w a sa) (hlb:Tiny b) (hla:Tiny a) (hkb:b.kind = 5) (hka:a.kind = 5) :
    Calls Try.prog 171 #[.agg (opCells b sb),.agg (opCells a sa),.bool prior] w fun e w'=>∃ v,e = .returned (.tuple #[v,.int .i64 0])∧RowA w (becomesV b a prior) v w':=by
  obtain ⟨z1,z2,z4,z5⟩:=two_news w (.cells (opCells b sb) 52) (.cells (opCells a sa) 52)
  obtain ⟨W2,hW2⟩:∃ Q9,Q9 = ((w.alloc (.cells (opCells b sb) 52)).alloc (.cells (opCells a sa) 52)):=⟨_,rfl⟩
  rw [← hW2] at z1 z2 z4 z5
  have z1':=Lib.hid z1
  have z2':=Lib.hid z2
  have z4':=Lib.hid z4
  have z5':=Lib.hid z5
  have hrow:=Lib.hid (fun (W:World) (hB:Below W2.heap.size W2 W)=>And.intro ((hB.block w.heap.size (by omega)).trans z1) ((hB.block (w.heap.size + 1) (by omega)).trans z2))
  obtain ⟨sm,hsm⟩:∃ Q9,Q9 = P4.eqV b.path a.path:=⟨_,rfl⟩
  have hs:=Lib.hid (fun (W:World) (hB:Below w.heap.size w W)=>(rsame_its W sa.pA sb.pA sa.pn sa.pc sb.pn sb.pc a.path b.path (ha.below hB).path (hb.below hB).path (Nat.le_trans ha.pnc ha.pcm) (Nat.le_trans hb.pnc hb.pcm)).mono (R':=fun e w'=>e = .returned (.bool sm)∧∃ k,w' = W.drewN k) fun e w' h=>⟨by rw [hsm,eqV_comm];exact h.1,h.2⟩)
  have hsm2:=Lib.hid hsm.symm
  have hbo:=Lib.hid (fun (W:World) (hB:Below w.heap.size w W)=>And.intro (hb.below hB) (ha.below hB))
  have hkr:=Lib.hid (show b.kind < 256∧a.kind < 256 from ⟨hb.kind,ha.kind⟩)
  have hti:=Lib.hid (And.intro hlb hla)
  have HV:=Lib.hid (And.intro hkb hka)
  have hshift:=Lib.hid (fun (W:World) (hB:Below w.heap.size w W)=>row9_any W b a sb sa prior (hb.below hB) (ha.below hB) hlb.slen hla.slen)
  clear hb ha z1 z2 z4 z5 hlb hla hsm
  unfold opCells at hW2 hshift
  unfold opCells
  have ea2:((a.kind:Int) == 2) = false:=by simp;omega
  have ea3:((a.kind:Int) == 3) = false:=by simp;omega
  have ekk:((a.kind:Int) == (b.kind:Int)) = true:=by simp;omega
  have eb2:((b.kind:Int) == 2) = false:=by simp;omega
  have eb3:((b.kind:Int) == 3) = false:=by simp;omega
  have eb4:((b.kind:Int) == 4) = false:=by simp;omega
  have eb5:((b.kind:Int) == 5) = true:=by simp;omega
  have eb6:((b.kind:Int) == 6) = false:=by simp;omega
  try clear hka
  try clear hkb
  go_enter Try.func171,Try.ntmps171
  go_upto_region 1 with fail
  rw [← hW2]
  clear hW2
  obtain ⟨r1,r2⟩:=hrow.out W2 (Below.refl _ _)
  obtain ⟨o0,o1,o2,o3,o4,o5,o6,o7,o8,o9,o10⟩:=op_cells r1
  obtain ⟨a0,a1,a2,a3,a4,a5,a6,a7,a8,a9,a10⟩:=op_cells r2
  clear r1 r2
  cases sm with
  | true =>
    cases prior with
    | true =>
      have hval:=Lib.hid (show becomesV b a true = [b] from ((val_k55a HV.out.1 HV.out.2 hsm2.out).trans (if_pos rfl)).trans (by rw [shifted_still (by have h7:=HV.out;omega) (by have h7:=HV.out;omega) (by have h7:=HV.out;omega) (by have h7:=HV.out;omega) (by have h7:=HV.out;omega)]))
      go_wp2_with (first | (go_at_call 194;(refine (keep_true _ A9 n9 c9).mono ?_;rintro e wk ⟨rfl,rfl⟩)) | (go_at_call 191;(refine (one_any _ b sb (hbo.out _ (by first | exact z4'.out | exact draws z4'.out _)).1).mono ?_;rintro e w9 ⟨v9,rfl,h9⟩;obtain ⟨A9,n9,c9,rfl⟩:=rowA_slice h9;have H9:=Lib.hid (h9.from_ (by first | exact z4'.out | exact draws z4'.out _));clear h9)) | (go_at_call 108;(refine (hs.out _ (by first | exact z4'.out | exact draws z4'.out _)).mono ?_;rintro e ws ⟨rfl,ks,rfl⟩)))
      go_ret2
      rw [hval.out]
      exact ⟨_,rfl,H9.out⟩
    | false =>
      have hval:=Lib.hid (show becomesV b a false = [] from (val_k55a HV.out.1 HV.out.2 hsm2.out).trans (if_neg (by decide)))
      go_wp2_with (first | (go_at_call 194;(refine (keep_false _ A9 n9 c9).mono ?_;rintro e wk ⟨rfl,rfl⟩)) | (go_at_call 191;(refine (one_any _ b sb (hbo.out _ (by first | exact z4'.out | exact draws z4'.out _)).1).mono ?_;rintro e w9 ⟨v9,rfl,h9⟩;obtain ⟨A9,n9,c9,rfl⟩:=rowA_slice h9;have H9:=Lib.hid (h9.from_ (by first | exact z4'.out | exact draws z4'.out _));clear h9)) | (go_at_call 108;(refine (hs.out _ (by first | exact z4'.out | exact draws z4'.out _)).mono ?_;rintro e ws ⟨rfl,ks,rfl⟩)))
      go_ret2
      rw [hval.out]
      exact ⟨_,rfl,RowA.none_ H9.out.bel⟩
  | false =>
    have hval:=Lib.hid (show becomesV b a prior = [shiftedV b a prior] from val_k55b HV.out.1 HV.out.2 hsm2.out)
    go_wp2_with (first | (go_at_call 191;(refine (one_any w8 _ s8 H8.out).mono ?_;rintro e w9 ⟨v9,rfl,h9⟩;obtain ⟨A9,n9,c9,rfl⟩:=rowA_slice h9;have H9:=Lib.hid (h9.from_ V8.out);clear h9)) | (go_at_call 196;(refine (hshift.out _ (by first | exact z4'.out | exact draws z4'.out _)).mono ?_;rintro e w8 ⟨s8,rfl,h8,hb8⟩;have H8:=Lib.hid h8;have V8:=Lib.hid (show Below w.heap.size w w8 by first | exact Below.trans z4'.out (hb8.mono (Below.size z4'.out)) | exact Below.trans (draws z4'.out _) (hb8.mono (Below.size (draws z4'.out _))));clear h8 hb8 o0 o1 o2 o3 o4 o5 o6 o7 o8 o9 o10 a0 a1 a2 a3 a4 a5 a6 a7 a8 a9 a10;unfold opCells)) | (go_at_call 108;(refine (hs.out _ (by first | exact z4'.out | exact draws z4'.out _)).mono ?_;rintro e ws ⟨rfl,ks,rfl⟩)))
    go_ret2
    rw [hval.out]
    exact ⟨_,rfl,H9.out⟩
end Go.Proofs.Ytidimannfemnmaa.Sqr
