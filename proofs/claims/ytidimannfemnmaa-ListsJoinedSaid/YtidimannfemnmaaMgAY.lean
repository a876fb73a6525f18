/- MgAY: LstRepD LstRepE LstRep -/
import Derived.Test.YtidimannfemnmaaMgAS
import Derived.Lib.Overlaps
import Derived.Lib.AppendZerosOnto
set_option linter.all false
namespace Go.Proofs.Ytidimannfemnmaa.Lst
open Go.RowKit Top Sim
set_option maxRecDepth 20000

theorem cell_shape {w:World} {a:Addr} {v:Value} (h:w.cell? a = some v):∃ t k,w.shape? a.block = some (t,k)∧k ≠ 0:=by
  unfold World.cell? at h
  unfold World.shape?
  split at h
  · rename_i cs t fr e
    split at h
    · cases h
    · refine ⟨t,cs.size,rfl,fun e0=>?_⟩
      have:=(Array.getElem?_eq_some_iff.1 h).1
      omega
  · cases h
set_option maxHeartbeats 8000000 in
theorem rep_more (w:World) (base g n c i:Nat) (l:List (Ov × OS)) (hown:OwnO base w (.slice (some ⟨g,0,none⟩) n c) l) (hi:i + 1 < n) (ad:Addr) (m d:Nat) (hm2:2≤m) (hroom:n + m≤c + 1) (l2:List (Ov × OS)) (h2:OpsR w (some ad) m l2) (hap:ad.block ≠ g) :
    Calls Try.prog 197 #[.slice (some ⟨g,0,none⟩) n c,.int .i64 (i:Int),.int .i64 ((i:Int) + 1),.slice (some ad) m d] w (RepA base w g (l.take i ++ (l2 ++ l.drop (i + 1)))):=by
  obtain ⟨cur,hg,hl,hnc,hcm,hcl,hct,hbg,hgs⟩:=own_block hown
  have hcm2:c≤9223372036854775807:=by unfold maxLen at hcm;omega
  obtain ⟨k,hk⟩:∃ k,k = n - (i + 1):=⟨_,rfl⟩
  have c1:¬ c = i:=by omega
  have c2:¬ c = i + 1:=by omega
  have e0:(0:Int)≤(i:Int):=by omega
  have e1:(i:Int)≤(i:Int) + 1:=by omega
  have e2:(i:Int) + 1≤(c:Int):=by omega
  have e2b:(i:Int)≤(c:Int):=by omega
  have e2c:(i:Int) + 1≤(n:Int):=by omega
  have e2d:(n:Int)≤(c:Int):=by omega
  have e2e:(0:Int)≤(i:Int) + 1:=by omega
  have e3:((i:Int) == (i:Int) + 1) = false:=beq_eq_false_iff_ne.2 (by omega)
  have e4:((i:Int) + 1 == (n:Int)) = false:=beq_eq_false_iff_ne.2 (by omega)
  have e5:((i:Int) + 1).toNat = i + 1:=by omega
  have e6:n - (i + 1) = k:=hk.symm
  have w1:IntKind.i64.wrap ((i:Int) + (m:Int)) = (i:Int) + (m:Int):=IntWalk.i64_in _ (by omega)
  have w2:IntKind.i64.wrap ((i:Int) + (m:Int) + (k:Int)) = (i:Int) + (m:Int) + (k:Int):=IntWalk.i64_in _ (by omega)
  have g0:(0:Int)≤(i:Int) + (m:Int):=by omega
  have g0b:((i:Int) + (m:Int)).toNat = i + m:=by omega
  have g1:¬ (c:Int) < (i:Int) + (m:Int) + (k:Int):=by omega
  have g2:(0:Int)≤(i:Int) + (m:Int) + (k:Int):=by omega
  have g3:(i:Int) + (m:Int) + (k:Int)≤(c:Int):=by omega
  have g4:((i:Int) + (m:Int) + (k:Int)).toNat = i + m + k:=by omega
  have g5:(i:Int)≤(i:Int) + (m:Int) + (k:Int):=by omega
  have g5b:(i:Int) + (m:Int)≤(i:Int) + (m:Int) + (k:Int):=by omega
  have g6:¬ (i:Int) + (m:Int)≤(i:Int) + 1:=by omega
  have g7:¬ c = i + m:=by omega
  have g8:i + m + k - (i + m) = k:=by omega
  have g9:i + m + k - i = m + k:=by omega
  obtain ⟨X,hX⟩:∃ X,X = (l.drop (i + 1)).flatMap opL:=⟨_,rfl⟩
  have hXl:X.length = k * 11:=by rw [hX,chunk_len opL 11 opL_len,List.length_drop];omega
  have hX1:=Lib.hid (show ∀ v ∈ X,v.oneCell' = true from fun v hv=>by rw [hX] at hv;exact ops_one _ v hv)
  have hXc:∀ j,j < k * 11→cur[(i + 1) * 11 + j]? = X[j]?:=fun j hj=>by
    rw [hX,chunk_drop opL 11 opL_len,← hct,List.getElem?_drop,List.getElem?_take,if_pos (by omega)]
  have hXc':=Lib.hid (show ∀ j,j < X.length→cur[(i + 1) * 11 + j]? = X[j]? from fun j hj=>hXc j (by omega))
  have hXl':=Lib.hid hXl
  have hg':=Lib.hid hg
  obtain ⟨Y,hY⟩:∃ Y,Y = l2.flatMap opL:=⟨_,rfl⟩
  have hYl:Y.length = m * 11:=by rw [hY,chunk_len opL 11 opL_len,h2.1]
  have hY1:=Lib.hid (show ∀ v ∈ Y,v.oneCell' = true from fun v hv=>by rw [hY] at hv;exact ops_one _ v hv)
  have hYs:=Lib.hid (show ∀ j v,Y[j]? = some v→w.cell? (ad.add j) = some v by rw [hY];exact ops_cell h2)
  have hYl':=Lib.hid hYl
  have hfit:=Lib.hid (show (i + m) * 11 + X.length≤cur.length by omega)
  have hl1:(splice cur ((i + m) * 11) X).length = cur.length:=length_splice _ _ _ (by omega)
  have hfit2:=Lib.hid (show i * 11 + Y.length≤(splice cur ((i + m) * 11) X).length by omega)
  have hap':=Lib.hid hap
  have hfin:=Lib.hid (fun (w':World) (h:w'.heap[g]? = some (.cells (splice (splice cur ((i + m) * 11) X) (i * 11) Y).toArray 52 (0,0)))=>show OwnO base w' (.slice (some ⟨g,0,none⟩) (i + m + k) c) (l.take i ++ (l2 ++ l.drop (i + 1))) from
    own_of h (by rw [List.length_append,List.length_append,List.length_take,List.length_drop,h2.1];omega) (by omega) hcm (by
      rw [length_splice _ _ _ (by omega),hl1];exact hcl) (by
      rw [List.flatMap_append,List.flatMap_append,← hX,← hY,chunk_take opL 11 opL_len,← hct,List.take_take,Nat.min_eq_left (by omega)]
      refine List.ext_getElem? fun j=>?_
      rw [List.getElem?_take,splice_get _ _ _ (by omega),splice_get _ _ _ (by omega),List.getElem?_append,List.getElem?_append,List.length_take,Nat.min_eq_left (by omega),List.getElem?_take]
      by_cases j1:j < i * 11
      · rw [if_pos (by omega),if_neg (by omega),if_neg (by omega),if_pos j1,if_pos j1]
      · by_cases j2:j < (i + m) * 11
        · rw [if_pos (by omega),if_pos (by omega),if_neg j1,if_pos (by omega)]
        · by_cases j3:j < (i + m + k) * 11
          · rw [if_pos j3,if_neg (by omega),if_pos (by omega),if_neg j1,if_neg (by omega),hYl,show j - i * 11 - m * 11 = j - (i + m) * 11 by omega]
          · rw [if_neg j3,if_neg j1,if_neg (by omega)]
            exact (List.getElem?_eq_none (by omega)).symm) hbg)
  have hov:=fun (nq lb cb:Nat)=>show (callFunc 206 #[.slice (some ⟨g,(i + m) * 11,none⟩) lb cb,.slice (some ad) m d]).run Try.prog (w.drewN nq) = .ok (.value (.bool false)) (w.drewN nq) from by
    obtain ⟨x,hx⟩:∃ x,l2[0]? = some x:=⟨_,List.getElem?_eq_getElem (by rw [h2.1];omega)⟩
    obtain ⟨-,ad',e,hlt,hel⟩:=h2.2 0 x hx
    injection e with e
    subst e
    obtain ⟨tB,kB,hsb,hkB⟩:=cell_shape (w:=w.drewN nq) (a:=ad.add (0 * 11)) hel.1
    rw [add_off] at hsb
    rw [run_callFunc_extern Try.func206 (by kernel_rfl) (by kernel_rfl) (by kernel_rfl) (e:=Go.Extern.SlicesOverlaps.overlaps #[55,55] #[4]) (by kernel_rfl),
      Go.Lib.run_overlaps_apart (w.drewN nq) 55 4 52 Try.underlying55 11 Try.sizeOf52 ⟨g,(i + m) * 11,none⟩ ad lb cb m d (fun e=>hap e.symm) 52 tB cur.toArray.size kB (by show w.shape? g = _;unfold World.shape?;rw [hg]) hsb hkB (frozen_of_row w g _ _ _ hg) (frozen_of_row w g _ _ _ hg)]
    rfl
  clear hown hg hl hnc hcm hcl hct hi hbg hgs hk hX hXl hXc hY hYl hl1 h2 hap
  go_enter Try.func197,Try.ntmps197
  go_upto_region 9 with fail
  go_quiet (fail)
  rename_i nq
  go_wp2_with (simp only [hov])
  rename_i K0 hK0
  refine wp_region_any (by kernel_rfl) ?_
  rw [world_drew]
  refine wpAny_take (i:=0) (oi:={ dst:=some 121,op:=Go.Op.move (Go.Operand.tmp 12),type:=55,pos:="slices.go:308",after:=#[],guard:=none }) (v:=?_) rfl (by kernel_rfl) (by kernel_rfl) (by kernel_rfl) (fun _ _ _ h=>h) (Or.inl ⟨by rfl,?_⟩) ?_
  rotate_left 1
  · (intro w;go_simp;try with_reducible rfl)
  try simp only [Act.put,zA,zB,zC]
  refine wpAny_take (i:=1) (oi:={ dst:=some 122,op:=Go.Op.move (Go.Operand.tmp 1),type:=3,pos:="slices.go:308",after:=#[],guard:=none }) (v:=?_) rfl (by kernel_rfl) (by kernel_rfl) (by kernel_rfl) (fun _ _ _ h=>h) (Or.inl ⟨by rfl,?_⟩) ?_
  rotate_left 1
  · (intro w;go_simp;try with_reducible rfl)
  try simp only [Act.put,zA,zB,zC]
  refine wpAny_take (i:=2) (oi:={ dst:=some 123,op:=Go.Op.move (Go.Operand.tmp 3),type:=55,pos:="slices.go:308",after:=#[],guard:=none }) (v:=?_) rfl (by kernel_rfl) (by kernel_rfl) (by kernel_rfl) (fun _ _ _ h=>h) (Or.inl ⟨by rfl,?_⟩) ?_
  rotate_left 1
  · (intro w;go_simp;try with_reducible rfl)
  try simp only [Act.put,zA,zB,zC]
  refine wpAny_take (i:=3) (oi:={ dst:=some 124,op:=Go.Op.call { callee:=Go.Callee.builtin Go.Builtin.len,args:=#[Go.Operand.tmp 123],argTypes:=#[55] },type:=3,pos:="slices.go:308",after:=#[{ on:=2,ground:=Go.Ground.data }],guard:=none }) (v:=?_) rfl (by kernel_rfl) (by kernel_rfl) (by kernel_rfl) (fun _ _ _ h=>h) (Or.inl ⟨by rfl,?_⟩) ?_
  rotate_left 1
  · (intro w;go_simp;try with_reducible rfl)
  try simp only [Act.put,zA,zB,zC]
  refine wpAny_take (i:=4) (oi:={ dst:=some 125,op:=Go.Op.binOp Go.BinOp.add 3 (Go.Operand.tmp 122) (Go.Operand.tmp 124) 3,type:=3,pos:="slices.go:308",after:=#[{ on:=1,ground:=Go.Ground.data },{ on:=3,ground:=Go.Ground.data }],guard:=none }) (v:=?_) rfl (by kernel_rfl) (by kernel_rfl) (by kernel_rfl) (fun _ _ _ h=>h) (Or.inl ⟨by rfl,?_⟩) ?_
  rotate_left 1
  · (intro w;go_simp;try with_reducible rfl)
  try simp only [Act.put,zA,zB,zC]
  refine wpAny_take (i:=5) (oi:={ dst:=some 126,op:=Go.Op.slice 55 (Go.Operand.tmp 121) (some (Go.Operand.tmp 125)) none none,type:=55,pos:="slices.go:308",after:=#[{ on:=0,ground:=Go.Ground.data },{ on:=4,ground:=Go.Ground.data }],guard:=none }) (v:=?_) rfl (by kernel_rfl) (by kernel_rfl) (by kernel_rfl) (fun _ _ _ h=>h) (Or.inl ⟨by rfl,?_⟩) ?_
  rotate_left 1
  · (intro w;go_simp;try with_reducible rfl)
  try simp only [Act.put,zA,zB,zC]
  refine wpAny_take (i:=6) (oi:={ dst:=some 127,op:=Go.Op.move (Go.Operand.tmp 0),type:=55,pos:="slices.go:308",after:=#[],guard:=none }) (v:=?_) rfl (by kernel_rfl) (by kernel_rfl) (by kernel_rfl) (fun _ _ _ h=>h) (Or.inl ⟨by rfl,?_⟩) ?_
  rotate_left 1
  · (intro w;go_simp;try with_reducible rfl)
  try simp only [Act.put,zA,zB,zC]
  refine wpAny_take (i:=7) (oi:={ dst:=some 128,op:=Go.Op.move (Go.Operand.tmp 2),type:=3,pos:="slices.go:308",after:=#[],guard:=none }) (v:=?_) rfl (by kernel_rfl) (by kernel_rfl) (by kernel_rfl) (fun _ _ _ h=>h) (Or.inl ⟨by rfl,?_⟩) ?_
  rotate_left 1
  · (intro w;go_simp;try with_reducible rfl)
  try simp only [Act.put,zA,zB,zC]
  refine wpAny_take (i:=8) (oi:={ dst:=some 129,op:=Go.Op.slice 55 (Go.Operand.tmp 127) (some (Go.Operand.tmp 128)) none none,type:=55,pos:="slices.go:308",after:=#[{ on:=6,ground:=Go.Ground.data },{ on:=7,ground:=Go.Ground.data }],guard:=none }) (v:=?_) rfl (by kernel_rfl) (by kernel_rfl) (by kernel_rfl) (fun _ _ _ h=>h) (Or.inl ⟨by rfl,?_⟩) ?_
  rotate_left 1
  · (intro w;go_simp;try with_reducible rfl)
  try simp only [Act.put,zA,zB,zC]
  refine wpAny_ready (rs:=[9]) (by kernel_rfl) (by simp) ?_
  refine AllReady.cons (o:={ dst:=some 130,op:=Go.Op.call { callee:=Go.Callee.builtin Go.Builtin.copy,args:=#[Go.Operand.tmp 126,Go.Operand.tmp 129],argTypes:=#[55,55] },type:=3,pos:="slices.go:308",after:=#[{ on:=5,ground:=Go.Ground.data },{ on:=8,ground:=Go.Ground.data }],guard:=none }) rfl (fun K hK=>?_) AllReady.nil
  refine step_copy rfl (.tmp 126) (.tmp 129) rfl _ _ _ _ _ _ rfl rfl g ((i + m) * 11) cur hg'.out X (by rw [hXl'.out];simp) (fun _=>⟨rfl,_,rfl,row_src hg'.out _ hXc'.out⟩) hfit.out hX1.out ?_
  intro w6 hg6 hb6
  have G6:=Lib.hid hg6
  have B6:=Lib.hid (show w.grownBy w6 (some g) from ⟨hb6.os,hb6.tape,hb6.output,hb6.size,hb6.block⟩)
  clear hg6 hb6
  refine hK _ _ ?_
  clear hK K
  try simp only [Act.put,zA,zB,zC]
  refine wpAny_done (by kernel_rfl) ?_ _
  refine hK0 _ _ ?_
  clear hK0
  go_wp2_with ((refine wpList_copy_ops rfl (.tmp 133) (.tmp 134) rfl _ (some ad) _ _ m d rfl rfl g (i * 11) _ G6.out.out Y (by rw [hYl'.out,show Nat.min m (m + k) = m from Nat.min_eq_left (by omega)]) (fun _=>⟨rfl,ad,rfl,fun j v hj=>B6.out.cell (hYs.out j v hj) (by rw [add_off];intro e;injection e with e;exact hap'.out e)⟩) hfit2.out hY1.out ?_;intro w7 hg7 hb7;have G7:=Lib.hid hg7;have B7:=Lib.hid hb7;clear hg7 hb7))
  go_ret
  exact ⟨g,i + m + k,c,rfl,hfin.out _ G7.out.out,B6.out.trans B7.out,.inl rfl⟩
end Go.Proofs.Ytidimannfemnmaa.Lst
namespace Go.Proofs.Ytidimannfemnmaa.Lst
open Go.RowKit Top Sim
set_option maxRecDepth 20000

theorem wpList_append_make {w:World} {ops:Array Oper} {rest:List Oper} {o:Oper} {a:Act} {Q:Exit→Act→World→Prop} (hgd:o.guard = none) (sl x:Operand)
    (ho:o.op = .call { callee:=.builtin .append,args:=#[sl,x],argTypes:=#[55,3] }) (g i c:Nat) (cur:List Value) (hg:w.heap[g]? = some (.cells cur.toArray 52 (0,0))) (hcl:cur.length = c * 11) (hic:i≤c) (N:Nat) (h0:0 < N) (hgrow:c < i + N) (hN:i + N≤1000000)
    (hs:a.eval sl = .slice (some ⟨g,0,none⟩) i c) (hx:a.eval x = .int .i64 (N:Int))
    (h:∀ w' c' Z,w'.heap[w.heap.size]? = some (.cells (cur.take (i * 11) ++ Z).toArray 52 (0,0))→(cur.take (i * 11) ++ Z).length = c' * 11→i + N≤c'→c'≤maxLen→Below w.heap.size w w'→wpList Try.prog ops Q rest (a.put o.dst (.slice (some ⟨w.heap.size,0,none⟩) (i + N) c')) w'):wpList Try.prog ops Q (o :: rest) a w:=by
  obtain ⟨i0,hi0,hz0,hz1,hz2⟩:=info_parts Try.infoOp
  have hpl:(cur.take (i * 11)).length = i * 11:=by rw [List.length_take];omega
  have hold:(Go.Builtin.firstCells i0.size i (.slice (some ⟨g,0,none⟩) i c)).run Try.prog w.drew = .ok (cur.take (i * 11)).toArray w.drew:=by
    have e0:i * i0.size = (cur.take (i * 11)).length:=by rw [hpl,hz1]
    show (loadCells ⟨g,0,none⟩ (i * i0.size)).run Try.prog w.drew = _
    rw [e0]
    exact run_loadCells_list (P:=Try.prog) w.drew _ _ fun j v hj=>by
      have e:(⟨g,0,none⟩:Addr).add j = ⟨g,j,none⟩:=add_zero_off g j
      rw [e]
      refine (cell_of_row w g _ _ _ _ hg).trans ?_
      rw [List.getElem?_toArray]
      rw [List.getElem?_take] at hj
      split at hj
      · exact hj
      · cases hj
  have hr:=Lib.run_append_grow_zeros (P:=Try.prog) w 55 3 o.type 52 i0 _ .i64 .i64 Try.underlying55 Try.underlying3 hi0 hz0 (some ⟨g,0,none⟩) i c (cur.take (i * 11)) hold N h0 (by rw [hz1];decide) hgrow (by omega) (by rw [hz2];omega) (growslice_fits (by omega) (by rw [hz2];omega))
  refine wpList_plain hgd fun K hK=>?_
  unfold Oper.wp execOp
  simp only [ho,resolve,invoke,builtin,Sem.run_bind,Sem.run_pure,Result.andThen_ok,List.map_toArray,List.map_cons,List.map_nil,hs,hx,hr]
  have hge:=grownCap_ge w (i + N) c 52
  refine hK _ _ (h _ _ ((Go.Builtin.zeroCells (Value.agg #[.int .u8 0,.slice none 0 0,.int .i64 0,.slice none 0 0,.int .u64 0,.bool false,.string ⟨#[]⟩,.string ⟨#[]⟩,.string ⟨#[]⟩,.bool false,.slice none 0 0]).cells N).toList ++ (Go.Builtin.zeroCells (Value.agg #[.int .u8 0,.slice none 0 0,.int .i64 0,.slice none 0 0,.int .u64 0,.bool false,.string ⟨#[]⟩,.string ⟨#[]⟩,.string ⟨#[]⟩,.bool false,.slice none 0 0]).cells (grownCap w (i + N) c 52 - (i + N))).toList) ?_ ?_ hge (grownCap_le_maxLen _ _ _ _ (by unfold maxLen;omega)) ((Below.refl _ _).drew.alloc (Nat.le_refl _) _))
  · refine (heap_alloc_new w.drew _).trans ?_
    simp
  · rw [List.length_append,hpl]
    simp [Go.Builtin.zeroCells,Value.cells]
    omega
theorem below_grown {w w1 w2:World} {g:Nat} (h1:Below w.heap.size w w1) (h2:w1.grownBy w2 (some w.heap.size)):w.grownBy w2 (some g) :=
  ⟨h2.os.trans h1.os,h2.tape.trans h1.tape,h2.output.trans h1.output,Nat.le_trans h1.size h2.size,fun k hk _=>(h2.block k (Nat.lt_of_lt_of_le hk h1.size) (fun e=>by injection e with e;omega)).trans (h1.block k hk)⟩
set_option maxHeartbeats 8000000 in
theorem rep_grow (w:World) (base g n c i:Nat) (l:List (Ov × OS)) (hown:OwnO base w (.slice (some ⟨g,0,none⟩) n c) l) (hi:i + 1 < n) (ad:Addr) (m d:Nat) (hroom:c + 1 < n + m) (hlen:l.length + m≤100000) (l2:List (Ov × OS)) (h2:OpsR w (some ad) m l2) (hap:ad.block ≠ g) :
    Calls Try.prog 197 #[.slice (some ⟨g,0,none⟩) n c,.int .i64 (i:Int),.int .i64 ((i:Int) + 1),.slice (some ad) m d] w (RepA base w g (l.take i ++ (l2 ++ l.drop (i + 1)))):=by
  obtain ⟨cur,hg,hl,hnc,hcm,hcl,hct,hbg,hgs⟩:=own_block hown
  have hcm2:c≤9223372036854775807:=by unfold maxLen at hcm;omega
  obtain ⟨k,hk⟩:∃ k,k = n - (i + 1):=⟨_,rfl⟩
  have hk1:1≤k:=by omega
  have c1:¬ c = i:=by omega
  have c2:¬ c = i + 1:=by omega
  have e0:(0:Int)≤(i:Int):=by omega
  have e1:(i:Int)≤(i:Int) + 1:=by omega
  have e2:(i:Int) + 1≤(c:Int):=by omega
  have e2b:(i:Int)≤(c:Int):=by omega
  have e2c:(i:Int) + 1≤(n:Int):=by omega
  have e2d:(n:Int)≤(c:Int):=by omega
  have e2e:(0:Int)≤(i:Int) + 1:=by omega
  have e3:((i:Int) == (i:Int) + 1) = false:=beq_eq_false_iff_ne.2 (by omega)
  have e4:((i:Int) + 1 == (n:Int)) = false:=beq_eq_false_iff_ne.2 (by omega)
  have e5:((i:Int) + 1).toNat = i + 1:=by omega
  have e6:n - (i + 1) = k:=hk.symm
  have w1:IntKind.i64.wrap ((i:Int) + (m:Int)) = (i:Int) + (m:Int):=IntWalk.i64_in _ (by omega)
  have w2:IntKind.i64.wrap ((i:Int) + (m:Int) + (k:Int)) = (i:Int) + (m:Int) + (k:Int):=IntWalk.i64_in _ (by omega)
  have w3:IntKind.i64.wrap ((i:Int) + (m:Int) + (k:Int) - (i:Int)) = ((m + k:Nat):Int):=by rw [IntWalk.i64_in _ (by omega)];omega
  have g0:(0:Int)≤(i:Int) + (m:Int):=by omega
  have g0b:((i:Int) + (m:Int)).toNat = i + m:=by omega
  have g1:(c:Int) < (i:Int) + (m:Int) + (k:Int):=by omega
  have g3:(i:Int)≤((i + (m + k):Nat):Int):=by omega
  have g3b:(i:Int) + (m:Int)≤((i + (m + k):Nat):Int):=by omega
  have g3c:(m:Int)≤(m:Int) + (k:Int):=by omega
  have g3d:(0:Int)≤(m:Int) + (k:Int):=by omega
  have g8:i + (m + k) - (i + m) = k:=by omega
  have g9:i + (m + k) - i = m + k:=by omega
  obtain ⟨X,hX⟩:∃ X,X = (l.drop (i + 1)).flatMap opL:=⟨_,rfl⟩
  have hXl:X.length = k * 11:=by rw [hX,chunk_len opL 11 opL_len,List.length_drop];omega
  have hX1:=Lib.hid (show ∀ v ∈ X,v.oneCell' = true from fun v hv=>by rw [hX] at hv;exact ops_one _ v hv)
  have hXc:∀ j,j < k * 11→cur[(i + 1) * 11 + j]? = X[j]?:=fun j hj=>by
    rw [hX,chunk_drop opL 11 opL_len,← hct,List.getElem?_drop,List.getElem?_take,if_pos (by omega)]
  have hXl':=Lib.hid hXl
  have hXs:=Lib.hid (row_src hg ((i + 1) * 11) (fun j hj=>hXc j (by omega)))
  have hg':=Lib.hid hg
  obtain ⟨Y,hY⟩:∃ Y,Y = l2.flatMap opL:=⟨_,rfl⟩
  have hYl:Y.length = m * 11:=by rw [hY,chunk_len opL 11 opL_len,h2.1]
  have hY1:=Lib.hid (show ∀ v ∈ Y,v.oneCell' = true from fun v hv=>by rw [hY] at hv;exact ops_one _ v hv)
  have hYs:=Lib.hid (show ∀ j v,Y[j]? = some v→w.cell? (ad.add j) = some v by rw [hY];exact ops_cell h2)
  have hYl':=Lib.hid hYl
  have hml:=h2.1
  have hapn:=Lib.hid (show ad.block < w.heap.size from by
    obtain ⟨x,hx⟩:∃ x,l2[0]? = some x:=⟨_,List.getElem?_eq_getElem (by omega)⟩
    obtain ⟨-,ad',e,hlt,-⟩:=h2.2 0 x hx
    injection e with e
    subst e
    exact hlt)
  have hmake:=Lib.hid (fun (nq:Nat)=>(And.intro (show (w.drewN nq).heap[g]? = some (.cells cur.toArray 52 (0,0)) from hg) (And.intro hcl (And.intro (show i≤c by omega) (And.intro (show 0 < m + k by omega) (And.intro (show c < i + (m + k) by omega) (show i + (m + k)≤1000000 by omega)))))))
  have hpl:=Lib.hid (show (cur.take (i * 11)).length = i * 11 by rw [List.length_take];omega)
  have hgs':=Lib.hid hgs
  have hbase:=Lib.hid (show base≤w.heap.size by omega)
  have hfin:=Lib.hid (fun (w':World) (c':Nat) (Z:List Value) (hnc':i + (m + k)≤c') (hcm':c'≤maxLen) (hcl':(cur.take (i * 11) ++ Z).length = c' * 11) (h:w'.heap[w.heap.size]? = some (.cells (splice (splice (cur.take (i * 11) ++ Z) (i * 11) Y) ((i + m) * 11) X).toArray 52 (0,0)))=>show OwnO base w' (.slice (some ⟨w.heap.size,0,none⟩) (i + (m + k)) c') (l.take i ++ (l2 ++ l.drop (i + 1))) from by
    have hl1:(splice (cur.take (i * 11) ++ Z) (i * 11) Y).length = c' * 11:=by rw [length_splice _ _ _ (by omega)];exact hcl'
    exact own_of h (by rw [List.length_append,List.length_append,List.length_take,List.length_drop,h2.1];omega) hnc' hcm' (by
      rw [length_splice _ _ _ (by omega),hl1]) (by
      rw [show (i + (m + k)) * 11 = (i + m) * 11 + X.length by omega,splice_take (by omega),show (i + m) * 11 = i * 11 + Y.length by omega,splice_take (by omega),List.take_append_of_le_length (by rw [List.length_take];omega),List.take_take,Nat.min_self,List.flatMap_append,List.flatMap_append,← hX,← hY,chunk_take opL 11 opL_len,← hct,List.take_take,Nat.min_eq_left (by omega),List.append_assoc]) (by omega))
  clear hown hg hl hnc hcm hcl hct hi hbg hgs hk hX hXl hXc hY hYl h2 hap hroom hlen hml
  go_enter Try.func197,Try.ntmps197
  go_upto_region 9 with fail
  go_quiet (fail)
  rename_i nq
  go_upto_region 12 with (at_builtin;(refine wpList_append_make rfl _ (.tmp 66) rfl g i c cur (hmake.out nq).1 (hmake.out nq).2.1 (hmake.out nq).2.2.1 (m + k) (hmake.out nq).2.2.2.1 (hmake.out nq).2.2.2.2.1 (hmake.out nq).2.2.2.2.2 rfl rfl ?_;intro w4 c4 Z4 hh4 hl4 hc4 hm4 hb4;have H4:=Lib.hid (show w4.heap[w.heap.size]? = _ from hh4);have L4:=Lib.hid hl4;have M4:=Lib.hid hm4;have B4:=Lib.hid (show Below w.heap.size w w4 from ⟨hb4.os,hb4.tape,hb4.output,hb4.size,hb4.block⟩);have C4:=Lib.hid hc4;have q1:¬ c4 = i:=(by have:=(hmake.out 0).2.2.2.1;omega);have q2:¬ c4 = i + m:=(by omega);have q3:c4≤9223372036854775807:=(by unfold maxLen at hm4;omega);clear hh4 hl4 hm4 hb4 hc4))
  go_wp2_with ((refine wpList_copy_ops rfl (.tmp 70) (.tmp 71) rfl _ (some ad) _ _ m d rfl rfl w.heap.size (i * 11) _ H4.out Y (by rw [hYl'.out,show Nat.min m (m + k) = m from Nat.min_eq_left (by omega)]) (fun _=>⟨rfl,ad,rfl,fun j v hj=>(B4.out.cell (by rw [add_off];exact hapn.out)).trans (hYs.out j v hj)⟩) (by have:=L4.out;have:=C4.out;have:=hYl'.out;omega) hY1.out ?_;intro w5 hg5 hb5;have G5:=Lib.hid hg5;have B5:=Lib.hid hb5;clear hg5 hb5))
  rename_i K0 hK0
  refine wp_region_any (by kernel_rfl) ?_
  rw [world_drew]
  refine wpAny_take (i:=0) (oi:={ dst:=some 73,op:=Go.Op.move (Go.Operand.tmp 11),type:=55,pos:="slices.go:281",after:=#[],guard:=none }) (v:=?_) rfl (by kernel_rfl) (by kernel_rfl) (by kernel_rfl) (fun _ _ _ h=>h) (Or.inl ⟨by rfl,?_⟩) ?_
  rotate_left 1
  · (intro w;go_simp;try with_reducible rfl)
  try simp only [Act.put,zA,zB,zC]
  refine wpAny_take (i:=1) (oi:={ dst:=some 74,op:=Go.Op.move (Go.Operand.tmp 1),type:=3,pos:="slices.go:281",after:=#[],guard:=none }) (v:=?_) rfl (by kernel_rfl) (by kernel_rfl) (by kernel_rfl) (fun _ _ _ h=>h) (Or.inl ⟨by rfl,?_⟩) ?_
  rotate_left 1
  · (intro w;go_simp;try with_reducible rfl)
  try simp only [Act.put,zA,zB,zC]
  refine wpAny_take (i:=2) (oi:={ dst:=some 75,op:=Go.Op.move (Go.Operand.tmp 3),type:=55,pos:="slices.go:281",after:=#[],guard:=none }) (v:=?_) rfl (by kernel_rfl) (by kernel_rfl) (by kernel_rfl) (fun _ _ _ h=>h) (Or.inl ⟨by rfl,?_⟩) ?_
  rotate_left 1
  · (intro w;go_simp;try with_reducible rfl)
  try simp only [Act.put,zA,zB,zC]
  refine wpAny_take (i:=3) (oi:={ dst:=some 76,op:=Go.Op.call { callee:=Go.Callee.builtin Go.Builtin.len,args:=#[Go.Operand.tmp 75],argTypes:=#[55] },type:=3,pos:="slices.go:281",after:=#[{ on:=2,ground:=Go.Ground.data }],guard:=none }) (v:=?_) rfl (by kernel_rfl) (by kernel_rfl) (by kernel_rfl) (fun _ _ _ h=>h) (Or.inl ⟨by rfl,?_⟩) ?_
  rotate_left 1
  · (intro w;go_simp;try with_reducible rfl)
  try simp only [Act.put,zA,zB,zC]
  refine wpAny_take (i:=4) (oi:={ dst:=some 77,op:=Go.Op.binOp Go.BinOp.add 3 (Go.Operand.tmp 74) (Go.Operand.tmp 76) 3,type:=3,pos:="slices.go:281",after:=#[{ on:=1,ground:=Go.Ground.data },{ on:=3,ground:=Go.Ground.data }],guard:=none }) (v:=?_) rfl (by kernel_rfl) (by kernel_rfl) (by kernel_rfl) (fun _ _ _ h=>h) (Or.inl ⟨by rfl,?_⟩) ?_
  rotate_left 1
  · (intro w;go_simp;try with_reducible rfl)
  try simp only [Act.put,zA,zB,zC]
  refine wpAny_take (i:=5) (oi:={ dst:=some 78,op:=Go.Op.slice 55 (Go.Operand.tmp 73) (some (Go.Operand.tmp 77)) none none,type:=55,pos:="slices.go:281",after:=#[{ on:=0,ground:=Go.Ground.data },{ on:=4,ground:=Go.Ground.data }],guard:=none }) (v:=?_) rfl (by kernel_rfl) (by kernel_rfl) (by kernel_rfl) (fun _ _ _ h=>h) (Or.inl ⟨by rfl,?_⟩) ?_
  rotate_left 1
  · (intro w;go_simp;try with_reducible rfl)
  try simp only [Act.put,zA,zB,zC]
  refine wpAny_take (i:=6) (oi:={ dst:=some 79,op:=Go.Op.move (Go.Operand.tmp 0),type:=55,pos:="slices.go:281",after:=#[],guard:=none }) (v:=?_) rfl (by kernel_rfl) (by kernel_rfl) (by kernel_rfl) (fun _ _ _ h=>h) (Or.inl ⟨by rfl,?_⟩) ?_
  rotate_left 1
  · (intro w;go_simp;try with_reducible rfl)
  try simp only [Act.put,zA,zB,zC]
  refine wpAny_take (i:=7) (oi:={ dst:=some 80,op:=Go.Op.move (Go.Operand.tmp 2),type:=3,pos:="slices.go:281",after:=#[],guard:=none }) (v:=?_) rfl (by kernel_rfl) (by kernel_rfl) (by kernel_rfl) (fun _ _ _ h=>h) (Or.inl ⟨by rfl,?_⟩) ?_
  rotate_left 1
  · (intro w;go_simp;try with_reducible rfl)
  try simp only [Act.put,zA,zB,zC]
  refine wpAny_take (i:=8) (oi:={ dst:=some 81,op:=Go.Op.slice 55 (Go.Operand.tmp 79) (some (Go.Operand.tmp 80)) none none,type:=55,pos:="slices.go:281",after:=#[{ on:=6,ground:=Go.Ground.data },{ on:=7,ground:=Go.Ground.data }],guard:=none }) (v:=?_) rfl (by kernel_rfl) (by kernel_rfl) (by kernel_rfl) (fun _ _ _ h=>h) (Or.inl ⟨by rfl,?_⟩) ?_
  rotate_left 1
  · (intro w;go_simp;try with_reducible rfl)
  try simp only [Act.put,zA,zB,zC]
  refine wpAny_ready (rs:=[9]) (by kernel_rfl) (by simp) ?_
  refine AllReady.cons (o:={ dst:=some 82,op:=Go.Op.call { callee:=Go.Callee.builtin Go.Builtin.copy,args:=#[Go.Operand.tmp 78,Go.Operand.tmp 81],argTypes:=#[55,55] },type:=3,pos:="slices.go:281",after:=#[{ on:=5,ground:=Go.Ground.data },{ on:=8,ground:=Go.Ground.data }],guard:=none }) rfl (fun K hK=>?_) AllReady.nil
  refine step_copy rfl (.tmp 78) (.tmp 81) rfl _ _ _ _ _ _ rfl rfl w.heap.size ((i + m) * 11) _ G5.out.out X (by rw [hXl'.out];simp) (fun _=>⟨rfl,_,rfl,fun j v hj=>B5.out.cell ((B4.out.cell (by rw [add_off];exact hgs'.out)).trans (hXs.out j v hj)) (by rw [add_off];intro e;injection e with e;have h5:=hgs'.out;have e2:g = w.heap.size:=e;omega)⟩) (by rw [length_splice _ _ _ (by have:=L4.out;have:=C4.out;have:=hYl'.out;omega)];have:=L4.out;have:=C4.out;have:=hXl'.out;omega) hX1.out ?_
  intro w6 hg6 hb6
  have G6:=Lib.hid hg6
  have B6:=Lib.hid (show w5.grownBy w6 (some w.heap.size) from ⟨hb6.os,hb6.tape,hb6.output,hb6.size,hb6.block⟩)
  clear hg6 hb6
  refine hK _ _ ?_
  clear hK K
  try simp only [Act.put,zA,zB,zC]
  refine wpAny_done (by kernel_rfl) ?_ _
  refine hK0 _ _ ?_
  clear hK0
  go_wp2_with fail
  go_ret
  exact ⟨w.heap.size,i + (m + k),c4,rfl,hfin.out _ c4 Z4 C4.out M4.out L4.out G6.out.out,below_grown (B4.out) (B5.out.trans B6.out),.inr (Nat.le_refl _)⟩
end Go.Proofs.Ytidimannfemnmaa.Lst
namespace Go.Proofs.Ytidimannfemnmaa.Lst
open Go.RowKit Top Sim
set_option maxRecDepth 20000

theorem replace_any (w:World) (base g n c i:Nat) (l:List (Ov × OS)) (hown:OwnO base w (.slice (some ⟨g,0,none⟩) n c) l) (hi:i < n) (B:Option Addr) (m d:Nat) (l2:List (Ov × OS)) (h2:OpsR w B m l2) (hB:B = none→d = 0) (hap:∀ ad,B = some ad→0 < m→ad.block ≠ g) (hlen:l.length + m≤100000) (hbase:base≤w.heap.size) :
    Calls Try.prog 197 #[.slice (some ⟨g,0,none⟩) n c,.int .i64 (i:Int),.int .i64 ((i:Int) + 1),.slice B m d] w (RepA base w g (l.take i ++ (l2 ++ l.drop (i + 1)))):=by
  have hl:=(own_block hown)
  obtain ⟨cur,-,hln,-⟩:=hl
  by_cases h0:m = 0
  · subst h0
    have e2:l2 = []:=List.eq_nil_of_length_eq_zero h2.1
    subst e2
    rw [List.nil_append]
    by_cases h1:i + 1 = n
    · rw [List.drop_eq_nil_of_le (by omega),List.append_nil]
      exact rep_gone w base g n c i l hown h1 B d
    · exact rep_less w base g n c i l hown (by omega) B d
  · cases B with
    | none=>exact absurd h2.none_.1 h0
    | some ad =>
      by_cases h1:i + 1 = n
      · rw [List.drop_eq_nil_of_le (show l.length≤i + 1 by omega),List.append_nil]
        exact rep_last w base g n c i l hown h1 (some ad) m d l2 h2 hB (by omega) (by have:=h2.1;omega) hbase
      · by_cases h3:m = 1
        · subst h3
          exact rep_one w base g n c i l hown (by omega) ad d l2 h2 (hap ad rfl (by omega))
        · by_cases h4:n + m≤c + 1
          · exact rep_more w base g n c i l hown (by omega) ad m d (by omega) h4 l2 h2 (hap ad rfl (by omega))
          · exact rep_grow w base g n c i l hown (by omega) ad m d (by omega) hlen l2 h2 (hap ad rfl (by omega))
end Go.Proofs.Ytidimannfemnmaa.Lst
