/- MgAJ: LtxE LtxF -/
import Derived.Test.YtidimannfemnmaaMgAI
import Derived.Deep.RegionHeld3
import Derived.Deep.AppendLies
import Derived.Deep.CutRange
set_option linter.all false
namespace Go.Proofs.Ytidimannfemnmaa.P5
open Go.RowKit
set_option maxRecDepth 20000
open Ltx (Pc)

theorem step_append_known {P:Program} {ops:Array Oper} {o:Oper} {a:Act} {w:World} {K:Act→World→Prop} {Q:Exit→Act→World→Prop} {E:Prop} (hgd:o.guard = none) (s x:Operand) (t u:TypeId)
    (ho:o.op = .call { callee:=.builtin .append,args:=#[s,x],argTypes:=#[t,u] }) (v y v':Value) (w':World) (hs:a.eval s = v) (hx:a.eval x = y)
    (hr:(Builtin.append_ #[t,u] o.type #[v,y]).run P w = .ok v' w') (h:K (a.put o.dst v') w') :
    if Region.wanted o (yielded ops a.tmps) = true then Oper.wp P o a w K Q else E:=by
  have hw:Region.wanted o (yielded ops a.tmps) = true:=by simp [Region.wanted,hgd]
  rw [if_pos hw]
  unfold Oper.wp execOp
  simp only [ho,resolve,invoke,builtin,Sem.run_bind,Sem.run_pure,Result.andThen_ok,List.map_toArray,List.map_cons,List.map_nil,hs,hx,hr]
  exact h
theorem _root_.Go.Proofs.Ytidimannfemnmaa.OwnB.cut0 {base:Nat} {w:World} {A:Option Addr} {n c:Nat} {bs:List UInt8} (h:OwnB base w (.slice A n c) bs):OwnB base w (.slice A 0 c) []:=by
  refine ⟨rfl,?_⟩
  rcases h.2 with ⟨e,_⟩ | ⟨g,cap,cur,e,hb,hg,hnc,hcm,hcs,_⟩
  · injection e with e1 e2 e3
    subst e1 e3
    exact .inl ⟨rfl,rfl⟩
  · injection e with e1 e2 e3
    subst e1 e3
    exact .inr ⟨g,c,cur,rfl,hb,hg,Nat.zero_le _,hcm,hcs,by simp⟩
def FinS (p n c:Nat) (A:Option Addr) (kept gone:Int) (txt:List UInt8) (w':World):Prop :=
  w'.cell? ⟨p,1,none⟩ = some (.int .i64 kept)∧w'.cell? ⟨p,2,none⟩ = some (.slice A n c)∧w'.cell? ⟨p,3,none⟩ = some (.int .i64 gone)∧(convert 41 9 (.slice A n c)).run Try.prog w' = .ok (.string ⟨txt.toArray⟩) w'
theorem DraftAt.also {w:World} {S:Nat→Prop} {base p:Nat} {d:DV} (h:DraftAt w S base p d):DraftAt w (Also S w w) base p d:=by
  obtain ⟨h1,h2,v1,v2,hp,hd,ht,s1,s2⟩:=h
  exact ⟨fun k hk=>by rcases hk with hk | hk;exact h1 k hk;omega,.inl h2,v1,v2,hp,hd,ht,fun k hk=>.inl (s1 k hk),fun k hk=>.inl (s2 k hk)⟩
set_option maxHeartbeats 1000000 in
theorem finish_any (w:World) (S:Nat→Prop) (base p:Nat) (d:DV) (h:DraftAt w S base p d) (hlow:Low d.done) (hlen:d.text.length≤1000000∧d.done.length≤1000000∧d.kept≤4000000000∧d.gone≤4000000000) (hbase:base≤w.heap.size) :
    Calls Try.prog 139 #[.pointer (some ⟨p,0,none⟩)] w fun e w'=>e = .returned (.tuple #[])∧DraftAt w' (Also S w w') base p d.fin∧FrX S w w':=by
  obtain ⟨l1,l2,l3,l4⟩:=hlen
  have h0:=Lib.hid h
  obtain ⟨h1,h2,v1,v2,hp,hd,ht,s1,s2⟩:=h
  obtain ⟨A,n,c,rfl,hn,hnc,hcm,hB,_⟩:=ht.shape_n (by unfold maxLen;omega)
  have hstr:=fun w' (hb:Below w.heap.size w w')=>run_str w' A n c d.text (hB.below hb)
  have c0:=cell_of_row w p 0 _ _ _ hp
  have c1:=cell_of_row w p 1 _ _ _ hp
  have c2:=cell_of_row w p 2 _ _ _ hp
  have c3:=cell_of_row w p 3 _ _ _ hp
  have f0:=frozen_of_row w p 0 _ _ hp
  have f1:=frozen_of_row w p 1 _ _ hp
  have f2:=frozen_of_row w p 2 _ _ hp
  have f3:=frozen_of_row w p 3 _ _ hp
  simp at c0 c1 c2 c3
  obtain ⟨A1,n1,k1,rfl,hn1,hnc1,hcm1,_,hA1⟩:=hd.shape hlow
  have hp':=Lib.hid hp
  have hd':=Lib.hid hd
  have ht':=Lib.hid ht
  have hn':=Lib.hid hn
  have hn1':=Lib.hid hn1
  have hstr':=Lib.hid hstr
  clear hp hd ht hn hB hstr hn1
  by_cases hi:d.text = []∧d.gone = 0
  · have hfin:d.fin = d:=by unfold DV.fin;rw [if_pos hi]
    have hn0:n = 0:=by rw [hn'.out,hi.1];rfl
    have hg0:((d.gone:Int) == 0) = true:=by rw [hi.2];rfl
    have hg1:((n:Int) == 0) = true:=by rw [hn0];rfl
    have hfin':=Lib.hid hfin
    clear hfin hi hn0
    go_enter Try.func139,Try.ntmps139
    go_wp2_with fail
    refine bodyPost_ret (v:=.tuple #[]) (results_none rfl _ _ _) rfl ⟨rfl,?_,FrX.refl _ _⟩
    rw [hfin'.out]
    exact h0.out.also
  · have hfin:d.fin = ⟨d.done ++ [d.last],0,[],0⟩:=by unfold DV.fin;rw [if_neg hi]
    have hfin':=Lib.hid hfin
    have hw0:Below w.heap.size w w.drew:=(Below.refl w.heap.size w).drew
    have hs1:=hstr'.out w.drew hw0
    obtain ⟨i0,hi0,hz0,hz1,hz2⟩:=info_parts Try.infoP
    have hi0':=Lib.hid hi0
    have hz0':=Lib.hid hz0
    have hz1':=Lib.hid hz1
    have hz2':=Lib.hid hz2
    have hplt:=(h1 p h2).2
    have hrow:=Lib.hid (show ∀ o,((w.alloc o).drew).ownsRow base 60 3 (.slice A1 n1 k1) n1 (d.done.flatMap cellsOf) from fun o=>by
      have h:=hd'.out
      unfold OwnP at h
      rw [← hn1'.out] at h
      exact World.ownsRow.alloc h o)
    have hI:¬ ((n:Int) = 0∧(d.gone:Int) = 0):=fun e=>hi ⟨List.eq_nil_of_length_eq_zero (by rw [← hn'.out];omega),by omega⟩
    have hcs:(((n:Int) == 0) = true∧((d.gone:Int) == 0) = false)∨((n:Int) == 0) = false:=by
      by_cases e:(n:Int) = 0
      · have e2:¬ (d.gone:Int) = 0:=fun e2=>hI ⟨e,e2⟩
        exact .inl ⟨by simpa using e,by simpa using e2⟩
      · exact .inr (by simpa using e)
    have hnews:=Lib.hid (show ∀ (j:Nat) (u:Value),([.int .i64 (d.kept:Int),.int .i64 (d.gone:Int),.string ⟨d.text.toArray⟩]:List Value)[j]? = some u→(w.alloc (.cells #[.int .i64 (d.kept:Int),.int .i64 (d.gone:Int),.string ⟨d.text.toArray⟩] 60)).drew.cell? ((⟨w.heap.size,0,none⟩:Addr).add j) = some u from
      World.news_of_block (w:=w.alloc (.cells #[.int .i64 (d.kept:Int),.int .i64 (d.gone:Int),.string ⟨d.text.toArray⟩] 60)) (cs:=#[.int .i64 (d.kept:Int),.int .i64 (d.gone:Int),.string ⟨d.text.toArray⟩]) (t:=60) (fr:=(0,0)) (heap_alloc_new w _))
    have hone:=Lib.hid (show ∀ u ∈ ([.int .i64 (d.kept:Int),.int .i64 (d.gone:Int),.string ⟨d.text.toArray⟩]:List Value),u.oneCell' = true from by simp [Value.oneCell'])
    have hbd:=Lib.hid (show n1 + 1≤maxLen∧(n1 + 1) * 32≤140737488355328 from by have:=hn1'.out;unfold maxLen;omega)
    have hbd2:=Lib.hid (show ∀ o,base≤(w.alloc o).drew.heap.size from fun o=>by simp;omega)
    obtain ⟨g,cap,w3,hr,ho3,hg3,hat3,hlt3⟩:=run_append_lies (P:=Try.prog) (w:=(w.alloc (.cells #[.int .i64 (d.kept:Int),.int .i64 (d.gone:Int),.string ⟨d.text.toArray⟩] 60)).drew) 22 22 base 60 i0 _ 3 32 Try.underlying22 hi0 hz0 hz1 hz2 rfl (by decide) (.slice A1 n1 k1) n1 (d.done.flatMap cellsOf) (hrow.out _)
      ⟨w.heap.size,0,none⟩ 1 1 [.int .i64 (d.kept:Int),.int .i64 (d.gone:Int),.string ⟨d.text.toArray⟩] rfl hnews.out hone.out (by decide) hbd.out.1 hbd.out.2 (hbd2.out _) (w.heap.size + 1) (by simp)
    have hq3:=(hg3.block p (by simp;omega) (fun e=>own_ne (hrow.out (.cells #[] 60)) ((Go.heap_alloc_old w _ hplt).trans hp'.out) (by decide) e.symm)).trans ((Go.heap_alloc_old w _ hplt).trans hp'.out)
    have c03:=cell_of_row w3 p 0 _ _ _ hq3
    have f03:=frozen_of_row w3 p 0 _ _ hq3
    simp at c03
    have hB3:Bts w3 A n d.text:=by
      have h:=own_kept (w':=w3) ht'.out (fun k hk=>by
        have hlk:=(World.ownsRow.lt ht'.out k hk).2
        rw [hg3.block k (by simp;omega) (fun e=>own_apart hd'.out ht'.out (by decide) e.symm hk)]
        exact Go.heap_alloc_old w _ hlk)
      exact OwnB.reads h (by unfold maxLen;omega)
    have hS0:FinS p n c A (d.kept:Int) (d.gone:Int) d.text w.drew:=⟨c1,c2,c3,hstr'.out _ hw0⟩
    have hS1:FinS p n c A (d.kept:Int) (d.gone:Int) d.text (w.alloc (.cells #[.int .i64 (d.kept:Int),.int .i64 (d.gone:Int),.string ⟨d.text.toArray⟩] 60)).drew:=by
      have hb:Below w.heap.size w (w.alloc (.cells #[.int .i64 (d.kept:Int),.int .i64 (d.gone:Int),.string ⟨d.text.toArray⟩] 60)).drew:=((Below.refl w.heap.size w).alloc (Nat.le_refl _) _).drew
      exact ⟨(hb.cell (p:=⟨p,1,none⟩) hplt).trans c1,(hb.cell (p:=⟨p,2,none⟩) hplt).trans c2,(hb.cell (p:=⟨p,3,none⟩) hplt).trans c3,hstr'.out _ hb⟩
    have hS3:FinS p n c A (d.kept:Int) (d.gone:Int) d.text w3:=⟨cell_of_row w3 p 1 _ _ _ hq3,cell_of_row w3 p 2 _ _ _ hq3,cell_of_row w3 p 3 _ _ _ hq3,run_str w3 A n c d.text hB3⟩
    have hS4:∀ v,FinS p n c A (d.kept:Int) (d.gone:Int) d.text (w3.setCell ⟨p,0,none⟩ v):=fun v=>by
      have hq4:=heap_setCell_same w3 p 0 _ _ v hq3
      refine ⟨cell_of_row _ p 1 _ _ _ hq4,cell_of_row _ p 2 _ _ _ hq4,cell_of_row _ p 3 _ _ _ hq4,run_str _ A n c d.text ?_⟩
      have h:=own_kept (w':=w3.setCell ⟨p,0,none⟩ v) ht'.out (fun k hk=>by
        have hlk:=(World.ownsRow.lt ht'.out k hk).2
        rw [heap_setCell_other w3 ⟨p,0,none⟩ k v (fun e=>by subst e;exact own_ne ht'.out hp'.out (by decide) hk)]
        rw [hg3.block k (by simp;omega) (fun e=>own_apart hd'.out ht'.out (by decide) e.symm hk)]
        exact Go.heap_alloc_old w _ hlk)
      exact OwnB.reads h (by unfold maxLen;omega)
    clear hB3
    have hend:=Lib.hid (show ∃ (g' cap':Nat),(w3.setCell ⟨p,0,none⟩ (.slice (some ⟨g,0,none⟩) (n1 + 1) cap)).heap[p]? = some (.cells #[.slice (some ⟨g',0,none⟩) (n1 + 1) cap',.int .i64 (d.kept:Int),.slice A n c,.int .i64 (d.gone:Int)] 95 (0,0))∧OwnP base (w3.setCell ⟨p,0,none⟩ (.slice (some ⟨g,0,none⟩) (n1 + 1) cap)) (.slice (some ⟨g',0,none⟩) (n1 + 1) cap') (d.done ++ [d.last])∧FrX S w (w3.setCell ⟨p,0,none⟩ (.slice (some ⟨g,0,none⟩) (n1 + 1) cap))∧(S g'∨w.heap.size≤g')∧OwnB base (w3.setCell ⟨p,0,none⟩ (.slice (some ⟨g,0,none⟩) (n1 + 1) cap)) (.slice A n c) d.text from by
      have hot:∀ k,k ≠ p→(w3.setCell ⟨p,0,none⟩ (.slice (some ⟨g,0,none⟩) (n1 + 1) cap)).heap[k]? = w3.heap[k]?:=fun k hk=>heap_setCell_other w3 ⟨p,0,none⟩ k _ hk
      have ho4:OwnP base w3 (.slice (some ⟨g,0,none⟩) (n1 + 1) cap) (d.done ++ [d.last]):=by
        unfold OwnP
        rw [List.length_append,List.flatMap_append,← hn1'.out]
        exact ho3
      refine ⟨g,cap,heap_setCell_same w3 p 0 _ _ _ hq3,own_kept ho4 fun k hk=>hot k (fun e=>own_ne ho4 hq3 (by decide) (e ▸ hk)),?_,?_,?_⟩
      · refine FrX.setCell ⟨hg3.os,hg3.tape,hg3.output,by have:=hg3.size;simp at this;omega,fun k hk hn=>?_⟩ h2
        rw [hg3.block k (by simp;omega) (fun e=>hn (s1 k e.symm))]
        exact Go.heap_alloc_old w _ hk
      · rcases hat3 with e | e
        · exact .inl (s1 g e)
        · exact .inr (by omega)
      · refine own_kept ht'.out fun k hk=>?_
        have hlk:=(World.ownsRow.lt ht'.out k hk).2
        rw [hot k (fun e=>own_ne ht'.out hp'.out (by decide) (e ▸ hk)),hg3.block k (by simp;omega) (fun e=>own_apart hd'.out ht'.out (by decide) e.symm hk)]
        exact Go.heap_alloc_old w _ hlk)
    have hr':=Lib.hid hr
    have ho3':=Lib.hid ho3
    have hg3':=Lib.hid hg3
    have hat':=Lib.hid hat3
    have hq3':=Lib.hid hq3
    clear hr ho3 hg3 hat3 hq3
    clear hi hfin hI hi0 hz0 hz1 hz2
    rcases hcs with ⟨g1,g2⟩ | g1
    all_goals
      go_enter Try.func139,Try.ntmps139
      go_wp2_with fail
      go_cut [] from 15 to 37 (fun wc=>∃ (g cap:Nat),wc.heap[p]? = some (.cells #[.slice (some ⟨g,0,none⟩) (n1 + 1) cap,.int .i64 (d.kept:Int),.slice A n c,.int .i64 (d.gone:Int)] 95 (0,0))∧OwnP base wc (.slice (some ⟨g,0,none⟩) (n1 + 1) cap) (d.done ++ [d.last])∧FrX S w wc∧(S g∨w.heap.size≤g)∧OwnB base wc (.slice A n c) d.text)
      case first =>
        refine wp_region_held_drew (S:=FinS p n c A (d.kept:Int) (d.gone:Int) d.text) (by kernel_rfl) ?_ (fun hHeld=>?_)
        · exact hS0
        refine wpAnyH_take (i:=0) (v:=?_) rfl (by kernel_rfl) (by kernel_rfl) (by kernel_rfl) (fun _ _ _ h=>h) (Or.inl ⟨by rfl,?_⟩) hHeld ?_
        rotate_left 1
        · intro w hSw;obtain ⟨q1,q2,q3,q4⟩:=hSw;go_simp;try with_reducible rfl
        try simp only [Act.put,zA,zB,zC]
        refine wpAnyH_take (i:=1) (v:=?_) rfl (by kernel_rfl) (by kernel_rfl) (by kernel_rfl) (fun _ _ _ h=>h) (Or.inl ⟨by rfl,?_⟩) hHeld ?_
        rotate_left 1
        · intro w hSw;obtain ⟨q1,q2,q3,q4⟩:=hSw;go_simp;try with_reducible rfl
        try simp only [Act.put,zA,zB,zC]
        refine wpAnyH_take (i:=2) (v:=?_) rfl (by kernel_rfl) (by kernel_rfl) (by kernel_rfl) (fun _ _ _ h=>h) (Or.inl ⟨by rfl,?_⟩) hHeld ?_
        rotate_left 1
        · intro w hSw;obtain ⟨q1,q2,q3,q4⟩:=hSw;go_simp;try with_reducible rfl
        try simp only [Act.put,zA,zB,zC]
        refine wpAnyH_take (i:=3) (v:=?_) rfl (by kernel_rfl) (by kernel_rfl) (by kernel_rfl) (fun _ _ _ h=>h) (Or.inl ⟨by rfl,?_⟩) hHeld ?_
        rotate_left 1
        · intro w hSw;obtain ⟨q1,q2,q3,q4⟩:=hSw;go_simp;try with_reducible rfl
        try simp only [Act.put,zA,zB,zC]
        refine wpAnyH_take (i:=5) (v:=?_) rfl (by kernel_rfl) (by kernel_rfl) (by kernel_rfl) (fun _ _ _ h=>h) (Or.inl ⟨by rfl,?_⟩) hHeld ?_
        rotate_left 1
        · intro w hSw;obtain ⟨q1,q2,q3,q4⟩:=hSw;go_simp;try with_reducible rfl
        try simp only [Act.put,zA,zB,zC]
        refine wpAnyH_take (i:=6) (v:=?_) rfl (by kernel_rfl) (by kernel_rfl) (by kernel_rfl) (fun _ _ _ h=>h) (Or.inl ⟨by rfl,?_⟩) hHeld ?_
        rotate_left 1
        · intro w hSw;obtain ⟨q1,q2,q3,q4⟩:=hSw;go_simp;try with_reducible rfl
        try simp only [Act.put,zA,zB,zC]
        refine wpAnyH_take (i:=7) (v:=?_) rfl (by kernel_rfl) (by kernel_rfl) (by kernel_rfl) (fun _ _ _ h=>h) (Or.inl ⟨by rfl,?_⟩) hHeld ?_
        rotate_left 1
        · intro w hSw;obtain ⟨q1,q2,q3,q4⟩:=hSw;go_simp;try with_reducible rfl
        try simp only [Act.put,zA,zB,zC]
        refine wpAnyH_take (i:=8) (v:=?_) rfl (by kernel_rfl) (by kernel_rfl) (by kernel_rfl) (fun _ _ _ h=>h) (Or.inl ⟨by rfl,?_⟩) hHeld ?_
        rotate_left 1
        · intro w hSw;obtain ⟨q1,q2,q3,q4⟩:=hSw;go_simp;try with_reducible rfl
        try simp only [Act.put,zA,zB,zC]
        refine wpAnyH_take (i:=9) (v:=?_) rfl (by kernel_rfl) (by kernel_rfl) (by kernel_rfl) (fun _ _ _ h=>h) (Or.inl ⟨by rfl,?_⟩) hHeld ?_
        rotate_left 1
        · intro w hSw;obtain ⟨q1,q2,q3,q4⟩:=hSw;go_simp;try with_reducible rfl
        try simp only [Act.put,zA,zB,zC]
        refine wpAnyH_take (i:=10) (v:=?_) rfl (by kernel_rfl) (by kernel_rfl) (by kernel_rfl) (fun _ _ _ h=>h) (Or.inl ⟨by rfl,?_⟩) hHeld ?_
        rotate_left 1
        · intro w hSw;obtain ⟨q1,q2,q3,q4⟩:=hSw;go_simp;try with_reducible rfl
        try simp only [Act.put,zA,zB,zC]
        refine wpAnyH_take (i:=11) (v:=?_) rfl (by kernel_rfl) (by kernel_rfl) (by kernel_rfl) (fun _ _ _ h=>h) (Or.inl ⟨by rfl,?_⟩) hHeld ?_
        rotate_left 1
        · intro w hSw;obtain ⟨q1,q2,q3,q4⟩:=hSw;go_simp;try with_reducible rfl
        try simp only [Act.put,zA,zB,zC]
        refine wpAnyH_take (i:=12) (v:=?_) rfl (by kernel_rfl) (by kernel_rfl) (by kernel_rfl) (fun _ _ _ h=>h) (Or.inl ⟨by rfl,?_⟩) hHeld ?_
        rotate_left 1
        · intro w hSw;obtain ⟨q1,q2,q3,q4⟩:=hSw;go_simp;try with_reducible rfl
        try simp only [Act.put,zA,zB,zC]
        refine wpAnyH_take (i:=13) (v:=?_) rfl (by kernel_rfl) (by kernel_rfl) (by kernel_rfl) (fun _ _ _ h=>h) (Or.inl ⟨by rfl,?_⟩) hHeld ?_
        rotate_left 1
        · intro w hSw;obtain ⟨q1,q2,q3,q4⟩:=hSw;go_simp;try with_reducible rfl
        try simp only [Act.put,zA,zB,zC]
        refine wpAnyH_take (i:=14) (v:=?_) rfl (by kernel_rfl) (by kernel_rfl) (by kernel_rfl) (fun _ _ _ h=>h) (Or.inl ⟨by rfl,?_⟩) hHeld ?_
        rotate_left 1
        · intro w hSw;obtain ⟨q1,q2,q3,q4⟩:=hSw;go_simp;try with_reducible rfl
        try simp only [Act.put,zA,zB,zC]
        refine wpAnyH_take (i:=15) (v:=?_) rfl (by kernel_rfl) (by kernel_rfl) (by kernel_rfl) (fun _ _ _ h=>h) (Or.inl ⟨by rfl,?_⟩) hHeld ?_
        rotate_left 1
        · intro w hSw;obtain ⟨q1,q2,q3,q4⟩:=hSw;go_simp;try with_reducible rfl
        try simp only [Act.put,zA,zB,zC]
        refine wpAnyH_take (i:=16) (v:=?_) rfl (by kernel_rfl) (by kernel_rfl) (by kernel_rfl) (fun _ _ _ h=>h) (Or.inl ⟨by rfl,?_⟩) hHeld ?_
        rotate_left 1
        · intro w hSw;obtain ⟨q1,q2,q3,q4⟩:=hSw;go_simp;try with_reducible rfl
        try simp only [Act.put,zA,zB,zC]
        refine wpAnyH_take (i:=17) (v:=?_) rfl (by kernel_rfl) (by kernel_rfl) (by kernel_rfl) (fun _ _ _ h=>h) (Or.inl ⟨by rfl,?_⟩) hHeld ?_
        rotate_left 1
        · intro w hSw;obtain ⟨q1,q2,q3,q4⟩:=hSw;go_simp;try with_reducible rfl
        try simp only [Act.put,zA,zB,zC]
        refine wpAnyH_take (i:=18) (v:=?_) rfl (by kernel_rfl) (by kernel_rfl) (by kernel_rfl) (fun _ _ _ h=>h) (Or.inl ⟨by rfl,?_⟩) hHeld ?_
        rotate_left 1
        · intro w hSw;obtain ⟨q1,q2,q3,q4⟩:=hSw;go_simp;try with_reducible rfl
        try simp only [Act.put,zA,zB,zC]
        refine wpAnyH_ready (rs:=[4,19]) (by kernel_rfl) (by simp) ?_
        refine AllReadyH.cons rfl (fun K hK=>?_) (AllReadyH.cons rfl (fun K hK=>?_) AllReadyH.nil)
        · go_simp
          refine hK.out _ _ ?_ (fun hNew=>?_)
          · first | assumption | exact hS4 _
          clear hK K hHeld
          have hHeld:=hNew
          clear hNew
          try simp only [Act.put,zA,zB,zC]
          refine wpAnyH_ready (rs:=[19]) (by kernel_rfl) (by simp) ?_
          refine AllReadyH.cons rfl (fun K hK=>?_) AllReadyH.nil
          go_simp
          refine hK.out _ _ ?_ (fun hNew=>?_)
          · first | assumption | exact hS4 _
          clear hK K hHeld
          have hHeld:=hNew
          clear hNew
          try simp only [Act.put,zA,zB,zC]
          refine wpAnyH_ready (rs:=[20]) (by kernel_rfl) (by simp) ?_
          refine AllReadyH.cons rfl (fun K hK=>?_) AllReadyH.nil
          refine step_append_known (by rfl) (.tmp 19) (.tmp 34) 22 22 (by rfl) _ _ _ _ (by rfl) (by rfl) hr'.out ?_
          refine hK.out _ _ ?_ (fun hNew=>?_)
          · first | assumption | exact hS4 _
          clear hK K hHeld
          have hHeld:=hNew
          clear hNew
          try simp only [Act.put,zA,zB,zC]
          refine wpAnyH_take (i:=21) (v:=?_) rfl (by kernel_rfl) (by kernel_rfl) (by kernel_rfl) (fun _ _ _ h=>h) (Or.inl ⟨by rfl,?_⟩) hHeld ?_
          rotate_left 1
          · intro w hSw;obtain ⟨q1,q2,q3,q4⟩:=hSw;go_simp;try with_reducible rfl
          try simp only [Act.put,zA,zB,zC]
          refine wpAnyH_take (i:=22) (v:=?_) rfl (by kernel_rfl) (by kernel_rfl) (by kernel_rfl) (fun _ _ _ h=>h) (Or.inl ⟨by rfl,?_⟩) hHeld ?_
          rotate_left 1
          · intro w hSw;obtain ⟨q1,q2,q3,q4⟩:=hSw;go_simp;try with_reducible rfl
          try simp only [Act.put,zA,zB,zC]
          refine wpAnyH_ready (rs:=[23]) (by kernel_rfl) (by simp) ?_
          refine AllReadyH.cons rfl (fun K hK=>?_) AllReadyH.nil
          go_simp
          refine hK.out _ _ ?_ (fun hNew=>?_)
          · first | assumption | exact hS4 _
          clear hK K hHeld
          have hHeld:=hNew
          clear hNew
          try simp only [Act.put,zA,zB,zC]
          refine wpAnyH_done (by kernel_rfl) ?_ _
          go_wp2_with fail
          go_meet
          case rel=>exact hend.out
        · go_simp
          refine hK.out _ _ ?_ (fun hNew=>?_)
          · first | assumption | exact hS4 _
          clear hK K hHeld
          have hHeld:=hNew
          clear hNew
          try simp only [Act.put,zA,zB,zC]
          refine wpAnyH_ready (rs:=[4]) (by kernel_rfl) (by simp) ?_
          refine AllReadyH.cons rfl (fun K hK=>?_) AllReadyH.nil
          go_simp
          refine hK.out _ _ ?_ (fun hNew=>?_)
          · first | assumption | exact hS4 _
          clear hK K hHeld
          have hHeld:=hNew
          clear hNew
          try simp only [Act.put,zA,zB,zC]
          refine wpAnyH_ready (rs:=[20]) (by kernel_rfl) (by simp) ?_
          refine AllReadyH.cons rfl (fun K hK=>?_) AllReadyH.nil
          refine step_append_known (by rfl) (.tmp 19) (.tmp 34) 22 22 (by rfl) _ _ _ _ (by rfl) (by rfl) hr'.out ?_
          refine hK.out _ _ ?_ (fun hNew=>?_)
          · first | assumption | exact hS4 _
          clear hK K hHeld
          have hHeld:=hNew
          clear hNew
          try simp only [Act.put,zA,zB,zC]
          refine wpAnyH_take (i:=21) (v:=?_) rfl (by kernel_rfl) (by kernel_rfl) (by kernel_rfl) (fun _ _ _ h=>h) (Or.inl ⟨by rfl,?_⟩) hHeld ?_
          rotate_left 1
          · intro w hSw;obtain ⟨q1,q2,q3,q4⟩:=hSw;go_simp;try with_reducible rfl
          try simp only [Act.put,zA,zB,zC]
          refine wpAnyH_take (i:=22) (v:=?_) rfl (by kernel_rfl) (by kernel_rfl) (by kernel_rfl) (fun _ _ _ h=>h) (Or.inl ⟨by rfl,?_⟩) hHeld ?_
          rotate_left 1
          · intro w hSw;obtain ⟨q1,q2,q3,q4⟩:=hSw;go_simp;try with_reducible rfl
          try simp only [Act.put,zA,zB,zC]
          refine wpAnyH_ready (rs:=[23]) (by kernel_rfl) (by simp) ?_
          refine AllReadyH.cons rfl (fun K hK=>?_) AllReadyH.nil
          go_simp
          refine hK.out _ _ ?_ (fun hNew=>?_)
          · first | assumption | exact hS4 _
          clear hK K hHeld
          have hHeld:=hNew
          clear hNew
          try simp only [Act.put,zA,zB,zC]
          refine wpAnyH_done (by kernel_rfl) ?_ _
          go_wp2_with fail
          go_meet
          case rel=>exact hend.out
      case rest =>
        obtain ⟨g,cap,hpc,hdc,hFc,hgS,htc⟩:=hcut
        clear c0 c1 c2 c3 f0 f1 f2 f3 hS0 hS1 hS3 hS4 hr' c03 f03 hs1
        have c0:=cell_of_row wc p 0 _ _ _ hpc
        have c1:=cell_of_row wc p 1 _ _ _ hpc
        have c2:=cell_of_row wc p 2 _ _ _ hpc
        have c3:=cell_of_row wc p 3 _ _ _ hpc
        have f1:=frozen_of_row wc p 1 _ _ hpc
        have f2:=frozen_of_row wc p 2 _ _ hpc
        have f3:=frozen_of_row wc p 3 _ _ hpc
        simp at c0 c1 c2 c3
        have z0:(0:Int)≤(c:Int):=by omega
        have hpc':=Lib.hid hpc
        have hdc':=Lib.hid hdc
        have htc':=Lib.hid htc
        have hFc':=Lib.hid hFc
        clear hpc hdc htc hFc
        go_wp2_with fail
        go_region
        go_end0
        obtain ⟨w4,hw4⟩:∃ w4,w4 = ((wc.setCell ⟨p,1,none⟩ (.int .i64 0)).setCell ⟨p,2,none⟩ (.slice A 0 c)).setCell ⟨p,3,none⟩ (.int .i64 0):=⟨_,rfl⟩
        rw [← hw4]
        have hp4:w4.heap[p]? = some (.cells #[.slice (some ⟨g,0,none⟩) (n1 + 1) cap,.int .i64 0,.slice A 0 c,.int .i64 0] 95 (0,0)):=by
          rw [hw4,heap_setCell_same _ p 3 _ _ _ (heap_setCell_same _ p 2 _ _ _ (heap_setCell_same wc p 1 _ _ _ hpc'.out))]
          rfl
        have hot:∀ k,k ≠ p→w4.heap[k]? = wc.heap[k]?:=fun k hk=>by
          rw [hw4,heap_setCell_other _ ⟨p,3,none⟩ k _ hk,heap_setCell_other _ ⟨p,2,none⟩ k _ hk,heap_setCell_other _ ⟨p,1,none⟩ k _ hk]
        have hs4:w4.heap.size = wc.heap.size:=by rw [hw4];simp
        have hF4:FrX S w w4:=by rw [hw4];exact ((hFc'.out.setCell h2).setCell h2).setCell h2
        have hd4:OwnP base w4 (.slice (some ⟨g,0,none⟩) (n1 + 1) cap) (d.done ++ [d.last]):=own_kept hdc'.out fun k hk=>hot k (fun e=>own_ne hdc'.out hpc'.out (by decide) (e ▸ hk))
        have ht4:OwnB base w4 (.slice A n c) d.text:=own_kept htc'.out fun k hk=>hot k (fun e=>own_ne htc'.out hpc'.out (by decide) (e ▸ hk))
        have hgl:=World.ownsRow.lt hd4 g rfl
        refine ⟨rfl,?_,hF4.drew 1⟩
        rw [hfin'.out]
        refine ⟨fun k hk=>?_,.inl h2,_,_,hp4,hd4,ht4.cut0,fun k hk=>?_,fun k hk=>.inl (s2 k ?_)⟩
        · have hsz:=hF4.size
          rcases hk with hk | hk
          · have:=h1 k hk
            exact ⟨this.1,by show k < w4.heap.size;omega⟩
          · exact ⟨by omega,hk.2⟩
        · have e:g = k:=by simpa [Value.ownBlock] using hk
          subst e
          rcases hgS with e | e
          · exact .inl e
          · exact .inr ⟨e,hgl.2⟩
        · cases A with
          | none=>cases hk
          | some x=>exact hk
end Go.Proofs.Ytidimannfemnmaa.P5
namespace Go.Proofs.Ytidimannfemnmaa.P5
open Go.RowKit
set_option maxRecDepth 20000
open Ltx (Pc)

def totP (l:List Pc):Nat:=Ltx.extent l + Ltx.puts l
theorem totP_append (l m:List Pc):totP (l ++ m) = totP l + totP m:=by unfold totP;rw [Ltx.extent_append,Ltx.puts_append];omega
theorem totP_one (k d:Nat) (t:List UInt8):totP [⟨k,d,t⟩] = k + d + t.length:=by simp [totP,Ltx.extent,Ltx.puts]
def DV.tot (d:DV):Nat:=totP (d.done ++ [d.last])
theorem DV.tot_eq (d:DV):d.tot = totP d.done + (d.kept + d.gone + d.text.length):=by unfold DV.tot DV.last;rw [totP_append,totP_one]
theorem DV.tot_fin (d:DV) (n:Nat):DV.tot { d.fin with kept:=d.fin.kept + n } = d.tot + n:=by
  rw [DV.tot_eq,DV.tot_eq]
  unfold DV.fin
  by_cases h:d.text = []∧d.gone = 0
  · rw [if_pos h];dsimp only;omega
  · rw [if_neg h]
    dsimp only [List.length_nil]
    rw [totP_append]
    unfold DV.last
    rw [totP_one]
    omega
theorem totP_norm (l:List Pc):totP (Ltx.norm l)≤totP l:=by
  have h1:=Ltx.extent_norm l
  have h2:=Ltx.norm_puts l
  unfold totP
  omega
theorem low_of {l:List Pc} (h:totP l≤4000000000):Low l:=fun p hp=>by
  have h1:=Ltx.mem_sizes hp
  unfold totP at h
  exact ⟨by omega,by omega,by omega⟩
theorem normal_tot {l:List Pc} (h:Ltx.Normal l):l.length≤totP l:=by
  have h1:=Ltx.normal_len h
  have h2:=Ltx.extent_two l
  unfold totP
  omega
def Drf (w:World) (S:Nat→Prop) (base p:Nat) (raw:List Pc):Prop:=∃ d:DV,DraftAt w S base p d∧d.For raw∧d.tot = totP raw
theorem Drf.kept {w w':World} {S:Nat→Prop} {base p:Nat} {raw:List Pc} (h:Drf w S base p raw) (hs:w.heap.size≤w'.heap.size) (hk:∀ k,S k→w'.heap[k]? = w.heap[k]?):Drf w' S base p raw:=by
  obtain ⟨d,h1,h2⟩:=h
  exact ⟨d,h1.kept hs hk,h2⟩
theorem Drf.lt {w:World} {S:Nat→Prop} {base p:Nat} {raw:List Pc} (h:Drf w S base p raw):∀ k,S k→base≤k∧k < w.heap.size:=by
  obtain ⟨d,h1,_⟩:=h
  exact h1.own
theorem Drf.below {w w':World} {S:Nat→Prop} {base p:Nat} {raw:List Pc} (h:Drf w S base p raw) (hb:Below w.heap.size w w'):Drf w' S base p raw :=
  h.kept hb.size fun k hk=>hb.block k (h.lt k hk).2
theorem Drf.new {w:World} {base:Nat} (hb:base≤w.heap.size):Drf (w.alloc (.cells #[.slice none 0 0,.int .i64 0,.slice none 0 0,.int .i64 0] 95)) (fun k=>k = w.heap.size) base w.heap.size []:=by
  refine ⟨DV.fresh,⟨fun k hk=>?_,rfl,.slice none 0 0,.slice none 0 0,heap_alloc_new w _,OwnP.nil_ _ _,OwnB.nil_ _ _,(fun k hk=>by cases hk),(fun k hk=>by cases hk)⟩,DV.For.fresh,rfl⟩
  subst hk
  exact ⟨hb,by simp⟩
section
variable {w:World} {S:Nat→Prop} {base p:Nat} {raw:List Pc}
theorem dput_any (h:Drf w S base p raw) (t:List UInt8) (hb:totP raw + t.length≤1000000) (hbase:base≤w.heap.size) :
    Calls Try.prog 71 #[.pointer (some ⟨p,0,none⟩),.string ⟨t.toArray⟩] w fun e w'=>e = .returned (.tuple #[])∧Drf w' (Also S w w') base p (raw ++ [⟨0,0,t⟩])∧FrX S w w':=by
  obtain ⟨d,h1,h2,h3⟩:=h
  have h4:=d.tot_eq
  refine (put_any w S base p d t h1 (by omega) hbase).mono ?_
  rintro e w' ⟨he,hd,hf⟩
  refine ⟨he,⟨_,hd,h2.put t,?_⟩,hf⟩
  rw [totP_append,totP_one,← h3,DV.tot_eq,DV.tot_eq]
  simp only [List.length_append]
  omega
theorem ddrop_any (h:Drf w S base p raw) (m:Nat) (hb:totP raw + m≤1000000) :
    Calls Try.prog 70 #[.pointer (some ⟨p,0,none⟩),.int .i64 (m:Int)] w fun e w'=>e = .returned (.tuple #[])∧Drf w' (Also S w w') base p (raw ++ [⟨0,m,[]⟩])∧FrX S w w':=by
  obtain ⟨d,h1,h2,h3⟩:=h
  have h4:=d.tot_eq
  refine (drop_any w S base p d m h1 (by omega)).mono ?_
  rintro e w' ⟨he,hd,hf⟩
  refine ⟨he,⟨_,hd,h2.drop m,?_⟩,hf⟩
  rw [totP_append,totP_one,← h3,DV.tot_eq,DV.tot_eq]
  simp only [List.length_nil]
  omega
theorem kept_more {w2:World} {d:DV} {n:Nat} (h2:DraftAt w2 (Also S w w2) base p d) (hF:FrX S w w2) (hp:S p) (hb:d.kept + n≤9223372036854775807) :
    DraftAt (w2.setCell ⟨p,1,none⟩ (.int .i64 ((d.kept:Int) + (n:Int)))) (Also S w (w2.setCell ⟨p,1,none⟩ (.int .i64 ((d.kept:Int) + (n:Int))))) base p { d with kept:=d.kept + n }∧FrX S w (w2.setCell ⟨p,1,none⟩ (.int .i64 ((d.kept:Int) + (n:Int)))):=by
  obtain ⟨o1,o2,v1,v2,hh,hd,ht,s1,s2⟩:=h2
  have hset:=heap_setCell_same w2 p 1 _ _ (.int .i64 ((d.kept:Int) + (n:Int))) hh
  have hot:∀ k,k ≠ p→(w2.setCell ⟨p,1,none⟩ (.int .i64 ((d.kept:Int) + (n:Int)))).heap[k]? = w2.heap[k]?:=fun k hk=>heap_setCell_other w2 ⟨p,1,none⟩ k _ hk
  have hsz:(w2.setCell ⟨p,1,none⟩ (.int .i64 ((d.kept:Int) + (n:Int)))).heap.size = w2.heap.size:=by simp
  have hal:∀ k,Also S w w2 k→Also S w (w2.setCell ⟨p,1,none⟩ (.int .i64 ((d.kept:Int) + (n:Int)))) k:=fun k hk=>by
    rcases hk with hk | hk
    · exact .inl hk
    · exact .inr ⟨hk.1,by omega⟩
  refine ⟨⟨fun k hk=>?_,.inl hp,v1,v2,?_,own_kept hd fun k hk=>hot k (fun e=>own_ne hd hh (by decide) (e ▸ hk)),own_kept ht fun k hk=>hot k (fun e=>own_ne ht hh (by decide) (e ▸ hk)),fun k hk=>hal k (s1 k hk),fun k hk=>hal k (s2 k hk)⟩,hF.setCell hp⟩
  · have:Also S w w2 k:=by
      rcases hk with hk | hk
      · exact .inl hk
      · exact .inr ⟨hk.1,by omega⟩
    have:=o1 k this
    omega
  · rw [hset]
    simp
set_option maxHeartbeats 1000000 in
theorem dkeep_any (h:Drf w S base p raw) (n:Nat) (hb:totP raw + n≤1000000) (hbase:base≤w.heap.size) :
    Calls Try.prog 72 #[.pointer (some ⟨p,0,none⟩),.int .i64 (n:Int)] w fun e w'=>e = .returned (.tuple #[])∧Drf w' (Also S w w') base p (raw ++ [⟨n,0,[]⟩])∧FrX S w w':=by
  obtain ⟨d,h1,h2,h3⟩:=h
  have h4:=d.tot_eq
  have htot:totP (raw ++ [⟨n,0,[]⟩]) = d.tot + n:=by rw [totP_append,totP_one,h3];simp
  by_cases hn:0 < n
  · have h5:=Lib.hid (h2.keep n hn)
    have hlow:=Lib.hid (low_of (l:=d.done) (by omega))
    have hnt:=normal_tot h2.nm
    have h1':=Lib.hid h1
    have hp:=h1.here
    have hf:=d.tot_fin n
    have hfk:d.fin.kept≤d.kept:=by unfold DV.fin;split <;> simp
    have hbnd:=Lib.hid (show d.text.length≤1000000∧d.done.length≤1000000∧d.kept≤4000000000∧d.gone≤4000000000 from ⟨by omega,by omega,by omega,by omega⟩)
    have hkb:d.fin.kept + n≤9223372036854775807:=by omega
    have hf':=Lib.hid hf
    have htot':=Lib.hid htot
    have hnI:(0:Int) < (n:Int):=by omega
    clear h1 h2 h3 h4 hnt hf htot hn hfk
    go_enter Try.func72,Try.ntmps72
    go_wp2_with (go_at_call 139;refine (finish_any w S base p d h1'.out hlow.out hbnd.out hbase).mono ?_;rintro e w2 ⟨rfl,hd2,hF2⟩;have hd2':=Lib.hid hd2;have hF2':=Lib.hid hF2;obtain ⟨_,_,v1,v2,hh,_,_,_,_⟩:=hd2;have c1:=cell_of_row w2 p 1 _ _ _ hh;have f1:=frozen_of_row w2 p 1 _ _ hh;simp at c1;clear hh hF2)
    go_end0
    obtain ⟨k1,k2⟩:=kept_more (n:=n) hd2'.out hF2'.out hp hkb
    exact ⟨rfl,⟨_,k1,h5.out,by rw [htot'.out];exact hf'.out⟩,k2⟩
  · have hn0:n = 0:=by omega
    subst hn0
    have h1':=Lib.hid h1
    have h5:=Lib.hid (show d.For (raw ++ [⟨0,0,[]⟩]) from ⟨h2.eqv.trans (by have:=(Eqv.refl raw).app eqv_nil.symm;rwa [List.append_nil] at this),h2.nm,h2.at_⟩)
    have htot':=Lib.hid htot
    clear h1 h2 h3 h4 hn htot
    go_enter Try.func72,Try.ntmps72
    go_wp2_with fail
    go_end0
    exact ⟨rfl,⟨d,h1'.out.also,h5.out,htot'.out.symm⟩,FrX.refl _ _⟩
set_option maxHeartbeats 1000000 in
theorem dpieces_any (h:Drf w S base p raw) (hb:totP raw≤1000000) (hbase:base≤w.heap.size) :
    Calls Try.prog 140 #[.pointer (some ⟨p,0,none⟩)] w fun e w'=>∃ v,e = .returned v∧OwnP base w' v (Ltx.norm raw)∧(∀ k,v.ownBlock = some k→Also S w w' k)∧FrX S w w':=by
  obtain ⟨d,h1,h2,h3⟩:=h
  have h4:=d.tot_eq
  have hnt:=normal_tot h2.nm
  have hlow:=Lib.hid (low_of (l:=d.done) (by omega))
  have h1':=Lib.hid h1
  have hbnd:=Lib.hid (show d.text.length≤1000000∧d.done.length≤1000000∧d.kept≤4000000000∧d.gone≤4000000000 from ⟨by omega,by omega,by omega,by omega⟩)
  have hfd:=Lib.hid h2.fin_done
  have hfl:Low d.fin.done:=by rw [h2.fin_done];exact low_of (Nat.le_trans (totP_norm raw) (by omega))
  have hfl':=Lib.hid hfl
  clear h1 h2 h3 h4 hnt hfl
  go_enter Try.func140,Try.ntmps140
  go_wp2_with (go_at_call 139;refine (finish_any w S base p d h1'.out hlow.out hbnd.out hbase).mono ?_;rintro e w2 ⟨rfl,hd2,hF2⟩;have hF2':=Lib.hid hF2;obtain ⟨_,_,v1,v2,hh,hd,_,hs,_⟩:=hd2;obtain ⟨A1,n1,k1,rfl,hn1,_,_,_,_⟩:=hd.shape hfl'.out;have hd':=Lib.hid hd;have hs':=Lib.hid hs;have c0:=cell_of_row w2 p 0 _ _ _ hh;simp at c0;clear hh hF2 hd hs hn1)
  go_ret
  exact ⟨_,rfl,by rw [← hfd.out];exact hd'.out,hs'.out,hF2'.out⟩
theorem right_fine {l:List Pc} (h:Ltx.Fine l):rightV (l.map ipc) = true:=by
  obtain ⟨h1,h2,h3⟩:=h
  refine right_of (by simpa using h1) ?_ ?_
  · rw [List.all_eq_true]
    intro x hx
    obtain ⟨p,hp,rfl⟩:=List.mem_map.1 hx
    have:=h2 p hp
    unfold okB mayB ipc
    simp
    omega
  · have e:∀ l:List Pc,putsI (l.map ipc) = Ltx.puts l:=fun l=>by
      induction l with
      | nil=>rfl
      | cons p r ih=>rw [List.map_cons,putsI,ih];rfl
    rw [e]
    exact h3
set_option maxHeartbeats 1000000 in
theorem dwhole_any (h:Drf w S base p raw) (hb:totP raw≤1000000) (hbase:base≤w.heap.size) (hfine:Ltx.Fine (Ltx.norm raw)) :
    Calls Try.prog 73 #[.pointer (some ⟨p,0,none⟩)] w fun e w'=>∃ v,e = .returned (.tuple #[v,.int .i64 0])∧OwnP base w' v (Ltx.norm raw)∧(∀ k,v.ownBlock = some k→Also S w w' k)∧FrX S w w':=by
  have h':=Lib.hid h
  have hfine':=Lib.hid hfine
  have hlow:=Lib.hid (low_of (l:=Ltx.norm raw) (by have h1:=Ltx.extent_norm raw;have h2:=Ltx.norm_puts raw;unfold totP at hb ⊢;omega))
  clear h hfine
  go_enter Try.func73,Try.ntmps73
  go_wp2_with (first
    | (go_at_call 140;refine (dpieces_any h'.out hb hbase).mono ?_;rintro e w2 ⟨v,rfl,hv,hs,hF⟩;obtain ⟨A1,n1,k1,rfl,hn1,hnk,hkm,hP,_⟩:=hv.shape hlow.out;have hv':=Lib.hid hv;have hs':=Lib.hid hs;have hF':=Lib.hid hF;have hP':=Lib.hid hP;have hnm:=Lib.hid (Nat.le_trans hnk hkm);clear hv hs hF hP hn1 hnk hkm)
    | (go_at_call 67;have hr:=right_any w2 A1 n1 k1 _ hP'.out hnm.out;rw [right_fine hfine'.out] at hr;refine hr.mono ?_;clear hr;rintro e w3 ⟨rfl,hb3⟩;have hb3':=Lib.hid hb3;clear hb3))
  go_ret2
  refine ⟨_,rfl,own_kept hv'.out fun k hk=>hb3'.out.block k (World.ownsRow.lt hv'.out k hk).2,fun k hk=>?_,hF'.out.trans (FrX.of_below (S:=S) hb3'.out) (fun k hk=>.inl hk)⟩
  have:=hb3'.out.size
  rcases hs'.out k hk with e | e
  · exact .inl e
  · exact .inr ⟨e.1,by omega⟩
end
end Go.Proofs.Ytidimannfemnmaa.P5
