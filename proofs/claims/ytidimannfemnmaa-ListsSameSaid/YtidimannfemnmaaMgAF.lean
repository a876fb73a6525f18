/- MgAF: TreF TreM TreX TopVal -/
import Derived.Test.YtidimannfemnmaaMgAE
import Derived.Deep.AppendLies
import Derived.Deep.CutRange
import Derived.IntWalk
import Derived.BigQuiet
set_option linter.all false
namespace Go.Proofs.Ytidimannfemnmaa
open Go.RowKit
set_option maxRecDepth 20000

def Rws (T:Nat→Prop) (w:World) (s:Stk) (xs:List Value):Prop :=
  ∀ (d:Nat) (row:List Nd),s.reverse[d]? = some row→∃ (A:Option Addr) (n c:Nat),xs[d]? = some (.slice A n c)∧n = row.length∧n≤c∧c≤maxLen∧(A = none→c = 0)∧RowAt T w A 0 row
structure WalkAt (T S:Nat→Prop) (base:Nat) (w:World) (p:Nat) (s:Stk):Prop where
  own:∀ k,S k→base≤k∧k < w.heap.size
  apart:∀ k,T k→¬ S k
  told:∀ k,T k→k < w.heap.size
  here:S p
  dat:∃ (g n cap:Nat) (xs:List Value),w.heap[p]? = some (.cells #[.slice (some ⟨g,0,none⟩) n cap] 187 (0,0))∧n = s.length∧w.ownsRow base 34 1 (.slice (some ⟨g,0,none⟩) n cap) n xs∧S g∧Rws T w s xs
theorem WalkAt.kept {T S:Nat→Prop} {base p:Nat} {w w':World} {s:Stk} (h:WalkAt T S base w p s) (hs:w.heap.size≤w'.heap.size) (hk:∀ k,T k∨S k→w'.heap[k]? = w.heap[k]?):WalkAt T S base w' p s:=by
  obtain ⟨h1,h2,h3,h4,g,n,cap,xs,hp,hn,ho,hg,hr⟩:=h
  refine ⟨fun k hS=>⟨(h1 k hS).1,Nat.lt_of_lt_of_le (h1 k hS).2 hs⟩,h2,fun k hT=>Nat.lt_of_lt_of_le (h3 k hT) hs,h4,g,n,cap,xs,(hk p (.inr h4)).trans hp,hn,own_kept ho fun k hk'=>hk k (.inr ?_),hg,fun d row hd=>?_⟩
  · have e:g = k:=by simpa [Value.ownBlock] using hk'
    rw [← e]
    exact hg
  · obtain ⟨A,m,c,e1,e2,e3,e4,e5,e6⟩:=hr d row hd
    exact ⟨A,m,c,e1,e2,e3,e4,e5,e6.kept (fun _ h=>h) (fun k hT=>hk k (.inl hT)) _ _ _⟩
end Go.Proofs.Ytidimannfemnmaa
namespace Go.Proofs.Ytidimannfemnmaa
open Go.RowKit
set_option maxRecDepth 20000

theorem Owned.node {w w':World} {T:Nat→Prop} {t:Nd} {aA kA aA0 kA0:Option Addr} {an ac kn kc an0 ac0 kn0 kc0 gA:Nat} {ks:List KV} (h:Owned w w' T t aA an ac kA kn kc gA ks) (hv:NodeV T w aA0 an0 ac0 kA0 kn0 kc0 t) (hT:∀ k,T k→k < w.heap.size) :
    NodeV (fun k=>T k∨(w.heap.size≤k∧k < w'.heap.size)) w' aA an ac kA kn kc t:=by
  have hf:=hv.facts
  refine NFacts.node ⟨hf.id,hf.label,hf.text,h.ats.kept (by rintro k rfl;exact .inr h.ga) (fun _ _=>rfl),h.anc,h.acm,h.anil,by rw [← h.map,List.length_map];exact h.len,h.knc,h.kcm,h.knil,?_⟩
  rw [← h.map]
  obtain ⟨A,n,c,e,hn,-,-,-,hq⟩:=h.row.shape
  injection e with e1 e2 e3
  subst e1
  refine RowAt.of_kvs ks (fun k hk=>KV.ok_kept (fun _ h=>.inl h) (fun j hj=>h.bel.block j (hT j hj)) (h.ok k hk)) fun q k hk=>?_
  obtain ⟨g,rfl,hb,hlt,hs⟩:=hq q k hk
  exact ⟨⟨g,0,none⟩,rfl,.inr ⟨hb,hlt⟩,by rw [add_zero_off];exact hs⟩
theorem set_six {w:World} {g:Nat} {a0 a1 a2 a3 a4 a5 b0 b1 b2 b3 b4 b5:Value} {ty:TypeId} (h:w.heap[g]? = some (.cells #[a0,a1,a2,a3,a4,a5] ty (0,0))) :
    ((((((w.setCell ⟨g,0,none⟩ b0).setCell ⟨g,1,none⟩ b1).setCell ⟨g,2,none⟩ b2).setCell ⟨g,3,none⟩ b3).setCell ⟨g,4,none⟩ b4).setCell ⟨g,5,none⟩ b5).heap[g]? = some (.cells #[b0,b1,b2,b3,b4,b5] ty (0,0)) :=
  by
  have e0:=heap_setCell_same w g 0 _ _ b0 h
  have e1:=heap_setCell_same _ g 1 _ _ b1 e0
  have e2:=heap_setCell_same _ g 2 _ _ b2 e1
  have e3:=heap_setCell_same _ g 3 _ _ b3 e2
  have e4:=heap_setCell_same _ g 4 _ _ b4 e3
  have e5:=heap_setCell_same _ g 5 _ _ b5 e4
  rw [e5]
  simp
theorem set_six_other {w:World} {g k:Nat} {b0 b1 b2 b3 b4 b5:Value} (h:k ≠ g) :
    ((((((w.setCell ⟨g,0,none⟩ b0).setCell ⟨g,1,none⟩ b1).setCell ⟨g,2,none⟩ b2).setCell ⟨g,3,none⟩ b3).setCell ⟨g,4,none⟩ b4).setCell ⟨g,5,none⟩ b5).heap[k]? = w.heap[k]? :=
  (heap_setCell_other _ _ k _ h).trans ((heap_setCell_other _ _ k _ h).trans ((heap_setCell_other _ _ k _ h).trans ((heap_setCell_other _ _ k _ h).trans ((heap_setCell_other _ _ k _ h).trans (heap_setCell_other _ _ k _ h)))))
theorem below_six {B:Nat} {w0 w:World} {g:Nat} {b0 b1 b2 b3 b4 b5:Value} (h:Below B w0 w) (hg:B≤g) :
    Below B w0 ((((((w.setCell ⟨g,0,none⟩ b0).setCell ⟨g,1,none⟩ b1).setCell ⟨g,2,none⟩ b2).setCell ⟨g,3,none⟩ b3).setCell ⟨g,4,none⟩ b4).setCell ⟨g,5,none⟩ b5) :=
  (((((h.setCell hg _).setCell hg _).setCell hg _).setCell hg _).setCell hg _).setCell hg _
theorem weigh_mem {k:Nd}:∀ {l:List Nd},k ∈ l→weighV k≤weighsV l
  | m :: r,h=>by
    simp only [weighsV]
    rcases List.mem_cons.1 h with rfl | h
    · omega
    · have:=weigh_mem h
      omega
theorem weigh_kid {s k:Nd} {j:Nat} (h:s.kids[j]? = some k):weighV k≤weighV s:=by
  have:=weigh_mem (List.mem_of_getElem? h)
  rw [weighV_eq s]
  omega
theorem weigh_rows (s:Nd):s.attrs.length≤weighV s∧s.kids.length≤weighV s:=by
  have h1:=attrsLen_le s.attrs
  have h2:=kids_le s
  have h3:=count_le s
  rw [weighV_eq s] at h3 ⊢
  omega
def zero6:Array Value:=#[.int .u64 0,.bool false,.string ⟨#[]⟩,.slice none 0 0,.string ⟨#[]⟩,.slice none 0 0]
theorem atV_none {s:Nd} {i:Int} {r:List Int} (h:hasB s.kids.length i = false):atV s (i :: r) = none:=by
  unfold hasB at h
  have h:=of_decide_eq_false h
  simp only [atV]
  split
  · rw [List.getElem?_eq_none (by omega)]
  · rfl
theorem atV_some {s k:Nd} {j:Nat} {r:List Int} (h:s.kids[j]? = some k):atV s ((j:Int) :: r) = atV k r:=by
  simp only [atV]
  rw [if_pos (by omega)]
  simp [h]
theorem hasB_cases (n:Nat) (i:Int):hasB n i = false∨∃ j:Nat,i = (j:Int)∧j < n∧hasB n i = true:=by
  by_cases h:0≤i∧i < (n:Int)
  · exact .inr ⟨i.toNat,by omega,by omega,decide_eq_true h⟩
  · exact .inl (decide_eq_false h)
def AtAns (w:World) (t:Nd) (p:List Int) (e:Ending) (w':World):Prop :=
  ∃ aA an ac kA kn kc,e = .returned (.tuple #[.agg (val6 ((atV t p).getD Nd.zero) aA an ac kA kn kc),.bool (atV t p).isSome])∧NodeV (Old w') w' aA an ac kA kn kc ((atV t p).getD Nd.zero)∧Below w.heap.size w w'
set_option maxHeartbeats 4000000 in
theorem at_any (w:World) (t:Nd) (aA kA:Option Addr) (an ac kn kc:Nat) (h:NodeV (Old w) w aA an ac kA kn kc t) (pA:Option Addr) (pn pc:Nat) (p:List Int) (hp:Its w pA pn p) (hpn:pn≤maxLen)
    (hbig:weighV t≤1000000) :
    Calls Try.prog 83 #[.agg (val6 t aA an ac kA kn kc),.slice pA pn pc] w (AtAns w t p):=by
  have h':=Lib.hid h
  have hp':=Lib.hid hp
  have hpl:=Lib.hid hp.1
  clear h hp
  unfold maxLen at hpn
  unfold val6
  go_enter Try.func83,Try.ntmps83
  go_wp2_with fail
  go_loopw [10] (fun k wr=>∃ (q:Nat) (s:Nd) (sA skA:Option Addr) (sn sc skn skc:Nat),q≤pn∧k = .int .i64 (q:Int)∧atV t p = atV s (p.drop q)∧weighV s≤1000000∧NodeV (Old w) w sA sn sc skA skn skc s ∧
    wr.heap[w.heap.size]? = some (.cells (val6 s sA sn sc skA skn skc) 36 (0,0))∧wr.heap[w.heap.size + 1]? = some (.cells zero6 36 (0,0))∧Below w.heap.size w wr) (fun k _=>pn - (intOf k).toNat)
  case atStart =>
    exact ⟨0,t,aA,kA,an,ac,kn,kc,Nat.zero_le _,rfl,rfl,hbig,h'.out,two_first w _ _,two_second w _ _,((Below.refl _ w).alloc (Nat.le_refl _) _).alloc (by simp) _⟩
  case round =>
    obtain ⟨q,s,sA,skA,sn,sc,skn,skc,hq,rfl,hat,hz,hv,hB,hR,hbel⟩:=hrel
    have hf:=hv.facts
    have hkl:=hf.kl
    have hb:=weigh_rows s
    unfold val6 at hB
    unfold zero6 at hR
    obtain ⟨c0,c1,c2,c3,c4,c5,cf⟩:=six_cells hB
    obtain ⟨r0,r1,r2,r3,r4,r5,rf⟩:=six_cells hR
    have hBl:=(Array.getElem?_eq_some_iff.1 hB).1
    have hRl:=(Array.getElem?_eq_some_iff.1 hR).1
    by_cases h1:q < pn
    · have h1I:(q:Int) < (pn:Int):=by omega
      obtain ⟨ad,i,rfl,hi,hci⟩:=(hp'.out.below hbel).at_ h1
      have hdrop:p.drop q = i :: p.drop (q + 1):=by
        have hl:q < p.length:=by rw [hpl.out];exact h1
        rw [List.drop_eq_getElem_cons hl]
        rw [List.getElem?_eq_getElem hl] at hi
        injection hi with hi
        rw [hi]
      rw [hdrop] at hat
      have hkm:=hf.kcm
      have hknc:=hf.knc
      rcases hasB_cases skn i with hno | ⟨j,rfl,hj,hyes⟩
      · have hcall:=Lib.hid (hasChild_any wr (s.id:Int) s.leaf s.label s.text sA skA sn sc skn skc i (by omega))
        rw [hno] at hcall
        have hans:=Lib.hid (hat.trans (atV_none (by rw [hkl];exact hno)))
        have hbel':=Lib.hid hbel
        have hR':=Lib.hid hR
        clear hat hf hkl hv hB hR hbel hno hdrop hkm hknc hz hb hi
        go_wp2_with (go_at_call 142;refine hcall.out.mono ?_;rintro e w1 ⟨rfl,hb1⟩;have R1:=(hb1.block _ hRl).trans hR'.out;obtain ⟨d0,d1,d2,d3,d4,d5,df⟩:=six_cells R1)
        have hW:w.heap.size + 1 < w1.heap.size:=(Array.getElem?_eq_some_iff.1 R1).1
        have R9:=set_six (b0:=.int .u64 0) (b1:=.bool false) (b2:=.string ⟨#[]⟩) (b3:=.slice none 0 0) (b4:=.string ⟨#[]⟩) (b5:=.slice none 0 0) R1
        have hb9:Below w.heap.size w _:=below_six (hbel'.out.trans (hb1.mono hbel'.out.size)) (b0:=.int .u64 0) (b1:=.bool false) (b2:=.string ⟨#[]⟩) (b3:=.slice none 0 0) (b4:=.string ⟨#[]⟩) (b5:=.slice none 0 0) (Nat.le_succ w.heap.size)
        generalize ((((((w1.setCell ⟨w.heap.size + 1,0,none⟩ (.int .u64 0)).setCell ⟨w.heap.size + 1,1,none⟩ (.bool false)).setCell ⟨w.heap.size + 1,2,none⟩ (.string ⟨#[]⟩)).setCell ⟨w.heap.size + 1,3,none⟩ (.slice none 0 0)).setCell ⟨w.heap.size + 1,4,none⟩ (.string ⟨#[]⟩)).setCell ⟨w.heap.size + 1,5,none⟩ (.slice none 0 0)) = W9 at R9 hb9 ⊢
        obtain ⟨d0,d1,d2,d3,d4,d5,df⟩:=six_cells R9
        refine bodyPost_ret (v:=.tuple #[.agg zero6,.bool false]) (by simp [results,Try.results83,go_sem,d0,d1,d2,d3,d4,d5,zero6]) rfl ?_
        exact ⟨none,0,0,none,0,0,by rw [hans.out];rfl,by rw [hans.out];exact zero_node,hb9⟩
      · obtain ⟨kd,hkd⟩:∃ kd,s.kids[j]? = some kd:=⟨s.kids[j]'(by omega),List.getElem?_eq_getElem _⟩
        obtain ⟨ka,rfl,hka,aA3,an3,ac3,kA3,kn3,kc3,hsix,hv3⟩:=hf.row.at_ hkd
        rw [Nat.zero_add] at hka hsix
        have hcall:=Lib.hid (hasChild_any wr (s.id:Int) s.leaf s.label s.text sA (some ka) sn sc skn skc (j:Int) (by omega))
        rw [hyes] at hcall
        have hans:=Lib.hid (hat.trans (atV_some hkd))
        have hpath:=Lib.hid (Nat.le_trans (weigh_kid hkd) hz)
        have hjI:(j:Int) < (skn:Int):=by omega
        have hbel':=Lib.hid hbel
        have hR':=Lib.hid hR
        have hv3':=Lib.hid hv3
        clear hat hf hkl hv hR hbel hyes hdrop hkm hknc hz hb hi hkd hv3
        go_wp2_with (go_at_call 142;refine hcall.out.mono ?_;rintro e w1 ⟨rfl,hb1⟩;have B1:=(hb1.block _ hBl).trans hB;have R1:=(hb1.block _ hRl).trans hR'.out;obtain ⟨d0,d1,d2,d3,d4,d5,df⟩:=six_cells B1;obtain ⟨s0,s1,s2,s3,s4,s5⟩:=hsix.kept (w':=w1) (((hbel'.out.trans (hb1.mono hbel'.out.size))).block _ hka))
        go_roundw
        case rel =>
          have hbw:=hbel'.out.trans (hb1.mono hbel'.out.size)
          refine ⟨q + 1,kd,aA3,kA3,an3,ac3,kn3,kc3,by omega,by go_num,hans.out,hpath.out,hv3'.out,set_six B1,(set_six_other (by omega)).trans R1,below_six hbw (Nat.le_refl _)⟩
        case measure=>simp [intOf];omega
    · have h1I:¬ (q:Int) < (pn:Int):=by omega
      have hans:=Lib.hid (show atV t p = some s by rw [hat,List.drop_of_length_le (by rw [hpl.out];omega)];rfl)
      have hcall:=Lib.hid (owned_any wr (Old w) s sA skA sn sc skn skc (hv.kept (fun _ h=>h) (fun k hk=>hbel.block k hk)) (fun k hk=>Nat.lt_of_lt_of_le hk hbel.size) (by have:=hf.ats.1;omega) (by omega))
      have hv':=Lib.hid (hv.kept (w':=wr) (fun _ h=>h) (fun k hk=>hbel.block k hk))
      have hbel':=Lib.hid hbel
      have hR':=Lib.hid hR
      clear hat hf hkl hv hR hbel hz hb hB
      go_wp2_with (go_at_call 143;refine hcall.out.mono ?_;rintro e w1 ⟨oA,oc,okA,okc,gA,ks,rfl,hO⟩;have R1:=(hO.bel.block _ hRl).trans hR'.out;obtain ⟨d0,d1,d2,d3,d4,d5,df⟩:=six_cells R1;have hO':=Lib.hid hO;clear hO)
      have R9:=set_six (b0:=.int .u64 (s.id:Int)) (b1:=.bool s.leaf) (b2:=.string ⟨s.label.toArray⟩) (b3:=.slice oA sn oc) (b4:=.string ⟨s.text.toArray⟩) (b5:=.slice okA skn okc) R1
      have hO:=hO'.out
      have hbw:=hbel'.out.trans (hO.bel.mono hbel'.out.size)
      have hb9:Below w.heap.size w _:=below_six hbw (b0:=.int .u64 (s.id:Int)) (b1:=.bool s.leaf) (b2:=.string ⟨s.label.toArray⟩) (b3:=.slice oA sn oc) (b4:=.string ⟨s.text.toArray⟩) (b5:=.slice okA skn okc) (Nat.le_succ w.heap.size)
      have hz1:=hO.bel.size
      have hN:NodeV (Old ((((((w1.setCell ⟨w.heap.size + 1,0,none⟩ (.int .u64 (s.id:Int))).setCell ⟨w.heap.size + 1,1,none⟩ (.bool s.leaf)).setCell ⟨w.heap.size + 1,2,none⟩ (.string ⟨s.label.toArray⟩)).setCell ⟨w.heap.size + 1,3,none⟩ (.slice oA sn oc)).setCell ⟨w.heap.size + 1,4,none⟩ (.string ⟨s.text.toArray⟩)).setCell ⟨w.heap.size + 1,5,none⟩ (.slice okA skn okc))) ((((((w1.setCell ⟨w.heap.size + 1,0,none⟩ (.int .u64 (s.id:Int))).setCell ⟨w.heap.size + 1,1,none⟩ (.bool s.leaf)).setCell ⟨w.heap.size + 1,2,none⟩ (.string ⟨s.label.toArray⟩)).setCell ⟨w.heap.size + 1,3,none⟩ (.slice oA sn oc)).setCell ⟨w.heap.size + 1,4,none⟩ (.string ⟨s.text.toArray⟩)).setCell ⟨w.heap.size + 1,5,none⟩ (.slice okA skn okc)) oA sn oc okA skn okc s:=(hO.node hv'.out (fun k hk=>Nat.lt_of_lt_of_le hk hbel'.out.size)).kept (fun k hk=>by
          show k < _
          have hsz:=hbel'.out.size
          simp only [World.size_setCell]
          rcases hk with hk | hk
          · have:k < w.heap.size:=hk
            omega
          · exact hk.2) (fun k hk=>set_six_other (by
          rcases hk with hk | hk
          · have:k < w.heap.size:=hk
            omega
          · omega))
      generalize ((((((w1.setCell ⟨w.heap.size + 1,0,none⟩ (.int .u64 (s.id:Int))).setCell ⟨w.heap.size + 1,1,none⟩ (.bool s.leaf)).setCell ⟨w.heap.size + 1,2,none⟩ (.string ⟨s.label.toArray⟩)).setCell ⟨w.heap.size + 1,3,none⟩ (.slice oA sn oc)).setCell ⟨w.heap.size + 1,4,none⟩ (.string ⟨s.text.toArray⟩)).setCell ⟨w.heap.size + 1,5,none⟩ (.slice okA skn okc)) = W9 at R9 hb9 hN ⊢
      obtain ⟨f0,f1,f2,f3,f4,f5,ff⟩:=six_cells R9
      refine bodyPost_ret (v:=.tuple #[.agg (val6 s oA sn oc okA skn okc),.bool true]) (by simp [results,Try.results83,go_sem,f0,f1,f2,f3,f4,f5,val6]) rfl ?_
      exact ⟨oA,sn,oc,okA,skn,okc,by rw [hans.out];rfl,by rw [hans.out];exact hN,hb9⟩
end Go.Proofs.Ytidimannfemnmaa
namespace Go.Proofs.Ytidimannfemnmaa
open Go.RowKit
set_option maxRecDepth 20000

structure Bx (W:World) (b:Nat) (s:Nd) (aA kA:Option Addr) (an ac kn kc:Nat):Prop where
  lt:b < W.heap.size
  row:W.heap[b]? = some (.cells (val6 s aA an ac kA kn kc) 36 (0,0))
  node:NodeV (Old W) W aA an ac kA kn kc s
section
variable {W W':World} {b:Nat} {s:Nd} {aA kA:Option Addr} {an ac kn kc:Nat}
theorem Bx.below (h:Bx W b s aA kA an ac kn kc) (hb:Below W.heap.size W W'):Bx W' b s aA kA an ac kn kc:=⟨Nat.lt_of_lt_of_le h.lt hb.size,(hb.block b h.lt).trans h.row,h.node.below hb⟩
theorem Bx.new (h:NodeV (Old W) W aA an ac kA kn kc s):Bx (W.alloc (.cells (val6 s aA an ac kA kn kc) 36)) W.heap.size s aA kA an ac kn kc :=
  ⟨by simp,heap_alloc_new W _,h.below ((Below.refl _ _).alloc (Nat.le_refl _) _)⟩
theorem Bx.cells (h:Bx W b s aA kA an ac kn kc):W.cell? ⟨b,0,none⟩ = some (.int .u64 (s.id:Int))∧W.cell? ⟨b,1,none⟩ = some (.bool s.leaf)∧W.cell? ⟨b,2,none⟩ = some (.string ⟨s.label.toArray⟩)∧W.cell? ⟨b,3,none⟩ = some (.slice aA an ac) ∧
    W.cell? ⟨b,4,none⟩ = some (.string ⟨s.text.toArray⟩)∧W.cell? ⟨b,5,none⟩ = some (.slice kA kn kc):=by
  have h:=h.row
  unfold val6 at h
  obtain ⟨c0,c1,c2,c3,c4,c5,-⟩:=six_cells h
  exact ⟨c0,c1,c2,c3,c4,c5⟩
end
end Go.Proofs.Ytidimannfemnmaa
namespace Go.Proofs.Ytidimannfemnmaa
open Go.RowKit
set_option maxRecDepth 20000

def insK (at_:Nat) (x:Nd) (l:List Nd):List Nd:=l.take at_ ++ x :: l.drop at_
def delK (c:Nat) (l:List Nd):List Nd:=l.take c ++ l.drop (c + 1)
def modV (t:Nd) (p:List Int) (f:List Nd→List Nd):Option Nd:=(atV t p).bind fun y=>putV t p (y.withKids (f y.kids))
def delAt (t:Nd):List Int→Option Nd
  | []=>none
  | c :: p=>modV t ((c :: p).dropLast) (delK ((c :: p).getLast (by simp)).toNat)
def docFrom:List Int→List Int→Nat→List Int
  | [],_,_=>[]
  | f :: r,[],at_=>(if (at_:Int)≤f then f + 1 else f) :: r
  | f :: r,e :: s,at_=>if f = e then f :: docFrom r s at_ else f :: r
end Go.Proofs.Ytidimannfemnmaa
