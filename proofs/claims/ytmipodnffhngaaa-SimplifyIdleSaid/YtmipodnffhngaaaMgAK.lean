/- MgAK: TopV TopC LtxQ LtxCq LtxCr LtxR TreY TopRa TreZa -/
import Derived.Test.YtmipodnffhngaaaMgAF
import Derived.BigQuiet
import Derived.RegionTactic
set_option linter.all false
namespace Go.Proofs.Ytmipodnffhngaaa.Top
open Go.RowKit
set_option maxRecDepth 20000
set_option linter.unusedVariables false

def Nw (T:Nat→Prop) (w w':World) (k:Nat):Prop:=T k∨(w.heap.size≤k∧k < w'.heap.size)
def AtAns (T:Nat→Prop) (w:World) (t:Nd) (p:List Int) (e:Ending) (w':World):Prop :=
  ∃ aA an ac kA kn kc,e = .returned (.tuple #[.agg (val6 ((atV t p).getD Nd.zero) aA an ac kA kn kc),.bool (atV t p).isSome])∧NodeV (Nw T w w') w' aA an ac kA kn kc ((atV t p).getD Nd.zero)∧Below w.heap.size w w'
set_option maxHeartbeats 4000000 in
theorem at_T (T:Nat→Prop) (w:World) (hT:∀ k,T k→k < w.heap.size) (t:Nd) (aA kA:Option Addr) (an ac kn kc:Nat) (h:NodeV T w aA an ac kA kn kc t) (pA:Option Addr) (pn pc:Nat) (p:List Int) (hp:Its w pA pn p) (hpn:pn≤maxLen)
    (hbig:weighV t≤1000000) :
    Calls Try.prog 36 #[.agg (val6 t aA an ac kA kn kc),.slice pA pn pc] w (AtAns T w t p):=by
  have h':=Lib.hid h
  have hp':=Lib.hid hp
  have hpl:=Lib.hid hp.1
  clear h hp
  unfold maxLen at hpn
  unfold val6
  go_enter Try.func36,Try.ntmps36
  go_wp2_with fail
  go_loopw [10] (fun k wr=>∃ (q:Nat) (s:Nd) (sA skA:Option Addr) (sn sc skn skc:Nat),q≤pn∧k = .int .i64 (q:Int)∧atV t p = atV s (p.drop q)∧weighV s≤1000000∧NodeV T w sA sn sc skA skn skc s ∧
    wr.heap[w.heap.size]? = some (.cells (val6 s sA sn sc skA skn skc) 33 (0,0))∧wr.heap[w.heap.size + 1]? = some (.cells zero6 33 (0,0))∧Below w.heap.size w wr) (fun k _=>pn - (intOf k).toNat)
  case atStart =>
    exact ⟨0,t,aA,kA,an,ac,kn,kc,Nat.zero_le _,rfl,rfl,hbig,h'.out,two_first w _ _,two_second w _ _,((Below.refl _ w).alloc (Nat.le_refl _) _).alloc (by simp) _⟩
  case round =>
    obtain ⟨q,s,sA,skA,sn,sc,skn,skc,hq,rfl,hat,hz,hv,hB,hR,hbel⟩:=hrel
    have hf:=hv.facts
    have hkl:=hf.kl
    have hb:=weigh_rows s
    unfold val6 at hB
    unfold zero6 at hR
    obtain ⟨c0,c1,c2,c3,c4,c5,cf⟩:=six_cells hB
    obtain ⟨r0,r1,r2,r3,r4,r5,rf⟩:=six_cells hR
    have hBl:=(Array.getElem?_eq_some_iff.1 hB).1
    have hRl:=(Array.getElem?_eq_some_iff.1 hR).1
    by_cases h1:q < pn
    · have h1I:(q:Int) < (pn:Int):=by omega
      obtain ⟨ad,i,rfl,hi,hci⟩:=(hp'.out.below hbel).at_ h1
      have hdrop:p.drop q = i :: p.drop (q + 1):=by
        have hl:q < p.length:=by rw [hpl.out];exact h1
        rw [List.drop_eq_getElem_cons hl]
        rw [List.getElem?_eq_getElem hl] at hi
        injection hi with hi
        rw [hi]
      rw [hdrop] at hat
      have hkm:=hf.kcm
      have hknc:=hf.knc
      rcases hasB_cases skn i with hno | ⟨j,rfl,hj,hyes⟩
      · have hcall:=Lib.hid (hasChild_any wr (s.id:Int) s.leaf s.label s.text sA skA sn sc skn skc i (by omega))
        rw [hno] at hcall
        have hans:=Lib.hid (hat.trans (atV_none (by rw [hkl];exact hno)))
        have hbel':=Lib.hid hbel
        have hR':=Lib.hid hR
        clear hat hf hkl hv hB hR hbel hno hdrop hkm hknc hz hb hi
        go_wp2_with (go_at_call 81;refine hcall.out.mono ?_;rintro e w1 ⟨rfl,hb1⟩;have R1:=(hb1.block _ hRl).trans hR'.out;obtain ⟨d0,d1,d2,d3,d4,d5,df⟩:=six_cells R1)
        have hW:w.heap.size + 1 < w1.heap.size:=(Array.getElem?_eq_some_iff.1 R1).1
        have R9:=set_six (b0:=.int .u64 0) (b1:=.bool false) (b2:=.string ⟨#[]⟩) (b3:=.slice none 0 0) (b4:=.string ⟨#[]⟩) (b5:=.slice none 0 0) R1
        have hb9:Below w.heap.size w _:=below_six (hbel'.out.trans (hb1.mono hbel'.out.size)) (b0:=.int .u64 0) (b1:=.bool false) (b2:=.string ⟨#[]⟩) (b3:=.slice none 0 0) (b4:=.string ⟨#[]⟩) (b5:=.slice none 0 0) (Nat.le_succ w.heap.size)
        generalize ((((((w1.setCell ⟨w.heap.size + 1,0,none⟩ (.int .u64 0)).setCell ⟨w.heap.size + 1,1,none⟩ (.bool false)).setCell ⟨w.heap.size + 1,2,none⟩ (.string ⟨#[]⟩)).setCell ⟨w.heap.size + 1,3,none⟩ (.slice none 0 0)).setCell ⟨w.heap.size + 1,4,none⟩ (.string ⟨#[]⟩)).setCell ⟨w.heap.size + 1,5,none⟩ (.slice none 0 0)) = W9 at R9 hb9 ⊢
        obtain ⟨d0,d1,d2,d3,d4,d5,df⟩:=six_cells R9
        refine bodyPost_ret (v:=.tuple #[.agg zero6,.bool false]) (by simp [results,Try.results36,go_sem,d0,d1,d2,d3,d4,d5,zero6]) rfl ?_
        exact ⟨none,0,0,none,0,0,by rw [hans.out];rfl,by rw [hans.out];exact zero_node,hb9⟩
      · obtain ⟨kd,hkd⟩:∃ kd,s.kids[j]? = some kd:=⟨s.kids[j]'(by omega),List.getElem?_eq_getElem _⟩
        obtain ⟨ka,rfl,hka,aA3,an3,ac3,kA3,kn3,kc3,hsix,hv3⟩:=hf.row.at_ hkd
        rw [Nat.zero_add] at hka hsix
        have hcall:=Lib.hid (hasChild_any wr (s.id:Int) s.leaf s.label s.text sA (some ka) sn sc skn skc (j:Int) (by omega))
        rw [hyes] at hcall
        have hans:=Lib.hid (hat.trans (atV_some hkd))
        have hpath:=Lib.hid (Nat.le_trans (weigh_kid hkd) hz)
        have hjI:(j:Int) < (skn:Int):=by omega
        have hbel':=Lib.hid hbel
        have hR':=Lib.hid hR
        have hv3':=Lib.hid hv3
        clear hat hf hkl hv hR hbel hyes hdrop hkm hknc hz hb hi hkd hv3
        go_wp2_with (go_at_call 81;refine hcall.out.mono ?_;rintro e w1 ⟨rfl,hb1⟩;have B1:=(hb1.block _ hBl).trans hB;have R1:=(hb1.block _ hRl).trans hR'.out;obtain ⟨d0,d1,d2,d3,d4,d5,df⟩:=six_cells B1;obtain ⟨s0,s1,s2,s3,s4,s5⟩:=hsix.kept (w':=w1) (((hbel'.out.trans (hb1.mono hbel'.out.size))).block _ (hT _ hka)))
        go_roundw
        case rel =>
          have hbw:=hbel'.out.trans (hb1.mono hbel'.out.size)
          refine ⟨q + 1,kd,aA3,kA3,an3,ac3,kn3,kc3,by omega,by go_num,hans.out,hpath.out,hv3'.out,set_six B1,(set_six_other (by omega)).trans R1,below_six hbw (Nat.le_refl _)⟩
        case measure=>simp [intOf];omega
    · have h1I:¬ (q:Int) < (pn:Int):=by omega
      have hans:=Lib.hid (show atV t p = some s by rw [hat,List.drop_of_length_le (by rw [hpl.out];omega)];rfl)
      have hcall:=Lib.hid (owned_any wr T s sA skA sn sc skn skc (hv.kept (fun _ h=>h) (fun k hk=>hbel.block k (hT k hk))) (fun k hk=>Nat.lt_of_lt_of_le (hT k hk) hbel.size) (by have:=hf.ats.1;omega) (by omega))
      have hv':=Lib.hid (hv.kept (w':=wr) (T':=T) (fun _ h=>h) (fun k hk=>hbel.block k (hT k hk)))
      have hbel':=Lib.hid hbel
      have hR':=Lib.hid hR
      clear hat hf hkl hv hR hbel hz hb hB
      go_wp2_with (go_at_call 82;refine hcall.out.mono ?_;rintro e w1 ⟨oA,oc,okA,okc,gA,ks,rfl,hO⟩;have R1:=(hO.bel.block _ hRl).trans hR'.out;obtain ⟨d0,d1,d2,d3,d4,d5,df⟩:=six_cells R1;have hO':=Lib.hid hO;clear hO)
      have R9:=set_six (b0:=.int .u64 (s.id:Int)) (b1:=.bool s.leaf) (b2:=.string ⟨s.label.toArray⟩) (b3:=.slice oA sn oc) (b4:=.string ⟨s.text.toArray⟩) (b5:=.slice okA skn okc) R1
      have hO:=hO'.out
      have hbw:=hbel'.out.trans (hO.bel.mono hbel'.out.size)
      have hb9:Below w.heap.size w _:=below_six hbw (b0:=.int .u64 (s.id:Int)) (b1:=.bool s.leaf) (b2:=.string ⟨s.label.toArray⟩) (b3:=.slice oA sn oc) (b4:=.string ⟨s.text.toArray⟩) (b5:=.slice okA skn okc) (Nat.le_succ w.heap.size)
      have hz1:=hO.bel.size
      have hN:NodeV (Nw T w ((((((w1.setCell ⟨w.heap.size + 1,0,none⟩ (.int .u64 (s.id:Int))).setCell ⟨w.heap.size + 1,1,none⟩ (.bool s.leaf)).setCell ⟨w.heap.size + 1,2,none⟩ (.string ⟨s.label.toArray⟩)).setCell ⟨w.heap.size + 1,3,none⟩ (.slice oA sn oc)).setCell ⟨w.heap.size + 1,4,none⟩ (.string ⟨s.text.toArray⟩)).setCell ⟨w.heap.size + 1,5,none⟩ (.slice okA skn okc))) ((((((w1.setCell ⟨w.heap.size + 1,0,none⟩ (.int .u64 (s.id:Int))).setCell ⟨w.heap.size + 1,1,none⟩ (.bool s.leaf)).setCell ⟨w.heap.size + 1,2,none⟩ (.string ⟨s.label.toArray⟩)).setCell ⟨w.heap.size + 1,3,none⟩ (.slice oA sn oc)).setCell ⟨w.heap.size + 1,4,none⟩ (.string ⟨s.text.toArray⟩)).setCell ⟨w.heap.size + 1,5,none⟩ (.slice okA skn okc)) oA sn oc okA skn okc s:=(hO.node hv'.out (fun k hk=>Nat.lt_of_lt_of_le (hT k hk) hbel'.out.size)).kept (fun k hk=>by
          show T k∨_
          have hsz:=hbel'.out.size
          simp only [World.size_setCell]
          rcases hk with hk | hk
          · exact .inl hk
          · exact .inr ⟨by omega,hk.2⟩) (fun k hk=>set_six_other (by
          have hRl2:=hRl
          rcases hk with hk | hk
          · have:=hT k hk
            omega
          · omega))
      generalize ((((((w1.setCell ⟨w.heap.size + 1,0,none⟩ (.int .u64 (s.id:Int))).setCell ⟨w.heap.size + 1,1,none⟩ (.bool s.leaf)).setCell ⟨w.heap.size + 1,2,none⟩ (.string ⟨s.label.toArray⟩)).setCell ⟨w.heap.size + 1,3,none⟩ (.slice oA sn oc)).setCell ⟨w.heap.size + 1,4,none⟩ (.string ⟨s.text.toArray⟩)).setCell ⟨w.heap.size + 1,5,none⟩ (.slice okA skn okc)) = W9 at R9 hb9 hN ⊢
      obtain ⟨f0,f1,f2,f3,f4,f5,ff⟩:=six_cells R9
      refine bodyPost_ret (v:=.tuple #[.agg (val6 s oA sn oc okA skn okc),.bool true]) (by simp [results,Try.results36,go_sem,f0,f1,f2,f3,f4,f5,val6]) rfl ?_
      exact ⟨oA,sn,oc,okA,skn,okc,by rw [hans.out];rfl,by rw [hans.out];exact hN,hb9⟩
def Ex (T:Nat→Prop) (b0:Nat) (W:World) (k:Nat):Prop:=(T k∨b0≤k)∧k < W.heap.size∧k ≠ b0 + 1 + 1
def Hole (T:Nat→Prop) (b0:Nat) (W:World) (eb eo:Nat) (f:Nd→Nd):Prop :=
  ∀ (W':World) (z:Nd),W.heap.size≤W'.heap.size→(∀ k,k < W.heap.size→k ≠ eb→W'.heap[k]? = W.heap[k]?)→(∀ o,(o < eo∨eo + 5 < o)→W'.cell? ⟨eb,o,none⟩ = W.cell? ⟨eb,o,none⟩) →
    NodeAt (Ex T b0 W') W' ⟨eb,eo,none⟩ z→NodeAt (Ex T b0 W') W' ⟨b0,0,none⟩ (f z)
theorem hole_step {T:Nat→Prop} {w W W1 W2:World} (hT:∀ k,T k→k < w.heap.size) {b0 eb eo:Nat} {f:Nd→Nd} {s:Nd} {sA skA aA kA:Option Addr} {sn sc skn skc an ac kn kc gA j:Nat} {ks:List KV} (hb:Below w.heap.size w W) (hb0:b0 = w.heap.size) (hr:b0 + 1 + 1 < W.heap.size) (hre:eb ≠ b0 + 1 + 1) (hole:Hole T b0 W eb eo f) (heb:eb < W.heap.size) (hew:w.heap.size≤eb)
    (hO:Owned W W1 T s aA an ac kA kn kc gA ks) (hv:NodeV T W sA sn sc skA skn skc s) (s1:W2.heap.size = W1.heap.size) (s2:∀ k,k ≠ eb→W2.heap[k]? = W1.heap[k]?) (s3:∀ o,(o < eo∨eo + 5 < o)→W2.cell? ⟨eb,o,none⟩ = W1.cell? ⟨eb,o,none⟩)
    (s4:Six W2 ⟨eb,eo,none⟩ s aA an ac kA kn kc) (hj:j < kn) :
    ∃ g kv cur,kA = some ⟨g,0,none⟩∧W.heap.size≤g∧g < W1.heap.size∧Hole T b0 W2 g (j * 6) (fun z=>f (s.withKids (s.kids.set j z)))∧ks[j]? = some kv∧s.kids[j]? = some kv.t∧kv.six W2 ⟨g,j * 6,none⟩∧kv.ok T W∧W2.heap[g]? = some (.cells cur 33 (0,0))∧j * 6 + 5 < cur.size:=by
  have hlen:=hO.len
  have hbel:=hO.bel
  have hz:=hbel.size
  obtain ⟨A,n,c,e,hn,hnc,-,-,hq⟩:=hO.row.shape
  injection e with e1 e2 e3
  subst e1 e2 e3
  obtain ⟨kv,hkv⟩:∃ kv,ks[j]? = some kv:=⟨ks[j]'(by omega),List.getElem?_eq_getElem _⟩
  obtain ⟨g,rfl,hg1,hg2,hgs⟩:=hq j kv hkv
  have hge:g ≠ eb:=by omega
  obtain ⟨cur,hcur,hcsz⟩:∃ cur,W1.heap[g]? = some (.cells cur 33 (0,0))∧j * 6 + 5 < cur.size:=by
    rcases hO.row.2 with ⟨h0,h1⟩ | ⟨g',cap,cur,e,-,hg,hcap,-,hsz,-⟩
    · cases h0
    · injection e with e1 e2 e3
      injection e1 with e1
      injection e1 with e1
      subst e1
      exact ⟨cur,hg,by rw [hsz];omega⟩
  have hgn:g ≠ gA:=hO.ne _ rfl
  have hkt:∀ (q:Nat) (v:KV),ks[q]? = some v→s.kids[q]? = some v.t:=fun q v h=>by rw [← hO.map,List.getElem?_map,h];rfl
  have b12:∀ k,k ≠ eb→k < W1.heap.size→W2.heap[k]? = W1.heap[k]?:=fun k h _=>s2 k h
  refine ⟨g,kv,cur,rfl,hg1,hg2,?_,hkv,hkt j kv hkv,hgs.kept (b12 g hge hg2),hO.ok kv (List.mem_of_getElem? hkv),(s2 g hge).trans hcur,hcsz⟩
  intro W' z hzs hother hcell hN
  have hbe:W'.heap[eb]? = W2.heap[eb]?:=hother eb (by omega) (fun e=>hge e.symm)
  refine hole W' (s.withKids (s.kids.set j z)) (by omega) (fun k hk hne=>(hother k (by omega) (by omega)).trans ((s2 k hne).trans (hbel.block k hk))) (fun o ho=>?_) ?_
  · exact (World.cell?_of_block (a:=⟨eb,o,none⟩) hbe).trans ((s3 o ho).trans (World.cell?_of_block (a:=⟨eb,o,none⟩) (hbel.block eb heb)))
  · refine ⟨⟨.inr (by show b0≤eb;omega),by show eb < _;omega,hre⟩,aA,an,ac,some ⟨g,0,none⟩,kn,kc,(six_with ..).2 (s4.kept hbe),?_⟩
    have hf:=hv.facts
    have hga:=hO.ga
    have hat:AtsIn (Ex T b0 W') W' aA an s.attrs:=hO.ats.kept (fun k hk=>by subst hk;exact ⟨.inr (by have:=hb.size;omega),by omega,by omega⟩) (fun k hk=>by subst hk;exact (hother k (by omega) (fun e=>hgn e.symm)).trans (s2 k (by omega)))
    have hrow:RowAt (Ex T b0 W') W' (some ⟨g,0,none⟩) 0 (s.kids.set j z):=by
      refine RowAt.of _ 0 fun q t hqt=>⟨_,rfl,?_⟩
      rw [Nat.zero_add,add_zero_off]
      by_cases hqj:q = j
      · subst hqj
        rw [List.getElem?_set_self (by have:=hf.kl;have:=(List.getElem?_eq_some_iff.1 (hkt q kv hkv)).1;omega)] at hqt
        injection hqt with hqt
        subst hqt
        exact hN
      · rw [List.getElem?_set_ne (fun e=>hqj e.symm)] at hqt
        obtain ⟨v,hvq⟩:∃ v,ks[q]? = some v:=by
          have:=(List.getElem?_eq_some_iff.1 hqt).1
          have hm:ks.length = s.kids.length:=by rw [← hO.map,List.length_map]
          exact ⟨ks[q]'(by omega),List.getElem?_eq_getElem _⟩
        have hvt:=hkt q v hvq
        rw [hqt] at hvt
        injection hvt with hvt
        subst hvt
        obtain ⟨g',eg,-,-,h6⟩:=hq q v hvq
        injection eg with eg
        injection eg with eg
        subst eg
        have hc6:∀ o,o < q * 6 + 6→q * 6≤o→W'.cell? ⟨g,o,none⟩ = W1.cell? ⟨g,o,none⟩:=fun o h1 h2=>(hcell o (by omega)).trans (World.cell?_of_block (a:=⟨g,o,none⟩) (s2 g hge))
        obtain ⟨t0,t1,t2,t3,t4,t5⟩:=h6
        refine ⟨⟨.inr (by show b0≤g;have:=hb.size;omega),by show g < _;omega,by show g ≠ _;omega⟩,v.aA,v.an,v.ac,v.kA,v.kn,v.kc,⟨(hc6 (q * 6) (by omega) (by omega)).trans t0,(hc6 (q * 6 + 1) (by omega) (by omega)).trans t1,(hc6 (q * 6 + 2) (by omega) (by omega)).trans t2,(hc6 (q * 6 + 3) (by omega) (by omega)).trans t3,(hc6 (q * 6 + 4) (by omega) (by omega)).trans t4,(hc6 (q * 6 + 5) (by omega) (by omega)).trans t5⟩,?_⟩
        refine NodeV.kept (T:=T) (w:=W) (fun k hk=>?_) (fun k hk=>?_) _ _ _ _ _ _ _ (hO.ok v (List.mem_of_getElem? hvq))
        · have hk':k < w.heap.size:=hT k hk
          exact ⟨.inl hk,by have:=hb.size;omega,by omega⟩
        · have hk':k < w.heap.size:=hT k hk
          have:=hb.size
          exact (hother k (by omega) (by omega)).trans ((s2 k (by omega)).trans (hbel.block k (by omega)))
    have hkl:(s.kids.set j z).length = kn:=by
      rw [List.length_set,← hO.map,List.length_map]
      exact hlen
    have hfi:=hf.id
    have hfl:=hf.label
    have hft:=hf.text
    cases s
    exact NFacts.node ⟨hfi,hfl,hft,hat,hO.anc,hO.acm,hO.anil,hkl,hO.knc,hO.kcm,hO.knil,hrow⟩
theorem hole_below {T:Nat→Prop} {b0 eb eo:Nat} {W W':World} {f:Nd→Nd} (h:Hole T b0 W eb eo f) (heb:eb < W.heap.size) (hb:Below W.heap.size W W'):Hole T b0 W' eb eo f:=fun W2 z hz ho hc hN =>
  h W2 z (Nat.le_trans hb.size hz) (fun k hk hne=>(ho k (Nat.lt_of_lt_of_le hk hb.size) hne).trans (hb.block k hk)) (fun o h=>(hc o h).trans (hb.cell (p:=⟨eb,o,none⟩) heb)) hN
def PutAns (T:Nat→Prop) (w:World) (t:Nd) (p:List Int) (x:Nd) (e:Ending) (w':World):Prop :=
  ∃ aA an ac kA kn kc,e = .returned (.tuple #[.agg (val6 ((putV t p x).getD Nd.zero) aA an ac kA kn kc),.bool (putV t p x).isSome])∧NodeV (Nw T w w') w' aA an ac kA kn kc ((putV t p x).getD Nd.zero)∧Below w.heap.size w w'
set_option maxHeartbeats 8000000 in
theorem put_T (T:Nat→Prop) (w:World) (hT:∀ k,T k→k < w.heap.size) (t x:Nd) (aA kA xA xkA:Option Addr) (an ac kn kc xn xc xkn xkc:Nat) (h:NodeV T w aA an ac kA kn kc t) (hx:NodeV T w xA xn xc xkA xkn xkc x) (pA:Option Addr) (pn pc:Nat) (p:List Int) (hp:Its w pA pn p) (hpn:pn≤maxLen)
    (hbig:weighV t≤1000000) (hbigx:weighV x≤1000000) :
    Calls Try.prog 138 #[.agg (val6 t aA an ac kA kn kc),.slice pA pn pc,.agg (val6 x xA xn xc xkA xkn xkc)] w (PutAns T w t p x):=by
  have h':=Lib.hid h
  have hx':=Lib.hid hx
  have hp':=Lib.hid hp
  have hpl:=Lib.hid hp.1
  have hbigx':=Lib.hid hbigx
  clear h hx hp hbigx
  unfold maxLen at hpn
  obtain ⟨W3,hW3⟩:∃ W3,W3 = ((w.alloc (.cells (val6 t aA an ac kA kn kc) 33)).alloc (.cells (val6 x xA xn xc xkA xkn xkc) 33)).alloc (.cells zero6 33):=⟨_,rfl⟩
  have hstart:=Lib.hid (show W3.heap[w.heap.size]? = some (.cells (val6 t aA an ac kA kn kc) 33 (0,0))∧W3.heap[w.heap.size + 1]? = some (.cells (val6 x xA xn xc xkA xkn xkc) 33 (0,0))∧W3.heap[w.heap.size + 1 + 1]? = some (.cells zero6 33 (0,0))∧Below w.heap.size w W3 by
    rw [hW3]
    have h1:=heap_alloc_new w (.cells (val6 t aA an ac kA kn kc) 33)
    have h2:=heap_alloc_new (w.alloc (.cells (val6 t aA an ac kA kn kc) 33)) (.cells (val6 x xA xn xc xkA xkn xkc) 33)
    have h3:=heap_alloc_new ((w.alloc (.cells (val6 t aA an ac kA kn kc) 33)).alloc (.cells (val6 x xA xn xc xkA xkn xkc) 33)) (.cells zero6 33)
    rw [World.size_alloc] at h2
    rw [World.size_alloc,World.size_alloc] at h3
    exact ⟨(Go.heap_alloc_old _ _ (by simp;omega)).trans ((Go.heap_alloc_old _ _ (by simp)).trans h1),(Go.heap_alloc_old _ _ (by simp)).trans h2,h3,(((Below.refl w.heap.size w).alloc (Nat.le_refl _) _).alloc (by simp) _).alloc (by simp;omega) _⟩)
  unfold zero6 val6 at hW3
  unfold val6
  go_enter Try.func138,Try.ntmps138
  go_wp2_with fail
  rw [← hW3]
  clear hW3
  go_loopw [8,13] (fun pl k wr=>∃ (q:Nat) (s:Nd) (sA skA:Option Addr) (sn sc skn skc eb eo:Nat) (f:Nd→Nd) (cs:Array Value),q≤pn∧k = .int .i64 (q:Int)∧pl = .pointer (some ⟨eb,eo,none⟩)∧putV t p x = (putV s (p.drop q) x).map f∧weighV s≤1000000 ∧
    NodeV T w sA sn sc skA skn skc s∧Six wr ⟨eb,eo,none⟩ s sA sn sc skA skn skc∧wr.heap[eb]? = some (.cells cs 33 (0,0))∧eo + 5 < cs.size∧(eb = w.heap.size∨w.heap.size + 3≤eb)∧Hole T w.heap.size wr eb eo f ∧
    wr.heap[w.heap.size + 1]? = some (.cells (val6 x xA xn xc xkA xkn xkc) 33 (0,0))∧wr.heap[w.heap.size + 1 + 1]? = some (.cells zero6 33 (0,0))∧Below w.heap.size w wr) (fun _ k _=>pn - (intOf k).toNat)
  case atStart =>
    obtain ⟨g1,g2,g3,g4⟩:=hstart.out
    unfold val6 at g1
    obtain ⟨c0,c1,c2,c3,c4,c5,-⟩:=six_cells g1
    exact ⟨0,t,aA,kA,an,ac,kn,kc,w.heap.size,0,fun z=>z,_,Nat.zero_le _,rfl,rfl,by simp,hbig,h'.out,⟨c0,c1,c2,c3,c4,c5⟩,g1,by simp,.inl rfl,fun _ _ _ _ _ h=>h,g2,g3,g4⟩
  case round =>
    obtain ⟨q,s,sA,skA,sn,sc,skn,skc,eb,eo,f,cs,hq,rfl,rfl,hput,hsw,hv,hsix,hrow,hcs,heb,hhole,hX,hZ,hbel⟩:=hrel
    have hf:=hv.facts
    have hkl:=hf.kl
    have hwr:=weigh_rows s
    have hrl:=(Array.getElem?_eq_some_iff.1 hrow).1
    have hXl:=(Array.getElem?_eq_some_iff.1 hX).1
    have hZl:=(Array.getElem?_eq_some_iff.1 hZ).1
    have hrl':=Lib.hid hrl
    have hXl':=Lib.hid hXl
    have hZl':=Lib.hid hZl
    have hX':=Lib.hid hX
    have hZ':=Lib.hid hZ
    have hrow':=Lib.hid hrow
    have hhole':=Lib.hid hhole
    have hbel':=Lib.hid hbel
    have hput':=Lib.hid hput
    have hcs':=Lib.hid hcs
    have heb':=Lib.hid heb
    have hsix':=Lib.hid hsix
    obtain ⟨c0,c1,c2,c3,c4,c5⟩:=hsix
    by_cases h1:q < pn
    · have h1I:(q:Int) < (pn:Int):=by omega
      obtain ⟨ad,i,rfl,hi,hci⟩:=(hp'.out.below hbel).at_ h1
      have hdrop:p.drop q = i :: p.drop (q + 1):=by
        have hl:q < p.length:=by rw [hpl.out];exact h1
        rw [List.drop_eq_getElem_cons hl]
        rw [List.getElem?_eq_getElem hl] at hi
        injection hi with hi
        rw [hi]
      rw [hdrop] at hput
      have hkm:=hf.kcm
      have hknc:=hf.knc
      rcases hasB_cases skn i with hno | ⟨j,rfl,hj,hyes⟩
      · have hcall:=Lib.hid (hasChild_any wr (s.id:Int) s.leaf s.label s.text sA skA sn sc skn skc i (by omega))
        rw [hno] at hcall
        have hans:=Lib.hid (show putV t p x = none by rw [hput,putV_none (by rw [hkl];exact hno)];rfl)
        clear hput hf hkl hv hX hZ hrow hhole hbel hno hdrop hkm hknc hwr hi hcs heb hrl hXl hZl hsw
        go_wp2_with (go_at_call 81;refine hcall.out.mono ?_;rintro e w1 ⟨rfl,hb1⟩;have R1:=(hb1.block _ hZl'.out).trans hZ'.out;unfold zero6 at R1;obtain ⟨d0,d1,d2,d3,d4,d5,df⟩:=six_cells R1)
        have R9:=set_six (b0:=.int .u64 0) (b1:=.bool false) (b2:=.string ⟨#[]⟩) (b3:=.slice none 0 0) (b4:=.string ⟨#[]⟩) (b5:=.slice none 0 0) R1
        have hb9:Below w.heap.size w _:=below_six (hbel'.out.trans (hb1.mono hbel'.out.size)) (b0:=.int .u64 0) (b1:=.bool false) (b2:=.string ⟨#[]⟩) (b3:=.slice none 0 0) (b4:=.string ⟨#[]⟩) (b5:=.slice none 0 0) (show w.heap.size≤w.heap.size + 1 + 1 by omega)
        generalize ((((((w1.setCell ⟨w.heap.size + 1 + 1,0,none⟩ (.int .u64 0)).setCell ⟨w.heap.size + 1 + 1,1,none⟩ (.bool false)).setCell ⟨w.heap.size + 1 + 1,2,none⟩ (.string ⟨#[]⟩)).setCell ⟨w.heap.size + 1 + 1,3,none⟩ (.slice none 0 0)).setCell ⟨w.heap.size + 1 + 1,4,none⟩ (.string ⟨#[]⟩)).setCell ⟨w.heap.size + 1 + 1,5,none⟩ (.slice none 0 0)) = W9 at R9 hb9 ⊢
        obtain ⟨d0,d1,d2,d3,d4,d5,df⟩:=six_cells R9
        refine bodyPost_ret (v:=.tuple #[.agg zero6,.bool false]) (by simp [results,Try.results138,go_sem,d0,d1,d2,d3,d4,d5,zero6]) rfl ?_
        exact ⟨none,0,0,none,0,0,by rw [hans.out];rfl,by rw [hans.out];exact zero_node,hb9⟩
      · obtain ⟨kd,hkd⟩:∃ kd,s.kids[j]? = some kd:=⟨s.kids[j]'(by omega),List.getElem?_eq_getElem _⟩
        have hcall:=Lib.hid (hasChild_any wr (s.id:Int) s.leaf s.label s.text sA skA sn sc skn skc (j:Int) (by omega))
        rw [hyes] at hcall
        have hans:=Lib.hid (show putV t p x = (putV kd (p.drop (q + 1)) x).map fun z=>f (s.withKids (s.kids.set j z)) by rw [hput,putV_some hkd,Option.map_map];rfl)
        have hvw:Hid (∀ W,Below wr.heap.size wr W→NodeV T W sA sn sc skA skn skc s):=fun W hb=>hv.kept (fun _ h=>h) (fun k hk=>(hb.block k (Nat.lt_of_lt_of_le (hT k hk) hbel'.out.size)).trans (hbel'.out.block k (hT k hk)))
        have hwk:=Lib.hid (Nat.le_trans (weigh_kid hkd) hsw)
        have hkd':=Lib.hid hkd
        have hjI:(j:Int) < (skn:Int):=by omega
        have hj0:0 < skn:=by omega
        have hsn:sn≤1000000:=by have:=hf.ats.1;omega
        have hkn:skn≤1000000:=by omega
        have holdw:=Lib.hid (show ∀ (W:World),Below wr.heap.size wr W→∀ k,T k→k < W.heap.size from fun W hb k hk=>Nat.lt_of_lt_of_le (Nat.lt_of_lt_of_le (hT k hk) hbel'.out.size) hb.size)
        clear hput hf hkl hv hX hZ hrow hhole hbel hyes hdrop hkm hknc hwr hi hcs heb hrl hXl hZl hsw hkd
        go_upto_region 8 with (first
          | (go_at_call 81;refine hcall.out.mono ?_;rintro e w1 ⟨rfl,hb1⟩;obtain ⟨d0,d1,d2,d3,d4,d5⟩:=hsix'.out.kept (w':=w1) (hb1.block _ hrl'.out);have hb1':=Lib.hid hb1;clear hb1)
          | (go_at_call 82;refine (owned_any w1 T s sA skA sn sc skn skc (hvw.out _ hb1'.out) (holdw.out _ hb1'.out) hsn hkn).mono ?_;rintro e w2 ⟨oA,oc,okA,okc,gA,ks,rfl,hO⟩;obtain ⟨g,rfl⟩:=hO.some_ hj0;have hr2:=(hO.bel.block eb (Nat.lt_of_lt_of_le hrl'.out hb1'.out.size)).trans ((hb1'.out.block eb hrl'.out).trans hrow'.out);have ff:∀ o,w2.frozen? ⟨eb,o,none⟩ = false:=(fun o=>frozen_of_row w2 eb o _ _ hr2);obtain ⟨v0,v1,v2,v3,v4,v5⟩:=hsix'.out.kept (w':=w2) ((hO.bel.block eb (Nat.lt_of_lt_of_le hrl'.out hb1'.out.size)).trans (hb1'.out.block eb hrl'.out));have hO':=Lib.hid hO;have hr2':=Lib.hid hr2;clear hO hr2))
        have hin:=six_in (b0:=.int .u64 (s.id:Int)) (b1:=.bool s.leaf) (b2:=.string ⟨s.label.toArray⟩) (b3:=.slice oA sn oc) (b4:=.string ⟨s.text.toArray⟩) (b5:=.slice (some ⟨g,0,none⟩) skn okc) hr2'.out hcs'.out
        have hzz:=six_size (w:=w2) (g:=eb) (e:=eo) (b0:=.int .u64 (s.id:Int)) (b1:=.bool s.leaf) (b2:=.string ⟨s.label.toArray⟩) (b3:=.slice oA sn oc) (b4:=.string ⟨s.text.toArray⟩) (b5:=.slice (some ⟨g,0,none⟩) skn okc)
        have hot:=fun k (hk:k ≠ eb)=>six_other (w:=w2) (g:=eb) (e:=eo) (b0:=.int .u64 (s.id:Int)) (b1:=.bool s.leaf) (b2:=.string ⟨s.label.toArray⟩) (b3:=.slice oA sn oc) (b4:=.string ⟨s.text.toArray⟩) (b5:=.slice (some ⟨g,0,none⟩) skn okc) hk
        have hou:=fun o (ho:o < eo∨eo + 5 < o)=>six_out (b0:=.int .u64 (s.id:Int)) (b1:=.bool s.leaf) (b2:=.string ⟨s.label.toArray⟩) (b3:=.slice oA sn oc) (b4:=.string ⟨s.text.toArray⟩) (b5:=.slice (some ⟨g,0,none⟩) skn okc) hr2'.out ho
        have hbe:=hb1'.out
        have hew:w.heap.size≤eb:=by have:=heb'.out;omega
        have hbw:=hbel'.out.trans (hbe.mono hbel'.out.size)
        have hb3:Below w.heap.size w (six w2 eb eo (.int .u64 (s.id:Int)) (.bool s.leaf) (.string ⟨s.label.toArray⟩) (.slice oA sn oc) (.string ⟨s.text.toArray⟩) (.slice (some ⟨g,0,none⟩) skn okc)):=six_below (hbw.trans (hO'.out.bel.mono hbw.size)) hew
        obtain ⟨w3,hw3⟩:∃ w3,w3 = six w2 eb eo (.int .u64 (s.id:Int)) (.bool s.leaf) (.string ⟨s.label.toArray⟩) (.slice oA sn oc) (.string ⟨s.text.toArray⟩) (.slice (some ⟨g,0,none⟩) skn okc):=⟨_,rfl⟩
        rw [← hw3] at hin hzz hot hou hb3
        unfold six at hw3
        rw [← hw3]
        clear hw3
        obtain ⟨u0,u1,u2,u3,u4,u5⟩:=hin
        have hrw1:=Nat.lt_of_lt_of_le hrl'.out hbe.size
        obtain ⟨g',kv,cur,e1,q1,q2,q3,q4,q5,q6,q7,q8,q9⟩:=hole_step hT hbw rfl (by have:=hZl'.out;have:=hbe.size;omega) (by have:=heb'.out;omega) (hole_below hhole'.out hrl'.out hbe) hrw1 hew hO'.out (hvw.out _ hbe) hzz hot hou ⟨u0,u1,u2,u3,u4,u5⟩ (show j < skn by omega)
        obtain rfl:g = g':=by injection e1 with e1;injection e1
        obtain rfl:kd = kv.t:=by have:=hkd'.out;rw [q5] at this;injection this with this;exact this.symm
        have hX3:=Lib.hid (show w3.heap[w.heap.size + 1]? = some (.cells (val6 x xA xn xc xkA xkn xkc) 33 (0,0)) from (hot _ (by have:=heb'.out;omega)).trans ((hO'.out.bel.block _ (Nat.lt_of_lt_of_le hXl'.out hbe.size)).trans ((hbe.block _ hXl'.out).trans hX'.out)))
        have hZ3:=Lib.hid (show w3.heap[w.heap.size + 1 + 1]? = some (.cells zero6 33 (0,0)) from (hot _ (by have:=heb'.out;omega)).trans ((hO'.out.bel.block _ (Nat.lt_of_lt_of_le hZl'.out hbe.size)).trans ((hbe.block _ hZl'.out).trans hZ'.out)))
        have hgb:w.heap.size + 3≤g:=by have:=hZl'.out;have:=hbe.size;omega
        have hv7:=Lib.hid (show NodeV T w kv.aA kv.an kv.ac kv.kA kv.kn kv.kc kv.t from NodeV.kept (T:=T) (w:=w1) (fun _ h=>h) (fun k hk=>(hbw.block k (hT k hk)).symm) _ _ _ _ _ _ _ q7)
        have h3':=Lib.hid q3
        have h6':=Lib.hid q6
        have h8':=Lib.hid q8
        have h9':=Lib.hid q9
        have hb3':=Lib.hid hb3
        clear q3 q4 q5 q6 q7 q8 q9 hzz hot hou hb3 hbe hbw e1 u0 u1 u2 u3 u4 q1 q2 d0 d1 d2 d3 d4 d5 c0 c1 c2 c3 c4 c5 v0 v1 v2 v3 v4 v5 hrw1 ff
        go_wp2_with fail
        go_roundw
        case rel =>
          exact ⟨q + 1,kv.t,kv.aA,kv.kA,kv.an,kv.ac,kv.kn,kv.kc,g,j * 6,_,cur,by omega,by go_num,rfl,hans.out,hwk.out,hv7.out,h6'.out,h8'.out,h9'.out,.inr hgb,h3'.out,hX3.out,hZ3.out,hb3'.out⟩
        case measure=>simp [intOf];omega
    · have h1I:¬ (q:Int) < (pn:Int):=by omega
      have hans:=Lib.hid (show putV t p x = some (f x) by rw [hput,List.drop_of_length_le (by rw [hpl.out];omega)];rfl)
      unfold val6 at hX
      have hcallx:=Lib.hid (owned_any wr T x xA xkA xn xc xkn xkc (hx'.out.kept (fun _ h=>h) (fun k hk=>hbel.block k (hT k hk))) (fun k hk=>Nat.lt_of_lt_of_le (hT k hk) hbel.size) (by have:=hx'.out.facts.ats.1;have:=weigh_rows x;have:=hbigx'.out;omega) (by have:=hx'.out.facts.kl;have:=weigh_rows x;have:=hbigx'.out;omega))
      have hvx:=Lib.hid (hx'.out.kept (w':=wr) (T':=T) (fun _ h=>h) (fun k hk=>hbel.block k (hT k hk)))
      obtain ⟨x0,x1,x2,x3,x4,x5,-⟩:=six_cells hX
      clear hput hf hkl hv hX hZ hrow hhole hbel hwr hcs heb hrl hXl hZl hsw
      go_upto_region 11 with (go_at_call 82;refine hcallx.out.mono ?_;rintro e w1 ⟨oA,oc,okA,okc,gA,ks,rfl,hO⟩;have hr1:=(hO.bel.block eb hrl'.out).trans hrow'.out;have ff:∀ o,w1.frozen? ⟨eb,o,none⟩ = false:=(fun o=>frozen_of_row w1 eb o _ _ hr1);obtain ⟨v0,v1,v2,v3,v4,v5⟩:=hsix'.out.kept (w':=w1) (hO.bel.block eb hrl'.out);have hO':=Lib.hid hO;have hr1':=Lib.hid hr1;clear hO hr1)
      have hin:=six_in (b0:=.int .u64 (x.id:Int)) (b1:=.bool x.leaf) (b2:=.string ⟨x.label.toArray⟩) (b3:=.slice oA xn oc) (b4:=.string ⟨x.text.toArray⟩) (b5:=.slice okA xkn okc) hr1'.out hcs'.out
      have hzz:=six_size (w:=w1) (g:=eb) (e:=eo) (b0:=.int .u64 (x.id:Int)) (b1:=.bool x.leaf) (b2:=.string ⟨x.label.toArray⟩) (b3:=.slice oA xn oc) (b4:=.string ⟨x.text.toArray⟩) (b5:=.slice okA xkn okc)
      have hot:=fun k (hk:k ≠ eb)=>six_other (w:=w1) (g:=eb) (e:=eo) (b0:=.int .u64 (x.id:Int)) (b1:=.bool x.leaf) (b2:=.string ⟨x.label.toArray⟩) (b3:=.slice oA xn oc) (b4:=.string ⟨x.text.toArray⟩) (b5:=.slice okA xkn okc) hk
      have hou:=fun o (ho:o < eo∨eo + 5 < o)=>six_out (b0:=.int .u64 (x.id:Int)) (b1:=.bool x.leaf) (b2:=.string ⟨x.label.toArray⟩) (b3:=.slice oA xn oc) (b4:=.string ⟨x.text.toArray⟩) (b5:=.slice okA xkn okc) hr1'.out ho
      have hew:w.heap.size≤eb:=by have:=heb'.out;omega
      have hbw:=hbel'.out.trans (hO'.out.bel.mono hbel'.out.size)
      have hb2:Below w.heap.size w (six w1 eb eo (.int .u64 (x.id:Int)) (.bool x.leaf) (.string ⟨x.label.toArray⟩) (.slice oA xn oc) (.string ⟨x.text.toArray⟩) (.slice okA xkn okc)):=six_below hbw hew
      obtain ⟨w2,hw2⟩:∃ w2,w2 = six w1 eb eo (.int .u64 (x.id:Int)) (.bool x.leaf) (.string ⟨x.label.toArray⟩) (.slice oA xn oc) (.string ⟨x.text.toArray⟩) (.slice okA xkn okc):=⟨_,rfl⟩
      rw [← hw2] at hin hzz hot hou hb2
      unfold six at hw2
      rw [← hw2]
      clear hw2
      have hz1:=hO'.out.bel.size
      have hgl:=hrl'.out
      have hN:NodeAt (Ex T w.heap.size w2) w2 ⟨eb,eo,none⟩ x:=⟨⟨.inr (by show w.heap.size≤eb;omega),by show eb < _;omega,by have:=heb'.out;show eb ≠ _;omega⟩,oA,xn,oc,okA,xkn,okc,hin,(hO'.out.node hvx.out (fun k hk=>Nat.lt_of_lt_of_le (hT k hk) hbel'.out.size)).kept (fun k hk=>by
          have hZ5:=hZl'.out
          have hsz:=hbel'.out.size
          rcases hk with hk | hk
          · have:=hT k hk
            exact ⟨.inl hk,by omega,by omega⟩
          · exact ⟨.inr (by omega),by omega,by omega⟩) (fun k hk=>hot k (by
          have hZ5:=hZl'.out
          have hsz:=hbel'.out.size
          rcases hk with hk | hk
          · have:=hT k hk
            omega
          · omega))⟩
      obtain ⟨-,fA,fn,fc,fkA,fkn,fkc,⟨y0,y1,y2,y3,y4,y5⟩,hfv⟩:=hhole'.out w2 x (by omega) (fun k hk hne=>(hot k hne).trans (hO'.out.bel.block k hk)) (fun o ho=>(hou o ho).trans (World.cell?_of_block (a:=⟨eb,o,none⟩) (hO'.out.bel.block eb hgl))) hN
      have y1':w2.cell? ⟨w.heap.size,1,none⟩ = some (.bool (f x).leaf):=y1
      have y2':w2.cell? ⟨w.heap.size,2,none⟩ = some (.string ⟨(f x).label.toArray⟩):=y2
      have y3':w2.cell? ⟨w.heap.size,3,none⟩ = some (.slice fA fn fc):=y3
      have y4':w2.cell? ⟨w.heap.size,4,none⟩ = some (.string ⟨(f x).text.toArray⟩):=y4
      have y5':w2.cell? ⟨w.heap.size,5,none⟩ = some (.slice fkA fkn fkc):=y5
      have R2:=(hot (w.heap.size + 1 + 1) (by have:=heb'.out;omega)).trans ((hO'.out.bel.block _ hZl'.out).trans hZ'.out)
      unfold zero6 at R2
      obtain ⟨d0,d1,d2,d3,d4,d5,df⟩:=six_cells R2
      have R2':=Lib.hid R2
      have hb2':=Lib.hid hb2
      have hfv':=Lib.hid hfv
      clear y1 y2 y3 y4 y5 R2 hb2 hfv hN hin hzz hot hou hbw hz1 hgl hew ff v0 v1 v2 v3 v4 v5
      go_wp2_with fail
      have R9:=set_six (b0:=.int .u64 ((f x).id:Int)) (b1:=.bool (f x).leaf) (b2:=.string ⟨(f x).label.toArray⟩) (b3:=.slice fA fn fc) (b4:=.string ⟨(f x).text.toArray⟩) (b5:=.slice fkA fkn fkc) R2'.out
      have hb9:Below w.heap.size w _:=below_six hb2'.out (b0:=.int .u64 ((f x).id:Int)) (b1:=.bool (f x).leaf) (b2:=.string ⟨(f x).label.toArray⟩) (b3:=.slice fA fn fc) (b4:=.string ⟨(f x).text.toArray⟩) (b5:=.slice fkA fkn fkc) (show w.heap.size≤w.heap.size + 1 + 1 by omega)
      have hN9:NodeV (Nw T w ((((((w2.setCell ⟨w.heap.size + 1 + 1,0,none⟩ (.int .u64 ((f x).id:Int))).setCell ⟨w.heap.size + 1 + 1,1,none⟩ (.bool (f x).leaf)).setCell ⟨w.heap.size + 1 + 1,2,none⟩ (.string ⟨(f x).label.toArray⟩)).setCell ⟨w.heap.size + 1 + 1,3,none⟩ (.slice fA fn fc)).setCell ⟨w.heap.size + 1 + 1,4,none⟩ (.string ⟨(f x).text.toArray⟩)).setCell ⟨w.heap.size + 1 + 1,5,none⟩ (.slice fkA fkn fkc))) ((((((w2.setCell ⟨w.heap.size + 1 + 1,0,none⟩ (.int .u64 ((f x).id:Int))).setCell ⟨w.heap.size + 1 + 1,1,none⟩ (.bool (f x).leaf)).setCell ⟨w.heap.size + 1 + 1,2,none⟩ (.string ⟨(f x).label.toArray⟩)).setCell ⟨w.heap.size + 1 + 1,3,none⟩ (.slice fA fn fc)).setCell ⟨w.heap.size + 1 + 1,4,none⟩ (.string ⟨(f x).text.toArray⟩)).setCell ⟨w.heap.size + 1 + 1,5,none⟩ (.slice fkA fkn fkc)) fA fn fc fkA fkn fkc (f x):=hfv'.out.kept (fun k hk=>by
        show T k∨_
        simp only [World.size_setCell]
        rcases hk.1 with h | h
        · exact .inl h
        · exact .inr ⟨h,hk.2.1⟩) (fun k hk=>set_six_other (fun e=>hk.2.2 (by rw [e])))
      generalize ((((((w2.setCell ⟨w.heap.size + 1 + 1,0,none⟩ (.int .u64 ((f x).id:Int))).setCell ⟨w.heap.size + 1 + 1,1,none⟩ (.bool (f x).leaf)).setCell ⟨w.heap.size + 1 + 1,2,none⟩ (.string ⟨(f x).label.toArray⟩)).setCell ⟨w.heap.size + 1 + 1,3,none⟩ (.slice fA fn fc)).setCell ⟨w.heap.size + 1 + 1,4,none⟩ (.string ⟨(f x).text.toArray⟩)).setCell ⟨w.heap.size + 1 + 1,5,none⟩ (.slice fkA fkn fkc)) = W9 at R9 hb9 hN9 ⊢
      obtain ⟨g0,g1,g2,g3,g4,g5,gf⟩:=six_cells R9
      refine bodyPost_ret (v:=.tuple #[.agg (val6 (f x) fA fn fc fkA fkn fkc),.bool true]) (by simp [results,Try.results138,go_sem,g0,g1,g2,g3,g4,g5,val6]) rfl ?_
      exact ⟨fA,fn,fc,fkA,fkn,fkc,by rw [hans.out];rfl,by rw [hans.out];exact hN9,hb9⟩
end Go.Proofs.Ytmipodnffhngaaa.Top
namespace Go.Proofs.Ytmipodnffhngaaa.Top
open Go.RowKit
set_option maxRecDepth 20000
set_option linter.unusedVariables false

def NodeA (T:Nat→Prop) (w:World) (a:Nd) (e:Ending) (w':World):Prop :=
  ∃ aA an ac kA kn kc,e = .returned (.agg (val6 a aA an ac kA kn kc))∧NodeV (Nw T w w') w' aA an ac kA kn kc a∧Below w.heap.size w w'
theorem three_new (w:World) (o1 o2 o3:Obj):((((w.alloc o1).alloc o2).alloc o3).heap[w.heap.size]? = some o1)∧((((w.alloc o1).alloc o2).alloc o3).heap[w.heap.size + 1]? = some o2)∧((((w.alloc o1).alloc o2).alloc o3).heap[w.heap.size + 1 + 1]? = some o3)∧Below w.heap.size w (((w.alloc o1).alloc o2).alloc o3)∧(((w.alloc o1).alloc o2).alloc o3).heap.size = w.heap.size + 1 + 1 + 1:=by
  have h1:=heap_alloc_new w o1
  have h2:=heap_alloc_new (w.alloc o1) o2
  have h3:=heap_alloc_new ((w.alloc o1).alloc o2) o3
  rw [World.size_alloc] at h2
  rw [World.size_alloc,World.size_alloc] at h3
  exact ⟨(Go.heap_alloc_old _ _ (by simp <;> omega)).trans ((Go.heap_alloc_old _ _ (by simp)).trans h1),(Go.heap_alloc_old _ _ (by simp)).trans h2,h3,(((Below.refl _ _).alloc (Nat.le_refl _) _).alloc (by simp) _).alloc (by simp <;> omega) _,by simp⟩
theorem end_node {T:Nat→Prop} {w w1:World} {b r:Nat} {o:Obj} {ty:TypeId} {a:Nd} {yA yK:Option Addr} {yn yc ym yd:Nat} {a0 a1 a2 a3 a4 a5:Value} (hT:∀ k,T k→k < w.heap.size) (hw:w.heap.size≤r) (hrb:r < b) (hb:Below w.heap.size w w1)
    (hr:w1.heap[r]? = some (.cells #[a0,a1,a2,a3,a4,a5] ty (0,0))) (hy:NodeV (fun k=>T k∨(b≤k∧k < w1.heap.size)) w1 yA yn yc yK ym yd a) :
    ∃ W9,W9 = ((((((w1.setCell ⟨r,0,none⟩ (.int .u64 (a.id:Int))).setCell ⟨r,1,none⟩ (.bool a.leaf)).setCell ⟨r,2,none⟩ (.string ⟨a.label.toArray⟩)).setCell ⟨r,3,none⟩ (.slice yA yn yc)).setCell ⟨r,4,none⟩ (.string ⟨a.text.toArray⟩)).setCell ⟨r,5,none⟩ (.slice yK ym yd)).alloc o ∧
      W9.heap[r]? = some (.cells (val6 a yA yn yc yK ym yd) ty (0,0))∧NodeV (Nw T w W9) W9 yA yn yc yK ym yd a∧Below w.heap.size w W9:=by
  have hlt:=(Array.getElem?_eq_some_iff.1 hr).1
  have hb6:=below_six (b0:=.int .u64 (a.id:Int)) (b1:=.bool a.leaf) (b2:=.string ⟨a.label.toArray⟩) (b3:=.slice yA yn yc) (b4:=.string ⟨a.text.toArray⟩) (b5:=.slice yK ym yd) hb hw
  refine ⟨_,rfl,(Go.heap_alloc_old _ _ (by simpa using hlt)).trans (set_six hr),hy.kept (fun k hk=>?_) (fun k hk=>?_),hb6.alloc hb6.size _⟩
  · show T k∨_
    simp only [World.size_setCell,World.size_alloc]
    rcases hk with hk | hk
    · exact .inl hk
    · exact .inr ⟨by omega,by omega⟩
  · have hk2:k < w1.heap.size∧k ≠ r:=by
      rcases hk with hk | hk
      · have:=hT k hk;have:=hb.size;omega
      · omega
    exact (Go.heap_alloc_old _ _ (by simpa using hk2.1)).trans (set_six_other hk2.2)
set_option maxHeartbeats 4000000 in
theorem tput_T (T:Nat→Prop) (w:World) (hT:∀ k,T k→k < w.heap.size) (t x:Nd) (aA kA xA xK:Option Addr) (an ac kn kc xn xc xm xd:Nat) (h:NodeV T w aA an ac kA kn kc t) (hx:NodeV T w xA xn xc xK xm xd x) (pA:Option Addr) (pn pc:Nat) (p:List Int) (hp:Its w pA pn p) (hpn:pn≤maxLen) (hbig:weighV t≤1000000) (hbigx:weighV x≤1000000) :
    Calls Try.prog 109 #[.agg (val6 t aA an ac kA kn kc),.slice pA pn pc,.agg (val6 x xA xn xc xK xm xd)] w (NodeA T w ((putV t p x).getD Nd.zero)):=by
  obtain ⟨-,-,z3,z4,z5⟩:=three_new w (.cells (val6 t aA an ac kA kn kc) 33) (.cells (val6 x xA xn xc xK xm xd) 33) (.cells zero6 33)
  obtain ⟨W3,hW3⟩:∃ W3,W3 = ((w.alloc (.cells (val6 t aA an ac kA kn kc) 33)).alloc (.cells (val6 x xA xn xc xK xm xd) 33)).alloc (.cells zero6 33):=⟨_,rfl⟩
  rw [← hW3] at z3 z4 z5
  have hT3:∀ k,T k→k < W3.heap.size:=fun k hk=>by have:=hT k hk;omega
  have hput:=Lib.hid (put_T T W3 hT3 t x aA kA xA xK an ac kn kc xn xc xm xd (h.kept (fun _ h=>h) fun k hk=>z4.block k (hT k hk)) (hx.kept (fun _ h=>h) fun k hk=>z4.block k (hT k hk)) pA pn pc p (hp.below z4) hpn hbig hbigx)
  rw [hW3] at hput
  have z3':=Lib.hid z3
  have z4':=Lib.hid z4
  have z5':=Lib.hid z5
  have hT':=Lib.hid hT
  clear z3 z4 z5 h hx hp hbig hbigx hT hT3
  unfold zero6 val6 at hW3 hput
  unfold val6
  go_enter Try.func109,Try.ntmps109
  go_wp2_with (go_at_call 138;go_loud (refine hput.out.mono ?_;rw [← hW3];rintro e w1 ⟨yA,yn,yc,yK,ym,yd,rfl,hy,hb⟩;have r3:=(hb.block _ (by have:=z5'.out;omega)).trans z3'.out;have hr:=Lib.hid r3;have hy':=Lib.hid hy;have hb':=Lib.hid hb;unfold zero6 at r3;obtain ⟨q0,q1,q2,q3,q4,q5,qf⟩:=six_cells r3;have hne:w.heap.size + 1 + 1 < w1.heap.size:=(Array.getElem?_eq_some_iff.1 r3).1;have hne2:w1.heap.size ≠ w.heap.size + 1 + 1:=(by omega);have hne3:w.heap.size + 1 + 1 ≠ w1.heap.size:=(by omega);unfold val6;clear hy hb r3))
  obtain ⟨W9,hW9,R9,N9,B9⟩:=end_node (o:=.cells #[.int .u64 (((putV t p x).getD Nd.zero).id:Int),.bool ((putV t p x).getD Nd.zero).leaf,.string ⟨((putV t p x).getD Nd.zero).label.toArray⟩,.slice yA yn yc,.string ⟨((putV t p x).getD Nd.zero).text.toArray⟩,.slice yK ym yd] 33) hT'.out (r:=w.heap.size + 1 + 1) (b:=W3.heap.size) (by omega) (by have:=z5'.out;omega) (z4'.out.trans (hb'.out.mono z4'.out.size)) hr.out hy'.out
  rw [← hW9]
  unfold val6 at R9
  obtain ⟨d0,d1,d2,d3,d4,d5,df⟩:=six_cells R9
  refine bodyPost_ret (v:=.agg (val6 ((putV t p x).getD Nd.zero) yA yn yc yK ym yd)) (by simp [results,Try.results109,go_sem,d0,d1,d2,d3,d4,d5,val6]) rfl ?_
  exact ⟨yA,yn,yc,yK,ym,yd,rfl,N9,B9⟩
end Go.Proofs.Ytmipodnffhngaaa.Top
namespace Go.Proofs.Ytmipodnffhngaaa.P5
set_option linter.unusedVariables false
open Ltx (Pc)

inductive St where
  | keep (n:Nat)
  | put (t:List UInt8)
  | drop (n:Nat)
def St.size:St→Nat
  | .keep n=>n
  | .put t=>t.length
  | .drop n=>n
def St.pc:St→Pc
  | .keep n=>⟨n,0,[]⟩
  | .put t=>⟨0,0,t⟩
  | .drop n=>⟨0,n,[]⟩
def St.cut:St→Nat→St
  | .keep n,m=>.keep (n - m)
  | .put t,m=>.put (t.drop m)
  | .drop n,m=>.drop (n - m)
theorem St.cut_size (s:St) (m:Nat):(s.cut m).size = s.size - m:=by cases s <;> simp [St.cut,St.size]
def trim:List St→List St
  | []=>[]
  | s :: r=>if s.size = 0 then trim r else s :: r
def cutS:List St→Nat→List St
  | [],_=>[]
  | s :: r,m=>trim (s.cut m :: r)
def rowS (l:List Pc):List St:=l.flatMap fun p=>[.keep p.keep,.put p.put,.drop p.drop]
def pcs (l:List St):List Pc:=l.map St.pc
theorem pcs_row (l:List Pc):pcs (rowS l) = prim l:=by
  unfold pcs rowS prim
  induction l with
  | nil=>rfl
  | cons p r ih=>rw [List.flatMap_cons,List.flatMap_cons,List.map_append,ih];rfl

theorem pa_keep (n:Nat) (r:List Pc) (j:Nat):Ltx.putAt (⟨n,0,[]⟩ :: r) j = if j < n then [] else Ltx.putAt r (j - n):=by
  rw [Ltx.putAt]
  dsimp only
  by_cases h:j < n
  · rw [if_pos h,if_pos h]
  · rw [if_neg h,if_neg h]
    by_cases h2:j = n
    · rw [if_pos h2,h2];simp
    · rw [if_neg h2,if_neg (by omega)];simp
theorem pa_drop (n:Nat) (r:List Pc) (j:Nat):Ltx.putAt (⟨0,n,[]⟩ :: r) j = if j < n then [] else Ltx.putAt r (j - n):=by
  rw [Ltx.putAt]
  dsimp only
  rw [if_neg (by omega)]
  by_cases h2:j = 0
  · rw [if_pos h2,h2]
    by_cases h3:n = 0
    · rw [if_pos h3,if_neg (by omega),h3];rfl
    · rw [if_neg h3,if_pos (by omega)];rfl
  · rw [if_neg h2]
    by_cases h:j < n
    · rw [if_pos (by omega),if_pos h]
    · rw [if_neg (by omega),if_neg h,Nat.zero_add]
theorem pa_put (t:List UInt8) (r:List Pc) (j:Nat):Ltx.putAt (⟨0,0,t⟩ :: r) j = if j = 0 then t ++ Ltx.putAt r 0 else Ltx.putAt r j:=by
  rw [Ltx.putAt]
  dsimp only
  rw [if_neg (by omega)]
  by_cases h2:j = 0
  · rw [if_pos h2,if_pos h2,if_pos rfl]
  · rw [if_neg h2,if_neg h2,if_neg (by omega)];simp
theorem da_keep (n:Nat) (r:List Pc) (j:Nat):Ltx.dropAt (⟨n,0,[]⟩ :: r) j = if j < n then false else Ltx.dropAt r (j - n):=by
  rw [Ltx.dropAt]
  dsimp only
  by_cases h:j < n
  · rw [if_pos h,if_pos h]
  · rw [if_neg h,if_neg h,if_neg (by omega)];simp
theorem da_drop (n:Nat) (r:List Pc) (j:Nat):Ltx.dropAt (⟨0,n,[]⟩ :: r) j = if j < n then true else Ltx.dropAt r (j - n):=by
  rw [Ltx.dropAt]
  dsimp only
  rw [if_neg (by omega),Nat.zero_add]
theorem da_put (t:List UInt8) (r:List Pc) (j:Nat):Ltx.dropAt (⟨0,0,t⟩ :: r) j = Ltx.dropAt r j:=by
  rw [Ltx.dropAt]
  dsimp only
  rw [if_neg (by omega),if_neg (by omega)]
  simp
structure Look (l m:List Pc):Prop where
  pu:∀ j,Ltx.putAt l j = Ltx.putAt m j
  dr:∀ j,Ltx.dropAt l j = Ltx.dropAt m j
  ex:Ltx.extent l = Ltx.extent m
theorem Look.refl (l:List Pc):Look l l:=⟨fun _=>rfl,fun _=>rfl,rfl⟩
theorem Look.trans {l m k:List Pc} (h:Look l m) (h2:Look m k):Look l k:=⟨fun j=>(h.pu j).trans (h2.pu j),fun j=>(h.dr j).trans (h2.dr j),h.ex.trans h2.ex⟩
theorem Look.symm {l m:List Pc} (h:Look l m):Look m l:=⟨fun j=>(h.pu j).symm,fun j=>(h.dr j).symm,h.ex.symm⟩
theorem look_zero (s:St) (r:List Pc) (h:s.size = 0):Look (s.pc :: r) r:=by
  cases s with
  | keep n =>
    have hn:n = 0:=h
    subst hn
    exact ⟨fun j=>by rw [St.pc,pa_keep,if_neg (by omega)];rfl,fun j=>by rw [St.pc,da_keep,if_neg (by omega)];rfl,by simp [St.pc,Ltx.extent]⟩
  | put t =>
    have ht:t = []:=List.eq_nil_of_length_eq_zero h
    subst ht
    refine ⟨fun j=>?_,fun j=>by rw [St.pc,da_put],by simp [St.pc,Ltx.extent]⟩
    rw [St.pc,pa_put]
    split
    · rename_i e;subst e;rfl
    · rfl
  | drop n =>
    have hn:n = 0:=h
    subst hn
    exact ⟨fun j=>by rw [St.pc,pa_drop,if_neg (by omega)];rfl,fun j=>by rw [St.pc,da_drop,if_neg (by omega)];rfl,by simp [St.pc,Ltx.extent]⟩
theorem look_trim:∀ l:List St,Look (pcs (trim l)) (pcs l)
  | []=>Look.refl _
  | s :: r=>by
    unfold trim
    split
    · rename_i h
      exact (look_trim r).trans (look_zero s (pcs r) h).symm
    · exact Look.refl _
theorem look_prim (l:List Pc):Look (prim l) l:=by
  have key:∀ l:List Pc,(∀ j,Ltx.putAt (prim l) j = Ltx.putAt l j)∧(∀ j,Ltx.dropAt (prim l) j = Ltx.dropAt l j)∧Ltx.extent (prim l) = Ltx.extent l:=by
    intro l
    induction l with
    | nil=>exact ⟨fun _=>rfl,fun _=>rfl,rfl⟩
    | cons p r ih =>
      obtain ⟨h1,h2,h3⟩:=ih
      have e:prim (p :: r) = ⟨p.keep,0,[]⟩ :: ⟨0,0,p.put⟩ :: ⟨0,p.drop,[]⟩ :: prim r:=rfl
      rw [e]
      refine ⟨fun j=>?_,fun j=>?_,?_⟩
      · rw [pa_keep,pa_put,pa_drop,pa_drop,Ltx.putAt,h1,h1]
        by_cases a:j < p.keep
        · rw [if_pos a,if_pos a]
        · rw [if_neg a,if_neg a]
          by_cases b:j = p.keep
          · rw [if_pos b,if_pos (by omega)]
            by_cases c:p.drop = 0
            · rw [if_pos c,if_neg (by omega),c]
            · rw [if_neg c,if_pos (by omega)]
          · rw [if_neg b,if_neg (by omega)]
            by_cases c:j < p.keep + p.drop
            · rw [if_pos c,if_pos (by omega)]
            · rw [if_neg c,if_neg (by omega)]
              congr 1
              omega
      · rw [da_keep,da_put,da_drop,Ltx.dropAt,h2]
        by_cases a:j < p.keep
        · rw [if_pos a,if_pos a]
        · rw [if_neg a,if_neg a]
          by_cases c:j < p.keep + p.drop
          · rw [if_pos c,if_pos (by omega)]
          · rw [if_neg c,if_neg (by omega)]
            congr 1
            omega
      · simp [Ltx.extent,h3]
        omega
  exact ⟨(key l).1,(key l).2.1,(key l).2.2⟩
end Go.Proofs.Ytmipodnffhngaaa.P5
namespace Go.Proofs.Ytmipodnffhngaaa.P5
set_option linter.unusedVariables false
open Ltx (Pc It applyP places compEnd)

def recEnd (m:Nat):List It→Nat→List UInt8→List Pc
  | [],last,put=>[⟨0,m - last,put⟩]
  | .old w :: r,last,put=>⟨0,w - last,put⟩ :: ⟨1,0,[]⟩ :: recEnd m r (w + 1) []
  | .new c :: r,last,put=>recEnd m r last (put ++ [c])
theorem rec_new (m:Nat) (r:List It):∀ (t:List UInt8) (last:Nat) (put:List UInt8),recEnd m (t.map It.new ++ r) last put = recEnd m r last (put ++ t)
  | [],last,put=>by rw [List.map_nil,List.nil_append,List.append_nil]
  | c :: t,last,put=>by
    rw [List.map_cons,List.cons_append,recEnd,rec_new m r t]
    simp
section
variable (pu:Nat→List UInt8) (dr:Nat→Bool)
def flatP:List It→Nat→List It
  | [],i=>(pu i).map It.new
  | c :: t,i=>(pu i).map It.new ++ (if dr i then [] else [c]) ++ flatP t (i + 1)
theorem comp_rec (m:Nat):∀ (l:List It) (i last:Nat) (put:List UInt8),compEnd pu dr m l i last put = recEnd m (flatP pu dr l i) last put
  | [],i,last,put=>by
    have h:=rec_new m [] (pu i) last put
    rw [List.append_nil] at h
    rw [compEnd,flatP,h,recEnd]
  | .old w :: r,i,last,put=>by
    rw [compEnd,flatP,List.append_assoc,rec_new]
    by_cases h:dr i = true
    · rw [if_pos h,if_pos h,List.nil_append,comp_rec m r]
    · rw [if_neg h,if_neg h,List.cons_append,List.nil_append,recEnd,comp_rec m r]
  | .new c :: r,i,last,put=>by
    rw [compEnd,flatP]
    by_cases h:dr i = true
    · rw [if_pos h,if_pos h,List.append_nil,List.append_nil,rec_new,comp_rec m r]
    · rw [if_neg h,if_neg h,List.append_assoc ((pu i).map It.new),rec_new,List.cons_append,List.nil_append,recEnd,comp_rec m r]
end
theorem places_cons (s k:Nat):places s (k + 1) = .old s :: places (s + 1) k:=by
  unfold places
  rw [List.range'_succ,List.map_cons]
theorem rec_places (m:Nat):∀ (l:List Pc) (s k last:Nat) (put:List UInt8),last≤s→Ltx.extent l≤k→m = s + k →
    Eqv (recEnd m (applyP It.new (places s k) l) last put) ([⟨0,s - last,put⟩] ++ l ++ [⟨k - Ltx.extent l,0,[]⟩])
  | [],s,0,last,put,_,_,hm=>by
    have e:Eqv [(⟨0,s - last,put⟩:Pc),⟨0,0,[]⟩] [⟨0,s - last,put⟩]:=by
      have h:=(Eqv.refl [(⟨0,s - last,put⟩:Pc)]).app eqv_nil
      rw [List.append_nil] at h
      exact h
    have e2:recEnd m (applyP It.new (places s 0) []) last put = [⟨0,s - last,put⟩]:=by
      show [(⟨0,m - last,put⟩:Pc)] = _
      rw [hm,Nat.add_zero]
    rw [e2]
    exact e.symm
  | [],s,k + 1,last,put,hl,_,hm=>by
    have ih:=rec_places m [] (s + 1) k (s + 1) [] (Nat.le_refl _) (Nat.zero_le _) (by omega)
    rw [applyP] at ih ⊢
    rw [places_cons,recEnd]
    have h1:=(Eqv.refl [(⟨0,s - last,put⟩:Pc),⟨1,0,[]⟩]).app ih
    refine Eqv.trans (show Eqv _ _ from h1) ?_
    have e0:Ltx.extent ([]:List Pc) = 0:=rfl
    rw [e0,Nat.sub_zero,Nat.sub_zero,Nat.sub_self,List.append_nil,List.append_nil]
    have h2:Eqv [(⟨0,0,[]⟩:Pc),⟨k,0,[]⟩] [⟨k,0,[]⟩]:=by
      have h:=eqv_nil.app (Eqv.refl [(⟨k,0,[]⟩:Pc)])
      exact h
    have h3:Eqv [(⟨1,0,[]⟩:Pc),⟨k,0,[]⟩] [⟨k + 1,0,[]⟩]:=by
      have h:=eqv_keep (k:=1) (k':=k) (d:=0) (t:=[])
      rw [Nat.add_comm 1 k] at h
      exact h
    exact (Eqv.refl [(⟨0,s - last,put⟩:Pc)]).app (((Eqv.refl [(⟨1,0,[]⟩:Pc)]).app h2).trans h3)
  | ⟨0,dr,pu⟩ :: r,s,k,last,put,hl,he,hm=>by
    unfold Ltx.extent at he
    dsimp only at he
    have ih:=rec_places m r (s + dr) (k - dr) last (put ++ pu) (by omega) (by omega) (by omega)
    have e1:applyP It.new (places s k) (⟨0,dr,pu⟩ :: r) = pu.map It.new ++ applyP It.new (places (s + dr) (k - dr)) r:=by
      rw [applyP]
      dsimp only
      rw [List.take_zero,List.nil_append,Nat.zero_add,Ltx.places_drop]
    rw [e1,rec_new]
    refine ih.trans ?_
    have e2:Ltx.extent (⟨0,dr,pu⟩ :: r) = dr + Ltx.extent r:=by simp [Ltx.extent]
    rw [e2,show k - dr - Ltx.extent r = k - (dr + Ltx.extent r) by omega]
    have h1:=eqv_one (k:=0) (d:=s - last) (t:=put) (k':=0) (d':=dr) (t':=pu) rfl
    rw [show s - last + dr = s + dr - last by omega] at h1
    have h2:=(h1.symm.app (Eqv.refl r)).app (Eqv.refl [(⟨k - (dr + Ltx.extent r),0,[]⟩:Pc)])
    exact h2
  | ⟨kp + 1,dr,pu⟩ :: r,s,k,last,put,hl,he,hm=>by
    unfold Ltx.extent at he
    dsimp only at he
    obtain ⟨k',rfl⟩:∃ k',k = k' + 1:=⟨k - 1,by omega⟩
    have ih:=rec_places m (⟨kp,dr,pu⟩ :: r) (s + 1) k' (s + 1) [] (Nat.le_refl _) (by unfold Ltx.extent;dsimp only;omega) (by omega)
    have e1:applyP It.new (places s (k' + 1)) (⟨kp + 1,dr,pu⟩ :: r) = .old s :: applyP It.new (places (s + 1) k') (⟨kp,dr,pu⟩ :: r):=by
      rw [applyP,applyP,places_cons]
      dsimp only
      rw [List.take_succ_cons,show kp + 1 + dr = (kp + dr) + 1 by omega,List.drop_succ_cons]
      rfl
    rw [e1,recEnd]
    have h1:=(Eqv.refl [(⟨0,s - last,put⟩:Pc),⟨1,0,[]⟩]).app ih
    refine Eqv.trans (show Eqv _ _ from h1) ?_
    have e2:Ltx.extent (⟨kp + 1,dr,pu⟩ :: r) = Ltx.extent (⟨kp,dr,pu⟩ :: r) + 1:=by simp [Ltx.extent];omega
    rw [e2,Nat.sub_self,show k' + 1 - (Ltx.extent (⟨kp,dr,pu⟩ :: r) + 1) = k' - Ltx.extent (⟨kp,dr,pu⟩ :: r) by omega]
    have h3:Eqv [(⟨1,0,[]⟩:Pc),⟨0,0,[]⟩,⟨kp,dr,pu⟩] [⟨kp + 1,dr,pu⟩]:=by
      have a:=(Eqv.refl [(⟨1,0,[]⟩:Pc)]).app (eqv_nil.app (Eqv.refl [(⟨kp,dr,pu⟩:Pc)]))
      refine Eqv.trans (show Eqv _ _ from a) ?_
      have h:=eqv_keep (k:=1) (k':=kp) (d:=dr) (t:=pu)
      rw [Nat.add_comm 1 kp] at h
      exact h
    have h4:=(((Eqv.refl [(⟨0,s - last,put⟩:Pc)]).app h3).app (Eqv.refl r)).app (Eqv.refl [(⟨k' - Ltx.extent (⟨kp,dr,pu⟩ :: r),0,[]⟩:Pc)])
    simpa using h4
termination_by l _ k=>(l.length,k)
end Go.Proofs.Ytmipodnffhngaaa.P5
namespace Go.Proofs.Ytmipodnffhngaaa.P5
set_option linter.unusedVariables false
open Ltx (Pc It applyP places compEnd)

theorem flatP_congr {pu pu':Nat→List UInt8} {dr dr':Nat→Bool}:∀ (t:List It) (i j:Nat),(∀ k,pu (i + k) = pu' (j + k))→(∀ k,dr (i + k) = dr' (j + k))→flatP pu dr t i = flatP pu' dr' t j
  | [],i,j,h1,_=>by rw [flatP,flatP,show pu i = pu' j from h1 0]
  | c :: t,i,j,h1,h2=>by
    unfold flatP
    rw [show pu i = pu' j from h1 0,show dr i = dr' j from h2 0,flatP_congr t (i + 1) (j + 1) (fun k=>by have:=h1 (k + 1);rw [show i + 1 + k = i + (k + 1) by omega,show j + 1 + k = j + (k + 1) by omega];exact this)
      (fun k=>by have:=h2 (k + 1);rw [show i + 1 + k = i + (k + 1) by omega,show j + 1 + k = j + (k + 1) by omega];exact this)]
theorem flatP_keep {pu:Nat→List UInt8} {dr:Nat→Bool}:∀ (s t:List It) (i:Nat),(∀ k,k < s.length→pu (i + k) = []∧dr (i + k) = false)→flatP pu dr (s ++ t) i = s ++ flatP pu dr t (i + s.length)
  | [],t,i,_=>by simp
  | c :: s,t,i,h=>by
    have h0:=h 0 (by simp)
    have ih:=flatP_keep s t (i + 1) fun k hk=>by
      have:=h (k + 1) (by simp;omega)
      rw [show i + 1 + k = i + (k + 1) by omega]
      exact this
    simp only [Nat.add_zero] at h0
    rw [List.cons_append,flatP,h0.1,h0.2,ih]
    simp only [List.length_cons,List.nil_append]
    rw [show i + 1 + s.length = i + (s.length + 1) by omega]
    simp
theorem flatP_drop {pu:Nat→List UInt8} {dr:Nat→Bool}:∀ (s t:List It) (i:Nat),(∀ k,k < s.length→pu (i + k) = []∧dr (i + k) = true)→flatP pu dr (s ++ t) i = flatP pu dr t (i + s.length)
  | [],t,i,_=>by simp
  | c :: s,t,i,h=>by
    have h0:=h 0 (by simp)
    have ih:=flatP_drop s t (i + 1) fun k hk=>by
      have:=h (k + 1) (by simp;omega)
      rw [show i + 1 + k = i + (k + 1) by omega]
      exact this
    simp only [Nat.add_zero] at h0
    rw [List.cons_append,flatP,h0.1,h0.2,ih]
    simp only [List.length_cons]
    rw [show i + 1 + s.length = i + (s.length + 1) by omega]
    simp
theorem flatP_idle (t:List It) (i:Nat):flatP (fun _=>[]) (fun _=>false) t i = t:=by
  induction t generalizing i with
  | nil=>rfl
  | cons c t ih=>rw [flatP,ih];simp
theorem applyP_flat:∀ (l:List Pc) (t:List It),Ltx.extent l≤t.length→applyP It.new t l = flatP (Ltx.putAt l) (Ltx.dropAt l) t 0
  | [],t,_=>by
    rw [show Ltx.putAt [] = fun _=>[] from rfl,show Ltx.dropAt [] = fun _=>false from rfl,flatP_idle]
    rfl
  | p :: r,t,h=>by
    unfold Ltx.extent at h
    have hsplit:t = t.take p.keep ++ (t.drop p.keep):=(List.take_append_drop _ _).symm
    have hl:(t.take p.keep).length = p.keep:=by rw [List.length_take];omega
    have hk:=flatP_keep (pu:=Ltx.putAt (p :: r)) (dr:=Ltx.dropAt (p :: r)) (t.take p.keep) (t.drop p.keep) 0 fun k hk=>by
      rw [hl] at hk
      rw [Nat.zero_add]
      exact ⟨by rw [Ltx.putAt,if_pos hk],by rw [Ltx.dropAt,if_pos hk]⟩
    rw [List.take_append_drop,hl,Nat.zero_add] at hk
    rw [hk,applyP,applyP_flat r _ (by rw [List.length_drop];omega),List.append_assoc]
    congr 1
    by_cases hd:p.drop = 0
    · rw [hd,Nat.add_zero]
      cases ht:t.drop p.keep with
      | nil =>
        rw [flatP,flatP,Ltx.putAt,if_neg (by omega),if_pos rfl,if_pos hd,List.map_append]
      | cons c s =>
        rw [flatP,flatP]
        have e1:Ltx.putAt (p :: r) p.keep = p.put ++ Ltx.putAt r 0:=by rw [Ltx.putAt,if_neg (by omega),if_pos rfl,if_pos hd]
        have e2:Ltx.dropAt (p :: r) p.keep = Ltx.dropAt r 0:=by rw [Ltx.dropAt,if_neg (by omega),if_neg (by omega),show p.keep - (p.keep + p.drop) = 0 by omega]
        have e3:flatP (Ltx.putAt (p :: r)) (Ltx.dropAt (p :: r)) s (p.keep + 1) = flatP (Ltx.putAt r) (Ltx.dropAt r) s (0 + 1):=flatP_congr s _ _
          (fun k=>by rw [Ltx.putAt,if_neg (by omega),if_neg (by omega),if_neg (by omega)];congr 1;omega)
          (fun k=>by rw [Ltx.dropAt,if_neg (by omega),if_neg (by omega)];congr 1;omega)
        rw [e1,e2,e3]
        simp [List.append_assoc]
    · obtain ⟨d,hd'⟩:∃ d,p.drop = d + 1:=⟨p.drop - 1,by omega⟩
      cases ht:t.drop p.keep with
      | nil =>
        exfalso
        have:(t.drop p.keep).length = 0:=by rw [ht];rfl
        rw [List.length_drop] at this
        omega
      | cons c s =>
        have hsl:d≤s.length:=by
          have:(t.drop p.keep).length = s.length + 1:=by rw [ht];rfl
          rw [List.length_drop] at this
          omega
        have hrest:t.drop (p.keep + p.drop) = s.drop d:=by
          rw [← List.drop_drop,ht,hd']
          rfl
        have e1:Ltx.putAt (p :: r) p.keep = p.put:=by rw [Ltx.putAt,if_neg (by omega),if_pos rfl,if_neg hd,List.append_nil]
        have e2:Ltx.dropAt (p :: r) p.keep = true:=by rw [Ltx.dropAt,if_neg (by omega),if_pos (by omega)]
        have hdl:(s.take d).length = d:=by rw [List.length_take];omega
        have e3:=flatP_drop (pu:=Ltx.putAt (p :: r)) (dr:=Ltx.dropAt (p :: r)) (s.take d) (s.drop d) (p.keep + 1) fun k hk=>by
          rw [hdl] at hk
          exact ⟨by rw [Ltx.putAt,if_neg (by omega),if_neg (by omega),if_pos (by omega)],by rw [Ltx.dropAt,if_neg (by omega),if_pos (by omega)]⟩
        rw [List.take_append_drop,hdl] at e3
        have e4:flatP (Ltx.putAt (p :: r)) (Ltx.dropAt (p :: r)) (s.drop d) (p.keep + 1 + d) = flatP (Ltx.putAt r) (Ltx.dropAt r) (s.drop d) 0:=flatP_congr _ _ _
          (fun k=>by
            rw [Nat.zero_add]
            rw [Ltx.putAt,if_neg (by omega),if_neg (by omega),if_neg (by omega)]
            congr 1
            omega)
          (fun k=>by
            rw [Nat.zero_add]
            rw [Ltx.dropAt,if_neg (by omega),if_neg (by omega)]
            congr 1
            omega)
        rw [hrest,flatP,e1,e2,e3,e4]
        simp


theorem comp_items (a b raw:List Pc) (m:Nat) (hm:m = Ltx.extent a + Ltx.extent b) (hr:Ltx.extent raw≤m) (h:applyP It.new (places 0 m) raw = applyP It.new (applyP It.new (places 0 m) a) b):Ltx.comp a b = Ltx.norm raw:=by
  have hpl:∀ m,(places 0 m).length = m:=fun m=>by simp [places]
  have hl:=Ltx.applyP_len It.new a (places 0 m) (by rw [hpl];omega)
  rw [hpl] at hl
  have h2:=Ltx.extent_two a
  unfold Ltx.comp Ltx.compAt
  rw [← hm,Ltx.places_snoc,Ltx.applyP_snoc _ _ _ _ (by rw [hpl];omega),Nat.zero_add,Ltx.comp_end _ _ _ _ _ _ _ (Ltx.dropAt_far b _ (by omega))]
  rw [Ltx.norm_idle (by intro p hp;obtain rfl:=List.mem_singleton.1 hp;rfl),comp_rec,← applyP_flat b _ (by omega),← h]
  have hp:=rec_places m raw 0 m 0 [] (Nat.le_refl _) hr (by omega)
  rw [norm_eqv hp,Ltx.norm_idle (by intro p hp;obtain rfl:=List.mem_singleton.1 hp;rfl)]
  have h3:=(eqv_nil.app (Eqv.refl raw))
  exact norm_eqv h3
end Go.Proofs.Ytmipodnffhngaaa.P5
namespace Go.Proofs.Ytmipodnffhngaaa.P5
set_option linter.unusedVariables false
open Ltx (Pc)

section
variable {pa pb pa' pb':Nat→List UInt8} {da db da' db':Nat→Bool} {first:Bool}
theorem behind_congr:∀ (k i i':Nat),(∀ j,pa (i + j) = pa' (i' + j))→(∀ j,pb (i + j) = pb' (i' + j))→(∀ j,da (i + j) = da' (i' + j))→(∀ j,db (i + j) = db' (i' + j)) →
    Ltx.behind pa pb da db first k i = Ltx.behind pa' pb' da' db' first k i'
  | 0,i,i',h1,h2,_,_=>by
    have a:=h1 0
    have b:=h2 0
    rw [Nat.add_zero,Nat.add_zero] at a b
    unfold Ltx.behind Ltx.ends
    rw [a,b]
  | k + 1,i,i',h1,h2,h3,h4=>by
    have a:=h1 0
    have b:=h2 0
    have c:=h3 0
    have d:=h4 0
    rw [Nat.add_zero,Nat.add_zero] at a b c d
    have ih:=behind_congr k (i + 1) (i' + 1) (fun j=>by have:=h1 (1 + j);rwa [← Nat.add_assoc,← Nat.add_assoc] at this) (fun j=>by have:=h2 (1 + j);rwa [← Nat.add_assoc,← Nat.add_assoc] at this)
      (fun j=>by have:=h3 (1 + j);rwa [← Nat.add_assoc,← Nat.add_assoc] at this) (fun j=>by have:=h4 (1 + j);rwa [← Nat.add_assoc,← Nat.add_assoc] at this)
    rw [Ltx.behind,Ltx.behind,ih]
    unfold Ltx.ends Ltx.mid
    rw [a,b,c,d]
def run (A B:Bool) (m:Nat):List Pc:=if B then [] else if A then [⟨0,m,[]⟩] else [⟨m,0,[]⟩]
theorem run_zero (A B:Bool):Eqv (run A B 0) []:=by
  unfold run
  cases A <;> cases B <;> first | exact Eqv.refl _ | exact eqv_nil
theorem run_succ (A B:Bool) (m:Nat):Eqv (run A B 1 ++ run A B m) (run A B (m + 1)):=by
  unfold run
  cases B with
  | true=>exact Eqv.refl _
  | false =>
    cases A with
    | true =>
      have:=eqv_one (k:=0) (d:=1) (t:=[]) (k':=0) (d':=m) (t':=[]) rfl
      rw [Nat.add_comm 1 m] at this
      exact this
    | false =>
      have:=eqv_keep (k:=1) (k':=m) (d:=0) (t:=[])
      rw [Nat.add_comm 1 m] at this
      exact this
theorem ends_idle {i:Nat} (h1:pa i = []) (h2:pb i = []):Eqv (Ltx.ends pa pb first i) []:=by
  unfold Ltx.ends
  rw [h1,h2]
  have e:Eqv [(⟨0,0,[]⟩:Pc),⟨0,0,[]⟩] []:=by
    have:=eqv_nil.app eqv_nil
    exact this
  cases first <;> exact e
theorem behind_run {A B:Bool}:∀ (m k i:Nat),(∀ j,j < m→pa (i + j) = []∧pb (i + j) = []∧da (i + j) = A∧db (i + j) = B) →
    Eqv (Ltx.behind pa pb da db first (m + k) i) (run A B m ++ Ltx.behind pa pb da db first k (i + m))
  | 0,k,i,_=>by
    rw [Nat.zero_add,Nat.add_zero]
    have:=(run_zero A B).symm.app (Eqv.refl (Ltx.behind pa pb da db first k i))
    exact this
  | m + 1,k,i,h=>by
    have h0:=h 0 (by omega)
    rw [Nat.add_zero] at h0
    have ih:=behind_run m k (i + 1) fun j hj=>by
      have:=h (j + 1) (by omega)
      rw [show i + 1 + j = i + (j + 1) by omega]
      exact this
    rw [show m + 1 + k = (m + k) + 1 by omega,Ltx.behind]
    have hm:Ltx.mid da db i = run A B 1:=by unfold Ltx.mid run;rw [h0.2.2.1,h0.2.2.2]
    rw [hm,show i + (m + 1) = i + 1 + m by omega]
    have e1:Eqv (Ltx.ends pa pb first i ++ run A B 1 ++ Ltx.behind pa pb da db first (m + k) (i + 1)) ([] ++ run A B 1 ++ (run A B m ++ Ltx.behind pa pb da db first k (i + 1 + m))):=((ends_idle h0.1 h0.2.1).app (Eqv.refl _)).app ih
    refine e1.trans ?_
    rw [List.nil_append,← List.append_assoc]
    exact (run_succ A B m).app (Eqv.refl _)
theorem behind_first {X:List Pc} (k:Nat) (h0:Eqv (Ltx.ends pa pb first 0) (X ++ Ltx.ends pa' pb' first 0)) (h1:∀ j,pa (j + 1) = pa' (j + 1)) (h2:∀ j,pb (j + 1) = pb' (j + 1)) (h3:∀ j,da j = da' j) (h4:∀ j,db j = db' j) :
    Eqv (Ltx.behind pa pb da db first k 0) (X ++ Ltx.behind pa' pb' da' db' first k 0):=by
  cases k with
  | zero=>exact h0
  | succ k =>
    have e:Ltx.behind pa pb da db first k (0 + 1) = Ltx.behind pa' pb' da' db' first k (0 + 1):=behind_congr k (0 + 1) (0 + 1) (fun j=>by rw [show 0 + 1 + j = j + 1 by omega];exact h1 j) (fun j=>by rw [show 0 + 1 + j = j + 1 by omega];exact h2 j) (fun j=>h3 _) (fun j=>h4 _)
    rw [Ltx.behind,Ltx.behind,e,← List.append_assoc,← List.append_assoc]
    have hm:Ltx.mid da db 0 = Ltx.mid da' db' 0:=by unfold Ltx.mid;rw [h3,h4]
    rw [hm]
    exact (h0.app (Eqv.refl _)).app (Eqv.refl _)
end
def docB (first:Bool) (a b:List Pc):List Pc:=Ltx.behind (Ltx.putAt a) (Ltx.putAt b) (Ltx.dropAt a) (Ltx.dropAt b) first (max (Ltx.extent a) (Ltx.extent b)) 0
theorem docB_look {first:Bool} {a b a' b':List Pc} (h1:Look a a') (h2:Look b b'):docB first a b = docB first a' b':=by
  unfold docB
  rw [h1.ex,h2.ex]
  exact behind_congr _ 0 0 (fun j=>h1.pu _) (fun j=>h2.pu _) (fun j=>h1.dr _) (fun j=>h2.dr _)
theorem meet_put {first:Bool} {t:List UInt8} {r b:List Pc} (h:first = true∨Ltx.putAt b 0 = []) :
    Eqv (docB first (⟨0,0,t⟩ :: r) b) ([⟨0,0,t⟩] ++ docB first r b)∧Eqv (docB (!first) b (⟨0,0,t⟩ :: r)) ([⟨t.length,0,[]⟩] ++ docB (!first) b r):=by
  have hex:Ltx.extent (⟨0,0,t⟩ :: r) = Ltx.extent r:=by simp [Ltx.extent]
  have hp0:Ltx.putAt (⟨0,0,t⟩ :: r) 0 = t ++ Ltx.putAt r 0:=by rw [pa_put,if_pos rfl]
  have hp1:∀ j,Ltx.putAt (⟨0,0,t⟩ :: r) (j + 1) = Ltx.putAt r (j + 1):=fun j=>by rw [pa_put,if_neg (by omega)]
  have hd:∀ j,Ltx.dropAt (⟨0,0,t⟩ :: r) j = Ltx.dropAt r j:=fun j=>da_put t r j
  have e1:∀ u:List UInt8,Eqv [(⟨0,0,t ++ u⟩:Pc)] [⟨0,0,t⟩,⟨0,0,u⟩]:=fun u=>by
    have:=(eqv_one (k:=0) (d:=0) (t:=t) (k':=0) (d':=0) (t':=u) rfl).symm
    exact this
  have e2:∀ u:List UInt8,Eqv [(⟨(t ++ u).length,0,[]⟩:Pc)] [⟨t.length,0,[]⟩,⟨u.length,0,[]⟩]:=fun u=>by
    rw [List.length_append]
    exact eqv_keep.symm
  have e3:Eqv [(⟨0,0,[]⟩:Pc)] []:=eqv_nil
  unfold docB
  rw [hex,Nat.max_comm (Ltx.extent b)]
  constructor
  · refine behind_first _ ?_ hp1 (fun j=>rfl) hd (fun j=>rfl)
    unfold Ltx.ends
    rw [hp0]
    cases first with
    | true =>
      have:=(e1 (Ltx.putAt r 0)).app (Eqv.refl [(⟨(Ltx.putAt b 0).length,0,[]⟩:Pc)])
      exact this
    | false =>
      have hb:Ltx.putAt b 0 = []:=by simpa using h
      rw [hb]
      have a1:=e3.app (e1 (Ltx.putAt r 0))
      have a2:=(Eqv.refl [(⟨0,0,t⟩:Pc)]).app (e3.symm.app (Eqv.refl [(⟨0,0,Ltx.putAt r 0⟩:Pc)]))
      exact a1.trans a2
  · refine behind_first _ ?_ (fun j=>rfl) hp1 (fun j=>rfl) hd
    unfold Ltx.ends
    rw [hp0]
    cases first with
    | true =>
      have:=(e2 (Ltx.putAt r 0)).app (Eqv.refl [(⟨0,0,Ltx.putAt b 0⟩:Pc)])
      exact this
    | false =>
      have hb:Ltx.putAt b 0 = []:=by simpa using h
      rw [hb]
      have a1:=e3.app (e2 (Ltx.putAt r 0))
      have a2:=(Eqv.refl [(⟨t.length,0,[]⟩:Pc)]).app (e3.symm.app (Eqv.refl [(⟨(Ltx.putAt r 0).length,0,[]⟩:Pc)]))
      exact a1.trans a2
structure Front (l:List Pc) (m:Nat) (X:Bool) (l':List Pc):Prop where
  pu:∀ j,j < m→Ltx.putAt l j = []
  dr:∀ j,j < m→Ltx.dropAt l j = X
  pu':∀ j,Ltx.putAt l (m + j) = Ltx.putAt l' j
  dr':∀ j,Ltx.dropAt l (m + j) = Ltx.dropAt l' j
  ex:Ltx.extent l = m + Ltx.extent l'∨(Ltx.extent l = 0∧Ltx.extent l' = 0)
theorem front_nil (m:Nat):Front [] m false []:=⟨fun _ _=>rfl,fun _ _=>rfl,fun _=>rfl,fun _=>rfl,.inr ⟨rfl,rfl⟩⟩
theorem front_keep {m n:Nat} (r:List Pc) (h:m≤n):Front (⟨n,0,[]⟩ :: r) m false (⟨n - m,0,[]⟩ :: r):=by
  refine ⟨fun j hj=>by rw [pa_keep,if_pos (by omega)],fun j hj=>by rw [da_keep,if_pos (by omega)],fun j=>?_,fun j=>?_,.inl ?_⟩
  · rw [pa_keep,pa_keep]
    by_cases a:j < n - m
    · rw [if_pos a,if_pos (by omega)]
    · rw [if_neg a,if_neg (by omega)];congr 1;omega
  · rw [da_keep,da_keep]
    by_cases a:j < n - m
    · rw [if_pos a,if_pos (by omega)]
    · rw [if_neg a,if_neg (by omega)];congr 1;omega
  · simp only [Ltx.extent];omega
theorem front_drop {m n:Nat} (r:List Pc) (h:m≤n):Front (⟨0,n,[]⟩ :: r) m true (⟨0,n - m,[]⟩ :: r):=by
  refine ⟨fun j hj=>by rw [pa_drop,if_pos (by omega)],fun j hj=>by rw [da_drop,if_pos (by omega)],fun j=>?_,fun j=>?_,.inl ?_⟩
  · rw [pa_drop,pa_drop]
    by_cases a:j < n - m
    · rw [if_pos a,if_pos (by omega)]
    · rw [if_neg a,if_neg (by omega)];congr 1;omega
  · rw [da_drop,da_drop]
    by_cases a:j < n - m
    · rw [if_pos a,if_pos (by omega)]
    · rw [if_neg a,if_neg (by omega)];congr 1;omega
  · simp only [Ltx.extent];omega
theorem Front.look {l m':List Pc} {m:Nat} {X:Bool} {l':List Pc} (h:Front l m X l') (h2:Look l' m'):Front l m X m' :=
  ⟨h.pu,h.dr,fun j=>(h.pu' j).trans (h2.pu j),fun j=>(h.dr' j).trans (h2.dr j),by rw [← h2.ex];exact h.ex⟩
theorem meet_run {first X Y:Bool} {a b a' b':List Pc} {m:Nat} (hm:0 < m) (hx:Front a m X a') (hy:Front b m Y b') (hne:Ltx.extent a ≠ 0∨Ltx.extent b ≠ 0):Eqv (docB first a b) (run X Y m ++ docB first a' b'):=by
  have hmax:max (Ltx.extent a) (Ltx.extent b) = m + max (Ltx.extent a') (Ltx.extent b'):=by
    rcases hx.ex with e | ⟨e1,e2⟩ <;> rcases hy.ex with f | ⟨f1,f2⟩ <;> omega
  unfold docB
  rw [hmax]
  refine (behind_run (A:=X) (B:=Y) m _ 0 fun j hj=>?_).trans ?_
  · rw [Nat.zero_add]
    exact ⟨hx.pu j hj,hy.pu j hj,hx.dr j hj,hy.dr j hj⟩
  · rw [Nat.zero_add]
    refine (Eqv.refl _).app ?_
    rw [behind_congr (pa':=Ltx.putAt a') (pb':=Ltx.putAt b') (da':=Ltx.dropAt a') (db':=Ltx.dropAt b') _ m 0 (fun j=>by rw [Nat.zero_add];exact hx.pu' j) (fun j=>by rw [Nat.zero_add];exact hy.pu' j) (fun j=>by rw [Nat.zero_add];exact hx.dr' j) (fun j=>by rw [Nat.zero_add];exact hy.dr' j)]
    exact Eqv.refl _
end Go.Proofs.Ytmipodnffhngaaa.P5
namespace Go.Proofs.Ytmipodnffhngaaa
set_option linter.unusedVariables false
open Go.RowKit
set_option maxRecDepth 20000

end Go.Proofs.Ytmipodnffhngaaa
namespace Go.Proofs.Ytmipodnffhngaaa.Top
open Go.RowKit
set_option maxRecDepth 20000
set_option linter.unusedVariables false

end Go.Proofs.Ytmipodnffhngaaa.Top
namespace Go.Proofs.Ytmipodnffhngaaa
set_option linter.unusedVariables false
open Go.RowKit
set_option maxRecDepth 20000

end Go.Proofs.Ytmipodnffhngaaa
