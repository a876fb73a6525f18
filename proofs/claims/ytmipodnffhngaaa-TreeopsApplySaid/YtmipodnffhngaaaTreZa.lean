/- A tree with another node at a path, the document's: the node that is made. -/
import Derived.Test.YtmipodnffhngaaaMgAF
set_option linter.all false
namespace Go.Proofs.Ytmipodnffhngaaa
set_option linter.unusedVariables false
open Go.RowKit
set_option maxRecDepth 20000

theorem set_node {w w9 W:World} {T T2:Nat→Prop} {t z:Nd} {aA kA A2 zA zK:Option Addr} {an ac kn kc c2 base j g zn zc zm zd:Nat} {ks:List KV} (hv:NodeV T w aA an ac kA kn kc t) (hTw:∀ k,T k→W.heap[k]? = w.heap[k]?) (e1:ks.map KV.t = t.kids) (e2:∀ k ∈ ks,k.ok T w)
    (e3:OwnK base w9 (.slice A2 kn c2) ks) (e4:kn≤c2) (e5:c2≤maxLen) (e6:A2 = none→c2 = 0) (hA:A2 = some ⟨g,0,none⟩) (hj:j < kn)
    (hout:∀ o,(o < j * 6∨j * 6 + 5 < o)→W.cell? ⟨g,o,none⟩ = w9.cell? ⟨g,o,none⟩) (h6:Six W ⟨g,j * 6,none⟩ z zA zn zc zK zm zd) (hz:NodeV T2 W zA zn zc zK zm zd z) :
    NodeV (fun k=>T k∨T2 k∨k = g) W aA an ac A2 kn c2 (t.withKids (t.kids.set j z)):=by
  have hf:=hv.facts
  obtain ⟨A,n,c,e,hn,hnc,-,-,hq⟩:=e3.shape
  injection e with q1 q2 q3
  subst q1 q2 q3
  subst hA
  have hkl:(t.kids.set j z).length = kn:=by rw [List.length_set];exact hf.kl
  have hat:AtsIn (fun k=>T k∨T2 k∨k = g) W aA an t.attrs:=hf.ats.kept (fun k hk=>.inl hk) hTw
  have hrow:RowAt (fun k=>T k∨T2 k∨k = g) W (some ⟨g,0,none⟩) 0 (t.kids.set j z):=by
    refine RowAt.of _ 0 fun q y hqt=>⟨_,rfl,?_⟩
    rw [Nat.zero_add,add_zero_off]
    by_cases hqj:q = j
    · subst hqj
      rw [List.getElem?_set_self (by rw [hf.kl];exact hj)] at hqt
      injection hqt with hqt
      subst hqt
      exact ⟨.inr (.inr rfl),zA,zn,zc,zK,zm,zd,h6,hz.kept (fun k hk=>.inr (.inl hk)) (fun _ _=>rfl)⟩
    · rw [List.getElem?_set_ne (fun e=>hqj e.symm)] at hqt
      rw [← e1,List.getElem?_map] at hqt
      cases hvq:ks[q]? with
      | none=>rw [hvq] at hqt;cases hqt
      | some v =>
        rw [hvq] at hqt
        injection hqt with hqt
        subst hqt
        obtain ⟨g',eg,-,-,h6v⟩:=hq q v hvq
        injection eg with eg
        injection eg with eg
        subst eg
        have hc6:∀ o,o < q * 6 + 6→q * 6≤o→W.cell? ⟨g,o,none⟩ = w9.cell? ⟨g,o,none⟩:=fun o h1 h2=>hout o (by omega)
        obtain ⟨t0,t1,t2,t3,t4,t5⟩:=h6v
        exact ⟨.inr (.inr rfl),v.aA,v.an,v.ac,v.kA,v.kn,v.kc,⟨(hc6 (q * 6) (by omega) (by omega)).trans t0,(hc6 (q * 6 + 1) (by omega) (by omega)).trans t1,(hc6 (q * 6 + 2) (by omega) (by omega)).trans t2,(hc6 (q * 6 + 3) (by omega) (by omega)).trans t3,(hc6 (q * 6 + 4) (by omega) (by omega)).trans t4,(hc6 (q * 6 + 5) (by omega) (by omega)).trans t5⟩,
          NodeV.kept (T:=T) (w:=w) (fun k hk=>.inl hk) hTw _ _ _ _ _ _ _ (e2 v (List.mem_of_getElem? hvq))⟩
  have hfi:=hf.id
  have hfl:=hf.label
  have hft:=hf.text
  have hanc:=hf.anc
  have hacm:=hf.acm
  have hanil:=hf.anil
  cases t
  exact NFacts.node ⟨hfi,hfl,hft,hat,hanc,hacm,hanil,hkl,e4,e5,e6,hrow⟩
def RPut (w:World) (T:Nat→Prop) (t:Nd) (p:List Int) (x:Nd) (e:Ending) (w':World):Prop :=
  ∃ aA an ac kA kn kc,e = .returned (.tuple #[.agg (val6 ((putV t p x).getD Nd.zero) aA an ac kA kn kc),.bool (putV t p x).isSome])∧NodeV (fun k=>T k∨(w.heap.size≤k∧k < w'.heap.size)) w' aA an ac kA kn kc ((putV t p x).getD Nd.zero)∧Below w.heap.size w w'
theorem three_boxes (w:World) (a b c:Array Value) (t:TypeId):let W:=((w.alloc (.cells a t)).alloc (.cells b t)).alloc (.cells c t)
    W.heap[w.heap.size]? = some (.cells a t (0,0))∧W.heap[w.heap.size + 1]? = some (.cells b t (0,0))∧W.heap[w.heap.size + 1 + 1]? = some (.cells c t (0,0))∧Below w.heap.size w W∧W.heap.size = w.heap.size + 3:=by
  have h1:=heap_alloc_new w (.cells a t)
  have h2:=heap_alloc_new (w.alloc (.cells a t)) (.cells b t)
  have h3:=heap_alloc_new ((w.alloc (.cells a t)).alloc (.cells b t)) (.cells c t)
  rw [World.size_alloc] at h2
  rw [World.size_alloc,World.size_alloc] at h3
  exact ⟨(Go.heap_alloc_old _ _ (by simp;omega)).trans ((Go.heap_alloc_old _ _ (by simp)).trans h1),(Go.heap_alloc_old _ _ (by simp)).trans h2,h3,(((Below.refl w.heap.size w).alloc (Nat.le_refl _) _).alloc (by simp) _).alloc (by simp;omega) _,by simp⟩
theorem six_drew {w:World} {g e:Nat} {b0 b1 b2 b3 b4 b5:Value} {cs:Array Value} {ty:TypeId} (h:w.heap[g]? = some (.cells cs ty (0,0))) (hs:e + 5 < cs.size) :
    ∃ W,W = (six w g e b0 b1 b2 b3 b4 b5).drew∧(W.cell? ⟨g,e,none⟩ = some b0∧W.cell? ⟨g,e + 1,none⟩ = some b1∧W.cell? ⟨g,e + 2,none⟩ = some b2∧W.cell? ⟨g,e + 3,none⟩ = some b3∧W.cell? ⟨g,e + 4,none⟩ = some b4∧W.cell? ⟨g,e + 5,none⟩ = some b5) ∧
      W.heap.size = w.heap.size∧(∀ k,k ≠ g→W.heap[k]? = w.heap[k]?)∧(∀ o,(o < e∨e + 5 < o)→W.cell? ⟨g,o,none⟩ = w.cell? ⟨g,o,none⟩)∧(∀ B v,Below B v w→B≤g→Below B v W):=by
  have hin:=six_in (b0:=b0) (b1:=b1) (b2:=b2) (b3:=b3) (b4:=b4) (b5:=b5) h hs
  have hzz:=six_size (w:=w) (g:=g) (e:=e) (b0:=b0) (b1:=b1) (b2:=b2) (b3:=b3) (b4:=b4) (b5:=b5)
  have hot:=fun k (hk:k ≠ g)=>six_other (w:=w) (e:=e) (b0:=b0) (b1:=b1) (b2:=b2) (b3:=b3) (b4:=b4) (b5:=b5) hk
  have hou:=fun o (ho:o < e∨e + 5 < o)=>six_out (b0:=b0) (b1:=b1) (b2:=b2) (b3:=b3) (b4:=b4) (b5:=b5) h ho
  have hbe:=fun B v (hb:Below B v w) (hg:B≤g)=>(six_below (e:=e) (b0:=b0) (b1:=b1) (b2:=b2) (b3:=b3) (b4:=b4) (b5:=b5) hb hg).drew
  generalize six w g e b0 b1 b2 b3 b4 b5 = W at *
  exact ⟨W.drew,rfl,hin,hzz,hot,hou,hbe⟩
set_option maxHeartbeats 16000000 in
theorem rput_any (p:List Int):∀ (t x:Nd) (w:World) (T:Nat→Prop) (aA kA xA xK pA:Option Addr) (an ac kn kc xn xc xm xd pn pc:Nat),(∀ k,T k→k < w.heap.size)→NodeV T w aA an ac kA kn kc t→NodeV T w xA xn xc xK xm xd x→Its w pA pn p→pn≤pc→pc≤maxLen→weighV t≤1000000 →
    Calls Try.prog 110 #[.agg (val6 t aA an ac kA kn kc),.slice pA pn pc,.agg (val6 x xA xn xc xK xm xd)] w (RPut w T t p x):=by
  induction p with
  | nil =>
    intro t x w T aA kA xA xK pA an ac kn kc xn xc xm xd pn pc hT h hx hp hpc hpm hw
    obtain rfl:pn = 0:=by have:=hp.1;simpa using this.symm
    obtain ⟨W9,hW9⟩:∃ W9,W9 = ((w.alloc (.cells (val6 t aA an ac kA kn kc) 33)).alloc (.cells (val6 x xA xn xc xK xm xd) 33)).alloc (.cells (val6 x xA xn xc xK xm xd) 33):=⟨_,rfl⟩
    obtain ⟨-,-,g3,g4,g5⟩:=three_boxes w (val6 t aA an ac kA kn kc) (val6 x xA xn xc xK xm xd) (val6 x xA xn xc xK xm xd) 33
    rw [← hW9] at g3 g4 g5
    have hx3:=Lib.hid (hx.kept (w':=W9) (T':=T) (fun _ h=>h) (fun k hk=>g4.block k (hT k hk)))
    have g4':=Lib.hid g4
    have g3':=Lib.hid g3
    unfold val6 at hW9
    clear h hx hp hT g4 g5 g3
    unfold val6
    go_enter Try.func110,Try.ntmps110
    go_wp2_with fail
    rw [← hW9]
    have R9:=g3'.out
    unfold val6 at R9
    obtain ⟨d0,d1,d2,d3,d4,d5,df⟩:=six_cells R9
    refine bodyPost_ret (v:=.tuple #[.agg (val6 x xA xn xc xK xm xd),.bool true]) (by simp [results,Try.results110,go_sem,d0,d1,d2,d3,d4,d5,val6]) rfl ?_
    exact ⟨xA,xn,xc,xK,xm,xd,rfl,hx3.out.kept (fun k hk=>.inl hk) (fun _ _=>rfl),g4'.out⟩
  | cons i r ih =>
    intro t x w T aA kA xA xK pA an ac kn kc xn xc xm xd pn pc hT h hx hp hpc hpm hw
    have ih':=Lib.hid ih
    have hpl:=hp.1
    have hpn1:1≤pn:=by rw [← hpl];simp
    obtain ⟨ad,y,rfl,hy,hci⟩:=hp.at_ (k:=0) (by omega)
    obtain rfl:i = y:=by simpa using hy
    rw [add_zero] at hci
    unfold maxLen at hpm
    have hf:=h.facts
    have hkl:=hf.kl
    have hkm:=hf.kcm
    have hknc:=hf.knc
    unfold maxLen at hkm
    obtain ⟨W3,hW3⟩:∃ W3,W3 = ((w.alloc (.cells (val6 t aA an ac kA kn kc) 33)).alloc (.cells (val6 x xA xn xc xK xm xd) 33)).alloc (.cells zero6 33):=⟨_,rfl⟩
    obtain ⟨g1,g2,g3,g4,g5⟩:=three_boxes w (val6 t aA an ac kA kn kc) (val6 x xA xn xc xK xm xd) zero6 33
    rw [← hW3] at g1 g2 g3 g4 g5
    have hlad:ad.block < w.heap.size:=World.block_lt_of_cell? w _ hci
    have hc3:=(g4.cell (p:=ad) hlad).trans hci
    have hT':=Lib.hid hT
    have g1':=Lib.hid g1
    have g2':=Lib.hid g2
    have g3':=Lib.hid g3
    have g4':=Lib.hid g4
    have g5':=Lib.hid g5
    have h':=Lib.hid h
    have hx':=Lib.hid hx
    have hp':=Lib.hid hp
    have hw':=Lib.hid hw
    unfold val6 at hW3 g1 g2
    unfold zero6 at hW3 g3
    obtain ⟨c0,c1,c2,c3,c4,c5,cf⟩:=six_cells g1
    obtain ⟨x0,x1,x2,x3,x4,x5,-⟩:=six_cells g2
    obtain ⟨r0,r1,r2,r3,r4,r5,rf⟩:=six_cells g3
    have hpnI:(1:Int)≤(pn:Int):=by omega
    have hpcI:(pn:Int)≤(pc:Int):=by omega
    have hpn0:¬ (pn:Int) = 0:=by omega
    have hpn0':((pn:Int) == 0) = false:=by simp;omega
    have hpn00:(0:Int) < (pn:Int):=by omega
    have hpn0n:0 < pn:=by omega
    have no:Hid (putV t (i :: r) x = none→∀ (W:World),Below W3.heap.size W3 W→RPut w T t (i :: r) x (.returned (.tuple #[.agg zero6,.bool false])) ((((((W.setCell ⟨w.heap.size + 1 + 1,0,none⟩ (.int .u64 0)).setCell ⟨w.heap.size + 1 + 1,1,none⟩ (.bool false)).setCell ⟨w.heap.size + 1 + 1,2,none⟩ (.string ⟨#[]⟩)).setCell ⟨w.heap.size + 1 + 1,3,none⟩ (.slice none 0 0)).setCell ⟨w.heap.size + 1 + 1,4,none⟩ (.string ⟨#[]⟩)).setCell ⟨w.heap.size + 1 + 1,5,none⟩ (.slice none 0 0))∧((((((W.setCell ⟨w.heap.size + 1 + 1,0,none⟩ (.int .u64 0)).setCell ⟨w.heap.size + 1 + 1,1,none⟩ (.bool false)).setCell ⟨w.heap.size + 1 + 1,2,none⟩ (.string ⟨#[]⟩)).setCell ⟨w.heap.size + 1 + 1,3,none⟩ (.slice none 0 0)).setCell ⟨w.heap.size + 1 + 1,4,none⟩ (.string ⟨#[]⟩)).setCell ⟨w.heap.size + 1 + 1,5,none⟩ (.slice none 0 0)).heap[w.heap.size + 1 + 1]? = some (.cells zero6 33 (0,0))):=fun hn W hb=>by
      have hz:=g5'.out
      refine ⟨⟨none,0,0,none,0,0,by rw [hn];rfl,by rw [hn];exact zero_node,below_six (g4'.out.trans (hb.mono g4'.out.size)) (show w.heap.size≤w.heap.size + 1 + 1 by omega)⟩,?_⟩
      have:=(hb.block (w.heap.size + 1 + 1) (by omega)).trans g3'.out
      unfold zero6 at this ⊢
      exact set_six this
    rcases hasB_cases kn i with hno | ⟨j,rfl,hj,hyes⟩
    · have hans:=Lib.hid (putV_none (x:=x) (r:=r) (show hasB t.kids.length i = false by rw [hkl];exact hno))
      unfold hasB at hno
      have hno:=of_decide_eq_false hno
      by_cases hneg:i < 0
      · have e1:decide (i < 0) = true:=decide_eq_true hneg
        clear h hx hp hT g1 g2 g3 g4 g5 hf hkl hno hy ih hw hpl
        unfold val6
        rw [hW3] at c0 c1 c2 c3 c4 c5 x0 x1 x2 x3 x4 x5 r0 r1 r2 r3 r4 r5 rf hc3
        go_enter Try.func110,Try.ntmps110
        go_wp2_with fail
        go_quiet (fail)
        go_wp2_with fail
        rw [← hW3]
        obtain ⟨hA,R9⟩:=no.out hans.out (W3.drewN nq) (draws (Below.refl W3.heap.size W3) nq)
        generalize (((((((W3.drewN nq).setCell ⟨w.heap.size + 1 + 1,0,none⟩ (.int .u64 0)).setCell ⟨w.heap.size + 1 + 1,1,none⟩ (.bool false)).setCell ⟨w.heap.size + 1 + 1,2,none⟩ (.string ⟨#[]⟩)).setCell ⟨w.heap.size + 1 + 1,3,none⟩ (.slice none 0 0)).setCell ⟨w.heap.size + 1 + 1,4,none⟩ (.string ⟨#[]⟩)).setCell ⟨w.heap.size + 1 + 1,5,none⟩ (.slice none 0 0)) = W9 at R9 hA ⊢
        unfold zero6 at R9
        obtain ⟨d0,d1,d2,d3,d4,d5,df⟩:=six_cells R9
        refine bodyPost_ret (v:=.tuple #[.agg zero6,.bool false]) (by simp [results,Try.results110,go_sem,d0,d1,d2,d3,d4,d5,zero6]) rfl ?_
        exact hA
      · have e1:decide (i < 0) = false:=decide_eq_false hneg
        have e2:decide ((kn:Int)≤i) = true:=decide_eq_true (by omega)
        clear h hx hp hT g1 g2 g3 g4 g5 hf hkl hno hy ih hw hpl
        unfold val6
        rw [hW3] at c0 c1 c2 c3 c4 c5 x0 x1 x2 x3 x4 x5 r0 r1 r2 r3 r4 r5 rf hc3
        go_enter Try.func110,Try.ntmps110
        go_wp2_with fail
        go_quiet (fail)
        go_wp2_with fail
        rw [← hW3]
        obtain ⟨hA,R9⟩:=no.out hans.out (W3.drewN nq) (draws (Below.refl W3.heap.size W3) nq)
        generalize (((((((W3.drewN nq).setCell ⟨w.heap.size + 1 + 1,0,none⟩ (.int .u64 0)).setCell ⟨w.heap.size + 1 + 1,1,none⟩ (.bool false)).setCell ⟨w.heap.size + 1 + 1,2,none⟩ (.string ⟨#[]⟩)).setCell ⟨w.heap.size + 1 + 1,3,none⟩ (.slice none 0 0)).setCell ⟨w.heap.size + 1 + 1,4,none⟩ (.string ⟨#[]⟩)).setCell ⟨w.heap.size + 1 + 1,5,none⟩ (.slice none 0 0)) = W9 at R9 hA ⊢
        unfold zero6 at R9
        obtain ⟨d0,d1,d2,d3,d4,d5,df⟩:=six_cells R9
        refine bodyPost_ret (v:=.tuple #[.agg zero6,.bool false]) (by simp [results,Try.results110,go_sem,d0,d1,d2,d3,d4,d5,zero6]) rfl ?_
        exact hA
    · obtain ⟨kd,hkd⟩:∃ kd,t.kids[j]? = some kd:=⟨t.kids[j]'(by omega),List.getElem?_eq_getElem _⟩
      obtain ⟨ka,rfl,hka,dA,dn,dc,dK,dm,dd,hsix,hdv⟩:=hf.row.at_ hkd
      rw [Nat.zero_add] at hka hsix
      have hans:=Lib.hid (putV_some (x:=x) (r:=r) hkd)
      have hdv':=Lib.hid hdv
      have hsix':=Lib.hid hsix
      have hka':=Lib.hid hka
      have hwk:=Lib.hid (Nat.le_trans (weigh_kid hkd) hw)
      have hkw:=Lib.hid (show kn≤1000000 by have:=weigh_rows t;omega)
      have hjI:(j:Int) < (kn:Int):=by omega
      have e1:decide ((j:Int) < 0) = false:=decide_eq_false (by omega)
      have e2:decide ((kn:Int)≤(j:Int)) = false:=decide_eq_false (by omega)
      have e3:decide (kn≤j) = false:=decide_eq_false (by omega)
      have hcv:∃ A1:Addr,(pc = 1∧ad = A1∨pc ≠ 1∧(⟨ad.block,ad.off + 1,none⟩:Addr) = A1):=by
        by_cases e:pc = 1
        · exact ⟨_,.inl ⟨e,rfl⟩⟩
        · exact ⟨_,.inr ⟨e,rfl⟩⟩
      obtain ⟨A1,hA1⟩:=hcv
      have hr1:=Lib.hid (show Its w (some A1) (pn - 1) r by
        have:=Its.from_ (lo:=1) (m:=pn - 1) hp (by omega)
        simp only [List.drop_succ_cons,List.drop_zero,Option.map_some] at this
        rw [add_off ad 1 (by omega)] at this
        rcases hA1 with ⟨e,rfl⟩ | ⟨e,rfl⟩
        · have hn:r = []:=List.length_eq_zero_iff.1 (by simp only [List.length_cons] at hpl;omega)
          subst hn
          exact ⟨by simp;omega,fun k x h=>by simp at h⟩
        · exact this)
      have hA1':=Lib.hid hA1
      have hplr:=Lib.hid (show r.length = pn - 1 by simp only [List.length_cons] at hpl;omega)
      clear h hx hp hT g1 g2 g3 g4 g5 hf hkl hy ih hw hpl hkd hsix hdv hA1 hyes hka
      unfold val6
      rw [hW3] at c0 c1 c2 c3 c4 c5 x0 x1 x2 x3 x4 x5 r0 r1 r2 r3 r4 r5 rf hc3
      go_enter Try.func110,Try.ntmps110
      go_wp2_with fail
      go_quiet (fail)
      go_wp2_with fail
      rw [← hW3]
      obtain ⟨W5,hW5⟩:∃ W5,W5 = W3.drewN nq:=⟨_,rfl⟩
      have hb5:Below W3.heap.size W3 W5:=by rw [hW5];exact draws (Below.refl W3.heap.size W3) nq
      have hz5:W5.heap.size = W3.heap.size:=by rw [hW5];rfl
      rw [← hW5]
      clear hW5 hW3 c0 c1 c2 c3 c4 c5 x0 x1 x2 x3 x4 x5 r0 r1 r2 r3 r4 r5 rf hc3 cf e1 e2 e3
      have hz3:=g5'.out
      have hbw:=g4'.out.trans (hb5.mono g4'.out.size)
      have hB5:=Lib.hid ((hb5.block _ (by omega)).trans g1'.out)
      have hX5:=Lib.hid ((hb5.block _ (by omega)).trans g2'.out)
      have hZ5:=Lib.hid ((hb5.block _ (by omega)).trans g3'.out)
      have hP5:=Lib.hid ((hbw.cell (p:=ad) hlad).trans hci)
      have hK5:=Lib.hid (hsix'.out.kept (w':=W5) (hbw.block _ (hT'.out _ hka'.out)))
      have hsz5:=Lib.hid (show W5.heap.size = w.heap.size + 3 by omega)
      have hbw':=Lib.hid hbw
      have hS:Hid (∀ w':World,Below W5.heap.size W5 w'→Below W5.heap.size W5 w'∧w'.cell? ad = some (.int .i64 (j:Int))∧w'.cell? ⟨w.heap.size,5,none⟩ = some (.slice (some ka) kn kc)∧w'.cell? (ka.add (j * 6)) = some (.int .u64 (kd.id:Int))∧w'.cell? ⟨(ka.add (j * 6)).block,(ka.add (j * 6)).off + 1,none⟩ = some (.bool kd.leaf)∧w'.cell? ⟨(ka.add (j * 6)).block,(ka.add (j * 6)).off + 2,none⟩ = some (.string ⟨kd.label.toArray⟩)∧w'.cell? ⟨(ka.add (j * 6)).block,(ka.add (j * 6)).off + 3,none⟩ = some (.slice dA dn dc)∧w'.cell? ⟨(ka.add (j * 6)).block,(ka.add (j * 6)).off + 4,none⟩ = some (.string ⟨kd.text.toArray⟩)∧w'.cell? ⟨(ka.add (j * 6)).block,(ka.add (j * 6)).off + 5,none⟩ = some (.slice dK dm dd)∧w'.cell? ⟨w.heap.size + 1,0,none⟩ = some (.int .u64 (x.id:Int))∧w'.cell? ⟨w.heap.size + 1,1,none⟩ = some (.bool x.leaf)∧w'.cell? ⟨w.heap.size + 1,2,none⟩ = some (.string ⟨x.label.toArray⟩)∧w'.cell? ⟨w.heap.size + 1,3,none⟩ = some (.slice xA xn xc)∧w'.cell? ⟨w.heap.size + 1,4,none⟩ = some (.string ⟨x.text.toArray⟩)∧w'.cell? ⟨w.heap.size + 1,5,none⟩ = some (.slice xK xm xd)):=fun w' hb=>by
        have hs5:=hsz5.out
        obtain ⟨x0,x1,x2,x3,x4,x5,-⟩:=six_cells (show w'.heap[w.heap.size + 1]? = some (.cells #[.int .u64 (x.id:Int),.bool x.leaf,.string ⟨x.label.toArray⟩,.slice xA xn xc,.string ⟨x.text.toArray⟩,.slice xK xm xd] 33 (0,0)) from (hb.block _ (by omega)).trans hX5.out)
        obtain ⟨-,-,-,-,-,c5,-⟩:=six_cells (show w'.heap[w.heap.size]? = some (.cells #[.int .u64 (t.id:Int),.bool t.leaf,.string ⟨t.label.toArray⟩,.slice aA an ac,.string ⟨t.text.toArray⟩,.slice (some ka) kn kc] 33 (0,0)) from (hb.block _ (by omega)).trans hB5.out)
        obtain ⟨s0,s1,s2,s3,s4,s5⟩:=hK5.out.kept (w':=w') (hb.block _ (by have:=hT'.out _ hka'.out;omega))
        exact ⟨hb,(hb.cell (p:=ad) (by omega)).trans hP5.out,c5,s0,s1,s2,s3,s4,s5,x0,x1,x2,x3,x4,x5⟩
      have hd:=hS.out W5.drew (Below.refl W5.heap.size W5).drew
      have hAl:Hid (∀ o:Obj,Below W5.heap.size W5 (W5.alloc o).drew):=fun o=>((Below.refl W5.heap.size W5).alloc (Nat.le_refl _) _).drew
      have hAz:Hid (∀ o:Obj,W5.heap.size < (W5.alloc o).drew.heap.size):=fun o=>by show W5.heap.size < (W5.alloc o).heap.size;simp
      have hAS:Hid (∀ o:Obj,Below W5.heap.size W5 (W5.alloc o).drew∧(W5.alloc o).drew.cell? ad = some (.int .i64 (j:Int))∧(W5.alloc o).drew.cell? ⟨w.heap.size,5,none⟩ = some (.slice (some ka) kn kc)∧(W5.alloc o).drew.cell? (ka.add (j * 6)) = some (.int .u64 (kd.id:Int))∧(W5.alloc o).drew.cell? ⟨(ka.add (j * 6)).block,(ka.add (j * 6)).off + 1,none⟩ = some (.bool kd.leaf)∧(W5.alloc o).drew.cell? ⟨(ka.add (j * 6)).block,(ka.add (j * 6)).off + 2,none⟩ = some (.string ⟨kd.label.toArray⟩)∧(W5.alloc o).drew.cell? ⟨(ka.add (j * 6)).block,(ka.add (j * 6)).off + 3,none⟩ = some (.slice dA dn dc)∧(W5.alloc o).drew.cell? ⟨(ka.add (j * 6)).block,(ka.add (j * 6)).off + 4,none⟩ = some (.string ⟨kd.text.toArray⟩)∧(W5.alloc o).drew.cell? ⟨(ka.add (j * 6)).block,(ka.add (j * 6)).off + 5,none⟩ = some (.slice dK dm dd)∧(W5.alloc o).drew.cell? ⟨w.heap.size + 1,0,none⟩ = some (.int .u64 (x.id:Int))∧(W5.alloc o).drew.cell? ⟨w.heap.size + 1,1,none⟩ = some (.bool x.leaf)∧(W5.alloc o).drew.cell? ⟨w.heap.size + 1,2,none⟩ = some (.string ⟨x.label.toArray⟩)∧(W5.alloc o).drew.cell? ⟨w.heap.size + 1,3,none⟩ = some (.slice xA xn xc)∧(W5.alloc o).drew.cell? ⟨w.heap.size + 1,4,none⟩ = some (.string ⟨x.text.toArray⟩)∧(W5.alloc o).drew.cell? ⟨w.heap.size + 1,5,none⟩ = some (.slice xK xm xd)):=fun o=>hS.out _ (hAl.out o)
      obtain ⟨z,hz⟩:∃ z,z = (putV kd r x).getD Nd.zero:=⟨_,rfl⟩
      obtain ⟨o1,ho1⟩:∃ o1,o1 = (putV kd r x).isSome:=⟨_,rfl⟩
      have hcall:Hid (∀ W,Below W5.heap.size W5 W→Calls Try.prog 110 #[.agg (val6 kd dA dn dc dK dm dd),.slice (some A1) (pn - 1) (pc - 1),.agg (val6 x xA xn xc xK xm xd)] W fun e w'=>∃ aA an ac kA kn kc,e = .returned (.tuple #[.agg (val6 z aA an ac kA kn kc),.bool o1])∧NodeV (fun k=>T k∨(W.heap.size≤k∧k < w'.heap.size)) w' aA an ac kA kn kc z∧Below W.heap.size W w'):=fun W hb=>by
        have hbW:=hbw'.out.trans (hb.mono hbw'.out.size)
        rw [hz,ho1]
        exact ih'.out kd x W T dA dK xA xK (some A1) dn dc dm dd xn xc xm xd (pn - 1) (pc - 1) (fun k hk=>Nat.lt_of_lt_of_le (hT'.out k hk) hbW.size) (hdv'.out.kept (fun _ h=>h) (fun k hk=>hbW.block k (hT'.out k hk))) (hx'.out.kept (fun _ h=>h) (fun k hk=>hbW.block k (hT'.out k hk))) (hr1.out.below hbW) (by omega) (by unfold maxLen;omega) hwk.out
      have hz':=Lib.hid hz
      have ho1':=Lib.hid ho1
      have hb35':=Lib.hid hb5
      have hkw':=hkw
      clear hz ho1 hb5 hz5 hz3 hbw
      unfold val6 at hcall
      have hcB:=Lib.hid (hcall.out _ (hAl.out (.cells #[.int .u64 0,.bool false,.string ⟨#[]⟩,.slice none 0 0,.string ⟨#[]⟩,.slice none 0 0] 33)))
      have hz8:=Lib.hid (show (W5.alloc (.cells #[.int .u64 0,.bool false,.string ⟨#[]⟩,.slice none 0 0,.string ⟨#[]⟩,.slice none 0 0] 33)).drew.heap[W5.heap.size]? = some (.cells #[.int .u64 0,.bool false,.string ⟨#[]⟩,.slice none 0 0,.string ⟨#[]⟩,.slice none 0 0] 33 (0,0)) from heap_alloc_new W5 _)
      rcases hA1'.out with ⟨hc1,rfl⟩ | ⟨hc1,rfl⟩
      · have hcT:(pc = 1) = True:=eq_true hc1
        clear hc1
        go_region_held3 (fun w'=>Below W5.heap.size W5 w'∧w'.cell? ad = some (.int .i64 (j:Int))∧w'.cell? ⟨w.heap.size,5,none⟩ = some (.slice (some ka) kn kc)∧w'.cell? (ka.add (j * 6)) = some (.int .u64 (kd.id:Int))∧w'.cell? ⟨(ka.add (j * 6)).block,(ka.add (j * 6)).off + 1,none⟩ = some (.bool kd.leaf)∧w'.cell? ⟨(ka.add (j * 6)).block,(ka.add (j * 6)).off + 2,none⟩ = some (.string ⟨kd.label.toArray⟩)∧w'.cell? ⟨(ka.add (j * 6)).block,(ka.add (j * 6)).off + 3,none⟩ = some (.slice dA dn dc)∧w'.cell? ⟨(ka.add (j * 6)).block,(ka.add (j * 6)).off + 4,none⟩ = some (.string ⟨kd.text.toArray⟩)∧w'.cell? ⟨(ka.add (j * 6)).block,(ka.add (j * 6)).off + 5,none⟩ = some (.slice dK dm dd)∧w'.cell? ⟨w.heap.size + 1,0,none⟩ = some (.int .u64 (x.id:Int))∧w'.cell? ⟨w.heap.size + 1,1,none⟩ = some (.bool x.leaf)∧w'.cell? ⟨w.heap.size + 1,2,none⟩ = some (.string ⟨x.label.toArray⟩)∧w'.cell? ⟨w.heap.size + 1,3,none⟩ = some (.slice xA xn xc)∧w'.cell? ⟨w.heap.size + 1,4,none⟩ = some (.string ⟨x.text.toArray⟩)∧w'.cell? ⟨w.heap.size + 1,5,none⟩ = some (.slice xK xm xd))
          (first | with_reducible exact hd | with_reducible exact hAS.out _ | with_reducible exact hd2 | with_reducible exact hS.out _ (hd2.1.alloc hd2.1.size _) | with_reducible exact hS.out _ (below_six (hd2.1.alloc hd2.1.size _) hd2.1.size) | with_reducible exact hS.out _ (below_six hd2.1 (Nat.le_refl _)))
          (first
            | (go_at_call 110;with_reducible refine (hcall.out _ hd.1).mono ?_;rintro e w6 ⟨zA,zn,zc,zK,zm,zd,rfl,hzN,hb6⟩;have hd2:=hS.out _ (hd.1.trans (hb6.mono hd.1.size));have hzN':=Lib.hid hzN;have hb6':=Lib.hid hb6;clear hzN hb6)
            | (go_at_call 110;refine hcB.out.mono ?_;rintro e w6 ⟨zA,zn,zc,zK,zm,zd,rfl,hzN,hb6⟩;have hd2:=hS.out _ ((hAl.out _).trans (hb6.mono (hAl.out _).size));have R6:w6.heap[W5.heap.size]? = some (.cells #[.int .u64 0,.bool false,.string ⟨#[]⟩,.slice none 0 0,.string ⟨#[]⟩,.slice none 0 0] 33 (0,0)):=(hb6.block W5.heap.size (hAz.out _)).trans hz8.out;obtain ⟨y0,y1,y2,y3,y4,y5,yf⟩:=six_cells R6;have hzN':=Lib.hid hzN;have hb6':=Lib.hid hb6;have R6':=Lib.hid R6;clear hzN hb6 R6))
        · have hzz:=hb6'.out.size
          obtain ⟨W7,hW7⟩:∃ W7,W7 = w6.alloc (.cells #[.int .u64 (z.id:Int),.bool z.leaf,.string ⟨z.label.toArray⟩,.slice zA zn zc,.string ⟨z.text.toArray⟩,.slice zK zm zd] 33):=⟨_,rfl⟩
          obtain ⟨b8,hb8⟩:∃ b8,b8 = w6.heap.size:=⟨_,rfl⟩
          have hw6:W5.heap.size≤w6.heap.size:=hzz
          have hB8:=Lib.hid (show W7.heap[b8]? = some (.cells (val6 z zA zn zc zK zm zd) 33 (0,0)) by rw [hW7,hb8];exact heap_alloc_new w6 _)
          have hbl7:=Lib.hid (show Below W5.heap.size W5 W7 by rw [hW7];exact hd2.1.alloc hd2.1.size _)
          have hz7:=Lib.hid (show NodeV (fun k=>T k∨(W5.heap.size≤k∧k < W7.heap.size)) W7 zA zn zc zK zm zd z from hzN'.out.kept (fun k hk=>by
            rcases hk with hk | hk
            · exact .inl hk
            · exact .inr ⟨hk.1,by rw [hW7,World.size_alloc];exact Nat.lt_succ_of_lt hk.2⟩) (fun k hk=>by
            rw [hW7]
            refine Go.heap_alloc_old _ _ ?_
            rcases hk with hk | hk
            · have:=hT'.out k hk;have:=hsz5.out;omega
            · exact hk.2))
          rw [← hW7,← hb8]
          clear hW7 hb8 hzN' hb6' hd2 hzz
          have hb37:=hb35'.out.trans (hbl7.out.mono hb35'.out.size)
          cases hoc:o1 with
          | false =>
            have hnone:=Lib.hid (show putV t ((j:Int) :: r) x = none by
              have h1:=ho1'.out
              rw [hoc] at h1
              rw [hans.out]
              cases hq:putV kd r x with
              | none=>rfl
              | some y=>rw [hq] at h1;cases h1)
            have R7:=(hb37.block (w.heap.size + 1 + 1) (by have:=g5'.out;omega)).trans g3'.out
            unfold zero6 at R7
            obtain ⟨r0,r1,r2,r3,r4,r5,rf⟩:=six_cells R7
            clear R7 hoc
            go_wp2_with fail
            obtain ⟨hA,R9⟩:=no.out hnone.out W7 hb37
            generalize ((((((W7.setCell ⟨w.heap.size + 1 + 1,0,none⟩ (.int .u64 0)).setCell ⟨w.heap.size + 1 + 1,1,none⟩ (.bool false)).setCell ⟨w.heap.size + 1 + 1,2,none⟩ (.string ⟨#[]⟩)).setCell ⟨w.heap.size + 1 + 1,3,none⟩ (.slice none 0 0)).setCell ⟨w.heap.size + 1 + 1,4,none⟩ (.string ⟨#[]⟩)).setCell ⟨w.heap.size + 1 + 1,5,none⟩ (.slice none 0 0)) = W9 at R9 hA ⊢
            unfold zero6 at R9
            obtain ⟨d0,d1,d2,d3,d4,d5,df⟩:=six_cells R9
            refine bodyPost_ret (v:=.tuple #[.agg zero6,.bool false]) (by simp [results,Try.results110,go_sem,d0,d1,d2,d3,d4,d5,zero6]) rfl ?_
            exact hA
          | true =>
            have hsome:=Lib.hid (show putV t ((j:Int) :: r) x = some (t.withKids (t.kids.set j z)) by
              have h1:=ho1'.out
              rw [hoc] at h1
              rw [hans.out]
              cases hq:putV kd r x with
              | none=>rw [hq] at h1;cases h1
              | some y =>
                have h2:=hz'.out
                rw [hq] at h2
                subst h2
                rfl)
            have hf:=h'.out.facts
            have hbw7:=hbw'.out.trans (hbl7.out.mono hbw'.out.size)
            have fkl:=Lib.hid hf.kl
            have frow:=Lib.hid (hf.row.kept (T':=T) (w':=W7) (fun _ h=>h) (fun k hk=>hbw7.block k (hT'.out k hk)))
            have fknil:=Lib.hid hf.knil
            have hkw2:=hkw'.out
            have s7:=hbl7.out.size
            have s5:=hsz5.out
            obtain ⟨c0,c1,c2,c3,c4,c5,-⟩:=six_cells (show W7.heap[w.heap.size]? = some (.cells #[.int .u64 (t.id:Int),.bool t.leaf,.string ⟨t.label.toArray⟩,.slice aA an ac,.string ⟨t.text.toArray⟩,.slice (some ka) kn kc] 33 (0,0)) from (hbl7.out.block _ (by omega)).trans hB5.out)
            have hN7:=Lib.hid ((hbl7.out.block w.heap.size (by omega)).trans hB5.out)
            have hR7:=Lib.hid ((hbl7.out.block (w.heap.size + 1 + 1) (by omega)).trans hZ5.out)
            have hP7:=(hbw7.cell (p:=ad) hlad).trans hci
            have hBB:=hB8.out
            unfold val6 at hBB
            obtain ⟨k0,k1,k2,k3,k4,k5,-⟩:=six_cells hBB
            have hb8l:=Lib.hid (Array.getElem?_eq_some_iff.1 hBB).1
            have hbw7':=Lib.hid hbw7
            clear hf hoc hBB hb37
            go_upto_region 10 with (at_builtin;refine wpList_append_kids rfl (.tmp 46) (.tmp 48) rfl T (some ka) kn kc t.kids rfl rfl fkl.out frow.out fknil.out hknc hkw2 ?_;intro A2 cq w8 ks e1 e2 e3 e4 e5 e6 hb8w;have E1:=Lib.hid e1;have E2:=Lib.hid e2;have E3:=Lib.hid e3;have E4:=Lib.hid e4;have E5:=Lib.hid e5;have E6:=Lib.hid e6;have E7:=Lib.hid hb8w;clear e1 e2 e3 e4 e5 e6 hb8w)
            have hq0:0 < kn:=by omega
            obtain ⟨g,rfl⟩:∃ g,A2 = some ⟨g,0,none⟩:=by
              obtain ⟨A,n,c,e,hn,-,-,-,hqq⟩:=E3.out.shape
              have hkl:ks.length = kn:=by rw [← fkl.out,← E1.out,List.length_map]
              obtain ⟨g,hg,-⟩:=hqq 0 _ (List.getElem?_eq_getElem (show 0 < ks.length by omega))
              injection e with q1
              exact ⟨g,by rw [q1,hg]⟩
            have hkl:ks.length = kn:=by rw [← fkl.out,← E1.out,List.length_map]
            obtain ⟨cur,hcur,hcsz⟩:∃ cur,w8.heap[g]? = some (.cells cur 33 (0,0))∧j * 6 + 5 < cur.size:=by
              rcases E3.out.2 with ⟨h0,h1⟩ | ⟨g',cap,cur,e,-,hg,hcap,-,hsz,-⟩
              · cases h0
              · injection e with q1 q2 q3
                injection q1 with q1
                injection q1 with q1
                subst q1
                exact ⟨cur,hg,by rw [hsz];omega⟩
            obtain ⟨hgW,v0,v1,v2,v3,v4,v5⟩:W7.heap.size≤g∧(w8.cell? ⟨g,j * 6,none⟩ = some (.int .u64 ((ks[j]'(by omega)).t.id:Int))∧w8.cell? ⟨g,j * 6 + 1,none⟩ = some (.bool (ks[j]'(by omega)).t.leaf)∧w8.cell? ⟨g,j * 6 + 2,none⟩ = some (.string ⟨(ks[j]'(by omega)).t.label.toArray⟩) ∧
                w8.cell? ⟨g,j * 6 + 3,none⟩ = some (.slice (ks[j]'(by omega)).aA (ks[j]'(by omega)).an (ks[j]'(by omega)).ac)∧w8.cell? ⟨g,j * 6 + 4,none⟩ = some (.string ⟨(ks[j]'(by omega)).t.text.toArray⟩)∧w8.cell? ⟨g,j * 6 + 5,none⟩ = some (.slice (ks[j]'(by omega)).kA (ks[j]'(by omega)).kn (ks[j]'(by omega)).kc)):=by
              obtain ⟨A,n,c,e,hn,-,-,-,hqq⟩:=E3.out.shape
              obtain ⟨g',hg',hbg,-,h6⟩:=hqq j _ (List.getElem?_eq_getElem (show j < ks.length by omega))
              injection e with q1
              rw [hg'] at q1
              injection q1 with q1
              injection q1 with q1
              subst q1
              exact ⟨hbg,h6⟩
            have ff:∀ o,w8.frozen? ⟨g,o,none⟩ = false:=fun o=>frozen_of_row w8 g o _ _ hcur
            have hP8:=(E7.out.cell (p:=ad) (by omega)).trans hP7
            have hb8v:=hb8l.out
            have m0:=(E7.out.cell (p:=⟨b8,0,none⟩) hb8v).trans k0
            have m1:=(E7.out.cell (p:=⟨b8,1,none⟩) hb8v).trans k1
            have m2:=(E7.out.cell (p:=⟨b8,2,none⟩) hb8v).trans k2
            have m3:=(E7.out.cell (p:=⟨b8,3,none⟩) hb8v).trans k3
            have m4:=(E7.out.cell (p:=⟨b8,4,none⟩) hb8v).trans k4
            have m5:=(E7.out.cell (p:=⟨b8,5,none⟩) hb8v).trans k5
            have hcur':=Lib.hid hcur
            have hcsz':=Lib.hid hcsz
            clear hcur hcsz k0 k1 k2 k3 k4 k5 c0 c1 c2 c3 c4 c5 hP7
            go_region
            all_goals
              obtain ⟨W9,hW9,hin,hzz9,hot,hou,hbq⟩:=six_drew (w:=w8) (b0:=.int .u64 (z.id:Int)) (b1:=.bool z.leaf) (b2:=.string ⟨z.label.toArray⟩) (b3:=.slice zA zn zc) (b4:=.string ⟨z.text.toArray⟩) (b5:=.slice zK zm zd) hcur'.out hcsz'.out
              have hbe9:Below W7.heap.size w8 W9:=hbq _ _ (Below.refl _ _) hgW
              clear hbq
              unfold six at hW9
              rw [← hW9]
              clear hW9
              have hs8:=E7.out.size
              have hN9:=(hot w.heap.size (by omega)).trans ((E7.out.block w.heap.size (by omega)).trans hN7.out)
              have hR9:=(hot (w.heap.size + 1 + 1) (by omega)).trans ((E7.out.block (w.heap.size + 1 + 1) (by omega)).trans hR7.out)
              have hbel9:Below w.heap.size w W9:=hbw7'.out.trans ((E7.out.mono (by omega)).trans (hbe9.mono (by omega)))
              have hT9:∀ k,T k→W9.heap[k]? = w.heap[k]?:=fun k hk=>hbel9.block k (hT'.out k hk)
              have hz9:NodeV (fun k=>T k∨(W5.heap.size≤k∧k < W7.heap.size)) W9 zA zn zc zK zm zd z:=hz7.out.kept (fun _ h=>h) (fun k hk=>by
                have hk7:k < W7.heap.size:=by
                  rcases hk with hk | hk
                  · have:=hT'.out k hk;omega
                  · exact hk.2
                exact (hot k (by omega)).trans (E7.out.block k hk7))
              have hnode:=Lib.hid (show ∀ WE:World,(∀ k,k ≠ w.heap.size→k ≠ w.heap.size + 1 + 1→WE.heap[k]? = W9.heap[k]?)→NodeV (fun k=>T k∨(T k∨(W5.heap.size≤k∧k < W7.heap.size))∨k = g) WE aA an ac (some ⟨g,0,none⟩) kn cq (t.withKids (t.kids.set j z)) from fun WE hWE=>by
                have hgE:WE.heap[g]? = W9.heap[g]?:=hWE g (by omega) (by omega)
                refine set_node (w:=w) (w9:=w8) h'.out (fun k hk=>(hWE k (by have:=hT'.out k hk;omega) (by have:=hT'.out k hk;omega)).trans (hT9 k hk)) E1.out (fun k hk=>KV.ok_kept (fun _ h=>h) (fun i hi=>(hbw7'.out.block i (hT'.out i hi)).symm) (E2.out k hk)) E3.out E4.out E5.out E6.out rfl hj (fun o ho=>(World.cell?_of_block (a:=⟨g,o,none⟩) hgE).trans (hou o ho)) (Six.kept (w:=W9) hin hgE) (hz9.kept (fun _ h=>h) (fun k hk=>hWE k ?_ ?_))
                · rcases hk with hk | hk
                  · have:=hT'.out k hk;omega
                  · omega
                · rcases hk with hk | hk
                  · have:=hT'.out k hk;omega
                  · omega)
              obtain ⟨c0,c1,c2,c3,c4,c5,cf⟩:=six_cells (show W9.heap[w.heap.size]? = some (.cells #[.int .u64 (t.id:Int),.bool t.leaf,.string ⟨t.label.toArray⟩,.slice aA an ac,.string ⟨t.text.toArray⟩,.slice (some ka) kn kc] 33 (0,0)) from hN9)
              have hR9':=hR9
              unfold zero6 at hR9'
              obtain ⟨r0,r1,r2,r3,r4,r5,rf⟩:=six_cells hR9'
              have hR9h:=Lib.hid hR9'
              have hbel9':=Lib.hid hbel9
              have hzg:=Lib.hid (show g < W9.heap.size by rw [hzz9];exact (Array.getElem?_eq_some_iff.1 hcur'.out).1)
              have hz97:=Lib.hid (show W7.heap.size≤W9.heap.size by omega)
              clear hin hzz9 hot hou hbe9 hN9 hR9 hbel9 hT9 hz9 hR9' v0 v1 v2 v3 v4 v5 m0 m1 m2 m3 m4 m5 ff hP8
              go_wp2_with fail
              have R10:=(heap_setCell_other W9 ⟨w.heap.size,5,none⟩ (w.heap.size + 1 + 1) (.slice (some ⟨g,0,none⟩) kn cq) (show w.heap.size + 1 + 1 ≠ w.heap.size by omega)).trans hR9h.out
              have RE:=set_six (w:=(W9.setCell ⟨w.heap.size,5,none⟩ (.slice (some ⟨g,0,none⟩) kn cq))) (b0:=.int .u64 (t.id:Int)) (b1:=.bool t.leaf) (b2:=.string ⟨t.label.toArray⟩) (b3:=.slice aA an ac) (b4:=.string ⟨t.text.toArray⟩) (b5:=.slice (some ⟨g,0,none⟩) kn cq) R10
              have hbE:Below w.heap.size w _:=below_six (hbel9'.out.setCell (p:=⟨w.heap.size,5,none⟩) (Nat.le_refl _) (.slice (some ⟨g,0,none⟩) kn cq)) (b0:=.int .u64 (t.id:Int)) (b1:=.bool t.leaf) (b2:=.string ⟨t.label.toArray⟩) (b3:=.slice aA an ac) (b4:=.string ⟨t.text.toArray⟩) (b5:=.slice (some ⟨g,0,none⟩) kn cq) (show w.heap.size≤w.heap.size + 1 + 1 by omega)
              have hsE:((((((((W9.setCell ⟨w.heap.size,5,none⟩ (.slice (some ⟨g,0,none⟩) kn cq)).setCell ⟨w.heap.size + 1 + 1,0,none⟩ (.int .u64 (t.id:Int))).setCell ⟨w.heap.size + 1 + 1,1,none⟩ (.bool t.leaf)).setCell ⟨w.heap.size + 1 + 1,2,none⟩ (.string ⟨t.label.toArray⟩)).setCell ⟨w.heap.size + 1 + 1,3,none⟩ (.slice aA an ac)).setCell ⟨w.heap.size + 1 + 1,4,none⟩ (.string ⟨t.text.toArray⟩)).setCell ⟨w.heap.size + 1 + 1,5,none⟩ (.slice (some ⟨g,0,none⟩) kn cq))).heap.size = W9.heap.size:=by simp only [World.size_setCell]
              have hNE:=hnode.out ((((((((W9.setCell ⟨w.heap.size,5,none⟩ (.slice (some ⟨g,0,none⟩) kn cq)).setCell ⟨w.heap.size + 1 + 1,0,none⟩ (.int .u64 (t.id:Int))).setCell ⟨w.heap.size + 1 + 1,1,none⟩ (.bool t.leaf)).setCell ⟨w.heap.size + 1 + 1,2,none⟩ (.string ⟨t.label.toArray⟩)).setCell ⟨w.heap.size + 1 + 1,3,none⟩ (.slice aA an ac)).setCell ⟨w.heap.size + 1 + 1,4,none⟩ (.string ⟨t.text.toArray⟩)).setCell ⟨w.heap.size + 1 + 1,5,none⟩ (.slice (some ⟨g,0,none⟩) kn cq))) (fun k q1 q2=>(set_six_other q2).trans (heap_setCell_other _ _ k _ q1))
              generalize ((((((((W9.setCell ⟨w.heap.size,5,none⟩ (.slice (some ⟨g,0,none⟩) kn cq)).setCell ⟨w.heap.size + 1 + 1,0,none⟩ (.int .u64 (t.id:Int))).setCell ⟨w.heap.size + 1 + 1,1,none⟩ (.bool t.leaf)).setCell ⟨w.heap.size + 1 + 1,2,none⟩ (.string ⟨t.label.toArray⟩)).setCell ⟨w.heap.size + 1 + 1,3,none⟩ (.slice aA an ac)).setCell ⟨w.heap.size + 1 + 1,4,none⟩ (.string ⟨t.text.toArray⟩)).setCell ⟨w.heap.size + 1 + 1,5,none⟩ (.slice (some ⟨g,0,none⟩) kn cq))) = W10 at RE hbE hNE hsE ⊢
              obtain ⟨d0,d1,d2,d3,d4,d5,df⟩:=six_cells RE
              refine bodyPost_ret (v:=.tuple #[.agg #[.int .u64 (t.id:Int),.bool t.leaf,.string ⟨t.label.toArray⟩,.slice aA an ac,.string ⟨t.text.toArray⟩,.slice (some ⟨g,0,none⟩) kn cq],.bool true]) (by simp [results,Try.results110,go_sem,d0,d1,d2,d3,d4,d5]) rfl ?_
              have e6:val6 (t.withKids (t.kids.set j z)) aA an ac (some ⟨g,0,none⟩) kn cq = #[.int .u64 (t.id:Int),.bool t.leaf,.string ⟨t.label.toArray⟩,.slice aA an ac,.string ⟨t.text.toArray⟩,.slice (some ⟨g,0,none⟩) kn cq]:=by cases t;rfl
              refine ⟨aA,an,ac,some ⟨g,0,none⟩,kn,cq,by rw [hsome.out,Option.getD_some,e6];rfl,?_,hbE⟩
              rw [hsome.out]
              refine hNE.kept (fun k hk=>?_) (fun _ _=>rfl)
              have q1:=hzg.out
              have q2:=hz97.out
              rcases hk with hk | (hk | hk) | hk
              · exact .inl hk
              · exact .inl hk
              · exact .inr ⟨by omega,by omega⟩
              · exact .inr ⟨by omega,by omega⟩
        · have hzz:=hb6'.out.size
          have hza:=hAz.out (.cells #[.int .u64 0,.bool false,.string ⟨#[]⟩,.slice none 0 0,.string ⟨#[]⟩,.slice none 0 0] 33)
          have hzs:=Lib.hid (show ∀ o:Obj,(W5.alloc o).drew.heap.size = W5.heap.size + 1 from fun o=>by show (W5.alloc o).heap.size = _;simp)
          have hw6:W5.heap.size + 1≤w6.heap.size:=by rw [hzs.out] at hzz;exact hzz
          obtain ⟨W7,hW7⟩:∃ W7,W7 = ((((((w6.setCell ⟨W5.heap.size,0,none⟩ (.int .u64 (z.id:Int))).setCell ⟨W5.heap.size,1,none⟩ (.bool z.leaf)).setCell ⟨W5.heap.size,2,none⟩ (.string ⟨z.label.toArray⟩)).setCell ⟨W5.heap.size,3,none⟩ (.slice zA zn zc)).setCell ⟨W5.heap.size,4,none⟩ (.string ⟨z.text.toArray⟩)).setCell ⟨W5.heap.size,5,none⟩ (.slice zK zm zd)):=⟨_,rfl⟩
          obtain ⟨b8,hb8⟩:∃ b8,b8 = W5.heap.size:=⟨_,rfl⟩
          have hB8:=Lib.hid (show W7.heap[b8]? = some (.cells (val6 z zA zn zc zK zm zd) 33 (0,0)) by rw [hW7,hb8];exact set_six R6'.out)
          have hbl7:=Lib.hid (show Below W5.heap.size W5 W7 by rw [hW7];exact below_six hd2.1 (Nat.le_refl _))
          have hz7:=Lib.hid (show NodeV (fun k=>T k∨(W5.heap.size≤k∧k < W7.heap.size)) W7 zA zn zc zK zm zd z from hzN'.out.kept (fun k hk=>by
            rcases hk with hk | hk
            · exact .inl hk
            · rw [hzs.out] at hk
              exact .inr ⟨by omega,by rw [hW7];simp only [World.size_setCell];exact hk.2⟩) (fun k hk=>by
            rw [hW7]
            refine set_six_other ?_
            rcases hk with hk | hk
            · have:=hT'.out k hk;have:=hsz5.out;omega
            · rw [hzs.out] at hk;omega))
          rw [← hW7]
          rw [← hb8]
          clear hW7 hb8 hzN' hb6' hd2 hzz R6' y0 y1 y2 y3 y4 y5 yf hza
          have hb37:=hb35'.out.trans (hbl7.out.mono hb35'.out.size)
          cases hoc:o1 with
          | false =>
            have hnone:=Lib.hid (show putV t ((j:Int) :: r) x = none by
              have h1:=ho1'.out
              rw [hoc] at h1
              rw [hans.out]
              cases hq:putV kd r x with
              | none=>rfl
              | some y=>rw [hq] at h1;cases h1)
            have R7:=(hb37.block (w.heap.size + 1 + 1) (by have:=g5'.out;omega)).trans g3'.out
            unfold zero6 at R7
            obtain ⟨r0,r1,r2,r3,r4,r5,rf⟩:=six_cells R7
            clear R7 hoc
            go_wp2_with fail
            obtain ⟨hA,R9⟩:=no.out hnone.out W7 hb37
            generalize ((((((W7.setCell ⟨w.heap.size + 1 + 1,0,none⟩ (.int .u64 0)).setCell ⟨w.heap.size + 1 + 1,1,none⟩ (.bool false)).setCell ⟨w.heap.size + 1 + 1,2,none⟩ (.string ⟨#[]⟩)).setCell ⟨w.heap.size + 1 + 1,3,none⟩ (.slice none 0 0)).setCell ⟨w.heap.size + 1 + 1,4,none⟩ (.string ⟨#[]⟩)).setCell ⟨w.heap.size + 1 + 1,5,none⟩ (.slice none 0 0)) = W9 at R9 hA ⊢
            unfold zero6 at R9
            obtain ⟨d0,d1,d2,d3,d4,d5,df⟩:=six_cells R9
            refine bodyPost_ret (v:=.tuple #[.agg zero6,.bool false]) (by simp [results,Try.results110,go_sem,d0,d1,d2,d3,d4,d5,zero6]) rfl ?_
            exact hA
          | true =>
            have hsome:=Lib.hid (show putV t ((j:Int) :: r) x = some (t.withKids (t.kids.set j z)) by
              have h1:=ho1'.out
              rw [hoc] at h1
              rw [hans.out]
              cases hq:putV kd r x with
              | none=>rw [hq] at h1;cases h1
              | some y =>
                have h2:=hz'.out
                rw [hq] at h2
                subst h2
                rfl)
            have hf:=h'.out.facts
            have hbw7:=hbw'.out.trans (hbl7.out.mono hbw'.out.size)
            have fkl:=Lib.hid hf.kl
            have frow:=Lib.hid (hf.row.kept (T':=T) (w':=W7) (fun _ h=>h) (fun k hk=>hbw7.block k (hT'.out k hk)))
            have fknil:=Lib.hid hf.knil
            have hkw2:=hkw'.out
            have s7:=hbl7.out.size
            have s5:=hsz5.out
            obtain ⟨c0,c1,c2,c3,c4,c5,-⟩:=six_cells (show W7.heap[w.heap.size]? = some (.cells #[.int .u64 (t.id:Int),.bool t.leaf,.string ⟨t.label.toArray⟩,.slice aA an ac,.string ⟨t.text.toArray⟩,.slice (some ka) kn kc] 33 (0,0)) from (hbl7.out.block _ (by omega)).trans hB5.out)
            have hN7:=Lib.hid ((hbl7.out.block w.heap.size (by omega)).trans hB5.out)
            have hR7:=Lib.hid ((hbl7.out.block (w.heap.size + 1 + 1) (by omega)).trans hZ5.out)
            have hP7:=(hbw7.cell (p:=ad) hlad).trans hci
            have hBB:=hB8.out
            unfold val6 at hBB
            obtain ⟨k0,k1,k2,k3,k4,k5,-⟩:=six_cells hBB
            have hb8l:=Lib.hid (Array.getElem?_eq_some_iff.1 hBB).1
            have hbw7':=Lib.hid hbw7
            clear hf hoc hBB hb37
            go_upto_region 10 with (at_builtin;refine wpList_append_kids rfl (.tmp 46) (.tmp 48) rfl T (some ka) kn kc t.kids rfl rfl fkl.out frow.out fknil.out hknc hkw2 ?_;intro A2 cq w8 ks e1 e2 e3 e4 e5 e6 hb8w;have E1:=Lib.hid e1;have E2:=Lib.hid e2;have E3:=Lib.hid e3;have E4:=Lib.hid e4;have E5:=Lib.hid e5;have E6:=Lib.hid e6;have E7:=Lib.hid hb8w;clear e1 e2 e3 e4 e5 e6 hb8w)
            have hq0:0 < kn:=by omega
            obtain ⟨g,rfl⟩:∃ g,A2 = some ⟨g,0,none⟩:=by
              obtain ⟨A,n,c,e,hn,-,-,-,hqq⟩:=E3.out.shape
              have hkl:ks.length = kn:=by rw [← fkl.out,← E1.out,List.length_map]
              obtain ⟨g,hg,-⟩:=hqq 0 _ (List.getElem?_eq_getElem (show 0 < ks.length by omega))
              injection e with q1
              exact ⟨g,by rw [q1,hg]⟩
            have hkl:ks.length = kn:=by rw [← fkl.out,← E1.out,List.length_map]
            obtain ⟨cur,hcur,hcsz⟩:∃ cur,w8.heap[g]? = some (.cells cur 33 (0,0))∧j * 6 + 5 < cur.size:=by
              rcases E3.out.2 with ⟨h0,h1⟩ | ⟨g',cap,cur,e,-,hg,hcap,-,hsz,-⟩
              · cases h0
              · injection e with q1 q2 q3
                injection q1 with q1
                injection q1 with q1
                subst q1
                exact ⟨cur,hg,by rw [hsz];omega⟩
            obtain ⟨hgW,v0,v1,v2,v3,v4,v5⟩:W7.heap.size≤g∧(w8.cell? ⟨g,j * 6,none⟩ = some (.int .u64 ((ks[j]'(by omega)).t.id:Int))∧w8.cell? ⟨g,j * 6 + 1,none⟩ = some (.bool (ks[j]'(by omega)).t.leaf)∧w8.cell? ⟨g,j * 6 + 2,none⟩ = some (.string ⟨(ks[j]'(by omega)).t.label.toArray⟩) ∧
                w8.cell? ⟨g,j * 6 + 3,none⟩ = some (.slice (ks[j]'(by omega)).aA (ks[j]'(by omega)).an (ks[j]'(by omega)).ac)∧w8.cell? ⟨g,j * 6 + 4,none⟩ = some (.string ⟨(ks[j]'(by omega)).t.text.toArray⟩)∧w8.cell? ⟨g,j * 6 + 5,none⟩ = some (.slice (ks[j]'(by omega)).kA (ks[j]'(by omega)).kn (ks[j]'(by omega)).kc)):=by
              obtain ⟨A,n,c,e,hn,-,-,-,hqq⟩:=E3.out.shape
              obtain ⟨g',hg',hbg,-,h6⟩:=hqq j _ (List.getElem?_eq_getElem (show j < ks.length by omega))
              injection e with q1
              rw [hg'] at q1
              injection q1 with q1
              injection q1 with q1
              subst q1
              exact ⟨hbg,h6⟩
            have ff:∀ o,w8.frozen? ⟨g,o,none⟩ = false:=fun o=>frozen_of_row w8 g o _ _ hcur
            have hP8:=(E7.out.cell (p:=ad) (by omega)).trans hP7
            have hb8v:=hb8l.out
            have m0:=(E7.out.cell (p:=⟨b8,0,none⟩) hb8v).trans k0
            have m1:=(E7.out.cell (p:=⟨b8,1,none⟩) hb8v).trans k1
            have m2:=(E7.out.cell (p:=⟨b8,2,none⟩) hb8v).trans k2
            have m3:=(E7.out.cell (p:=⟨b8,3,none⟩) hb8v).trans k3
            have m4:=(E7.out.cell (p:=⟨b8,4,none⟩) hb8v).trans k4
            have m5:=(E7.out.cell (p:=⟨b8,5,none⟩) hb8v).trans k5
            have hcur':=Lib.hid hcur
            have hcsz':=Lib.hid hcsz
            clear hcur hcsz k0 k1 k2 k3 k4 k5 c0 c1 c2 c3 c4 c5 hP7
            go_region
            all_goals
              obtain ⟨W9,hW9,hin,hzz9,hot,hou,hbq⟩:=six_drew (w:=w8) (b0:=.int .u64 (z.id:Int)) (b1:=.bool z.leaf) (b2:=.string ⟨z.label.toArray⟩) (b3:=.slice zA zn zc) (b4:=.string ⟨z.text.toArray⟩) (b5:=.slice zK zm zd) hcur'.out hcsz'.out
              have hbe9:Below W7.heap.size w8 W9:=hbq _ _ (Below.refl _ _) hgW
              clear hbq
              unfold six at hW9
              rw [← hW9]
              clear hW9
              have hs8:=E7.out.size
              have hN9:=(hot w.heap.size (by omega)).trans ((E7.out.block w.heap.size (by omega)).trans hN7.out)
              have hR9:=(hot (w.heap.size + 1 + 1) (by omega)).trans ((E7.out.block (w.heap.size + 1 + 1) (by omega)).trans hR7.out)
              have hbel9:Below w.heap.size w W9:=hbw7'.out.trans ((E7.out.mono (by omega)).trans (hbe9.mono (by omega)))
              have hT9:∀ k,T k→W9.heap[k]? = w.heap[k]?:=fun k hk=>hbel9.block k (hT'.out k hk)
              have hz9:NodeV (fun k=>T k∨(W5.heap.size≤k∧k < W7.heap.size)) W9 zA zn zc zK zm zd z:=hz7.out.kept (fun _ h=>h) (fun k hk=>by
                have hk7:k < W7.heap.size:=by
                  rcases hk with hk | hk
                  · have:=hT'.out k hk;omega
                  · exact hk.2
                exact (hot k (by omega)).trans (E7.out.block k hk7))
              have hnode:=Lib.hid (show ∀ WE:World,(∀ k,k ≠ w.heap.size→k ≠ w.heap.size + 1 + 1→WE.heap[k]? = W9.heap[k]?)→NodeV (fun k=>T k∨(T k∨(W5.heap.size≤k∧k < W7.heap.size))∨k = g) WE aA an ac (some ⟨g,0,none⟩) kn cq (t.withKids (t.kids.set j z)) from fun WE hWE=>by
                have hgE:WE.heap[g]? = W9.heap[g]?:=hWE g (by omega) (by omega)
                refine set_node (w:=w) (w9:=w8) h'.out (fun k hk=>(hWE k (by have:=hT'.out k hk;omega) (by have:=hT'.out k hk;omega)).trans (hT9 k hk)) E1.out (fun k hk=>KV.ok_kept (fun _ h=>h) (fun i hi=>(hbw7'.out.block i (hT'.out i hi)).symm) (E2.out k hk)) E3.out E4.out E5.out E6.out rfl hj (fun o ho=>(World.cell?_of_block (a:=⟨g,o,none⟩) hgE).trans (hou o ho)) (Six.kept (w:=W9) hin hgE) (hz9.kept (fun _ h=>h) (fun k hk=>hWE k ?_ ?_))
                · rcases hk with hk | hk
                  · have:=hT'.out k hk;omega
                  · omega
                · rcases hk with hk | hk
                  · have:=hT'.out k hk;omega
                  · omega)
              obtain ⟨c0,c1,c2,c3,c4,c5,cf⟩:=six_cells (show W9.heap[w.heap.size]? = some (.cells #[.int .u64 (t.id:Int),.bool t.leaf,.string ⟨t.label.toArray⟩,.slice aA an ac,.string ⟨t.text.toArray⟩,.slice (some ka) kn kc] 33 (0,0)) from hN9)
              have hR9':=hR9
              unfold zero6 at hR9'
              obtain ⟨r0,r1,r2,r3,r4,r5,rf⟩:=six_cells hR9'
              have hR9h:=Lib.hid hR9'
              have hbel9':=Lib.hid hbel9
              have hzg:=Lib.hid (show g < W9.heap.size by rw [hzz9];exact (Array.getElem?_eq_some_iff.1 hcur'.out).1)
              have hz97:=Lib.hid (show W7.heap.size≤W9.heap.size by omega)
              clear hin hzz9 hot hou hbe9 hN9 hR9 hbel9 hT9 hz9 hR9' v0 v1 v2 v3 v4 v5 m0 m1 m2 m3 m4 m5 ff hP8
              go_wp2_with fail
              have R10:=(heap_setCell_other W9 ⟨w.heap.size,5,none⟩ (w.heap.size + 1 + 1) (.slice (some ⟨g,0,none⟩) kn cq) (show w.heap.size + 1 + 1 ≠ w.heap.size by omega)).trans hR9h.out
              have RE:=set_six (w:=(W9.setCell ⟨w.heap.size,5,none⟩ (.slice (some ⟨g,0,none⟩) kn cq))) (b0:=.int .u64 (t.id:Int)) (b1:=.bool t.leaf) (b2:=.string ⟨t.label.toArray⟩) (b3:=.slice aA an ac) (b4:=.string ⟨t.text.toArray⟩) (b5:=.slice (some ⟨g,0,none⟩) kn cq) R10
              have hbE:Below w.heap.size w _:=below_six (hbel9'.out.setCell (p:=⟨w.heap.size,5,none⟩) (Nat.le_refl _) (.slice (some ⟨g,0,none⟩) kn cq)) (b0:=.int .u64 (t.id:Int)) (b1:=.bool t.leaf) (b2:=.string ⟨t.label.toArray⟩) (b3:=.slice aA an ac) (b4:=.string ⟨t.text.toArray⟩) (b5:=.slice (some ⟨g,0,none⟩) kn cq) (show w.heap.size≤w.heap.size + 1 + 1 by omega)
              have hsE:((((((((W9.setCell ⟨w.heap.size,5,none⟩ (.slice (some ⟨g,0,none⟩) kn cq)).setCell ⟨w.heap.size + 1 + 1,0,none⟩ (.int .u64 (t.id:Int))).setCell ⟨w.heap.size + 1 + 1,1,none⟩ (.bool t.leaf)).setCell ⟨w.heap.size + 1 + 1,2,none⟩ (.string ⟨t.label.toArray⟩)).setCell ⟨w.heap.size + 1 + 1,3,none⟩ (.slice aA an ac)).setCell ⟨w.heap.size + 1 + 1,4,none⟩ (.string ⟨t.text.toArray⟩)).setCell ⟨w.heap.size + 1 + 1,5,none⟩ (.slice (some ⟨g,0,none⟩) kn cq))).heap.size = W9.heap.size:=by simp only [World.size_setCell]
              have hNE:=hnode.out ((((((((W9.setCell ⟨w.heap.size,5,none⟩ (.slice (some ⟨g,0,none⟩) kn cq)).setCell ⟨w.heap.size + 1 + 1,0,none⟩ (.int .u64 (t.id:Int))).setCell ⟨w.heap.size + 1 + 1,1,none⟩ (.bool t.leaf)).setCell ⟨w.heap.size + 1 + 1,2,none⟩ (.string ⟨t.label.toArray⟩)).setCell ⟨w.heap.size + 1 + 1,3,none⟩ (.slice aA an ac)).setCell ⟨w.heap.size + 1 + 1,4,none⟩ (.string ⟨t.text.toArray⟩)).setCell ⟨w.heap.size + 1 + 1,5,none⟩ (.slice (some ⟨g,0,none⟩) kn cq))) (fun k q1 q2=>(set_six_other q2).trans (heap_setCell_other _ _ k _ q1))
              generalize ((((((((W9.setCell ⟨w.heap.size,5,none⟩ (.slice (some ⟨g,0,none⟩) kn cq)).setCell ⟨w.heap.size + 1 + 1,0,none⟩ (.int .u64 (t.id:Int))).setCell ⟨w.heap.size + 1 + 1,1,none⟩ (.bool t.leaf)).setCell ⟨w.heap.size + 1 + 1,2,none⟩ (.string ⟨t.label.toArray⟩)).setCell ⟨w.heap.size + 1 + 1,3,none⟩ (.slice aA an ac)).setCell ⟨w.heap.size + 1 + 1,4,none⟩ (.string ⟨t.text.toArray⟩)).setCell ⟨w.heap.size + 1 + 1,5,none⟩ (.slice (some ⟨g,0,none⟩) kn cq))) = W10 at RE hbE hNE hsE ⊢
              obtain ⟨d0,d1,d2,d3,d4,d5,df⟩:=six_cells RE
              refine bodyPost_ret (v:=.tuple #[.agg #[.int .u64 (t.id:Int),.bool t.leaf,.string ⟨t.label.toArray⟩,.slice aA an ac,.string ⟨t.text.toArray⟩,.slice (some ⟨g,0,none⟩) kn cq],.bool true]) (by simp [results,Try.results110,go_sem,d0,d1,d2,d3,d4,d5]) rfl ?_
              have e6:val6 (t.withKids (t.kids.set j z)) aA an ac (some ⟨g,0,none⟩) kn cq = #[.int .u64 (t.id:Int),.bool t.leaf,.string ⟨t.label.toArray⟩,.slice aA an ac,.string ⟨t.text.toArray⟩,.slice (some ⟨g,0,none⟩) kn cq]:=by cases t;rfl
              refine ⟨aA,an,ac,some ⟨g,0,none⟩,kn,cq,by rw [hsome.out,Option.getD_some,e6];rfl,?_,hbE⟩
              rw [hsome.out]
              refine hNE.kept (fun k hk=>?_) (fun _ _=>rfl)
              have q1:=hzg.out
              have q2:=hz97.out
              rcases hk with hk | (hk | hk) | hk
              · exact .inl hk
              · exact .inl hk
              · exact .inr ⟨by omega,by omega⟩
              · exact .inr ⟨by omega,by omega⟩
      · have hcT:(pc = 1) = False:=eq_false hc1
        clear hc1
        go_region_held3 (fun w'=>Below W5.heap.size W5 w'∧w'.cell? ad = some (.int .i64 (j:Int))∧w'.cell? ⟨w.heap.size,5,none⟩ = some (.slice (some ka) kn kc)∧w'.cell? (ka.add (j * 6)) = some (.int .u64 (kd.id:Int))∧w'.cell? ⟨(ka.add (j * 6)).block,(ka.add (j * 6)).off + 1,none⟩ = some (.bool kd.leaf)∧w'.cell? ⟨(ka.add (j * 6)).block,(ka.add (j * 6)).off + 2,none⟩ = some (.string ⟨kd.label.toArray⟩)∧w'.cell? ⟨(ka.add (j * 6)).block,(ka.add (j * 6)).off + 3,none⟩ = some (.slice dA dn dc)∧w'.cell? ⟨(ka.add (j * 6)).block,(ka.add (j * 6)).off + 4,none⟩ = some (.string ⟨kd.text.toArray⟩)∧w'.cell? ⟨(ka.add (j * 6)).block,(ka.add (j * 6)).off + 5,none⟩ = some (.slice dK dm dd)∧w'.cell? ⟨w.heap.size + 1,0,none⟩ = some (.int .u64 (x.id:Int))∧w'.cell? ⟨w.heap.size + 1,1,none⟩ = some (.bool x.leaf)∧w'.cell? ⟨w.heap.size + 1,2,none⟩ = some (.string ⟨x.label.toArray⟩)∧w'.cell? ⟨w.heap.size + 1,3,none⟩ = some (.slice xA xn xc)∧w'.cell? ⟨w.heap.size + 1,4,none⟩ = some (.string ⟨x.text.toArray⟩)∧w'.cell? ⟨w.heap.size + 1,5,none⟩ = some (.slice xK xm xd))
          (first | with_reducible exact hd | with_reducible exact hAS.out _ | with_reducible exact hd2 | with_reducible exact hS.out _ (hd2.1.alloc hd2.1.size _) | with_reducible exact hS.out _ (below_six (hd2.1.alloc hd2.1.size _) hd2.1.size) | with_reducible exact hS.out _ (below_six hd2.1 (Nat.le_refl _)))
          (first
            | (go_at_call 110;with_reducible refine (hcall.out _ hd.1).mono ?_;rintro e w6 ⟨zA,zn,zc,zK,zm,zd,rfl,hzN,hb6⟩;have hd2:=hS.out _ (hd.1.trans (hb6.mono hd.1.size));have hzN':=Lib.hid hzN;have hb6':=Lib.hid hb6;clear hzN hb6)
            | (go_at_call 110;refine hcB.out.mono ?_;rintro e w6 ⟨zA,zn,zc,zK,zm,zd,rfl,hzN,hb6⟩;have hd2:=hS.out _ ((hAl.out _).trans (hb6.mono (hAl.out _).size));have R6:w6.heap[W5.heap.size]? = some (.cells #[.int .u64 0,.bool false,.string ⟨#[]⟩,.slice none 0 0,.string ⟨#[]⟩,.slice none 0 0] 33 (0,0)):=(hb6.block W5.heap.size (hAz.out _)).trans hz8.out;obtain ⟨y0,y1,y2,y3,y4,y5,yf⟩:=six_cells R6;have hzN':=Lib.hid hzN;have hb6':=Lib.hid hb6;have R6':=Lib.hid R6;clear hzN hb6 R6))
        · have hzz:=hb6'.out.size
          obtain ⟨W7,hW7⟩:∃ W7,W7 = w6.alloc (.cells #[.int .u64 (z.id:Int),.bool z.leaf,.string ⟨z.label.toArray⟩,.slice zA zn zc,.string ⟨z.text.toArray⟩,.slice zK zm zd] 33):=⟨_,rfl⟩
          obtain ⟨b8,hb8⟩:∃ b8,b8 = w6.heap.size:=⟨_,rfl⟩
          have hw6:W5.heap.size≤w6.heap.size:=hzz
          have hB8:=Lib.hid (show W7.heap[b8]? = some (.cells (val6 z zA zn zc zK zm zd) 33 (0,0)) by rw [hW7,hb8];exact heap_alloc_new w6 _)
          have hbl7:=Lib.hid (show Below W5.heap.size W5 W7 by rw [hW7];exact hd2.1.alloc hd2.1.size _)
          have hz7:=Lib.hid (show NodeV (fun k=>T k∨(W5.heap.size≤k∧k < W7.heap.size)) W7 zA zn zc zK zm zd z from hzN'.out.kept (fun k hk=>by
            rcases hk with hk | hk
            · exact .inl hk
            · exact .inr ⟨hk.1,by rw [hW7,World.size_alloc];exact Nat.lt_succ_of_lt hk.2⟩) (fun k hk=>by
            rw [hW7]
            refine Go.heap_alloc_old _ _ ?_
            rcases hk with hk | hk
            · have:=hT'.out k hk;have:=hsz5.out;omega
            · exact hk.2))
          rw [← hW7,← hb8]
          clear hW7 hb8 hzN' hb6' hd2 hzz
          have hb37:=hb35'.out.trans (hbl7.out.mono hb35'.out.size)
          cases hoc:o1 with
          | false =>
            have hnone:=Lib.hid (show putV t ((j:Int) :: r) x = none by
              have h1:=ho1'.out
              rw [hoc] at h1
              rw [hans.out]
              cases hq:putV kd r x with
              | none=>rfl
              | some y=>rw [hq] at h1;cases h1)
            have R7:=(hb37.block (w.heap.size + 1 + 1) (by have:=g5'.out;omega)).trans g3'.out
            unfold zero6 at R7
            obtain ⟨r0,r1,r2,r3,r4,r5,rf⟩:=six_cells R7
            clear R7 hoc
            go_wp2_with fail
            obtain ⟨hA,R9⟩:=no.out hnone.out W7 hb37
            generalize ((((((W7.setCell ⟨w.heap.size + 1 + 1,0,none⟩ (.int .u64 0)).setCell ⟨w.heap.size + 1 + 1,1,none⟩ (.bool false)).setCell ⟨w.heap.size + 1 + 1,2,none⟩ (.string ⟨#[]⟩)).setCell ⟨w.heap.size + 1 + 1,3,none⟩ (.slice none 0 0)).setCell ⟨w.heap.size + 1 + 1,4,none⟩ (.string ⟨#[]⟩)).setCell ⟨w.heap.size + 1 + 1,5,none⟩ (.slice none 0 0)) = W9 at R9 hA ⊢
            unfold zero6 at R9
            obtain ⟨d0,d1,d2,d3,d4,d5,df⟩:=six_cells R9
            refine bodyPost_ret (v:=.tuple #[.agg zero6,.bool false]) (by simp [results,Try.results110,go_sem,d0,d1,d2,d3,d4,d5,zero6]) rfl ?_
            exact hA
          | true =>
            have hsome:=Lib.hid (show putV t ((j:Int) :: r) x = some (t.withKids (t.kids.set j z)) by
              have h1:=ho1'.out
              rw [hoc] at h1
              rw [hans.out]
              cases hq:putV kd r x with
              | none=>rw [hq] at h1;cases h1
              | some y =>
                have h2:=hz'.out
                rw [hq] at h2
                subst h2
                rfl)
            have hf:=h'.out.facts
            have hbw7:=hbw'.out.trans (hbl7.out.mono hbw'.out.size)
            have fkl:=Lib.hid hf.kl
            have frow:=Lib.hid (hf.row.kept (T':=T) (w':=W7) (fun _ h=>h) (fun k hk=>hbw7.block k (hT'.out k hk)))
            have fknil:=Lib.hid hf.knil
            have hkw2:=hkw'.out
            have s7:=hbl7.out.size
            have s5:=hsz5.out
            obtain ⟨c0,c1,c2,c3,c4,c5,-⟩:=six_cells (show W7.heap[w.heap.size]? = some (.cells #[.int .u64 (t.id:Int),.bool t.leaf,.string ⟨t.label.toArray⟩,.slice aA an ac,.string ⟨t.text.toArray⟩,.slice (some ka) kn kc] 33 (0,0)) from (hbl7.out.block _ (by omega)).trans hB5.out)
            have hN7:=Lib.hid ((hbl7.out.block w.heap.size (by omega)).trans hB5.out)
            have hR7:=Lib.hid ((hbl7.out.block (w.heap.size + 1 + 1) (by omega)).trans hZ5.out)
            have hP7:=(hbw7.cell (p:=ad) hlad).trans hci
            have hBB:=hB8.out
            unfold val6 at hBB
            obtain ⟨k0,k1,k2,k3,k4,k5,-⟩:=six_cells hBB
            have hb8l:=Lib.hid (Array.getElem?_eq_some_iff.1 hBB).1
            have hbw7':=Lib.hid hbw7
            clear hf hoc hBB hb37
            go_upto_region 10 with (at_builtin;refine wpList_append_kids rfl (.tmp 46) (.tmp 48) rfl T (some ka) kn kc t.kids rfl rfl fkl.out frow.out fknil.out hknc hkw2 ?_;intro A2 cq w8 ks e1 e2 e3 e4 e5 e6 hb8w;have E1:=Lib.hid e1;have E2:=Lib.hid e2;have E3:=Lib.hid e3;have E4:=Lib.hid e4;have E5:=Lib.hid e5;have E6:=Lib.hid e6;have E7:=Lib.hid hb8w;clear e1 e2 e3 e4 e5 e6 hb8w)
            have hq0:0 < kn:=by omega
            obtain ⟨g,rfl⟩:∃ g,A2 = some ⟨g,0,none⟩:=by
              obtain ⟨A,n,c,e,hn,-,-,-,hqq⟩:=E3.out.shape
              have hkl:ks.length = kn:=by rw [← fkl.out,← E1.out,List.length_map]
              obtain ⟨g,hg,-⟩:=hqq 0 _ (List.getElem?_eq_getElem (show 0 < ks.length by omega))
              injection e with q1
              exact ⟨g,by rw [q1,hg]⟩
            have hkl:ks.length = kn:=by rw [← fkl.out,← E1.out,List.length_map]
            obtain ⟨cur,hcur,hcsz⟩:∃ cur,w8.heap[g]? = some (.cells cur 33 (0,0))∧j * 6 + 5 < cur.size:=by
              rcases E3.out.2 with ⟨h0,h1⟩ | ⟨g',cap,cur,e,-,hg,hcap,-,hsz,-⟩
              · cases h0
              · injection e with q1 q2 q3
                injection q1 with q1
                injection q1 with q1
                subst q1
                exact ⟨cur,hg,by rw [hsz];omega⟩
            obtain ⟨hgW,v0,v1,v2,v3,v4,v5⟩:W7.heap.size≤g∧(w8.cell? ⟨g,j * 6,none⟩ = some (.int .u64 ((ks[j]'(by omega)).t.id:Int))∧w8.cell? ⟨g,j * 6 + 1,none⟩ = some (.bool (ks[j]'(by omega)).t.leaf)∧w8.cell? ⟨g,j * 6 + 2,none⟩ = some (.string ⟨(ks[j]'(by omega)).t.label.toArray⟩) ∧
                w8.cell? ⟨g,j * 6 + 3,none⟩ = some (.slice (ks[j]'(by omega)).aA (ks[j]'(by omega)).an (ks[j]'(by omega)).ac)∧w8.cell? ⟨g,j * 6 + 4,none⟩ = some (.string ⟨(ks[j]'(by omega)).t.text.toArray⟩)∧w8.cell? ⟨g,j * 6 + 5,none⟩ = some (.slice (ks[j]'(by omega)).kA (ks[j]'(by omega)).kn (ks[j]'(by omega)).kc)):=by
              obtain ⟨A,n,c,e,hn,-,-,-,hqq⟩:=E3.out.shape
              obtain ⟨g',hg',hbg,-,h6⟩:=hqq j _ (List.getElem?_eq_getElem (show j < ks.length by omega))
              injection e with q1
              rw [hg'] at q1
              injection q1 with q1
              injection q1 with q1
              subst q1
              exact ⟨hbg,h6⟩
            have ff:∀ o,w8.frozen? ⟨g,o,none⟩ = false:=fun o=>frozen_of_row w8 g o _ _ hcur
            have hP8:=(E7.out.cell (p:=ad) (by omega)).trans hP7
            have hb8v:=hb8l.out
            have m0:=(E7.out.cell (p:=⟨b8,0,none⟩) hb8v).trans k0
            have m1:=(E7.out.cell (p:=⟨b8,1,none⟩) hb8v).trans k1
            have m2:=(E7.out.cell (p:=⟨b8,2,none⟩) hb8v).trans k2
            have m3:=(E7.out.cell (p:=⟨b8,3,none⟩) hb8v).trans k3
            have m4:=(E7.out.cell (p:=⟨b8,4,none⟩) hb8v).trans k4
            have m5:=(E7.out.cell (p:=⟨b8,5,none⟩) hb8v).trans k5
            have hcur':=Lib.hid hcur
            have hcsz':=Lib.hid hcsz
            clear hcur hcsz k0 k1 k2 k3 k4 k5 c0 c1 c2 c3 c4 c5 hP7
            go_region
            all_goals
              obtain ⟨W9,hW9,hin,hzz9,hot,hou,hbq⟩:=six_drew (w:=w8) (b0:=.int .u64 (z.id:Int)) (b1:=.bool z.leaf) (b2:=.string ⟨z.label.toArray⟩) (b3:=.slice zA zn zc) (b4:=.string ⟨z.text.toArray⟩) (b5:=.slice zK zm zd) hcur'.out hcsz'.out
              have hbe9:Below W7.heap.size w8 W9:=hbq _ _ (Below.refl _ _) hgW
              clear hbq
              unfold six at hW9
              rw [← hW9]
              clear hW9
              have hs8:=E7.out.size
              have hN9:=(hot w.heap.size (by omega)).trans ((E7.out.block w.heap.size (by omega)).trans hN7.out)
              have hR9:=(hot (w.heap.size + 1 + 1) (by omega)).trans ((E7.out.block (w.heap.size + 1 + 1) (by omega)).trans hR7.out)
              have hbel9:Below w.heap.size w W9:=hbw7'.out.trans ((E7.out.mono (by omega)).trans (hbe9.mono (by omega)))
              have hT9:∀ k,T k→W9.heap[k]? = w.heap[k]?:=fun k hk=>hbel9.block k (hT'.out k hk)
              have hz9:NodeV (fun k=>T k∨(W5.heap.size≤k∧k < W7.heap.size)) W9 zA zn zc zK zm zd z:=hz7.out.kept (fun _ h=>h) (fun k hk=>by
                have hk7:k < W7.heap.size:=by
                  rcases hk with hk | hk
                  · have:=hT'.out k hk;omega
                  · exact hk.2
                exact (hot k (by omega)).trans (E7.out.block k hk7))
              have hnode:=Lib.hid (show ∀ WE:World,(∀ k,k ≠ w.heap.size→k ≠ w.heap.size + 1 + 1→WE.heap[k]? = W9.heap[k]?)→NodeV (fun k=>T k∨(T k∨(W5.heap.size≤k∧k < W7.heap.size))∨k = g) WE aA an ac (some ⟨g,0,none⟩) kn cq (t.withKids (t.kids.set j z)) from fun WE hWE=>by
                have hgE:WE.heap[g]? = W9.heap[g]?:=hWE g (by omega) (by omega)
                refine set_node (w:=w) (w9:=w8) h'.out (fun k hk=>(hWE k (by have:=hT'.out k hk;omega) (by have:=hT'.out k hk;omega)).trans (hT9 k hk)) E1.out (fun k hk=>KV.ok_kept (fun _ h=>h) (fun i hi=>(hbw7'.out.block i (hT'.out i hi)).symm) (E2.out k hk)) E3.out E4.out E5.out E6.out rfl hj (fun o ho=>(World.cell?_of_block (a:=⟨g,o,none⟩) hgE).trans (hou o ho)) (Six.kept (w:=W9) hin hgE) (hz9.kept (fun _ h=>h) (fun k hk=>hWE k ?_ ?_))
                · rcases hk with hk | hk
                  · have:=hT'.out k hk;omega
                  · omega
                · rcases hk with hk | hk
                  · have:=hT'.out k hk;omega
                  · omega)
              obtain ⟨c0,c1,c2,c3,c4,c5,cf⟩:=six_cells (show W9.heap[w.heap.size]? = some (.cells #[.int .u64 (t.id:Int),.bool t.leaf,.string ⟨t.label.toArray⟩,.slice aA an ac,.string ⟨t.text.toArray⟩,.slice (some ka) kn kc] 33 (0,0)) from hN9)
              have hR9':=hR9
              unfold zero6 at hR9'
              obtain ⟨r0,r1,r2,r3,r4,r5,rf⟩:=six_cells hR9'
              have hR9h:=Lib.hid hR9'
              have hbel9':=Lib.hid hbel9
              have hzg:=Lib.hid (show g < W9.heap.size by rw [hzz9];exact (Array.getElem?_eq_some_iff.1 hcur'.out).1)
              have hz97:=Lib.hid (show W7.heap.size≤W9.heap.size by omega)
              clear hin hzz9 hot hou hbe9 hN9 hR9 hbel9 hT9 hz9 hR9' v0 v1 v2 v3 v4 v5 m0 m1 m2 m3 m4 m5 ff hP8
              go_wp2_with fail
              have R10:=(heap_setCell_other W9 ⟨w.heap.size,5,none⟩ (w.heap.size + 1 + 1) (.slice (some ⟨g,0,none⟩) kn cq) (show w.heap.size + 1 + 1 ≠ w.heap.size by omega)).trans hR9h.out
              have RE:=set_six (w:=(W9.setCell ⟨w.heap.size,5,none⟩ (.slice (some ⟨g,0,none⟩) kn cq))) (b0:=.int .u64 (t.id:Int)) (b1:=.bool t.leaf) (b2:=.string ⟨t.label.toArray⟩) (b3:=.slice aA an ac) (b4:=.string ⟨t.text.toArray⟩) (b5:=.slice (some ⟨g,0,none⟩) kn cq) R10
              have hbE:Below w.heap.size w _:=below_six (hbel9'.out.setCell (p:=⟨w.heap.size,5,none⟩) (Nat.le_refl _) (.slice (some ⟨g,0,none⟩) kn cq)) (b0:=.int .u64 (t.id:Int)) (b1:=.bool t.leaf) (b2:=.string ⟨t.label.toArray⟩) (b3:=.slice aA an ac) (b4:=.string ⟨t.text.toArray⟩) (b5:=.slice (some ⟨g,0,none⟩) kn cq) (show w.heap.size≤w.heap.size + 1 + 1 by omega)
              have hsE:((((((((W9.setCell ⟨w.heap.size,5,none⟩ (.slice (some ⟨g,0,none⟩) kn cq)).setCell ⟨w.heap.size + 1 + 1,0,none⟩ (.int .u64 (t.id:Int))).setCell ⟨w.heap.size + 1 + 1,1,none⟩ (.bool t.leaf)).setCell ⟨w.heap.size + 1 + 1,2,none⟩ (.string ⟨t.label.toArray⟩)).setCell ⟨w.heap.size + 1 + 1,3,none⟩ (.slice aA an ac)).setCell ⟨w.heap.size + 1 + 1,4,none⟩ (.string ⟨t.text.toArray⟩)).setCell ⟨w.heap.size + 1 + 1,5,none⟩ (.slice (some ⟨g,0,none⟩) kn cq))).heap.size = W9.heap.size:=by simp only [World.size_setCell]
              have hNE:=hnode.out ((((((((W9.setCell ⟨w.heap.size,5,none⟩ (.slice (some ⟨g,0,none⟩) kn cq)).setCell ⟨w.heap.size + 1 + 1,0,none⟩ (.int .u64 (t.id:Int))).setCell ⟨w.heap.size + 1 + 1,1,none⟩ (.bool t.leaf)).setCell ⟨w.heap.size + 1 + 1,2,none⟩ (.string ⟨t.label.toArray⟩)).setCell ⟨w.heap.size + 1 + 1,3,none⟩ (.slice aA an ac)).setCell ⟨w.heap.size + 1 + 1,4,none⟩ (.string ⟨t.text.toArray⟩)).setCell ⟨w.heap.size + 1 + 1,5,none⟩ (.slice (some ⟨g,0,none⟩) kn cq))) (fun k q1 q2=>(set_six_other q2).trans (heap_setCell_other _ _ k _ q1))
              generalize ((((((((W9.setCell ⟨w.heap.size,5,none⟩ (.slice (some ⟨g,0,none⟩) kn cq)).setCell ⟨w.heap.size + 1 + 1,0,none⟩ (.int .u64 (t.id:Int))).setCell ⟨w.heap.size + 1 + 1,1,none⟩ (.bool t.leaf)).setCell ⟨w.heap.size + 1 + 1,2,none⟩ (.string ⟨t.label.toArray⟩)).setCell ⟨w.heap.size + 1 + 1,3,none⟩ (.slice aA an ac)).setCell ⟨w.heap.size + 1 + 1,4,none⟩ (.string ⟨t.text.toArray⟩)).setCell ⟨w.heap.size + 1 + 1,5,none⟩ (.slice (some ⟨g,0,none⟩) kn cq))) = W10 at RE hbE hNE hsE ⊢
              obtain ⟨d0,d1,d2,d3,d4,d5,df⟩:=six_cells RE
              refine bodyPost_ret (v:=.tuple #[.agg #[.int .u64 (t.id:Int),.bool t.leaf,.string ⟨t.label.toArray⟩,.slice aA an ac,.string ⟨t.text.toArray⟩,.slice (some ⟨g,0,none⟩) kn cq],.bool true]) (by simp [results,Try.results110,go_sem,d0,d1,d2,d3,d4,d5]) rfl ?_
              have e6:val6 (t.withKids (t.kids.set j z)) aA an ac (some ⟨g,0,none⟩) kn cq = #[.int .u64 (t.id:Int),.bool t.leaf,.string ⟨t.label.toArray⟩,.slice aA an ac,.string ⟨t.text.toArray⟩,.slice (some ⟨g,0,none⟩) kn cq]:=by cases t;rfl
              refine ⟨aA,an,ac,some ⟨g,0,none⟩,kn,cq,by rw [hsome.out,Option.getD_some,e6];rfl,?_,hbE⟩
              rw [hsome.out]
              refine hNE.kept (fun k hk=>?_) (fun _ _=>rfl)
              have q1:=hzg.out
              have q2:=hz97.out
              rcases hk with hk | (hk | hk) | hk
              · exact .inl hk
              · exact .inl hk
              · exact .inr ⟨by omega,by omega⟩
              · exact .inr ⟨by omega,by omega⟩
        · have hzz:=hb6'.out.size
          have hza:=hAz.out (.cells #[.int .u64 0,.bool false,.string ⟨#[]⟩,.slice none 0 0,.string ⟨#[]⟩,.slice none 0 0] 33)
          have hzs:=Lib.hid (show ∀ o:Obj,(W5.alloc o).drew.heap.size = W5.heap.size + 1 from fun o=>by show (W5.alloc o).heap.size = _;simp)
          have hw6:W5.heap.size + 1≤w6.heap.size:=by rw [hzs.out] at hzz;exact hzz
          obtain ⟨W7,hW7⟩:∃ W7,W7 = ((((((w6.setCell ⟨W5.heap.size,0,none⟩ (.int .u64 (z.id:Int))).setCell ⟨W5.heap.size,1,none⟩ (.bool z.leaf)).setCell ⟨W5.heap.size,2,none⟩ (.string ⟨z.label.toArray⟩)).setCell ⟨W5.heap.size,3,none⟩ (.slice zA zn zc)).setCell ⟨W5.heap.size,4,none⟩ (.string ⟨z.text.toArray⟩)).setCell ⟨W5.heap.size,5,none⟩ (.slice zK zm zd)):=⟨_,rfl⟩
          obtain ⟨b8,hb8⟩:∃ b8,b8 = W5.heap.size:=⟨_,rfl⟩
          have hB8:=Lib.hid (show W7.heap[b8]? = some (.cells (val6 z zA zn zc zK zm zd) 33 (0,0)) by rw [hW7,hb8];exact set_six R6'.out)
          have hbl7:=Lib.hid (show Below W5.heap.size W5 W7 by rw [hW7];exact below_six hd2.1 (Nat.le_refl _))
          have hz7:=Lib.hid (show NodeV (fun k=>T k∨(W5.heap.size≤k∧k < W7.heap.size)) W7 zA zn zc zK zm zd z from hzN'.out.kept (fun k hk=>by
            rcases hk with hk | hk
            · exact .inl hk
            · rw [hzs.out] at hk
              exact .inr ⟨by omega,by rw [hW7];simp only [World.size_setCell];exact hk.2⟩) (fun k hk=>by
            rw [hW7]
            refine set_six_other ?_
            rcases hk with hk | hk
            · have:=hT'.out k hk;have:=hsz5.out;omega
            · rw [hzs.out] at hk;omega))
          rw [← hW7]
          rw [← hb8]
          clear hW7 hb8 hzN' hb6' hd2 hzz R6' y0 y1 y2 y3 y4 y5 yf hza
          have hb37:=hb35'.out.trans (hbl7.out.mono hb35'.out.size)
          cases hoc:o1 with
          | false =>
            have hnone:=Lib.hid (show putV t ((j:Int) :: r) x = none by
              have h1:=ho1'.out
              rw [hoc] at h1
              rw [hans.out]
              cases hq:putV kd r x with
              | none=>rfl
              | some y=>rw [hq] at h1;cases h1)
            have R7:=(hb37.block (w.heap.size + 1 + 1) (by have:=g5'.out;omega)).trans g3'.out
            unfold zero6 at R7
            obtain ⟨r0,r1,r2,r3,r4,r5,rf⟩:=six_cells R7
            clear R7 hoc
            go_wp2_with fail
            obtain ⟨hA,R9⟩:=no.out hnone.out W7 hb37
            generalize ((((((W7.setCell ⟨w.heap.size + 1 + 1,0,none⟩ (.int .u64 0)).setCell ⟨w.heap.size + 1 + 1,1,none⟩ (.bool false)).setCell ⟨w.heap.size + 1 + 1,2,none⟩ (.string ⟨#[]⟩)).setCell ⟨w.heap.size + 1 + 1,3,none⟩ (.slice none 0 0)).setCell ⟨w.heap.size + 1 + 1,4,none⟩ (.string ⟨#[]⟩)).setCell ⟨w.heap.size + 1 + 1,5,none⟩ (.slice none 0 0)) = W9 at R9 hA ⊢
            unfold zero6 at R9
            obtain ⟨d0,d1,d2,d3,d4,d5,df⟩:=six_cells R9
            refine bodyPost_ret (v:=.tuple #[.agg zero6,.bool false]) (by simp [results,Try.results110,go_sem,d0,d1,d2,d3,d4,d5,zero6]) rfl ?_
            exact hA
          | true =>
            have hsome:=Lib.hid (show putV t ((j:Int) :: r) x = some (t.withKids (t.kids.set j z)) by
              have h1:=ho1'.out
              rw [hoc] at h1
              rw [hans.out]
              cases hq:putV kd r x with
              | none=>rw [hq] at h1;cases h1
              | some y =>
                have h2:=hz'.out
                rw [hq] at h2
                subst h2
                rfl)
            have hf:=h'.out.facts
            have hbw7:=hbw'.out.trans (hbl7.out.mono hbw'.out.size)
            have fkl:=Lib.hid hf.kl
            have frow:=Lib.hid (hf.row.kept (T':=T) (w':=W7) (fun _ h=>h) (fun k hk=>hbw7.block k (hT'.out k hk)))
            have fknil:=Lib.hid hf.knil
            have hkw2:=hkw'.out
            have s7:=hbl7.out.size
            have s5:=hsz5.out
            obtain ⟨c0,c1,c2,c3,c4,c5,-⟩:=six_cells (show W7.heap[w.heap.size]? = some (.cells #[.int .u64 (t.id:Int),.bool t.leaf,.string ⟨t.label.toArray⟩,.slice aA an ac,.string ⟨t.text.toArray⟩,.slice (some ka) kn kc] 33 (0,0)) from (hbl7.out.block _ (by omega)).trans hB5.out)
            have hN7:=Lib.hid ((hbl7.out.block w.heap.size (by omega)).trans hB5.out)
            have hR7:=Lib.hid ((hbl7.out.block (w.heap.size + 1 + 1) (by omega)).trans hZ5.out)
            have hP7:=(hbw7.cell (p:=ad) hlad).trans hci
            have hBB:=hB8.out
            unfold val6 at hBB
            obtain ⟨k0,k1,k2,k3,k4,k5,-⟩:=six_cells hBB
            have hb8l:=Lib.hid (Array.getElem?_eq_some_iff.1 hBB).1
            have hbw7':=Lib.hid hbw7
            clear hf hoc hBB hb37
            go_upto_region 10 with (at_builtin;refine wpList_append_kids rfl (.tmp 46) (.tmp 48) rfl T (some ka) kn kc t.kids rfl rfl fkl.out frow.out fknil.out hknc hkw2 ?_;intro A2 cq w8 ks e1 e2 e3 e4 e5 e6 hb8w;have E1:=Lib.hid e1;have E2:=Lib.hid e2;have E3:=Lib.hid e3;have E4:=Lib.hid e4;have E5:=Lib.hid e5;have E6:=Lib.hid e6;have E7:=Lib.hid hb8w;clear e1 e2 e3 e4 e5 e6 hb8w)
            have hq0:0 < kn:=by omega
            obtain ⟨g,rfl⟩:∃ g,A2 = some ⟨g,0,none⟩:=by
              obtain ⟨A,n,c,e,hn,-,-,-,hqq⟩:=E3.out.shape
              have hkl:ks.length = kn:=by rw [← fkl.out,← E1.out,List.length_map]
              obtain ⟨g,hg,-⟩:=hqq 0 _ (List.getElem?_eq_getElem (show 0 < ks.length by omega))
              injection e with q1
              exact ⟨g,by rw [q1,hg]⟩
            have hkl:ks.length = kn:=by rw [← fkl.out,← E1.out,List.length_map]
            obtain ⟨cur,hcur,hcsz⟩:∃ cur,w8.heap[g]? = some (.cells cur 33 (0,0))∧j * 6 + 5 < cur.size:=by
              rcases E3.out.2 with ⟨h0,h1⟩ | ⟨g',cap,cur,e,-,hg,hcap,-,hsz,-⟩
              · cases h0
              · injection e with q1 q2 q3
                injection q1 with q1
                injection q1 with q1
                subst q1
                exact ⟨cur,hg,by rw [hsz];omega⟩
            obtain ⟨hgW,v0,v1,v2,v3,v4,v5⟩:W7.heap.size≤g∧(w8.cell? ⟨g,j * 6,none⟩ = some (.int .u64 ((ks[j]'(by omega)).t.id:Int))∧w8.cell? ⟨g,j * 6 + 1,none⟩ = some (.bool (ks[j]'(by omega)).t.leaf)∧w8.cell? ⟨g,j * 6 + 2,none⟩ = some (.string ⟨(ks[j]'(by omega)).t.label.toArray⟩) ∧
                w8.cell? ⟨g,j * 6 + 3,none⟩ = some (.slice (ks[j]'(by omega)).aA (ks[j]'(by omega)).an (ks[j]'(by omega)).ac)∧w8.cell? ⟨g,j * 6 + 4,none⟩ = some (.string ⟨(ks[j]'(by omega)).t.text.toArray⟩)∧w8.cell? ⟨g,j * 6 + 5,none⟩ = some (.slice (ks[j]'(by omega)).kA (ks[j]'(by omega)).kn (ks[j]'(by omega)).kc)):=by
              obtain ⟨A,n,c,e,hn,-,-,-,hqq⟩:=E3.out.shape
              obtain ⟨g',hg',hbg,-,h6⟩:=hqq j _ (List.getElem?_eq_getElem (show j < ks.length by omega))
              injection e with q1
              rw [hg'] at q1
              injection q1 with q1
              injection q1 with q1
              subst q1
              exact ⟨hbg,h6⟩
            have ff:∀ o,w8.frozen? ⟨g,o,none⟩ = false:=fun o=>frozen_of_row w8 g o _ _ hcur
            have hP8:=(E7.out.cell (p:=ad) (by omega)).trans hP7
            have hb8v:=hb8l.out
            have m0:=(E7.out.cell (p:=⟨b8,0,none⟩) hb8v).trans k0
            have m1:=(E7.out.cell (p:=⟨b8,1,none⟩) hb8v).trans k1
            have m2:=(E7.out.cell (p:=⟨b8,2,none⟩) hb8v).trans k2
            have m3:=(E7.out.cell (p:=⟨b8,3,none⟩) hb8v).trans k3
            have m4:=(E7.out.cell (p:=⟨b8,4,none⟩) hb8v).trans k4
            have m5:=(E7.out.cell (p:=⟨b8,5,none⟩) hb8v).trans k5
            have hcur':=Lib.hid hcur
            have hcsz':=Lib.hid hcsz
            clear hcur hcsz k0 k1 k2 k3 k4 k5 c0 c1 c2 c3 c4 c5 hP7
            go_region
            all_goals
              obtain ⟨W9,hW9,hin,hzz9,hot,hou,hbq⟩:=six_drew (w:=w8) (b0:=.int .u64 (z.id:Int)) (b1:=.bool z.leaf) (b2:=.string ⟨z.label.toArray⟩) (b3:=.slice zA zn zc) (b4:=.string ⟨z.text.toArray⟩) (b5:=.slice zK zm zd) hcur'.out hcsz'.out
              have hbe9:Below W7.heap.size w8 W9:=hbq _ _ (Below.refl _ _) hgW
              clear hbq
              unfold six at hW9
              rw [← hW9]
              clear hW9
              have hs8:=E7.out.size
              have hN9:=(hot w.heap.size (by omega)).trans ((E7.out.block w.heap.size (by omega)).trans hN7.out)
              have hR9:=(hot (w.heap.size + 1 + 1) (by omega)).trans ((E7.out.block (w.heap.size + 1 + 1) (by omega)).trans hR7.out)
              have hbel9:Below w.heap.size w W9:=hbw7'.out.trans ((E7.out.mono (by omega)).trans (hbe9.mono (by omega)))
              have hT9:∀ k,T k→W9.heap[k]? = w.heap[k]?:=fun k hk=>hbel9.block k (hT'.out k hk)
              have hz9:NodeV (fun k=>T k∨(W5.heap.size≤k∧k < W7.heap.size)) W9 zA zn zc zK zm zd z:=hz7.out.kept (fun _ h=>h) (fun k hk=>by
                have hk7:k < W7.heap.size:=by
                  rcases hk with hk | hk
                  · have:=hT'.out k hk;omega
                  · exact hk.2
                exact (hot k (by omega)).trans (E7.out.block k hk7))
              have hnode:=Lib.hid (show ∀ WE:World,(∀ k,k ≠ w.heap.size→k ≠ w.heap.size + 1 + 1→WE.heap[k]? = W9.heap[k]?)→NodeV (fun k=>T k∨(T k∨(W5.heap.size≤k∧k < W7.heap.size))∨k = g) WE aA an ac (some ⟨g,0,none⟩) kn cq (t.withKids (t.kids.set j z)) from fun WE hWE=>by
                have hgE:WE.heap[g]? = W9.heap[g]?:=hWE g (by omega) (by omega)
                refine set_node (w:=w) (w9:=w8) h'.out (fun k hk=>(hWE k (by have:=hT'.out k hk;omega) (by have:=hT'.out k hk;omega)).trans (hT9 k hk)) E1.out (fun k hk=>KV.ok_kept (fun _ h=>h) (fun i hi=>(hbw7'.out.block i (hT'.out i hi)).symm) (E2.out k hk)) E3.out E4.out E5.out E6.out rfl hj (fun o ho=>(World.cell?_of_block (a:=⟨g,o,none⟩) hgE).trans (hou o ho)) (Six.kept (w:=W9) hin hgE) (hz9.kept (fun _ h=>h) (fun k hk=>hWE k ?_ ?_))
                · rcases hk with hk | hk
                  · have:=hT'.out k hk;omega
                  · omega
                · rcases hk with hk | hk
                  · have:=hT'.out k hk;omega
                  · omega)
              obtain ⟨c0,c1,c2,c3,c4,c5,cf⟩:=six_cells (show W9.heap[w.heap.size]? = some (.cells #[.int .u64 (t.id:Int),.bool t.leaf,.string ⟨t.label.toArray⟩,.slice aA an ac,.string ⟨t.text.toArray⟩,.slice (some ka) kn kc] 33 (0,0)) from hN9)
              have hR9':=hR9
              unfold zero6 at hR9'
              obtain ⟨r0,r1,r2,r3,r4,r5,rf⟩:=six_cells hR9'
              have hR9h:=Lib.hid hR9'
              have hbel9':=Lib.hid hbel9
              have hzg:=Lib.hid (show g < W9.heap.size by rw [hzz9];exact (Array.getElem?_eq_some_iff.1 hcur'.out).1)
              have hz97:=Lib.hid (show W7.heap.size≤W9.heap.size by omega)
              clear hin hzz9 hot hou hbe9 hN9 hR9 hbel9 hT9 hz9 hR9' v0 v1 v2 v3 v4 v5 m0 m1 m2 m3 m4 m5 ff hP8
              go_wp2_with fail
              have R10:=(heap_setCell_other W9 ⟨w.heap.size,5,none⟩ (w.heap.size + 1 + 1) (.slice (some ⟨g,0,none⟩) kn cq) (show w.heap.size + 1 + 1 ≠ w.heap.size by omega)).trans hR9h.out
              have RE:=set_six (w:=(W9.setCell ⟨w.heap.size,5,none⟩ (.slice (some ⟨g,0,none⟩) kn cq))) (b0:=.int .u64 (t.id:Int)) (b1:=.bool t.leaf) (b2:=.string ⟨t.label.toArray⟩) (b3:=.slice aA an ac) (b4:=.string ⟨t.text.toArray⟩) (b5:=.slice (some ⟨g,0,none⟩) kn cq) R10
              have hbE:Below w.heap.size w _:=below_six (hbel9'.out.setCell (p:=⟨w.heap.size,5,none⟩) (Nat.le_refl _) (.slice (some ⟨g,0,none⟩) kn cq)) (b0:=.int .u64 (t.id:Int)) (b1:=.bool t.leaf) (b2:=.string ⟨t.label.toArray⟩) (b3:=.slice aA an ac) (b4:=.string ⟨t.text.toArray⟩) (b5:=.slice (some ⟨g,0,none⟩) kn cq) (show w.heap.size≤w.heap.size + 1 + 1 by omega)
              have hsE:((((((((W9.setCell ⟨w.heap.size,5,none⟩ (.slice (some ⟨g,0,none⟩) kn cq)).setCell ⟨w.heap.size + 1 + 1,0,none⟩ (.int .u64 (t.id:Int))).setCell ⟨w.heap.size + 1 + 1,1,none⟩ (.bool t.leaf)).setCell ⟨w.heap.size + 1 + 1,2,none⟩ (.string ⟨t.label.toArray⟩)).setCell ⟨w.heap.size + 1 + 1,3,none⟩ (.slice aA an ac)).setCell ⟨w.heap.size + 1 + 1,4,none⟩ (.string ⟨t.text.toArray⟩)).setCell ⟨w.heap.size + 1 + 1,5,none⟩ (.slice (some ⟨g,0,none⟩) kn cq))).heap.size = W9.heap.size:=by simp only [World.size_setCell]
              have hNE:=hnode.out ((((((((W9.setCell ⟨w.heap.size,5,none⟩ (.slice (some ⟨g,0,none⟩) kn cq)).setCell ⟨w.heap.size + 1 + 1,0,none⟩ (.int .u64 (t.id:Int))).setCell ⟨w.heap.size + 1 + 1,1,none⟩ (.bool t.leaf)).setCell ⟨w.heap.size + 1 + 1,2,none⟩ (.string ⟨t.label.toArray⟩)).setCell ⟨w.heap.size + 1 + 1,3,none⟩ (.slice aA an ac)).setCell ⟨w.heap.size + 1 + 1,4,none⟩ (.string ⟨t.text.toArray⟩)).setCell ⟨w.heap.size + 1 + 1,5,none⟩ (.slice (some ⟨g,0,none⟩) kn cq))) (fun k q1 q2=>(set_six_other q2).trans (heap_setCell_other _ _ k _ q1))
              generalize ((((((((W9.setCell ⟨w.heap.size,5,none⟩ (.slice (some ⟨g,0,none⟩) kn cq)).setCell ⟨w.heap.size + 1 + 1,0,none⟩ (.int .u64 (t.id:Int))).setCell ⟨w.heap.size + 1 + 1,1,none⟩ (.bool t.leaf)).setCell ⟨w.heap.size + 1 + 1,2,none⟩ (.string ⟨t.label.toArray⟩)).setCell ⟨w.heap.size + 1 + 1,3,none⟩ (.slice aA an ac)).setCell ⟨w.heap.size + 1 + 1,4,none⟩ (.string ⟨t.text.toArray⟩)).setCell ⟨w.heap.size + 1 + 1,5,none⟩ (.slice (some ⟨g,0,none⟩) kn cq))) = W10 at RE hbE hNE hsE ⊢
              obtain ⟨d0,d1,d2,d3,d4,d5,df⟩:=six_cells RE
              refine bodyPost_ret (v:=.tuple #[.agg #[.int .u64 (t.id:Int),.bool t.leaf,.string ⟨t.label.toArray⟩,.slice aA an ac,.string ⟨t.text.toArray⟩,.slice (some ⟨g,0,none⟩) kn cq],.bool true]) (by simp [results,Try.results110,go_sem,d0,d1,d2,d3,d4,d5]) rfl ?_
              have e6:val6 (t.withKids (t.kids.set j z)) aA an ac (some ⟨g,0,none⟩) kn cq = #[.int .u64 (t.id:Int),.bool t.leaf,.string ⟨t.label.toArray⟩,.slice aA an ac,.string ⟨t.text.toArray⟩,.slice (some ⟨g,0,none⟩) kn cq]:=by cases t;rfl
              refine ⟨aA,an,ac,some ⟨g,0,none⟩,kn,cq,by rw [hsome.out,Option.getD_some,e6];rfl,?_,hbE⟩
              rw [hsome.out]
              refine hNE.kept (fun k hk=>?_) (fun _ _=>rfl)
              have q1:=hzg.out
              have q2:=hz97.out
              rcases hk with hk | (hk | hk) | hk
              · exact .inl hk
              · exact .inl hk
              · exact .inr ⟨by omega,by omega⟩
              · exact .inr ⟨by omega,by omega⟩
end Go.Proofs.Ytmipodnffhngaaa

