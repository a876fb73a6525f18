/- MgBA: TreY TopRa -/
import Derived.BigQuiet
import Derived.RegionTactic
import Derived.Test.YtoeblaecldhcaaaMgAF
namespace Go.Proofs.Ytoeblaecldhcaaa
set_option linter.unusedVariables false
open Go.RowKit
set_option maxRecDepth 20000

set_option maxHeartbeats 8000000 in
theorem rat_any (w:World) (t:Nd) (aA kA:Option Addr) (an ac kn kc:Nat) (h:NodeV (Old w) w aA an ac kA kn kc t) (pA:Option Addr) (pn pc:Nat) (p:List Int) (hp:Its w pA pn p) (hpn:pn≤maxLen) :
    Calls Try.prog 49 #[.agg (val6 t aA an ac kA kn kc),.slice pA pn pc] w (AtAns w t p):=by
  have h':=Lib.hid h
  have hp':=Lib.hid hp
  have hpl:=Lib.hid hp.1
  clear h hp
  unfold maxLen at hpn
  unfold val6
  go_enter Try.func49,Try.ntmps49
  go_wp2_with fail
  go_loopw [6] (fun k wr=>∃ (q:Nat) (s:Nd) (sA skA:Option Addr) (sn sc skn skc:Nat),q≤pn∧k = .int .i64 (q:Int)∧atV t p = atV s (p.drop q)∧NodeV (Old w) w sA sn sc skA skn skc s ∧
    wr.heap[w.heap.size]? = some (.cells (val6 s sA sn sc skA skn skc) 33 (0,0))∧wr.heap[w.heap.size + 1]? = some (.cells zero6 33 (0,0))∧Below w.heap.size w wr) (fun k _=>pn - (intOf k).toNat)
  case atStart =>
    exact ⟨0,t,aA,kA,an,ac,kn,kc,Nat.zero_le _,rfl,rfl,h'.out,two_first w _ _,two_second w _ _,((Below.refl _ w).alloc (Nat.le_refl _) _).alloc (by simp) _⟩
  case round =>
    obtain ⟨q,s,sA,skA,sn,sc,skn,skc,hq,rfl,hat,hv,hB,hR,hbel⟩:=hrel
    have hf:=hv.facts
    have hkl:=hf.kl
    have hB':=Lib.hid hB
    have hR':=Lib.hid hR
    have hbel':=Lib.hid hbel
    unfold val6 at hB
    unfold zero6 at hR
    obtain ⟨c0,c1,c2,c3,c4,c5,cf⟩:=six_cells hB
    obtain ⟨r0,r1,r2,r3,r4,r5,rf⟩:=six_cells hR
    have hBl:=(Array.getElem?_eq_some_iff.1 hB).1
    have hRl:=(Array.getElem?_eq_some_iff.1 hR).1
    by_cases h1:q < pn
    · have h1I:(q:Int) < (pn:Int):=by omega
      obtain ⟨ad,i,rfl,hi,hci⟩:=(hp'.out.below hbel).at_ h1
      have hdrop:p.drop q = i :: p.drop (q + 1):=by
        have hl:q < p.length:=by rw [hpl.out];exact h1
        rw [List.drop_eq_getElem_cons hl]
        rw [List.getElem?_eq_getElem hl] at hi
        injection hi with hi
        rw [hi]
      rw [hdrop] at hat
      have hkm:=hf.kcm
      have hknc:=hf.knc
      unfold maxLen at hkm
      have ending:Hid (atV t p = none→∀ d,AtAns w t p (.returned (.tuple #[.agg zero6,.bool false])) (((((((wr.drewN d).setCell ⟨w.heap.size + 1,0,none⟩ (.int .u64 0)).setCell ⟨w.heap.size + 1,1,none⟩ (.bool false)).setCell ⟨w.heap.size + 1,2,none⟩ (.string ⟨#[]⟩)).setCell ⟨w.heap.size + 1,3,none⟩ (.slice none 0 0)).setCell ⟨w.heap.size + 1,4,none⟩ (.string ⟨#[]⟩)).setCell ⟨w.heap.size + 1,5,none⟩ (.slice none 0 0)) ∧
          (((((((wr.drewN d).setCell ⟨w.heap.size + 1,0,none⟩ (.int .u64 0)).setCell ⟨w.heap.size + 1,1,none⟩ (.bool false)).setCell ⟨w.heap.size + 1,2,none⟩ (.string ⟨#[]⟩)).setCell ⟨w.heap.size + 1,3,none⟩ (.slice none 0 0)).setCell ⟨w.heap.size + 1,4,none⟩ (.string ⟨#[]⟩)).setCell ⟨w.heap.size + 1,5,none⟩ (.slice none 0 0)).heap[w.heap.size + 1]? = some (.cells zero6 33 (0,0))):=fun hn d=>by
        refine ⟨⟨none,0,0,none,0,0,by rw [hn];rfl,by rw [hn];exact zero_node,below_six (draws hbel'.out d) (Nat.le_succ w.heap.size)⟩,?_⟩
        have:=hR'.out
        unfold zero6 at this ⊢
        exact set_six (w:=wr.drewN d) this
      rcases hasB_cases skn i with hno | ⟨j,rfl,hj,hyes⟩
      · have hans:=Lib.hid (hat.trans (atV_none (by rw [hkl];exact hno)))
        unfold hasB at hno
        have hno:=of_decide_eq_false hno
        by_cases hneg:i < 0
        · have g1:decide (i < 0) = true:=decide_eq_true hneg
          clear hat hf hkl hv hdrop hkm hknc hi hno hB hR hbel
          go_wp2_with fail
          go_quiet (fail)
          go_wp2_with fail
          obtain ⟨hA,R9⟩:=ending.out hans.out nq
          generalize ((((((wr.drewN nq).setCell ⟨w.heap.size + 1,0,none⟩ (.int .u64 0)).setCell ⟨w.heap.size + 1,1,none⟩ (.bool false)).setCell ⟨w.heap.size + 1,2,none⟩ (.string ⟨#[]⟩)).setCell ⟨w.heap.size + 1,3,none⟩ (.slice none 0 0)).setCell ⟨w.heap.size + 1,4,none⟩ (.string ⟨#[]⟩)).setCell ⟨w.heap.size + 1,5,none⟩ (.slice none 0 0) = W9 at R9 hA ⊢
          unfold zero6 at R9
          obtain ⟨d0,d1,d2,d3,d4,d5,df⟩:=six_cells R9
          refine bodyPost_ret (v:=.tuple #[.agg zero6,.bool false]) (by simp [results,Try.results49,go_sem,d0,d1,d2,d3,d4,d5,zero6]) rfl ?_
          exact hA
        · have g1:decide (i < 0) = false:=decide_eq_false hneg
          have g2:decide ((skn:Int)≤i) = true:=decide_eq_true (by omega)
          clear hat hf hkl hv hdrop hkm hknc hi hno hB hR hbel
          go_wp2_with fail
          go_quiet (fail)
          go_wp2_with fail
          obtain ⟨hA,R9⟩:=ending.out hans.out nq
          generalize ((((((wr.drewN nq).setCell ⟨w.heap.size + 1,0,none⟩ (.int .u64 0)).setCell ⟨w.heap.size + 1,1,none⟩ (.bool false)).setCell ⟨w.heap.size + 1,2,none⟩ (.string ⟨#[]⟩)).setCell ⟨w.heap.size + 1,3,none⟩ (.slice none 0 0)).setCell ⟨w.heap.size + 1,4,none⟩ (.string ⟨#[]⟩)).setCell ⟨w.heap.size + 1,5,none⟩ (.slice none 0 0) = W9 at R9 hA ⊢
          unfold zero6 at R9
          obtain ⟨d0,d1,d2,d3,d4,d5,df⟩:=six_cells R9
          refine bodyPost_ret (v:=.tuple #[.agg zero6,.bool false]) (by simp [results,Try.results49,go_sem,d0,d1,d2,d3,d4,d5,zero6]) rfl ?_
          exact hA
      · obtain ⟨kd,hkd⟩:∃ kd,s.kids[j]? = some kd:=⟨s.kids[j]'(by omega),List.getElem?_eq_getElem _⟩
        obtain ⟨ka,rfl,hka,aA3,an3,ac3,kA3,kn3,kc3,hsix,hv3⟩:=hf.row.at_ hkd
        rw [Nat.zero_add] at hka hsix
        have hans:=Lib.hid (hat.trans (atV_some hkd))
        have hv3':=Lib.hid hv3
        have hjI:(j:Int) < (skn:Int):=by omega
        have g1:decide ((j:Int) < 0) = false:=decide_eq_false (by omega)
        have g2:decide ((skn:Int)≤(j:Int)) = false:=decide_eq_false (by omega)
        have g3:decide (skn≤j) = false:=decide_eq_false (by omega)
        obtain ⟨s0,s1,s2,s3,s4,s5⟩:=hsix.kept (w':=wr) (hbel'.out.block _ hka)
        clear hat hf hkl hv hdrop hkm hknc hi hB hR hbel hyes hkd hv3 hsix ending
        go_wp2_with fail
        go_quiet (fail)
        go_wp2_with fail
        go_region
        go_wp2_with fail
        go_roundw
        case rel =>
          have hB6:=hB'.out
          unfold val6 at hB6
          exact ⟨q + 1,kd,aA3,kA3,an3,ac3,kn3,kc3,by omega,by go_num,hans.out,hv3'.out,set_six (w:=wr.drewN _) hB6,(set_six_other (w:=wr.drewN _) (by omega)).trans hR'.out,below_six (draws hbel'.out _) (Nat.le_refl _)⟩
        case measure=>simp [intOf];omega
    · have h1I:¬ (q:Int) < (pn:Int):=by omega
      have hans:=Lib.hid (show atV t p = some s by rw [hat,List.drop_of_length_le (by rw [hpl.out];omega)];rfl)
      have hv':=Lib.hid (hv.kept (w':=wr) (fun _ h=>h) (fun k hk=>hbel.block k hk))
      clear hat hf hkl hv hbel
      go_wp2_with fail
      have R9:=set_six (b0:=.int .u64 (s.id:Int)) (b1:=.bool s.leaf) (b2:=.string ⟨s.label.toArray⟩) (b3:=.slice sA sn sc) (b4:=.string ⟨s.text.toArray⟩) (b5:=.slice skA skn skc) hR
      have hb9:Below w.heap.size w _:=below_six hbel'.out (b0:=.int .u64 (s.id:Int)) (b1:=.bool s.leaf) (b2:=.string ⟨s.label.toArray⟩) (b3:=.slice sA sn sc) (b4:=.string ⟨s.text.toArray⟩) (b5:=.slice skA skn skc) (Nat.le_succ w.heap.size)
      have hsz:=hbel'.out.size
      have hN:NodeV (Old ((((((wr.setCell ⟨w.heap.size + 1,0,none⟩ (.int .u64 (s.id:Int))).setCell ⟨w.heap.size + 1,1,none⟩ (.bool s.leaf)).setCell ⟨w.heap.size + 1,2,none⟩ (.string ⟨s.label.toArray⟩)).setCell ⟨w.heap.size + 1,3,none⟩ (.slice sA sn sc)).setCell ⟨w.heap.size + 1,4,none⟩ (.string ⟨s.text.toArray⟩)).setCell ⟨w.heap.size + 1,5,none⟩ (.slice skA skn skc))) ((((((wr.setCell ⟨w.heap.size + 1,0,none⟩ (.int .u64 (s.id:Int))).setCell ⟨w.heap.size + 1,1,none⟩ (.bool s.leaf)).setCell ⟨w.heap.size + 1,2,none⟩ (.string ⟨s.label.toArray⟩)).setCell ⟨w.heap.size + 1,3,none⟩ (.slice sA sn sc)).setCell ⟨w.heap.size + 1,4,none⟩ (.string ⟨s.text.toArray⟩)).setCell ⟨w.heap.size + 1,5,none⟩ (.slice skA skn skc)) sA sn sc skA skn skc s:=hv'.out.kept (fun k hk=>by
        have:k < w.heap.size:=hk
        show k < _
        simp only [World.size_setCell]
        omega) (fun k hk=>set_six_other (by have:k < w.heap.size:=hk;omega))
      generalize ((((((wr.setCell ⟨w.heap.size + 1,0,none⟩ (.int .u64 (s.id:Int))).setCell ⟨w.heap.size + 1,1,none⟩ (.bool s.leaf)).setCell ⟨w.heap.size + 1,2,none⟩ (.string ⟨s.label.toArray⟩)).setCell ⟨w.heap.size + 1,3,none⟩ (.slice sA sn sc)).setCell ⟨w.heap.size + 1,4,none⟩ (.string ⟨s.text.toArray⟩)).setCell ⟨w.heap.size + 1,5,none⟩ (.slice skA skn skc)) = W9 at R9 hb9 hN ⊢
      obtain ⟨d0,d1,d2,d3,d4,d5,df⟩:=six_cells R9
      refine bodyPost_ret (v:=.tuple #[.agg (val6 s sA sn sc skA skn skc),.bool true]) (by simp [results,Try.results49,go_sem,d0,d1,d2,d3,d4,d5,val6]) rfl ?_
      exact ⟨sA,sn,sc,skA,skn,skc,by rw [hans.out];rfl,by rw [hans.out];exact hN,hb9⟩
end Go.Proofs.Ytoeblaecldhcaaa
namespace Go.Proofs.Ytoeblaecldhcaaa.Top
open Go.RowKit
set_option maxRecDepth 20000
set_option linter.unusedVariables false

def RAtAns (T:Nat→Prop) (w:World) (t:Nd) (p:List Int) (e:Ending) (w':World):Prop :=
  ∃ aA an ac kA kn kc,e = .returned (.tuple #[.agg (val6 ((atV t p).getD Nd.zero) aA an ac kA kn kc),.bool (atV t p).isSome])∧NodeV T w' aA an ac kA kn kc ((atV t p).getD Nd.zero)∧Below w.heap.size w w'
set_option maxHeartbeats 8000000 in
theorem rat_T (T:Nat→Prop) (w:World) (hT:∀ k,T k→k < w.heap.size) (t:Nd) (aA kA:Option Addr) (an ac kn kc:Nat) (h:NodeV T w aA an ac kA kn kc t) (pA:Option Addr) (pn pc:Nat) (p:List Int) (hp:Its w pA pn p) (hpn:pn≤maxLen) :
    Calls Try.prog 49 #[.agg (val6 t aA an ac kA kn kc),.slice pA pn pc] w (RAtAns T w t p):=by
  have h':=Lib.hid h
  have hp':=Lib.hid hp
  have hpl:=Lib.hid hp.1
  clear h hp
  unfold maxLen at hpn
  unfold val6
  go_enter Try.func49,Try.ntmps49
  go_wp2_with fail
  go_loopw [6] (fun k wr=>∃ (q:Nat) (s:Nd) (sA skA:Option Addr) (sn sc skn skc:Nat),q≤pn∧k = .int .i64 (q:Int)∧atV t p = atV s (p.drop q)∧NodeV T w sA sn sc skA skn skc s ∧
    wr.heap[w.heap.size]? = some (.cells (val6 s sA sn sc skA skn skc) 33 (0,0))∧wr.heap[w.heap.size + 1]? = some (.cells zero6 33 (0,0))∧Below w.heap.size w wr) (fun k _=>pn - (intOf k).toNat)
  case atStart =>
    exact ⟨0,t,aA,kA,an,ac,kn,kc,Nat.zero_le _,rfl,rfl,h'.out,two_first w _ _,two_second w _ _,((Below.refl _ w).alloc (Nat.le_refl _) _).alloc (by simp) _⟩
  case round =>
    obtain ⟨q,s,sA,skA,sn,sc,skn,skc,hq,rfl,hat,hv,hB,hR,hbel⟩:=hrel
    have hf:=hv.facts
    have hkl:=hf.kl
    have hB':=Lib.hid hB
    have hR':=Lib.hid hR
    have hbel':=Lib.hid hbel
    unfold val6 at hB
    unfold zero6 at hR
    obtain ⟨c0,c1,c2,c3,c4,c5,cf⟩:=six_cells hB
    obtain ⟨r0,r1,r2,r3,r4,r5,rf⟩:=six_cells hR
    have hBl:=(Array.getElem?_eq_some_iff.1 hB).1
    have hRl:=(Array.getElem?_eq_some_iff.1 hR).1
    by_cases h1:q < pn
    · have h1I:(q:Int) < (pn:Int):=by omega
      obtain ⟨ad,i,rfl,hi,hci⟩:=(hp'.out.below hbel).at_ h1
      have hdrop:p.drop q = i :: p.drop (q + 1):=by
        have hl:q < p.length:=by rw [hpl.out];exact h1
        rw [List.drop_eq_getElem_cons hl]
        rw [List.getElem?_eq_getElem hl] at hi
        injection hi with hi
        rw [hi]
      rw [hdrop] at hat
      have hkm:=hf.kcm
      have hknc:=hf.knc
      unfold maxLen at hkm
      have ending:Hid (atV t p = none→∀ d,RAtAns T w t p (.returned (.tuple #[.agg zero6,.bool false])) (((((((wr.drewN d).setCell ⟨w.heap.size + 1,0,none⟩ (.int .u64 0)).setCell ⟨w.heap.size + 1,1,none⟩ (.bool false)).setCell ⟨w.heap.size + 1,2,none⟩ (.string ⟨#[]⟩)).setCell ⟨w.heap.size + 1,3,none⟩ (.slice none 0 0)).setCell ⟨w.heap.size + 1,4,none⟩ (.string ⟨#[]⟩)).setCell ⟨w.heap.size + 1,5,none⟩ (.slice none 0 0)) ∧
          (((((((wr.drewN d).setCell ⟨w.heap.size + 1,0,none⟩ (.int .u64 0)).setCell ⟨w.heap.size + 1,1,none⟩ (.bool false)).setCell ⟨w.heap.size + 1,2,none⟩ (.string ⟨#[]⟩)).setCell ⟨w.heap.size + 1,3,none⟩ (.slice none 0 0)).setCell ⟨w.heap.size + 1,4,none⟩ (.string ⟨#[]⟩)).setCell ⟨w.heap.size + 1,5,none⟩ (.slice none 0 0)).heap[w.heap.size + 1]? = some (.cells zero6 33 (0,0))):=fun hn d=>by
        refine ⟨⟨none,0,0,none,0,0,by rw [hn];rfl,by rw [hn];exact zero_node,below_six (draws hbel'.out d) (Nat.le_succ w.heap.size)⟩,?_⟩
        have:=hR'.out
        unfold zero6 at this ⊢
        exact set_six (w:=wr.drewN d) this
      rcases hasB_cases skn i with hno | ⟨j,rfl,hj,hyes⟩
      · have hans:=Lib.hid (hat.trans (atV_none (by rw [hkl];exact hno)))
        unfold hasB at hno
        have hno:=of_decide_eq_false hno
        by_cases hneg:i < 0
        · have g1:decide (i < 0) = true:=decide_eq_true hneg
          clear hat hf hkl hv hdrop hkm hknc hi hno hB hR hbel
          go_wp2_with fail
          go_quiet (fail)
          go_wp2_with fail
          obtain ⟨hA,R9⟩:=ending.out hans.out nq
          generalize ((((((wr.drewN nq).setCell ⟨w.heap.size + 1,0,none⟩ (.int .u64 0)).setCell ⟨w.heap.size + 1,1,none⟩ (.bool false)).setCell ⟨w.heap.size + 1,2,none⟩ (.string ⟨#[]⟩)).setCell ⟨w.heap.size + 1,3,none⟩ (.slice none 0 0)).setCell ⟨w.heap.size + 1,4,none⟩ (.string ⟨#[]⟩)).setCell ⟨w.heap.size + 1,5,none⟩ (.slice none 0 0) = W9 at R9 hA ⊢
          unfold zero6 at R9
          obtain ⟨d0,d1,d2,d3,d4,d5,df⟩:=six_cells R9
          refine bodyPost_ret (v:=.tuple #[.agg zero6,.bool false]) (by simp [results,Try.results49,go_sem,d0,d1,d2,d3,d4,d5,zero6]) rfl ?_
          exact hA
        · have g1:decide (i < 0) = false:=decide_eq_false hneg
          have g2:decide ((skn:Int)≤i) = true:=decide_eq_true (by omega)
          clear hat hf hkl hv hdrop hkm hknc hi hno hB hR hbel
          go_wp2_with fail
          go_quiet (fail)
          go_wp2_with fail
          obtain ⟨hA,R9⟩:=ending.out hans.out nq
          generalize ((((((wr.drewN nq).setCell ⟨w.heap.size + 1,0,none⟩ (.int .u64 0)).setCell ⟨w.heap.size + 1,1,none⟩ (.bool false)).setCell ⟨w.heap.size + 1,2,none⟩ (.string ⟨#[]⟩)).setCell ⟨w.heap.size + 1,3,none⟩ (.slice none 0 0)).setCell ⟨w.heap.size + 1,4,none⟩ (.string ⟨#[]⟩)).setCell ⟨w.heap.size + 1,5,none⟩ (.slice none 0 0) = W9 at R9 hA ⊢
          unfold zero6 at R9
          obtain ⟨d0,d1,d2,d3,d4,d5,df⟩:=six_cells R9
          refine bodyPost_ret (v:=.tuple #[.agg zero6,.bool false]) (by simp [results,Try.results49,go_sem,d0,d1,d2,d3,d4,d5,zero6]) rfl ?_
          exact hA
      · obtain ⟨kd,hkd⟩:∃ kd,s.kids[j]? = some kd:=⟨s.kids[j]'(by omega),List.getElem?_eq_getElem _⟩
        obtain ⟨ka,rfl,hka,aA3,an3,ac3,kA3,kn3,kc3,hsix,hv3⟩:=hf.row.at_ hkd
        rw [Nat.zero_add] at hka hsix
        have hans:=Lib.hid (hat.trans (atV_some hkd))
        have hv3':=Lib.hid hv3
        have hjI:(j:Int) < (skn:Int):=by omega
        have g1:decide ((j:Int) < 0) = false:=decide_eq_false (by omega)
        have g2:decide ((skn:Int)≤(j:Int)) = false:=decide_eq_false (by omega)
        have g3:decide (skn≤j) = false:=decide_eq_false (by omega)
        obtain ⟨s0,s1,s2,s3,s4,s5⟩:=hsix.kept (w':=wr) (hbel'.out.block _ (hT _ hka))
        clear hat hf hkl hv hdrop hkm hknc hi hB hR hbel hyes hkd hv3 hsix ending
        go_wp2_with fail
        go_quiet (fail)
        go_wp2_with fail
        go_region
        go_wp2_with fail
        go_roundw
        case rel =>
          have hB6:=hB'.out
          unfold val6 at hB6
          exact ⟨q + 1,kd,aA3,kA3,an3,ac3,kn3,kc3,by omega,by go_num,hans.out,hv3'.out,set_six (w:=wr.drewN _) hB6,(set_six_other (w:=wr.drewN _) (by omega)).trans hR'.out,below_six (draws hbel'.out _) (Nat.le_refl _)⟩
        case measure=>simp [intOf];omega
    · have h1I:¬ (q:Int) < (pn:Int):=by omega
      have hans:=Lib.hid (show atV t p = some s by rw [hat,List.drop_of_length_le (by rw [hpl.out];omega)];rfl)
      have hv':=Lib.hid (hv.kept (w':=wr) (T':=T) (fun _ h=>h) (fun k hk=>hbel.block k (hT k hk)))
      clear hat hf hkl hv hbel
      go_wp2_with fail
      have R9:=set_six (b0:=.int .u64 (s.id:Int)) (b1:=.bool s.leaf) (b2:=.string ⟨s.label.toArray⟩) (b3:=.slice sA sn sc) (b4:=.string ⟨s.text.toArray⟩) (b5:=.slice skA skn skc) hR
      have hb9:Below w.heap.size w _:=below_six hbel'.out (b0:=.int .u64 (s.id:Int)) (b1:=.bool s.leaf) (b2:=.string ⟨s.label.toArray⟩) (b3:=.slice sA sn sc) (b4:=.string ⟨s.text.toArray⟩) (b5:=.slice skA skn skc) (Nat.le_succ w.heap.size)
      have hsz:=hbel'.out.size
      have hN:NodeV T ((((((wr.setCell ⟨w.heap.size + 1,0,none⟩ (.int .u64 (s.id:Int))).setCell ⟨w.heap.size + 1,1,none⟩ (.bool s.leaf)).setCell ⟨w.heap.size + 1,2,none⟩ (.string ⟨s.label.toArray⟩)).setCell ⟨w.heap.size + 1,3,none⟩ (.slice sA sn sc)).setCell ⟨w.heap.size + 1,4,none⟩ (.string ⟨s.text.toArray⟩)).setCell ⟨w.heap.size + 1,5,none⟩ (.slice skA skn skc)) sA sn sc skA skn skc s:=hv'.out.kept (fun k hk=>hk) (fun k hk=>set_six_other (by have:k < w.heap.size:=hT k hk;omega))
      generalize ((((((wr.setCell ⟨w.heap.size + 1,0,none⟩ (.int .u64 (s.id:Int))).setCell ⟨w.heap.size + 1,1,none⟩ (.bool s.leaf)).setCell ⟨w.heap.size + 1,2,none⟩ (.string ⟨s.label.toArray⟩)).setCell ⟨w.heap.size + 1,3,none⟩ (.slice sA sn sc)).setCell ⟨w.heap.size + 1,4,none⟩ (.string ⟨s.text.toArray⟩)).setCell ⟨w.heap.size + 1,5,none⟩ (.slice skA skn skc)) = W9 at R9 hb9 hN ⊢
      obtain ⟨d0,d1,d2,d3,d4,d5,df⟩:=six_cells R9
      refine bodyPost_ret (v:=.tuple #[.agg (val6 s sA sn sc skA skn skc),.bool true]) (by simp [results,Try.results49,go_sem,d0,d1,d2,d3,d4,d5,val6]) rfl ?_
      exact ⟨sA,sn,sc,skA,skn,skc,by rw [hans.out];rfl,by rw [hans.out];exact hN,hb9⟩
end Go.Proofs.Ytoeblaecldhcaaa.Top
