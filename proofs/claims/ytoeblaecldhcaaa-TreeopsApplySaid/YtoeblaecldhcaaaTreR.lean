/- The identities: the document's. -/
import Derived.Test.YtoeblaecldhcaaaMgAF
import Derived.Test.YtoeblaecldhcaaaMgAJ
import Derived.Deep.AppendLies
namespace Go.Proofs.Ytoeblaecldhcaaa
set_option linter.unusedVariables false
open Go.RowKit
set_option maxRecDepth 20000

theorem idsV_len:∀ t:Nd,0 < (idsV t).length:=fun t=>by rw [idsV_eq];simp
mutual
theorem ids_count:∀ t:Nd,(idsV t).length = countV t
  | .mk i l b ps x ks=>by
    simp only [idsV,countV,List.length_cons]
    rw [idss_count ks]
    omega
theorem idss_count:∀ l:List Nd,(idssV l).length = countsV l
  | []=>by simp [idssV,countsV]
  | k :: r=>by
    simp only [idssV,countsV,List.length_append]
    rw [ids_count k,idss_count r]
end
theorem OwnId.one (base:Nat) (w:World) (x:Nat) (hb:base≤w.heap.size):OwnId base (w.alloc (.cells #[.int .u64 (x:Int)] 23)) (.slice (some ⟨w.heap.size,0,none⟩) 1 1) [x] :=
  World.ownsRow_lit w #[.int .u64 (x:Int)] 1 hb (by unfold maxLen;omega) rfl
theorem idss_upto (l:List Nd) (q:Nat):(idssV (l.take q)).length≤countsV l:=by
  rw [idss_count]
  exact counts_upto l q
set_option maxHeartbeats 8000000 in
theorem rids_any (t:Nd):∀ (w:World) (aA kA:Option Addr) (an ac kn kc:Nat),NodeV (Old w) w aA an ac kA kn kc t→weighV t≤1000000 →
    Calls Try.prog 17 #[.agg (val6 t aA an ac kA kn kc)] w fun e w'=>∃ v,e = .returned v∧OwnId w.heap.size w' v (idsV t)∧Below w.heap.size w w':=by
  induction t using Nd.ind with
  | _ t ih =>
  intro w aA kA an ac kn kc h hw
  obtain ⟨i0,hi0,hz0,hz1,hz2⟩:=info_parts Try.info23
  have hi0':=Lib.hid hi0
  have hz0':=Lib.hid hz0
  have hz1':=Lib.hid hz1
  have hz2':=Lib.hid hz2
  clear hi0 hz0 hz1 hz2
  have ih':=Lib.hid ih
  have hf:=h.facts
  have f4:=Lib.hid hf.row
  have f6:=hf.knc
  have f6m:=hf.kcm
  have f7:=Lib.hid hf.kl
  have hw':=Lib.hid hw
  unfold maxLen at f6m
  have hcw:=Lib.hid (Nat.le_trans (count_le t) hw)
  clear ih h hf hw
  unfold val6
  go_enter Try.func17,Try.ntmps17
  go_wp2_with fail
  go_loopw [3,4] (fun s k wr=>∃ q:Nat,q≤kn∧k = .int .i64 (q:Int)∧OwnId (w.heap.size + 1) wr s (t.id :: idssV (t.kids.take q))∧wr.heap[w.heap.size]? = some (.cells (val6 t aA an ac kA kn kc) 33 (0,0))∧Below w.heap.size w wr) (fun _ k _=>kn - (intOf k).toNat)
  case atStart =>
    refine ⟨0,Nat.zero_le _,rfl,?_,two_first w _ _,((Below.refl _ _).alloc (Nat.le_refl _) _).alloc (by simp) _⟩
    simp only [List.take_zero,idssV]
    have h1:=OwnId.one (w.heap.size + 1) (w.alloc (.cells (val6 t aA an ac kA kn kc) 33)) t.id (by simp)
    rw [World.size_alloc] at h1
    exact h1
  case round =>
    obtain ⟨q,hq,rfl,hrow,hB,hbel⟩:=hrel
    have hB':=Lib.hid hB
    have hBl:=Lib.hid (Array.getElem?_eq_some_iff.1 hB).1
    have hbel':=Lib.hid hbel
    have hrow':=Lib.hid hrow
    unfold val6 at hB
    obtain ⟨c0,c1,c2,c3,c4,c5,cf⟩:=six_cells hB
    clear hB hbel hrow
    by_cases h1:q < kn
    · have h1I:(q:Int) < (kn:Int):=by omega
      obtain ⟨kd,hkd⟩:=get_kid f7.out h1
      obtain ⟨ka,aA3,an3,ac3,kA3,kn3,kc3,rfl,⟨s0,s1,s2,s3,s4,s5⟩,hv3⟩:=kid_at f4.out hkd hbel'.out
      have hcall:=Lib.hid (ih'.out kd (List.mem_of_getElem? hkd) wr aA3 kA3 an3 ac3 kn3 kc3 hv3 (Nat.le_trans (weigh_kid hkd) hw'.out))
      have hnew:=Lib.hid (show t.id :: idssV (t.kids.take (q + 1)) = (t.id :: idssV (t.kids.take q)) ++ idsV kd by rw [take_snoc hkd,idssV_append];simp [idssV])
      have hlen:(t.id :: idssV (t.kids.take (q + 1))).length≤1000000:=by
        have h1:=idss_upto t.kids (q + 1)
        have h2:=hcw.out
        rw [countV_eq] at h2
        simp only [List.length_cons]
        omega
      rw [hnew.out,List.length_append] at hlen
      have hpos:=idsV_len kd
      unfold val6 at hcall
      clear hkd hv3
      generalize t.id :: idssV (t.kids.take q) = xs at hrow' hnew hlen
      generalize idsV kd = ys at hcall hnew hlen hpos
      go_wp2_with fail
      refine hcall.out.mono ?_
      rintro e w2 ⟨v2,rfl,hr2,hb2⟩
      obtain ⟨A2,cp2,rfl,hn2,hcm2,-,hcs2⟩:=own_form hr2
      obtain ⟨g2,rfl,hg2,hg2l,hcell2⟩:=hcs2 hpos
      have hb2':=Lib.hid hb2
      have hrow2:OwnId (w.heap.size + 1) w2 u3 xs:=own_kept hrow'.out fun k hk=>hb2.block k (World.ownsRow.lt hrow'.out k hk).2
      have hrow2':=Lib.hid hrow2
      have hcell2':=Lib.hid hcell2
      have hB2:=Lib.hid ((hb2.block _ hBl.out).trans hB'.out)
      have hz2:w.heap.size + 1≤w2.heap.size:=by have:=hb2.size;have:=hBl.out;omega
      clear hb2 hcall hr2 hcell2 hrow2
      go_wp2_with (at_builtin;refine wpList_append_lies w2 (by rfl) (.tmp 15) (.tmp 21) 38 (by rfl) (w.heap.size + 1) 23 i0 _ 1 8 Try.underlying38 hi0'.out hz0'.out hz1'.out hz2'.out rfl (by decide) u3 xs.length (xs.map idv) (by rfl) hrow2'.out ⟨g2,0,none⟩ ys.length cp2 (ys.map idv) (by rfl) (by simp) (fun j u hj=>by rw [add_zero_off];exact hcell2'.out j u hj) (by simp [idv,Value.oneCell']) hpos (by unfold maxLen;omega) (by omega) hz2 _ rfl ?_;intro g cap w3 hown hgrow hat hlt;have hown':=Lib.hid hown;have hgrow':=Lib.hid hgrow;clear hown hgrow)
      go_roundw
      case rel =>
        have hlt3:=(World.ownsRow.lt hrow2'.out)
        have F3:FrX (fun k=>w.heap.size + 1≤k) w2 w3:=FrX.of_grown hgrow'.out fun k e=>(hlt3 k e).1
        refine ⟨q + 1,by omega,by go_num,?_,(F3.block _ (by omega) (by omega)).trans hB2.out,hbel'.out.trans ((hb2'.out.mono hbel'.out.size).trans (F3.below (fun k hk=>by omega) (by omega)))⟩
        rw [hnew.out]
        unfold OwnId
        rw [List.length_append,List.map_append]
        exact hown'.out
      case measure=>simp [intOf];omega
    · have h1I:¬ (q:Int) < (kn:Int):=by omega
      have hfin:=Lib.hid (show t.id :: idssV (t.kids.take q) = idsV t by rw [idsV_eq,List.take_of_length_le (by rw [f7.out];omega)])
      go_wp2_with fail
      go_ret
      exact ⟨_,rfl,by rw [← hfin.out];exact own_base hrow'.out (by omega),hbel'.out⟩
end Go.Proofs.Ytoeblaecldhcaaa
