/- How often an identity is among some. -/
import Derived.Test.YtoeblaecldhcaaaTopLi
namespace Go.Proofs.Ytoeblaecldhcaaa.Top
open Go.RowKit
set_option maxRecDepth 20000
set_option linter.unusedVariables false

def Nts (w:World) (A:Option Addr) (n:Nat) (l:List Nat):Prop:=l.length = n∧∀ (q i:Nat),l[q]? = some i→∃ ad,A = some ad∧ad.block < w.heap.size∧w.cell? (ad.add q) = some (.int .u64 (i:Int))
theorem Nts.below {w w':World} {A:Option Addr} {n:Nat} {l:List Nat} (h:Nts w A n l) (hb:Below w.heap.size w w'):Nts w' A n l :=
  ⟨h.1,fun q i hi=>by
    obtain ⟨ad,e,hlt,hc⟩:=h.2 q i hi
    have hk:(ad.add q).block = ad.block:=by unfold Addr.add;split <;> rfl
    exact ⟨ad,e,Nat.lt_of_lt_of_le hlt hb.size,(World.cell?_of_block (a:=ad.add q) (by rw [hk];exact hb.block _ hlt)).trans hc⟩⟩
theorem Nts.at_ {w:World} {A:Option Addr} {n k:Nat} {l:List Nat} (h:Nts w A n l) (hk:k < n):∃ ad i,A = some ad∧l[k]? = some i∧w.cell? (ad.add k) = some (.int .u64 (i:Int)):=by
  have hl:k < l.length:=by rw [h.1];exact hk
  obtain ⟨ad,e,-,hc⟩:=h.2 k _ (List.getElem?_eq_getElem hl)
  exact ⟨ad,_,e,List.getElem?_eq_getElem hl,hc⟩
theorem Nts.nil_ (w:World):Nts w none 0 []:=⟨rfl,fun q i h=>by simp at h⟩
theorem own_nts {base:Nat} {w:World} {v:Value} {l:List Nat} (h:OwnId base w v l):∃ (A:Option Addr) (c:Nat),v = .slice A l.length c∧l.length≤c∧c≤maxLen∧Nts w A l.length l:=by
  obtain ⟨A,c,rfl,h1,h2,-,h3⟩:=own_form h
  refine ⟨A,c,rfl,h1,h2,rfl,fun q i hi=>?_⟩
  have hq:=(List.getElem?_eq_some_iff.1 hi).1
  obtain ⟨g,rfl,-,hg,hc⟩:=h3 (by omega)
  refine ⟨_,rfl,hg,?_⟩
  have hadd:(⟨g,0,none⟩:Addr).add q = ⟨g,q,none⟩:=by unfold Addr.add;split <;> simp_all
  rw [hadd]
  exact hc q _ (by rw [List.getElem?_map,hi];rfl)
theorem count_take {l:List Nat} {q x:Nat} (h:l[q]? = some x) (i:Nat):(l.take (q + 1)).count i = (l.take q).count i + if x = i then 1 else 0:=by
  rw [List.take_add_one,h,List.count_append]
  simp [List.count_singleton]
set_option maxHeartbeats 4000000 in
theorem count_any (w:World) (A:Option Addr) (n c:Nat) (l:List Nat) (h:Nts w A n l) (hn:n≤maxLen) (i:Nat):Calls Try.prog 34 #[.slice A n c,.int .u64 (i:Int)] w fun e w'=>e = .returned (.int .i64 ((l.count i:Nat):Int))∧Below w.heap.size w w':=by
  have h':=Lib.hid h
  have hlen:=Lib.hid h.1
  clear h
  unfold maxLen at hn
  go_enter Try.func34,Try.ntmps34
  go_wp2_with fail
  go_loopw [5,6] (fun v5 v6 wr=>∃ q:Nat,q≤n∧v6 = .int .i64 (q:Int)∧v5 = .int .i64 (((l.take q).count i:Nat):Int)∧wr = w) (fun _ v6 _=>n - (intOf v6).toNat)
  case atStart=>exact ⟨0,Nat.zero_le _,rfl,rfl,rfl⟩
  case round =>
    obtain ⟨q,hq,rfl,rfl,rfl⟩:=hrel
    obtain ⟨z,hze⟩:∃ z,z = (l.take q).count i:=⟨_,rfl⟩
    have hzq:z≤q:=by rw [hze];exact Nat.le_trans List.count_le_length (by rw [List.length_take];omega)
    rw [← hze]
    by_cases hqn:q < n
    · have hqI:(q:Int) < (n:Int):=by omega
      obtain ⟨ad,x,hA,hx,hc⟩:=h'.out.at_ hqn
      have hst:=Lib.hid (count_take hx i)
      rw [← hze] at hst
      have hze':=Lib.hid hze
      subst hA
      clear hze hx
      by_cases hxi:x = i
      · subst hxi
        go_wp2_with fail
        go_roundw
        case rel=>exact ⟨q + 1,by omega,by go_num,by rw [hst.out,if_pos rfl];go_num,trivial⟩
        case measure=>simp [intOf];omega
      · have hb:((x:Int) == (i:Int)) = false:=by simp;omega
        go_wp2_with fail
        go_roundw
        case rel=>exact ⟨q + 1,by omega,by go_num,by rw [hst.out,if_neg hxi];rfl,trivial⟩
        case measure=>simp [intOf];omega
    · have hqI:¬ (q:Int) < (n:Int):=by omega
      have hv:=Lib.hid (show z = l.count i by rw [hze,List.take_of_length_le (by have:=hlen.out;omega)])
      clear hze
      go_wp2_with fail
      go_ret
      exact ⟨by rw [hv.out] <;> rfl,Below.refl _ _⟩
end Go.Proofs.Ytoeblaecldhcaaa.Top
