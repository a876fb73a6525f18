/- MgAH: PthB PthD PthF -/
import Derived.Test.YtidimannfemnmaaMgAG
import Derived.Deep.CutRange
import Derived.Deep.RegionWith
import Derived.OwnWalk
import Derived.Laws.FloatArith
import Derived.Laws.Cover2
import Derived.Laws.Cover3
import Derived.Laws.OwnMore
set_option linter.all false
namespace Go.Proofs.Ytidimannfemnmaa.P4
open Go.RowKit
set_option maxRecDepth 20000


theorem common_take_k {xs ys:List Int} {k:Nat} {x y:Int} (h:commonV xs ys = k + commonV (xs.drop k) (ys.drop k)) (h1:xs[k]? = some x) (h2:ys[k]? = some y) (e:(x == y) = true) :
    commonV xs ys = (k + 1) + commonV (xs.drop (k + 1)) (ys.drop (k + 1)):=by
  obtain rfl:x = y:=beq_iff_eq.1 e
  have:=common_step h1 h2
  omega
theorem common_at_k {xs ys:List Int} {k:Nat} {x y:Int} (h:commonV xs ys = k + commonV (xs.drop k) (ys.drop k)) (h1:xs[k]? = some x) (h2:ys[k]? = some y) (e:(x == y) = false):commonV xs ys = k:=by
  have:=common_stop h1 h2 (beq_eq_false_iff_ne.1 e)
  omega
theorem bne_of {x y:Int} {b:Bool} (h:(x == y) = b):(x != y) = !b:=by rw [bne,h]

set_option maxHeartbeats 400000 in
theorem common_any (w:World) (A B:Option Addr) (n c m d:Nat) (xs ys:List Int) (hA:Its w A n xs) (hB:Its w B m ys) (hn:n≤maxLen) (hm:m≤maxLen) :
    Calls Try.prog 185 #[.slice A n c,.slice B m d] w fun e w'=>e = .returned (.int .i64 (commonV xs ys:Int))∧∃ k,w' = w.drewN k:=by
  unfold maxLen at hn hm
  have l1:=Lib.hid hA.1
  have l2:=Lib.hid hB.1
  have hA':=Lib.hid hA
  have hB':=Lib.hid hB
  clear hA hB
  go_enter Try.func185,Try.ntmps185
  obtain ⟨s,hsm⟩:∃ s:Nat,s = min n m:=⟨_,rfl⟩
  have hsm':=Lib.hid hsm
  go_upto_region 2 with fail
  have hs:(if m < n then (m:Int) else (n:Int)) = (s:Int):=by
    by_cases h:m < n
    · rw [if_pos h];omega
    · rw [if_neg h];omega
  rw [hs]
  clear hs hsm
  go_wp2_with fail
  go_loopw [13] (fun i wr=>∃ k:Nat,k≤s∧i = .int .i64 (k:Int)∧commonV xs ys = k + commonV (xs.drop k) (ys.drop k)∧∃ nd,wr = w.drewN nd) (fun i _=>s - (intOf i).toNat)
  case atStart=>exact ⟨0,Nat.zero_le _,rfl,by simp,0,rfl⟩
  case round =>
    obtain ⟨k,hk,rfl,he,nd,rfl⟩:=hrel
    have he':=Lib.hid he
    clear he
    by_cases hlt:k < s
    · obtain ⟨ad,x,rfl,hx,hcx⟩:=hA'.out.at_ (show k < n by have:=hsm'.out;omega)
      obtain ⟨bd,y,rfl,hy,hcy⟩:=hB'.out.at_ (show k < m by have:=hsm'.out;omega)
      have j0:(0:Int)≤(k:Int):=by omega
      have j1:(k:Int) < (n:Int):=by have:=hsm'.out;omega
      have j2:(k:Int) < (m:Int):=by have:=hsm'.out;omega
      have hx':=Lib.hid hx
      have hy':=Lib.hid hy
      clear hx hy
      generalize hbb:(x == y) = bb at *
      cases bb with
      | true =>
        have hne:=bne_of hbb
        have hnx:=Lib.hid (common_take_k he'.out hx'.out hy'.out hbb)
        clear hbb
        go_wp2_with fail
        go_quiet (fail)
        go_wp2_with fail
        go_roundw
        case rel=>exact ⟨k + 1,by omega,by go_num,hnx.out,_,rfl⟩
        case measure=>simp [intOf];omega
      | false =>
        have hne:=bne_of hbb
        have hv:=Lib.hid (common_at_k he'.out hx'.out hy'.out hbb)
        clear hbb
        go_wp2_with fail
        go_quiet (fail)
        go_wp2_with fail
        go_ret
        exact ⟨by rw [hv.out];rfl,nd + nq,by rw [World.drewN_drewN]⟩
    · have hv:=Lib.hid (show commonV xs ys = s by
        have h1:=he'.out
        have h2:=hsm'.out
        have:=l1.out
        have:=l2.out
        obtain rfl:k = s:=by omega
        rw [common_end (by omega)] at h1
        omega)
      go_wp2_with fail
      go_ret
      exact ⟨by rw [hv.out];rfl,nd,rfl⟩

set_option maxHeartbeats 400000 in
theorem refCommon_any (w:World) (A B:Option Addr) (n c m d:Nat) (xs ys:List Int) (hA:Its w A n xs) (hB:Its w B m ys) (hn:n≤maxLen) (hm:m≤maxLen) :
    Calls Try.prog 158 #[.slice A n c,.slice B m d] w fun e w'=>e = .returned (.int .i64 (commonV xs ys:Int))∧∃ k,w' = w.drewN k:=by
  unfold maxLen at hn hm
  have l1:=Lib.hid hA.1
  have l2:=Lib.hid hB.1
  have hA':=Lib.hid hA
  have hB':=Lib.hid hB
  clear hA hB
  go_enter Try.func158,Try.ntmps158
  go_wp2_with fail
  go_loopw [5] (fun i wr=>∃ k:Nat,k≤n∧k≤m∧i = .int .i64 (k:Int)∧commonV xs ys = k + commonV (xs.drop k) (ys.drop k)∧∃ nd,wr = w.drewN nd) (fun i _=>n - (intOf i).toNat)
  case atStart=>exact ⟨0,Nat.zero_le _,Nat.zero_le _,rfl,by simp,0,rfl⟩
  case round =>
    obtain ⟨k,hk,hkm,rfl,he,nd,rfl⟩:=hrel
    have he':=Lib.hid he
    clear he
    by_cases hlt:k < n∧k < m
    · obtain ⟨ad,x,rfl,hx,hcx⟩:=hA'.out.at_ hlt.1
      obtain ⟨bd,y,rfl,hy,hcy⟩:=hB'.out.at_ hlt.2
      have j0:(0:Int)≤(k:Int):=by omega
      have j1:(k:Int) < (n:Int):=by omega
      have j2:(k:Int) < (m:Int):=by omega
      have hx':=Lib.hid hx
      have hy':=Lib.hid hy
      clear hx hy hlt
      generalize hbb:(x == y) = bb at *
      cases bb with
      | true =>
        have hnx:=Lib.hid (common_take_k he'.out hx'.out hy'.out hbb)
        go_wp2_with fail
        go_quiet (fail)
        go_wp2_with fail
        go_roundw
        case rel=>exact ⟨k + 1,by omega,by omega,by go_num,hnx.out,_,rfl⟩
        case measure=>simp [intOf];omega
      | false =>
        have hv:=Lib.hid (common_at_k he'.out hx'.out hy'.out hbb)
        go_wp2_with fail
        go_quiet (fail)
        go_wp2_with fail
        go_ret
        exact ⟨by rw [hv.out];rfl,nd + nq,by rw [World.drewN_drewN]⟩
    · have hv:=Lib.hid (show commonV xs ys = k by
        have h1:=he'.out
        have:=l1.out
        have:=l2.out
        rw [common_end (by omega)] at h1
        omega)
      by_cases hkn:(k:Int) < (n:Int)
      · have hkm2:((k:Int) < (m:Int)) = False:=eq_false (by omega)
        have hkm3:(k < m) = False:=eq_false (by omega)
        clear hlt
        go_wp2_with fail
        go_quiet (fail)
        go_wp2_with fail
        go_ret
        exact ⟨by rw [hv.out];rfl,nd + nq,by rw [World.drewN_drewN]⟩
      · have hkm2:((k:Int) < (n:Int)) = False:=eq_false (by omega)
        have hkm3:(k < n) = False:=eq_false (by omega)
        clear hlt
        go_wp2_with fail
        go_quiet (fail)
        go_wp2_with fail
        go_ret
        exact ⟨by rw [hv.out];rfl,nd + nq,by rw [World.drewN_drewN]⟩

def eqV (xs ys:List Int):Bool:=decide (xs = ys)
theorem eq_step {xs ys:List Int} {k:Nat} {x y:Int} (h:xs = ys ↔ xs.drop k = ys.drop k) (h1:xs[k]? = some x) (h2:ys[k]? = some y) (e:(x == y) = true):xs = ys ↔ xs.drop (k + 1) = ys.drop (k + 1):=by
  obtain rfl:x = y:=beq_iff_eq.1 e
  rw [h,drop_at h1,drop_at h2]
  simp
theorem eq_stop {xs ys:List Int} {k:Nat} {x y:Int} (h1:xs[k]? = some x) (h2:ys[k]? = some y) (e:(x == y) = false):eqV xs ys = false :=
  decide_eq_false fun h=>by
    subst h
    rw [h1] at h2
    injection h2 with h2
    exact beq_eq_false_iff_ne.1 e h2
theorem eq_end {xs ys:List Int} {k:Nat} (h:xs = ys ↔ xs.drop k = ys.drop k) (h1:xs.length≤k) (h2:ys.length≤k):eqV xs ys = true :=
  decide_eq_true (h.2 (by rw [List.drop_of_length_le h1,List.drop_of_length_le h2]))
theorem eq_len {xs ys:List Int} (h:xs.length ≠ ys.length):eqV xs ys = false:=decide_eq_false fun e=>h (by rw [e])

set_option maxHeartbeats 400000 in
theorem equal_any (w:World) (A B:Option Addr) (n c m d:Nat) (xs ys:List Int) (hA:Its w A n xs) (hB:Its w B m ys) (hn:n≤maxLen) :
    Calls Try.prog 153 #[.slice A n c,.slice B m d] w fun e w'=>e = .returned (.bool (eqV xs ys))∧∃ k,w' = w.drewN k:=by
  unfold maxLen at hn
  have l1:=Lib.hid hA.1
  have l2:=Lib.hid hB.1
  have hA':=Lib.hid hA
  have hB':=Lib.hid hB
  clear hA hB
  by_cases hnm:n = m
  · subst hnm
    have hne:((n:Int) != (n:Int)) = false:=by rw [bne_self_eq_false]
    go_enter Try.func153,Try.ntmps153
    go_wp2_with fail
    clear hne
    go_loopw [13] (fun i wr=>∃ k:Nat,k≤n∧i = .int .i64 (k:Int)∧(xs = ys ↔ xs.drop k = ys.drop k)∧∃ nd,wr = w.drewN nd) (fun i _=>n - (intOf i).toNat)
    case atStart=>exact ⟨0,Nat.zero_le _,rfl,by simp,0,rfl⟩
    case round =>
      obtain ⟨k,hk,rfl,he,nd,rfl⟩:=hrel
      have he':=Lib.hid he
      clear he
      by_cases hlt:k < n
      · obtain ⟨ad,x,rfl,hx,hcx⟩:=hA'.out.at_ hlt
        obtain ⟨bd,y,rfl,hy,hcy⟩:=hB'.out.at_ hlt
        have j0:(0:Int)≤(k:Int):=by omega
        have j1:(k:Int) < (n:Int):=by omega
        have hx':=Lib.hid hx
        have hy':=Lib.hid hy
        clear hx hy
        generalize hbb:(x == y) = bb at *
        cases bb with
        | true =>
          have hne:=bne_of hbb
          have hnx:=Lib.hid (eq_step he'.out hx'.out hy'.out hbb)
          clear hbb
          go_wp2_with fail
          go_quiet (fail)
          go_wp2_with fail
          go_roundw
          case rel=>exact ⟨k + 1,by omega,by go_num,hnx.out,_,rfl⟩
          case measure=>simp [intOf];omega
        | false =>
          have hne:=bne_of hbb
          have hv:=Lib.hid (eq_stop hx'.out hy'.out hbb)
          clear hbb
          go_wp2_with fail
          go_quiet (fail)
          go_wp2_with fail
          go_ret
          exact ⟨by rw [hv.out];rfl,nd + nq,by rw [World.drewN_drewN]⟩
      · have hv:=Lib.hid (eq_end he'.out (by have:=l1.out;omega) (by have:=l2.out;omega))
        go_wp2_with fail
        go_ret
        exact ⟨by rw [hv.out];rfl,nd,rfl⟩
  · have hne:((n:Int) != (m:Int)) = true:=by rw [bne_iff_ne];omega
    have hv:=Lib.hid (show eqV xs ys = false from eq_len (by rw [l1.out,l2.out];exact hnm))
    clear hnm
    go_enter Try.func153,Try.ntmps153
    go_wp2_with fail
    go_ret
    exact ⟨by rw [hv.out];rfl,0,rfl⟩

set_option maxHeartbeats 400000 in
theorem sameInts_any (w:World) (A B:Option Addr) (n c m d:Nat) (xs ys:List Int) (hA:Its w A n xs) (hB:Its w B m ys) (hn:n≤maxLen) :
    Calls Try.prog 115 #[.slice A n c,.slice B m d] w fun e w'=>e = .returned (.bool (eqV xs ys))∧∃ k,w' = w.drewN k:=by
  unfold maxLen at hn
  have l1:=Lib.hid hA.1
  have l2:=Lib.hid hB.1
  have hA':=Lib.hid hA
  have hB':=Lib.hid hB
  clear hA hB
  by_cases hnm:n = m
  · subst hnm
    have hne:((n:Int) != (n:Int)) = false:=by rw [bne_self_eq_false]
    go_enter Try.func115,Try.ntmps115
    go_wp2_with fail
    clear hne
    go_loopw [5] (fun i wr=>∃ k:Nat,k≤n∧i = .int .i64 (k:Int)∧(xs = ys ↔ xs.drop k = ys.drop k)∧∃ nd,wr = w.drewN nd) (fun i _=>n - (intOf i).toNat)
    case atStart=>exact ⟨0,Nat.zero_le _,rfl,by simp,0,rfl⟩
    case round =>
      obtain ⟨k,hk,rfl,he,nd,rfl⟩:=hrel
      have he':=Lib.hid he
      clear he
      by_cases hlt:k < n
      · obtain ⟨ad,x,rfl,hx,hcx⟩:=hA'.out.at_ hlt
        obtain ⟨bd,y,rfl,hy,hcy⟩:=hB'.out.at_ hlt
        have j0:(0:Int)≤(k:Int):=by omega
        have j1:(k:Int) < (n:Int):=by omega
        have hx':=Lib.hid hx
        have hy':=Lib.hid hy
        clear hx hy
        generalize hbb:(x == y) = bb at *
        cases bb with
        | true =>
          have hne:=bne_of hbb
          have hnx:=Lib.hid (eq_step he'.out hx'.out hy'.out hbb)
          clear hbb
          go_wp2_with fail
          go_quiet (fail)
          go_wp2_with fail
          go_roundw
          case rel=>exact ⟨k + 1,by omega,by go_num,hnx.out,_,rfl⟩
          case measure=>simp [intOf];omega
        | false =>
          have hne:=bne_of hbb
          have hv:=Lib.hid (eq_stop hx'.out hy'.out hbb)
          clear hbb
          go_wp2_with fail
          go_quiet (fail)
          go_wp2_with fail
          go_ret
          exact ⟨by rw [hv.out];rfl,nd + nq,by rw [World.drewN_drewN]⟩
      · have hv:=Lib.hid (eq_end he'.out (by have:=l1.out;omega) (by have:=l2.out;omega))
        go_wp2_with fail
        go_ret
        exact ⟨by rw [hv.out];rfl,nd,rfl⟩
  · have hne:((n:Int) != (m:Int)) = true:=by rw [bne_iff_ne];omega
    have hv:=Lib.hid (show eqV xs ys = false from eq_len (by rw [l1.out,l2.out];exact hnm))
    clear hnm
    go_enter Try.func115,Try.ntmps115
    go_wp2_with fail
    go_ret
    exact ⟨by rw [hv.out];rfl,0,rfl⟩

theorem same_any (w:World) (A B:Option Addr) (n c m d:Nat) (xs ys:List Int) (hA:Its w A n xs) (hB:Its w B m ys) (hn:n≤maxLen) :
    Calls Try.prog 102 #[.slice A n c,.slice B m d] w fun e w'=>e = .returned (.bool (eqV xs ys))∧∃ k,w' = w.drewN k:=by
  have hA':=Lib.hid hA
  have hB':=Lib.hid hB
  clear hA hB
  go_enter Try.func102,Try.ntmps102
  go_wp2_with (go_at_call 153;refine (equal_any w A B n c m d xs ys hA'.out hB'.out hn).mono ?_;rintro e w' ⟨rfl,k,rfl⟩)
  go_ret
  exact ⟨rfl,_,rfl⟩
def withinV (xs ys:List Int):Bool:=decide (commonV xs ys = xs.length)
theorem within_beq {xs ys:List Int} {n:Nat} (h:xs.length = n):((commonV xs ys:Int) == (n:Int)) = withinV xs ys:=by
  unfold withinV
  rw [h]
  by_cases e:commonV xs ys = n
  · rw [decide_eq_true e,e,beq_self_eq_true]
  · rw [decide_eq_false e,beq_eq_false_iff_ne]
    omega
theorem within_any (w:World) (A B:Option Addr) (n c m d:Nat) (xs ys:List Int) (hA:Its w A n xs) (hB:Its w B m ys) (hn:n≤maxLen) (hm:m≤maxLen) :
    Calls Try.prog 165 #[.slice A n c,.slice B m d] w fun e w'=>e = .returned (.bool (withinV xs ys))∧∃ k,w' = w.drewN k:=by
  have hA':=Lib.hid hA
  have hB':=Lib.hid hB
  have hw:=within_beq (ys:=ys) hA.1
  clear hA hB
  go_enter Try.func165,Try.ntmps165
  go_wp2_with (go_at_call 185;refine (common_any w A B n c m d xs ys hA'.out hB'.out hn hm).mono ?_;rintro e w' ⟨rfl,k,rfl⟩)
  go_ret
  exact ⟨rfl,_,rfl⟩
theorem eq_within {xs ys:List Int} (h:xs.length = ys.length):withinV xs ys = eqV xs ys:=by
  unfold withinV eqV
  rw [decide_eq_decide]
  exact common_full h
theorem refSame_any (w:World) (A B:Option Addr) (n c m d:Nat) (xs ys:List Int) (hA:Its w A n xs) (hB:Its w B m ys) (hn:n≤maxLen) (hm:m≤maxLen) :
    Calls Try.prog 108 #[.slice A n c,.slice B m d] w fun e w'=>e = .returned (.bool (eqV xs ys))∧∃ k,w' = w.drewN k:=by
  have hA':=Lib.hid hA
  have hB':=Lib.hid hB
  by_cases hnm:n = m
  · subst hnm
    have hw:=within_beq (ys:=ys) hA.1
    rw [eq_within (hA.1.trans hB.1.symm)] at hw
    have hne:((n:Int) == (n:Int)) = true:=by rw [beq_self_eq_true]
    clear hA hB
    go_enter Try.func108,Try.ntmps108
    go_wp2_with (go_at_call 158;refine (refCommon_any w A B n c n d xs ys hA'.out hB'.out hn hm).mono ?_;rintro e w' ⟨rfl,k,rfl⟩)
    go_ret
    exact ⟨rfl,_,rfl⟩
  · have hne:((n:Int) == (m:Int)) = false:=by rw [beq_eq_false_iff_ne];omega
    have hv:=Lib.hid (show eqV xs ys = false from eq_len (by rw [hA.1,hB.1];exact hnm))
    clear hA hB hnm
    go_enter Try.func108,Try.ntmps108
    go_wp2_with fail
    go_ret
    exact ⟨by rw [hv.out];rfl,0,rfl⟩
end Go.Proofs.Ytidimannfemnmaa.P4
namespace Go.Proofs.Ytidimannfemnmaa.P4
open Go.RowKit
set_option maxRecDepth 20000

def NewRow (w:World) (xs:List Int) (e:Ending) (w':World):Prop:=∃ v,e = .returned v∧OwnI w.heap.size w' v xs∧Below w.heap.size w w'
theorem grown_nil {w w':World} (hg:w.grownBy w' (Value.slice none 0 0).ownBlock):Below w.heap.size w w' :=
  Below.grown (Below.refl _ _) hg (Nat.le_refl _) (by intro k hk;cases hk)

theorem copied_any (w:World) (A:Option Addr) (n c:Nat) (xs:List Int) (hA:Its w A n xs) (hnil:A = none→c = 0) (hn:n≤500000) :
    Calls Try.prog 184 #[.slice A n c] w (NewRow w xs):=by
  have hA':=Lib.hid hA
  have hl:=Lib.hid hA.1
  have hn':=Lib.hid hnil
  clear hA hnil
  go_enter Try.func184,Try.ntmps184
  go_wp2_with (at_builtin;refine wpList_append_its rfl _ (.tmp 3) rfl w.heap.size (.slice none 0 0) [] xs rfl (OwnI.nil_ _ _) A n c rfl hA'.out hn'.out (by have:=hl.out;simp;omega) (Nat.le_refl _) ?_;intro v1 w1 ho1 hg1 hat1)
  go_ret
  exact ⟨_,rfl,ho1,grown_nil hg1⟩
def Parented (w:World) (xs:List Int) (e:Ending) (w':World):Prop :=
  (xs = []∧e = .returned (.tuple #[.slice none 0 0,.int .i64 0,.bool false])∧w' = w) ∨
  (∃ (v:Value) (ys:List Int) (z:Int),xs = ys ++ [z]∧e = .returned (.tuple #[v,.int .i64 z,.bool true])∧OwnI w.heap.size w' v ys∧Below w.heap.size w w')
theorem parent_any (w:World) (A:Option Addr) (n c:Nat) (xs:List Int) (hA:Its w A n xs) (hnil:A = none→c = 0) (hn:n≤500000) (hnc:n≤c) (hcm:c≤maxLen) :
    Calls Try.prog 164 #[.slice A n c] w (Parented w xs):=by
  have hA':=Lib.hid hA
  have hl:=Lib.hid hA.1
  have hn':=Lib.hid hnil
  rcases Nat.eq_zero_or_pos n with h0 | h0
  · subst h0
    obtain rfl:=List.eq_nil_of_length_eq_zero hA.1
    clear hA hnil
    go_enter Try.func164,Try.ntmps164
    go_wp2_with fail
    go_ret3
    exact .inl ⟨rfl,rfl,rfl⟩
  · obtain ⟨m,rfl⟩:∃ m,n = m + 1:=⟨n - 1,by omega⟩
    obtain ⟨ad,z,rfl,hz,hcz⟩:=hA.at_ (show m < m + 1 by omega)
    have hlt:(ad.add m).block < w.heap.size:=World.block_lt_of_cell? w _ hcz
    have hup:=Lib.hid (hA.upto (q:=m) (by omega))
    have hx:=Lib.hid (show xs = xs.take m ++ [z] by
      have h1:=hA.1
      have h2:xs.take (m + 1) = xs:=List.take_of_length_le (by omega)
      rw [List.take_add_one,hz] at h2
      exact h2.symm)
    have e1:(((m + 1:Nat):Int) == 0) = false:=by rw [beq_eq_false_iff_ne];omega
    have e2:((m + 1:Nat):Int) - 1 = (m:Int):=by omega
    have e3:(0:Int)≤(m:Int):=by omega
    have e4:(m:Int)≤(c:Int):=by omega
    have e5:(m:Int) < ((m + 1:Nat):Int):=by omega
    have e6:(m:Int) < (m:Int) + 1:=by omega
    have hm5:m≤500000:=by omega
    clear hA hnil hz
    go_enter Try.func164,Try.ntmps164
    go_wp2_with fail
    go_region_law (first
      | (go_simp;go_at_call 184;refine (copied_any w.drew _ m c (xs.take m) (hup.out.drewN 1) (fun e=>by cases e) hm5).mono ?_;rintro e w2 ⟨v2,rfl,ho2,hb2'⟩;have hb2:Below w.heap.size w w2:=⟨hb2'.os,hb2'.tape,hb2'.output,hb2'.size,hb2'.block⟩;clear hb2';have hc2:=(hb2.cell (p:=ad.add m) hlt).trans hcz))
    all_goals
      go_wp2_with fail
      go_ret3
      exact .inr ⟨v2,_,z,hx.out,rfl,ho2,hb2⟩
end Go.Proofs.Ytidimannfemnmaa.P4
namespace Go.Proofs.Ytidimannfemnmaa.P4
open Go.RowKit
set_option maxRecDepth 20000

theorem OwnI.block {base:Nat} {w:World} {v:Value} {xs:List Int} (h:OwnI base w v xs) (h0:0 < xs.length) :
    ∃ g c,v = .slice (some ⟨g,0,none⟩) xs.length c∧base≤g∧g < w.heap.size∧xs.length≤c∧c≤maxLen∧(∀ k x,xs[k]? = some x→w.cell? ⟨g,k,none⟩ = some (.int .i64 x))∧∀ k,w.frozen? ⟨g,k,none⟩ = false:=by
  rcases h.2 with ⟨_,e⟩ | ⟨g,cap,cur,rfl,hb,hg,hnc,hcm,_⟩
  · omega
  · have hlt:g < w.heap.size:=(Array.getElem?_eq_some_iff.1 hg).1
    refine ⟨g,cap,rfl,hb,hlt,hnc,hcm,fun k x hk=>?_,fun k=>World.ownsRow.frozenAt h k⟩
    have:=h.cells (g:=g) rfl k (.int .i64 x) (by rw [List.getElem?_map,hk];rfl)
    have hadd:(⟨g,0,none⟩:Addr).add k = ⟨g,k,none⟩:=by unfold Addr.add;split <;> simp_all
    rwa [hadd] at this

end Go.Proofs.Ytidimannfemnmaa.P4
