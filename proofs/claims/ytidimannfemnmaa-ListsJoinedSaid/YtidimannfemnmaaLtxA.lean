/- Is an edit right, is it small, are two the same: the program's, the document's, the law's. -/
import Derived.Test.YtidimannfemnmaaMgAC
set_option linter.all false
namespace Go.Proofs.Ytidimannfemnmaa.P5
open Go.RowKit
set_option maxRecDepth 20000

def mayB (z:Int):Bool:=decide (0≤z∧z≤1048576)
def okB (x:IP):Bool:=mayB x.keep && mayB x.drop
def putsI:List IP→Nat
  | []=>0
  | x :: r=>x.put.length + putsI r
def rightV (xs:List IP):Bool:=decide (xs.length≤4096) && xs.all okB && decide (putsI xs≤1048576)
theorem putsI_take:∀ (xs:List IP) (q:Nat) (x:IP),xs[q]? = some x→putsI (xs.take (q + 1)) = putsI (xs.take q) + x.put.length
  | [],q,x,h=>by simp at h
  | y :: r,0,x,h=>by
    simp at h
    subst h
    simp [putsI]
  | y :: r,q + 1,x,h=>by
    have ih:=putsI_take r q x (by simpa using h)
    rw [List.take_succ_cons,List.take_succ_cons,putsI,putsI,ih]
    omega
theorem putsI_le:∀ (xs:List IP) (q:Nat),putsI (xs.take q)≤putsI xs
  | [],q=>by simp
  | y :: r,0=>by simp [putsI]
  | y :: r,q + 1=>by
    have ih:=putsI_le r q
    rw [List.take_succ_cons,putsI,putsI]
    omega
theorem all_take_succ {f:IP→Bool} {xs:List IP} {q:Nat} {x:IP} (h:xs[q]? = some x) (h1:(xs.take q).all f = true) (h2:f x = true):(xs.take (q + 1)).all f = true:=by
  rw [List.take_add_one,List.all_append,h1,h]
  simp [h2]
theorem not_right_of {xs:List IP} {x:IP} (h:x ∈ xs) (hx:okB x = false):rightV xs = false:=by
  unfold rightV
  have:xs.all okB = false:=by
    rw [List.all_eq_false]
    exact ⟨x,h,by simp [hx]⟩
  rw [this]
  simp
theorem not_right_puts {xs:List IP} (h:1048576 < putsI xs):rightV xs = false:=by
  unfold rightV
  have:decide (putsI xs≤1048576) = false:=decide_eq_false (by omega)
  rw [this,Bool.and_false]
theorem not_right_len {xs:List IP} (h:4096 < xs.length):rightV xs = false:=by
  unfold rightV
  have:decide (xs.length≤4096) = false:=decide_eq_false (by omega)
  rw [this]
  simp
theorem right_of {xs:List IP} (h1:xs.length≤4096) (h2:xs.all okB = true) (h3:putsI xs≤1048576):rightV xs = true:=by
  unfold rightV
  rw [decide_eq_true h1,h2,decide_eq_true h3]
  rfl

theorem may_yes (z:Int) (w:World) (h:mayB z = true):Calls Try.prog 137 #[.int .i64 z] w fun e w'=>e = .returned (.bool true)∧w = w':=by
  have hz:0≤z∧z≤1048576:=by simpa [mayB] using h
  obtain ⟨h1,h2⟩:=hz
  clear h
  go_enter Try.func137,Try.ntmps137
  go_wp2
  go_ret
  exact ⟨rfl,rfl⟩
theorem may_no (z:Int) (w:World) (h:mayB z = false):Calls Try.prog 137 #[.int .i64 z] w fun e w'=>e = .returned (.bool false)∧w = w':=by
  have hz:¬ (0≤z∧z≤1048576):=by simpa [mayB] using h
  clear h
  by_cases h1:0≤z
  · have h2:1048576 < z:=by omega
    have h2':¬ z≤1048576:=by omega
    clear hz
    go_enter Try.func137,Try.ntmps137
    go_wp2
    go_ret
    exact ⟨rfl,rfl⟩
  · clear hz
    go_enter Try.func137,Try.ntmps137
    go_wp2
    go_ret
    exact ⟨rfl,rfl⟩
set_option maxHeartbeats 2000000 in
theorem right_any (w:World) (A:Option Addr) (n c:Nat) (xs:List IP) (hx:PcsIn w A n xs) (hn:n≤maxLen) :
    Calls Try.prog 67 #[.slice A n c] w fun e w'=>e = .returned (.bool (rightV xs))∧Below w.heap.size w w':=by
  have hx':=Lib.hid hx
  have hlen:=hx.1
  clear hx
  have hn':(n:Int)≤9223372036854775807:=by unfold maxLen at hn;omega
  by_cases h60:4096 < n
  · have hv:=Lib.hid (not_right_len (xs:=xs) (by omega))
    have hI:(4096:Int) < (n:Int):=by omega
    clear h60 hlen
    go_enter Try.func67,Try.ntmps67
    go_wp2_with fail
    go_ret
    exact ⟨by rw [hv.out];rfl,Below.refl _ _⟩
  · have hI:¬ (4096:Int) < (n:Int):=by omega
    go_enter Try.func67,Try.ntmps67
    go_wp2_with fail
    go_loopw [3,11] (fun s k wr=>∃ q:Nat,q≤n∧k = .int .i64 (q:Int)∧s = .int .i64 (1048576 - (putsI (xs.take q):Int))∧putsI (xs.take q)≤1048576∧(xs.take q).all okB = true∧Below w.heap.size w wr) (fun s k _=>n - (intOf k).toNat)
    case atStart=>exact ⟨0,Nat.zero_le _,rfl,by simp [putsI],by simp [putsI],rfl,Below.refl _ _⟩
    case round =>
      obtain ⟨q,hq,rfl,rfl,hs,hall,hbel⟩:=hrel
      by_cases h1:q < n
      · have h1I:(q:Int) < (n:Int):=by omega
        obtain ⟨ad,x,rfl,hxq,hlt,hp⟩:=(hx'.out.below hbel).at_ h1
        obtain ⟨x1,x2,x3,x4,x5,x6,x7,x8⟩:=hp
        have hst:=putsI_take xs q x hxq
        have hle:=putsI_le xs (q + 1)
        obtain ⟨kp,dr,pu⟩:=x
        simp only at *
        unfold maxLen at x5
        generalize hS:putsI (xs.take q) = s at *
        have hmem:(⟨kp,dr,pu⟩:IP) ∈ xs:=List.mem_of_getElem? hxq
        by_cases hok:mayB kp = true∧mayB dr = true
        · obtain ⟨hk,hd⟩:=hok
          have hokx:okB ⟨kp,dr,pu⟩ = true:=by unfold okB;rw [hk,hd];rfl
          have hall':=Lib.hid (all_take_succ hxq hall hokx)
          have hbel':=Lib.hid hbel
          by_cases hroom:s + pu.length≤1048576
          · have hI:¬ (1048576:Int) - (s:Int) - (pu.length:Int) < 0:=by omega
            have hst':=Lib.hid hst
            clear hS hst hle hall hokx hbel hxq hmem hlen
            go_wp2_with (go_at_call 137;first | (refine (may_yes _ _ hk).mono ?_;rintro e w' ⟨rfl,rfl⟩) | (refine (may_yes _ _ hd).mono ?_;rintro e w' ⟨rfl,rfl⟩))
            go_roundw
            case rel=>exact ⟨q + 1,by omega,by go_num,by rw [hst'.out];go_num,by rw [hst'.out];exact hroom,hall'.out,hbel'.out.alloc hbel'.out.size _⟩
            case measure=>simp [intOf];omega
          · have hI:(1048576:Int) - (s:Int) - (pu.length:Int) < 0:=by omega
            have hv:=Lib.hid (not_right_puts (xs:=xs) (by omega))
            clear hS hst hle hall hokx hbel hxq hmem hlen hall'
            go_wp2_with (go_at_call 137;first | (refine (may_yes _ _ hk).mono ?_;rintro e w' ⟨rfl,rfl⟩) | (refine (may_yes _ _ hd).mono ?_;rintro e w' ⟨rfl,rfl⟩))
            go_ret
            exact ⟨by rw [hv.out];rfl,hbel'.out.alloc hbel'.out.size _⟩
        · have hokx:okB ⟨kp,dr,pu⟩ = false:=by
            unfold okB
            cases hk:mayB kp <;> cases hd:mayB dr <;> simp_all
          have hv:=Lib.hid (not_right_of hmem hokx)
          have hbel':=Lib.hid hbel
          clear hS hst hle hall hokx hbel hxq hmem hlen
          cases hk:mayB kp with
          | false =>
            clear hok
            go_wp2_with (go_at_call 137;refine (may_no _ _ hk).mono ?_;rintro e w' ⟨rfl,rfl⟩)
            go_ret
            exact ⟨by rw [hv.out];rfl,hbel'.out.alloc hbel'.out.size _⟩
          | true =>
            have hd:mayB dr = false:=by
              cases hd:mayB dr with
              | false=>rfl
              | true=>exact absurd ⟨hk,hd⟩ hok
            clear hok
            go_wp2_with (go_at_call 137;first | (refine (may_yes _ _ hk).mono ?_;rintro e w' ⟨rfl,rfl⟩) | (refine (may_no _ _ hd).mono ?_;rintro e w' ⟨rfl,rfl⟩))
            go_ret
            exact ⟨by rw [hv.out];rfl,hbel'.out.alloc hbel'.out.size _⟩
      · have hqn:q = n:=by omega
        have h1I:¬ (q:Int) < (n:Int):=by omega
        have hv:=Lib.hid (right_of (xs:=xs) (by omega) (by rw [hqn,← hlen,List.take_length] at hall;exact hall) (by rw [hqn,← hlen,List.take_length] at hs;exact hs))
        have hbel':=Lib.hid hbel
        clear hlen hs hall hbel hqn h1
        go_wp2_with fail
        go_ret
        exact ⟨by rw [hv.out];rfl,hbel'.out⟩
end Go.Proofs.Ytidimannfemnmaa.P5

