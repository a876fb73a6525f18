/- Rows of pieces, held against each other: the document's, and slices.Equal. -/
import Derived.Test.YtidimannfemnmaaLtxB
set_option linter.all false
namespace Go.Proofs.Ytidimannfemnmaa.P5
open Go.RowKit
set_option maxRecDepth 20000

set_option maxHeartbeats 2000000 in
theorem rsamep_any (w:World) (A A2:Option Addr) (n c n2 c2:Nat) (xs ys:List IP) (hx:PcsIn w A n xs) (hy:PcsIn w A2 n2 ys) (hn:n≤maxLen) (hn2:n2≤maxLen) :
    Calls Try.prog 111 #[.slice A n c,.slice A2 n2 c2] w fun e w'=>e = .returned (.bool (sameP xs ys))∧Below w.heap.size w w':=by
  have hx':=Lib.hid hx
  have hy':=Lib.hid hy
  have hlx:=Lib.hid hx.1
  have hly:=Lib.hid hy.1
  clear hx hy
  have hn':(n:Int)≤9223372036854775807:=by unfold maxLen at hn;omega
  have hn2':(n2:Int)≤9223372036854775807:=by unfold maxLen at hn2;omega
  have hneq:=run_neq_piece
  by_cases hl:n = n2
  · subst hl
    go_enter Try.func111,Try.ntmps111
    go_wp2_with fail
    go_loopw [5] (fun k wr=>∃ q:Nat,q≤n∧k = .int .i64 (q:Int)∧xs.take q = ys.take q∧Below w.heap.size w wr) (fun k _=>n - (intOf k).toNat)
    case atStart=>exact ⟨0,Nat.zero_le _,rfl,rfl,Below.refl _ _⟩
    case round =>
      obtain ⟨q,hq,rfl,hs,hbel⟩:=hrel
      by_cases h1:q < n
      · have h1I:(q:Int) < (n:Int):=by omega
        obtain ⟨ad,x,rfl,hxq,hlt,hp⟩:=(hx'.out.below hbel).at_ h1
        obtain ⟨x1,x2,x3,x4,x5,x6,x7,x8⟩:=hp
        obtain ⟨ad2,y,rfl,hyq,hlt2,hp2⟩:=(hy'.out.below hbel).at_ h1
        obtain ⟨y1,y2,y3,y4,y5,y6,y7,y8⟩:=hp2
        obtain ⟨kp,dr,pu⟩:=x
        obtain ⟨kp2,dr2,pu2⟩:=y
        simp only at *
        have hbel':=Lib.hid hbel
        have hs':=Lib.hid hs
        clear hbel hs
        cases he:ipE ⟨kp,dr,pu⟩ ⟨kp2,dr2,pu2⟩ with
        | true =>
          have e:=ipE_iff.1 he
          have hs2:=Lib.hid (show xs.take (q + 1) = ys.take (q + 1) by rw [List.take_add_one,List.take_add_one,hs'.out,hxq,hyq,e])
          clear hxq hyq e
          go_wp2_with fail
          go_quiet (fail)
          go_wp2_with fail
          go_roundw
          case rel=>exact ⟨q + 1,by omega,by go_num,hs2.out,draws hbel'.out _⟩
          case measure=>simp [intOf];omega
        | false =>
          have hv:=Lib.hid (sameP_not (xs:=xs) (ys:=ys) (fun e=>by rw [e,hyq] at hxq;injection hxq with hxq;rw [hxq] at he;rw [ipE_iff.2 rfl] at he;cases he))
          clear hxq hyq
          go_wp2_with fail
          go_quiet (fail)
          go_wp2_with fail
          go_ret
          exact ⟨by rw [hv.out];rfl,draws hbel'.out _⟩
      · have hqn:q = n:=by omega
        have h1I:¬ (q:Int) < (n:Int):=by omega
        have hv:=Lib.hid (sameP_iff.2 (show xs = ys by rw [hqn] at hs;rw [← List.take_length (l:=xs),← List.take_length (l:=ys),hlx.out,hly.out];exact hs))
        have hbel':=Lib.hid hbel
        clear hs hbel hqn h1
        go_wp2_with fail
        go_ret
        exact ⟨by rw [hv.out];rfl,hbel'.out⟩
  · have hv:=Lib.hid (sameP_not (xs:=xs) (ys:=ys) (fun e=>hl (by rw [← hlx.out,← hly.out,e])))
    have hlI:((n:Int) == (n2:Int)) = false:=by simp;omega
    have hlJ:((n:Int) != (n2:Int)) = true:=by simp;omega
    clear hl
    go_enter Try.func111,Try.ntmps111
    go_wp2_with fail
    go_ret
    exact ⟨by rw [hv.out];rfl,Below.refl _ _⟩
set_option maxHeartbeats 2000000 in
theorem slEqP_any (w:World) (A A2:Option Addr) (n c n2 c2:Nat) (xs ys:List IP) (hx:PcsIn w A n xs) (hy:PcsIn w A2 n2 ys) (hn:n≤maxLen) (hn2:n2≤maxLen) :
    Calls Try.prog 169 #[.slice A n c,.slice A2 n2 c2] w fun e w'=>e = .returned (.bool (sameP xs ys))∧Below w.heap.size w w':=by
  have hx':=Lib.hid hx
  have hy':=Lib.hid hy
  have hlx:=Lib.hid hx.1
  have hly:=Lib.hid hy.1
  clear hx hy
  have hn':(n:Int)≤9223372036854775807:=by unfold maxLen at hn;omega
  have hn2':(n2:Int)≤9223372036854775807:=by unfold maxLen at hn2;omega
  have hneq:=run_neq_piece
  by_cases hl:n = n2
  · subst hl
    go_enter Try.func169,Try.ntmps169
    go_wp2_with fail
    go_loopw [13] (fun k wr=>∃ q:Nat,q≤n∧k = .int .i64 (q:Int)∧xs.take q = ys.take q∧Below w.heap.size w wr) (fun k _=>n - (intOf k).toNat)
    case atStart=>exact ⟨0,Nat.zero_le _,rfl,rfl,Below.refl _ _⟩
    case round =>
      obtain ⟨q,hq,rfl,hs,hbel⟩:=hrel
      by_cases h1:q < n
      · have h1I:(q:Int) < (n:Int):=by omega
        obtain ⟨ad,x,rfl,hxq,hlt,hp⟩:=(hx'.out.below hbel).at_ h1
        obtain ⟨x1,x2,x3,x4,x5,x6,x7,x8⟩:=hp
        obtain ⟨ad2,y,rfl,hyq,hlt2,hp2⟩:=(hy'.out.below hbel).at_ h1
        obtain ⟨y1,y2,y3,y4,y5,y6,y7,y8⟩:=hp2
        obtain ⟨kp,dr,pu⟩:=x
        obtain ⟨kp2,dr2,pu2⟩:=y
        simp only at *
        have hbel':=Lib.hid hbel
        have hs':=Lib.hid hs
        clear hbel hs
        cases he:ipE ⟨kp,dr,pu⟩ ⟨kp2,dr2,pu2⟩ with
        | true =>
          have e:=ipE_iff.1 he
          have hs2:=Lib.hid (show xs.take (q + 1) = ys.take (q + 1) by rw [List.take_add_one,List.take_add_one,hs'.out,hxq,hyq,e])
          clear hxq hyq e
          go_wp2_with fail
          go_quiet (fail)
          go_wp2_with fail
          go_roundw
          case rel=>exact ⟨q + 1,by omega,by go_num,hs2.out,draws hbel'.out _⟩
          case measure=>simp [intOf];omega
        | false =>
          have hv:=Lib.hid (sameP_not (xs:=xs) (ys:=ys) (fun e=>by rw [e,hyq] at hxq;injection hxq with hxq;rw [hxq] at he;rw [ipE_iff.2 rfl] at he;cases he))
          clear hxq hyq
          go_wp2_with fail
          go_quiet (fail)
          go_wp2_with fail
          go_ret
          exact ⟨by rw [hv.out];rfl,draws hbel'.out _⟩
      · have hqn:q = n:=by omega
        have h1I:¬ (q:Int) < (n:Int):=by omega
        have hv:=Lib.hid (sameP_iff.2 (show xs = ys by rw [hqn] at hs;rw [← List.take_length (l:=xs),← List.take_length (l:=ys),hlx.out,hly.out];exact hs))
        have hbel':=Lib.hid hbel
        clear hs hbel hqn h1
        go_wp2_with fail
        go_ret
        exact ⟨by rw [hv.out];rfl,hbel'.out⟩
  · have hv:=Lib.hid (sameP_not (xs:=xs) (ys:=ys) (fun e=>hl (by rw [← hlx.out,← hly.out,e])))
    have hlI:((n:Int) == (n2:Int)) = false:=by simp;omega
    have hlJ:((n:Int) != (n2:Int)) = true:=by simp;omega
    clear hl
    go_enter Try.func169,Try.ntmps169
    go_wp2_with fail
    go_ret
    exact ⟨by rw [hv.out];rfl,Below.refl _ _⟩
end Go.Proofs.Ytidimannfemnmaa.P5

