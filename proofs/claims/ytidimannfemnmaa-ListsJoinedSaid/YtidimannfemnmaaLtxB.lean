/- The law's: are two edits the same, is one small. -/
import Derived.Test.YtidimannfemnmaaLtxA
import Derived.Laws.StructEq
set_option linter.all false
namespace Go.Proofs.Ytidimannfemnmaa.P5
open Go.RowKit
set_option maxRecDepth 20000

def ipE (x y:IP):Bool:=decide (x.keep = y.keep∧x.drop = y.drop∧x.put = y.put)
theorem ipE_iff {x y:IP}:ipE x y = true ↔ x = y:=by
  obtain ⟨a,b,c⟩:=x
  obtain ⟨a',b',c'⟩:=y
  simp [ipE]
def sameP (xs ys:List IP):Bool:=xs.length == ys.length && (xs.zip ys).all fun p=>ipE p.1 p.2
theorem sameP_iff:∀ {xs ys:List IP},sameP xs ys = true ↔ xs = ys
  | [],[]=>by simp [sameP]
  | [],y :: ys=>by simp [sameP]
  | x :: xs,[]=>by simp [sameP]
  | x :: xs,y :: ys=>by
    have ih:=@sameP_iff xs ys
    have e:sameP (x :: xs) (y :: ys) = (ipE x y && sameP xs ys):=by
      simp only [sameP,List.length_cons,List.zip_cons_cons,List.all_cons]
      rw [show (xs.length + 1 == ys.length + 1) = (xs.length == ys.length) by simp]
      cases xs.length == ys.length <;> cases ipE x y <;> simp
    rw [e,Bool.and_eq_true,ih,ipE_iff]
    simp
theorem sameP_not {xs ys:List IP} (h:xs ≠ ys):sameP xs ys = false:=by
  cases hs:sameP xs ys with
  | false=>rfl
  | true=>exact absurd (sameP_iff.1 hs) h
theorem part_int (w:World) (cs:Array Value) (o:Nat) (v:Value) (h:cs[o]? = some v):(part 3 cs o).run Try.prog w = .ok v w:=by
  simp [part,isAgg,run_underlying Try.underlying3,h]
theorem part_str (w:World) (cs:Array Value) (o:Nat) (v:Value) (h:cs[o]? = some v):(part 9 cs o).run Try.prog w = .ok v w:=by
  simp [part,isAgg,run_underlying Try.underlying9,h]
theorem run_neq_piece (w:World) (a b:Int) (s:List UInt8) (a' b':Int) (s':List UInt8) :
    (binOp .neq 60 (.agg #[.int .i64 a,.int .i64 b,.string ⟨s.toArray⟩]) (.agg #[.int .i64 a',.int .i64 b',.string ⟨s'.toArray⟩])).run Try.prog w = .ok (.bool (!(ipE ⟨a,b,s⟩ ⟨a',b',s'⟩))) w:=by
  rw [run_neq_struct,run_equalIn_agg w 9999 60 _ _ (by kernel_rfl) (by kernel_rfl)]
  simp only [Program.fieldsOf,Try.underlying60,Op.eqFields]
  have e0:"Keep" ≠ "_":=by decide
  have e1:"Drop" ≠ "_":=by decide
  have e2:"Put" ≠ "_":=by decide
  rw [if_pos e0]
  simp only [Sem.run_bind]
  rw [part_int w #[Value.int IntKind.i64 a,Value.int IntKind.i64 b,Value.string { data:=s.toArray }] 0 (.int .i64 a) rfl]
  simp only [Result.andThen_ok]
  rw [part_int w #[Value.int IntKind.i64 a',Value.int IntKind.i64 b',Value.string { data:=s'.toArray }] 0 (.int .i64 a') rfl]
  simp only [Result.andThen_ok]
  rw [show (Op.equalIn 9999 3 (.int .i64 a) (.int .i64 a')).run Try.prog w = _ from run_equalIn_int w 9998 3 .i64 .i64 a a' Try.underlying3]
  simp only [Result.andThen_ok]
  by_cases ha:a = a'
  · subst ha
    simp only [BEq.rfl,Bool.not_true,Bool.false_eq_true,if_false]
    rw [if_pos e1]
    simp only [Sem.run_bind]
    rw [part_int w #[Value.int IntKind.i64 a,Value.int IntKind.i64 b,Value.string { data:=s.toArray }] 1 (.int .i64 b) rfl]
    simp only [Result.andThen_ok]
    rw [part_int w #[Value.int IntKind.i64 a,Value.int IntKind.i64 b',Value.string { data:=s'.toArray }] 1 (.int .i64 b') rfl]
    simp only [Result.andThen_ok]
    rw [show (Op.equalIn 9999 3 (.int .i64 b) (.int .i64 b')).run Try.prog w = _ from run_equalIn_int w 9998 3 .i64 .i64 b b' Try.underlying3]
    simp only [Result.andThen_ok]
    by_cases hb:b = b'
    · subst hb
      simp only [BEq.rfl,Bool.not_true,Bool.false_eq_true,if_false]
      rw [if_pos e2]
      simp only [Sem.run_bind]
      rw [part_str w #[Value.int IntKind.i64 a,Value.int IntKind.i64 b,Value.string { data:=s.toArray }] 2 (.string ⟨s.toArray⟩) rfl]
      simp only [Result.andThen_ok]
      rw [part_str w #[Value.int IntKind.i64 a,Value.int IntKind.i64 b,Value.string { data:=s'.toArray }] 2 (.string ⟨s'.toArray⟩) rfl]
      simp only [Result.andThen_ok]
      rw [show (Op.equalIn 9999 9 (.string ⟨s.toArray⟩) (.string ⟨s'.toArray⟩)).run Try.prog w = _ from run_equalIn_string w 9998 9 _ _ Try.underlying9]
      simp only [Result.andThen_ok,ByteArray.toList_eq]
      by_cases hc:s = s'
      · subst hc;simp [ipE]
      · simp [ipE,hc]
    · simp [ipE,hb]
  · simp [ipE,ha]
def costI (x:IP):Nat:=(max 0 x.keep).toNat + (max 0 x.drop).toNat + x.put.length
def costs:List IP→Nat
  | []=>0
  | x :: r=>costI x + costs r
def smallV (xs:List IP) (top:Nat):Bool:=decide (xs.length≤top) && decide (costs xs≤top)
theorem costs_take:∀ (xs:List IP) (q:Nat) (x:IP),xs[q]? = some x→costs (xs.take (q + 1)) = costs (xs.take q) + costI x
  | [],q,x,h=>by simp at h
  | y :: r,0,x,h=>by
    simp at h
    subst h
    simp [costs]
  | y :: r,q + 1,x,h=>by
    have ih:=costs_take r q x (by simpa using h)
    rw [List.take_succ_cons,List.take_succ_cons,costs,costs,ih]
    omega
theorem costs_le:∀ (xs:List IP) (q:Nat),costs (xs.take q)≤costs xs
  | [],q=>by simp
  | y :: r,0=>by simp [costs]
  | y :: r,q + 1=>by
    have ih:=costs_le r q
    rw [List.take_succ_cons,costs,costs]
    omega
theorem cost_cases (kp dr:Int) (pu:List UInt8):∃ k d:Nat,costI ⟨kp,dr,pu⟩ = k + d + pu.length∧((kp < 0∧k = 0)∨(¬ kp < 0∧kp = (k:Int)))∧((dr < 0∧d = 0)∨(¬ dr < 0∧dr = (d:Int))):=by
  refine ⟨(max 0 kp).toNat,(max 0 dr).toNat,rfl,?_,?_⟩ <;> omega
set_option maxHeartbeats 4000000 in
theorem small_any (w:World) (A:Option Addr) (n c:Nat) (xs:List IP) (hx:PcsIn w A n xs) (hn:n≤maxLen) (top:Nat) (ht:top≤100000) :
    Calls Try.prog 13 #[.slice A n c,.int .i64 (top:Int)] w fun e w'=>e = .returned (.bool (smallV xs top))∧Below w.heap.size w w':=by
  have hx':=Lib.hid hx
  have hlen:=Lib.hid hx.1
  clear hx
  have hn':(n:Int)≤9223372036854775807:=by unfold maxLen at hn;omega
  by_cases h60:top < n
  · have hv:=Lib.hid (show smallV xs top = false by unfold smallV;rw [decide_eq_false (by have:=hlen.out;omega),Bool.false_and])
    have hI:(top:Int) < (n:Int):=by omega
    go_enter Try.func13,Try.ntmps13
    go_wp2_with fail
    go_ret
    exact ⟨by rw [hv.out];rfl,Below.refl _ _⟩
  · have hI:¬ (top:Int) < (n:Int):=by omega
    go_enter Try.func13,Try.ntmps13
    go_wp2_with fail
    go_loopw [5,6] (fun s k wr=>∃ q:Nat,q≤n∧k = .int .i64 (q:Int)∧s = .int .i64 (costs (xs.take q):Int)∧costs (xs.take q)≤top∧Below w.heap.size w wr) (fun _ k _=>n - (intOf k).toNat)
    case atStart=>exact ⟨0,Nat.zero_le _,rfl,by simp [costs],by simp [costs],Below.refl _ _⟩
    case round =>
      obtain ⟨q,hq,rfl,rfl,hs,hbel⟩:=hrel
      by_cases h1:q < n
      · have h1I:(q:Int) < (n:Int):=by omega
        obtain ⟨ad,x,rfl,hxq,hlt,hp⟩:=(hx'.out.below hbel).at_ h1
        obtain ⟨x1,x2,x3,x4,x5,x6,x7,x8⟩:=hp
        have hst:=costs_take xs q x hxq
        have hle:=costs_le xs (q + 1)
        obtain ⟨kp,dr,pu⟩:=x
        simp only at *
        unfold maxLen at x5
        generalize hS:costs (xs.take q) = s at *
        obtain ⟨k,d,hc,hk,hd⟩:=cost_cases kp dr pu
        have hbel':=Lib.hid hbel
        clear hbel hxq hS
        by_cases hfit:s + k + d + pu.length≤top
        · have hst':=Lib.hid (show costs (xs.take (q + 1)) = s + k + d + pu.length by omega)
          have hI1:¬ (top:Int) - (s:Int) < (k:Int):=by omega
          have hI2:¬ (top:Int) - (s:Int) - (k:Int) < (d:Int):=by omega
          have hI3:¬ (top:Int) - (s:Int) - (k:Int) - (d:Int) < (pu.length:Int):=by omega
          have z0:(0:Int)≤(k:Int):=by omega
          clear hst hle hc
          rcases hk with ⟨hk0,rfl⟩ | ⟨hk0,rfl⟩ <;> rcases hd with ⟨hd0,rfl⟩ | ⟨hd0,rfl⟩
          all_goals
            go_wp2_with fail
            go_quiet (fail)
            go_wp2_with fail
            go_roundw
            case rel=>exact ⟨q + 1,by omega,by go_num,by rw [hst'.out];go_num,by rw [hst'.out];omega,draws hbel'.out _⟩
            case measure=>simp [intOf];omega
        · have hv:=Lib.hid (show smallV xs top = false by unfold smallV;rw [decide_eq_false (show ¬ costs xs≤top by omega),Bool.and_false])
          clear hst hle hc
          have hcs:(top:Int) - (s:Int) < (k:Int)∨(¬ (top:Int) - (s:Int) < (k:Int)∧(top:Int) - (s:Int) - (k:Int) < (d:Int))∨(¬ (top:Int) - (s:Int) < (k:Int)∧¬ (top:Int) - (s:Int) - (k:Int) < (d:Int)∧(top:Int) - (s:Int) - (k:Int) - (d:Int) < (pu.length:Int)):=by omega
          have z0:(0:Int)≤(k:Int):=by omega
          clear hfit
          rcases hcs with hI1 | ⟨hI1,hI2⟩ | ⟨hI1,hI2,hI3⟩ <;> rcases hk with ⟨hk0,rfl⟩ | ⟨hk0,rfl⟩ <;> rcases hd with ⟨hd0,rfl⟩ | ⟨hd0,rfl⟩
          all_goals try (exfalso;omega)
          all_goals
            go_wp2_with fail
            go_quiet (fail)
            go_wp2_with fail
            go_ret
            exact ⟨by rw [hv.out];rfl,draws hbel'.out _⟩
      · have hqn:q = n:=by omega
        have h1I:¬ (q:Int) < (n:Int):=by omega
        have hv:=Lib.hid (show smallV xs top = true by unfold smallV;rw [hqn,← hlen.out,List.take_length] at hs;rw [decide_eq_true hs,decide_eq_true (by have:=hlen.out;omega)];rfl)
        have hbel':=Lib.hid hbel
        clear hs hbel hqn h1
        go_wp2_with fail
        go_ret
        exact ⟨by rw [hv.out];rfl,hbel'.out⟩
end Go.Proofs.Ytidimannfemnmaa.P5

