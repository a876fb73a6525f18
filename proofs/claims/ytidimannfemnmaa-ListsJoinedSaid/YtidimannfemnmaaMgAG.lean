/- MgAG: PthBase PthVal PthA -/
import Derived.Test.YtidimannfemnmaaProg
import Derived.WalkKit
import Derived.WalkMore
import Derived.WalkLawsBesides
import Derived.WalkSpells
import Derived.Outline
import Derived.Lib.Hide
import Derived.Laws.CopyOwn
import Derived.Maps.AppendAt
import Derived.Laws.AppendOwnNone
import Derived.Deep.QuietTactic
import Derived.BigQuiet
import Derived.ScopeJumps
set_option linter.all false
namespace Go.Proofs.Ytidimannfemnmaa.P4
open Go.RowKit
set_option maxRecDepth 20000

def Its (w:World) (A:Option Addr) (n:Nat) (xs:List Int):Prop :=
  xs.length = n∧∀ k x,xs[k]? = some x→∃ ad:Addr,A = some ad∧ad.block < w.heap.size∧w.cell? (ad.add k) = some (.int .i64 x)
def Fit (xs:List Int):Prop:=∀ x ∈ xs,-9223372036854775808≤x∧x≤9223372036854775807
theorem block_add (a:Addr) (k:Nat):(a.add k).block = a.block:=by unfold Addr.add;split <;> rfl
theorem Its.below {w w':World} {A:Option Addr} {n:Nat} {xs:List Int} (h:Its w A n xs) (hb:Below w.heap.size w w'):Its w' A n xs:=by
  refine ⟨h.1,fun k c hk=>?_⟩
  obtain ⟨ad,e,hlt,hc⟩:=h.2 k c hk
  exact ⟨ad,e,Nat.lt_of_lt_of_le hlt hb.size,(hb.cell (p:=ad.add k) (by rw [block_add];exact hlt)).trans hc⟩
theorem Its.at_ {w:World} {A:Option Addr} {n k:Nat} {xs:List Int} (h:Its w A n xs) (hk:k < n) :
    ∃ (ad:Addr) (x:Int),A = some ad∧xs[k]? = some x∧w.cell? (ad.add k) = some (.int .i64 x):=by
  have hl:k < xs.length:=by rw [h.1];exact hk
  have hg:xs[k]? = some xs[k]:=List.getElem?_eq_getElem hl
  obtain ⟨ad,e,_,hc⟩:=h.2 k _ hg
  exact ⟨ad,_,e,hg,hc⟩
theorem draws {B:Nat} {a w:World} (h:Below B a w) (n:Nat):Below B a (w.drewN n):=⟨h.os,h.tape,h.output,h.size,h.block⟩
theorem Its.drewN {w:World} {A:Option Addr} {n:Nat} {xs:List Int} (h:Its w A n xs) (k:Nat):Its (w.drewN k) A n xs:=h.below (draws (Below.refl _ _) k)
theorem Its.none_ (w:World):Its w none 0 []:=⟨rfl,fun k c h=>by simp at h⟩
theorem Its.none_nil {w:World} {n:Nat} {xs:List Int} (h:Its w none n xs):xs = []:=by
  cases xs with
  | nil=>rfl
  | cons c r =>
    obtain ⟨ad,e,_⟩:=h.2 0 c rfl
    cases e
theorem Its.upto {w:World} {A:Option Addr} {n q:Nat} {xs:List Int} (h:Its w A n xs) (hq:q≤n):Its w A q (xs.take q):=by
  refine ⟨by rw [List.length_take,h.1];omega,fun k c hk=>?_⟩
  rw [List.getElem?_take] at hk
  split at hk
  · exact h.2 k c hk
  · cases hk
theorem add_add (a:Addr) (i j:Nat):(a.add i).add j = a.add (i + j):=by
  unfold Addr.add
  by_cases hi:i = 0
  · simp [hi]
  · by_cases hj:j = 0
    · simp [hi,hj]
    · simp [hi,hj,Nat.add_assoc]
theorem Its.of_block {w:World} {g n:Nat} {cs:Array Value} {t:TypeId} {fr:Nat × Nat} {xs:List Int} (h:w.heap[g]? = some (.cells cs t fr)) (hn:xs.length = n)
    (hc:cs = (xs.map fun x=>Value.int .i64 x).toArray):Its w (some ⟨g,0,none⟩) n xs:=by
  refine ⟨hn,fun k c hk=>?_⟩
  have hlt:g < w.heap.size:=(Array.getElem?_eq_some_iff.1 h).1
  have hadd:(⟨g,0,none⟩:Addr).add k = ⟨g,k,none⟩:=by unfold Addr.add;split <;> simp_all
  exact ⟨⟨g,0,none⟩,rfl,hlt,by rw [hadd,cell_of_row w g k cs t fr h,hc];simp [hk]⟩
theorem Fit.at_ {xs:List Int} (h:Fit xs) {k:Nat} {x:Int} (hk:xs[k]? = some x):-9223372036854775808≤x∧x≤9223372036854775807:=h x (List.mem_of_getElem? hk)
theorem Try.info3:(Try.prog.info? 3).map (fun i=>(i.zero,i.size,i.bytes)) = some (some (.int .i64 0),1,8):=by kernel_rfl
def intV (x:Int):Value:=.int .i64 x
def OwnI (base:Nat) (w:World) (v:Value) (xs:List Int):Prop:=w.ownsRow base 3 1 v xs.length (xs.map intV)
theorem OwnI.nil_ (base:Nat) (w:World):OwnI base w (.slice none 0 0) []:=World.ownsRow_nil w base _ _
theorem OwnI.shape {base:Nat} {w:World} {v:Value} {xs:List Int} (h:OwnI base w v xs):∃ (A:Option Addr) (n c:Nat),v = .slice A n c∧n = xs.length∧n≤c∧c≤maxLen∧Its w A n xs∧(A = none→c = 0):=by
  have h':=h
  rcases h.2 with ⟨rfl,h0⟩ | ⟨g,cap,cur,rfl,_,hg,hnc,hcm,_⟩
  · have hb:xs = []:=List.eq_nil_of_length_eq_zero h0
    subst hb
    exact ⟨none,0,0,rfl,rfl,Nat.le_refl _,Nat.zero_le _,Its.none_ w,fun _=>rfl⟩
  · refine ⟨_,_,_,rfl,rfl,hnc,hcm,⟨rfl,fun k c hk=>?_⟩,fun e=>by cases e⟩
    have hlt:g < w.heap.size:=(Array.getElem?_eq_some_iff.1 hg).1
    exact ⟨⟨g,0,none⟩,rfl,hlt,h'.cells (g:=g) rfl k _ (by rw [List.getElem?_map,hk];rfl)⟩
theorem wpList_append_its {w:World} {ops:Array Oper} {rest:List Oper} {o:Oper} {a:Act} {Q:Exit→Act→World→Prop} (hgd:o.guard = none) (s x:Operand)
    (ho:o.op = .call { callee:=.builtin .append,args:=#[s,x],argTypes:=#[40,40] })
    (base:Nat) (v:Value) (xs ys:List Int) (hs:a.eval s = v) (hown:OwnI base w v xs)
    (A:Option Addr) (m c:Nat) (hx:a.eval x = .slice A m c) (hB:Its w A m ys) (hnil:A = none→c = 0)
    (hlen:xs.length + ys.length≤1000000) (hbase:base≤w.heap.size)
    (h:∀ v' w',OwnI base w' v' (xs ++ ys)→w.grownBy w' v.ownBlock→(v'.ownBlock = v.ownBlock∨v'.ownBlock = some w.heap.size)→wpList Try.prog ops Q rest (a.put o.dst v') w') :
    wpList Try.prog ops Q (o :: rest) a w:=by
  obtain ⟨i0,hi,hz0,hz1,hz2⟩:=info_parts Try.info3
  obtain rfl:=hB.1
  cases A with
  | none =>
    obtain rfl:=hB.none_nil
    obtain rfl:=hnil rfl
    refine wpList_append_own_none hgd s x _ ho base 3 i0 1 Try.underlying40 hi v _ _ hs hown hx ?_
    exact h v w (by rw [List.append_nil];exact hown) (World.grownBy.refl w _) (.inl rfl)
  | some ad =>
    refine wpList_append_own_at w hgd s x _ ho base 3 i0 (.int .i64 0) 1 8 Try.underlying40 hi hz0 hz1 hz2 rfl (by omega) v xs.length (xs.map intV) hs hown ad ys.length c (ys.map intV) hx (by simp)
      (fun j u hj=>?_) (fun u hu=>?_) (by unfold maxLen;omega) (by omega) hbase ?_
    · rw [List.getElem?_map] at hj
      cases hk:ys[j]? with
      | none=>rw [hk] at hj;cases hj
      | some d =>
        rw [hk] at hj
        simp only [Option.map_some,Option.some.injEq] at hj
        obtain ⟨ad',e,_,hc⟩:=hB.2 j d hk
        cases Option.some.inj e
        rw [← hj]
        exact hc
    · obtain ⟨d,_,rfl⟩:=List.mem_map.1 hu
      rfl
    · intro v' w' hown' hgrow _ hat
      refine h v' w' ?_ hgrow hat
      unfold OwnI
      rw [List.length_append,List.map_append]
      exact hown'
end Go.Proofs.Ytidimannfemnmaa.P4
namespace Go.Proofs.Ytidimannfemnmaa.P4
def commonV:List Int→List Int→Nat
  | x :: p,y :: q=>if x = y then commonV p q + 1 else 0
  | _,_=>0
def mayV (p:List Int):Bool:=decide (p.length≤64∧∀ x ∈ p,0≤x∧x < 1048576)

theorem common_take:∀ p q:List Int,p.take (commonV p q) = q.take (commonV p q)
  | [],q=>by simp [commonV]
  | x :: p,[]=>by simp [commonV]
  | x :: p,y :: q=>by
    have:=common_take p q
    unfold commonV
    split
    · rename_i h;subst h;simp [this]
    · simp
theorem drop_at {p:List Int} {k:Nat} {x:Int} (h:p[k]? = some x):p.drop k = x :: p.drop (k + 1):=by
  obtain ⟨hl,rfl⟩:=List.getElem?_eq_some_iff.1 h
  exact List.drop_eq_getElem_cons hl
theorem common_step {p q:List Int} {k:Nat} {x:Int} (hp:p[k]? = some x) (hq:q[k]? = some x):commonV (p.drop k) (q.drop k) = commonV (p.drop (k + 1)) (q.drop (k + 1)) + 1:=by
  rw [drop_at hp,drop_at hq]
  simp [commonV]
theorem common_stop {p q:List Int} {k:Nat} {x y:Int} (hp:p[k]? = some x) (hq:q[k]? = some y) (h:x ≠ y):commonV (p.drop k) (q.drop k) = 0:=by
  rw [drop_at hp,drop_at hq]
  simp [commonV,h]
theorem common_end {p q:List Int} {k:Nat} (h:p.length≤k∨q.length≤k):commonV (p.drop k) (q.drop k) = 0:=by
  rcases h with h | h
  · rw [List.drop_of_length_le h];rfl
  · rw [List.drop_of_length_le h]
    cases p.drop k <;> rfl
theorem common_self:∀ p,commonV p p = p.length
  | []=>rfl
  | x :: p=>by simp [commonV,common_self p]
theorem common_full {p q:List Int} (h:p.length = q.length):commonV p q = p.length ↔ p = q:=by
  constructor
  · intro e
    have:=common_take p q
    rw [e,List.take_length,h,List.take_length] at this
    exact this
  · rintro rfl
    exact common_self p
end Go.Proofs.Ytidimannfemnmaa.P4
namespace Go.Proofs.Ytidimannfemnmaa.P4
open Go.RowKit
set_option maxRecDepth 20000

def stands (x:Int):Bool:=decide (0≤x∧x < 1048576)
theorem stands_any (x:Int) (w:World):Calls Try.prog 198 #[.int .i64 x] w fun e w'=>e = .returned (.bool (stands x))∧w = w':=by
  by_cases h0:(0:Int)≤x
  · by_cases h1:x < (1048576:Int)
    · have hv:=Lib.hid (show stands x = true from decide_eq_true ⟨h0,h1⟩)
      go_enter Try.func198,Try.ntmps198
      go_wp2_with fail
      go_ret
      exact ⟨by rw [hv.out];rfl,rfl⟩
    · have hv:=Lib.hid (show stands x = false from decide_eq_false fun h=>h1 h.2)
      go_enter Try.func198,Try.ntmps198
      go_wp2_with fail
      go_ret
      exact ⟨by rw [hv.out];rfl,rfl⟩
  · have hv:=Lib.hid (show stands x = false from decide_eq_false fun h=>h0 h.1)
    go_enter Try.func198,Try.ntmps198
    go_wp2_with fail
    go_ret
    exact ⟨by rw [hv.out];rfl,rfl⟩

theorem may_yes {xs:List Int} (hl:xs.length≤64) (h:∀ (j:Nat) (x:Int),xs[j]? = some x→stands x = true):mayV xs = true :=
  decide_eq_true ⟨hl,fun x hx=>by
    obtain ⟨j,hj⟩:=List.getElem?_of_mem hx
    exact of_decide_eq_true (h j x hj)⟩
theorem may_no {xs:List Int} {j:Nat} {x:Int} (hj:xs[j]? = some x) (h:stands x = false):mayV xs = false :=
  decide_eq_false fun e=>of_decide_eq_false h (e.2 x (List.mem_of_getElem? hj))
theorem may_long {xs:List Int} (h:64 < xs.length):mayV xs = false:=decide_eq_false fun e=>by have:=e.1;omega

set_option maxHeartbeats 400000 in
theorem may_any (w:World) (A:Option Addr) (n c:Nat) (xs:List Int) (hB:Its w A n xs) (hn:n≤maxLen) :
    Calls Try.prog 180 #[.slice A n c] w fun e w'=>e = .returned (.bool (mayV xs))∧w' = w:=by
  unfold maxLen at hn
  have hl:=hB.1
  have hB':=Lib.hid hB
  clear hB
  go_enter Try.func180,Try.ntmps180
  go_wp2_with fail
  refine wp_scope_jumps 0 (fun a' w'=>w' = w∧mayV xs = false∧∃ (u1 u2 u3 u4 u5 u6 u7 u8 u9 u10 u11 u12 u13 u14 u15 u16 u17:Value),a' = { tmps:=#[.slice A n c,u1,u2,u3,u4,u5,u6,u7,u8,u9,u10,u11,u12,u13,u14,u15,u16,u17],defers:=[] }) (fun _ _=>0) rfl ?_ ?_
  · by_cases hbig:(64:Int) < (n:Int)
    · have hv:=Lib.hid (show mayV xs = false from may_long (by omega))
      clear hl
      go_wp2_with fail
      simp only [Exit.jump]
      go_ret
      exact ⟨by rw [hv.out];rfl,rfl⟩
    · have hl':=Lib.hid hl
      clear hl
      go_wp2_with fail
      go_loop [10] (fun i=>∃ k:Nat,k≤n∧i = .int .i64 (k:Int)∧∀ (j:Nat) (x:Int),j < k→xs[j]? = some x→stands x = true) (fun i=>n - (intOf i).toNat)
      case atStart=>exact ⟨0,Nat.zero_le _,rfl,fun j x h=>by omega⟩
      case round =>
        obtain ⟨k,hk,rfl,hall⟩:=hrel
        have hall':=Lib.hid hall
        clear hall
        by_cases hlt:k < n
        · obtain ⟨ad,x,rfl,hkx,hcell⟩:=hB'.out.at_ hlt
          have hkx':=Lib.hid hkx
          clear hkx
          rcases Bool.eq_false_or_eq_true (stands x) with hb | hb
          · have hb':=Lib.hid hb
            clear hb
            go_wp2_with (go_at_call 198;refine (stands_any _ _).mono ?_;rw [hb'.out];rintro e w' ⟨rfl,rfl⟩)
            go_round
            case rel=>exact ⟨k + 1,by omega,by go_num,fun j y hj hy=>by
              rcases Nat.lt_or_ge j k with h | h
              · exact hall'.out j y h hy
              · obtain rfl:j = k:=by omega
                rw [hkx'.out] at hy
                injection hy with hy
                subst hy
                exact hb'.out⟩
            case measure=>simp [intOf];omega
          · have hb':=Lib.hid hb
            clear hb
            have hv:=Lib.hid (show mayV xs = false from may_no hkx'.out hb'.out)
            go_wp2_with (go_at_call 198;refine (stands_any _ _).mono ?_;rw [hb'.out];rintro e w' ⟨rfl,rfl⟩)
            go_step3
            exact ⟨rfl,rfl,hv.out,_,_,_,_,_,_,_,_,_,_,_,_,_,_,_,_,_,rfl⟩
        · have hv:=Lib.hid (show mayV xs = true from may_yes (by have:=hl'.out;omega) fun j x hj=>hall'.out j x (by have:=(List.getElem?_eq_some_iff.1 hj).1;have:=hl'.out;omega) hj)
          go_wp2_with fail
          simp only [Exit.jump]
          go_ret
          exact ⟨by rw [hv.out];rfl,rfl⟩
  · rintro a' w' ⟨rfl,hv,u1,u2,u3,u4,u5,u6,u7,u8,u9,u10,u11,u12,u13,u14,u15,u16,u17,rfl⟩
    have hv':=Lib.hid hv
    clear hv
    go_wp2_with fail
    simp only [Exit.jump]
    go_ret
    exact ⟨by rw [hv'.out];rfl,rfl⟩

end Go.Proofs.Ytidimannfemnmaa.P4
