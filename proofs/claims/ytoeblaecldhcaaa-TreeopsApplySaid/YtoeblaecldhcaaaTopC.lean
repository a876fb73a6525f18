/- A tree with a node in the place of one: the program's put. -/
import Derived.Test.YtoeblaecldhcaaaMgAF
namespace Go.Proofs.Ytoeblaecldhcaaa.Top
open Go.RowKit
set_option maxRecDepth 20000
set_option linter.unusedVariables false

def NodeA (T:Nat→Prop) (w:World) (a:Nd) (e:Ending) (w':World):Prop :=
  ∃ aA an ac kA kn kc,e = .returned (.agg (val6 a aA an ac kA kn kc))∧NodeV (Nw T w w') w' aA an ac kA kn kc a∧Below w.heap.size w w'
theorem three_new (w:World) (o1 o2 o3:Obj):((((w.alloc o1).alloc o2).alloc o3).heap[w.heap.size]? = some o1)∧((((w.alloc o1).alloc o2).alloc o3).heap[w.heap.size + 1]? = some o2)∧((((w.alloc o1).alloc o2).alloc o3).heap[w.heap.size + 1 + 1]? = some o3)∧Below w.heap.size w (((w.alloc o1).alloc o2).alloc o3)∧(((w.alloc o1).alloc o2).alloc o3).heap.size = w.heap.size + 1 + 1 + 1:=by
  have h1:=heap_alloc_new w o1
  have h2:=heap_alloc_new (w.alloc o1) o2
  have h3:=heap_alloc_new ((w.alloc o1).alloc o2) o3
  rw [World.size_alloc] at h2
  rw [World.size_alloc,World.size_alloc] at h3
  exact ⟨(Go.heap_alloc_old _ _ (by simp <;> omega)).trans ((Go.heap_alloc_old _ _ (by simp)).trans h1),(Go.heap_alloc_old _ _ (by simp)).trans h2,h3,(((Below.refl _ _).alloc (Nat.le_refl _) _).alloc (by simp) _).alloc (by simp <;> omega) _,by simp⟩
theorem end_node {T:Nat→Prop} {w w1:World} {b r:Nat} {o:Obj} {ty:TypeId} {a:Nd} {yA yK:Option Addr} {yn yc ym yd:Nat} {a0 a1 a2 a3 a4 a5:Value} (hT:∀ k,T k→k < w.heap.size) (hw:w.heap.size≤r) (hrb:r < b) (hb:Below w.heap.size w w1)
    (hr:w1.heap[r]? = some (.cells #[a0,a1,a2,a3,a4,a5] ty (0,0))) (hy:NodeV (fun k=>T k∨(b≤k∧k < w1.heap.size)) w1 yA yn yc yK ym yd a) :
    ∃ W9,W9 = ((((((w1.setCell ⟨r,0,none⟩ (.int .u64 (a.id:Int))).setCell ⟨r,1,none⟩ (.bool a.leaf)).setCell ⟨r,2,none⟩ (.string ⟨a.label.toArray⟩)).setCell ⟨r,3,none⟩ (.slice yA yn yc)).setCell ⟨r,4,none⟩ (.string ⟨a.text.toArray⟩)).setCell ⟨r,5,none⟩ (.slice yK ym yd)).alloc o ∧
      W9.heap[r]? = some (.cells (val6 a yA yn yc yK ym yd) ty (0,0))∧NodeV (Nw T w W9) W9 yA yn yc yK ym yd a∧Below w.heap.size w W9:=by
  have hlt:=(Array.getElem?_eq_some_iff.1 hr).1
  have hb6:=below_six (b0:=.int .u64 (a.id:Int)) (b1:=.bool a.leaf) (b2:=.string ⟨a.label.toArray⟩) (b3:=.slice yA yn yc) (b4:=.string ⟨a.text.toArray⟩) (b5:=.slice yK ym yd) hb hw
  refine ⟨_,rfl,(Go.heap_alloc_old _ _ (by simpa using hlt)).trans (set_six hr),hy.kept (fun k hk=>?_) (fun k hk=>?_),hb6.alloc hb6.size _⟩
  · show T k∨_
    simp only [World.size_setCell,World.size_alloc]
    rcases hk with hk | hk
    · exact .inl hk
    · exact .inr ⟨by omega,by omega⟩
  · have hk2:k < w1.heap.size∧k ≠ r:=by
      rcases hk with hk | hk
      · have:=hT k hk;have:=hb.size;omega
      · omega
    exact (Go.heap_alloc_old _ _ (by simpa using hk2.1)).trans (set_six_other hk2.2)
set_option maxHeartbeats 4000000 in
theorem tput_T (T:Nat→Prop) (w:World) (hT:∀ k,T k→k < w.heap.size) (t x:Nd) (aA kA xA xK:Option Addr) (an ac kn kc xn xc xm xd:Nat) (h:NodeV T w aA an ac kA kn kc t) (hx:NodeV T w xA xn xc xK xm xd x) (pA:Option Addr) (pn pc:Nat) (p:List Int) (hp:Its w pA pn p) (hpn:pn≤maxLen) (hbig:weighV t≤1000000) (hbigx:weighV x≤1000000) :
    Calls Try.prog 85 #[.agg (val6 t aA an ac kA kn kc),.slice pA pn pc,.agg (val6 x xA xn xc xK xm xd)] w (NodeA T w ((putV t p x).getD Nd.zero)):=by
  obtain ⟨-,-,z3,z4,z5⟩:=three_new w (.cells (val6 t aA an ac kA kn kc) 33) (.cells (val6 x xA xn xc xK xm xd) 33) (.cells zero6 33)
  obtain ⟨W3,hW3⟩:∃ W3,W3 = ((w.alloc (.cells (val6 t aA an ac kA kn kc) 33)).alloc (.cells (val6 x xA xn xc xK xm xd) 33)).alloc (.cells zero6 33):=⟨_,rfl⟩
  rw [← hW3] at z3 z4 z5
  have hT3:∀ k,T k→k < W3.heap.size:=fun k hk=>by have:=hT k hk;omega
  have hput:=Lib.hid (put_T T W3 hT3 t x aA kA xA xK an ac kn kc xn xc xm xd (h.kept (fun _ h=>h) fun k hk=>z4.block k (hT k hk)) (hx.kept (fun _ h=>h) fun k hk=>z4.block k (hT k hk)) pA pn pc p (hp.below z4) hpn hbig hbigx)
  rw [hW3] at hput
  have z3':=Lib.hid z3
  have z4':=Lib.hid z4
  have z5':=Lib.hid z5
  have hT':=Lib.hid hT
  clear z3 z4 z5 h hx hp hbig hbigx hT hT3
  unfold zero6 val6 at hW3 hput
  unfold val6
  go_enter Try.func85,Try.ntmps85
  go_wp2_with (go_at_call 103;go_loud (refine hput.out.mono ?_;rw [← hW3];rintro e w1 ⟨yA,yn,yc,yK,ym,yd,rfl,hy,hb⟩;have r3:=(hb.block _ (by have:=z5'.out;omega)).trans z3'.out;have hr:=Lib.hid r3;have hy':=Lib.hid hy;have hb':=Lib.hid hb;unfold zero6 at r3;obtain ⟨q0,q1,q2,q3,q4,q5,qf⟩:=six_cells r3;have hne:w.heap.size + 1 + 1 < w1.heap.size:=(Array.getElem?_eq_some_iff.1 r3).1;have hne2:w1.heap.size ≠ w.heap.size + 1 + 1:=(by omega);have hne3:w.heap.size + 1 + 1 ≠ w1.heap.size:=(by omega);unfold val6;clear hy hb r3))
  obtain ⟨W9,hW9,R9,N9,B9⟩:=end_node (o:=.cells #[.int .u64 (((putV t p x).getD Nd.zero).id:Int),.bool ((putV t p x).getD Nd.zero).leaf,.string ⟨((putV t p x).getD Nd.zero).label.toArray⟩,.slice yA yn yc,.string ⟨((putV t p x).getD Nd.zero).text.toArray⟩,.slice yK ym yd] 33) hT'.out (r:=w.heap.size + 1 + 1) (b:=W3.heap.size) (by omega) (by have:=z5'.out;omega) (z4'.out.trans (hb'.out.mono z4'.out.size)) hr.out hy'.out
  rw [← hW9]
  unfold val6 at R9
  obtain ⟨d0,d1,d2,d3,d4,d5,df⟩:=six_cells R9
  refine bodyPost_ret (v:=.agg (val6 ((putV t p x).getD Nd.zero) yA yn yc yK ym yd)) (by simp [results,Try.results85,go_sem,d0,d1,d2,d3,d4,d5,val6]) rfl ?_
  exact ⟨yA,yn,yc,yK,ym,yd,rfl,N9,B9⟩
end Go.Proofs.Ytoeblaecldhcaaa.Top
