/- MgAU: LtxVw LtxBh -/
import Derived.Test.YtidimannfemnmaaMgAK
import Derived.Deep.OwnRows
import Derived.Deep.CutRange
import Derived.Maps.AppendAt
set_option linter.all false
namespace Go.Proofs.Ytidimannfemnmaa.P5
open Go.RowKit
set_option maxRecDepth 20000
open Ltx (Pc)

theorem Try.infoStr:(Try.prog.info? 9).map (fun i=>(i.zero,i.size,i.bytes)) = some (some (.string ⟨#[]⟩),1,16):=by kernel_rfl
theorem Try.infoBool:(Try.prog.info? 4).map (fun i=>(i.zero,i.size,i.bytes)) = some (some (.bool false),1,1):=by kernel_rfl
theorem mk_str (N:Nat) (h:N≤1000000) (u:World):(Instr.makeSlice 107 (.int .i64 (N:Int)) (.int .i64 (N:Int))).run Try.prog u = .ok (.slice (some ⟨u.heap.size,0,none⟩) N N) (u.alloc (.cells (madeCells #[.string ⟨#[]⟩] N) 9)) :=
  run_make_row' 107 9 (.string ⟨#[]⟩) 16 Try.underlying107 Try.infoStr rfl .i64 .i64 N (by omega) (by omega) u
theorem mk_bool (N:Nat) (h:N≤1000000) (u:World):(Instr.makeSlice 108 (.int .i64 (N:Int)) (.int .i64 (N:Int))).run Try.prog u = .ok (.slice (some ⟨u.heap.size,0,none⟩) N N) (u.alloc (.cells (madeCells #[.bool false] N) 4)) :=
  run_make_row' 108 4 (.bool false) 1 Try.underlying108 Try.infoBool rfl .i64 .i64 N (by omega) (by omega) u
structure VRow (w:World) (g1 g2 N:Nat) (pu:Nat→List UInt8) (dr:Nat→Bool):Prop where
  r1:∃ c1,w.heap[g1]? = some (.cells c1 9 (0,0))∧c1.size = N∧∀ j,j < N→c1[j]? = some (.string ⟨(pu j).toArray⟩)
  r2:∃ c2,w.heap[g2]? = some (.cells c2 4 (0,0))∧c2.size = N∧∀ j,j < N→c2[j]? = some (.bool (dr j))
theorem VRow.new {w:World} {g1 g2 N:Nat} (h1:w.heap[g1]? = some (.cells (madeCells #[.string ⟨#[]⟩] N) 9 (0,0))) (h2:w.heap[g2]? = some (.cells (madeCells #[.bool false] N) 4 (0,0))):VRow w g1 g2 N (Ltx.putAt []) (Ltx.dropAt []):=by
  refine ⟨⟨_,h1,by simp [size_madeCells],fun j hj=>?_⟩,⟨_,h2,by simp [size_madeCells],fun j hj=>?_⟩⟩
  · simp [madeCells,hj,Ltx.putAt,Nat.mod_one]
  · simp [madeCells,hj,Ltx.dropAt,Nat.mod_one]
theorem four (w:World) (o0 a b c:Obj):((((w.alloc o0).alloc a).alloc b).alloc c).heap[w.heap.size]? = some o0∧((((w.alloc o0).alloc a).alloc b).alloc c).heap[w.heap.size + 1]? = some a∧((((w.alloc o0).alloc a).alloc b).alloc c).heap[w.heap.size + 1 + 1]? = some b∧((((w.alloc o0).alloc a).alloc b).alloc c).heap[w.heap.size + 1 + 1 + 1]? = some c:=by
  have s1:(w.alloc o0).heap.size = w.heap.size + 1:=by simp
  have s2:((w.alloc o0).alloc a).heap.size = w.heap.size + 1 + 1:=by simp
  have s3:(((w.alloc o0).alloc a).alloc b).heap.size = w.heap.size + 1 + 1 + 1:=by simp
  have e0:=heap_alloc_new w o0
  have e1:=heap_alloc_new (w.alloc o0) a
  have e2:=heap_alloc_new ((w.alloc o0).alloc a) b
  have e3:=heap_alloc_new (((w.alloc o0).alloc a).alloc b) c
  rw [s1] at e1
  rw [s2] at e2
  rw [s3] at e3
  refine ⟨?_,?_,?_,e3⟩
  · exact (Go.heap_alloc_old _ _ (by omega)).trans ((Go.heap_alloc_old _ _ (by omega)).trans ((Go.heap_alloc_old _ _ (by omega)).trans e0))
  · exact (Go.heap_alloc_old _ _ (by omega)).trans ((Go.heap_alloc_old _ _ (by omega)).trans e1)
  · exact (Go.heap_alloc_old _ _ (by omega)).trans e2
theorem four_below (w:World) (o0 a b c:Obj):Below w.heap.size w ((((w.alloc o0).alloc a).alloc b).alloc c) :=
  ((((Below.refl w.heap.size w).alloc (Nat.le_refl _) _).alloc (by simp) _).alloc (by simp;omega) _).alloc (by simp;omega) _
theorem VRow.kept {w w':World} {g1 g2 N:Nat} {pu:Nat→List UInt8} {dr:Nat→Bool} (h:VRow w g1 g2 N pu dr) (k1:w'.heap[g1]? = w.heap[g1]?) (k2:w'.heap[g2]? = w.heap[g2]?):VRow w' g1 g2 N pu dr:=by
  obtain ⟨⟨c1,a1,a2,a3⟩,⟨c2,b1,b2,b3⟩⟩:=h
  exact ⟨⟨c1,k1.trans a1,a2,a3⟩,⟨c2,k2.trans b1,b2,b3⟩⟩
theorem VRow.put {w:World} {g1 g2 N i:Nat} {pu:Nat→List UInt8} {dr:Nat→Bool} (h:VRow w g1 g2 N pu dr) (t:List UInt8) (hi:i < N) (hne:g1 ≠ g2):VRow (w.setCell ⟨g1,i,none⟩ (.string ⟨t.toArray⟩)) g1 g2 N (fun j=>if j = i then t else pu j) dr:=by
  obtain ⟨⟨c1,a1,a2,a3⟩,⟨c2,b1,b2,b3⟩⟩:=h
  refine ⟨⟨_,heap_setCell_same w g1 i _ _ _ a1,by simp [a2],fun j hj=>?_⟩,⟨c2,(heap_setCell_other w ⟨g1,i,none⟩ g2 _ (fun e=>hne e.symm)).trans b1,b2,b3⟩⟩
  by_cases h:j = i
  · subst h
    rw [if_pos rfl,Array.getElem?_setIfInBounds_self_of_lt (by omega)]
  · rw [if_neg h,Array.getElem?_setIfInBounds_ne (fun e=>h e.symm)]
    exact a3 j hj
theorem VRow.drop {w:World} {g1 g2 N i:Nat} {pu:Nat→List UInt8} {dr:Nat→Bool} (h:VRow w g1 g2 N pu dr) (hi:i < N) (hne:g1 ≠ g2):VRow (w.setCell ⟨g2,i,none⟩ (.bool true)) g1 g2 N pu (fun j=>if j = i then true else dr j):=by
  obtain ⟨⟨c1,a1,a2,a3⟩,⟨c2,b1,b2,b3⟩⟩:=h
  refine ⟨⟨c1,(heap_setCell_other w ⟨g2,i,none⟩ g1 _ hne).trans a1,a2,a3⟩,⟨_,heap_setCell_same w g2 i _ _ _ b1,by simp [b2],fun j hj=>?_⟩⟩
  by_cases h:j = i
  · subst h
    rw [if_pos rfl,Array.getElem?_setIfInBounds_self_of_lt (by omega)]
  · rw [if_neg h,Array.getElem?_setIfInBounds_ne (fun e=>h e.symm)]
    exact b3 j hj
theorem VRow.congr {w:World} {g1 g2 N:Nat} {pu pu':Nat→List UInt8} {dr dr':Nat→Bool} (h:VRow w g1 g2 N pu dr) (e1:∀ j,j < N→pu j = pu' j) (e2:∀ j,j < N→dr j = dr' j):VRow w g1 g2 N pu' dr':=by
  obtain ⟨⟨c1,a1,a2,a3⟩,⟨c2,b1,b2,b3⟩⟩:=h
  exact ⟨⟨c1,a1,a2,fun j hj=>by rw [← e1 j hj];exact a3 j hj⟩,⟨c2,b1,b2,fun j hj=>by rw [← e2 j hj];exact b3 j hj⟩⟩
def Vst (w:World) (N:Nat) (v5:Value) (wc:World):Prop:=∃ P g1 g2:Nat,v5 = .pointer (some ⟨P,0,none⟩)∧wc.heap[P]? = some (.cells #[.slice (some ⟨g1,0,none⟩) N N,.slice (some ⟨g2,0,none⟩) N N] 110 (0,0))∧VRow wc g1 g2 N (Ltx.putAt []) (Ltx.dropAt [])∧w.heap.size < P∧w.heap.size < g1∧w.heap.size < g2∧Below w.heap.size w wc∧(∃ z,wc.heap[w.heap.size]? = some (.cells z 110 (0,0))∧z.size = 2)
theorem Vst.mk {w:World} {N:Nat} {v5:Value} {wc:World} (P g1 g2:Nat) (z:Array Value) (h:v5 = .pointer (some ⟨P,0,none⟩)) (h1:wc.heap[P]? = some (.cells #[.slice (some ⟨g1,0,none⟩) N N,.slice (some ⟨g2,0,none⟩) N N] 110 (0,0)))
    (h2:wc.heap[g1]? = some (.cells (madeCells #[.string ⟨#[]⟩] N) 9 (0,0))) (h3:wc.heap[g2]? = some (.cells (madeCells #[.bool false] N) 4 (0,0))) (k1:w.heap.size < P) (k2:w.heap.size < g1) (k3:w.heap.size < g2) (hb:Below w.heap.size w wc) (h0:wc.heap[w.heap.size]? = some (.cells z 110 (0,0))) (hz:z.size = 2):Vst w N v5 wc :=
  ⟨P,g1,g2,h,h1,VRow.new h2 h3,k1,k2,k3,hb,z,h0,hz⟩
set_option maxHeartbeats 2000000 in
theorem view_any (w:World) (A:Option Addr) (m c n:Nat) (l:List Pc) (hx:PcsIn w A m (l.map ipc)) (hm:m≤maxLen) (hN:Ltx.Normal l) (hf:Ltx.extent l≤n) (hn:n≤100000) :
    Calls Try.prog 77 #[.slice A m c,.int .i64 (n:Int)] w fun e w'=>∃ g1 g2,e = .returned (.agg #[.slice (some ⟨g1,0,none⟩) (n + 1) (n + 1),.slice (some ⟨g2,0,none⟩) (n + 1) (n + 1)])∧VRow w' g1 g2 (n + 1) (Ltx.putAt l) (Ltx.dropAt l)∧w.heap.size≤g1∧w.heap.size≤g2∧Below w.heap.size w w':=by
  have hx':=Lib.hid hx
  have hlen:=Lib.hid (show l.length = m by have:=hx.1;simpa using this)
  have hN':=Lib.hid hN
  clear hx hN
  have hm':(m:Int)≤9223372036854775807:=by unfold maxLen at hm;omega
  obtain ⟨N,hNn⟩:∃ N:Nat,N = n + 1:=⟨_,rfl⟩
  have m1:=mk_str N (by omega)
  have m2:=mk_bool N (by omega)
  have hNi:(n:Int) + 1 = (N:Int):=by omega
  have hNH:=Lib.hid hNn
  clear hNn
  go_enter Try.func77,Try.ntmps77
  go_upto_region 1 with fail
  go_cut [5] from 9 (fun v5 wc=>Vst w N v5 wc)
  case first =>
    go_region
    all_goals
      go_wp2_with fail
      go_meet
      case rel =>
        first
          | exact Vst.mk _ _ _ _ rfl (four w _ _ _ _).2.1 (four w _ _ _ _).2.2.1 (four w _ _ _ _).2.2.2 (by omega) (by omega) (by omega) (four_below w _ _ _ _).drew (four w _ _ _ _).1 rfl
          | exact Vst.mk _ _ _ _ rfl (four w _ _ _ _).2.1 (four w _ _ _ _).2.2.2 (four w _ _ _ _).2.2.1 (by omega) (by omega) (by omega) (four_below w _ _ _ _).drew (four w _ _ _ _).1 rfl
          | exact Vst.mk _ _ _ _ rfl (four w _ _ _ _).2.2.1 (four w _ _ _ _).2.1 (four w _ _ _ _).2.2.2 (by omega) (by omega) (by omega) (four_below w _ _ _ _).drew (four w _ _ _ _).1 rfl
          | exact Vst.mk _ _ _ _ rfl (four w _ _ _ _).2.2.1 (four w _ _ _ _).2.2.2 (four w _ _ _ _).2.1 (by omega) (by omega) (by omega) (four_below w _ _ _ _).drew (four w _ _ _ _).1 rfl
          | exact Vst.mk _ _ _ _ rfl (four w _ _ _ _).2.2.2 (four w _ _ _ _).2.1 (four w _ _ _ _).2.2.1 (by omega) (by omega) (by omega) (four_below w _ _ _ _).drew (four w _ _ _ _).1 rfl
          | exact Vst.mk _ _ _ _ rfl (four w _ _ _ _).2.2.2 (four w _ _ _ _).2.2.1 (four w _ _ _ _).2.1 (by omega) (by omega) (by omega) (four_below w _ _ _ _).drew (four w _ _ _ _).1 rfl
  case rest =>
    obtain ⟨P,g1,g2,rfl,hP,hV,k1,k2,k3,hb,hz⟩:=hcut
    have hne:g1 ≠ g2:=fun e=>by
      obtain ⟨⟨c1,a1,-⟩,⟨c2,b1,-⟩⟩:=hV
      rw [e,b1] at a1
      injection a1 with a1
      injection a1 with _ h2 _
      revert h2
      decide
    have hP1:P ≠ g1:=fun e=>by
      obtain ⟨⟨c1,a1,-⟩,⟨c2,b1,-⟩⟩:=hV
      rw [e,a1] at hP
      injection hP with a1
      injection a1 with _ h2 _
      revert h2
      decide
    have hP2:P ≠ g2:=fun e=>by
      obtain ⟨⟨c1,a1,-⟩,⟨c2,b1,-⟩⟩:=hV
      rw [e,b1] at hP
      injection hP with a1
      injection a1 with _ h2 _
      revert h2
      decide
    obtain ⟨ad1,had1⟩:∃ a:Addr,a = ⟨g1,0,none⟩:=⟨_,rfl⟩
    obtain ⟨ad2,had2⟩:∃ a:Addr,a = ⟨g2,0,none⟩:=⟨_,rfl⟩
    rw [← had1,← had2] at hP
    have had1':=Lib.hid had1
    have had2':=Lib.hid had2
    clear had1 had2
    have hP':=Lib.hid hP
    have hV':=Lib.hid hV
    have hb':=Lib.hid hb
    have hz':=Lib.hid hz
    have hne':=Lib.hid hne
    have hP1':=Lib.hid hP1
    have hP2':=Lib.hid hP2
    have kk:=Lib.hid (And.intro k1 (And.intro k2 k3))
    clear hP hV hb hz hne hP1 hP2 k1 k2 k3
    go_wp2_with fail
    go_loopw [6,7] (fun at_ k wr=>∃ q:Nat,q≤m∧k = .int .i64 (q:Int)∧at_ = .int .i64 (Ltx.extent (l.take q):Int)∧wr.heap[P]? = some (.cells #[.slice (some ad1) N N,.slice (some ad2) N N] 110 (0,0))∧VRow wr g1 g2 N (Ltx.putAt (l.take q)) (Ltx.dropAt (l.take q))∧Below w.heap.size w wr∧(∃ z,wr.heap[w.heap.size]? = some (.cells z 110 (0,0))∧z.size = 2)) (fun _ k _=>m - (intOf k).toNat)
    case atStart=>exact ⟨0,Nat.zero_le _,rfl,rfl,hP'.out,hV'.out,hb'.out,hz'.out⟩
    case round =>
      obtain ⟨q,hq,rfl,rfl,hP,hV,hb,hz⟩:=hrel
      by_cases h1:q < m
      · have h1I:(q:Int) < (m:Int):=by omega
        obtain ⟨ad,p,rfl,hpq,hlt,hp⟩:=(hx'.out.below hb).pc h1
        obtain ⟨x1,x2,x3,x4,x5,x6,x7,x8⟩:=hp
        have hex:=extent_take l q p hpq
        have hele:=extent_le l (q + 1)
        have hkp:=Lib.hid (normal_keep hN'.out q p hpq)
        have htk:=Lib.hid (show l.take (q + 1) = l.take q ++ [p] by rw [List.take_add_one,hpq];rfl)
        have cP0:=cell_of_row wr P 0 _ _ _ hP
        have cP1:=cell_of_row wr P 1 _ _ _ hP
        simp at cP0 cP1
        obtain ⟨kp,dr,pu⟩:=p
        simp only [ipc] at *
        have hP2:=Lib.hid hP
        have hV2:=Lib.hid hV
        have hb2:=Lib.hid hb
        have hz2:=Lib.hid hz
        have hpqH:=Lib.hid (show (l.map ipc)[q]? = some (ipc ⟨kp,dr,pu⟩) by rw [List.getElem?_map,hpq];rfl)
        clear hP hV hb hz hpq
        obtain ⟨e0,he0⟩:∃ e0,e0 = Ltx.extent (l.take q):=⟨_,rfl⟩
        rw [← he0] at hex
        rw [← he0]
        have he0':=Lib.hid he0
        clear he0
        have hbnd:e0 + kp + dr≤n:=by omega
        obtain ⟨a1,ha1⟩:∃ a1,a1 = e0 + kp:=⟨_,rfl⟩
        have ha1I:(e0:Int) + (kp:Int) = (a1:Int):=by omega
        have hbN:a1 < N:=by have:=hNH.out;omega
        have hbNI:(a1:Int) < (N:Int):=by omega
        have ha1':=Lib.hid ha1
        clear ha1
        obtain ⟨old,hold⟩:∃ old,wr.cell? (ad1.add a1) = some old:=by
          obtain ⟨⟨c1,q1,q2,q3⟩,-⟩:=hV2.out
          have hadd:ad1.add a1 = ⟨g1,a1,none⟩:=by rw [had1'.out];unfold Addr.add;split <;> simp_all
          exact ⟨_,by rw [hadd,cell_of_row wr g1 a1 _ _ _ q1];exact q3 a1 hbN⟩
        have hfr:wr.frozen? (ad1.add a1) = false:=by
          obtain ⟨⟨c1,q1,q2,q3⟩,-⟩:=hV2.out
          have hadd:ad1.add a1 = ⟨g1,a1,none⟩:=by rw [had1'.out];unfold Addr.add;split <;> simp_all
          rw [hadd];exact frozen_of_row wr g1 a1 _ _ q1
        go_upto_region 7 with fail
        go_region
        have hV3:=hV2.out.put pu hbN hne'.out
        have hadd1:ad1.add a1 = ⟨g1,a1,none⟩:=by rw [had1'.out];unfold Addr.add;split <;> simp_all
        have hw3:∃ w3,w3 = (wr.setCell (ad1.add a1) (.string ⟨pu.toArray⟩)).drew:=⟨_,rfl⟩
        obtain ⟨w3,hw3⟩:=hw3
        rw [← hw3]
        have hP3:w3.heap[P]? = some (.cells #[.slice (some ad1) N N,.slice (some ad2) N N] 110 (0,0)):=by
          rw [hw3,hadd1]
          exact (heap_setCell_other wr ⟨g1,a1,none⟩ P _ hP1'.out).trans hP2.out
        have hV4:VRow w3 g1 g2 N (fun j=>if j = a1 then pu else Ltx.putAt (l.take q) j) (Ltx.dropAt (l.take q)):=by
          rw [hw3,hadd1]
          exact hV3.kept rfl rfl
        have hb3:Below w.heap.size w w3:=by
          have h:=hb2.out.setCell (p:=⟨g1,a1,none⟩) (show w.heap.size≤g1 by have:=kk.out.2.1;omega) (.string ⟨pu.toArray⟩)
          rw [hw3,hadd1]
          exact h.drew
        have hz3:∃ z,w3.heap[w.heap.size]? = some (.cells z 110 (0,0))∧z.size = 2:=by
          obtain ⟨z,z1,z2⟩:=hz2.out
          refine ⟨z,?_,z2⟩
          rw [hw3,hadd1]
          exact (heap_setCell_other wr ⟨g1,a1,none⟩ _ _ (fun e=>by have e2:w.heap.size = g1:=e;have:=kk.out.2.1;omega)).trans z1
        have hp3:=PieceAt.where_ (w':=w3) (show PieceAt wr (ad.add (q * 3)) ⟨(kp:Int),(dr:Int),pu⟩ from ⟨x1,x2,x3,x4,x5,x6,x7,x8⟩) (by
          rw [hw3,hadd1,block_add]
          exact heap_setCell_other wr ⟨g1,a1,none⟩ _ _ (by
            intro e
            have e2:ad.block = g1:=e
            obtain ⟨ad',e3,hlt',-⟩:=hx'.out.2 q (ipc ⟨kp,dr,pu⟩) hpqH.out
            injection e3 with e3
            subst e3
            have:=kk.out.2.1
            omega))
        obtain ⟨-,-,-,-,-,y6,y7,y8⟩:=hp3
        have hP4:=Lib.hid hP3
        have hV5:=Lib.hid hV4
        have hb4:=Lib.hid hb3
        have hz4:=Lib.hid hz3
        have hxx:=Lib.hid (And.intro x1 (And.intro x2 (And.intro x3 (And.intro x4 x5))))
        clear hP3 hV4 hb3 hz3 hw3 hV3 hadd1 hold hfr x6 x7 x8 cP0 cP1 x1 x2 x5
        go_wp2_with fail
        go_loopw [8] (fun kv wr=>∃ k:Nat,k≤dr∧kv = .int .i64 (k:Int)∧wr.heap[P]? = some (.cells #[.slice (some ad1) N N,.slice (some ad2) N N] 110 (0,0))∧VRow wr g1 g2 N (fun j=>if j = a1 then pu else Ltx.putAt (l.take q) j) (fun j=>if a1≤j∧j < a1 + k then true else Ltx.dropAt (l.take q) j)∧Below w.heap.size w wr∧(∃ z,wr.heap[w.heap.size]? = some (.cells z 110 (0,0))∧z.size = 2)) (fun kv _=>dr - (intOf kv).toNat)
        case atStart=>exact ⟨0,Nat.zero_le _,rfl,hP4.out,hV5.out.congr (fun j _=>rfl) (fun j _=>by rw [if_neg (by omega)]),hb4.out,hz4.out⟩
        case round =>
          obtain ⟨k,hk,rfl,hP,hV,hb,hz⟩:=hrel
          obtain ⟨ad',e3,hlt',hp⟩:=(hx'.out.below hb).2 q _ hpqH.out
          injection e3 with e3
          subst e3
          obtain ⟨-,-,-,-,-,u6,u7,u8⟩:=hp
          simp only [ipc] at u6 u7 u8
          clear y6 y7 y8
          have cP0:=cell_of_row wr P 0 _ _ _ hP
          have cP1:=cell_of_row wr P 1 _ _ _ hP
          simp at cP0 cP1
          have hP2:=Lib.hid hP
          have hV2:=Lib.hid hV
          have hb2:=Lib.hid hb
          have hz2:=Lib.hid hz
          clear hP hV hb hz
          by_cases h2:k < dr
          · have h2I:(k:Int) < (dr:Int):=by omega
            obtain ⟨ka,hka⟩:∃ ka,ka = a1 + k:=⟨_,rfl⟩
            have hkaI:(a1:Int) + (k:Int) = (ka:Int):=by omega
            have hkN:ka < N:=by have:=hNH.out;have:=ha1'.out;omega
            have hkNI:(ka:Int) < (N:Int):=by omega
            have hka':=Lib.hid hka
            clear hka
            have hadd2:ad2.add ka = ⟨g2,ka,none⟩:=by rw [had2'.out];unfold Addr.add;split <;> simp_all
            obtain ⟨old,hold⟩:∃ old,wr.cell? (ad2.add ka) = some old:=by
              obtain ⟨-,⟨c1,q1,q2,q3⟩⟩:=hV2.out
              exact ⟨_,by rw [hadd2,cell_of_row wr g2 ka _ _ _ q1];exact q3 ka hkN⟩
            have hfr:wr.frozen? (ad2.add ka) = false:=by
              obtain ⟨-,⟨c1,q1,q2,q3⟩⟩:=hV2.out
              rw [hadd2];exact frozen_of_row wr g2 ka _ _ q1
            have hadd3:=Lib.hid hadd2
            clear hadd2
            go_wp2_with fail
            go_roundw
            case rel =>
              rw [hadd3.out]
              have hV3:=hV2.out.drop hkN hne'.out
              obtain ⟨z,z1,z2⟩:=hz2.out
              refine ⟨k + 1,by omega,by go_num,(heap_setCell_other wr ⟨g2,ka,none⟩ P _ hP2'.out).trans hP2.out,hV3.congr (fun j _=>rfl) (fun j _=>?_),hb2.out.setCell (show w.heap.size≤g2 by have:=kk.out.2.2;omega) _,z,(heap_setCell_other wr ⟨g2,ka,none⟩ _ _ (fun e=>by have e2:w.heap.size = g2:=e;have:=kk.out.2.2;omega)).trans z1,z2⟩
              have:=hka'.out
              by_cases h5:j = ka
              · rw [if_pos h5,if_pos (by omega)]
              · rw [if_neg h5]
                by_cases h6:a1≤j∧j < a1 + k
                · rw [if_pos h6,if_pos (by omega)]
                · rw [if_neg h6,if_neg (by omega)]
            case measure=>simp [intOf];omega
          · have h2I:¬ (k:Int) < (dr:Int):=by omega
            have hkd:k = dr:=by omega
            subst hkd
            have hdI:(a1:Int) + (k:Int)≤9223372036854775807:=by have:=ha1'.out;omega
            go_wp2_with fail
            go_roundw
            case rel =>
              refine ⟨q + 1,by omega,by go_num,?_,hP2.out,hV2.out.congr (fun j _=>?_) (fun j _=>?_),hb2.out,hz2.out⟩
              · rw [hex];have:=ha1'.out;congr 1;omega
              · rw [htk.out,putAt_next hkp.out,← he0'.out,← ha1'.out]
              · rw [htk.out,dropAt_next,← he0'.out,← ha1'.out]
            case measure=>simp [intOf];omega
      · have hqm:q = m:=by omega
        have h1I:¬ (q:Int) < (m:Int):=by omega
        have hV2:=Lib.hid (show VRow wr g1 g2 N (Ltx.putAt l) (Ltx.dropAt l) by rw [hqm,← hlen.out,List.take_length] at hV;exact hV)
        have cP0:=cell_of_row wr P 0 _ _ _ hP
        have cP1:=cell_of_row wr P 1 _ _ _ hP
        simp at cP0 cP1
        obtain ⟨z,z1,z2⟩:=hz
        have r0:=cell_of_row wr w.heap.size 0 _ _ _ z1
        have r1:=cell_of_row wr w.heap.size 1 _ _ _ z1
        have rf0:=frozen_of_row wr w.heap.size 0 _ _ z1
        have rf1:=frozen_of_row wr w.heap.size 1 _ _ z1
        rw [Array.getElem?_eq_getElem (by omega)] at r0 r1
        have hb2:=Lib.hid hb
        have z1':=Lib.hid z1
        clear hP hV hb z1 hqm
        go_wp2_with fail
        obtain ⟨w4,hw4⟩:∃ w4,w4 = (wr.setCell ⟨w.heap.size,0,none⟩ (.slice (some ad1) N N)).setCell ⟨w.heap.size,1,none⟩ (.slice (some ad2) N N):=⟨_,rfl⟩
        have hR4:w4.heap[w.heap.size]? = some (.cells #[.slice (some ad1) N N,.slice (some ad2) N N] 110 (0,0)):=by
          rw [hw4,heap_setCell_same _ _ 1 _ _ _ (heap_setCell_same wr _ 0 _ _ _ z1'.out)]
          obtain ⟨zl⟩:=z
          match zl,z2 with
          | [x,y],_=>rfl
        have v0:=cell_of_row w4 w.heap.size 0 _ _ _ hR4
        have v1:=cell_of_row w4 w.heap.size 1 _ _ _ hR4
        simp at v0 v1
        have hV4:VRow w4 g1 g2 N (Ltx.putAt l) (Ltx.dropAt l):=by
          have k1:g1 ≠ w.heap.size:=by have:=kk.out.2.1;omega
          have k2:g2 ≠ w.heap.size:=by have:=kk.out.2.2;omega
          refine hV2.out.kept ?_ ?_
          · rw [hw4,heap_setCell_other _ ⟨w.heap.size,1,none⟩ g1 _ k1,heap_setCell_other _ ⟨w.heap.size,0,none⟩ g1 _ k1]
          · rw [hw4,heap_setCell_other _ ⟨w.heap.size,1,none⟩ g2 _ k2,heap_setCell_other _ ⟨w.heap.size,0,none⟩ g2 _ k2]
        have hB4:Below w.heap.size w w4:=by
          rw [hw4]
          exact (hb2.out.setCell (p:=⟨w.heap.size,0,none⟩) (Nat.le_refl _) _).setCell (p:=⟨w.heap.size,1,none⟩) (Nat.le_refl _) _
        rw [← hw4]
        exact bodyPost_ret (v:=.agg #[.slice (some ad1) N N,.slice (some ad2) N N]) (by simp [results,Try.results77,go_sem,v0,v1]) rfl ⟨g1,g2,by rw [had1'.out,had2'.out,hNH.out],by rw [← hNH.out];exact hV4,by have:=kk.out.2.1;omega,by have:=kk.out.2.2;omega,hB4⟩
end Go.Proofs.Ytidimannfemnmaa.P5
namespace Go.Proofs.Ytidimannfemnmaa.P5
open Go.RowKit
set_option maxRecDepth 20000
open Ltx (Pc)

section
variable (pa pb:Nat→List UInt8) (da db:Nat→Bool) (first:Bool)
def bfrom:Nat→Nat→List Pc
  | 0,_=>[]
  | k + 1,i=>Ltx.ends pa pb first i ++ Ltx.mid da db i ++ bfrom k (i + 1)
theorem behind_bfrom:∀ (k i:Nat),bfrom pa pb da db first (k + 1) i = Ltx.behind pa pb da db first k i ++ Ltx.mid da db (i + k)
  | 0,i=>by rw [bfrom,bfrom,Ltx.behind,List.append_nil,Nat.add_zero]
  | k + 1,i=>by
    have ih:=behind_bfrom k (i + 1)
    rw [bfrom,ih,Ltx.behind,show i + (k + 1) = i + 1 + k by omega]
    simp only [List.append_assoc]
theorem bfrom_snoc:∀ (k i:Nat),bfrom pa pb da db first (k + 1) i = bfrom pa pb da db first k i ++ (Ltx.ends pa pb first (i + k) ++ Ltx.mid da db (i + k))
  | 0,i=>by
    show Ltx.ends pa pb first i ++ Ltx.mid da db i ++ [] = [] ++ (Ltx.ends pa pb first (i + 0) ++ Ltx.mid da db (i + 0))
    rw [List.append_nil,List.nil_append,Nat.add_zero]
  | k + 1,i=>by
    have ih:=bfrom_snoc k (i + 1)
    rw [bfrom,ih,bfrom,show i + (k + 1) = i + 1 + k by omega]
    simp only [List.append_assoc]
theorem ends_tot (i:Nat):totP (Ltx.ends pa pb first i) = (pa i).length + (pb i).length∧(Ltx.ends pa pb first i).length = 2:=by
  unfold Ltx.ends
  cases first <;> simp [totP,Ltx.extent,Ltx.puts] <;> omega
theorem mid_tot (i:Nat):totP (Ltx.mid da db i)≤1∧(Ltx.mid da db i).length≤1:=by
  unfold Ltx.mid
  cases db i <;> cases da i <;> simp [totP,Ltx.extent,Ltx.puts]
theorem bfrom_tot:∀ (k:Nat),totP (bfrom pa pb da db first k 0)≤k + Ltx.sumTo (fun j=>(pa j).length) k + Ltx.sumTo (fun j=>(pb j).length) k∧(bfrom pa pb da db first k 0).length≤3 * k
  | 0=>⟨Nat.zero_le _,Nat.zero_le _⟩
  | k + 1=>by
    obtain ⟨h1,h2⟩:=bfrom_tot k
    obtain ⟨h3,h4⟩:=ends_tot pa pb first (0 + k)
    obtain ⟨h5,h6⟩:=mid_tot da db (0 + k)
    rw [bfrom_snoc,totP_append,totP_append,List.length_append,List.length_append,Ltx.sumTo,Ltx.sumTo]
    rw [Nat.zero_add] at *
    omega
end
section
variable {ops:Array Oper} {rest:List Oper} {o:Oper} {a:Act} {w:World} {Q:Exit→Act→World→Prop}
theorem wpList_append_pcs (hgd:o.guard = none) (sl x:Operand) (ho:o.op = .call { callee:=.builtin .append,args:=#[sl,x],argTypes:=#[22,22] }) (base:Nat) (v:Value) (l p2:List Pc) (hs:a.eval sl = v) (hown:OwnP base w v l)
    (ad:Addr) (m c:Nat) (hx:a.eval x = .slice (some ad) m c) (hm:p2.length = m) (hnews:∀ j u,(p2.flatMap cellsOf)[j]? = some u→w.cell? (ad.add j) = some u) (h63:l.length + m≤1000000) (hbase:base≤w.heap.size)
    (h:∀ v' w',OwnP base w' v' (l ++ p2)→w.grownBy w' v.ownBlock→wpList Try.prog ops Q rest (a.put o.dst v') w'):wpList Try.prog ops Q (o :: rest) a w:=by
  obtain ⟨i0,hi0,hz0,hz1,hz2⟩:=info_parts Try.infoP
  have hone:∀ u ∈ p2.flatMap cellsOf,u.oneCell' = true:=by
    intro u hu
    obtain ⟨p,-,hp⟩:=List.mem_flatMap.1 hu
    simp only [cellsOf,List.mem_cons,List.not_mem_nil,or_false] at hp
    rcases hp with rfl | rfl | rfl <;> rfl
  refine wpList_append_own_at _ hgd sl x 22 ho base 60 i0 _ 3 32 Try.underlying22 hi0 hz0 hz1 hz2 rfl (by decide) v l.length _ hs hown ad m c (p2.flatMap cellsOf) hx (by rw [cells_len,hm]) hnews hone (by unfold maxLen;omega) (by omega) hbase ?_
  intro v' w' ho' hg _ _
  refine h v' w' ?_ hg
  unfold OwnP
  rw [List.length_append,hm,List.flatMap_append]
  exact ho'
end
theorem lit_news (X:World) (p2:List Pc):∀ j u,(p2.flatMap cellsOf)[j]? = some u→(X.alloc (.cells (p2.flatMap cellsOf).toArray 60)).cell? ((⟨X.heap.size,0,none⟩:Addr).add j) = some u :=
  World.news_of_block (heap_alloc_new X _)
theorem ends_true (pa pb:Nat→List UInt8) (i:Nat):Ltx.ends pa pb true i = [⟨0,0,pa i⟩,⟨(pb i).length,0,[]⟩]:=rfl
theorem ends_false (pa pb:Nat→List UInt8) (i:Nat):Ltx.ends pa pb false i = [⟨(pb i).length,0,[]⟩,⟨0,0,pa i⟩]:=rfl
set_option maxHeartbeats 4000000 in
theorem behind_any (w:World) (g1 g2 h1 h2 n:Nat) (pa pb:Nat→List UInt8) (da db:Nat→Bool) (first:Bool) (hA:VRow w g1 g2 (n + 1) pa da) (hB:VRow w h1 h2 (n + 1) pb db) (hn:n≤10000) (hpa:∀ j,(pa j).length≤10000) (hpb:∀ j,(pb j).length≤10000)
    (hsum:Ltx.sumTo (fun j=>(pa j).length) (n + 1) + Ltx.sumTo (fun j=>(pb j).length) (n + 1)≤100000) (hda:da n = false) (hdb:db n = false) :
    Calls Try.prog 203 #[.agg #[.slice (some ⟨g1,0,none⟩) (n + 1) (n + 1),.slice (some ⟨g2,0,none⟩) (n + 1) (n + 1)],.agg #[.slice (some ⟨h1,0,none⟩) (n + 1) (n + 1),.slice (some ⟨h2,0,none⟩) (n + 1) (n + 1)],.bool first] w fun e w' =>
      ∃ v,e = .returned v∧OwnP w.heap.size w' v (Ltx.norm (Ltx.behind pa pb da db first n 0))∧Below w.heap.size w w':=by
  obtain ⟨N,hNn⟩:∃ N:Nat,N = n + 1:=⟨_,rfl⟩
  obtain ⟨A1,hA1⟩:∃ a:Addr,a = ⟨g1,0,none⟩:=⟨_,rfl⟩
  obtain ⟨A2,hA2⟩:∃ a:Addr,a = ⟨g2,0,none⟩:=⟨_,rfl⟩
  obtain ⟨B1,hB1⟩:∃ a:Addr,a = ⟨h1,0,none⟩:=⟨_,rfl⟩
  obtain ⟨B2,hB2⟩:∃ a:Addr,a = ⟨h2,0,none⟩:=⟨_,rfl⟩
  have hrow:∀ (W:World),Below w.heap.size w W→∀ q,q < N→W.cell? (A1.add q) = some (.string ⟨(pa q).toArray⟩)∧W.cell? (A2.add q) = some (.bool (da q))∧W.cell? (B1.add q) = some (.string ⟨(pb q).toArray⟩)∧W.cell? (B2.add q) = some (.bool (db q)):=by
    intro W hb q hq
    obtain ⟨⟨c1,x1,x2,x3⟩,⟨c2,y1,y2,y3⟩⟩:=hA
    obtain ⟨⟨c3,x4,x5,x6⟩,⟨c4,y4,y5,y6⟩⟩:=hB
    have z:∀ (g:Nat) (cs:Array Value) (T:TypeId) (v:Value),w.heap[g]? = some (.cells cs T (0,0))→cs[q]? = some v→W.cell? ((⟨g,0,none⟩:Addr).add q) = some v:=fun g cs T v e1 e2=>by
      have hadd:(⟨g,0,none⟩:Addr).add q = ⟨g,q,none⟩:=by unfold Addr.add;split <;> simp_all
      have hg:=(hb.block g (Array.getElem?_eq_some_iff.1 e1).1).trans e1
      rw [hadd,cell_of_row W g q _ _ _ hg]
      exact e2
    rw [hA1,hA2,hB1,hB2]
    exact ⟨z _ _ _ _ x1 (x3 q (by omega)),z _ _ _ _ y1 (y3 q (by omega)),z _ _ _ _ x4 (x6 q (by omega)),z _ _ _ _ y4 (y6 q (by omega))⟩
  have hrow':=Lib.hid hrow
  have hfin:=Lib.hid (show Ltx.norm (bfrom pa pb da db first N 0) = Ltx.norm (Ltx.behind pa pb da db first n 0) by
    rw [hNn,behind_bfrom,Nat.zero_add]
    refine Ltx.norm_idle fun p hp=>?_
    have hm:Ltx.mid da db n = [⟨1,0,[]⟩]:=by unfold Ltx.mid;rw [hdb,hda];rfl
    rw [hm] at hp
    obtain rfl:=List.mem_singleton.1 hp
    rfl)
  have htot:=bfrom_tot pa pb da db first N
  rw [hNn] at htot
  rw [← hNn]
  rw [← hNn] at htot hsum
  have htotH:=Lib.hid htot
  have hpaH:=Lib.hid hpa
  have hpbH:=Lib.hid hpb
  have hNN:=Lib.hid (show N≤10001 by omega)
  have hsumH:=Lib.hid hsum
  rw [← hA1,← hA2,← hB1,← hB2]
  clear hNn hA1 hA2 hB1 hB2 hrow htot hpa hpb hsum hA hB hda hdb hn
  go_enter Try.func203,Try.ntmps203
  go_wp2_with fail
  obtain ⟨wB,hwB⟩:∃ wB,wB = (w.alloc (.cells #[.slice (some A1) N N,.slice (some A2) N N] 110)).alloc (.cells #[.slice (some B1) N N,.slice (some B2) N N] 110):=⟨_,rfl⟩
  rw [← hwB]
  have hsB:wB.heap.size = w.heap.size + 2:=by rw [hwB];simp
  have eA:wB.heap[w.heap.size]? = some (.cells #[.slice (some A1) N N,.slice (some A2) N N] 110 (0,0)):=by rw [hwB];exact (Go.heap_alloc_old _ _ (by simp)).trans (heap_alloc_new w _)
  have eB:wB.heap[w.heap.size + 1]? = some (.cells #[.slice (some B1) N N,.slice (some B2) N N] 110 (0,0)):=by
    have h:=heap_alloc_new (w.alloc (.cells #[.slice (some A1) N N,.slice (some A2) N N] 110)) (.cells #[.slice (some B1) N N,.slice (some B2) N N] 110)
    rw [show (w.alloc (.cells #[.slice (some A1) N N,.slice (some A2) N N] 110)).heap.size = w.heap.size + 1 by simp] at h
    rw [hwB]
    exact h
  have hbB:Below w.heap.size w wB:=by rw [hwB];exact ((Below.refl w.heap.size w).alloc (Nat.le_refl _) _).alloc (by simp) _
  have hsB':=Lib.hid hsB
  have eA':=Lib.hid eA
  have eB':=Lib.hid eB
  have hbB':=Lib.hid hbB
  clear hwB hsB eA eB hbB
  go_loopw [7,8] (fun out k wr=>∃ (q:Nat) (v:Value),q≤N∧k = .int .i64 (q:Int)∧out = v∧OwnP wB.heap.size wr v (bfrom pa pb da db first q 0)∧Below wB.heap.size wB wr) (fun _ k _=>N - (intOf k).toNat)
  case atStart=>exact ⟨0,.slice none 0 0,Nat.zero_le _,rfl,rfl,OwnP.nil_ _ _,Below.refl _ _⟩
  case round =>
    obtain ⟨q,v,hq,rfl,rfl,hown,hbel⟩:=hrel
    obtain ⟨V1,V2,rfl,-,-,-,-⟩:=own_form hown
    have cA:=(hbel.block w.heap.size (by rw [hsB'.out];omega)).trans eA'.out
    have cB:=(hbel.block (w.heap.size + 1) (by rw [hsB'.out];omega)).trans eB'.out
    have a0:=cell_of_row wr w.heap.size 0 _ _ _ cA
    have a1:=cell_of_row wr w.heap.size 1 _ _ _ cA
    have b0:=cell_of_row wr (w.heap.size + 1) 0 _ _ _ cB
    have b1:=cell_of_row wr (w.heap.size + 1) 1 _ _ _ cB
    simp at a0 a1 b0 b1
    have hown':=Lib.hid hown
    have hbel':=Lib.hid hbel
    clear cA cB hown hbel
    by_cases hqN:q < N
    · have hqI:(q:Int) < (N:Int):=by omega
      have hqb:(q:Int) + 1≤10001:=by have:=hNN.out;omega
      have hw0:Below w.heap.size w wr:=hbB'.out.trans (hbel'.out.mono (by rw [hsB'.out];omega))
      obtain ⟨r1,r2,r3,r4⟩:=hrow'.out wr hw0 q hqN
      have l1:=hpaH.out q
      have l2:=hpbH.out q
      have hll:=Lib.hid (show (bfrom pa pb da db first q 0).length≤3 * q from (bfrom_tot pa pb da db first q).2)
      have hsn:=Lib.hid (bfrom_snoc pa pb da db first q 0)
      have s1:=World.block_lt_of_cell? wr _ r1
      have s2:=World.block_lt_of_cell? wr _ r2
      have s3:=World.block_lt_of_cell? wr _ r3
      have s4:=World.block_lt_of_cell? wr _ r4
      have s5:w.heap.size < wr.heap.size:=by have:=hbel'.out.size;have:=hsB'.out;omega
      have s6:w.heap.size + 1 < wr.heap.size:=by have:=hbel'.out.size;have:=hsB'.out;omega
      rw [block_add] at s1 s2 s3 s4
      have r1':∀ o,(wr.alloc o).cell? (A1.add q) = some (.string ⟨(pa q).toArray⟩):=fun o=>(((Below.refl wr.heap.size wr).alloc (Nat.le_refl _) o).cell (p:=A1.add q) (by rw [block_add];exact s1)).trans r1
      clear hw0
      generalize hx:pa q = x at *
      generalize hy:pb q = y at *
      have hxH:=Lib.hid hx
      have hyH:=Lib.hid hy
      clear hx hy
      have hbW:wB.heap.size≤wr.heap.size:=hbel'.out.size
      have hlit:=Lib.hid (fun (o1 o2:Obj) (p2:List Pc)=>show ∀ j u,(p2.flatMap cellsOf)[j]? = some u→(((wr.alloc o1).alloc o2).alloc (.cells (p2.flatMap cellsOf).toArray 60)).cell? ((⟨wr.heap.size + 1 + 1,0,none⟩:Addr).add j) = some u from by
        have h:=lit_news ((wr.alloc o1).alloc o2) p2
        rw [show ((wr.alloc o1).alloc o2).heap.size = wr.heap.size + 1 + 1 by simp] at h
        exact h)
      have hB3:=Lib.hid (fun (o1 o2 o3:Obj)=>show Below wB.heap.size wB (((wr.alloc o1).alloc o2).alloc o3) from ((hbel'.out.alloc hbW _).alloc (by simp;omega) _).alloc (by simp;omega) _)
      cases first
      · cases hdq:db q
        · cases haq:da q
          · rw [haq] at r2;rw [hdq] at r4
            have haqH:=Lib.hid haq
            have hdqH:=Lib.hid hdq
            have hen:=Lib.hid (show Ltx.ends pa pb false (0 + q) ++ Ltx.mid da db (0 + q) = [⟨y.length,0,[]⟩,⟨0,0,x⟩] ++ [⟨1,0,[]⟩] by rw [Nat.zero_add,ends_false,hxH.out,hyH.out];unfold Ltx.mid;rw [hdq,haq];rfl)
            go_wp2_with (first | (at_builtin;refine wpList_append_pcs rfl (.tmp 37) (.tmp 40) rfl wB.heap.size _ _ [⟨y.length,0,[]⟩,⟨0,0,x⟩] rfl (((hown'.out.alloc _).alloc _).alloc _) ⟨wr.heap.size + 1 + 1,0,none⟩ 2 2 rfl rfl (hlit.out _ _ _) (by have:=hll.out;have:=hNN.out;omega) (by have:=(hB3.out (.cells #[] 0) (.cells #[] 0) (.cells #[] 0)).size;simp at this ⊢;omega) ?_;intro v2 w2 ho2 hg2;have hb2:=(hB3.out _ _ _).grown hg2 (hB3.out _ _ _).size (fun k hk=>(World.ownsRow.lt hown'.out k hk).1);have cA:=(hb2.block w.heap.size (by rw [hsB'.out];omega)).trans eA'.out;have cB:=(hb2.block (w.heap.size + 1) (by rw [hsB'.out];omega)).trans eB'.out;have a3:=cell_of_row w2 w.heap.size 1 _ _ _ cA;have b3:=cell_of_row w2 (w.heap.size + 1) 1 _ _ _ cB;simp at a3 b3;obtain ⟨-,t2,-,t4⟩:=hrow'.out w2 (hbB'.out.trans (hb2.mono (by rw [hsB'.out];omega))) q hqN;rw [hdq] at t4;rw [haq] at t2;obtain ⟨V3,V4,rfl,-,-,-,-⟩:=own_form ho2;obtain ⟨n2,hn2⟩:∃ n2,n2 = (bfrom pa pb da db false q 0 ++ ([⟨y.length,0,[]⟩,⟨0,0,x⟩]:List Pc)).length:=⟨_,rfl⟩;rw [← hn2] at ho2;rw [← hn2];have hn2':=Lib.hid hn2;clear hn2;have ho2':=Lib.hid ho2;have hb2':=Lib.hid hb2;have hs2:wB.heap.size≤w2.heap.size:=hb2.size;clear ho2 hb2 hg2 cA cB) | (at_builtin;refine wpList_append_pcs rfl (.tmp 42) (.tmp 44) rfl wB.heap.size _ _ [⟨1,0,[]⟩] rfl (ho2'.out.alloc _) ⟨w2.heap.size,0,none⟩ 1 1 rfl rfl (lit_news w2 _) (by have:=hll.out;have:=hNN.out;rw [List.length_append];simp;omega) (by simp;omega) ?_;intro v3 w3 ho3 hg3;have hb3:=(hb2'.out.alloc hs2 _).grown hg3 (by simp;omega) (fun k hk=>(World.ownsRow.lt ho2'.out k hk).1);obtain ⟨V5,V6,rfl,-,-,-,-⟩:=own_form ho3;obtain ⟨n3,hn3⟩:∃ n3,n3 = (bfrom pa pb da db false q 0 ++ ([⟨y.length,0,[]⟩,⟨0,0,x⟩]:List Pc) ++ ([⟨1,0,[]⟩]:List Pc)).length:=⟨_,rfl⟩;rw [← hn3] at ho3;rw [← hn3];have hn3':=Lib.hid hn3;clear hn3;have ho3':=Lib.hid ho3;have hb3':=Lib.hid hb3;clear ho3 hb3 hg3))
            go_roundw
            case rel =>
              refine ⟨q + 1,_,by omega,by go_num,rfl,?_,hb3'.out⟩
              have h:=ho3'.out
              rw [hsn.out,hen.out]
              rw [← List.append_assoc];exact h
            case measure=>simp [intOf];omega
          · rw [haq] at r2;rw [hdq] at r4
            have hen:=Lib.hid (show Ltx.ends pa pb false (0 + q) ++ Ltx.mid da db (0 + q) = [⟨y.length,0,[]⟩,⟨0,0,x⟩] ++ [⟨0,1,[]⟩] by rw [Nat.zero_add,ends_false,hxH.out,hyH.out];unfold Ltx.mid;rw [hdq,haq];rfl)
            go_wp2_with (first | (at_builtin;refine wpList_append_pcs rfl (.tmp 37) (.tmp 40) rfl wB.heap.size _ _ [⟨y.length,0,[]⟩,⟨0,0,x⟩] rfl (((hown'.out.alloc _).alloc _).alloc _) ⟨wr.heap.size + 1 + 1,0,none⟩ 2 2 rfl rfl (hlit.out _ _ _) (by have:=hll.out;have:=hNN.out;omega) (by have:=(hB3.out (.cells #[] 0) (.cells #[] 0) (.cells #[] 0)).size;simp at this ⊢;omega) ?_;intro v2 w2 ho2 hg2;have hb2:=(hB3.out _ _ _).grown hg2 (hB3.out _ _ _).size (fun k hk=>(World.ownsRow.lt hown'.out k hk).1);have cA:=(hb2.block w.heap.size (by rw [hsB'.out];omega)).trans eA'.out;have cB:=(hb2.block (w.heap.size + 1) (by rw [hsB'.out];omega)).trans eB'.out;have a3:=cell_of_row w2 w.heap.size 1 _ _ _ cA;have b3:=cell_of_row w2 (w.heap.size + 1) 1 _ _ _ cB;simp at a3 b3;obtain ⟨-,t2,-,t4⟩:=hrow'.out w2 (hbB'.out.trans (hb2.mono (by rw [hsB'.out];omega))) q hqN;rw [hdq] at t4;rw [haq] at t2;obtain ⟨V3,V4,rfl,-,-,-,-⟩:=own_form ho2;obtain ⟨n2,hn2⟩:∃ n2,n2 = (bfrom pa pb da db false q 0 ++ ([⟨y.length,0,[]⟩,⟨0,0,x⟩]:List Pc)).length:=⟨_,rfl⟩;rw [← hn2] at ho2;rw [← hn2];have hn2':=Lib.hid hn2;clear hn2;have ho2':=Lib.hid ho2;have hb2':=Lib.hid hb2;have hs2:wB.heap.size≤w2.heap.size:=hb2.size;clear ho2 hb2 hg2 cA cB) | (at_builtin;refine wpList_append_pcs rfl (.tmp 58) (.tmp 60) rfl wB.heap.size _ _ [⟨0,1,[]⟩] rfl (ho2'.out.alloc _) ⟨w2.heap.size,0,none⟩ 1 1 rfl rfl (lit_news w2 _) (by have:=hll.out;have:=hNN.out;rw [List.length_append];simp;omega) (by simp;omega) ?_;intro v3 w3 ho3 hg3;have hb3:=(hb2'.out.alloc hs2 _).grown hg3 (by simp;omega) (fun k hk=>(World.ownsRow.lt ho2'.out k hk).1);obtain ⟨V5,V6,rfl,-,-,-,-⟩:=own_form ho3;obtain ⟨n3,hn3⟩:∃ n3,n3 = (bfrom pa pb da db false q 0 ++ ([⟨y.length,0,[]⟩,⟨0,0,x⟩]:List Pc) ++ ([⟨0,1,[]⟩]:List Pc)).length:=⟨_,rfl⟩;rw [← hn3] at ho3;rw [← hn3];have hn3':=Lib.hid hn3;clear hn3;have ho3':=Lib.hid ho3;have hb3':=Lib.hid hb3;clear ho3 hb3 hg3))
            go_roundw
            case rel =>
              refine ⟨q + 1,_,by omega,by go_num,rfl,?_,hb3'.out⟩
              have h:=ho3'.out
              rw [hsn.out,hen.out]
              rw [← List.append_assoc];exact h
            case measure=>simp [intOf];omega
        · rw [hdq] at r4
          have hen:=Lib.hid (show Ltx.ends pa pb false (0 + q) ++ Ltx.mid da db (0 + q) = [⟨y.length,0,[]⟩,⟨0,0,x⟩] ++ [] by rw [Nat.zero_add,ends_false,hxH.out,hyH.out];unfold Ltx.mid;rw [hdq];rfl)
          go_wp2_with ((at_builtin;refine wpList_append_pcs rfl (.tmp 37) (.tmp 40) rfl wB.heap.size _ _ [⟨y.length,0,[]⟩,⟨0,0,x⟩] rfl (((hown'.out.alloc _).alloc _).alloc _) ⟨wr.heap.size + 1 + 1,0,none⟩ 2 2 rfl rfl (hlit.out _ _ _) (by have:=hll.out;have:=hNN.out;omega) (by have:=(hB3.out (.cells #[] 0) (.cells #[] 0) (.cells #[] 0)).size;simp at this ⊢;omega) ?_;intro v2 w2 ho2 hg2;have hb2:=(hB3.out _ _ _).grown hg2 (hB3.out _ _ _).size (fun k hk=>(World.ownsRow.lt hown'.out k hk).1);have cA:=(hb2.block w.heap.size (by rw [hsB'.out];omega)).trans eA'.out;have cB:=(hb2.block (w.heap.size + 1) (by rw [hsB'.out];omega)).trans eB'.out;have a3:=cell_of_row w2 w.heap.size 1 _ _ _ cA;have b3:=cell_of_row w2 (w.heap.size + 1) 1 _ _ _ cB;simp at a3 b3;obtain ⟨-,t2,-,t4⟩:=hrow'.out w2 (hbB'.out.trans (hb2.mono (by rw [hsB'.out];omega))) q hqN;rw [hdq] at t4;obtain ⟨V3,V4,rfl,-,-,-,-⟩:=own_form ho2;obtain ⟨n2,hn2⟩:∃ n2,n2 = (bfrom pa pb da db false q 0 ++ ([⟨y.length,0,[]⟩,⟨0,0,x⟩]:List Pc)).length:=⟨_,rfl⟩;rw [← hn2] at ho2;rw [← hn2];have hn2':=Lib.hid hn2;clear hn2;have ho2':=Lib.hid ho2;have hb2':=Lib.hid hb2;have hs2:wB.heap.size≤w2.heap.size:=hb2.size;clear ho2 hb2 hg2 cA cB))
          go_roundw
          case rel =>
            refine ⟨q + 1,_,by omega,by go_num,rfl,?_,hb2'.out⟩
            have h:=ho2'.out
            rw [hsn.out,hen.out]
            rw [List.append_nil];exact h
          case measure=>simp [intOf];omega
      · cases hdq:db q
        · cases haq:da q
          · rw [haq] at r2;rw [hdq] at r4
            have haqH:=Lib.hid haq
            have hdqH:=Lib.hid hdq
            have hen:=Lib.hid (show Ltx.ends pa pb true (0 + q) ++ Ltx.mid da db (0 + q) = [⟨0,0,x⟩,⟨y.length,0,[]⟩] ++ [⟨1,0,[]⟩] by rw [Nat.zero_add,ends_true,hxH.out,hyH.out];unfold Ltx.mid;rw [hdq,haq];rfl)
            go_wp2_with (first | (at_builtin;refine wpList_append_pcs rfl (.tmp 32) (.tmp 35) rfl wB.heap.size _ _ [⟨0,0,x⟩,⟨y.length,0,[]⟩] rfl (((hown'.out.alloc _).alloc _).alloc _) ⟨wr.heap.size + 1 + 1,0,none⟩ 2 2 rfl rfl (hlit.out _ _ _) (by have:=hll.out;have:=hNN.out;omega) (by have:=(hB3.out (.cells #[] 0) (.cells #[] 0) (.cells #[] 0)).size;simp at this ⊢;omega) ?_;intro v2 w2 ho2 hg2;have hb2:=(hB3.out _ _ _).grown hg2 (hB3.out _ _ _).size (fun k hk=>(World.ownsRow.lt hown'.out k hk).1);have cA:=(hb2.block w.heap.size (by rw [hsB'.out];omega)).trans eA'.out;have cB:=(hb2.block (w.heap.size + 1) (by rw [hsB'.out];omega)).trans eB'.out;have a3:=cell_of_row w2 w.heap.size 1 _ _ _ cA;have b3:=cell_of_row w2 (w.heap.size + 1) 1 _ _ _ cB;simp at a3 b3;obtain ⟨-,t2,-,t4⟩:=hrow'.out w2 (hbB'.out.trans (hb2.mono (by rw [hsB'.out];omega))) q hqN;rw [hdq] at t4;rw [haq] at t2;obtain ⟨V3,V4,rfl,-,-,-,-⟩:=own_form ho2;obtain ⟨n2,hn2⟩:∃ n2,n2 = (bfrom pa pb da db true q 0 ++ ([⟨0,0,x⟩,⟨y.length,0,[]⟩]:List Pc)).length:=⟨_,rfl⟩;rw [← hn2] at ho2;rw [← hn2];have hn2':=Lib.hid hn2;clear hn2;have ho2':=Lib.hid ho2;have hb2':=Lib.hid hb2;have hs2:wB.heap.size≤w2.heap.size:=hb2.size;clear ho2 hb2 hg2 cA cB) | (at_builtin;refine wpList_append_pcs rfl (.tmp 42) (.tmp 44) rfl wB.heap.size _ _ [⟨1,0,[]⟩] rfl (ho2'.out.alloc _) ⟨w2.heap.size,0,none⟩ 1 1 rfl rfl (lit_news w2 _) (by have:=hll.out;have:=hNN.out;rw [List.length_append];simp;omega) (by simp;omega) ?_;intro v3 w3 ho3 hg3;have hb3:=(hb2'.out.alloc hs2 _).grown hg3 (by simp;omega) (fun k hk=>(World.ownsRow.lt ho2'.out k hk).1);obtain ⟨V5,V6,rfl,-,-,-,-⟩:=own_form ho3;obtain ⟨n3,hn3⟩:∃ n3,n3 = (bfrom pa pb da db true q 0 ++ ([⟨0,0,x⟩,⟨y.length,0,[]⟩]:List Pc) ++ ([⟨1,0,[]⟩]:List Pc)).length:=⟨_,rfl⟩;rw [← hn3] at ho3;rw [← hn3];have hn3':=Lib.hid hn3;clear hn3;have ho3':=Lib.hid ho3;have hb3':=Lib.hid hb3;clear ho3 hb3 hg3))
            go_roundw
            case rel =>
              refine ⟨q + 1,_,by omega,by go_num,rfl,?_,hb3'.out⟩
              have h:=ho3'.out
              rw [hsn.out,hen.out]
              rw [← List.append_assoc];exact h
            case measure=>simp [intOf];omega
          · rw [haq] at r2;rw [hdq] at r4
            have hen:=Lib.hid (show Ltx.ends pa pb true (0 + q) ++ Ltx.mid da db (0 + q) = [⟨0,0,x⟩,⟨y.length,0,[]⟩] ++ [⟨0,1,[]⟩] by rw [Nat.zero_add,ends_true,hxH.out,hyH.out];unfold Ltx.mid;rw [hdq,haq];rfl)
            go_wp2_with (first | (at_builtin;refine wpList_append_pcs rfl (.tmp 32) (.tmp 35) rfl wB.heap.size _ _ [⟨0,0,x⟩,⟨y.length,0,[]⟩] rfl (((hown'.out.alloc _).alloc _).alloc _) ⟨wr.heap.size + 1 + 1,0,none⟩ 2 2 rfl rfl (hlit.out _ _ _) (by have:=hll.out;have:=hNN.out;omega) (by have:=(hB3.out (.cells #[] 0) (.cells #[] 0) (.cells #[] 0)).size;simp at this ⊢;omega) ?_;intro v2 w2 ho2 hg2;have hb2:=(hB3.out _ _ _).grown hg2 (hB3.out _ _ _).size (fun k hk=>(World.ownsRow.lt hown'.out k hk).1);have cA:=(hb2.block w.heap.size (by rw [hsB'.out];omega)).trans eA'.out;have cB:=(hb2.block (w.heap.size + 1) (by rw [hsB'.out];omega)).trans eB'.out;have a3:=cell_of_row w2 w.heap.size 1 _ _ _ cA;have b3:=cell_of_row w2 (w.heap.size + 1) 1 _ _ _ cB;simp at a3 b3;obtain ⟨-,t2,-,t4⟩:=hrow'.out w2 (hbB'.out.trans (hb2.mono (by rw [hsB'.out];omega))) q hqN;rw [hdq] at t4;rw [haq] at t2;obtain ⟨V3,V4,rfl,-,-,-,-⟩:=own_form ho2;obtain ⟨n2,hn2⟩:∃ n2,n2 = (bfrom pa pb da db true q 0 ++ ([⟨0,0,x⟩,⟨y.length,0,[]⟩]:List Pc)).length:=⟨_,rfl⟩;rw [← hn2] at ho2;rw [← hn2];have hn2':=Lib.hid hn2;clear hn2;have ho2':=Lib.hid ho2;have hb2':=Lib.hid hb2;have hs2:wB.heap.size≤w2.heap.size:=hb2.size;clear ho2 hb2 hg2 cA cB) | (at_builtin;refine wpList_append_pcs rfl (.tmp 58) (.tmp 60) rfl wB.heap.size _ _ [⟨0,1,[]⟩] rfl (ho2'.out.alloc _) ⟨w2.heap.size,0,none⟩ 1 1 rfl rfl (lit_news w2 _) (by have:=hll.out;have:=hNN.out;rw [List.length_append];simp;omega) (by simp;omega) ?_;intro v3 w3 ho3 hg3;have hb3:=(hb2'.out.alloc hs2 _).grown hg3 (by simp;omega) (fun k hk=>(World.ownsRow.lt ho2'.out k hk).1);obtain ⟨V5,V6,rfl,-,-,-,-⟩:=own_form ho3;obtain ⟨n3,hn3⟩:∃ n3,n3 = (bfrom pa pb da db true q 0 ++ ([⟨0,0,x⟩,⟨y.length,0,[]⟩]:List Pc) ++ ([⟨0,1,[]⟩]:List Pc)).length:=⟨_,rfl⟩;rw [← hn3] at ho3;rw [← hn3];have hn3':=Lib.hid hn3;clear hn3;have ho3':=Lib.hid ho3;have hb3':=Lib.hid hb3;clear ho3 hb3 hg3))
            go_roundw
            case rel =>
              refine ⟨q + 1,_,by omega,by go_num,rfl,?_,hb3'.out⟩
              have h:=ho3'.out
              rw [hsn.out,hen.out]
              rw [← List.append_assoc];exact h
            case measure=>simp [intOf];omega
        · rw [hdq] at r4
          have hen:=Lib.hid (show Ltx.ends pa pb true (0 + q) ++ Ltx.mid da db (0 + q) = [⟨0,0,x⟩,⟨y.length,0,[]⟩] ++ [] by rw [Nat.zero_add,ends_true,hxH.out,hyH.out];unfold Ltx.mid;rw [hdq];rfl)
          go_wp2_with ((at_builtin;refine wpList_append_pcs rfl (.tmp 32) (.tmp 35) rfl wB.heap.size _ _ [⟨0,0,x⟩,⟨y.length,0,[]⟩] rfl (((hown'.out.alloc _).alloc _).alloc _) ⟨wr.heap.size + 1 + 1,0,none⟩ 2 2 rfl rfl (hlit.out _ _ _) (by have:=hll.out;have:=hNN.out;omega) (by have:=(hB3.out (.cells #[] 0) (.cells #[] 0) (.cells #[] 0)).size;simp at this ⊢;omega) ?_;intro v2 w2 ho2 hg2;have hb2:=(hB3.out _ _ _).grown hg2 (hB3.out _ _ _).size (fun k hk=>(World.ownsRow.lt hown'.out k hk).1);have cA:=(hb2.block w.heap.size (by rw [hsB'.out];omega)).trans eA'.out;have cB:=(hb2.block (w.heap.size + 1) (by rw [hsB'.out];omega)).trans eB'.out;have a3:=cell_of_row w2 w.heap.size 1 _ _ _ cA;have b3:=cell_of_row w2 (w.heap.size + 1) 1 _ _ _ cB;simp at a3 b3;obtain ⟨-,t2,-,t4⟩:=hrow'.out w2 (hbB'.out.trans (hb2.mono (by rw [hsB'.out];omega))) q hqN;rw [hdq] at t4;obtain ⟨V3,V4,rfl,-,-,-,-⟩:=own_form ho2;obtain ⟨n2,hn2⟩:∃ n2,n2 = (bfrom pa pb da db true q 0 ++ ([⟨0,0,x⟩,⟨y.length,0,[]⟩]:List Pc)).length:=⟨_,rfl⟩;rw [← hn2] at ho2;rw [← hn2];have hn2':=Lib.hid hn2;clear hn2;have ho2':=Lib.hid ho2;have hb2':=Lib.hid hb2;have hs2:wB.heap.size≤w2.heap.size:=hb2.size;clear ho2 hb2 hg2 cA cB))
          go_roundw
          case rel =>
            refine ⟨q + 1,_,by omega,by go_num,rfl,?_,hb2'.out⟩
            have h:=ho2'.out
            rw [hsn.out,hen.out]
            rw [List.append_nil];exact h
          case measure=>simp [intOf];omega
    · have hqI:¬ (q:Int) < (N:Int):=by omega
      have hqn:q = N:=by omega
      have hown2:=Lib.hid (show OwnP wB.heap.size wr (.slice V1 (bfrom pa pb da db first q 0).length V2) (bfrom pa pb da db first N 0) by rw [← hqn];exact hown'.out)
      obtain ⟨L,hL⟩:∃ L,L = (bfrom pa pb da db first q 0).length:=⟨_,rfl⟩
      rw [← hL] at hown2
      rw [← hL]
      have hfz:=bfrom_tot pa pb da db first N
      have hsm2:totP (bfrom pa pb da db first N 0)≤1000000:=by have:=hsumH.out;have:=hNN.out;omega
      have hll2:(bfrom pa pb da db first N 0).length≤1000000:=by have:=hNN.out;omega
      obtain ⟨Ax,nx,cx,e1,hnx,-,hcx,hPx,-⟩:=hown2.out.shape (low_of (by omega))
      injection e1 with e2 e3 e4
      subst e2 e3 e4
      have hPx':=Lib.hid hPx
      have hLm:L≤maxLen:=by unfold maxLen;omega
      clear hPx hL hqn hown' hnx
      go_wp2_with (go_at_call 75;refine (rnorm_any wr V1 L V2 _ hPx'.out hLm hsm2 hll2).mono ?_;rintro e w5 ⟨v,rfl,hv,hb5⟩;have hv':=Lib.hid hv;have hb5':=Lib.hid hb5;clear hv hb5)
      go_ret
      refine ⟨v,rfl,?_,?_⟩
      · have h:=hv'.out
        rw [hfin.out] at h
        exact own_base h (by have:=hbel'.out.size;have:=hsB'.out;omega)
      · exact (hbB'.out.trans (hbel'.out.mono (by rw [hsB'.out];omega))).trans (hb5'.out.mono (by have:=hbel'.out.size;have:=hsB'.out;omega))
end Go.Proofs.Ytidimannfemnmaa.P5
