/- The chapter's examples: the law's works. -/
import Derived.Test.YtidimannfemnmaaMgAZ
import Derived.Test.YtidimannfemnmaaSqrW
set_option linter.all false
namespace Go.Proofs.Ytidimannfemnmaa.Lst
open Go.RowKit Top Shf Sim Sqr
set_option maxRecDepth 20000

theorem news_at:∀ (w:World) (l:List Obj),Below w.heap.size w (l.foldl World.alloc w)∧∀ (i:Nat) (o:Obj),l[i]? = some o→(l.foldl World.alloc w).heap[w.heap.size + i]? = some o
  | w,[]=>⟨Below.refl _ _,fun i o h=>by simp at h⟩
  | w,a :: l=>by
    obtain ⟨h1,h2⟩:=news_at (w.alloc a) l
    have e:(w.alloc a).heap.size = w.heap.size + 1:=by simp
    have hb:Below w.heap.size w (w.alloc a):=(Below.refl _ _).alloc (Nat.le_refl _) _
    refine ⟨hb.trans (h1.mono hb.size),fun i o h=>?_⟩
    cases i with
    | zero =>
      simp at h
      subst h
      exact (h1.block w.heap.size (by omega)).trans (heap_alloc_new w a)
    | succ i =>
      have h3:=h2 i o (by simpa using h)
      rw [e] at h3
      rw [show w.heap.size + (i + 1) = w.heap.size + 1 + i by omega]
      exact h3
theorem elev_blk {W:World} {k:Nat} {cs:Array Value} {t:TypeId} {fr:Nat × Nat} (h:W.heap[k]? = some (.cells cs t fr)) (j:Nat) (x:Ov × OS) (hc:∀ i u,(opL x)[i]? = some u→cs[j * 11 + i]? = some u):Elev W ((⟨k,0,none⟩:Addr).add (j * 11)) x.1 x.2:=by
  rw [add_zero_off]
  have c:∀ i u,(opL x)[i]? = some u→W.cell? ⟨k,j * 11 + i,none⟩ = some u:=fun i u hi=>(cell_of_row W k _ _ _ _ h).trans (hc i u hi)
  exact ⟨c 0 _ rfl,c 1 _ rfl,c 2 _ rfl,c 3 _ rfl,c 4 _ rfl,c 5 _ rfl,c 6 _ rfl,c 7 _ rfl,c 8 _ rfl,c 9 _ rfl,c 10 _ rfl⟩
theorem ops_lit1 {W:World} {k:Nat} {x:Ov × OS} {t:TypeId} {fr:Nat × Nat} (h:W.heap[k]? = some (.cells (opL x).toArray t fr)) (hx:OpIn W x.1 x.2):OpsR W (some ⟨k,0,none⟩) 1 [x] :=
  ⟨rfl,fun q y hy=>by
    match q,hy with
    | 0,hy =>
      injection hy with hy
      subst hy
      exact ⟨hx,_,rfl,(Array.getElem?_eq_some_iff.1 h).1,elev_blk h 0 _ fun i u hi=>by simpa using hi⟩
    | q + 1,hy=>simp at hy⟩
theorem ops_lit2 {W:World} {k:Nat} {x y:Ov × OS} {t:TypeId} {fr:Nat × Nat} (h:W.heap[k]? = some (.cells (opL x ++ opL y).toArray t fr)) (hx:OpIn W x.1 x.2) (hy:OpIn W y.1 y.2):OpsR W (some ⟨k,0,none⟩) 2 [x,y] :=
  ⟨rfl,fun q z hz=>by
    match q,hz with
    | 0,hz =>
      injection hz with hz
      subst hz
      refine ⟨hx,_,rfl,(Array.getElem?_eq_some_iff.1 h).1,elev_blk h 0 _ fun i u hi=>?_⟩
      have hl:=(List.getElem?_eq_some_iff.1 hi).1
      rw [List.getElem?_toArray,Nat.zero_mul,Nat.zero_add,List.getElem?_append_left hl]
      exact hi
    | 1,hz =>
      injection hz with hz
      subst hz
      refine ⟨hy,_,rfl,(Array.getElem?_eq_some_iff.1 h).1,elev_blk h 1 _ fun i u hi=>?_⟩
      rw [List.getElem?_toArray,List.getElem?_append_right (by rw [opL_len];omega),opL_len,show 1 * 11 + i - 11 = i by omega]
      exact hi
    | q + 2,hz=>simp at hz⟩
theorem wkB {X:World} {A B:Option Addr} {na ca nb cb:Nat} {la lb:List (Ov × OS)} {p:Bool} (hA:OpsR X A na la) (hB:OpsR X B nb lb) (hlen:na + nb≤4096) {r1 r2:List Ov} (hr:metV p 40 ((la.map Prod.fst).map bareV) ((lb.map Prod.fst).map bareV) = some (r1,r2,0)) :
    Calls Try.prog 59 #[.slice A na ca,.slice B nb cb,.bool p] X fun e w'=>∃ A1 n1 c1 l1 A2 n2 c2 l2,e = .returned (.tuple #[.slice A1 n1 c1,.slice A2 n2 c2,.int .i64 0])∧NewO X.heap.size w' A1 n1 c1 l1∧NewO X.heap.size w' A2 n2 c2 l2∧l1.map Prod.fst = r1∧l2.map Prod.fst = r2∧Below X.heap.size X w' :=
  (lboth_any X A na ca la B nb cb lb p 40 (r1,r2,0) hA hB hlen hr).mono fun e w' h=>h
theorem wk_len {b:Nat} {w:World} {A:Option Addr} {n c:Nat} {l:List (Ov × OS)} {r:List Ov} (h:NewO b w A n c l) (e:l.map Prod.fst = r):n = r.length:=by
  rw [← e,List.length_map,h.len]
theorem wk_at {b:Nat} {w:World} {A:Option Addr} {n c:Nat} {l:List (Ov × OS)} {r:List Ov} (h:NewO b w A n c l) (e:l.map Prod.fst = r) {q:Nat} {o:Ov} (hq:r[q]? = some o):∃ g s,A = some ⟨g,0,none⟩∧∀ W,Below w.heap.size w W→Elev W ⟨g,q * 11,none⟩ o s∧OpIn W o s:=by
  rw [← e,List.getElem?_map] at hq
  cases hx:l[q]? with
  | none=>rw [hx] at hq;cases hq
  | some x =>
    rw [hx] at hq
    injection hq with hq
    subst hq
    obtain ⟨A1,n1,c1,e1,-,-,-,-,h5⟩:=h.1.shape
    injection e1 with e11 e12 e13
    subst e11
    obtain ⟨g,rfl,-,hl,he⟩:=h5 q x hx
    obtain ⟨k1,k2⟩:=h.2 x (List.mem_of_getElem? hx)
    exact ⟨g,x.2,rfl,fun W hW=>⟨he.kept (hW.block g hl),(k1.op k2).below hW⟩⟩
set_option maxHeartbeats 32000000 in
theorem works_any (w:World):Calls Try.prog 58 #[] w fun e w'=>e = .returned (.bool true)∧Below w.heap.size w w':=by
  go_enter Try.func58,Try.ntmps58
  go_upto_region 1 with fail
  obtain ⟨x1,hx1⟩:∃ Q9,Q9 = (((w.alloc (.cells #[.int .u8 1,.slice none 0 0,.int .i64 0,.slice none 0 0,.int .u64 0,.bool false,.string ⟨#[]⟩,.string ⟨#[]⟩,.string ⟨#[]⟩,.bool false,.slice none 0 0,.int .u8 1,.slice none 0 0,.int .i64 2,.slice none 0 0,.int .u64 0,.bool false,.string ⟨#[]⟩,.string ⟨#[]⟩,.string ⟨#[]⟩,.bool false,.slice none 0 0] 52)).alloc (.cells #[.int .i64 1] 3)).alloc (.cells #[.int .u8 2,.slice (some ⟨w.heap.size + 1,0,none⟩) 1 1,.int .i64 0,.slice none 0 0,.int .u64 0,.bool false,.string ⟨#[]⟩,.string ⟨#[]⟩,.string ⟨#[]⟩,.bool false,.slice none 0 0] 52)):=⟨_,rfl⟩
  have nx0:=news_at w [(.cells #[.int .u8 1,.slice none 0 0,.int .i64 0,.slice none 0 0,.int .u64 0,.bool false,.string ⟨#[]⟩,.string ⟨#[]⟩,.string ⟨#[]⟩,.bool false,.slice none 0 0,.int .u8 1,.slice none 0 0,.int .i64 2,.slice none 0 0,.int .u64 0,.bool false,.string ⟨#[]⟩,.string ⟨#[]⟩,.string ⟨#[]⟩,.bool false,.slice none 0 0] 52),(.cells #[.int .i64 1] 3),(.cells #[.int .u8 2,.slice (some ⟨w.heap.size + 1,0,none⟩) 1 1,.int .i64 0,.slice none 0 0,.int .u64 0,.bool false,.string ⟨#[]⟩,.string ⟨#[]⟩,.string ⟨#[]⟩,.bool false,.slice none 0 0] 52)]
  simp only [List.foldl_cons,List.foldl_nil] at nx0
  rw [← hx1] at nx0
  have bx0:=Lib.hid nx0.1
  have hc0:=Lib.hid (wkB (X:=x1) (A:=(some ⟨w.heap.size,0,none⟩)) (na:=2) (ca:=2) (B:=(some ⟨w.heap.size + 1 + 1,0,none⟩)) (nb:=1) (cb:=1) (la:=[((⟨1,[],0,[],0,false,[],[],[],false,[]⟩:Ov),(⟨none,0,0,none,0,0,none,0,0⟩:OS)),((⟨1,[],2,[],0,false,[],[],[],false,[]⟩:Ov),(⟨none,0,0,none,0,0,none,0,0⟩:OS))]) (lb:=[((⟨2,[1],0,[],0,false,[],[],[],false,[]⟩:Ov),(⟨some ⟨w.heap.size + 1,0,none⟩,1,1,none,0,0,none,0,0⟩:OS))]) (p:=true) (ops_lit2 (nx0.2 0 _ rfl) (show OpIn x1 (⟨1,[],0,[],0,false,[],[],[],false,[]⟩:Ov) (⟨none,0,0,none,0,0,none,0,0⟩:OS) from lit1 (Its.none_ _) (Its.none_ _) (fun e=>by first | rfl | cases e) (fun e=>by first | rfl | cases e) (f1:=lit_fit) (f2:=lit_fit)) (show OpIn x1 (⟨1,[],2,[],0,false,[],[],[],false,[]⟩:Ov) (⟨none,0,0,none,0,0,none,0,0⟩:OS) from lit1 (Its.none_ _) (Its.none_ _) (fun e=>by first | rfl | cases e) (fun e=>by first | rfl | cases e) (f1:=lit_fit) (f2:=lit_fit))) (ops_lit1 (nx0.2 2 _ rfl) (show OpIn x1 (⟨2,[1],0,[],0,false,[],[],[],false,[]⟩:Ov) (⟨some ⟨w.heap.size + 1,0,none⟩,1,1,none,0,0,none,0,0⟩:OS) from lit1 (lit_its2 (xs:=[1]) (nx0.2 1 _ rfl)) (Its.none_ _) (fun e=>by first | rfl | cases e) (fun e=>by first | rfl | cases e) (f1:=lit_fit) (f2:=lit_fit))) (by decide) (r1:=([(⟨1,[],0,[],0,false,[],[],[],false,[]⟩:Ov),(⟨1,[],2,[],0,false,[],[],[],false,[]⟩:Ov)]:List Ov)) (r2:=([(⟨2,[3],0,[],0,false,[],[],[],false,[]⟩:Ov)]:List Ov)) (by kernel_rfl))
  clear nx0
  go_upto_region 2 with (go_at_call 59;(rw [← hx1];refine hc0.out.mono ?_;rintro e w1 ⟨A1,n1,c1,l1,B1,m1,d1,k1,rfl,hN1,hN2,hL1,hL2,hb⟩;have N1:=Lib.hid hN1;have M1:=Lib.hid hN2;have P1:=Lib.hid hL1;have Q1:=Lib.hid hL2;have E1:=Lib.hid (bx0.out.trans (hb.mono bx0.out.size));have V1:=Lib.hid ((Below.refl w.heap.size w).trans (Below.mono (bx0.out.trans (hb.mono bx0.out.size)) (Below.size (Below.refl w.heap.size w))));clear hb hN1 hN2 hL1 hL2))
  clear hx1
  obtain ⟨x2,hx2⟩:∃ Q9,Q9 = ((((((w1.alloc (.cells #[.int .i64 0] 3)).alloc (.cells #[.int .i64 0] 3)).alloc (.cells #[.int .u8 2,.slice (some ⟨w1.heap.size,0,none⟩) 1 1,.int .i64 0,.slice none 0 0,.int .u64 0,.bool false,.string ⟨#[]⟩,.string ⟨#[]⟩,.string ⟨#[]⟩,.bool false,.slice none 0 0,.int .u8 2,.slice (some ⟨w1.heap.size + 1,0,none⟩) 1 1,.int .i64 0,.slice none 0 0,.int .u64 0,.bool false,.string ⟨#[]⟩,.string ⟨#[]⟩,.string ⟨#[]⟩,.bool false,.slice none 0 0] 52)).alloc (.cells #[.int .i64 0] 3)).alloc (.cells #[.int .i64 1] 3)).alloc (.cells #[.int .u8 5,.slice (some ⟨w1.heap.size + 1 + 1 + 1,0,none⟩) 1 1,.int .i64 0,.slice none 0 0,.int .u64 0,.bool false,.string ⟨#[]⟩,.string ⟨#[]⟩,.string ⟨#[]⟩,.bool false,.slice none 0 0,.int .u8 5,.slice (some ⟨w1.heap.size + 1 + 1 + 1 + 1,0,none⟩) 1 1,.int .i64 0,.slice none 0 0,.int .u64 0,.bool false,.string ⟨#[]⟩,.string ⟨#[]⟩,.string ⟨#[]⟩,.bool false,.slice none 0 0] 52)):=⟨_,rfl⟩
  have nx1:=news_at w1 [(.cells #[.int .i64 0] 3),(.cells #[.int .i64 0] 3),(.cells #[.int .u8 2,.slice (some ⟨w1.heap.size,0,none⟩) 1 1,.int .i64 0,.slice none 0 0,.int .u64 0,.bool false,.string ⟨#[]⟩,.string ⟨#[]⟩,.string ⟨#[]⟩,.bool false,.slice none 0 0,.int .u8 2,.slice (some ⟨w1.heap.size + 1,0,none⟩) 1 1,.int .i64 0,.slice none 0 0,.int .u64 0,.bool false,.string ⟨#[]⟩,.string ⟨#[]⟩,.string ⟨#[]⟩,.bool false,.slice none 0 0] 52),(.cells #[.int .i64 0] 3),(.cells #[.int .i64 1] 3),(.cells #[.int .u8 5,.slice (some ⟨w1.heap.size + 1 + 1 + 1,0,none⟩) 1 1,.int .i64 0,.slice none 0 0,.int .u64 0,.bool false,.string ⟨#[]⟩,.string ⟨#[]⟩,.string ⟨#[]⟩,.bool false,.slice none 0 0,.int .u8 5,.slice (some ⟨w1.heap.size + 1 + 1 + 1 + 1,0,none⟩) 1 1,.int .i64 0,.slice none 0 0,.int .u64 0,.bool false,.string ⟨#[]⟩,.string ⟨#[]⟩,.string ⟨#[]⟩,.bool false,.slice none 0 0] 52)]
  simp only [List.foldl_cons,List.foldl_nil] at nx1
  rw [← hx2] at nx1
  have bx1:=Lib.hid nx1.1
  have hc1:=Lib.hid (wkB (X:=x2) (A:=(some ⟨w1.heap.size + 1 + 1,0,none⟩)) (na:=2) (ca:=2) (B:=(some ⟨w1.heap.size + 1 + 1 + 1 + 1 + 1,0,none⟩)) (nb:=2) (cb:=2) (la:=[((⟨2,[0],0,[],0,false,[],[],[],false,[]⟩:Ov),(⟨some ⟨w1.heap.size,0,none⟩,1,1,none,0,0,none,0,0⟩:OS)),((⟨2,[0],0,[],0,false,[],[],[],false,[]⟩:Ov),(⟨some ⟨w1.heap.size + 1,0,none⟩,1,1,none,0,0,none,0,0⟩:OS))]) (lb:=[((⟨5,[0],0,[],0,false,[],[],[],false,[]⟩:Ov),(⟨some ⟨w1.heap.size + 1 + 1 + 1,0,none⟩,1,1,none,0,0,none,0,0⟩:OS)),((⟨5,[1],0,[],0,false,[],[],[],false,[]⟩:Ov),(⟨some ⟨w1.heap.size + 1 + 1 + 1 + 1,0,none⟩,1,1,none,0,0,none,0,0⟩:OS))]) (p:=true) (ops_lit2 (nx1.2 2 _ rfl) (show OpIn x2 (⟨2,[0],0,[],0,false,[],[],[],false,[]⟩:Ov) (⟨some ⟨w1.heap.size,0,none⟩,1,1,none,0,0,none,0,0⟩:OS) from lit1 (lit_its2 (xs:=[0]) (nx1.2 0 _ rfl)) (Its.none_ _) (fun e=>by first | rfl | cases e) (fun e=>by first | rfl | cases e) (f1:=lit_fit) (f2:=lit_fit)) (show OpIn x2 (⟨2,[0],0,[],0,false,[],[],[],false,[]⟩:Ov) (⟨some ⟨w1.heap.size + 1,0,none⟩,1,1,none,0,0,none,0,0⟩:OS) from lit1 (lit_its2 (xs:=[0]) (nx1.2 1 _ rfl)) (Its.none_ _) (fun e=>by first | rfl | cases e) (fun e=>by first | rfl | cases e) (f1:=lit_fit) (f2:=lit_fit))) (ops_lit2 (nx1.2 5 _ rfl) (show OpIn x2 (⟨5,[0],0,[],0,false,[],[],[],false,[]⟩:Ov) (⟨some ⟨w1.heap.size + 1 + 1 + 1,0,none⟩,1,1,none,0,0,none,0,0⟩:OS) from lit1 (lit_its2 (xs:=[0]) (nx1.2 3 _ rfl)) (Its.none_ _) (fun e=>by first | rfl | cases e) (fun e=>by first | rfl | cases e) (f1:=lit_fit) (f2:=lit_fit)) (show OpIn x2 (⟨5,[1],0,[],0,false,[],[],[],false,[]⟩:Ov) (⟨some ⟨w1.heap.size + 1 + 1 + 1 + 1,0,none⟩,1,1,none,0,0,none,0,0⟩:OS) from lit1 (lit_its2 (xs:=[1]) (nx1.2 4 _ rfl)) (Its.none_ _) (fun e=>by first | rfl | cases e) (fun e=>by first | rfl | cases e) (f1:=lit_fit) (f2:=lit_fit))) (by decide) (r1:=([(⟨2,[0],0,[],0,false,[],[],[],false,[]⟩:Ov),(⟨2,[0],0,[],0,false,[],[],[],false,[]⟩:Ov)]:List Ov)) (r2:=([]:List Ov)) (by kernel_rfl))
  clear nx1
  go_upto_region 3 with (go_at_call 59;(rw [← hx2];refine hc1.out.mono ?_;rintro e w2 ⟨A2,n2,c2,l2,B2,m2,d2,k2,rfl,hN1,hN2,hL1,hL2,hb⟩;have N2:=Lib.hid hN1;have M2:=Lib.hid hN2;have P2:=Lib.hid hL1;have Q2:=Lib.hid hL2;have E2:=Lib.hid (bx1.out.trans (hb.mono bx1.out.size));have V2:=Lib.hid ((V1.out).trans (Below.mono (bx1.out.trans (hb.mono bx1.out.size)) (Below.size (V1.out))));clear hb hN1 hN2 hL1 hL2))
  clear hx2
  obtain ⟨x3,hx3⟩:∃ Q9,Q9 = ((w2.alloc (.cells #[.int .i64 1] 3)).alloc (.cells #[.int .u8 2,.slice (some ⟨w2.heap.size,0,none⟩) 1 1,.int .i64 0,.slice none 0 0,.int .u64 0,.bool false,.string ⟨#[]⟩,.string ⟨#[]⟩,.string ⟨#[]⟩,.bool false,.slice none 0 0] 52)):=⟨_,rfl⟩
  have nx2:=news_at w2 [(.cells #[.int .i64 1] 3),(.cells #[.int .u8 2,.slice (some ⟨w2.heap.size,0,none⟩) 1 1,.int .i64 0,.slice none 0 0,.int .u64 0,.bool false,.string ⟨#[]⟩,.string ⟨#[]⟩,.string ⟨#[]⟩,.bool false,.slice none 0 0] 52)]
  simp only [List.foldl_cons,List.foldl_nil] at nx2
  rw [← hx3] at nx2
  have bx2:=Lib.hid nx2.1
  have hc2:=Lib.hid (wkB (X:=x3) (A:=none) (na:=0) (ca:=0) (B:=(some ⟨w2.heap.size + 1,0,none⟩)) (nb:=1) (cb:=1) (la:=[]) (lb:=[((⟨2,[1],0,[],0,false,[],[],[],false,[]⟩:Ov),(⟨some ⟨w2.heap.size,0,none⟩,1,1,none,0,0,none,0,0⟩:OS))]) (p:=true) (OpsR.nil_ _ none) (ops_lit1 (nx2.2 1 _ rfl) (show OpIn x3 (⟨2,[1],0,[],0,false,[],[],[],false,[]⟩:Ov) (⟨some ⟨w2.heap.size,0,none⟩,1,1,none,0,0,none,0,0⟩:OS) from lit1 (lit_its2 (xs:=[1]) (nx2.2 0 _ rfl)) (Its.none_ _) (fun e=>by first | rfl | cases e) (fun e=>by first | rfl | cases e) (f1:=lit_fit) (f2:=lit_fit))) (by decide) (r1:=([]:List Ov)) (r2:=([(⟨2,[1],0,[],0,false,[],[],[],false,[]⟩:Ov)]:List Ov)) (by kernel_rfl))
  clear nx2
  go_upto_region 4 with (go_at_call 59;(rw [← hx3];refine hc2.out.mono ?_;rintro e w3 ⟨A3,n3,c3,l3,B3,m3,d3,k3,rfl,hN1,hN2,hL1,hL2,hb⟩;have N3:=Lib.hid hN1;have M3:=Lib.hid hN2;have P3:=Lib.hid hL1;have Q3:=Lib.hid hL2;have E3:=Lib.hid (bx2.out.trans (hb.mono bx2.out.size));have V3:=Lib.hid ((V2.out).trans (Below.mono (bx2.out.trans (hb.mono bx2.out.size)) (Below.size (V2.out))));clear hb hN1 hN2 hL1 hL2))
  clear hx3
  have D3:=Lib.hid (Below.refl w3.heap.size w3)
  have D2:=Lib.hid (E3.out.trans (D3.out.mono E3.out.size))
  have D1:=Lib.hid (E2.out.trans (D2.out.mono E2.out.size))
  obtain rfl:n1 = 2:=wk_len N1.out P1.out
  obtain rfl:m1 = 1:=wk_len M1.out Q1.out
  obtain rfl:n2 = 2:=wk_len N2.out P2.out
  obtain rfl:m2 = 0:=wk_len M2.out Q2.out
  obtain rfl:n3 = 0:=wk_len N3.out P3.out
  obtain rfl:m3 = 1:=wk_len M3.out Q3.out
  obtain ⟨g1,s1,rfl,t1⟩:=wk_at N1.out P1.out (q:=1) rfl
  obtain ⟨g2,s2,rfl,t2⟩:=wk_at M1.out Q1.out (q:=0) rfl
  have y1:w3.cell? ⟨g1,13,none⟩ = some (.int .i64 2):=(t1 w3 D1.out).1.2.2.1
  have y2:w3.cell? ⟨g2,1,none⟩ = some (.slice s2.pA s2.pn s2.pc):=(t2 w3 D1.out).1.2.1
  have y3:=Lib.hid (t2 w3 D1.out).2.path
  have y4:s2.pn = 1:=y3.out.1.symm
  clear t1 t2
  rw [y4] at y2 y3
  go_wp2_with (go_at_call 115;(refine (wkS w3 s2.pA s2.pc [3] y3.out (by decide)).mono ?_;rintro e w4 ⟨rfl,hb⟩;have F4:=Lib.hid hb;clear hb))
  go_ret
  exact ⟨rfl,V3.out.trans (F4.out.mono V3.out.size)⟩
end Go.Proofs.Ytidimannfemnmaa.Lst

