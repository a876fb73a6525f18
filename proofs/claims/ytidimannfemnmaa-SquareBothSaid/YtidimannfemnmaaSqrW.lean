/- The chapter's examples: the law's works. -/
import Derived.Test.YtidimannfemnmaaMgAV
import Derived.Test.YtidimannfemnmaaTopBh
import Derived.Test.YtidimannfemnmaaMgAS
set_option linter.all false
namespace Go.Proofs.Ytidimannfemnmaa.Sqr
open Go.RowKit Top Shf Sim
set_option maxRecDepth 20000

theorem one_of {l:List (Ov × OS)} {o:Ov} (h:l.map Prod.fst = [o]):∃ s,l = [(o,s)]:=by
  match l,h with
  | [(a,s)],h=>simp only [List.map_cons,List.map_nil,List.cons.injEq,and_true] at h;exact ⟨s,by rw [h]⟩
theorem two_of {l:List (Ov × OS)} {o p:Ov} (h:l.map Prod.fst = [o,p]):∃ s t,l = [(o,s),(p,t)]:=by
  match l,h with
  | [(a,s),(b,t)],h=>simp only [List.map_cons,List.map_nil,List.cons.injEq,and_true] at h;exact ⟨s,t,by rw [h.1,h.2]⟩
section
variable {X:World} {b a:Ov} {sb sa:OS} {prior:Bool}
theorem wk0 (hb:OpIn X b sb) (ha:OpIn X a sa) (hl:Tiny b∧Tiny a) (ht:P5.totP (pcs b.pieces)≤2000∧P5.totP (pcs a.pieces)≤2000) (hr:behindV b a prior = ([],0)) :
    Calls Try.prog 128 #[.agg (opCells b sb),.agg (opCells a sa),.bool prior] X fun e w'=>∃ A c,e = .returned (.tuple #[.slice A 0 c,.int .i64 0])∧Below X.heap.size X w':=by
  refine (Behind_any X b a sb sa prior hb ha hl.1 hl.2 ht.1 ht.2).mono ?_
  rw [hr]
  rintro e w' ⟨v,l,rfl,hl,ho,hx,hB⟩
  obtain rfl:l = []:=List.map_eq_nil_iff.1 hl
  obtain ⟨A,n,c,rfl,h1,-⟩:=ho.shape
  obtain rfl:n = 0:=h1
  exact ⟨A,c,rfl,hB⟩
theorem wk1 {o:Ov} (hb:OpIn X b sb) (ha:OpIn X a sa) (hl:Tiny b∧Tiny a) (ht:P5.totP (pcs b.pieces)≤2000∧P5.totP (pcs a.pieces)≤2000) (hr:behindV b a prior = ([o],0)) :
    Calls Try.prog 128 #[.agg (opCells b sb),.agg (opCells a sa),.bool prior] X fun e w'=>∃ g c s,e = .returned (.tuple #[.slice (some ⟨g,0,none⟩) 1 c,.int .i64 0])∧(∀ W,Below w'.heap.size w' W→Elev W ⟨g,0,none⟩ o s∧OpIn W o s)∧Below X.heap.size X w':=by
  refine (Behind_any X b a sb sa prior hb ha hl.1 hl.2 ht.1 ht.2).mono ?_
  rw [hr]
  rintro e w' ⟨v,l,rfl,hl,ho,hx,hB⟩
  obtain ⟨s,rfl⟩:=one_of hl
  obtain ⟨A,n,c,rfl,h1,-,-,-,h5⟩:=ho.shape
  obtain rfl:n = 1:=h1
  obtain ⟨g,rfl,e2,e3,e4⟩:=h5 0 (o,s) rfl
  obtain ⟨k1,k2⟩:=hx (o,s) (List.mem_cons_self ..)
  exact ⟨g,c,s,rfl,fun W hW=>⟨Elev.kept (show Elev w' ⟨g,0,none⟩ o s from e4) (hW.block g e3),(k1.op k2).below hW⟩,hB⟩
theorem wk2 {o p:Ov} (hb:OpIn X b sb) (ha:OpIn X a sa) (hl:Tiny b∧Tiny a) (ht:P5.totP (pcs b.pieces)≤2000∧P5.totP (pcs a.pieces)≤2000) (hr:behindV b a prior = ([o,p],0)) :
    Calls Try.prog 128 #[.agg (opCells b sb),.agg (opCells a sa),.bool prior] X fun e w'=>∃ g c s t,e = .returned (.tuple #[.slice (some ⟨g,0,none⟩) 2 c,.int .i64 0])∧(∀ W,Below w'.heap.size w' W→Elev W ⟨g,0,none⟩ o s∧OpIn W o s∧Elev W ⟨g,11,none⟩ p t∧OpIn W p t)∧Below X.heap.size X w':=by
  refine (Behind_any X b a sb sa prior hb ha hl.1 hl.2 ht.1 ht.2).mono ?_
  rw [hr]
  rintro e w' ⟨v,l,rfl,hl,ho,hx,hB⟩
  obtain ⟨s,t,rfl⟩:=two_of hl
  obtain ⟨A,n,c,rfl,h1,-,-,-,h5⟩:=ho.shape
  obtain rfl:n = 2:=h1
  obtain ⟨g,rfl,e2,e3,e4⟩:=h5 0 (o,s) rfl
  obtain ⟨g2,eg,f2,f3,f4⟩:=h5 1 (p,t) rfl
  injection eg with eg
  injection eg with eg
  subst eg
  obtain ⟨k1,k2⟩:=hx (o,s) (List.mem_cons_self ..)
  obtain ⟨j1,j2⟩:=hx (p,t) (List.mem_cons_of_mem _ (List.mem_cons_self ..))
  exact ⟨g,c,s,t,rfl,fun W hW=>⟨Elev.kept (show Elev w' ⟨g,0,none⟩ o s from e4) (hW.block g e3),(k1.op k2).below hW,Elev.kept (show Elev w' ⟨g,11,none⟩ p t from f4) (hW.block g e3),(j1.op j2).below hW⟩,hB⟩
end
theorem lit1 {W:World} {k:Nat} {i:Int} {p t:List Int} {A B:Option Addr} {n m:Nat} (hA:Its W A n p) (hB:Its W B m t) (hA2:A = none→n = 0) (hB2:B = none→m = 0) (hk:k < 256:=by decide) (hi:-9223372036854775808≤i∧i≤9223372036854775807:=by decide) (hn:n≤4:=by decide) (hm:m≤4:=by decide) (f1:Fit p) (f2:Fit t):OpIn W ⟨k,p,i,t,0,false,[],[],[],false,[]⟩ ⟨A,n,n,B,m,m,none,0,0⟩ :=
  lit_op (o:=⟨k,p,i,t,0,false,[],[],[],false,[]⟩) (s:=⟨A,n,n,B,m,m,none,0,0⟩) (hk:=hk) (hp:=hA) (hp2:=⟨Nat.le_refl _,hn⟩) (hp3:=hA2) (ha:=hi) (ht:=hB) (ht2:=⟨Nat.le_refl _,hm⟩) (ht3:=hB2) (hi:=by show 0 < 18446744073709551616;decide) (hl:=⟨by show 0≤4;decide,by show 0≤4;decide,by show 0≤4;decide⟩) (hq:=lit_pcs _) (hq2:=⟨Nat.le_refl _,by show 0≤4;decide⟩) (hq3:=fun _=>rfl) (f1:=f1) (f2:=f2)
theorem four_new (w:World) (a b c d:Obj):((((w.alloc a).alloc b).alloc c).alloc d).heap[w.heap.size]? = some a∧((((w.alloc a).alloc b).alloc c).alloc d).heap[w.heap.size + 1]? = some b∧((((w.alloc a).alloc b).alloc c).alloc d).heap[w.heap.size + 1 + 1]? = some c∧((((w.alloc a).alloc b).alloc c).alloc d).heap[w.heap.size + 1 + 1 + 1]? = some d∧Below w.heap.size w ((((w.alloc a).alloc b).alloc c).alloc d):=by
  obtain ⟨h1,h2,h3,h4,h5⟩:=Top.three_new w a b c
  have h6:=heap_alloc_new (((w.alloc a).alloc b).alloc c) d
  rw [h5] at h6
  exact ⟨(Go.heap_alloc_old _ _ (by rw [h5];omega)).trans h1,(Go.heap_alloc_old _ _ (by rw [h5];omega)).trans h2,(Go.heap_alloc_old _ _ (by rw [h5];omega)).trans h3,h6,h4.alloc h4.size _⟩
theorem one_new (w:World) (a:Obj):(w.alloc a).heap[w.heap.size]? = some a∧Below w.heap.size w (w.alloc a):=⟨heap_alloc_new w a,(Below.refl _ _).alloc (Nat.le_refl _) _⟩
theorem wkSame {Z X:World} {o p:Ov} {so sp:OS} (hB:Below Z.heap.size Z X) (ho:OpIn X o so) (hp:OpIn X p sp) (he:sameB (bareV o) (bareV p) = true):Calls Try.prog 129 #[.agg (opCells o so),.agg (opCells p sp)] X fun e w'=>e = .returned (.bool true)∧Below Z.heap.size Z w':=by
  refine (psame_any X o p so sp ho hp).mono ?_
  rw [he]
  rintro e w' ⟨rfl,hb⟩
  exact ⟨rfl,hB.trans (hb.mono hB.size)⟩
set_option maxHeartbeats 32000000 in
theorem works_any (w:World):Calls Try.prog 52 #[] w fun e w'=>e = .returned (.bool true)∧Below w.heap.size w w':=by
  go_enter Try.func52,Try.ntmps52
  have ob1:=Lib.hid (show OpIn w (⟨1,[],1,[],0,false,[],[],[],false,[]⟩:Ov) ⟨none,0,0,none,0,0,none,0,0⟩ from lit1 (Its.none_ _) (Its.none_ _) (fun e=>by first | rfl | cases e) (fun e=>by first | rfl | cases e) (f1:=lit_fit) (f2:=lit_fit))
  have oa1:=Lib.hid (show OpIn w (⟨1,[],1,[],0,false,[],[],[],false,[]⟩:Ov) ⟨none,0,0,none,0,0,none,0,0⟩ from lit1 (Its.none_ _) (Its.none_ _) (fun e=>by first | rfl | cases e) (fun e=>by first | rfl | cases e) (f1:=lit_fit) (f2:=lit_fit))
  go_upto_region 2 with (go_at_call 128;(refine (wk1 ob1.out oa1.out ⟨⟨by decide,by decide⟩,⟨by decide,by decide⟩⟩ ⟨by decide,by decide⟩ (show behindV _ _ true = ([(⟨1,[],1,[],0,false,[],[],[],false,[]⟩:Ov)],0) by kernel_rfl)).mono ?_;rintro e w1 ⟨g1,c1,s1,rfl,hx,hb⟩;have G1:=Lib.hid hx;have E1:=Lib.hid hb;have V1:=Lib.hid hb;clear hb hx))
  have ob2:=Lib.hid (show OpIn w1 (⟨1,[],1,[],0,false,[],[],[],false,[]⟩:Ov) ⟨none,0,0,none,0,0,none,0,0⟩ from lit1 (Its.none_ _) (Its.none_ _) (fun e=>by first | rfl | cases e) (fun e=>by first | rfl | cases e) (f1:=lit_fit) (f2:=lit_fit))
  have oa2:=Lib.hid (show OpIn w1 (⟨1,[],1,[],0,false,[],[],[],false,[]⟩:Ov) ⟨none,0,0,none,0,0,none,0,0⟩ from lit1 (Its.none_ _) (Its.none_ _) (fun e=>by first | rfl | cases e) (fun e=>by first | rfl | cases e) (f1:=lit_fit) (f2:=lit_fit))
  go_upto_region 3 with (go_at_call 128;(refine (wk1 ob2.out oa2.out ⟨⟨by decide,by decide⟩,⟨by decide,by decide⟩⟩ ⟨by decide,by decide⟩ (show behindV _ _ false = ([(⟨1,[],2,[],0,false,[],[],[],false,[]⟩:Ov)],0) by kernel_rfl)).mono ?_;rintro e w2 ⟨g2,c2,s2,rfl,hx,hb⟩;have G2:=Lib.hid hx;have E2:=Lib.hid hb;have V2:=Lib.hid (V1.out.trans (Below.mono hb V1.out.size));clear hb hx))
  obtain ⟨x3,hx3⟩:∃ Q9,Q9 = ((w2.alloc (.cells #[.int .i64 0,.int .i64 1] 3)).alloc (.cells #[.int .i64 0] 3)):=⟨_,rfl⟩
  have nx3:=two_news w2 (.cells #[.int .i64 0,.int .i64 1] 3) (.cells #[.int .i64 0] 3)
  rw [← hx3] at nx3
  have bx3:=Lib.hid nx3.2.2.1
  have ob3:=Lib.hid (show OpIn x3 (⟨5,[0,1],0,[],0,false,[],[],[],false,[]⟩:Ov) ⟨some ⟨w2.heap.size,0,none⟩,2,2,none,0,0,none,0,0⟩ from lit1 (lit_its2 (xs:=[0,1]) nx3.1) (Its.none_ _) (fun e=>by first | rfl | cases e) (fun e=>by first | rfl | cases e) (f1:=lit_fit) (f2:=lit_fit))
  have oa3:=Lib.hid (show OpIn x3 (⟨2,[0],0,[],0,false,[],[],[],false,[]⟩:Ov) ⟨some ⟨w2.heap.size + 1,0,none⟩,1,1,none,0,0,none,0,0⟩ from lit1 (lit_its2 (xs:=[0]) nx3.2.1) (Its.none_ _) (fun e=>by first | rfl | cases e) (fun e=>by first | rfl | cases e) (f1:=lit_fit) (f2:=lit_fit))
  clear nx3
  go_upto_region 4 with (go_at_call 128;(rw [← hx3];refine (wk0 ob3.out oa3.out ⟨⟨by decide,by decide⟩,⟨by decide,by decide⟩⟩ ⟨by decide,by decide⟩ (show behindV _ _ true = ([],0) by kernel_rfl)).mono ?_;rintro e w3 ⟨A3,c3,rfl,hb⟩;have E3:=Lib.hid (bx3.out.trans (hb.mono bx3.out.size));have V3:=Lib.hid (V2.out.trans (Below.mono (bx3.out.trans (hb.mono bx3.out.size)) V2.out.size));clear hb))
  clear hx3
  obtain ⟨x4,hx4⟩:∃ Q9,Q9 = (((w3.alloc (.cells #[.int .i64 1] 3)).alloc (.cells #[.int .i64 0] 3)).alloc (.cells #[.int .i64 0] 3)):=⟨_,rfl⟩
  have nx4:=Top.three_new w3 (.cells #[.int .i64 1] 3) (.cells #[.int .i64 0] 3) (.cells #[.int .i64 0] 3)
  rw [← hx4] at nx4
  have bx4:=Lib.hid nx4.2.2.2.1
  have ob4:=Lib.hid (show OpIn x4 (⟨3,[1],0,[0],0,false,[],[],[],false,[]⟩:Ov) ⟨some ⟨w3.heap.size,0,none⟩,1,1,some ⟨w3.heap.size + 1,0,none⟩,1,1,none,0,0⟩ from lit1 (lit_its2 (xs:=[1]) nx4.1) (lit_its2 (xs:=[0]) nx4.2.1) (fun e=>by first | rfl | cases e) (fun e=>by first | rfl | cases e) (f1:=lit_fit) (f2:=lit_fit))
  have oa4:=Lib.hid (show OpIn x4 (⟨2,[0],0,[],0,false,[],[],[],false,[]⟩:Ov) ⟨some ⟨w3.heap.size + 1 + 1,0,none⟩,1,1,none,0,0,none,0,0⟩ from lit1 (lit_its2 (xs:=[0]) nx4.2.2.1) (Its.none_ _) (fun e=>by first | rfl | cases e) (fun e=>by first | rfl | cases e) (f1:=lit_fit) (f2:=lit_fit))
  clear nx4
  go_upto_region 5 with (go_at_call 128;(rw [← hx4];refine (wk1 ob4.out oa4.out ⟨⟨by decide,by decide⟩,⟨by decide,by decide⟩⟩ ⟨by decide,by decide⟩ (show behindV _ _ true = ([(⟨2,[0],0,[],0,false,[],[],[],false,[]⟩:Ov)],0) by kernel_rfl)).mono ?_;rintro e w4 ⟨g4,c4,s4,rfl,hx,hb⟩;have G4:=Lib.hid hx;have E4:=Lib.hid (bx4.out.trans (hb.mono bx4.out.size));have V4:=Lib.hid (V3.out.trans (Below.mono (bx4.out.trans (hb.mono bx4.out.size)) V3.out.size));clear hb hx))
  clear hx4
  obtain ⟨x5,hx5⟩:∃ Q9,Q9 = (((w4.alloc (.cells #[.int .i64 0] 3)).alloc (.cells #[.int .i64 0,.int .i64 0] 3)).alloc (.cells #[.int .i64 2] 3)):=⟨_,rfl⟩
  have nx5:=Top.three_new w4 (.cells #[.int .i64 0] 3) (.cells #[.int .i64 0,.int .i64 0] 3) (.cells #[.int .i64 2] 3)
  rw [← hx5] at nx5
  have bx5:=Lib.hid nx5.2.2.2.1
  have ob5:=Lib.hid (show OpIn x5 (⟨2,[0],0,[],0,false,[],[],[],false,[]⟩:Ov) ⟨some ⟨w4.heap.size,0,none⟩,1,1,none,0,0,none,0,0⟩ from lit1 (lit_its2 (xs:=[0]) nx5.1) (Its.none_ _) (fun e=>by first | rfl | cases e) (fun e=>by first | rfl | cases e) (f1:=lit_fit) (f2:=lit_fit))
  have oa5:=Lib.hid (show OpIn x5 (⟨3,[0,0],0,[2],0,false,[],[],[],false,[]⟩:Ov) ⟨some ⟨w4.heap.size + 1,0,none⟩,2,2,some ⟨w4.heap.size + 1 + 1,0,none⟩,1,1,none,0,0⟩ from lit1 (lit_its2 (xs:=[0,0]) nx5.2.1) (lit_its2 (xs:=[2]) nx5.2.2.1) (fun e=>by first | rfl | cases e) (fun e=>by first | rfl | cases e) (f1:=lit_fit) (f2:=lit_fit))
  clear nx5
  go_upto_region 6 with (go_at_call 128;(rw [← hx5];refine (wk2 ob5.out oa5.out ⟨⟨by decide,by decide⟩,⟨by decide,by decide⟩⟩ ⟨by decide,by decide⟩ (show behindV _ _ true = ([(⟨2,[2,0],0,[],0,false,[],[],[],false,[]⟩:Ov),(⟨2,[0],0,[],0,false,[],[],[],false,[]⟩:Ov)],0) by kernel_rfl)).mono ?_;rintro e w5 ⟨g5,c5,s5,t5,rfl,hx,hb⟩;have G5:=Lib.hid hx;have E5:=Lib.hid (bx5.out.trans (hb.mono bx5.out.size));have V5:=Lib.hid (V4.out.trans (Below.mono (bx5.out.trans (hb.mono bx5.out.size)) V4.out.size));clear hb hx))
  clear hx5
  obtain ⟨x6,hx6⟩:∃ Q9,Q9 = ((((w5.alloc (.cells #[.int .i64 2] 3)).alloc (.cells #[.int .i64 0,.int .i64 1] 3)).alloc (.cells #[.int .i64 0] 3)).alloc (.cells #[.int .i64 2] 3)):=⟨_,rfl⟩
  have nx6:=four_new w5 (.cells #[.int .i64 2] 3) (.cells #[.int .i64 0,.int .i64 1] 3) (.cells #[.int .i64 0] 3) (.cells #[.int .i64 2] 3)
  rw [← hx6] at nx6
  have bx6:=Lib.hid nx6.2.2.2.2
  have ob6:=Lib.hid (show OpIn x6 (⟨3,[2],0,[0,1],0,false,[],[],[],false,[]⟩:Ov) ⟨some ⟨w5.heap.size,0,none⟩,1,1,some ⟨w5.heap.size + 1,0,none⟩,2,2,none,0,0⟩ from lit1 (lit_its2 (xs:=[2]) nx6.1) (lit_its2 (xs:=[0,1]) nx6.2.1) (fun e=>by first | rfl | cases e) (fun e=>by first | rfl | cases e) (f1:=lit_fit) (f2:=lit_fit))
  have oa6:=Lib.hid (show OpIn x6 (⟨3,[0],0,[2],0,false,[],[],[],false,[]⟩:Ov) ⟨some ⟨w5.heap.size + 1 + 1,0,none⟩,1,1,some ⟨w5.heap.size + 1 + 1 + 1,0,none⟩,1,1,none,0,0⟩ from lit1 (lit_its2 (xs:=[0]) nx6.2.2.1) (lit_its2 (xs:=[2]) nx6.2.2.2.1) (fun e=>by first | rfl | cases e) (fun e=>by first | rfl | cases e) (f1:=lit_fit) (f2:=lit_fit))
  clear nx6
  go_upto_region 7 with (go_at_call 128;(rw [← hx6];refine (wk2 ob6.out oa6.out ⟨⟨by decide,by decide⟩,⟨by decide,by decide⟩⟩ ⟨by decide,by decide⟩ (show behindV _ _ true = ([(⟨3,[1,0],0,[],0,false,[],[],[],false,[]⟩:Ov),(⟨3,[2],0,[0,1],0,false,[],[],[],false,[]⟩:Ov)],0) by kernel_rfl)).mono ?_;rintro e w6 ⟨g6,c6,s6,t6,rfl,hx,hb⟩;have G6:=Lib.hid hx;have E6:=Lib.hid (bx6.out.trans (hb.mono bx6.out.size));have V6:=Lib.hid (V5.out.trans (Below.mono (bx6.out.trans (hb.mono bx6.out.size)) V5.out.size));clear hb hx))
  clear hx6
  have D6:=Lib.hid (Below.refl w6.heap.size w6)
  have D5:=Lib.hid (E6.out.trans (D6.out.mono E6.out.size))
  have D4:=Lib.hid (E5.out.trans (D5.out.mono E5.out.size))
  have D3:=Lib.hid (E4.out.trans (D4.out.mono E4.out.size))
  have D2:=Lib.hid (E3.out.trans (D3.out.mono E3.out.size))
  have D1:=Lib.hid (E2.out.trans (D2.out.mono E2.out.size))
  have q1_0_2:w6.cell? ⟨g1,2,none⟩ = some (.int .i64 1):=(G1.out w6 D1.out).1.2.2.1
  have q2_0_2:w6.cell? ⟨g2,2,none⟩ = some (.int .i64 2):=(G2.out w6 D2.out).1.2.2.1
  have q4_0_0:w6.cell? ⟨g4,0,none⟩ = some (.int .u8 2):=(G4.out w6 D4.out).1.1
  have q4_0_1:w6.cell? ⟨g4,1,none⟩ = some (.slice s4.pA s4.pn s4.pc):=(G4.out w6 D4.out).1.2.1
  have q4_0_2:w6.cell? ⟨g4,2,none⟩ = some (.int .i64 0):=(G4.out w6 D4.out).1.2.2.1
  have q4_0_3:w6.cell? ⟨g4,3,none⟩ = some (.slice s4.tA s4.tn s4.tc):=(G4.out w6 D4.out).1.2.2.2.1
  have q4_0_4:w6.cell? ⟨g4,4,none⟩ = some (.int .u64 0):=(G4.out w6 D4.out).1.2.2.2.2.1
  have q4_0_5:w6.cell? ⟨g4,5,none⟩ = some (.bool false):=(G4.out w6 D4.out).1.2.2.2.2.2.1
  have q4_0_6:w6.cell? ⟨g4,6,none⟩ = some (.string ⟨#[]⟩):=(G4.out w6 D4.out).1.2.2.2.2.2.2.1
  have q4_0_7:w6.cell? ⟨g4,7,none⟩ = some (.string ⟨#[]⟩):=(G4.out w6 D4.out).1.2.2.2.2.2.2.2.1
  have q4_0_8:w6.cell? ⟨g4,8,none⟩ = some (.string ⟨#[]⟩):=(G4.out w6 D4.out).1.2.2.2.2.2.2.2.2.1
  have q4_0_9:w6.cell? ⟨g4,9,none⟩ = some (.bool false):=(G4.out w6 D4.out).1.2.2.2.2.2.2.2.2.2.1
  have q4_0_10:w6.cell? ⟨g4,10,none⟩ = some (.slice s4.qA s4.qn s4.qc):=(G4.out w6 D4.out).1.2.2.2.2.2.2.2.2.2.2
  go_wp2_with (first | (go_at_call_of 129 t6.pA;(refine (wkSame (Z:=w6) (Below.trans F3.out (Below.mono (two_news y3 (.cells #[.int .i64 2] 3) (.cells #[.int .i64 0,.int .i64 1] 3)).2.2.1 (Below.size F3.out))) (G6.out _ (D6.out.trans (Below.mono (Below.trans F3.out (Below.mono (two_news y3 (.cells #[.int .i64 2] 3) (.cells #[.int .i64 0,.int .i64 1] 3)).2.2.1 (Below.size F3.out))) D6.out.size))).2.2.2 (show OpIn ((y3.alloc (.cells #[.int .i64 2] 3)).alloc (.cells #[.int .i64 0,.int .i64 1] 3)) (⟨3,[2],0,[0,1],0,false,[],[],[],false,[]⟩:Ov) ⟨some ⟨y3.heap.size,0,none⟩,1,1,some ⟨y3.heap.size + 1,0,none⟩,2,2,none,0,0⟩ from lit1 (lit_its2 (xs:=[2]) (two_news y3 (.cells #[.int .i64 2] 3) (.cells #[.int .i64 0,.int .i64 1] 3)).1) (lit_its2 (xs:=[0,1]) (two_news y3 (.cells #[.int .i64 2] 3) (.cells #[.int .i64 0,.int .i64 1] 3)).2.1) (fun e=>by first | rfl | cases e) (fun e=>by first | rfl | cases e) (f1:=lit_fit) (f2:=lit_fit)) (by kernel_rfl)).mono ?_;rintro e y4 ⟨rfl,hb⟩;have F4:=Lib.hid hb;clear hb)) | (go_at_call_of 129 t5.pA;(refine (wkSame (Z:=w6) (Below.trans F2.out (Below.mono (one_new y2 (.cells #[.int .i64 0] 3)).2 (Below.size F2.out))) (G5.out _ (D5.out.trans (Below.mono (Below.trans F2.out (Below.mono (one_new y2 (.cells #[.int .i64 0] 3)).2 (Below.size F2.out))) D5.out.size))).2.2.2 (show OpIn (y2.alloc (.cells #[.int .i64 0] 3)) (⟨2,[0],0,[],0,false,[],[],[],false,[]⟩:Ov) ⟨some ⟨y2.heap.size,0,none⟩,1,1,none,0,0,none,0,0⟩ from lit1 (lit_its2 (xs:=[0]) (one_new y2 (.cells #[.int .i64 0] 3)).1) (Its.none_ _) (fun e=>by first | rfl | cases e) (fun e=>by first | rfl | cases e) (f1:=lit_fit) (f2:=lit_fit)) (by kernel_rfl)).mono ?_;rintro e y3 ⟨rfl,hb⟩;have F3:=Lib.hid hb;have q6_0_0:y3.cell? ⟨g6,0,none⟩ = some (.int .u8 3):=(G6.out y3 (D6.out.trans (Below.mono hb D6.out.size))).1.1;have q6_1_0:y3.cell? ⟨g6,11,none⟩ = some (.int .u8 3):=(G6.out y3 (D6.out.trans (Below.mono hb D6.out.size))).2.2.1.1;have q6_1_1:y3.cell? ⟨g6,12,none⟩ = some (.slice t6.pA t6.pn t6.pc):=(G6.out y3 (D6.out.trans (Below.mono hb D6.out.size))).2.2.1.2.1;have q6_1_2:y3.cell? ⟨g6,13,none⟩ = some (.int .i64 0):=(G6.out y3 (D6.out.trans (Below.mono hb D6.out.size))).2.2.1.2.2.1;have q6_1_3:y3.cell? ⟨g6,14,none⟩ = some (.slice t6.tA t6.tn t6.tc):=(G6.out y3 (D6.out.trans (Below.mono hb D6.out.size))).2.2.1.2.2.2.1;have q6_1_4:y3.cell? ⟨g6,15,none⟩ = some (.int .u64 0):=(G6.out y3 (D6.out.trans (Below.mono hb D6.out.size))).2.2.1.2.2.2.2.1;have q6_1_5:y3.cell? ⟨g6,16,none⟩ = some (.bool false):=(G6.out y3 (D6.out.trans (Below.mono hb D6.out.size))).2.2.1.2.2.2.2.2.1;have q6_1_6:y3.cell? ⟨g6,17,none⟩ = some (.string ⟨#[]⟩):=(G6.out y3 (D6.out.trans (Below.mono hb D6.out.size))).2.2.1.2.2.2.2.2.2.1;have q6_1_7:y3.cell? ⟨g6,18,none⟩ = some (.string ⟨#[]⟩):=(G6.out y3 (D6.out.trans (Below.mono hb D6.out.size))).2.2.1.2.2.2.2.2.2.2.1;have q6_1_8:y3.cell? ⟨g6,19,none⟩ = some (.string ⟨#[]⟩):=(G6.out y3 (D6.out.trans (Below.mono hb D6.out.size))).2.2.1.2.2.2.2.2.2.2.2.1;have q6_1_9:y3.cell? ⟨g6,20,none⟩ = some (.bool false):=(G6.out y3 (D6.out.trans (Below.mono hb D6.out.size))).2.2.1.2.2.2.2.2.2.2.2.2.1;have q6_1_10:y3.cell? ⟨g6,21,none⟩ = some (.slice t6.qA t6.qn t6.qc):=(G6.out y3 (D6.out.trans (Below.mono hb D6.out.size))).2.2.1.2.2.2.2.2.2.2.2.2.2;clear hb)) | (go_at_call_of 129 s5.pA;(refine (wkSame (Z:=w6) (Below.trans F1.out (Below.mono (one_new y1 (.cells #[.int .i64 2,.int .i64 0] 3)).2 (Below.size F1.out))) (G5.out _ (D5.out.trans (Below.mono (Below.trans F1.out (Below.mono (one_new y1 (.cells #[.int .i64 2,.int .i64 0] 3)).2 (Below.size F1.out))) D5.out.size))).2.1 (show OpIn (y1.alloc (.cells #[.int .i64 2,.int .i64 0] 3)) (⟨2,[2,0],0,[],0,false,[],[],[],false,[]⟩:Ov) ⟨some ⟨y1.heap.size,0,none⟩,2,2,none,0,0,none,0,0⟩ from lit1 (lit_its2 (xs:=[2,0]) (one_new y1 (.cells #[.int .i64 2,.int .i64 0] 3)).1) (Its.none_ _) (fun e=>by first | rfl | cases e) (fun e=>by first | rfl | cases e) (f1:=lit_fit) (f2:=lit_fit)) (by kernel_rfl)).mono ?_;rintro e y2 ⟨rfl,hb⟩;have F2:=Lib.hid hb;have q5_1_0:y2.cell? ⟨g5,11,none⟩ = some (.int .u8 2):=(G5.out y2 (D5.out.trans (Below.mono hb D5.out.size))).2.2.1.1;have q5_1_1:y2.cell? ⟨g5,12,none⟩ = some (.slice t5.pA t5.pn t5.pc):=(G5.out y2 (D5.out.trans (Below.mono hb D5.out.size))).2.2.1.2.1;have q5_1_2:y2.cell? ⟨g5,13,none⟩ = some (.int .i64 0):=(G5.out y2 (D5.out.trans (Below.mono hb D5.out.size))).2.2.1.2.2.1;have q5_1_3:y2.cell? ⟨g5,14,none⟩ = some (.slice t5.tA t5.tn t5.tc):=(G5.out y2 (D5.out.trans (Below.mono hb D5.out.size))).2.2.1.2.2.2.1;have q5_1_4:y2.cell? ⟨g5,15,none⟩ = some (.int .u64 0):=(G5.out y2 (D5.out.trans (Below.mono hb D5.out.size))).2.2.1.2.2.2.2.1;have q5_1_5:y2.cell? ⟨g5,16,none⟩ = some (.bool false):=(G5.out y2 (D5.out.trans (Below.mono hb D5.out.size))).2.2.1.2.2.2.2.2.1;have q5_1_6:y2.cell? ⟨g5,17,none⟩ = some (.string ⟨#[]⟩):=(G5.out y2 (D5.out.trans (Below.mono hb D5.out.size))).2.2.1.2.2.2.2.2.2.1;have q5_1_7:y2.cell? ⟨g5,18,none⟩ = some (.string ⟨#[]⟩):=(G5.out y2 (D5.out.trans (Below.mono hb D5.out.size))).2.2.1.2.2.2.2.2.2.2.1;have q5_1_8:y2.cell? ⟨g5,19,none⟩ = some (.string ⟨#[]⟩):=(G5.out y2 (D5.out.trans (Below.mono hb D5.out.size))).2.2.1.2.2.2.2.2.2.2.2.1;have q5_1_9:y2.cell? ⟨g5,20,none⟩ = some (.bool false):=(G5.out y2 (D5.out.trans (Below.mono hb D5.out.size))).2.2.1.2.2.2.2.2.2.2.2.2.1;have q5_1_10:y2.cell? ⟨g5,21,none⟩ = some (.slice t5.qA t5.qn t5.qc):=(G5.out y2 (D5.out.trans (Below.mono hb D5.out.size))).2.2.1.2.2.2.2.2.2.2.2.2.2;clear hb)) | (go_at_call_of 129 s4.pA;(refine (wkSame (Z:=w6) (Below.trans (Below.refl w6.heap.size w6) (Below.mono (one_new w6 (.cells #[.int .i64 0] 3)).2 (Below.size (Below.refl w6.heap.size w6)))) (G4.out _ (D4.out.trans (Below.mono (Below.trans (Below.refl w6.heap.size w6) (Below.mono (one_new w6 (.cells #[.int .i64 0] 3)).2 (Below.size (Below.refl w6.heap.size w6)))) D4.out.size))).2 (show OpIn (w6.alloc (.cells #[.int .i64 0] 3)) (⟨2,[0],0,[],0,false,[],[],[],false,[]⟩:Ov) ⟨some ⟨w6.heap.size,0,none⟩,1,1,none,0,0,none,0,0⟩ from lit1 (lit_its2 (xs:=[0]) (one_new w6 (.cells #[.int .i64 0] 3)).1) (Its.none_ _) (fun e=>by first | rfl | cases e) (fun e=>by first | rfl | cases e) (f1:=lit_fit) (f2:=lit_fit)) (by kernel_rfl)).mono ?_;rintro e y1 ⟨rfl,hb⟩;have F1:=Lib.hid hb;have q5_0_0:y1.cell? ⟨g5,0,none⟩ = some (.int .u8 2):=(G5.out y1 (D5.out.trans (Below.mono hb D5.out.size))).1.1;have q5_0_1:y1.cell? ⟨g5,1,none⟩ = some (.slice s5.pA s5.pn s5.pc):=(G5.out y1 (D5.out.trans (Below.mono hb D5.out.size))).1.2.1;have q5_0_2:y1.cell? ⟨g5,2,none⟩ = some (.int .i64 0):=(G5.out y1 (D5.out.trans (Below.mono hb D5.out.size))).1.2.2.1;have q5_0_3:y1.cell? ⟨g5,3,none⟩ = some (.slice s5.tA s5.tn s5.tc):=(G5.out y1 (D5.out.trans (Below.mono hb D5.out.size))).1.2.2.2.1;have q5_0_4:y1.cell? ⟨g5,4,none⟩ = some (.int .u64 0):=(G5.out y1 (D5.out.trans (Below.mono hb D5.out.size))).1.2.2.2.2.1;have q5_0_5:y1.cell? ⟨g5,5,none⟩ = some (.bool false):=(G5.out y1 (D5.out.trans (Below.mono hb D5.out.size))).1.2.2.2.2.2.1;have q5_0_6:y1.cell? ⟨g5,6,none⟩ = some (.string ⟨#[]⟩):=(G5.out y1 (D5.out.trans (Below.mono hb D5.out.size))).1.2.2.2.2.2.2.1;have q5_0_7:y1.cell? ⟨g5,7,none⟩ = some (.string ⟨#[]⟩):=(G5.out y1 (D5.out.trans (Below.mono hb D5.out.size))).1.2.2.2.2.2.2.2.1;have q5_0_8:y1.cell? ⟨g5,8,none⟩ = some (.string ⟨#[]⟩):=(G5.out y1 (D5.out.trans (Below.mono hb D5.out.size))).1.2.2.2.2.2.2.2.2.1;have q5_0_9:y1.cell? ⟨g5,9,none⟩ = some (.bool false):=(G5.out y1 (D5.out.trans (Below.mono hb D5.out.size))).1.2.2.2.2.2.2.2.2.2.1;have q5_0_10:y1.cell? ⟨g5,10,none⟩ = some (.slice s5.qA s5.qn s5.qc):=(G5.out y1 (D5.out.trans (Below.mono hb D5.out.size))).1.2.2.2.2.2.2.2.2.2.2;clear hb)))
  go_ret
  exact ⟨rfl,V6.out.trans (F4.out.mono V6.out.size)⟩
end Go.Proofs.Ytidimannfemnmaa.Sqr

