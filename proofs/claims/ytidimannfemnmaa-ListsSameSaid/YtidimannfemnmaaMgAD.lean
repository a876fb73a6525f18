/- MgAD: TreFr LtxFr -/
import Derived.Test.YtidimannfemnmaaMgAC
import Derived.Test.YtidimannfemnmaaRows
import Derived.Deep.Slices
import Derived.Deep.Fields
import Derived.ChangeSame
import Derived.ShutString
set_option linter.all false
namespace Go.Proofs.Ytidimannfemnmaa
open Go.RowKit Go.ChangeShapes Go.WideShapes Go.Deep
set_option maxRecDepth 20000

theorem one_cell {t:TypeId} (h:Try.prog.cellsOf t = 1:=by kernel_rfl):Try.prog.cellsOf t = 1:=h
theorem list_of {α:Type} {R:Nat→α→Prop}:∀ n:Nat,(∀ i,i < n→∃ y,R i y)→∃ xs:List α,xs.length = n∧∀ q y,xs[q]? = some y→R q y
  | 0,_=>⟨[],rfl,fun q y h=>by simp at h⟩
  | n + 1,h=>by
    obtain ⟨xs,hl,hx⟩:=list_of n (fun i hi=>h i (by omega))
    obtain ⟨y,hy⟩:=h n (by omega)
    refine ⟨xs ++ [y],by simp [hl],fun q z hz=>?_⟩
    rw [List.getElem?_append] at hz
    split at hz
    · exact hx q z hz
    · have hq:q = n:=by
        rcases Nat.lt_or_ge n q with hlt | hle
        · rw [List.getElem?_eq_none (by simp;omega)] at hz
          cases hz
        · omega
      subst hq
      rw [hl,Nat.sub_self] at hz
      simp at hz
      subst hz
      exact hy
section
variable {H:Type} {enc:TypeId × Value→H} {W:World} {b0:Nat}
theorem add_block_lt {E:Addr} {i:Nat} {v:Value} (h:W.cell? (E.add i) = some v):E.block < W.heap.size:=by
  have hb:=World.block_lt_of_cell? W _ h
  rwa [block_add] at hb
theorem ints_in {fuel:Nat} {v:Value} {x:DataW H × List MemPlace} (h:DataW.trod enc Try.prog W b0 (fun _=>true) true fuel 40 [v] = some x) :
    ∃ (A:Option Addr) (n c:Nat) (l:List Int),v = .slice A n c∧Its W A n l∧n≤c∧c≤maxLen∧Fit l:=by
  rcases DataW.trod_slice Try.underlying40 h with ⟨hcs,-⟩ | ⟨a,len,cap,elems,rest,n,-,hcs,-,-,hl,hm,hel,hi,-⟩
  · simp at hcs
    exact ⟨none,0,0,[],hcs,Its.none_ W,Nat.le_refl _,Nat.zero_le _,fun x hx=>by cases hx⟩
  · simp at hcs
    rw [one_cell (t:=3)] at hi
    obtain ⟨xs,hxl,hx⟩:=list_of (R:=fun i (y:Int)=>(-9223372036854775808≤y∧y≤9223372036854775807)∧W.cell? (a.add i) = some (.int .i64 y)) len fun i hil=>by
      have key:=hi i hil
      rw [List.getElem?_eq_getElem (by omega)] at key
      obtain ⟨cs',h1,h2⟩:=Option.bind_eq_some_iff.1 key
      obtain ⟨k,rfl,-,wk⟩:=DataW.trod_int Try.underlying3 h2
      obtain ⟨-,hcl,hat⟩:=World.cells?_some h1
      have a0:=hat 0 (by omega)
      have hz:(a.add (i * 1)).add 0 = a.add i:=by rw [Nat.mul_one];unfold Addr.add;simp
      rw [hz] at a0
      exact ⟨k,by simpa [Lit.wf,IntKind.min,IntKind.max,IntKind.signed,IntKind.bits] using wk,a0⟩
    refine ⟨some a,len,cap,xs,hcs,⟨hxl,fun q y hq=>?_⟩,hl,hm,fun y hy=>?_⟩
    · have hc:=(hx q y hq).2
      exact ⟨a,rfl,add_block_lt hc,hc⟩
    · obtain ⟨q,hq⟩:=List.getElem?_of_mem hy
      exact (hx q y hq).1
end
end Go.Proofs.Ytidimannfemnmaa
namespace Go.Proofs.Ytidimannfemnmaa.P5
open Go.RowKit Go.ChangeShapes Go.WideShapes Go.Deep
set_option maxRecDepth 20000

theorem piece_cells:Try.prog.cellsOf 60 = 3:=by kernel_rfl
theorem piece_fields:∃ f0 f1 f2:Field,Try.prog.underlying 60 = some (.struct #[f0,f1,f2])∧(f0.type = 3∧f0.offset = 0)∧(f1.type = 3∧f1.offset = 1)∧f2.type = 9∧f2.offset = 2 :=
  ⟨_,_,_,Try.underlying60,⟨rfl,rfl⟩,⟨rfl,rfl⟩,rfl,rfl⟩
theorem int_cells1:Try.prog.cellsOf 3 = 1:=by kernel_rfl
theorem str_cells1:Try.prog.cellsOf 9 = 1:=by kernel_rfl

section
variable {H:Type} {enc:TypeId × Value→H} {W:World} {b0:Nat}
theorem piece_in {fuel:Nat} {E:Addr} {cs:List Value} {x:DataW H × List MemPlace} (hc:W.cells? b0 E 3 = some cs) (h:DataW.trod enc Try.prog W b0 (fun _=>true) true fuel 60 cs = some x):∃ y,PieceAt W E y:=by
  obtain ⟨f0,f1,f2,hu,⟨t0,o0⟩,⟨t1,o1⟩,t2,o2⟩:=piece_fields
  obtain ⟨ys,n,_,_,hlen,_,hf⟩:=DataW.trod_struct hu h
  obtain ⟨_,hcl,hat⟩:=World.cells?_some hc
  obtain ⟨v0,v1,v2,rfl⟩:∃ v0 v1 v2,cs = [v0,v1,v2]:=by
    match cs,hcl with
    | [a,b,c],_=>exact ⟨a,b,c,rfl⟩
  have g0:=hf 0 f0 rfl
  have g1:=hf 1 f1 rfl
  have g2:=hf 2 f2 rfl
  rw [t0,o0,int_cells1] at g0
  rw [t1,o1,int_cells1] at g1
  rw [t2,o2,str_cells1] at g2
  have hys:∀ i (f:Field),#[f0,f1,f2][i]? = some f→∃ y,ys[i]? = some y:=fun i f hi=>by
    have hi3:i < 3:=(Array.getElem?_eq_some_iff.1 hi).1
    have hyl:ys.length = 3:=by assumption
    exact ⟨_,List.getElem?_eq_getElem (by omega)⟩
  obtain ⟨y0,e0⟩:=hys 0 f0 rfl
  obtain ⟨y1,e1⟩:=hys 1 f1 rfl
  obtain ⟨y2,e2⟩:=hys 2 f2 rfl
  obtain ⟨i,hi,_,wi⟩:=DataW.trod_int Try.underlying3 (g0.trans e0)
  obtain ⟨j,hj,_,wj⟩:=DataW.trod_int Try.underlying3 (g1.trans e1)
  obtain ⟨s,hs,_,ws⟩:=DataW.trod_string Try.underlying9 (g2.trans e2)
  have hib:-9223372036854775808≤i∧i≤9223372036854775807:=by simpa [Lit.wf,IntKind.min,IntKind.max,IntKind.signed,IntKind.bits] using wi
  have hjb:-9223372036854775808≤j∧j≤9223372036854775807:=by simpa [Lit.wf,IntKind.min,IntKind.max,IntKind.signed,IntKind.bits] using wj
  have a0:=hat 0 (by omega)
  have a1:=hat 1 (by omega)
  have a2:=hat 2 (by omega)
  simp at hi hj hs a0 a1 a2
  subst hi hj hs
  refine ⟨⟨i,j,s.data.toList⟩,hib.1,hib.2,hjb.1,hjb.2,?_,a0,a1,?_⟩
  · show s.data.toList.length≤maxLen
    rw [Array.length_toList]
    exact ws
  · exact a2
theorem pieces_in {fuel:Nat} {v:Value} {x:DataW H × List MemPlace} (h:DataW.trod enc Try.prog W b0 (fun _=>true) true fuel 22 [v] = some x) :
    ∃ (A:Option Addr) (n c:Nat) (xs:List IP),v = .slice A n c∧PcsIn W A n xs∧n≤c∧c≤maxLen∧(A = none→c = 0):=by
  rcases open_slice Try.underlying22 h with ⟨hcs,_⟩ | ⟨a,len,cap,m,n,D,Pl,hcs,_,hl,hm,hmm,_,hi⟩
  · simp at hcs
    exact ⟨none,0,0,[],hcs,PcsIn.nil W,Nat.le_refl _,Nat.zero_le _,fun _=>rfl⟩
  · simp at hcs
    rw [piece_cells] at hi
    have hex:∀ i,i < len→∃ y,PieceAt W (a.add (i * 3)) y:=fun i hil=>by
      obtain ⟨cs',hc,ht⟩:=hi i (by rw [hmm];simp;omega)
      exact piece_in hc ht
    have hrow:∀ k,k≤len→∃ xs:List IP,xs.length = k∧∀ q y,xs[q]? = some y→PieceAt W (a.add (q * 3)) y:=by
      intro k
      induction k with
      | zero=>exact fun _=>⟨[],rfl,fun q y h=>by simp at h⟩
      | succ k ih =>
        intro hk
        obtain ⟨xs,hxl,hx⟩:=ih (by omega)
        obtain ⟨y,hy⟩:=hex k (by omega)
        refine ⟨xs ++ [y],by simp [hxl],fun q z hz=>?_⟩
        rw [List.getElem?_append] at hz
        split at hz
        · exact hx q z hz
        · rename_i hge
          have hq:q = k:=by
            rcases Nat.lt_or_ge k q with hlt | hle
            · rw [List.getElem?_eq_none (by simp;omega)] at hz
              cases hz
            · omega
          subst hq
          rw [hxl,Nat.sub_self] at hz
          simp at hz
          subst hz
          exact hy
    obtain ⟨xs,hxl,hx⟩:=hrow len (Nat.le_refl _)
    refine ⟨some a,len,cap,xs,hcs,⟨hxl,fun q y hq=>⟨a,rfl,?_,hx q y hq⟩⟩,hl,hm,fun e=>by cases e⟩
    have hb:=World.block_lt_of_cell? W _ (hx q y hq).2.2.2.2.2.1
    rwa [block_add] at hb
end
end Go.Proofs.Ytidimannfemnmaa.P5
