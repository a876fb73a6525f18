/- Rows of operations that are answered; the program's edited and bothGone. -/
import Derived.Test.YtidimannfemnmaaMgAR
import Derived.Test.YtidimannfemnmaaMgAS
import Derived.Test.YtidimannfemnmaaMgAL
import Derived.Test.YtidimannfemnmaaMgAN
set_option linter.all false
namespace Go.Proofs.Ytidimannfemnmaa.Sqr
open Go.RowKit Top Shf Sim
set_option maxRecDepth 20000

def RowA (w:World) (l:List Ov) (v:Value) (w':World):Prop :=
  ∃ (l':List (Ov × OS)) (X:World),l'.map Prod.fst = l∧(∀ x ∈ l',OpIn X x.1 x.2)∧Below w.heap.size w X∧OwnO X.heap.size w' v l'∧Below X.heap.size X w'
theorem RowA.none_ {w w':World} (hb:Below w.heap.size w w'):RowA w [] (.slice none 0 0) w':=⟨[],w',rfl,fun x hx=>by simp at hx,hb,OwnO.nil_ _ _,Below.refl _ _⟩
theorem RowA.one {w X:World} {o:Ov} {s:OS} (hb:Below w.heap.size w X) (ho:OpIn X o s):RowA w [o] (.slice (some ⟨X.heap.size,0,none⟩) 1 1) (X.alloc (.cells (opCells o s) 52)):=by
  refine ⟨[(o,s)],X,rfl,fun x hx=>?_,hb,?_,(Below.refl _ _).alloc (Nat.le_refl _) _⟩
  · rw [List.mem_singleton] at hx
    subst hx
    exact ho
  · have h:=World.ownsRow_lit (base:=X.heap.size) (e:=52) (size:=11) X (opCells o s) 1 (Nat.le_refl _) (by unfold maxLen;omega) rfl
    unfold OwnO
    simpa [opL] using h
theorem RowA.two {w X:World} {o p:Ov} {s t:OS} (hb:Below w.heap.size w X) (ho:OpIn X o s) (hp:OpIn X p t):RowA w [o,p] (.slice (some ⟨X.heap.size,0,none⟩) 2 2) (X.alloc (.cells (opL (o,s) ++ opL (p,t)).toArray 52)):=by
  refine ⟨[(o,s),(p,t)],X,rfl,fun x hx=>?_,hb,?_,(Below.refl _ _).alloc (Nat.le_refl _) _⟩
  · simp only [List.mem_cons,List.not_mem_nil,or_false] at hx
    rcases hx with rfl | rfl
    · exact ho
    · exact hp
  · have h:=World.ownsRow_lit (base:=X.heap.size) (e:=52) (size:=11) X (opL (o,s) ++ opL (p,t)).toArray 2 (Nat.le_refl _) (by unfold maxLen;omega) rfl
    unfold OwnO
    simpa using h
theorem RowA.from_ {w w1 w':World} {l:List Ov} {v:Value} (h:RowA w1 l v w') (hb:Below w.heap.size w w1):RowA w l v w':=by
  obtain ⟨l',X,h1,h2,h3,h4,h5⟩:=h
  exact ⟨l',X,h1,h2,hb.trans (h3.mono hb.size),h4,h5⟩
theorem RowA.bel {w w':World} {l:List Ov} {v:Value} (h:RowA w l v w'):Below w.heap.size w w':=by
  obtain ⟨l',X,h1,h2,h3,h4,h5⟩:=h
  exact h3.trans (h5.mono h3.size)
theorem set_op10 {w:World} {g:Nat} {o:Ov} {s:OS} {ty:TypeId} (A:Option Addr) (n c:Nat) (q:List P5.IP) (h:w.heap[g]? = some (.cells (opCells o s) ty (0,0))):(w.setCell ⟨g,10,none⟩ (.slice A n c)).heap[g]? = some (.cells (opCells { o with pieces:=q } { s with qA:=A,qn:=n,qc:=c }) ty (0,0)):=by
  rw [heap_setCell_same w g 10 _ _ _ h]
  simp [opCells]
theorem with_pieces {W:World} {b:Ov} {s:OS} {A:Option Addr} {n c:Nat} {q:List P5.IP} (h:OpIn W b s) (hA:P5.PcsIn W A n q) (h1:n≤c) (h2:c≤maxLen) (h3:A = none→c = 0) (h4:q.length≤500000):OpIn W { b with pieces:=q } { s with qA:=A,qn:=n,qc:=c } :=
  { h with pieces:=hA,qnc:=h1,qcm:=h2,qnil:=h3,qfew:=by have:=hA.1;show n≤500000;omega }
theorem right_few {l:List P5.IP} (h:P5.rightV l = true):l.length≤4096:=by
  unfold P5.rightV at h
  simp only [Bool.and_eq_true,decide_eq_true_eq] at h
  omega
set_option maxHeartbeats 16000000 in
theorem edited_any (w:World) (b a:Ov) (sb sa:OS) (prior:Bool) (hb:OpIn w b sb) (ha:OpIn w a sa) (hrb:P5.rightV b.pieces = true) (hra:P5.rightV a.pieces = true) (htb:P5.totP (pcs b.pieces)≤2000) (hta:P5.totP (pcs a.pieces)≤2000) :
    Calls Try.prog 188 #[.agg (opCells b sb),.agg (opCells a sa),.bool prior] w fun e w'=>∃ v,e = .returned (.tuple #[v,.int .i64 0])∧RowA w [editV b a prior] v w':=by
  obtain ⟨z1,z2,z4,z5⟩:=two_news w (.cells (opCells b sb) 52) (.cells (opCells a sa) 52)
  obtain ⟨W2,hW2⟩:∃ Q9,Q9 = ((w.alloc (.cells (opCells b sb) 52)).alloc (.cells (opCells a sa) 52)):=⟨_,rfl⟩
  rw [← hW2] at z1 z2 z4 z5
  have z1':=Lib.hid z1
  have z4':=Lib.hid z4
  have z5':=Lib.hid z5
  have htr:=Lib.hid (P5.transform_ok W2 sb.qA sa.qA sb.qn sb.qc sa.qn sa.qc (pcs b.pieces) (pcs a.pieces) prior (by rw [pcs_right hrb];exact (hb.below z4).pieces) (by rw [pcs_right hra];exact (ha.below z4).pieces) (by have h5:=hb.pieces.1;have h6:=right_few hrb;omega) (by have h5:=ha.pieces.1;have h6:=right_few hra;omega) htb hta (by rw [pcs_right hrb];exact hrb) (by rw [pcs_right hra];exact hra))
  have hfine:=Lib.hid (show Ltx.Fine (Ltx.trans (Ltx.norm (pcs b.pieces)) (Ltx.norm (pcs a.pieces)) prior) from Ltx.trans_fine (n:=2000) (Nat.le_refl _) _ (by have h1:=P5.totP_norm (pcs b.pieces);show P5.totP _≤2000;omega) (by have h1:=P5.totP_norm (pcs a.pieces);show P5.totP _≤2000;omega))
  have hed:=Lib.hid (show editV b a prior = { b with pieces:=(Ltx.trans (Ltx.norm (pcs b.pieces)) (Ltx.norm (pcs a.pieces)) prior).map P5.ipc } from rfl)
  generalize editV b a prior = r at hed ⊢
  generalize Ltx.trans (Ltx.norm (pcs b.pieces)) (Ltx.norm (pcs a.pieces)) prior = X1 at htr hfine hed
  have hb':=Lib.hid (fun (W:World) (hB:Below w.heap.size w W)=>hb.below hB)
  obtain ⟨o0,o1,o2,o3,o4,o5,o6,o7,o8,o9,o10⟩:=op_cells z1
  obtain ⟨a0,a1,a2,a3,a4,a5,a6,a7,a8,a9,a10⟩:=op_cells z2
  rw [hW2] at o0 o1 o2 o3 o4 o5 o6 o7 o8 o9 o10 a0 a1 a2 a3 a4 a5 a6 a7 a8 a9 a10
  clear hb ha hrb hra htb hta z1 z2 z4 z5
  unfold opCells at hW2
  conv=>arg 3;unfold opCells
  go_enter Try.func188,Try.ntmps188
  go_upto_region 5 with (go_at_call 65;(rw [← hW2];refine htr.out.mono ?_;rintro e w1 ⟨v1,v2,rfl,h1,h2,hb1⟩;have hlow:=(fun q hq=>by have e1:=hfine.out.2.1 q hq;have e2:=(Ltx.mem_sizes hq).2;have e3:=hfine.out.2.2;omega:P5.Low X1);obtain ⟨A1,n1,c1,rfl,-⟩:=P5.OwnP.shape h1 hlow;have H1:=Lib.hid h1;have E1:=Lib.hid hb1;have HL:=Lib.hid hlow;have y1:=(hb1.block w.heap.size (by have:=z5'.out;omega)).trans z1'.out;have Y1:=Lib.hid y1;have hof:=op_frozen y1;have hlt:w.heap.size < w1.heap.size:=(Array.getElem?_eq_some_iff.1 y1).1;clear o0 o1 o2 o3 o4 o5 o6 o7 o8 o9 o10 a0 a1 a2 a3 a4 a5 a6 a7 a8 a9 a10 h1 h2 hb1 hlow;obtain ⟨o0,o1,o2,o3,o4,o5,o6,o7,o8,o9,o10⟩:=op_cells y1;clear y1))
  obtain ⟨W5,hW5⟩:∃ Q9,Q9 = w1.setCell ⟨w.heap.size,10,none⟩ (.slice A1 n1 c1):=⟨_,rfl⟩
  rw [← hW5]
  have R1:=Lib.hid (show W5.heap[w.heap.size]? = some (.cells (opCells ({ b with pieces:=X1.map P5.ipc }:Ov) ({ sb with qA:=A1,qn:=n1,qc:=c1 }:OS)) 52 (0,0)) by rw [hW5];exact set_op10 A1 n1 c1 _ Y1.out)
  have B5:=Lib.hid (show Below w.heap.size w W5 by rw [hW5];exact (z4'.out.trans (E1.out.mono z4'.out.size)).setCell (p:=⟨w.heap.size,10,none⟩) (Nat.le_refl _) _)
  have O5:=Lib.hid (show ∀ k,k ≠ w.heap.size→W5.heap[k]? = w1.heap[k]? by intro k hk;rw [hW5];exact heap_setCell_other _ _ k _ hk)
  have hin:=Lib.hid (show OpIn W5 { b with pieces:=X1.map P5.ipc } { sb with qA:=A1,qn:=n1,qc:=c1 } from by
    obtain ⟨A',n',c',e0,e1,e2,e3,e4,e5⟩:=P5.OwnP.shape (Top.own_kept (w':=W5) H1.out fun k h1 h2=>O5.out k (by have:=z5'.out;omega)) HL.out
    injection e0 with f1 f2 f3
    subst f1 f2 f3
    exact with_pieces (hb'.out W5 B5.out) e4 e2 e3 e5 (by rw [List.length_map];have:=hfine.out.1;omega))
  clear hW5 o0 o1 o2 o3 o4 o5 o6 o7 o8 o9 o10 hof hlt
  obtain ⟨o0,o1,o2,o3,o4,o5,o6,o7,o8,o9,o10⟩:=op_cells R1.out
  dsimp only at o0 o1 o2 o3 o4 o5 o6 o7 o8 o9 o10
  go_wp2_with fail
  go_ret2
  rw [hed.out]
  exact ⟨_,rfl,RowA.one B5.out hin.out⟩
end Go.Proofs.Ytidimannfemnmaa.Sqr

