/- MgAE: TreA TreB TreD TreE -/
import Derived.Test.YtidimannfemnmaaMgAC
import Derived.Deep.RegionHeld3
import Derived.Deep.RegionWith
import Derived.Laws.StructEq
import Derived.Maps.AppendAt
import Derived.Laws.AppendOwnNone
set_option linter.all false
namespace Go.Proofs.Ytidimannfemnmaa
open Go.RowKit
set_option maxRecDepth 20000

theorem keyB_yes {s:Txt} (h1:1≤s.length) (h2:s.length≤64):keyB s = true:=by unfold keyB;exact decide_eq_true ⟨h1,h2⟩
theorem keyB_no1 {s:Txt} (h1:s.length < 1):keyB s = false:=by unfold keyB;exact decide_eq_false (fun h=>by omega)
theorem keyB_no2 {s:Txt} (h1:64 < s.length):keyB s = false:=by unfold keyB;exact decide_eq_false (fun h=>by omega)
theorem key_any (s:Txt) (w:World) (hs:s.length≤maxLen):Calls Try.prog 89 #[.string ⟨s.toArray⟩] w fun e w'=>e = .returned (.bool (keyB s))∧w = w':=by
  unfold maxLen at hs
  by_cases h1:1≤s.length
  · by_cases h2:s.length≤64
    · have hk:=Lib.hid (keyB_yes h1 h2)
      have i1:(1:Int)≤(s.length:Int):=by omega
      have i2:(s.length:Int)≤64:=by omega
      go_enter Try.func89,Try.ntmps89
      go_wp2_with fail
      go_ret
      exact ⟨by rw [hk.out];rfl,rfl⟩
    · have hk:=Lib.hid (keyB_no2 (s:=s) (by omega))
      have i1:(1:Int)≤(s.length:Int):=by omega
      have i2:¬ (s.length:Int)≤64:=by omega
      go_enter Try.func89,Try.ntmps89
      go_wp2_with fail
      go_ret
      exact ⟨by rw [hk.out];rfl,rfl⟩
  · have hk:=Lib.hid (keyB_no1 (s:=s) (by omega))
    have i1:¬ (1:Int)≤(s.length:Int):=by omega
    go_enter Try.func89,Try.ntmps89
    go_wp2_with fail
    go_ret
    exact ⟨by rw [hk.out];rfl,rfl⟩
end Go.Proofs.Ytidimannfemnmaa
namespace Go.Proofs.Ytidimannfemnmaa
open Go.RowKit
set_option maxRecDepth 20000

def ltB (last key:Txt):Bool:=!(Op.bytesLess key last || key == last)
end Go.Proofs.Ytidimannfemnmaa
namespace Go.Proofs.Ytidimannfemnmaa
open Go.RowKit
set_option maxRecDepth 20000

theorem chunk_len {α:Type} (f:α→List Value) (S:Nat) (hf:∀ x,(f x).length = S) (l:List α):(l.flatMap f).length = l.length * S:=by
  induction l with
  | nil=>simp
  | cons p r ih=>rw [List.flatMap_cons,List.length_append,ih,hf,List.length_cons,Nat.succ_mul];omega
theorem chunk_at {α:Type} (f:α→List Value) (S:Nat) (hf:∀ x,(f x).length = S) (hS:0 < S):∀ (l:List α) (j:Nat) (u:Value),(l.flatMap f)[j]? = some u→∃ q i x,j = q * S + i∧i < S∧l[q]? = some x∧(f x)[i]? = some u
  | [],j,u,h=>by simp at h
  | a :: r,j,u,h=>by
    rw [List.flatMap_cons] at h
    rcases Nat.lt_or_ge j S with hj | hj
    · rw [List.getElem?_append_left (by rw [hf];exact hj)] at h
      exact ⟨0,j,a,by omega,hj,rfl,h⟩
    · rw [List.getElem?_append_right (by rw [hf];exact hj),hf] at h
      obtain ⟨q,i,x,h1,h2,h3,h4⟩:=chunk_at f S hf hS r _ u h
      exact ⟨q + 1,i,x,by rw [Nat.succ_mul];omega,h2,by simpa using h3,h4⟩
theorem chunk_of {α:Type} (f:α→List Value) (S:Nat) (hf:∀ x,(f x).length = S):∀ (l:List α) (q i:Nat) (x:α) (u:Value),l[q]? = some x→(f x)[i]? = some u→(l.flatMap f)[q * S + i]? = some u
  | a :: r,0,i,x,u,h,hi=>by
    simp at h
    subst h
    have hil:=(List.getElem?_eq_some_iff.1 hi).1
    rw [List.flatMap_cons,Nat.zero_mul,Nat.zero_add,List.getElem?_append_left hil]
    exact hi
  | a :: r,q + 1,i,x,u,h,hi=>by
    have ih:=chunk_of f S hf r q i x u (by simpa using h) hi
    rw [List.flatMap_cons,List.getElem?_append_right (by rw [hf,Nat.succ_mul];omega),hf]
    rw [show (q + 1) * S + i - S = q * S + i by rw [Nat.succ_mul];omega]
    exact ih
theorem add_zero_off (g k:Nat):(⟨g,0,none⟩:Addr).add k = ⟨g,k,none⟩:=by unfold Addr.add;split <;> simp_all

structure KV where
  t:Nd
  aA:Option Addr
  an:Nat
  ac:Nat
  kA:Option Addr
  kn:Nat
  kc:Nat
def KV.cells (k:KV):List Value:=[.int .u64 (k.t.id:Int),.bool k.t.leaf,.string ⟨k.t.label.toArray⟩,.slice k.aA k.an k.ac,.string ⟨k.t.text.toArray⟩,.slice k.kA k.kn k.kc]
def KV.ok (T:Nat→Prop) (w:World) (k:KV):Prop:=NodeV T w k.aA k.an k.ac k.kA k.kn k.kc k.t
def KV.six (w:World) (E:Addr) (k:KV):Prop:=Six w E k.t k.aA k.an k.ac k.kA k.kn k.kc
theorem KV.cells_len (k:KV):k.cells.length = 6:=rfl
theorem KV.cell {w:World} {E:Addr} {k:KV} (h:k.six w E) (i:Nat) (u:Value) (hi:k.cells[i]? = some u):w.cell? (E.add i) = some u:=by
  obtain ⟨h0,h1,h2,h3,h4,h5⟩:=h
  match i,hi with
  | 0,hi=>injection hi with hi;rw [← hi];exact h0
  | 1,hi=>injection hi with hi;rw [← hi];exact h1
  | 2,hi=>injection hi with hi;rw [← hi];exact h2
  | 3,hi=>injection hi with hi;rw [← hi];exact h3
  | 4,hi=>injection hi with hi;rw [← hi];exact h4
  | 5,hi=>injection hi with hi;rw [← hi];exact h5
theorem KV.six_of {w:World} {E:Addr} {k:KV} (h:∀ i u,k.cells[i]? = some u→w.cell? (E.add i) = some u):k.six w E :=
  ⟨h 0 _ rfl,h 1 _ rfl,h 2 _ rfl,h 3 _ rfl,h 4 _ rfl,h 5 _ rfl⟩
theorem KV.one (ks:List KV):∀ u ∈ ks.flatMap KV.cells,u.oneCell' = true:=by
  intro u hu
  obtain ⟨x,-,hx⟩:=List.mem_flatMap.1 hu
  simp only [KV.cells,List.mem_cons,List.not_mem_nil,or_false] at hx
  rcases hx with rfl | rfl | rfl | rfl | rfl | rfl <;> rfl
theorem RowAt.kvs {T:Nat→Prop} {w:World} {A:Option Addr}:∀ (l:List Nd) (q0:Nat),RowAt T w A q0 l→∃ ks:List KV,ks.map KV.t = l∧(∀ k ∈ ks,k.ok T w)∧∀ (q:Nat) (k:KV),ks[q]? = some k→∃ ad,A = some ad∧T ad.block∧k.six w (ad.add ((q0 + q) * 6))
  | [],_,_=>⟨[],rfl,by simp,by simp⟩
  | t :: r,q0,h=>by
    simp only [RowAt] at h
    obtain ⟨⟨ad,aA,an,ac,kA,kn,kc,e,hT,h6,hv⟩,hr⟩:=h
    obtain ⟨ks,k1,k2,k3⟩:=RowAt.kvs r (q0 + 1) hr
    refine ⟨⟨t,aA,an,ac,kA,kn,kc⟩ :: ks,by simp [k1],?_,?_⟩
    · intro k hk
      rcases List.mem_cons.1 hk with rfl | hk
      · exact hv
      · exact k2 k hk
    · intro q k hk
      match q,hk with
      | 0,hk =>
        simp at hk
        subst hk
        exact ⟨ad,e,hT,h6⟩
      | q + 1,hk =>
        obtain ⟨ad',e',hT',hs⟩:=k3 q k (by simpa using hk)
        exact ⟨ad',e',hT',by rw [show q0 + (q + 1) = q0 + 1 + q by omega];exact hs⟩
theorem RowAt.of_kvs {T:Nat→Prop} {w:World} {A:Option Addr} (ks:List KV) (hok:∀ k ∈ ks,k.ok T w) (h:∀ (q:Nat) (k:KV),ks[q]? = some k→∃ ad,A = some ad∧T ad.block∧k.six w (ad.add (q * 6))):RowAt T w A 0 (ks.map KV.t):=by
  refine RowAt.of _ _ fun q t ht=>?_
  rw [List.getElem?_map] at ht
  cases hk:ks[q]? with
  | none=>rw [hk] at ht;cases ht
  | some k =>
    rw [hk] at ht
    simp at ht
    subst ht
    obtain ⟨ad,e,hT,hs⟩:=h q k hk
    refine ⟨ad,e,by rw [block_add];exact hT,k.aA,k.an,k.ac,k.kA,k.kn,k.kc,?_,hok k (List.mem_of_getElem? hk)⟩
    rw [Nat.zero_add]
    exact hs
theorem KV.ok_kept {T T':Nat→Prop} {w w':World} {k:KV} (hT:∀ k,T k→T' k) (hk:∀ k,T k→w'.heap[k]? = w.heap[k]?) (h:k.ok T w):k.ok T' w':=NodeV.kept hT hk _ _ _ _ _ _ _ h
theorem kvs_news {w:World} {ad:Addr} {ks:List KV} (h:∀ (q:Nat) (k:KV),ks[q]? = some k→k.six w (ad.add (q * 6))):∀ (j:Nat) (u:Value),(ks.flatMap KV.cells)[j]? = some u→w.cell? (ad.add j) = some u:=by
  intro j u hj
  obtain ⟨q,i,x,rfl,-,h3,h4⟩:=chunk_at KV.cells 6 KV.cells_len (by omega) ks j u hj
  rw [← add_add]
  exact KV.cell (h q x h3) i u h4
theorem Try.infoN:(Try.prog.info? 36).map (fun i=>(i.zero,i.size,i.bytes)) = some (some (.agg #[.int .u64 0,.bool false,.string ⟨#[]⟩,.slice none 0 0,.string ⟨#[]⟩,.slice none 0 0]),6,96):=by kernel_rfl
theorem Try.infoA:(Try.prog.info? 46).map (fun i=>(i.zero,i.size,i.bytes)) = some (some (.agg #[.string ⟨#[]⟩,.string ⟨#[]⟩]),2,32):=by kernel_rfl
def OwnK (base:Nat) (w:World) (v:Value) (ks:List KV):Prop:=w.ownsRow base 36 6 v ks.length (ks.flatMap KV.cells)
theorem OwnK.shape {base:Nat} {w:World} {v:Value} {ks:List KV} (h:OwnK base w v ks):∃ (A:Option Addr) (n c:Nat),v = .slice A n c∧n = ks.length∧n≤c∧c≤maxLen∧(A = none→c = 0) ∧
    ∀ (q:Nat) (k:KV),ks[q]? = some k→∃ g,A = some ⟨g,0,none⟩∧base≤g∧g < w.heap.size∧k.six w (⟨g,q * 6,none⟩:Addr):=by
  obtain ⟨A,c,rfl,h1,h2,h3,h4⟩:=own_form h
  refine ⟨A,_,c,rfl,rfl,h1,h2,h3,fun q k hk=>?_⟩
  have hq:=(List.getElem?_eq_some_iff.1 hk).1
  obtain ⟨g,rfl,hb,hlt,hc⟩:=h4 (by omega)
  refine ⟨g,rfl,hb,hlt,KV.six_of fun i u hi=>?_⟩
  rw [← add_zero_off,add_add,add_zero_off]
  exact hc _ _ (chunk_of KV.cells 6 KV.cells_len ks q i k u hk hi)
theorem wpList_append_kids {w:World} {ops:Array Oper} {rest:List Oper} {o:Oper} {a:Act} {Q:Exit→Act→World→Prop} (hgd:o.guard = none) (sl x:Operand)
    (ho:o.op = .call { callee:=.builtin .append,args:=#[sl,x],argTypes:=#[34,34] }) (T:Nat→Prop) (A:Option Addr) (n c:Nat) (ts:List Nd) (hs:a.eval sl = .slice none 0 0) (hx:a.eval x = .slice A n c) (hl:ts.length = n) (hP:RowAt T w A 0 ts) (hnil:A = none→c = 0) (hnc:n≤c) (hn:n≤1000000)
    (h:∀ A1 c1 w' ks,ks.map KV.t = ts→(∀ k ∈ ks,k.ok T w)→OwnK w.heap.size w' (.slice A1 n c1) ks→n≤c1→c1≤maxLen→(A1 = none→c1 = 0)→Below w.heap.size w w'→wpList Try.prog ops Q rest (a.put o.dst (.slice A1 n c1)) w'):wpList Try.prog ops Q (o :: rest) a w:=by
  obtain ⟨i0,hi0,hz0,hz1,hz2⟩:=info_parts Try.infoN
  obtain ⟨ks,k1,k2,k3⟩:=RowAt.kvs ts 0 hP
  have hkl:ks.length = n:=by rw [← hl,← k1,List.length_map]
  cases A with
  | none =>
    obtain rfl:=hnil rfl
    obtain rfl:n = 0:=by omega
    have hks:ks = []:=List.length_eq_zero_iff.1 hkl
    subst hks
    refine wpList_append_own_none hgd sl x 34 ho w.heap.size 36 i0 6 Try.underlying34 hi0 (.slice none 0 0) 0 [] hs (World.ownsRow_nil _ _ _ _) hx ?_
    exact h none 0 w [] k1 (by simp) (World.ownsRow_nil _ _ _ _) (Nat.le_refl _) (Nat.zero_le _) (fun _=>rfl) (Below.refl _ _)
  | some ad =>
    have k3':∀ (q:Nat) (k:KV),ks[q]? = some k→k.six w (ad.add (q * 6)):=fun q k hk=>by
      obtain ⟨ad',e,_,hs⟩:=k3 q k hk
      injection e with e
      subst e
      rw [Nat.zero_add] at hs
      exact hs
    refine wpList_append_own_at _ hgd sl x 34 ho w.heap.size 36 i0 _ 6 96 Try.underlying34 hi0 hz0 hz1 hz2 rfl (by decide) (.slice none 0 0) 0 [] hs (World.ownsRow_nil _ _ _ _) ad n c (ks.flatMap KV.cells) hx (by rw [chunk_len KV.cells 6 KV.cells_len,hkl]) (kvs_news k3') (KV.one ks) (by unfold maxLen;omega) (by omega) (Nat.le_refl _) ?_
    intro v' w' hown hg _ _
    have hown2:OwnK w.heap.size w' v' ks:=by
      unfold OwnK
      rw [Nat.zero_add,List.nil_append] at hown
      rw [hkl]
      exact hown
    obtain ⟨A1,n1,c1,rfl,e1,h1,h2,h3,h4⟩:=hown2.shape
    obtain rfl:n1 = n:=by omega
    exact h A1 c1 w' ks k1 k2 hown2 h1 h2 h3 ((Below.refl w.heap.size w).grown hg (Nat.le_refl _) (fun k hk=>by cases hk))

def atc (x:Txt × Txt):List Value:=[.string ⟨x.1.toArray⟩,.string ⟨x.2.toArray⟩]
theorem atc_len (x:Txt × Txt):(atc x).length = 2:=rfl
theorem atc_one (xs:List (Txt × Txt)):∀ u ∈ xs.flatMap atc,u.oneCell' = true:=by
  intro u hu
  obtain ⟨x,-,hx⟩:=List.mem_flatMap.1 hu
  simp only [atc,List.mem_cons,List.not_mem_nil,or_false] at hx
  rcases hx with rfl | rfl <;> rfl
theorem AtsIn.news {T:Nat→Prop} {w:World} {ad:Addr} {n:Nat} {xs:List (Txt × Txt)} (h:AtsIn T w (some ad) n xs):∀ j u,(xs.flatMap atc)[j]? = some u→w.cell? (ad.add j) = some u:=by
  intro j u hj
  obtain ⟨q,i,x,rfl,-,h3,h4⟩:=chunk_at atc 2 atc_len (by omega) xs j u hj
  obtain ⟨ad',e,-,-,-,c1,c2⟩:=h.2 q x h3
  injection e with e
  subst e
  rw [← add_add]
  match i,h4 with
  | 0,h4=>injection h4 with h4;rw [← h4];exact c1
  | 1,h4=>injection h4 with h4;rw [← h4];exact c2
theorem wpList_append_ats {w:World} {ops:Array Oper} {rest:List Oper} {o:Oper} {a:Act} {Q:Exit→Act→World→Prop} (hgd:o.guard = none) (sl x:Operand)
    (ho:o.op = .call { callee:=.builtin .append,args:=#[sl,x],argTypes:=#[33,33] }) (T:Nat→Prop) (A:Option Addr) (n c:Nat) (xs:List (Txt × Txt)) (hs:a.eval sl = .slice none 0 0) (hx:a.eval x = .slice A n c) (hP:AtsIn T w A n xs) (hnil:A = none→c = 0) (hnc:n≤c) (hn:n≤1000000)
    (h:∀ A1 c1 w',AtsIn (fun k=>k = w.heap.size∧k < w'.heap.size) w' A1 n xs→n≤c1→c1≤maxLen→(A1 = none→c1 = 0)→Below w.heap.size w w'→wpList Try.prog ops Q rest (a.put o.dst (.slice A1 n c1)) w'):wpList Try.prog ops Q (o :: rest) a w:=by
  obtain ⟨i0,hi0,hz0,hz1,hz2⟩:=info_parts Try.infoA
  have hl:=hP.1
  cases A with
  | none =>
    obtain rfl:=hnil rfl
    obtain rfl:n = 0:=by omega
    have hxs:xs = []:=List.length_eq_zero_iff.1 hl
    subst hxs
    refine wpList_append_own_none hgd sl x 33 ho w.heap.size 46 i0 2 Try.underlying33 hi0 (.slice none 0 0) 0 [] hs (World.ownsRow_nil _ _ _ _) hx ?_
    exact h none 0 w ⟨rfl,fun q x hx=>by simp at hx⟩ (Nat.le_refl _) (Nat.zero_le _) (fun _=>rfl) (Below.refl _ _)
  | some ad =>
    refine wpList_append_own_at _ hgd sl x 33 ho w.heap.size 46 i0 _ 2 32 Try.underlying33 hi0 hz0 hz1 hz2 rfl (by decide) (.slice none 0 0) 0 [] hs (World.ownsRow_nil _ _ _ _) ad n c (xs.flatMap atc) hx (by rw [chunk_len atc 2 atc_len,hl]) hP.news (atc_one xs) (by unfold maxLen;omega) (by omega) (Nat.le_refl _) ?_
    intro v' w' hown hg _ hat
    rw [Nat.zero_add,List.nil_append] at hown
    obtain ⟨A1,c1,rfl,h1,h2,h3,h4⟩:=own_form hown
    refine h A1 c1 w' ⟨hl,fun q x hx=>?_⟩ h1 h2 h3 ((Below.refl w.heap.size w).grown hg (Nat.le_refl _) (fun k hk=>by cases hk))
    have hq:=(List.getElem?_eq_some_iff.1 hx).1
    obtain ⟨g,rfl,hb,hlt,hc⟩:=h4 (by omega)
    obtain ⟨ad',-,-,l1,l2,-,-⟩:=hP.2 q x hx
    have hgw:g = w.heap.size:=by
      rcases hat with e | e
      · cases e
      · simpa [Value.ownBlock] using e
    refine ⟨_,rfl,⟨hgw,hlt⟩,l1,l2,?_,?_⟩
    · rw [add_zero_off]
      exact hc _ _ (chunk_of atc 2 atc_len xs q 0 x _ hx rfl)
    · rw [add_zero_off]
      exact hc _ _ (chunk_of atc 2 atc_len xs q 1 x _ hx rfl)
end Go.Proofs.Ytidimannfemnmaa
namespace Go.Proofs.Ytidimannfemnmaa
open Go.RowKit
set_option maxRecDepth 20000

def hasB (kn:Nat) (i:Int):Bool:=decide (0≤i∧i < (kn:Int))
theorem hasChild_any (w:World) (id:Int) (leaf:Bool) (b x:Txt) (aA kA:Option Addr) (an ac kn kc:Nat) (i:Int) (hk:kn≤maxLen) :
    Calls Try.prog 142 #[.agg #[.int .u64 id,.bool leaf,.string ⟨b.toArray⟩,.slice aA an ac,.string ⟨x.toArray⟩,.slice kA kn kc],.int .i64 i] w fun e w'=>e = .returned (.bool (hasB kn i))∧Below w.heap.size w w':=by
  unfold maxLen at hk
  by_cases h1:0≤i
  · by_cases h2:i < (kn:Int)
    · have hv:=Lib.hid (show hasB kn i = true from decide_eq_true ⟨h1,h2⟩)
      go_enter Try.func142,Try.ntmps142
      go_wp2_with fail
      go_ret
      exact ⟨by rw [hv.out];rfl,(Below.refl _ _).alloc (Nat.le_refl _) _⟩
    · have hv:=Lib.hid (show hasB kn i = false from decide_eq_false (fun h=>h2 h.2))
      go_enter Try.func142,Try.ntmps142
      go_wp2_with fail
      go_ret
      exact ⟨by rw [hv.out];rfl,(Below.refl _ _).alloc (Nat.le_refl _) _⟩
  · have hv:=Lib.hid (show hasB kn i = false from decide_eq_false (fun h=>h1 h.1))
    go_enter Try.func142,Try.ntmps142
    go_wp2_with fail
    go_ret
    exact ⟨by rw [hv.out];rfl,(Below.refl _ _).alloc (Nat.le_refl _) _⟩

structure Owned (w w':World) (T:Nat→Prop) (t:Nd) (aA:Option Addr) (an ac:Nat) (kA:Option Addr) (kn kc:Nat) (gA:Nat) (ks:List KV):Prop where
  ats:AtsIn (fun k=>k = gA) w' aA an t.attrs
  anc:an≤ac
  acm:ac≤maxLen
  anil:aA = none→ac = 0
  ga:w.heap.size≤gA∧gA < w'.heap.size
  map:ks.map KV.t = t.kids
  ok:∀ k ∈ ks,k.ok T w
  row:OwnK w.heap.size w' (.slice kA kn kc) ks
  len:ks.length = kn
  knc:kn≤kc
  kcm:kc≤maxLen
  knil:kA = none→kc = 0
  ne:∀ ad,kA = some ad→ad.block ≠ gA
  bel:Below w.heap.size w w'
theorem two_new {w:World} (o1 o2:Obj) (k:Nat) (h:k < w.heap.size):((w.alloc o1).alloc o2).heap[k]? = w.heap[k]? :=
  (Go.heap_alloc_old _ _ (by simp;omega)).trans (Go.heap_alloc_old _ _ h)
theorem own_base {w:World} {b base:Nat} {e:TypeId} {size:Nat} {v:Value} {n:Nat} {xs:List Value} (h:w.ownsRow base e size v n xs) (hb:b≤base):w.ownsRow b e size v n xs:=by
  refine ⟨h.1,?_⟩
  rcases h.2 with h0 | ⟨g,cap,cur,rfl,hg,rest⟩
  · exact .inl h0
  · exact .inr ⟨g,cap,cur,rfl,by omega,rest⟩
theorem two_first (w:World) (o1 o2:Obj):((w.alloc o1).alloc o2).heap[w.heap.size]? = some o1:=(Go.heap_alloc_old _ _ (by simp)).trans (heap_alloc_new w o1)
theorem two_second (w:World) (o1 o2:Obj):((w.alloc o1).alloc o2).heap[w.heap.size + 1]? = some o2:=by
  have h:=heap_alloc_new (w.alloc o1) o2
  rw [World.size_alloc] at h
  exact h
theorem six_cells {w:World} {g:Nat} {a0 a1 a2 a3 a4 a5:Value} {t:TypeId} (h:w.heap[g]? = some (.cells #[a0,a1,a2,a3,a4,a5] t (0,0))) :
    w.cell? ⟨g,0,none⟩ = some a0∧w.cell? ⟨g,1,none⟩ = some a1∧w.cell? ⟨g,2,none⟩ = some a2∧w.cell? ⟨g,3,none⟩ = some a3∧w.cell? ⟨g,4,none⟩ = some a4∧w.cell? ⟨g,5,none⟩ = some a5∧∀ o,w.frozen? ⟨g,o,none⟩ = false :=
  ⟨cell_of_row w g 0 _ _ _ h,cell_of_row w g 1 _ _ _ h,cell_of_row w g 2 _ _ _ h,cell_of_row w g 3 _ _ _ h,cell_of_row w g 4 _ _ _ h,cell_of_row w g 5 _ _ _ h,fun o=>frozen_of_row w g o _ _ h⟩
set_option maxHeartbeats 4000000 in
theorem owned_any (w:World) (T:Nat→Prop) (t:Nd) (aA kA:Option Addr) (an ac kn kc:Nat) (h:NodeV T w aA an ac kA kn kc t) (hT:∀ k,T k→k < w.heap.size) (hn:an≤1000000) (hkn:kn≤1000000) :
    Calls Try.prog 143 #[.agg #[.int .u64 (t.id:Int),.bool t.leaf,.string ⟨t.label.toArray⟩,.slice aA an ac,.string ⟨t.text.toArray⟩,.slice kA kn kc]] w fun e w'=>∃ aA' ac' kA' kc' gA ks,
      e = .returned (.agg #[.int .u64 (t.id:Int),.bool t.leaf,.string ⟨t.label.toArray⟩,.slice aA' an ac',.string ⟨t.text.toArray⟩,.slice kA' kn kc'])∧Owned w w' T t aA' an ac' kA' kn kc' gA ks:=by
  have hf:=h.facts
  have f1:=Lib.hid hf.ats
  have f2:=Lib.hid hf.anil
  have f3:=hf.anc
  have f4:=Lib.hid hf.row
  have f5:=Lib.hid hf.knil
  have f6:=hf.knc
  have f7:=Lib.hid hf.kl
  have h':=Lib.hid h
  have hT':=Lib.hid hT
  clear hf h hT
  generalize hid:t.id = id
  generalize hlf:t.leaf = leaf
  generalize hlb:t.label = b
  generalize htx:t.text = x
  clear hid hlf hlb htx
  go_enter Try.func143,Try.ntmps143
  go_wp2_with (first
    | (at_builtin;refine wpList_append_ats rfl (.const (.slice none 0 0)) (.tmp 4) rfl T aA an ac t.attrs rfl rfl (AtsIn.kept (w:=w) (fun _ h=>h) (fun k hk=>two_new _ _ _ (hT'.out k hk)) f1.out) f2.out f3 hn ?_;intro A1 c1 w1 hat hc hm hz hb;have B1:=(hb.block w.heap.size (by simp;omega)).trans (two_first w _ _);have R1:=(hb.block (w.heap.size + 1) (by simp)).trans (two_second w _ _);obtain ⟨d0,d1,d2,d3,d4,d5,df⟩:=six_cells B1;have B1':=Lib.hid B1;have R1':=Lib.hid R1;clear B1 R1;have hs1:w.heap.size + 1 < w1.heap.size:=(by have:=hb.size;simp at this;omega);have H1:=Lib.hid hat;have H2:=Lib.hid hc;have H3:=Lib.hid hm;have H4:=Lib.hid hz;have H5:=Lib.hid hb;have K1:=Lib.hid (fun k (hk:k < w.heap.size)=>(hb.block k (by simp;omega)).trans (two_new _ _ k hk));clear hat hc hm hz hb)
    | (at_builtin;refine wpList_append_kids rfl (.const (.slice none 0 0)) (.tmp 8) rfl T kA kn kc t.kids rfl rfl f7.out (RowAt.kept (w:=w) (fun _ h=>h) (fun k hk=>(heap_setCell_other w1 ⟨w.heap.size,3,none⟩ k _ (by have:=hT'.out k hk;simp;omega)).trans (K1.out k (hT'.out k hk))) _ _ _ f4.out) f5.out f6 hkn ?_;intro A2 c2 w2 ks e1 e2 e3 e4 e5 e6 hb2;have B2:=(hb2.block w.heap.size (by simp;omega)).trans (heap_setCell_same w1 w.heap.size 3 _ _ (.slice A1 an c1) B1'.out);simp at B2;have R2:=(hb2.block (w.heap.size + 1) (by simp;omega)).trans ((heap_setCell_other w1 ⟨w.heap.size,3,none⟩ (w.heap.size + 1) (.slice A1 an c1) (by simp)).trans R1'.out);obtain ⟨g0,g1,g2,g3,g4,g5,gf⟩:=six_cells B2;obtain ⟨r0,r1,r2,r3,r4,r5,rf⟩:=six_cells R2;have B2':=Lib.hid B2;have R2':=Lib.hid R2;clear B2 R2;have hs2:w.heap.size + 1 < w2.heap.size:=(by have:=hb2.size;simp at this;omega);have E1:=Lib.hid e1;have E2:=Lib.hid e2;have E3:=Lib.hid e3;have E4:=Lib.hid e4;have E5:=Lib.hid e5;have E6:=Lib.hid e6;have E7:=Lib.hid hb2;clear e1 e2 e3 e4 e5 e6 hb2))
  refine bodyPost_ret (v:=.agg #[.int .u64 (id:Int),.bool leaf,.string ⟨b.toArray⟩,.slice A1 an c1,.string ⟨x.toArray⟩,.slice A2 kn c2]) (by simp [results,Try.results143,go_sem,r0,r1,r2,r3,r4,r5]) rfl ?_
  have hz:(w1.setCell ⟨w.heap.size,3,none⟩ (.slice A1 an c1)).heap.size = w1.heap.size:=by simp
  rw [hz] at E3 E7
  obtain ⟨W7,hW7⟩:∃ W7,W7 = (((((((w2.setCell ⟨w.heap.size,5,none⟩ (.slice A2 kn c2)).setCell ⟨w.heap.size + 1,0,none⟩ (.int .u64 (id:Int))).setCell ⟨w.heap.size + 1,1,none⟩ (.bool leaf)).setCell ⟨w.heap.size + 1,2,none⟩ (.string ⟨b.toArray⟩)).setCell ⟨w.heap.size + 1,3,none⟩ (.slice A1 an c1)).setCell ⟨w.heap.size + 1,4,none⟩ (.string ⟨x.toArray⟩)).setCell ⟨w.heap.size + 1,5,none⟩ (.slice A2 kn c2)):=⟨_,rfl⟩
  rw [← hW7]
  have z7:W7.heap.size = w2.heap.size:=by rw [hW7];simp
  have o7:∀ k,k ≠ w.heap.size→k ≠ w.heap.size + 1→W7.heap[k]? = w2.heap[k]?:=fun k n1 n2=>by
    rw [hW7]
    refine (heap_setCell_other _ _ k _ n2).trans ((heap_setCell_other _ _ k _ n2).trans ((heap_setCell_other _ _ k _ n2).trans ((heap_setCell_other _ _ k _ n2).trans ((heap_setCell_other _ _ k _ n2).trans ((heap_setCell_other _ _ k _ n2).trans (heap_setCell_other _ _ k _ n1))))))
  have b1:Below w.heap.size w (w1.setCell ⟨w.heap.size,3,none⟩ (.slice A1 an c1)):=((((Below.refl w.heap.size w).alloc (Nat.le_refl _) _).alloc (by simp) _).trans (H5.out.mono (by simp;omega))).setCell (Nat.le_refl _) _
  have b7:Below w.heap.size w W7:=by
    rw [hW7]
    exact (((((((b1.trans (E7.out.mono (by omega))).setCell (Nat.le_refl _) _).setCell (by simp) _).setCell (by simp) _).setCell (by simp) _).setCell (by simp) _).setCell (by simp) _).setCell (by simp) _
  clear hW7
  have hW0:((w.alloc (.cells #[.int .u64 (id:Int),.bool leaf,.string ⟨b.toArray⟩,.slice aA an ac,.string ⟨x.toArray⟩,.slice kA kn kc] 36)).alloc (.cells #[.int .u64 0,.bool false,.string ⟨#[]⟩,.slice none 0 0,.string ⟨#[]⟩,.slice none 0 0] 36)).heap.size = w.heap.size + 2:=by simp
  have g1:=H1.out
  rw [hW0] at g1
  have hrow:OwnK w.heap.size W7 (.slice A2 kn c2) ks:=own_kept (own_base E3.out (by omega)) fun k hk=>by
    have:=(World.ownsRow.lt E3.out k hk).1
    exact o7 k (by omega) (by omega)
  have hkl:ks.length = kn:=by rw [← f7.out,← E1.out,List.length_map]
  obtain ⟨gA,ga1,ga2,ga3,ga4⟩:∃ gA,w.heap.size≤gA∧gA < w1.heap.size∧gA < W7.heap.size∧AtsIn (fun k=>k = gA) W7 A1 an t.attrs:=by
    have h2:=E7.out.size
    rw [hz] at h2
    by_cases h0:an = 0
    · subst h0
      have hnil:t.attrs = []:=List.length_eq_zero_iff.1 g1.1
      refine ⟨w.heap.size,Nat.le_refl _,by omega,by omega,?_⟩
      rw [hnil]
      exact ⟨rfl,fun q x hx=>by simp at hx⟩
    · obtain ⟨ad,y,-,-,ht,-⟩:=g1.at_ (q:=0) (by omega)
      refine ⟨w.heap.size + 2,by omega,by omega,by omega,AtsIn.kept (w:=w1) (fun k hk=>hk.1) (fun k hk=>?_) g1⟩
      obtain ⟨rfl,hk2⟩:=hk
      exact (o7 _ (by omega) (by omega)).trans ((E7.out.block _ (by omega)).trans (heap_setCell_other w1 ⟨w.heap.size,3,none⟩ _ _ (by simp)))
  refine ⟨A1,c1,A2,c2,gA,ks,rfl,ga4,H2.out,H3.out,H4.out,⟨ga1,ga3⟩,E1.out,fun k hk=>?_,hrow,hkl,E4.out,E5.out,E6.out,fun ad e=>?_,b7⟩
  · exact KV.ok_kept (fun _ h=>h) (fun j hj=>(b1.block j (hT'.out j hj)).symm) (E2.out k hk)
  · have hl:=World.ownsRow.lt E3.out ad.block (by rw [e];rfl)
    omega
end Go.Proofs.Ytidimannfemnmaa
