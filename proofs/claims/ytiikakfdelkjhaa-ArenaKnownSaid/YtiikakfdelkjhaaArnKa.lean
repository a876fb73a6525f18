/- The closed law: the rows of calls that it makes for itself, and its walk. -/
import Derived.Test.YtiikakfdelkjhaaArnPo
import Derived.Test.YtiikakfdelkjhaaArnTs
import Derived.Test.YtiikakfdelkjhaaArnT
import Derived.Deep.RegionHeld3
namespace Go.Proofs.Ytiikakfdelkjhaa.Arn
open Go.RowKit Go.ChangeShapes Go.WideShapes Go.Deep
set_option linter.unusedVariables false
set_option maxRecDepth 20000

theorem Try.infoCl : (Try.prog.info? 40).map (fun i => (i.zero, i.size, i.bytes)) = some (some (.agg #[.int .i64 0, .int .i64 0, .int .i64 0, .int .i64 0, .int .u64 0, .bool false, .string ⟨#[]⟩, .slice none 0 0, .string ⟨#[]⟩]), 9, 104) := by kernel_rfl
theorem Cl.cells_one (xs : List Cl) : ∀ u ∈ xs.flatMap Cl.cells, u.oneCell' = true := by
  intro u hu
  obtain ⟨x, -, hx⟩ := List.mem_flatMap.1 hu
  simp only [Cl.cells, datCells, List.mem_cons, List.not_mem_nil, or_false] at hx
  rcases hx with rfl | rfl | rfl | rfl | rfl | rfl | rfl | rfl | rfl <;> rfl
theorem Cl.Ok.kept {T T' : Nat → Prop} {w w' : World} {c : Cl} (hT : ∀ k, T k → T' k) (hk : ∀ k, T k → w'.heap[k]? = w.heap[k]?) (h : c.Ok T w) : c.Ok T' w' :=
  ⟨h.kind, h.a, h.b, h.at_, h.d.kept hT hk⟩
/-- blocks that are there, but the row's -/
def Apart (w : World) (v : Value) (k : Nat) : Prop := k < w.heap.size ∧ v.ownBlock ≠ some k
/-- a row of calls of the law's own -/
structure OwnCl (b : Nat) (w : World) (v : Value) (xs : List Cl) : Prop where
  row : w.ownsRow b 40 9 v xs.length (xs.flatMap Cl.cells)
  ok : ∀ c ∈ xs, c.Ok (Apart w v) w
section
variable {b : Nat} {w w' : World} {v : Value} {xs ys : List Cl}
theorem OwnCl.nil_ (b : Nat) (w : World) : OwnCl b w (.slice none 0 0) [] := ⟨World.ownsRow_nil _ _ _ _, fun c h => by cases h⟩
theorem OwnCl.made (hb : b ≤ w.heap.size) : OwnCl b (w.alloc (.cells #[] 40)) (.slice (some ⟨w.heap.size, 0, none⟩) 0 0) [] :=
  ⟨World.ownsRow_made _ _ _ hb (Nat.zero_le _) rfl, fun c h => by cases h⟩
theorem OwnCl.grown (h : OwnCl b w v xs) {row : Option Nat} (hg : w.grownBy w' row) (hne : v.ownBlock = none ∨ v.ownBlock ≠ row) (hr : ∀ k, row = some k → ∀ c ∈ xs, c.Ok (fun j => Apart w v j ∧ j ≠ k) w) : OwnCl b w' v xs := by
  refine ⟨h.row.kept hg hne, fun c hc => ?_⟩
  cases row with
  | none => exact (h.ok c hc).kept (fun k hk => ⟨Nat.lt_of_lt_of_le hk.1 hg.size, hk.2⟩) fun k hk => hg.block k hk.1 (by simp)
  | some r => exact (hr r rfl c hc).kept (fun k hk => ⟨Nat.lt_of_lt_of_le hk.1.1 hg.size, hk.1.2⟩) fun k hk => hg.block k hk.1.1 (by simp; exact hk.2)
theorem OwnCl.below (h : OwnCl b w v xs) (hb : Below w.heap.size w w') : OwnCl b w' v xs :=
  h.grown (row := none) ⟨hb.os, hb.tape, hb.output, hb.size, fun k hk _ => hb.block k hk⟩ (by cases hv : v.ownBlock with | none => exact .inl rfl | some k => exact .inr (by simp)) (fun k e => by cases e)
theorem OwnCl.alloc (h : OwnCl b w v xs) (o : Obj) : OwnCl b (w.alloc o) v xs := h.below ((Below.refl _ _).alloc (Nat.le_refl _) o)
theorem OwnCl.drew (h : OwnCl b w v xs) (n : Nat) : OwnCl b (w.drewN n) v xs := h.below (draws (Below.refl _ _) n)
/-- the row as it is handed on -/
theorem OwnCl.cls (h : OwnCl b w v xs) : ∃ A c, v = .slice A xs.length c ∧ ClsIn (Old w) w A xs.length xs ∧ xs.length ≤ c ∧ c ≤ maxLen ∧ (A = none → c = 0) := by
  obtain ⟨A, c, e, h1, h2, h3, h4⟩ := own_form h.row
  refine ⟨A, c, e, ⟨rfl, fun q x hx => ?_⟩, h1, h2, h3⟩
  have hq := (List.getElem?_eq_some_iff.1 hx).1
  obtain ⟨g, rfl, hb, hlt, hc⟩ := h4 (by omega)
  refine ⟨_, rfl, hlt, (h.ok x (List.mem_of_getElem? hx)).kept (fun k hk => hk.1) (fun _ _ => rfl), fun j u hj => ?_⟩
  rw [add_add, add_zero_off]
  exact hc _ _ (chunk_of Cl.cells 9 Cl.cells_len xs q j x u hx hj)
end
theorem news_new (w : World) (cs : Array Value) (t : TypeId) : ∀ j u, cs.toList[j]? = some u → (w.alloc (.cells cs t)).cell? ((⟨w.heap.size, 0, none⟩ : Addr).add j) = some u := by
  intro j u hj
  rw [add_zero_off]
  have h := cell_of_row (w.alloc (.cells cs t)) w.heap.size j _ _ _ (heap_alloc_new w _)
  rw [h]
  simpa using hj
theorem ClsIn.news {T : Nat → Prop} {w : World} {ad : Addr} {n : Nat} {l : List Cl} (h : ClsIn T w (some ad) n l) : ∀ j u, (l.flatMap Cl.cells)[j]? = some u → w.cell? (ad.add j) = some u := by
  intro j u hj
  obtain ⟨q, i, x, rfl, -, h3, h4⟩ := chunk_at Cl.cells 9 Cl.cells_len (by omega) l j u hj
  obtain ⟨ad', e, -, -, c1⟩ := h.2 q x h3
  injection e with e
  subst e
  rw [← add_add]
  exact c1 i u h4
theorem ClsIn.of_news {T : Nat → Prop} {w : World} {ad : Addr} {l : List Cl} (ht : T ad.block) (ho : ∀ c ∈ l, c.Ok T w) (h : ∀ j u, (l.flatMap Cl.cells)[j]? = some u → w.cell? (ad.add j) = some u) : ClsIn T w (some ad) l.length l := by
  refine ⟨rfl, fun q c hq => ⟨ad, rfl, ht, ho c (List.mem_of_getElem? hq), fun j u hj => ?_⟩⟩
  rw [add_add]
  exact h _ _ (chunk_of Cl.cells 9 Cl.cells_len l q j c u hq hj)
theorem ClsIn.drop {T : Nat → Prop} {w : World} {ad : Addr} {n : Nat} {l : List Cl} (h : ClsIn T w (some ad) n l) (k : Nat) : ClsIn T w (some (ad.add (k * 9))) (n - k) (l.drop k) := by
  refine ⟨by rw [List.length_drop, h.1], fun q c hq => ?_⟩
  rw [List.getElem?_drop] at hq
  obtain ⟨ad', e, ht, ho, hc⟩ := h.2 _ c hq
  injection e with e
  subst e
  refine ⟨_, rfl, by rw [block_add]; exact ht, ho, fun j u hj => ?_⟩
  have := hc j u hj
  rw [add_add, add_add] at *
  rw [← this]
  congr 2
  omega
/-- a row handed to append, onto a row of the law's own -/
theorem wpList_append_cls {ops : Array Oper} {rest : List Oper} {o : Oper} {a : Act} {Q : Exit → Act → World → Prop} (hgd : o.guard = none) (sl x : Operand)
    (ho : o.op = .call { callee := .builtin .append, args := #[sl, x], argTypes := #[26, 26] }) (w : World) (b : Nat) (v : Value) (xs ys : List Cl) (hs : a.eval sl = v) (h0 : OwnCl b w v xs) (ad : Addr) (m c : Nat) (hx : a.eval x = .slice (some ad) m c) (hm : ys.length = m)
    (hnews : ∀ j u, (ys.flatMap Cl.cells)[j]? = some u → w.cell? (ad.add j) = some u) (hok : ∀ y ∈ ys, y.Ok (Apart w v) w) (hlen : xs.length + m ≤ 100000) (hb : b ≤ w.heap.size)
    (h : ∀ v' w', OwnCl b w' v' (xs ++ ys) → w.grownBy w' v.ownBlock → wpList Try.prog ops Q rest (a.put o.dst v') w') : wpList Try.prog ops Q (o :: rest) a w := by
  obtain ⟨i0, hi0, hz0, hz1, hz2⟩ := info_parts Try.infoCl
  refine wpList_append_own_at w hgd sl x 26 ho b 40 i0 _ 9 104 Try.underlying26 hi0 hz0 hz1 hz2 rfl (by decide) v xs.length (xs.flatMap Cl.cells) hs h0.row ad m c (ys.flatMap Cl.cells) hx (by rw [chunk_len Cl.cells 9 Cl.cells_len, hm]) hnews (Cl.cells_one ys) (by unfold maxLen; omega) (by omega) hb ?_
  intro v' w' hown hg _ hat
  refine h v' w' ⟨?_, fun y hy => ?_⟩ hg
  · rw [List.flatMap_append, List.length_append, hm]; exact hown
  · have hy' : y.Ok (Apart w v) w := by
      rcases List.mem_append.1 hy with hy | hy
      · exact h0.ok y hy
      · exact hok y hy
    refine hy'.kept (fun k hk => ⟨Nat.lt_of_lt_of_le hk.1 hg.size, fun e => ?_⟩) fun k hk => hg.block k hk.1 (fun e => hk.2 e.symm)
    rcases hat with e2 | e2
    · exact hk.2 (e2.symm.trans e)
    · rw [e2] at e
      injection e with e
      have := hk.1
      omega
/-- a row that stands in the text handed to append -/
theorem wpList_append_lit {ops : Array Oper} {rest : List Oper} {o : Oper} {a : Act} {Q : Exit → Act → World → Prop} (hgd : o.guard = none) (sl x : Operand)
    (ho : o.op = .call { callee := .builtin .append, args := #[sl, x], argTypes := #[26, 26] }) (w : World) (cs : Array Value) (b : Nat) (v : Value) (xs ys : List Cl) (hs : a.eval sl = v) (h0 : OwnCl b w v xs) (m c : Nat) (g : Nat) (hgs : w.heap.size = g) (hx : a.eval x = .slice (some ⟨g, 0, none⟩) m c) (hm : ys.length = m)
    (hcs : cs.toList = ys.flatMap Cl.cells) (hok : ∀ y ∈ ys, y.Ok (Apart w v) w) (hlen : xs.length + m ≤ 100000) (hb : b ≤ w.heap.size)
    (h : ∀ v' w', OwnCl b w' v' (xs ++ ys) → Below b w w' → wpList Try.prog ops Q rest (a.put o.dst v') w') : wpList Try.prog ops Q (o :: rest) a (w.alloc (.cells cs 40)) := by
  subst hgs
  have hal := (Below.refl b w).alloc hb (.cells cs 40)
  have hsz : w.heap.size ≤ (w.alloc (.cells cs 40)).heap.size := by simp
  refine wpList_append_cls hgd sl x ho _ b v xs ys hs (h0.alloc _) ⟨w.heap.size, 0, none⟩ m c hx hm (fun j u hj => news_new w cs _ j u (by rw [hcs]; exact hj)) (fun y hy => (hok y hy).kept (fun k hk => ⟨Nat.lt_of_lt_of_le hk.1 hsz, hk.2⟩) fun k hk => Go.heap_alloc_old _ _ hk.1) hlen (Nat.le_trans hb hsz) ?_
  intro v' w' h1 h2
  exact h v' w' h1 (hal.grown h2 (Nat.le_trans hb hsz) fun k hk => (h0.row.lt k hk).1)

def startL : List Cl := [⟨0, 0, 0, 0, ⟨0, false, [], [], []⟩, none, 0, 0⟩, ⟨0, 0, 0, 1, ⟨7, true, [], [], [116]⟩, none, 0, 0⟩, ⟨0, 1, 0, 0, ⟨0, false, [], [], []⟩, none, 0, 0⟩, ⟨0, 1, 0, 1, ⟨0, false, [], [], []⟩, none, 0, 0⟩]
def threeL (x : Int) (g : Nat) : List Cl := [⟨2, x, 0, 0, ⟨0, false, [], [], []⟩, none, 0, 0⟩, ⟨0, x, 0, 1, ⟨0, false, [], [([107], [])], []⟩, some ⟨g, 0, none⟩, 1, 1⟩, ⟨5, x, 0, 0, ⟨0, true, [], [], []⟩, none, 0, 0⟩]
theorem i64_small {x : Int} (h : -1000 ≤ x ∧ x ≤ 1000) : I64 x := ⟨by omega, by omega⟩
theorem cl_ok {T : Nat → Prop} {w : World} {k a b t : Int} {id : Nat} {lf : Bool} {tx : Txt} (hk : -1000 ≤ k ∧ k ≤ 1000) (ha : -1000 ≤ a ∧ a ≤ 1000) (hb : -1000 ≤ b ∧ b ≤ 1000) (ht : -1000 ≤ t ∧ t ≤ 1000) (hi : id ≤ 1000) (hx : tx.length ≤ 1000) :
    Cl.Ok T w ⟨k, a, b, t, ⟨id, lf, [], [], tx⟩, none, 0, 0⟩ :=
  ⟨i64_small hk, i64_small ha, i64_small hb, i64_small ht, ⟨by show id < _; omega, Nat.zero_le _, by show tx.length ≤ _; unfold maxLen; omega, ⟨rfl, fun q x h => by simp at h⟩, Nat.le_refl _, Nat.zero_le _, fun _ => rfl⟩⟩
theorem start_ok {T : Nat → Prop} {w : World} : ∀ c ∈ startL, c.Ok T w := by
  intro c hc
  simp only [startL, List.mem_cons, List.not_mem_nil, or_false] at hc
  rcases hc with rfl | rfl | rfl | rfl
  · exact cl_ok (by omega) (by omega) (by omega) (by omega) (by omega) (by simp)
  · exact cl_ok (by omega) (by omega) (by omega) (by omega) (by omega) (by simp)
  · exact cl_ok (by omega) (by omega) (by omega) (by omega) (by omega) (by simp)
  · exact cl_ok (by omega) (by omega) (by omega) (by omega) (by omega) (by simp)
/-- the row of calls while it is made -/
structure KW (w wr : World) (v : Value) (xs : List Cl) : Prop where
  own : OwnCl (w.heap.size + 1) wr v xs
  st : ClsIn (fun k => k = w.heap.size) wr (some ⟨w.heap.size, 0, none⟩) 4 startL
  sz : w.heap.size + 1 ≤ wr.heap.size
  bel : Below w.heap.size w wr
theorem KW.start (w : World) (cs : Array Value) (hcs : cs.toList = startL.flatMap Cl.cells) : KW w (w.alloc (.cells cs 40)) (.slice none 0 0) [] :=
  ⟨OwnCl.nil_ _ _, ClsIn.of_news (T := fun k => k = w.heap.size) (l := startL) rfl start_ok fun j u hj => news_new w cs 40 j u (by rw [hcs]; exact hj), by simp, (Below.refl _ _).alloc (Nat.le_refl _) _⟩
theorem KW.step {w wr w' : World} {v v' : Value} {xs xs' : List Cl} (h : KW w wr v xs) (h1 : OwnCl (w.heap.size + 1) w' v' xs') (h2 : Below (w.heap.size + 1) wr w') : KW w w' v' xs' :=
  ⟨h1, h.st.kept (fun _ e => e) fun k hk => h2.block k (by omega), Nat.le_trans h.sz h2.size, h.bel.trans (h2.mono (by omega))⟩
theorem KW.alloc {w wr : World} {v : Value} {xs : List Cl} (h : KW w wr v xs) (o : Obj) : KW w (wr.alloc o) v xs :=
  h.step (h.own.alloc o) ((Below.refl _ _).alloc h.sz o)
theorem three_ok {b : Nat} {wr : World} {v : Value} {xs : List Cl} (h : OwnCl b wr v xs) (x : Int) (hx : -1 ≤ x ∧ x ≤ 6) : ∀ c ∈ threeL x wr.heap.size, c.Ok (Apart (wr.alloc (.cells #[.string ⟨#[107]⟩, .string ⟨#[]⟩] 61)) v) (wr.alloc (.cells #[.string ⟨#[107]⟩, .string ⟨#[]⟩] 61)) := by
  intro c hc
  simp only [threeL, List.mem_cons, List.not_mem_nil, or_false] at hc
  rcases hc with rfl | rfl | rfl
  · exact cl_ok (by omega) (by omega) (by omega) (by omega) (by omega) (by simp)
  · refine ⟨i64_small (x := 0) (by omega), i64_small (x := x) (by omega), i64_small (x := 0) (by omega), i64_small (x := 1) (by omega), ⟨by show 0 < _; omega, Nat.zero_le _, Nat.zero_le _, ⟨rfl, fun q y hq => ?_⟩, Nat.le_refl _, (by show 1 ≤ _; unfold maxLen; omega), fun e => by cases e⟩⟩
    have hg := heap_alloc_new wr (.cells #[.string ⟨#[107]⟩, .string ⟨#[]⟩] 61)
    match q, hq with
    | 0, hq =>
      simp at hq
      subst hq
      refine ⟨_, rfl, ⟨by simp, fun e => by have h2 : wr.heap.size < wr.heap.size := (h.row.lt _ e).2; omega⟩, (by show 1 ≤ _; unfold maxLen; omega), Nat.zero_le _, ?_, ?_⟩
      · rw [add_zero_off]; exact (cell_of_row _ wr.heap.size 0 _ _ _ hg)
      · rw [add_zero_off]; exact (cell_of_row _ wr.heap.size 1 _ _ _ hg)
  · exact cl_ok (by omega) (by omega) (by omega) (by omega) (by omega) (by simp)
theorem ClsIn.below {w w' : World} {A : Option Addr} {n : Nat} {l : List Cl} (h : ClsIn (Old w) w A n l) (hb : Below w.heap.size w w') : ClsIn (Old w') w' A n l :=
  h.kept (fun k hk => Nat.lt_of_lt_of_le hk hb.size) fun k hk => hb.block k hk
/-- a row of calls of the law's own, handed to append at a step of a region that draws its order -/
theorem step_append_lit {ops : Array Oper} {o : Oper} {a : Act} {K : Act → World → Prop} {Q : Exit → Act → World → Prop} {E : Prop} (hgd : o.guard = none) (sl x : Operand)
    (ho : o.op = .call { callee := .builtin .append, args := #[sl, x], argTypes := #[26, 26] }) (w : World) (cs : Array Value) (b : Nat) (v : Value) (xs ys : List Cl) (hs : a.eval sl = v) (h0 : OwnCl b w v xs) (m c : Nat) (g : Nat) (hgs : w.heap.size = g) (hx : a.eval x = .slice (some ⟨g, 0, none⟩) m c) (hm : ys.length = m)
    (hcs : cs.toList = ys.flatMap Cl.cells) (hok : ∀ y ∈ ys, y.Ok (Apart w v) w) (hm0 : 0 < m) (hlen : xs.length + m ≤ 100000) (hb : b ≤ w.heap.size)
    (h : ∀ v' w', OwnCl b w' v' (xs ++ ys) → Below b w w' → K (a.put o.dst v') w') : if Region.wanted o (yielded ops a.tmps) = true then Oper.wp Try.prog o a (w.alloc (.cells cs 40)) K Q else E := by
  subst hgs
  obtain ⟨i0, hi0, hz0, hz1, hz2⟩ := info_parts Try.infoCl
  have hal := (Below.refl b w).alloc hb (.cells cs 40)
  have hsz : w.heap.size ≤ (w.alloc (.cells cs 40)).heap.size := by simp
  refine step_append_lies _ hgd sl x 26 ho b 40 i0 _ 9 104 Try.underlying26 hi0 hz0 hz1 hz2 rfl (by decide) v xs.length (xs.flatMap Cl.cells) hs (h0.alloc _).row ⟨w.heap.size, 0, none⟩ m c (ys.flatMap Cl.cells) hx (by rw [chunk_len Cl.cells 9 Cl.cells_len, hm]) (fun j u hj => news_new w cs _ j u (by rw [hcs]; exact hj)) (Cl.cells_one ys) hm0 (by unfold maxLen; omega) (by omega) (Nat.le_trans hb hsz) _ rfl ?_
  intro g cap w' hown hg hat hlt
  refine h _ w' ⟨?_, fun y hy => ?_⟩ (hal.grown hg (Nat.le_trans hb hsz) fun k hk => (h0.row.lt k hk).1)
  · rw [List.flatMap_append, List.length_append, hm]; exact hown
  · have hy' : y.Ok (Apart w v) w := by
      rcases List.mem_append.1 hy with hy | hy
      · exact h0.ok y hy
      · exact hok y hy
    refine hy'.kept (fun k hk => ⟨Nat.lt_of_lt_of_le (Nat.lt_of_lt_of_le hk.1 hsz) hg.size, fun e => ?_⟩) fun k hk => (hg.block k (Nat.lt_of_lt_of_le hk.1 hsz) (fun e => hk.2 e.symm)).trans (Go.heap_alloc_old _ _ hk.1)
    have e3 : g = k := by injection e
    rcases hat with e2 | e2
    · exact hk.2 (e3 ▸ e2)
    · have := hk.1
      have h4 : (w.alloc (.cells cs 40)).heap.size = w.heap.size + 1 := by simp
      omega
theorem dat_plain {T : Nat → Prop} {w : World} {id : Nat} {lf : Bool} (hi : id ≤ 1000) : DatIn T w ⟨id, lf, [], [], []⟩ none 0 0 :=
  ⟨by show id < _; omega, Nat.zero_le _, Nat.zero_le _, ⟨rfl, fun q x h => by simp at h⟩, Nat.le_refl _, Nat.zero_le _, fun _ => rfl⟩
def pathsL : List (List Int) := [[], [0], [1], [0, 0], [0, 1], [2], [-1], [0, 0, 0]]
/-- the world with the paths -/
def pathsW (W : World) : World :=
  (((((((W.alloc (.cells #[.int .i64 0] 3)).alloc (.cells #[.int .i64 1] 3)).alloc (.cells #[.int .i64 0, .int .i64 0] 3)).alloc (.cells #[.int .i64 0, .int .i64 1] 3)).alloc (.cells #[.int .i64 2] 3)).alloc (.cells #[.int .i64 (-1)] 3)).alloc (.cells #[.int .i64 0, .int .i64 0, .int .i64 0] 3)).alloc
    (.cells #[.slice none 0 0, .slice (some ⟨W.heap.size, 0, none⟩) 1 1, .slice (some ⟨W.heap.size + 1, 0, none⟩) 1 1, .slice (some ⟨W.heap.size + 2, 0, none⟩) 2 2, .slice (some ⟨W.heap.size + 3, 0, none⟩) 2 2, .slice (some ⟨W.heap.size + 4, 0, none⟩) 1 1, .slice (some ⟨W.heap.size + 5, 0, none⟩) 1 1, .slice (some ⟨W.heap.size + 6, 0, none⟩) 3 3] 33)
theorem paths_below (W : World) : Below W.heap.size W (pathsW W) := by
  unfold pathsW
  have h0 := Below.refl W.heap.size W
  have h1 := h0.alloc (Nat.le_refl _) (.cells #[.int .i64 0] 3)
  have h2 := h1.alloc h1.size (.cells #[.int .i64 1] 3)
  have h3 := h2.alloc h2.size (.cells #[.int .i64 0, .int .i64 0] 3)
  have h4 := h3.alloc h3.size (.cells #[.int .i64 0, .int .i64 1] 3)
  have h5 := h4.alloc h4.size (.cells #[.int .i64 2] 3)
  have h6 := h5.alloc h5.size (.cells #[.int .i64 (-1)] 3)
  have h7 := h6.alloc h6.size (.cells #[.int .i64 0, .int .i64 0, .int .i64 0] 3)
  exact h7.alloc h7.size _
theorem heap_back (w : World) (o o' : Obj) (k : Nat) (h : w.heap[k]? = some o) : (w.alloc o').heap[k]? = some o := (Go.heap_alloc_old _ _ (Array.getElem?_eq_some_iff.1 h).1).trans h
theorem heap_at (w : World) (o : Obj) (k : Nat) (h : w.heap.size = k) : (w.alloc o).heap[k]? = some o := by subst h; exact heap_alloc_new w o
theorem paths_ok (W : World) : PthIn (Old (pathsW W)) (pathsW W) (some ⟨W.heap.size + 7, 0, none⟩) 8 pathsL := by
  have hs : (pathsW W).heap.size = W.heap.size + 8 := by unfold pathsW; simp
  have b7 : ∃ cs, (pathsW W).heap[W.heap.size + 7]? = some (.cells cs 33) ∧ cs = #[.slice none 0 0, .slice (some ⟨W.heap.size, 0, none⟩) 1 1, .slice (some ⟨W.heap.size + 1, 0, none⟩) 1 1, .slice (some ⟨W.heap.size + 2, 0, none⟩) 2 2, .slice (some ⟨W.heap.size + 3, 0, none⟩) 2 2, .slice (some ⟨W.heap.size + 4, 0, none⟩) 1 1, .slice (some ⟨W.heap.size + 5, 0, none⟩) 1 1, .slice (some ⟨W.heap.size + 6, 0, none⟩) 3 3] := ⟨_, by unfold pathsW; exact heap_at _ _ _ (by simp), rfl⟩
  obtain ⟨cs, b7, ecs⟩ := b7
  have b0 : (pathsW W).heap[W.heap.size]? = some (.cells #[.int .i64 0] 3) := by
    unfold pathsW
    iterate 7 apply heap_back
    exact heap_at _ _ _ (by simp)
  have b1 : (pathsW W).heap[W.heap.size + 1]? = some (.cells #[.int .i64 1] 3) := by
    unfold pathsW
    iterate 6 apply heap_back
    exact heap_at _ _ _ (by simp)
  have b2 : (pathsW W).heap[W.heap.size + 2]? = some (.cells #[.int .i64 0, .int .i64 0] 3) := by
    unfold pathsW
    iterate 5 apply heap_back
    exact heap_at _ _ _ (by simp)
  have b3 : (pathsW W).heap[W.heap.size + 3]? = some (.cells #[.int .i64 0, .int .i64 1] 3) := by
    unfold pathsW
    iterate 4 apply heap_back
    exact heap_at _ _ _ (by simp)
  have b4 : (pathsW W).heap[W.heap.size + 4]? = some (.cells #[.int .i64 2] 3) := by
    unfold pathsW
    iterate 3 apply heap_back
    exact heap_at _ _ _ (by simp)
  have b5 : (pathsW W).heap[W.heap.size + 5]? = some (.cells #[.int .i64 (-1)] 3) := by
    unfold pathsW
    iterate 2 apply heap_back
    exact heap_at _ _ _ (by simp)
  have b6 : (pathsW W).heap[W.heap.size + 6]? = some (.cells #[.int .i64 0, .int .i64 0, .int .i64 0] 3) := by
    unfold pathsW
    iterate 1 apply heap_back
    exact heap_at _ _ _ (by simp)
  have hc : ∀ (q : Nat) (u : Value), cs[q]? = some u → (pathsW W).cell? ((⟨W.heap.size + 7, 0, none⟩ : Addr).add q) = some u := fun q u hu => by
    rw [add_zero_off]; exact (cell_of_row _ _ q _ _ _ b7).trans hu
  subst ecs
  refine ⟨rfl, fun q p hq => ?_⟩
  have ht : Old (pathsW W) (⟨W.heap.size + 7, 0, none⟩ : Addr).block := by unfold Old; rw [hs]; show W.heap.size + 7 < _; omega
  have hfit : Fit p := by
    have hp := List.mem_of_getElem? hq
    simp only [pathsL, List.mem_cons, List.not_mem_nil, or_false] at hp
    intro x hx
    rcases hp with rfl | rfl | rfl | rfl | rfl | rfl | rfl | rfl <;> simp at hx <;> omega
  have fin : ∀ (g m : Nat) (xs : List Int) (ds : Array Value) (t : TypeId), (pathsW W).heap[g]? = some (.cells ds t) → xs.length = m → ds = (xs.map fun x => Value.int .i64 x).toArray → m ≤ 3 → Fit xs → (pathsW W).cell? ((⟨W.heap.size + 7, 0, none⟩ : Addr).add q) = some (.slice (some ⟨g, 0, none⟩) m m) →
      ∃ ad B m c, some (⟨W.heap.size + 7, 0, none⟩ : Addr) = some ad ∧ Old (pathsW W) ad.block ∧ (pathsW W).cell? (ad.add q) = some (.slice B m c) ∧ Its (pathsW W) B m xs ∧ m ≤ c ∧ c ≤ maxLen ∧ Fit xs :=
    fun g m xs ds t hg hl hd hm hf hcell => ⟨_, _, m, m, rfl, ht, hcell, Its.of_block hg hl hd, Nat.le_refl _, by unfold maxLen; omega, hf⟩
  match q, hq with
  | 0, hq =>
    simp [pathsL] at hq
    subst hq
    exact ⟨_, none, 0, 0, rfl, ht, hc 0 _ rfl, Its.none_ _, Nat.le_refl _, Nat.zero_le _, hfit⟩
  | 1, hq => simp [pathsL] at hq; subst hq; exact fin _ 1 _ _ _ b0 rfl rfl (by omega) hfit (hc 1 _ rfl)
  | 2, hq => simp [pathsL] at hq; subst hq; exact fin _ 1 _ _ _ b1 rfl rfl (by omega) hfit (hc 2 _ rfl)
  | 3, hq => simp [pathsL] at hq; subst hq; exact fin _ 2 _ _ _ b2 rfl rfl (by omega) hfit (hc 3 _ rfl)
  | 4, hq => simp [pathsL] at hq; subst hq; exact fin _ 2 _ _ _ b3 rfl rfl (by omega) hfit (hc 4 _ rfl)
  | 5, hq => simp [pathsL] at hq; subst hq; exact fin _ 1 _ _ _ b4 rfl rfl (by omega) hfit (hc 5 _ rfl)
  | 6, hq => simp [pathsL] at hq; subst hq; exact fin _ 1 _ _ _ b5 rfl rfl (by omega) hfit (hc 6 _ rfl)
  | 7, hq => simp [pathsL] at hq; subst hq; exact fin _ 3 _ _ _ b6 rfl rfl (by omega) hfit (hc 7 _ rfl)
  | n + 8, hq => simp [pathsL] at hq

theorem ClsIn.lt0 {w wr : World} {n : Nat} (h : ClsIn (fun k => k = w.heap.size) wr (some ⟨w.heap.size, 0, none⟩) 4 startL) : w.heap.size < wr.heap.size := by
  obtain ⟨ad, e, -, -, hc⟩ := h.2 0 _ rfl
  injection e with e
  subst e
  exact World.block_lt_of_cell? wr _ (hc 0 _ rfl)
set_option maxHeartbeats 4000000 in
theorem lawKnown_any (w : World) : Calls Try.prog 7 #[] w fun e w' => e = .returned (.bool true) ∧ Below w.heap.size w w' := by
  go_enter Try.func7, Try.ntmps7
  go_wp2_with fail
  go_loopw [2, 3] (fun v i wr => ∃ (x : Int) (xs : List Cl), -1 ≤ x ∧ x ≤ 6 ∧ i = .int .i64 x ∧ (xs.length : Int) = 9 * (x + 1) ∧ KW w wr v xs) (fun _ i _ => (6 - intOf i).toNat)
  case atStart => exact ⟨-1, [], by omega, by omega, rfl, rfl, KW.start w _ rfl⟩
  case round =>
    obtain ⟨x, xs, hx0, hx1, rfl, hlen, hK⟩ := hrel
    have hK' := Lib.hid hK
    clear hK
    by_cases h6 : x < 6
    · have e1 : IntKind.i64.wrap (x + 1) = x + 1 := IntWalk.i64_in _ (by omega)
      have hok := Lib.hid (three_ok hK'.out.own x ⟨by omega, by omega⟩)
      have hKa := Lib.hid (fun o => hK'.out.alloc o)
      go_wp2_with (at_builtin; (refine wpList_append_lit rfl _ _ rfl _ _ (w.heap.size + 1) _ xs (threeL x wr.heap.size) rfl (hKa.out _).own 3 3 _ (by simp) rfl rfl rfl hok.out (by omega) (hKa.out _).sz ?_; intro v1 w1 h1 h2; have hK1 := Lib.hid ((hKa.out _).step h1 h2); clear h1 h2))
      go_loopw [2, 4] (fun v i wr => ∃ (y : Int) (xs : List Cl), -1 ≤ y ∧ y ≤ 5 ∧ i = .int .i64 y ∧ (xs.length : Int) = 9 * (x + 1) + 3 + (y + 1) ∧ KW w wr v xs) (fun _ i _ => (5 - intOf i).toNat)
      case atStart => exact ⟨-1, _, by omega, by omega, rfl, (by rw [List.length_append]; show ((xs.length + 3 : Nat) : Int) = _; omega), hK1.out⟩
      case round =>
        obtain ⟨y, ys, hy0, hy1, rfl, hlen2, hK2⟩ := hrel
        have hK2' := Lib.hid hK2
        clear hK2
        by_cases h5 : y < 5
        · have e2 : IntKind.i64.wrap (y + 1) = y + 1 := IntWalk.i64_in _ (by omega)
          have e3 : IntKind.i64.wrap (x + y) = x + y := IntWalk.i64_in _ (by omega)
          have e4 : IntKind.i64.wrap (x + y + 2) = x + y + 2 := IntWalk.i64_in _ (by omega)
          have e5 : (x + y + 2).tmod 3 = (x + y + 2) % 3 := Int.tmod_eq_emod_of_nonneg (by omega)
          have h9 : 0 ≤ (x + y + 2) % 3 ∧ (x + y + 2) % 3 < 3 := by omega
          go_wp2_with (at_builtin; (refine wpList_append_lit rfl _ _ rfl _ _ (w.heap.size + 1) _ ys [⟨3, x, y, (x + y + 2) % 3, ⟨0, false, [], [], []⟩, none, 0, 0⟩] rfl hK2'.out.own 1 1 _ rfl rfl rfl rfl (fun c hc => by obtain rfl := List.mem_singleton.1 hc; exact cl_ok (by omega) (by omega) (by omega) (by omega) (by omega) (by simp)) (by omega) hK2'.out.sz ?_; intro v1 w2 h1 h2; have hK3 := Lib.hid (hK2'.out.step h1 h2); clear h1 h2))
          go_roundw
          case rel => exact ⟨y + 1, _, by omega, by omega, by go_num, (by rw [List.length_append]; show ((ys.length + 1 : Nat) : Int) = _; omega), hK3.out⟩
          case measure => simp [intOf]; omega
        · go_wp2_with fail
          go_roundw
          case rel => exact ⟨x + 1, _, by omega, by omega, by go_num, (by omega), hK2'.out⟩
          case measure => simp [intOf]; omega
    · obtain rfl : x = 6 := by omega
      have h63 : xs.length = 63 := by omega
      obtain ⟨A3, cc, e3, hC3, hnc3, hcm3, -⟩ := hK'.out.own.cls
      rw [h63] at e3 hC3 hnc3
      subst e3
      obtain ⟨ad, _, rfl, -⟩ := call_cell hC3 (q := 0) (by omega)
      have hC3' := Lib.hid hC3
      have hst3 := Lib.hid hK'.out.st
      have hbw := Lib.hid hK'.out.bel
      obtain ⟨w3, hw3⟩ : ∃ w3, w3 = wr := ⟨_, rfl⟩
      subst hw3
      clear hC3 hK' hlen h63 hx0 hx1 h6
      go_wp2_with fail
      go_loopw [5] (fun i wr => ∃ q : Nat, q ≤ 63 ∧ i = .int .i64 (q : Int) ∧ Below w3.heap.size w3 wr) (fun i _ => 63 - (intOf i).toNat)
      case atStart => exact ⟨0, by omega, rfl, Below.refl _ _⟩
      case round =>
        obtain ⟨q, hq, rfl, hb4⟩ := hrel
        by_cases hq63 : q < 63
        · have q0 : (0 : Int) ≤ (q : Int) := by omega
          have q1 : (q : Int) < 63 := by omega
          have q2 : (q : Int).tmod 2 = (q : Int) % 2 := Int.tmod_eq_emod_of_nonneg (by omega)
          go_wp2_with fail
          go_loopw [6] (fun i wr => ∃ k : Nat, k ≤ 65 ∧ i = .int .i64 (k : Int) ∧ Below w3.heap.size w3 wr) (fun i _ => 65 - (intOf i).toNat)
          case atStart => exact ⟨0, by omega, rfl, hb4⟩
          case round =>
            clear hb4
            obtain ⟨k, hk, rfl, hb5⟩ := hrel
            by_cases hk63 : k < 63
            · have k0 : (0 : Int) ≤ (k : Int) := by omega
              have k1 : (k : Int) < 63 := by omega
              obtain ⟨ad1, c1, ea1, hl1, hok1, p1, r1⟩ := call_cell hC3'.out (q := q) (by omega)
              injection ea1 with ea1
              subst ea1
              obtain ⟨kd1, ca1, cb1, ct1, ⟨id1, lf1, lb1, at1, tx1⟩, aA1, an1, ac1⟩ := c1
              obtain ⟨ad2, c2, ea2, hl2, hok2, p2, r2⟩ := call_cell hC3'.out (q := k) (by omega)
              injection ea2 with ea2
              subst ea2
              obtain ⟨kd2, ca2, cb2, ct2, ⟨id2, lf2, lb2, at2, tx2⟩, aA2, an2, ac2⟩ := c2
              obtain ⟨ad3, c3, ea3, hl3, hok3, p3, r3⟩ := call_cell hC3'.out (q := ((q * 7 + k) % 63)) (by omega)
              injection ea3 with ea3
              subst ea3
              obtain ⟨kd3, ca3, cb3, ct3, ⟨id3, lf3, lb3, at3, tx3⟩, aA3, an3, ac3⟩ := c3
              have hok1' := Lib.hid hok1
              have hok2' := Lib.hid hok2
              have hok3' := Lib.hid hok3
              have hS : Hid (∀ W : World, Below w3.heap.size w3 W → Below w3.heap.size w3 W ∧ W.cell? (ad.add (q * 9)) = some (.int .i64 kd1) ∧ W.cell? ⟨(ad.add (q * 9)).block, (ad.add (q * 9)).off + 1, none⟩ = some (.int .i64 ca1) ∧ W.cell? ⟨(ad.add (q * 9)).block, (ad.add (q * 9)).off + 2, none⟩ = some (.int .i64 cb1) ∧ W.cell? ⟨(ad.add (q * 9)).block, (ad.add (q * 9)).off + 3, none⟩ = some (.int .i64 ct1) ∧ W.cell? ⟨(ad.add (q * 9)).block, (ad.add (q * 9)).off + 4, none⟩ = some (.int .u64 (id1 : Int)) ∧ W.cell? ⟨(ad.add (q * 9)).block, (ad.add (q * 9)).off + 5, none⟩ = some (.bool lf1) ∧ W.cell? ⟨(ad.add (q * 9)).block, (ad.add (q * 9)).off + 6, none⟩ = some (.string ⟨lb1.toArray⟩) ∧ W.cell? ⟨(ad.add (q * 9)).block, (ad.add (q * 9)).off + 7, none⟩ = some (.slice aA1 an1 ac1) ∧ W.cell? ⟨(ad.add (q * 9)).block, (ad.add (q * 9)).off + 8, none⟩ = some (.string ⟨tx1.toArray⟩) ∧ W.cell? (ad.add (k * 9)) = some (.int .i64 kd2) ∧ W.cell? ⟨(ad.add (k * 9)).block, (ad.add (k * 9)).off + 1, none⟩ = some (.int .i64 ca2) ∧ W.cell? ⟨(ad.add (k * 9)).block, (ad.add (k * 9)).off + 2, none⟩ = some (.int .i64 cb2) ∧ W.cell? ⟨(ad.add (k * 9)).block, (ad.add (k * 9)).off + 3, none⟩ = some (.int .i64 ct2) ∧ W.cell? ⟨(ad.add (k * 9)).block, (ad.add (k * 9)).off + 4, none⟩ = some (.int .u64 (id2 : Int)) ∧ W.cell? ⟨(ad.add (k * 9)).block, (ad.add (k * 9)).off + 5, none⟩ = some (.bool lf2) ∧ W.cell? ⟨(ad.add (k * 9)).block, (ad.add (k * 9)).off + 6, none⟩ = some (.string ⟨lb2.toArray⟩) ∧ W.cell? ⟨(ad.add (k * 9)).block, (ad.add (k * 9)).off + 7, none⟩ = some (.slice aA2 an2 ac2) ∧ W.cell? ⟨(ad.add (k * 9)).block, (ad.add (k * 9)).off + 8, none⟩ = some (.string ⟨tx2.toArray⟩) ∧ W.cell? (ad.add (((q * 7 + k) % 63) * 9)) = some (.int .i64 kd3) ∧ W.cell? ⟨(ad.add (((q * 7 + k) % 63) * 9)).block, (ad.add (((q * 7 + k) % 63) * 9)).off + 1, none⟩ = some (.int .i64 ca3) ∧ W.cell? ⟨(ad.add (((q * 7 + k) % 63) * 9)).block, (ad.add (((q * 7 + k) % 63) * 9)).off + 2, none⟩ = some (.int .i64 cb3) ∧ W.cell? ⟨(ad.add (((q * 7 + k) % 63) * 9)).block, (ad.add (((q * 7 + k) % 63) * 9)).off + 3, none⟩ = some (.int .i64 ct3) ∧ W.cell? ⟨(ad.add (((q * 7 + k) % 63) * 9)).block, (ad.add (((q * 7 + k) % 63) * 9)).off + 4, none⟩ = some (.int .u64 (id3 : Int)) ∧ W.cell? ⟨(ad.add (((q * 7 + k) % 63) * 9)).block, (ad.add (((q * 7 + k) % 63) * 9)).off + 5, none⟩ = some (.bool lf3) ∧ W.cell? ⟨(ad.add (((q * 7 + k) % 63) * 9)).block, (ad.add (((q * 7 + k) % 63) * 9)).off + 6, none⟩ = some (.string ⟨lb3.toArray⟩) ∧ W.cell? ⟨(ad.add (((q * 7 + k) % 63) * 9)).block, (ad.add (((q * 7 + k) % 63) * 9)).off + 7, none⟩ = some (.slice aA3 an3 ac3) ∧ W.cell? ⟨(ad.add (((q * 7 + k) % 63) * 9)).block, (ad.add (((q * 7 + k) % 63) * 9)).off + 8, none⟩ = some (.string ⟨tx3.toArray⟩)) := fun W hb => ⟨hb, (hb.cell (p := ad.add _) (World.block_lt_of_cell? w3 _ p1)).trans p1, (hb.cell (World.block_lt_of_cell? w3 _ (r1 1 _ (by decide) rfl))).trans (r1 1 _ (by decide) rfl), (hb.cell (World.block_lt_of_cell? w3 _ (r1 2 _ (by decide) rfl))).trans (r1 2 _ (by decide) rfl), (hb.cell (World.block_lt_of_cell? w3 _ (r1 3 _ (by decide) rfl))).trans (r1 3 _ (by decide) rfl), (hb.cell (World.block_lt_of_cell? w3 _ (r1 4 _ (by decide) rfl))).trans (r1 4 _ (by decide) rfl), (hb.cell (World.block_lt_of_cell? w3 _ (r1 5 _ (by decide) rfl))).trans (r1 5 _ (by decide) rfl), (hb.cell (World.block_lt_of_cell? w3 _ (r1 6 _ (by decide) rfl))).trans (r1 6 _ (by decide) rfl), (hb.cell (World.block_lt_of_cell? w3 _ (r1 7 _ (by decide) rfl))).trans (r1 7 _ (by decide) rfl), (hb.cell (World.block_lt_of_cell? w3 _ (r1 8 _ (by decide) rfl))).trans (r1 8 _ (by decide) rfl), (hb.cell (p := ad.add _) (World.block_lt_of_cell? w3 _ p2)).trans p2, (hb.cell (World.block_lt_of_cell? w3 _ (r2 1 _ (by decide) rfl))).trans (r2 1 _ (by decide) rfl), (hb.cell (World.block_lt_of_cell? w3 _ (r2 2 _ (by decide) rfl))).trans (r2 2 _ (by decide) rfl), (hb.cell (World.block_lt_of_cell? w3 _ (r2 3 _ (by decide) rfl))).trans (r2 3 _ (by decide) rfl), (hb.cell (World.block_lt_of_cell? w3 _ (r2 4 _ (by decide) rfl))).trans (r2 4 _ (by decide) rfl), (hb.cell (World.block_lt_of_cell? w3 _ (r2 5 _ (by decide) rfl))).trans (r2 5 _ (by decide) rfl), (hb.cell (World.block_lt_of_cell? w3 _ (r2 6 _ (by decide) rfl))).trans (r2 6 _ (by decide) rfl), (hb.cell (World.block_lt_of_cell? w3 _ (r2 7 _ (by decide) rfl))).trans (r2 7 _ (by decide) rfl), (hb.cell (World.block_lt_of_cell? w3 _ (r2 8 _ (by decide) rfl))).trans (r2 8 _ (by decide) rfl), (hb.cell (p := ad.add _) (World.block_lt_of_cell? w3 _ p3)).trans p3, (hb.cell (World.block_lt_of_cell? w3 _ (r3 1 _ (by decide) rfl))).trans (r3 1 _ (by decide) rfl), (hb.cell (World.block_lt_of_cell? w3 _ (r3 2 _ (by decide) rfl))).trans (r3 2 _ (by decide) rfl), (hb.cell (World.block_lt_of_cell? w3 _ (r3 3 _ (by decide) rfl))).trans (r3 3 _ (by decide) rfl), (hb.cell (World.block_lt_of_cell? w3 _ (r3 4 _ (by decide) rfl))).trans (r3 4 _ (by decide) rfl), (hb.cell (World.block_lt_of_cell? w3 _ (r3 5 _ (by decide) rfl))).trans (r3 5 _ (by decide) rfl), (hb.cell (World.block_lt_of_cell? w3 _ (r3 6 _ (by decide) rfl))).trans (r3 6 _ (by decide) rfl), (hb.cell (World.block_lt_of_cell? w3 _ (r3 7 _ (by decide) rfl))).trans (r3 7 _ (by decide) rfl), (hb.cell (World.block_lt_of_cell? w3 _ (r3 8 _ (by decide) rfl))).trans (r3 8 _ (by decide) rfl)⟩
              clear hok1 hok2 hok3 hl1 hl2 hl3 p1 p2 p3 r1 r2 r3
              have hb5' := Lib.hid hb5
              clear hb5
              go_wp2_with (at_builtin; (refine wpList_append_cls rfl _ _ rfl _ w3.heap.size (.slice (some ⟨wr.heap.size, 0, none⟩) 0 0) [] startL rfl (OwnCl.made hb5'.out.size) ⟨w.heap.size, 0, none⟩ 4 4 rfl rfl ((hst3.out.kept (T' := fun _ => True) (fun _ _ => trivial) (fun j hj => ((hb5'.out.alloc hb5'.out.size _).block j (by have := hbw.out.size; rw [hj]; exact ClsIn.lt0 (n := 0) hst3.out)))).news) start_ok (by decide) (by simp; have := hb5'.out.size; omega) ?_; intro vl w5 h1 h2; have hl5 := Lib.hid h1; have hb6 := Lib.hid ((hb5'.out.alloc hb5'.out.size _).grown h2 (by simp; have := hb5'.out.size; omega) (fun j hj => by simp [Value.ownBlock] at hj; have := hb5'.out.size; omega)); clear h1 h2))
              have hok5 := Lib.hid (show ∀ y ∈ ([⟨kd1, ca1, cb1, ct1, ⟨id1, lf1, lb1, at1, tx1⟩, aA1, an1, ac1⟩, ⟨kd2, ca2, cb2, ct2, ⟨id2, lf2, lb2, at2, tx2⟩, aA2, an2, ac2⟩, ⟨kd3, ca3, cb3, ct3, ⟨id3, lf3, lb3, at3, tx3⟩, aA3, an3, ac3⟩] : List Cl), y.Ok (Apart w5.drew vl) w5.drew from by
                have key : ∀ y : Cl, y.Ok (Old w3) w3 → y.Ok (Apart w5.drew vl) w5.drew := fun y hy => hy.kept (fun j hj => ⟨Nat.lt_of_lt_of_le hj hb6.out.size, fun e => by have h1 := (hl5.out.row.lt _ e).1; have h2 : j < w3.heap.size := hj; omega⟩) fun j hj => hb6.out.block j hj
                intro y hy
                simp only [List.mem_cons, List.not_mem_nil, or_false] at hy
                rcases hy with rfl | rfl | rfl
                · exact key _ hok1'.out
                · exact key _ hok2'.out
                · exact key _ hok3'.out)
              have h7' := Lib.hid (show (([] ++ startL) ++ ([⟨kd1, ca1, cb1, ct1, ⟨id1, lf1, lb1, at1, tx1⟩, aA1, an1, ac1⟩, ⟨kd2, ca2, cb2, ct2, ⟨id2, lf2, lb2, at2, tx2⟩, aA2, an2, ac2⟩, ⟨kd3, ca3, cb3, ct3, ⟨id3, lf3, lb3, at3, tx3⟩, aA3, an3, ac3⟩] : List Cl)).length = 7 from rfl)
              have hl6 := Lib.hid (hl5.out.below ((Below.refl w5.heap.size w5).drew))
              have hb6d := Lib.hid (hb6.out.drew)
              have hd := hS.out w5.drew hb6d.out
              have m1 : IntKind.i64.wrap ((q : Int) * 7) = (q : Int) * 7 := IntWalk.i64_in _ (by omega)
              have m2 : IntKind.i64.wrap ((q : Int) * 7 + (k : Int)) = (q : Int) * 7 + (k : Int) := IntWalk.i64_in _ (by omega)
              have m3 : ((q : Int) * 7 + (k : Int)).tmod 63 = ((q : Int) * 7 + (k : Int)) % 63 := Int.tmod_eq_emod_of_nonneg (by omega)
              have m4 : (0 : Int) ≤ ((q : Int) * 7 + (k : Int)) % 63 := by omega
              have m5 : ((q : Int) * 7 + (k : Int)) % 63 < 63 := by omega
              have m6 : (((q : Int) * 7 + (k : Int)) % 63).toNat = (q * 7 + k) % 63 := by omega
              clear hok1' hok2' hok3' hl5 hb6 hst3
              go_region_held3 (fun W => Below w3.heap.size w3 W ∧ W.cell? (ad.add (q * 9)) = some (.int .i64 kd1) ∧ W.cell? ⟨(ad.add (q * 9)).block, (ad.add (q * 9)).off + 1, none⟩ = some (.int .i64 ca1) ∧ W.cell? ⟨(ad.add (q * 9)).block, (ad.add (q * 9)).off + 2, none⟩ = some (.int .i64 cb1) ∧ W.cell? ⟨(ad.add (q * 9)).block, (ad.add (q * 9)).off + 3, none⟩ = some (.int .i64 ct1) ∧ W.cell? ⟨(ad.add (q * 9)).block, (ad.add (q * 9)).off + 4, none⟩ = some (.int .u64 (id1 : Int)) ∧ W.cell? ⟨(ad.add (q * 9)).block, (ad.add (q * 9)).off + 5, none⟩ = some (.bool lf1) ∧ W.cell? ⟨(ad.add (q * 9)).block, (ad.add (q * 9)).off + 6, none⟩ = some (.string ⟨lb1.toArray⟩) ∧ W.cell? ⟨(ad.add (q * 9)).block, (ad.add (q * 9)).off + 7, none⟩ = some (.slice aA1 an1 ac1) ∧ W.cell? ⟨(ad.add (q * 9)).block, (ad.add (q * 9)).off + 8, none⟩ = some (.string ⟨tx1.toArray⟩) ∧ W.cell? (ad.add (k * 9)) = some (.int .i64 kd2) ∧ W.cell? ⟨(ad.add (k * 9)).block, (ad.add (k * 9)).off + 1, none⟩ = some (.int .i64 ca2) ∧ W.cell? ⟨(ad.add (k * 9)).block, (ad.add (k * 9)).off + 2, none⟩ = some (.int .i64 cb2) ∧ W.cell? ⟨(ad.add (k * 9)).block, (ad.add (k * 9)).off + 3, none⟩ = some (.int .i64 ct2) ∧ W.cell? ⟨(ad.add (k * 9)).block, (ad.add (k * 9)).off + 4, none⟩ = some (.int .u64 (id2 : Int)) ∧ W.cell? ⟨(ad.add (k * 9)).block, (ad.add (k * 9)).off + 5, none⟩ = some (.bool lf2) ∧ W.cell? ⟨(ad.add (k * 9)).block, (ad.add (k * 9)).off + 6, none⟩ = some (.string ⟨lb2.toArray⟩) ∧ W.cell? ⟨(ad.add (k * 9)).block, (ad.add (k * 9)).off + 7, none⟩ = some (.slice aA2 an2 ac2) ∧ W.cell? ⟨(ad.add (k * 9)).block, (ad.add (k * 9)).off + 8, none⟩ = some (.string ⟨tx2.toArray⟩) ∧ W.cell? (ad.add (((q * 7 + k) % 63) * 9)) = some (.int .i64 kd3) ∧ W.cell? ⟨(ad.add (((q * 7 + k) % 63) * 9)).block, (ad.add (((q * 7 + k) % 63) * 9)).off + 1, none⟩ = some (.int .i64 ca3) ∧ W.cell? ⟨(ad.add (((q * 7 + k) % 63) * 9)).block, (ad.add (((q * 7 + k) % 63) * 9)).off + 2, none⟩ = some (.int .i64 cb3) ∧ W.cell? ⟨(ad.add (((q * 7 + k) % 63) * 9)).block, (ad.add (((q * 7 + k) % 63) * 9)).off + 3, none⟩ = some (.int .i64 ct3) ∧ W.cell? ⟨(ad.add (((q * 7 + k) % 63) * 9)).block, (ad.add (((q * 7 + k) % 63) * 9)).off + 4, none⟩ = some (.int .u64 (id3 : Int)) ∧ W.cell? ⟨(ad.add (((q * 7 + k) % 63) * 9)).block, (ad.add (((q * 7 + k) % 63) * 9)).off + 5, none⟩ = some (.bool lf3) ∧ W.cell? ⟨(ad.add (((q * 7 + k) % 63) * 9)).block, (ad.add (((q * 7 + k) % 63) * 9)).off + 6, none⟩ = some (.string ⟨lb3.toArray⟩) ∧ W.cell? ⟨(ad.add (((q * 7 + k) % 63) * 9)).block, (ad.add (((q * 7 + k) % 63) * 9)).off + 7, none⟩ = some (.slice aA3 an3 ac3) ∧ W.cell? ⟨(ad.add (((q * 7 + k) % 63) * 9)).block, (ad.add (((q * 7 + k) % 63) * 9)).off + 8, none⟩ = some (.string ⟨tx3.toArray⟩))
                (first
                  | exact hd
                  | exact hS.out _ (hb6d.out.alloc hb6d.out.size _)
                  | exact hd2)
                ((refine step_append_lit (by rfl) (.tmp 66) (.tmp 85) (by rfl) _ _ w3.heap.size vl ([] ++ startL) [⟨kd1, ca1, cb1, ct1, ⟨id1, lf1, lb1, at1, tx1⟩, aA1, an1, ac1⟩, ⟨kd2, ca2, cb2, ct2, ⟨id2, lf2, lb2, at2, tx2⟩, aA2, an2, ac2⟩, ⟨kd3, ca3, cb3, ct3, ⟨id3, lf3, lb3, at3, tx3⟩, aA3, an3, ac3⟩] (by rfl) hl6.out 3 3 _ (by rfl) (by rfl) (by rfl) (by rfl) hok5.out (by decide) (by decide) hb6d.out.size ?_; intro v6 w6 h1 h2; have h3 := h1.cls; rw [h7'.out] at h3; obtain ⟨A6, c6, rfl, hC6, hn6, hm6, -⟩ := h3; have hC6' := Lib.hid hC6; have hB6 := Lib.hid (hb6d.out.trans h2); have hd2 := hS.out _ hB6.out; clear h1 h2 hC6))
              obtain ⟨L6, hL6⟩ : ∃ L, ClsIn (Old w6) w6 A6 7 L := ⟨_, hC6'.out⟩
              have hC6 := Lib.hid hL6
              have n1 : IntKind.i64.wrap ((q : Int) + (k : Int)) = (q : Int) + (k : Int) := IntWalk.i64_in _ (by omega)
              have n2 : ((q : Int) + (k : Int)).tmod 5 = ((q : Int) + (k : Int)) % 5 := Int.tmod_eq_emod_of_nonneg (by omega)
              have n3 : IntKind.i64.wrap ((k : Int) + 1) = (k : Int) + 1 := IntWalk.i64_in _ (by omega)
              have n4 : IntKind.i64.wrap ((k : Int) + 1 + (q : Int) % 2) = (k : Int) + 1 + (q : Int) % 2 := IntWalk.i64_in _ (by omega)
              have n5 := Lib.hid (show (k : Int) + 1 + (q : Int) % 2 = ((k + 1 + q % 2 : Nat) : Int) by omega)
              clear hS hd hd2 hok5 hl6 hb6d h7' hC6' hL6 m1 m2 m3 m4 m5 m6 hb5'
              have hC6I := hC6
              by_cases h5 : ((q : Int) + (k : Int)) % 5 = 0
              · go_wp2_with (first
                  | (go_at_call 3; (refine (lawPlays_any _ ⟨3, true, [], [], []⟩ none 0 0 A6 7 c6 _ (dat_plain (by decide)) hC6.out hn6 hm6).mono ?_; rintro e w7 ⟨rfl, hb7⟩; have hC7 := Lib.hid (hC6.out.below hb7); have hB7 := Lib.hid (hB6.out.trans (hb7.mono hB6.out.size)); clear hb7))
                  | (go_at_call 5; (refine (lawTree_any _ A6 7 c6 _ hC7.out hn6 hm6).mono ?_; rintro e w8 ⟨rfl, hb8⟩; have hC8 := Lib.hid (hC7.out.below hb8); have hB8 := Lib.hid (hB7.out.trans (hb8.mono hB7.out.size)); clear hb8))
                  | (go_at_call 4; (refine (lawWalks_any (pathsW w8) A6 7 c6 _ (some ⟨w8.heap.size + 7, 0, none⟩) 8 8 pathsL (hC8.out.below (paths_below w8)) hn6 hm6 (paths_ok w8) (by omega) (by unfold maxLen; omega)).mono ?_; rintro e w9 ⟨rfl, hb9⟩; have hB9 := Lib.hid ((hB8.out.trans ((paths_below w8).mono hB8.out.size)).trans (hb9.mono (Nat.le_trans hB8.out.size (paths_below w8).size))); clear hb9)))
                go_roundw
                case rel => exact ⟨k + 1 + q % 2, by omega, by rw [← n5.out], hB9.out⟩
                case measure => first | (show 65 - ((k : Int) + 1 + (q : Int) % 2).toNat < 65 - (k : Int).toNat; omega) | (rw [n5.out]; show 65 - ((k + 1 + q % 2 : Nat) : Int).toNat < 65 - (k : Int).toNat; omega)
              · go_wp2_with (go_at_call 3; (refine (lawPlays_any _ ⟨3, true, [], [], []⟩ none 0 0 A6 7 c6 _ (dat_plain (by decide)) hC6.out hn6 hm6).mono ?_; rintro e w7 ⟨rfl, hb7⟩; have hB7 := Lib.hid (hB6.out.trans (hb7.mono hB6.out.size)); clear hb7))
                go_roundw
                case rel => exact ⟨k + 1 + q % 2, by omega, by rw [← n5.out], hB7.out⟩
                case measure => first | (show 65 - ((k : Int) + 1 + (q : Int) % 2).toNat < 65 - (k : Int).toNat; omega) | (rw [n5.out]; show 65 - ((k + 1 + q % 2 : Nat) : Int).toNat < 65 - (k : Int).toNat; omega)
            · clear hk
              go_wp2_with fail
              go_roundw
              case rel => exact ⟨q + 1, by omega, by go_num, hb5⟩
              case measure => simp [intOf]; omega
        · have q1 : ¬ (q : Int) < 63 := by omega
          obtain ⟨w4, hw4⟩ : ∃ w4, w4 = wr := ⟨_, rfl⟩
          subst hw4
          clear hC3' hst3
          go_wp2_with fail
          go_loopw [8, 9] (fun v i ws => ∃ (z : Nat) (ls : List Cl), z ≤ 40 ∧ i = .int .i64 (z : Int) ∧ ls.length = z ∧ OwnCl w3.heap.size ws v ls ∧ Below w3.heap.size w3 ws) (fun _ i _ => 40 - (intOf i).toNat)
          case atStart => exact ⟨0, [], by omega, rfl, rfl, OwnCl.nil_ _ _, hb4⟩
          case round =>
            obtain ⟨z, ls, hz, rfl, hls, hO, hB⟩ := hrel
            have hls' := Lib.hid hls
            have hO' := Lib.hid hO
            have hB' := Lib.hid hB
            clear hls hO hB hb4
            by_cases hz40 : z < 40
            · have z1 : (z : Int) < 40 := by omega
              have d1 : (z : Int).tdiv 3 = ((z / 3 : Nat) : Int) := by rw [Int.tdiv_eq_ediv_of_nonneg (by omega)]; omega
              have d2 : IntKind.u64.wrap (z : Int) = (z : Int) := IntWalk.u64_in _ (by omega)
              have d3 : IntKind.i64.wrap ((z / 3 : Nat) : Int) = ((z / 3 : Nat) : Int) := IntWalk.i64_in _ (by omega)
              go_wp2_with (at_builtin; (refine wpList_append_lit rfl (.tmp 120) (.tmp 127) rfl _ _ w3.heap.size _ ls [⟨0, ((z / 3 : Nat) : Int), 0, 0, ⟨z, false, [], [], []⟩, none, 0, 0⟩] rfl hO'.out 1 1 _ rfl rfl rfl rfl (fun c hc => by obtain rfl := List.mem_singleton.1 hc; exact cl_ok (by omega) (by omega) (by omega) (by omega) (by omega) (by simp)) (by have := hls'.out; omega) hB'.out.size ?_; intro v1 w6 h1 h2; have hO1 := Lib.hid h1; have hB1 := Lib.hid (hB'.out.trans h2); clear h1 h2))
              go_roundw
              case rel => exact ⟨z + 1, _, by omega, by go_num, (by rw [List.length_append]; show ls.length + 1 = _; have := hls'.out; omega), hO1.out, hB1.out⟩
              case measure => simp [intOf]; omega
            · have z1 : ¬ (z : Int) < 40 := by omega
              have h44 : (ls ++ ([⟨2, 2, 0, 0, ⟨0, false, [], [], []⟩, none, 0, 0⟩, ⟨0, 1, 0, 0, ⟨0, false, [], [], []⟩, none, 0, 0⟩, ⟨0, 1, 0, 0, ⟨0, false, [], [], []⟩, none, 0, 0⟩, ⟨3, 1, 3, 0, ⟨0, false, [], [], []⟩, none, 0, 0⟩] : List Cl)).length = 44 := by rw [List.length_append]; show ls.length + 4 = _; have := hls'.out; omega
              have h44' := Lib.hid h44
              have ok4 : ∀ T W, ∀ c ∈ ([⟨2, 2, 0, 0, ⟨0, false, [], [], []⟩, none, 0, 0⟩, ⟨0, 1, 0, 0, ⟨0, false, [], [], []⟩, none, 0, 0⟩, ⟨0, 1, 0, 0, ⟨0, false, [], [], []⟩, none, 0, 0⟩, ⟨3, 1, 3, 0, ⟨0, false, [], [], []⟩, none, 0, 0⟩] : List Cl), c.Ok T W := by
                intro T W c hc
                simp only [List.mem_cons, List.not_mem_nil, or_false] at hc
                rcases hc with rfl | rfl | rfl | rfl
                all_goals exact cl_ok (by omega) (by omega) (by omega) (by omega) (by omega) (by simp)
              have ok4' := Lib.hid ok4
              clear h44 ok4
              go_wp2_with (first
                | (at_builtin; (refine wpList_append_lit rfl (.tmp 129) (.tmp 134) rfl _ _ w3.heap.size _ ls [⟨2, 2, 0, 0, ⟨0, false, [], [], []⟩, none, 0, 0⟩, ⟨0, 1, 0, 0, ⟨0, false, [], [], []⟩, none, 0, 0⟩, ⟨0, 1, 0, 0, ⟨0, false, [], [], []⟩, none, 0, 0⟩, ⟨3, 1, 3, 0, ⟨0, false, [], [], []⟩, none, 0, 0⟩] rfl hO'.out 4 4 _ rfl rfl rfl rfl (ok4'.out _ _) (by have := hls'.out; omega) hB'.out.size ?_; intro v1 w6 h1 h2; have h3 := h1.cls; rw [h44'.out] at h3; obtain ⟨A8, c8, rfl, hC8, hn8, hm8, -⟩ := h3; obtain ⟨ad8, _, rfl, -⟩ := call_cell hC8 (q := 0) (by omega); have hC8' := Lib.hid hC8; have hB1 := Lib.hid (hB'.out.trans h2); have hn8I : (44 : Int) ≤ (c8 : Int) := (by omega); clear h1 h2 hC8))
                | (go_at_call 5; (refine (lawTree_any _ (some ad8) 44 c8 _ hC8'.out hn8 hm8).mono ?_; rintro e w7 ⟨rfl, hb7⟩; have hC9 := Lib.hid (hC8'.out.below hb7); have hB2 := Lib.hid (hB1.out.trans (hb7.mono hB1.out.size)); clear hb7))
                | (go_at_call 3; (refine (lawPlays_any _ ⟨0, false, [], [], []⟩ none 0 0 _ 40 (c8 - 4) _ (dat_plain (by decide)) (hC9.out.drop 4) (by omega) (by omega)).mono ?_; rintro e w8 ⟨rfl, hb8⟩; have hB3 := Lib.hid (hB2.out.trans (hb8.mono hB2.out.size)); clear hb8))
                | (go_at_call 6; (refine (lawNone_any _ 0 1 0 (by omega) ⟨0, false, [], [], []⟩ none 0 0).mono ?_; rintro e w9 ⟨rfl, hb9⟩; have hB4 := Lib.hid (hB3.out.trans (hb9.mono hB3.out.size)); clear hb9))
                | (go_at_call 9; (refine (works_any _).mono ?_; rintro e wz ⟨rfl, hbz⟩; have hB5 := Lib.hid (hB4.out.trans (hbz.mono hB4.out.size)); clear hbz)))
              go_ret
              exact ⟨rfl, hbw.out.trans (hB5.out.mono hbw.out.size)⟩
end Go.Proofs.Ytiikakfdelkjhaa.Arn
