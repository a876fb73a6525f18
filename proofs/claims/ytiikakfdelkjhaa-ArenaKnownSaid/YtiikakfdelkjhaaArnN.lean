/- A slot and all below it: the program's. -/
import Derived.Test.YtiikakfdelkjhaaArnM
import Derived.Maps.OwnIn
namespace Go.Proofs.Ytiikakfdelkjhaa.Arn
open Go.RowKit Go.Shelf
set_option maxRecDepth 20000
attribute [local go_sem] Oper.semAt_some

theorem Pre.len {kids : Nat → List Nat} {x l : List Nat} (h : Pre kids x l) : x.length ≤ l.length := by
  induction h with
  | nil => exact Nat.le_refl _
  | cons _ _ _ ih => simp; omega
/-- what the goer holds: pend: the slots on its stack, the next one last; done: those that it has met -/
structure Goer (w0 : World) (bx : Nat) (sA : Option Addr) (sn sc : Nat) (aA : Option Addr) (an ac : Nat) (stk done : List Nat) (rs : List Nat) (W : World) : Prop where
  box : W.heap[bx]? = some (.cells #[.slice sA sn sc] 33 (0, 0))
  stack : OwnN W (.slice sA sn sc) stk
  all : OwnN W (.slice aA an ac) done
  far1 : ∀ ad, sA = some ad → w0.heap.size ≤ ad.block
  far2 : ∀ ad, aA = some ad → w0.heap.size ≤ ad.block
  apart : ∀ ad ad2, sA = some ad → aA = some ad2 → ad.block ≠ ad2.block
  bel : Below w0.heap.size w0 W
  far : w0.heap.size ≤ bx
  marks : ∀ r ∈ rs, W.heap[r]? = some (.deferred (some [])) ∧ w0.heap.size ≤ r
  nd : rs.Nodup
section
variable {w0 : World} {bx : Nat} {sA : Option Addr} {sn sc : Nat} {aA : Option Addr} {an ac : Nat} {stk done : List Nat} {rs : List Nat} {W W' : World}
theorem Goer.bx_ne (h : Goer w0 bx sA sn sc aA an ac stk done rs W) : (∀ ad, sA = some ad → ad.block ≠ bx) ∧ (∀ ad, aA = some ad → ad.block ≠ bx) := by
  constructor
  · intro ad e e2
    subst e
    obtain ⟨cs, fr, hh⟩ := own_typed h.stack ad.block rfl
    rw [e2, h.box] at hh
    injection hh with hh
    injection hh with _ h2 _
    exact absurd h2 (by decide)
  · intro ad e e2
    subst e
    obtain ⟨cs, fr, hh⟩ := own_typed h.all ad.block rfl
    rw [e2, h.box] at hh
    injection hh with hh
    injection hh with _ h2 _
    exact absurd h2 (by decide)
end
/-- append(v, x), v a row of one's own, in a fence -/
theorem wpListIn_append_one {F : Fence} {nF : Nat} {w : World} {ops : Array Oper} {rest : List Oper} {o : Oper} {a : Act} {Q : Exit → Act → World → Prop} (hgd : o.guard = none) (s x : Operand)
    (ho : o.op = .call { callee := .builtin .append, args := #[s, x], argTypes := #[33, 33] })
    (A0 : Option Addr) (n0 c0 : Nat) (xs : List Nat) (y : Nat) (hs : a.eval s = .slice A0 n0 c0) (hown : OwnN w (.slice A0 n0 c0) xs)
    (hx : a.eval x = .slice (some ⟨w.heap.size, 0, none⟩) 1 1) (hlen : n0 + 1 ≤ 1000000)
    (h : ∀ A' c' w', OwnN w' (.slice A' (n0 + 1) c') (xs ++ [y]) → FrX (Lies A0) (w.alloc (.cells #[.int .i64 (y : Int)] 3)) w' → (∀ ad, A' = some ad → A0 = some ad ∨ ad.block = w.heap.size + 1) → wpListIn F nF Try.prog ops Q rest (a.put o.dst (.slice A' (n0 + 1) c')) w') :
    wpListIn F nF Try.prog ops Q (o :: rest) a (w.alloc (.cells #[.int .i64 (y : Int)] 3)) := by
  obtain ⟨i0, hi, hz0, hz1, hz2⟩ := info_parts Try.info3
  have hl0 := hown.blk.1
  have hz : (w.alloc (.cells #[.int .i64 (y : Int)] 3)).heap.size = w.heap.size + 1 := by simp
  refine wpListIn_append_own_at _ hgd s x _ ho 0 3 i0 (.int .i64 0) 1 8 Try.underlying33 hi hz0 hz1 hz2 rfl (by omega) _ xs.length (nums xs) hs (World.ownsRow.alloc hown _) ⟨w.heap.size, 0, none⟩ 1 1 [.int .i64 (y : Int)] hx rfl (cell_one_new w _ _) (by intro u hu; simp at hu; subst hu; rfl) (by unfold maxLen; omega) (by omega) (Nat.zero_le _) ?_
  intro v' w' hown' hgrow _ hat
  obtain ⟨A', c', rfl, h1, h2, h3, _⟩ := own_form hown'
  have hown2 : OwnN w' (.slice A' (n0 + 1) c') (xs ++ [y]) := by
    unfold OwnN
    rw [List.length_append, nums_app, hl0]
    exact hown'
  rw [← hl0]
  rw [hz] at hat
  refine h A' c' w' hown2 (FrX.of_grown hgrow fun k e => own_block e) fun ad2 e2 => ?_
  subst e2
  rcases hat with e | e
  · obtain ⟨ad3, e3, e4⟩ := own_block e.symm
    obtain ⟨_, _, _, _, hb1⟩ := hown.blk
    obtain ⟨g, cur, rfl, _⟩ := hb1 ad3 e3
    obtain ⟨_, _, _, _, hb2⟩ := hown2.blk
    obtain ⟨g2, cur2, rfl, _⟩ := hb2 ad2 rfl
    left
    rw [e3]
    have e5 : g2 = g := e4
    rw [e5]
  · right
    injection e
section
variable {w0 : World} {bx : Nat} {sA : Option Addr} {sn sc : Nat} {aA : Option Addr} {an ac : Nat} {stk done : List Nat} {rs : List Nat} {W W' : World}
/-- a new row for one of the two, the other one as it was -/
theorem Goer.moved (h : Goer w0 bx sA sn sc aA an ac stk done rs W) {S : Nat → Prop} (hf : FrX S W W') (hS : ∀ k, S k → w0.heap.size ≤ k ∧ ∃ cs t fr, W.heap[k]? = some (.cells cs t fr)) {tA : Option Addr} {tn tc : Nat} {bA : Option Addr} {bn bc : Nat} {stk' done' : List Nat}
    (hbox : W'.heap[bx]? = some (.cells #[.slice tA tn tc] 33 (0, 0))) (hst : OwnN W' (.slice tA tn tc) stk') (hal : OwnN W' (.slice bA bn bc) done') (h1 : ∀ ad, tA = some ad → w0.heap.size ≤ ad.block) (h2 : ∀ ad, bA = some ad → w0.heap.size ≤ ad.block)
    (h3 : ∀ ad ad2, tA = some ad → bA = some ad2 → ad.block ≠ ad2.block) : Goer w0 bx tA tn tc bA bn bc stk' done' rs W' :=
  { box := hbox, stack := hst, all := hal, far1 := h1, far2 := h2, apart := h3, bel := h.bel.trans (hf.below (fun k hk => (hS k hk).1) h.bel.size), far := h.far, marks := fun r hr => ⟨(hf.block r (Array.getElem?_eq_some_iff.1 (h.marks r hr).1).1 (fun e => by
      obtain ⟨cs, t, fr, e2⟩ := (hS r e).2
      rw [(h.marks r hr).1] at e2
      cases e2)).trans (h.marks r hr).1, (h.marks r hr).2⟩, nd := h.nd }
theorem Goer.lies_all (h : Goer w0 bx sA sn sc aA an ac stk done rs W) : ∀ k, Lies aA k → w0.heap.size ≤ k ∧ ∃ cs t fr, W.heap[k]? = some (.cells cs t fr) := fun k ⟨ad, e, e2⟩ => by
  subst e e2
  obtain ⟨cs, fr, hh⟩ := own_typed h.all ad.block rfl
  exact ⟨h.far2 ad rfl, cs, _, fr, hh⟩
theorem Goer.lies_stk (h : Goer w0 bx sA sn sc aA an ac stk done rs W) : ∀ k, Lies sA k → w0.heap.size ≤ k ∧ ∃ cs t fr, W.heap[k]? = some (.cells cs t fr) := fun k ⟨ad, e, e2⟩ => by
  subst e e2
  obtain ⟨cs, fr, hh⟩ := own_typed h.stack ad.block rfl
  exact ⟨h.far1 ad rfl, cs, _, fr, hh⟩
/-- the next one is taken off the stack, and is told -/
theorem Goer.popped {R : Nat} {ad : Addr} {stk1 : List Nat} {x : Nat} (h : Goer w0 bx (some ad) (R + 1) sc aA an ac (stk1 ++ [x]) done rs W) (hR : R = stk1.length) {o : Obj} {A' : Option Addr} {c' : Nat}
    (hown : OwnN W' (.slice A' (an + 1) c') (done ++ [x])) (hf : FrX (Lies aA) ((W.setCell ⟨bx, 0, none⟩ (.slice (some ad) R sc)).alloc o) W') (hat : ∀ ad2, A' = some ad2 → aA = some ad2 ∨ ad2.block = W.heap.size + 1) :
    Goer w0 bx (some ad) R sc A' (an + 1) c' stk1 (done ++ [x]) rs W' := by
  have hbxl := (Array.getElem?_eq_some_iff.1 h.box).1
  have hne := h.bx_ne
  have hW1b : ((W.setCell ⟨bx, 0, none⟩ (.slice (some ad) R sc)).alloc o).heap[bx]? = some (.cells #[.slice (some ad) R sc] 33 (0, 0)) := by
    rw [heap_alloc_old _ _ _ (by simpa using hbxl), heap_setCell_same W bx 0 _ _ _ h.box]
    rfl
  have hW1o : ∀ k, k < W.heap.size → k ≠ bx → ((W.setCell ⟨bx, 0, none⟩ (.slice (some ad) R sc)).alloc o).heap[k]? = W.heap[k]? := fun k hk hn =>
    (heap_alloc_old _ _ _ (by simpa using hk)).trans (heap_setCell_other W ⟨bx, 0, none⟩ k _ hn)
  have hz1 : ((W.setCell ⟨bx, 0, none⟩ (.slice (some ad) R sc)).alloc o).heap.size = W.heap.size + 1 := by simp
  have hall : ∀ k, Lies aA k → k < W.heap.size := fun k hk => by obtain ⟨_, cs, t, fr, e⟩ := h.lies_all k hk; exact (Array.getElem?_eq_some_iff.1 e).1
  have hadl : ad.block < W.heap.size := (World.ownsRow.lt h.stack ad.block rfl).2
  have hadn : ad.block ≠ bx := hne.1 ad rfl
  have F : FrX (fun k => k = bx ∨ Lies aA k) W W' := ((((FrX.refl (fun k => k = bx ∨ Lies aA k) W).setCell (.inl rfl)).alloc o).trans hf fun k hk => .inl (.inr hk))
  refine h.moved F (fun k hk => ?_) ?_ ?_ hown (fun ad2 e => by injection e with e; rw [← e]; exact h.far1 ad rfl) (fun ad2 e => ?_) (fun ad1 ad2 e1 e2 => ?_)
  · rcases hk with rfl | hk
    · exact ⟨h.far, _, _, _, h.box⟩
    · exact h.lies_all k hk
  · exact (hf.block bx (by omega) (fun ⟨ad2, e, e2⟩ => hne.2 ad2 e e2.symm)).trans hW1b
  · have := h.stack.upto (q := R) (by omega)
    rw [List.take_left' hR.symm] at this
    refine this.kept fun ad2 e => ?_
    injection e with e
    rw [← e]
    exact (hf.block _ (by omega) (fun ⟨ad3, e, e2⟩ => h.apart ad ad3 rfl e e2)).trans (hW1o _ hadl hadn)
  · rcases hat ad2 e with e3 | e3
    · exact h.far2 ad2 e3
    · rw [e3]; have := h.bel.size; omega
  · injection e1 with e1
    rw [← e1]
    rcases hat ad2 e2 with e3 | e3
    · exact h.apart ad ad2 rfl e3
    · omega
/-- one is put on the stack -/
theorem Goer.pushed {x : Nat} (h : Goer w0 bx sA sn sc aA an ac stk done rs W) {o : Obj} {w1 : World} {A' : Option Addr} {c' : Nat}
    (hown : OwnN w1 (.slice A' (sn + 1) c') (stk ++ [x])) (hf : FrX (Lies sA) (W.alloc o) w1) (hat : ∀ ad2, A' = some ad2 → sA = some ad2 ∨ ad2.block = W.heap.size + 1) :
    Goer w0 bx A' (sn + 1) c' aA an ac (stk ++ [x]) done rs (w1.setCell ⟨bx, 0, none⟩ (.slice A' (sn + 1) c')) ∧ FrX (fun k => k = bx ∨ Lies sA k) W (w1.setCell ⟨bx, 0, none⟩ (.slice A' (sn + 1) c')) ∧ w1.heap[bx]? = W.heap[bx]? := by
  have hbxl := (Array.getElem?_eq_some_iff.1 h.box).1
  have hne := h.bx_ne
  have hz1 : (W.alloc o).heap.size = W.heap.size + 1 := by simp
  have hb1 : w1.heap[bx]? = W.heap[bx]? := (hf.block bx (by omega) (fun ⟨ad2, e, e2⟩ => hne.1 ad2 e e2.symm)).trans (heap_alloc_old _ _ _ hbxl)
  have F0 : FrX (fun k => k = bx ∨ Lies sA k) W w1 := ((FrX.refl (fun k => k = bx ∨ Lies sA k) W).alloc o).trans hf fun k hk => .inl (.inr hk)
  have F := F0.setCell (g := bx) (i := 0) (v := .slice A' (sn + 1) c') (.inl rfl)
  have hA'ne : ∀ ad, A' = some ad → ad.block ≠ bx := fun ad e => by
    rcases hat ad e with e2 | e2
    · exact hne.1 ad e2
    · omega
  refine ⟨h.moved F (fun k hk => ?_) ?_ (hown.kept fun ad e => heap_setCell_other _ ⟨bx, 0, none⟩ _ _ (hA'ne ad e)) (h.all.kept fun ad e => ?_) (fun ad e => ?_) h.far2 (fun ad ad2 e e2 => ?_), F, hb1⟩
  · rcases hk with rfl | hk
    · exact ⟨h.far, _, _, _, h.box⟩
    · exact h.lies_stk k hk
  · rw [heap_setCell_same w1 bx 0 _ _ _ (hb1.trans h.box)]
    rfl
  · obtain ⟨_, cs, t, fr, e3⟩ := h.lies_all _ ⟨ad, e, rfl⟩
    have hl := (Array.getElem?_eq_some_iff.1 e3).1
    refine F.block _ hl fun hk => ?_
    rcases hk with hk | ⟨ad3, e4, e5⟩
    · exact hne.2 ad e hk
    · exact h.apart ad3 ad e4 e e5.symm
  · rcases hat ad e with e2 | e2
    · exact h.far1 ad e2
    · rw [e2]; have := h.bel.size; omega
  · rcases hat ad e with e3 | e3
    · exact h.apart ad ad2 e3 e2
    · obtain ⟨_, cs, t, fr, e4⟩ := h.lies_all _ ⟨ad2, e2, rfl⟩
      have hl := (Array.getElem?_eq_some_iff.1 e4).1
      omega
/-- what is no cells may turn, behind the marks -/
theorem Goer.own (h : Goer w0 bx sA sn sc aA an ac stk done rs W) {row : Option Nat} {b : Nat} (hg : W.grownBy W' row) (hr : ∀ r, row = some r → b ≤ r ∧ ∃ o : Obj, W.heap[r]? = some o ∧ o.isCells = false) (hb : ∀ r ∈ rs, r < b) (hb0 : w0.heap.size ≤ b) : Goer w0 bx sA sn sc aA an ac stk done rs W' := by
  have cells : ∀ {k : Nat} {cs : Array Value} {t : TypeId} {fr : Nat × Nat}, W.heap[k]? = some (.cells cs t fr) → W'.heap[k]? = W.heap[k]? := fun {k cs t fr} hk => hg.block k (Array.getElem?_eq_some_iff.1 hk).1 fun e => by
    obtain ⟨_, o, e2, e3⟩ := hr k e.symm
    rw [hk] at e2
    injection e2 with e2
    rw [← e2] at e3
    cases e3
  refine { box := (cells h.box).trans h.box, stack := h.stack.kept fun ad e => ?_, all := h.all.kept fun ad e => ?_, far1 := h.far1, far2 := h.far2, apart := h.apart, bel := h.bel.grown hg h.bel.size (fun k e => by have := (hr k e).1; omega), far := h.far, marks := fun r hrr => ⟨(hg.block r (Array.getElem?_eq_some_iff.1 (h.marks r hrr).1).1 fun e => ?_).trans (h.marks r hrr).1, (h.marks r hrr).2⟩, nd := h.nd }
  · obtain ⟨_, cs, t, fr, e3⟩ := h.lies_stk _ ⟨ad, e, rfl⟩
    exact cells e3
  · obtain ⟨_, cs, t, fr, e3⟩ := h.lies_all _ ⟨ad, e, rfl⟩
    exact cells e3
  · have := (hr r e.symm).1
    have := hb r hrr
    omega
end
set_option maxHeartbeats 4000000 in
theorem subtree_any {w : World} {ow : Nat → Role} {P : Nat} {a : Av} {B : Nat → Nat} {m : Nat} {sv : Nat → SV} {sA : Option Addr} {sc : Nat} {fA : Option Addr} {fc : Nat} (h : PA w ow P a B m sv sA sc fA fc)
    {s : Nat} {l : List Nat} (hl : Pre a.kids [s] l) (hlm : ∀ x ∈ l, x < m * 16) (hll : l.length ≤ 100000) :
    Calls Try.prog 42 #[.pointer (some ⟨P, 0, none⟩), .int .i64 (s : Int)] w fun e w' => ∃ A c, e = .returned (.slice A l.length c) ∧ OwnN w' (.slice A l.length c) l ∧ (∀ ad, A = some ad → w.heap.size ≤ ad.block) ∧ Below w.heap.size w w' := by
  have h' := Lib.hid h
  have hl' := Lib.hid hl
  have hlm' := Lib.hid hlm
  have hll' := Lib.hid hll
  clear h hl hlm hll
  refine (callsIn_wide (n := 2)).1 ?_
  refine callsIn_of_wp_marks Try.func42 rfl trivial ?_ rfl
  simp only [Try.ntmps42, List.size_toArray, List.length_cons, List.length_nil, Nat.reduceAdd, Nat.reduceSub, Array.replicate_succ, Array.replicate_zero, List.push_toArray, List.append_toArray, List.nil_append, List.cons_append]
  refine wpIn_wide.2 ?_
  go_wp2_with fail
  refine wp_scope_ghost (rest := ?rest) 0 (fun k a' W => ∃ (pend done rest rs : List Nat) (bx : Nat) (tA : Option Addr) (tn tc : Nat) (aA : Option Addr) (an ac : Nat) (f : Nat → Value), k = rest.length ∧ 0 < k ∧ l = done ++ rest ∧ Pre a.kids pend rest ∧
      Goer w bx tA tn tc aA an ac pend.reverse done rs W ∧ a' = { tmps := List.toArray (.pointer (some ⟨P, 0, none⟩) :: f 1 :: undef :: undef :: .slice none 0 0 :: .slice aA an ac :: .pointer (some ⟨bx, 0, none⟩) :: f 7 :: undef :: f 9 :: f 10 :: f 11 :: f 12 :: f 13 :: f 14 :: f 15 :: f 16 :: f 17 :: f 18 :: f 19 :: f 20 :: f 21 :: f 22 :: f 23 :: f 24 :: f 25 :: f 26 :: f 27 :: f 28 :: f 29 :: f 30 :: f 31 :: f 32 :: f 33 :: f 34 :: f 35 :: f 36 :: f 37 :: f 38 :: f 39 :: f 40 :: f 41 :: f 42 :: []), defers := rs.map (fun r => { target := .collected r, args := #[] }) }) ?hf ?first ?pass
  case hf => rfl
  case first =>
    intro hpass
    go_wp2_with fail
    refine wp_label ?_
    rename_i K hK
    refine hK _ _ (hpass l.length _ _ ?_)
    refine ⟨[s], [], l, [], w.heap.size + 1, some ⟨w.heap.size, 0, none⟩, 1, 1, none, 0, 0, fun i => if i = 1 then .int .i64 (s : Int) else if i = 10 then .int .i64 (s : Int) else if i = 11 then .slice (some ⟨w.heap.size, 0, none⟩) 1 1 else undef, rfl, ?_, rfl, hl'.out, ?_, rfl⟩
    · have := hl'.out.len
      simp at this
      omega
    · have n1 := two_first w (.cells #[.int .i64 (s : Int)] 3) (.cells #[.slice (some ⟨w.heap.size, 0, none⟩) 1 1] 33)
      have n2 := two_second w (.cells #[.int .i64 (s : Int)] 3) (.cells #[.slice (some ⟨w.heap.size, 0, none⟩) 1 1] 33)
      exact { box := n2, stack := own_of n1 rfl rfl (Nat.le_refl _) (by unfold maxLen; omega) rfl, all := OwnN.nil_ _, far1 := fun ad e => (by injection e with e; rw [← e]; exact Nat.le_refl _), far2 := fun ad e => (by cases e), apart := fun ad ad2 e e2 => (by cases e2), bel := ((Below.refl _ _).alloc (Nat.le_refl _) _).alloc (by simp) _, far := Nat.le_succ _, marks := fun r hr => (by cases hr), nd := List.nodup_nil }
  case pass =>
    rintro k a' W ⟨pend, done, rest, rs, bx, tA, tn, tc, aA, an, ac, f, rfl, hk, hld, hp, hG, rfl⟩
    cases pend with
    | nil => rw [hp.nil_eq] at hk; exact absurd hk (by simp)
    | cons x r =>
      obtain ⟨rest', rfl, hp2⟩ := hp.pop
      have hxl : x ∈ l := by rw [hld]; simp
      have hxm := Lib.hid (hlm'.out x hxl)
      have hlen : (x :: r).length ≤ l.length := by have := hp.len; rw [hld, List.length_append]; omega
      have hst := hG.stack
      rw [List.reverse_cons] at hst
      have hb := hst.blk
      have htn : tn = r.length + 1 := by rw [hb.1]; simp
      subst htn
      have hget : (r.reverse ++ [x])[r.length]? = some x := by rw [List.getElem?_append_right (by simp)]; simp
      obtain ⟨g, rfl, hgc⟩ := hst.at_ hget
      have c0 := cell_of_row W bx 0 _ _ _ hG.box
      have cf := fun o => frozen_of_row W bx o _ _ hG.box
      simp at c0
      have hcap := hb.2.1
      have hcm := hb.2.2.1
      have hr3 : r.length ≤ 100000 := by have := hll'.out; simp at hlen; omega
      unfold natV at hgc
      have hp2' := Lib.hid hp2
      have hld' := Lib.hid hld
      have hr1 : ((r.length : Int) + 1) - 1 = (r.length : Int) := by omega
      have hr2 : (r.length : Int) < (r.length : Int) + 1 := by omega
      obtain ⟨R, hR⟩ : ∃ R, R = r.length := ⟨_, rfl⟩
      have hR' := Lib.hid hR
      rw [← hR] at c0 hgc hcap hr3 hr1 hr2
      have hG' := Lib.hid (show Goer w bx (some ⟨g, 0, none⟩) (R + 1) tc aA an ac (r.reverse ++ [x]) done rs W by rw [hR, ← List.reverse_cons]; exact hG)
      clear hR
      have hbxl := Lib.hid (Array.getElem?_eq_some_iff.1 hG.box).1
      have hall1 := Lib.hid (fun (v : Value) => show OwnN ((W.setCell ⟨bx, 0, none⟩ v).alloc (.cells #[.int .i64 (x : Int)] 3)) (.slice aA an ac) done from hG.all.kept fun ad e => by
        obtain ⟨_, cs, t, fr, e3⟩ := hG.lies_all _ ⟨ad, e, rfl⟩
        have hl := (Array.getElem?_eq_some_iff.1 e3).1
        exact (heap_alloc_old _ _ _ (by simpa using hl)).trans (heap_setCell_other W ⟨bx, 0, none⟩ _ v (hG.bx_ne.2 ad e)))
      have hsrc := Lib.hid (fun (k y : Nat) (hk : [x][k]? = some y) => show ∃ ad : Addr, some (⟨W.heap.size, 0, none⟩ : Addr) = some ad ∧ ad.block < ((W.setCell ⟨bx, 0, none⟩ (.slice (some ⟨g, 0, none⟩) R tc)).alloc (.cells #[.int .i64 (x : Int)] 3)).heap.size ∧ ((W.setCell ⟨bx, 0, none⟩ (.slice (some ⟨g, 0, none⟩) R tc)).alloc (.cells #[.int .i64 (x : Int)] 3)).cell? (ad.add k) = some (natV y) from by
        match k, hk with
        | 0, hk =>
          injection hk with hk
          refine ⟨_, rfl, by simp, ?_⟩
          rw [← hk]
          have := cell_one_new (W.setCell ⟨bx, 0, none⟩ (.slice (some ⟨g, 0, none⟩) R tc)) (.int .i64 (x : Int)) 3 0 _ rfl
          rw [show (W.setCell ⟨bx, 0, none⟩ (.slice (some ⟨g, 0, none⟩) R tc)).heap.size = W.heap.size by simp] at this
          exact this)
      have hPA := Lib.hid (fun (w1 : World) (hb : Below w.heap.size w w1) => h'.out.below hb)
      have han : an ≤ 100000 := by have := hG.all.blk.1; have h2 := hll'.out; rw [hld, List.length_append] at h2; omega
      clear hG hp2 hld hk hp hxl hlen hst hb hget
      have hks := h'.out.kids x hxm.out
      have hksm := Lib.hid (h'.out.ksmall x)
      have hkl := hks.len
      have hkro := Lib.hid hks.role
      have hkow := Lib.hid hks.own
      have hlow := Lib.hid h'.out.low
      have e2 := Lib.hid (fun (w1 : World) (hb : Below w.heap.size w w1) => ((hPA.out w1 hb).eight hxm.out).2.2.1)
      rw [hkl] at e2 hkow
      generalize (sv x).kA = kA at e2 hkro hkow
      generalize (sv x).kc = kc at e2 hkow
      clear hks hkl
      go_wp2_with (first
        | (at_builtin; refine wpList_append_ns rfl _ _ rfl aA an ac done [x] rfl (hall1.out _) (some ⟨W.heap.size, 0, none⟩) 1 1 rfl ⟨rfl, hsrc.out⟩ (fun e => by cases e) (by omega) ?_; intro A1 c1 w1 g1 g2 g3 g4 g5 g6; have hG1 := Lib.hid (hG'.out.popped (by rw [hR'.out, List.length_reverse]) g1 g2 (fun ad e => by have := g3 ad e; simpa using this)); clear g1 g2 g3 g4 g5 g6)
        | (refine (node_any (hPA.out w1 hG1.out.bel) hxm.out).mono ?_; rintro e w7 ⟨rfl, rfl⟩; have e3 := e2.out w1 hG1.out.bel)
        | (refine (backward_any w1 _ _ _).mono ?_; rintro e w7 ⟨rfl, rfl⟩))
      rename_i K hK
      obtain ⟨W2, hW2⟩ : ∃ W2, W2 = w1.alloc (.cells #[.slice kA (a.kids x).length kc] 33) := ⟨_, rfl⟩
      obtain ⟨b0, hb0⟩ : ∃ b0, b0 = w1.heap.size := ⟨_, rfl⟩
      have hbox := Lib.hid (show W2.heap[b0]? = some (.cells #[.slice kA (a.kids x).length kc] 33 (0, 0)) by rw [hW2, hb0]; exact heap_alloc_new w1 _)
      have hz2 : W2.heap.size = b0 + 1 := by rw [hW2, hb0]; simp
      have hG2 := Lib.hid (show Goer w bx (some ⟨g, 0, none⟩) R tc A1 (an + 1) c1 r.reverse (done ++ [x]) rs W2 by
        rw [hW2]
        exact hG1.out.own (b := w1.heap.size) (World.grownBy_alloc w1 _ none) (fun r e => by cases e) (fun r hr => (Array.getElem?_eq_some_iff.1 (hG1.out.marks r hr).1).1) hG1.out.bel.size)
      have hmk := Lib.hid (fun q (hq : q ∈ rs) => show q < b0 from by rw [hb0]; exact (Array.getElem?_eq_some_iff.1 (hG1.out.marks q hq).1).1)
      have hbel2 := Lib.hid (show Below w.heap.size w W2 by rw [hW2]; exact hG1.out.bel.alloc hG1.out.bel.size _)
      have hbxb := Lib.hid (show bx < b0 by rw [hb0]; exact (Array.getElem?_eq_some_iff.1 hG1.out.box).1)
      have hw0b := Lib.hid (show w.heap.size ≤ b0 by rw [hb0]; exact hG1.out.bel.size)
      rw [← hW2, ← hb0]
      clear hW2 hb0 hG1 e3
      have hkow2 : OwnN W2 (.slice kA (a.kids x).length kc) (a.kids x) := hkow.out.kept fun ad e => hbel2.out.block _ (hlow.out _ (by rw [hkro.out ad e]; simp))
      have hklt : ∀ ad, kA = some ad → ad.block < w.heap.size := fun ad e => hlow.out _ (by rw [hkro.out ad e]; simp)
      refine (wpIn_wide (n := 3)).1 ?_
      refine wpIn_rangeFunc_ownF rfl (by omega) (gf := 61) (lb := #[.pointer (some ⟨b0, 0, none⟩)]) rfl trivial (enters_of Try.func61 (by kernel_rfl) rfl)
        (back_stops 2 (by omega) b0 w.heap.size kc kA (a.kids x) W2 hksm.out (by omega) hbel2.out.size (cell_of_row W2 b0 0 _ _ _ hbox.out) hkow2 hklt)
        (fun h k => h.trans k) (fun W l o o' hl h h1 h2 => ⟨belowK_b (w := W2) hbel2.out.size W l o o' hl h h1 h2, World.putObj_heap_other (by omega)⟩) (Below.refl _ _) (fun _ => rfl)
        (fun pre W' => (∃ tA tn tc, Goer w bx tA tn tc A1 (an + 1) c1 (r.reverse ++ pre.map (·.2)) (done ++ [x]) rs W') ∧ W'.heap[b0]? = some (.cells #[.slice kA (a.kids x).length kc] 33 (0, 0)))
        (fun _ _ _ => False) ?own (fun _ _ _ _ _ hs _ _ => hs) ⟨⟨_, _, _, by rw [List.map_nil, List.append_nil]; exact hG2.out⟩, hbox.out⟩ ?a1 ?assign ?body ?done ?stop
      case own =>
        rintro pre A C row ⟨⟨tA, tn, tc, hg⟩, hb⟩ hgr hrow
        refine ⟨⟨tA, tn, tc, hg.own (b := b0 + 1) hgr (fun q e => by have := hrow q e; exact ⟨by omega, this.2⟩) (fun q hq => by have := hmk.out q hq; omega) (by have := hw0b.out; omega)⟩, (hgr.block b0 (Array.getElem?_eq_some_iff.1 hb).1 fun e => ?_).trans hb⟩
        have := (hrow b0 e.symm).1
        omega
      case assign =>
        intro l x' W' K' hK'
        unfold encB
        gi_wp2
        exact hK'
      case body =>
        rintro l' pre x' W' ⟨⟨tA, tn, tc', hg⟩, hb⟩ hlt
        have cc1 := cell_of_row W' bx 0 _ _ _ hg.box
        simp at cc1
        have hlt' := Lib.hid hlt
        have htn : tn + 1 ≤ 1000000 := by
          have h1 := hg.stack.blk.1
          rw [List.length_append, List.length_reverse, List.length_map, ← hR'.out] at h1
          have := hksm.out
          omega
        have hg' := Lib.hid hg
        have hbb := Lib.hid hb
        clear hg hb hlt hkow2 hklt
        gi_wp2_with (gi_at_builtin; refine wpListIn_append_one rfl _ _ rfl tA tn tc' _ x'.2 rfl hg'.out.stack rfl htn ?_; intro A' c' w3 q1 q2 q3; obtain ⟨p1, p2, p3⟩ := hg'.out.pushed q1 q2 q3; have zb := p3.trans hg'.out.box; have y1 := cell_of_row w3 bx 0 _ _ _ zb; have yf := fun o => frozen_of_row w3 bx o _ _ zb; simp at y1; have p1' := Lib.hid p1; have p2' := Lib.hid p2; clear p1 p2 p3 q1 q2 q3 zb)
        have hsame : ∀ k, k < W'.heap.size → k ≠ bx → ¬ Lies tA k → (w3.setCell ⟨bx, 0, none⟩ (.slice A' (tn + 1) c')).heap[k]? = W'.heap[k]? := fun k hk h1 h2 => p2'.out.block k hk (fun e => e.elim h1 h2)
        have hb0n : (w3.setCell ⟨bx, 0, none⟩ (.slice A' (tn + 1) c')).heap[b0]? = W'.heap[b0]? := by
          refine hsame b0 (Array.getElem?_eq_some_iff.1 hbb.out).1 (by have := hbxb.out; omega) fun ⟨ad, e, e2⟩ => ?_
          subst e
          obtain ⟨cs, fr, hh⟩ := own_typed hg'.out.stack ad.block rfl
          rw [← e2, hbb.out] at hh
          injection hh with hh
          injection hh with _ h2 _
          exact absurd h2 (by decide)
        refine ⟨⟨p2'.out.size, fun k o hk ho => ?_⟩, ⟨p2'.out.below (fun k hk => ?_) hg'.out.bel.size, hb0n⟩, ⟨_, _, _, by rw [List.map_append, ← List.append_assoc]; exact p1'.out⟩, hb0n.trans hbb.out⟩
        · refine (hsame k (Array.getElem?_eq_some_iff.1 hk).1 (fun e => ?_) fun hl => ?_).trans hk
          · rw [e, hg'.out.box] at hk
            injection hk with hk
            rw [← hk] at ho
            cases ho
          · obtain ⟨_, cs, t, fr, e⟩ := hg'.out.lies_stk k hl
            rw [hk] at e
            injection e with e
            rw [e] at ho
            cases ho
        · rcases hk with rfl | hk
          · exact hg'.out.far
          · exact (hg'.out.lies_stk k hk).1
      case done =>
        rintro D xs W' hD rfl ⟨⟨tA, tn, tc', hg⟩, hb⟩ hDh
        rw [bkV_take _ 0 (Nat.zero_le _), List.drop_zero, ← List.reverse_append] at hg
        have hDb : b0 + 1 ≤ D := by omega
        have hg2 := Lib.hid (show Goer w bx tA tn tc' A1 (an + 1) c1 (a.kids x ++ r).reverse (done ++ [x]) (D :: rs) W' from { hg with
          marks := fun q hq => by
            rcases List.mem_cons.1 hq with rfl | hq
            · exact ⟨hDh, by have := hw0b.out; omega⟩
            · exact hg.marks q hq
          nd := List.nodup_cons.2 ⟨fun e => by have := hmk.out D e; omega, hg.nd⟩ })
        have cc1 := cell_of_row W' bx 0 _ _ _ hg.box
        simp at cc1
        have htn := hg.stack.blk.1
        rw [List.length_reverse] at htn
        have htn3 : tn ≤ 1000000 := by
          rw [List.length_append, ← hR'.out] at htn
          have := hksm.out
          omega
        have hp3 := hp2'.out
        have hlx : l = (done ++ [x]) ++ rest' := by rw [hld'.out]; simp
        have hlx' := Lib.hid hlx
        clear hg hb hDh hkow2 hklt hlx
        show K _ W'
        refine hK _ _ ?_
        by_cases h0 : a.kids x ++ r = []
        · rw [h0] at hp3 htn
          have hr0 := hp3.nil_eq
          have hfin : Hid (l = done ++ [x]) := Lib.hid (by rw [hlx'.out, hr0, List.append_nil])
          have htn0 : tn = 0 := htn
          rw [htn0] at cc1
          clear hp3 htn h0 hr0 htn0
          go_wp2_with fail
          refine leaves_marks (D :: rs) W' hg2.out.nd (fun q hq => (hg2.out.marks q hq).1) fun W9 z1 z2 z3 z4 z5 => ?_
          have hal : OwnN W9 (.slice A1 (an + 1) c1) (done ++ [x]) := hg2.out.all.kept fun ad e => z5 _ fun hq => by
            obtain ⟨_, cs, t, fr, e3⟩ := hg2.out.lies_all _ ⟨ad, e, rfl⟩
            rw [(hg2.out.marks _ hq).1] at e3
            cases e3
          have hlen : an + 1 = l.length := by rw [hfin.out]; exact hal.blk.1
          refine ⟨_, results_tmp rfl _ _ _, A1, c1, by rw [← hlen]; rfl, by rw [← hlen, hfin.out]; exact hal, hg2.out.far2, ?_⟩
          exact hg2.out.bel.trans ⟨z2, z3, z4, Nat.le_of_eq z1.symm, fun k hk => z5 k fun hq => by have := (hg2.out.marks k hq).2; omega⟩
        · have hpos : 0 < tn := by rw [htn]; exact List.length_pos_iff.2 h0
          have hposI : (0 : Int) < (tn : Int) := by omega
          have hrl := hp3.len
          have hrl2 : 0 < rest'.length := by have := List.length_pos_iff.2 h0; omega
          clear htn h0
          go_wp2_with fail
          refine wp_goto ?_
          refine ⟨rfl, rest'.length, by simp, a.kids x ++ r, done ++ [x], rest', D :: rs, bx, tA, tn, tc', A1, an + 1, c1, ?f, rfl, hrl2, hlx'.out, hp3, hg2.out, ?e⟩
          case f => exact fun i => if i = 1 then .int .i64 (x : Int) else if i = 7 then .int .i64 (R : Int) else if i = 12 then .slice (some ⟨g, 0, none⟩) (R + 1) tc else if i = 13 then .int .i64 ((R : Int) + 1) else if i = 14 then .int .i64 (R : Int) else if i = 15 then .slice (some ⟨g, 0, none⟩) (R + 1) tc else if i = 16 then .int .i64 (R : Int) else if i = 17 then .pointer (some ⟨g, R, none⟩) else if i = 18 then .int .i64 (x : Int) else if i = 19 then .slice (some ⟨g, 0, none⟩) (R + 1) tc else if i = 20 then .int .i64 (R : Int) else if i = 21 then .slice (some ⟨g, 0, none⟩) R tc else if i = 22 then .slice aA an ac else if i = 23 then .int .i64 (x : Int) else if i = 24 then .slice (some ⟨W.heap.size, 0, none⟩) 1 1 else if i = 25 then .slice A1 (an + 1) c1 else if i = 26 then .pointer (some ⟨P, 0, none⟩) else if i = 27 then .int .i64 (x : Int) else if i = 28 then .pointer (some ⟨B (x / 16), x % 16 * 8, none⟩) else if i = 29 then .pointer (some ⟨B (x / 16), x % 16 * 8, none⟩) else if i = 30 then .pointer (some ⟨B (x / 16), x % 16 * 8 + 2, none⟩) else if i = 31 then .slice kA (a.kids x).length kc else if i = 32 then .func (.func 61) #[] #[.pointer (some ⟨b0, 0, none⟩)] else if i = 39 then .slice tA tn tc' else if i = 40 then .int .i64 (tn : Int) else if i = 41 then .bool true else f i
          case e => rfl
      case stop =>
        rintro D c pre W' _ _ h _
        exact h.elim
end Go.Proofs.Ytiikakfdelkjhaa.Arn
