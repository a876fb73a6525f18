/- slices.Insert, Delete, Index on a row of numbers of one's own. -/
import Derived.Test.YtiikakfdelkjhaaArnShelf
namespace Go.Proofs.Ytiikakfdelkjhaa.Arn
open Go.RowKit
set_option maxRecDepth 20000

/-- cells written one behind the other -/
theorem setCells_heap {b : Nat} {t : TypeId} : ∀ (vs : List Value) (o : Nat) (w : World) (cs : Array Value), w.heap[b]? = some (.cells cs t (0, 0)) → o + vs.length ≤ cs.size →
    (w.setCells b o vs).heap[b]? = some (.cells (cs.toList.take o ++ vs ++ cs.toList.drop (o + vs.length)).toArray t (0, 0)) ∧ (∀ k, k ≠ b → (w.setCells b o vs).heap[k]? = w.heap[k]?) ∧ (w.setCells b o vs).heap.size = w.heap.size ∧ (w.setCells b o vs).os = w.os ∧ (w.setCells b o vs).tape = w.tape ∧ (w.setCells b o vs).output = w.output
  | [], o, w, cs, h, hl => by
    refine ⟨?_, fun _ _ => rfl, rfl, rfl, rfl, rfl⟩
    rw [World.setCells, h]
    simp
  | v :: r, o, w, cs, h, hl => by
    have h1 := heap_setCell_same w b o _ _ v h
    obtain ⟨i1, i2, i3, i4, i5, i6⟩ := setCells_heap r (o + 1) (w.setCell ⟨b, o, none⟩ v) _ h1 (by simp at hl ⊢; omega)
    refine ⟨?_, fun k hk => (i2 k hk).trans (heap_setCell_other w ⟨b, o, none⟩ k v hk), i3.trans (by simp), i4, i5, i6⟩
    rw [World.setCells, i1]
    have hol : o < cs.toList.length := by simp at hl ⊢; omega
    congr 3
    rw [Array.toList_setIfInBounds]
    have e1 : (cs.toList.set o v).take (o + 1) = cs.toList.take o ++ [v] := by
      rw [List.take_add_one, List.take_set_of_le (Nat.le_refl _), List.getElem?_set_self hol]
      rfl
    have e2 : (cs.toList.set o v).drop (o + 1 + r.length) = cs.toList.drop (o + (v :: r).length) := by
      rw [List.drop_set_of_lt (by omega)]
      simp [Nat.add_assoc, Nat.add_comm 1]
    rw [e1, e2]
    simp
theorem setCells_frx {S : Nat → Prop} {w w' : World} (hf : FrX S w w') {b o : Nat} {t : TypeId} {vs : List Value} {cs : Array Value} (h : w'.heap[b]? = some (.cells cs t (0, 0))) (hl : o + vs.length ≤ cs.size) (hb : S b ∨ w.heap.size ≤ b) : FrX S w (w'.setCells b o vs) := by
  obtain ⟨_, i2, i3, i4, i5, i6⟩ := setCells_heap vs o w' cs h hl
  refine ⟨i4.trans hf.os, i5.trans hf.tape, i6.trans hf.output, by rw [i3]; exact hf.size, fun k hk hn => (i2 k fun e => ?_).trans (hf.block k hk hn)⟩
  subst e
  rcases hb with hb | hb
  · exact hn hb
  · omega
theorem splice_get {cs vs : List Value} {o : Nat} (h : o + vs.length ≤ cs.length) (k : Nat) : (cs.take o ++ vs ++ cs.drop (o + vs.length))[k]? = if k < o then cs[k]? else if k < o + vs.length then vs[k - o]? else cs[k]? := by
  have tl : (cs.take o).length = o := by rw [List.length_take]; omega
  have tl2 : (cs.take o ++ vs).length = o + vs.length := by rw [List.length_append, tl]
  split
  · rename_i hk
    rw [List.append_assoc, List.getElem?_append_left (by omega), List.getElem?_take, if_pos hk]
  · rename_i hk
    split
    · rename_i hk2
      rw [List.getElem?_append_left (by omega), List.getElem?_append_right (by omega), tl]
    · rename_i hk2
      rw [List.getElem?_append_right (by omega), tl2, List.getElem?_drop]
      congr 1
      omega
theorem ins_get {l : List Nat} {i x : Nat} (hi : i ≤ l.length) (k : Nat) : (ins l i x)[k]? = if k < i then l[k]? else if k = i then some x else l[k - 1]? := by
  unfold ins
  have tl : (l.take i).length = i := by rw [List.length_take]; omega
  split
  · rename_i hk
    rw [List.getElem?_append_left (by omega), List.getElem?_take, if_pos hk]
  · rename_i hk
    rw [List.getElem?_append_right (by omega), tl]
    split
    · rename_i hk2
      subst hk2
      simp
    · rename_i hk2
      rw [show k - i = (k - i - 1) + 1 by omega, List.getElem?_cons_succ, List.getElem?_drop]
      congr 1
      omega
theorem take_eq {A B : List Value} {n : Nat} (hB : B.length = n) (h : ∀ k, k < n → A[k]? = B[k]?) : A.take n = B := by
  refine List.ext_getElem? fun k => ?_
  rw [List.getElem?_take]
  split
  · rename_i hk; exact h k hk
  · rename_i hk; exact (List.getElem?_eq_none (by omega)).symm
theorem nums_get (l : List Nat) (k : Nat) : (nums l)[k]? = l[k]?.map natV := List.getElem?_map
theorem take_get {A : List Value} {l : List Nat} {n : Nat} (h : A.take n = nums l) {k : Nat} (hk : k < n) : A[k]? = l[k]?.map natV := by
  rw [← nums_get, ← h, List.getElem?_take, if_pos hk]
theorem own_of {w : World} {g : Nat} {cs : Array Value} {n c : Nat} {l : List Nat} (h : w.heap[g]? = some (.cells cs 3 (0, 0))) (hn : n = l.length) (hc : cs.size = c) (hnc : n ≤ c) (hm : c ≤ maxLen) (ht : cs.toList.take n = nums l) : OwnN w (.slice (some ⟨g, 0, none⟩) n c) l := by
  subst hn
  exact ⟨by rw [nums_len]; omega, .inr ⟨g, c, cs, rfl, Nat.zero_le _, h, hnc, hm, by omega, by simpa using ht⟩⟩
theorem nums_app (l m : List Nat) : nums (l ++ m) = nums l ++ nums m := List.map_append
theorem nums_one (l : List Nat) : ∀ v ∈ nums l, v.oneCell' = true := by
  intro v hv
  obtain ⟨x, -, rfl⟩ := List.mem_map.1 hv
  rfl
theorem zero_cells (n : Nat) : (Builtin.zeroCells (Value.cells (.int .i64 0)) n).size = n := by rw [size_zeroCells]; simp [Value.cells]
/-- where a row lies -/
def Lies (A : Option Addr) (k : Nat) : Prop := ∃ ad, A = some ad ∧ k = ad.block
theorem insert_any {w : World} {A : Option Addr} {n c : Nat} {l : List Nat} (h : OwnN w (.slice A n c) l) {i x vb : Nat} (hi : i ≤ n) (hn : n ≤ 200000) (hv : w.heap[vb]? = some (.cells #[natV x] 3 (0, 0))) (hvb : ¬ Lies A vb) :
    Calls Try.prog 57 #[.slice A n c, .int .i64 (i : Int), .slice (some ⟨vb, 0, none⟩) 1 1] w fun e w' => ∃ A' c', e = .returned (.slice A' (n + 1) c') ∧ OwnN w' (.slice A' (n + 1) c') (ins l i x) ∧ FrX (Lies A) w w' ∧ ∀ ad, A' = some ad → A = some ad ∨ (w.heap.size ≤ ad.block) := by
  obtain ⟨hl, hnc, hcm, hnil, hg⟩ := h.blk
  have hvlt : vb < w.heap.size := (Array.getElem?_eq_some_iff.1 hv).1
  have hvs : ∀ j v, [natV x][j]? = some v → w.cell? ⟨vb, 0 + j, none⟩ = some v := by
    intro j v hj
    match j, hj with
    | 0, hj => rw [cell_of_row w vb _ _ _ _ hv]; simpa using hj
  have h1v : ∀ v ∈ [natV x], v.oneCell' = true := by intro v hv; simp at hv; subst hv; rfl
  have hxs : (natV x) = Value.int .i64 (x : Int) := rfl
  have hins : (ins l i x).length = n + 1 := by rw [ins_len, hl]
  have ins_nums : nums (ins l i x) = nums (l.take i) ++ natV x :: nums (l.drop i) := by unfold ins; rw [nums_app]; rfl
  by_cases hroom : n + 1 ≤ c
  · -- in place
    cases A with
    | none => have := hnil rfl; omega
    | some ad =>
      obtain ⟨g, cur, rfl, hgg, hcs, ht⟩ := hg ad rfl
      have hgv : vb ≠ g := fun e => hvb ⟨_, rfl, e⟩
      have hcell : ∀ j, w.cell? ⟨g, 0 + j, none⟩ = cur[j]? := fun j => by rw [Nat.zero_add]; exact cell_of_row w g j _ _ _ hgg
      by_cases hin : i = n
      · subst hin
        refine (Any2.slices_Insert_int_end_room Try.lays21 g 0 i c vb 0 1 1 [natV x] w (by omega) hroom hcm rfl (fun j hj => ?_) (fun j hj => ?_) hvs h1v).mono ?_
        · rw [show 0 + i + j = 0 + (i + j) by omega, hcell]
          have : i + j < cur.size := by omega
          simp [this]
        · exact frozen_of_row w g _ _ _ hgg
        · rintro e w' ⟨rfl, rfl⟩
          obtain ⟨s1, _, _, _⟩ := setCells_heap [natV x] (0 + i) w cur hgg (by simp; omega)
          refine ⟨some ⟨g, 0, none⟩, c, rfl, own_of s1 hins.symm (by simp; omega) hroom hcm ?_, setCells_frx (FrX.refl _ _) hgg (by simp; omega) (.inl ⟨_, rfl, rfl⟩), fun ad e => .inl e⟩
          refine take_eq (by rw [nums_len]; exact hins) fun k hk => ?_
          simp only [Nat.zero_add]
          rw [splice_get (by simp; omega), nums_get, ins_get (by omega)]
          simp only [List.length_singleton]
          by_cases h1 : k < i
          · rw [if_pos h1, if_pos h1]; exact take_get ht h1
          · rw [if_neg h1, if_neg h1, if_pos (by omega), if_pos (by omega), show k - i = 0 by omega]; rfl
      · have hin : i < n := by omega
        have hcl : (nums l).length = n := by rw [nums_len, hl]
        refine (Any2.slices_Insert_int_shift Try.lays21 g 0 n c i vb 0 1 1 (nums l) [natV x] w hin (by omega) hroom hcm hgv hcl rfl (fun j v hj => ?_) (fun j hj => ?_) (fun j hj => frozen_of_row w g _ _ _ hgg) hvs (nums_one l) h1v 3 3 1 cur.size (by simp [World.shape?, hv]) (by simp [World.shape?, hgg]) (by omega) (frozen_of_row w vb _ _ _ hv) (frozen_of_row w vb _ _ _ hv)).mono ?_
        · rw [hcell]
          have hjl := (List.getElem?_eq_some_iff.1 hj).1
          rw [← ht, List.getElem?_take, if_pos (by omega)] at hj
          rw [← Array.getElem?_toList]
          exact hj
        · rw [hcell]
          have : j < cur.size := by omega
          simp [this]
        · rintro e w' ⟨rfl, rfl⟩
          have hd : ((nums l).drop i).length = n - i := by rw [List.length_drop, hcl]
          have hgd : w.drew.heap[g]? = some (.cells cur 3 (0, 0)) := hgg
          obtain ⟨s1, _, _, _⟩ := setCells_heap ((nums l).drop i) (0 + (i + 1)) w.drew cur hgd (by rw [hd]; omega)
          obtain ⟨s2, _, _, _⟩ := setCells_heap [natV x] (0 + i) _ _ s1 (by simp; omega)
          refine ⟨some ⟨g, 0, none⟩, c, rfl, own_of s2 hins.symm (by simp; omega) hroom hcm ?_, setCells_frx (setCells_frx ((FrX.refl _ _).drew) hgd (by rw [hd]; omega) (.inl ⟨_, rfl, rfl⟩)) s1 (by simp; omega) (.inl ⟨_, rfl, rfl⟩), fun ad e => .inl e⟩
          have hcurl : cur.toList.length = c := by simpa using hcs
          refine take_eq (by rw [nums_len]; exact hins) fun k hk => ?_
          simp only [Nat.zero_add]
          rw [splice_get (by simp; omega), nums_get, ins_get (by omega)]
          simp only [List.length_singleton]
          by_cases h1 : k < i
          · rw [if_pos h1, if_pos h1, splice_get (by rw [hd]; omega), if_pos (by omega)]
            exact take_get ht (by omega)
          · rw [if_neg h1, if_neg h1]
            by_cases h2 : k < i + 1
            · rw [if_pos h2, if_pos (by omega), show k - i = 0 by omega]; rfl
            · rw [if_neg h2, if_neg (by omega), splice_get (by rw [hd]; omega), if_neg (by omega), if_pos (by rw [hd]; omega), List.getElem?_drop, nums_get]
              rw [show i + (k - (i + 1)) = k - 1 by omega]
  · -- a new row
    have hn1 : n = c := by omega
    by_cases hin : i = n
    · subst hin
      have hcl : (nums l).length = i := by rw [nums_len, hl]
      refine (Any2.slices_Insert_int_end_grow Try.lays21 A i c vb 0 1 1 (nums l) [natV x] w (by omega) hnc (by omega) (by omega) hcl rfl (fun e => by have := hnil e; omega) (fun a e j v hj => ?_) hvs h1v).mono ?_
      · obtain ⟨g, cur, rfl, hgg, hcs, ht⟩ := hg a e
        subst e
        exact World.ownsRow.cells h (g := g) rfl j v hj
      · rintro e w' ⟨rfl, rfl⟩
        have hgc := grownCap_ge w (i + 1) c 3
        have hgm := grownCap_le_maxLen w (i + 1) c 3 (by unfold maxLen; omega)
        refine ⟨_, grownCap w (i + 1) c 3, rfl, own_of (heap_alloc_new w.drew _) hins.symm (by show _ = grownCap w (i + 1) c 3; simp [zero_cells, nums_len]; show l.length + 1 + (grownCap w (i + 1) c 3 - (i + 1)) = _; omega) hgc hgm ?_, (FrX.refl _ _).drew.alloc _, fun ad e => .inr (by injection e with e; rw [← e]; exact Nat.le_refl _)⟩
        rw [ins_nums, List.take_of_length_le (l := l) (by omega), List.drop_eq_nil_of_le (by omega)]
        simp only [Array.toList_append]
        rw [List.take_append_of_le_length (by simp [nums_len]; omega), List.take_of_length_le (by simp [nums_len]; omega)]
        rfl
    · have hin : i < n := by omega
      have hcl : (nums l).length = n := by rw [nums_len, hl]
      cases A with
      | none => have := hnil rfl; omega
      | some ad =>
        obtain ⟨g, cur, rfl, hgg, hcs, ht⟩ := hg ad rfl
        refine (Any2.slices_Insert_int_grow Try.lays21 g 0 n c i vb 0 1 1 (nums l) [natV x] w hin (by omega) hnc (by omega) (by omega) hcl rfl (fun j v hj => ?_) hvs (nums_one l) h1v).mono ?_
        · have := World.ownsRow.cells h (g := g) rfl j v hj
          rw [add_zero_off] at this
          rw [Nat.zero_add]
          exact this
        · rintro e w' ⟨rfl, rfl⟩
          have hgc := grownCap_ge w (n + 1) c 3
          have hgm := grownCap_le_maxLen w (n + 1) c 3 (by unfold maxLen; omega)
          obtain ⟨C, hC⟩ : ∃ C, C = grownCap w (n + 1) c 3 := ⟨_, rfl⟩
          have hCx : grownCap w (n + 1) c (Try.lays2_ren.t 3) = C := hC.symm
          rw [hCx]
          rw [← hC] at hgc hgm
          have hd : ((nums l).drop i).length = n - i := by rw [List.length_drop, hcl]
          have ti : ((nums l).take i).length = i := by rw [List.length_take, hcl]; omega
          obtain ⟨cs0, hcs0⟩ : ∃ cs0, cs0 = (((nums l).take i).toArray ++ Builtin.zeroCells (Value.int .i64 0).cells (n + 1 - i) ++ Builtin.zeroCells (Value.int .i64 0).cells (C - (n + 1))) := ⟨_, rfl⟩
          rw [← hcs0]
          have z0 : cs0.size = C := by rw [hcs0]; simp [zero_cells, ti]; omega
          have hgd : ((w.alloc (.cells cs0 3)).drew).heap[w.heap.size]? = some (.cells cs0 3 (0, 0)) := heap_alloc_new w _
          obtain ⟨s1, _, _, _⟩ := setCells_heap [natV x] i _ cs0 hgd (by simp; omega)
          have s1' : ((w.alloc (.cells cs0 3)).drew.setCells w.heap.size i [natV x]).drew.heap[w.heap.size]? = _ := s1
          have c0l : cs0.toList.length = C := by simpa using z0
          have l1 : (cs0.toList.take i ++ [natV x] ++ cs0.toList.drop (i + [natV x].length)).toArray.size = C := by
            have := congrArg List.length (List.take_append_drop i cs0.toList)
            simp at this c0l ⊢
            omega
          obtain ⟨s2, _, _, _⟩ := setCells_heap ((nums l).drop i) (i + 1) _ _ s1' (by rw [l1, hd]; omega)
          refine ⟨_, _, rfl, own_of s2 hins.symm ?_ hgc hgm ?_, ?_, fun ad e => .inr (by injection e with e; rw [← e]; exact Nat.le_refl _)⟩
          · have := congrArg List.length (List.take_append_drop (i + 1) (cs0.toList.take i ++ [natV x] ++ cs0.toList.drop (i + [natV x].length)))
            simp at this l1 ⊢
            omega
          · refine take_eq (by rw [nums_len]; exact hins) fun k hk => ?_
            have l1' : (cs0.toList.take i ++ [natV x] ++ cs0.toList.drop (i + [natV x].length)).length = C := by simpa using l1
            simp only []
            rw [splice_get (by rw [l1', hd]; omega), nums_get, ins_get (by omega)]
            by_cases h1 : k < i
            · rw [if_pos (by omega), if_pos h1, splice_get (by simp at c0l ⊢; omega), if_pos h1, hcs0]
              simp only [Array.toList_append]
              rw [List.append_assoc, List.getElem?_append_left (by simp [ti, hcl]; omega)]
              show ((nums l).take i)[k]? = _
              rw [List.getElem?_take, if_pos h1, nums_get]
            · by_cases h2 : k < i + 1
              · rw [if_pos h2, if_neg h1, if_pos (by omega), splice_get (by simp at c0l ⊢; omega), if_neg h1, if_pos (by simp; omega), show k - i = 0 by omega]; rfl
              · rw [if_neg h2, if_neg h1, if_pos (by rw [hd]; omega), if_neg (by omega), List.getElem?_drop, nums_get, show i + (k - (i + 1)) = k - 1 by omega]
          · exact setCells_frx (FrX.drew (setCells_frx ((FrX.refl _ _).alloc _ |>.drew) hgd (by simp; omega) (.inr (Nat.le_refl _)))) s1' (by rw [l1, hd]; omega) (.inr (Nat.le_refl _))
theorem delete_any {w : World} {A : Option Addr} {n c : Nat} {l : List Nat} (h : OwnN w (.slice A n c) l) {i x : Nat} (hx : l[i]? = some x) :
    Calls Try.prog 59 #[.slice A n c, .int .i64 (i : Int), .int .i64 ((i : Int) + 1)] w fun e w' => e = .returned (.slice A (n - 1) c) ∧ OwnN w' (.slice A (n - 1) c) (cutL l i) ∧ FrX (Lies A) w w' := by
  obtain ⟨hl, hnc, hcm, hnil, hg⟩ := h.blk
  have hil := (List.getElem?_eq_some_iff.1 hx).1
  cases A with
  | none => have := hnil rfl; omega
  | some ad =>
    obtain ⟨g, cur, rfl, hgg, hcs, ht⟩ := hg ad rfl
    have hzl : (l.map Int.ofNat).length = n := by simp; omega
    refine (Any.slices_Delete_int_cells Try.lays23 g 0 n c i (i + 1) (l.map Int.ofNat) w (by omega) hnc hcm (by omega) (by omega) (fun j hj => ?_) (fun j hj => frozen_of_row w g _ _ _ hgg)).mono ?_
    · have hjl : j < l.length := by omega
      have := World.ownsRow.cells h (g := g) rfl j (natV l[j]) (by unfold nums; rw [List.getElem?_map, List.getElem?_eq_getElem hjl]; rfl)
      rw [add_zero_off] at this
      rw [Nat.zero_add, this, List.getD_eq_getElem?_getD, List.getElem?_map, List.getElem?_eq_getElem hjl]
      rfl
    · rintro e w' ⟨rfl, q, rfl⟩
      rw [show n - (i + 1 - i) = n - 1 by omega]
      rw [List.take_of_length_le (show (l.map Int.ofNat).length ≤ n by omega)]
      have hcut := cut_len hx
      have e1 : (((l.map Int.ofNat).take i ++ (l.map Int.ofNat).drop (i + 1) ++ List.replicate (i + 1 - i) 0).map (Value.int .i64)) = nums (cutL l i) ++ [Value.int .i64 0] := by
        unfold cutL nums
        rw [show i + 1 - i = 1 by omega]
        have hf : l.map natV = (l.map Int.ofNat).map (Value.int .i64) := by rw [List.map_map]; rfl
        rw [List.map_append, List.map_append, List.map_append, List.map_take, List.map_drop, List.map_take, List.map_drop, ← hf]
        rfl
      rw [e1]
      have hgd : (w.drewN q).heap[g]? = some (.cells cur 3 (0, 0)) := hgg
      have hlen : (nums (cutL l i) ++ [Value.int .i64 0]).length = n := by rw [List.length_append, nums_len]; simp; omega
      obtain ⟨s1, _, _, _⟩ := setCells_heap (nums (cutL l i) ++ [Value.int .i64 0]) 0 (w.drewN q) cur hgd (by rw [hlen]; omega)
      refine ⟨rfl, own_of s1 (by omega) (by simp [nums_len]; omega) (by omega) hcm ?_, setCells_frx ((FrX.refl _ _).drewN q) hgd (by rw [hlen]; omega) (.inl ⟨_, rfl, rfl⟩)⟩
      simp only [List.take_zero, List.nil_append]
      rw [List.append_assoc, List.take_append_of_le_length (by rw [nums_len]; omega), List.take_of_length_le (by rw [nums_len]; omega)]
theorem index_any {w : World} {A : Option Addr} {n c : Nat} {l : List Nat} (h : OwnN w (.slice A n c) l) {i x : Nat} (hx : l[i]? = some x) (hne : ∀ j, j < i → l[j]? ≠ some x) :
    Calls Try.prog 58 #[.slice A n c, .int .i64 (x : Int)] w fun e w' => e = .returned (.int .i64 (i : Int)) ∧ w = w' := by
  obtain ⟨hl, hnc, hcm, hnil, hg⟩ := h.blk
  have hil := (List.getElem?_eq_some_iff.1 hx).1
  cases A with
  | none => have := hnil rfl; omega
  | some ad =>
    obtain ⟨g, cur, rfl, hgg, hcs, ht⟩ := hg ad rfl
    have hzl : (l.map Int.ofNat).length = n := by simp; omega
    have hget : ∀ j, (l.map Int.ofNat).getD j 0 = ((l[j]?).map Int.ofNat).getD 0 := fun j => by rw [List.getD_eq_getElem?_getD, List.getElem?_map]
    refine (Any.slices_Index_int Try.lays108 g 0 n c (l.map Int.ofNat) (x : Int) w (by omega) (by unfold maxLen at hcm; omega) (fun j hj => ?_)).mono ?_
    · have hjl : j < l.length := by omega
      have := World.ownsRow.cells h (g := g) rfl j (natV l[j]) (by unfold nums; rw [List.getElem?_map, List.getElem?_eq_getElem hjl]; rfl)
      rw [add_zero_off] at this
      rw [Nat.zero_add, this, hget, List.getElem?_eq_getElem hjl]
      rfl
    · rintro e w' ⟨rfl, rfl⟩
      refine ⟨?_, rfl⟩
      rw [Lib.idxOf_hit _ n i _ (by omega) (by omega) (by rw [hget, hx]; rfl) (fun j hj => ?_)]
      rw [hget]
      have hjl : j < l.length := by omega
      have := hne j hj
      rw [List.getElem?_eq_getElem hjl] at this ⊢
      simp at this ⊢
      omega
end Go.Proofs.Ytiikakfdelkjhaa.Arn
