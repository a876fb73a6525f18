/- An edit, read as a row of steps. -/
import Derived.Test.YtoeplaofgmdlbaaLtxS
import Derived.Maps.AppendAt
namespace Go.Proofs.Ytoeplaofgmdlbaa
open Go.RowKit
set_option maxRecDepth 20000
open Ltx (Pc)

/-- the row of steps that the variable at block P holds, with the end behind it; it stands on blocks of S -/
structure RowAt (w : World) (S : Nat → Prop) (base P : Nat) (sts : List St) : Prop where
  own : ∀ k, S k → base ≤ k ∧ k < w.heap.size
  here : S P
  dat : ∃ (g o c : Nat) (cur : Array Value), w.heap[P]? = some (.cells #[.slice (some ⟨g, o, none⟩) (sts.length + 1) c] 85 (0, 0)) ∧ S g ∧ w.heap[g]? = some (.cells cur 61 (0, 0)) ∧ sts.length + 1 ≤ c ∧ c ≤ maxLen ∧
    ∀ (j : Nat) (v : Value), (sts.flatMap St.cells ++ endC)[j]? = some v → cur[o + j]? = some v
theorem RowAt.kept {w w' : World} {S : Nat → Prop} {base P : Nat} {sts : List St} (h : RowAt w S base P sts) (hs : w.heap.size ≤ w'.heap.size) (hk : ∀ k, S k → w'.heap[k]? = w.heap[k]?) : RowAt w' S base P sts := by
  obtain ⟨h1, h2, g, o, c, cur, hP, hg, hh, rest⟩ := h
  exact ⟨fun k hS => ⟨(h1 k hS).1, Nat.lt_of_lt_of_le (h1 k hS).2 hs⟩, h2, g, o, c, cur, (hk P h2).trans hP, hg, (hk g hg).trans hh, rest⟩
theorem RowAt.below {w w' : World} {S : Nat → Prop} {base P : Nat} {sts : List St} (h : RowAt w S base P sts) (hb : Below w.heap.size w w') : RowAt w' S base P sts :=
  h.kept hb.size fun k hk => hb.block k (h.own k hk).2
theorem scells_len (l : List St) : (l.flatMap St.cells).length = l.length * 3 := by
  induction l with
  | nil => rfl
  | cons p r ih => rw [List.flatMap_cons, List.length_append, ih]; simp [St.cells]; omega
theorem row_take (l : List Pc) (q : Nat) (p : Pc) (h : l[q]? = some p) : rowS (l.take (q + 1)) = rowS (l.take q) ++ [.keep p.keep, .put p.put, .drop p.drop] := by
  rw [List.take_add_one, h]
  unfold rowS
  rw [List.flatMap_append]
  rfl
theorem rowS_len (l : List Pc) : (rowS l).length = l.length * 3 := by
  unfold rowS
  induction l with
  | nil => rfl
  | cons p r ih => rw [List.flatMap_cons, List.length_append, ih]; simp; omega
set_option maxHeartbeats 2000000 in
theorem row_any (w : World) (A : Option Addr) (n c : Nat) (l : List Pc) (hx : PcsIn w A n (l.map ipc)) (hn : n ≤ 100000) :
    Calls Try.prog 47 #[.slice A n c] w fun e w' => ∃ (P : Nat) (S : Nat → Prop), e = .returned (.func (.func 50) #[] #[.pointer (some ⟨P, 0, none⟩)]) ∧ RowAt w' S w.heap.size P (rowS l) ∧ Below w.heap.size w w' := by
  have hx' := Lib.hid hx
  have hlen := Lib.hid (show l.length = n by have := hx.1; simpa using this)
  clear hx
  have hn' : (n : Int) ≤ 9223372036854775807 := by omega
  obtain ⟨i0, hi0, hz0, hz1, hz2⟩ := info_parts Try.infoS
  have hi0' := Lib.hid hi0
  have hz0' := Lib.hid hz0
  have hz1' := Lib.hid hz1
  have hz2' := Lib.hid hz2
  clear hi0 hz0 hz1 hz2
  go_enter Try.func47, Try.ntmps47
  go_wp2_with fail
  go_loopw [8] (fun k wr => ∃ (q : Nat) (v : Value), q ≤ n ∧ k = .int .i64 (q : Int) ∧ wr.heap[w.heap.size]? = some (.cells #[v] 85 (0, 0)) ∧ wr.ownsRow w.heap.size 61 3 v (q * 3) ((rowS (l.take q)).flatMap St.cells) ∧ Below w.heap.size w wr) (fun k _ => n - (intOf k).toNat)
  case atStart => exact ⟨0, .slice none 0 0, Nat.zero_le _, rfl, heap_alloc_new w _, World.ownsRow_nil _ _ _ _, (Below.refl w.heap.size w).alloc (Nat.le_refl _) _⟩
  case round =>
    obtain ⟨q, v, hq, rfl, hP, hown, hbel⟩ := hrel
    obtain ⟨A1, k1, rfl, hnk1, hkm1, hA1, _⟩ := own_form hown
    have hPlt : w.heap.size < wr.heap.size := (Array.getElem?_eq_some_iff.1 hP).1
    have cP := cell_of_row wr w.heap.size 0 _ _ _ hP
    have fP := frozen_of_row wr w.heap.size 0 _ _ hP
    simp at cP
    have hP' := Lib.hid hP
    have hown' := Lib.hid hown
    have hbel' := Lib.hid hbel
    by_cases h1 : q < n
    · have h1I : (q : Int) < (n : Int) := by omega
      obtain ⟨ad, p, rfl, hpq, hlt, hp⟩ := (hx'.out.below hbel).pc h1
      obtain ⟨x1, x2, x3, x4, x5, x6, x7, x8⟩ := hp
      have hrt := Lib.hid (row_take l q p hpq)
      obtain ⟨kp, dr, pu⟩ := p
      simp only [ipc] at *
      unfold maxLen at x5
      clear hP hown hbel hpq
      have hnews := Lib.hid (show ∀ (o : Obj) (j : Nat) (u : Value), ([.int .u8 1, .int .i64 (kp : Int), .string ⟨#[]⟩, .int .u8 2, .int .i64 (pu.length : Int), .string ⟨pu.toArray⟩, .int .u8 3, .int .i64 (dr : Int), .string ⟨#[]⟩] : List Value)[j]? = some u → ((wr.alloc o).alloc (.cells #[.int .u8 1, .int .i64 (kp : Int), .string ⟨#[]⟩, .int .u8 2, .int .i64 (pu.length : Int), .string ⟨pu.toArray⟩, .int .u8 3, .int .i64 (dr : Int), .string ⟨#[]⟩] 61)).cell? ((⟨wr.heap.size + 1, 0, none⟩ : Addr).add j) = some u from fun o => by
        have h := heap_alloc_new (wr.alloc o) (.cells #[.int .u8 1, .int .i64 (kp : Int), .string ⟨#[]⟩, .int .u8 2, .int .i64 (pu.length : Int), .string ⟨pu.toArray⟩, .int .u8 3, .int .i64 (dr : Int), .string ⟨#[]⟩] 61)
        rw [show (wr.alloc o).heap.size = wr.heap.size + 1 from by simp] at h
        exact World.news_of_block h)
      have hone := Lib.hid (show ∀ u ∈ ([.int .u8 1, .int .i64 (kp : Int), .string ⟨#[]⟩, .int .u8 2, .int .i64 (pu.length : Int), .string ⟨pu.toArray⟩, .int .u8 3, .int .i64 (dr : Int), .string ⟨#[]⟩] : List Value), u.oneCell' = true from by simp [Value.oneCell'])
      have hsz := Lib.hid (show ∀ o1 o2, ((wr.alloc o1).alloc o2).heap.size = wr.heap.size + 2 from fun o1 o2 => by simp)
      have hold := Lib.hid (show ∀ o1 o2 k, k < wr.heap.size → ((wr.alloc o1).alloc o2).heap[k]? = wr.heap[k]? from fun o1 o2 k hk => (Go.heap_alloc_old (wr.alloc o1) o2 (by simp; omega)).trans (Go.heap_alloc_old wr o1 hk))
      go_wp2_with (at_builtin; refine wpList_append_own_at _ rfl (.tmp 12) (.tmp 25) 85 rfl w.heap.size 61 i0 _ 3 32 Try.underlying85 hi0'.out hz0'.out hz1'.out hz2'.out rfl (by decide) (.slice A1 (q * 3) k1) (q * 3) _ rfl ((hown'.out.alloc _).alloc _) ⟨wr.heap.size + 1, 0, none⟩ 3 3 [.int .u8 1, .int .i64 (kp : Int), .string ⟨#[]⟩, .int .u8 2, .int .i64 (pu.length : Int), .string ⟨pu.toArray⟩, .int .u8 3, .int .i64 (dr : Int), .string ⟨#[]⟩] rfl rfl (hnews.out _) hone.out (by unfold maxLen; omega) (by omega) (by rw [hsz.out]; omega) ?_; intro v' w2 ho hg _ hat; obtain ⟨A2, k2, rfl, -, -, -, -⟩ := own_form ho; have hq := (hg.block w.heap.size (by rw [hsz.out]; omega) (fun e => own_ne hown'.out hP'.out (by decide) e.symm)).trans ((hold.out _ _ _ hPlt).trans hP'.out); have cP2 := cell_of_row w2 w.heap.size 0 _ _ _ hq; have fP2 := frozen_of_row w2 w.heap.size 0 _ _ hq; simp at cP2; have hq' := Lib.hid hq; have ho' := Lib.hid ho; have hg' := Lib.hid hg; clear hq ho hg hat)
      go_roundw
      case rel =>
        have hset := heap_setCell_same w2 w.heap.size 0 _ _ (.slice A2 (q * 3 + 3) k2) hq'.out
        refine ⟨q + 1, _, by omega, by go_num, hset, ?_, ?_⟩
        · rw [hrt.out, List.flatMap_append, show (q + 1) * 3 = q * 3 + 3 by omega]
          exact own_kept ho'.out fun k hk => heap_setCell_other w2 ⟨w.heap.size, 0, none⟩ k _ (fun e => by have e2 : k = w.heap.size := e; subst e2; exact own_ne ho'.out hq'.out (by decide) hk)
        · exact (Below.grown (w := (wr.alloc (.cells #[.int .i64 (kp : Int), .int .i64 (dr : Int), .string ⟨pu.toArray⟩] 29)).alloc (.cells #[.int .u8 1, .int .i64 (kp : Int), .string ⟨#[]⟩, .int .u8 2, .int .i64 (pu.length : Int), .string ⟨pu.toArray⟩, .int .u8 3, .int .i64 (dr : Int), .string ⟨#[]⟩] 61)) ((hbel'.out.alloc (by omega) _).alloc (by simp; omega) _) hg'.out (by rw [hsz.out]; omega) (fun k hk => (World.ownsRow.lt hown'.out k hk).1)).setCell (Nat.le_refl _) _
      case measure => simp [intOf]; omega
    · have hqn : q = n := by omega
      have h1I : ¬ (q : Int) < (n : Int) := by omega
      have hrow := Lib.hid (show rowS (l.take q) = rowS l by rw [hqn, ← hlen.out, List.take_length])
      have hrl := Lib.hid (show (rowS l).length = q * 3 by rw [rowS_len, hlen.out, hqn])
      have hnews := Lib.hid (show ∀ (j : Nat) (u : Value), ([.int .u8 4, .int .i64 9223372036854775807, .string ⟨#[]⟩] : List Value)[j]? = some u → (wr.alloc (.cells #[.int .u8 4, .int .i64 9223372036854775807, .string ⟨#[]⟩] 61)).cell? ((⟨wr.heap.size, 0, none⟩ : Addr).add j) = some u from
        World.news_of_block (heap_alloc_new wr (.cells #[.int .u8 4, .int .i64 9223372036854775807, .string ⟨#[]⟩] 61)))
      have hone := Lib.hid (show ∀ u ∈ ([.int .u8 4, .int .i64 9223372036854775807, .string ⟨#[]⟩] : List Value), u.oneCell' = true from by simp [Value.oneCell'])
      have hsz := Lib.hid (show ∀ o1, (wr.alloc o1).heap.size = wr.heap.size + 1 from fun o1 => by simp)
      clear hqn h1 hP hown hbel
      go_wp2_with (at_builtin; refine wpList_append_own_at _ rfl (.tmp 28) (.tmp 30) 85 rfl w.heap.size 61 i0 _ 3 32 Try.underlying85 hi0'.out hz0'.out hz1'.out hz2'.out rfl (by decide) (.slice A1 (q * 3) k1) (q * 3) _ rfl (hown'.out.alloc _) ⟨wr.heap.size, 0, none⟩ 1 1 [.int .u8 4, .int .i64 9223372036854775807, .string ⟨#[]⟩] rfl rfl hnews.out hone.out (by unfold maxLen; omega) (by omega) (by rw [hsz.out]; omega) ?_; intro v' w2 ho hg _ hat; obtain ⟨A2, k2, rfl, -, -, -, -⟩ := own_form ho; have hq := (hg.block w.heap.size (by rw [hsz.out]; omega) (fun e => own_ne hown'.out hP'.out (by decide) e.symm)).trans ((Go.heap_alloc_old wr _ hPlt).trans hP'.out); have cP2 := cell_of_row w2 w.heap.size 0 _ _ _ hq; have fP2 := frozen_of_row w2 w.heap.size 0 _ _ hq; simp at cP2; have hq' := Lib.hid hq; have ho' := Lib.hid ho; have hg' := Lib.hid hg; clear hq ho hg hat)
      go_ret
      have hset := heap_setCell_same w2 w.heap.size 0 _ _ (.slice A2 (q * 3 + 1) k2) hq'.out
      have hot : ∀ k, k ≠ w.heap.size → (w2.setCell ⟨w.heap.size, 0, none⟩ (.slice A2 (q * 3 + 1) k2)).heap[k]? = w2.heap[k]? := fun k hk => heap_setCell_other w2 ⟨w.heap.size, 0, none⟩ k _ hk
      have hb3 : Below w.heap.size w (w2.setCell ⟨w.heap.size, 0, none⟩ (.slice A2 (q * 3 + 1) k2)) := (Below.grown (w := wr.alloc (.cells #[.int .u8 4, .int .i64 9223372036854775807, .string ⟨#[]⟩] 61)) (hbel'.out.alloc (by omega) _) hg'.out (by rw [hsz.out]; omega) (fun k hk => (World.ownsRow.lt hown'.out k hk).1)).setCell (Nat.le_refl _) _
      have ho2 := ho'.out
      rw [hrow.out] at ho2
      rcases ho2.2 with ⟨e, h0⟩ | ⟨g, cap, cur, e, hgb, hgg, hnc, hcm, hcs, htk⟩
      · omega
      · injection e with e1 e2 e3
        subst e1 e3
        have hgl : g < w2.heap.size := (Array.getElem?_eq_some_iff.1 hgg).1
        have hgne : g ≠ w.heap.size := fun e => by subst e; rw [hq'.out] at hgg; injection hgg with hgg; injection hgg with _ h2 _; revert h2; decide
        have hsz3 : (w2.setCell ⟨w.heap.size, 0, none⟩ (.slice (some ⟨g, 0, none⟩) (q * 3 + 1) k2)).heap.size = w2.heap.size := by simp
        have hsz2 : wr.heap.size + 1 ≤ w2.heap.size := by have := hg'.out.size; rw [hsz.out] at this; exact this
        have hset2 : (w2.setCell ⟨w.heap.size, 0, none⟩ (.slice (some ⟨g, 0, none⟩) (q * 3 + 1) k2)).heap[w.heap.size]? = some (.cells #[.slice (some ⟨g, 0, none⟩) ((rowS l).length + 1) k2] 85 (0, 0)) := by rw [hrl.out]; exact hset
        refine ⟨w.heap.size, rfl, ⟨fun k => k = w.heap.size ∨ k = g, fun k hk => ?_, .inl rfl, g, 0, k2, cur, hset2, .inr rfl, (hot g hgne).trans hgg, by rw [hrl.out]; exact hnc, hcm, fun j v hj => ?_⟩, hb3⟩
        · rcases hk with rfl | rfl
          · exact ⟨Nat.le_refl _, by omega⟩
          · exact ⟨hgb, by omega⟩
        · have hjl := (List.getElem?_eq_some_iff.1 hj).1
          rw [List.length_append, scells_len, hrl.out] at hjl
          simp only [endC, List.length_cons, List.length_nil] at hjl
          have h2 : (cur.toList.take ((q * 3 + 1) * 3))[j]? = some v := by rw [htk]; exact hj
          rw [List.getElem?_take, if_pos (by omega)] at h2
          rw [Nat.zero_add, ← Array.getElem?_toList]
          exact h2
end Go.Proofs.Ytoeplaofgmdlbaa
