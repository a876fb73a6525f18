/- strings.Builder: WriteString, at a builder of the call's own. -/
import Derived.Test.YtoeplaofgmdlbaaLtxJ
import Derived.Lib.Builder
namespace Go.Proofs.Ytoeplaofgmdlbaa
open Go.RowKit
set_option maxRecDepth 20000

/-- a builder at block b that holds bs; it stands on blocks of S -/
structure Bld (w : World) (S : Nat → Prop) (base b : Nat) (bs : List UInt8) : Prop where
  own : ∀ k, S k → base ≤ k ∧ k < w.heap.size
  here : S b
  dat : ∃ (p v : Value), (p = .pointer none ∨ p = .pointer (some ⟨b, 0, none⟩)) ∧ w.heap[b]? = some (.cells #[p, v] 50 (0, 0)) ∧ OwnB base w v bs ∧ ∀ k, v.ownBlock = some k → S k
theorem check_used (w : World) (b : Nat) (hc : w.cell? ⟨b, 0, none⟩ = some (.pointer (some ⟨b, 0, none⟩))) :
    Calls Try.prog 46 #[.pointer (some ⟨b, 0, none⟩)] w fun e w' => e = .returned (.tuple #[]) ∧ w = w' := by
  have hne := Lib.run_neq_ptr_same (P := Try.prog) w (tp := 48) (te := 50) (j := (Try.prog.info? 50).get!) ⟨b, 0, none⟩ Try.underlying48 (by kernel_rfl)
  go_enter Try.func46, Try.ntmps46
  go_wp2
  go_end0
  exact ⟨rfl, rfl⟩
theorem check_fresh (w : World) (b : Nat) (v : Value) (hb : w.heap[b]? = some (.cells #[.pointer none, v] 50 (0, 0))) :
    Calls Try.prog 46 #[.pointer (some ⟨b, 0, none⟩)] w fun e w' => e = .returned (.tuple #[]) ∧ w' = w.setCell ⟨b, 0, none⟩ (.pointer (some ⟨b, 0, none⟩)) := by
  have c0 := cell_of_row w b 0 _ _ _ hb
  have f0 := frozen_of_row w b 0 _ _ hb
  simp at c0
  have hsh : w.shape? b = some (50, 2) := by simp [World.shape?, hb]
  have hb' := Lib.hid hb
  clear hb
  go_enter Try.func46, Try.ntmps46
  go_wp2
  rw [Lib.run_to_unsafe w ⟨b, 0, none⟩ Try.underlying48 Try.underlying83 (j := (Try.prog.info? 50).get!) (t := 50) (by kernel_rfl) (by decide +kernel) hsh (Nat.zero_lt_succ 1)]
  simp only [Result.andThen]
  rw [Oper.upon_value]
  go_wp2
  rw [run_callFunc_extern Try.func49 (by kernel_rfl) (by kernel_rfl) (by kernel_rfl) (e := Extern.AbiNoEscape.same) (by kernel_rfl)]
  rw [Lib.run_noEscape]
  simp only [Result.andThen]
  rw [Oper.upon_value]
  go_wp2
  rw [Lib.run_from_unsafe w ⟨b, 0, none⟩ Try.underlying83 Try.underlying48 (j := (Try.prog.info? 50).get!) (u := 50) (by kernel_rfl) hsh (by kernel_rfl)]
  simp only [Result.andThen]
  rw [Oper.upon_value]
  go_wp2
  go_end0
  exact ⟨rfl, rfl⟩
/-- a builder whose address it knows -/
def BldU (w : World) (S : Nat → Prop) (base b : Nat) (v : Value) (bs : List UInt8) : Prop := w.heap[b]? = some (.cells #[.pointer (some ⟨b, 0, none⟩), v] 50 (0, 0)) ∧ OwnB base w v bs ∧ ∀ k, v.ownBlock = some k → S k
theorem check_any {w : World} {S : Nat → Prop} {base b : Nat} {bs : List UInt8} (h : Bld w S base b bs) :
    Calls Try.prog 46 #[.pointer (some ⟨b, 0, none⟩)] w fun e w' => e = .returned (.tuple #[]) ∧ (∃ v, BldU w' S base b v bs) ∧ FrX S w w' ∧ w'.heap.size = w.heap.size := by
  obtain ⟨h1, h2, p, v, hp, hh, hown, hs⟩ := h
  rcases hp with rfl | rfl
  · refine (check_fresh w b v hh).mono ?_
    rintro e w' ⟨rfl, rfl⟩
    have hset := heap_setCell_same w b 0 _ _ (.pointer (some ⟨b, 0, none⟩)) hh
    refine ⟨rfl, ⟨v, hset, own_kept hown fun k hk => heap_setCell_other w ⟨b, 0, none⟩ k _ (fun e => by have e2 : k = b := e; subst e2; exact own_ne hown hh (by decide) hk), hs⟩, (FrX.refl S w).setCell h2, by simp⟩
  · refine (check_used w b (cell_of_row w b 0 _ _ _ hh)).mono ?_
    rintro e w' ⟨rfl, rfl⟩
    exact ⟨rfl, ⟨v, hh, hown, hs⟩, FrX.refl S w, rfl⟩
set_option maxHeartbeats 1000000 in
theorem write_any {w : World} {S : Nat → Prop} {base b : Nat} {bs : List UInt8} (h : Bld w S base b bs) (t : List UInt8) (hlen : bs.length + t.length ≤ 100000000) (hbase : base ≤ w.heap.size) :
    Calls Try.prog 31 #[.pointer (some ⟨b, 0, none⟩), .string ⟨t.toArray⟩] w fun e w' => e = .returned (.tuple #[.int .i64 (t.length : Int), .nilIface]) ∧ Bld w' (Also S w w') base b (bs ++ t) ∧ FrX S w w' := by
  have h' := Lib.hid h
  have hown := Lib.hid h.own
  have hhere := h.here
  have hlt := (h.own b h.here).2
  have htl : (⟨t.toArray⟩ : ByteArray).size = t.length := rfl
  have htl' := Lib.hid htl
  clear h htl
  go_enter Try.func31, Try.ntmps31
  go_wp2_with (first
    | (go_at_call 46; refine (check_any h'.out).mono ?_; rintro e w2 ⟨rfl, ⟨v, hu⟩, hF, hsz⟩; obtain ⟨hh, ho, hs⟩ := hu; obtain ⟨A, n, c, rfl, -, -, -, -, -⟩ := ho.shape_n (by unfold maxLen; omega); have c1 := cell_of_row w2 b 1 _ _ _ hh; simp at c1; have hh' := Lib.hid hh; have ho' := Lib.hid ho; have hs' := Lib.hid hs; have hF' := Lib.hid hF; have hsz' := Lib.hid hsz; clear hh ho hs hF hsz)
    | (at_builtin; refine wpList_append_text rfl (.tmp 12) (.tmp 13) rfl base _ bs t rfl ho'.out rfl hlen (by rw [hsz'.out]; exact hbase) ?_; intro v' w3 ho3 hg3 hat3; obtain ⟨A', n', c', rfl, -, -, -, -, -⟩ := ho3.shape_n (by rw [List.length_append]; unfold maxLen; omega); have hq := (hg3.block b (by rw [hsz'.out]; exact hlt) (fun e => own_ne ho'.out hh'.out (by decide) e.symm)).trans hh'.out; have c13 := cell_of_row w3 b 1 _ _ _ hq; have f13 := frozen_of_row w3 b 1 _ _ hq; simp at c13; have hq' := Lib.hid hq; have ho3' := Lib.hid ho3; have hg3' := Lib.hid hg3; have hat3' := Lib.hid hat3; clear hq ho3 hg3 hat3))
  go_ret2
  have hset := heap_setCell_same w3 b 1 _ _ (.slice A' n' c') hq'.out
  have hot : ∀ k, k ≠ b → (w3.setCell ⟨b, 1, none⟩ (.slice A' n' c')).heap[k]? = w3.heap[k]? := fun k hk => heap_setCell_other w3 ⟨b, 1, none⟩ k _ hk
  have hsz4 : (w3.setCell ⟨b, 1, none⟩ (.slice A' n' c')).heap.size = w3.heap.size := by simp
  have hF3 : FrX S w2 w3 := FrX.of_grown hg3'.out hs'.out
  have hF4 : FrX S w w3 := hF'.out.trans hF3 (fun k hk => .inl hk)
  have hs3 := hF4.size
  have hlo := World.ownsRow.lt ho3'.out
  have hin : ∀ k, Value.ownBlock (.slice A' n' c') = some k → Also S w (w3.setCell ⟨b, 1, none⟩ (.slice A' n' c')) k := fun k hk => by
    rcases hat3'.out with e | e
    · exact .inl (hs'.out k (e ▸ hk))
    · rw [hk] at e
      injection e with e
      have := (hlo k hk).2
      have := hsz'.out
      exact .inr ⟨by omega, by omega⟩
  refine ⟨by first | rfl | rw [← htl'.out]; rfl, ⟨fun k hk => ?_, .inl hhere, _, _, .inr rfl, hset, own_kept ho3'.out fun k hk => hot k (fun e => own_ne ho3'.out hq'.out (by decide) (e ▸ hk)), hin⟩, hF4.setCell hhere⟩
  rcases hk with hk | hk
  · have := hown.out k hk
    omega
  · omega
/-- as the shelf has it -/
theorem Bld.shelf {w : World} {S : Nat → Prop} {base b : Nat} {bs : List UInt8} (h : Bld w S base b bs) : Lib.IsBuilder 50 5 base b (Lib.byteCells bs) w := by
  obtain ⟨h1, h2, p, v, hp, hh, hown, hs⟩ := h
  have hl : (Lib.byteCells bs).length = bs.length := Lib.byteCells_length bs
  have ho : w.ownsRow base 5 1 v (Lib.byteCells bs).length (Lib.byteCells bs) := by rw [hl]; exact hown
  have hne := own_ne hown hh (show 5 ≠ 50 by decide)
  rcases hp with rfl | rfl
  · exact .inl ⟨(h1 b h2).1, v, hh, ho, hne⟩
  · exact .inr ⟨(h1 b h2).1, v, hh, ho, hne⟩
end Go.Proofs.Ytoeplaofgmdlbaa
