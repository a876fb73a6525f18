/- Settle of the program's disk. -/
import Derived.Test.YtffenadibnehfaaSecProgC
import Derived.Deep.RegionLaw
namespace Go.Proofs.Ytffenadibnehfaa
open Go.RowKit

/-- nothing that was there has turned but two blocks -/
structure But2 (p b : Nat) (w w' : World) : Prop where
  os : w'.os = w.os
  tape : w'.tape = w.tape
  output : w'.output = w.output
  size : w.heap.size ≤ w'.heap.size
  block : ∀ k, k < w.heap.size → k ≠ p → k ≠ b → w'.heap[k]? = w.heap[k]?

set_option maxHeartbeats 1600000 in
theorem psettle_raw (w : World) (p n bb nb : Nat) (lv : Value) (g a : Bool) (l : Int) (f0 f1 : Nat → List UInt8)
    (hd : w.heap[p]? = some (.cells #[.int .i64 (n : Int), .map (some bb), .map (some nb), lv, .bool g, .bool a, .int .i64 l] 49 (0, 0)))
    (hb : SMap w bb n f0) (hn : SMap w nb n f1) (hne : bb ≠ nb) (hn1 : n ≤ 100000) :
    Calls Try.prog 15 #[.pointer (some ⟨p, 0, none⟩)] w fun e w' => e = .returned (.tuple #[]) ∧
      w'.heap[p]? = some (.cells #[.int .i64 (n : Int), .map (some bb), .map (some nb), .slice none 0 0, .bool g, .bool a, .int .i64 l] 49 (0, 0)) ∧ SMap w' bb n f1 ∧ SMap w' nb n f1 ∧ But2 p bb w w' := by
  have c1 := cell_of_row w p 1 _ _ _ hd
  have c2 := cell_of_row w p 2 _ _ _ hd
  simp at c1 c2
  have hlt : p < w.heap.size := (Array.getElem?_eq_some_iff.1 hd).1
  have hpb : p ≠ bb := fun e => hb.not_cells (by rw [← e]; exact hd)
  have hpn : p ≠ nb := fun e => hn.not_cells (by rw [← e]; exact hd)
  have hd' := Lib.hid hd
  have hb' := Lib.hid hb
  have hn' := Lib.hid hn
  have hpb' := Lib.hid hpb
  have hpn' := Lib.hid hpn
  have hne' := Lib.hid hne
  clear hd hb hn hpb hpn hne
  go_enter Try.func15, Try.ntmps15
  go_wp2_with (first
    | (refine wpList_clear_sec rfl (.tmp 7) rfl bb n f0 rfl hb'.out ?_; intro w1 hS1 ht1)
    | go_in)
  go_frame
  have hS1' := Lib.hid hS1
  have ht1' := Lib.hid ht1
  have hd1 := Lib.hid ((turned_block ht1 hpb'.out).trans hd'.out)
  have hn1' := Lib.hid (hn'.out.kept (turned_block ht1 hne'.out.symm))
  have c11 := cell_of_row w1 p 1 _ _ _ hd1.out
  have c12 := cell_of_row w1 p 2 _ _ _ hd1.out
  simp at c11 c12
  have hz1 := Lib.hid (turned_size ht1)
  clear hS1 ht1 c1 c2
  go_region_law (first
    | (go_simp; go_at_call 26; refine (copy_any w1.drew bb nb n f1 (hS1'.out.kept rfl) (hn1'.out.kept rfl) hn1 hne'.out).mono ?_; rintro e w2 ⟨rfl, hS2, hg2⟩))
  all_goals
    have hk : ∀ k, k < w.heap.size → k ≠ bb → w2.heap[k]? = w1.heap[k]? := fun k hk hkb => hg2.block k (by rw [show w1.drew.heap.size = w1.heap.size from rfl, hz1.out]; exact hk) (fun e => hkb (Option.some.inj e))
    have hd2 := Lib.hid ((hk p hlt hpb'.out).trans hd1.out)
    have hn2 := Lib.hid (hn1'.out.kept (hk nb (by have := hn'.out.lt; exact this) hne'.out.symm))
    have hk' := Lib.hid hk
    have hS2' := Lib.hid hS2
    have hg2' := Lib.hid hg2
    have f3 := frozen_of_row w2 p 3 _ _ hd2.out
    have c23 := cell_of_row w2 p 3 _ _ _ hd2.out
    simp at c23
    clear hS2 hg2 hk c11 c12
    go_wp2_with fail
    go_end0
    have hz2 := hg2'.out.size
    rw [show w1.drew.heap.size = w1.heap.size from rfl, hz1.out] at hz2
    refine ⟨rfl, by rw [heap_setCell_same w2 p 3 _ _ _ hd2.out]; rfl, hS2'.out.kept (heap_setCell_other w2 _ _ _ hpb'.out.symm), hn2.out.kept (heap_setCell_other w2 _ _ _ hpn'.out.symm), ?_, ?_, ?_, ?_, ?_⟩
    · exact hg2'.out.os.trans ht1'.out.grown.os
    · exact hg2'.out.tape.trans ht1'.out.grown.tape
    · exact hg2'.out.output.trans ht1'.out.grown.output
    · simp; exact hz2
    · exact fun k hk hkp hkb => (heap_setCell_other w2 _ k _ hkp).trans ((hk'.out k hk hkb).trans (turned_block ht1'.out hkb))
end Go.Proofs.Ytffenadibnehfaa
