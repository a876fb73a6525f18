/- Bytes made a text and back, and what a slice of bytes that came in reads as. -/
import Derived.Test.YtkfggbafgjephaaCrcWalkE
import Derived.Lib.BufferRead
import Derived.Laws.IdiomStrings
namespace Go.Proofs.Ytkfggbafgjephaa
open Go.RowKit

theorem Bts.none_nil {w : World} {n : Nat} {bs : List UInt8} (h : Bts w none n bs) : bs = [] := by
  cases bs with
  | nil => rfl
  | cons c r =>
    obtain ⟨ad, e, _⟩ := h.2 0 c rfl
    cases e
/-- string(b) -/
theorem run_str (w : World) (A : Option Addr) (n c : Nat) (bs : List UInt8) (hB : Bts w A n bs) :
    (convert 23 9 (.slice A n c)).run Try.prog w = .ok (.string ⟨bs.toArray⟩) w := by
  obtain rfl := hB.1
  cases A with
  | none =>
    obtain rfl := hB.none_nil
    exact Lib.run_convert_nil_bytes w _ _ _ c Try.underlying23 Try.underlying5 Try.underlying9
  | some ad =>
    refine run_convert_bytes_back w _ _ _ ad c bs Try.underlying23 Try.underlying5 Try.underlying9 fun j hj => ?_
    obtain ⟨ad', e, _, hc⟩ := hB.2 j _ (List.getElem?_eq_getElem hj)
    injection e with e
    subst e
    exact hc
/-- []byte(s): a block of the call's own, which reads as the text's bytes -/
theorem run_own (w : World) (bs : List UInt8) (hm : bs.length ≤ maxLen) : ∃ (k : Nat) (w1 : World),
    (convert 9 23 (.string ⟨bs.toArray⟩)).run Try.prog w = .ok (.slice (some ⟨w.heap.size, 0, none⟩) bs.length k) w1 ∧
    Bts w1 (some ⟨w.heap.size, 0, none⟩) bs.length bs ∧ Below w.heap.size w w1 ∧ w1.heap.size = w.heap.size + 1 ∧ bs.length ≤ k ∧ k ≤ maxLen := by
  have hsz : (⟨bs.toArray⟩ : ByteArray).size = bs.length := rfl
  have h := run_bytes_of_string (P := Try.prog) w 9 23 5 ⟨bs.toArray⟩ Try.underlying9 Try.underlying23 Try.underlying5
  rw [hsz] at h
  refine ⟨_, _, h, ?_, ((Below.refl _ _).drew).alloc (Nat.le_refl _) _, by simp, grownCap_ge _ _ _ _, grownCap_le_maxLen _ _ _ _ hm⟩
  refine ⟨rfl, fun k c hk => ?_⟩
  obtain ⟨hl, rfl⟩ := List.getElem?_eq_some_iff.1 hk
  have hadd : (⟨w.heap.size, 0, none⟩ : Addr).add k = ⟨w.heap.size, k, none⟩ := by unfold Addr.add; split <;> simp_all
  refine ⟨⟨w.heap.size, 0, none⟩, rfl, by simp, ?_⟩
  rw [hadd, cell_of_row (w.drew.alloc _) w.heap.size k _ _ _ (heap_alloc_new w.drew _), bytesRow_at _ _ _ (by simpa using hl)]
  simp

/-- what the frame tells of a slice of bytes that came in -/
theorem bts_row {w : World} {a : Option Addr} {len cap : Nat} {zs : List Int}
    (h : (a = none ∧ len = 0 ∧ cap = 0 ∧ zs = []) ∨ ∃ x, a = some x ∧ len ≤ cap ∧ cap ≤ maxLen ∧ zs.length = cap ∧ (∀ i, i < zs.length → w.cell? (x.add i) = some (.int .u8 (zs.getD i 0))) ∧ ∀ n ∈ zs, (Lit.int .u8 n).wf = true) :
    ∃ bs, Bts w a len bs ∧ len ≤ cap ∧ cap ≤ maxLen ∧ (a = none → cap = 0) := by
  rcases h with ⟨rfl, rfl, rfl, _⟩ | ⟨x, rfl, hl, hm, hz, hc, hwf⟩
  · exact ⟨[], Bts.none_ w, Nat.le_refl _, Nat.zero_le _, fun _ => rfl⟩
  · refine ⟨(zs.take len).map fun z => UInt8.ofNat z.toNat, ⟨by rw [List.length_map, List.length_take]; omega, fun k c hk => ?_⟩, hl, hm, fun e => by cases e⟩
    rw [List.getElem?_map, List.getElem?_take] at hk
    split at hk
    · rename_i hkl
      have hkz : k < zs.length := by omega
      rw [List.getElem?_eq_getElem hkz] at hk
      simp only [Option.map_some, Option.some.injEq] at hk
      have hcell := hc k hkz
      rw [List.getD_eq_getElem?_getD, List.getElem?_eq_getElem hkz, Option.getD_some] at hcell
      have hb : 0 ≤ zs[k] ∧ zs[k] ≤ 255 := by simpa [Lit.wf, IntKind.min, IntKind.max, IntKind.signed, IntKind.bits] using hwf _ (List.getElem_mem hkz)
      refine ⟨x, rfl, ?_, ?_⟩
      · have := World.block_lt_of_cell? w _ hcell
        rwa [block_add] at this
      · rw [hcell, ← hk]
        generalize zs[k] = z at *
        have e : ((UInt8.ofNat z.toNat).toNat : Int) = z := by
          rw [UInt8.toNat_ofNat']
          omega
        rw [e]
    · simp at hk
/-- what the frame tells of a number of 32 bits that came in -/
theorem u32_in {a : Int} (h : (Lit.int .u32 a).wf = true) : ∃ x : Nat, a = (x : Int) ∧ x < 4294967296 := by
  have hb : 0 ≤ a ∧ a ≤ 4294967295 := by simpa [Lit.wf, IntKind.min, IntKind.max, IntKind.signed, IntKind.bits] using h
  exact ⟨a.toNat, by omega, by omega⟩
end Go.Proofs.Ytkfggbafgjephaa
