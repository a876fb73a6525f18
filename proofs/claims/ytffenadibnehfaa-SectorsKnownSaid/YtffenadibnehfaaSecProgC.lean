/- New and Read of the program's disk. -/
import Derived.Test.YtffenadibnehfaaSecProgB
namespace Go.Proofs.Ytffenadibnehfaa
open Go.RowKit

theorem good_new (s : Int) : Good (newV s) := by
  refine ⟨?_, ?_, ?_, ?_, fun e => by cases e⟩
  · show (List.replicate (newN s) (secL [])).length ≤ 16384
    rw [List.length_replicate]
    unfold newN
    omega
  · intro x hx
    rw [List.eq_of_mem_replicate (show x ∈ List.replicate (newN s) (secL []) from hx), secL_nil, zsec_len]
  · intro x hx; cases hx
  · intro x hx; cases hx
theorem new_len (s : Int) : (newV s).base.length = newN s := List.length_replicate
theorem mapV_new (s : Int) (k i : Nat) (hk : k = 0) : mapV (newV s) k i = zsec := by
  subst hk
  unfold mapV
  rw [new_len]
  split
  · rename_i h
    show (List.replicate (newN s) (secL [])).getD i [] = zsec
    rw [List.getD_eq_getElem?_getD, List.getElem?_replicate, if_pos h]
    rfl
  · rfl
theorem pd_new (w : World) (s : Int) (n : Nat) (hn : n = newN s) :
    PDat (((w.alloc (.map #[] 0)).alloc (.map #[] 0)).alloc (.cells #[.int .i64 (n : Int), .map (some w.heap.size), .map (some (w.heap.size + 1)), .slice none 0 0, .bool false, .bool false, .int .i64 0] 49 (0, 0)))
      (fun k => k = w.heap.size + 2 ∨ k = w.heap.size ∨ k = w.heap.size + 1) w.heap.size (w.heap.size + 2) (newV s) w.heap.size (w.heap.size + 1) (.slice none 0 0) := by
  subst hn
  have e1 : (w.alloc (.map #[] 0)).heap.size = w.heap.size + 1 := by simp
  have e2 : ((w.alloc (.map #[] 0)).alloc (.map #[] 0)).heap.size = w.heap.size + 2 := by simp
  have m1 := SMap.made w (newN s)
  have m2 := SMap.made (w.alloc (.map #[] 0)) (newN s)
  rw [e1] at m2
  have k1 : ∀ o, ((w.alloc (.map #[] 0)).alloc o).heap[w.heap.size]? = (w.alloc (.map #[] 0)).heap[w.heap.size]? := fun o => heap_alloc_old _ _ (by rw [e1]; omega)
  have k2 : ∀ k o, k < w.heap.size + 2 → (((w.alloc (.map #[] 0)).alloc (.map #[] 0)).alloc o).heap[k]? = ((w.alloc (.map #[] 0)).alloc (.map #[] 0)).heap[k]? := fun k o hk => heap_alloc_old _ _ (by rw [e2]; exact hk)
  refine { stands := fun k => ?_, lowP := by omega, lowB := Nat.le_refl _, lowN := by omega, ne := by omega, good := good_new s, disk := ?_, base := ?_, now := ?_, row := World.ownsRow_nil _ _ _ _ }
  · constructor
    · rintro (h | h | h)
      · exact .inl h
      · exact .inr (.inl h)
      · exact .inr (.inr (.inl h))
    · rintro (h | h | h | h)
      · exact .inl h
      · exact .inr (.inl h)
      · exact .inr (.inr h)
      · cases h
  · have h := heap_alloc_new ((w.alloc (.map #[] 0)).alloc (.map #[] 0)) (.cells #[.int .i64 (newN s : Int), .map (some w.heap.size), .map (some (w.heap.size + 1)), .slice none 0 0, .bool false, .bool false, .int .i64 0] 49 (0, 0))
    rw [e2] at h
    rw [h]
    unfold diskCells
    rw [new_len]
    rfl
  · rw [new_len]
    exact ((m1.kept (k1 _)).kept (k2 _ _ (by omega))).eq fun i => mapV_new s 0 i rfl
  · rw [new_len]
    exact (m2.kept (k2 _ _ (by omega))).eq fun i => mapV_new s _ i rfl

theorem pnew_any (w : World) (s : Int) :
    Calls Try.prog 8 #[.int .i64 s] w fun e w' => ∃ X S bb nb lv, e = .returned (.pointer (some ⟨X, 0, none⟩)) ∧ PDat w' S w.heap.size X (newV s) bb nb lv ∧ (∀ k, S k → w.heap.size ≤ k) ∧ Below w.heap.size w w' := by
  have hmm := @run_makeMap Try.prog
  have hb : ∀ o, Below w.heap.size w (((w.alloc (.map #[] 0)).alloc (.map #[] 0)).alloc o) := fun o => (((Below.refl _ _).alloc (Nat.le_refl _) _).alloc (by simp) _).alloc (by simp; omega) _
  obtain ⟨n, hn⟩ : ∃ n, n = newN s := ⟨_, rfl⟩
  have hfin := Lib.hid (pd_new w s n hn)
  have hb' := Lib.hid hb
  clear hb
  have hcases : (s < 0 ∧ (n : Int) = 0) ∨ (0 ≤ s ∧ s ≤ 16384 ∧ (n : Int) = s) ∨ (16384 < s ∧ (n : Int) = 16384) := by rw [hn]; unfold newN; omega
  clear hn
  rcases hcases with ⟨h1, h2⟩ | ⟨h1, h2, h3⟩ | ⟨h1, h2⟩
  · rw [h2] at hfin
    clear h2
    go_enter Try.func8, Try.ntmps8
    go_wp2_with fail
    go_ret
    exact ⟨_, _, _, _, _, rfl, hfin.out, fun k hk => by omega, hb'.out _⟩
  · rw [h3] at hfin
    clear h3
    go_enter Try.func8, Try.ntmps8
    go_wp2_with fail
    go_ret
    exact ⟨_, _, _, _, _, rfl, hfin.out, fun k hk => by omega, hb'.out _⟩
  · rw [h2] at hfin
    clear h2
    go_enter Try.func8, Try.ntmps8
    go_wp2_with fail
    go_ret
    exact ⟨_, _, _, _, _, rfl, hfin.out, fun k hk => by omega, hb'.out _⟩
theorem pread_any {w : World} {S : Nat → Prop} {B p : Nat} {d : RD} {bb nb : Nat} {lv : Value} (h : PDat w S B p d bb nb lv) (i : Int) :
    Calls Try.prog 22 #[.pointer (some ⟨p, 0, none⟩), .int .i64 i] w fun e w' => ∃ v, e = .returned (.tuple #[v, .int .i64 (askedV d i)]) ∧ BRow w.heap.size w' v (readV d i) ∧ Below w.heap.size w w' := by
  have h' := Lib.hid h
  have hs := h.good.sectors
  by_cases h0 : askedV d i = 0
  · obtain ⟨_, hi0, hi1⟩ := asked_ok h0
    obtain ⟨j, rfl⟩ := Int.eq_ofNat_of_zero_le hi0
    have hj : j < d.base.length := by omega
    have hr : readV d (j : Int) = mapV d d.wr.length j := by
      unfold mapV
      rw [if_pos hj]
      exact if_pos h0
    have hlen := Lib.hid (h.now.look (i := j) (by omega)).2
    have hr' := Lib.hid hr
    have h0' := Lib.hid h0
    have c2 := cell_of_row w p 2 _ _ _ h.disk
    unfold diskCells at c2
    simp at c2
    clear hr h0 h
    generalize hf : mapV d d.wr.length = f at *
    have hS := Lib.hid (show SMap w nb d.base.length f by rw [← hf]; exact h'.out.now)
    clear hf
    have hj0 : j ≤ 9223372036854775807 := by omega
    go_enter Try.func22, Try.ntmps22
    go_wp2_with fail
    refine (pwrong_any h'.out _).mono ?_
    rintro e w' ⟨rfl, rfl⟩
    rw [h0'.out]
    go_wp2_with (first
      | (at_lookup; refine wpList_look_sec rfl (.tmp 17) (.tmp 18) rfl nb d.base.length j f rfl rfl hS.out hj0 ?_)
      | (refine wpList_alloc_sec rfl rfl ?_)
      | (refine wpList_store_row_to rfl 56 (.tmp 7) (.tmp 19) rfl w.heap.size (secA (f j)) rfl rfl 56 (secA zsec) (heap_alloc_new w _) (by rw [secA_size hlen.out]; exact size_sec) (by rw [secA_size hlen.out, secA_size zsec_len]) (secA_one (f j)) ?_; intro w3 hF3 hb3 hz3; have hF3' := Lib.hid hF3; clear hF3)
      | go_in)
    go_ret2
    have hl : (readV d (j : Int)).length = 128 := by rw [hr'.out]; exact hlen.out
    have hb : Below w.heap.size w w3 := ((Below.refl _ _).alloc (Nat.le_refl _) _).trans hb3
    refine ⟨.slice (some ⟨w.heap.size, 0, none⟩) 128 128, by rw [h0'.out]; rfl, ⟨some ⟨w.heap.size, 0, none⟩, 128, by rw [hl], by omega, by unfold maxLen; omega, (fun e => by cases e), ?_, fun _ => ⟨w.heap.size, 0, rfl, Nat.le_refl _, fun k hk => ?_⟩⟩, hb⟩
    · exact Bts.of_block hF3'.out rfl (by rw [hr'.out]; rfl)
    · rw [hl] at hk
      refine ⟨?_, frozen_of_row w3 w.heap.size _ _ _ hF3'.out⟩
      have hk' : k < (f j).length := by rw [hlen.out]; exact hk
      refine ⟨((f j)[k].toNat : Int), ?_⟩
      rw [Nat.zero_add, cell_of_row w3 w.heap.size k _ _ _ hF3'.out]
      simp [secA, byteV, List.getElem?_eq_getElem hk']
  · have hr : readV d i = [] := if_neg h0
    have hr' := Lib.hid hr
    have t1 : (askedV d i != 0) = true := by rw [bne_iff_ne]; exact h0
    clear hr h0 h
    generalize hq : askedV d i = q at *
    have hq' := Lib.hid hq
    go_enter Try.func22, Try.ntmps22
    go_wp2_with fail
    refine (pwrong_any h'.out _).mono ?_
    rintro e w' ⟨rfl, rfl⟩
    rw [hq'.out]
    clear hq
    go_wp2_with fail
    go_ret2
    refine ⟨.slice none 0 0, rfl, ⟨none, 0, ?_, ?_, by unfold maxLen; omega, fun _ => rfl, ?_, ?_⟩, Below.refl _ _⟩
    · rw [hr'.out]; rfl
    · rw [hr'.out]; exact Nat.le_refl _
    · rw [hr'.out]; exact Bts.none_ _
    · rw [hr'.out]; intro h; cases h
end Go.Proofs.Ytffenadibnehfaa
