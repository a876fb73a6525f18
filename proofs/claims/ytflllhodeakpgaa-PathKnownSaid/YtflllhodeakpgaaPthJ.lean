/- gathered: what some shifts sum to at each place, as the program has it. -/
import Derived.Test.YtflllhodeakpgaaPthI
namespace Go.Proofs.Ytflllhodeakpgaa
open Go.RowKit
set_option maxRecDepth 20000

section
variable {P : Program} {fn : Func}
theorem results_ct {p u : Tmp} {ty : TypeId} (h : fn.results = #[.cell p ty, .tmp u]) (tmps : Array Value) (w : World) (g : Nat) (t : TypeId) (cs : Array Value) (fr : Nat × Nat) (d : TypeDesc)
    (hp : tmps.getD p undef = .pointer (some ⟨g, 0, none⟩)) (hg : w.heap[g]? = some (.cells cs t fr))
    (hu : P.underlying ty = some d) (hd : (match d with | .struct _ | .array _ _ => true | _ => false) = true) (hi : (P.info? ty).map (·.size) = some cs.size) :
    (results fn tmps).run P w = .ok (.tuple #[.agg cs, tmps.getD u undef]) w := by
  have hp' : tmps[p]?.getD undef = .pointer (some ⟨g, 0, none⟩) := by simpa using hp
  simp [results, h, hp', asAddr, run_loadVar_row w g t ty cs fr d hg hu hd hi]
end

/-- what gathered tells -/
def Gathered (w : World) (zs : List (Nat × Nat)) (e : Ending) (w' : World) : Prop :=
  Below w.heap.size w w' ∧
  ((zs.length ≤ 64 ∧ allParts zs = true ∧ Near (sumL zs) 64 ∧ e = .returned (.tuple #[.agg (arrI (sumL zs)), .bool true])) ∨
   (¬ (zs.length ≤ 64 ∧ allParts zs = true) ∧ e = .returned (.tuple #[.agg (arrI zeros), .bool false])))
theorem Near.weak {L : List Int} {m n : Nat} (h : Near L m) (hmn : m ≤ n) : Near L n := ⟨h.1, fun k x hx => by have := h.2 k x hx; omega⟩

set_option maxHeartbeats 1600000 in
theorem gathered_any (w : World) (A : Option Addr) (n c : Nat) (zs : List (Nat × Nat)) (hA : ItsC w A n zs) (hn : n ≤ maxLen) (hf : fineL zs = true) :
    Calls Try.prog 40 #[.slice A n c] w (Gathered w zs) := by
  have hA' := Lib.hid hA
  have hl := Lib.hid hA.1
  have hf' := Lib.hid hf
  unfold maxLen at hn
  clear hA hf
  go_enter Try.func40, Try.ntmps40
  go_wp2_with (first
    | (refine wpList_alloc_arr_to rfl rfl w.heap.size rfl ?_; intro w1 hz1 hs1 hb1))
  refine wp_scope_jumps 0 (fun a' w' => Below w.heap.size w w' ∧ w'.heap[w.heap.size]? = some (.cells (arrI zeros) 51 (0, 0)) ∧ ¬ (zs.length ≤ 64 ∧ allParts zs = true) ∧ ∃ (u0 u1 u3 u4 u5 u6 u7 u8 u9 u10 u11 u12 u13 u14 u15 u16 u17 u18 u19 u20 u21 u22 u23 u24 u25 u26 u27 u28 u29 u30 u31 u32 u33 u34 u35 u36 : Value), a' = { tmps := #[u0, u1, .pointer (some ⟨w.heap.size, 0, none⟩), u3, u4, u5, u6, u7, u8, u9, u10, u11, u12, u13, u14, u15, u16, u17, u18, u19, u20, u21, u22, u23, u24, u25, u26, u27, u28, u29, u30, u31, u32, u33, u34, u35, u36], defers := [] }) (fun _ _ => 0) rfl ?_ ?_
  · by_cases hbig : (64 : Int) < (n : Int)
    · have hv := Lib.hid (show ¬ (zs.length ≤ 64 ∧ allParts zs = true) from fun h => by have := hl.out; omega)
      go_wp2_with (first
        | (refine wpList_alloc_arr_to rfl rfl (w.heap.size + 1) hs1 ?_; intro w2 hz2 hs2 hb2; have hz12 := heap_kept hb2 (by omega : w.heap.size < w.heap.size + 1) hz1)
        | (refine wpList_load_row rfl 51 (.tmp 4) rfl (w.heap.size + 1) rfl 51 (arrI zeros) (0, 0) _ hz2 Try.underlying51 rfl size_arr ?_)
        | (refine wpList_store_row_to rfl 51 (.tmp 2) (.tmp 13) rfl w.heap.size (arrI zeros) rfl rfl 51 _ hz12 size_arr rfl (arrI_one _) ?_; intro w3 hz3 hb3 hs3; have hz3' := Lib.hid hz3; have hb3' := Lib.hid hb3; clear hz3 hb3))
      simp only [Exit.jump]
      refine bodyPost_ret (results_ct rfl _ _ w.heap.size 51 _ (0, 0) _ rfl hz3'.out Try.underlying51 rfl size_arr) rfl ?_
      exact ⟨(hb1.trans (hb2.mono (by omega))).trans hb3'.out, .inr ⟨hv.out, rfl⟩⟩
    · go_wp2_with (first
        | (refine wpList_alloc_arr_to rfl rfl (w.heap.size + 1) hs1 ?_; intro w2 hz2 hs2 hb2; have hz12 := heap_kept hb2 (by omega : w.heap.size < w.heap.size + 1) hz1))
      go_loopw [16] (fun i wr => ∃ k : Nat, k ≤ n ∧ i = .int .i64 (k : Int) ∧ wr.heap[w.heap.size]? = some (.cells (arrI zeros) 51 (0, 0)) ∧ wr.heap[w.heap.size + 1]? = some (.cells (arrI (sumL (zs.take k))) 51 (0, 0)) ∧ Near (sumL (zs.take k)) k ∧ allParts (zs.take k) = true ∧ Below w.heap.size w wr ∧ w.heap.size + 2 ≤ wr.heap.size) (fun i _ => n - (intOf i).toNat)
      case atStart => exact ⟨0, Nat.zero_le _, rfl, hz12, hz2, near_zeros, rfl, hb1.trans (hb2.mono (by omega)), by omega⟩
      case round =>
        obtain ⟨k, hk, rfl, hz, hr, hN, hall, hbel, hsz⟩ := hrel
        have hN' := Lib.hid hN
        have hall' := Lib.hid hall
        have hbel' := Lib.hid hbel
        clear hall hbel
        by_cases hlt : k < n
        · obtain ⟨ad, re, im, rfl, hzk, hcell0⟩ := hA'.out.at_ hlt
          have hcell := (hbel'.out.cell (p := ad.add k) (World.block_lt_of_cell? w _ hcell0)).trans hcell0
          have hfs := fine_at hzk hf'.out
          have hfp : fineP re im = true := by
            unfold fineS at hfs
            simp at hfs
            exact hfs.1
          have hfp' := Lib.hid hfp
          cases hp : partsV re im with
          | none =>
            have r1 := Lib.hid (show partsR re im = .returned (.tuple #[.int .i64 0, .int .i64 0, .bool false]) by unfold partsR; rw [hp])
            have hv := Lib.hid (show ¬ (zs.length ≤ 64 ∧ allParts zs = true) from fun h => by rw [all_not hzk hp] at h; exact absurd h.2 (by decide))
            have hz' := Lib.hid hz
            clear hN hfs hfp hp hzk hz hr hcell0 hz1 hz2 hz12
            go_wp2_with (go_at_call 39; refine (parts_any _ re im hfp'.out).mono ?_; rw [r1.out]; rintro e w9 ⟨rfl, rfl⟩)
            go_step3
            exact ⟨rfl, hbel'.out, hz'.out, hv.out, _, _, _, _, _, _, _, _, _, _, _, _, _, _, _, _, _, _, _, _, _, _, _, _, _, _, _, _, _, _, _, _, _, _, _, _, rfl⟩
          | some ab =>
            obtain ⟨a, b⟩ := ab
            obtain ⟨_, b1, b2, b3, b4⟩ := fineS_parts hfs hp
            obtain ⟨p, rfl⟩ : ∃ p : Nat, a = (p : Int) := ⟨a.toNat, by omega⟩
            have r1 := Lib.hid (show partsR re im = .returned (.tuple #[.int .i64 p, .int .i64 b, .bool true]) by unfold partsR; rw [hp])
            obtain ⟨x, hx, hxd, x1, x2⟩ := hN.at_ (show p < 64 by omega)
            have hxc := Near.cell hr hx
            have hfr := frozen_of_row wr (w.heap.size + 1) p _ _ hr
            have hnx := Lib.hid (sumL_take hzk hp)
            have hal := Lib.hid (all_take hzk hall'.out (by rw [hp]; rfl))
            have hN2 := Lib.hid (hN.set hx b3 b4)
            have hset := Lib.hid (arr_set hr (k := p) (x + b))
            have hz' := Lib.hid hz
            rw [hxd] at hnx
            have p0 : (0 : Int) ≤ (p : Int) := by omega
            have p1 : (p : Int) < 64 := by omega
            have f1 : -9223372036854775808 ≤ x + b := by have := hn; omega
            have f2 : x + b ≤ 9223372036854775807 := by omega
            clear hN hfs hfp hp hzk hz hr hx hxd hcell0 hz1 hz2 hz12 b1 b2 b3 b4 x1 x2
            go_wp2_with (go_at_call 39; refine (parts_any _ re im hfp'.out).mono ?_; rw [r1.out]; rintro e w9 ⟨rfl, rfl⟩)
            go_roundw
            case rel =>
              refine ⟨k + 1, by omega, by go_num, ?_, ?_, ?_, hal.out, hbel'.out.setCell (by exact Nat.le_succ _) _, by simp; omega⟩
              · rw [Below.heap_setCell _ _ _ _ (by simp)]; exact hz'.out
              · rw [hnx.out]; exact hset.out
              · rw [hnx.out]; exact hN2.out
            case measure => simp [intOf]; omega
        · obtain rfl : k = n := by omega
          have hzt : zs.take k = zs := List.take_of_length_le (by rw [hl.out]; exact Nat.le_refl _)
          rw [hzt] at hr hN' hall'
          clear hN
          have h64 := Lib.hid (show zs.length ≤ 64 by have := hl.out; omega)
          go_wp2_with (first
            | (refine wpList_load_row rfl 51 (.tmp 4) rfl (w.heap.size + 1) rfl 51 (arrI (sumL zs)) (0, 0) _ hr Try.underlying51 rfl (by rw [arrI_size hN'.out.1]; exact size_arr) ?_)
            | (refine wpList_store_row_to rfl 51 (.tmp 2) (.tmp 35) rfl w.heap.size (arrI (sumL zs)) rfl rfl 51 _ hz (by rw [arrI_size hN'.out.1]; exact size_arr) (by rw [arrI_size hN'.out.1]; rfl) (arrI_one _) ?_; intro w3 hz3 hb3 hs3; have hz3' := Lib.hid hz3; have hb3' := Lib.hid hb3; clear hz3 hb3))
          refine bodyPost_ret (results_ct rfl _ _ w.heap.size 51 _ (0, 0) _ rfl hz3'.out Try.underlying51 rfl (by rw [arrI_size hN'.out.1]; exact size_arr)) rfl ?_
          exact ⟨hbel'.out.trans hb3'.out, .inl ⟨h64.out, hall'.out, hN'.out.weak (by have := h64.out; have := hl.out; omega), rfl⟩⟩
  · rintro a' w' ⟨hb, hz, hv, u0, u1, u3, u4, u5, u6, u7, u8, u9, u10, u11, u12, u13, u14, u15, u16, u17, u18, u19, u20, u21, u22, u23, u24, u25, u26, u27, u28, u29, u30, u31, u32, u33, u34, u35, u36, rfl⟩
    have hb' := Lib.hid hb
    have hv' := Lib.hid hv
    clear hb hv
    go_wp2_with (first
      | (refine wpList_build_arr rfl rfl ?_)
      | (refine wpList_store_row_to rfl 51 (.tmp 2) (.tmp 36) rfl w.heap.size (arrI zeros) rfl rfl 51 _ hz size_arr rfl (arrI_one _) ?_; intro w3 hz3 hb3 hs3; have hz3' := Lib.hid hz3; have hb3' := Lib.hid hb3; clear hz3 hb3))
    simp only [Exit.jump]
    refine bodyPost_ret (results_ct rfl _ _ w.heap.size 51 _ (0, 0) _ rfl hz3'.out Try.underlying51 rfl size_arr) rfl ?_
    exact ⟨hb'.out.trans hb3'.out, .inr ⟨hv'.out, rfl⟩⟩
end Go.Proofs.Ytflllhodeakpgaa
