/- Sum, as the program has it. -/
import Derived.Test.YtflllhodeakpgaaPthJ
namespace Go.Proofs.Ytflllhodeakpgaa
open Go.RowKit
set_option maxRecDepth 20000

theorem size_int : (Try.prog.info? 3).map (·.size) = some 1 := by kernel_rfl
theorem run_index_arr (w : World) (L : List Int) (k : Nat) (z : Int) (hk : k < 64) (hz : L[k]? = some z) :
    (Instr.index 51 (.agg (arrI L)) (.int .i64 (k : Int))).run Try.prog w = .ok (.int .i64 z) w := by
  have h1 : (0 : Int) ≤ (k : Int) ∧ (k : Int) < ((64 : Nat) : Int) := by omega
  have hc : (arrI L)[k]? = some (.int .i64 z) := by simp [arrI, hz, intV]
  obtain ⟨i0, hi, _, hs, _⟩ := info_parts Try.info3
  have ha : (isAgg 3).run Try.prog w = .ok false w := by
    unfold isAgg
    rw [Sem.run_bind, run_underlying Try.underlying3 w]
    rfl
  have hsz : (sizeOf 3).run Try.prog w = .ok 1 w := by
    unfold sizeOf typeInfo
    simp [hi, hs]
  simp [Instr.index, run_underlying Try.underlying51, asIntOf, part, ha, hsz, hc, hk]
theorem wpList_index_arr {ops : Array Oper} {rest : List Oper} {o : Oper} {a : Act} {w : World} {Q : Exit → Act → World → Prop} (hgd : o.guard = none) (x y : Operand) (ho : o.op = .index 51 x y) (L : List Int) (k : Nat) (z : Int)
    (hx : a.eval x = .agg (arrI L)) (hy : a.eval y = .int .i64 (k : Int)) (hk : k < 64) (hz : L[k]? = some z) (h : wpList Try.prog ops Q rest (a.put o.dst (.int .i64 z)) w) : wpList Try.prog ops Q (o :: rest) a w := by
  refine wpList_plain hgd fun _ hK => ?_
  unfold Oper.wp execOp
  simp only [ho, hx, hy, Sem.run_bind, run_index_arr w L k z hk hz, Result.andThen_ok, Sem.run_pure]
  exact hK _ _ h
theorem gathered_yes (w : World) (A : Option Addr) (n c : Nat) (zs : List (Nat × Nat)) (hA : ItsC w A n zs) (hn : n ≤ maxLen) (hf : fineL zs = true) (h : zs.length ≤ 64 ∧ allParts zs = true) :
    Calls Try.prog 40 #[.slice A n c] w fun e w' => e = .returned (.tuple #[.agg (arrI (sumL zs)), .bool true]) ∧ Near (sumL zs) 64 ∧ Below w.heap.size w w' := by
  refine (gathered_any w A n c zs hA hn hf).mono ?_
  rintro e w' ⟨hb, ⟨_, _, hN, rfl⟩ | ⟨hno, _⟩⟩
  · exact ⟨rfl, hN, hb⟩
  · exact absurd h hno
theorem gathered_no (w : World) (A : Option Addr) (n c : Nat) (zs : List (Nat × Nat)) (hA : ItsC w A n zs) (hn : n ≤ maxLen) (hf : fineL zs = true) (h : ¬ (zs.length ≤ 64 ∧ allParts zs = true)) :
    Calls Try.prog 40 #[.slice A n c] w fun e w' => e = .returned (.tuple #[.agg (arrI zeros), .bool false]) ∧ Below w.heap.size w w' := by
  refine (gathered_any w A n c zs hA hn hf).mono ?_
  rintro e w' ⟨hb, ⟨h1, h2, _⟩ | ⟨_, rfl⟩⟩
  · exact absurd ⟨h1, h2⟩ h
  · exact ⟨rfl, hb⟩

def pick1 (x : Int) (k : Nat) : List (Nat × Nat) := if x = 0 then [] else [(fOf x, fOf (k : Int))]
def picks (L : List Int) : Nat → List (Nat × Nat)
  | 0 => []
  | k + 1 => picks L k ++ pick1 (L.getD k 0) k
def inB (x : Int) : Bool := decide (-1048575 ≤ x ∧ x ≤ 1048575)
def okTo (L : List Int) (k : Nat) : Prop := ∀ j, j < k → inB (L.getD j 0) = true
def sumsOf (L : List Int) : Int × List (Nat × Nat) := if (List.range 64).all fun j => inB (L.getD j 0) then (0, picks L 64) else (3, [])
def sumsV (zs : List (Nat × Nat)) : Int × List (Nat × Nat) := if decide (zs.length ≤ 64) && allParts zs then sumsOf (sumL zs) else (2, [])
def SumR (w : World) (x : Int × List (Nat × Nat)) (e : Ending) (w' : World) : Prop := ∃ v, e = .returned (.tuple #[v, .int .i64 x.1]) ∧ OwnC w.heap.size w' v x.2 ∧ Below w.heap.size w w'
theorem picks_0 {L : List Int} {k : Nat} {x : Int} (hx : L.getD k 0 = x) (h : x = 0) : picks L (k + 1) = picks L k := by
  show picks L k ++ pick1 (L.getD k 0) k = _
  rw [hx, pick1, if_pos h, List.append_nil]
theorem picks_1 {L : List Int} {k : Nat} {x : Int} (hx : L.getD k 0 = x) (h : ¬ x = 0) : picks L (k + 1) = picks L k ++ [(fOf x, fOf (k : Int))] := by
  show picks L k ++ pick1 (L.getD k 0) k = _
  rw [hx, pick1, if_neg h]
theorem picks_len (L : List Int) : ∀ k, (picks L k).length ≤ k
  | 0 => Nat.le_refl _
  | k + 1 => by
    have := picks_len L k
    unfold picks pick1
    split <;> simp <;> omega
theorem sums_ok {L : List Int} (h : okTo L 64) : sumsOf L = (0, picks L 64) := by
  unfold sumsOf
  rw [if_pos]
  rw [List.all_eq_true]
  intro j hj
  exact h j (List.mem_range.1 hj)
theorem sums_no {L : List Int} {k : Nat} (hk : k < 64) (h : inB (L.getD k 0) = false) : sumsOf L = (3, []) := by
  unfold sumsOf
  rw [if_neg]
  rw [List.all_eq_true]
  intro hh
  have := hh k (List.mem_range.2 hk)
  rw [h] at this
  cases this
theorem okTo.next {L : List Int} {k : Nat} (h : okTo L k) (hx : inB (L.getD k 0) = true) : okTo L (k + 1) := fun j hj => by
  rcases Nat.lt_or_ge j k with h1 | h1
  · exact h j h1
  · obtain rfl : j = k := by omega
    exact hx

theorem sums_in {zs : List (Nat × Nat)} (h : zs.length ≤ 64 ∧ allParts zs = true) : sumsV zs = sumsOf (sumL zs) := by
  unfold sumsV
  rw [decide_eq_true h.1, h.2]
  rfl
theorem sums_out {zs : List (Nat × Nat)} (h : ¬ (zs.length ≤ 64 ∧ allParts zs = true)) : sumsV zs = (2, []) := by
  unfold sumsV
  rw [if_neg]
  simpa using h
set_option maxHeartbeats 1600000 in
theorem sum_any (w : World) (A : Option Addr) (n c : Nat) (zs : List (Nat × Nat)) (hA : ItsC w A n zs) (hn : n ≤ maxLen) (hf : fineL zs = true) :
    Calls Try.prog 32 #[.slice A n c] w (SumR w (sumsV zs)) := by
  have hA' := Lib.hid hA
  have hf' := Lib.hid hf
  have hn' := Lib.hid hn
  clear hA hf hn
  go_enter Try.func32, Try.ntmps32
  go_wp2_with fail
  refine wp_scope_jumps 0 (fun a' w' => Below w.heap.size w w' ∧ sumsV zs = (3, []) ∧ ∃ (u0 u1 u2 u3 u4 u5 u6 u7 u8 u9 u10 u11 u12 u13 u14 u15 u16 u17 u18 u19 u20 u21 u22 u23 u24 u25 u26 u27 u28 u29 u30 u31 u32 u33 u34 u35 u36 : Value), a' = { tmps := #[u0, u1, u2, u3, u4, u5, u6, u7, u8, u9, u10, u11, u12, u13, u14, u15, u16, u17, u18, u19, u20, u21, u22, u23, u24, u25, u26, u27, u28, u29, u30, u31, u32, u33, u34, u35, u36], defers := [] }) (fun _ _ => 0) rfl ?_ ?_
  · by_cases hc : zs.length ≤ 64 ∧ allParts zs = true
    · have hc' := Lib.hid hc
      have hsv := Lib.hid (sums_in hc)
      clear hc
      go_wp2_with (first
        | (go_at_call 40; refine (gathered_yes w A n c zs hA'.out hn'.out hf'.out hc'.out).mono ?_; rintro e w1 ⟨rfl, hN, hb1⟩; have hN' := Lib.hid hN; have hb1' := Lib.hid hb1; have hs1 := hb1.size; clear hN hb1)
        | (refine wpList_alloc_arr_to rfl rfl w1.heap.size rfl ?_; intro w2 hz2 hs2 hb2)
        | (refine wpList_store_row_to rfl 51 (.tmp 4) (.tmp 12) rfl w1.heap.size (arrI (sumL zs)) rfl rfl 51 _ hz2 (by rw [arrI_size hN'.out.1]; exact size_arr) (by rw [arrI_size hN'.out.1]; rfl) (arrI_one _) ?_; intro w3 hz3 hb3 hs3)
        | (refine wpList_load_row rfl 51 (.tmp 4) rfl w1.heap.size rfl 51 (arrI (sumL zs)) (0, 0) _ hz3 Try.underlying51 rfl (by rw [arrI_size hN'.out.1]; exact size_arr) ?_))
      have hb3' := Lib.hid (show Below w.heap.size w w3 from hb1'.out.trans ((hb2.trans hb3).mono hs1))
      generalize hL : sumL zs = L at *
      clear hL
      go_loopw [6, 17] (fun v i wr => ∃ k : Nat, k ≤ 64 ∧ i = .int .i64 (k : Int) ∧ OwnC w.heap.size wr v (picks L k) ∧ okTo L k ∧ Below w.heap.size w wr) (fun _ i _ => 64 - (intOf i).toNat)
      case atStart => exact ⟨0, Nat.zero_le _, rfl, OwnC.nil_ _ _, fun j hj => by omega, hb3'.out⟩
      case round =>
        obtain ⟨k, hk, rfl, hown, hok, hbel⟩ := hrel
        have hown' := Lib.hid hown
        have hok' := Lib.hid hok
        have hbel' := Lib.hid hbel
        have hsz := hbel.size
        clear hown hok hbel
        by_cases hlt : k < 64
        · obtain ⟨x, hx, hxd, x1, x2⟩ := hN'.out.at_ hlt
          have hx' := Lib.hid hx
          have hxd' := Lib.hid hxd
          clear hx hxd
          by_cases h0 : x = 0
          · have hpk := Lib.hid (picks_0 hxd'.out h0)
            have hin := Lib.hid (show inB (L.getD k 0) = true by rw [hxd'.out, h0]; rfl)
            have he0 : (x == 0) = true := beq_iff_eq.2 h0
            clear h0 x1 x2
            go_wp2_with (refine wpList_index_arr rfl (.tmp 16) (.tmp 17) rfl L k x rfl rfl hlt hx'.out ?_)
            go_roundw
            case rel => exact ⟨k + 1, by omega, by go_num, by rw [hpk.out]; exact hown'.out, hok'.out.next hin.out, hbel'.out⟩
            case measure => simp [intOf]; omega
          · have he0 : (x == 0) = false := beq_eq_false_iff_ne.2 h0
            have hp1 := Lib.hid (picks_1 hxd'.out h0)
            have hlen := picks_len L k
            have hlen' := Lib.hid hlen
            clear h0 hlen
            by_cases hlo : x < -1048575
            · have hv := Lib.hid (hsv.out.trans (sums_no hlt (by rw [hxd'.out]; exact decide_eq_false (by omega))))
              clear x1 x2
              go_wp2_with (refine wpList_index_arr rfl (.tmp 16) (.tmp 17) rfl L k x rfl rfl hlt hx'.out ?_)
              go_step3
              exact ⟨rfl, hbel'.out, hv.out, _, _, _, _, _, _, _, _, _, _, _, _, _, _, _, _, _, _, _, _, _, _, _, _, _, _, _, _, _, _, _, _, _, _, _, _, _, rfl⟩
            · by_cases hhi : 1048575 < x
              · have hv := Lib.hid (hsv.out.trans (sums_no hlt (by rw [hxd'.out]; exact decide_eq_false (by omega))))
                clear x1 x2
                go_wp2_with (refine wpList_index_arr rfl (.tmp 16) (.tmp 17) rfl L k x rfl rfl hlt hx'.out ?_)
                go_step3
                exact ⟨rfl, hbel'.out, hv.out, _, _, _, _, _, _, _, _, _, _, _, _, _, _, _, _, _, _, _, _, _, _, _, _, _, _, _, _, _, _, _, _, _, _, _, _, _, rfl⟩
              · have hin := Lib.hid (show inB (L.getD k 0) = true by rw [hxd'.out]; exact decide_eq_true (by omega))
                clear x1 x2
                go_wp2_with (first
                  | (refine wpList_index_arr rfl (.tmp 16) (.tmp 17) rfl L k x rfl rfl hlt hx'.out ?_)
                  | (go_at_call 36; refine (together_any _ _ _).mono ?_; rintro e w9 ⟨rfl, rfl⟩)
                  | (at_builtin; refine wpList_append_itsC rfl (.tmp 29) (.tmp 33) rfl w.heap.size _ (picks L k) [(fOf x, fOf (k : Int))] rfl (World.ownsRow.alloc hown'.out _) _ 1 1 rfl (ItsC.of_block (heap_alloc_new _ _) rfl rfl) (by intro e; cases e) (by have := hlen'.out; simp; omega) (by simp; omega) ?_; intro v2 w2 ho2 hg2 hat2))
                have hbw : Below w.heap.size w w2 := Below.grown (hbel'.out.alloc hsz (.cells #[.complex .f64 (fOf x) (fOf (k : Int))] 33)) hg2 (by simp; omega) (fun j hj => (World.ownsRow.lt (World.ownsRow.alloc hown'.out (.cells #[.complex .f64 (fOf x) (fOf (k : Int))] 33)) j hj).1)
                exact ⟨⟨k + 1, by omega, by go_num, by rw [hp1.out]; exact ho2, hok'.out.next hin.out, hbw⟩, by simp [intOf]; omega⟩
        · obtain rfl : k = 64 := by omega
          have hv := Lib.hid (hsv.out.trans (sums_ok hok'.out))
          go_wp2_with fail
          go_ret2
          exact ⟨_, by rw [hv.out]; rfl, by rw [hv.out]; exact hown'.out, hbel'.out⟩
    · have hc' := Lib.hid hc
      have hv := Lib.hid (sums_out hc)
      clear hc
      go_wp2_with (first
        | (go_at_call 40; refine (gathered_no w A n c zs hA'.out hn'.out hf'.out hc'.out).mono ?_; rintro e w1 ⟨rfl, hb1⟩; have hb1' := Lib.hid hb1; have hs1 := hb1.size; clear hb1)
        | (refine wpList_alloc_arr_to rfl rfl w1.heap.size rfl ?_; intro w2 hz2 hs2 hb2)
        | (refine wpList_store_row_to rfl 51 (.tmp 4) (.tmp 12) rfl w1.heap.size (arrI zeros) rfl rfl 51 _ hz2 size_arr rfl (arrI_one _) ?_; intro w3 hz3 hb3 hs3))
      simp only [Exit.jump]
      go_ret2
      exact ⟨_, by rw [hv.out]; rfl, by rw [hv.out]; exact OwnC.nil_ _ _, hb1'.out.trans ((hb2.trans hb3).mono hs1)⟩
  · rintro a' w' ⟨hb, hv, u0, u1, u2, u3, u4, u5, u6, u7, u8, u9, u10, u11, u12, u13, u14, u15, u16, u17, u18, u19, u20, u21, u22, u23, u24, u25, u26, u27, u28, u29, u30, u31, u32, u33, u34, u35, u36, rfl⟩
    have hb' := Lib.hid hb
    have hv' := Lib.hid hv
    clear hb hv
    go_wp2_with fail
    simp only [Exit.jump]
    go_ret2
    exact ⟨_, by rw [hv'.out]; rfl, by rw [hv'.out]; exact OwnC.nil_ _ _, hb'.out⟩
end Go.Proofs.Ytflllhodeakpgaa
