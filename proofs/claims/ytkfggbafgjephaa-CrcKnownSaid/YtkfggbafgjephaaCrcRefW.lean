/- The document's windows, the comparison of two rows, and the program's windows, each for any width. -/
import Derived.Test.YtkfggbafgjephaaCrcSlides
namespace Go.Proofs.Ytkfggbafgjephaa
open Go.RowKit

/-- how many windows there are -/
def cntW (n : Nat) (x : Int) : Nat := if 1 ≤ x ∧ x ≤ (n : Int) then n - x.toNat + 1 else 0
/-- the Sum of the j-th window -/
def winF (bs : List UInt8) (x : Int) (j : Nat) : Nat := sumV ((bs.drop j).take x.toNat)
/-- the slice (A, L) reads as L numbers of 32 bits, f of each place; they lie in block g -/
def NumsAt (w : World) (A : Option Addr) (g L : Nat) (f : Nat → Nat) : Prop := 0 < L → A = some ⟨g, 0, none⟩ ∧ g < w.heap.size ∧ ∀ j, j < L → w.cell? ⟨g, j, none⟩ = some (.int .u32 (f j : Int))
theorem NumsAt.below {w w' : World} {A : Option Addr} {g L : Nat} {f : Nat → Nat} (h : NumsAt w A g L f) (hb : Below w.heap.size w w') : NumsAt w' A g L f := fun hL => by
  obtain ⟨h1, h2, h3⟩ := h hL
  exact ⟨h1, Nat.lt_of_lt_of_le h2 hb.size, fun j hj => (hb.cell (p := ⟨g, j, none⟩) h2).trans (h3 j hj)⟩

/-- what the program's Windows answers, whatever the width -/
def WinAll (w : World) (n : Nat) (x : Int) (bs : List UInt8) (e : Ending) (w' : World) : Prop :=
  ∃ (A : Option Addr) (g : Nat), e = .returned (.slice A (cntW n x) (cntW n x)) ∧ w.heap.size ≤ g ∧ (0 < cntW n x → A = some ⟨g, 0, none⟩ ∧ Nums w' g (cntW n x) (winF bs x)) ∧ Below w.heap.size w w'
theorem windows_all (A : Option Addr) (n c : Nat) (x : Int) (bs : List UInt8) (w : World) (hB : Bts w A n bs) (hn : n ≤ 4096) (hnc : n ≤ c) (hc : c ≤ maxLen) :
    Calls Try.prog 18 #[.slice A n c, .int .i64 x] w (WinAll w n x bs) := by
  by_cases hx : 1 ≤ x ∧ x ≤ (n : Int)
  · have e1 : x = ((x.toNat : Nat) : Int) := by omega
    have h := windows_yes A n c x.toNat bs w hB hn hnc hc (by omega) (by omega)
    rw [← e1] at h
    refine h.mono fun e w' ⟨g, he, hg, hN, hb⟩ => ?_
    have ec : cntW n x = n - x.toNat + 1 := if_pos hx
    exact ⟨_, g, by rw [ec]; exact he, hg, fun _ => ⟨rfl, by rw [ec]; exact hN⟩, hb⟩
  · refine (windows_no A n c x w (by omega)).mono fun e w' ⟨he, hw⟩ => ?_
    subst hw
    have ec : cntW n x = 0 := if_neg hx
    exact ⟨none, w.heap.size, by rw [ec]; exact he, Nat.le_refl _, fun h => by rw [ec] at h; omega, Below.refl _ _⟩

def winL (bs : List UInt8) (q k : Nat) : List Nat := (List.range k).map fun j => sumV ((bs.drop j).take q)
theorem winL_len (bs : List UInt8) (q k : Nat) : (winL bs q k).length = k := by simp [winL]
theorem winL_at (bs : List UInt8) (q k j : Nat) (hj : j < k) : (winL bs q k)[j]? = some (sumV ((bs.drop j).take q)) := by
  unfold winL
  rw [List.getElem?_map, List.getElem?_range hj]
  rfl
theorem winL_succ (bs : List UInt8) (q k : Nat) : winL bs q (k + 1) = winL bs q k ++ [sumV ((bs.drop k).take q)] := by
  unfold winL
  rw [List.range_succ, List.map_append]
  rfl

/-- what the document's Windows answers, whatever the width -/
def RefAll (w : World) (n : Nat) (x : Int) (bs : List UInt8) (e : Ending) (w' : World) : Prop :=
  ∃ (A : Option Addr) (g c : Nat), e = .returned (.slice A (cntW n x) c) ∧ NumsAt w' A g (cntW n x) (winF bs x) ∧ Below w.heap.size w w'
set_option maxHeartbeats 800000 in
theorem refWindows_all (A : Option Addr) (n c : Nat) (x : Int) (bs : List UInt8) (w : World) (hB : Bts w A n bs) (hn : n ≤ 4096) (hnc : n ≤ c) (hc : c ≤ maxLen) (hx63 : x ≤ 9223372036854775807) :
    Calls Try.prog 17 #[.slice A n c, .int .i64 x] w (RefAll w n x bs) := by
  unfold maxLen at hc
  by_cases h1 : x < 1
  · have ec : cntW n x = 0 := if_neg (by omega)
    have hfin : RefAll w n x bs (.returned (.slice none 0 0)) w := ⟨none, 0, 0, by rw [ec], fun h => by rw [ec] at h; omega, Below.refl _ _⟩
    have hf := Lib.hid hfin
    clear hfin ec hB
    have h1' : decide (1 ≤ x) = false := decide_eq_false (by omega)
    go_enter Try.func17, Try.ntmps17
    go_wp2_with fail
    refine wp_loop_rounds 1 ?_
    rw [rounds_succ]
    go_wp2_with fail
    go_ret
    exact hf.out
  by_cases h2 : (n : Int) < x
  · have ec : cntW n x = 0 := if_neg (by omega)
    have hfin : RefAll w n x bs (.returned (.slice none 0 0)) w := ⟨none, 0, 0, by rw [ec], fun h => by rw [ec] at h; omega, Below.refl _ _⟩
    have hf := Lib.hid hfin
    clear hfin ec hB
    go_enter Try.func17, Try.ntmps17
    go_wp2_with fail
    refine wp_loop_rounds 1 ?_
    rw [rounds_succ]
    go_wp2_with fail
    go_ret
    exact hf.out
  obtain ⟨q, rfl⟩ : ∃ q : Nat, x = (q : Int) := ⟨x.toNat, by omega⟩
  have ec : cntW n (q : Int) = n - q + 1 := by
    unfold cntW
    rw [if_pos (by omega), Int.toNat_natCast]
  have hB' := Lib.hid hB
  have l1 := Lib.hid hB.1
  have ec' := Lib.hid ec
  clear hB ec
  have hq1 : (1 : Int) ≤ (q : Int) := by omega
  have hqn : (q : Int) ≤ (n : Int) := by omega
  go_enter Try.func17, Try.ntmps17
  go_wp2_with fail
  go_loopw [5, 6] (fun v i wr => ∃ k : Nat, k ≤ n - q + 1 ∧ i = .int .i64 (k : Int) ∧ OwnU w.heap.size wr v (winL bs q k) ∧ Below w.heap.size w wr) (fun _ i _ => n + 1 - (intOf i).toNat)
  case atStart => exact ⟨0, Nat.zero_le _, rfl, OwnU.nil_ _ _, Below.refl _ _⟩
  case round =>
    obtain ⟨k, hk, rfl, hown, hbel⟩ := hrel
    by_cases hlt : k < n - q + 1
    · have hkq : k + q ≤ n := by omega
      have hBr := Lib.hid ((hB'.out.below hbel).cut (lo := k) (m := q) hkq)
      have hU := Lib.hid (winL_succ bs q k)
      have hul := Lib.hid (winL_len bs q k)
      have hown' := Lib.hid hown
      have hz := hbel.size
      have hck : ¬ c = k := by omega
      have e9 := Lib.hid (show k + q - k = q by omega)
      clear hown
      go_wp2_with fail
      refine (refSum_any _ _ _ ((bs.drop k).take q) wr hBr.out (by unfold maxLen; omega)).mono ?_
      rintro e w' ⟨rfl, rfl⟩
      go_wp2_with (at_builtin; refine wpList_append_num (w := wr) rfl (.tmp 19) (.tmp 27) rfl w.heap.size _ (winL bs q k) (sumV ((bs.drop k).take q)) rfl hown'.out rfl (by rw [hul.out]; omega) hz ?_; intro v2 w2 ho2 hg2)
      have hb2 : Below w.heap.size w w2 := Below.grown (hbel.alloc hz _) hg2 (by simp; omega) (fun j hj => (OwnU.lt hown'.out j hj).1)
      go_roundw
      case rel => exact ⟨k + 1, by omega, by go_num, by rw [hU.out]; exact ho2, hb2⟩
      case measure => simp [intOf]; omega
    · obtain rfl : k = n - q + 1 := by omega
      obtain ⟨g, L, cc, rfl, hL, _, hgb, hgl, hcell⟩ := hown.shape (by rw [winL_len]; omega)
      rw [winL_len] at hL
      have hfin : RefAll w n (q : Int) bs (.returned (.slice (some ⟨g, 0, none⟩) L cc)) wr := by
        refine ⟨_, g, cc, by rw [ec'.out, hL], fun _ => ⟨rfl, hgl, fun j hj => ?_⟩, hbel⟩
        unfold winF
        rw [Int.toNat_natCast]
        exact hcell j _ (winL_at bs q _ j (by rw [← ec'.out]; exact hj))
      have hf := Lib.hid hfin
      clear hfin hcell hown hL
      go_wp2_with fail
      go_ret
      exact hf.out

set_option maxHeartbeats 800000 in
/-- two rows that read the same are the same -/
theorem same_yes (A1 A2 : Option Addr) (g1 g2 L c1 c2 : Nat) (f : Nat → Nat) (w : World) (h1 : NumsAt w A1 g1 L f) (h2 : NumsAt w A2 g2 L f) (hL : L ≤ 4096) :
    Calls Try.prog 19 #[.slice A1 L c1, .slice A2 L c2] w fun e w' => e = .returned (.bool true) ∧ ∃ nd, w' = w.drewN nd := by
  have h1' := Lib.hid h1
  have h2' := Lib.hid h2
  clear h1 h2
  have hne : ((L : Int) != (L : Int)) = false := by rw [bne_self_eq_false]
  go_enter Try.func19, Try.ntmps19
  go_wp2_with fail
  go_loopw [5] (fun i wr => ∃ k : Nat, k ≤ L ∧ i = .int .i64 (k : Int) ∧ ∃ nd, wr = w.drewN nd) (fun i _ => L - (intOf i).toNat)
  case atStart => exact ⟨0, Nat.zero_le _, rfl, 0, rfl⟩
  case round =>
    obtain ⟨k, hk, rfl, nd, rfl⟩ := hrel
    by_cases hlt : k < L
    · obtain ⟨rfl, _, ha⟩ := h1'.out (by omega)
      obtain ⟨rfl, _, hb⟩ := h2'.out (by omega)
      have d1 := ha k hlt
      have d2 := hb k hlt
      have j1 : (0 : Int) ≤ (k : Int) := by omega
      have j2 : (k : Int) < (L : Int) := by omega
      generalize f k = s at *
      clear ha hb
      go_wp2_with fail
      go_quiet (fail)
      go_wp2_with fail
      go_roundw
      case rel => exact ⟨k + 1, by omega, by go_num, _, rfl⟩
      case measure => simp [intOf]; omega
    · obtain rfl : L = k := by omega
      go_wp2_with fail
      go_ret
      exact ⟨rfl, nd, rfl⟩
end Go.Proofs.Ytkfggbafgjephaa
