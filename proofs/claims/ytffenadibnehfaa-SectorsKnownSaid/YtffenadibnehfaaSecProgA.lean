/- The program's disk in memory, and its calls that touch neither maps nor writes. -/
import Derived.Test.YtffenadibnehfaaSecMap
import Derived.Test.YtffenadibnehfaaSecLawC
namespace Go.Proofs.Ytffenadibnehfaa
open Go.RowKit

/-- what the maps read as behind k writes -/
def mapV (d : RD) (k : Nat) : Nat → List UInt8 := fun i => if i < d.base.length then atV d.base d.wr i k else zsec
def wroCells : List (Nat × List UInt8) → List Value
  | [] => []
  | x :: r => .int .i64 (x.1 : Int) :: (x.2.map byteV ++ wroCells r)
theorem wroCells_append : ∀ l m : List (Nat × List UInt8), wroCells (l ++ m) = wroCells l ++ wroCells m
  | [], _ => rfl
  | x :: l, m => by simp [wroCells, wroCells_append l m]
structure Good (d : RD) : Prop where
  sectors : d.base.length ≤ 16384
  base : ∀ s ∈ d.base, s.length = 128
  at_ : ∀ x ∈ d.wr, x.1 < d.base.length
  what : ∀ x ∈ d.wr, x.2.length = 128
  left : d.armed = true → 0 ≤ d.left
def diskCells (d : RD) (bb nb : Nat) (lv : Value) : Array Value :=
  #[.int .i64 (d.base.length : Int), .map (some bb), .map (some nb), lv, .bool d.gone, .bool d.armed, .int .i64 d.left]
/-- the program's disk at block p, by its maps and its writes -/
structure PDat (w : World) (S : Nat → Prop) (B p : Nat) (d : RD) (bb nb : Nat) (lv : Value) : Prop where
  stands : ∀ k, S k ↔ (k = p ∨ k = bb ∨ k = nb ∨ lv.ownBlock = some k)
  lowP : B ≤ p
  lowB : B ≤ bb
  lowN : B ≤ nb
  ne : bb ≠ nb
  good : Good d
  disk : w.heap[p]? = some (.cells (diskCells d bb nb lv) 49 (0, 0))
  base : SMap w bb d.base.length (mapV d 0)
  now : SMap w nb d.base.length (mapV d d.wr.length)
  row : w.ownsRow B 58 129 lv d.wr.length (wroCells d.wr)
def PD (w : World) (S : Nat → Prop) (B p : Nat) (d : RD) : Prop := ∃ bb nb lv, PDat w S B p d bb nb lv
section
variable {w w' : World} {S : Nat → Prop} {B p : Nat} {d d' : RD} {bb nb : Nat} {lv : Value}
theorem PDat.lt (h : PDat w S B p d bb nb lv) : p < w.heap.size := (Array.getElem?_eq_some_iff.1 h.disk).1
theorem PDat.ne_b (h : PDat w S B p d bb nb lv) : bb ≠ p := fun e => h.base.not_cells (by rw [e]; exact h.disk)
theorem PDat.ne_n (h : PDat w S B p d bb nb lv) : nb ≠ p := fun e => h.now.not_cells (by rw [e]; exact h.disk)
theorem PDat.row_at (h : PDat w S B p d bb nb lv) {k : Nat} (hk : lv.ownBlock = some k) : B ≤ k ∧ ∃ cs, w.heap[k]? = some (.cells cs 58 (0, 0)) := by
  rcases h.row.2 with ⟨rfl, _⟩ | ⟨g, cap, cur, rfl, hb, hg, _⟩
  · cases hk
  · have : g = k := by simpa [Value.ownBlock] using hk
    subst this
    exact ⟨hb, cur, hg⟩
theorem PDat.row_ne (h : PDat w S B p d bb nb lv) {k : Nat} (hk : lv.ownBlock = some k) : k ≠ p ∧ k ≠ bb ∧ k ≠ nb := by
  obtain ⟨_, cs, hc⟩ := h.row_at hk
  refine ⟨fun e => ?_, fun e => h.base.not_cells (e ▸ hc), fun e => h.now.not_cells (e ▸ hc)⟩
  have hd := h.disk
  rw [← e, hc] at hd
  injection hd with hd
  injection hd with _ h2 _
  exact absurd h2 (by decide)
theorem PDat.all_lt (h : PDat w S B p d bb nb lv) : ∀ k, S k → k < w.heap.size := fun k hk => by
  rcases (h.stands k).1 hk with e | e | e | e
  · rw [e]; exact h.lt
  · rw [e]; exact h.base.lt
  · rw [e]; exact h.now.lt
  · obtain ⟨_, cs, hc⟩ := h.row_at e
    exact (Array.getElem?_eq_some_iff.1 hc).1
theorem PDat.all_low (h : PDat w S B p d bb nb lv) : ∀ k, S k → B ≤ k := fun k hk => by
  rcases (h.stands k).1 hk with e | e | e | e
  · rw [e]; exact h.lowP
  · rw [e]; exact h.lowB
  · rw [e]; exact h.lowN
  · exact (h.row_at e).1
theorem PDat.apart (h : PDat w S B p d bb nb lv) : ∀ k, S k → ¬ Typed refTs w k := fun k hk ⟨cs, t, fr, hh, ht⟩ => by
  rcases (h.stands k).1 hk with e | e | e | e
  · subst e
    rw [h.disk] at hh
    injection hh with hh
    injection hh with _ h2 _
    subst h2
    revert ht
    decide
  · subst e; exact h.base.not_cells hh
  · subst e; exact h.now.not_cells hh
  · obtain ⟨_, cs', hc⟩ := h.row_at e
    rw [hc] at hh
    injection hh with hh
    injection hh with _ h2 _
    subst h2
    revert ht
    decide
theorem PDat.kept (h : PDat w S B p d bb nb lv) (hk : ∀ k, S k → w'.heap[k]? = w.heap[k]?) : PDat w' S B p d bb nb lv :=
  { h with
    disk := (hk p ((h.stands p).2 (.inl rfl))).trans h.disk
    base := h.base.kept (hk bb ((h.stands bb).2 (.inr (.inl rfl))))
    now := h.now.kept (hk nb ((h.stands nb).2 (.inr (.inr (.inl rfl)))))
    row := own_kept h.row fun k e => hk k ((h.stands k).2 (.inr (.inr (.inr e)))) }
theorem PDat.below (h : PDat w S B p d bb nb lv) (hb : Below w.heap.size w w') : PDat w' S B p d bb nb lv := h.kept fun k hk => hb.block k (h.all_lt k hk)
/-- a store into the disk's own block that turns its switches alone -/
theorem PDat.store (h : PDat w S B p d bb nb lv) (j : Nat) (v : Value) (hb : d'.base = d.base) (hw : d'.wr = d.wr) (hl : d'.armed = true → 0 ≤ d'.left) (hc : (diskCells d bb nb lv).setIfInBounds j v = diskCells d' bb nb lv) :
    PDat (w.setCell ⟨p, j, none⟩ v) S B p d' bb nb lv ∧ FrS (fun k => k = p) B w (w.setCell ⟨p, j, none⟩ v) := by
  have hm : ∀ k, mapV d' k = mapV d k := fun k => by unfold mapV; rw [hb, hw]
  refine ⟨{ stands := h.stands, lowP := h.lowP, lowB := h.lowB, lowN := h.lowN, ne := h.ne, good := ⟨by rw [hb]; exact h.good.sectors, by rw [hb]; exact h.good.base, by rw [hb, hw]; exact h.good.at_, by rw [hw]; exact h.good.what, hl⟩,
            disk := by rw [heap_setCell_same w p j _ _ v h.disk, hc],
            base := by rw [hb, hm]; exact h.base.kept (heap_setCell_other w _ _ v h.ne_b),
            now := by rw [hb, hw, hm]; exact h.now.kept (heap_setCell_other w _ _ v h.ne_n),
            row := by rw [hw]; exact own_kept h.row fun k e => heap_setCell_other w _ _ v (h.row_ne e).1 }, rfl, rfl, rfl, by simp, fun k _ hk => heap_setCell_other w _ _ v fun e => hk ⟨e, by rw [show k = p from e]; exact h.lowP⟩⟩
theorem FrS.trans {w'' : World} (h : FrS S B w w') (k : FrS S B w' w'') : FrS S B w w'' :=
  ⟨k.os.trans h.os, k.tape.trans h.tape, k.output.trans h.output, Nat.le_trans h.size k.size, fun i hi hn => (k.block i (Nat.lt_of_lt_of_le hi h.size) hn).trans (h.block i hi hn)⟩
theorem FrS.widen {S' : Nat → Prop} (h : FrS S B w w') (hs : ∀ k, S k → S' k) : FrS S' B w w' := ⟨h.os, h.tape, h.output, h.size, fun k hk hn => h.block k hk fun e => hn ⟨hs k e.1, e.2⟩⟩
theorem FrS.rfl_ : FrS S B w w := ⟨rfl, rfl, rfl, Nat.le_refl _, fun _ _ _ => rfl⟩
end

theorem pwrong_any {w : World} {S : Nat → Prop} {B p : Nat} {d : RD} {bb nb : Nat} {lv : Value} (h : PDat w S B p d bb nb lv) (i : Int) :
    Calls Try.prog 35 #[.pointer (some ⟨p, 0, none⟩), .int .i64 i] w fun e w' => e = .returned (.int .i64 (askedV d i)) ∧ w = w' := by
  have c0 := cell_of_row w p 0 _ _ _ h.disk
  have c4 := cell_of_row w p 4 _ _ _ h.disk
  unfold diskCells at c0 c4
  unfold askedV
  clear h
  cases hg : d.gone with
  | true =>
    rw [hg] at c4
    simp at c4
    clear hg
    go_enter Try.func35, Try.ntmps35
    go_wp2_with fail
    go_ret
    exact ⟨rfl, rfl⟩
  | false =>
    rw [hg] at c4
    simp at c0 c4
    clear hg
    by_cases h1 : i < 0
    · go_enter Try.func35, Try.ntmps35
      go_wp2_with fail
      go_ret
      exact ⟨by simp, rfl⟩
    · by_cases h2 : (d.base.length : Int) ≤ i
      · go_enter Try.func35, Try.ntmps35
        go_wp2_with fail
        go_ret
        exact ⟨by simp, rfl⟩
      · go_enter Try.func35, Try.ntmps35
        go_wp2_with fail
        go_ret
        exact ⟨by simp, rfl⟩
theorem psectors_any {w : World} {S : Nat → Prop} {B p : Nat} {d : RD} {bb nb : Nat} {lv : Value} (h : PDat w S B p d bb nb lv) :
    Calls Try.prog 24 #[.pointer (some ⟨p, 0, none⟩)] w fun e w' => e = .returned (.int .i64 (d.base.length : Int)) ∧ w = w' := by
  have c0 := cell_of_row w p 0 _ _ _ h.disk
  unfold diskCells at c0
  simp at c0
  clear h
  go_enter Try.func24, Try.ntmps24
  go_wp2_with fail
  go_ret
  exact ⟨rfl, rfl⟩
theorem pwrites_any {w : World} {S : Nat → Prop} {B p : Nat} {d : RD} {bb nb : Nat} {lv : Value} (h : PDat w S B p d bb nb lv) :
    Calls Try.prog 17 #[.pointer (some ⟨p, 0, none⟩)] w fun e w' => e = .returned (.int .i64 (d.wr.length : Int)) ∧ w = w' := by
  have c3 := cell_of_row w p 3 _ _ _ h.disk
  obtain ⟨A, c, rfl, _⟩ := own_form h.row
  unfold diskCells at c3
  simp at c3
  clear h
  go_enter Try.func17, Try.ntmps17
  go_wp2_with fail
  go_ret
  exact ⟨rfl, rfl⟩
theorem poff_any {w : World} {S : Nat → Prop} {B p : Nat} {d : RD} {bb nb : Nat} {lv : Value} (h : PDat w S B p d bb nb lv) :
    Calls Try.prog 23 #[.pointer (some ⟨p, 0, none⟩)] w fun e w' => e = .returned (.bool d.gone) ∧ w = w' := by
  have c4 := cell_of_row w p 4 _ _ _ h.disk
  unfold diskCells at c4
  simp at c4
  clear h
  go_enter Try.func23, Try.ntmps23
  go_wp2_with fail
  go_ret
  exact ⟨rfl, rfl⟩
theorem pturn_any {w : World} {S : Nat → Prop} {B p : Nat} {d : RD} {bb nb : Nat} {lv : Value} (h : PDat w S B p d bb nb lv) (off : Bool) :
    Calls Try.prog 37 #[.pointer (some ⟨p, 0, none⟩), .bool off] w fun e w' => e = .returned (.tuple #[]) ∧ PDat w' S B p { d with armed := false, left := d.left, gone := off } bb nb lv ∧ FrS (fun k => k = p) B w w' := by
  have c4 := cell_of_row w p 4 _ _ _ h.disk
  have c5 := cell_of_row w p 5 _ _ _ h.disk
  have f4 := frozen_of_row w p 4 _ _ h.disk
  have f5 := frozen_of_row w p 5 _ _ h.disk
  unfold diskCells at c4 c5
  simp at c4 c5
  have s1 := h.store (d' := { d with gone := off }) 4 (.bool off) rfl rfl h.good.left (by simp [diskCells])
  have s2 := s1.1.store (d' := { d with armed := false, left := d.left, gone := off }) 5 (.bool false) rfl rfl (fun e => by cases e) (by simp [diskCells])
  have hfin := Lib.hid (And.intro s2.1 (s1.2.trans s2.2))
  clear h s1 s2
  go_enter Try.func37, Try.ntmps37
  go_wp2_with fail
  go_end0
  exact ⟨rfl, hfin.out.1, hfin.out.2⟩
theorem pcrash_any {w : World} {S : Nat → Prop} {B p : Nat} {d : RD} {bb nb : Nat} {lv : Value} (h : PDat w S B p d bb nb lv) :
    Calls Try.prog 20 #[.pointer (some ⟨p, 0, none⟩)] w fun e w' => e = .returned (.tuple #[]) ∧ PDat w' S B p { d with armed := false, left := d.left, gone := true } bb nb lv ∧ FrS (fun k => k = p) B w w' := by
  have h' := Lib.hid h
  clear h
  go_enter Try.func20, Try.ntmps20
  go_wp2_with fail
  refine (pturn_any h'.out true).mono ?_
  rintro e w' ⟨rfl, h1, h2⟩
  have h3 := Lib.hid (And.intro h1 h2)
  clear h1 h2
  go_wp2_with fail
  go_end0
  exact ⟨rfl, h3.out⟩
theorem pon_any {w : World} {S : Nat → Prop} {B p : Nat} {d : RD} {bb nb : Nat} {lv : Value} (h : PDat w S B p d bb nb lv) :
    Calls Try.prog 21 #[.pointer (some ⟨p, 0, none⟩)] w fun e w' => e = .returned (.tuple #[]) ∧ PDat w' S B p { d with armed := false, left := d.left, gone := false } bb nb lv ∧ FrS (fun k => k = p) B w w' := by
  have h' := Lib.hid h
  clear h
  go_enter Try.func21, Try.ntmps21
  go_wp2_with fail
  refine (pturn_any h'.out false).mono ?_
  rintro e w' ⟨rfl, h1, h2⟩
  have h3 := Lib.hid (And.intro h1 h2)
  clear h1 h2
  go_wp2_with fail
  go_end0
  exact ⟨rfl, h3.out⟩
theorem pfail_any {w : World} {S : Nat → Prop} {B p : Nat} {d : RD} {bb nb : Nat} {lv : Value} (h : PDat w S B p d bb nb lv) (n : Int) :
    Calls Try.prog 19 #[.pointer (some ⟨p, 0, none⟩), .int .i64 n] w fun e w' => e = .returned (.tuple #[]) ∧ PDat w' S B p { d with armed := decide (0 ≤ n), left := n } bb nb lv ∧ FrS S B w w' := by
  have c5 := cell_of_row w p 5 _ _ _ h.disk
  have c6 := cell_of_row w p 6 _ _ _ h.disk
  have f5 := frozen_of_row w p 5 _ _ h.disk
  have f6 := frozen_of_row w p 6 _ _ h.disk
  unfold diskCells at c5 c6
  simp at c5 c6
  have hg := h.good.left
  have hfin : PDat ((w.setCell ⟨p, 5, none⟩ (.bool (decide (0 ≤ n)))).setCell ⟨p, 6, none⟩ (.int .i64 n)) S B p { d with armed := decide (0 ≤ n), left := n } bb nb lv ∧ FrS S B w ((w.setCell ⟨p, 5, none⟩ (.bool (decide (0 ≤ n)))).setCell ⟨p, 6, none⟩ (.int .i64 n)) := by
    have s0 := h.store (d' := { d with armed := false }) 5 (.bool false) rfl rfl (fun e => by cases e) (by simp [diskCells])
    refine ⟨?_, ?_⟩
    · have hd0 : ((w.setCell ⟨p, 5, none⟩ (.bool (decide (0 ≤ n)))).setCell ⟨p, 6, none⟩ (.int .i64 n)).heap[p]? = some (.cells (diskCells { d with armed := decide (0 ≤ n), left := n } bb nb lv) 49 (0, 0)) := by
        rw [heap_setCell_same _ p 6 _ _ _ (heap_setCell_same w p 5 _ _ _ h.disk)]
        simp [diskCells]
      have hk : ∀ k, k ≠ p → ((w.setCell ⟨p, 5, none⟩ (.bool (decide (0 ≤ n)))).setCell ⟨p, 6, none⟩ (.int .i64 n)).heap[k]? = w.heap[k]? := fun k hk => (heap_setCell_other _ _ k _ hk).trans (heap_setCell_other w _ k _ hk)
      exact { stands := h.stands, lowP := h.lowP, lowB := h.lowB, lowN := h.lowN, ne := h.ne, good := ⟨h.good.sectors, h.good.base, h.good.at_, h.good.what, fun e => of_decide_eq_true e⟩, disk := hd0,
              base := h.base.kept (hk _ h.ne_b), now := h.now.kept (hk _ h.ne_n), row := own_kept h.row fun k e => hk k (h.row_ne e).1 }
    · exact ⟨rfl, rfl, rfl, by simp, fun k _ hk => (heap_setCell_other _ _ k _ (fun e => hk ⟨(h.stands k).2 (.inl e), by rw [show k = p from e]; exact h.lowP⟩)).trans (heap_setCell_other w _ k _ (fun e => hk ⟨(h.stands k).2 (.inl e), by rw [show k = p from e]; exact h.lowP⟩))⟩
  have hfin' := Lib.hid hfin
  clear h hfin hg
  go_enter Try.func19, Try.ntmps19
  go_wp2_with fail
  go_end0
  exact ⟨rfl, hfin'.out.1, hfin'.out.2⟩
/-- what powerGoes answers, and the disk behind it -/
def powerV (d : RD) : Bool × RD := if d.armed = true ∧ d.left = 0 then (true, { d with armed := false, left := d.left, gone := true }) else (false, takenIn d)
theorem ppower_any {w : World} {S : Nat → Prop} {B p : Nat} {d : RD} {bb nb : Nat} {lv : Value} (h : PDat w S B p d bb nb lv) (h63 : d.left ≤ 9223372036854775807) :
    Calls Try.prog 36 #[.pointer (some ⟨p, 0, none⟩)] w fun e w' => e = .returned (.bool (powerV d).1) ∧ PDat w' S B p (powerV d).2 bb nb lv ∧ FrS (fun k => k = p) B w w' := by
  have h' := Lib.hid h
  have c5 := cell_of_row w p 5 _ _ _ h.disk
  have c6 := cell_of_row w p 6 _ _ _ h.disk
  have f6 := frozen_of_row w p 6 _ _ h.disk
  unfold diskCells at c5 c6
  simp at c5 c6
  cases ha : d.armed with
  | false =>
    have hv : powerV d = (false, d) := by unfold powerV takenIn; simp [ha]
    have hv' := Lib.hid hv
    rw [ha] at c5
    clear ha hv h
    go_enter Try.func36, Try.ntmps36
    go_wp2_with fail
    go_ret
    exact ⟨by rw [hv'.out]; rfl, by rw [hv'.out]; exact h'.out, FrS.rfl_⟩
  | true =>
    by_cases h0 : d.left = 0
    · have hv : powerV d = (true, { d with armed := false, left := d.left, gone := true }) := by unfold powerV; simp [ha, h0]
      have hv' := Lib.hid hv
      rw [ha] at c5
      rw [h0] at c6
      clear ha hv h h0
      go_enter Try.func36, Try.ntmps36
      go_wp2_with fail
      refine (pcrash_any h'.out).mono ?_
      rintro e w' ⟨rfl, h1, h2⟩
      have h3 := Lib.hid (And.intro h1 h2)
      clear h1 h2
      go_wp2_with fail
      go_ret
      exact ⟨by rw [hv'.out]; rfl, by rw [hv'.out]; exact h3.out.1, h3.out.2⟩
    · have hv : powerV d = (false, { d with left := d.left - 1 }) := by unfold powerV takenIn; simp [ha, h0]
      have hv' := Lib.hid hv
      have hl := h.good.left ha
      have s1 := Lib.hid (h.store (d' := { d with left := d.left - 1 }) 6 (.int .i64 (d.left - 1)) rfl rfl (fun _ => by show 0 ≤ d.left - 1; omega) (by simp [diskCells]))
      have t1 : (d.left == 0) = false := by rw [beq_eq_false_iff_ne]; exact h0
      rw [ha] at c5
      clear ha hv h h0
      go_enter Try.func36, Try.ntmps36
      go_wp2_with fail
      go_ret
      exact ⟨by rw [hv'.out]; rfl, by rw [hv'.out]; exact s1.out.1, s1.out.2⟩
end Go.Proofs.Ytffenadibnehfaa
