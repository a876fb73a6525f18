/- The chapter's examples, as the law asks for them. -/
import Derived.Test.YtiikakfdelkjhaaArnR
namespace Go.Proofs.Ytiikakfdelkjhaa.Arn
open Go.RowKit
set_option maxRecDepth 20000

def lblD (c : UInt8) : Dt := ⟨0, false, [c], [], []⟩
def exA0 : Av := newV (lblD 114)
def exA1 : Av := addV exA0 0 0 (lblD 97)
def exA2 : Av := addV exA1 0 1 (lblD 98)
def exA3 : Av := addV exA2 1 0 (lblD 120)
def exA4 : Av := moveV exA3 2 0 1 1 0
def exA5 : Av := removeV exA4 0 0 [1, 2, 3]
def exA6 : Av := addV exA5 0 0 (lblD 99)
theorem ex1 : addR exA0 0 0 (lblD 97) = (1, exA1) ∧ addE exA0 0 0 = 0 := ⟨(if_pos (show addE exA0 0 0 = 0 from rfl)).trans rfl, rfl⟩
theorem ex2 : addR exA1 0 1 (lblD 98) = (2, exA2) ∧ addE exA1 0 1 = 0 := ⟨(if_pos (show addE exA1 0 1 = 0 from rfl)).trans rfl, rfl⟩
theorem ex3 : addR exA2 1 0 (lblD 120) = (3, exA3) ∧ addE exA2 1 0 = 0 := ⟨(if_pos (show addE exA2 1 0 = 0 from rfl)).trans rfl, rfl⟩
theorem wf0 : WF exA0 := WF.new _
theorem wf1 : WF exA1 := by have := (addR_wf wf0 0 0 (lblD 97)).1; rw [ex1.1] at this; exact this
theorem wf2 : WF exA2 := by have := (addR_wf wf1 0 1 (lblD 98)).1; rw [ex2.1] at this; exact this
theorem wf3 : WF exA3 := by have := (addR_wf wf2 1 0 (lblD 120)).1; rw [ex3.1] at this; exact this
theorem one_idx {l : List Nat} {k s : Nat} (hn : l.Nodup) (h : l[k]? = some s) : idxV l s = k := by
  have h2 := idxV_spec (List.mem_of_getElem? h)
  rcases Nat.lt_trichotomy (idxV l s) k with e | e | e
  · exact absurd h2 (nodup_idx hn h _ e)
  · exact e
  · exact absurd h (nodup_idx hn h2 _ e)
theorem ex4 : moveR exA3 2 1 0 = exA4 ∧ moveE exA3 2 1 0 = 0 := by
  have hd : ¬ Dn exA3.par 2 1 := by
    intro h
    cases h with
    | @step _ p hp h =>
      have h1 : exA3.par 1 = 0 := rfl
      have : p = 0 := by omega
      subst this
      cases h with
      | @step _ p hp h =>
        have h1 : exA3.par 0 = -1 := rfl
        omega
  have he : moveE exA3 ((2 : Nat) : Int) ((1 : Nat) : Int) 0 = 0 := (moveE_gap ⟨rfl, rfl⟩ (by decide) hd).trans rfl
  refine ⟨?_, he⟩
  show (if moveE exA3 ((2 : Nat) : Int) ((1 : Nat) : Int) 0 = 0 then _ else _) = _
  rw [if_pos he]
  show moveV exA3 2 0 (idxV [1, 2] 2) 1 0 = _
  rw [one_idx (k := 1) (by decide) rfl]
  rfl
theorem wf4 : WF exA4 := by have := (moveR_wf wf3 2 1 0).1; rw [ex4.1] at this; exact this
theorem ex4b : moveE exA4 1 2 0 = 84 := moveE_cycle (s := 1) (p := 2) ⟨rfl, rfl⟩ (by decide) (.step (p := 1) rfl .refl)
theorem ex4c : moveR exA4 1 2 0 = exA4 := if_neg (by rw [ex4b]; decide)
theorem ex5 : removeR exA4 1 = exA5 ∧ removeE exA4 1 = 0 := by
  have he : removeE exA4 1 = 0 := rfl
  refine ⟨?_, he⟩
  have hp : preV exA4 1 = [1, 2, 3] := (preV_spec wf4 (s := 1) rfl).unique (.cons (k := 1) (r := []) (l1 := [2, 3]) (l2 := []) (.cons (k := 2) (r := [3]) (l1 := []) (l2 := [3]) .nil (.cons (k := 3) (r := []) (l1 := []) (l2 := []) .nil .nil)) .nil)
  show (if removeE exA4 1 = 0 then _ else _) = _
  rw [if_pos he]
  show removeV exA4 0 (idxV [1] 1) (preV exA4 1) = _
  rw [one_idx (k := 0) (by decide) rfl, hp]
  rfl
theorem wf5 : WF exA5 := by have := (removeR_wf wf4 1).1; rw [ex5.1] at this; exact this
theorem ex6 : addR exA5 0 0 (lblD 99) = (3, exA6) ∧ addE exA5 0 0 = 0 := ⟨(if_pos (show addE exA5 0 0 = 0 from rfl)).trans rfl, rfl⟩
theorem wf6 : WF exA6 := by have := (addR_wf wf5 0 0 (lblD 99)).1; rw [ex6.1] at this; exact this
theorem lbl_ok (w : World) (c : UInt8) : DatOk (fun _ => False) w (lblD c) none 0 0 :=
  ⟨by show (0 : Nat) < _; omega, by show 1 ≤ maxLen; unfold maxLen; omega, Nat.zero_le _, ⟨rfl, fun q x h => by simp [lblD] at h⟩, Nat.le_refl _, Nat.zero_le _, fun _ => rfl, Nat.zero_le _⟩
theorem lbl_val (c : UInt8) : datV (lblD c) none 0 0 = .agg #[.int .u64 0, .bool false, .string ⟨#[c]⟩, .slice none 0 0, .string ⟨#[]⟩] := rfl
abbrev Row := Option Addr × Nat × Nat × List Nat
/-- an arena over a world, with rows of numbers beside it -/
structure At (w0 : World) (P : Nat) (a : Av) (rows : List Row) (W : World) : Prop where
  arena : ∃ ow, PAr W ow P a ∧ (∀ k, k < w0.heap.size → ow k = .off) ∧ ∀ r ∈ rows, OwnN W (.slice r.1 r.2.1 r.2.2.1) r.2.2.2 ∧ ∀ ad, r.1 = some ad → ow ad.block = .off
  bel : Below w0.heap.size w0 W
section
variable {w0 W W' : World} {P : Nat} {a a' : Av} {rows : List Row}
theorem own_lt {A : Option Addr} {n c : Nat} {l : List Nat} (h : OwnN W (.slice A n c) l) : ∀ ad, A = some ad → ad.block < W.heap.size := fun ad e => by
  subst e
  exact (World.ownsRow.lt h ad.block rfl).2
theorem At.did (h : At w0 P a rows W) (hd : ∃ ow, PAr W ow P a ∧ (∀ k, k < w0.heap.size → ow k = .off) ∧ (∀ r ∈ rows, OwnN W (.slice r.1 r.2.1 r.2.2.1) r.2.2.2 ∧ ∀ ad, r.1 = some ad → ow ad.block = .off) ∧ Did W W' ow P a') : At w0 P a' rows W' := by
  have hb := h.bel
  obtain ⟨ow, hp, ho, hrows, ow', hp', hr, hf⟩ := hd
  refine ⟨⟨ow', hp', fun k hk => (hr k (Nat.lt_of_lt_of_le hk hb.size)).trans (ho k hk), fun r hrr => ?_⟩, hb.trans (hf.below (fun k hk => ?_) hb.size)⟩
  · obtain ⟨h1, h2⟩ := hrows r hrr
    have hl := own_lt h1
    exact ⟨h1.kept fun ad e => hf.block _ (hl ad e) (by rw [h2 ad e]; exact fun h => h), fun ad e => (hr _ (hl ad e)).trans (h2 ad e)⟩
  · rcases Nat.lt_or_ge k w0.heap.size with e | e
    · rw [ho k e] at hk; exact hk.elim
    · exact e
theorem At.below (h : At w0 P a rows W) (hb : Below W.heap.size W W') : At w0 P a rows W' := by
  obtain ⟨⟨ow, hp, ho, hrows⟩, hb0⟩ := h
  refine ⟨⟨ow, hp.below hb, ho, fun r hr => ?_⟩, hb0.trans (hb.mono hb0.size)⟩
  obtain ⟨h1, h2⟩ := hrows r hr
  exact ⟨h1.kept fun ad e => hb.block _ (own_lt h1 ad e), h2⟩
theorem At.row (h : At w0 P a rows W) {A : Option Addr} {n c : Nat} {l : List Nat} (ho : OwnN W (.slice A n c) l) (hn : ∀ ow, PAr W ow P a → ∀ ad, A = some ad → ow ad.block = .off) : At w0 P a ((A, n, c, l) :: rows) W := by
  obtain ⟨⟨ow, hp, h1, hrows⟩, hb0⟩ := h
  refine ⟨⟨ow, hp, h1, fun r hr => ?_⟩, hb0⟩
  rcases List.mem_cons.1 hr with rfl | hr
  · exact ⟨ho, hn ow hp⟩
  · exact hrows r hr
theorem At.got (h : At w0 P a rows W) {r : Row} (hr : r ∈ rows) : OwnN W (.slice r.1 r.2.1 r.2.2.1) r.2.2.2 := by
  obtain ⟨⟨_, _, _, hrows⟩, _⟩ := h
  exact (hrows r hr).1
theorem At.add (h : At w0 P a rows W) (hw : WF a) (hc : a.cnt < 100000) (p i : Int) (d : Dt) (dA : Option Addr) (dn dc : Nat) (hd : DatOk (fun _ => False) W d dA dn dc) :
    Calls Try.prog 23 #[.pointer (some ⟨P, 0, none⟩), .int .i64 p, .int .i64 i, datV d dA dn dc] W fun e W' => e = .returned (.tuple #[.int .i64 (addR a p i d).1, .int .i64 (addE a p i)]) ∧ At w0 P (addR a p i d).2 rows W' := by
  obtain ⟨ow, hp, ho, hrows⟩ := h.arena
  refine (add_any hp hw hc p i (fun _ => False) d dA dn dc hd (fun k h => h.elim) (fun k h => h.elim)).mono ?_
  rintro e W' ⟨rfl, hD⟩
  exact ⟨rfl, h.did ⟨ow, hp, ho, hrows, hD⟩⟩
theorem At.move (h : At w0 P a rows W) (hw : WF a) (hc : a.cnt < 100000) (s p i : Int) :
    Calls Try.prog 25 #[.pointer (some ⟨P, 0, none⟩), .int .i64 s, .int .i64 p, .int .i64 i] W fun e W' => e = .returned (.int .i64 (moveE a s p i)) ∧ At w0 P (moveR a s p i) rows W' := by
  obtain ⟨ow, hp, ho, hrows⟩ := h.arena
  refine (move_any hp hw hc s p i).mono ?_
  rintro e W' ⟨rfl, hD⟩
  exact ⟨rfl, h.did ⟨ow, hp, ho, hrows, hD⟩⟩
theorem At.remove (h : At w0 P a rows W) (hw : WF a) (hc : a.cnt < 100000) (s : Int) :
    Calls Try.prog 24 #[.pointer (some ⟨P, 0, none⟩), .int .i64 s] W fun e W' => e = .returned (.int .i64 (removeE a s)) ∧ At w0 P (removeR a s) rows W' := by
  obtain ⟨ow, hp, ho, hrows⟩ := h.arena
  refine (remove_any hp hw hc s).mono ?_
  rintro e W' ⟨rfl, hD⟩
  exact ⟨rfl, h.did ⟨ow, hp, ho, hrows, hD⟩⟩
theorem At.kids (h : At w0 P a rows W) (i : Int) : Calls Try.prog 19 #[.pointer (some ⟨P, 0, none⟩), .int .i64 i] W fun e W' => ∃ A c, e = .returned (.slice A (kidsI a i).length c) ∧ At w0 P a ((A, (kidsI a i).length, c, kidsI a i) :: rows) W' := by
  obtain ⟨ow, ⟨B, m, sv, sA, sc, fA, fc, hp⟩, ho, hrows⟩ := h.arena
  refine (kids_any hp i).mono ?_
  rintro e W' ⟨A, c, rfl, h1, h2, h3⟩
  refine ⟨A, c, rfl, ⟨⟨ow, PAr.below ⟨B, m, sv, sA, sc, fA, fc, hp⟩ h3, ho, fun r hr => ?_⟩, h.bel.trans (h3.mono h.bel.size)⟩⟩
  rcases List.mem_cons.1 hr with rfl | hr
  · refine ⟨h1, fun ad e => ?_⟩
    cases hc : ow ad.block with
    | off => rfl
    | _ => have h5 := hp.low ad.block (by rw [hc]; simp); have h6 := h2 ad e; omega
  · obtain ⟨g1, g2⟩ := hrows r hr
    exact ⟨g1.kept fun ad e => h3.block _ (own_lt g1 ad e), g2⟩
theorem At.free (h : At w0 P a rows W) : Calls Try.prog 21 #[.pointer (some ⟨P, 0, none⟩)] W fun e W' => ∃ A c, e = .returned (.slice A a.free.length c) ∧ At w0 P a ((A, a.free.length, c, a.free) :: rows) W' := by
  obtain ⟨ow, ⟨B, m, sv, sA, sc, fA, fc, hp⟩, ho, hrows⟩ := h.arena
  refine (free_any hp).mono ?_
  rintro e W' ⟨A, c, rfl, h1, h2, h3⟩
  refine ⟨A, c, rfl, ⟨⟨ow, PAr.below ⟨B, m, sv, sA, sc, fA, fc, hp⟩ h3, ho, fun r hr => ?_⟩, h.bel.trans (h3.mono h.bel.size)⟩⟩
  rcases List.mem_cons.1 hr with rfl | hr
  · refine ⟨h1, fun ad e => ?_⟩
    cases hc : ow ad.block with
    | off => rfl
    | _ => have h5 := hp.low ad.block (by rw [hc]; simp); have h6 := h2 ad e; omega
  · obtain ⟨g1, g2⟩ := hrows r hr
    exact ⟨g1.kept fun ad e => h3.block _ (own_lt g1 ad e), g2⟩
theorem At.parent (h : At w0 P a rows W) (i : Int) : Calls Try.prog 20 #[.pointer (some ⟨P, 0, none⟩), .int .i64 i] W fun e W' => e = .returned (.int .i64 (parI a i)) ∧ W = W' := by
  obtain ⟨ow, ⟨B, m, sv, sA, sc, fA, fc, hp⟩, ho, hrows⟩ := h.arena
  exact parent_any hp i
theorem At.slots (h : At w0 P a rows W) : Calls Try.prog 18 #[.pointer (some ⟨P, 0, none⟩)] W fun e W' => e = .returned (.int .i64 (a.cnt : Int)) ∧ W = W' := by
  obtain ⟨ow, ⟨B, m, sv, sA, sc, fA, fc, hp⟩, ho, hrows⟩ := h.arena
  exact slots_any hp
theorem At.whole (h : At w0 P a rows W) (hw : WF a) (hc : a.cnt ≤ 100000) : Calls Try.prog 17 #[.pointer (some ⟨P, 0, none⟩)] W fun e W' => e = .returned (.bool true) ∧ Below W.heap.size W W' := by
  obtain ⟨ow, hp, ho, hrows⟩ := h.arena
  exact whole_any hp hw hc
theorem At.walk (h : At w0 P a rows W) (hw : WF a) {A : Option Addr} {n c : Nat} {p : List Int} (hp : Its W A n p) (hn : n ≤ 1000000) : Calls Try.prog 15 #[.pointer (some ⟨P, 0, none⟩), .slice A n c] W fun e W' => e = .returned (walkA (walkV a p 0)) ∧ W = W' := by
  obtain ⟨ow, ⟨B, m, sv, sA, sc, fA, fc, hpa⟩, ho, hrows⟩ := h.arena
  exact walk_any hpa hw hp hn
theorem At.get (h : At w0 P a rows W) (i : Int) : Calls Try.prog 22 #[.pointer (some ⟨P, 0, none⟩), .int .i64 i] W fun e w' => ∃ A n c, e = .returned (.tuple #[datV (datI a i) A n c, .bool (liveI a i)]) ∧ DatOk (New W w') w' (datI a i) A n c ∧ Below W.heap.size W w' := by
  obtain ⟨ow, ⟨B, m, sv, sA, sc, fA, fc, hp⟩, ho, hrows⟩ := h.arena
  exact get_any hp i
end
set_option maxHeartbeats 8000000 in
theorem works_any (w : World) : Calls Try.prog 9 #[] w fun e w' => e = .returned (.bool true) ∧ Below w.heap.size w w' := by
  go_enter Try.func9, Try.ntmps9
  go_wp2_with fail
  refine (new_any w (fun _ => .off) (fun k h => absurd rfl h) (fun k h => h) (fun _ => False) (lblD 114) none 0 0 (lbl_ok _ _) (fun k h => h.elim)).mono ?_
  rintro e w0 ⟨P, ow0, rfl, hp0, hr0, hb0⟩
  have hA0 := Lib.hid (show At w P exA0 [] w0 from ⟨⟨ow0, hp0, hr0, fun r h => by cases h⟩, hb0⟩)
  clear hp0 hr0 hb0
  go_wp2_with fail
  refine (hA0.out.add wf0 (by decide) 0 0 (lblD 97) none 0 0 (lbl_ok _ _)).mono ?_
  rintro e w1 ⟨rfl, h1⟩
  rw [ex1.1] at h1
  rw [ex1.1, ex1.2]
  have hA1 := Lib.hid h1
  clear h1 hA0
  go_wp2_with fail
  refine (hA1.out.add wf1 (by decide) 0 1 (lblD 98) none 0 0 (lbl_ok _ _)).mono ?_
  rintro e w2 ⟨rfl, h1⟩
  rw [ex2.1] at h1
  rw [ex2.1, ex2.2]
  have hA2 := Lib.hid h1
  clear h1 hA1
  go_wp2_with fail
  refine (hA2.out.add wf2 (by decide) 1 0 (lblD 120) none 0 0 (lbl_ok _ _)).mono ?_
  rintro e w3 ⟨rfl, h1⟩
  rw [ex3.1] at h1
  rw [ex3.1, ex3.2]
  have hA3 := Lib.hid h1
  clear h1 hA2
  go_wp2_with fail
  refine (hA3.out.move wf3 (by decide) 2 1 0).mono ?_
  rintro e w4 ⟨rfl, h1⟩
  rw [ex4.1] at h1
  rw [ex4.2]
  have hA4 := Lib.hid h1
  clear h1 hA3
  go_wp2_with fail
  refine (hA4.out.kids 1).mono ?_
  rintro e w5 ⟨A5, c5, rfl, h1⟩
  rw [show kidsI exA4 1 = [2, 3] from rfl] at h1
  rw [show kidsI exA4 1 = [2, 3] from rfl]
  have hA5 := Lib.hid h1
  clear h1 hA4
  go_wp2_with fail
  refine (hA5.out.parent 2).mono ?_
  rintro e w6 ⟨rfl, rfl⟩
  rw [show parI exA4 2 = 1 from rfl]
  go_wp2_with fail
  refine (hA5.out.move wf4 (by decide) 1 2 0).mono ?_
  rintro e w7 ⟨rfl, h1⟩
  rw [ex4c] at h1
  rw [ex4b]
  have hA6 := Lib.hid h1
  clear h1 hA5
  go_wp2_with fail
  refine (hA6.out.remove wf4 (by decide) 1).mono ?_
  rintro e w8 ⟨rfl, h1⟩
  rw [ex5.1] at h1
  rw [ex5.2]
  have hA7 := Lib.hid h1
  clear h1 hA6
  go_wp2_with fail
  refine (hA7.out.free).mono ?_
  rintro e w9 ⟨A9, c9, rfl, h1⟩
  rw [show exA5.free = [1, 2, 3] from rfl] at h1
  rw [show exA5.free = [1, 2, 3] from rfl]
  have hA8 := Lib.hid h1
  clear h1 hA7
  go_wp2_with fail
  refine (hA8.out.add wf5 (by decide) 0 0 (lblD 99) none 0 0 (lbl_ok _ _)).mono ?_
  rintro e w10 ⟨rfl, h1⟩
  rw [ex6.1] at h1
  rw [ex6.1, ex6.2]
  have hA9 := Lib.hid h1
  clear h1 hA8
  have hal := Lib.hid (fun o => ((Below.refl w10.heap.size w10).alloc (Nat.le_refl _) o))
  go_wp2_with fail
  refine ((hA9.out.below (hal.out _)).walk wf6 (p := [0]) (Its.of_block (heap_alloc_new w10 _) rfl rfl) (by decide)).mono ?_
  rintro e w11 ⟨rfl, rfl⟩
  rw [show walkA (walkV exA6 [0] 0) = .tuple #[.int .i64 3, .bool true] from rfl]
  go_wp2_with fail
  refine ((hA9.out.below (hal.out _)).get 3).mono ?_
  rintro e w12 ⟨A12, n12, c12, rfl, -, hb12⟩
  rw [show datI exA6 3 = lblD 99 from rfl, show liveI exA6 3 = true from rfl, show datV (lblD 99) A12 n12 c12 = .agg #[.int .u64 0, .bool false, .string ⟨#[99]⟩, .slice A12 n12 c12, .string ⟨#[]⟩] from rfl]
  have hA12 := Lib.hid ((hA9.out.below (hal.out _)).below hb12)
  clear hb12 hA9
  go_wp2_with fail
  obtain ⟨Wd, hWd⟩ : ∃ Wd, Wd = w12.alloc (.cells #[.int .u64 0, .bool false, .string ⟨#[99]⟩, .slice A12 n12 c12, .string ⟨#[]⟩] 25) := ⟨_, rfl⟩
  have hbd : Below w12.heap.size w12 Wd := by rw [hWd]; exact (Below.refl _ _).alloc (Nat.le_refl _) _
  have hdz : Wd.heap.size = w12.heap.size + 1 := by rw [hWd]; simp
  have hdb : Wd.heap[w12.heap.size]? = some (.cells #[.int .u64 0, .bool false, .string ⟨#[99]⟩, .slice A12 n12 c12, .string ⟨#[]⟩] 25 (0, 0)) := by rw [hWd]; exact heap_alloc_new w12 _
  rw [← hWd, ← hdz]
  clear hWd
  have hAd := Lib.hid (hA12.out.below hbd)
  have hdb' := Lib.hid hdb
  have hdz' := Lib.hid hdz
  clear hbd hA12 hdb hdz
  have n2 := heap_alloc_new Wd (.cells #[.int .i64 2, .int .i64 3] 3)
  have hb2 := (Below.refl Wd.heap.size Wd).alloc (Nat.le_refl _) (.cells #[.int .i64 2, .int .i64 3] 3)
  refine (sameNums_any _ A5 _ 2 c5 2 2 [2, 3] [2, 3] ((hAd.out.below hb2).got (r := (A5, 2, c5, [2, 3])) (by simp)).ns (own_of (c := 2) n2 rfl rfl (Nat.le_refl _) (by unfold maxLen; omega) rfl).ns (by unfold maxLen; omega)).mono ?_
  rintro e w13 ⟨rfl, q, hq⟩
  have hb13 := Lib.hid (show Below Wd.heap.size Wd w13 by rw [hq]; exact draws hb2 q)
  rw [show decide (([2, 3] : List Nat) = [2, 3]) = true from rfl]
  clear hq n2 hb2
  go_wp2_with fail
  have hAe := Lib.hid (hAd.out.below hb13.out)
  have n3 := heap_alloc_new w13 (.cells #[.int .i64 1, .int .i64 2, .int .i64 3] 3)
  have hb3 := (Below.refl w13.heap.size w13).alloc (Nat.le_refl _) (.cells #[.int .i64 1, .int .i64 2, .int .i64 3] 3)
  refine (sameNums_any _ A9 _ 3 c9 3 3 [1, 2, 3] [1, 2, 3] ((hAe.out.below hb3).got (r := (A9, 3, c9, [1, 2, 3])) (by simp)).ns (own_of (c := 3) n3 rfl rfl (Nat.le_refl _) (by unfold maxLen; omega) rfl).ns (by unfold maxLen; omega)).mono ?_
  rintro e w14 ⟨rfl, q, hq⟩
  have hb14 := Lib.hid (show Below w13.heap.size w13 w14 by rw [hq]; exact draws hb3 q)
  rw [show decide (([1, 2, 3] : List Nat) = [1, 2, 3]) = true from rfl]
  have zh := (hb14.out.block _ (by have h1 := hb13.out.size; have h2 := hdz'.out; omega)).trans ((hb13.out.block w12.heap.size (by have h2 := hdz'.out; omega)).trans hdb'.out)
  have z2 := cell_of_row w14 _ 2 _ _ _ zh
  simp at z2
  have hAf := Lib.hid (hAe.out.below hb14.out)
  clear hq n3 hb3 zh
  go_wp2_with (first
    | (refine (hAf.out.whole wf6 (by decide)).mono ?_; rintro e w15 ⟨rfl, hb15⟩; have hAg := Lib.hid (hAf.out.below hb15); clear hb15)
    | (refine (hAg.out.slots).mono ?_; rintro e w16 ⟨rfl, rfl⟩; rw [show ((exA6.cnt : Nat) : Int) = 4 from rfl]))
  go_ret
  exact ⟨rfl, hAg.out.bel⟩
end Go.Proofs.Ytiikakfdelkjhaa.Arn
