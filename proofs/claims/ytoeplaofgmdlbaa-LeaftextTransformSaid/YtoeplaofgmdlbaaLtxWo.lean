/- works: the chapter's examples. -/
import Derived.Test.YtoeplaofgmdlbaaLtxZ
namespace Go.Proofs.Ytoeplaofgmdlbaa
open Go.RowKit
set_option maxRecDepth 20000
open Ltx (Pc)

/-- slices that read as edits, since the world w0 -/
structure Wk (w0 w : World) (l : List (Option Addr × Nat × List Pc)) : Prop where
  bel : Below w0.heap.size w0 w
  has : ∀ x ∈ l, PcsIn w x.1 x.2.1 (x.2.2.map ipc)
section
variable {w0 w w' : World} {l : List (Option Addr × Nat × List Pc)}
theorem Wk.start (w : World) : Wk w w [] := ⟨Below.refl _ _, fun x h => by cases h⟩
theorem Wk.below (h : Wk w0 w l) (hb : Below w.heap.size w w') : Wk w0 w' l := ⟨h.bel.trans (hb.mono h.bel.size), fun x hx => (h.has x hx).below hb⟩
theorem Wk.add (h : Wk w0 w l) {A : Option Addr} {n : Nat} {p : List Pc} (hp : PcsIn w A n (p.map ipc)) : Wk w0 w ((A, n, p) :: l) := ⟨h.bel, fun x hx => by
  rcases List.mem_cons.1 hx with rfl | hx
  · exact hp
  · exact h.has x hx⟩
theorem pcs_lit {b : Nat} {fr : Nat × Nat} {p : List Pc} (hb : w.heap[b]? = some (.cells (p.flatMap cellsOf).toArray 29 fr)) (hl : Low p) : PcsIn w (some ⟨b, 0, none⟩) p.length (p.map ipc) := by
  refine ⟨by simp, fun q x hx => ?_⟩
  rw [List.getElem?_map] at hx
  cases hp : p[q]? with
  | none => rw [hp] at hx; cases hx
  | some pc =>
    rw [hp] at hx
    simp only [Option.map_some, Option.some.injEq] at hx
    subst hx
    have hm := hl pc (List.mem_of_getElem? hp)
    have hc : ∀ j v, (cellsOf pc)[j]? = some v → w.cell? ⟨b, q * 3 + j, none⟩ = some v := fun j v hj => by
      rw [cell_of_row w b (q * 3 + j) _ _ _ hb, List.getElem?_toArray]
      exact cells_at p q pc hp j v hj
    have hadd : (⟨b, 0, none⟩ : Addr).add (q * 3) = ⟨b, q * 3, none⟩ := by unfold Addr.add; split <;> simp_all
    refine ⟨_, rfl, (Array.getElem?_eq_some_iff.1 hb).1, ?_⟩
    rw [hadd]
    refine ⟨?_, ?_, ?_, ?_, ?_, hc 0 _ rfl, hc 1 _ rfl, hc 2 _ rfl⟩
    · show -9223372036854775808 ≤ (pc.keep : Int); omega
    · show (pc.keep : Int) ≤ 9223372036854775807; omega
    · show -9223372036854775808 ≤ (pc.drop : Int); omega
    · show (pc.drop : Int) ≤ 9223372036854775807; omega
    · show pc.put.length ≤ maxLen; unfold maxLen; omega
theorem Wk.lit (h : Wk w0 w l) (p : List Pc) (hl : totP p ≤ 4000000000) : Wk w0 (w.alloc (.cells (p.flatMap cellsOf).toArray 29)) ((some ⟨w.heap.size, 0, none⟩, p.length, p) :: l) :=
  (h.below ((Below.refl _ _).alloc (Nat.le_refl _) _)).add (pcs_lit (heap_alloc_new w _) (low_of hl))
theorem Wk.lit2 (h : Wk w0 w l) (p q : List Pc) (hl : totP p ≤ 4000000000) (hl2 : totP q ≤ 4000000000) : Wk w0 ((w.alloc (.cells (p.flatMap cellsOf).toArray 29)).alloc (.cells (q.flatMap cellsOf).toArray 29)) ((some ⟨w.heap.size + 1, 0, none⟩, q.length, q) :: (some ⟨w.heap.size, 0, none⟩, p.length, p) :: l) := by
  have h2 := (h.lit p hl).lit q hl2
  rw [show (w.alloc (.cells (p.flatMap cellsOf).toArray 29)).heap.size = w.heap.size + 1 by simp] at h2
  exact h2
theorem Wk.top2 {x : Option Addr × Nat × List Pc} {A : Option Addr} {n : Nat} {p : List Pc} (h : Wk w0 w (x :: (A, n, p) :: l)) : PcsIn w A n (p.map ipc) := h.has _ (List.mem_cons_of_mem _ List.mem_cons_self)
theorem Wk.get (h : Wk w0 w l) (i : Nat) {A : Option Addr} {n : Nat} {p : List Pc} (hi : l[i]? = some (A, n, p)) : PcsIn w A n (p.map ipc) := h.has _ (List.mem_of_getElem? hi)
theorem Wk.same (h : Wk w0 w l) (p : List Pc) (i n c k : Nat) {A : Option Addr} (hi : l[i]? = some (A, n, p)) (hn : p.length = n) (hl : totP p ≤ 1000) (hln : n ≤ 1000) :
    Calls Try.prog 17 #[.slice A n c, .slice (some ⟨w.heap.size, 0, none⟩) n k] (w.alloc (.cells (p.flatMap cellsOf).toArray 29)) fun e w' => e = .returned (.bool true) ∧ Wk w0 w' l := by
  subst hn
  have h1 := h.lit p (by omega)
  have hz : p.length ≤ maxLen := by unfold maxLen; omega
  have hs := same_any _ A (some ⟨w.heap.size, 0, none⟩) p.length c p.length k _ _ ((h.get i hi).below ((Below.refl _ _).alloc (Nat.le_refl _) (.cells (p.flatMap cellsOf).toArray 29))) (h1.has _ List.mem_cons_self) hz hz
  rw [sameP_iff.2 rfl] at hs
  refine hs.mono ?_
  rintro e w' ⟨he, hb⟩
  exact ⟨he, (h.below ((Below.refl _ _).alloc (Nat.le_refl _) _)).below hb⟩
theorem Wk.top {A : Option Addr} {n : Nat} {p : List Pc} (h : Wk w0 w ((A, n, p) :: l)) : PcsIn w A n (p.map ipc) := h.has _ List.mem_cons_self
theorem Wk.pop {x : Option Addr × Nat × List Pc} (h : Wk w0 w (x :: l)) : Wk w0 w l := ⟨h.bel, fun y hy => h.has y (List.mem_cons_of_mem _ hy)⟩
theorem Wk.own (h : Wk w0 w l) {b n : Nat} {v : Value} {p q : List Pc} (ho : OwnP b w v p) (e : p = q) (hn : q.length = n) (hl : totP q ≤ 4000000000) : ∃ (A : Option Addr) (c : Nat), v = .slice A n c ∧ Wk w0 w ((A, n, q) :: l) := by
  subst e
  obtain ⟨A, n1, c, rfl, hn1, h1, h2, hP, h3⟩ := ho.shape (low_of hl)
  obtain rfl : n1 = n := hn1.trans hn
  exact ⟨A, c, rfl, h.add hP⟩
end
theorem wk1 : Ltx.apply [97, 98, 99, 100, 101, 102] [⟨1, 2, [88]⟩, ⟨1, 0, [89]⟩] = [97, 88, 100, 89, 101, 102] := by kernel_rfl
theorem wk2 : Ltx.norm [⟨1, 0, []⟩, ⟨2, 0, [97]⟩, ⟨0, 1, [98]⟩] = [⟨3, 1, [97, 98]⟩] := by kernel_rfl
theorem wk3 : Ltx.trans (Ltx.norm [⟨2, 0, [88]⟩]) (Ltx.norm [⟨2, 0, [89]⟩]) true = [⟨2, 0, [88]⟩] := by kernel_rfl
theorem wk4 : Ltx.trans (Ltx.norm [⟨2, 0, [89]⟩]) (Ltx.norm [⟨2, 0, [88]⟩]) (!true) = [⟨3, 0, [89]⟩] := by kernel_rfl
theorem wk5 : Ltx.trans (Ltx.norm [⟨0, 3, []⟩]) (Ltx.norm [⟨1, 1, [89]⟩]) true = [⟨0, 1, []⟩, ⟨1, 1, []⟩] := by kernel_rfl
theorem wk6 : Ltx.trans (Ltx.norm [⟨1, 1, [89]⟩]) (Ltx.norm [⟨0, 3, []⟩]) (!true) = [⟨0, 0, [89]⟩] := by kernel_rfl
theorem wk7 : Ltx.norm (Ltx.inv [97, 98, 99] [⟨1, 1, [88, 89]⟩]) = [⟨1, 2, [98]⟩] := by kernel_rfl
set_option maxHeartbeats 3200000 in
theorem works_any (w : World) : Calls Try.prog 13 #[] w fun e w' => e = .returned (.bool true) ∧ Below w.heap.size w w' := by
  have h0 := Wk.start w
  go_enter Try.func13, Try.ntmps13
  go_wp2_with fail
  have h1 := h0.lit [⟨1, 2, [88]⟩, ⟨1, 0, [89]⟩] (by decide)
  refine (apply_ok _ [97, 98, 99, 100, 101, 102] (some ⟨w.heap.size, 0, none⟩) 2 2 [⟨1, 2, [88]⟩, ⟨1, 0, [89]⟩] h1.top (by unfold maxLen; omega) (by decide) (by kernel_rfl) (by decide)).mono ?_
  rw [wk1]
  rintro e w1 ⟨rfl, hb⟩
  have h2 := h1.pop.below hb
  clear h0 h1 hb
  go_wp2_with fail
  have h3 := h2.lit [⟨1, 0, []⟩, ⟨2, 0, [97]⟩, ⟨0, 1, [98]⟩] (by decide)
  refine (norm_right _ (some ⟨w1.heap.size, 0, none⟩) 3 3 [⟨1, 0, []⟩, ⟨2, 0, [97]⟩, ⟨0, 1, [98]⟩] h3.top (by unfold maxLen; omega) (by decide) (by kernel_rfl)).mono ?_
  rintro e w2 ⟨v, rfl, hv, hb⟩
  obtain ⟨A1, c1, rfl, h4⟩ := (h3.pop.below hb).own hv wk2 rfl (by decide)
  clear h2 h3 hb hv
  go_wp2_with fail
  have h5 := h4.lit2 [⟨2, 0, [88]⟩] [⟨2, 0, [89]⟩] (by decide) (by decide)
  refine (transform_ok _ (some ⟨w2.heap.size, 0, none⟩) (some ⟨w2.heap.size + 1, 0, none⟩) 1 1 1 1 [⟨2, 0, [88]⟩] [⟨2, 0, [89]⟩] true h5.top2 h5.top (by omega) (by omega) (by decide) (by decide) (by kernel_rfl) (by kernel_rfl)).mono ?_
  rintro e w3 ⟨v, v2, rfl, hv, hv2, hb⟩
  obtain ⟨A2, c2, rfl, h6⟩ := (h5.pop.pop.below hb).own hv wk3 rfl (by decide)
  obtain ⟨A3, c3, rfl, h7⟩ := h6.own hv2 wk4 rfl (by decide)
  clear h4 h5 hb hv hv2 h6
  go_wp2_with fail
  have h8 := h7.lit2 [⟨0, 3, []⟩] [⟨1, 1, [89]⟩] (by decide) (by decide)
  refine (transform_ok _ (some ⟨w3.heap.size, 0, none⟩) (some ⟨w3.heap.size + 1, 0, none⟩) 1 1 1 1 [⟨0, 3, []⟩] [⟨1, 1, [89]⟩] true h8.top2 h8.top (by omega) (by omega) (by decide) (by decide) (by kernel_rfl) (by kernel_rfl)).mono ?_
  rintro e w4 ⟨v, v2, rfl, hv, hv2, hb⟩
  obtain ⟨A4, c4, rfl, h9⟩ := (h8.pop.pop.below hb).own hv wk5 rfl (by decide)
  obtain ⟨A5, c5, rfl, h10⟩ := h9.own hv2 wk6 rfl (by decide)
  clear h7 h8 hb hv hv2 h9
  go_wp2_with fail
  have h11 := h10.lit [⟨1, 1, [88, 89]⟩] (by decide)
  refine (invert_ok _ [97, 98, 99] (some ⟨w4.heap.size, 0, none⟩) 1 1 [⟨1, 1, [88, 89]⟩] h11.top (by unfold maxLen; omega) (by decide) (by kernel_rfl) (by decide) (by decide)).mono ?_
  rintro e w5 ⟨v, rfl, hv, hb⟩
  obtain ⟨A6, c6, rfl, h12⟩ := (h11.pop.below hb).own hv wk7 rfl (by decide)
  clear h10 h11 hb hv
  go_wp2_with fail
  refine (h12.same [⟨3, 1, [97, 98]⟩] 5 1 _ 1 rfl rfl (by decide) (by omega)).mono ?_
  rintro e w6 ⟨rfl, h13⟩
  clear h12
  go_wp2_with fail
  refine (h13.same [⟨2, 0, [88]⟩] 4 1 _ 1 rfl rfl (by decide) (by omega)).mono ?_
  rintro e w7 ⟨rfl, h14⟩
  clear h13
  go_wp2_with fail
  refine (h14.same [⟨3, 0, [89]⟩] 3 1 _ 1 rfl rfl (by decide) (by omega)).mono ?_
  rintro e w8 ⟨rfl, h15⟩
  clear h14
  go_wp2_with fail
  refine (h15.same [⟨0, 1, []⟩, ⟨1, 1, []⟩] 2 2 _ 2 rfl rfl (by decide) (by omega)).mono ?_
  rintro e w9 ⟨rfl, h16⟩
  clear h15
  go_wp2_with fail
  refine (h16.same [⟨0, 0, [89]⟩] 1 1 _ 1 rfl rfl (by decide) (by omega)).mono ?_
  rintro e w10 ⟨rfl, h17⟩
  clear h16
  go_wp2_with fail
  refine (h17.same [⟨1, 2, [98]⟩] 0 1 _ 1 rfl rfl (by decide) (by omega)).mono ?_
  rintro e w11 ⟨rfl, h18⟩
  clear h17
  go_wp2_with fail
  go_ret
  exact ⟨rfl, h18.bel⟩
end Go.Proofs.Ytoeplaofgmdlbaa
