/- The closure that cuts the steps of a row. -/
import Derived.Test.YtoeplaofgmdlbaaLtxT
import Derived.Deep.RegionHeld3
namespace Go.Proofs.Ytoeplaofgmdlbaa
open Go.RowKit
set_option maxRecDepth 20000
open Ltx (Pc)

/-- what stands in front -/
theorem RowAt.front {w : World} {S : Nat → Prop} {base P : Nat} {sts : List St} (h : RowAt w S base P sts) : ∃ (g o c : Nat) (a b : Int) (t : List UInt8), headC sts = [.int .u8 a, .int .i64 b, .string ⟨t.toArray⟩] ∧ P < w.heap.size ∧ g < w.heap.size ∧ g ≠ P ∧ S g ∧
    sts.length + 1 ≤ c ∧ c ≤ maxLen ∧ w.cell? ⟨P, 0, none⟩ = some (.slice (some ⟨g, o, none⟩) (sts.length + 1) c) ∧ w.frozen? ⟨P, 0, none⟩ = false ∧
    (w.cell? ⟨g, o, none⟩ = some (.int .u8 a) ∧ w.cell? ⟨g, o + 1, none⟩ = some (.int .i64 b) ∧ w.cell? ⟨g, o + 2, none⟩ = some (.string ⟨t.toArray⟩)) ∧ (∀ i, w.frozen? ⟨g, i, none⟩ = false) ∧
    (∀ (w' : World), w'.heap.size = w.heap.size → (∀ k, k ≠ g → w'.heap[k]? = w.heap[k]?) → ∀ (sts' : List St) (rest : List Value) (x y z : Value), sts'.length = sts.length → sts.flatMap St.cells ++ endC = headC sts ++ rest → sts'.flatMap St.cells ++ endC = [x, y, z] ++ rest →
      (∀ cur, w.heap[g]? = some (.cells cur 61 (0, 0)) → w'.heap[g]? = some (.cells (((cur.setIfInBounds o x).setIfInBounds (o + 1) y).setIfInBounds (o + 2) z) 61 (0, 0))) → RowAt w' S base P sts') ∧
    (∀ (w' : World), w'.heap.size = w.heap.size → (∀ k, k ≠ P → w'.heap[k]? = w.heap[k]?) → ∀ s r, sts = s :: r → w'.heap[P]? = some (.cells #[.slice (some ⟨g, o + 3, none⟩) (r.length + 1) (c - 1)] 85 (0, 0)) → RowAt w' S base P r) := by
  obtain ⟨h1, h2, g, o, c, cur, hP, hgS, hg, hc1, hc2, hcur⟩ := h
  have hne : g ≠ P := fun e => by subst e; rw [hP] at hg; injection hg with hg; injection hg with _ h3 _; revert h3; decide
  obtain ⟨a, b, t, hh⟩ : ∃ (a b : Int) (t : List UInt8), headC sts = [.int .u8 a, .int .i64 b, .string ⟨t.toArray⟩] := by
    cases sts with
    | nil => exact ⟨_, _, [], rfl⟩
    | cons s r => exact ⟨_, _, _, rfl⟩
  have hpre : ∃ rest, sts.flatMap St.cells ++ endC = headC sts ++ rest := by
    cases sts with
    | nil => exact ⟨[], rfl⟩
    | cons s r => exact ⟨r.flatMap St.cells ++ endC, by rw [List.flatMap_cons, List.append_assoc]; rfl⟩
  obtain ⟨rest, hre⟩ := hpre
  rw [hh] at hre
  have hcell : ∀ j v, ([.int .u8 a, .int .i64 b, .string ⟨t.toArray⟩] : List Value)[j]? = some v → w.cell? ⟨g, o + j, none⟩ = some v := fun j v hj => by
    rw [cell_of_row w g (o + j) _ _ _ hg]
    refine hcur j v ?_
    rw [hre, List.getElem?_append_left (List.getElem?_eq_some_iff.1 hj).1]
    exact hj
  refine ⟨g, o, c, a, b, t, hh, (h1 P h2).2, (h1 g hgS).2, hne, hgS, hc1, hc2, cell_of_row w P 0 _ _ _ hP, frozen_of_row w P 0 _ _ hP, ⟨hcell 0 _ rfl, hcell 1 _ rfl, hcell 2 _ rfl⟩, fun i => frozen_of_row w g i _ _ hg, ?_, ?_⟩
  · intro w' hs hk sts' rest x y z hl e1 e2 hg1
    have hg2 := hg1 cur hg
    refine ⟨fun k hk' => ⟨(h1 k hk').1, by rw [hs]; exact (h1 k hk').2⟩, h2, g, o, c, _, (hk P (fun e => hne e.symm)).trans (by rw [hl]; exact hP), hgS, hg2, by omega, hc2, fun j v hj => ?_⟩
    have hle : ∀ j v, (headC sts ++ rest)[j]? = some v → cur[o + j]? = some v := fun j v hj => hcur j v (by rw [e1]; exact hj)
    rw [hh] at hle
    have hbnd : o + 2 < cur.size := (Array.getElem?_eq_some_iff.1 (hle 2 _ rfl)).1
    rw [e2] at hj
    match j, hj with
    | 0, hj =>
      simp only [List.cons_append, List.getElem?_cons_zero, Option.some.injEq] at hj
      rw [← hj, Array.getElem?_setIfInBounds_ne (by omega), Array.getElem?_setIfInBounds_ne (by omega)]
      show (cur.setIfInBounds o _)[o]? = _
      rw [Array.getElem?_setIfInBounds_self_of_lt (by omega)]
    | 1, hj =>
      simp only [List.cons_append, List.getElem?_cons_succ, List.getElem?_cons_zero, Option.some.injEq] at hj
      rw [← hj, Array.getElem?_setIfInBounds_ne (by omega), Array.getElem?_setIfInBounds_self_of_lt (by simp; omega)]
    | 2, hj =>
      simp only [List.cons_append, List.getElem?_cons_succ, List.getElem?_cons_zero, Option.some.injEq] at hj
      rw [← hj, Array.getElem?_setIfInBounds_self_of_lt (by simp; omega)]
    | j + 3, hj =>
      rw [Array.getElem?_setIfInBounds_ne (by omega), Array.getElem?_setIfInBounds_ne (by omega), Array.getElem?_setIfInBounds_ne (by omega)]
      exact hle (j + 3) v hj
  · intro w' hs hk s r e hP'
    subst e
    simp only [List.length_cons] at hc1
    refine ⟨fun k hk' => ⟨(h1 k hk').1, by rw [hs]; exact (h1 k hk').2⟩, h2, g, o + 3, c - 1, cur, hP', hgS, (hk g hne).trans hg, by omega, by omega, fun j v hj => ?_⟩
    rw [show o + 3 + j = o + (j + 3) by omega]
    refine hcur (j + 3) v ?_
    rw [List.flatMap_cons, List.append_assoc]
    exact hj
theorem headC_cut (sts : List St) (m : Nat) : ∃ (a b : Int) (t : List UInt8), (match sts with | [] => endC | s :: _ => (s.cut m).cells) = [.int .u8 a, .int .i64 b, .string ⟨t.toArray⟩] := by
  cases sts with
  | nil => exact ⟨_, _, [], rfl⟩
  | cons s r => exact ⟨_, _, _, rfl⟩
/-- what becomes of the first step -/
def cut1 (sts : List St) (m : Nat) : List St := match sts with | [] => [] | s :: r => s.cut m :: r
theorem cut1_len (sts : List St) (m : Nat) : (cut1 sts m).length = sts.length := by cases sts <;> rfl
theorem cut1_cut (sts : List St) (m : Nat) : trim (cut1 sts m) = cutS sts m := by cases sts <;> rfl
theorem sbehind_head (w : World) (sts : List St) (m : Nat) (h : ∀ s r, sts = s :: r → m ≤ s.size ∧ s.size ≤ 1000000000) :
    Calls Try.prog 51 #[stepV (headC sts), .int .i64 (m : Int)] w fun e w' => e = .returned (stepV (headC (cut1 sts m))) ∧ Below w.heap.size w w' := by
  cases sts with
  | nil => exact sbehind_end w m
  | cons s r => exact sbehind_any w s m (h s r rfl).1 (h s r rfl).2
/-- how many steps there are, the end counted -/
def lenAt (w : World) (P : Nat) : Nat := match w.cell? ⟨P, 0, none⟩ with | some (.slice _ n _) => n | _ => 0
set_option maxHeartbeats 2000000 in
theorem cut_any (w : World) (S : Nat → Prop) (base P : Nat) (sts : List St) (m : Nat) (hR : RowAt w S base P sts) (h : ∀ s r, sts = s :: r → m ≤ s.size ∧ s.size ≤ 1000000000) (hz : ∀ s ∈ sts, s.size ≤ 1000000000) :
    Calls Try.prog 50 #[.int .i64 (m : Int), .pointer (some ⟨P, 0, none⟩)] w fun e w' => e = .returned (stepV (headC (cutS sts m))) ∧ RowAt w' S base P (cutS sts m) ∧ FrX S w w' := by
  have hbeh := Lib.hid (fun W => sbehind_head W sts m h)
  have hR' := Lib.hid hR
  have hz' := Lib.hid hz
  clear h hR hz
  go_enter Try.func50, Try.ntmps50
  go_wp2_with fail
  obtain ⟨wA, hA⟩ : ∃ wA, wA = w.alloc (.cells #[.int .u8 0, .int .i64 0, .string ⟨#[]⟩] 61) := ⟨_, rfl⟩
  rw [← hA]
  have hbA : Below w.heap.size w wA := by rw [hA]; exact (Below.refl w.heap.size w).alloc (Nat.le_refl _) _
  have hRes : wA.heap[w.heap.size]? = some (.cells #[.int .u8 0, .int .i64 0, .string ⟨#[]⟩] 61 (0, 0)) := by rw [hA]; exact heap_alloc_new w _
  have hRA := hR'.out.below hbA
  have hSA := Lib.hid (fun k (hk : S k) => (hR'.out.own k hk).2)
  obtain ⟨g, o, c, a, b, t, hh, hPl, hgl, hne, hgS, hc1, hc2, cP, fP, ⟨c0, c1, c2⟩, fz, hset, hcut⟩ := hRA.front
  obtain ⟨a', b', t', hh'⟩ : ∃ (a b : Int) (t : List UInt8), headC (cut1 sts m) = [.int .u8 a, .int .i64 b, .string ⟨t.toArray⟩] := by
    cases sts with
    | nil => exact ⟨_, _, [], rfl⟩
    | cons s r => exact ⟨_, _, _, rfl⟩
  have hbehind := Lib.hid (fun W => show Calls Try.prog 51 #[.agg #[.int .u8 a, .int .i64 b, .string ⟨t.toArray⟩], .int .i64 (m : Int)] W fun e w' => e = .returned (.agg #[.int .u8 a', .int .i64 b', .string ⟨t'.toArray⟩]) ∧ Below W.heap.size W w' from by
    have := hbeh.out W
    rw [hh, hh'] at this
    exact this)
  obtain ⟨n1, hn1⟩ : ∃ n1, n1 = sts.length + 1 := ⟨_, rfl⟩
  rw [← hn1] at hc1 cP
  have hn1' := Lib.hid hn1
  have hI : (0 : Int) < (n1 : Int) := by omega
  have hI2 : 0 < n1 := by omega
  have hRes' := Lib.hid hRes
  have hbA' := Lib.hid hbA
  have hA' := Lib.hid hA
  have hh1 := Lib.hid hh
  have hh2 := Lib.hid hh'
  have hset' := Lib.hid hset
  have hcut' := Lib.hid hcut
  have hRA' := Lib.hid hRA
  clear hn1 hRes hbA hA hh hh' hset hcut hbeh hRA
  have hS3 : ∀ (W : World) (i : Nat) (v : Value), W.cell? ⟨P, 0, none⟩ = some (.slice (some ⟨g, o, none⟩) n1 c) → (W.setCell ⟨g, i, none⟩ v).cell? ⟨P, 0, none⟩ = some (.slice (some ⟨g, o, none⟩) n1 c) := fun W i v hw => (World.cell?_setCell_other W ⟨g, i, none⟩ ⟨P, 0, none⟩ v (by intro e; injection e with e _; first | exact hne e | exact hne e.symm)).trans hw
  refine wp_region_held_drew (S := fun w' => w'.cell? ⟨P, 0, none⟩ = some (.slice (some ⟨g, o, none⟩) n1 c)) (by kernel_rfl) ?_ (fun hHeld => ?_)
  · exact cP
  refine wpAnyH_take (i := 0) (oi := { dst := some 4, op := Go.Op.load 85 (Go.Operand.tmp 1), type := 85, pos := "row.go:61", after := #[], guard := none }) (v := ?_) rfl (by kernel_rfl) (by kernel_rfl) (by kernel_rfl) (fun _ _ _ h => h) (Or.inl ⟨by rfl, ?_⟩) hHeld ?_
  rotate_left 1
  · intro w hSw; have q1 : w.cell? ⟨P, 0, none⟩ = some (.slice (some ⟨g, o, none⟩) n1 c) := hSw; go_simp; try with_reducible rfl
  try simp only [Act.put, List.setIfInBounds_toArray, List.set_cons_zero, List.set_cons_succ]
  refine wpAnyH_take (i := 1) (oi := { dst := some 5, op := Go.Op.load 85 (Go.Operand.tmp 1), type := 85, pos := "row.go:61", after := #[], guard := none }) (v := ?_) rfl (by kernel_rfl) (by kernel_rfl) (by kernel_rfl) (fun _ _ _ h => h) (Or.inl ⟨by rfl, ?_⟩) hHeld ?_
  rotate_left 1
  · intro w hSw; have q1 : w.cell? ⟨P, 0, none⟩ = some (.slice (some ⟨g, o, none⟩) n1 c) := hSw; go_simp; try with_reducible rfl
  try simp only [Act.put, List.setIfInBounds_toArray, List.set_cons_zero, List.set_cons_succ]
  refine wpAnyH_take (i := 2) (oi := { dst := some 6, op := Go.Op.indexAddr 85 (Go.Operand.tmp 5) (Go.Operand.const (Go.Value.int Go.IntKind.i64 0)), type := 0, pos := "row.go:61", after := #[{ on := 1, ground := Go.Ground.data }], guard := none }) (v := ?_) rfl (by kernel_rfl) (by kernel_rfl) (by kernel_rfl) (fun _ _ _ h => h) (Or.inl ⟨by rfl, ?_⟩) hHeld ?_
  rotate_left 1
  · intro w hSw; have q1 : w.cell? ⟨P, 0, none⟩ = some (.slice (some ⟨g, o, none⟩) n1 c) := hSw; go_simp; try with_reducible rfl
  try simp only [Act.put, List.setIfInBounds_toArray, List.set_cons_zero, List.set_cons_succ]
  refine wpAnyH_take (i := 4) (oi := { dst := some 8, op := Go.Op.move (Go.Operand.tmp 0), type := 3, pos := "row.go:61", after := #[], guard := none }) (v := ?_) rfl (by kernel_rfl) (by kernel_rfl) (by kernel_rfl) (fun _ _ _ h => h) (Or.inl ⟨by rfl, ?_⟩) hHeld ?_
  rotate_left 1
  · intro w hSw; have q1 : w.cell? ⟨P, 0, none⟩ = some (.slice (some ⟨g, o, none⟩) n1 c) := hSw; go_simp; try with_reducible rfl
  try simp only [Act.put, List.setIfInBounds_toArray, List.set_cons_zero, List.set_cons_succ]
  refine wpAnyH_ready (rs := [3]) (by kernel_rfl) (by simp) ?_
  refine AllReadyH.cons (o := { dst := some 7, op := Go.Op.load 61 (Go.Operand.tmp 6), type := 61, pos := "row.go:61", after := #[{ on := 2, ground := Go.Ground.data }], guard := none }) rfl (fun K hK => ?_) AllReadyH.nil
  go_simp
  refine hK.out _ _ ?_ (fun hNew => ?_)
  · first | assumption | exact hS2 | exact hS3 _ _ _ (hS3 _ _ _ (hS3 _ _ _ hS2))
  clear hK K hHeld
  have hHeld := hNew
  clear hNew
  try simp only [Act.put, List.setIfInBounds_toArray, List.set_cons_zero, List.set_cons_succ]
  refine wpAnyH_ready (rs := [5]) (by kernel_rfl) (by simp) ?_
  refine AllReadyH.cons (o := { dst := some 9, op := Go.Op.call { callee := Go.Callee.value (Go.Operand.func 51), args := #[Go.Operand.tmp 7, Go.Operand.tmp 8], argTypes := #[61, 3] }, type := 61, pos := "row.go:61", after := #[{ on := 3, ground := Go.Ground.data }, { on := 4, ground := Go.Ground.data }], guard := none }) rfl (fun K hK => ?_) AllReadyH.nil
  (go_simp; go_at_call 51; refine (hbehind.out _).mono ?_; rintro e w2 ⟨rfl, hb2⟩; have cP2 := (hb2.cell (p := ⟨P, 0, none⟩) hPl).trans cP; have fP2 := (hb2.frozen (p := ⟨P, 0, none⟩) hPl).trans fP; have d0 := (hb2.cell (p := ⟨g, o, none⟩) hgl).trans c0; have d1 := (hb2.cell (p := ⟨g, o + 1, none⟩) hgl).trans c1; have d2 := (hb2.cell (p := ⟨g, o + 2, none⟩) hgl).trans c2; have e0 := (hb2.frozen (p := ⟨g, o, none⟩) hgl).trans (fz o); have e1 := (hb2.frozen (p := ⟨g, o + 1, none⟩) hgl).trans (fz (o + 1)); have e2 := (hb2.frozen (p := ⟨g, o + 2, none⟩) hgl).trans (fz (o + 2)); have hS2 : w2.cell? ⟨P, 0, none⟩ = some (.slice (some ⟨g, o, none⟩) n1 c) := cP2; have hb2' := Lib.hid hb2; clear hb2)
  refine hK.out _ _ ?_ (fun hNew => ?_)
  · first | assumption | exact hS2 | exact hS3 _ _ _ (hS3 _ _ _ (hS3 _ _ _ hS2))
  clear hK K hHeld
  have hHeld := hNew
  clear hNew
  try simp only [Act.put, List.setIfInBounds_toArray, List.set_cons_zero, List.set_cons_succ]
  refine wpAnyH_take (i := 6) (oi := { dst := some 10, op := Go.Op.indexAddr 85 (Go.Operand.tmp 4) (Go.Operand.const (Go.Value.int Go.IntKind.i64 0)), type := 0, pos := "row.go:61", after := #[{ on := 0, ground := Go.Ground.data }, { on := 0, ground := Go.Ground.phase }, { on := 1, ground := Go.Ground.phase }, { on := 2, ground := Go.Ground.phase }, { on := 3, ground := Go.Ground.phase }, { on := 4, ground := Go.Ground.phase }, { on := 5, ground := Go.Ground.phase }], guard := none }) (v := ?_) rfl (by kernel_rfl) (by kernel_rfl) (by kernel_rfl) (fun _ _ _ h => h) (Or.inl ⟨by rfl, ?_⟩) hHeld ?_
  rotate_left 1
  · intro w hSw; have q1 : w.cell? ⟨P, 0, none⟩ = some (.slice (some ⟨g, o, none⟩) n1 c) := hSw; go_simp; try with_reducible rfl
  try simp only [Act.put, List.setIfInBounds_toArray, List.set_cons_zero, List.set_cons_succ]
  refine wpAnyH_ready (rs := [7]) (by kernel_rfl) (by simp) ?_
  refine AllReadyH.cons (o := { dst := none, op := Go.Op.store 61 (Go.Operand.tmp 10) (Go.Operand.tmp 9), type := 0, pos := "row.go:61", after := #[{ on := 6, ground := Go.Ground.data }, { on := 5, ground := Go.Ground.data }, { on := 5, ground := Go.Ground.chain }, { on := 0, ground := Go.Ground.phase }, { on := 1, ground := Go.Ground.phase }, { on := 2, ground := Go.Ground.phase }, { on := 3, ground := Go.Ground.phase }, { on := 4, ground := Go.Ground.phase }, { on := 5, ground := Go.Ground.phase }], guard := none }) rfl (fun K hK => ?_) AllReadyH.nil
  go_simp
  refine hK.out _ _ ?_ (fun hNew => ?_)
  · first | assumption | exact hS2 | exact hS3 _ _ _ (hS3 _ _ _ (hS3 _ _ _ hS2))
  clear hK K hHeld
  have hHeld := hNew
  clear hNew
  try simp only [Act.put, List.setIfInBounds_toArray, List.set_cons_zero, List.set_cons_succ]
  refine wpAnyH_done (by kernel_rfl) ?_ _
  go_wp2_with fail
  obtain ⟨w3, hw3⟩ : ∃ w3, w3 = ((w2.setCell ⟨g, o, none⟩ (.int .u8 a')).setCell ⟨g, o + 1, none⟩ (.int .i64 b')).setCell ⟨g, o + 2, none⟩ (.string ⟨t'.toArray⟩) := ⟨_, rfl⟩
  rw [← hw3]
  have hR2 : RowAt w2 S base P sts := hRA'.out.below ⟨hb2'.out.os, hb2'.out.tape, hb2'.out.output, hb2'.out.size, hb2'.out.block⟩
  have hR3 : RowAt w3 S base P (cut1 sts m) := by
    obtain ⟨g2, o2, cc2, _, _, _, _, _, _, _, _, _, _, hcP2, _, _, _, hset2, _⟩ := hR2.front
    have hcc := hcP2.symm.trans cP2
    injection hcc with hcc
    injection hcc with hcc _ _
    injection hcc with hcc
    injection hcc with hc1 hc2 _
    subst hc1 hc2
    obtain ⟨rest, e1, e2⟩ : ∃ rest, sts.flatMap St.cells ++ endC = headC sts ++ rest ∧ (cut1 sts m).flatMap St.cells ++ endC = headC (cut1 sts m) ++ rest := by
      cases sts with
      | nil => exact ⟨[], rfl, rfl⟩
      | cons s r => exact ⟨r.flatMap St.cells ++ endC, by rw [List.flatMap_cons, List.append_assoc]; rfl, by unfold cut1; rw [List.flatMap_cons, List.append_assoc]; rfl⟩
    rw [hh2.out] at e2
    refine hset2 w3 (by rw [hw3]; simp) (fun k hk => ?_) (cut1 sts m) rest _ _ _ (cut1_len sts m) e1 e2 (fun cur hg => ?_)
    · rw [hw3, heap_setCell_other _ ⟨g2, o2 + 2, none⟩ k _ hk, heap_setCell_other _ ⟨g2, o2 + 1, none⟩ k _ hk, heap_setCell_other _ ⟨g2, o2, none⟩ k _ hk]
    · rw [hw3, heap_setCell_same _ g2 (o2 + 2) _ _ _ (heap_setCell_same _ g2 (o2 + 1) _ _ _ (heap_setCell_same w2 g2 o2 _ _ _ hg))]
  have hs2 : wA.heap.size ≤ w2.heap.size := hb2'.out.size
  have hsA : wA.heap.size = w.heap.size + 1 := by rw [hA'.out]; simp
  have hs3 : w3.heap.size = w2.heap.size := by rw [hw3]; simp
  have hgw : g < w.heap.size := hSA.out g hgS
  have hF3 : FrX S w w3 := by
    rw [hw3]
    refine FrX.setCell (FrX.setCell (FrX.setCell ⟨?_, ?_, ?_, by omega, fun k hk _ => ?_⟩ hgS) hgS) hgS
    · exact hb2'.out.os.trans hbA'.out.os
    · exact hb2'.out.tape.trans hbA'.out.tape
    · exact hb2'.out.output.trans hbA'.out.output
    · exact (hb2'.out.block k (show k < wA.heap.size by omega)).trans (hbA'.out.block k hk)
  have hRes3 : w3.heap[w.heap.size]? = some (.cells #[.int .u8 0, .int .i64 0, .string ⟨#[]⟩] 61 (0, 0)) := by
    have hkn : w.heap.size ≠ g := by omega
    rw [hw3, heap_setCell_other _ ⟨g, o + 2, none⟩ _ _ hkn, heap_setCell_other _ ⟨g, o + 1, none⟩ _ _ hkn, heap_setCell_other _ ⟨g, o, none⟩ _ _ hkn]
    exact (hb2'.out.block w.heap.size (show w.heap.size < wA.heap.size by omega)).trans hRes'.out
  have hR3' := Lib.hid hR3
  have hF3' := Lib.hid hF3
  have hRes3' := Lib.hid hRes3
  have htr := Lib.hid (cut1_cut sts m)
  clear hR3 hF3 hRes3 hw3 hR2 hs2 hsA hs3 cP fP c0 c1 c2 fz cP2 fP2 d0 d1 d2 e0 e1 e2 hS2 hS3 hgw hPl hgl hc1 hI hI2 hc2
  go_loopw [] (fun wr => ∃ sts', trim sts' = cutS sts m ∧ RowAt wr S base P sts' ∧ FrX S w wr ∧ wr.heap[w.heap.size]? = some (.cells #[.int .u8 0, .int .i64 0, .string ⟨#[]⟩] 61 (0, 0))) (fun wr => lenAt wr P)
  case atStart => exact ⟨cut1 sts m, htr.out, hR3'.out, hF3'.out, hRes3'.out⟩
  case round =>
    obtain ⟨sts', htr', hRr, hFr, hRr0⟩ := hrel
    obtain ⟨g, o, c, a, b, t, hh, hPl, hgl, hne, hgS, hc1, hc2, cP, fP, ⟨c0, c1, c2⟩, fz, hset, hcut⟩ := hRr.front
    have hRR := hRr.own
    have r0 := cell_of_row wr w.heap.size 0 _ _ _ hRr0
    have r1 := cell_of_row wr w.heap.size 1 _ _ _ hRr0
    have r2 := cell_of_row wr w.heap.size 2 _ _ _ hRr0
    have rf0 := frozen_of_row wr w.heap.size 0 _ _ hRr0
    have rf1 := frozen_of_row wr w.heap.size 1 _ _ hRr0
    have rf2 := frozen_of_row wr w.heap.size 2 _ _ hRr0
    simp at r0 r1 r2
    obtain ⟨n1, hn1⟩ : ∃ n1, n1 = sts'.length + 1 := ⟨_, rfl⟩
    rw [← hn1] at hc1 cP
    have hI : (0 : Int) < (n1 : Int) := by omega
    have hI2 : 0 < n1 := by omega
    have hPne : P ≠ w.heap.size := by have := hR'.out.own P hR'.out.here; omega
    have hgne : g ≠ w.heap.size := by have := hR'.out.own g hgS; omega
    have htr2 := Lib.hid htr'
    have hRr2 := Lib.hid hRr
    have hFr2 := Lib.hid hFr
    have hRr02 := Lib.hid hRr0
    have hh2' := Lib.hid hh
    have hcut' := Lib.hid hcut
    have hn1' := Lib.hid hn1
    have hRR' := Lib.hid hRR
    clear htr' hRr hFr hRr0 hset hcut hRR
    by_cases hz0 : ∃ s r, sts' = s :: r ∧ s.size = 0
    · obtain ⟨s, r, hsr, hs0⟩ := hz0
      have hb0 : b = 0 := by
        have h := hh2'.out
        rw [hsr] at h
        injection h with _ h
        injection h with h _
        injection h with _ h
        rw [← h, hs0]
        rfl
      subst hb0
      have hn2 : 2 ≤ n1 := by rw [hn1, hsr]; simp
      have hI3 : (1 : Int) ≤ (n1 : Int) := by omega
      have hI4 : ¬ c = 1 := by omega
      have hI5 : (n1 : Int) ≤ (c : Int) := by omega
      have hI6 : (1 : Int) ≤ (c : Int) := by omega
      clear hh hn1
      go_wp2_with fail
      subst hsr
      have hr1 : n1 - 1 = r.length + 1 := by rw [hn1'.out]; simp
      have hPh : ∃ cs, wr.heap[P]? = some (.cells cs 85 (0, 0)) ∧ cs.size = 1 := by
        obtain ⟨_, _, g', o', c', cur', hP', _⟩ := hRr2.out
        exact ⟨_, hP', rfl⟩
      obtain ⟨cs, hcs, hcs1⟩ := hPh
      have hset := heap_setCell_same wr P 0 _ _ (.slice (some ⟨g, o + 3, none⟩) (n1 - 1) (c - 1)) hcs
      have hset1 : (wr.setCell ⟨P, 0, none⟩ (.slice (some ⟨g, o + 3, none⟩) (n1 - 1) (c - 1))).heap[P]? = some (.cells #[.slice (some ⟨g, o + 3, none⟩) (r.length + 1) (c - 1)] 85 (0, 0)) := by
        rw [hset, hr1]
        congr 2
        obtain ⟨l⟩ := cs
        match l, hcs1 with
        | [x], _ => rfl
      refine ⟨⟨r, ?_, hcut'.out _ (by simp) (fun k hk => heap_setCell_other wr ⟨P, 0, none⟩ k _ hk) s r rfl hset1, hFr2.out.setCell hR'.out.here, ?_⟩, ?_⟩
      · rw [← htr2.out, trim, if_pos hs0]
      · rw [heap_setCell_other wr ⟨P, 0, none⟩ _ _ (fun e => hPne e.symm)]
        exact hRr02.out
      · have l1 : lenAt wr P = n1 := by unfold lenAt; rw [cP]
        have l2 : lenAt (wr.setCell ⟨P, 0, none⟩ (.slice (some ⟨g, o + 3, none⟩) (n1 - 1) (c - 1))) P = r.length + 1 := by
          unfold lenAt
          rw [cell_of_row _ P 0 _ _ _ hset1]
          rfl
        rw [l1, l2]
        omega
    · have hbz : (b == 0) = false := by
        have h := hh2'.out
        cases hsc : sts' with
        | nil =>
          rw [hsc] at h
          injection h with _ h
          injection h with h _
          injection h with _ h
          rw [← h]
          rfl
        | cons s r =>
          rw [hsc] at h
          injection h with _ h
          injection h with h _
          injection h with _ h
          rw [← h]
          have : s.size ≠ 0 := fun e => hz0 ⟨s, r, hsc, e⟩
          simp
          exact this
      have hfin := Lib.hid (show cutS sts m = sts' by
        rw [← htr2.out]
        cases hsc : sts' with
        | nil => rfl
        | cons s r =>
          have : s.size ≠ 0 := fun e => hz0 ⟨s, r, hsc, e⟩
          rw [trim, if_neg this])
      clear hh hn1 hz0
      go_wp2_with fail
      have hRs : ∀ k, S k → k ≠ w.heap.size := fun k hk e => by have := hR'.out.own k hk; omega
      obtain ⟨w4, hw4⟩ : ∃ w4, w4 = ((wr.setCell ⟨w.heap.size, 0, none⟩ (.int .u8 a)).setCell ⟨w.heap.size, 1, none⟩ (.int .i64 b)).setCell ⟨w.heap.size, 2, none⟩ (.string ⟨t.toArray⟩) := ⟨_, rfl⟩
      have hR4 : w4.heap[w.heap.size]? = some (.cells #[.int .u8 a, .int .i64 b, .string ⟨t.toArray⟩] 61 (0, 0)) := by
        rw [hw4, heap_setCell_same _ _ 2 _ _ _ (heap_setCell_same _ _ 1 _ _ _ (heap_setCell_same wr _ 0 _ _ _ hRr02.out))]
        rfl
      have v0 := cell_of_row w4 w.heap.size 0 _ _ _ hR4
      have v1 := cell_of_row w4 w.heap.size 1 _ _ _ hR4
      have v2 := cell_of_row w4 w.heap.size 2 _ _ _ hR4
      simp at v0 v1 v2
      rw [← hw4]
      have hot : ∀ k, k ≠ w.heap.size → w4.heap[k]? = wr.heap[k]? := fun k hk => by
        rw [hw4, heap_setCell_other _ ⟨w.heap.size, 2, none⟩ k _ hk, heap_setCell_other _ ⟨w.heap.size, 1, none⟩ k _ hk, heap_setCell_other _ ⟨w.heap.size, 0, none⟩ k _ hk]
      have hs4 : w4.heap.size = wr.heap.size := by rw [hw4]; simp
      have hR5 : RowAt w4 S base P (cutS sts m) := by rw [hfin.out]; exact hRr2.out.kept (by omega) (fun k hk => hot k (hRs k hk))
      have hF5 : FrX S w w4 := ⟨by rw [hw4]; exact hFr2.out.os, by rw [hw4]; exact hFr2.out.tape, by rw [hw4]; exact hFr2.out.output, by have := hFr2.out.size; omega, fun k hk hn => (hot k (by omega)).trans (hFr2.out.block k hk hn)⟩
      have hv : stepV (headC (cutS sts m)) = .agg #[.int .u8 a, .int .i64 b, .string ⟨t.toArray⟩] := by rw [hfin.out, hh2'.out]; rfl
      rw [hv]
      exact bodyPost_ret (v := .agg #[.int .u8 a, .int .i64 b, .string ⟨t.toArray⟩]) (by simp [results, Try.results50, go_sem, v0, v1, v2]) rfl ⟨rfl, hR5, hF5⟩
end Go.Proofs.Ytoeplaofgmdlbaa
