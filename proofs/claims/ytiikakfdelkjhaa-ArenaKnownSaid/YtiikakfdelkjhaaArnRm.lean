/- Move: the document's. -/
import Derived.Test.YtiikakfdelkjhaaArnRj
namespace Go.Proofs.Ytiikakfdelkjhaa.Arn
open Go.RowKit
set_option maxRecDepth 20000
set_option linter.unusedVariables false

section
variable {w : World} {ow : Nat → Role} {P : Nat} {a : Av}
theorem rpar_fin {g : Nat} {sv : Nat → SV} {sc : Nat} {fA : Option Addr} {fc : Nat} (h : RA w ow P g a sv sc fA fc) {x y : Nat} (hxl : x < a.cnt) (hy : y ≤ 100000) (o : Obj) :
    RDid w (eight (w.alloc o) g (x * 8) (.bool (a.live x)) (.int .u64 ((a.dat x).id : Int)) (.bool (a.dat x).leaf) (.string ⟨(a.dat x).label.toArray⟩) (.slice (sv x).aA (sv x).an (sv x).ac) (.string ⟨(a.dat x).text.toArray⟩) (.int .i64 (y : Int)) (.slice (sv x).kA (a.kids x).length (sv x).kc)).drew ow P (parV a x y) := by
  rw [eight_cells]
  refine RDid.then_ ?_ (Below.refl _ _).drew
  have hb2 : Below w.heap.size w (w.alloc o) := (Below.refl _ _).alloc (Nat.le_refl _) o
  have hk := h.kids x hxl
  have hkl := hk.ns.1
  have e1 : (parV a x y).par x = (y : Int) := upd_same _ _ _
  have := rstored h hxl hb2 (a9 := parV a x y) ⟨(sv x).kA, (a.kids x).length, (sv x).kc, (sv x).aA, (sv x).an, (sv x).ac⟩ rfl rfl (fun i hi => ⟨rfl, upd_ne _ _ hi, rfl, rfl⟩) (by
      show ImmN _ _ (sv x).kA (a.kids x).length (sv x).kc (a.kids x)
      rw [hkl]
      exact hk.kept hb2.size (fun k e => .inl e) fun k e => hb2.block k (h.low k (by rw [e]; simp))) (h.ksmall x) ((h.dat x hxl).kept (fun k e => .inl e) fun k e => hb2.block k (h.low k (by rw [e]; simp))) (by rw [e1]; omega)
  unfold refCells at this
  rw [e1] at this
  exact this
set_option maxHeartbeats 2000000 in
theorem rmove_apart {g : Nat} {sv : Nat → SV} {sc : Nat} {fA : Option Addr} {fc : Nat} (h1 : RA w ow P g a sv sc fA fc) (hw : WF a) (hc : a.cnt < 100000) {x q k y j : Nat} (hok : MoveOk a x q k y j) (hlf : (a.dat y).leaf = false) (hqy : q ≠ y) :
    Calls Try.prog 35 #[.pointer (some ⟨P, 0, none⟩), .int .i64 (x : Int), .int .i64 (y : Int), .int .i64 (j : Int)] w fun e w' => e = .returned (.int .i64 0) ∧ RDid w w' ow P (moveV a x q k y j) := by
  have h1' := Lib.hid h1
  have hw' := Lib.hid hw
  have hok' := Lib.hid hok
  have hlv' := Lib.hid (show liveI a (x : Int) = true by unfold liveI; simpa using hok.lx)
  have hlw' := Lib.hid (show liveI a (y : Int) = true by unfold liveI; simpa using hok.ly)
  have hx0 : ((x : Int) == 0) = false := by have := hok.nz; simpa using this
  have hxl := hw.lt hok.lx
  have hyl := hw.lt hok.ly
  have hcap := h1.cap
  have hcm := h1.capm
  have hsm := h1.small
  have hxI : (x : Int) < (a.cnt : Int) := by omega
  have hyI : (y : Int) < (a.cnt : Int) := by omega
  have hkl := hw.kids_len y
  have hpre := Lib.hid (preV_spec hw hok.lx)
  have hll := Lib.hid (Nat.le_trans (hw.pre_len hpre.out hok.lx) h1.small)
  have hnot := Lib.hid (show y ∉ preV a x from fun hm => hok.nd ((hw.pre_iff hpre.out hok.lx y).1 hm).2)
  obtain ⟨l, hl⟩ : ∃ l, l = preV a x := ⟨_, rfl⟩
  rw [← hl] at hpre hll hnot
  obtain ⟨b, hb⟩ : ∃ b, b = cutV a q k := ⟨_, rfl⟩
  have hb' := Lib.hid hb
  have hgl := gap_le hok
  have hgv : gapV q y k j = j := by unfold gapV; rw [if_neg (fun e => hqy e.1)]
  rw [hgv, ← hb] at hgl
  have hmbs := Nat.lt_of_le_of_lt (cut_kids_le hw hok.idx y) hc
  rw [← hb] at hmbs
  obtain ⟨mb, hmb⟩ : ∃ mb, mb = (b.kids y).length := ⟨_, rfl⟩
  have hmb' := Lib.hid hmb
  rw [← hmb] at hgl hmbs
  have hbcnt : b.cnt = a.cnt := by rw [hb]; rfl
  have hbcnt' := Lib.hid hbcnt
  have hR := Lib.hid (show moveV a x q k y j = parV (putInV b x y (j)) x y by unfold moveV; rw [hgv, hb]; rfl)
  have hj := hok.jl
  obtain ⟨m, hm⟩ : ∃ m, m = (a.kids y).length := ⟨_, rfl⟩
  have hm' := Lib.hid hm
  rw [← hm] at hj hkl
  have hjI : ¬ (m : Int) < (j : Int) := by omega
  have hjI2 : (j : Int) ≤ (m : Int) := by omega
  have hsub := Lib.hid (fun W (hbw : Below w.heap.size w W) => rsubtree_any (h1.below hbw) hw.lv hok.lx hpre.out hll.out)
  have hF := Lib.hid (fun W (hbw : Below w.heap.size w W) => And.intro (h1.below hbw).head_cells.1 (And.intro ((h1.below hbw).eight hyl).2.2.1 (And.intro ((h1.below hbw).eight hyl).2.2.2.2.2.2.2 ((h1.below hbw).eight hxl).2.2.2.2.2.2.1)))
  obtain ⟨c0, c2, c7, c6⟩ := hF.out _ (Below.refl _ _)
  rw [hlf] at c2
  rw [hok.par] at c6
  rw [← hm] at c7
  have hlf' := Lib.hid hlf
  have hqI : ((q : Int) == (y : Int)) = false := by simp; omega
  clear h1 hw hok hl hb hm hmb hgv hc hlf hbcnt
  go_enter Try.func35, Try.ntmps35
  go_upto_region 17 with (first
    | (go_at_call 31; refine (rlive_any h1'.out hw'.out _).mono ?_; rintro e w7 ⟨rfl, rfl⟩; first | rw [hlv'.out] | rw [hlw'.out])
    | (go_at_call 51; refine (hsub.out _ (Below.refl _ _)).mono ?_; rintro e w2 ⟨gA, gc, rfl, hn2⟩; clear c0 c2 c7 c6; obtain ⟨c0, c2, c7, c6⟩ := hF.out _ hn2.bel; rw [hlf'.out] at c2; rw [hok'.out.par] at c6; rw [← hm'.out] at c7; have hn2' := Lib.hid hn2; clear hn2)
    | (go_at_call 52; refine (place_none _ gA l.length gc l y hn2'.out.own.ns (by have := hll.out; omega) hnot.out).mono ?_; rintro e w7 ⟨rfl, rfl⟩)
    | (go_at_call 50; refine (unlink_any (h1'.out.below hn2'.out.bel) hw'.out hok'.out.lx hok'.out.lq hok'.out.par hok'.out.idx).mono ?_; rintro e w3 ⟨rfl, ow3, ⟨g3, sv3, sc3, fA3, fc3, h3⟩, hr3, hf3⟩; rw [← hb'.out] at h3; clear c0 c2 c7 c6; have hcap3 := h3.cap; have hcm3 := h3.capm; have c0 := h3.head_cells.1; obtain ⟨z0, z1, z2, z3, z4, z5, z6, z7⟩ := h3.eight (s := y) (by rw [hbcnt'.out]; exact hyl); rw [← hmb'.out] at z7; rw [hbcnt'.out] at c0 hcap3; have h3' := Lib.hid h3; have hr3' := Lib.hid hr3; have hf3' := Lib.hid hf3; clear h3 hr3 hf3)
    | (go_at_call 53; have hki := Lib.hid (h3'.out.kids y (by rw [hbcnt'.out]; exact hyl)); have hN8 := Lib.hid (show Ns w3 (sv3 y).kA mb (b.kids y) ∧ mb ≤ (sv3 y).kc by rw [hmb'.out, hki.out.ns.1]; exact ⟨hki.out.ns, hki.out.knc⟩); refine (rput_any _ (sv3 y).kA mb (sv3 y).kc (b.kids y) (hN8.out.1.below ((Below.refl _ _).alloc (Nat.le_refl _) _)) hN8.out.2 hki.out.kcm hki.out.knil (by omega) (j) x hgl).mono ?_; rintro e w5 ⟨A2, c2, rfl, hn5⟩; have hn5' := Lib.hid hn5; have R5 := (hn5.bel.block w3.heap.size (by simp)).trans (heap_alloc_new w3 _); clear z0 z1 z2 z3 z4 z5 z6 z7 c0; obtain ⟨y0, y1, y2, y3, y4, y5, y6, y7, yf⟩ := eight_of R5; clear R5 hn5))
  rename_i K3 hK3
  clear y0 y1 y2 y3 y4 y5 y6 y7 yf
  have hyb := Lib.hid (show y < b.cnt by rw [hbcnt'.out]; exact hyl)
  obtain ⟨W6, hW6⟩ : ∃ W6, W6 = w5.setCell ⟨w3.heap.size, 7, none⟩ (.slice A2 (mb + 1) c2) := ⟨_, rfl⟩
  rw [← hW6]
  obtain ⟨R6, B6, D6⟩ := rkids_fin h3'.out hyb.out (b := w3.heap.size) ((Below.refl _ _).alloc (Nat.le_refl _) _) (heap_alloc_new w3 _) (Nat.le_refl _) hn5'.out (by rw [ins_len, ← hmb'.out]; omega) hW6
  clear hW6 hn5'
  have h6 := h3'.out.below B6
  obtain ⟨y0, y1, y2, y3, y4, y5, y6, y7, yf⟩ := eight_of R6
  have c0 := h6.head_cells.1
  rw [hbcnt'.out] at c0
  obtain ⟨z0, z1, z2, z3, z4, z5, z6, z7⟩ := h6.eight hyb.out
  have zf := h6.frz
  have D6' := Lib.hid D6
  clear h6 R6 B6 D6
  go_region
  refine hK3 _ _ ?_
  clear hK3 y0 y1 y2 y3 y4 y5 y6 y7 yf c0 z0 z1 z2 z3 z4 z5 z6 z7 zf
  obtain ⟨W9, hW9⟩ : ∃ W9, W9 = (eight W6 g3 (y * 8) (.bool (b.live y)) (.int .u64 ((b.dat y).id : Int)) (.bool (b.dat y).leaf) (.string ⟨(b.dat y).label.toArray⟩) (.slice (sv3 y).aA (sv3 y).an (sv3 y).ac) (.string ⟨(b.dat y).text.toArray⟩) (.int .i64 (b.par y)) (.slice A2 (mb + 1) c2)).drew := ⟨_, rfl⟩
  have hW9' := hW9
  unfold eight at hW9'
  rw [← hW9']
  rw [← hW9] at D6'
  clear hW9 hW9'
  obtain ⟨ow9, ⟨g9, sv9, sc9, fA9, fc9, h9⟩, hr9, hf9⟩ := RDid.after hr3'.out hf3'.out D6'.out
  obtain ⟨b2, hb2⟩ : ∃ b2, b2 = putInV b x y (j) := ⟨_, rfl⟩
  rw [show ({ b with kids := upd b.kids y (ins (b.kids y) (j) x) } : Av) = b2 from hb2.symm] at h9
  have hb2c : b2.cnt = a.cnt := by rw [hb2]; exact hbcnt'.out
  have hb2' := Lib.hid hb2
  have hxb := Lib.hid (show x < b2.cnt by rw [hb2c]; exact hxl)
  have hb2c' := Lib.hid hb2c
  have h9' := Lib.hid h9
  have hr9' := Lib.hid hr9
  have hf9' := Lib.hid hf9
  have hcap9 := h9.cap
  have hcm9 := h9.capm
  rw [hb2c] at hcap9
  have c0 := h9.head_cells.1
  rw [hb2c] at c0
  obtain ⟨z0, z1, z2, z3, z4, z5, z6, z7⟩ := h9.eight hxb.out
  obtain ⟨mx, hmx⟩ : ∃ mx, mx = (b2.kids x).length := ⟨_, rfl⟩
  have hmx' := Lib.hid hmx
  rw [← hmx] at z7
  have hal9 := Lib.hid (fun o => h9.below ((Below.refl _ _).alloc (Nat.le_refl _) o))
  have C0 := fun o => (hal9.out o).head_cells.1
  rw [hb2c] at C0
  have Z := fun o => (hal9.out o).eight hxb.out
  have Zf := fun o => (hal9.out o).frz
  have Z0 := fun o => (Z o).1
  have Z1 := fun o => (Z o).2.1
  have Z2 := fun o => (Z o).2.2.1
  have Z3 := fun o => (Z o).2.2.2.1
  have Z4 := fun o => (Z o).2.2.2.2.1
  have Z5 := fun o => (Z o).2.2.2.2.2.1
  have Z6 := fun o => (Z o).2.2.2.2.2.2.1
  have Z7 := fun o => (Z o).2.2.2.2.2.2.2
  rw [← hmx] at Z7
  clear Z h9 hr9 hf9 hb2 hb2c hmx
  go_wp2_with fail
  rename_i K4 hK4
  go_region
  refine hK4 _ _ ?_
  clear hK4
  go_wp2_with fail
  go_ret
  have hfin := RDid.after (fun k hk => rfl) (FrX.of_below hn2'.out.bel) (RDid.after hr9'.out hf9'.out (rpar_fin h9'.out hxb.out (y := y) (by omega) (.cells #[.bool (b2.live x), .int .u64 ((b2.dat x).id : Int), .bool (b2.dat x).leaf, .string ⟨(b2.dat x).label.toArray⟩, .slice (sv9 x).aA (sv9 x).an (sv9 x).ac, .string ⟨(b2.dat x).text.toArray⟩, .int .i64 (y : Int), .slice (sv9 x).kA mx (sv9 x).kc] 35)))
  rw [← hmx'.out] at hfin
  unfold eight at hfin
  rw [hR.out, ← hb2'.out]
  exact ⟨rfl, hfin⟩
set_option maxHeartbeats 2000000 in
theorem rmove_late {g : Nat} {sv : Nat → SV} {sc : Nat} {fA : Option Addr} {fc : Nat} (h1 : RA w ow P g a sv sc fA fc) (hw : WF a) (hc : a.cnt < 100000) {x q k y j : Nat} (hok : MoveOk a x q k y j) (hlf : (a.dat y).leaf = false) (hqy : q = y) (hkj : ¬ k < j) :
    Calls Try.prog 35 #[.pointer (some ⟨P, 0, none⟩), .int .i64 (x : Int), .int .i64 (y : Int), .int .i64 (j : Int)] w fun e w' => e = .returned (.int .i64 0) ∧ RDid w w' ow P (moveV a x q k y j) := by
  have h1' := Lib.hid h1
  have hw' := Lib.hid hw
  have hok' := Lib.hid hok
  have hlv' := Lib.hid (show liveI a (x : Int) = true by unfold liveI; simpa using hok.lx)
  have hlw' := Lib.hid (show liveI a (y : Int) = true by unfold liveI; simpa using hok.ly)
  have hx0 : ((x : Int) == 0) = false := by have := hok.nz; simpa using this
  have hxl := hw.lt hok.lx
  have hyl := hw.lt hok.ly
  have hcap := h1.cap
  have hcm := h1.capm
  have hsm := h1.small
  have hxI : (x : Int) < (a.cnt : Int) := by omega
  have hyI : (y : Int) < (a.cnt : Int) := by omega
  have hkl := hw.kids_len y
  have hpre := Lib.hid (preV_spec hw hok.lx)
  have hll := Lib.hid (Nat.le_trans (hw.pre_len hpre.out hok.lx) h1.small)
  have hnot := Lib.hid (show y ∉ preV a x from fun hm => hok.nd ((hw.pre_iff hpre.out hok.lx y).1 hm).2)
  obtain ⟨l, hl⟩ : ∃ l, l = preV a x := ⟨_, rfl⟩
  rw [← hl] at hpre hll hnot
  obtain ⟨b, hb⟩ : ∃ b, b = cutV a q k := ⟨_, rfl⟩
  have hb' := Lib.hid hb
  have hgl := gap_le hok
  have hgv : gapV q y k j = j := by unfold gapV; rw [if_neg (fun e => hkj e.2)]
  rw [hgv, ← hb] at hgl
  have hmbs := Nat.lt_of_le_of_lt (cut_kids_le hw hok.idx y) hc
  rw [← hb] at hmbs
  obtain ⟨mb, hmb⟩ : ∃ mb, mb = (b.kids y).length := ⟨_, rfl⟩
  have hmb' := Lib.hid hmb
  rw [← hmb] at hgl hmbs
  have hbcnt : b.cnt = a.cnt := by rw [hb]; rfl
  have hbcnt' := Lib.hid hbcnt
  have hR := Lib.hid (show moveV a x q k y j = parV (putInV b x y (j)) x y by unfold moveV; rw [hgv, hb]; rfl)
  have hj := hok.jl
  obtain ⟨m, hm⟩ : ∃ m, m = (a.kids y).length := ⟨_, rfl⟩
  have hm' := Lib.hid hm
  rw [← hm] at hj hkl
  have hjI : ¬ (m : Int) < (j : Int) := by omega
  have hjI2 : (j : Int) ≤ (m : Int) := by omega
  have hsub := Lib.hid (fun W (hbw : Below w.heap.size w W) => rsubtree_any (h1.below hbw) hw.lv hok.lx hpre.out hll.out)
  have hF := Lib.hid (fun W (hbw : Below w.heap.size w W) => And.intro (h1.below hbw).head_cells.1 (And.intro ((h1.below hbw).eight hyl).2.2.1 (And.intro ((h1.below hbw).eight hyl).2.2.2.2.2.2.2 ((h1.below hbw).eight hxl).2.2.2.2.2.2.1)))
  obtain ⟨c0, c2, c7, c6⟩ := hF.out _ (Below.refl _ _)
  rw [hlf] at c2
  rw [hok.par] at c6
  rw [← hm] at c7
  have hlf' := Lib.hid hlf
  have hqI : ((q : Int) == (y : Int)) = true := by simp; omega
  have hkI : ¬ (k : Int) < (j : Int) := by omega
  clear hqy hkj
  clear h1 hw hok hl hb hm hmb hgv hc hlf hbcnt
  go_enter Try.func35, Try.ntmps35
  go_upto_region 17 with (first
    | (go_at_call 31; refine (rlive_any h1'.out hw'.out _).mono ?_; rintro e w7 ⟨rfl, rfl⟩; first | rw [hlv'.out] | rw [hlw'.out])
    | (go_at_call 51; refine (hsub.out _ (Below.refl _ _)).mono ?_; rintro e w2 ⟨gA, gc, rfl, hn2⟩; clear c0 c2 c7 c6; obtain ⟨c0, c2, c7, c6⟩ := hF.out _ hn2.bel; rw [hlf'.out] at c2; rw [hok'.out.par] at c6; rw [← hm'.out] at c7; have hn2' := Lib.hid hn2; clear hn2)
    | (go_at_call 52; refine (place_none _ gA l.length gc l y hn2'.out.own.ns (by have := hll.out; omega) hnot.out).mono ?_; rintro e w7 ⟨rfl, rfl⟩)
    | (go_at_call 50; refine (unlink_any (h1'.out.below hn2'.out.bel) hw'.out hok'.out.lx hok'.out.lq hok'.out.par hok'.out.idx).mono ?_; rintro e w3 ⟨rfl, ow3, ⟨g3, sv3, sc3, fA3, fc3, h3⟩, hr3, hf3⟩; rw [← hb'.out] at h3; clear c0 c2 c7 c6; have hcap3 := h3.cap; have hcm3 := h3.capm; have c0 := h3.head_cells.1; obtain ⟨z0, z1, z2, z3, z4, z5, z6, z7⟩ := h3.eight (s := y) (by rw [hbcnt'.out]; exact hyl); rw [← hmb'.out] at z7; rw [hbcnt'.out] at c0 hcap3; have h3' := Lib.hid h3; have hr3' := Lib.hid hr3; have hf3' := Lib.hid hf3; clear h3 hr3 hf3)
    | (go_at_call 53; have hki := Lib.hid (h3'.out.kids y (by rw [hbcnt'.out]; exact hyl)); have hN8 := Lib.hid (show Ns w3 (sv3 y).kA mb (b.kids y) ∧ mb ≤ (sv3 y).kc by rw [hmb'.out, hki.out.ns.1]; exact ⟨hki.out.ns, hki.out.knc⟩); refine (rput_any _ (sv3 y).kA mb (sv3 y).kc (b.kids y) (hN8.out.1.below ((Below.refl _ _).alloc (Nat.le_refl _) _)) hN8.out.2 hki.out.kcm hki.out.knil (by omega) (j) x hgl).mono ?_; rintro e w5 ⟨A2, c2, rfl, hn5⟩; have hn5' := Lib.hid hn5; have R5 := (hn5.bel.block w3.heap.size (by simp)).trans (heap_alloc_new w3 _); clear z0 z1 z2 z3 z4 z5 z6 z7 c0; obtain ⟨y0, y1, y2, y3, y4, y5, y6, y7, yf⟩ := eight_of R5; clear R5 hn5))
  rename_i K3 hK3
  clear y0 y1 y2 y3 y4 y5 y6 y7 yf
  have hyb := Lib.hid (show y < b.cnt by rw [hbcnt'.out]; exact hyl)
  obtain ⟨W6, hW6⟩ : ∃ W6, W6 = w5.setCell ⟨w3.heap.size, 7, none⟩ (.slice A2 (mb + 1) c2) := ⟨_, rfl⟩
  rw [← hW6]
  obtain ⟨R6, B6, D6⟩ := rkids_fin h3'.out hyb.out (b := w3.heap.size) ((Below.refl _ _).alloc (Nat.le_refl _) _) (heap_alloc_new w3 _) (Nat.le_refl _) hn5'.out (by rw [ins_len, ← hmb'.out]; omega) hW6
  clear hW6 hn5'
  have h6 := h3'.out.below B6
  obtain ⟨y0, y1, y2, y3, y4, y5, y6, y7, yf⟩ := eight_of R6
  have c0 := h6.head_cells.1
  rw [hbcnt'.out] at c0
  obtain ⟨z0, z1, z2, z3, z4, z5, z6, z7⟩ := h6.eight hyb.out
  have zf := h6.frz
  have D6' := Lib.hid D6
  clear h6 R6 B6 D6
  go_region
  refine hK3 _ _ ?_
  clear hK3 y0 y1 y2 y3 y4 y5 y6 y7 yf c0 z0 z1 z2 z3 z4 z5 z6 z7 zf
  obtain ⟨W9, hW9⟩ : ∃ W9, W9 = (eight W6 g3 (y * 8) (.bool (b.live y)) (.int .u64 ((b.dat y).id : Int)) (.bool (b.dat y).leaf) (.string ⟨(b.dat y).label.toArray⟩) (.slice (sv3 y).aA (sv3 y).an (sv3 y).ac) (.string ⟨(b.dat y).text.toArray⟩) (.int .i64 (b.par y)) (.slice A2 (mb + 1) c2)).drew := ⟨_, rfl⟩
  have hW9' := hW9
  unfold eight at hW9'
  rw [← hW9']
  rw [← hW9] at D6'
  clear hW9 hW9'
  obtain ⟨ow9, ⟨g9, sv9, sc9, fA9, fc9, h9⟩, hr9, hf9⟩ := RDid.after hr3'.out hf3'.out D6'.out
  obtain ⟨b2, hb2⟩ : ∃ b2, b2 = putInV b x y (j) := ⟨_, rfl⟩
  rw [show ({ b with kids := upd b.kids y (ins (b.kids y) (j) x) } : Av) = b2 from hb2.symm] at h9
  have hb2c : b2.cnt = a.cnt := by rw [hb2]; exact hbcnt'.out
  have hb2' := Lib.hid hb2
  have hxb := Lib.hid (show x < b2.cnt by rw [hb2c]; exact hxl)
  have hb2c' := Lib.hid hb2c
  have h9' := Lib.hid h9
  have hr9' := Lib.hid hr9
  have hf9' := Lib.hid hf9
  have hcap9 := h9.cap
  have hcm9 := h9.capm
  rw [hb2c] at hcap9
  have c0 := h9.head_cells.1
  rw [hb2c] at c0
  obtain ⟨z0, z1, z2, z3, z4, z5, z6, z7⟩ := h9.eight hxb.out
  obtain ⟨mx, hmx⟩ : ∃ mx, mx = (b2.kids x).length := ⟨_, rfl⟩
  have hmx' := Lib.hid hmx
  rw [← hmx] at z7
  have hal9 := Lib.hid (fun o => h9.below ((Below.refl _ _).alloc (Nat.le_refl _) o))
  have C0 := fun o => (hal9.out o).head_cells.1
  rw [hb2c] at C0
  have Z := fun o => (hal9.out o).eight hxb.out
  have Zf := fun o => (hal9.out o).frz
  have Z0 := fun o => (Z o).1
  have Z1 := fun o => (Z o).2.1
  have Z2 := fun o => (Z o).2.2.1
  have Z3 := fun o => (Z o).2.2.2.1
  have Z4 := fun o => (Z o).2.2.2.2.1
  have Z5 := fun o => (Z o).2.2.2.2.2.1
  have Z6 := fun o => (Z o).2.2.2.2.2.2.1
  have Z7 := fun o => (Z o).2.2.2.2.2.2.2
  rw [← hmx] at Z7
  clear Z h9 hr9 hf9 hb2 hb2c hmx
  go_wp2_with fail
  rename_i K4 hK4
  go_region
  refine hK4 _ _ ?_
  clear hK4
  go_wp2_with fail
  go_ret
  have hfin := RDid.after (fun k hk => rfl) (FrX.of_below hn2'.out.bel) (RDid.after hr9'.out hf9'.out (rpar_fin h9'.out hxb.out (y := y) (by omega) (.cells #[.bool (b2.live x), .int .u64 ((b2.dat x).id : Int), .bool (b2.dat x).leaf, .string ⟨(b2.dat x).label.toArray⟩, .slice (sv9 x).aA (sv9 x).an (sv9 x).ac, .string ⟨(b2.dat x).text.toArray⟩, .int .i64 (y : Int), .slice (sv9 x).kA mx (sv9 x).kc] 35)))
  rw [← hmx'.out] at hfin
  unfold eight at hfin
  rw [hR.out, ← hb2'.out]
  exact ⟨rfl, hfin⟩
set_option maxHeartbeats 2000000 in
theorem rmove_early {g : Nat} {sv : Nat → SV} {sc : Nat} {fA : Option Addr} {fc : Nat} (h1 : RA w ow P g a sv sc fA fc) (hw : WF a) (hc : a.cnt < 100000) {x q k y j : Nat} (hok : MoveOk a x q k y (j + 1)) (hlf : (a.dat y).leaf = false) (hqy : q = y) (hkj : k < j + 1) :
    Calls Try.prog 35 #[.pointer (some ⟨P, 0, none⟩), .int .i64 (x : Int), .int .i64 (y : Int), .int .i64 ((j + 1 : Nat) : Int)] w fun e w' => e = .returned (.int .i64 0) ∧ RDid w w' ow P (moveV a x q k y (j + 1)) := by
  have h1' := Lib.hid h1
  have hw' := Lib.hid hw
  have hok' := Lib.hid hok
  have hlv' := Lib.hid (show liveI a (x : Int) = true by unfold liveI; simpa using hok.lx)
  have hlw' := Lib.hid (show liveI a (y : Int) = true by unfold liveI; simpa using hok.ly)
  have hx0 : ((x : Int) == 0) = false := by have := hok.nz; simpa using this
  have hxl := hw.lt hok.lx
  have hyl := hw.lt hok.ly
  have hcap := h1.cap
  have hcm := h1.capm
  have hsm := h1.small
  have hxI : (x : Int) < (a.cnt : Int) := by omega
  have hyI : (y : Int) < (a.cnt : Int) := by omega
  have hkl := hw.kids_len y
  have hpre := Lib.hid (preV_spec hw hok.lx)
  have hll := Lib.hid (Nat.le_trans (hw.pre_len hpre.out hok.lx) h1.small)
  have hnot := Lib.hid (show y ∉ preV a x from fun hm => hok.nd ((hw.pre_iff hpre.out hok.lx y).1 hm).2)
  obtain ⟨l, hl⟩ : ∃ l, l = preV a x := ⟨_, rfl⟩
  rw [← hl] at hpre hll hnot
  obtain ⟨b, hb⟩ : ∃ b, b = cutV a q k := ⟨_, rfl⟩
  have hb' := Lib.hid hb
  have hgl := gap_le hok
  have hgv : gapV q y k (j + 1) = j := by unfold gapV; rw [if_pos ⟨hqy, hkj⟩]; rfl
  rw [hgv, ← hb] at hgl
  have hmbs := Nat.lt_of_le_of_lt (cut_kids_le hw hok.idx y) hc
  rw [← hb] at hmbs
  obtain ⟨mb, hmb⟩ : ∃ mb, mb = (b.kids y).length := ⟨_, rfl⟩
  have hmb' := Lib.hid hmb
  rw [← hmb] at hgl hmbs
  have hbcnt : b.cnt = a.cnt := by rw [hb]; rfl
  have hbcnt' := Lib.hid hbcnt
  have hR := Lib.hid (show moveV a x q k y (j + 1) = parV (putInV b x y (j)) x y by unfold moveV; rw [hgv, hb]; rfl)
  have hj := hok.jl
  obtain ⟨m, hm⟩ : ∃ m, m = (a.kids y).length := ⟨_, rfl⟩
  have hm' := Lib.hid hm
  rw [← hm] at hj hkl
  have hjI : ¬ (m : Int) < ((j + 1 : Nat) : Int) := by omega
  have hjI2 : ((j + 1 : Nat) : Int) ≤ (m : Int) := by omega
  have hsub := Lib.hid (fun W (hbw : Below w.heap.size w W) => rsubtree_any (h1.below hbw) hw.lv hok.lx hpre.out hll.out)
  have hF := Lib.hid (fun W (hbw : Below w.heap.size w W) => And.intro (h1.below hbw).head_cells.1 (And.intro ((h1.below hbw).eight hyl).2.2.1 (And.intro ((h1.below hbw).eight hyl).2.2.2.2.2.2.2 ((h1.below hbw).eight hxl).2.2.2.2.2.2.1)))
  obtain ⟨c0, c2, c7, c6⟩ := hF.out _ (Below.refl _ _)
  rw [hlf] at c2
  rw [hok.par] at c6
  rw [← hm] at c7
  have hlf' := Lib.hid hlf
  have hqI : ((q : Int) == (y : Int)) = true := by simp; omega
  have hkI : (k : Int) < (j : Int) + 1 := by omega
  have hj1 : ((j : Int) + 1) - 1 = (j : Int) := by omega
  clear hqy hkj
  clear h1 hw hok hl hb hm hmb hgv hc hlf hbcnt
  go_enter Try.func35, Try.ntmps35
  go_upto_region 17 with (first
    | (go_at_call 31; refine (rlive_any h1'.out hw'.out _).mono ?_; rintro e w7 ⟨rfl, rfl⟩; first | rw [hlv'.out] | rw [hlw'.out])
    | (go_at_call 51; refine (hsub.out _ (Below.refl _ _)).mono ?_; rintro e w2 ⟨gA, gc, rfl, hn2⟩; clear c0 c2 c7 c6; obtain ⟨c0, c2, c7, c6⟩ := hF.out _ hn2.bel; rw [hlf'.out] at c2; rw [hok'.out.par] at c6; rw [← hm'.out] at c7; have hn2' := Lib.hid hn2; clear hn2)
    | (go_at_call 52; refine (place_none _ gA l.length gc l y hn2'.out.own.ns (by have := hll.out; omega) hnot.out).mono ?_; rintro e w7 ⟨rfl, rfl⟩)
    | (go_at_call 50; refine (unlink_any (h1'.out.below hn2'.out.bel) hw'.out hok'.out.lx hok'.out.lq hok'.out.par hok'.out.idx).mono ?_; rintro e w3 ⟨rfl, ow3, ⟨g3, sv3, sc3, fA3, fc3, h3⟩, hr3, hf3⟩; rw [← hb'.out] at h3; clear c0 c2 c7 c6; have hcap3 := h3.cap; have hcm3 := h3.capm; have c0 := h3.head_cells.1; obtain ⟨z0, z1, z2, z3, z4, z5, z6, z7⟩ := h3.eight (s := y) (by rw [hbcnt'.out]; exact hyl); rw [← hmb'.out] at z7; rw [hbcnt'.out] at c0 hcap3; have h3' := Lib.hid h3; have hr3' := Lib.hid hr3; have hf3' := Lib.hid hf3; clear h3 hr3 hf3)
    | (go_at_call 53; have hki := Lib.hid (h3'.out.kids y (by rw [hbcnt'.out]; exact hyl)); have hN8 := Lib.hid (show Ns w3 (sv3 y).kA mb (b.kids y) ∧ mb ≤ (sv3 y).kc by rw [hmb'.out, hki.out.ns.1]; exact ⟨hki.out.ns, hki.out.knc⟩); refine (rput_any _ (sv3 y).kA mb (sv3 y).kc (b.kids y) (hN8.out.1.below ((Below.refl _ _).alloc (Nat.le_refl _) _)) hN8.out.2 hki.out.kcm hki.out.knil (by omega) (j) x hgl).mono ?_; rintro e w5 ⟨A2, c2, rfl, hn5⟩; have hn5' := Lib.hid hn5; have R5 := (hn5.bel.block w3.heap.size (by simp)).trans (heap_alloc_new w3 _); clear z0 z1 z2 z3 z4 z5 z6 z7 c0; obtain ⟨y0, y1, y2, y3, y4, y5, y6, y7, yf⟩ := eight_of R5; clear R5 hn5))
  rename_i K3 hK3
  clear y0 y1 y2 y3 y4 y5 y6 y7 yf
  have hyb := Lib.hid (show y < b.cnt by rw [hbcnt'.out]; exact hyl)
  obtain ⟨W6, hW6⟩ : ∃ W6, W6 = w5.setCell ⟨w3.heap.size, 7, none⟩ (.slice A2 (mb + 1) c2) := ⟨_, rfl⟩
  rw [← hW6]
  obtain ⟨R6, B6, D6⟩ := rkids_fin h3'.out hyb.out (b := w3.heap.size) ((Below.refl _ _).alloc (Nat.le_refl _) _) (heap_alloc_new w3 _) (Nat.le_refl _) hn5'.out (by rw [ins_len, ← hmb'.out]; omega) hW6
  clear hW6 hn5'
  have h6 := h3'.out.below B6
  obtain ⟨y0, y1, y2, y3, y4, y5, y6, y7, yf⟩ := eight_of R6
  have c0 := h6.head_cells.1
  rw [hbcnt'.out] at c0
  obtain ⟨z0, z1, z2, z3, z4, z5, z6, z7⟩ := h6.eight hyb.out
  have zf := h6.frz
  have D6' := Lib.hid D6
  clear h6 R6 B6 D6
  go_region
  refine hK3 _ _ ?_
  clear hK3 y0 y1 y2 y3 y4 y5 y6 y7 yf c0 z0 z1 z2 z3 z4 z5 z6 z7 zf
  obtain ⟨W9, hW9⟩ : ∃ W9, W9 = (eight W6 g3 (y * 8) (.bool (b.live y)) (.int .u64 ((b.dat y).id : Int)) (.bool (b.dat y).leaf) (.string ⟨(b.dat y).label.toArray⟩) (.slice (sv3 y).aA (sv3 y).an (sv3 y).ac) (.string ⟨(b.dat y).text.toArray⟩) (.int .i64 (b.par y)) (.slice A2 (mb + 1) c2)).drew := ⟨_, rfl⟩
  have hW9' := hW9
  unfold eight at hW9'
  rw [← hW9']
  rw [← hW9] at D6'
  clear hW9 hW9'
  obtain ⟨ow9, ⟨g9, sv9, sc9, fA9, fc9, h9⟩, hr9, hf9⟩ := RDid.after hr3'.out hf3'.out D6'.out
  obtain ⟨b2, hb2⟩ : ∃ b2, b2 = putInV b x y (j) := ⟨_, rfl⟩
  rw [show ({ b with kids := upd b.kids y (ins (b.kids y) (j) x) } : Av) = b2 from hb2.symm] at h9
  have hb2c : b2.cnt = a.cnt := by rw [hb2]; exact hbcnt'.out
  have hb2' := Lib.hid hb2
  have hxb := Lib.hid (show x < b2.cnt by rw [hb2c]; exact hxl)
  have hb2c' := Lib.hid hb2c
  have h9' := Lib.hid h9
  have hr9' := Lib.hid hr9
  have hf9' := Lib.hid hf9
  have hcap9 := h9.cap
  have hcm9 := h9.capm
  rw [hb2c] at hcap9
  have c0 := h9.head_cells.1
  rw [hb2c] at c0
  obtain ⟨z0, z1, z2, z3, z4, z5, z6, z7⟩ := h9.eight hxb.out
  obtain ⟨mx, hmx⟩ : ∃ mx, mx = (b2.kids x).length := ⟨_, rfl⟩
  have hmx' := Lib.hid hmx
  rw [← hmx] at z7
  have hal9 := Lib.hid (fun o => h9.below ((Below.refl _ _).alloc (Nat.le_refl _) o))
  have C0 := fun o => (hal9.out o).head_cells.1
  rw [hb2c] at C0
  have Z := fun o => (hal9.out o).eight hxb.out
  have Zf := fun o => (hal9.out o).frz
  have Z0 := fun o => (Z o).1
  have Z1 := fun o => (Z o).2.1
  have Z2 := fun o => (Z o).2.2.1
  have Z3 := fun o => (Z o).2.2.2.1
  have Z4 := fun o => (Z o).2.2.2.2.1
  have Z5 := fun o => (Z o).2.2.2.2.2.1
  have Z6 := fun o => (Z o).2.2.2.2.2.2.1
  have Z7 := fun o => (Z o).2.2.2.2.2.2.2
  rw [← hmx] at Z7
  clear Z h9 hr9 hf9 hb2 hb2c hmx
  go_wp2_with fail
  rename_i K4 hK4
  go_region
  refine hK4 _ _ ?_
  clear hK4
  go_wp2_with fail
  go_ret
  have hfin := RDid.after (fun k hk => rfl) (FrX.of_below hn2'.out.bel) (RDid.after hr9'.out hf9'.out (rpar_fin h9'.out hxb.out (y := y) (by omega) (.cells #[.bool (b2.live x), .int .u64 ((b2.dat x).id : Int), .bool (b2.dat x).leaf, .string ⟨(b2.dat x).label.toArray⟩, .slice (sv9 x).aA (sv9 x).an (sv9 x).ac, .string ⟨(b2.dat x).text.toArray⟩, .int .i64 (y : Int), .slice (sv9 x).kA mx (sv9 x).kc] 35)))
  rw [← hmx'.out] at hfin
  unfold eight at hfin
  rw [hR.out, ← hb2'.out]
  exact ⟨rfl, hfin⟩
end
end Go.Proofs.Ytiikakfdelkjhaa.Arn
