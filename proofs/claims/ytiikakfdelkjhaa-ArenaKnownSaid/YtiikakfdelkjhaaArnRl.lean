/- Add: the document's. -/
import Derived.Test.YtiikakfdelkjhaaArnRk
import Derived.IntWalk
namespace Go.Proofs.Ytiikakfdelkjhaa.Arn
open Go.RowKit
set_option maxRecDepth 20000
set_option linter.unusedVariables false

section
variable {w : World} {ow : Nat → Role} {P : Nat} {a : Av}
set_option maxHeartbeats 3000000 in
theorem radd_reuse {g : Nat} {sv : Nat → SV} {sc : Nat} {fA : Option Addr} {fc : Nat} (h1 : RA w ow P g a sv sc fA fc) (hw : WF a) (hc : a.cnt < 100000) {x j : Nat} (hx : a.live x = true) (hlf : (a.dat x).leaf = false) (hj : j ≤ (a.kids x).length) (T : Nat → Prop) (d : Dt) (dA : Option Addr) (dn dc : Nat) (hd : DatOk T w d dA dn dc) (hT : ∀ k, T k → k < w.heap.size) (hfree : a.free ≠ []) :
    Calls Try.prog 37 #[.pointer (some ⟨P, 0, none⟩), .int .i64 (x : Int), .int .i64 (j : Int), plV d dA dn dc] w fun e w' => e = .returned (.tuple #[.int .i64 (slotV a : Int), .int .i64 0]) ∧ RDid w w' ow P (addV a x j d) := by
  obtain ⟨id, leaf, lb, at_, tx⟩ := d
  have h1' := Lib.hid h1
  have hw' := Lib.hid hw
  have hx' := Lib.hid hx
  have hlv' := Lib.hid (show liveI a (x : Int) = true by unfold liveI; simpa using hx)
  have hxl := hw.lt hx
  have hcap := h1.cap
  have hcm := h1.capm
  have hsm := h1.small
  have hkl := hw.kids_len x
  have hxI : (x : Int) < (a.cnt : Int) := by omega
  have hal := Lib.hid (fun o => (Below.refl w.heap.size w).alloc (Nat.le_refl _) o)
  have hB0 := h1.below (hal.out (.cells #[.bool false, .int .u64 (id : Int), .bool leaf, .string ⟨lb.toArray⟩, .slice dA dn dc, .string ⟨tx.toArray⟩, .int .i64 0, .slice none 0 0] 35))
  obtain ⟨c0, -, -⟩ := hB0.head_cells
  obtain ⟨-, -, c2, -, -, -, -, c7⟩ := hB0.eight hxl
  rw [hlf] at c2
  obtain ⟨m, hm⟩ : ∃ m, m = (a.kids x).length := ⟨_, rfl⟩
  have hm' := Lib.hid hm
  rw [← hm] at c7 hj hkl
  have hjI : ¬ (m : Int) < (j : Int) := by omega
  have hC := Lib.hid (fun W (hb : Below w.heap.size w W) => rcopied_any W T false ⟨id, leaf, lb, at_, tx⟩ dA dn dc 0 none 0 0 (hd.kept (fun _ h => h) fun k hk => hb.block k (hT k hk)) fun k hk => Nat.lt_of_lt_of_le (hT k hk) hb.size)
  obtain ⟨o1, o2, o3, o4⟩ := addV_ok (d := ⟨id, leaf, lb, at_, tx⟩) (j := j) hw hx
  have hs4 := Lib.hid o4
  have hx3 := Lib.hid o3
  have hc' := Lib.hid hc
  have hfree' := Lib.hid hfree
  obtain ⟨s, hs⟩ : ∃ s, s = slotV a := ⟨_, rfl⟩
  have hs' := Lib.hid hs
  rw [← hs]
  rw [← hs] at o1 o2 hs4 hx3
  have hsle := o2
  obtain ⟨n, hn⟩ : ∃ n, n + 1 = a.free.length := ⟨a.free.length - 1, by have := List.length_pos_iff.2 hfree; omega⟩
  have hss := Lib.hid o1
  have hlast := Lib.hid (show a.free.getLast? = some s by
    obtain ⟨t, ht⟩ : ∃ t, a.free.getLast? = some t := ⟨_, List.getLast?_eq_some_getLast hfree⟩
    rw [hs]
    unfold slotV
    rw [ht])
  have hget := Lib.hid (show a.free[n]? = some s by have := hlast.out; rw [List.getLast?_eq_getElem?] at this; rw [← this]; congr 1; omega)
  clear h1 hw hd hT hB0 hx hm hs hc hfree o1 o2 o3 o4 hlf
  unfold plV sltV
  unfold sltV at hC
  dsimp only at hC ⊢
  go_enter Try.func37, Try.ntmps37
  go_upto_region 13 with (first
    | (go_at_call 31; refine (rlive_any (h1'.out.below (hal.out _)) hw'.out (x : Int)).mono ?_; rintro e w7 ⟨rfl, rfl⟩; rw [hlv'.out])
    | (go_at_call 30; refine (hC.out _ (hal.out _)).mono ?_; rintro e w2 ⟨A, c, rfl, hdat, hb⟩; have hdat' := Lib.hid hdat; have hb' := Lib.hid ((hal.out _).trans (hb.mono (hal.out _).size)); clear hdat hb c0 c2 c7; have c0 := fun o => (h1'.out.below (hb'.out.alloc hb'.out.size o)).head_cells.1; have c1 := fun o => (h1'.out.below (hb'.out.alloc hb'.out.size o)).head_cells.2.1; rw [← hn] at c1))
  rename_i K0 hK0 hcnd K hK
  clear hcnd
  clear c0 c1
  obtain ⟨W7, hW7, R7, B7, N7⟩ : ∃ W7, W7 = w2.alloc (.cells #[.bool true, .int .u64 (id : Int), .bool leaf, .string ⟨lb.toArray⟩, .slice A dn c, .string ⟨tx.toArray⟩, .int .i64 (x : Int), .slice none 0 0] 35) ∧
      W7.heap[w2.heap.size]? = some (.cells #[.bool true, .int .u64 (id : Int), .bool leaf, .string ⟨lb.toArray⟩, .slice A dn c, .string ⟨tx.toArray⟩, .int .i64 (x : Int), .slice none 0 0] 35 (0, 0)) ∧ Below w.heap.size w W7 ∧ DatOk (New w W7) W7 ⟨id, leaf, lb, at_, tx⟩ A dn c :=
    ⟨_, rfl, heap_alloc_new w2 _, hb'.out.alloc hb'.out.size _, hdat'.out.kept (fun k hk => ⟨Nat.le_trans (hal.out _).size hk.1, by have := hk.2; simp; omega⟩) fun k hk => Go.heap_alloc_old w2 _ hk.2⟩
  rw [← hW7]
  have hbb := Lib.hid (show w.heap.size ≤ w2.heap.size from hb'.out.size)
  obtain ⟨bx, hbx⟩ : ∃ bx, bx = w2.heap.size := ⟨_, rfl⟩
  rw [← hbx] at R7 hbb ⊢
  clear hdat' hb' hW7 hbx
  have R7' := Lib.hid R7
  have B7' := Lib.hid B7
  have N7' := Lib.hid N7
  obtain ⟨y0, y1, y2, y3, y4, y5, y6, y7, yf⟩ := eight_of R7
  clear R7 B7 N7
  obtain ⟨ow9, how9⟩ : ∃ ow9 : Nat → Role, ow9 = fun k => if w.heap.size ≤ k ∧ k < W7.heap.size then .imm else ow k := ⟨_, rfl⟩
  have hr9 := Lib.hid (show ∀ k, k < w.heap.size → ow9 k = ow k from fun k hk => by rw [how9]; exact if_neg (by omega))
  have hi9 := Lib.hid (show ∀ k, New w W7 k → ow9 k = .imm from fun k hk => by rw [how9]; exact if_pos hk)
  have h9 := h1'.out.kept (w' := W7.drew) (ow' := ow9) B7'.out.size hr9.out (fun k hk => by
    show k < W7.heap.size
    by_cases e : w.heap.size ≤ k ∧ k < W7.heap.size
    · exact e.2
    · rw [how9] at hk
      simp only [if_neg e] at hk
      have := h1'.out.low k hk
      have := B7'.out.size
      omega) fun k hk => B7'.out.block k (h1'.out.low k fun e => by rw [e] at hk; exact hk)
  clear how9
  have h9' := Lib.hid h9
  have hfl := Lib.hid h9.free
  have hfs := h9.fsmall
  have c1 := h9.head_cells.2.1
  have hgetf := Lib.hid (show a.free[n]? = some s from hget.out)
  obtain ⟨gf, hgf, hgc⟩ := h9.free.at_ hgetf.out
  rw [← hn] at c1 hfs
  rw [hgf] at c1
  unfold natV at hgc
  have hfc := hfl.out.blk.2.1
  have hfm := hfl.out.blk.2.2.1
  rw [← hn] at hfc
  have c1b : W7.cell? ⟨P, 1, none⟩ = some (.slice (some ⟨gf, 0, none⟩) (n + 1) fc) := c1
  have hgcb : W7.cell? ⟨gf, n, none⟩ = some (.int .i64 (s : Int)) := hgc
  have hn1 : ((n : Int) + 1) - 1 = (n : Int) := by omega
  have hnI : (n : Int) < (n : Int) + 1 := by omega
  have hn' := Lib.hid hn
  clear h9 c1 hgc hn
  go_region
  refine hK _ _ ?_
  clear hK
  go_wp2_with fail
  rename_i K2 hK2
  clear hgcb c1b y0 y1 y2 y3 y4 y5 y6 y7 yf
  obtain ⟨W9, hW9⟩ : ∃ W9, W9 = W7.drew := ⟨_, rfl⟩
  have R9' := Lib.hid ((congrArg (fun w : World => w.heap[bx]?) hW9).trans R7'.out)
  have B9' := Lib.hid (show Below w.heap.size w W9 from by rw [hW9]; exact B7'.out.drew)
  have N9' := Lib.hid (show DatOk (fun k => ow9 k = .imm) W9 ⟨id, leaf, lb, at_, tx⟩ A dn c from by rw [hW9]; exact DatOk.kept (w := W7) (w' := W7.drew) (fun k hk => hi9.out k hk) (fun k hk => rfl) N7'.out)
  have hbx := Lib.hid (show ow9 bx = .imm from hi9.out bx ⟨hbb.out, (Array.getElem?_eq_some_iff.1 R7'.out).1⟩)
  rw [← hW9] at h9' hfl ⊢
  clear hW9 R7' B7' N7' hi9
  have c1 := h9'.out.head_cells.2.1
  have c1f := h9'.out.head_cells.2.2
  rw [← hn'.out, hgf] at c1
  have hfl3 : Ns W9 (some ⟨gf, 0, none⟩) (n + 1) a.free := by rw [hn'.out, ← hgf]; exact hfl.out.ns
  have hfl2 : Hid (Ns W9.drew (some ⟨gf, 0, none⟩) (n + 1) a.free) := Lib.hid (hfl3.below (Below.refl W9.heap.size W9).drew)
  clear hfl3
  have hwr : IntKind.i64.wrap (n : Int) = (n : Int) := IntWalk.i64_in _ (by omega)
  have hPl := Lib.hid (show P < W9.heap.size from (Array.getElem?_eq_some_iff.1 h9'.out.head).1)
  have hD5 := Lib.hid (fun (w5 : World) (A5 : Option Addr) (c5 : Nat) (hn5 : NewN W9 w5 A5 n c5 (cutL a.free n)) => show RDid W9 (w5.setCell ⟨P, 1, none⟩ (.slice A5 n c5)) ow9 P (takeV a) from by
    have hl5 : (cutL a.free n).length = n := hn5.own.blk.1.symm
    have := rfreed h9'.out (l := cutL a.free n) (gA := A5) (gc := c5) (by rw [hl5]; omega) (FrX.of_below hn5.bel) (by rw [hl5]; exact hn5.own) fun ad e => .inr (hn5.imm.blk ad e)
    rw [hl5] at this
    have e1 : takeV a = { a with free := cutL a.free n } := by
      unfold takeV
      rw [hlast.out]
      unfold cutL
      rw [List.dropLast_eq_take, List.drop_of_length_le (by have := hn'.out; omega), List.append_nil, show a.free.length - 1 = n by have := hn'.out; omega]
    rw [e1]
    exact this)
  go_region_law (first
    | (go_simp; go_at_call 54; refine (rdrop_any W9.drew (some ⟨gf, 0, none⟩) (n + 1) fc a.free hfl2.out hfc hfm (fun e => by cases e) (by omega) n (by omega)).mono ?_; rintro e w5 ⟨A5, c5, rfl, hn0⟩; rw [Nat.add_sub_cancel] at hn0 ⊢; have hn5 : NewN W9 w5 A5 n c5 (cutL a.free n) := ⟨hn0.own, hn0.new, (Below.refl W9.heap.size W9).drew.trans hn0.bel⟩; clear hn0; have q5 := (hn5.bel.block P hPl.out).trans h9'.out.head; have q1 := cell_of_row w5 P 1 _ _ _ q5; have qf := fun o => frozen_of_row w5 P o _ _ q5; have D5 := Lib.hid (hD5.out w5 A5 c5 hn5); clear hn5 q5)
    | (go_at_call 54; refine (rdrop_any W9.drew (some ⟨gf, 0, none⟩) (n + 1) fc a.free hfl2.out hfc hfm (fun e => by cases e) (by omega) n (by omega)).mono ?_; rintro e w5 ⟨A5, c5, rfl, hn0⟩; rw [Nat.add_sub_cancel] at hn0 ⊢; have hn5 : NewN W9 w5 A5 n c5 (cutL a.free n) := ⟨hn0.own, hn0.new, (Below.refl W9.heap.size W9).drew.trans hn0.bel⟩; clear hn0; have q5 := (hn5.bel.block P hPl.out).trans h9'.out.head; have q1 := cell_of_row w5 P 1 _ _ _ q5; have qf := fun o => frozen_of_row w5 P o _ _ q5; have D5 := Lib.hid (hD5.out w5 A5 c5 hn5); clear hn5 q5))
  all_goals (
    refine hK2 _ _ ?_
    clear hK2 q1 qf c1 c1f
    obtain ⟨W10, hW10⟩ : ∃ W10, W10 = w5.setCell ⟨P, 1, none⟩ (.slice A5 n c5) := ⟨_, rfl⟩
    rw [← hW10] at D5 ⊢
    clear hW10
    obtain ⟨ow10, ⟨g10, sv10, sc10, fA10, fc10, h10⟩, hr10, hf10⟩ := D5.out
    have R10 := (hf10.block bx (Array.getElem?_eq_some_iff.1 R9'.out).1 (by rw [hbx.out]; exact fun e => e)).trans R9'.out
    obtain ⟨y0, y1, y2, y3, y4, y5, y6, y7, yf⟩ := eight_of R10
    have N10 := Lib.hid (N9'.out.kept (T' := fun k => ow10 k = .imm) (fun k hk => (hr10 k (h9'.out.low k (by rw [hk]; simp))).trans hk) fun k hk => hf10.block k (h9'.out.low k (by rw [hk]; simp)) (by rw [hk]; exact fun e => e))
    have hs10 : s < (takeV a).cnt := hss.out
    have D11 := Lib.hid (show RDid W10 (eight W10 g10 (s * 8) (.bool true) (.int .u64 (id : Int)) (.bool leaf) (.string ⟨lb.toArray⟩) (.slice A dn c) (.string ⟨tx.toArray⟩) (.int .i64 (x : Int)) (.slice none 0 0)).drew ow10 P (settleV (takeV a) s (x : Int) ⟨id, leaf, lb, at_, tx⟩) from by
      rw [eight_cells]
      refine RDid.then_ ?_ (Below.refl _ _).drew
      have e1 : (settleV (takeV a) s (x : Int) ⟨id, leaf, lb, at_, tx⟩).live s = true := upd_same _ _ _
      have e2 : (settleV (takeV a) s (x : Int) ⟨id, leaf, lb, at_, tx⟩).par s = (x : Int) := upd_same _ _ _
      have e3 : (settleV (takeV a) s (x : Int) ⟨id, leaf, lb, at_, tx⟩).kids s = [] := upd_same _ _ _
      have e4 : (settleV (takeV a) s (x : Int) ⟨id, leaf, lb, at_, tx⟩).dat s = ⟨id, leaf, lb, at_, tx⟩ := upd_same _ _ _
      have := rstored h10 hs10 (w7 := W10) (Below.refl _ _) (a9 := settleV (takeV a) s (x : Int) ⟨id, leaf, lb, at_, tx⟩) ⟨none, 0, 0, A, dn, c⟩ rfl rfl (fun i hi => ⟨upd_ne _ _ hi, upd_ne _ _ hi, upd_ne _ _ hi, upd_ne _ _ hi⟩) (by rw [e3]; exact ImmN.nil_ _ _) (by rw [e3]; exact Nat.zero_le _) (by rw [e4]; exact N10.out.kept (fun k hk => .inl hk) fun _ _ => rfl) (by rw [e2]; omega)
      unfold refCells at this
      rw [e1, e2, e4] at this
      exact this)
    have c0 := h10.head_cells.1
    obtain ⟨z0, z1, z2, z3, z4, z5, z6, z7⟩ := h10.eight hs10
    have zf := h10.frz
    have hcap10 := h10.cap
    have hcm10 := h10.capm
    have hsm10 := h10.small
    have hs10I : (s : Int) < ((takeV a).cnt : Int) := by omega
    have hr10' := Lib.hid hr10
    have hf10' := Lib.hid hf10
    clear h10 R10 hr10 hf10
    go_region
    refine hK0 _ _ ?_
    clear hK0 y0 y1 y2 y3 y4 y5 y6 y7 yf c0 z0 z1 z2 z3 z4 z5 z6 z7 zf
    obtain ⟨W8, hW8⟩ : ∃ W8, W8 = (eight W10 g10 (s * 8) (.bool true) (.int .u64 (id : Int)) (.bool leaf) (.string ⟨lb.toArray⟩) (.slice A dn c) (.string ⟨tx.toArray⟩) (.int .i64 (x : Int)) (.slice none 0 0)).drew := ⟨_, rfl⟩
    have hW8' := hW8
    unfold eight at hW8'
    rw [← hW8'] 
    rw [← hW8] at D11
    clear hW8 hW8'
    obtain ⟨ow8, ⟨g8, sv8, sc8, fA8, fc8, h8⟩, hr8, hf8⟩ := RDid.after hr9.out (FrX.of_below B9'.out) (RDid.after hr10'.out hf10'.out D11.out)
    obtain ⟨b, hb⟩ : ∃ b, b = settleV (takeV a) s (x : Int) ⟨id, leaf, lb, at_, tx⟩ := ⟨_, rfl⟩
    rw [← hb] at h8 hs4 hx3
    have hb9 := Lib.hid hb
    have h8' := Lib.hid h8
    have hr8' := Lib.hid hr8
    have hf8' := Lib.hid hf8
    have hbc := h8.cap
    have hbcm := h8.capm
    have hbsm := h8.small
    have hx8 := hx3.out
    have hx8I : (x : Int) < (b.cnt : Int) := by omega
    obtain ⟨c0, -, -⟩ := h8.head_cells
    obtain ⟨z0, z1, z2, z3, z4, z5, z6, z7⟩ := h8.eight hx8
    have hki := Lib.hid (h8.kids x hx8)
    have hmb := Lib.hid (show m = (b.kids x).length by rw [hs4.out]; exact hm'.out)
    rw [← hmb.out] at z7
    have hN8 := Lib.hid (show Ns W8 (sv8 x).kA m (b.kids x) ∧ m ≤ (sv8 x).kc by rw [hmb.out, hki.out.ns.1]; exact ⟨hki.out.ns, hki.out.knc⟩)
    clear h8 hr8 hf8 hb
    go_upto_region 19 with (go_at_call 53; refine (rput_any _ (sv8 x).kA m (sv8 x).kc (b.kids x) (hN8.out.1.below ((Below.refl _ _).alloc (Nat.le_refl _) _)) hN8.out.2 hki.out.kcm hki.out.knil (by omega) j s hj).mono ?_; rintro e w5 ⟨A2, c2, rfl, hn5⟩; have hn5' := Lib.hid hn5; have R5 := (hn5.bel.block W8.heap.size (by simp)).trans (heap_alloc_new W8 _); clear z0 z1 z2 z3 z4 z5 z6 z7 c0; obtain ⟨y0, y1, y2, y3, y4, y5, y6, y7, yf⟩ := eight_of R5; clear R5 hn5)
    rename_i K3 hK3
    clear y0 y1 y2 y3 y4 y5 y6 y7 yf
    obtain ⟨W6, hW6⟩ : ∃ W6, W6 = w5.setCell ⟨W8.heap.size, 7, none⟩ (.slice A2 (m + 1) c2) := ⟨_, rfl⟩
    rw [← hW6]
    obtain ⟨R6, B6, D6⟩ := rkids_fin h8'.out hx8 (b := W8.heap.size) ((Below.refl _ _).alloc (Nat.le_refl _) _) (heap_alloc_new W8 _) (Nat.le_refl _) hn5'.out (by rw [ins_len, ← hmb.out]; have := hc'.out; omega) hW6
    clear hW6 hn5'
    have D6' := Lib.hid D6
    have h6 := h8'.out.below B6
    obtain ⟨y0, y1, y2, y3, y4, y5, y6, y7, yf⟩ := eight_of R6
    obtain ⟨c0, -, -⟩ := h6.head_cells
    obtain ⟨z0, z1, z2, z3, z4, z5, z6, z7⟩ := h6.eight hx8
    have zf := h6.frz
    clear h6 R6 B6 D6
    go_region
    refine hK3 _ _ ?_
    clear hK3
    go_wp2_with fail
    have hfin := RDid.after hr8'.out hf8'.out D6'.out
    unfold eight at hfin
    refine bodyPost_ret (v := .tuple #[.int .i64 (s : Int), .int .i64 0]) (by simp [results, Try.results37, go_sem]) rfl ?_
    have hR : addV a x j ⟨id, leaf, lb, at_, tx⟩ = { b with kids := upd b.kids x (ins (b.kids x) j s) } := by
      rw [hb9.out]
      unfold addV putInV
      rw [← hs'.out]
    rw [hR]
    exact ⟨rfl, hfin⟩)
end
end Go.Proofs.Ytiikakfdelkjhaa.Arn
