/- Add: the document's. -/
import Derived.Test.YtiikakfdelkjhaaArnRj
namespace Go.Proofs.Ytiikakfdelkjhaa.Arn
open Go.RowKit
set_option maxRecDepth 20000
set_option linter.unusedVariables false

theorem Try.infoSlot : (Try.prog.info? 35).map (fun i => (i.zero, i.size, i.bytes)) = some (some (.agg #[.bool false, .int .u64 0, .bool false, .string ⟨#[]⟩, .slice none 0 0, .string ⟨#[]⟩, .int .i64 0, .slice none 0 0]), 8, 112) := by kernel_rfl
section
variable {w : World} {ow : Nat → Role} {P : Nat} {a : Av}
set_option maxHeartbeats 1000000 in
theorem radd_grow {g : Nat} {sv : Nat → SV} {sc : Nat} {fA : Option Addr} {fc : Nat} (h1 : RA w ow P g a sv sc fA fc) (hw : WF a) (hc : a.cnt < 100000) {x j : Nat} (hx : a.live x = true) (hlf : (a.dat x).leaf = false) (hj : j ≤ (a.kids x).length) (T : Nat → Prop) (d : Dt) (dA : Option Addr) (dn dc : Nat) (hd : DatOk T w d dA dn dc) (hT : ∀ k, T k → k < w.heap.size) (hfree : a.free = []) :
    Calls Try.prog 37 #[.pointer (some ⟨P, 0, none⟩), .int .i64 (x : Int), .int .i64 (j : Int), plV d dA dn dc] w fun e w' => e = .returned (.tuple #[.int .i64 (slotV a : Int), .int .i64 0]) ∧ RDid w w' ow P (addV a x j d) := by
  obtain ⟨id, leaf, lb, at_, tx⟩ := d
  have h1' := Lib.hid h1
  have hw' := Lib.hid hw
  have hx' := Lib.hid hx
  have hlv' := Lib.hid (show liveI a (x : Int) = true by unfold liveI; simpa using hx)
  have hxl := hw.lt hx
  have hcap := h1.cap
  have hcm := h1.capm
  have hsm := h1.small
  have hkl := hw.kids_len x
  have hxI : (x : Int) < (a.cnt : Int) := by omega
  have hal := Lib.hid (fun o => (Below.refl w.heap.size w).alloc (Nat.le_refl _) o)
  have hB0 := h1.below (hal.out (.cells #[.bool false, .int .u64 (id : Int), .bool leaf, .string ⟨lb.toArray⟩, .slice dA dn dc, .string ⟨tx.toArray⟩, .int .i64 0, .slice none 0 0] 35))
  obtain ⟨c0, -, -⟩ := hB0.head_cells
  obtain ⟨-, -, c2, -, -, -, -, c7⟩ := hB0.eight hxl
  rw [hlf] at c2
  obtain ⟨m, hm⟩ : ∃ m, m = (a.kids x).length := ⟨_, rfl⟩
  have hm' := Lib.hid hm
  rw [← hm] at c7 hj hkl
  have hjI : ¬ (m : Int) < (j : Int) := by omega
  have hC := Lib.hid (fun W (hb : Below w.heap.size w W) => rcopied_any W T false ⟨id, leaf, lb, at_, tx⟩ dA dn dc 0 none 0 0 (hd.kept (fun _ h => h) fun k hk => hb.block k (hT k hk)) fun k hk => Nat.lt_of_lt_of_le (hT k hk) hb.size)
  obtain ⟨o1, o2, o3, o4⟩ := addV_ok (d := ⟨id, leaf, lb, at_, tx⟩) (j := j) hw hx
  have hs4 := Lib.hid o4
  have hx3 := Lib.hid o3
  have hc' := Lib.hid hc
  have hfree' := Lib.hid hfree
  obtain ⟨s, hs⟩ : ∃ s, s = slotV a := ⟨_, rfl⟩
  have hs' := Lib.hid hs
  rw [← hs]
  rw [← hs] at o1 o2 hs4 hx3
  have hsle := o2
  have hsa : s = a.cnt := by rw [hs]; unfold slotV; rw [hfree]; rfl
  subst hsa
  clear h1 hw hd hT hB0 hx hm hs hc hfree o1 o2 o3 o4 hlf
  unfold plV sltV
  unfold sltV at hC
  dsimp only at hC ⊢
  go_enter Try.func37, Try.ntmps37
  go_upto_region 16 with (first
    | (go_at_call 31; refine (rlive_any (h1'.out.below (hal.out _)) hw'.out (x : Int)).mono ?_; rintro e w7 ⟨rfl, rfl⟩; rw [hlv'.out])
    | (go_at_call 30; refine (hC.out _ (hal.out _)).mono ?_; rintro e w2 ⟨A, c, rfl, hdat, hb⟩; have hdat' := Lib.hid hdat; have hb' := Lib.hid ((hal.out _).trans (hb.mono (hal.out _).size)); clear hdat hb c0 c2 c7; have c0 := fun o => (h1'.out.below (hb'.out.alloc hb'.out.size o)).head_cells.1; have c1 := fun o => (h1'.out.below (hb'.out.alloc hb'.out.size o)).head_cells.2.1; rw [hfree'.out] at c1))
  rename_i K hK
  clear c0 c1
  obtain ⟨W7, hW7, R7, B7, N7⟩ : ∃ W7, W7 = w2.alloc (.cells #[.bool true, .int .u64 (id : Int), .bool leaf, .string ⟨lb.toArray⟩, .slice A dn c, .string ⟨tx.toArray⟩, .int .i64 (x : Int), .slice none 0 0] 35) ∧
      W7.heap[w2.heap.size]? = some (.cells #[.bool true, .int .u64 (id : Int), .bool leaf, .string ⟨lb.toArray⟩, .slice A dn c, .string ⟨tx.toArray⟩, .int .i64 (x : Int), .slice none 0 0] 35 (0, 0)) ∧ Below w.heap.size w W7 ∧ DatOk (New w W7) W7 ⟨id, leaf, lb, at_, tx⟩ A dn c :=
    ⟨_, rfl, heap_alloc_new w2 _, hb'.out.alloc hb'.out.size _, hdat'.out.kept (fun k hk => ⟨Nat.le_trans (hal.out _).size hk.1, by have := hk.2; simp; omega⟩) fun k hk => Go.heap_alloc_old w2 _ hk.2⟩
  rw [← hW7]
  have hbb := Lib.hid (show w.heap.size ≤ w2.heap.size from hb'.out.size)
  obtain ⟨bx, hbx⟩ : ∃ bx, bx = w2.heap.size := ⟨_, rfl⟩
  rw [← hbx] at R7 hbb ⊢
  clear hdat' hb' hW7 hbx
  have R7' := Lib.hid R7
  have B7' := Lib.hid B7
  have N7' := Lib.hid N7
  obtain ⟨y0, y1, y2, y3, y4, y5, y6, y7, yf⟩ := eight_of R7
  clear R7 B7 N7
  have h7 := h1'.out.below B7'.out
  have c0 := h7.head_cells.1
  have C0 := (h7.below ((Below.refl _ _).alloc (Nat.le_refl _) (.cells #[.bool true, .int .u64 (id : Int), .bool leaf, .string ⟨lb.toArray⟩, .slice A dn c, .string ⟨tx.toArray⟩, .int .i64 (x : Int), .slice none 0 0] 35))).head_cells.1
  clear h7
  obtain ⟨xs, hxs⟩ := h1'.out.owns
  have hxs' := Lib.hid hxs
  have hgl := Lib.hid (show g < w.heap.size from h1'.out.low g (by rw [h1'.out.rRow]; simp))
  have hxs7 := Lib.hid (show W7.ownsRow 0 35 8 (.slice (some ⟨g, 0, none⟩) a.cnt sc) a.cnt xs from own_kept hxs fun k e => B7'.out.block k (by injection e with e; rw [← e]; exact hgl.out))
  have hxs8 := Lib.hid (fun o => (show ((W7.alloc o).drew).ownsRow 0 35 8 (.slice (some ⟨g, 0, none⟩) a.cnt sc) a.cnt xs from World.ownsRow.alloc hxs7.out o))
  obtain ⟨i0, hi0, hz0, hz1, hz2⟩ := info_parts Try.infoSlot
  have hi0' := Lib.hid hi0
  have hz0' := Lib.hid hz0
  have hz1' := Lib.hid hz1
  have hz2' := Lib.hid hz2
  have hbd := Lib.hid (show a.cnt + 1 ≤ maxLen ∧ (a.cnt + 1) * 112 ≤ 140737488355328 by unfold maxLen; have := hc'.out; omega)
  have hnews := Lib.hid (show ∀ (j : Nat) (u : Value), [Value.bool true, .int .u64 (id : Int), .bool leaf, .string ⟨lb.toArray⟩, .slice A dn c, .string ⟨tx.toArray⟩, .int .i64 (x : Int), .slice none 0 0][j]? = some u → ((W7.alloc (.cells #[.bool true, .int .u64 (id : Int), .bool leaf, .string ⟨lb.toArray⟩, .slice A dn c, .string ⟨tx.toArray⟩, .int .i64 (x : Int), .slice none 0 0] 35)).drew).cell? ((⟨W7.heap.size, 0, none⟩ : Addr).add j) = some u from fun j u hj => by
    rw [add_zero_off]
    refine (cell_of_row (W7.alloc (.cells #[.bool true, .int .u64 (id : Int), .bool leaf, .string ⟨lb.toArray⟩, .slice A dn c, .string ⟨tx.toArray⟩, .int .i64 (x : Int), .slice none 0 0] 35)) W7.heap.size j _ _ _ (heap_alloc_new W7 _)).trans ?_
    rw [← Array.getElem?_toList]
    exact hj)
  have hone := Lib.hid (show ∀ u ∈ [Value.bool true, .int .u64 (id : Int), .bool leaf, .string ⟨lb.toArray⟩, .slice A dn c, .string ⟨tx.toArray⟩, .int .i64 (x : Int), .slice none 0 0], u.oneCell' = true by intro u hu; simp only [List.mem_cons, List.not_mem_nil, or_false] at hu; rcases hu with rfl | rfl | rfl | rfl | rfl | rfl | rfl | rfl <;> rfl)
  have kkeep := Lib.hid (fun (o : Obj) (w4 : World) (g' cap : Nat) (ho : w4.ownsRow 0 35 8 (.slice (some ⟨g', 0, none⟩) (a.cnt + 1) cap) (a.cnt + 1) (xs ++ [.bool true, .int .u64 (id : Int), .bool leaf, .string ⟨lb.toArray⟩, .slice A dn c, .string ⟨tx.toArray⟩, .int .i64 (x : Int), .slice none 0 0])) (hg : ((W7.alloc o).drew).grownBy w4 (some g)) (hat : some g = some g' ∨ g' = W7.heap.size + 1) (hlt : g' < w4.heap.size) =>
    rgrown h1'.out hw'.out hfree'.out hx'.out hc'.out B7'.out N7'.out hxs'.out ho hg (hat.imp (fun e => by injection e) fun e => e) hlt)
  clear hi0 hz0 hz1 hz2 hxs
  go_region_law
    ((refine step_append_lies _ (by rfl) (.tmp 94) (.tmp 96) 68 (by rfl) 0 35 i0 (.agg #[.bool false, .int .u64 0, .bool false, .string ⟨#[]⟩, .slice none 0 0, .string ⟨#[]⟩, .int .i64 0, .slice none 0 0]) 8 112 Try.underlying68 hi0'.out hz0'.out hz1'.out hz2'.out rfl (by decide) (.slice (some ⟨g, 0, none⟩) a.cnt sc) a.cnt xs (by rfl) (hxs8.out _)
        ⟨W7.heap.size, 0, none⟩ 1 1 [.bool true, .int .u64 (id : Int), .bool leaf, .string ⟨lb.toArray⟩, .slice A dn c, .string ⟨tx.toArray⟩, .int .i64 (x : Int), .slice none 0 0] (by rfl) (by rfl) hnews.out hone.out
        (by decide) hbd.out.1 hbd.out.2 (Nat.zero_le _) (W7.heap.size + 1) (by simp) ?_; intro g9 cap9 w4 ho4 hg4 hat hlt4; obtain ⟨c4, f4, D4⟩ := kkeep.out _ w4 g9 cap9 ho4 hg4 hat hlt4; have D4' := Lib.hid D4; clear ho4 hg4 hat hlt4 D4))
  all_goals (
    refine hK _ _ ?_
    clear hK
    clear y0 y1 y2 y3 y4 y5 y6 y7 yf c0 C0 c4 f4
    obtain ⟨W8, hW8⟩ : ∃ W8, W8 = w4.setCell ⟨P, 0, none⟩ (.slice (some ⟨g9, 0, none⟩) (a.cnt + 1) cap9) := ⟨_, rfl⟩
    rw [← hW8] at D4' ⊢
    clear hW8
    obtain ⟨ow8, ⟨g8, sv8, sc8, fA8, fc8, h8⟩, hr8, hf8⟩ := D4'.out
    rw [← hs'.out] at h8
    obtain ⟨b, hb⟩ : ∃ b, b = settleV (takeV a) a.cnt (x : Int) ⟨id, leaf, lb, at_, tx⟩ := ⟨_, rfl⟩
    rw [← hb] at h8 hs4 hx3
    have hb9 := Lib.hid hb
    have h8' := Lib.hid h8
    have hr8' := Lib.hid hr8
    have hf8' := Lib.hid hf8
    have hbc := h8.cap
    have hbcm := h8.capm
    have hbsm := h8.small
    have hx8 := hx3.out
    have hx8I : (x : Int) < (b.cnt : Int) := by omega
    obtain ⟨c0, -, -⟩ := h8.head_cells
    obtain ⟨z0, z1, z2, z3, z4, z5, z6, z7⟩ := h8.eight hx8
    have hki := Lib.hid (h8.kids x hx8)
    have hmb := Lib.hid (show m = (b.kids x).length by rw [hs4.out]; exact hm'.out)
    rw [← hmb.out] at z7
    have hN8 := Lib.hid (show Ns W8 (sv8 x).kA m (b.kids x) ∧ m ≤ (sv8 x).kc by rw [hmb.out, hki.out.ns.1]; exact ⟨hki.out.ns, hki.out.knc⟩)
    clear h8 hr8 hf8 hb
    go_upto_region 19 with (go_at_call 53; refine (rput_any _ (sv8 x).kA m (sv8 x).kc (b.kids x) (hN8.out.1.below ((Below.refl _ _).alloc (Nat.le_refl _) _)) hN8.out.2 hki.out.kcm hki.out.knil (by omega) j a.cnt hj).mono ?_; rintro e w5 ⟨A2, c2, rfl, hn5⟩; have hn5' := Lib.hid hn5; have R5 := (hn5.bel.block W8.heap.size (by simp)).trans (heap_alloc_new W8 _); clear z0 z1 z2 z3 z4 z5 z6 z7 c0; obtain ⟨y0, y1, y2, y3, y4, y5, y6, y7, yf⟩ := eight_of R5; clear R5 hn5)
    rename_i K3 hK3
    clear y0 y1 y2 y3 y4 y5 y6 y7 yf
    obtain ⟨W6, hW6⟩ : ∃ W6, W6 = w5.setCell ⟨W8.heap.size, 7, none⟩ (.slice A2 (m + 1) c2) := ⟨_, rfl⟩
    rw [← hW6]
    obtain ⟨R6, B6, D6⟩ := rkids_fin h8'.out hx8 (b := W8.heap.size) ((Below.refl _ _).alloc (Nat.le_refl _) _) (heap_alloc_new W8 _) (Nat.le_refl _) hn5'.out (by rw [ins_len, ← hmb.out]; have := hc'.out; omega) hW6
    clear hW6 hn5'
    have D6' := Lib.hid D6
    have h6 := h8'.out.below B6
    obtain ⟨y0, y1, y2, y3, y4, y5, y6, y7, yf⟩ := eight_of R6
    obtain ⟨c0, -, -⟩ := h6.head_cells
    obtain ⟨z0, z1, z2, z3, z4, z5, z6, z7⟩ := h6.eight hx8
    have zf := h6.frz
    clear h6 R6 B6 D6
    go_region
    refine hK3 _ _ ?_
    clear hK3
    go_wp2_with fail
    have hfin := RDid.after hr8'.out hf8'.out D6'.out
    unfold eight at hfin
    refine bodyPost_ret (v := .tuple #[.int .i64 (a.cnt : Int), .int .i64 0]) (by simp [results, Try.results37, go_sem]) rfl ?_
    have hR : addV a x j ⟨id, leaf, lb, at_, tx⟩ = { b with kids := upd b.kids x (ins (b.kids x) j a.cnt) } := by
      rw [hb9.out]
      unfold addV putInV
      rw [← hs'.out]
    rw [hR]
    exact ⟨rfl, hfin⟩)
end
end Go.Proofs.Ytiikakfdelkjhaa.Arn
