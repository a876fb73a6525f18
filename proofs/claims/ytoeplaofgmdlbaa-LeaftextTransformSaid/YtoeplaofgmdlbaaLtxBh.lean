/- The document's behind. -/
import Derived.Test.YtoeplaofgmdlbaaLtxVw
import Derived.Test.YtoeplaofgmdlbaaLtxR
import Derived.Maps.AppendAt
namespace Go.Proofs.Ytoeplaofgmdlbaa
open Go.RowKit
set_option maxRecDepth 20000
open Ltx (Pc)

section
variable (pa pb : Nat → List UInt8) (da db : Nat → Bool) (first : Bool)
/-- what k rounds from place i on have put out -/
def bfrom : Nat → Nat → List Pc
  | 0, _ => []
  | k + 1, i => Ltx.ends pa pb first i ++ Ltx.mid da db i ++ bfrom k (i + 1)
theorem behind_bfrom : ∀ (k i : Nat), bfrom pa pb da db first (k + 1) i = Ltx.behind pa pb da db first k i ++ Ltx.mid da db (i + k)
  | 0, i => by rw [bfrom, bfrom, Ltx.behind, List.append_nil, Nat.add_zero]
  | k + 1, i => by
    have ih := behind_bfrom k (i + 1)
    rw [bfrom, ih, Ltx.behind, show i + (k + 1) = i + 1 + k by omega]
    simp only [List.append_assoc]
theorem bfrom_snoc : ∀ (k i : Nat), bfrom pa pb da db first (k + 1) i = bfrom pa pb da db first k i ++ (Ltx.ends pa pb first (i + k) ++ Ltx.mid da db (i + k))
  | 0, i => by
    show Ltx.ends pa pb first i ++ Ltx.mid da db i ++ [] = [] ++ (Ltx.ends pa pb first (i + 0) ++ Ltx.mid da db (i + 0))
    rw [List.append_nil, List.nil_append, Nat.add_zero]
  | k + 1, i => by
    have ih := bfrom_snoc k (i + 1)
    rw [bfrom, ih, bfrom, show i + (k + 1) = i + 1 + k by omega]
    simp only [List.append_assoc]
theorem ends_tot (i : Nat) : totP (Ltx.ends pa pb first i) = (pa i).length + (pb i).length ∧ (Ltx.ends pa pb first i).length = 2 := by
  unfold Ltx.ends
  cases first <;> simp [totP, Ltx.extent, Ltx.puts] <;> omega
theorem mid_tot (i : Nat) : totP (Ltx.mid da db i) ≤ 1 ∧ (Ltx.mid da db i).length ≤ 1 := by
  unfold Ltx.mid
  cases db i <;> cases da i <;> simp [totP, Ltx.extent, Ltx.puts]
theorem bfrom_tot : ∀ (k : Nat), totP (bfrom pa pb da db first k 0) ≤ k + Ltx.sumTo (fun j => (pa j).length) k + Ltx.sumTo (fun j => (pb j).length) k ∧ (bfrom pa pb da db first k 0).length ≤ 3 * k
  | 0 => ⟨Nat.zero_le _, Nat.zero_le _⟩
  | k + 1 => by
    obtain ⟨h1, h2⟩ := bfrom_tot k
    obtain ⟨h3, h4⟩ := ends_tot pa pb first (0 + k)
    obtain ⟨h5, h6⟩ := mid_tot da db (0 + k)
    rw [bfrom_snoc, totP_append, totP_append, List.length_append, List.length_append, Ltx.sumTo, Ltx.sumTo]
    rw [Nat.zero_add] at *
    omega
end
section
variable {ops : Array Oper} {rest : List Oper} {o : Oper} {a : Act} {w : World} {Q : Exit → Act → World → Prop}
theorem wpList_append_pcs (hgd : o.guard = none) (sl x : Operand) (ho : o.op = .call { callee := .builtin .append, args := #[sl, x], argTypes := #[22, 22] }) (base : Nat) (v : Value) (l p2 : List Pc) (hs : a.eval sl = v) (hown : OwnP base w v l)
    (ad : Addr) (m c : Nat) (hx : a.eval x = .slice (some ad) m c) (hm : p2.length = m) (hnews : ∀ j u, (p2.flatMap cellsOf)[j]? = some u → w.cell? (ad.add j) = some u) (h63 : l.length + m ≤ 1000000) (hbase : base ≤ w.heap.size)
    (h : ∀ v' w', OwnP base w' v' (l ++ p2) → w.grownBy w' v.ownBlock → wpList Try.prog ops Q rest (a.put o.dst v') w') : wpList Try.prog ops Q (o :: rest) a w := by
  obtain ⟨i0, hi0, hz0, hz1, hz2⟩ := info_parts Try.infoP
  have hone : ∀ u ∈ p2.flatMap cellsOf, u.oneCell' = true := by
    intro u hu
    obtain ⟨p, -, hp⟩ := List.mem_flatMap.1 hu
    simp only [cellsOf, List.mem_cons, List.not_mem_nil, or_false] at hp
    rcases hp with rfl | rfl | rfl <;> rfl
  refine wpList_append_own_at _ hgd sl x 22 ho base 29 i0 _ 3 32 Try.underlying22 hi0 hz0 hz1 hz2 rfl (by decide) v l.length _ hs hown ad m c (p2.flatMap cellsOf) hx (by rw [cells_len, hm]) hnews hone (by unfold maxLen; omega) (by omega) hbase ?_
  intro v' w' ho' hg _ _
  refine h v' w' ?_ hg
  unfold OwnP
  rw [List.length_append, hm, List.flatMap_append]
  exact ho'
end
theorem lit_news (X : World) (p2 : List Pc) : ∀ j u, (p2.flatMap cellsOf)[j]? = some u → (X.alloc (.cells (p2.flatMap cellsOf).toArray 29)).cell? ((⟨X.heap.size, 0, none⟩ : Addr).add j) = some u :=
  World.news_of_block (heap_alloc_new X _)
theorem ends_true (pa pb : Nat → List UInt8) (i : Nat) : Ltx.ends pa pb true i = [⟨0, 0, pa i⟩, ⟨(pb i).length, 0, []⟩] := rfl
theorem ends_false (pa pb : Nat → List UInt8) (i : Nat) : Ltx.ends pa pb false i = [⟨(pb i).length, 0, []⟩, ⟨0, 0, pa i⟩] := rfl
set_option maxHeartbeats 4000000 in
theorem behind_any (w : World) (g1 g2 h1 h2 n : Nat) (pa pb : Nat → List UInt8) (da db : Nat → Bool) (first : Bool) (hA : VRow w g1 g2 (n + 1) pa da) (hB : VRow w h1 h2 (n + 1) pb db) (hn : n ≤ 10000) (hpa : ∀ j, (pa j).length ≤ 10000) (hpb : ∀ j, (pb j).length ≤ 10000)
    (hsum : Ltx.sumTo (fun j => (pa j).length) (n + 1) + Ltx.sumTo (fun j => (pb j).length) (n + 1) ≤ 100000) (hda : da n = false) (hdb : db n = false) :
    Calls Try.prog 41 #[.agg #[.slice (some ⟨g1, 0, none⟩) (n + 1) (n + 1), .slice (some ⟨g2, 0, none⟩) (n + 1) (n + 1)], .agg #[.slice (some ⟨h1, 0, none⟩) (n + 1) (n + 1), .slice (some ⟨h2, 0, none⟩) (n + 1) (n + 1)], .bool first] w fun e w' =>
      ∃ v, e = .returned v ∧ OwnP w.heap.size w' v (Ltx.norm (Ltx.behind pa pb da db first n 0)) ∧ Below w.heap.size w w' := by
  obtain ⟨N, hNn⟩ : ∃ N : Nat, N = n + 1 := ⟨_, rfl⟩
  obtain ⟨A1, hA1⟩ : ∃ a : Addr, a = ⟨g1, 0, none⟩ := ⟨_, rfl⟩
  obtain ⟨A2, hA2⟩ : ∃ a : Addr, a = ⟨g2, 0, none⟩ := ⟨_, rfl⟩
  obtain ⟨B1, hB1⟩ : ∃ a : Addr, a = ⟨h1, 0, none⟩ := ⟨_, rfl⟩
  obtain ⟨B2, hB2⟩ : ∃ a : Addr, a = ⟨h2, 0, none⟩ := ⟨_, rfl⟩
  have hrow : ∀ (W : World), Below w.heap.size w W → ∀ q, q < N → W.cell? (A1.add q) = some (.string ⟨(pa q).toArray⟩) ∧ W.cell? (A2.add q) = some (.bool (da q)) ∧ W.cell? (B1.add q) = some (.string ⟨(pb q).toArray⟩) ∧ W.cell? (B2.add q) = some (.bool (db q)) := by
    intro W hb q hq
    obtain ⟨⟨c1, x1, x2, x3⟩, ⟨c2, y1, y2, y3⟩⟩ := hA
    obtain ⟨⟨c3, x4, x5, x6⟩, ⟨c4, y4, y5, y6⟩⟩ := hB
    have z : ∀ (g : Nat) (cs : Array Value) (T : TypeId) (v : Value), w.heap[g]? = some (.cells cs T (0, 0)) → cs[q]? = some v → W.cell? ((⟨g, 0, none⟩ : Addr).add q) = some v := fun g cs T v e1 e2 => by
      have hadd : (⟨g, 0, none⟩ : Addr).add q = ⟨g, q, none⟩ := by unfold Addr.add; split <;> simp_all
      have hg := (hb.block g (Array.getElem?_eq_some_iff.1 e1).1).trans e1
      rw [hadd, cell_of_row W g q _ _ _ hg]
      exact e2
    rw [hA1, hA2, hB1, hB2]
    exact ⟨z _ _ _ _ x1 (x3 q (by omega)), z _ _ _ _ y1 (y3 q (by omega)), z _ _ _ _ x4 (x6 q (by omega)), z _ _ _ _ y4 (y6 q (by omega))⟩
  have hrow' := Lib.hid hrow
  have hfin := Lib.hid (show Ltx.norm (bfrom pa pb da db first N 0) = Ltx.norm (Ltx.behind pa pb da db first n 0) by
    rw [hNn, behind_bfrom, Nat.zero_add]
    refine Ltx.norm_idle fun p hp => ?_
    have hm : Ltx.mid da db n = [⟨1, 0, []⟩] := by unfold Ltx.mid; rw [hdb, hda]; rfl
    rw [hm] at hp
    obtain rfl := List.mem_singleton.1 hp
    rfl)
  have htot := bfrom_tot pa pb da db first N
  rw [hNn] at htot
  rw [← hNn]
  rw [← hNn] at htot hsum
  have htotH := Lib.hid htot
  have hpaH := Lib.hid hpa
  have hpbH := Lib.hid hpb
  have hNN := Lib.hid (show N ≤ 10001 by omega)
  have hsumH := Lib.hid hsum
  rw [← hA1, ← hA2, ← hB1, ← hB2]
  clear hNn hA1 hA2 hB1 hB2 hrow htot hpa hpb hsum hA hB hda hdb hn
  go_enter Try.func41, Try.ntmps41
  go_wp2_with fail
  obtain ⟨wB, hwB⟩ : ∃ wB, wB = (w.alloc (.cells #[.slice (some A1) N N, .slice (some A2) N N] 70)).alloc (.cells #[.slice (some B1) N N, .slice (some B2) N N] 70) := ⟨_, rfl⟩
  rw [← hwB]
  have hsB : wB.heap.size = w.heap.size + 2 := by rw [hwB]; simp
  have eA : wB.heap[w.heap.size]? = some (.cells #[.slice (some A1) N N, .slice (some A2) N N] 70 (0, 0)) := by rw [hwB]; exact (Go.heap_alloc_old _ _ (by simp)).trans (heap_alloc_new w _)
  have eB : wB.heap[w.heap.size + 1]? = some (.cells #[.slice (some B1) N N, .slice (some B2) N N] 70 (0, 0)) := by
    have h := heap_alloc_new (w.alloc (.cells #[.slice (some A1) N N, .slice (some A2) N N] 70)) (.cells #[.slice (some B1) N N, .slice (some B2) N N] 70)
    rw [show (w.alloc (.cells #[.slice (some A1) N N, .slice (some A2) N N] 70)).heap.size = w.heap.size + 1 by simp] at h
    rw [hwB]
    exact h
  have hbB : Below w.heap.size w wB := by rw [hwB]; exact ((Below.refl w.heap.size w).alloc (Nat.le_refl _) _).alloc (by simp) _
  have hsB' := Lib.hid hsB
  have eA' := Lib.hid eA
  have eB' := Lib.hid eB
  have hbB' := Lib.hid hbB
  clear hwB hsB eA eB hbB
  go_loopw [7, 8] (fun out k wr => ∃ (q : Nat) (v : Value), q ≤ N ∧ k = .int .i64 (q : Int) ∧ out = v ∧ OwnP wB.heap.size wr v (bfrom pa pb da db first q 0) ∧ Below wB.heap.size wB wr) (fun _ k _ => N - (intOf k).toNat)
  case atStart => exact ⟨0, .slice none 0 0, Nat.zero_le _, rfl, rfl, OwnP.nil_ _ _, Below.refl _ _⟩
  case round =>
    obtain ⟨q, v, hq, rfl, rfl, hown, hbel⟩ := hrel
    obtain ⟨V1, V2, rfl, -, -, -, -⟩ := own_form hown
    have cA := (hbel.block w.heap.size (by rw [hsB'.out]; omega)).trans eA'.out
    have cB := (hbel.block (w.heap.size + 1) (by rw [hsB'.out]; omega)).trans eB'.out
    have a0 := cell_of_row wr w.heap.size 0 _ _ _ cA
    have a1 := cell_of_row wr w.heap.size 1 _ _ _ cA
    have b0 := cell_of_row wr (w.heap.size + 1) 0 _ _ _ cB
    have b1 := cell_of_row wr (w.heap.size + 1) 1 _ _ _ cB
    simp at a0 a1 b0 b1
    have hown' := Lib.hid hown
    have hbel' := Lib.hid hbel
    clear cA cB hown hbel
    by_cases hqN : q < N
    · have hqI : (q : Int) < (N : Int) := by omega
      have hqb : (q : Int) + 1 ≤ 10001 := by have := hNN.out; omega
      have hw0 : Below w.heap.size w wr := hbB'.out.trans (hbel'.out.mono (by rw [hsB'.out]; omega))
      obtain ⟨r1, r2, r3, r4⟩ := hrow'.out wr hw0 q hqN
      have l1 := hpaH.out q
      have l2 := hpbH.out q
      have hll := Lib.hid (show (bfrom pa pb da db first q 0).length ≤ 3 * q from (bfrom_tot pa pb da db first q).2)
      have hsn := Lib.hid (bfrom_snoc pa pb da db first q 0)
      have s1 := World.block_lt_of_cell? wr _ r1
      have s2 := World.block_lt_of_cell? wr _ r2
      have s3 := World.block_lt_of_cell? wr _ r3
      have s4 := World.block_lt_of_cell? wr _ r4
      have s5 : w.heap.size < wr.heap.size := by have := hbel'.out.size; have := hsB'.out; omega
      have s6 : w.heap.size + 1 < wr.heap.size := by have := hbel'.out.size; have := hsB'.out; omega
      rw [block_add] at s1 s2 s3 s4
      have r1' : ∀ o, (wr.alloc o).cell? (A1.add q) = some (.string ⟨(pa q).toArray⟩) := fun o => (((Below.refl wr.heap.size wr).alloc (Nat.le_refl _) o).cell (p := A1.add q) (by rw [block_add]; exact s1)).trans r1
      clear hw0
      generalize hx : pa q = x at *
      generalize hy : pb q = y at *
      have hxH := Lib.hid hx
      have hyH := Lib.hid hy
      clear hx hy
      have hbW : wB.heap.size ≤ wr.heap.size := hbel'.out.size
      have hlit := Lib.hid (fun (o1 o2 : Obj) (p2 : List Pc) => show ∀ j u, (p2.flatMap cellsOf)[j]? = some u → (((wr.alloc o1).alloc o2).alloc (.cells (p2.flatMap cellsOf).toArray 29)).cell? ((⟨wr.heap.size + 1 + 1, 0, none⟩ : Addr).add j) = some u from by
        have h := lit_news ((wr.alloc o1).alloc o2) p2
        rw [show ((wr.alloc o1).alloc o2).heap.size = wr.heap.size + 1 + 1 by simp] at h
        exact h)
      have hB3 := Lib.hid (fun (o1 o2 o3 : Obj) => show Below wB.heap.size wB (((wr.alloc o1).alloc o2).alloc o3) from ((hbel'.out.alloc hbW _).alloc (by simp; omega) _).alloc (by simp; omega) _)
      cases first
      · cases hdq : db q
        · cases haq : da q
          · rw [haq] at r2; rw [hdq] at r4
            have haqH := Lib.hid haq
            have hdqH := Lib.hid hdq
            have hen := Lib.hid (show Ltx.ends pa pb false (0 + q) ++ Ltx.mid da db (0 + q) = [⟨y.length, 0, []⟩, ⟨0, 0, x⟩] ++ [⟨1, 0, []⟩] by rw [Nat.zero_add, ends_false, hxH.out, hyH.out]; unfold Ltx.mid; rw [hdq, haq]; rfl)
            go_wp2_with (first | (at_builtin; refine wpList_append_pcs rfl (.tmp 37) (.tmp 40) rfl wB.heap.size _ _ [⟨y.length, 0, []⟩, ⟨0, 0, x⟩] rfl (((hown'.out.alloc _).alloc _).alloc _) ⟨wr.heap.size + 1 + 1, 0, none⟩ 2 2 rfl rfl (hlit.out _ _ _) (by have := hll.out; have := hNN.out; omega) (by have := (hB3.out (.cells #[] 0) (.cells #[] 0) (.cells #[] 0)).size; simp at this ⊢; omega) ?_; intro v2 w2 ho2 hg2; have hb2 := (hB3.out _ _ _).grown hg2 (hB3.out _ _ _).size (fun k hk => (World.ownsRow.lt hown'.out k hk).1); have cA := (hb2.block w.heap.size (by rw [hsB'.out]; omega)).trans eA'.out; have cB := (hb2.block (w.heap.size + 1) (by rw [hsB'.out]; omega)).trans eB'.out; have a3 := cell_of_row w2 w.heap.size 1 _ _ _ cA; have b3 := cell_of_row w2 (w.heap.size + 1) 1 _ _ _ cB; simp at a3 b3; obtain ⟨-, t2, -, t4⟩ := hrow'.out w2 (hbB'.out.trans (hb2.mono (by rw [hsB'.out]; omega))) q hqN; rw [hdq] at t4; rw [haq] at t2; obtain ⟨V3, V4, rfl, -, -, -, -⟩ := own_form ho2; obtain ⟨n2, hn2⟩ : ∃ n2, n2 = (bfrom pa pb da db false q 0 ++ ([⟨y.length, 0, []⟩, ⟨0, 0, x⟩] : List Pc)).length := ⟨_, rfl⟩; rw [← hn2] at ho2; rw [← hn2]; have hn2' := Lib.hid hn2; clear hn2; have ho2' := Lib.hid ho2; have hb2' := Lib.hid hb2; have hs2 : wB.heap.size ≤ w2.heap.size := hb2.size; clear ho2 hb2 hg2 cA cB) | (at_builtin; refine wpList_append_pcs rfl (.tmp 42) (.tmp 44) rfl wB.heap.size _ _ [⟨1, 0, []⟩] rfl (ho2'.out.alloc _) ⟨w2.heap.size, 0, none⟩ 1 1 rfl rfl (lit_news w2 _) (by have := hll.out; have := hNN.out; rw [List.length_append]; simp; omega) (by simp; omega) ?_; intro v3 w3 ho3 hg3; have hb3 := (hb2'.out.alloc hs2 _).grown hg3 (by simp; omega) (fun k hk => (World.ownsRow.lt ho2'.out k hk).1); obtain ⟨V5, V6, rfl, -, -, -, -⟩ := own_form ho3; obtain ⟨n3, hn3⟩ : ∃ n3, n3 = (bfrom pa pb da db false q 0 ++ ([⟨y.length, 0, []⟩, ⟨0, 0, x⟩] : List Pc) ++ ([⟨1, 0, []⟩] : List Pc)).length := ⟨_, rfl⟩; rw [← hn3] at ho3; rw [← hn3]; have hn3' := Lib.hid hn3; clear hn3; have ho3' := Lib.hid ho3; have hb3' := Lib.hid hb3; clear ho3 hb3 hg3))
            go_roundw
            case rel =>
              refine ⟨q + 1, _, by omega, by go_num, rfl, ?_, hb3'.out⟩
              have h := ho3'.out
              rw [hsn.out, hen.out]
              rw [← List.append_assoc]; exact h
            case measure => simp [intOf]; omega
          · rw [haq] at r2; rw [hdq] at r4
            have hen := Lib.hid (show Ltx.ends pa pb false (0 + q) ++ Ltx.mid da db (0 + q) = [⟨y.length, 0, []⟩, ⟨0, 0, x⟩] ++ [⟨0, 1, []⟩] by rw [Nat.zero_add, ends_false, hxH.out, hyH.out]; unfold Ltx.mid; rw [hdq, haq]; rfl)
            go_wp2_with (first | (at_builtin; refine wpList_append_pcs rfl (.tmp 37) (.tmp 40) rfl wB.heap.size _ _ [⟨y.length, 0, []⟩, ⟨0, 0, x⟩] rfl (((hown'.out.alloc _).alloc _).alloc _) ⟨wr.heap.size + 1 + 1, 0, none⟩ 2 2 rfl rfl (hlit.out _ _ _) (by have := hll.out; have := hNN.out; omega) (by have := (hB3.out (.cells #[] 0) (.cells #[] 0) (.cells #[] 0)).size; simp at this ⊢; omega) ?_; intro v2 w2 ho2 hg2; have hb2 := (hB3.out _ _ _).grown hg2 (hB3.out _ _ _).size (fun k hk => (World.ownsRow.lt hown'.out k hk).1); have cA := (hb2.block w.heap.size (by rw [hsB'.out]; omega)).trans eA'.out; have cB := (hb2.block (w.heap.size + 1) (by rw [hsB'.out]; omega)).trans eB'.out; have a3 := cell_of_row w2 w.heap.size 1 _ _ _ cA; have b3 := cell_of_row w2 (w.heap.size + 1) 1 _ _ _ cB; simp at a3 b3; obtain ⟨-, t2, -, t4⟩ := hrow'.out w2 (hbB'.out.trans (hb2.mono (by rw [hsB'.out]; omega))) q hqN; rw [hdq] at t4; rw [haq] at t2; obtain ⟨V3, V4, rfl, -, -, -, -⟩ := own_form ho2; obtain ⟨n2, hn2⟩ : ∃ n2, n2 = (bfrom pa pb da db false q 0 ++ ([⟨y.length, 0, []⟩, ⟨0, 0, x⟩] : List Pc)).length := ⟨_, rfl⟩; rw [← hn2] at ho2; rw [← hn2]; have hn2' := Lib.hid hn2; clear hn2; have ho2' := Lib.hid ho2; have hb2' := Lib.hid hb2; have hs2 : wB.heap.size ≤ w2.heap.size := hb2.size; clear ho2 hb2 hg2 cA cB) | (at_builtin; refine wpList_append_pcs rfl (.tmp 58) (.tmp 60) rfl wB.heap.size _ _ [⟨0, 1, []⟩] rfl (ho2'.out.alloc _) ⟨w2.heap.size, 0, none⟩ 1 1 rfl rfl (lit_news w2 _) (by have := hll.out; have := hNN.out; rw [List.length_append]; simp; omega) (by simp; omega) ?_; intro v3 w3 ho3 hg3; have hb3 := (hb2'.out.alloc hs2 _).grown hg3 (by simp; omega) (fun k hk => (World.ownsRow.lt ho2'.out k hk).1); obtain ⟨V5, V6, rfl, -, -, -, -⟩ := own_form ho3; obtain ⟨n3, hn3⟩ : ∃ n3, n3 = (bfrom pa pb da db false q 0 ++ ([⟨y.length, 0, []⟩, ⟨0, 0, x⟩] : List Pc) ++ ([⟨0, 1, []⟩] : List Pc)).length := ⟨_, rfl⟩; rw [← hn3] at ho3; rw [← hn3]; have hn3' := Lib.hid hn3; clear hn3; have ho3' := Lib.hid ho3; have hb3' := Lib.hid hb3; clear ho3 hb3 hg3))
            go_roundw
            case rel =>
              refine ⟨q + 1, _, by omega, by go_num, rfl, ?_, hb3'.out⟩
              have h := ho3'.out
              rw [hsn.out, hen.out]
              rw [← List.append_assoc]; exact h
            case measure => simp [intOf]; omega
        · rw [hdq] at r4
          have hen := Lib.hid (show Ltx.ends pa pb false (0 + q) ++ Ltx.mid da db (0 + q) = [⟨y.length, 0, []⟩, ⟨0, 0, x⟩] ++ [] by rw [Nat.zero_add, ends_false, hxH.out, hyH.out]; unfold Ltx.mid; rw [hdq]; rfl)
          go_wp2_with ((at_builtin; refine wpList_append_pcs rfl (.tmp 37) (.tmp 40) rfl wB.heap.size _ _ [⟨y.length, 0, []⟩, ⟨0, 0, x⟩] rfl (((hown'.out.alloc _).alloc _).alloc _) ⟨wr.heap.size + 1 + 1, 0, none⟩ 2 2 rfl rfl (hlit.out _ _ _) (by have := hll.out; have := hNN.out; omega) (by have := (hB3.out (.cells #[] 0) (.cells #[] 0) (.cells #[] 0)).size; simp at this ⊢; omega) ?_; intro v2 w2 ho2 hg2; have hb2 := (hB3.out _ _ _).grown hg2 (hB3.out _ _ _).size (fun k hk => (World.ownsRow.lt hown'.out k hk).1); have cA := (hb2.block w.heap.size (by rw [hsB'.out]; omega)).trans eA'.out; have cB := (hb2.block (w.heap.size + 1) (by rw [hsB'.out]; omega)).trans eB'.out; have a3 := cell_of_row w2 w.heap.size 1 _ _ _ cA; have b3 := cell_of_row w2 (w.heap.size + 1) 1 _ _ _ cB; simp at a3 b3; obtain ⟨-, t2, -, t4⟩ := hrow'.out w2 (hbB'.out.trans (hb2.mono (by rw [hsB'.out]; omega))) q hqN; rw [hdq] at t4; obtain ⟨V3, V4, rfl, -, -, -, -⟩ := own_form ho2; obtain ⟨n2, hn2⟩ : ∃ n2, n2 = (bfrom pa pb da db false q 0 ++ ([⟨y.length, 0, []⟩, ⟨0, 0, x⟩] : List Pc)).length := ⟨_, rfl⟩; rw [← hn2] at ho2; rw [← hn2]; have hn2' := Lib.hid hn2; clear hn2; have ho2' := Lib.hid ho2; have hb2' := Lib.hid hb2; have hs2 : wB.heap.size ≤ w2.heap.size := hb2.size; clear ho2 hb2 hg2 cA cB))
          go_roundw
          case rel =>
            refine ⟨q + 1, _, by omega, by go_num, rfl, ?_, hb2'.out⟩
            have h := ho2'.out
            rw [hsn.out, hen.out]
            rw [List.append_nil]; exact h
          case measure => simp [intOf]; omega
      · cases hdq : db q
        · cases haq : da q
          · rw [haq] at r2; rw [hdq] at r4
            have haqH := Lib.hid haq
            have hdqH := Lib.hid hdq
            have hen := Lib.hid (show Ltx.ends pa pb true (0 + q) ++ Ltx.mid da db (0 + q) = [⟨0, 0, x⟩, ⟨y.length, 0, []⟩] ++ [⟨1, 0, []⟩] by rw [Nat.zero_add, ends_true, hxH.out, hyH.out]; unfold Ltx.mid; rw [hdq, haq]; rfl)
            go_wp2_with (first | (at_builtin; refine wpList_append_pcs rfl (.tmp 32) (.tmp 35) rfl wB.heap.size _ _ [⟨0, 0, x⟩, ⟨y.length, 0, []⟩] rfl (((hown'.out.alloc _).alloc _).alloc _) ⟨wr.heap.size + 1 + 1, 0, none⟩ 2 2 rfl rfl (hlit.out _ _ _) (by have := hll.out; have := hNN.out; omega) (by have := (hB3.out (.cells #[] 0) (.cells #[] 0) (.cells #[] 0)).size; simp at this ⊢; omega) ?_; intro v2 w2 ho2 hg2; have hb2 := (hB3.out _ _ _).grown hg2 (hB3.out _ _ _).size (fun k hk => (World.ownsRow.lt hown'.out k hk).1); have cA := (hb2.block w.heap.size (by rw [hsB'.out]; omega)).trans eA'.out; have cB := (hb2.block (w.heap.size + 1) (by rw [hsB'.out]; omega)).trans eB'.out; have a3 := cell_of_row w2 w.heap.size 1 _ _ _ cA; have b3 := cell_of_row w2 (w.heap.size + 1) 1 _ _ _ cB; simp at a3 b3; obtain ⟨-, t2, -, t4⟩ := hrow'.out w2 (hbB'.out.trans (hb2.mono (by rw [hsB'.out]; omega))) q hqN; rw [hdq] at t4; rw [haq] at t2; obtain ⟨V3, V4, rfl, -, -, -, -⟩ := own_form ho2; obtain ⟨n2, hn2⟩ : ∃ n2, n2 = (bfrom pa pb da db true q 0 ++ ([⟨0, 0, x⟩, ⟨y.length, 0, []⟩] : List Pc)).length := ⟨_, rfl⟩; rw [← hn2] at ho2; rw [← hn2]; have hn2' := Lib.hid hn2; clear hn2; have ho2' := Lib.hid ho2; have hb2' := Lib.hid hb2; have hs2 : wB.heap.size ≤ w2.heap.size := hb2.size; clear ho2 hb2 hg2 cA cB) | (at_builtin; refine wpList_append_pcs rfl (.tmp 42) (.tmp 44) rfl wB.heap.size _ _ [⟨1, 0, []⟩] rfl (ho2'.out.alloc _) ⟨w2.heap.size, 0, none⟩ 1 1 rfl rfl (lit_news w2 _) (by have := hll.out; have := hNN.out; rw [List.length_append]; simp; omega) (by simp; omega) ?_; intro v3 w3 ho3 hg3; have hb3 := (hb2'.out.alloc hs2 _).grown hg3 (by simp; omega) (fun k hk => (World.ownsRow.lt ho2'.out k hk).1); obtain ⟨V5, V6, rfl, -, -, -, -⟩ := own_form ho3; obtain ⟨n3, hn3⟩ : ∃ n3, n3 = (bfrom pa pb da db true q 0 ++ ([⟨0, 0, x⟩, ⟨y.length, 0, []⟩] : List Pc) ++ ([⟨1, 0, []⟩] : List Pc)).length := ⟨_, rfl⟩; rw [← hn3] at ho3; rw [← hn3]; have hn3' := Lib.hid hn3; clear hn3; have ho3' := Lib.hid ho3; have hb3' := Lib.hid hb3; clear ho3 hb3 hg3))
            go_roundw
            case rel =>
              refine ⟨q + 1, _, by omega, by go_num, rfl, ?_, hb3'.out⟩
              have h := ho3'.out
              rw [hsn.out, hen.out]
              rw [← List.append_assoc]; exact h
            case measure => simp [intOf]; omega
          · rw [haq] at r2; rw [hdq] at r4
            have hen := Lib.hid (show Ltx.ends pa pb true (0 + q) ++ Ltx.mid da db (0 + q) = [⟨0, 0, x⟩, ⟨y.length, 0, []⟩] ++ [⟨0, 1, []⟩] by rw [Nat.zero_add, ends_true, hxH.out, hyH.out]; unfold Ltx.mid; rw [hdq, haq]; rfl)
            go_wp2_with (first | (at_builtin; refine wpList_append_pcs rfl (.tmp 32) (.tmp 35) rfl wB.heap.size _ _ [⟨0, 0, x⟩, ⟨y.length, 0, []⟩] rfl (((hown'.out.alloc _).alloc _).alloc _) ⟨wr.heap.size + 1 + 1, 0, none⟩ 2 2 rfl rfl (hlit.out _ _ _) (by have := hll.out; have := hNN.out; omega) (by have := (hB3.out (.cells #[] 0) (.cells #[] 0) (.cells #[] 0)).size; simp at this ⊢; omega) ?_; intro v2 w2 ho2 hg2; have hb2 := (hB3.out _ _ _).grown hg2 (hB3.out _ _ _).size (fun k hk => (World.ownsRow.lt hown'.out k hk).1); have cA := (hb2.block w.heap.size (by rw [hsB'.out]; omega)).trans eA'.out; have cB := (hb2.block (w.heap.size + 1) (by rw [hsB'.out]; omega)).trans eB'.out; have a3 := cell_of_row w2 w.heap.size 1 _ _ _ cA; have b3 := cell_of_row w2 (w.heap.size + 1) 1 _ _ _ cB; simp at a3 b3; obtain ⟨-, t2, -, t4⟩ := hrow'.out w2 (hbB'.out.trans (hb2.mono (by rw [hsB'.out]; omega))) q hqN; rw [hdq] at t4; rw [haq] at t2; obtain ⟨V3, V4, rfl, -, -, -, -⟩ := own_form ho2; obtain ⟨n2, hn2⟩ : ∃ n2, n2 = (bfrom pa pb da db true q 0 ++ ([⟨0, 0, x⟩, ⟨y.length, 0, []⟩] : List Pc)).length := ⟨_, rfl⟩; rw [← hn2] at ho2; rw [← hn2]; have hn2' := Lib.hid hn2; clear hn2; have ho2' := Lib.hid ho2; have hb2' := Lib.hid hb2; have hs2 : wB.heap.size ≤ w2.heap.size := hb2.size; clear ho2 hb2 hg2 cA cB) | (at_builtin; refine wpList_append_pcs rfl (.tmp 58) (.tmp 60) rfl wB.heap.size _ _ [⟨0, 1, []⟩] rfl (ho2'.out.alloc _) ⟨w2.heap.size, 0, none⟩ 1 1 rfl rfl (lit_news w2 _) (by have := hll.out; have := hNN.out; rw [List.length_append]; simp; omega) (by simp; omega) ?_; intro v3 w3 ho3 hg3; have hb3 := (hb2'.out.alloc hs2 _).grown hg3 (by simp; omega) (fun k hk => (World.ownsRow.lt ho2'.out k hk).1); obtain ⟨V5, V6, rfl, -, -, -, -⟩ := own_form ho3; obtain ⟨n3, hn3⟩ : ∃ n3, n3 = (bfrom pa pb da db true q 0 ++ ([⟨0, 0, x⟩, ⟨y.length, 0, []⟩] : List Pc) ++ ([⟨0, 1, []⟩] : List Pc)).length := ⟨_, rfl⟩; rw [← hn3] at ho3; rw [← hn3]; have hn3' := Lib.hid hn3; clear hn3; have ho3' := Lib.hid ho3; have hb3' := Lib.hid hb3; clear ho3 hb3 hg3))
            go_roundw
            case rel =>
              refine ⟨q + 1, _, by omega, by go_num, rfl, ?_, hb3'.out⟩
              have h := ho3'.out
              rw [hsn.out, hen.out]
              rw [← List.append_assoc]; exact h
            case measure => simp [intOf]; omega
        · rw [hdq] at r4
          have hen := Lib.hid (show Ltx.ends pa pb true (0 + q) ++ Ltx.mid da db (0 + q) = [⟨0, 0, x⟩, ⟨y.length, 0, []⟩] ++ [] by rw [Nat.zero_add, ends_true, hxH.out, hyH.out]; unfold Ltx.mid; rw [hdq]; rfl)
          go_wp2_with ((at_builtin; refine wpList_append_pcs rfl (.tmp 32) (.tmp 35) rfl wB.heap.size _ _ [⟨0, 0, x⟩, ⟨y.length, 0, []⟩] rfl (((hown'.out.alloc _).alloc _).alloc _) ⟨wr.heap.size + 1 + 1, 0, none⟩ 2 2 rfl rfl (hlit.out _ _ _) (by have := hll.out; have := hNN.out; omega) (by have := (hB3.out (.cells #[] 0) (.cells #[] 0) (.cells #[] 0)).size; simp at this ⊢; omega) ?_; intro v2 w2 ho2 hg2; have hb2 := (hB3.out _ _ _).grown hg2 (hB3.out _ _ _).size (fun k hk => (World.ownsRow.lt hown'.out k hk).1); have cA := (hb2.block w.heap.size (by rw [hsB'.out]; omega)).trans eA'.out; have cB := (hb2.block (w.heap.size + 1) (by rw [hsB'.out]; omega)).trans eB'.out; have a3 := cell_of_row w2 w.heap.size 1 _ _ _ cA; have b3 := cell_of_row w2 (w.heap.size + 1) 1 _ _ _ cB; simp at a3 b3; obtain ⟨-, t2, -, t4⟩ := hrow'.out w2 (hbB'.out.trans (hb2.mono (by rw [hsB'.out]; omega))) q hqN; rw [hdq] at t4; obtain ⟨V3, V4, rfl, -, -, -, -⟩ := own_form ho2; obtain ⟨n2, hn2⟩ : ∃ n2, n2 = (bfrom pa pb da db true q 0 ++ ([⟨0, 0, x⟩, ⟨y.length, 0, []⟩] : List Pc)).length := ⟨_, rfl⟩; rw [← hn2] at ho2; rw [← hn2]; have hn2' := Lib.hid hn2; clear hn2; have ho2' := Lib.hid ho2; have hb2' := Lib.hid hb2; have hs2 : wB.heap.size ≤ w2.heap.size := hb2.size; clear ho2 hb2 hg2 cA cB))
          go_roundw
          case rel =>
            refine ⟨q + 1, _, by omega, by go_num, rfl, ?_, hb2'.out⟩
            have h := ho2'.out
            rw [hsn.out, hen.out]
            rw [List.append_nil]; exact h
          case measure => simp [intOf]; omega
    · have hqI : ¬ (q : Int) < (N : Int) := by omega
      have hqn : q = N := by omega
      have hown2 := Lib.hid (show OwnP wB.heap.size wr (.slice V1 (bfrom pa pb da db first q 0).length V2) (bfrom pa pb da db first N 0) by rw [← hqn]; exact hown'.out)
      obtain ⟨L, hL⟩ : ∃ L, L = (bfrom pa pb da db first q 0).length := ⟨_, rfl⟩
      rw [← hL] at hown2
      rw [← hL]
      have hfz := bfrom_tot pa pb da db first N
      have hsm2 : totP (bfrom pa pb da db first N 0) ≤ 1000000 := by have := hsumH.out; have := hNN.out; omega
      have hll2 : (bfrom pa pb da db first N 0).length ≤ 1000000 := by have := hNN.out; omega
      obtain ⟨Ax, nx, cx, e1, hnx, -, hcx, hPx, -⟩ := hown2.out.shape (low_of (by omega))
      injection e1 with e2 e3 e4
      subst e2 e3 e4
      have hPx' := Lib.hid hPx
      have hLm : L ≤ maxLen := by unfold maxLen; omega
      clear hPx hL hqn hown' hnx
      go_wp2_with (go_at_call 29; refine (rnorm_any wr V1 L V2 _ hPx'.out hLm hsm2 hll2).mono ?_; rintro e w5 ⟨v, rfl, hv, hb5⟩; have hv' := Lib.hid hv; have hb5' := Lib.hid hb5; clear hv hb5)
      go_ret
      refine ⟨v, rfl, ?_, ?_⟩
      · have h := hv'.out
        rw [hfin.out] at h
        exact own_base h (by have := hbel'.out.size; have := hsB'.out; omega)
      · exact (hbB'.out.trans (hbel'.out.mono (by rw [hsB'.out]; omega))).trans (hb5'.out.mono (by have := hbel'.out.size; have := hsB'.out; omega))
end Go.Proofs.Ytoeplaofgmdlbaa
