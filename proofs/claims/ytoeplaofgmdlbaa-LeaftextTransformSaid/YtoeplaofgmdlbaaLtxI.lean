/- The document's: an edit, made normal. -/
import Derived.Test.YtoeplaofgmdlbaaLtxH
import Derived.RegionTactic
import Derived.BigRegion
import Derived.Deep.RegionHeld3
import Derived.Deep.AppendLies
namespace Go.Proofs.Ytoeplaofgmdlbaa
open Go.RowKit
set_option maxRecDepth 20000
open Ltx (Pc)

theorem fold_tot (l : List Pc) (out : List Pc) (k : Nat) (h : l.foldl Ltx.normStep ([], 0) = (out, k)) : totP out + k = totP l := by
  have h1 := (Ltx.norm_does l).2
  have h2 := (Ltx.fold_sums l ([], 0)).1
  rw [h] at h1 h2
  simp only [Ltx.puts] at h1 h2
  unfold totP
  omega
theorem fold_take (l : List Pc) (q : Nat) (p : Pc) (h : l[q]? = some p) (s : List Pc × Nat) (hs : (l.take q).foldl Ltx.normStep ([], 0) = s) : (l.take (q + 1)).foldl Ltx.normStep ([], 0) = Ltx.normStep s p := by
  rw [List.take_add_one, h, List.foldl_append, hs]
  rfl
theorem run_cat (w : World) (a b : List UInt8) (h : a.length + b.length ≤ 4000000000) : (binOp .add 9 (.string ⟨a.toArray⟩) (.string ⟨b.toArray⟩)).run Try.prog w = .ok (.string ⟨(a ++ b).toArray⟩) w := by
  have h1 := run_string_add_sum (P := Try.prog) w ⟨a.toArray⟩ ⟨b.toArray⟩ (by show a.length + b.length ≤ _; omega)
  have h2 : (⟨a.toArray⟩ : ByteArray) ++ ⟨b.toArray⟩ = ⟨(a ++ b).toArray⟩ := by
    apply ByteArray.ext
    simp
  rw [h2] at h1
  simp only [binOp]
  simp [h1]
/-- an empty text, or not -/
theorem run_eq_empty (w : World) (a : List UInt8) : (binOp .eql 9 (.string ⟨a.toArray⟩) (.string ⟨#[]⟩)).run Try.prog w = .ok (.bool a.isEmpty) w := by
  cases a with
  | nil => simp only [binOp]; simp [Op.stringOp]
  | cons x r => simp only [binOp]; simp [Op.stringOp]
theorem bcat (a b : List UInt8) : (⟨a.toArray⟩ : ByteArray) ++ ⟨b.toArray⟩ = ⟨(a ++ b).toArray⟩ := by
  apply ByteArray.ext
  simp
/-- the last piece of a row of the call's own, written anew -/
theorem own_set_last {w : World} {base n c j g : Nat} {init : List Pc} {z : Pc} (h : OwnP base w (.slice (some ⟨g, 0, none⟩) n c) (init ++ [z])) (hj : j = init.length) (y : Pc) :
    OwnP base (((w.setCell ⟨g, j * 3, none⟩ (.int .i64 (y.keep : Int))).setCell ⟨g, j * 3 + 1, none⟩ (.int .i64 (y.drop : Int))).setCell ⟨g, j * 3 + 2, none⟩ (.string ⟨y.put.toArray⟩)) (.slice (some ⟨g, 0, none⟩) n c) (init ++ [y]) := by
  unfold OwnP at h ⊢
  have hn : n = (init ++ [z]).length := by
    rcases h.2 with ⟨e, _⟩ | ⟨g', cap, cur, e, _⟩
    · cases e
    · injection e
  rw [← hn] at h
  have hl : (init.flatMap cellsOf).length = j * 3 := by rw [cells_len, hj]
  have h3 := ((World.ownsRow.stored (World.ownsRow.stored (World.ownsRow.stored h (j * 3) (.int .i64 (y.keep : Int))).1 (j * 3 + 1) (.int .i64 (y.drop : Int))).1 (j * 3 + 2) (.string ⟨y.put.toArray⟩)).1)
  have e : ((((init ++ [z]).flatMap cellsOf).set (j * 3) (.int .i64 (y.keep : Int))).set (j * 3 + 1) (.int .i64 (y.drop : Int))).set (j * 3 + 2) (.string ⟨y.put.toArray⟩) = (init ++ [y]).flatMap cellsOf := by
    rw [List.flatMap_append, List.flatMap_append, List.set_append_right _ _ (by omega), List.set_append_right _ _ (by omega), List.set_append_right _ _ (by omega), hl]
    congr 1
    rw [show j * 3 - j * 3 = 0 by omega, show j * 3 + 1 - j * 3 = 1 by omega, show j * 3 + 2 - j * 3 = 2 by omega]
    rfl
  rw [e] at h3
  rw [show (init ++ [y]).length = n by rw [hn]; simp]
  exact h3
/-- the last piece of a row of the call's own -/
theorem own_last {w : World} {base n c j : Nat} {A : Option Addr} {init : List Pc} {z : Pc} (h : OwnP base w (.slice A n c) (init ++ [z])) (hj : j = init.length) :
    ∃ g, A = some ⟨g, 0, none⟩ ∧ base ≤ g ∧ g < w.heap.size ∧ (w.cell? ⟨g, j * 3, none⟩ = some (.int .i64 (z.keep : Int)) ∧ w.cell? ⟨g, j * 3 + 1, none⟩ = some (.int .i64 (z.drop : Int)) ∧ w.cell? ⟨g, j * 3 + 2, none⟩ = some (.string ⟨z.put.toArray⟩)) ∧
      (w.frozen? ⟨g, j * 3, none⟩ = false ∧ w.frozen? ⟨g, j * 3 + 1, none⟩ = false ∧ w.frozen? ⟨g, j * 3 + 2, none⟩ = false) := by
  have h' := h
  have hz : (init ++ [z])[j]? = some z := by rw [hj]; simp
  rcases h.2 with ⟨e, h0⟩ | ⟨g, cap, cur, e, hb, hg, hnc, hcm, hcs, _⟩
  · simp at h0
  · injection e with e1 e2 e3
    subst e1 e2 e3
    have hcell : ∀ i v, (cellsOf z)[i]? = some v → w.cell? ⟨g, j * 3 + i, none⟩ = some v := fun i v hi => by
      have := h'.cells (g := g) rfl _ _ (cells_at _ j z hz i v hi)
      have hadd : (⟨g, 0, none⟩ : Addr).add (j * 3 + i) = ⟨g, j * 3 + i, none⟩ := by unfold Addr.add; split <;> simp_all
      rwa [hadd] at this
    exact ⟨g, rfl, hb, (Array.getElem?_eq_some_iff.1 hg).1, ⟨hcell 0 _ rfl, hcell 1 _ rfl, hcell 2 _ rfl⟩, World.ownsRow.frozenAt h' _, World.ownsRow.frozenAt h' _, World.ownsRow.frozenAt h' _⟩
set_option maxHeartbeats 2000000 in
theorem rnorm_any (w : World) (A : Option Addr) (n c : Nat) (l : List Pc) (hx : PcsIn w A n (l.map ipc)) (hn : n ≤ maxLen) (hsm : totP l ≤ 1000000) (hll : l.length ≤ 1000000) :
    Calls Try.prog 29 #[.slice A n c] w fun e w' => ∃ v, e = .returned v ∧ OwnP w.heap.size w' v (Ltx.norm l) ∧ Below w.heap.size w w' := by
  have hx' := Lib.hid hx
  have hlen := Lib.hid (show l.length = n by have := hx.1; simpa using this)
  have hn2 : n ≤ 1000000 := by rw [← hlen.out]; exact hll
  clear hx hll
  have hn' : (n : Int) ≤ 9223372036854775807 := by unfold maxLen at hn; omega
  have heq := run_eq_empty
  go_enter Try.func29, Try.ntmps29
  go_wp2_with fail
  go_loopw [3, 4, 5] (fun v s i wr => ∃ (q : Nat) (out : List Pc) (k : Nat), q ≤ n ∧ i = .int .i64 (q : Int) ∧ s = .int .i64 (k : Int) ∧ (l.take q).foldl Ltx.normStep ([], 0) = (out, k) ∧ OwnP w.heap.size wr v out ∧ Below w.heap.size w wr) (fun _ _ i _ => n - (intOf i).toNat)
  case atStart => exact ⟨0, [], 0, Nat.zero_le _, rfl, rfl, rfl, OwnP.nil_ _ _, Below.refl _ _⟩
  case round =>
    obtain ⟨q, out, k, hq, rfl, rfl, hst, hown, hbel⟩ := hrel
    have htot := fold_tot _ _ _ hst
    have htl := tot_take l q
    obtain ⟨A1, n1, k1, rfl, hn1, hnk1, hkm1, hP1, hA1⟩ := hown.shape (low_of (by omega))
    have hn1' := Lib.hid hn1
    have hown' := Lib.hid hown
    have hbel' := Lib.hid hbel
    have hbs := hbel.size
    by_cases h1 : q < n
    · have h1I : (q : Int) < (n : Int) := by omega
      obtain ⟨ad, p, rfl, hpq, hlt, hp⟩ := (hx'.out.below hbel).pc h1
      obtain ⟨x1, x2, x3, x4, x5, x6, x7, x8⟩ := hp
      have hst2 := Lib.hid (fold_take l q p hpq _ hst)
      have htl2 := tot_take l (q + 1)
      have htot2 : totP (l.take (q + 1)) = totP (l.take q) + totP [p] := by rw [List.take_add_one, hpq, totP_append]; rfl
      obtain ⟨kp, dr, pu⟩ := p
      rw [totP_one] at htot2
      simp only [ipc] at *
      unfold maxLen at x5
      have hkk : k + kp ≤ 1000000 := by omega
      have hpd : pu.length + dr ≤ 1000000 := by omega
      have hto := Lib.hid (show totP out + k + kp + dr + pu.length ≤ 1000000 by omega)
      have hol := Lib.hid (show out.length ≤ 1000000 by
        have h := (Ltx.norm_normal (l.take q))
        unfold Ltx.norm at h
        rw [hst] at h
        have := normal_tot h
        dsimp only at this
        omega)
      have hadlt := Lib.hid (show ad.block < w.heap.size by
        obtain ⟨ad', _, e, _, hb', _⟩ := hx'.out.pc h1
        injection e with e
        rw [e]
        exact hb')
      have kkeep := Lib.hid (show ∀ w3, World.grownBy ((wr.alloc (.cells #[.int .i64 ((k : Int) + (kp : Int)), .int .i64 (dr : Int), .string ⟨pu.toArray⟩] 29)).drew) w3 (Value.ownBlock (.slice A1 n1 k1)) → w3.cell? ⟨(ad.add (q * 3)).block, (ad.add (q * 3)).off + 1, none⟩ = some (.int .i64 (dr : Int)) ∧ w3.cell? ⟨(ad.add (q * 3)).block, (ad.add (q * 3)).off + 2, none⟩ = some (.string ⟨pu.toArray⟩) from fun w3 hg3 => by
        have hb : w3.heap[(ad.add (q * 3)).block]? = wr.heap[(ad.add (q * 3)).block]? := by
          rw [block_add]
          rw [hg3.block ad.block (by simp; omega) (fun e => by
            have := (World.ownsRow.lt hown'.out _ e.symm).1
            have := hadlt.out
            omega)]
          exact Go.heap_alloc_old wr _ hlt
        exact ⟨(World.cell?_of_block (w := wr) (w' := w3) (a := ⟨(ad.add (q * 3)).block, (ad.add (q * 3)).off + 1, none⟩) hb).trans x7, (World.cell?_of_block (w := wr) (w' := w3) (a := ⟨(ad.add (q * 3)).block, (ad.add (q * 3)).off + 2, none⟩) hb).trans x8⟩)
      clear hn1 hown hbel hst htot htl htl2 htot2 hP1 hpq
      by_cases hi : pu = [] ∧ dr = 0
      · obtain ⟨rfl, rfl⟩ := hi
        have hfin := Lib.hid (show (l.take (q + 1)).foldl Ltx.normStep ([], 0) = (out, k + kp) by rw [hst2.out]; rfl)
        go_wp2_with fail
        go_roundw
        case rel => exact ⟨q + 1, out, k + kp, by omega, by go_num, by go_num, hfin.out, hown'.out, hbel'.out⟩
        case measure => simp [intOf]; omega
      · have hidle : Ltx.idle ⟨kp, dr, pu⟩ = false := by
          unfold Ltx.idle
          cases hpp : pu with
          | nil =>
            have : dr ≠ 0 := fun e => hi ⟨hpp, e⟩
            simp [this]
          | cons a b => simp
        have hgd : pu.isEmpty = false ∨ (pu.isEmpty = true ∧ ((dr : Int) == 0) = false) := by
          cases hpp : pu with
          | nil =>
            have : ¬ (dr : Int) = 0 := fun e => hi ⟨hpp, by omega⟩
            exact .inr ⟨rfl, by simpa using this⟩
          | cons a b => exact .inl rfl
        clear hi
        by_cases hj : k + kp = 0 ∧ out ≠ []
        · obtain ⟨hj1, hj2⟩ := hj
          obtain ⟨rfl, rfl⟩ : k = 0 ∧ kp = 0 := by omega
          obtain ⟨init, z, rfl⟩ : ∃ init z, out = init ++ [z] := ⟨out.dropLast, out.getLast hj2, (List.dropLast_concat_getLast hj2).symm⟩
          have hfin := Lib.hid (show (l.take (q + 1)).foldl Ltx.normStep ([], 0) = (init ++ [⟨z.keep, z.drop + dr, z.put ++ pu⟩], 0) by
            rw [hst2.out]
            unfold Ltx.normStep
            dsimp only
            rw [hidle, if_neg (by decide), if_pos ⟨rfl, hj2⟩]
            unfold Ltx.joinLast
            simp)
          obtain ⟨j, hjl⟩ : ∃ j, j = init.length := ⟨_, rfl⟩
          have hjl' := Lib.hid hjl
          obtain rfl : n1 = j + 1 := by rw [hn1'.out, hjl]; simp
          have hjb : j + 1 ≤ 1000000 := by have := hol.out; rw [hjl]; simpa using this
          have hzt : z.drop + dr ≤ 1000000 ∧ z.put.length + pu.length ≤ 1000000 := by
            have h := hto.out
            rw [totP_append, show totP [z] = totP [⟨z.keep, z.drop, z.put⟩] from rfl, totP_one] at h
            omega
          obtain ⟨hz1, hz2⟩ := hzt
          obtain ⟨g, rfl, hgb, hgl, hgc, hgf⟩ := own_last hown'.out hjl
          obtain ⟨e0, e1, e2⟩ := hgc
          obtain ⟨f0, f1, f2⟩ := hgf
          have hgne := Lib.hid (show g ≠ ad.block by have := hadlt.out; omega)
          have hltE : (ad.add (q * 3)).block < wr.heap.size := by rw [block_add]; exact hlt
          have hcat := fun W => run_cat W z.put pu (by omega)
          have hI0 : (0 : Int) < ((j + 1 : Nat) : Int) := by omega
          clear hidle hj1 hj2 hjl
          obtain ⟨zk, zd, zp⟩ := z
          simp only at *
          rcases hgd with g1 | ⟨g1, g1b⟩
          all_goals
            go_wp2_with fail
            go_region
            go_wp2_with fail
            go_region
            go_wp2_with fail
            refine ⟨⟨q + 1, init ++ [⟨zk, zd + dr, zp ++ pu⟩], 0, by omega, by go_num, rfl, hfin.out, ?_, ?_⟩, by simp [intOf]; omega⟩
            · have h := (own_set_last hown'.out hjl'.out ⟨zk, zd + dr, zp ++ pu⟩).alloc (.cells #[.int .i64 (zk : Int), .int .i64 ((zd : Int) + (dr : Int)), .string ((⟨zp.toArray⟩ : ByteArray) ++ ⟨pu.toArray⟩)] 29)
              simp only [bcat, Int.natCast_add] at h ⊢
              exact h
            · exact ((((((hbel'.out.setCell hgb _).setCell hgb _).setCell hgb _).alloc (by simp; omega) _).drew).drew)
        · have hfin := Lib.hid (show (l.take (q + 1)).foldl Ltx.normStep ([], 0) = (out ++ [⟨k + kp, dr, pu⟩], 0) by
            rw [hst2.out]
            unfold Ltx.normStep
            dsimp only
            rw [hidle, if_neg (by decide), if_neg hj])
          have hg2 : (((k : Int) + (kp : Int) == 0) = false) ∨ (((k : Int) + (kp : Int) == 0) = true ∧ ¬ (0 : Int) < (n1 : Int)) := by
            by_cases e : k + kp = 0
            · refine .inr ⟨by simp; omega, ?_⟩
              have : out = [] := by
                cases out with
                | nil => rfl
                | cons a b => exact absurd ⟨e, by simp⟩ hj
              rw [hn1'.out, this]
              simp
            · exact .inl (by simp; omega)
          clear hidle hj
          obtain ⟨i0, hi0, hz0, hz1, hz2⟩ := info_parts Try.infoP
          have hi0' := Lib.hid hi0
          have hz0' := Lib.hid hz0
          have hz1' := Lib.hid hz1
          have hz2' := Lib.hid hz2
          have hrow := Lib.hid (show ∀ o, ((wr.alloc o).drew).ownsRow w.heap.size 29 3 (.slice A1 n1 k1) n1 (out.flatMap cellsOf) from fun o => by
            have h := hown'.out
            unfold OwnP at h
            rw [← hn1'.out] at h
            exact World.ownsRow.alloc h o)
          have hnews := Lib.hid (show ∀ (j : Nat) (u : Value), ([.int .i64 ((k : Int) + (kp : Int)), .int .i64 (dr : Int), .string ⟨pu.toArray⟩] : List Value)[j]? = some u → (wr.alloc (.cells #[.int .i64 ((k : Int) + (kp : Int)), .int .i64 (dr : Int), .string ⟨pu.toArray⟩] 29)).drew.cell? ((⟨wr.heap.size, 0, none⟩ : Addr).add j) = some u from
            World.news_of_block (w := wr.alloc (.cells #[.int .i64 ((k : Int) + (kp : Int)), .int .i64 (dr : Int), .string ⟨pu.toArray⟩] 29)) (cs := #[.int .i64 ((k : Int) + (kp : Int)), .int .i64 (dr : Int), .string ⟨pu.toArray⟩]) (t := 29) (fr := (0, 0)) (heap_alloc_new wr _))
          have hone := Lib.hid (show ∀ u ∈ ([.int .i64 ((k : Int) + (kp : Int)), .int .i64 (dr : Int), .string ⟨pu.toArray⟩] : List Value), u.oneCell' = true from by simp [Value.oneCell'])
          have hbd := Lib.hid (show n1 + 1 ≤ maxLen ∧ (n1 + 1) * 32 ≤ 140737488355328 from by have := hn1'.out; have := hol.out; unfold maxLen; omega)
          have hbd2 := Lib.hid (show ∀ o, w.heap.size ≤ (wr.alloc o).drew.heap.size from fun o => by simp; omega)
          have hadn := Lib.hid (show ∀ b, (Value.slice A1 n1 k1).ownBlock = some b → b ≠ ad.block from fun b hb e => by
            have := (World.ownsRow.lt hown'.out b hb).1
            have := hadlt.out
            omega)
          clear hi0 hz0 hz1 hz2
          rcases hgd with g1 | ⟨g1, g1b⟩ <;> rcases hg2 with g2 | ⟨g2, g3⟩
          all_goals
            go_wp2_with fail
            go_region_held3 (fun w' => w'.cell? ⟨(ad.add (q * 3)).block, (ad.add (q * 3)).off + 1, none⟩ = some (.int .i64 (dr : Int)) ∧ w'.cell? ⟨(ad.add (q * 3)).block, (ad.add (q * 3)).off + 2, none⟩ = some (.string ⟨pu.toArray⟩))
              (first
                | go_keep
                | exact kk.out)
              ((refine step_append_lies _ (by rfl) (.tmp 71) (.tmp 84) 22 (by rfl) w.heap.size 29 i0 _ 3 32 Try.underlying22 hi0'.out hz0'.out hz1'.out hz2'.out rfl (by decide) (.slice A1 n1 k1) n1 (out.flatMap cellsOf) (by rfl) (hrow.out _)
                  ⟨wr.heap.size, 0, none⟩ 1 1 [.int .i64 ((k : Int) + (kp : Int)), .int .i64 (dr : Int), .string ⟨pu.toArray⟩] (by rfl) (by rfl) hnews.out hone.out
                  (by decide) hbd.out.1 hbd.out.2 (hbd2.out _) (wr.heap.size + 1) (by simp) ?_; intro g cap w3 ho3 hg3 hat hlt3; have kk := Lib.hid (kkeep.out w3 hg3); have ho3' := Lib.hid ho3; have hg3' := Lib.hid hg3; clear ho3 hg3 hat))
            go_wp2_with fail
            go_roundw
            case rel =>
              refine ⟨q + 1, out ++ [⟨k + kp, dr, pu⟩], 0, by omega, by go_num, rfl, hfin.out, ?_, ?_⟩
              · have h := ho3'.out
                rw [hn1'.out] at h ⊢
                unfold OwnP
                rw [List.length_append, List.flatMap_append]
                exact h
              · exact Below.grown (w := (wr.alloc (.cells #[.int .i64 ((k : Int) + (kp : Int)), .int .i64 (dr : Int), .string ⟨pu.toArray⟩] 29)).drew) ((hbel'.out.alloc hbs _).drew) hg3'.out (by simp; omega) (fun b hb => (World.ownsRow.lt hown'.out b hb).1)
            case measure => simp [intOf]; omega
    · have hqn : q = n := by omega
      have h1I : ¬ (q : Int) < (n : Int) := by omega
      have hfin := Lib.hid (show out = Ltx.norm l by unfold Ltx.norm; rw [hqn, ← hlen.out, List.take_length] at hst; rw [hst])
      clear hqn h1 hst htot htl hn1 hown hbel hP1
      go_wp2_with fail
      go_ret
      exact ⟨_, rfl, by rw [← hfin.out]; exact hown'.out, hbel'.out⟩
end Go.Proofs.Ytoeplaofgmdlbaa
