/- put, and maps.Copy at sectors. -/
import Derived.Test.YtffenadibnehfaaSecArr
import Derived.Test.YtffenadibnehfaaSecProgA
namespace Go.Proofs.Ytffenadibnehfaa
open Go.RowKit

set_option maxHeartbeats 800000 in
theorem put_any (w : World) (b n i : Nat) (f : Nat → List UInt8) (s : List UInt8) (cs : Array Value) (hS : SMap w b n f) (hi : i < n) (hn : n ≤ 100000) (hs : s.length = 128) (hcs : Hid (cs = wrtA (i : Int) s)) :
    Calls Try.prog 27 #[.map (some b), .agg cs] w fun e w' => e = .returned (.tuple #[]) ∧ SMap w' b n (upd f i s) ∧ w.grownBy w' (some b) := by
  have hS' := Lib.hid (hS.kept (w' := w.alloc (.cells cs 58)) (heap_alloc_old w _ hS.lt))
  have hblk := heap_alloc_new w (.cells cs 58 (0, 0))
  have c0 : (w.alloc (.cells cs 58)).cell? ⟨w.heap.size, 0, none⟩ = some (.int .i64 (i : Int)) := by
    rw [cell_of_row _ _ 0 _ _ _ hblk, hcs.out, wrtA_at]
  have hrng : Hid ((w.alloc (.cells cs 58)).rangeAt w.heap.size 1 (s.map byteV)) := Lib.hid fun j v hv => by
    rw [cell_of_row _ _ (1 + j) _ _ _ hblk, hcs.out, wrtA_what]
    exact hv
  have hsz : Hid ((Try.prog.info? 56).map (·.size) = some (s.map byteV).length) := Lib.hid (by rw [List.length_map, hs]; exact size_sec)
  have hg0 : w.grownBy (w.alloc (.cells cs 58)) (some b) := (World.grownBy_alloc w _ none).but _
  have hg0' := Lib.hid hg0
  have hlen : Hid (s.length = 128) := Lib.hid hs
  have hi0 : i ≤ 9223372036854775807 := by omega
  clear hS hblk hg0 hs
  cases hz : (s == zsec) with
  | true =>
    have hz' : Hid (s = zsec) := Lib.hid (by simpa using hz)
    go_enter Try.func27, Try.ntmps27
    go_wp2_with (first
      | (refine wpList_load_mid rfl 56 (.tmp 4) rfl w.heap.size 1 rfl (s.map byteV) _ hrng.out Try.underlying56 rfl hsz.out ?_)
      | (refine wpList_build_sec rfl rfl ?_)
      | (refine wpList_eql_sec rfl (.tmp 5) (.tmp 6) rfl s zsec rfl rfl hlen.out zsec_len ?_; rw [hz])
      | (at_delete; refine wpList_del_sec rfl (.tmp 8) (.tmp 10) rfl b n i f rfl rfl hS'.out hi0 ?_; intro w2 hS2 ht2))
    go_frame
    refine bodyPost_ret (results_none rfl _ _ _) rfl ?_
    exact ⟨rfl, by rw [hz'.out]; exact hS2, hg0'.out.andThen ht2.grown (fun j hj => .inr hj)⟩
  | false =>
    go_enter Try.func27, Try.ntmps27
    go_wp2_with (first
      | (refine wpList_load_mid rfl 56 (.tmp 4) rfl w.heap.size 1 rfl (s.map byteV) _ hrng.out Try.underlying56 rfl hsz.out ?_)
      | (refine wpList_load_mid rfl 56 (.tmp 14) rfl w.heap.size 1 rfl (s.map byteV) _ hrng.out Try.underlying56 rfl hsz.out ?_)
      | (refine wpList_build_sec rfl rfl ?_)
      | (refine wpList_eql_sec rfl (.tmp 5) (.tmp 6) rfl s zsec rfl rfl hlen.out zsec_len ?_; rw [hz])
      | (at_mapUpdate; refine wpList_put_sec rfl (.tmp 11) (.tmp 13) (.tmp 15) rfl b n i f s rfl rfl rfl hS'.out hi hn hlen.out ?_; intro w2 hS2 ht2))
    go_end0
    exact ⟨rfl, hS2, hg0'.out.andThen ht2.grown (fun j hj => .inr hj)⟩

/-- what a copy has laid down by now -/
def Copied (D D0 : DataW Unit) (left : Lit → Bool) : Prop := ∀ i : Nat, D.atKey (.int .i64 (i : Int)) (.lit (.string zsec)) = if (Maps.has D0 (.int .i64 (i : Int)) && !left (.int .i64 (i : Int))) = true then D0.atKey (.int .i64 (i : Int)) (.lit (.string zsec)) else .lit (.string zsec)
theorem copied_step {D D0 : DataW Unit} {left : Lit → Bool} {k : Nat} {s : List UInt8} (hm : Maps.IsMap D) (h : Copied D D0 left) (hat : ∀ zd, D0.atKey (.int .i64 (k : Int)) zd = .lit (.string s)) :
    Copied (D.put (.int .i64 (k : Int)) (.lit (.string s))) D0 (fun z => left z && !z.sameKey (.int .i64 (k : Int))) := fun i => by
  by_cases e : i = k
  · subst e
    rw [Maps.atKey_put_same hm (show WideAt.IsKeyLit (.int .i64 (i : Int)) from trivial), Maps.has_true_of_atKey hat, hat]
    simp [WideAt.sameKey_self (show WideAt.IsKeyLit (.int .i64 (i : Int)) from trivial)]
  · rw [Maps.atKey_put_other (key_ne e), h i]
    simp [Maps.sameKey_ne (key_ne e)]
theorem copied_end {D D0 : DataW Unit} {left : Lit → Bool} (h : Copied D D0 left) (hl : ∀ kl, left kl = false) (i : Nat) : D.atKey (.int .i64 (i : Int)) (.lit (.string zsec)) = D0.atKey (.int .i64 (i : Int)) (.lit (.string zsec)) := by
  rw [h i, hl]
  cases hh : Maps.has D0 (.int .i64 (i : Int)) with
  | true => simp
  | false => simp [Maps.atKey_of_not_has hh]

theorem secElem_arr {s : List UInt8} {y : DataW Unit × List MemPlace} (h : secElem (.agg (secA s)) = some y) : s.length = 128 ∧ y = (.lit (.string s), []) := by
  unfold secElem secA at h
  simp only [bytesOf_map] at h
  split at h
  · rename_i hl
    injection h with h
    exact ⟨hl, h.symm⟩
  · cases h
theorem grown_of_below {w w' : World} (h : Below w.heap.size w w') : w.grownBy w' none := ⟨h.os, h.tape, h.output, h.size, fun i hi _ => h.block i hi⟩

set_option maxRecDepth 20000 in
set_option maxHeartbeats 1600000 in
theorem copy_any (w : World) (b1 b2 n : Nat) (f : Nat → List UInt8) (h1 : SMap w b1 n (fun _ => zsec)) (h2 : SMap w b2 n f) (hn : n ≤ 100000) (hne : b1 ≠ b2) :
    Calls Try.prog 26 #[.map (some b1), .map (some b2)] w fun e w' => e = .returned (.tuple #[]) ∧ SMap w' b1 n f ∧ w.grownBy w' (some b1) := by
  obtain ⟨D0, ho2, hW2, hD2⟩ := h2
  obtain ⟨D1, ho1, hW1, hD1⟩ := h1
  have hl1 := ho1.lt
  have hl2 := ho2.lt
  have hsz : Hid ((Try.prog.info? 56).map (·.size) = some 128) := Lib.hid size_sec
  have hst : Hid (Copied D1 D0 (Maps.has D0)) := Lib.hid fun i => by rw [hD1]; cases Maps.has D0 (.int .i64 (i : Int)) <;> simp
  have hW1' := Lib.hid hW1
  have hW2' := Lib.hid hW2
  have hD2' := Lib.hid hD2
  have ho1' := Lib.hid ho1
  have ho2' := Lib.hid ho2
  clear hD1 hW1 hW2 hD2 ho1 ho2
  go_enter Try.func26, Try.ntmps26
  go_wp2_with (first
    | (at_range; refine wpList_range_own _ rfl _ 46 rfl 3 56 lawK Try.underlying46 secElem b2 n D0 rfl ho2'.out ?_; intro w0 hrg0 hg0 hs0)
    | go_in)
  go_frame
  have hrg0' := Lib.hid hrg0
  have hg0' := Lib.hid hg0
  clear hrg0 hg0
  go_loopw [4] (fun _ wr => ∃ (left : Lit → Bool) (cnt : Nat) (Dout : DataW Unit), wr.ranges Try.prog 3 secElem b2 w.heap.size n D0 left cnt ∧
      wr.ownsMap Try.prog 3 secElem b1 n Dout ∧ Within Dout n ∧ Copied Dout D0 left ∧ w.grownBy wr (some b1))
    (fun _ wr => wr.rangeLeft b2 w.heap.size)
  case atStart =>
    exact ⟨_, _, D1, hrg0'.out, ho1'.out.kept hg0'.out (by simp), hW1'.out, hst.out, hg0'.out.but _⟩
  case round =>
    obtain ⟨left, cnt, Dout, hrg, hout, hWo, hC, hgr⟩ := hrel
    clear hrg0' hg0' hs0 ho1' ho2' hst hW1'
    have hrg' := Lib.hid hrg
    have hout' := Lib.hid hout
    have hWo' := Lib.hid hWo
    have hC' := Lib.hid hC
    have hgr' := Lib.hid hgr
    clear hrg hout hWo hC hgr
    go_wp2_with (first
      | (at_next; refine wpList_next_ranges _ rfl _ rfl 3 lawK secElem (Value.int .i64) (fun s => .agg (secA s)) (fun key kl hkey => by obtain ⟨x, rfl, _⟩ := Maps.keyOf_int_inv Try.underlying3 hkey; exact ⟨x, rfl⟩) (fun v y hv => by obtain ⟨s, _, rfl, _⟩ := secElem_inv hv; exact ⟨s, rfl⟩) b2 w.heap.size n D0 left cnt rfl hrg'.out ?_ ?_)
      | go_in)
    · intro hc0 hl0
      have hfin := Lib.hid (show SMap wr b1 n f from ⟨Dout, hout'.out, hWo'.out, fun i => (copied_end hC'.out hl0 i).trans (hD2'.out i)⟩)
      clear hl0 hc0
      go_wp2
      go_end0
      exact ⟨rfl, hfin.out, hgr'.out⟩
    · intro x c kl yd yp w1 cnt1 hkey hlk hv hat hrg1 hlt hg1 hs1 hen
      obtain ⟨x', ex, hkl, _⟩ := Maps.keyOf_int_inv Try.underlying3 hkey
      cases ex
      obtain ⟨i, hi, hki⟩ := hW2'.out kl (Maps.has_true_of_atKey hat)
      have hlen : Hid (c.length = 128) := Lib.hid (secElem_arr hv).1
      have hat' := Lib.hid (show ∀ zd, D0.atKey kl zd = .lit (.string c) from fun zd => (hat zd).trans (congrArg Prod.fst (secElem_arr hv).2))
      have hki' := Lib.hid hki
      have hkey' := Lib.hid hkey
      have hrg1' := Lib.hid hrg1
      have hg1' := Lib.hid hg1
      have hout1 := Lib.hid (hout'.out.kept hg1 (by intro e; have := Option.some.inj e; omega))
      have hs1' := Lib.hid hs1
      clear hat hv hki hkl hlk hrg1 hg1 hs1 hkey
      go_wp2_with (first
        | (refine wpList_alloc_sec rfl rfl ?_)
        | (refine wpList_store_row_to rfl 56 (.tmp 5) (.tmp 12) rfl w1.heap.size (secA c) rfl rfl 56 (secA zsec) (heap_alloc_new w1 _) (by rw [secA_size hlen.out]; exact hsz.out) (by rw [secA_size hlen.out, secA_size zsec_len]) (secA_one c) ?_; intro w3 hF3 hb3 hz3; have hF3' := Lib.hid hF3; clear hF3; have hg3 := Lib.hid (grown_of_below (((Below.refl w1.heap.size w1).alloc (Nat.le_refl _) (.cells (secA zsec) 56)).trans hb3)); have ho3 := Lib.hid (hout1.out.kept hg3.out (by simp)))
        | (refine wpList_load_row rfl 56 (.tmp 5) rfl w1.heap.size rfl 56 (secA c) (0, 0) _ hF3'.out Try.underlying56 rfl (by rw [secA_size hlen.out]; exact hsz.out) ?_)
        | (at_mapUpdate; refine wpList_mapUpdate_own _ rfl (.tmp 13) (.tmp 14) (.tmp 15) 46 rfl 3 56 lawK Try.underlying46 secElem b1 n Dout rfl ho3.out (by unfold maxLen; omega) _ (.agg (secA c)) kl rfl rfl hkey'.out (.lit (.string c)) [] (secElem_mk hlen.out) ?_; intro w4 hout4 hg4; go_frame)
        | go_in)
      have hrg4 := (hrg1'.out.kept hg3.out (by simp) (by simp)).kept hg4 (fun e => by have := Option.some.inj e; omega) (fun e => by have := Option.some.inj e; omega)
      have hW4 : Within (Dout.put kl (.lit (.string c))) n := fun k' hk' => by
        by_cases e : k' = kl
        · exact ⟨i, hi, e.trans hki'.out⟩
        · rw [Maps.has_put_other e] at hk'
          exact hWo'.out k' hk'
      have hC4 : Copied (Dout.put kl (.lit (.string c))) D0 (fun z => left z && !z.sameKey kl) := by
        have h1 := hki'.out
        have h2 := hat'.out
        subst h1
        exact copied_step hout1.out.isMap hC'.out h2
      have hgr4 : w.grownBy w4 (some b1) := ((hgr'.out.andThen hg1'.out (fun j hj => by cases hj; exact .inl (Nat.le_refl _))).andThen hg3.out (fun j hj => by cases hj)).andThen hg4 (fun j hj => .inr hj)
      have hrg4' := Lib.hid hrg4
      have ho4' := Lib.hid (owns_tight hout4 hW4)
      have hW4' := Lib.hid hW4
      have hC4' := Lib.hid hC4
      have hgr4' := Lib.hid hgr4
      clear hrg4 hW4 hC4 hgr4 hout4 hg4
      go_roundw
      case rel => exact ⟨_, cnt1, _, hrg4'.out, ho4'.out, hW4'.out, hC4'.out, hgr4'.out⟩
      case measure => rw [hrg4'.out.left_eq, hrg'.out.left_eq]; exact hlt
end Go.Proofs.Ytffenadibnehfaa
