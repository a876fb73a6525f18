/- Are two trees alike, are they the same: the document's. -/
import Derived.Deep.RegionHeld3
import Derived.Test.YtacmofhlbebonaaTreQ
import Derived.Test.YtacmofhlbebonaaTreC
namespace Go.Proofs.Ytacmofhlbebonaa
open Go.RowKit
set_option maxRecDepth 20000

set_option maxHeartbeats 8000000 in
theorem ralike_any (t : Nd) : ∀ (u : Nd) (w : World) (aA kA aA2 kA2 : Option Addr) (an ac kn kc an2 ac2 kn2 kc2 : Nat), NodeV (Old w) w aA an ac kA kn kc t → NodeV (Old w) w aA2 an2 ac2 kA2 kn2 kc2 u →
    Calls Try.prog 19 #[.agg (val6 t aA an ac kA kn kc), .agg (val6 u aA2 an2 ac2 kA2 kn2 kc2)] w fun e w' => e = .returned (.bool (eqV alikeA t u)) ∧ Below w.heap.size w w' := by
  induction t using Nd.ind with
  | _ t ih =>
  intro u w aA kA aA2 kA2 an ac kn kc an2 ac2 kn2 kc2 h h2
  have ih' := Lib.hid ih
  have hf := h.facts
  have hf2 := h2.facts
  clear ih h h2
  obtain ⟨i1, l1, b1, p1, x1, ks1⟩ := t
  obtain ⟨i2, l2, b2, p2, x2, ks2⟩ := u
  have hA := Lib.hid (show AtsIn (Old w) w aA an p1 from hf.ats)
  have hA2 := Lib.hid (show AtsIn (Old w) w aA2 an2 p2 from hf2.ats)
  have hnm := Nat.le_trans hf.anc hf.acm
  have hnm2 := Nat.le_trans hf2.anc hf2.acm
  have hR := Lib.hid (show RowAt (Old w) w kA 0 ks1 from hf.row)
  have hR2 := Lib.hid (show RowAt (Old w) w kA2 0 ks2 from hf2.row)
  have hK := Lib.hid (show ks1.length = kn from hf.kl)
  have hK2 := Lib.hid (show ks2.length = kn2 from hf2.kl)
  have hkm := Nat.le_trans hf.knc hf.kcm
  have hkm2 := Nat.le_trans hf2.knc hf2.kcm
  unfold maxLen at hkm hkm2
  clear hf hf2
  have ih' : Hid (∀ k ∈ ks1, ∀ (u : Nd) (w : World) (aA kA aA2 kA2 : Option Addr) (an ac kn kc an2 ac2 kn2 kc2 : Nat), NodeV (Old w) w aA an ac kA kn kc k → NodeV (Old w) w aA2 an2 ac2 kA2 kn2 kc2 u →
    Calls Try.prog 19 #[.agg (val6 k aA an ac kA kn kc), .agg (val6 u aA2 an2 ac2 kA2 kn2 kc2)] w fun e w' => e = .returned (.bool (eqV alikeA k u)) ∧ Below w.heap.size w w') := ih'
  simp only [val6, Nd.id, Nd.leaf, Nd.label, Nd.text]
  by_cases g : l1 = l2
  · subst g
    by_cases g : b1 = b2
    · subst g
      by_cases g : x1 = x2
      · subst g
        by_cases g : p1 = p2
        · subst g
          by_cases gk : kn = kn2
          · have hE := Lib.hid (show eqV alikeA (.mk i1 l1 b1 p1 x1 ks1) (.mk i2 l1 b1 p1 x1 ks2) = eqsV alikeA ks1 ks2 by rw [eqV_eq]; simp [alikeA, Nd.id, Nd.leaf, Nd.label, Nd.attrs, Nd.text, Nd.kids])
            subst gk
            go_enter Try.func19, Try.ntmps19
            go_wp2_with (go_at_call 41; refine (ratsEq_any _ (Old w) (Old w) aA aA2 an ac an2 ac2 p1 p1 (hA.out.kept (fun _ h => h) (fun k hk => (Go.heap_alloc_old _ _ (by simp; exact Nat.lt_succ_of_lt hk)).trans (Go.heap_alloc_old _ _ hk))) (hA2.out.kept (fun _ h => h) (fun k hk => (Go.heap_alloc_old _ _ (by simp; exact Nat.lt_succ_of_lt hk)).trans (Go.heap_alloc_old _ _ hk))) (fun k hk => by simp; have : k < w.heap.size := hk; omega) (fun k hk => by simp; have : k < w.heap.size := hk; omega) hnm hnm2).mono ?_; rw [show (p1 == p1) = true by simp]; rintro e w1 ⟨rfl, nd, rfl⟩)
            go_loopw [5] (fun k wr => ∃ q : Nat, q ≤ kn ∧ k = .int .i64 (q : Int) ∧ eqsV alikeA ks1 ks2 = eqsV alikeA (ks1.drop q) (ks2.drop q) ∧ wr.heap[w.heap.size]? = some (.cells #[.int .u64 (i1 : Int), .bool l1, .string ⟨b1.toArray⟩, .slice aA an ac, .string ⟨x1.toArray⟩, .slice kA kn kc] 26 (0, 0)) ∧
              wr.heap[w.heap.size + 1]? = some (.cells #[.int .u64 (i2 : Int), .bool l1, .string ⟨b1.toArray⟩, .slice aA2 an2 ac2, .string ⟨x1.toArray⟩, .slice kA2 kn kc2] 26 (0, 0)) ∧ Below w.heap.size w wr) (fun k _ => kn - (intOf k).toNat)
            case atStart => exact ⟨0, Nat.zero_le _, rfl, rfl, two_first w _ _, two_second w _ _, draws (((Below.refl _ _).alloc (Nat.le_refl _) _).alloc (by simp) _) _⟩
            case round =>
              obtain ⟨q, hq, rfl, hok, hB, hC, hbel⟩ := hrel
              have hB' := Lib.hid hB
              have hC' := Lib.hid hC
              have hBl := Lib.hid (Array.getElem?_eq_some_iff.1 hB).1
              have hCl := Lib.hid (Array.getElem?_eq_some_iff.1 hC).1
              have hbel' := Lib.hid hbel
              obtain ⟨c0, c1, c2, c3, c4, c5, cf⟩ := six_cells hB
              obtain ⟨d0, d1, d2, d3, d4, d5, df⟩ := six_cells hC
              clear hB hC hbel
              by_cases m1 : q < kn
              · have m1I : (q : Int) < (kn : Int) := by omega
                obtain ⟨ka', hka⟩ := get_kid hK.out m1
                obtain ⟨kb', hkb⟩ := get_kid hK2.out m1
                obtain ⟨ka, aA3, an3, ac3, aK3, am3, ad3, rfl, hsa, hva⟩ := kid_at (t := .mk i1 l1 b1 p1 x1 ks1) hR.out hka hbel'.out
                obtain ⟨kb, bA3, bn3, bc3, bK3, bm3, bd3, rfl, hsb, hvb⟩ := kid_at (t := .mk i1 l1 b1 p1 x1 ks2) hR2.out hkb hbel'.out
                have hcall := Lib.hid (ih'.out ka' (List.mem_of_getElem? hka) kb')
                have hd1 : ks1.drop q = ka' :: ks1.drop (q + 1) := by rw [List.drop_eq_getElem?_toList_append, hka]; rfl
                have hd2 : ks2.drop q = kb' :: ks2.drop (q + 1) := by rw [List.drop_eq_getElem?_toList_append, hkb]; rfl
                have hla := World.block_lt_of_cell? wr _ hsa.1
                have hlb := World.block_lt_of_cell? wr _ hsb.1
                have hcc : Hid (∀ W, Below wr.heap.size wr W → Calls Try.prog 19 #[.agg (val6 ka' aA3 an3 ac3 aK3 am3 ad3), .agg (val6 kb' bA3 bn3 bc3 bK3 bm3 bd3)] W fun e w' => e = .returned (.bool (eqV alikeA ka' kb')) ∧ Below W.heap.size W w') := fun W hb => hcall.out W aA3 aK3 bA3 bK3 an3 ac3 am3 ad3 bn3 bc3 bm3 bd3 (hva.below hb) (hvb.below hb)
                unfold val6 at hcc
                have hS : Hid (∀ w' : World, Below wr.heap.size wr w' → Below wr.heap.size wr w' ∧ w'.cell? ⟨w.heap.size, 5, none⟩ = some (.slice (some ka) kn kc) ∧ w'.cell? ⟨w.heap.size + 1, 5, none⟩ = some (.slice (some kb) kn kc2) ∧ w'.cell? (ka.add (q * 6)) = some (.int .u64 (ka'.id : Int)) ∧ w'.cell? ⟨(ka.add (q * 6)).block, (ka.add (q * 6)).off + 1, none⟩ = some (.bool ka'.leaf) ∧ w'.cell? ⟨(ka.add (q * 6)).block, (ka.add (q * 6)).off + 2, none⟩ = some (.string ⟨ka'.label.toArray⟩) ∧ w'.cell? ⟨(ka.add (q * 6)).block, (ka.add (q * 6)).off + 3, none⟩ = some (.slice aA3 an3 ac3) ∧ w'.cell? ⟨(ka.add (q * 6)).block, (ka.add (q * 6)).off + 4, none⟩ = some (.string ⟨ka'.text.toArray⟩) ∧ w'.cell? ⟨(ka.add (q * 6)).block, (ka.add (q * 6)).off + 5, none⟩ = some (.slice aK3 am3 ad3) ∧ w'.cell? (kb.add (q * 6)) = some (.int .u64 (kb'.id : Int)) ∧ w'.cell? ⟨(kb.add (q * 6)).block, (kb.add (q * 6)).off + 1, none⟩ = some (.bool kb'.leaf) ∧ w'.cell? ⟨(kb.add (q * 6)).block, (kb.add (q * 6)).off + 2, none⟩ = some (.string ⟨kb'.label.toArray⟩) ∧ w'.cell? ⟨(kb.add (q * 6)).block, (kb.add (q * 6)).off + 3, none⟩ = some (.slice bA3 bn3 bc3) ∧ w'.cell? ⟨(kb.add (q * 6)).block, (kb.add (q * 6)).off + 4, none⟩ = some (.string ⟨kb'.text.toArray⟩) ∧ w'.cell? ⟨(kb.add (q * 6)).block, (kb.add (q * 6)).off + 5, none⟩ = some (.slice bK3 bm3 bd3)) := fun w' hb => by
                  obtain ⟨s0, s1, s2, s3, s4, s5⟩ := hsa.kept (w' := w') (hb.block _ hla)
                  obtain ⟨u0, u1, u2, u3, u4, u5⟩ := hsb.kept (w' := w') (hb.block _ hlb)
                  exact ⟨hb, (hb.cell (p := ⟨w.heap.size, 5, none⟩) hBl.out).trans c5, (hb.cell (p := ⟨w.heap.size + 1, 5, none⟩) hCl.out).trans d5, s0, s1, s2, s3, s4, s5, u0, u1, u2, u3, u4, u5⟩
                have hd := hS.out wr.drew (Below.refl wr.heap.size wr).drew
                have hb0 := hbel'.out
                cases hr : eqV alikeA ka' kb' with
                | false =>
                  have hv := Lib.hid (show eqV alikeA (.mk i1 l1 b1 p1 x1 ks1) (.mk i2 l1 b1 p1 x1 ks2) = false by rw [hE.out, hok, hd1, hd2, eqsV, hr]; rfl)
                  rw [hr] at hcc
                  clear hka hkb hva hvb hd1 hd2 hok hr hcall hsa hsb hla hlb hb0
                  go_wp2_with fail
                  clear c0 c1 c2 c3 c4 c5 cf d0 d1 d2 d3 d4 d5 df
                  go_region_held3 (fun w' => Below wr.heap.size wr w' ∧ w'.cell? ⟨w.heap.size, 5, none⟩ = some (.slice (some ka) kn kc) ∧ w'.cell? ⟨w.heap.size + 1, 5, none⟩ = some (.slice (some kb) kn kc2) ∧ w'.cell? (ka.add (q * 6)) = some (.int .u64 (ka'.id : Int)) ∧ w'.cell? ⟨(ka.add (q * 6)).block, (ka.add (q * 6)).off + 1, none⟩ = some (.bool ka'.leaf) ∧ w'.cell? ⟨(ka.add (q * 6)).block, (ka.add (q * 6)).off + 2, none⟩ = some (.string ⟨ka'.label.toArray⟩) ∧ w'.cell? ⟨(ka.add (q * 6)).block, (ka.add (q * 6)).off + 3, none⟩ = some (.slice aA3 an3 ac3) ∧ w'.cell? ⟨(ka.add (q * 6)).block, (ka.add (q * 6)).off + 4, none⟩ = some (.string ⟨ka'.text.toArray⟩) ∧ w'.cell? ⟨(ka.add (q * 6)).block, (ka.add (q * 6)).off + 5, none⟩ = some (.slice aK3 am3 ad3) ∧ w'.cell? (kb.add (q * 6)) = some (.int .u64 (kb'.id : Int)) ∧ w'.cell? ⟨(kb.add (q * 6)).block, (kb.add (q * 6)).off + 1, none⟩ = some (.bool kb'.leaf) ∧ w'.cell? ⟨(kb.add (q * 6)).block, (kb.add (q * 6)).off + 2, none⟩ = some (.string ⟨kb'.label.toArray⟩) ∧ w'.cell? ⟨(kb.add (q * 6)).block, (kb.add (q * 6)).off + 3, none⟩ = some (.slice bA3 bn3 bc3) ∧ w'.cell? ⟨(kb.add (q * 6)).block, (kb.add (q * 6)).off + 4, none⟩ = some (.string ⟨kb'.text.toArray⟩) ∧ w'.cell? ⟨(kb.add (q * 6)).block, (kb.add (q * 6)).off + 5, none⟩ = some (.slice bK3 bm3 bd3))
                    (first | exact hd2 | exact hd)
                    (first
                      | (go_at_call 19; refine (hcc.out _ hd.1).mono ?_; rintro e w4 ⟨rfl, hb4⟩; have hd2 := hS.out _ (hd.1.trans (hb4.mono hd.1.size))))
                  go_wp2_with fail
                  go_ret
                  exact ⟨by rw [hv.out]; rfl, hbel'.out.trans (hd2.1.mono hbel'.out.size)⟩
                | true =>
                  have hv := Lib.hid (show eqsV alikeA ks1 ks2 = eqsV alikeA (ks1.drop (q + 1)) (ks2.drop (q + 1)) by rw [hok, hd1, hd2, eqsV, hr]; rfl)
                  rw [hr] at hcc
                  clear hka hkb hva hvb hd1 hd2 hok hr hcall hsa hsb hla hlb hb0
                  go_wp2_with fail
                  clear c0 c1 c2 c3 c4 c5 cf d0 d1 d2 d3 d4 d5 df
                  go_region_held3 (fun w' => Below wr.heap.size wr w' ∧ w'.cell? ⟨w.heap.size, 5, none⟩ = some (.slice (some ka) kn kc) ∧ w'.cell? ⟨w.heap.size + 1, 5, none⟩ = some (.slice (some kb) kn kc2) ∧ w'.cell? (ka.add (q * 6)) = some (.int .u64 (ka'.id : Int)) ∧ w'.cell? ⟨(ka.add (q * 6)).block, (ka.add (q * 6)).off + 1, none⟩ = some (.bool ka'.leaf) ∧ w'.cell? ⟨(ka.add (q * 6)).block, (ka.add (q * 6)).off + 2, none⟩ = some (.string ⟨ka'.label.toArray⟩) ∧ w'.cell? ⟨(ka.add (q * 6)).block, (ka.add (q * 6)).off + 3, none⟩ = some (.slice aA3 an3 ac3) ∧ w'.cell? ⟨(ka.add (q * 6)).block, (ka.add (q * 6)).off + 4, none⟩ = some (.string ⟨ka'.text.toArray⟩) ∧ w'.cell? ⟨(ka.add (q * 6)).block, (ka.add (q * 6)).off + 5, none⟩ = some (.slice aK3 am3 ad3) ∧ w'.cell? (kb.add (q * 6)) = some (.int .u64 (kb'.id : Int)) ∧ w'.cell? ⟨(kb.add (q * 6)).block, (kb.add (q * 6)).off + 1, none⟩ = some (.bool kb'.leaf) ∧ w'.cell? ⟨(kb.add (q * 6)).block, (kb.add (q * 6)).off + 2, none⟩ = some (.string ⟨kb'.label.toArray⟩) ∧ w'.cell? ⟨(kb.add (q * 6)).block, (kb.add (q * 6)).off + 3, none⟩ = some (.slice bA3 bn3 bc3) ∧ w'.cell? ⟨(kb.add (q * 6)).block, (kb.add (q * 6)).off + 4, none⟩ = some (.string ⟨kb'.text.toArray⟩) ∧ w'.cell? ⟨(kb.add (q * 6)).block, (kb.add (q * 6)).off + 5, none⟩ = some (.slice bK3 bm3 bd3))
                    (first | exact hd2 | exact hd)
                    (first
                      | (go_at_call 19; refine (hcc.out _ hd.1).mono ?_; rintro e w4 ⟨rfl, hb4⟩; have hd2 := hS.out _ (hd.1.trans (hb4.mono hd.1.size))))
                  go_wp2_with fail
                  go_roundw
                  case rel => exact ⟨q + 1, by omega, by go_num, hv.out, (hd2.1.block _ hBl.out).trans hB'.out, (hd2.1.block _ hCl.out).trans hC'.out, hbel'.out.trans (hd2.1.mono hbel'.out.size)⟩
                  case measure => simp [intOf]; omega
              · have m1I : ¬ (q : Int) < (kn : Int) := by omega
                have hv := Lib.hid (show eqV alikeA (.mk i1 l1 b1 p1 x1 ks1) (.mk i2 l1 b1 p1 x1 ks2) = true by rw [hE.out, hok, List.drop_of_length_le (by rw [hK.out]; omega), List.drop_of_length_le (by rw [hK2.out]; omega)]; rfl)
                clear hok
                go_wp2_with fail
                go_ret
                exact ⟨by rw [hv.out]; rfl, hbel'.out⟩
          · have hv := Lib.hid (show eqV alikeA (.mk i1 l1 b1 p1 x1 ks1) (.mk i2 l1 b1 p1 x1 ks2) = false by rw [eqV_eq]; show (_ && eqsV alikeA ks1 ks2) = false; rw [eqsV_len alikeA ks1 ks2 (by rw [hK.out, hK2.out]; exact gk)]; simp)
            have gkI : ((kn : Int) == (kn2 : Int)) = false := by simp; omega
            go_enter Try.func19, Try.ntmps19
            go_wp2_with (go_at_call 41; refine (ratsEq_any _ (Old w) (Old w) aA aA2 an ac an2 ac2 p1 p1 (hA.out.kept (fun _ h => h) (fun k hk => (Go.heap_alloc_old _ _ (by simp; exact Nat.lt_succ_of_lt hk)).trans (Go.heap_alloc_old _ _ hk))) (hA2.out.kept (fun _ h => h) (fun k hk => (Go.heap_alloc_old _ _ (by simp; exact Nat.lt_succ_of_lt hk)).trans (Go.heap_alloc_old _ _ hk))) (fun k hk => by simp; have : k < w.heap.size := hk; omega) (fun k hk => by simp; have : k < w.heap.size := hk; omega) hnm hnm2).mono ?_; rw [show (p1 == p1) = true by simp]; rintro e w1 ⟨rfl, nd, rfl⟩)
            go_ret
            exact ⟨by rw [hv.out]; rfl, draws (((Below.refl _ _).alloc (Nat.le_refl _) _).alloc (by simp) _) _⟩
        · have hv := Lib.hid (show eqV alikeA (.mk i1 l1 b1 p1 x1 ks1) (.mk i2 l1 b1 p2 x1 ks2) = false by rw [eqV_eq]; simp [alikeA, Nd.id, Nd.leaf, Nd.label, Nd.attrs, Nd.text, Nd.kids, g])
          go_enter Try.func19, Try.ntmps19
          go_wp2_with (go_at_call 41; refine (ratsEq_any _ (Old w) (Old w) aA aA2 an ac an2 ac2 p1 p2 (hA.out.kept (fun _ h => h) (fun k hk => (Go.heap_alloc_old _ _ (by simp; exact Nat.lt_succ_of_lt hk)).trans (Go.heap_alloc_old _ _ hk))) (hA2.out.kept (fun _ h => h) (fun k hk => (Go.heap_alloc_old _ _ (by simp; exact Nat.lt_succ_of_lt hk)).trans (Go.heap_alloc_old _ _ hk))) (fun k hk => by simp; have : k < w.heap.size := hk; omega) (fun k hk => by simp; have : k < w.heap.size := hk; omega) hnm hnm2).mono ?_; rw [show (p1 == p2) = false by simpa using g]; rintro e w1 ⟨rfl, nd, rfl⟩)
          go_ret
          exact ⟨by rw [hv.out]; rfl, draws (((Below.refl _ _).alloc (Nat.le_refl _) _).alloc (by simp) _) _⟩
      · have hv := Lib.hid (show eqV alikeA (.mk i1 l1 b1 p1 x1 ks1) (.mk i2 l1 b1 p2 x2 ks2) = false by rw [eqV_eq]; simp [alikeA, Nd.id, Nd.leaf, Nd.label, Nd.attrs, Nd.text, Nd.kids, g])
        have e3 : (x1 == x2) = false := by simpa using g
        clear g
        go_enter Try.func19, Try.ntmps19
        go_wp2_with fail
        go_ret
        exact ⟨by rw [hv.out]; rfl, ((Below.refl _ _).alloc (Nat.le_refl _) _).alloc (by simp) _⟩
    · have hv := Lib.hid (show eqV alikeA (.mk i1 l1 b1 p1 x1 ks1) (.mk i2 l1 b2 p2 x2 ks2) = false by rw [eqV_eq]; simp [alikeA, Nd.id, Nd.leaf, Nd.label, Nd.attrs, Nd.text, Nd.kids, g])
      have e2 : (b1 == b2) = false := by simpa using g
      clear g
      go_enter Try.func19, Try.ntmps19
      go_wp2_with fail
      go_ret
      exact ⟨by rw [hv.out]; rfl, ((Below.refl _ _).alloc (Nat.le_refl _) _).alloc (by simp) _⟩
  · have hv := Lib.hid (show eqV alikeA (.mk i1 l1 b1 p1 x1 ks1) (.mk i2 l2 b2 p2 x2 ks2) = false by rw [eqV_eq]; simp [alikeA, Nd.id, Nd.leaf, Nd.label, Nd.attrs, Nd.text, Nd.kids, g])
    have e1 : (l1 == l2) = false := by simpa using g
    clear g
    go_enter Try.func19, Try.ntmps19
    go_wp2_with fail
    go_ret
    exact ⟨by rw [hv.out]; rfl, ((Below.refl _ _).alloc (Nat.le_refl _) _).alloc (by simp) _⟩
set_option maxHeartbeats 8000000 in
theorem rsame_any (t : Nd) : ∀ (u : Nd) (w : World) (aA kA aA2 kA2 : Option Addr) (an ac kn kc an2 ac2 kn2 kc2 : Nat), NodeV (Old w) w aA an ac kA kn kc t → NodeV (Old w) w aA2 an2 ac2 kA2 kn2 kc2 u →
    Calls Try.prog 17 #[.agg (val6 t aA an ac kA kn kc), .agg (val6 u aA2 an2 ac2 kA2 kn2 kc2)] w fun e w' => e = .returned (.bool (eqV sameA t u)) ∧ Below w.heap.size w w' := by
  induction t using Nd.ind with
  | _ t ih =>
  intro u w aA kA aA2 kA2 an ac kn kc an2 ac2 kn2 kc2 h h2
  have ih' := Lib.hid ih
  have hf := h.facts
  have hf2 := h2.facts
  clear ih h h2
  obtain ⟨i1, l1, b1, p1, x1, ks1⟩ := t
  obtain ⟨i2, l2, b2, p2, x2, ks2⟩ := u
  have hA := Lib.hid (show AtsIn (Old w) w aA an p1 from hf.ats)
  have hA2 := Lib.hid (show AtsIn (Old w) w aA2 an2 p2 from hf2.ats)
  have hnm := Nat.le_trans hf.anc hf.acm
  have hnm2 := Nat.le_trans hf2.anc hf2.acm
  have hR := Lib.hid (show RowAt (Old w) w kA 0 ks1 from hf.row)
  have hR2 := Lib.hid (show RowAt (Old w) w kA2 0 ks2 from hf2.row)
  have hK := Lib.hid (show ks1.length = kn from hf.kl)
  have hK2 := Lib.hid (show ks2.length = kn2 from hf2.kl)
  have hkm := Nat.le_trans hf.knc hf.kcm
  have hkm2 := Nat.le_trans hf2.knc hf2.kcm
  unfold maxLen at hkm hkm2
  clear hf hf2
  have ih' : Hid (∀ k ∈ ks1, ∀ (u : Nd) (w : World) (aA kA aA2 kA2 : Option Addr) (an ac kn kc an2 ac2 kn2 kc2 : Nat), NodeV (Old w) w aA an ac kA kn kc k → NodeV (Old w) w aA2 an2 ac2 kA2 kn2 kc2 u →
    Calls Try.prog 17 #[.agg (val6 k aA an ac kA kn kc), .agg (val6 u aA2 an2 ac2 kA2 kn2 kc2)] w fun e w' => e = .returned (.bool (eqV sameA k u)) ∧ Below w.heap.size w w') := ih'
  simp only [val6, Nd.id, Nd.leaf, Nd.label, Nd.text]
  by_cases g : i1 = i2
  · subst g
    by_cases g : l1 = l2
    · subst g
      by_cases g : b1 = b2
      · subst g
        by_cases g : x1 = x2
        · subst g
          by_cases g : p1 = p2
          · subst g
            by_cases gk : kn = kn2
            · have hE := Lib.hid (show eqV sameA (.mk i1 l1 b1 p1 x1 ks1) (.mk i1 l1 b1 p1 x1 ks2) = eqsV sameA ks1 ks2 by rw [eqV_eq]; simp [sameA, alikeA, Nd.id, Nd.leaf, Nd.label, Nd.attrs, Nd.text, Nd.kids])
              subst gk
              go_enter Try.func17, Try.ntmps17
              go_wp2_with (go_at_call 41; refine (ratsEq_any _ (Old w) (Old w) aA aA2 an ac an2 ac2 p1 p1 (hA.out.kept (fun _ h => h) (fun k hk => (Go.heap_alloc_old _ _ (by simp; exact Nat.lt_succ_of_lt hk)).trans (Go.heap_alloc_old _ _ hk))) (hA2.out.kept (fun _ h => h) (fun k hk => (Go.heap_alloc_old _ _ (by simp; exact Nat.lt_succ_of_lt hk)).trans (Go.heap_alloc_old _ _ hk))) (fun k hk => by simp; have : k < w.heap.size := hk; omega) (fun k hk => by simp; have : k < w.heap.size := hk; omega) hnm hnm2).mono ?_; rw [show (p1 == p1) = true by simp]; rintro e w1 ⟨rfl, nd, rfl⟩)
              go_loopw [5] (fun k wr => ∃ q : Nat, q ≤ kn ∧ k = .int .i64 (q : Int) ∧ eqsV sameA ks1 ks2 = eqsV sameA (ks1.drop q) (ks2.drop q) ∧ wr.heap[w.heap.size]? = some (.cells #[.int .u64 (i1 : Int), .bool l1, .string ⟨b1.toArray⟩, .slice aA an ac, .string ⟨x1.toArray⟩, .slice kA kn kc] 26 (0, 0)) ∧
                wr.heap[w.heap.size + 1]? = some (.cells #[.int .u64 (i1 : Int), .bool l1, .string ⟨b1.toArray⟩, .slice aA2 an2 ac2, .string ⟨x1.toArray⟩, .slice kA2 kn kc2] 26 (0, 0)) ∧ Below w.heap.size w wr) (fun k _ => kn - (intOf k).toNat)
              case atStart => exact ⟨0, Nat.zero_le _, rfl, rfl, two_first w _ _, two_second w _ _, draws (((Below.refl _ _).alloc (Nat.le_refl _) _).alloc (by simp) _) _⟩
              case round =>
                obtain ⟨q, hq, rfl, hok, hB, hC, hbel⟩ := hrel
                have hB' := Lib.hid hB
                have hC' := Lib.hid hC
                have hBl := Lib.hid (Array.getElem?_eq_some_iff.1 hB).1
                have hCl := Lib.hid (Array.getElem?_eq_some_iff.1 hC).1
                have hbel' := Lib.hid hbel
                obtain ⟨c0, c1, c2, c3, c4, c5, cf⟩ := six_cells hB
                obtain ⟨d0, d1, d2, d3, d4, d5, df⟩ := six_cells hC
                clear hB hC hbel
                by_cases m1 : q < kn
                · have m1I : (q : Int) < (kn : Int) := by omega
                  obtain ⟨ka', hka⟩ := get_kid hK.out m1
                  obtain ⟨kb', hkb⟩ := get_kid hK2.out m1
                  obtain ⟨ka, aA3, an3, ac3, aK3, am3, ad3, rfl, hsa, hva⟩ := kid_at (t := .mk i1 l1 b1 p1 x1 ks1) hR.out hka hbel'.out
                  obtain ⟨kb, bA3, bn3, bc3, bK3, bm3, bd3, rfl, hsb, hvb⟩ := kid_at (t := .mk i1 l1 b1 p1 x1 ks2) hR2.out hkb hbel'.out
                  have hcall := Lib.hid (ih'.out ka' (List.mem_of_getElem? hka) kb')
                  have hd1 : ks1.drop q = ka' :: ks1.drop (q + 1) := by rw [List.drop_eq_getElem?_toList_append, hka]; rfl
                  have hd2 : ks2.drop q = kb' :: ks2.drop (q + 1) := by rw [List.drop_eq_getElem?_toList_append, hkb]; rfl
                  have hla := World.block_lt_of_cell? wr _ hsa.1
                  have hlb := World.block_lt_of_cell? wr _ hsb.1
                  have hcc : Hid (∀ W, Below wr.heap.size wr W → Calls Try.prog 17 #[.agg (val6 ka' aA3 an3 ac3 aK3 am3 ad3), .agg (val6 kb' bA3 bn3 bc3 bK3 bm3 bd3)] W fun e w' => e = .returned (.bool (eqV sameA ka' kb')) ∧ Below W.heap.size W w') := fun W hb => hcall.out W aA3 aK3 bA3 bK3 an3 ac3 am3 ad3 bn3 bc3 bm3 bd3 (hva.below hb) (hvb.below hb)
                  unfold val6 at hcc
                  have hS : Hid (∀ w' : World, Below wr.heap.size wr w' → Below wr.heap.size wr w' ∧ w'.cell? ⟨w.heap.size, 5, none⟩ = some (.slice (some ka) kn kc) ∧ w'.cell? ⟨w.heap.size + 1, 5, none⟩ = some (.slice (some kb) kn kc2) ∧ w'.cell? (ka.add (q * 6)) = some (.int .u64 (ka'.id : Int)) ∧ w'.cell? ⟨(ka.add (q * 6)).block, (ka.add (q * 6)).off + 1, none⟩ = some (.bool ka'.leaf) ∧ w'.cell? ⟨(ka.add (q * 6)).block, (ka.add (q * 6)).off + 2, none⟩ = some (.string ⟨ka'.label.toArray⟩) ∧ w'.cell? ⟨(ka.add (q * 6)).block, (ka.add (q * 6)).off + 3, none⟩ = some (.slice aA3 an3 ac3) ∧ w'.cell? ⟨(ka.add (q * 6)).block, (ka.add (q * 6)).off + 4, none⟩ = some (.string ⟨ka'.text.toArray⟩) ∧ w'.cell? ⟨(ka.add (q * 6)).block, (ka.add (q * 6)).off + 5, none⟩ = some (.slice aK3 am3 ad3) ∧ w'.cell? (kb.add (q * 6)) = some (.int .u64 (kb'.id : Int)) ∧ w'.cell? ⟨(kb.add (q * 6)).block, (kb.add (q * 6)).off + 1, none⟩ = some (.bool kb'.leaf) ∧ w'.cell? ⟨(kb.add (q * 6)).block, (kb.add (q * 6)).off + 2, none⟩ = some (.string ⟨kb'.label.toArray⟩) ∧ w'.cell? ⟨(kb.add (q * 6)).block, (kb.add (q * 6)).off + 3, none⟩ = some (.slice bA3 bn3 bc3) ∧ w'.cell? ⟨(kb.add (q * 6)).block, (kb.add (q * 6)).off + 4, none⟩ = some (.string ⟨kb'.text.toArray⟩) ∧ w'.cell? ⟨(kb.add (q * 6)).block, (kb.add (q * 6)).off + 5, none⟩ = some (.slice bK3 bm3 bd3)) := fun w' hb => by
                    obtain ⟨s0, s1, s2, s3, s4, s5⟩ := hsa.kept (w' := w') (hb.block _ hla)
                    obtain ⟨u0, u1, u2, u3, u4, u5⟩ := hsb.kept (w' := w') (hb.block _ hlb)
                    exact ⟨hb, (hb.cell (p := ⟨w.heap.size, 5, none⟩) hBl.out).trans c5, (hb.cell (p := ⟨w.heap.size + 1, 5, none⟩) hCl.out).trans d5, s0, s1, s2, s3, s4, s5, u0, u1, u2, u3, u4, u5⟩
                  have hd := hS.out wr.drew (Below.refl wr.heap.size wr).drew
                  have hb0 := hbel'.out
                  cases hr : eqV sameA ka' kb' with
                  | false =>
                    have hv := Lib.hid (show eqV sameA (.mk i1 l1 b1 p1 x1 ks1) (.mk i1 l1 b1 p1 x1 ks2) = false by rw [hE.out, hok, hd1, hd2, eqsV, hr]; rfl)
                    rw [hr] at hcc
                    clear hka hkb hva hvb hd1 hd2 hok hr hcall hsa hsb hla hlb hb0
                    go_wp2_with fail
                    clear c0 c1 c2 c3 c4 c5 cf d0 d1 d2 d3 d4 d5 df
                    go_region_held3 (fun w' => Below wr.heap.size wr w' ∧ w'.cell? ⟨w.heap.size, 5, none⟩ = some (.slice (some ka) kn kc) ∧ w'.cell? ⟨w.heap.size + 1, 5, none⟩ = some (.slice (some kb) kn kc2) ∧ w'.cell? (ka.add (q * 6)) = some (.int .u64 (ka'.id : Int)) ∧ w'.cell? ⟨(ka.add (q * 6)).block, (ka.add (q * 6)).off + 1, none⟩ = some (.bool ka'.leaf) ∧ w'.cell? ⟨(ka.add (q * 6)).block, (ka.add (q * 6)).off + 2, none⟩ = some (.string ⟨ka'.label.toArray⟩) ∧ w'.cell? ⟨(ka.add (q * 6)).block, (ka.add (q * 6)).off + 3, none⟩ = some (.slice aA3 an3 ac3) ∧ w'.cell? ⟨(ka.add (q * 6)).block, (ka.add (q * 6)).off + 4, none⟩ = some (.string ⟨ka'.text.toArray⟩) ∧ w'.cell? ⟨(ka.add (q * 6)).block, (ka.add (q * 6)).off + 5, none⟩ = some (.slice aK3 am3 ad3) ∧ w'.cell? (kb.add (q * 6)) = some (.int .u64 (kb'.id : Int)) ∧ w'.cell? ⟨(kb.add (q * 6)).block, (kb.add (q * 6)).off + 1, none⟩ = some (.bool kb'.leaf) ∧ w'.cell? ⟨(kb.add (q * 6)).block, (kb.add (q * 6)).off + 2, none⟩ = some (.string ⟨kb'.label.toArray⟩) ∧ w'.cell? ⟨(kb.add (q * 6)).block, (kb.add (q * 6)).off + 3, none⟩ = some (.slice bA3 bn3 bc3) ∧ w'.cell? ⟨(kb.add (q * 6)).block, (kb.add (q * 6)).off + 4, none⟩ = some (.string ⟨kb'.text.toArray⟩) ∧ w'.cell? ⟨(kb.add (q * 6)).block, (kb.add (q * 6)).off + 5, none⟩ = some (.slice bK3 bm3 bd3))
                      (first | exact hd2 | exact hd)
                      (first
                        | (go_at_call 17; refine (hcc.out _ hd.1).mono ?_; rintro e w4 ⟨rfl, hb4⟩; have hd2 := hS.out _ (hd.1.trans (hb4.mono hd.1.size))))
                    go_wp2_with fail
                    go_ret
                    exact ⟨by rw [hv.out]; rfl, hbel'.out.trans (hd2.1.mono hbel'.out.size)⟩
                  | true =>
                    have hv := Lib.hid (show eqsV sameA ks1 ks2 = eqsV sameA (ks1.drop (q + 1)) (ks2.drop (q + 1)) by rw [hok, hd1, hd2, eqsV, hr]; rfl)
                    rw [hr] at hcc
                    clear hka hkb hva hvb hd1 hd2 hok hr hcall hsa hsb hla hlb hb0
                    go_wp2_with fail
                    clear c0 c1 c2 c3 c4 c5 cf d0 d1 d2 d3 d4 d5 df
                    go_region_held3 (fun w' => Below wr.heap.size wr w' ∧ w'.cell? ⟨w.heap.size, 5, none⟩ = some (.slice (some ka) kn kc) ∧ w'.cell? ⟨w.heap.size + 1, 5, none⟩ = some (.slice (some kb) kn kc2) ∧ w'.cell? (ka.add (q * 6)) = some (.int .u64 (ka'.id : Int)) ∧ w'.cell? ⟨(ka.add (q * 6)).block, (ka.add (q * 6)).off + 1, none⟩ = some (.bool ka'.leaf) ∧ w'.cell? ⟨(ka.add (q * 6)).block, (ka.add (q * 6)).off + 2, none⟩ = some (.string ⟨ka'.label.toArray⟩) ∧ w'.cell? ⟨(ka.add (q * 6)).block, (ka.add (q * 6)).off + 3, none⟩ = some (.slice aA3 an3 ac3) ∧ w'.cell? ⟨(ka.add (q * 6)).block, (ka.add (q * 6)).off + 4, none⟩ = some (.string ⟨ka'.text.toArray⟩) ∧ w'.cell? ⟨(ka.add (q * 6)).block, (ka.add (q * 6)).off + 5, none⟩ = some (.slice aK3 am3 ad3) ∧ w'.cell? (kb.add (q * 6)) = some (.int .u64 (kb'.id : Int)) ∧ w'.cell? ⟨(kb.add (q * 6)).block, (kb.add (q * 6)).off + 1, none⟩ = some (.bool kb'.leaf) ∧ w'.cell? ⟨(kb.add (q * 6)).block, (kb.add (q * 6)).off + 2, none⟩ = some (.string ⟨kb'.label.toArray⟩) ∧ w'.cell? ⟨(kb.add (q * 6)).block, (kb.add (q * 6)).off + 3, none⟩ = some (.slice bA3 bn3 bc3) ∧ w'.cell? ⟨(kb.add (q * 6)).block, (kb.add (q * 6)).off + 4, none⟩ = some (.string ⟨kb'.text.toArray⟩) ∧ w'.cell? ⟨(kb.add (q * 6)).block, (kb.add (q * 6)).off + 5, none⟩ = some (.slice bK3 bm3 bd3))
                      (first | exact hd2 | exact hd)
                      (first
                        | (go_at_call 17; refine (hcc.out _ hd.1).mono ?_; rintro e w4 ⟨rfl, hb4⟩; have hd2 := hS.out _ (hd.1.trans (hb4.mono hd.1.size))))
                    go_wp2_with fail
                    go_roundw
                    case rel => exact ⟨q + 1, by omega, by go_num, hv.out, (hd2.1.block _ hBl.out).trans hB'.out, (hd2.1.block _ hCl.out).trans hC'.out, hbel'.out.trans (hd2.1.mono hbel'.out.size)⟩
                    case measure => simp [intOf]; omega
                · have m1I : ¬ (q : Int) < (kn : Int) := by omega
                  have hv := Lib.hid (show eqV sameA (.mk i1 l1 b1 p1 x1 ks1) (.mk i1 l1 b1 p1 x1 ks2) = true by rw [hE.out, hok, List.drop_of_length_le (by rw [hK.out]; omega), List.drop_of_length_le (by rw [hK2.out]; omega)]; rfl)
                  clear hok
                  go_wp2_with fail
                  go_ret
                  exact ⟨by rw [hv.out]; rfl, hbel'.out⟩
            · have hv := Lib.hid (show eqV sameA (.mk i1 l1 b1 p1 x1 ks1) (.mk i1 l1 b1 p1 x1 ks2) = false by rw [eqV_eq]; show (_ && eqsV sameA ks1 ks2) = false; rw [eqsV_len sameA ks1 ks2 (by rw [hK.out, hK2.out]; exact gk)]; simp)
              have gkI : ((kn : Int) == (kn2 : Int)) = false := by simp; omega
              go_enter Try.func17, Try.ntmps17
              go_wp2_with (go_at_call 41; refine (ratsEq_any _ (Old w) (Old w) aA aA2 an ac an2 ac2 p1 p1 (hA.out.kept (fun _ h => h) (fun k hk => (Go.heap_alloc_old _ _ (by simp; exact Nat.lt_succ_of_lt hk)).trans (Go.heap_alloc_old _ _ hk))) (hA2.out.kept (fun _ h => h) (fun k hk => (Go.heap_alloc_old _ _ (by simp; exact Nat.lt_succ_of_lt hk)).trans (Go.heap_alloc_old _ _ hk))) (fun k hk => by simp; have : k < w.heap.size := hk; omega) (fun k hk => by simp; have : k < w.heap.size := hk; omega) hnm hnm2).mono ?_; rw [show (p1 == p1) = true by simp]; rintro e w1 ⟨rfl, nd, rfl⟩)
              go_ret
              exact ⟨by rw [hv.out]; rfl, draws (((Below.refl _ _).alloc (Nat.le_refl _) _).alloc (by simp) _) _⟩
          · have hv := Lib.hid (show eqV sameA (.mk i1 l1 b1 p1 x1 ks1) (.mk i1 l1 b1 p2 x1 ks2) = false by rw [eqV_eq]; simp [sameA, alikeA, Nd.id, Nd.leaf, Nd.label, Nd.attrs, Nd.text, Nd.kids, g])
            go_enter Try.func17, Try.ntmps17
            go_wp2_with (go_at_call 41; refine (ratsEq_any _ (Old w) (Old w) aA aA2 an ac an2 ac2 p1 p2 (hA.out.kept (fun _ h => h) (fun k hk => (Go.heap_alloc_old _ _ (by simp; exact Nat.lt_succ_of_lt hk)).trans (Go.heap_alloc_old _ _ hk))) (hA2.out.kept (fun _ h => h) (fun k hk => (Go.heap_alloc_old _ _ (by simp; exact Nat.lt_succ_of_lt hk)).trans (Go.heap_alloc_old _ _ hk))) (fun k hk => by simp; have : k < w.heap.size := hk; omega) (fun k hk => by simp; have : k < w.heap.size := hk; omega) hnm hnm2).mono ?_; rw [show (p1 == p2) = false by simpa using g]; rintro e w1 ⟨rfl, nd, rfl⟩)
            go_ret
            exact ⟨by rw [hv.out]; rfl, draws (((Below.refl _ _).alloc (Nat.le_refl _) _).alloc (by simp) _) _⟩
        · have hv := Lib.hid (show eqV sameA (.mk i1 l1 b1 p1 x1 ks1) (.mk i1 l1 b1 p2 x2 ks2) = false by rw [eqV_eq]; simp [sameA, alikeA, Nd.id, Nd.leaf, Nd.label, Nd.attrs, Nd.text, Nd.kids, g])
          have e3 : (x1 == x2) = false := by simpa using g
          clear g
          go_enter Try.func17, Try.ntmps17
          go_wp2_with fail
          go_ret
          exact ⟨by rw [hv.out]; rfl, ((Below.refl _ _).alloc (Nat.le_refl _) _).alloc (by simp) _⟩
      · have hv := Lib.hid (show eqV sameA (.mk i1 l1 b1 p1 x1 ks1) (.mk i1 l1 b2 p2 x2 ks2) = false by rw [eqV_eq]; simp [sameA, alikeA, Nd.id, Nd.leaf, Nd.label, Nd.attrs, Nd.text, Nd.kids, g])
        have e2 : (b1 == b2) = false := by simpa using g
        clear g
        go_enter Try.func17, Try.ntmps17
        go_wp2_with fail
        go_ret
        exact ⟨by rw [hv.out]; rfl, ((Below.refl _ _).alloc (Nat.le_refl _) _).alloc (by simp) _⟩
    · have hv := Lib.hid (show eqV sameA (.mk i1 l1 b1 p1 x1 ks1) (.mk i1 l2 b2 p2 x2 ks2) = false by rw [eqV_eq]; simp [sameA, alikeA, Nd.id, Nd.leaf, Nd.label, Nd.attrs, Nd.text, Nd.kids, g])
      have e1 : (l1 == l2) = false := by simpa using g
      clear g
      go_enter Try.func17, Try.ntmps17
      go_wp2_with fail
      go_ret
      exact ⟨by rw [hv.out]; rfl, ((Below.refl _ _).alloc (Nat.le_refl _) _).alloc (by simp) _⟩
  · have hv := Lib.hid (show eqV sameA (.mk i1 l1 b1 p1 x1 ks1) (.mk i2 l2 b2 p2 x2 ks2) = false by rw [eqV_eq]; simp [sameA, alikeA, Nd.id, Nd.leaf, Nd.label, Nd.attrs, Nd.text, Nd.kids, g])
    have e0 : ((i1 : Int) == (i2 : Int)) = false := by simp; omega
    have e0b : (i1 == i2) = false := by simpa using g
    have e0c : ¬ (i1 : Int) = (i2 : Int) := by omega
    clear g
    go_enter Try.func17, Try.ntmps17
    go_wp2_with fail
    go_ret
    exact ⟨by rw [hv.out]; rfl, ((Below.refl _ _).alloc (Nat.le_refl _) _).alloc (by simp) _⟩
end Go.Proofs.Ytacmofhlbebonaa
