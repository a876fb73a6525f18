/- How much a tree has: bowerkit's. -/
import Derived.BigQuiet
import Derived.Test.YtacmofhlbebonaaTreM
namespace Go.Proofs.Ytacmofhlbebonaa
open Go.RowKit
set_option maxRecDepth 20000

theorem attrsW_take : ∀ (xs : List (Txt × Txt)) (q : Nat) (x : Txt × Txt), xs[q]? = some x → attrsW (xs.take (q + 1)) = attrsW (xs.take q) + (1 + x.1.length + x.2.length)
  | [], q, x, h => by simp at h
  | a :: r, 0, x, h => by
    simp at h
    subst h
    simp [attrsW]
  | a :: r, q + 1, x, h => by
    have ih := attrsW_take r q x (by simpa using h)
    simp only [List.take_succ_cons, attrsW]
    omega
theorem weighs_take : ∀ (xs : List Nd) (q : Nat) (x : Nd), xs[q]? = some x → weighsV (xs.take (q + 1)) = weighsV (xs.take q) + weighV x
  | [], q, x, h => by simp at h
  | a :: r, 0, x, h => by
    simp at h
    subst h
    simp [weighsV]
  | a :: r, q + 1, x, h => by
    have ih := weighs_take r q x (by simpa using h)
    simp only [List.take_succ_cons, weighsV]
    omega
def WeightOk (w : World) (t : Nd) (top : Nat) (e : Ending) (w' : World) : Prop := ∃ x : Nat, e = .returned (.int .i64 (x : Int)) ∧ x ≤ 3 * top + 1 ∧ (x ≤ top → x = weighV t) ∧ Below w.heap.size w w'
set_option maxHeartbeats 8000000 in
theorem weight_any (t : Nd) : ∀ (w : World) (aA kA : Option Addr) (an ac kn kc top : Nat), NodeV (Old w) w aA an ac kA kn kc t → top ≤ 1000000 →
    Calls Try.prog 10 #[.agg (val6 t aA an ac kA kn kc), .int .i64 (top : Int)] w (WeightOk w t top) := by
  induction t using Nd.ind with
  | _ t ih =>
  intro w aA kA an ac kn kc top h htop
  have ih' := Lib.hid ih
  have hf := h.facts
  have f1 := Lib.hid hf.ats
  have f1l := Lib.hid hf.ats.1
  have f3 := hf.anc
  have f3m := hf.acm
  have f4 := Lib.hid hf.row
  have f6 := hf.knc
  have f6m := hf.kcm
  have f7 := Lib.hid hf.kl
  have hlab := hf.label
  have htxt := hf.text
  unfold maxLen at hlab htxt f3m f6m
  clear ih h hf
  have early := Lib.hid (show ∀ W, Below w.heap.size w W → WeightOk w t top (.returned (.int .i64 ((top : Int) + 1))) W from fun W hb => ⟨top + 1, rfl, by omega, fun h => by omega, hb⟩)
  obtain ⟨lab, hlb⟩ : ∃ lab, lab = t.label.length := ⟨_, rfl⟩
  obtain ⟨tx, htx⟩ : ∃ tx, tx = t.text.length := ⟨_, rfl⟩
  have hW := Lib.hid (show weighV t = 1 + lab + tx + attrsW t.attrs + weighsV t.kids by rw [weighV_eq, hlb, htx])
  unfold val6
  by_cases h1 : lab ≤ top
  · by_cases h2 : tx ≤ top
    · by_cases h3 : an ≤ top
      · have h1I : ¬ (top : Int) < (t.label.length : Int) := by omega
        have h2I : ¬ (top : Int) < (t.text.length : Int) := by omega
        have h3I : ¬ (top : Int) < (an : Int) := by omega
        go_enter Try.func10, Try.ntmps10
        go_wp2_with fail
        go_loopw [5, 6] (fun s k wr => ∃ q : Nat, q ≤ an ∧ k = .int .i64 (q : Int) ∧ s = .int .i64 ((1 + lab + tx + attrsW (t.attrs.take q) : Nat) : Int) ∧ 1 + lab + tx + attrsW (t.attrs.take q) ≤ 3 * top + 1 ∧
          wr.heap[w.heap.size]? = some (.cells (val6 t aA an ac kA kn kc) 26 (0, 0)) ∧ Below w.heap.size w wr) (fun _ k _ => an - (intOf k).toNat)
        case atStart => exact ⟨0, Nat.zero_le _, rfl, by simp [attrsW, hlb, htx], by simp [attrsW]; omega, heap_alloc_new w _, (Below.refl _ _).alloc (Nat.le_refl _) _⟩
        case round =>
          obtain ⟨q, hq, rfl, rfl, hs3, hB, hbel⟩ := hrel
          obtain ⟨s, hs⟩ : ∃ s, s = 1 + lab + tx + attrsW (t.attrs.take q) := ⟨_, rfl⟩
          rw [← hs] at hs3 ⊢
          unfold val6 at hB
          obtain ⟨c0, c1, c2, c3, c4, c5, cf⟩ := six_cells hB
          by_cases g1 : q < an ∧ s ≤ top
          · have g1I : (q : Int) < (an : Int) := by omega
            have g2I : (s : Int) ≤ (top : Int) := by omega
            obtain ⟨ad, x, rfl, hxq, hlt, x1, x2, x3, x4⟩ := (f1.out.kept (T' := Old w) (fun _ h => h) (fun k hk => hbel.block k hk)).at_ g1.1
            have hst := attrsW_take _ _ _ hxq
            obtain ⟨ky, va⟩ := x
            simp only at *
            unfold maxLen at x1 x2
            by_cases g3 : ky.length ≤ top
            · have g3I : ¬ (top : Int) < (ky.length : Int) := by omega
              by_cases g4 : va.length ≤ top
              · have g4I : ¬ (top : Int) < (va.length : Int) := by omega
                have hs2 := Lib.hid (show 1 + lab + tx + attrsW (t.attrs.take (q + 1)) = s + 1 + ky.length + va.length by omega)
                have hB' := Lib.hid hB
                have hbel' := Lib.hid hbel
                clear hst hs hxq hbel hB hlb htx
                go_wp2_with fail
                go_quiet (fail)
                go_wp2_with fail
                go_roundw
                case rel => exact ⟨q + 1, by omega, by go_num, by rw [hs2.out]; go_num, by rw [hs2.out]; omega, hB'.out, draws hbel'.out _⟩
                case measure => simp [intOf]; omega
              · have g4I : (top : Int) < (va.length : Int) := by omega
                have hbel' := Lib.hid hbel
                clear hst hs hxq hbel hB hlb htx
                go_wp2_with fail
                go_ret
                exact early.out _ hbel'.out
            · have g3I : (top : Int) < (ky.length : Int) := by omega
              have hbel' := Lib.hid hbel
              clear hst hs hxq hbel hB hlb htx
              go_wp2_with fail
              go_ret
              exact early.out _ hbel'.out
          · have hfull : s ≤ top → s = 1 + lab + tx + attrsW t.attrs := fun h => by
              have : q = an := by omega
              rw [hs, List.take_of_length_le (by rw [f1l.out]; omega)]
            have hfull' := Lib.hid hfull
            have hbel' := Lib.hid hbel
            have hB' := Lib.hid hB
            have hs1 : 1 ≤ s := by omega
            have hout := Lib.hid hs
            clear hs hfull hbel hlb htx
            by_cases g2 : q < an
            · have g2I : (q : Int) < (an : Int) := by omega
              have g3I : ¬ (s : Int) ≤ (top : Int) := by omega
              clear g1
              go_wp2_with fail
              go_loopw [5, 7] (fun u k wr => ∃ (q2 s2 : Nat), q2 ≤ kn ∧ k = .int .i64 (q2 : Int) ∧ u = .int .i64 (s2 : Int) ∧ 1 ≤ s2 ∧ s2 ≤ 3 * top + 1 ∧ (s2 ≤ top → s2 = 1 + lab + tx + attrsW t.attrs + weighsV (t.kids.take q2)) ∧
                wr.heap[w.heap.size]? = some (.cells (val6 t aA an ac kA kn kc) 26 (0, 0)) ∧ Below w.heap.size w wr) (fun _ k _ => kn - (intOf k).toNat)
              case atStart => exact ⟨0, s, Nat.zero_le _, rfl, rfl, hs1, hs3, fun h => by rw [hfull'.out h]; simp [weighsV], hB'.out, hbel'.out⟩
              case round =>
                obtain ⟨q2, s2, hq2, rfl, rfl, hp1, hp2, hp3, hB2, hbel2⟩ := hrel
                have hp3' := Lib.hid hp3
                have hB2' := Lib.hid hB2
                have hbel2' := Lib.hid hbel2
                unfold val6 at hB2
                obtain ⟨e0, e1, e2, e3, e4, e5, ef⟩ := six_cells hB2
                clear hB2 hp3 hbel2 c0 c1 c2 c3 c4 c5 cf
                by_cases m1 : q2 < kn
                · have m1I : (q2 : Int) < (kn : Int) := by omega
                  by_cases m2 : s2 ≤ top
                  · have m2I : (s2 : Int) ≤ (top : Int) := by omega
                    obtain ⟨kd, hkd⟩ : ∃ kd, t.kids[q2]? = some kd := ⟨t.kids[q2]'(by rw [f7.out]; exact m1), List.getElem?_eq_getElem _⟩
                    obtain ⟨ka, rfl, hka, aA3, an3, ac3, kA3, kn3, kc3, hsix, hv3⟩ := (f4.out.kept (T' := Old w) (w' := wr) (fun _ h => h) (fun k hk => hbel2'.out.block k hk)).at_ hkd
                    rw [Nat.zero_add] at hka hsix
                    have hwt := Lib.hid (weighs_take _ _ _ hkd)
                    have hcall := Lib.hid (ih'.out kd (List.mem_of_getElem? hkd) wr aA3 kA3 an3 ac3 kn3 kc3 (top - s2) (hv3.kept (fun k hk => Nat.lt_of_lt_of_le hk hbel2'.out.size) (fun _ _ => rfl)) (by omega))
                    obtain ⟨s0, s1', s2', s3, s4, s5⟩ := hsix
                    obtain ⟨rs, hrs⟩ : ∃ rs, rs = top - s2 := ⟨_, rfl⟩
                    have hrsI : (top : Int) - (s2 : Int) = (rs : Int) := by omega
                    have hrs' := Lib.hid hrs
                    rw [← hrs] at hcall
                    have hrb : rs + s2 = top := by omega
                    clear hrs hkd hv3 hka
                    unfold WeightOk val6 at hcall
                    go_wp2_with fail
                    refine hcall.out.mono ?_
                    rintro e w2 ⟨x, rfl, hx1, hx2, hb2⟩
                    have hx2' := Lib.hid hx2
                    clear hx2 hcall
                    go_wp2_with fail
                    go_roundw
                    case rel =>
                      refine ⟨q2 + 1, s2 + x, by omega, by go_num, by go_num, by omega, by omega, fun h => ?_, (hb2.block _ (by have := (Array.getElem?_eq_some_iff.1 hB2'.out).1; omega)).trans hB2'.out, hbel2'.out.trans (hb2.mono hbel2'.out.size)⟩
                      rw [hwt.out, hp3'.out (by omega), hx2'.out (by omega)]
                      have := hp3'.out (by omega)
                      omega
                    case measure => simp [intOf]; omega
                  · have m2I : ¬ (s2 : Int) ≤ (top : Int) := by omega
                    go_wp2_with fail
                    go_ret
                    exact ⟨s2, rfl, hp2, fun h => absurd h m2, hbel2'.out⟩
                · have m1I : ¬ (q2 : Int) < (kn : Int) := by omega
                  go_wp2_with fail
                  go_ret
                  refine ⟨s2, rfl, hp2, fun h => ?_, hbel2'.out⟩
                  rw [hW.out, hp3'.out h, List.take_of_length_le (by rw [f7.out]; omega)]
            · have g2I : ¬ (q : Int) < (an : Int) := by omega
              clear g1
              go_wp2_with fail
              go_loopw [5, 7] (fun u k wr => ∃ (q2 s2 : Nat), q2 ≤ kn ∧ k = .int .i64 (q2 : Int) ∧ u = .int .i64 (s2 : Int) ∧ 1 ≤ s2 ∧ s2 ≤ 3 * top + 1 ∧ (s2 ≤ top → s2 = 1 + lab + tx + attrsW t.attrs + weighsV (t.kids.take q2)) ∧
                wr.heap[w.heap.size]? = some (.cells (val6 t aA an ac kA kn kc) 26 (0, 0)) ∧ Below w.heap.size w wr) (fun _ k _ => kn - (intOf k).toNat)
              case atStart => exact ⟨0, s, Nat.zero_le _, rfl, rfl, hs1, hs3, fun h => by rw [hfull'.out h]; simp [weighsV], hB'.out, hbel'.out⟩
              case round =>
                obtain ⟨q2, s2, hq2, rfl, rfl, hp1, hp2, hp3, hB2, hbel2⟩ := hrel
                have hp3' := Lib.hid hp3
                have hB2' := Lib.hid hB2
                have hbel2' := Lib.hid hbel2
                unfold val6 at hB2
                obtain ⟨e0, e1, e2, e3, e4, e5, ef⟩ := six_cells hB2
                clear hB2 hp3 hbel2 c0 c1 c2 c3 c4 c5 cf
                by_cases m1 : q2 < kn
                · have m1I : (q2 : Int) < (kn : Int) := by omega
                  by_cases m2 : s2 ≤ top
                  · have m2I : (s2 : Int) ≤ (top : Int) := by omega
                    obtain ⟨kd, hkd⟩ : ∃ kd, t.kids[q2]? = some kd := ⟨t.kids[q2]'(by rw [f7.out]; exact m1), List.getElem?_eq_getElem _⟩
                    obtain ⟨ka, rfl, hka, aA3, an3, ac3, kA3, kn3, kc3, hsix, hv3⟩ := (f4.out.kept (T' := Old w) (w' := wr) (fun _ h => h) (fun k hk => hbel2'.out.block k hk)).at_ hkd
                    rw [Nat.zero_add] at hka hsix
                    have hwt := Lib.hid (weighs_take _ _ _ hkd)
                    have hcall := Lib.hid (ih'.out kd (List.mem_of_getElem? hkd) wr aA3 kA3 an3 ac3 kn3 kc3 (top - s2) (hv3.kept (fun k hk => Nat.lt_of_lt_of_le hk hbel2'.out.size) (fun _ _ => rfl)) (by omega))
                    obtain ⟨s0, s1', s2', s3, s4, s5⟩ := hsix
                    obtain ⟨rs, hrs⟩ : ∃ rs, rs = top - s2 := ⟨_, rfl⟩
                    have hrsI : (top : Int) - (s2 : Int) = (rs : Int) := by omega
                    have hrs' := Lib.hid hrs
                    rw [← hrs] at hcall
                    have hrb : rs + s2 = top := by omega
                    clear hrs hkd hv3 hka
                    unfold WeightOk val6 at hcall
                    go_wp2_with fail
                    refine hcall.out.mono ?_
                    rintro e w2 ⟨x, rfl, hx1, hx2, hb2⟩
                    have hx2' := Lib.hid hx2
                    clear hx2 hcall
                    go_wp2_with fail
                    go_roundw
                    case rel =>
                      refine ⟨q2 + 1, s2 + x, by omega, by go_num, by go_num, by omega, by omega, fun h => ?_, (hb2.block _ (by have := (Array.getElem?_eq_some_iff.1 hB2'.out).1; omega)).trans hB2'.out, hbel2'.out.trans (hb2.mono hbel2'.out.size)⟩
                      rw [hwt.out, hp3'.out (by omega), hx2'.out (by omega)]
                      have := hp3'.out (by omega)
                      omega
                    case measure => simp [intOf]; omega
                  · have m2I : ¬ (s2 : Int) ≤ (top : Int) := by omega
                    go_wp2_with fail
                    go_ret
                    exact ⟨s2, rfl, hp2, fun h => absurd h m2, hbel2'.out⟩
                · have m1I : ¬ (q2 : Int) < (kn : Int) := by omega
                  go_wp2_with fail
                  go_ret
                  refine ⟨s2, rfl, hp2, fun h => ?_, hbel2'.out⟩
                  rw [hW.out, hp3'.out h, List.take_of_length_le (by rw [f7.out]; omega)]
      · have h1I : ¬ (top : Int) < (t.label.length : Int) := by omega
        have h2I : ¬ (top : Int) < (t.text.length : Int) := by omega
        have h3I : (top : Int) < (an : Int) := by omega
        go_enter Try.func10, Try.ntmps10
        go_wp2_with fail
        go_ret
        exact early.out _ ((Below.refl _ _).alloc (Nat.le_refl _) _)
    · have h1I : ¬ (top : Int) < (t.label.length : Int) := by omega
      have h2I : (top : Int) < (t.text.length : Int) := by omega
      go_enter Try.func10, Try.ntmps10
      go_wp2_with fail
      go_ret
      exact early.out _ ((Below.refl _ _).alloc (Nat.le_refl _) _)
  · have h1I : (top : Int) < (t.label.length : Int) := by omega
    go_enter Try.func10, Try.ntmps10
    go_wp2_with fail
    go_ret
    exact early.out _ ((Below.refl _ _).alloc (Nat.le_refl _) _)
end Go.Proofs.Ytacmofhlbebonaa
