/- How many, how deep, how long: the document's. -/
import Derived.Test.YtacmofhlbebonaaTreO
namespace Go.Proofs.Ytacmofhlbebonaa
open Go.RowKit
set_option maxRecDepth 20000

theorem take_snoc {α : Type} {l : List α} {q : Nat} {x : α} (h : l[q]? = some x) : l.take (q + 1) = l.take q ++ [x] := by
  rw [List.take_add_one, h]
  rfl
theorem kid_at {w wr : World} {t kd : Nd} {kA : Option Addr} {q : Nat} (hr : RowAt (Old w) w kA 0 t.kids) (hk : t.kids[q]? = some kd) (hb : Below w.heap.size w wr) :
    ∃ (ka : Addr) (aA : Option Addr) (an ac : Nat) (kA' : Option Addr) (kn kc : Nat), kA = some ka ∧ Six wr (ka.add (q * 6)) kd aA an ac kA' kn kc ∧ NodeV (Old wr) wr aA an ac kA' kn kc kd := by
  obtain ⟨ka, rfl, hka, aA3, an3, ac3, kA3, kn3, kc3, hsix, hv3⟩ := (hr.kept (T' := Old w) (w' := wr) (fun _ h => h) (fun k hk => hb.block k hk)).at_ hk
  rw [Nat.zero_add] at hka hsix
  exact ⟨ka, aA3, an3, ac3, kA3, kn3, kc3, rfl, hsix, hv3.kept (fun k hk => Nat.lt_of_lt_of_le hk hb.size) (fun _ _ => rfl)⟩
theorem get_kid {l : List Nd} {q n : Nat} (hl : l.length = n) (hq : q < n) : ∃ kd, l[q]? = some kd := ⟨l[q]'(by omega), List.getElem?_eq_getElem _⟩
theorem counts_upto (l : List Nd) (q : Nat) : countsV (l.take q) ≤ countsV l := by
  have h := countsV_append (l.take q) (l.drop q)
  rw [List.take_append_drop] at h
  omega
theorem depths_upto (l : List Nd) (q : Nat) : depthsV (l.take q) ≤ depthsV l := by
  have h := depthsV_append (l.take q) (l.drop q)
  rw [List.take_append_drop] at h
  omega
theorem longs_upto (l : List Nd) (q : Nat) : longsV (l.take q) ≤ longsV l := by
  have h := longsV_append (l.take q) (l.drop q)
  rw [List.take_append_drop] at h
  omega
set_option maxHeartbeats 8000000 in
theorem rcount_any (t : Nd) : ∀ (w : World) (aA kA : Option Addr) (an ac kn kc : Nat), NodeV (Old w) w aA an ac kA kn kc t → weighV t ≤ 1000000 →
    Calls Try.prog 23 #[.agg (val6 t aA an ac kA kn kc)] w fun e w' => e = .returned (.int .i64 (countV t : Int)) ∧ Below w.heap.size w w' := by
  induction t using Nd.ind with
  | _ t ih =>
  intro w aA kA an ac kn kc h hw
  have ih' := Lib.hid ih
  have hf := h.facts
  have f1 := Lib.hid hf.ats
  have f1l := Lib.hid hf.ats.1
  have f3 := hf.anc
  have f3m := hf.acm
  have f4 := Lib.hid hf.row
  have f6 := hf.knc
  have f6m := hf.kcm
  have f7 := Lib.hid hf.kl
  have hlab := hf.label
  have htxt := hf.text
  have hw' := Lib.hid hw
  unfold maxLen at hlab htxt f3m f6m
  have hcw := Nat.le_trans (count_le t) hw
  have hlw := Nat.le_trans (long_le t) hw
  have hdc := depth_lt t
  clear ih h hf hw
  unfold val6
  go_enter Try.func23, Try.ntmps23
  go_wp2_with fail
  go_loopw [3, 4] (fun u k wr => ∃ q : Nat, q ≤ kn ∧ k = .int .i64 (q : Int) ∧ u = .int .i64 ((1 + countsV (t.kids.take q) : Nat) : Int) ∧ wr.heap[w.heap.size]? = some (.cells (val6 t aA an ac kA kn kc) 26 (0, 0)) ∧ Below w.heap.size w wr) (fun _ k _ => kn - (intOf k).toNat)
  case atStart => exact ⟨0, Nat.zero_le _, rfl, by simp [countsV], heap_alloc_new w _, (Below.refl _ _).alloc (Nat.le_refl _) _⟩
  case round =>
    obtain ⟨q, hq, rfl, rfl, hB, hbel⟩ := hrel
    have hB' := Lib.hid hB
    have hBl := Lib.hid (Array.getElem?_eq_some_iff.1 hB).1
    have hbel' := Lib.hid hbel
    unfold val6 at hB
    obtain ⟨c0, c1, c2, c3, c4, c5, cf⟩ := six_cells hB
    clear hB hbel
    by_cases h1 : q < kn
    · have h1I : (q : Int) < (kn : Int) := by omega
      obtain ⟨kd, hkd⟩ := get_kid f7.out h1
      obtain ⟨ka, aA3, an3, ac3, kA3, kn3, kc3, rfl, ⟨s0, s1, s2, s3, s4, s5⟩, hv3⟩ := kid_at f4.out hkd hbel'.out
      have hcall := Lib.hid (ih'.out kd (List.mem_of_getElem? hkd) wr aA3 kA3 an3 ac3 kn3 kc3 hv3 (Nat.le_trans (weigh_kid hkd) hw'.out))
      obtain ⟨v, hv⟩ : ∃ v, v = 1 + countsV (t.kids.take q) := ⟨_, rfl⟩
      obtain ⟨r, hr⟩ : ∃ r, r = countV kd := ⟨_, rfl⟩
      have hnew := Lib.hid (show 1 + countsV (t.kids.take (q + 1)) = v + r by rw [take_snoc hkd, countsV_append, hv, hr]; simp [countsV]; omega)
      have hbnd : v + r ≤ 1000000 := by
        have := counts_upto t.kids (q + 1)
        rw [countV_eq] at hcw
        have h2 := hnew.out
        omega
      rw [← hv]
      rw [← hr] at hcall
      unfold val6 at hcall
      clear hkd hv3 hv hr
      go_wp2_with fail
      refine hcall.out.mono ?_
      rintro e w2 ⟨rfl, hb2⟩
      have hb2' := Lib.hid hb2
      clear hb2 hcall
      go_wp2_with fail
      go_roundw
      case rel => exact ⟨q + 1, by omega, by go_num, (by rw [hnew.out]; try go_num), (hb2'.out.block _ hBl.out).trans hB'.out, hbel'.out.trans (hb2'.out.mono hbel'.out.size)⟩
      case measure => simp [intOf]; omega
    · have h1I : ¬ (q : Int) < (kn : Int) := by omega
      have hfin := Lib.hid (show 1 + countsV (t.kids.take q) = countV t by rw [List.take_of_length_le (by rw [f7.out]; omega)]; exact (countV_eq t).symm)
      go_wp2_with fail
      go_ret
      exact ⟨by rw [← hfin.out]; rfl, hbel'.out⟩
set_option maxHeartbeats 8000000 in
theorem rdepth_any (t : Nd) : ∀ (w : World) (aA kA : Option Addr) (an ac kn kc : Nat), NodeV (Old w) w aA an ac kA kn kc t → weighV t ≤ 1000000 →
    Calls Try.prog 25 #[.agg (val6 t aA an ac kA kn kc)] w fun e w' => e = .returned (.int .i64 (depthV t : Int)) ∧ Below w.heap.size w w' := by
  induction t using Nd.ind with
  | _ t ih =>
  intro w aA kA an ac kn kc h hw
  have ih' := Lib.hid ih
  have hf := h.facts
  have f1 := Lib.hid hf.ats
  have f1l := Lib.hid hf.ats.1
  have f3 := hf.anc
  have f3m := hf.acm
  have f4 := Lib.hid hf.row
  have f6 := hf.knc
  have f6m := hf.kcm
  have f7 := Lib.hid hf.kl
  have hlab := hf.label
  have htxt := hf.text
  have hw' := Lib.hid hw
  unfold maxLen at hlab htxt f3m f6m
  have hcw := Nat.le_trans (count_le t) hw
  have hlw := Nat.le_trans (long_le t) hw
  have hdc := depth_lt t
  clear ih h hf hw
  unfold val6
  go_enter Try.func25, Try.ntmps25
  go_wp2_with fail
  go_loopw [3, 4] (fun u k wr => ∃ q : Nat, q ≤ kn ∧ k = .int .i64 (q : Int) ∧ u = .int .i64 ((depthsV (t.kids.take q) : Nat) : Int) ∧ wr.heap[w.heap.size]? = some (.cells (val6 t aA an ac kA kn kc) 26 (0, 0)) ∧ Below w.heap.size w wr) (fun _ k _ => kn - (intOf k).toNat)
  case atStart => exact ⟨0, Nat.zero_le _, rfl, by simp [depthsV], heap_alloc_new w _, (Below.refl _ _).alloc (Nat.le_refl _) _⟩
  case round =>
    obtain ⟨q, hq, rfl, rfl, hB, hbel⟩ := hrel
    have hB' := Lib.hid hB
    have hBl := Lib.hid (Array.getElem?_eq_some_iff.1 hB).1
    have hbel' := Lib.hid hbel
    unfold val6 at hB
    obtain ⟨c0, c1, c2, c3, c4, c5, cf⟩ := six_cells hB
    clear hB hbel
    by_cases h1 : q < kn
    · have h1I : (q : Int) < (kn : Int) := by omega
      obtain ⟨kd, hkd⟩ := get_kid f7.out h1
      obtain ⟨ka, aA3, an3, ac3, kA3, kn3, kc3, rfl, ⟨s0, s1, s2, s3, s4, s5⟩, hv3⟩ := kid_at f4.out hkd hbel'.out
      have hcall := Lib.hid (ih'.out kd (List.mem_of_getElem? hkd) wr aA3 kA3 an3 ac3 kn3 kc3 hv3 (Nat.le_trans (weigh_kid hkd) hw'.out))
      obtain ⟨v, hv⟩ : ∃ v, v = depthsV (t.kids.take q) := ⟨_, rfl⟩
      obtain ⟨r, hr⟩ : ∃ r, r = depthV kd := ⟨_, rfl⟩
      have hnew0 := Lib.hid (show depthsV (t.kids.take (q + 1)) = max v (1 + r) by rw [take_snoc hkd, depthsV_append, hv, hr]; simp [depthsV])
      have hbnd : r + 1 ≤ 1000000 := by
        have h2 := depths_upto t.kids (q + 1)
        rw [depthV_eq] at hdc
        have h3 := hnew0.out
        omega
      rw [← hv]
      rw [← hr] at hcall
      unfold val6 at hcall
      clear hkd hv3 hv hr
      rcases Nat.lt_or_ge v (1 + r) with g | g
      · have gI : (v : Int) < 1 + (r : Int) := by omega
        have hnew := Lib.hid (hnew0.out.trans (Nat.max_eq_right (Nat.le_of_lt g)))
        clear hnew0
        go_wp2_with fail
        refine hcall.out.mono ?_
        rintro e w2 ⟨rfl, hb2⟩
        have hb2' := Lib.hid hb2
        clear hb2 hcall
        go_wp2_with fail
        go_roundw
        case rel => exact ⟨q + 1, by omega, by go_num, (by rw [hnew.out]; try go_num), (hb2'.out.block _ hBl.out).trans hB'.out, hbel'.out.trans (hb2'.out.mono hbel'.out.size)⟩
        case measure => simp [intOf]; omega
      · have gI : ¬ (v : Int) < 1 + (r : Int) := by omega
        have hnew := Lib.hid (hnew0.out.trans (Nat.max_eq_left g))
        clear hnew0
        go_wp2_with fail
        refine hcall.out.mono ?_
        rintro e w2 ⟨rfl, hb2⟩
        have hb2' := Lib.hid hb2
        clear hb2 hcall
        go_wp2_with fail
        go_roundw
        case rel => exact ⟨q + 1, by omega, by go_num, (by rw [hnew.out]), (hb2'.out.block _ hBl.out).trans hB'.out, hbel'.out.trans (hb2'.out.mono hbel'.out.size)⟩
        case measure => simp [intOf]; omega
    · have h1I : ¬ (q : Int) < (kn : Int) := by omega
      have hfin := Lib.hid (show depthsV (t.kids.take q) = depthV t by rw [List.take_of_length_le (by rw [f7.out]; omega)]; exact (depthV_eq t).symm)
      go_wp2_with fail
      go_ret
      exact ⟨by rw [← hfin.out]; rfl, hbel'.out⟩
set_option maxHeartbeats 8000000 in
theorem rlong_any (t : Nd) : ∀ (w : World) (aA kA : Option Addr) (an ac kn kc : Nat), NodeV (Old w) w aA an ac kA kn kc t → weighV t ≤ 1000000 →
    Calls Try.prog 27 #[.agg (val6 t aA an ac kA kn kc)] w fun e w' => e = .returned (.int .i64 (longV t : Int)) ∧ Below w.heap.size w w' := by
  induction t using Nd.ind with
  | _ t ih =>
  intro w aA kA an ac kn kc h hw
  have ih' := Lib.hid ih
  have hf := h.facts
  have f1 := Lib.hid hf.ats
  have f1l := Lib.hid hf.ats.1
  have f3 := hf.anc
  have f3m := hf.acm
  have f4 := Lib.hid hf.row
  have f6 := hf.knc
  have f6m := hf.kcm
  have f7 := Lib.hid hf.kl
  have hlab := hf.label
  have htxt := hf.text
  have hw' := Lib.hid hw
  unfold maxLen at hlab htxt f3m f6m
  have hcw := Nat.le_trans (count_le t) hw
  have hlw := Nat.le_trans (long_le t) hw
  have hdc := depth_lt t
  clear ih h hf hw
  unfold val6
  go_enter Try.func27, Try.ntmps27
  go_wp2_with fail
  have hown : ownLong t = t.text.length + attrsLen t.attrs := rfl
  have hol : ownLong t ≤ longV t := by rw [longV_eq]; omega
  go_loopw [3, 4] (fun s k wr => ∃ q : Nat, q ≤ an ∧ k = .int .i64 (q : Int) ∧ s = .int .i64 ((t.text.length + attrsLen (t.attrs.take q) : Nat) : Int) ∧ wr.heap[w.heap.size]? = some (.cells (val6 t aA an ac kA kn kc) 26 (0, 0)) ∧ Below w.heap.size w wr) (fun _ k _ => an - (intOf k).toNat)
  case atStart => exact ⟨0, Nat.zero_le _, rfl, by simp [attrsLen], heap_alloc_new w _, (Below.refl _ _).alloc (Nat.le_refl _) _⟩
  case round =>
    obtain ⟨q, hq, rfl, rfl, hB, hbel⟩ := hrel
    obtain ⟨s, hs⟩ : ∃ s, s = t.text.length + attrsLen (t.attrs.take q) := ⟨_, rfl⟩
    rw [← hs]
    have hB' := Lib.hid hB
    unfold val6 at hB
    obtain ⟨c0, c1, c2, c3, c4, c5, cf⟩ := six_cells hB
    by_cases g1 : q < an
    · have g1I : (q : Int) < (an : Int) := by omega
      obtain ⟨ad, x, rfl, hxq, hlt, x1, x2, x3, x4⟩ := (f1.out.kept (T' := Old w) (fun _ h => h) (fun k hk => hbel.block k hk)).at_ g1
      have hst := attrsLen_take _ _ _ hxq
      have hle := attrsLen_take_le t.attrs (q + 1)
      obtain ⟨ky, va⟩ := x
      simp only at *
      unfold maxLen at x1 x2
      have hs2 := Lib.hid (show t.text.length + attrsLen (t.attrs.take (q + 1)) = s + ky.length + va.length by omega)
      have hsb : s + ky.length + va.length ≤ 1000000 := by omega
      have hbel' := Lib.hid hbel
      clear hst hle hs hxq hbel hB hown hol
      go_wp2_with fail
      go_quiet (fail)
      go_wp2_with fail
      go_roundw
      case rel => exact ⟨q + 1, by omega, by go_num, by rw [hs2.out]; go_num, hB'.out, draws hbel'.out _⟩
      case measure => simp [intOf]; omega
    · have g1I : ¬ (q : Int) < (an : Int) := by omega
      have hsf : s = ownLong t := by rw [hs, hown, List.take_of_length_le (by rw [f1l.out]; omega)]
      have hbelS := Lib.hid hbel
      have hBS := Lib.hid hB'.out
      clear hs hB hbel hB' hown
      have hsf' := Lib.hid hsf
      have hsb : s ≤ 1000000 := by omega
      clear hsf hol
      go_wp2_with fail
      go_loopw [3, 5] (fun u k wr => ∃ q : Nat, q ≤ kn ∧ k = .int .i64 (q : Int) ∧ u = .int .i64 ((max s (longsV (t.kids.take q)) : Nat) : Int) ∧ wr.heap[w.heap.size]? = some (.cells (val6 t aA an ac kA kn kc) 26 (0, 0)) ∧ Below w.heap.size w wr) (fun _ k _ => kn - (intOf k).toNat)
      case atStart => exact ⟨0, Nat.zero_le _, rfl, by simp [longsV], hBS.out, hbelS.out⟩
      case round =>
        obtain ⟨q, hq, rfl, rfl, hB, hbel⟩ := hrel
        have hB' := Lib.hid hB
        have hBl := Lib.hid (Array.getElem?_eq_some_iff.1 hB).1
        have hbel' := Lib.hid hbel
        unfold val6 at hB
        obtain ⟨c0, c1, c2, c3, c4, c5, cf⟩ := six_cells hB
        clear hB hbel
        by_cases h1 : q < kn
        · have h1I : (q : Int) < (kn : Int) := by omega
          obtain ⟨kd, hkd⟩ := get_kid f7.out h1
          obtain ⟨ka, aA3, an3, ac3, kA3, kn3, kc3, rfl, ⟨s0, s1, s2, s3, s4, s5⟩, hv3⟩ := kid_at f4.out hkd hbel'.out
          have hcall := Lib.hid (ih'.out kd (List.mem_of_getElem? hkd) wr aA3 kA3 an3 ac3 kn3 kc3 hv3 (Nat.le_trans (weigh_kid hkd) hw'.out))
          obtain ⟨v, hv⟩ : ∃ v, v = max s (longsV (t.kids.take q)) := ⟨_, rfl⟩
          obtain ⟨r, hr⟩ : ∃ r, r = longV kd := ⟨_, rfl⟩
          have hnew0 := Lib.hid (show max s (longsV (t.kids.take (q + 1))) = max v r by rw [take_snoc hkd, longsV_append, hv, hr]; simp only [longsV]; omega)
          rw [← hv]
          rw [← hr] at hcall
          unfold val6 at hcall
          clear hkd hv3 hv hr
          rcases Nat.lt_or_ge v r with g | g
          · have gI : (v : Int) < (r : Int) := by omega
            have hnew := Lib.hid (hnew0.out.trans (Nat.max_eq_right (Nat.le_of_lt g)))
            clear hnew0
            go_wp2_with fail
            refine hcall.out.mono ?_
            rintro e w2 ⟨rfl, hb2⟩
            have hb2' := Lib.hid hb2
            clear hb2 hcall
            go_wp2_with fail
            go_roundw
            case rel => exact ⟨q + 1, by omega, by go_num, (by rw [hnew.out]; try go_num), (hb2'.out.block _ hBl.out).trans hB'.out, hbel'.out.trans (hb2'.out.mono hbel'.out.size)⟩
            case measure => simp [intOf]; omega
          · have gI : ¬ (v : Int) < (r : Int) := by omega
            have hnew := Lib.hid (hnew0.out.trans (Nat.max_eq_left g))
            clear hnew0
            go_wp2_with fail
            refine hcall.out.mono ?_
            rintro e w2 ⟨rfl, hb2⟩
            have hb2' := Lib.hid hb2
            clear hb2 hcall
            go_wp2_with fail
            go_roundw
            case rel => exact ⟨q + 1, by omega, by go_num, (by rw [hnew.out]), (hb2'.out.block _ hBl.out).trans hB'.out, hbel'.out.trans (hb2'.out.mono hbel'.out.size)⟩
            case measure => simp [intOf]; omega
        · have h1I : ¬ (q : Int) < (kn : Int) := by omega
          have hfin := Lib.hid (show max s (longsV (t.kids.take q)) = longV t by rw [List.take_of_length_le (by rw [f7.out]; omega)]; exact (show longV t = max s (longsV t.kids) by rw [hsf'.out]; exact longV_eq t).symm)
          go_wp2_with fail
          go_ret
          exact ⟨by rw [← hfin.out]; rfl, hbel'.out⟩
end Go.Proofs.Ytacmofhlbebonaa
