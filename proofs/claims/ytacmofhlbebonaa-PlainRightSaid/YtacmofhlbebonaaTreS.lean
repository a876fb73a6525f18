/- Is a tree right: the document's. -/
import Derived.Test.YtacmofhlbebonaaTreQ
import Derived.Test.YtacmofhlbebonaaTreC
namespace Go.Proofs.Ytacmofhlbebonaa
open Go.RowKit
set_option maxRecDepth 20000

theorem key_first {s : Txt} (h : keyB s = true) : ltB [] s = true := by
  unfold keyB at h
  have h := of_decide_eq_true h
  cases s with
  | nil => simp at h
  | cons a r => unfold ltB; simp [Op.bytesLess]
theorem rkey_quiet (s : Txt) (w : World) (hs : s.length ≤ maxLen) : Calls Try.prog 15 #[.string ⟨s.toArray⟩] w fun e w' => e = .returned (.bool (keyB s)) ∧ ∃ d, w' = w.drewN d :=
  (rkey_any s w hs).mono (by rintro e w' ⟨rfl, rfl⟩; exact ⟨rfl, 0, rfl⟩)
set_option maxHeartbeats 8000000 in
theorem rright_any (t : Nd) : ∀ (w : World) (aA kA : Option Addr) (an ac kn kc : Nat), NodeV (Old w) w aA an ac kA kn kc t →
    Calls Try.prog 38 #[.agg (val6 t aA an ac kA kn kc)] w fun e w' => e = .returned (.bool (rightsV ltB t)) ∧ Below w.heap.size w w' := by
  induction t using Nd.ind with
  | _ t ih =>
  intro w aA kA an ac kn kc h
  have ih' := Lib.hid ih
  have hf := h.facts
  have f1 := Lib.hid hf.ats
  have f1l := Lib.hid hf.ats.1
  have f3 := hf.anc
  have f3m := hf.acm
  have f4 := Lib.hid hf.row
  have f6 := hf.knc
  have f6m := hf.kcm
  have f7 := Lib.hid hf.kl
  have hlab := hf.label
  have htxt := hf.text
  unfold maxLen at hlab htxt f3m f6m
  clear ih h hf
  have hR0 := Lib.hid (rightsV_eq ltB t)
  unfold val6
  by_cases hl : t.label.length ≤ 64
  · have hlI : ¬ (64 : Int) < (t.label.length : Int) := by omega
    cases hlf : t.leaf with
    | true =>
      by_cases hk0 : kn = 0
      · have hk0I : ¬ (0 : Int) < (kn : Int) := by omega
        have hR := Lib.hid (show rightsV ltB t = (attrsOk ltB [] t.attrs && rightssV ltB t.kids) by
          have : t.kids = [] := List.length_eq_zero_iff.1 (by rw [f7.out]; exact hk0)
          rw [hR0.out, aloneOk, decide_eq_true hl, hlf, this]
          simp)
        subst hk0
        go_enter Try.func38, Try.ntmps38
        go_wp2_with fail
        go_loopw [3] (fun k wr => ∃ (q : Nat) (last : Txt), q ≤ an ∧ k = .int .i64 (q : Int) ∧ (q = 0 → last = []) ∧ (∀ pq y, q = pq + 1 → t.attrs[pq]? = some y → y.1 = last) ∧ attrsOk ltB [] t.attrs = attrsOk ltB last (t.attrs.drop q) ∧
          wr.heap[w.heap.size]? = some (.cells (val6 t aA an ac kA 0 kc) 26 (0, 0)) ∧ Below w.heap.size w wr) (fun k _ => an - (intOf k).toNat)
        case atStart => exact ⟨0, [], Nat.zero_le _, rfl, fun _ => rfl, fun pq y h => by omega, rfl, by unfold val6; rw [hlf]; exact heap_alloc_new w _, (Below.refl _ _).alloc (Nat.le_refl _) _⟩
        case round =>
          obtain ⟨q, last, hq, rfl, hl0, hl1, hok, hB, hbel⟩ := hrel
          have hB' := Lib.hid hB
          unfold val6 at hB
          obtain ⟨c0, c1, c2, c3, c4, c5, cf⟩ := six_cells hB
          have hbel' := Lib.hid hbel
          clear hB hbel
          by_cases h1 : q < an
          · have h1I : (q : Int) < (an : Int) := by omega
            obtain ⟨ad, x, rfl, hxq, hlt, x1, x2, x3, x4⟩ := (f1.out.kept (T' := Old w) (w' := wr) (fun _ h => h) (fun k hk => hbel'.out.block k hk)).at_ h1
            obtain ⟨ky, va⟩ := x
            simp only at *
            have hdr : t.attrs.drop q = (ky, va) :: t.attrs.drop (q + 1) := by rw [List.drop_eq_getElem?_toList_append, hxq]; rfl
            have hprev : ∀ pq, q = pq + 1 → ∃ va2, wr.cell? (ad.add (pq * 2)) = some (.string ⟨last.toArray⟩) ∧ va2 = va := fun pq hp => by
              obtain ⟨ad', y, e, hyq, -, -, -, y3, -⟩ := (f1.out.kept (T' := Old w) (w' := wr) (fun _ h => h) (fun k hk => hbel'.out.block k hk)).at_ (q := pq) (by omega)
              cases e
              rw [hl1 pq y hp hyq] at y3
              exact ⟨va, y3, rfl⟩
            cases hk : keyB ky with
            | false =>
              have hv := Lib.hid (show rightsV ltB t = false by rw [hR.out, hok, hdr, attrsOk, hk]; rfl)
              have hkq := Lib.hid (fun d => rkey_quiet ky (wr.drewN d) x1)
              rw [hk] at hkq
              clear hok hdr hxq hprev hl1 hl0 hk
              go_wp2_with fail
              go_quiet ((go_at_call 15; exact Calls.quiet_of (hkq.out _)))
              go_wp2_with fail
              go_ret
              exact ⟨by rw [hv.out]; rfl, draws hbel'.out _⟩
            | true =>
              have hkq := Lib.hid (fun d => rkey_quiet ky (wr.drewN d) x1)
              rw [hk] at hkq
              unfold maxLen at x2
              by_cases h256 : va.length ≤ 256
              · have i2 : ¬ (256 : Int) < (va.length : Int) := by omega
                have i2d : decide ((256 : Int) < (va.length : Int)) = false := decide_eq_false i2
                by_cases hq0 : q = 0
                · have hv := Lib.hid (show attrsOk ltB [] t.attrs = attrsOk ltB ky (t.attrs.drop (q + 1)) by rw [hok, hl0 hq0, hdr, attrsOk, hk, key_first hk, decide_eq_true h256]; simp)
                  have hnx := Lib.hid (show ∀ pq y, q + 1 = pq + 1 → t.attrs[pq]? = some y → y.1 = ky from fun pq y h hy => by
                    obtain rfl : pq = q := by omega
                    rw [hxq] at hy
                    injection hy with hy
                    rw [← hy])
                  have hq0I : ¬ (0 : Int) < (q : Int) := by omega
                  have hq0d : decide (0 < q) = false := decide_eq_false (by omega)
                  clear hok hdr hxq hprev hl1 hl0 hk hq0
                  go_wp2_with fail
                  go_quiet ((go_at_call 15; exact Calls.quiet_of (hkq.out _)))
                  go_wp2_with fail
                  go_roundw
                  case rel => exact ⟨q + 1, ky, by omega, by go_num, fun h => by omega, hnx.out, hv.out, hB'.out, draws hbel'.out _⟩
                  case measure => simp [intOf]; omega
                · obtain ⟨pq, hpq⟩ : ∃ pq, q = pq + 1 := ⟨q - 1, by omega⟩
                  obtain ⟨-, y3, -⟩ := hprev pq hpq
                  have hq0I : (0 : Int) < (q : Int) := by omega
                  have hq0d : decide (0 < q) = true := decide_eq_true (by omega)
                  have hpqW : IntKind.i64.wrap ((q : Int) - 1) = (pq : Int) := by rw [show (q : Int) - 1 = (pq : Int) by omega]; exact IntWalk.i64_in _ (by omega)
                  have hpqI : (q : Int) - 1 = (pq : Int) := by omega
                  have hpqL : (pq : Int) < (an : Int) := by omega
                  cases ho : ltB last ky with
                  | false =>
                    have hv := Lib.hid (show rightsV ltB t = false by rw [hR.out, hok, hdr, attrsOk, hk, ho]; rfl)
                    have ho' : (Op.bytesLess ky last || ky == last) = true := by unfold ltB at ho; cases hb : (Op.bytesLess ky last || ky == last) with | true => rfl | false => (rw [hb] at ho; cases ho)
                    clear hok hdr hxq hprev hl1 hl0 hk ho hpq hq0
                    go_wp2_with fail
                    go_quiet ((go_at_call 15; exact Calls.quiet_of (hkq.out _)))
                    go_wp2_with fail
                    go_ret
                    exact ⟨by rw [hv.out]; rfl, draws hbel'.out _⟩
                  | true =>
                    have hv := Lib.hid (show attrsOk ltB [] t.attrs = attrsOk ltB ky (t.attrs.drop (q + 1)) by rw [hok, hdr, attrsOk, hk, ho, decide_eq_true h256]; simp)
                    have hnx := Lib.hid (show ∀ pq y, q + 1 = pq + 1 → t.attrs[pq]? = some y → y.1 = ky from fun pq y h hy => by
                      obtain rfl : pq = q := by omega
                      rw [hxq] at hy
                      injection hy with hy
                      rw [← hy])
                    have ho' : (Op.bytesLess ky last || ky == last) = false := by unfold ltB at ho; exact Bool.not_eq_true' _ |>.mp ho
                    clear hok hdr hxq hprev hl1 hl0 hk ho hpq hq0
                    go_wp2_with fail
                    go_quiet ((go_at_call 15; exact Calls.quiet_of (hkq.out _)))
                    go_wp2_with fail
                    go_roundw
                    case rel => exact ⟨q + 1, ky, by omega, by go_num, fun h => by omega, hnx.out, hv.out, hB'.out, draws hbel'.out _⟩
                    case measure => simp [intOf]; omega
              · have i2 : (256 : Int) < (va.length : Int) := by omega
                have i2d : decide ((256 : Int) < (va.length : Int)) = true := decide_eq_true i2
                have hv := Lib.hid (show rightsV ltB t = false by rw [hR.out, hok, hdr, attrsOk, hk, decide_eq_false h256]; simp)
                clear hok hdr hxq hprev hl1 hl0 hk
                go_wp2_with fail
                go_quiet ((go_at_call 15; exact Calls.quiet_of (hkq.out _)))
                go_wp2_with fail
                go_ret
                exact ⟨by rw [hv.out]; rfl, draws hbel'.out _⟩
          · have h1I : ¬ (q : Int) < (an : Int) := by omega
            have hall := Lib.hid (show rightsV ltB t = rightssV ltB t.kids by rw [hR.out, hok, List.drop_of_length_le (by rw [f1l.out]; omega)]; simp [attrsOk])
            clear hok hl1 hl0
            go_wp2_with fail
            go_loopw [4] (fun k wr => ∃ q : Nat, q ≤ 0 ∧ k = .int .i64 (q : Int) ∧ rightssV ltB t.kids = rightssV ltB (t.kids.drop q) ∧ wr.heap[w.heap.size]? = some (.cells (val6 t aA an ac kA 0 kc) 26 (0, 0)) ∧ Below w.heap.size w wr) (fun k _ => 0 - (intOf k).toNat)
            case atStart => exact ⟨0, Nat.zero_le _, rfl, rfl, hB'.out, hbel'.out⟩
            case round =>
              obtain ⟨q2, hq2, rfl, hok2, hB2, hbel2⟩ := hrel
              have hB2' := Lib.hid hB2
              have hBl2 := Lib.hid (Array.getElem?_eq_some_iff.1 hB2).1
              have hbel2' := Lib.hid hbel2
              unfold val6 at hB2
              clear c0 c1 c2 c3 c4 c5 cf
              obtain ⟨c0, c1, c2, c3, c4, c5, cf⟩ := six_cells hB2
              clear hB2 hbel2
              by_cases m1 : q2 < 0
              · omega
              · have m1I : ¬ (q2 : Int) < (0 : Int) := by omega
                have hv := Lib.hid (show rightsV ltB t = true by rw [hall.out, hok2, List.drop_of_length_le (by rw [f7.out]; omega)]; rfl)
                clear hok2
                go_wp2_with fail
                go_ret
                exact ⟨by rw [hv.out]; rfl, hbel2'.out⟩
      · have hk0I : (0 : Int) < (kn : Int) := by omega
        have hv := Lib.hid (show rightsV ltB t = false by
          have : t.kids.isEmpty = false := by rw [isEmpty_len]; exact decide_eq_false (by rw [f7.out]; exact hk0)
          rw [hR0.out, aloneOk, hlf, this]
          simp)
        go_enter Try.func38, Try.ntmps38
        go_wp2_with fail
        go_ret
        exact ⟨by rw [hv.out]; rfl, (Below.refl _ _).alloc (Nat.le_refl _) _⟩
    | false =>
      cases htx : t.text with
      | nil =>
        have hR := Lib.hid (show rightsV ltB t = (attrsOk ltB [] t.attrs && rightssV ltB t.kids) by
          rw [hR0.out, aloneOk, decide_eq_true hl, hlf, htx]
          simp)
        go_enter Try.func38, Try.ntmps38
        go_wp2_with fail
        go_loopw [3] (fun k wr => ∃ (q : Nat) (last : Txt), q ≤ an ∧ k = .int .i64 (q : Int) ∧ (q = 0 → last = []) ∧ (∀ pq y, q = pq + 1 → t.attrs[pq]? = some y → y.1 = last) ∧ attrsOk ltB [] t.attrs = attrsOk ltB last (t.attrs.drop q) ∧
          wr.heap[w.heap.size]? = some (.cells (val6 t aA an ac kA kn kc) 26 (0, 0)) ∧ Below w.heap.size w wr) (fun k _ => an - (intOf k).toNat)
        case atStart => exact ⟨0, [], Nat.zero_le _, rfl, fun _ => rfl, fun pq y h => by omega, rfl, by unfold val6; rw [hlf, htx]; exact heap_alloc_new w _, (Below.refl _ _).alloc (Nat.le_refl _) _⟩
        case round =>
          obtain ⟨q, last, hq, rfl, hl0, hl1, hok, hB, hbel⟩ := hrel
          have hB' := Lib.hid hB
          unfold val6 at hB
          obtain ⟨c0, c1, c2, c3, c4, c5, cf⟩ := six_cells hB
          have hbel' := Lib.hid hbel
          clear hB hbel
          by_cases h1 : q < an
          · have h1I : (q : Int) < (an : Int) := by omega
            obtain ⟨ad, x, rfl, hxq, hlt, x1, x2, x3, x4⟩ := (f1.out.kept (T' := Old w) (w' := wr) (fun _ h => h) (fun k hk => hbel'.out.block k hk)).at_ h1
            obtain ⟨ky, va⟩ := x
            simp only at *
            have hdr : t.attrs.drop q = (ky, va) :: t.attrs.drop (q + 1) := by rw [List.drop_eq_getElem?_toList_append, hxq]; rfl
            have hprev : ∀ pq, q = pq + 1 → ∃ va2, wr.cell? (ad.add (pq * 2)) = some (.string ⟨last.toArray⟩) ∧ va2 = va := fun pq hp => by
              obtain ⟨ad', y, e, hyq, -, -, -, y3, -⟩ := (f1.out.kept (T' := Old w) (w' := wr) (fun _ h => h) (fun k hk => hbel'.out.block k hk)).at_ (q := pq) (by omega)
              cases e
              rw [hl1 pq y hp hyq] at y3
              exact ⟨va, y3, rfl⟩
            cases hk : keyB ky with
            | false =>
              have hv := Lib.hid (show rightsV ltB t = false by rw [hR.out, hok, hdr, attrsOk, hk]; rfl)
              have hkq := Lib.hid (fun d => rkey_quiet ky (wr.drewN d) x1)
              rw [hk] at hkq
              clear hok hdr hxq hprev hl1 hl0 hk
              go_wp2_with fail
              go_quiet ((go_at_call 15; exact Calls.quiet_of (hkq.out _)))
              go_wp2_with fail
              go_ret
              exact ⟨by rw [hv.out]; rfl, draws hbel'.out _⟩
            | true =>
              have hkq := Lib.hid (fun d => rkey_quiet ky (wr.drewN d) x1)
              rw [hk] at hkq
              unfold maxLen at x2
              by_cases h256 : va.length ≤ 256
              · have i2 : ¬ (256 : Int) < (va.length : Int) := by omega
                have i2d : decide ((256 : Int) < (va.length : Int)) = false := decide_eq_false i2
                by_cases hq0 : q = 0
                · have hv := Lib.hid (show attrsOk ltB [] t.attrs = attrsOk ltB ky (t.attrs.drop (q + 1)) by rw [hok, hl0 hq0, hdr, attrsOk, hk, key_first hk, decide_eq_true h256]; simp)
                  have hnx := Lib.hid (show ∀ pq y, q + 1 = pq + 1 → t.attrs[pq]? = some y → y.1 = ky from fun pq y h hy => by
                    obtain rfl : pq = q := by omega
                    rw [hxq] at hy
                    injection hy with hy
                    rw [← hy])
                  have hq0I : ¬ (0 : Int) < (q : Int) := by omega
                  have hq0d : decide (0 < q) = false := decide_eq_false (by omega)
                  clear hok hdr hxq hprev hl1 hl0 hk hq0
                  go_wp2_with fail
                  go_quiet ((go_at_call 15; exact Calls.quiet_of (hkq.out _)))
                  go_wp2_with fail
                  go_roundw
                  case rel => exact ⟨q + 1, ky, by omega, by go_num, fun h => by omega, hnx.out, hv.out, hB'.out, draws hbel'.out _⟩
                  case measure => simp [intOf]; omega
                · obtain ⟨pq, hpq⟩ : ∃ pq, q = pq + 1 := ⟨q - 1, by omega⟩
                  obtain ⟨-, y3, -⟩ := hprev pq hpq
                  have hq0I : (0 : Int) < (q : Int) := by omega
                  have hq0d : decide (0 < q) = true := decide_eq_true (by omega)
                  have hpqW : IntKind.i64.wrap ((q : Int) - 1) = (pq : Int) := by rw [show (q : Int) - 1 = (pq : Int) by omega]; exact IntWalk.i64_in _ (by omega)
                  have hpqI : (q : Int) - 1 = (pq : Int) := by omega
                  have hpqL : (pq : Int) < (an : Int) := by omega
                  cases ho : ltB last ky with
                  | false =>
                    have hv := Lib.hid (show rightsV ltB t = false by rw [hR.out, hok, hdr, attrsOk, hk, ho]; rfl)
                    have ho' : (Op.bytesLess ky last || ky == last) = true := by unfold ltB at ho; cases hb : (Op.bytesLess ky last || ky == last) with | true => rfl | false => (rw [hb] at ho; cases ho)
                    clear hok hdr hxq hprev hl1 hl0 hk ho hpq hq0
                    go_wp2_with fail
                    go_quiet ((go_at_call 15; exact Calls.quiet_of (hkq.out _)))
                    go_wp2_with fail
                    go_ret
                    exact ⟨by rw [hv.out]; rfl, draws hbel'.out _⟩
                  | true =>
                    have hv := Lib.hid (show attrsOk ltB [] t.attrs = attrsOk ltB ky (t.attrs.drop (q + 1)) by rw [hok, hdr, attrsOk, hk, ho, decide_eq_true h256]; simp)
                    have hnx := Lib.hid (show ∀ pq y, q + 1 = pq + 1 → t.attrs[pq]? = some y → y.1 = ky from fun pq y h hy => by
                      obtain rfl : pq = q := by omega
                      rw [hxq] at hy
                      injection hy with hy
                      rw [← hy])
                    have ho' : (Op.bytesLess ky last || ky == last) = false := by unfold ltB at ho; exact Bool.not_eq_true' _ |>.mp ho
                    clear hok hdr hxq hprev hl1 hl0 hk ho hpq hq0
                    go_wp2_with fail
                    go_quiet ((go_at_call 15; exact Calls.quiet_of (hkq.out _)))
                    go_wp2_with fail
                    go_roundw
                    case rel => exact ⟨q + 1, ky, by omega, by go_num, fun h => by omega, hnx.out, hv.out, hB'.out, draws hbel'.out _⟩
                    case measure => simp [intOf]; omega
              · have i2 : (256 : Int) < (va.length : Int) := by omega
                have i2d : decide ((256 : Int) < (va.length : Int)) = true := decide_eq_true i2
                have hv := Lib.hid (show rightsV ltB t = false by rw [hR.out, hok, hdr, attrsOk, hk, decide_eq_false h256]; simp)
                clear hok hdr hxq hprev hl1 hl0 hk
                go_wp2_with fail
                go_quiet ((go_at_call 15; exact Calls.quiet_of (hkq.out _)))
                go_wp2_with fail
                go_ret
                exact ⟨by rw [hv.out]; rfl, draws hbel'.out _⟩
          · have h1I : ¬ (q : Int) < (an : Int) := by omega
            have hall := Lib.hid (show rightsV ltB t = rightssV ltB t.kids by rw [hR.out, hok, List.drop_of_length_le (by rw [f1l.out]; omega)]; simp [attrsOk])
            clear hok hl1 hl0
            go_wp2_with fail
            go_loopw [4] (fun k wr => ∃ q : Nat, q ≤ kn ∧ k = .int .i64 (q : Int) ∧ rightssV ltB t.kids = rightssV ltB (t.kids.drop q) ∧ wr.heap[w.heap.size]? = some (.cells (val6 t aA an ac kA kn kc) 26 (0, 0)) ∧ Below w.heap.size w wr) (fun k _ => kn - (intOf k).toNat)
            case atStart => exact ⟨0, Nat.zero_le _, rfl, rfl, hB'.out, hbel'.out⟩
            case round =>
              obtain ⟨q2, hq2, rfl, hok2, hB2, hbel2⟩ := hrel
              have hB2' := Lib.hid hB2
              have hBl2 := Lib.hid (Array.getElem?_eq_some_iff.1 hB2).1
              have hbel2' := Lib.hid hbel2
              unfold val6 at hB2
              clear c0 c1 c2 c3 c4 c5 cf
              obtain ⟨c0, c1, c2, c3, c4, c5, cf⟩ := six_cells hB2
              clear hB2 hbel2
              by_cases m1 : q2 < kn
              · have m1I : (q2 : Int) < (kn : Int) := by omega
                obtain ⟨kd, hkd⟩ := get_kid f7.out m1
                obtain ⟨ka, aA3, an3, ac3, kA3, kn3, kc3, rfl, ⟨s0, s1, s2, s3, s4, s5⟩, hv3⟩ := kid_at f4.out hkd hbel2'.out
                have hcall := Lib.hid (ih'.out kd (List.mem_of_getElem? hkd) wr aA3 kA3 an3 ac3 kn3 kc3 hv3)
                have hdr : t.kids.drop q2 = kd :: t.kids.drop (q2 + 1) := by rw [List.drop_eq_getElem?_toList_append, hkd]; rfl
                unfold val6 at hcall
                cases hr : rightsV ltB kd with
                | false =>
                  have hv := Lib.hid (show rightsV ltB t = false by rw [hall.out, hok2, hdr, rightssV, hr]; rfl)
                  rw [hr] at hcall
                  clear hkd hv3 hdr hok2 hr
                  go_wp2_with fail
                  refine hcall.out.mono ?_
                  rintro e w2 ⟨rfl, hb2⟩
                  have hb2' := Lib.hid hb2
                  clear hb2 hcall
                  go_wp2_with fail
                  go_ret
                  exact ⟨by rw [hv.out]; rfl, hbel2'.out.trans (hb2'.out.mono hbel2'.out.size)⟩
                | true =>
                  have hv := Lib.hid (show rightssV ltB t.kids = rightssV ltB (t.kids.drop (q2 + 1)) by rw [hok2, hdr, rightssV, hr]; rfl)
                  rw [hr] at hcall
                  clear hkd hv3 hdr hok2 hr
                  go_wp2_with fail
                  refine hcall.out.mono ?_
                  rintro e w2 ⟨rfl, hb2⟩
                  have hb2' := Lib.hid hb2
                  clear hb2 hcall
                  go_wp2_with fail
                  go_roundw
                  case rel => exact ⟨q2 + 1, by omega, by go_num, hv.out, (hb2'.out.block _ hBl2.out).trans hB2'.out, hbel2'.out.trans (hb2'.out.mono hbel2'.out.size)⟩
                  case measure => simp [intOf]; omega
              · have m1I : ¬ (q2 : Int) < (kn : Int) := by omega
                have hv := Lib.hid (show rightsV ltB t = true by rw [hall.out, hok2, List.drop_of_length_le (by rw [f7.out]; omega)]; rfl)
                clear hok2
                go_wp2_with fail
                go_ret
                exact ⟨by rw [hv.out]; rfl, hbel2'.out⟩
      | cons ch rest =>
        have hv := Lib.hid (show rightsV ltB t = false by
          rw [hR0.out, aloneOk, hlf, htx]
          simp)
        go_enter Try.func38, Try.ntmps38
        go_wp2_with fail
        go_ret
        exact ⟨by rw [hv.out]; rfl, (Below.refl _ _).alloc (Nat.le_refl _) _⟩
  · have hlI : (64 : Int) < (t.label.length : Int) := by omega
    have hv := Lib.hid (show rightsV ltB t = false by rw [hR0.out, aloneOk, decide_eq_false hl]; rfl)
    go_enter Try.func38, Try.ntmps38
    go_wp2_with fail
    go_ret
    exact ⟨by rw [hv.out]; rfl, (Below.refl _ _).alloc (Nat.le_refl _) _⟩
end Go.Proofs.Ytacmofhlbebonaa
