/- Is a node right by itself; how long is its text: the program's. -/
import Derived.Test.YtacmofhlbebonaaTreA
namespace Go.Proofs.Ytacmofhlbebonaa
open Go.RowKit
set_option maxRecDepth 20000

/-- does a key come behind the last one? -/
def ltB (last key : Txt) : Bool := !(Op.bytesLess key last || key == last)
set_option maxHeartbeats 2000000 in
theorem rightAttrs_any (w : World) (T : Nat → Prop) (A : Option Addr) (n c : Nat) (xs : List (Txt × Txt)) (hx : AtsIn T w A n xs) (hT : ∀ k, T k → k < w.heap.size) (hn : n ≤ maxLen) :
    Calls Try.prog 48 #[.slice A n c] w fun e w' => e = .returned (.bool (attrsOk ltB [] xs)) ∧ Below w.heap.size w w' := by
  have hx' := Lib.hid hx
  have hT' := Lib.hid hT
  have hlx := Lib.hid hx.1
  clear hx hT
  have hn' : (n : Int) ≤ 9223372036854775807 := by unfold maxLen at hn; omega
  go_enter Try.func48, Try.ntmps48
  go_wp2_with fail
  go_loopw [3, 8] (fun l k wr => ∃ (q : Nat) (last : Txt), q ≤ n ∧ k = .int .i64 (q : Int) ∧ l = .string ⟨last.toArray⟩ ∧ last.length ≤ maxLen ∧ attrsOk ltB [] xs = attrsOk ltB last (xs.drop q) ∧ Below w.heap.size w wr) (fun _ k _ => n - (intOf k).toNat)
  case atStart => exact ⟨0, [], Nat.zero_le _, rfl, rfl, Nat.zero_le _, rfl, Below.refl _ _⟩
  case round =>
    obtain ⟨q, last, hq, rfl, rfl, hl, hok, hbel⟩ := hrel
    by_cases h1 : q < n
    · have h1I : (q : Int) < (n : Int) := by omega
      obtain ⟨ad, x, rfl, hxq, hlt, x1, x2, x3, x4⟩ := (hx'.out.kept (fun _ h => h) (fun k hk => hbel.block k (hT'.out k hk))).at_ h1
      obtain ⟨ky, va⟩ := x
      simp only at *
      have hdr : xs.drop q = (ky, va) :: xs.drop (q + 1) := by rw [List.drop_eq_getElem?_toList_append, hxq]; rfl
      have hbel' := Lib.hid hbel
      cases hk : keyB ky with
      | false =>
        have hv := Lib.hid (show attrsOk ltB [] xs = false by rw [hok, hdr, attrsOk, hk]; rfl)
        clear hok hdr hxq hbel
        go_wp2_with (go_at_call 14; refine (key_any ky _ x1).mono ?_; rw [hk]; rintro e w' ⟨rfl, rfl⟩)
        go_ret
        exact ⟨by rw [hv.out]; rfl, hbel'.out.alloc hbel'.out.size _⟩
      | true =>
        cases ho : ltB last ky with
        | false =>
          have hv := Lib.hid (show attrsOk ltB [] xs = false by rw [hok, hdr, attrsOk, hk, ho]; rfl)
          have ho' : (Op.bytesLess ky last || ky == last) = true := by unfold ltB at ho; cases hb : (Op.bytesLess ky last || ky == last) with | true => rfl | false => (rw [hb] at ho; cases ho)
          clear hok hdr hxq hbel ho
          go_wp2_with (go_at_call 14; refine (key_any ky _ x1).mono ?_; rw [hk]; rintro e w' ⟨rfl, rfl⟩)
          go_ret
          exact ⟨by rw [hv.out]; rfl, hbel'.out.alloc hbel'.out.size _⟩
        | true =>
          have ho' : (Op.bytesLess ky last || ky == last) = false := by unfold ltB at ho; exact Bool.not_eq_true' _ |>.mp ho
          unfold maxLen at x2
          by_cases h256 : va.length ≤ 256
          · have hv := Lib.hid (show attrsOk ltB [] xs = attrsOk ltB ky (xs.drop (q + 1)) by rw [hok, hdr, attrsOk, hk, ho, decide_eq_true h256]; simp)
            have i2 : ¬ (256 : Int) < (va.length : Int) := by omega
            clear hok hdr hxq hbel ho
            go_wp2_with (go_at_call 14; refine (key_any ky _ x1).mono ?_; rw [hk]; rintro e w' ⟨rfl, rfl⟩)
            go_roundw
            case rel => exact ⟨q + 1, ky, by omega, by go_num, rfl, x1, hv.out, hbel'.out.alloc hbel'.out.size _⟩
            case measure => simp [intOf]; omega
          · have hv := Lib.hid (show attrsOk ltB [] xs = false by rw [hok, hdr, attrsOk, hk, ho, decide_eq_false h256]; simp)
            have i2 : (256 : Int) < (va.length : Int) := by omega
            clear hok hdr hxq hbel ho
            go_wp2_with (go_at_call 14; refine (key_any ky _ x1).mono ?_; rw [hk]; rintro e w' ⟨rfl, rfl⟩)
            go_ret
            exact ⟨by rw [hv.out]; rfl, hbel'.out.alloc hbel'.out.size _⟩
    · have h1I : ¬ (q : Int) < (n : Int) := by omega
      have hv := Lib.hid (show attrsOk ltB [] xs = true by rw [hok, List.drop_of_length_le (by rw [hlx.out]; omega)]; rfl)
      have hbel' := Lib.hid hbel
      clear hok hbel
      go_wp2_with fail
      go_ret
      exact ⟨by rw [hv.out]; rfl, hbel'.out⟩

/-- a node's own rightness, at its address -/
theorem isEmpty_len {α : Type} (l : List α) : l.isEmpty = decide (l.length = 0) := by cases l <;> simp
set_option maxHeartbeats 2000000 in
theorem rightAlone_any (w : World) (T : Nat → Prop) (E : Addr) (t : Nd) (h : NodeAt T w E t) (hT : ∀ k, T k → k < w.heap.size) :
    Calls Try.prog 37 #[.pointer (some E)] w fun e w' => e = .returned (.bool (aloneOk ltB t)) ∧ Below w.heap.size w w' := by
  obtain ⟨hE, aA, an, ac, kA, kn, kc, ⟨c0, c1, c2, c3, c4, c5⟩, hv⟩ := h
  have hf := hv.facts
  have hlab := hf.label
  have htxt := hf.text
  have hats := Lib.hid hf.ats
  have hkl := Lib.hid hf.kl
  have han := hf.anc
  have ham := hf.acm
  have hkn := hf.knc
  have hkm := hf.kcm
  clear hv hf
  have hT' := Lib.hid hT
  clear hT
  unfold maxLen at hlab htxt hkm
  by_cases hl : t.label.length ≤ 64
  · have i1 : ¬ (64 : Int) < (t.label.length : Int) := by omega
    cases ha : attrsOk ltB [] t.attrs with
    | false =>
      have hv := Lib.hid (show aloneOk ltB t = false by unfold aloneOk; rw [ha]; simp)
      have ha' := Lib.hid ha
      clear ha
      go_enter Try.func37, Try.ntmps37
      go_wp2_with (go_at_call 48; refine (rightAttrs_any _ T aA an ac t.attrs hats.out hT'.out (by omega)).mono ?_; rw [ha'.out]; rintro e w' ⟨rfl, hb⟩)
      go_ret
      exact ⟨by rw [hv.out]; rfl, hb⟩
    | true =>
      have ha' := Lib.hid ha
      have hv := Lib.hid (show aloneOk ltB t = if t.leaf then decide (t.kids.length = 0) else decide (t.text.length = 0) by unfold aloneOk; rw [ha, decide_eq_true hl, isEmpty_len, isEmpty_len]; simp)
      clear ha
      cases hlf : t.leaf with
      | true =>
        rw [hlf] at c1
        by_cases hk0 : kn = 0
        · have hv2 := Lib.hid (show aloneOk ltB t = true by rw [hv.out, hlf, hkl.out, decide_eq_true hk0]; rfl)
          have e0 : ((kn : Int) == 0) = true := by simp; exact hk0
          clear hk0 hlf
          go_enter Try.func37, Try.ntmps37
          go_wp2_with (go_at_call 48; refine (rightAttrs_any _ T aA an ac t.attrs hats.out hT'.out (by omega)).mono ?_; rw [ha'.out]; rintro e w' ⟨rfl, hb⟩; have d1 := (hb.cell (p := ⟨E.block, E.off + 1, none⟩) (hT'.out _ hE)).trans c1; have d5 := (hb.cell (p := ⟨E.block, E.off + 5, none⟩) (hT'.out _ hE)).trans c5; have hb' := Lib.hid hb; clear hb)
          go_ret
          exact ⟨by rw [hv2.out]; rfl, hb'.out⟩
        · have hv2 := Lib.hid (show aloneOk ltB t = false by rw [hv.out, hlf, hkl.out, decide_eq_false hk0]; rfl)
          have e0 : ((kn : Int) == 0) = false := by simp; exact hk0
          clear hk0 hlf
          go_enter Try.func37, Try.ntmps37
          go_wp2_with (go_at_call 48; refine (rightAttrs_any _ T aA an ac t.attrs hats.out hT'.out (by omega)).mono ?_; rw [ha'.out]; rintro e w' ⟨rfl, hb⟩; have d1 := (hb.cell (p := ⟨E.block, E.off + 1, none⟩) (hT'.out _ hE)).trans c1; have d5 := (hb.cell (p := ⟨E.block, E.off + 5, none⟩) (hT'.out _ hE)).trans c5; have hb' := Lib.hid hb; clear hb)
          go_ret
          exact ⟨by rw [hv2.out]; rfl, hb'.out⟩
      | false =>
        rw [hlf] at c1
        have hv2 := Lib.hid (show aloneOk ltB t = decide (t.text.length = 0) by rw [hv.out, hlf]; rfl)
        revert hv2 c4
        generalize t.text = x
        intro c4 hv2
        cases x with
        | nil =>
          clear hlf
          go_enter Try.func37, Try.ntmps37
          go_wp2_with (go_at_call 48; refine (rightAttrs_any _ T aA an ac t.attrs hats.out hT'.out (by omega)).mono ?_; rw [ha'.out]; rintro e w' ⟨rfl, hb⟩; have d1 := (hb.cell (p := ⟨E.block, E.off + 1, none⟩) (hT'.out _ hE)).trans c1; have d4 := (hb.cell (p := ⟨E.block, E.off + 4, none⟩) (hT'.out _ hE)).trans c4; have hb' := Lib.hid hb; clear hb)
          go_ret
          exact ⟨by rw [hv2.out]; rfl, hb'.out⟩
        | cons a r =>
          clear hlf
          go_enter Try.func37, Try.ntmps37
          go_wp2_with (go_at_call 48; refine (rightAttrs_any _ T aA an ac t.attrs hats.out hT'.out (by omega)).mono ?_; rw [ha'.out]; rintro e w' ⟨rfl, hb⟩; have d1 := (hb.cell (p := ⟨E.block, E.off + 1, none⟩) (hT'.out _ hE)).trans c1; have d4 := (hb.cell (p := ⟨E.block, E.off + 4, none⟩) (hT'.out _ hE)).trans c4; have hb' := Lib.hid hb; clear hb)
          go_ret
          exact ⟨by rw [hv2.out]; rfl, hb'.out⟩
  · have hv := Lib.hid (show aloneOk ltB t = false by unfold aloneOk; rw [decide_eq_false hl]; simp)
    have i1 : (64 : Int) < (t.label.length : Int) := by omega
    clear hl
    go_enter Try.func37, Try.ntmps37
    go_wp2_with fail
    go_ret
    exact ⟨by rw [hv.out]; rfl, Below.refl _ _⟩

/-- how long a node's own text, keys and values are -/
theorem attrsLen_take : ∀ (xs : List (Txt × Txt)) (q : Nat) (x : Txt × Txt), xs[q]? = some x → attrsLen (xs.take (q + 1)) = attrsLen (xs.take q) + (x.1.length + x.2.length)
  | [], q, x, h => by simp at h
  | y :: r, 0, x, h => by
    simp at h
    subst h
    simp [attrsLen]
  | y :: r, q + 1, x, h => by
    have ih := attrsLen_take r q x (by simpa using h)
    rw [List.take_succ_cons, List.take_succ_cons, attrsLen, attrsLen, ih]
    omega
theorem attrsLen_take_le : ∀ (xs : List (Txt × Txt)) (q : Nat), attrsLen (xs.take q) ≤ attrsLen xs
  | [], q => by simp
  | y :: r, 0 => by simp [attrsLen]
  | y :: r, q + 1 => by
    have ih := attrsLen_take_le r q
    rw [List.take_succ_cons, attrsLen, attrsLen]
    omega
set_option maxHeartbeats 2000000 in
theorem long_any (w : World) (T : Nat → Prop) (E : Addr) (t : Nd) (h : NodeAt T w E t) (hT : ∀ k, T k → k < w.heap.size) (hw : ownLong t ≤ 1000000000) :
    Calls Try.prog 43 #[.pointer (some E)] w fun e w' => e = .returned (.int .i64 (ownLong t : Int)) ∧ Below w.heap.size w w' := by
  obtain ⟨hE, aA, an, ac, kA, kn, kc, ⟨c0, c1, c2, c3, c4, c5⟩, hv⟩ := h
  have hf := hv.facts
  have hats := Lib.hid hf.ats
  have hal := Lib.hid hf.ats.1
  have han := hf.anc
  have ham := hf.acm
  clear hv hf c0 c1 c2 c5
  have hT' := Lib.hid hT
  clear hT
  have hn' : (an : Int) ≤ 9223372036854775807 := by unfold maxLen at ham; omega
  have hx0 : t.text.length ≤ 1000000000 := by unfold ownLong at hw; omega
  go_enter Try.func43, Try.ntmps43
  go_wp2_with fail
  go_loopw [3, 16] (fun s k wr => ∃ q : Nat, q ≤ an ∧ k = .int .i64 (q : Int) ∧ s = .int .i64 ((t.text.length + attrsLen (t.attrs.take q) : Nat) : Int) ∧ Below w.heap.size w wr) (fun _ k _ => an - (intOf k).toNat)
  case atStart => exact ⟨0, Nat.zero_le _, rfl, by simp [attrsLen], Below.refl _ _⟩
  case round =>
    obtain ⟨q, hq, rfl, rfl, hbel⟩ := hrel
    by_cases h1 : q < an
    · have h1I : (q : Int) < (an : Int) := by omega
      obtain ⟨ad, x, rfl, hxq, hlt, x1, x2, x3, x4⟩ := (hats.out.kept (fun _ h => h) (fun k hk => hbel.block k (hT'.out k hk))).at_ h1
      have hst := attrsLen_take _ _ _ hxq
      have hle := attrsLen_take_le t.attrs (q + 1)
      obtain ⟨ky, va⟩ := x
      simp only at *
      unfold ownLong at hw
      unfold maxLen at x1 x2
      obtain ⟨s, hs⟩ : ∃ s, s = t.text.length + attrsLen (t.attrs.take q) := ⟨_, rfl⟩
      have hs2 := Lib.hid (show t.text.length + attrsLen (t.attrs.take (q + 1)) = s + (ky.length + va.length) by omega)
      have hsb : s + (ky.length + va.length) ≤ 1000000000 := by omega
      rw [← hs]
      have hbel' := Lib.hid hbel
      clear hst hle hs hxq hbel hw
      go_wp2_with fail
      go_roundw
      case rel => exact ⟨q + 1, by omega, by go_num, by rw [hs2.out]; go_num, hbel'.out.alloc hbel'.out.size _⟩
      case measure => simp [intOf]; omega
    · have h1I : ¬ (q : Int) < (an : Int) := by omega
      have hv := Lib.hid (show t.text.length + attrsLen (t.attrs.take q) = ownLong t by unfold ownLong; rw [List.take_of_length_le (by rw [hal.out]; omega)])
      have hbel' := Lib.hid hbel
      clear hbel
      go_wp2_with fail
      go_ret
      exact ⟨by rw [← hv.out]; rfl, hbel'.out⟩
end Go.Proofs.Ytacmofhlbebonaa
