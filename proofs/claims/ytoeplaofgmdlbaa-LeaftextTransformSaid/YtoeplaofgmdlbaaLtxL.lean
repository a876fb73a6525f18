/- A text, edited: the program's. -/
import Derived.Test.YtoeplaofgmdlbaaLtxShelf
namespace Go.Proofs.Ytoeplaofgmdlbaa
open Go.RowKit
set_option maxRecDepth 20000
open Ltx (Pc)

theorem emit_take (t : List UInt8) (l : List Pc) (q : Nat) (p : Pc) (h : l[q]? = some p) : Ltx.emit t (l.take (q + 1)) = Ltx.emit t (l.take q) ++ (t.drop (Ltx.extent (l.take q))).take p.keep ++ p.put := by
  rw [List.take_add_one, h, Ltx.emit_append]
  simp [Ltx.emit, List.append_assoc]
theorem emit_len (t : List UInt8) (l : List Pc) : (Ltx.emit t l).length ≤ t.length + Ltx.puts l := by
  have h1 := Ltx.apply_emit l t
  have h2 := Ltx.apply_len l t
  rw [h1, List.length_append] at h2
  omega
theorem puts_le (l : List Pc) (q : Nat) : Ltx.puts (l.take q) ≤ Ltx.puts l := by
  conv => rhs; rw [← List.take_append_drop q l, Ltx.puts_append]
  omega
theorem right_puts {l : List Pc} (h : rightV (l.map ipc) = true) : Ltx.puts l ≤ 1048576 := by
  have e : ∀ l : List Pc, putsI (l.map ipc) = Ltx.puts l := fun l => by
    induction l with
    | nil => rfl
    | cons p r ih => rw [List.map_cons, putsI, ih]; rfl
  unfold rightV at h
  simp only [Bool.and_eq_true, decide_eq_true_eq] at h
  rw [e] at h
  exact h.2
/-- s[:k], s[k:] of a text -/
theorem Bld.below {w w' : World} {S : Nat → Prop} {base b : Nat} {bs : List UInt8} (h : Bld w S base b bs) (hb : Below w.heap.size w w') : Bld w' S base b bs := by
  obtain ⟨h1, h2, p, v, hp, hh, hown, hs⟩ := h
  exact ⟨fun k hk => ⟨(h1 k hk).1, Nat.lt_of_lt_of_le (h1 k hk).2 hb.size⟩, h2, p, v, hp, (hb.block b (h1 b h2).2).trans hh, own_kept hown fun k hk => hb.block k (h1 k (hs k hk)).2, hs⟩
theorem Bld.new {w : World} {base : Nat} (hb : base ≤ w.heap.size) : Bld (w.alloc (.cells #[.pointer none, .slice none 0 0] 50)) (fun k => k = w.heap.size) base w.heap.size [] :=
  ⟨fun k hk => by subst hk; exact ⟨hb, by simp⟩, rfl, .pointer none, .slice none 0 0, .inl rfl, heap_alloc_new w _, OwnB.nil_ _ _, fun k hk => by cases hk⟩
theorem ext_take (bs : List UInt8) (k : Nat) : (⟨bs.toArray⟩ : ByteArray).extract 0 k = ⟨(bs.take k).toArray⟩ := by
  apply ByteArray.ext
  simp
theorem ext_drop (bs : List UInt8) (k : Nat) : (⟨bs.toArray⟩ : ByteArray).extract k bs.length = ⟨(bs.drop k).toArray⟩ := by
  apply ByteArray.ext
  simp
  exact List.take_of_length_le (by simp)
set_option maxHeartbeats 2000000 in
theorem apply_ok (w : World) (t : List UInt8) (A : Option Addr) (n c : Nat) (l : List Pc) (hx : PcsIn w A n (l.map ipc)) (hn : n ≤ maxLen) (ht : t.length ≤ 10000000) (hr : rightV (l.map ipc) = true) (hf : Ltx.extent l ≤ t.length) :
    Calls Try.prog 18 #[.string ⟨t.toArray⟩, .slice A n c] w fun e w' => e = .returned (.tuple #[.string ⟨(Ltx.apply t l).toArray⟩, .int .i64 0]) ∧ Below w.heap.size w w' := by
  have hx' := Lib.hid hx
  have hr' := Lib.hid hr
  have hlen := Lib.hid (show l.length = n by have := hx.1; simpa using this)
  have hpu := right_puts hr
  have hf' := Lib.hid hf
  clear hx hr
  have hn' : (n : Int) ≤ 9223372036854775807 := by unfold maxLen at hn; omega
  go_enter Try.func18, Try.ntmps18
  go_wp2_with (go_at_call 30; have hh := fault_any w t A n c l hx'.out hn (by omega) hr'.out; rw [if_neg (show ¬ t.length < Ltx.extent l by omega)] at hh; refine hh.mono ?_; clear hh; rintro e w2 ⟨rfl, hb2⟩; have hb2' := Lib.hid hb2; have hs2 := hb2.size; clear hb2)
  go_loopw [0, 18] (fun s k wr => ∃ (q : Nat) (S : Nat → Prop), q ≤ n ∧ k = .int .i64 (q : Int) ∧ s = .string ⟨(t.drop (Ltx.extent (l.take q))).toArray⟩ ∧ Bld wr S w.heap.size w2.heap.size (Ltx.emit t (l.take q)) ∧ Below w.heap.size w wr) (fun _ k _ => n - (intOf k).toNat)
  case atStart => exact ⟨0, _, Nat.zero_le _, rfl, by simp [Ltx.extent], Bld.new hs2, hb2'.out.alloc hs2 _⟩
  case round =>
    obtain ⟨q, S, hq, rfl, rfl, hd, hbel⟩ := hrel
    by_cases h1 : q < n
    · have h1I : (q : Int) < (n : Int) := by omega
      obtain ⟨ad, p, rfl, hpq, hlt, hp⟩ := (hx'.out.below hbel).pc h1
      obtain ⟨x1, x2, x3, x4, x5, x6, x7, x8⟩ := hp
      have hex := extent_take l q p hpq
      have hele := extent_le l (q + 1)
      have hem := Lib.hid (emit_take t l q p hpq)
      have hpl := puts_le l (q + 1)
      have hel := emit_len t (l.take (q + 1))
      rw [hem.out, List.length_append, List.length_append] at hel
      have hbs := hbel.size
      obtain ⟨kp, dr, pu⟩ := p
      simp only [ipc] at *
      have hdl : (t.drop (Ltx.extent (l.take q))).length = t.length - Ltx.extent (l.take q) := by rw [List.length_drop]
      have hkl : kp + dr ≤ (t.drop (Ltx.extent (l.take q))).length := by omega
      have hdd := Lib.hid (show (t.drop (Ltx.extent (l.take q))).drop (kp + dr) = t.drop (Ltx.extent (l.take (q + 1))) by rw [List.drop_drop, hex, Nat.add_assoc])
      obtain ⟨bs, hbs0⟩ : ∃ bs, bs = t.drop (Ltx.extent (l.take q)) := ⟨_, rfl⟩
      rw [← hbs0] at hem hkl hdd hdl hel ⊢
      have hbl : bs.length ≤ 10000000 := by omega
      have hb1 : (Ltx.emit t (l.take q)).length + (bs.take kp).length ≤ 100000000 := by omega
      have hb2 := Lib.hid (show (Ltx.emit t (l.take q) ++ bs.take kp).length + pu.length ≤ 100000000 by rw [List.length_append]; omega)
      have hSlt := Lib.hid hd.own
      have hd1 := Lib.hid (fun o => hd.below ((Below.refl wr.heap.size wr).alloc (Nat.le_refl _) o))
      have hbel' := Lib.hid hbel
      have hsz0' := Lib.hid (show ∀ o, (wr.alloc o).heap.size = wr.heap.size + 1 from fun o => by simp)
      have hI1 : (kp : Int) ≤ (bs.length : Int) := by omega
      have hI2 : (kp : Int) + (dr : Int) ≤ (bs.length : Int) := by omega
      clear hd hbel hpq hbs0 hex hele hpl hel hdl x1 x2 x3 x4
      unfold maxLen at x5
      go_wp2_with (first
        | (go_at_call 31; rw [ext_take]; refine (write_any (hd1.out _) (bs.take kp) hb1 (by rw [hsz0'.out]; omega)).mono ?_; rintro e w3 ⟨rfl, hd3, hF3⟩; have hx3 := hF3.cells (heap_alloc_new wr _) (fun e => by have := (hSlt.out _ e).2; omega); have q0 := cell_of_row w3 wr.heap.size 0 _ _ _ hx3; have q1 := cell_of_row w3 wr.heap.size 1 _ _ _ hx3; have q2 := cell_of_row w3 wr.heap.size 2 _ _ _ hx3; simp at q0 q1 q2; have hx3' := Lib.hid hx3; have hd3' := Lib.hid hd3; have hF3' := Lib.hid hF3; have hs3 := hF3.size; rw [hsz0'.out] at hs3; clear hx3 hd3 hF3)
        | (go_at_call 31; refine (write_any hd3'.out pu hb2.out (by omega)).mono ?_; rintro e w4 ⟨rfl, hd4, hF4⟩; have hx4 := hF4.cells hx3'.out (fun e => by rcases e with e | e; (have := (hSlt.out _ e).2; omega); (have := e.1; rw [hsz0'.out] at this; omega)); have r0 := cell_of_row w4 wr.heap.size 0 _ _ _ hx4; have r1 := cell_of_row w4 wr.heap.size 1 _ _ _ hx4; simp at r0 r1; have hd4' := Lib.hid hd4; have hF4' := Lib.hid hF4; have hs4 := hF4.size; clear hx4 hd4 hF4))
      go_roundw
      case rel =>
        have hd5 := hd4'.out
        rw [← hem.out] at hd5
        refine ⟨q + 1, _, by omega, by go_num, ?_, hd5, ?_⟩
        · rw [← hdd.out]
          first | rfl | exact congrArg Value.string (ext_drop _ _)
        · have e1 : Below w.heap.size w (wr.alloc (.cells #[.int .i64 (kp : Int), .int .i64 (dr : Int), .string ⟨pu.toArray⟩] 29)) := hbel'.out.alloc hbs _
          have e2 := e1.trans (hF3'.out.below (B := w.heap.size) (fun k hk => (hSlt.out k hk).1) (by rw [hsz0'.out]; omega))
          exact e2.trans (hF4'.out.below (B := w.heap.size) (fun k hk => (hd3'.out.own k hk).1) (by omega))
      case measure => simp [intOf]; omega
    · have hqn : q = n := by omega
      have h1I : ¬ (q : Int) < (n : Int) := by omega
      have hlt : l.take q = l := by rw [hqn, ← hlen.out, List.take_length]
      rw [hlt] at hd ⊢
      have hel := emit_len t l
      have hd' := Lib.hid hd
      have hbel' := Lib.hid hbel
      have hbs := hbel.size
      have hap := Lib.hid (Ltx.apply_emit l t)
      have hb2 := Lib.hid (show (Ltx.emit t l).length + (t.drop (Ltx.extent l)).length ≤ 100000000 by rw [List.length_drop]; omega)
      clear hd hbel hqn h1 hlt hel
      generalize t.drop (Ltx.extent l) = bs at *
      go_wp2_with (first
        | (go_at_call 31; refine (write_any hd'.out bs hb2.out hbs).mono ?_; rintro e w3 ⟨rfl, hd3, hF3⟩; have hd3' := Lib.hid hd3; have hF3' := Lib.hid hF3; have hs3 := hF3.size; clear hd3 hF3)
        | (go_at_call 32; refine (bstring_any hd3'.out (by omega)).mono ?_; rintro e w4 ⟨rfl, hb4⟩; have hb4' := Lib.hid hb4; clear hb4))
      go_ret2
      exact ⟨by rw [hap.out]; rfl, (hbel'.out.trans (hF3'.out.below (B := w.heap.size) (fun k hk => (hd'.out.own k hk).1) hbs)).trans hb4'.out⟩
set_option maxHeartbeats 1000000 in
theorem apply_far (w : World) (t : List UInt8) (A : Option Addr) (n c : Nat) (l : List Pc) (hx : PcsIn w A n (l.map ipc)) (hn : n ≤ maxLen) (ht : t.length ≤ 10000000) (hr : rightV (l.map ipc) = true) (hf : t.length < Ltx.extent l) :
    Calls Try.prog 18 #[.string ⟨t.toArray⟩, .slice A n c] w fun e w' => e = .returned (.tuple #[.string ⟨#[]⟩, .int .i64 50]) ∧ Below w.heap.size w w' := by
  have hx' := Lib.hid hx
  have hr' := Lib.hid hr
  have hf' := Lib.hid hf
  clear hx hr hf
  go_enter Try.func18, Try.ntmps18
  go_wp2_with (go_at_call 30; have hh := fault_any w t A n c l hx'.out hn (by omega) hr'.out; rw [if_pos hf'.out] at hh; refine hh.mono ?_; clear hh; rintro e w2 ⟨rfl, hb2⟩; have hb2' := Lib.hid hb2; clear hb2)
  go_ret2
  exact ⟨rfl, hb2'.out⟩
set_option maxHeartbeats 1000000 in
theorem apply_not (w : World) (t : List UInt8) (A : Option Addr) (n c : Nat) (xs : List IP) (hx : PcsIn w A n xs) (hn : n ≤ maxLen) (hr : rightV xs = false) :
    Calls Try.prog 18 #[.string ⟨t.toArray⟩, .slice A n c] w fun e w' => e = .returned (.tuple #[.string ⟨#[]⟩, .int .i64 2]) ∧ Below w.heap.size w w' := by
  have hx' := Lib.hid hx
  have hr' := Lib.hid hr
  clear hx hr
  go_enter Try.func18, Try.ntmps18
  go_wp2_with (go_at_call 30; refine (fault_not w t A n c xs hx'.out hn hr'.out).mono ?_; rintro e w2 ⟨rfl, hb2⟩; have hb2' := Lib.hid hb2; clear hb2)
  go_ret2
  exact ⟨rfl, hb2'.out⟩
end Go.Proofs.Ytoeplaofgmdlbaa
