/- MgAI: LtxShelf LtxL LtxM TopOp TopFp TopFr -/
import Derived.Shelf.Strings.Builder1
import Derived.Test.YtpoenlhikanooaaMgAE
import Derived.Test.YtpoenlhikanooaaMgAH
set_option linter.all false
/- strings.Builder's String, as the library's shelf has it, laid over this program. -/
namespace Go.Proofs
open Go.Shelf
def Try.lays169_ren : Go.Shelf.Ren := ⟨fun | 169 => 152 | n => n, fun | 70 => 164 | 9 => 9 | 0 => 0 | 72 => 166 | 37 => 75 | 127 => 185 | 3 => 3 | 5 => 5 | n => n, fun | n => n⟩
theorem Try.lays169 : Go.Proofs.Lays.n169 Try.prog Try.lays169_ren := {
  mixed := by kernel_rfl
  f169 := Try.func152.trans (congrArg some (by kernel_rfl))
  t0 := Try.underlying0
  a0 := Try.isAgg0
  z0 := Try.sizeOf0
  v0 := Try.zeroValue0
  t3 := Try.underlying3
  a3 := Try.isAgg3
  z3 := Try.sizeOf3
  v3 := Try.zeroValue3
  t9 := Try.underlying9
  a9 := Try.isAgg9
  z9 := Try.sizeOf9
  v9 := Try.zeroValue9
  t37 := Try.underlying75
  a37 := Try.isAgg75
  z37 := Try.sizeOf75
  v37 := Try.zeroValue75
  t70 := Try.underlying164
  a70 := Try.isAgg164
  z70 := Try.sizeOf164
  v70 := Try.zeroValue164
  t72 := Try.underlying166
  a72 := Try.isAgg166
  z72 := Try.sizeOf166
  v72 := Try.zeroValue166
  t127 := Try.underlying185
  a127 := Try.isAgg185
  z127 := Try.sizeOf185
  v127 := Try.zeroValue185 }
theorem Try.Builder_Extra_169 : Builder.Extra Try.prog Try.lays169_ren := {
  sizeBuilder := by kernel_rfl
  liesBuilder := by kernel_rfl
  t5 := Try.underlying5
  a5 := Try.isAgg5
  z5 := Try.sizeOf5
  v5 := Try.zeroValue5
  infoByte := by kernel_rfl
  cellsByte := by kernel_rfl
  sizeByte := by kernel_rfl
  neB5 := by decide }
end Go.Proofs
namespace Go.Proofs.Ytpoenlhikanooaa.P5
set_option linter.unusedVariables false
open Go.RowKit
theorem bstring_any {w : World} {S : Nat → Prop} {base b : Nat} {bs : List UInt8} (h : Bld w S base b bs) (hb : base ≤ w.heap.size) :
    Calls Try.prog 152 #[.pointer (some ⟨b, 0, none⟩)] w fun e w' => e = .returned (.string ⟨bs.toArray⟩) ∧ Below base w w' :=
  Any.Builder_String_any Try.lays169 Try.Builder_Extra_169 base b bs w h.shelf hb
end Go.Proofs.Ytpoenlhikanooaa.P5
/- A text, edited: the program's. -/
namespace Go.Proofs.Ytpoenlhikanooaa.P5
set_option linter.unusedVariables false
open Go.RowKit
set_option maxRecDepth 20000
open Ltx (Pc)

theorem emit_take (t : List UInt8) (l : List Pc) (q : Nat) (p : Pc) (h : l[q]? = some p) : Ltx.emit t (l.take (q + 1)) = Ltx.emit t (l.take q) ++ (t.drop (Ltx.extent (l.take q))).take p.keep ++ p.put := by
  rw [List.take_add_one, h, Ltx.emit_append]
  simp [Ltx.emit, List.append_assoc]
theorem emit_len (t : List UInt8) (l : List Pc) : (Ltx.emit t l).length ≤ t.length + Ltx.puts l := by
  have h1 := Ltx.apply_emit l t
  have h2 := Ltx.apply_len l t
  rw [h1, List.length_append] at h2
  omega
theorem puts_le (l : List Pc) (q : Nat) : Ltx.puts (l.take q) ≤ Ltx.puts l := by
  conv => rhs; rw [← List.take_append_drop q l, Ltx.puts_append]
  omega
theorem right_puts {l : List Pc} (h : rightV (l.map ipc) = true) : Ltx.puts l ≤ 1048576 := by
  have e : ∀ l : List Pc, putsI (l.map ipc) = Ltx.puts l := fun l => by
    induction l with
    | nil => rfl
    | cons p r ih => rw [List.map_cons, putsI, ih]; rfl
  unfold rightV at h
  simp only [Bool.and_eq_true, decide_eq_true_eq] at h
  rw [e] at h
  exact h.2
/-- s[:k], s[k:] of a text -/
theorem Bld.below {w w' : World} {S : Nat → Prop} {base b : Nat} {bs : List UInt8} (h : Bld w S base b bs) (hb : Below w.heap.size w w') : Bld w' S base b bs := by
  obtain ⟨h1, h2, p, v, hp, hh, hown, hs⟩ := h
  exact ⟨fun k hk => ⟨(h1 k hk).1, Nat.lt_of_lt_of_le (h1 k hk).2 hb.size⟩, h2, p, v, hp, (hb.block b (h1 b h2).2).trans hh, own_kept hown fun k hk => hb.block k (h1 k (hs k hk)).2, hs⟩
theorem Bld.new {w : World} {base : Nat} (hb : base ≤ w.heap.size) : Bld (w.alloc (.cells #[.pointer none, .slice none 0 0] 166)) (fun k => k = w.heap.size) base w.heap.size [] :=
  ⟨fun k hk => by subst hk; exact ⟨hb, by simp⟩, rfl, .pointer none, .slice none 0 0, .inl rfl, heap_alloc_new w _, OwnB.nil_ _ _, fun k hk => by cases hk⟩
theorem ext_take (bs : List UInt8) (k : Nat) : (⟨bs.toArray⟩ : ByteArray).extract 0 k = ⟨(bs.take k).toArray⟩ := by
  apply ByteArray.ext
  simp
theorem ext_drop (bs : List UInt8) (k : Nat) : (⟨bs.toArray⟩ : ByteArray).extract k bs.length = ⟨(bs.drop k).toArray⟩ := by
  apply ByteArray.ext
  simp
  exact List.take_of_length_le (by simp)
set_option maxHeartbeats 2000000 in
theorem apply_ok (w : World) (t : List UInt8) (A : Option Addr) (n c : Nat) (l : List Pc) (hx : PcsIn w A n (l.map ipc)) (hn : n ≤ maxLen) (ht : t.length ≤ 10000000) (hr : rightV (l.map ipc) = true) (hf : Ltx.extent l ≤ t.length) :
    Calls Try.prog 113 #[.string ⟨t.toArray⟩, .slice A n c] w fun e w' => e = .returned (.tuple #[.string ⟨(Ltx.apply t l).toArray⟩, .int .i64 0]) ∧ Below w.heap.size w w' := by
  have hx' := Lib.hid hx
  have hr' := Lib.hid hr
  have hlen := Lib.hid (show l.length = n by have := hx.1; simpa using this)
  have hpu := right_puts hr
  have hf' := Lib.hid hf
  clear hx hr
  have hn' : (n : Int) ≤ 9223372036854775807 := by unfold maxLen at hn; omega
  go_enter Try.func113, Try.ntmps113
  go_wp2_with (go_at_call 150; have hh := fault_any w t A n c l hx'.out hn (by omega) hr'.out; rw [if_neg (show ¬ t.length < Ltx.extent l by omega)] at hh; refine hh.mono ?_; clear hh; rintro e w2 ⟨rfl, hb2⟩; have hb2' := Lib.hid hb2; have hs2 := hb2.size; clear hb2)
  go_loopw [0, 18] (fun s k wr => ∃ (q : Nat) (S : Nat → Prop), q ≤ n ∧ k = .int .i64 (q : Int) ∧ s = .string ⟨(t.drop (Ltx.extent (l.take q))).toArray⟩ ∧ Bld wr S w.heap.size w2.heap.size (Ltx.emit t (l.take q)) ∧ Below w.heap.size w wr) (fun _ k _ => n - (intOf k).toNat)
  case atStart => exact ⟨0, _, Nat.zero_le _, rfl, by simp [Ltx.extent], Bld.new hs2, hb2'.out.alloc hs2 _⟩
  case round =>
    obtain ⟨q, S, hq, rfl, rfl, hd, hbel⟩ := hrel
    by_cases h1 : q < n
    · have h1I : (q : Int) < (n : Int) := by omega
      obtain ⟨ad, p, rfl, hpq, hlt, hp⟩ := (hx'.out.below hbel).pc h1
      obtain ⟨x1, x2, x3, x4, x5, x6, x7, x8⟩ := hp
      have hex := extent_take l q p hpq
      have hele := extent_le l (q + 1)
      have hem := Lib.hid (emit_take t l q p hpq)
      have hpl := puts_le l (q + 1)
      have hel := emit_len t (l.take (q + 1))
      rw [hem.out, List.length_append, List.length_append] at hel
      have hbs := hbel.size
      obtain ⟨kp, dr, pu⟩ := p
      simp only [ipc] at *
      have hdl : (t.drop (Ltx.extent (l.take q))).length = t.length - Ltx.extent (l.take q) := by rw [List.length_drop]
      have hkl : kp + dr ≤ (t.drop (Ltx.extent (l.take q))).length := by omega
      have hdd := Lib.hid (show (t.drop (Ltx.extent (l.take q))).drop (kp + dr) = t.drop (Ltx.extent (l.take (q + 1))) by rw [List.drop_drop, hex, Nat.add_assoc])
      obtain ⟨bs, hbs0⟩ : ∃ bs, bs = t.drop (Ltx.extent (l.take q)) := ⟨_, rfl⟩
      rw [← hbs0] at hem hkl hdd hdl hel ⊢
      have hbl : bs.length ≤ 10000000 := by omega
      have hb1 : (Ltx.emit t (l.take q)).length + (bs.take kp).length ≤ 100000000 := by omega
      have hb2 := Lib.hid (show (Ltx.emit t (l.take q) ++ bs.take kp).length + pu.length ≤ 100000000 by rw [List.length_append]; omega)
      have hSlt := Lib.hid hd.own
      have hd1 := Lib.hid (fun o => hd.below ((Below.refl wr.heap.size wr).alloc (Nat.le_refl _) o))
      have hbel' := Lib.hid hbel
      have hsz0' := Lib.hid (show ∀ o, (wr.alloc o).heap.size = wr.heap.size + 1 from fun o => by simp)
      have hI1 : (kp : Int) ≤ (bs.length : Int) := by omega
      have hI2 : (kp : Int) + (dr : Int) ≤ (bs.length : Int) := by omega
      clear hd hbel hpq hbs0 hex hele hpl hel hdl x1 x2 x3 x4
      unfold maxLen at x5
      go_wp2_with (first
        | (go_at_call 151; rw [ext_take]; refine (write_any (hd1.out _) (bs.take kp) hb1 (by rw [hsz0'.out]; omega)).mono ?_; rintro e w3 ⟨rfl, hd3, hF3⟩; have hx3 := hF3.cells (heap_alloc_new wr _) (fun e => by have := (hSlt.out _ e).2; omega); have q0 := cell_of_row w3 wr.heap.size 0 _ _ _ hx3; have q1 := cell_of_row w3 wr.heap.size 1 _ _ _ hx3; have q2 := cell_of_row w3 wr.heap.size 2 _ _ _ hx3; simp at q0 q1 q2; have hx3' := Lib.hid hx3; have hd3' := Lib.hid hd3; have hF3' := Lib.hid hF3; have hs3 := hF3.size; rw [hsz0'.out] at hs3; clear hx3 hd3 hF3)
        | (go_at_call 151; refine (write_any hd3'.out pu hb2.out (by omega)).mono ?_; rintro e w4 ⟨rfl, hd4, hF4⟩; have hx4 := hF4.cells hx3'.out (fun e => by rcases e with e | e; (have := (hSlt.out _ e).2; omega); (have := e.1; rw [hsz0'.out] at this; omega)); have r0 := cell_of_row w4 wr.heap.size 0 _ _ _ hx4; have r1 := cell_of_row w4 wr.heap.size 1 _ _ _ hx4; simp at r0 r1; have hd4' := Lib.hid hd4; have hF4' := Lib.hid hF4; have hs4 := hF4.size; clear hx4 hd4 hF4))
      go_roundw
      case rel =>
        have hd5 := hd4'.out
        rw [← hem.out] at hd5
        refine ⟨q + 1, _, by omega, by go_num, ?_, hd5, ?_⟩
        · rw [← hdd.out]
          first | rfl | exact congrArg Value.string (ext_drop _ _)
        · have e1 : Below w.heap.size w (wr.alloc (.cells #[.int .i64 (kp : Int), .int .i64 (dr : Int), .string ⟨pu.toArray⟩] 66)) := hbel'.out.alloc hbs _
          have e2 := e1.trans (hF3'.out.below (B := w.heap.size) (fun k hk => (hSlt.out k hk).1) (by rw [hsz0'.out]; omega))
          exact e2.trans (hF4'.out.below (B := w.heap.size) (fun k hk => (hd3'.out.own k hk).1) (by omega))
      case measure => simp [intOf]; omega
    · have hqn : q = n := by omega
      have h1I : ¬ (q : Int) < (n : Int) := by omega
      have hlt : l.take q = l := by rw [hqn, ← hlen.out, List.take_length]
      rw [hlt] at hd ⊢
      have hel := emit_len t l
      have hd' := Lib.hid hd
      have hbel' := Lib.hid hbel
      have hbs := hbel.size
      have hap := Lib.hid (Ltx.apply_emit l t)
      have hb2 := Lib.hid (show (Ltx.emit t l).length + (t.drop (Ltx.extent l)).length ≤ 100000000 by rw [List.length_drop]; omega)
      clear hd hbel hqn h1 hlt hel
      generalize t.drop (Ltx.extent l) = bs at *
      go_wp2_with (first
        | (go_at_call 151; refine (write_any hd'.out bs hb2.out hbs).mono ?_; rintro e w3 ⟨rfl, hd3, hF3⟩; have hd3' := Lib.hid hd3; have hF3' := Lib.hid hF3; have hs3 := hF3.size; clear hd3 hF3)
        | (go_at_call 152; refine (bstring_any hd3'.out (by omega)).mono ?_; rintro e w4 ⟨rfl, hb4⟩; have hb4' := Lib.hid hb4; clear hb4))
      go_ret2
      exact ⟨by rw [hap.out]; rfl, (hbel'.out.trans (hF3'.out.below (B := w.heap.size) (fun k hk => (hd'.out.own k hk).1) hbs)).trans hb4'.out⟩
set_option maxHeartbeats 1000000 in
theorem apply_far (w : World) (t : List UInt8) (A : Option Addr) (n c : Nat) (l : List Pc) (hx : PcsIn w A n (l.map ipc)) (hn : n ≤ maxLen) (ht : t.length ≤ 10000000) (hr : rightV (l.map ipc) = true) (hf : t.length < Ltx.extent l) :
    Calls Try.prog 113 #[.string ⟨t.toArray⟩, .slice A n c] w fun e w' => e = .returned (.tuple #[.string ⟨#[]⟩, .int .i64 50]) ∧ Below w.heap.size w w' := by
  have hx' := Lib.hid hx
  have hr' := Lib.hid hr
  have hf' := Lib.hid hf
  clear hx hr hf
  go_enter Try.func113, Try.ntmps113
  go_wp2_with (go_at_call 150; have hh := fault_any w t A n c l hx'.out hn (by omega) hr'.out; rw [if_pos hf'.out] at hh; refine hh.mono ?_; clear hh; rintro e w2 ⟨rfl, hb2⟩; have hb2' := Lib.hid hb2; clear hb2)
  go_ret2
  exact ⟨rfl, hb2'.out⟩
end Go.Proofs.Ytpoenlhikanooaa.P5
/- A text, edited: the document's. -/
namespace Go.Proofs.Ytpoenlhikanooaa.P5
set_option linter.unusedVariables false
open Go.RowKit
set_option maxRecDepth 20000
open Ltx (Pc)

end Go.Proofs.Ytpoenlhikanooaa.P5
/- An operation in memory; is it formed: the program's and the document's. -/
namespace Go.Proofs.Ytpoenlhikanooaa
open Go.RowKit
set_option maxRecDepth 20000
set_option linter.unusedVariables false

/-- an operation by value -/
structure Ov where
  kind : Nat
  path : List Int
  at_ : Int
  to_ : List Int
  id : Nat
  leaf : Bool
  label : Txt
  key : Txt
  value : Txt
  gone : Bool
  pieces : List P5.IP
/-- its slices -/
structure OS where
  pA : Option Addr
  pn : Nat
  pc : Nat
  tA : Option Addr
  tn : Nat
  tc : Nat
  qA : Option Addr
  qn : Nat
  qc : Nat
def opCells (o : Ov) (s : OS) : Array Value :=
  #[.int .u8 (o.kind : Int), .slice s.pA s.pn s.pc, .int .i64 o.at_, .slice s.tA s.tn s.tc, .int .u64 (o.id : Int), .bool o.leaf, .string ⟨o.label.toArray⟩, .string ⟨o.key.toArray⟩, .string ⟨o.value.toArray⟩, .bool o.gone, .slice s.qA s.qn s.qc]
/-- what its slices lead to -/
structure OpIn (w : World) (o : Ov) (s : OS) : Prop where
  kind : o.kind < 256
  path : Its w s.pA s.pn o.path
  pnc : s.pn ≤ s.pc
  pcm : s.pc ≤ maxLen
  pnil : s.pA = none → s.pc = 0
  at_ : -9223372036854775808 ≤ o.at_ ∧ o.at_ ≤ 9223372036854775807
  to_ : Its w s.tA s.tn o.to_
  tnc : s.tn ≤ s.tc
  tcm : s.tc ≤ maxLen
  tnil : s.tA = none → s.tc = 0
  id : o.id < 18446744073709551616
  label : o.label.length ≤ maxLen
  key : o.key.length ≤ maxLen
  value : o.value.length ≤ maxLen
  pieces : P5.PcsIn w s.qA s.qn o.pieces
  qnc : s.qn ≤ s.qc
  qcm : s.qc ≤ maxLen
  qnil : s.qA = none → s.qc = 0
  pfew : s.pn ≤ 500000
  tfew : s.tn ≤ 500000
  qfew : s.qn ≤ 500000
  pfit : Fit o.path
  tfit : Fit o.to_
theorem OpIn.below {w w' : World} {o : Ov} {s : OS} (h : OpIn w o s) (hb : Below w.heap.size w w') : OpIn w' o s :=
  { h with path := h.path.below hb, to_ := h.to_.below hb, pieces := h.pieces.below hb }
/-- an operation in a variable's block -/
structure Ox (W : World) (b : Nat) (o : Ov) (s : OS) : Prop where
  lt : b < W.heap.size
  row : W.heap[b]? = some (.cells (opCells o s) 26 (0, 0))
  op : OpIn W o s
section
variable {W W' : World} {b : Nat} {o : Ov} {s : OS}
theorem Ox.below (h : Ox W b o s) (hb : Below W.heap.size W W') : Ox W' b o s := ⟨Nat.lt_of_lt_of_le h.lt hb.size, (hb.block b h.lt).trans h.row, h.op.below hb⟩
theorem Ox.new (h : OpIn W o s) : Ox (W.alloc (.cells (opCells o s) 26)) W.heap.size o s :=
  ⟨by simp, heap_alloc_new W _, h.below ((Below.refl _ _).alloc (Nat.le_refl _) _)⟩
theorem Ox.cells (h : Ox W b o s) : W.cell? ⟨b, 0, none⟩ = some (.int .u8 (o.kind : Int)) ∧ W.cell? ⟨b, 1, none⟩ = some (.slice s.pA s.pn s.pc) ∧ W.cell? ⟨b, 2, none⟩ = some (.int .i64 o.at_) ∧ W.cell? ⟨b, 3, none⟩ = some (.slice s.tA s.tn s.tc) ∧ W.cell? ⟨b, 4, none⟩ = some (.int .u64 (o.id : Int)) ∧
    W.cell? ⟨b, 5, none⟩ = some (.bool o.leaf) ∧ W.cell? ⟨b, 6, none⟩ = some (.string ⟨o.label.toArray⟩) ∧ W.cell? ⟨b, 7, none⟩ = some (.string ⟨o.key.toArray⟩) ∧ W.cell? ⟨b, 8, none⟩ = some (.string ⟨o.value.toArray⟩) ∧ W.cell? ⟨b, 9, none⟩ = some (.bool o.gone) ∧ W.cell? ⟨b, 10, none⟩ = some (.slice s.qA s.qn s.qc) := by
  have h := h.row
  unfold opCells at h
  exact ⟨cell_of_row W b 0 _ _ _ h, cell_of_row W b 1 _ _ _ h, cell_of_row W b 2 _ _ _ h, cell_of_row W b 3 _ _ _ h, cell_of_row W b 4 _ _ _ h, cell_of_row W b 5 _ _ _ h, cell_of_row W b 6 _ _ _ h, cell_of_row W b 7 _ _ _ h, cell_of_row W b 8 _ _ _ h, cell_of_row W b 9 _ _ _ h, cell_of_row W b 10 _ _ _ h⟩
end
def gapB (i : Int) : Bool := decide (0 ≤ i ∧ i ≤ 1048576)
def lblB (s : Txt) : Bool := decide (s.length ≤ 64)
def valB (s : Txt) : Bool := decide (s.length ≤ 256)
theorem isGap_any (w : World) (i : Int) : Calls Try.prog 134 #[.int .i64 i] w fun e w' => e = .returned (.bool (gapB i)) ∧ w = w' := by
  by_cases h0 : 0 ≤ i
  · by_cases h1 : i ≤ 1048576
    · have hv := Lib.hid (show gapB i = true from decide_eq_true ⟨h0, h1⟩)
      go_enter Try.func134, Try.ntmps134
      go_wp2_with fail
      go_ret
      exact ⟨by rw [hv.out]; rfl, rfl⟩
    · have hv := Lib.hid (show gapB i = false from decide_eq_false fun h => h1 h.2)
      go_enter Try.func134, Try.ntmps134
      go_wp2_with fail
      go_ret
      exact ⟨by rw [hv.out]; rfl, rfl⟩
  · have hv := Lib.hid (show gapB i = false from decide_eq_false fun h => h0 h.1)
    go_enter Try.func134, Try.ntmps134
    go_wp2_with fail
    go_ret
    exact ⟨by rw [hv.out]; rfl, rfl⟩
theorem isLabel_any (w : World) (l : Txt) (hl : l.length ≤ maxLen) : Calls Try.prog 135 #[.string ⟨l.toArray⟩] w fun e w' => e = .returned (.bool (lblB l)) ∧ w = w' := by
  unfold maxLen at hl
  by_cases h0 : l.length ≤ 64
  · have hv := Lib.hid (show lblB l = true from decide_eq_true h0)
    have h0I : (l.length : Int) ≤ 64 := by omega
    go_enter Try.func135, Try.ntmps135
    go_wp2_with fail
    go_ret
    exact ⟨by rw [hv.out]; rfl, rfl⟩
  · have hv := Lib.hid (show lblB l = false from decide_eq_false h0)
    have h0I : ¬ (l.length : Int) ≤ 64 := by omega
    go_enter Try.func135, Try.ntmps135
    go_wp2_with fail
    go_ret
    exact ⟨by rw [hv.out]; rfl, rfl⟩
theorem isValue_any (w : World) (l : Txt) (hl : l.length ≤ maxLen) : Calls Try.prog 137 #[.string ⟨l.toArray⟩] w fun e w' => e = .returned (.bool (valB l)) ∧ w = w' := by
  unfold maxLen at hl
  by_cases h0 : l.length ≤ 256
  · have hv := Lib.hid (show valB l = true from decide_eq_true h0)
    have h0I : (l.length : Int) ≤ 256 := by omega
    go_enter Try.func137, Try.ntmps137
    go_wp2_with fail
    go_ret
    exact ⟨by rw [hv.out]; rfl, rfl⟩
  · have hv := Lib.hid (show valB l = false from decide_eq_false h0)
    have h0I : ¬ (l.length : Int) ≤ 256 := by omega
    go_enter Try.func137, Try.ntmps137
    go_wp2_with fail
    go_ret
    exact ⟨by rw [hv.out]; rfl, rfl⟩
/-- is it formed? -/
def formedV (o : Ov) : Bool :=
  P4.mayV o.path && (if o.kind = 1 then gapB o.at_ && lblB o.label else if o.kind = 2 then true else if o.kind = 3 then gapB o.at_ && P4.mayV o.to_ else if o.kind = 4 then keyB o.key && (o.gone || valB o.value)
    else if o.kind = 5 then lblB o.label else if o.kind = 6 then P5.rightV o.pieces else false)
end Go.Proofs.Ytpoenlhikanooaa
/- Is an operation formed: the program's. -/
namespace Go.Proofs.Ytpoenlhikanooaa
open Go.RowKit
set_option maxRecDepth 20000
set_option linter.unusedVariables false

set_option maxHeartbeats 4000000 in
theorem formed_any (w : World) (o : Ov) (s : OS) (h : OpIn w o s) : Calls Try.prog 93 #[.agg (opCells o s)] w fun e w' => e = .returned (.bool (formedV o)) ∧ Below w.heap.size w w' := by
  have hal := Lib.hid (fun o => (Below.refl w.heap.size w).alloc (Nat.le_refl _) o)
  have hmay := Lib.hid (fun W (hb : Below w.heap.size w W) => P4.may_any W s.pA s.pn s.pc o.path (h.below hb).path (Nat.le_trans h.pnc h.pcm))
  have hmay2 := Lib.hid (fun W (hb : Below w.heap.size w W) => P4.may_any W s.tA s.tn s.tc o.to_ (h.below hb).to_ (Nat.le_trans h.tnc h.tcm))
  have hrig := Lib.hid (fun W (hb : Below w.heap.size w W) => P5.right_any W s.qA s.qn s.qc o.pieces (h.below hb).pieces (Nat.le_trans h.qnc h.qcm))
  have hlab := Lib.hid (fun W => isLabel_any W o.label h.label)
  have hval := Lib.hid (fun W => isValue_any W o.value h.value)
  have hkey := Lib.hid (fun W => key_any o.key W h.key)
  have hat := h.at_
  clear h
  cases hm : P4.mayV o.path with
  | false =>
    have hm' := Lib.hid hm
    have hv := Lib.hid (show formedV o = false by unfold formedV; rw [hm]; rfl)
    clear hm
    unfold opCells
    go_enter Try.func93, Try.ntmps93
    go_wp2_with (first
      | (go_at_call 133; go_at_call_of 133 s.pA; refine (hmay.out _ (hal.out _)).mono ?_; rintro e w7 ⟨rfl, rfl⟩; rw [hm'.out]))
    go_ret
    exact ⟨by rw [hv.out] <;> rfl, (hal.out _)⟩
  | true =>
    have hm' := Lib.hid hm
    by_cases k1 : o.kind = 1
    · have kI := Lib.hid k1
      have b1 : ((o.kind : Int) == 1) = true := by simp; omega
      cases hg : gapB o.at_ with
      | false =>
        have hv := Lib.hid (show formedV o = false by unfold formedV; rw [hm, if_pos k1, hg]; rfl)
        have hg' := Lib.hid hg
        clear k1 hm hg
        unfold opCells
        go_enter Try.func93, Try.ntmps93
        go_wp2_with (first
          | (go_at_call 133; go_at_call_of 133 s.pA; refine (hmay.out _ (hal.out _)).mono ?_; rintro e w7 ⟨rfl, rfl⟩; rw [hm'.out])
          | (go_at_call 134; refine (isGap_any _ o.at_).mono ?_; rintro e w7 ⟨rfl, rfl⟩; rw [hg'.out]))
        go_ret
        exact ⟨by rw [hv.out] <;> rfl, (hal.out _)⟩
      | true =>
        have hv := Lib.hid (show formedV o = lblB o.label by unfold formedV; rw [hm, if_pos k1, hg]; rfl)
        have hg' := Lib.hid hg
        clear k1 hm hg
        unfold opCells
        go_enter Try.func93, Try.ntmps93
        go_wp2_with (first
          | (go_at_call 133; go_at_call_of 133 s.pA; refine (hmay.out _ (hal.out _)).mono ?_; rintro e w7 ⟨rfl, rfl⟩; rw [hm'.out])
          | (go_at_call 134; refine (isGap_any _ o.at_).mono ?_; rintro e w7 ⟨rfl, rfl⟩; rw [hg'.out])
          | (go_at_call 135; refine (hlab.out _).mono ?_; rintro e w7 ⟨rfl, rfl⟩))
        go_ret
        exact ⟨by rw [hv.out] <;> first | rfl | simp, (hal.out _)⟩
    · skip
      by_cases k2 : o.kind = 2
      · have kI := Lib.hid k2
        have b1 : ((o.kind : Int) == 1) = false := by simp; omega
        have b2 : ((o.kind : Int) == 2) = true := by simp; omega
        have hv := Lib.hid (show formedV o = true by unfold formedV; rw [hm, if_neg k1, if_pos k2]; rfl)
        clear k1 k2 hm
        unfold opCells
        go_enter Try.func93, Try.ntmps93
        go_wp2_with (first
          | (go_at_call 133; go_at_call_of 133 s.pA; refine (hmay.out _ (hal.out _)).mono ?_; rintro e w7 ⟨rfl, rfl⟩; rw [hm'.out]))
        go_ret
        exact ⟨by rw [hv.out] <;> rfl, (hal.out _)⟩
      · skip
        by_cases k3 : o.kind = 3
        · have kI := Lib.hid k3
          have b1 : ((o.kind : Int) == 1) = false := by simp; omega
          have b2 : ((o.kind : Int) == 2) = false := by simp; omega
          have b3 : ((o.kind : Int) == 3) = true := by simp; omega
          cases hg : P4.mayV o.to_ with
          | false =>
            have hv := Lib.hid (show formedV o = false by unfold formedV; rw [hm, if_neg k1, if_neg k2, if_pos k3, hg, Bool.and_false]; rfl)
            have hg' := Lib.hid hg
            clear k1 k2 k3 hm hg
            unfold opCells
            go_enter Try.func93, Try.ntmps93
            go_wp2_with (first
              | (go_at_call 133; go_at_call_of 133 s.pA; refine (hmay.out _ (hal.out _)).mono ?_; rintro e w7 ⟨rfl, rfl⟩; rw [hm'.out])
              | (go_at_call 133; refine (hmay2.out _ (hal.out _)).mono ?_; rintro e w7 ⟨rfl, rfl⟩; first | rw [hg'.out] | skip))
            go_ret
            exact ⟨by rw [hv.out] <;> rfl, (hal.out _)⟩
          | true =>
            have hv := Lib.hid (show formedV o = gapB o.at_ by unfold formedV; rw [hm, if_neg k1, if_neg k2, if_pos k3, hg, Bool.and_true]; rfl)
            have hg' := Lib.hid hg
            clear k1 k2 k3 hm hg
            unfold opCells
            go_enter Try.func93, Try.ntmps93
            go_wp2_with (first
              | (go_at_call 133; go_at_call_of 133 s.pA; refine (hmay.out _ (hal.out _)).mono ?_; rintro e w7 ⟨rfl, rfl⟩; rw [hm'.out])
              | (go_at_call 133; refine (hmay2.out _ (hal.out _)).mono ?_; rintro e w7 ⟨rfl, rfl⟩; first | rw [hg'.out] | skip)
              | (go_at_call 134; refine (isGap_any _ o.at_).mono ?_; rintro e w7 ⟨rfl, rfl⟩))
            go_ret
            exact ⟨by rw [hv.out] <;> first | rfl | simp, (hal.out _)⟩
        · skip
          by_cases k4 : o.kind = 4
          · have kI := Lib.hid k4
            have b1 : ((o.kind : Int) == 1) = false := by simp; omega
            have b2 : ((o.kind : Int) == 2) = false := by simp; omega
            have b3 : ((o.kind : Int) == 3) = false := by simp; omega
            have b4 : ((o.kind : Int) == 4) = true := by simp; omega
            cases hg : keyB o.key with
            | false =>
              have hv := Lib.hid (show formedV o = false by unfold formedV; rw [hm, if_neg k1, if_neg k2, if_neg k3, if_pos k4, hg]; rfl)
              have hg' := Lib.hid hg
              clear k1 k2 k3 k4 hm hg
              unfold opCells
              go_enter Try.func93, Try.ntmps93
              go_wp2_with (first
                | (go_at_call 133; go_at_call_of 133 s.pA; refine (hmay.out _ (hal.out _)).mono ?_; rintro e w7 ⟨rfl, rfl⟩; rw [hm'.out])
                | (go_at_call 136; refine (hkey.out _).mono ?_; rintro e w7 ⟨rfl, rfl⟩; rw [hg'.out]))
              go_ret
              exact ⟨by rw [hv.out] <;> rfl, (hal.out _)⟩
            | true =>
              have hg' := Lib.hid hg
              cases hgo : o.gone with
              | true =>
                have hv := Lib.hid (show formedV o = true by unfold formedV; rw [hm, if_neg k1, if_neg k2, if_neg k3, if_pos k4, hg, hgo]; rfl)
                clear k1 k2 k3 k4 hm hg
                unfold opCells
                go_enter Try.func93, Try.ntmps93
                go_wp2_with (first
                  | (go_at_call 133; go_at_call_of 133 s.pA; refine (hmay.out _ (hal.out _)).mono ?_; rintro e w7 ⟨rfl, rfl⟩; rw [hm'.out])
                  | (go_at_call 136; refine (hkey.out _).mono ?_; rintro e w7 ⟨rfl, rfl⟩; rw [hg'.out]))
                go_ret
                exact ⟨by rw [hv.out] <;> rfl, (hal.out _)⟩
              | false =>
                have hv := Lib.hid (show formedV o = valB o.value by unfold formedV; rw [hm, if_neg k1, if_neg k2, if_neg k3, if_pos k4, hg, hgo]; rfl)
                clear k1 k2 k3 k4 hm hg
                unfold opCells
                go_enter Try.func93, Try.ntmps93
                go_wp2_with (first
                  | (go_at_call 133; go_at_call_of 133 s.pA; refine (hmay.out _ (hal.out _)).mono ?_; rintro e w7 ⟨rfl, rfl⟩; rw [hm'.out])
                  | (go_at_call 136; refine (hkey.out _).mono ?_; rintro e w7 ⟨rfl, rfl⟩; rw [hg'.out])
                  | (go_at_call 137; refine (hval.out _).mono ?_; rintro e w7 ⟨rfl, rfl⟩))
                go_ret
                exact ⟨by rw [hv.out] <;> first | rfl | simp, (hal.out _)⟩
          · skip
            by_cases k5 : o.kind = 5
            · have kI := Lib.hid k5
              have b1 : ((o.kind : Int) == 1) = false := by simp; omega
              have b2 : ((o.kind : Int) == 2) = false := by simp; omega
              have b3 : ((o.kind : Int) == 3) = false := by simp; omega
              have b4 : ((o.kind : Int) == 4) = false := by simp; omega
              have b5 : ((o.kind : Int) == 5) = true := by simp; omega
              have hv := Lib.hid (show formedV o = lblB o.label by unfold formedV; rw [hm, if_neg k1, if_neg k2, if_neg k3, if_neg k4, if_pos k5]; rfl)
              clear k1 k2 k3 k4 k5 hm
              unfold opCells
              go_enter Try.func93, Try.ntmps93
              go_wp2_with (first
                | (go_at_call 133; go_at_call_of 133 s.pA; refine (hmay.out _ (hal.out _)).mono ?_; rintro e w7 ⟨rfl, rfl⟩; rw [hm'.out])
                | (go_at_call 135; refine (hlab.out _).mono ?_; rintro e w7 ⟨rfl, rfl⟩))
              go_ret
              exact ⟨by rw [hv.out] <;> first | rfl | simp, (hal.out _)⟩
            · skip
              by_cases k6 : o.kind = 6
              · have kI := Lib.hid k6
                have b1 : ((o.kind : Int) == 1) = false := by simp; omega
                have b2 : ((o.kind : Int) == 2) = false := by simp; omega
                have b3 : ((o.kind : Int) == 3) = false := by simp; omega
                have b4 : ((o.kind : Int) == 4) = false := by simp; omega
                have b5 : ((o.kind : Int) == 5) = false := by simp; omega
                have b6 : ((o.kind : Int) == 6) = true := by simp; omega
                have hv := Lib.hid (show formedV o = P5.rightV o.pieces by unfold formedV; rw [hm, if_neg k1, if_neg k2, if_neg k3, if_neg k4, if_neg k5, if_pos k6]; rfl)
                clear k1 k2 k3 k4 k5 k6 hm
                unfold opCells
                go_enter Try.func93, Try.ntmps93
                go_wp2_with (first
                  | (go_at_call 133; go_at_call_of 133 s.pA; refine (hmay.out _ (hal.out _)).mono ?_; rintro e w7 ⟨rfl, rfl⟩; rw [hm'.out])
                  | (go_at_call 119; refine (hrig.out _ (hal.out _)).mono ?_; rintro e w7 ⟨rfl, hb7⟩; have hb7' := Lib.hid ((hal.out _).trans (hb7.mono (hal.out _).size)); clear hb7))
                go_ret
                exact ⟨by rw [hv.out] <;> first | rfl | simp, hb7'.out⟩
              · skip
                have b1 : ((o.kind : Int) == 1) = false := by simp; omega
                have b2 : ((o.kind : Int) == 2) = false := by simp; omega
                have b3 : ((o.kind : Int) == 3) = false := by simp; omega
                have b4 : ((o.kind : Int) == 4) = false := by simp; omega
                have b5 : ((o.kind : Int) == 5) = false := by simp; omega
                have b6 : ((o.kind : Int) == 6) = false := by simp; omega
                have hv := Lib.hid (show formedV o = false by unfold formedV; rw [hm, if_neg k1, if_neg k2, if_neg k3, if_neg k4, if_neg k5, if_neg k6]; rfl)
                clear k1 k2 k3 k4 k5 k6 hm
                unfold opCells
                go_enter Try.func93, Try.ntmps93
                go_wp2_with (first
                  | (go_at_call 133; go_at_call_of 133 s.pA; refine (hmay.out _ (hal.out _)).mono ?_; rintro e w7 ⟨rfl, rfl⟩; rw [hm'.out]))
                go_ret
                exact ⟨by rw [hv.out] <;> rfl, (hal.out _)⟩
end Go.Proofs.Ytpoenlhikanooaa
/- Is an operation formed: the document's. -/
namespace Go.Proofs.Ytpoenlhikanooaa
open Go.RowKit
set_option maxRecDepth 20000
set_option linter.unusedVariables false

end Go.Proofs.Ytpoenlhikanooaa
