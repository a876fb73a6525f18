/- MgA: BaseBytes BaseOwn TreVal TreBase TreFr TreA TreB TreC TreD TreE TreF TreM TreO TreV TreX -/
import Derived.Test.YtoeblaecldhcaaaProg
import Derived.WalkKit
import Derived.WalkMore
import Derived.WalkLawsBesides
import Derived.WalkSpells
import Derived.Outline
import Derived.Lib.Hide
import Derived.Laws.CopyOwn
import Derived.Lib.BufferRead
import Derived.Laws.IdiomStrings
import Derived.Maps.AppendAt
import Derived.Laws.AppendOwnNone
import Derived.Deep.QuietTactic
import Derived.BigQuiet
import Derived.Test.YtoeblaecldhcaaaRows
import Derived.Deep.Slices
import Derived.Deep.Fields
import Derived.ChangeSame
import Derived.ShutString
import Derived.Deep.RegionHeld3
import Derived.Deep.RegionWith
import Derived.Laws.StructEq
import Derived.Deep.AppendLies
import Derived.Deep.CutRange
import Derived.IntWalk
/- Words for memory that holds bytes: a slice reads as bytes, a row of the call's own, texts and bytes. -/
namespace Go.Proofs.Ytoeblaecldhcaaa
open Go.RowKit
set_option maxRecDepth 20000

/-- a slice of n bytes at A reads as bs -/
def Bts (w : World) (A : Option Addr) (n : Nat) (bs : List UInt8) : Prop :=
  bs.length = n ∧ ∀ k c, bs[k]? = some c → ∃ ad : Addr, A = some ad ∧ ad.block < w.heap.size ∧ w.cell? (ad.add k) = some (.int .u8 (c.toNat : Int))
theorem block_add (a : Addr) (k : Nat) : (a.add k).block = a.block := by unfold Addr.add; split <;> rfl
theorem Bts.below {w w' : World} {A : Option Addr} {n : Nat} {bs : List UInt8} (h : Bts w A n bs) (hb : Below w.heap.size w w') : Bts w' A n bs := by
  refine ⟨h.1, fun k c hk => ?_⟩
  obtain ⟨ad, e, hlt, hc⟩ := h.2 k c hk
  exact ⟨ad, e, Nat.lt_of_lt_of_le hlt hb.size, (hb.cell (p := ad.add k) (by rw [block_add]; exact hlt)).trans hc⟩
theorem Bts.at_ {w : World} {A : Option Addr} {n k : Nat} {bs : List UInt8} (h : Bts w A n bs) (hk : k < n) :
    ∃ (ad : Addr) (c : UInt8), A = some ad ∧ bs[k]? = some c ∧ w.cell? (ad.add k) = some (.int .u8 (c.toNat : Int)) := by
  have hl : k < bs.length := by rw [h.1]; exact hk
  have hg : bs[k]? = some bs[k] := List.getElem?_eq_getElem hl
  obtain ⟨ad, e, _, hc⟩ := h.2 k _ hg
  exact ⟨ad, _, e, hg, hc⟩
theorem draws {B : Nat} {a w : World} (h : Below B a w) (n : Nat) : Below B a (w.drewN n) := ⟨h.os, h.tape, h.output, h.size, h.block⟩
theorem Bts.none_ (w : World) : Bts w none 0 [] := ⟨rfl, fun k c h => by simp at h⟩
theorem Bts.upto {w : World} {A : Option Addr} {n q : Nat} {bs : List UInt8} (h : Bts w A n bs) (hq : q ≤ n) : Bts w A q (bs.take q) := by
  refine ⟨by rw [List.length_take, h.1]; omega, fun k c hk => ?_⟩
  rw [List.getElem?_take] at hk
  split at hk
  · exact h.2 k c hk
  · cases hk
theorem add_add (a : Addr) (i j : Nat) : (a.add i).add j = a.add (i + j) := by
  unfold Addr.add
  by_cases hi : i = 0
  · simp [hi]
  · by_cases hj : j = 0
    · simp [hi, hj]
    · simp [hi, hj, Nat.add_assoc]
theorem Bts.cut {w : World} {A : Option Addr} {n lo m : Nat} {bs : List UInt8} (h : Bts w A n bs) (hlm : lo + m ≤ n) : Bts w (A.map fun x => x.add lo) m ((bs.drop lo).take m) := by
  refine ⟨by rw [List.length_take, List.length_drop, h.1]; omega, fun k c hk => ?_⟩
  rw [List.getElem?_take] at hk
  split at hk
  · rw [List.getElem?_drop] at hk
    obtain ⟨ad, rfl, hb, hc⟩ := h.2 _ _ hk
    refine ⟨ad.add lo, rfl, by rw [block_add]; exact hb, by rw [add_add]; exact hc⟩
  · cases hk
/-- a whole row stored: of the world behind it no more is told than what the row holds, and that nothing below has turned -/
theorem wpList_store_row_to {P : Program} {ops : Array Oper} {rest : List Oper} {o : Oper} {a : Act} {w : World} {Q : Exit → Act → World → Prop} (hgd : o.guard = none) (ty : TypeId) (x y : Operand) (ho : o.op = .store ty x y)
    (g : Nat) (cells : Array Value) (hx : a.eval x = .pointer (some ⟨g, 0, none⟩)) (hy : a.eval y = .agg cells)
    (t : TypeId) (old : Array Value) (hg : w.heap[g]? = some (.cells old t (0, 0))) (hi : (P.info? ty).map (·.size) = some cells.size)
    (hold : old.size = cells.size) (h1 : cells.all (·.oneCell') = true)
    (h : ∀ W : World, W.heap[g]? = some (.cells cells t (0, 0)) → Below g w W → W.heap.size = w.heap.size → wpList P ops Q rest (a.put o.dst undef) W) : wpList P ops Q (o :: rest) a w :=
  wpList_store_row hgd ty x y ho g cells hx hy t old hg hi hold h1 (h _ (setRow_heap _ _ old cells _ _ hg) (below_setRow (Below.refl _ _) (Nat.le_refl _) _) (size_setRow _ _ _))
/-- a block of bytes reads as them -/
theorem Bts.of_block {w : World} {g n : Nat} {cs : Array Value} {t : TypeId} {fr : Nat × Nat} {bs : List UInt8} (h : w.heap[g]? = some (.cells cs t fr)) (hn : bs.length = n)
    (hc : cs = (bs.map fun c => Value.int .u8 (c.toNat : Int)).toArray) : Bts w (some ⟨g, 0, none⟩) n bs := by
  refine ⟨hn, fun k c hk => ?_⟩
  have hlt : g < w.heap.size := (Array.getElem?_eq_some_iff.1 h).1
  have hadd : (⟨g, 0, none⟩ : Addr).add k = ⟨g, k, none⟩ := by unfold Addr.add; split <;> simp_all
  exact ⟨⟨g, 0, none⟩, rfl, hlt, by rw [hadd, cell_of_row w g k cs t fr h, hc]; simp [hk]⟩
/-- what holds of a world holds behind a call that leaves it as it was: the world behind is a letter again -/
theorem abs_call {P : Program} {f : FuncId} {args : Array Value} {W : World} {v : Value} (S : World → Prop) (hS : S W) (h : Calls P f args W fun e w' => e = .returned v ∧ W = w') :
    Calls P f args W fun e w' => e = .returned v ∧ S w' := h.mono fun _ _ ⟨h1, h2⟩ => ⟨h1, h2 ▸ hS⟩
theorem Bts.none_nil {w : World} {n : Nat} {bs : List UInt8} (h : Bts w none n bs) : bs = [] := by
  cases bs with
  | nil => rfl
  | cons c r =>
    obtain ⟨ad, e, _⟩ := h.2 0 c rfl
    cases e
/-- string(b) -/
theorem run_str (w : World) (A : Option Addr) (n c : Nat) (bs : List UInt8) (hB : Bts w A n bs) :
    (convert 112 9 (.slice A n c)).run Try.prog w = .ok (.string ⟨bs.toArray⟩) w := by
  obtain rfl := hB.1
  cases A with
  | none =>
    obtain rfl := hB.none_nil
    exact Lib.run_convert_nil_bytes w _ _ _ c Try.underlying112 Try.underlying5 Try.underlying9
  | some ad =>
    refine run_convert_bytes_back w _ _ _ ad c bs Try.underlying112 Try.underlying5 Try.underlying9 fun j hj => ?_
    obtain ⟨ad', e, _, hc⟩ := hB.2 j _ (List.getElem?_eq_getElem hj)
    injection e with e
    subst e
    exact hc
/-- []byte(s): a block of the call's own, which reads as the text's bytes -/
theorem run_own (w : World) (bs : List UInt8) (hm : bs.length ≤ maxLen) : ∃ (k : Nat) (w1 : World),
    (convert 9 112 (.string ⟨bs.toArray⟩)).run Try.prog w = .ok (.slice (some ⟨w.heap.size, 0, none⟩) bs.length k) w1 ∧
    Bts w1 (some ⟨w.heap.size, 0, none⟩) bs.length bs ∧ Below w.heap.size w w1 ∧ w1.heap.size = w.heap.size + 1 ∧ bs.length ≤ k ∧ k ≤ maxLen := by
  have hsz : (⟨bs.toArray⟩ : ByteArray).size = bs.length := rfl
  have h := run_bytes_of_string (P := Try.prog) w 9 112 5 ⟨bs.toArray⟩ Try.underlying9 Try.underlying112 Try.underlying5
  rw [hsz] at h
  refine ⟨_, _, h, ?_, ((Below.refl _ _).drew).alloc (Nat.le_refl _) _, by simp, grownCap_ge _ _ _ _, grownCap_le_maxLen _ _ _ _ hm⟩
  refine ⟨rfl, fun k c hk => ?_⟩
  obtain ⟨hl, rfl⟩ := List.getElem?_eq_some_iff.1 hk
  have hadd : (⟨w.heap.size, 0, none⟩ : Addr).add k = ⟨w.heap.size, k, none⟩ := by unfold Addr.add; split <;> simp_all
  refine ⟨⟨w.heap.size, 0, none⟩, rfl, by simp, ?_⟩
  rw [hadd, cell_of_row (w.drew.alloc _) w.heap.size k _ _ _ (heap_alloc_new w.drew _), bytesRow_at _ _ _ (by simpa using hl)]
  simp
/-- what the frame tells of a slice of bytes that came in -/
theorem bts_row {w : World} {a : Option Addr} {len cap : Nat} {zs : List Int}
    (h : (a = none ∧ len = 0 ∧ cap = 0 ∧ zs = []) ∨ ∃ x, a = some x ∧ len ≤ cap ∧ cap ≤ maxLen ∧ zs.length = cap ∧ (∀ i, i < zs.length → w.cell? (x.add i) = some (.int .u8 (zs.getD i 0))) ∧ ∀ n ∈ zs, (Lit.int .u8 n).wf = true) :
    ∃ bs, Bts w a len bs ∧ len ≤ cap ∧ cap ≤ maxLen ∧ (a = none → cap = 0) := by
  rcases h with ⟨rfl, rfl, rfl, _⟩ | ⟨x, rfl, hl, hm, hz, hc, hwf⟩
  · exact ⟨[], Bts.none_ w, Nat.le_refl _, Nat.zero_le _, fun _ => rfl⟩
  · refine ⟨(zs.take len).map fun z => UInt8.ofNat z.toNat, ⟨by rw [List.length_map, List.length_take]; omega, fun k c hk => ?_⟩, hl, hm, fun e => by cases e⟩
    rw [List.getElem?_map, List.getElem?_take] at hk
    split at hk
    · rename_i hkl
      have hkz : k < zs.length := by omega
      rw [List.getElem?_eq_getElem hkz] at hk
      simp only [Option.map_some, Option.some.injEq] at hk
      have hcell := hc k hkz
      rw [List.getD_eq_getElem?_getD, List.getElem?_eq_getElem hkz, Option.getD_some] at hcell
      have hb : 0 ≤ zs[k] ∧ zs[k] ≤ 255 := by simpa [Lit.wf, IntKind.min, IntKind.max, IntKind.signed, IntKind.bits] using hwf _ (List.getElem_mem hkz)
      refine ⟨x, rfl, ?_, ?_⟩
      · have := World.block_lt_of_cell? w _ hcell
        rwa [block_add] at this
      · rw [hcell, ← hk]
        generalize zs[k] = z at *
        have e : ((UInt8.ofNat z.toNat).toNat : Int) = z := by
          rw [UInt8.toNat_ofNat']
          omega
        rw [e]
    · simp at hk
/-- what the frame tells of a number of 32 bits that came in -/
theorem u32_in {a : Int} (h : (Lit.int .u32 a).wf = true) : ∃ x : Nat, a = (x : Int) ∧ x < 4294967296 := by
  have hb : 0 ≤ a ∧ a ≤ 4294967295 := by simpa [Lit.wf, IntKind.min, IntKind.max, IntKind.signed, IntKind.bits] using h
  exact ⟨a.toNat, by omega, by omega⟩
theorem u8_in {a : Int} (h : (Lit.int .u8 a).wf = true) : ∃ x : Nat, a = (x : Int) ∧ x < 256 := by
  have hb : 0 ≤ a ∧ a ≤ 255 := by simpa [Lit.wf, IntKind.min, IntKind.max, IntKind.signed, IntKind.bits] using h
  exact ⟨a.toNat, by omega, by omega⟩
theorem byte_of (x : Nat) : ((UInt8.ofNat x).toNat : Int) = (x : Int) % 256 := by
  rw [UInt8.toNat_ofNat']
  omega
/-- a block whose cells are bytes reads as some bytes, from any place on -/
theorem bts_block {W : World} {g off n : Nat} {cs : Array Value} {t : TypeId} {fr : Nat × Nat} (h : W.heap[g]? = some (.cells cs t fr))
    (hall : ∀ j, off ≤ j → j < off + n → ∃ z : Int, cs[j]? = some (.int .u8 z) ∧ 0 ≤ z ∧ z < 256) : ∃ bs, Bts W (some ⟨g, off, none⟩) n bs := by
  induction n with
  | zero => exact ⟨[], rfl, fun k c hk => by simp at hk⟩
  | succ n ih =>
    obtain ⟨bs, hB⟩ := ih fun j h1 h2 => hall j h1 (by omega)
    obtain ⟨z, hz, h0, h1⟩ := hall (off + n) (by omega) (by omega)
    refine ⟨bs ++ [UInt8.ofNat z.toNat], by rw [List.length_append, hB.1]; rfl, fun k c hk => ?_⟩
    have hl := hB.1
    rw [List.getElem?_append] at hk
    split at hk
    · exact hB.2 k c hk
    · rename_i hge
      have hkn : k = n := by
        rcases Nat.lt_or_ge n k with hlt | hle
        · rw [List.getElem?_eq_none (by simp; omega)] at hk
          cases hk
        · omega
      subst hkn
      rw [hl, Nat.sub_self] at hk
      injection hk with hk
      subst hk
      have hadd : (⟨g, off, none⟩ : Addr).add k = ⟨g, off + k, none⟩ := by
        unfold Addr.add
        split
        · rename_i e; rw [e]; rfl
        · rfl
      refine ⟨⟨g, off, none⟩, rfl, (Array.getElem?_eq_some_iff.1 h).1, ?_⟩
      rw [hadd, cell_of_row W g (off + k) cs t fr h, hz]
      have e : ((UInt8.ofNat z.toNat).toNat : Int) = z := by rw [byte_of]; omega
      rw [e]
theorem Try.info5 : (Try.prog.info? 5).map (fun i => (i.zero, i.size, i.bytes)) = some (some (.int .u8 0), 1, 1) := by kernel_rfl
def byteV (c : UInt8) : Value := .int .u8 (c.toNat : Int)
/-- the slice value v owns the bytes bs -/
def OwnB (base : Nat) (w : World) (v : Value) (bs : List UInt8) : Prop := w.ownsRow base 5 1 v bs.length (bs.map byteV)
theorem OwnB.nil_ (base : Nat) (w : World) : OwnB base w (.slice none 0 0) [] := World.ownsRow_nil w base _ _
/-- its shape, and that it reads as those bytes -/
theorem OwnB.shape {base : Nat} {w : World} {v : Value} {bs : List UInt8} (h : OwnB base w v bs) (hm : bs.length ≤ maxLen) : ∃ (A : Option Addr) (c : Nat), v = .slice A bs.length c ∧ bs.length ≤ c ∧ c ≤ maxLen ∧ Bts w A bs.length bs ∧ (A = none → c = 0) := by
  have h' := h
  rcases h.2 with ⟨rfl, h0⟩ | ⟨g, cap, cur, rfl, _, hg, hnc, hcm, _⟩
  · have hb : bs = [] := List.eq_nil_of_length_eq_zero h0
    subst hb
    exact ⟨none, 0, rfl, Nat.le_refl _, Nat.zero_le _, Bts.none_ w, fun _ => rfl⟩
  · refine ⟨_, _, rfl, hnc, hcm, ⟨rfl, fun k c hk => ?_⟩, fun e => by cases e⟩
    have hlt : g < w.heap.size := (Array.getElem?_eq_some_iff.1 hg).1
    exact ⟨⟨g, 0, none⟩, rfl, hlt, h'.cells (g := g) rfl k _ (by rw [List.getElem?_map, hk]; rfl)⟩
theorem OwnB.alloc {base : Nat} {w : World} {v : Value} {bs : List UInt8} (h : OwnB base w v bs) (o : Obj) : OwnB base (w.alloc o) v bs := World.ownsRow.alloc h o
theorem OwnB.kept {base : Nat} {w w' : World} {v : Value} {bs : List UInt8} {row : Option Nat} (h : OwnB base w v bs) (hg : w.grownBy w' row) (hne : v.ownBlock = none ∨ v.ownBlock ≠ row) : OwnB base w' v bs := World.ownsRow.kept h hg hne
/-- append(v, x..), v the call's own, x whatever reads as bytes -/
theorem wpList_append_bytes {w : World} {ops : Array Oper} {rest : List Oper} {o : Oper} {a : Act} {Q : Exit → Act → World → Prop} (hgd : o.guard = none) (s x : Operand)
    (ho : o.op = .call { callee := .builtin .append, args := #[s, x], argTypes := #[112, 112] })
    (base : Nat) (v : Value) (bs bs' : List UInt8) (hs : a.eval s = v) (hown : OwnB base w v bs)
    (A : Option Addr) (m c : Nat) (hx : a.eval x = .slice A m c) (hB : Bts w A m bs') (hnil : A = none → c = 0)
    (hlen : bs.length + bs'.length ≤ 1000000) (hbase : base ≤ w.heap.size)
    (h : ∀ v' w', OwnB base w' v' (bs ++ bs') → w.grownBy w' v.ownBlock → (v'.ownBlock = v.ownBlock ∨ v'.ownBlock = some w.heap.size) → wpList Try.prog ops Q rest (a.put o.dst v') w') :
    wpList Try.prog ops Q (o :: rest) a w := by
  obtain ⟨i0, hi, hz0, hz1, hz2⟩ := info_parts Try.info5
  obtain rfl := hB.1
  cases A with
  | none =>
    obtain rfl := hB.none_nil
    obtain rfl := hnil rfl
    refine wpList_append_own_none hgd s x _ ho base 5 i0 1 Try.underlying112 hi v _ _ hs hown hx ?_
    exact h v w (by rw [List.append_nil]; exact hown) (World.grownBy.refl w _) (.inl rfl)
  | some ad =>
    refine wpList_append_own_at w hgd s x _ ho base 5 i0 (.int .u8 0) 1 1 Try.underlying112 hi hz0 hz1 hz2 rfl (by omega) v bs.length (bs.map byteV) hs hown ad bs'.length c (bs'.map byteV) hx (by simp)
      (fun j u hj => ?_) (fun u hu => ?_) (by unfold maxLen; omega) (by omega) hbase ?_
    · rw [List.getElem?_map] at hj
      cases hk : bs'[j]? with
      | none => rw [hk] at hj; cases hj
      | some d =>
        rw [hk] at hj
        simp only [Option.map_some, Option.some.injEq] at hj
        obtain ⟨ad', e, _, hc⟩ := hB.2 j d hk
        cases Option.some.inj e
        rw [← hj]
        exact hc
    · obtain ⟨d, _, rfl⟩ := List.mem_map.1 hu
      rfl
    · intro v' w' hown' hgrow _ hat
      refine h v' w' ?_ hgrow hat
      unfold OwnB
      rw [List.length_append, List.map_append]
      exact hown'
theorem OwnB.shape_n {base : Nat} {w : World} {v : Value} {bs : List UInt8} (h : OwnB base w v bs) (hm : bs.length ≤ maxLen) :
    ∃ (A : Option Addr) (n c : Nat), v = .slice A n c ∧ n = bs.length ∧ n ≤ c ∧ c ≤ maxLen ∧ Bts w A n bs ∧ (A = none → c = 0) := by
  obtain ⟨A, c, h1, h2, h3, h4, h5⟩ := h.shape hm
  exact ⟨A, _, c, h1, rfl, h2, h3, h4, h5⟩
theorem OwnB.reads {base : Nat} {w : World} {A : Option Addr} {n c : Nat} {bs : List UInt8} (h : OwnB base w (.slice A n c) bs) (hm : bs.length ≤ maxLen) : Bts w A n bs := by
  obtain ⟨A', n', c', e, _, _, _, h4, _⟩ := h.shape_n hm
  injection e with e1 e2 e3
  subst e1 e2 e3
  exact h4
/-- two rows of the call's own that share no block -/
def Two (base : Nat) (w : World) (p q : Value) (xs ys : List UInt8) : Prop :=
  OwnB base w p xs ∧ OwnB base w q ys ∧ (p.ownBlock = none ∨ p.ownBlock ≠ q.ownBlock)
theorem Two.first {base : Nat} {w w' : World} {p q p' : Value} {xs ys xs' : List UInt8} (h : Two base w p q xs ys) (ho : OwnB base w' p' xs') (hg : w.grownBy w' p.ownBlock) (hat : p'.ownBlock = p.ownBlock ∨ p'.ownBlock = some w.heap.size) :
    Two base w' p' q xs' ys := by
  refine ⟨ho, h.2.1.kept hg ?_, ?_⟩
  · rcases h.2.2 with h0 | h0
    · rw [h0]
      cases q.ownBlock <;> simp
    · exact .inr fun e => h0 e.symm
  · rcases hat with e | e
    · rw [e]; exact h.2.2
    · rw [e]
      refine .inr fun e2 => ?_
      have := (World.ownsRow.lt h.2.1 _ e2.symm).2
      omega
theorem Two.swap {base : Nat} {w : World} {p q : Value} {xs ys : List UInt8} (h : Two base w p q xs ys) : Two base w q p ys xs := by
  refine ⟨h.2.1, h.1, ?_⟩
  rcases h.2.2 with h0 | h0
  · rw [h0]
    cases q.ownBlock <;> simp
  · exact .inr fun e => h0 e.symm
theorem Two.alloc {base : Nat} {w : World} {p q : Value} {xs ys : List UInt8} (h : Two base w p q xs ys) (o : Obj) : Two base (w.alloc o) p q xs ys := ⟨h.1.alloc o, h.2.1.alloc o, h.2.2⟩
end Go.Proofs.Ytoeblaecldhcaaa
/- Words for rows of any element, and for what a call may turn: blocks from B on, of certain element types. -/
namespace Go.Proofs.Ytoeblaecldhcaaa
open Go.RowKit
set_option maxRecDepth 20000

/-- the shape of what is owned, and its cells -/
theorem own_form {w : World} {base : Nat} {e : TypeId} {size : Nat} {v : Value} {n : Nat} {xs : List Value} (h : w.ownsRow base e size v n xs) :
    ∃ (A : Option Addr) (c : Nat), v = .slice A n c ∧ n ≤ c ∧ c ≤ maxLen ∧ (A = none → c = 0) ∧ (0 < n → ∃ g : Nat, A = some ⟨g, 0, none⟩ ∧ base ≤ g ∧ g < w.heap.size ∧ ∀ j u, xs[j]? = some u → w.cell? ⟨g, j, none⟩ = some u) := by
  have h' := h
  rcases h.2 with ⟨rfl, h0⟩ | ⟨g, cap, cur, rfl, hb, hg, hnc, hcm, _⟩
  · subst h0
    exact ⟨none, 0, rfl, Nat.le_refl _, Nat.zero_le _, fun _ => rfl, fun h => by omega⟩
  · refine ⟨_, cap, rfl, hnc, hcm, (fun e => by cases e), fun _ => ⟨g, rfl, hb, (Array.getElem?_eq_some_iff.1 hg).1, fun j u hj => ?_⟩⟩
    have hadd : (⟨g, 0, none⟩ : Addr).add j = ⟨g, j, none⟩ := by unfold Addr.add; split <;> simp_all
    rw [← hadd]
    exact h'.cells (g := g) rfl j u hj

/-- block k is a row of an element type among ts -/
def Typed (ts : List TypeId) (w : World) (k : Nat) : Prop := ∃ cs t fr, w.heap[k]? = some (.cells cs t fr) ∧ t ∈ ts
/-- what a call may turn: new blocks apart, those from B on whose element type is among ts -/
structure Fr (ts : List TypeId) (B : Nat) (w w' : World) : Prop where
  os : w'.os = w.os
  tape : w'.tape = w.tape
  output : w'.output = w.output
  size : w.heap.size ≤ w'.heap.size
  block : ∀ k, k < w.heap.size → w'.heap[k]? = w.heap[k]? ∨ (B ≤ k ∧ Typed ts w k)
section
variable {ts us : List TypeId} {B C : Nat} {w w' w'' : World}
theorem Fr.refl (ts : List TypeId) (B : Nat) (w : World) : Fr ts B w w := ⟨rfl, rfl, rfl, Nat.le_refl _, fun _ _ => .inl rfl⟩
theorem Fr.of_below (h : Below w.heap.size w w') : Fr ts B w w' := ⟨h.os, h.tape, h.output, h.size, fun k hk => .inl (h.block k hk)⟩
theorem Fr.trans (h : Fr ts B w w') (k : Fr ts B w' w'') : Fr ts B w w'' :=
  ⟨k.os.trans h.os, k.tape.trans h.tape, k.output.trans h.output, Nat.le_trans h.size k.size, fun i hi => by
    rcases h.block i hi with e | e
    · rcases k.block i (Nat.lt_of_lt_of_le hi h.size) with e2 | ⟨hb, cs, t, fr, hh, ht⟩
      · exact .inl (e2.trans e)
      · exact .inr ⟨hb, cs, t, fr, e.symm.trans hh, ht⟩
    · exact .inr e⟩
theorem Fr.below (h : Fr ts B w w') : Below (min B w.heap.size) w w' := ⟨h.os, h.tape, h.output, h.size, fun k hk => by
  rcases h.block k (by omega) with e | e
  · exact e
  · omega⟩
theorem Fr.widen (h : Fr ts B w w') (hs : ∀ t ∈ ts, t ∈ us) (hC : C ≤ B) : Fr us C w w' := ⟨h.os, h.tape, h.output, h.size, fun k hk => by
  rcases h.block k hk with e | ⟨hb, cs, t, fr, hh, ht⟩
  · exact .inl e
  · exact .inr ⟨by omega, cs, t, fr, hh, hs t ht⟩⟩
/-- a block that may not be turned -/
theorem Fr.same (h : Fr ts B w w') {k : Nat} {cs : Array Value} {t : TypeId} {fr : Nat × Nat} (hk : w.heap[k]? = some (.cells cs t fr)) (hn : k < B ∨ t ∉ ts) : w'.heap[k]? = some (.cells cs t fr) := by
  have hlt : k < w.heap.size := (Array.getElem?_eq_some_iff.1 hk).1
  rcases h.block k hlt with e | ⟨hb, cs', t', fr', hh, ht⟩
  · rw [e, hk]
  · rw [hk] at hh
    injection hh with hh
    injection hh with _ h2 _
    subst h2
    rcases hn with hn | hn
    · omega
    · exact absurd ht hn
theorem Fr.owns (h : Fr ts B w w') {base : Nat} {e : TypeId} {size : Nat} {v : Value} {n : Nat} {xs : List Value} (ho : w.ownsRow base e size v n xs) (hn : e ∉ ts) : w'.ownsRow base e size v n xs := by
  refine ⟨ho.1, ?_⟩
  rcases ho.2 with h0 | ⟨g, cap, cur, rfl, hb, hg, rest⟩
  · exact .inl h0
  · exact .inr ⟨g, cap, cur, rfl, hb, h.same hg (.inr hn), rest⟩
/-- an owned row that a call has turned, or moved -/
theorem Fr.of_grown {base : Nat} {e : TypeId} {size : Nat} {v : Value} {n : Nat} {xs : List Value} (ho : w.ownsRow base e size v n xs) (hg : w.grownBy w' v.ownBlock) (hB : B ≤ base) (he : e ∈ ts) : Fr ts B w w' :=
  ⟨hg.os, hg.tape, hg.output, hg.size, fun k hk => by
    by_cases hv : v.ownBlock = some k
    · rcases ho.2 with ⟨rfl, _⟩ | ⟨g, cap, cur, rfl, hb, hgg, _⟩
      · cases hv
      · have : g = k := by simpa [Value.ownBlock] using hv
        subst this
        exact .inr ⟨by omega, cur, e, (0, 0), hgg, he⟩
    · exact .inl (hg.block k hk (fun e2 => hv e2.symm))⟩
/-- a store into a block that may be turned -/
theorem Fr.setCell {g i : Nat} {v : Value} {cs : Array Value} {t : TypeId} {fr : Nat × Nat} (hg : w.heap[g]? = some (.cells cs t fr)) (hB : B ≤ g) (ht : t ∈ ts) : Fr ts B w (w.setCell ⟨g, i, none⟩ v) :=
  ⟨rfl, rfl, rfl, by simp [World.setCell], fun k _ => by
    by_cases e : k = g
    · subst e; exact .inr ⟨hB, cs, t, fr, hg, ht⟩
    · exact .inl (heap_setCell_other w _ k v e)⟩
end
end Go.Proofs.Ytoeblaecldhcaaa
/- Trees by value: what the document says of them; the nodes in the order of the document. -/
namespace Go.Proofs.Ytoeblaecldhcaaa
set_option linter.unusedVariables false
abbrev Txt := List UInt8
inductive Nd where
  | mk (id : Nat) (leaf : Bool) (label : Txt) (attrs : List (Txt × Txt)) (text : Txt) (kids : List Nd)
namespace Nd
def id : Nd → Nat | .mk i _ _ _ _ _ => i
def leaf : Nd → Bool | .mk _ l _ _ _ _ => l
def label : Nd → Txt | .mk _ _ l _ _ _ => l
def attrs : Nd → List (Txt × Txt) | .mk _ _ _ a _ _ => a
def text : Nd → Txt | .mk _ _ _ _ t _ => t
def kids : Nd → List Nd | .mk _ _ _ _ _ k => k
def zero : Nd := .mk 0 false [] [] [] []
/-- a tree with other children -/
def withKids : Nd → List Nd → Nd | .mk i l b a t _, k => .mk i l b a t k
theorem kid_lt {t k : Nd} (h : k ∈ t.kids) : SizeOf.sizeOf k < SizeOf.sizeOf t := by
  cases t with
  | mk i l b a x ks =>
    have := List.sizeOf_lt_of_mem (show k ∈ ks from h)
    simp only [mk.sizeOf_spec]
    omega
/-- what holds of a tree wherever it holds of its children holds of all -/
theorem ind {p : Nd → Prop} (h : ∀ t : Nd, (∀ k ∈ t.kids, p k) → p t) (t : Nd) : p t := by
  generalize hn : SizeOf.sizeOf t = n
  induction n using Nat.strongRecOn generalizing t with
  | _ n ih => exact h t fun k hk => ih _ (by have := kid_lt hk; omega) k rfl
end Nd

/-! ### what the document says -/
mutual
def countV : Nd → Nat
  | .mk _ _ _ _ _ ks => 1 + countsV ks
def countsV : List Nd → Nat
  | [] => 0
  | k :: r => countV k + countsV r
end
mutual
def depthV : Nd → Nat
  | .mk _ _ _ _ _ ks => depthsV ks
def depthsV : List Nd → Nat
  | [] => 0
  | k :: r => max (1 + depthV k) (depthsV r)
end
def attrsLen : List (Txt × Txt) → Nat
  | [] => 0
  | a :: r => a.1.length + a.2.length + attrsLen r
def ownLong (t : Nd) : Nat := t.text.length + attrsLen t.attrs
mutual
def longV : Nd → Nat
  | .mk _ _ _ ps x ks => max (x.length + attrsLen ps) (longsV ks)
def longsV : List Nd → Nat
  | [] => 0
  | k :: r => max (longV k) (longsV r)
end
mutual
def idsV : Nd → List Nat
  | .mk i _ _ _ _ ks => i :: idssV ks
def idssV : List Nd → List Nat
  | [] => []
  | k :: r => idsV k ++ idssV r
end
def keyB (s : Txt) : Bool := decide (1 ≤ s.length ∧ s.length ≤ 64)
/-- do the keys rise, and are all parts of a right length? last: the key ahead -/
def attrsOk (lt : Txt → Txt → Bool) : Txt → List (Txt × Txt) → Bool
  | _, [] => true
  | last, a :: r => keyB a.1 && lt last a.1 && decide (a.2.length ≤ 256) && attrsOk lt a.1 r
/-- is a node right by itself? -/
def aloneOk (lt : Txt → Txt → Bool) (t : Nd) : Bool :=
  decide (t.label.length ≤ 64) && attrsOk lt [] t.attrs && (if t.leaf then t.kids.isEmpty else t.text.isEmpty)
mutual
def rightsV (lt : Txt → Txt → Bool) : Nd → Bool
  | .mk i l b ps x ks => aloneOk lt (.mk i l b ps x ks) && rightssV lt ks
def rightssV (lt : Txt → Txt → Bool) : List Nd → Bool
  | [] => true
  | k :: r => rightsV lt k && rightssV lt r
end
def rightV (lt : Txt → Txt → Bool) (t : Nd) : Bool := !t.leaf && rightsV lt t
/-- are two nodes alike by themselves? -/
def alikeA (a b : Nd) : Bool := a.leaf == b.leaf && a.label == b.label && a.text == b.text && a.attrs == b.attrs
def sameA (a b : Nd) : Bool := a.id == b.id && alikeA a b
mutual
def eqV (f : Nd → Nd → Bool) : Nd → Nd → Bool
  | .mk i l b ps x ks, t => f (.mk i l b ps x ks) t && eqsV f ks t.kids
def eqsV (f : Nd → Nd → Bool) : List Nd → List Nd → Bool
  | [], [] => true
  | k :: r, m :: s => eqV f k m && eqsV f r s
  | _, _ => false
end
def alikeV (a b : Nd) : Bool := eqV alikeA a b
def sameV (a b : Nd) : Bool := eqV sameA a b
def atV : Nd → List Int → Option Nd
  | t, [] => some t
  | t, i :: p => if 0 ≤ i then match t.kids[i.toNat]? with
    | some k => atV k p
    | none => none else none
def putV : Nd → List Int → Nd → Option Nd
  | _, [], x => some x
  | t, i :: p, x => if 0 ≤ i then match t.kids[i.toNat]? with
    | some k => match putV k p x with
      | some k' => some (t.withKids (t.kids.set i.toNat k'))
      | none => none
    | none => none else none
def attrV : List (Txt × Txt) → Txt → Option Txt
  | [], _ => none
  | a :: r, k => if a.1 == k then some a.2 else attrV r k
/-- how much a tree has -/
def attrsW : List (Txt × Txt) → Nat
  | [] => 0
  | a :: r => 1 + a.1.length + a.2.length + attrsW r
mutual
def weighV : Nd → Nat
  | .mk _ _ b ps x ks => 1 + b.length + x.length + attrsW ps + weighsV ks
def weighsV : List Nd → Nat
  | [] => 0
  | k :: r => weighV k + weighsV r
end

theorem countV_eq (t : Nd) : countV t = 1 + countsV t.kids := by cases t; simp [countV, Nd.kids]
theorem depthV_eq (t : Nd) : depthV t = depthsV t.kids := by cases t; simp [depthV, Nd.kids]
theorem longV_eq (t : Nd) : longV t = max (ownLong t) (longsV t.kids) := by cases t; simp [longV, Nd.kids, ownLong, Nd.text, Nd.attrs]
theorem idsV_eq (t : Nd) : idsV t = t.id :: idssV t.kids := by cases t; simp [idsV, Nd.kids, Nd.id]
theorem rightsV_eq (lt : Txt → Txt → Bool) (t : Nd) : rightsV lt t = (aloneOk lt t && rightssV lt t.kids) := by cases t; simp [rightsV, Nd.kids]
theorem eqV_eq (f : Nd → Nd → Bool) (s t : Nd) : eqV f s t = (f s t && eqsV f s.kids t.kids) := by cases s; simp [eqV, Nd.kids]
theorem weighV_eq (t : Nd) : weighV t = 1 + t.label.length + t.text.length + attrsW t.attrs + weighsV t.kids := by cases t; simp [weighV, Nd.kids, Nd.label, Nd.text, Nd.attrs]
theorem weighsV_append (l m : List Nd) : weighsV (l ++ m) = weighsV l + weighsV m := by
  induction l with
  | nil => simp [weighsV]
  | cons k r ih => simp [weighsV, ih]; omega
theorem countsV_append (l m : List Nd) : countsV (l ++ m) = countsV l + countsV m := by
  induction l with
  | nil => simp [countsV]
  | cons k r ih => simp [countsV, ih]; omega
theorem idssV_append (l m : List Nd) : idssV (l ++ m) = idssV l ++ idssV m := by
  induction l with
  | nil => simp [idssV]
  | cons k r ih => simp [idssV, ih]
theorem longsV_append (l m : List Nd) : longsV (l ++ m) = max (longsV l) (longsV m) := by
  induction l with
  | nil => simp [longsV]
  | cons k r ih => simp only [List.cons_append, longsV, ih]; omega
theorem depthsV_append (l m : List Nd) : depthsV (l ++ m) = max (depthsV l) (depthsV m) := by
  induction l with
  | nil => simp [depthsV]
  | cons k r ih => simp only [List.cons_append, depthsV, ih]; omega
theorem attrsLen_append (l m : List (Txt × Txt)) : attrsLen (l ++ m) = attrsLen l + attrsLen m := by
  induction l with
  | nil => simp [attrsLen]
  | cons k r ih => simp [attrsLen, ih]; omega
theorem attrsW_append (l m : List (Txt × Txt)) : attrsW (l ++ m) = attrsW l + attrsW m := by
  induction l with
  | nil => simp [attrsW]
  | cons k r ih => simp [attrsW, ih]; omega

/-! ### a tree weighs as much as what is counted of it -/
theorem attrsLen_le (l : List (Txt × Txt)) : attrsLen l + l.length ≤ attrsW l := by
  induction l with
  | nil => simp [attrsLen, attrsW]
  | cons k r ih => simp [attrsLen, attrsW]; omega
theorem count_pos (t : Nd) : 1 ≤ countV t := by rw [countV_eq]; omega
mutual
theorem count_le : ∀ t : Nd, countV t ≤ weighV t
  | .mk i l b ps x ks => by
    have := counts_le ks
    simp only [countV, weighV]
    omega
theorem counts_le : ∀ l : List Nd, countsV l ≤ weighsV l
  | [] => by simp [countsV, weighsV]
  | k :: r => by
    have h1 := count_le k
    have h2 := counts_le r
    simp only [countsV, weighsV]
    omega
end
mutual
theorem depth_lt : ∀ t : Nd, depthV t < countV t
  | .mk i l b ps x ks => by
    have := depths_le ks
    simp only [depthV, countV]
    omega
theorem depths_le : ∀ l : List Nd, depthsV l ≤ countsV l
  | [] => by simp [depthsV, countsV]
  | k :: r => by
    have h1 := depth_lt k
    have h2 := depths_le r
    simp only [depthsV, countsV]
    omega
end
mutual
theorem long_le : ∀ t : Nd, longV t ≤ weighV t
  | .mk i l b ps x ks => by
    have h1 := longs_le ks
    have h2 := attrsLen_le ps
    simp only [longV, weighV]
    omega
theorem longs_le : ∀ l : List Nd, longsV l ≤ weighsV l
  | [] => by simp [longsV, weighsV]
  | k :: r => by
    have h1 := long_le k
    have h2 := longs_le r
    simp only [longsV, weighsV]
    omega
end
theorem kids_le (t : Nd) : t.kids.length + 1 ≤ countV t := by
  rw [countV_eq]
  have : ∀ l : List Nd, l.length ≤ countsV l := by
    intro l
    induction l with
    | nil => simp
    | cons k r ih =>
      have := count_pos k
      simp only [List.length_cons, countsV]
      omega
  have := this t.kids
  omega

/-! ### the nodes in the order of the document, each with how deep it is -/
mutual
def preV (d : Nat) : Nd → List (Nat × Nd)
  | .mk i l b ps x ks => (d, .mk i l b ps x ks) :: presV (d + 1) ks
def presV (d : Nat) : List Nd → List (Nat × Nd)
  | [] => []
  | k :: r => preV d k ++ presV d r
end
theorem preV_eq (d : Nat) (t : Nd) : preV d t = (d, t) :: presV (d + 1) t.kids := by cases t; simp [preV, Nd.kids]
mutual
theorem pre_len : ∀ (t : Nd) (d : Nat), (preV d t).length = countV t
  | .mk i l b ps x ks, d => by simp only [preV, countV, List.length_cons]; rw [pres_len ks (d + 1)]; omega
theorem pres_len : ∀ (l : List Nd) (d : Nat), (presV d l).length = countsV l
  | [], d => by simp [presV, countsV]
  | k :: r, d => by simp only [presV, countsV, List.length_append]; rw [pre_len k d, pres_len r d]
end
mutual
theorem pre_ids : ∀ (t : Nd) (d : Nat), (preV d t).map (·.2.id) = idsV t
  | .mk i l b ps x ks, d => by simp only [preV, idsV, List.map_cons]; rw [pres_ids ks (d + 1)]; rfl
theorem pres_ids : ∀ (l : List Nd) (d : Nat), (presV d l).map (·.2.id) = idssV l
  | [], d => by simp [presV, idssV]
  | k :: r, d => by simp only [presV, idssV, List.map_append]; rw [pre_ids k d, pres_ids r d]
end
def maxOf {α : Type} (f : α → Nat) : List α → Nat
  | [] => 0
  | a :: r => max (f a) (maxOf f r)
theorem maxOf_append {α : Type} (f : α → Nat) (l m : List α) : maxOf f (l ++ m) = max (maxOf f l) (maxOf f m) := by
  induction l with
  | nil => simp [maxOf]
  | cons a r ih => simp only [List.cons_append, maxOf, ih]; omega
mutual
theorem pre_depth : ∀ (t : Nd) (d : Nat), maxOf (·.1) (preV d t) = d + depthV t
  | .mk i l b ps x ks, d => by
    simp only [preV, depthV, maxOf]
    have := pres_depth ks (d + 1)
    cases ks with
    | nil => simp [presV, maxOf, depthsV]
    | cons k r =>
      have h2 := this (by simp)
      have h : 1 ≤ depthsV (k :: r) := by simp only [depthsV]; omega
      omega
theorem pres_depth : ∀ (l : List Nd) (d : Nat), l ≠ [] → maxOf (·.1) (presV d l) + 1 = d + depthsV l
  | [], d => by intro h; exact absurd rfl h
  | [k], d => by
    intro _
    simp only [presV, depthsV, List.append_nil]
    rw [pre_depth k d]
    omega
  | k :: m :: r, d => by
    intro _
    have h1 := pre_depth k d
    have h2 := pres_depth (m :: r) d (by simp)
    rw [presV, maxOf_append, h1, depthsV]
    omega
end
mutual
theorem pre_long : ∀ (t : Nd) (d : Nat), maxOf (fun e => ownLong e.2) (preV d t) = longV t
  | .mk i l b ps x ks, d => by
    simp only [preV, longV, maxOf]
    rw [pres_long ks (d + 1)]
    rfl
theorem pres_long : ∀ (l : List Nd) (d : Nat), maxOf (fun e => ownLong e.2) (presV d l) = longsV l
  | [], d => by simp [presV, longsV, maxOf]
  | k :: r, d => by simp only [presV, longsV, maxOf_append]; rw [pre_long k d, pres_long r d]
end
mutual
theorem pre_right (lt : Txt → Txt → Bool) : ∀ (t : Nd) (d : Nat), (preV d t).all (fun e => aloneOk lt e.2) = rightsV lt t
  | .mk i l b ps x ks, d => by
    simp only [preV, rightsV, List.all_cons]
    rw [pres_right lt ks (d + 1)]
theorem pres_right (lt : Txt → Txt → Bool) : ∀ (l : List Nd) (d : Nat), (presV d l).all (fun e => aloneOk lt e.2) = rightssV lt l
  | [], d => by simp [presV, rightssV]
  | k :: r, d => by simp only [presV, rightssV, List.all_append]; rw [pre_right lt k d, pres_right lt r d]
end

/-! ### where one stands who goes through a tree: rows of nodes to come, the deepest first -/
abbrev Stk := List (List Nd)
def todo : Stk → List (Nat × Nd)
  | [] => []
  | row :: rest => presV rest.length row ++ todo rest
/-- the next node -/
def nextV : Stk → Option (Nat × Nd × Stk)
  | [] => none
  | [] :: rest => nextV rest
  | (x :: r) :: rest => some (rest.length, x, x.kids :: r :: rest)
theorem todo_next : ∀ s : Stk, match nextV s with
    | none => todo s = []
    | some (d, x, s') => todo s = (d, x) :: todo s'
  | [] => rfl
  | [] :: rest => by
    have h := todo_next rest
    have e : todo ([] :: rest) = todo rest := by simp [todo, presV]
    rw [nextV, e]
    exact h
  | (x :: r) :: rest => by
    simp only [nextV, todo, presV, preV_eq, List.cons_append, List.append_assoc, List.length_cons]
theorem todo_root (t : Nd) : todo [[t]] = preV 0 t := by simp [todo, presV]

/-- the sizes of two stacks -/
def shape (s : Stk) : List Nat := s.map List.length
theorem nextV_shape : ∀ s u : Stk, shape s = shape u → (nextV s).isSome = (nextV u).isSome
  | [], [], _ => rfl
  | [], _ :: _, h => by simp [shape] at h
  | _ :: _, [], h => by simp [shape] at h
  | [] :: rest, row :: rest', h => by
    simp only [shape, List.map_cons, List.cons.injEq, List.length_nil] at h
    obtain rfl : row = [] := List.length_eq_zero_iff.1 h.1.symm
    simp only [nextV]
    exact nextV_shape rest rest' h.2
  | (x :: r) :: rest, row :: rest', h => by
    simp only [shape, List.map_cons, List.cons.injEq, List.length_cons] at h
    cases row with
    | nil => simp at h
    | cons y q => simp [nextV]
/-- what two stacks of one shape come to -/
def lock (f : Nd → Nd → Bool) : Stk → Stk → Bool
  | [], [] => true
  | a :: s, b :: u => eqsV f a b && lock f s u
  | _, _ => false
theorem eqsV_len (f : Nd → Nd → Bool) : ∀ a b : List Nd, a.length ≠ b.length → eqsV f a b = false
  | [], [], h => absurd rfl h
  | [], _ :: _, _ => by simp [eqsV]
  | _ :: _, [], _ => by simp [eqsV]
  | k :: r, m :: s, h => by
    simp only [eqsV]
    rw [eqsV_len f r s (by simpa using h), Bool.and_false]
theorem lock_next (f : Nd → Nd → Bool) : ∀ s u : Stk, shape s = shape u → match nextV s, nextV u with
    | some (_, x, s'), some (_, y, u') => lock f s u = (f x y && lock f s' u') ∧ (x.kids.length = y.kids.length → shape s' = shape u') ∧ (x.kids.length ≠ y.kids.length → lock f s u = false)
    | none, none => lock f s u = true
    | _, _ => False
  | [], [], _ => by simp [nextV, lock]
  | [], _ :: _, h => by simp [shape] at h
  | _ :: _, [], h => by simp [shape] at h
  | [] :: rest, row :: rest', h => by
    simp only [shape, List.map_cons, List.cons.injEq, List.length_nil] at h
    obtain rfl : row = [] := List.length_eq_zero_iff.1 h.1.symm
    have ih := lock_next f rest rest' h.2
    simp only [nextV, lock, eqsV, Bool.true_and]
    exact ih
  | (x :: r) :: rest, row :: rest', h => by
    simp only [shape, List.map_cons, List.cons.injEq, List.length_cons] at h
    cases row with
    | nil => simp at h
    | cons y q =>
      simp only [nextV, lock, eqsV, eqV_eq, Bool.and_assoc]
      refine ⟨trivial, fun hk => ?_, fun hk => ?_⟩
      · have h1 : r.length = q.length := by have := h.1; simp at this; exact this
        simp only [shape, List.map_cons, hk, h1]
        rw [show rest.map List.length = rest'.map List.length from h.2]
      · rw [eqsV_len f _ _ hk]
        simp
end Go.Proofs.Ytoeblaecldhcaaa
/- Words for memory that holds trees; what a call may turn. -/
namespace Go.Proofs.Ytoeblaecldhcaaa
set_option linter.unusedVariables false
open Go.RowKit
set_option maxRecDepth 20000

/-- what a call may turn: of the blocks that are there those of S alone -/
structure FrX (S : Nat → Prop) (w w' : World) : Prop where
  os : w'.os = w.os
  tape : w'.tape = w.tape
  output : w'.output = w.output
  size : w.heap.size ≤ w'.heap.size
  block : ∀ k, k < w.heap.size → ¬ S k → w'.heap[k]? = w.heap[k]?
section
variable {S S' : Nat → Prop} {w w' w'' : World}
theorem FrX.refl (S : Nat → Prop) (w : World) : FrX S w w := ⟨rfl, rfl, rfl, Nat.le_refl _, fun _ _ _ => rfl⟩
theorem FrX.of_below (h : Below w.heap.size w w') : FrX S w w' := ⟨h.os, h.tape, h.output, h.size, fun k hk _ => h.block k hk⟩
theorem FrX.trans (h : FrX S w w') (h2 : FrX S' w' w'') (hs : ∀ k, S' k → S k ∨ w.heap.size ≤ k) : FrX S w w'' :=
  ⟨h2.os.trans h.os, h2.tape.trans h.tape, h2.output.trans h.output, Nat.le_trans h.size h2.size, fun k hk hn => (h2.block k (Nat.lt_of_lt_of_le hk h.size) (fun e => by rcases hs k e with e | e; exact hn e; omega)).trans (h.block k hk hn)⟩
theorem FrX.mono (h : FrX S w w') (hs : ∀ k, k < w.heap.size → S k → S' k) : FrX S' w w' := ⟨h.os, h.tape, h.output, h.size, fun k hk hn => h.block k hk (fun e => hn (hs k hk e))⟩
theorem FrX.below {B : Nat} (h : FrX S w w') (hB : ∀ k, S k → B ≤ k) (hb : B ≤ w.heap.size) : Below B w w' := ⟨h.os, h.tape, h.output, h.size, fun k hk => h.block k (by omega) (fun e => by have := hB k e; omega)⟩
theorem FrX.setCell {g i : Nat} {v : Value} (h : FrX S w w') (hg : S g) : FrX S w (w'.setCell ⟨g, i, none⟩ v) :=
  ⟨h.os, h.tape, h.output, by have := h.size; simpa using this, fun k hk hn => (heap_setCell_other w' ⟨g, i, none⟩ k v (fun e => hn (e ▸ hg))).trans (h.block k hk hn)⟩
theorem FrX.alloc (h : FrX S w w') (o : Obj) : FrX S w (w'.alloc o) :=
  ⟨h.os, h.tape, h.output, by have := h.size; simp; omega, fun k hk hn => (Go.heap_alloc_old w' _ (Nat.lt_of_lt_of_le hk h.size)).trans (h.block k hk hn)⟩
theorem FrX.of_grown {row : Option Nat} (h : w.grownBy w' row) (hs : ∀ k, row = some k → S k) : FrX S w w' :=
  ⟨h.os, h.tape, h.output, h.size, fun k hk hn => h.block k hk (fun e => hn (hs k e.symm))⟩
theorem FrX.drew (h : FrX S w w') : FrX S w w'.drew := ⟨h.os, h.tape, h.output, h.size, h.block⟩
theorem FrX.drewN (h : FrX S w w') (n : Nat) : FrX S w (w'.drewN n) := ⟨h.os, h.tape, h.output, h.size, h.block⟩
end
theorem own_kept {w w' : World} {base : Nat} {e : TypeId} {size : Nat} {v : Value} {n : Nat} {xs : List Value} (h : w.ownsRow base e size v n xs) (hk : ∀ k, v.ownBlock = some k → w'.heap[k]? = w.heap[k]?) : w'.ownsRow base e size v n xs := by
  refine ⟨h.1, ?_⟩
  rcases h.2 with h0 | ⟨g, cap, cur, rfl, hb, hg, rest⟩
  · exact .inl h0
  · exact .inr ⟨g, cap, cur, rfl, hb, (hk g rfl).trans hg, rest⟩
theorem own_typed {w : World} {base : Nat} {e : TypeId} {size : Nat} {v : Value} {n : Nat} {xs : List Value} (h : w.ownsRow base e size v n xs) : ∀ k, v.ownBlock = some k → ∃ cs fr, w.heap[k]? = some (.cells cs e fr) := by
  intro k hk
  rcases h.2 with ⟨rfl, _⟩ | ⟨g, cap, cur, rfl, _, hg, _⟩
  · cases hk
  · have : g = k := by simpa [Value.ownBlock] using hk
    subst this
    exact ⟨cur, (0, 0), hg⟩
/-- a row's block is none of another element type -/
theorem own_ne {w : World} {base p : Nat} {e t : TypeId} {size n : Nat} {v : Value} {xs : List Value} {cs : Array Value} {fr : Nat × Nat} (h : w.ownsRow base e size v n xs) (hp : w.heap[p]? = some (.cells cs t fr)) (hne : e ≠ t) : v.ownBlock ≠ some p := by
  intro hk
  obtain ⟨cs', fr', hh⟩ := own_typed h p hk
  rw [hp] at hh
  injection hh with hh
  injection hh with _ h2 _
  exact hne h2.symm

/-! ### numbers -/
/-- a slice of n numbers at A reads as xs -/
def Its (w : World) (A : Option Addr) (n : Nat) (xs : List Int) : Prop :=
  xs.length = n ∧ ∀ k x, xs[k]? = some x → ∃ ad : Addr, A = some ad ∧ ad.block < w.heap.size ∧ w.cell? (ad.add k) = some (.int .i64 x)
/-- numbers of 64 bits -/
def Fit (xs : List Int) : Prop := ∀ x ∈ xs, -9223372036854775808 ≤ x ∧ x ≤ 9223372036854775807
theorem Its.below {w w' : World} {A : Option Addr} {n : Nat} {xs : List Int} (h : Its w A n xs) (hb : Below w.heap.size w w') : Its w' A n xs := by
  refine ⟨h.1, fun k c hk => ?_⟩
  obtain ⟨ad, e, hlt, hc⟩ := h.2 k c hk
  exact ⟨ad, e, Nat.lt_of_lt_of_le hlt hb.size, (hb.cell (p := ad.add k) (by rw [block_add]; exact hlt)).trans hc⟩
theorem Its.at_ {w : World} {A : Option Addr} {n k : Nat} {xs : List Int} (h : Its w A n xs) (hk : k < n) :
    ∃ (ad : Addr) (x : Int), A = some ad ∧ xs[k]? = some x ∧ w.cell? (ad.add k) = some (.int .i64 x) := by
  have hl : k < xs.length := by rw [h.1]; exact hk
  have hg : xs[k]? = some xs[k] := List.getElem?_eq_getElem hl
  obtain ⟨ad, e, _, hc⟩ := h.2 k _ hg
  exact ⟨ad, _, e, hg, hc⟩
theorem Its.none_ (w : World) : Its w none 0 [] := ⟨rfl, fun k c h => by simp at h⟩
theorem Its.none_nil {w : World} {n : Nat} {xs : List Int} (h : Its w none n xs) : xs = [] := by
  cases xs with
  | nil => rfl
  | cons c r =>
    obtain ⟨ad, e, _⟩ := h.2 0 c rfl
    cases e
theorem Its.from_ {w : World} {A : Option Addr} {n lo m : Nat} {xs : List Int} (h : Its w A n xs) (hlm : lo + m = n) : Its w (A.map fun x => x.add lo) m (xs.drop lo) := by
  refine ⟨by rw [List.length_drop, h.1]; omega, fun k c hk => ?_⟩
  rw [List.getElem?_drop] at hk
  obtain ⟨ad, rfl, hb, hc⟩ := h.2 _ _ hk
  exact ⟨ad.add lo, rfl, by rw [block_add]; exact hb, by rw [add_add]; exact hc⟩
/-- a block of numbers reads as them -/
theorem Its.of_block {w : World} {g n : Nat} {cs : Array Value} {t : TypeId} {fr : Nat × Nat} {xs : List Int} (h : w.heap[g]? = some (.cells cs t fr)) (hn : xs.length = n)
    (hc : cs = (xs.map fun x => Value.int .i64 x).toArray) : Its w (some ⟨g, 0, none⟩) n xs := by
  refine ⟨hn, fun k c hk => ?_⟩
  have hlt : g < w.heap.size := (Array.getElem?_eq_some_iff.1 h).1
  have hadd : (⟨g, 0, none⟩ : Addr).add k = ⟨g, k, none⟩ := by unfold Addr.add; split <;> simp_all
  exact ⟨⟨g, 0, none⟩, rfl, hlt, by rw [hadd, cell_of_row w g k cs t fr h, hc]; simp [hk]⟩
theorem Fit.at_ {xs : List Int} (h : Fit xs) {k : Nat} {x : Int} (hk : xs[k]? = some x) : -9223372036854775808 ≤ x ∧ x ≤ 9223372036854775807 := h x (List.mem_of_getElem? hk)

/-! ### trees -/
def tv (s : Txt) : Value := .string ⟨s.toArray⟩
/-- a slice of n attributes at A reads as l; it lies in blocks of T -/
def AtsIn (T : Nat → Prop) (w : World) (A : Option Addr) (n : Nat) (l : List (Txt × Txt)) : Prop :=
  l.length = n ∧ ∀ q x, l[q]? = some x → ∃ ad, A = some ad ∧ T ad.block ∧ x.1.length ≤ maxLen ∧ x.2.length ≤ maxLen ∧
    w.cell? (ad.add (q * 2)) = some (.string ⟨x.1.toArray⟩) ∧ w.cell? ⟨(ad.add (q * 2)).block, (ad.add (q * 2)).off + 1, none⟩ = some (.string ⟨x.2.toArray⟩)
/-- the six cells of a node -/
def Six (w : World) (E : Addr) (t : Nd) (aA : Option Addr) (an ac : Nat) (kA : Option Addr) (kn kc : Nat) : Prop :=
  w.cell? E = some (.int .u64 (t.id : Int)) ∧ w.cell? ⟨E.block, E.off + 1, none⟩ = some (.bool t.leaf) ∧ w.cell? ⟨E.block, E.off + 2, none⟩ = some (.string ⟨t.label.toArray⟩) ∧
    w.cell? ⟨E.block, E.off + 3, none⟩ = some (.slice aA an ac) ∧ w.cell? ⟨E.block, E.off + 4, none⟩ = some (.string ⟨t.text.toArray⟩) ∧ w.cell? ⟨E.block, E.off + 5, none⟩ = some (.slice kA kn kc)
mutual
/-- what a node's two slices lead to is that of the tree -/
def NodeV (T : Nat → Prop) (w : World) (aA : Option Addr) (an ac : Nat) (kA : Option Addr) (kn kc : Nat) : Nd → Prop
  | .mk i _ b ps x ks => i < 18446744073709551616 ∧ b.length ≤ maxLen ∧ x.length ≤ maxLen ∧ AtsIn T w aA an ps ∧ an ≤ ac ∧ ac ≤ maxLen ∧ (aA = none → ac = 0) ∧
    ks.length = kn ∧ kn ≤ kc ∧ kc ≤ maxLen ∧ (kA = none → kc = 0) ∧ RowAt T w kA 0 ks
/-- from the q-th element on, a row of nodes at A reads as these -/
def RowAt (T : Nat → Prop) (w : World) (A : Option Addr) : Nat → List Nd → Prop
  | _, [] => True
  | q, t :: r => (∃ ad aA an ac kA kn kc, A = some ad ∧ T ad.block ∧ Six w (ad.add (q * 6)) t aA an ac kA kn kc ∧ NodeV T w aA an ac kA kn kc t) ∧ RowAt T w A (q + 1) r
end
/-- a node lies at E -/
def NodeAt (T : Nat → Prop) (w : World) (E : Addr) (t : Nd) : Prop := T E.block ∧ ∃ aA an ac kA kn kc, Six w E t aA an ac kA kn kc ∧ NodeV T w aA an ac kA kn kc t
structure NFacts (T : Nat → Prop) (w : World) (aA : Option Addr) (an ac : Nat) (kA : Option Addr) (kn kc : Nat) (t : Nd) : Prop where
  id : t.id < 18446744073709551616
  label : t.label.length ≤ maxLen
  text : t.text.length ≤ maxLen
  ats : AtsIn T w aA an t.attrs
  anc : an ≤ ac
  acm : ac ≤ maxLen
  anil : aA = none → ac = 0
  kl : t.kids.length = kn
  knc : kn ≤ kc
  kcm : kc ≤ maxLen
  knil : kA = none → kc = 0
  row : RowAt T w kA 0 t.kids
section
variable {T T' : Nat → Prop} {w w' : World} {aA kA A : Option Addr} {an ac kn kc : Nat} {t : Nd}
theorem NodeV.facts (h : NodeV T w aA an ac kA kn kc t) : NFacts T w aA an ac kA kn kc t := by
  cases t
  simp only [NodeV] at h
  obtain ⟨h1, h2, h3, h4, h5, h6, h7, h8, h9, h10, h11, h12⟩ := h
  exact ⟨h1, h2, h3, h4, h5, h6, h7, h8, h9, h10, h11, h12⟩
theorem NFacts.node (h : NFacts T w aA an ac kA kn kc t) : NodeV T w aA an ac kA kn kc t := by
  cases t
  simp only [NodeV]
  obtain ⟨h1, h2, h3, h4, h5, h6, h7, h8, h9, h10, h11, h12⟩ := h
  exact ⟨h1, h2, h3, h4, h5, h6, h7, h8, h9, h10, h11, h12⟩
theorem RowAt.at_ : ∀ {l : List Nd} {q0 q : Nat} {t : Nd}, RowAt T w A q0 l → l[q]? = some t → ∃ ad, A = some ad ∧ NodeAt T w (ad.add ((q0 + q) * 6)) t
  | [], q0, q, t, _, h => by simp at h
  | k :: r, q0, 0, t, h, hq => by
    simp only [RowAt] at h
    simp at hq
    subst hq
    obtain ⟨⟨ad, aA, an, ac, kA, kn, kc, e, hT, h6, hv⟩, _⟩ := h
    exact ⟨ad, e, by rw [block_add]; exact hT, aA, an, ac, kA, kn, kc, h6, hv⟩
  | k :: r, q0, q + 1, t, h, hq => by
    simp only [RowAt] at h
    obtain ⟨ad, e, hn⟩ := h.2.at_ (q := q) (by simpa using hq)
    exact ⟨ad, e, by rw [show q0 + (q + 1) = q0 + 1 + q by omega]; exact hn⟩
theorem RowAt.of : ∀ (l : List Nd) (q0 : Nat), (∀ q t, l[q]? = some t → ∃ ad, A = some ad ∧ NodeAt T w (ad.add ((q0 + q) * 6)) t) → RowAt T w A q0 l
  | [], q0, _ => by simp [RowAt]
  | k :: r, q0, h => by
    simp only [RowAt]
    obtain ⟨ad, e, hT, aA, an, ac, kA, kn, kc, h6, hv⟩ := h 0 k rfl
    rw [block_add] at hT
    exact ⟨⟨ad, aA, an, ac, kA, kn, kc, e, hT, h6, hv⟩, RowAt.of r (q0 + 1) fun q t hq => by
      obtain ⟨ad, e, hn⟩ := h (q + 1) t (by simpa using hq)
      exact ⟨ad, e, by rw [show q0 + 1 + q = q0 + (q + 1) by omega]; exact hn⟩⟩
theorem Six.kept {E : Addr} (h : Six w E t aA an ac kA kn kc) (hb : w'.heap[E.block]? = w.heap[E.block]?) : Six w' E t aA an ac kA kn kc := by
  obtain ⟨h1, h2, h3, h4, h5, h6⟩ := h
  have c : ∀ o, w'.cell? ⟨E.block, o, none⟩ = w.cell? ⟨E.block, o, none⟩ := fun o => World.cell?_of_block (w := w) (w' := w') (a := ⟨E.block, o, none⟩) hb
  exact ⟨(World.cell?_of_block (w := w) (w' := w') (a := E) hb).trans h1, (c _).trans h2, (c _).trans h3, (c _).trans h4, (c _).trans h5, (c _).trans h6⟩
theorem AtsIn.kept {n : Nat} {l : List (Txt × Txt)} (hT : ∀ k, T k → T' k) (hk : ∀ k, T k → w'.heap[k]? = w.heap[k]?) (h : AtsIn T w A n l) : AtsIn T' w' A n l := by
  refine ⟨h.1, fun q x hx => ?_⟩
  obtain ⟨ad, e, ht, l1, l2, c1, c2⟩ := h.2 q x hx
  have hb : w'.heap[(ad.add (q * 2)).block]? = w.heap[(ad.add (q * 2)).block]? := by rw [block_add]; exact hk _ ht
  exact ⟨ad, e, hT _ ht, l1, l2, (World.cell?_of_block (w := w) (w' := w') (a := ad.add (q * 2)) hb).trans c1, (World.cell?_of_block (w := w) (w' := w') (a := ⟨(ad.add (q * 2)).block, (ad.add (q * 2)).off + 1, none⟩) hb).trans c2⟩
mutual
theorem NodeV.kept (hT : ∀ k, T k → T' k) (hk : ∀ k, T k → w'.heap[k]? = w.heap[k]?) : ∀ (t : Nd) (aA : Option Addr) (an ac : Nat) (kA : Option Addr) (kn kc : Nat), NodeV T w aA an ac kA kn kc t → NodeV T' w' aA an ac kA kn kc t
  | .mk i l b ps x ks, aA, an, ac, kA, kn, kc, h => by
    simp only [NodeV] at h ⊢
    obtain ⟨h1, h2, h3, h4, h5, h6, h7, h8, h9, h10, h11, h12⟩ := h
    exact ⟨h1, h2, h3, h4.kept hT hk, h5, h6, h7, h8, h9, h10, h11, RowAt.kept hT hk ks kA 0 h12⟩
theorem RowAt.kept (hT : ∀ k, T k → T' k) (hk : ∀ k, T k → w'.heap[k]? = w.heap[k]?) : ∀ (l : List Nd) (A : Option Addr) (q : Nat), RowAt T w A q l → RowAt T' w' A q l
  | [], _, _, _ => by simp [RowAt]
  | t :: r, A, q, h => by
    simp only [RowAt] at h ⊢
    obtain ⟨⟨ad, aA, an, ac, kA, kn, kc, e, ht, h6, hv⟩, hr⟩ := h
    exact ⟨⟨ad, aA, an, ac, kA, kn, kc, e, hT _ ht, h6.kept (by rw [block_add]; exact hk _ ht), NodeV.kept hT hk t aA an ac kA kn kc hv⟩, RowAt.kept hT hk r A (q + 1) hr⟩
end
theorem NodeAt.kept {E : Addr} (hT : ∀ k, T k → T' k) (hk : ∀ k, T k → w'.heap[k]? = w.heap[k]?) (h : NodeAt T w E t) : NodeAt T' w' E t := by
  obtain ⟨ht, aA, an, ac, kA, kn, kc, h6, hv⟩ := h
  exact ⟨hT _ ht, aA, an, ac, kA, kn, kc, h6.kept (hk _ ht), NodeV.kept hT hk t aA an ac kA kn kc hv⟩
/-- the rest of a row -/
theorem RowAt.from_ {ad : Addr} (lo : Nat) : ∀ (l : List Nd) (q : Nat), RowAt T w (some ad) (lo + q) l → RowAt T w (some (ad.add (lo * 6))) q l
  | [], _, _ => by simp [RowAt]
  | t :: r, q, h => by
    simp only [RowAt] at h ⊢
    obtain ⟨⟨ad', aA, an, ac, kA, kn, kc, e, ht, h6, hv⟩, hr⟩ := h
    injection e with e
    subst e
    exact ⟨⟨_, aA, an, ac, kA, kn, kc, rfl, by rw [block_add]; exact ht, by rw [add_add, show lo * 6 + q * 6 = (lo + q) * 6 by omega]; exact h6, hv⟩, RowAt.from_ lo r (q + 1) hr⟩
theorem RowAt.none_nil {q : Nat} {l : List Nd} (h : RowAt T w none q l) : l = [] := by
  cases l with
  | nil => rfl
  | cons t r =>
    simp only [RowAt] at h
    obtain ⟨⟨ad, _, _, _, _, _, _, e, _⟩, _⟩ := h
    cases e
theorem zero_node : NodeV T w none 0 0 none 0 0 Nd.zero := by
  refine NFacts.node ⟨by decide, Nat.zero_le _, Nat.zero_le _, ⟨rfl, fun q x h => by simp [Nd.zero, Nd.attrs] at h⟩, Nat.le_refl _, Nat.zero_le _, fun _ => rfl, rfl, Nat.le_refl _, Nat.zero_le _, fun _ => rfl, ?_⟩
  simp [Nd.zero, Nd.kids, RowAt]
theorem AtsIn.at_ {n q : Nat} {l : List (Txt × Txt)} (h : AtsIn T w A n l) (hq : q < n) : ∃ ad x, A = some ad ∧ l[q]? = some x ∧ T ad.block ∧ x.1.length ≤ maxLen ∧ x.2.length ≤ maxLen ∧
    w.cell? (ad.add (q * 2)) = some (.string ⟨x.1.toArray⟩) ∧ w.cell? ⟨(ad.add (q * 2)).block, (ad.add (q * 2)).off + 1, none⟩ = some (.string ⟨x.2.toArray⟩) := by
  have hl : q < l.length := by rw [h.1]; exact hq
  have hg : l[q]? = some l[q] := List.getElem?_eq_getElem hl
  obtain ⟨ad, e, hb, hc⟩ := h.2 q _ hg
  exact ⟨ad, _, e, hg, hb, hc⟩
end
/-- a node's value -/
def val6 (t : Nd) (aA : Option Addr) (an ac : Nat) (kA : Option Addr) (kn kc : Nat) : Array Value :=
  #[.int .u64 (t.id : Int), .bool t.leaf, .string ⟨t.label.toArray⟩, .slice aA an ac, .string ⟨t.text.toArray⟩, .slice kA kn kc]
/-- the blocks that are there -/
def Old (w : World) (k : Nat) : Prop := k < w.heap.size
theorem old_below {w w' : World} (h : Below w.heap.size w w') : (∀ k, Old w k → Old w' k) ∧ ∀ k, Old w k → w'.heap[k]? = w.heap[k]? := ⟨fun _ hk => Nat.lt_of_lt_of_le hk h.size, fun k hk => h.block k hk⟩
theorem NodeV.below {w w' : World} {t : Nd} {aA kA : Option Addr} {an ac kn kc : Nat} (h : NodeV (Old w) w aA an ac kA kn kc t) (hb : Below w.heap.size w w') : NodeV (Old w') w' aA an ac kA kn kc t := h.kept (old_below hb).1 (old_below hb).2
theorem NodeAt.below {w w' : World} {t : Nd} {E : Addr} (h : NodeAt (Old w) w E t) (hb : Below w.heap.size w w') : NodeAt (Old w') w' E t := h.kept (old_below hb).1 (old_below hb).2
end Go.Proofs.Ytoeblaecldhcaaa
/- What the frame tells of a tree that came in. -/
namespace Go.Proofs.Ytoeblaecldhcaaa
set_option linter.unusedVariables false
open Go.RowKit Go.ChangeShapes Go.WideShapes Go.Deep
set_option maxRecDepth 20000

theorem node_cells : Try.prog.cellsOf 33 = 6 := by kernel_rfl
theorem attr_cells : Try.prog.cellsOf 68 = 2 := by kernel_rfl
theorem one_cell {t : TypeId} (h : Try.prog.cellsOf t = 1 := by kernel_rfl) : Try.prog.cellsOf t = 1 := h
theorem node_fields : ∃ f0 f1 f2 f3 f4 f5 : Field, Try.prog.underlying 33 = some (.struct #[f0, f1, f2, f3, f4, f5]) ∧ (f0.type = 23 ∧ f0.offset = 0) ∧ (f1.type = 4 ∧ f1.offset = 1) ∧ (f2.type = 9 ∧ f2.offset = 2) ∧
    (f3.type = 30 ∧ f3.offset = 3) ∧ (f4.type = 9 ∧ f4.offset = 4) ∧ f5.type = 31 ∧ f5.offset = 5 :=
  ⟨_, _, _, _, _, _, Try.underlying33, ⟨rfl, rfl⟩, ⟨rfl, rfl⟩, ⟨rfl, rfl⟩, ⟨rfl, rfl⟩, ⟨rfl, rfl⟩, rfl, rfl⟩
theorem attr_fields : ∃ f0 f1 : Field, Try.prog.underlying 68 = some (.struct #[f0, f1]) ∧ (f0.type = 9 ∧ f0.offset = 0) ∧ f1.type = 9 ∧ f1.offset = 1 :=
  ⟨_, _, Try.underlying68, ⟨rfl, rfl⟩, rfl, rfl⟩
/-- a list of what there is at each place -/
theorem list_of {α : Type} {R : Nat → α → Prop} : ∀ n : Nat, (∀ i, i < n → ∃ y, R i y) → ∃ xs : List α, xs.length = n ∧ ∀ q y, xs[q]? = some y → R q y
  | 0, _ => ⟨[], rfl, fun q y h => by simp at h⟩
  | n + 1, h => by
    obtain ⟨xs, hl, hx⟩ := list_of n (fun i hi => h i (by omega))
    obtain ⟨y, hy⟩ := h n (by omega)
    refine ⟨xs ++ [y], by simp [hl], fun q z hz => ?_⟩
    rw [List.getElem?_append] at hz
    split at hz
    · exact hx q z hz
    · have hq : q = n := by
        rcases Nat.lt_or_ge n q with hlt | hle
        · rw [List.getElem?_eq_none (by simp; omega)] at hz
          cases hz
        · omega
      subst hq
      rw [hl, Nat.sub_self] at hz
      simp at hz
      subst hz
      exact hy
section
variable {H : Type} {enc : TypeId × Value → H} {W : World} {b0 : Nat}
theorem add_block_lt {E : Addr} {i : Nat} {v : Value} (h : W.cell? (E.add i) = some v) : E.block < W.heap.size := by
  have hb := World.block_lt_of_cell? W _ h
  rwa [block_add] at hb
theorem attr_in {fuel : Nat} {E : Addr} {cs : List Value} {x : DataW H × List MemPlace} (hc : W.cells? b0 E 2 = some cs) (h : DataW.trod enc Try.prog W b0 (fun _ => true) true fuel 68 cs = some x) :
    ∃ y : Txt × Txt, y.1.length ≤ maxLen ∧ y.2.length ≤ maxLen ∧ W.cell? (E.add 0) = some (.string ⟨y.1.toArray⟩) ∧ W.cell? (E.add 1) = some (.string ⟨y.2.toArray⟩) := by
  obtain ⟨f0, f1, hu, ⟨t0, o0⟩, t1, o1⟩ := attr_fields
  obtain ⟨ys, n, -, -, hlen, hyl, hf⟩ := DataW.trod_struct hu h
  obtain ⟨-, hcl, hat⟩ := World.cells?_some hc
  obtain ⟨v0, v1, rfl⟩ : ∃ v0 v1, cs = [v0, v1] := by
    match cs, hcl with
    | [a, b], _ => exact ⟨a, b, rfl⟩
  have g0 := hf 0 f0 rfl
  have g1 := hf 1 f1 rfl
  rw [t0, o0, one_cell] at g0
  rw [t1, o1, one_cell] at g1
  have hys : ∀ i, i < 2 → ∃ y, ys[i]? = some y := fun i hi => ⟨_, List.getElem?_eq_getElem (by rw [hyl]; exact hi)⟩
  obtain ⟨y0, e0⟩ := hys 0 (by omega)
  obtain ⟨y1, e1⟩ := hys 1 (by omega)
  obtain ⟨s0, hs0, -, w0⟩ := DataW.trod_string Try.underlying9 (g0.trans e0)
  obtain ⟨s1, hs1, -, w1⟩ := DataW.trod_string Try.underlying9 (g1.trans e1)
  have a0 := hat 0 (by omega)
  have a1 := hat 1 (by omega)
  simp at hs0 hs1 a0 a1
  subst hs0 hs1
  exact ⟨(s0.data.toList, s1.data.toList), by rw [Array.length_toList]; exact w0, by rw [Array.length_toList]; exact w1, a0, a1⟩
theorem attrs_in {fuel : Nat} {v : Value} {x : DataW H × List MemPlace} (h : DataW.trod enc Try.prog W b0 (fun _ => true) true fuel 30 [v] = some x) :
    ∃ (A : Option Addr) (n c : Nat) (l : List (Txt × Txt)), v = .slice A n c ∧ AtsIn (Old W) W A n l ∧ n ≤ c ∧ c ≤ maxLen ∧ (A = none → c = 0) := by
  rcases DataW.trod_slice Try.underlying30 h with ⟨hcs, -⟩ | ⟨a, len, cap, elems, rest, n, -, hcs, -, -, hl, hm, hel, hi, -⟩
  · simp at hcs
    exact ⟨none, 0, 0, [], hcs, ⟨rfl, fun q x h => by simp at h⟩, Nat.le_refl _, Nat.zero_le _, fun _ => rfl⟩
  · simp at hcs
    rw [attr_cells] at hi
    obtain ⟨xs, hxl, hx⟩ := list_of (R := fun i (y : Txt × Txt) => y.1.length ≤ maxLen ∧ y.2.length ≤ maxLen ∧ W.cell? ((a.add (i * 2)).add 0) = some (.string ⟨y.1.toArray⟩) ∧ W.cell? ((a.add (i * 2)).add 1) = some (.string ⟨y.2.toArray⟩)) len fun i hil => by
      have key := hi i hil
      rw [List.getElem?_eq_getElem (by omega)] at key
      obtain ⟨cs', h1, h2⟩ := Option.bind_eq_some_iff.1 key
      exact attr_in h1 h2
    refine ⟨some a, len, cap, xs, hcs, ⟨hxl, fun q y hq => ?_⟩, hl, hm, fun e => by cases e⟩
    obtain ⟨l1, l2, c1, c2⟩ := hx q y hq
    refine ⟨a, rfl, ?_, l1, l2, ?_, ?_⟩
    · have hb := add_block_lt c1
      rwa [block_add] at hb
    · unfold Addr.add at c1 ⊢
      simpa using c1
    · have : (a.add (q * 2)).add 1 = ⟨(a.add (q * 2)).block, (a.add (q * 2)).off + 1, none⟩ := by unfold Addr.add; simp
      rw [← this]
      exact c2
/-- a tree -/
theorem node_in : ∀ (fuel : Nat) (cs : List Value) (x : DataW H × List MemPlace), DataW.trod enc Try.prog W b0 (fun _ => true) true fuel 33 cs = some x →
    ∃ (t : Nd) (aA : Option Addr) (an ac : Nat) (kA : Option Addr) (kn kc : Nat), cs = (val6 t aA an ac kA kn kc).toList ∧ NodeV (Old W) W aA an ac kA kn kc t := by
  intro fuel
  induction fuel using Nat.strongRecOn with
  | _ fuel ih =>
  intro cs x h
  obtain ⟨f0, f1, f2, f3, f4, f5, hu, ⟨t0, o0⟩, ⟨t1, o1⟩, ⟨t2, o2⟩, ⟨t3, o3⟩, ⟨t4, o4⟩, t5, o5⟩ := node_fields
  obtain ⟨ys, n, hn, -, hlen, hyl, hf⟩ := DataW.trod_struct hu h
  rw [node_cells] at hlen
  obtain ⟨v0, v1, v2, v3, v4, v5, rfl⟩ : ∃ v0 v1 v2 v3 v4 v5, cs = [v0, v1, v2, v3, v4, v5] := by
    match cs, hlen with
    | [a, b, c, d, e, f], _ => exact ⟨a, b, c, d, e, f, rfl⟩
  have g0 := hf 0 f0 rfl
  have g1 := hf 1 f1 rfl
  have g2 := hf 2 f2 rfl
  have g3 := hf 3 f3 rfl
  have g4 := hf 4 f4 rfl
  have g5 := hf 5 f5 rfl
  rw [t0, o0, one_cell] at g0
  rw [t1, o1, one_cell] at g1
  rw [t2, o2, one_cell] at g2
  rw [t3, o3, one_cell] at g3
  rw [t4, o4, one_cell] at g4
  rw [t5, o5, one_cell] at g5
  have hys : ∀ i, i < 6 → ∃ y, ys[i]? = some y := fun i hi => ⟨_, List.getElem?_eq_getElem (by rw [hyl]; exact hi)⟩
  obtain ⟨y0, e0⟩ := hys 0 (by omega)
  obtain ⟨y1, e1⟩ := hys 1 (by omega)
  obtain ⟨y2, e2⟩ := hys 2 (by omega)
  obtain ⟨y3, e3⟩ := hys 3 (by omega)
  obtain ⟨y4, e4⟩ := hys 4 (by omega)
  obtain ⟨y5, e5⟩ := hys 5 (by omega)
  obtain ⟨i, hi, -, wi⟩ := DataW.trod_int Try.underlying23 (g0.trans e0)
  obtain ⟨lf, hlf, -⟩ := DataW.trod_bool Try.underlying4 (g1.trans e1)
  obtain ⟨s2, hs2, -, w2⟩ := DataW.trod_string Try.underlying9 (g2.trans e2)
  obtain ⟨s4, hs4, -, w4⟩ := DataW.trod_string Try.underlying9 (g4.trans e4)
  have hib : 0 ≤ i ∧ i ≤ 18446744073709551615 := by simpa [Lit.wf, IntKind.min, IntKind.max, IntKind.signed, IntKind.bits] using wi
  obtain ⟨iN, rfl⟩ : ∃ iN : Nat, i = (iN : Int) := ⟨i.toNat, by omega⟩
  obtain ⟨aA, an, ac, l, ha, hA, hac, ham, hanil⟩ := attrs_in (g3.trans e3)
  have hk := g5.trans e5
  simp at hi hlf hs2 hs4 ha
  subst hi hlf hs2 hs4 ha
  rcases DataW.trod_slice Try.underlying31 hk with ⟨hcs, -⟩ | ⟨a, len, cap, elems, rest, m, hm1, hcs, -, -, hl, hm, hel, hi, -⟩
  · simp at hcs
    subst hcs
    refine ⟨.mk iN lf s2.data.toList l s4.data.toList [], aA, an, ac, none, 0, 0, rfl, NFacts.node ⟨by show iN < _; omega, by show s2.data.toList.length ≤ _; rw [Array.length_toList]; exact w2, by show s4.data.toList.length ≤ _; rw [Array.length_toList]; exact w4, hA, hac, ham, hanil, rfl, Nat.le_refl _, Nat.zero_le _, fun _ => rfl, ?_⟩⟩
    show RowAt (Old W) W none 0 []
    simp [RowAt]
  · simp at hcs
    subst hcs
    rw [node_cells] at hi
    obtain ⟨xs, hxl, hx⟩ := list_of (R := fun i (y : Nd) => NodeAt (Old W) W (a.add (i * 6)) y) len fun i hil => by
      have key := hi i hil
      rw [List.getElem?_eq_getElem (by omega)] at key
      obtain ⟨cs', h1, h2⟩ := Option.bind_eq_some_iff.1 key
      obtain ⟨t, bA, bn, bc, kA, kn, kc, rfl, hv⟩ := ih m (by omega) _ _ h2
      obtain ⟨-, hcl, hat⟩ := World.cells?_some h1
      have a0 := hat 0 (by omega)
      have a1 := hat 1 (by omega)
      have a2 := hat 2 (by omega)
      have a3 := hat 3 (by omega)
      have a4 := hat 4 (by omega)
      have a5 := hat 5 (by omega)
      have hz : (a.add (i * 6)).add 0 = a.add (i * 6) := by unfold Addr.add; simp
      have hs : ∀ j, 0 < j → (a.add (i * 6)).add j = ⟨(a.add (i * 6)).block, (a.add (i * 6)).off + j, none⟩ := fun j hj => by
        generalize a.add (i * 6) = b
        unfold Addr.add
        rw [if_neg (by omega)]
      rw [hz] at a0
      rw [hs _ (by omega)] at a1 a2 a3 a4 a5
      have hlt := World.block_lt_of_cell? W _ a0
      exact ⟨t, hlt, bA, bn, bc, kA, kn, kc, ⟨a0, a1, a2, a3, a4, a5⟩, hv⟩
    refine ⟨.mk iN lf s2.data.toList l s4.data.toList xs, aA, an, ac, some a, len, cap, rfl, NFacts.node ⟨by show iN < _; omega, by show s2.data.toList.length ≤ _; rw [Array.length_toList]; exact w2, by show s4.data.toList.length ≤ _; rw [Array.length_toList]; exact w4, hA, hac, ham, hanil, hxl, hl, hm, (fun e => by cases e), ?_⟩⟩
    exact RowAt.of xs 0 fun q t hq => ⟨a, rfl, by rw [Nat.zero_add]; exact hx q t hq⟩
/-- a row of numbers -/
theorem ints_in {fuel : Nat} {v : Value} {x : DataW H × List MemPlace} (h : DataW.trod enc Try.prog W b0 (fun _ => true) true fuel 22 [v] = some x) :
    ∃ (A : Option Addr) (n c : Nat) (l : List Int), v = .slice A n c ∧ Its W A n l ∧ n ≤ c ∧ c ≤ maxLen ∧ Fit l := by
  rcases DataW.trod_slice Try.underlying22 h with ⟨hcs, -⟩ | ⟨a, len, cap, elems, rest, n, -, hcs, -, -, hl, hm, hel, hi, -⟩
  · simp at hcs
    exact ⟨none, 0, 0, [], hcs, Its.none_ W, Nat.le_refl _, Nat.zero_le _, fun x hx => by cases hx⟩
  · simp at hcs
    rw [one_cell (t := 3)] at hi
    obtain ⟨xs, hxl, hx⟩ := list_of (R := fun i (y : Int) => (-9223372036854775808 ≤ y ∧ y ≤ 9223372036854775807) ∧ W.cell? (a.add i) = some (.int .i64 y)) len fun i hil => by
      have key := hi i hil
      rw [List.getElem?_eq_getElem (by omega)] at key
      obtain ⟨cs', h1, h2⟩ := Option.bind_eq_some_iff.1 key
      obtain ⟨k, rfl, -, wk⟩ := DataW.trod_int Try.underlying3 h2
      obtain ⟨-, hcl, hat⟩ := World.cells?_some h1
      have a0 := hat 0 (by omega)
      have hz : (a.add (i * 1)).add 0 = a.add i := by rw [Nat.mul_one]; unfold Addr.add; simp
      rw [hz] at a0
      exact ⟨k, by simpa [Lit.wf, IntKind.min, IntKind.max, IntKind.signed, IntKind.bits] using wk, a0⟩
    refine ⟨some a, len, cap, xs, hcs, ⟨hxl, fun q y hq => ?_⟩, hl, hm, fun y hy => ?_⟩
    · have hc := (hx q y hq).2
      exact ⟨a, rfl, add_block_lt hc, hc⟩
    · obtain ⟨q, hq⟩ := List.getElem?_of_mem hy
      exact (hx q y hq).1
end
end Go.Proofs.Ytoeblaecldhcaaa
/- Keys; attributes compared: the program's, the document's. -/
namespace Go.Proofs.Ytoeblaecldhcaaa
set_option linter.unusedVariables false
open Go.RowKit
set_option maxRecDepth 20000

theorem keyB_yes {s : Txt} (h1 : 1 ≤ s.length) (h2 : s.length ≤ 64) : keyB s = true := by unfold keyB; exact decide_eq_true ⟨h1, h2⟩
theorem keyB_no1 {s : Txt} (h1 : s.length < 1) : keyB s = false := by unfold keyB; exact decide_eq_false (fun h => by omega)
theorem keyB_no2 {s : Txt} (h1 : 64 < s.length) : keyB s = false := by unfold keyB; exact decide_eq_false (fun h => by omega)
theorem key_any (s : Txt) (w : World) (hs : s.length ≤ maxLen) : Calls Try.prog 41 #[.string ⟨s.toArray⟩] w fun e w' => e = .returned (.bool (keyB s)) ∧ w = w' := by
  unfold maxLen at hs
  by_cases h1 : 1 ≤ s.length
  · by_cases h2 : s.length ≤ 64
    · have hk := Lib.hid (keyB_yes h1 h2)
      have i1 : (1 : Int) ≤ (s.length : Int) := by omega
      have i2 : (s.length : Int) ≤ 64 := by omega
      go_enter Try.func41, Try.ntmps41
      go_wp2_with fail
      go_ret
      exact ⟨by rw [hk.out]; rfl, rfl⟩
    · have hk := Lib.hid (keyB_no2 (s := s) (by omega))
      have i1 : (1 : Int) ≤ (s.length : Int) := by omega
      have i2 : ¬ (s.length : Int) ≤ 64 := by omega
      go_enter Try.func41, Try.ntmps41
      go_wp2_with fail
      go_ret
      exact ⟨by rw [hk.out]; rfl, rfl⟩
  · have hk := Lib.hid (keyB_no1 (s := s) (by omega))
    have i1 : ¬ (1 : Int) ≤ (s.length : Int) := by omega
    go_enter Try.func41, Try.ntmps41
    go_wp2_with fail
    go_ret
    exact ⟨by rw [hk.out]; rfl, rfl⟩
theorem rkey_any (s : Txt) (w : World) (hs : s.length ≤ maxLen) : Calls Try.prog 45 #[.string ⟨s.toArray⟩] w fun e w' => e = .returned (.bool (keyB s)) ∧ w = w' := by
  unfold maxLen at hs
  by_cases h1 : 1 ≤ s.length
  · by_cases h2 : s.length ≤ 64
    · have hk := Lib.hid (keyB_yes h1 h2)
      have i1 : (1 : Int) ≤ (s.length : Int) := by omega
      have i2 : (s.length : Int) ≤ 64 := by omega
      go_enter Try.func45, Try.ntmps45
      go_wp2_with fail
      go_ret
      exact ⟨by rw [hk.out]; rfl, rfl⟩
    · have hk := Lib.hid (keyB_no2 (s := s) (by omega))
      have i1 : (1 : Int) ≤ (s.length : Int) := by omega
      have i2 : ¬ (s.length : Int) ≤ 64 := by omega
      go_enter Try.func45, Try.ntmps45
      go_wp2_with fail
      go_ret
      exact ⟨by rw [hk.out]; rfl, rfl⟩
  · have hk := Lib.hid (keyB_no1 (s := s) (by omega))
    have i1 : ¬ (1 : Int) ≤ (s.length : Int) := by omega
    go_enter Try.func45, Try.ntmps45
    go_wp2_with fail
    go_ret
    exact ⟨by rw [hk.out]; rfl, rfl⟩

/-! ### rows of attributes compared -/
theorem beq_take {α : Type} [BEq α] [LawfulBEq α] {l m : List α} {q : Nat} {x y : α} (hx : l[q]? = some x) (hy : m[q]? = some y) (h : l.take q = m.take q) (e : x = y) : l.take (q + 1) = m.take (q + 1) := by
  rw [List.take_add_one, List.take_add_one, h, hx, hy, e]
theorem ne_at {α : Type} [BEq α] [LawfulBEq α] {l m : List α} {q : Nat} {x y : α} (hx : l[q]? = some x) (hy : m[q]? = some y) (e : x ≠ y) : (l == m) = false := by
  rw [beq_eq_false_iff_ne]
  intro h
  subst h
  rw [hx] at hy
  injection hy with hy
  exact e hy
theorem ne_len {α : Type} [BEq α] [LawfulBEq α] {l m : List α} (e : l.length ≠ m.length) : (l == m) = false := by
  rw [beq_eq_false_iff_ne]
  intro h
  subst h
  exact e rfl
theorem eq_full {α : Type} [BEq α] [LawfulBEq α] {l m : List α} {n : Nat} (hl : l.length = n) (hm : m.length = n) (h : l.take n = m.take n) : (l == m) = true := by
  rw [List.take_of_length_le (by omega), List.take_of_length_le (by omega)] at h
  simp [h]
theorem part_str (w : World) (cs : Array Value) (o : Nat) (v : Value) (h : cs[o]? = some v) : (part 9 cs o).run Try.prog w = .ok v w := by
  simp [part, isAgg, run_underlying Try.underlying9, h]
def atE (x y : Txt × Txt) : Bool := decide (x.1 = y.1 ∧ x.2 = y.2)
theorem atE_iff {x y : Txt × Txt} : atE x y = true ↔ x = y := by
  obtain ⟨a, b⟩ := x
  obtain ⟨a', b'⟩ := y
  simp [atE]
theorem run_neq_attr (w : World) (a b a' b' : Txt) :
    (binOp .neq 68 (.agg #[.string ⟨a.toArray⟩, .string ⟨b.toArray⟩]) (.agg #[.string ⟨a'.toArray⟩, .string ⟨b'.toArray⟩])).run Try.prog w = .ok (.bool (!(atE (a, b) (a', b')))) w := by
  rw [run_neq_struct, run_equalIn_agg w 9999 68 _ _ (by kernel_rfl) (by kernel_rfl)]
  simp only [Program.fieldsOf, Try.underlying68, Op.eqFields]
  have e0 : "Key" ≠ "_" := by decide
  have e1 : "Value" ≠ "_" := by decide
  rw [if_pos e0]
  simp only [Sem.run_bind]
  rw [part_str w #[Value.string { data := a.toArray }, Value.string { data := b.toArray }] 0 (.string ⟨a.toArray⟩) rfl]
  simp only [Result.andThen_ok]
  rw [part_str w #[Value.string { data := a'.toArray }, Value.string { data := b'.toArray }] 0 (.string ⟨a'.toArray⟩) rfl]
  simp only [Result.andThen_ok]
  rw [show (Op.equalIn 9999 9 (.string ⟨a.toArray⟩) (.string ⟨a'.toArray⟩)).run Try.prog w = _ from run_equalIn_string w 9998 9 _ _ Try.underlying9]
  simp only [Result.andThen_ok, ByteArray.toList_eq]
  by_cases ha : a = a'
  · subst ha
    simp only [BEq.rfl, Bool.not_true, Bool.false_eq_true, if_false]
    rw [if_pos e1]
    simp only [Sem.run_bind]
    rw [part_str w #[Value.string { data := a.toArray }, Value.string { data := b.toArray }] 1 (.string ⟨b.toArray⟩) rfl]
    simp only [Result.andThen_ok]
    rw [part_str w #[Value.string { data := a.toArray }, Value.string { data := b'.toArray }] 1 (.string ⟨b'.toArray⟩) rfl]
    simp only [Result.andThen_ok]
    rw [show (Op.equalIn 9999 9 (.string ⟨b.toArray⟩) (.string ⟨b'.toArray⟩)).run Try.prog w = _ from run_equalIn_string w 9998 9 _ _ Try.underlying9]
    simp only [Result.andThen_ok, ByteArray.toList_eq]
    by_cases hc : b = b'
    · subst hc; simp [atE]
    · simp [atE, hc]
  · simp [atE, ha]
theorem drewN_two (w : World) (a b : Nat) : (w.drewN a).drewN b = w.drewN (a + b) := World.drewN_drewN ..
set_option maxHeartbeats 2000000 in
theorem atsEq_any (w : World) (T T2 : Nat → Prop) (A A2 : Option Addr) (n c n2 c2 : Nat) (xs ys : List (Txt × Txt)) (hx : AtsIn T w A n xs) (hy : AtsIn T2 w A2 n2 ys) (hT : ∀ k, T k → k < w.heap.size) (hT2 : ∀ k, T2 k → k < w.heap.size) (hn : n ≤ maxLen) (hn2 : n2 ≤ maxLen) :
    Calls Try.prog 104 #[.slice A n c, .slice A2 n2 c2] w fun e w' => e = .returned (.bool (xs == ys)) ∧ ∃ d, w' = w.drewN d := by
  have hx' := Lib.hid hx
  have hy' := Lib.hid hy
  have hlx := Lib.hid hx.1
  have hly := Lib.hid hy.1
  clear hx hy
  have hn' : (n : Int) ≤ 9223372036854775807 := by unfold maxLen at hn; omega
  have hn2' : (n2 : Int) ≤ 9223372036854775807 := by unfold maxLen at hn2; omega
  have hneq := run_neq_attr
  by_cases hl : n = n2
  · subst hl
    go_enter Try.func104, Try.ntmps104
    go_wp2_with fail
    go_loopw [13] (fun k wr => ∃ q : Nat, q ≤ n ∧ k = .int .i64 (q : Int) ∧ xs.take q = ys.take q ∧ ∃ d, wr = w.drewN d) (fun k _ => n - (intOf k).toNat)
    case atStart => exact ⟨0, Nat.zero_le _, rfl, rfl, 0, rfl⟩
    case round =>
      obtain ⟨q, hq, rfl, hs, d, rfl⟩ := hrel
      by_cases h1 : q < n
      · have h1I : (q : Int) < (n : Int) := by omega
        obtain ⟨ad, x, rfl, hxq, hlt, x1, x2, x3, x4⟩ := hx'.out.at_ h1
        obtain ⟨ad2, y, rfl, hyq, hlt2, y1, y2, y3, y4⟩ := hy'.out.at_ h1
        obtain ⟨k1, v1⟩ := x
        obtain ⟨k2, v2⟩ := y
        simp only at *
        have hs' := Lib.hid hs
        clear hs
        cases he : atE (k1, v1) (k2, v2) with
        | true =>
          have e := atE_iff.1 he
          have hs2 := Lib.hid (show xs.take (q + 1) = ys.take (q + 1) by rw [List.take_add_one, List.take_add_one, hs'.out, hxq, hyq, e])
          clear hxq hyq e
          go_wp2_with fail
          go_quiet (fail)
          go_wp2_with fail
          go_roundw
          case rel => exact ⟨q + 1, by omega, by go_num, hs2.out, _, by first | rfl | exact drewN_two _ _ _⟩
          case measure => simp [intOf]; omega
        | false =>
          have hv := Lib.hid (ne_at hxq hyq (fun e => by rw [atE_iff.2 e] at he; cases he))
          clear hxq hyq
          go_wp2_with fail
          go_quiet (fail)
          go_wp2_with fail
          go_ret
          exact ⟨by rw [hv.out]; rfl, _, by first | rfl | exact drewN_two _ _ _⟩
      · have hqn : q = n := by omega
        have h1I : ¬ (q : Int) < (n : Int) := by omega
        have hv := Lib.hid (show (xs == ys) = true from eq_full hlx.out hly.out (by rw [hqn] at hs; exact hs))
        clear hs hqn h1
        go_wp2_with fail
        go_ret
        exact ⟨by rw [hv.out]; rfl, _, rfl⟩
  · have hv := Lib.hid (show (xs == ys) = false from ne_len (by rw [hlx.out, hly.out]; exact hl))
    have hlI : ((n : Int) == (n2 : Int)) = false := by simp; omega
    have hlJ : ((n : Int) != (n2 : Int)) = true := by simp; omega
    clear hl
    go_enter Try.func104, Try.ntmps104
    go_wp2_with fail
    go_ret
    exact ⟨by rw [hv.out]; rfl, 0, rfl⟩
set_option maxHeartbeats 2000000 in
theorem ratsEq_any (w : World) (T T2 : Nat → Prop) (A A2 : Option Addr) (n c n2 c2 : Nat) (xs ys : List (Txt × Txt)) (hx : AtsIn T w A n xs) (hy : AtsIn T2 w A2 n2 ys) (hT : ∀ k, T k → k < w.heap.size) (hT2 : ∀ k, T2 k → k < w.heap.size) (hn : n ≤ maxLen) (hn2 : n2 ≤ maxLen) :
    Calls Try.prog 59 #[.slice A n c, .slice A2 n2 c2] w fun e w' => e = .returned (.bool (xs == ys)) ∧ ∃ d, w' = w.drewN d := by
  have hx' := Lib.hid hx
  have hy' := Lib.hid hy
  have hlx := Lib.hid hx.1
  have hly := Lib.hid hy.1
  clear hx hy
  have hn' : (n : Int) ≤ 9223372036854775807 := by unfold maxLen at hn; omega
  have hn2' : (n2 : Int) ≤ 9223372036854775807 := by unfold maxLen at hn2; omega
  have hneq := run_neq_attr
  by_cases hl : n = n2
  · subst hl
    go_enter Try.func59, Try.ntmps59
    go_wp2_with fail
    go_loopw [5] (fun k wr => ∃ q : Nat, q ≤ n ∧ k = .int .i64 (q : Int) ∧ xs.take q = ys.take q ∧ ∃ d, wr = w.drewN d) (fun k _ => n - (intOf k).toNat)
    case atStart => exact ⟨0, Nat.zero_le _, rfl, rfl, 0, rfl⟩
    case round =>
      obtain ⟨q, hq, rfl, hs, d, rfl⟩ := hrel
      by_cases h1 : q < n
      · have h1I : (q : Int) < (n : Int) := by omega
        obtain ⟨ad, x, rfl, hxq, hlt, x1, x2, x3, x4⟩ := hx'.out.at_ h1
        obtain ⟨ad2, y, rfl, hyq, hlt2, y1, y2, y3, y4⟩ := hy'.out.at_ h1
        obtain ⟨k1, v1⟩ := x
        obtain ⟨k2, v2⟩ := y
        simp only at *
        have hs' := Lib.hid hs
        clear hs
        cases he : atE (k1, v1) (k2, v2) with
        | true =>
          have e := atE_iff.1 he
          have hs2 := Lib.hid (show xs.take (q + 1) = ys.take (q + 1) by rw [List.take_add_one, List.take_add_one, hs'.out, hxq, hyq, e])
          clear hxq hyq e
          go_wp2_with fail
          go_quiet (fail)
          go_wp2_with fail
          go_roundw
          case rel => exact ⟨q + 1, by omega, by go_num, hs2.out, _, by first | rfl | exact drewN_two _ _ _⟩
          case measure => simp [intOf]; omega
        | false =>
          have hv := Lib.hid (ne_at hxq hyq (fun e => by rw [atE_iff.2 e] at he; cases he))
          clear hxq hyq
          go_wp2_with fail
          go_quiet (fail)
          go_wp2_with fail
          go_ret
          exact ⟨by rw [hv.out]; rfl, _, by first | rfl | exact drewN_two _ _ _⟩
      · have hqn : q = n := by omega
        have h1I : ¬ (q : Int) < (n : Int) := by omega
        have hv := Lib.hid (show (xs == ys) = true from eq_full hlx.out hly.out (by rw [hqn] at hs; exact hs))
        clear hs hqn h1
        go_wp2_with fail
        go_ret
        exact ⟨by rw [hv.out]; rfl, _, rfl⟩
  · have hv := Lib.hid (show (xs == ys) = false from ne_len (by rw [hlx.out, hly.out]; exact hl))
    have hlI : ((n : Int) == (n2 : Int)) = false := by simp; omega
    have hlJ : ((n : Int) != (n2 : Int)) = true := by simp; omega
    clear hl
    go_enter Try.func59, Try.ntmps59
    go_wp2_with fail
    go_ret
    exact ⟨by rw [hv.out]; rfl, 0, rfl⟩
end Go.Proofs.Ytoeblaecldhcaaa
/- Is a node right by itself; how long is its text: the program's. -/
namespace Go.Proofs.Ytoeblaecldhcaaa
set_option linter.unusedVariables false
open Go.RowKit
set_option maxRecDepth 20000

/-- does a key come behind the last one? -/
def ltB (last key : Txt) : Bool := !(Op.bytesLess key last || key == last)
set_option maxHeartbeats 2000000 in
theorem rightAttrs_any (w : World) (T : Nat → Prop) (A : Option Addr) (n c : Nat) (xs : List (Txt × Txt)) (hx : AtsIn T w A n xs) (hT : ∀ k, T k → k < w.heap.size) (hn : n ≤ maxLen) :
    Calls Try.prog 93 #[.slice A n c] w fun e w' => e = .returned (.bool (attrsOk ltB [] xs)) ∧ Below w.heap.size w w' := by
  have hx' := Lib.hid hx
  have hT' := Lib.hid hT
  have hlx := Lib.hid hx.1
  clear hx hT
  have hn' : (n : Int) ≤ 9223372036854775807 := by unfold maxLen at hn; omega
  go_enter Try.func93, Try.ntmps93
  go_wp2_with fail
  go_loopw [3, 8] (fun l k wr => ∃ (q : Nat) (last : Txt), q ≤ n ∧ k = .int .i64 (q : Int) ∧ l = .string ⟨last.toArray⟩ ∧ last.length ≤ maxLen ∧ attrsOk ltB [] xs = attrsOk ltB last (xs.drop q) ∧ Below w.heap.size w wr) (fun _ k _ => n - (intOf k).toNat)
  case atStart => exact ⟨0, [], Nat.zero_le _, rfl, rfl, Nat.zero_le _, rfl, Below.refl _ _⟩
  case round =>
    obtain ⟨q, last, hq, rfl, rfl, hl, hok, hbel⟩ := hrel
    by_cases h1 : q < n
    · have h1I : (q : Int) < (n : Int) := by omega
      obtain ⟨ad, x, rfl, hxq, hlt, x1, x2, x3, x4⟩ := (hx'.out.kept (fun _ h => h) (fun k hk => hbel.block k (hT'.out k hk))).at_ h1
      obtain ⟨ky, va⟩ := x
      simp only at *
      have hdr : xs.drop q = (ky, va) :: xs.drop (q + 1) := by rw [List.drop_eq_getElem?_toList_append, hxq]; rfl
      have hbel' := Lib.hid hbel
      cases hk : keyB ky with
      | false =>
        have hv := Lib.hid (show attrsOk ltB [] xs = false by rw [hok, hdr, attrsOk, hk]; rfl)
        clear hok hdr hxq hbel
        go_wp2_with (go_at_call 41; refine (key_any ky _ x1).mono ?_; rw [hk]; rintro e w' ⟨rfl, rfl⟩)
        go_ret
        exact ⟨by rw [hv.out]; rfl, hbel'.out.alloc hbel'.out.size _⟩
      | true =>
        cases ho : ltB last ky with
        | false =>
          have hv := Lib.hid (show attrsOk ltB [] xs = false by rw [hok, hdr, attrsOk, hk, ho]; rfl)
          have ho' : (Op.bytesLess ky last || ky == last) = true := by unfold ltB at ho; cases hb : (Op.bytesLess ky last || ky == last) with | true => rfl | false => (rw [hb] at ho; cases ho)
          clear hok hdr hxq hbel ho
          go_wp2_with (go_at_call 41; refine (key_any ky _ x1).mono ?_; rw [hk]; rintro e w' ⟨rfl, rfl⟩)
          go_ret
          exact ⟨by rw [hv.out]; rfl, hbel'.out.alloc hbel'.out.size _⟩
        | true =>
          have ho' : (Op.bytesLess ky last || ky == last) = false := by unfold ltB at ho; exact Bool.not_eq_true' _ |>.mp ho
          unfold maxLen at x2
          by_cases h256 : va.length ≤ 256
          · have hv := Lib.hid (show attrsOk ltB [] xs = attrsOk ltB ky (xs.drop (q + 1)) by rw [hok, hdr, attrsOk, hk, ho, decide_eq_true h256]; simp)
            have i2 : ¬ (256 : Int) < (va.length : Int) := by omega
            clear hok hdr hxq hbel ho
            go_wp2_with (go_at_call 41; refine (key_any ky _ x1).mono ?_; rw [hk]; rintro e w' ⟨rfl, rfl⟩)
            go_roundw
            case rel => exact ⟨q + 1, ky, by omega, by go_num, rfl, x1, hv.out, hbel'.out.alloc hbel'.out.size _⟩
            case measure => simp [intOf]; omega
          · have hv := Lib.hid (show attrsOk ltB [] xs = false by rw [hok, hdr, attrsOk, hk, ho, decide_eq_false h256]; simp)
            have i2 : (256 : Int) < (va.length : Int) := by omega
            clear hok hdr hxq hbel ho
            go_wp2_with (go_at_call 41; refine (key_any ky _ x1).mono ?_; rw [hk]; rintro e w' ⟨rfl, rfl⟩)
            go_ret
            exact ⟨by rw [hv.out]; rfl, hbel'.out.alloc hbel'.out.size _⟩
    · have h1I : ¬ (q : Int) < (n : Int) := by omega
      have hv := Lib.hid (show attrsOk ltB [] xs = true by rw [hok, List.drop_of_length_le (by rw [hlx.out]; omega)]; rfl)
      have hbel' := Lib.hid hbel
      clear hok hbel
      go_wp2_with fail
      go_ret
      exact ⟨by rw [hv.out]; rfl, hbel'.out⟩

/-- a node's own rightness, at its address -/
theorem isEmpty_len {α : Type} (l : List α) : l.isEmpty = decide (l.length = 0) := by cases l <;> simp
set_option maxHeartbeats 2000000 in
theorem rightAlone_any (w : World) (T : Nat → Prop) (E : Addr) (t : Nd) (h : NodeAt T w E t) (hT : ∀ k, T k → k < w.heap.size) :
    Calls Try.prog 70 #[.pointer (some E)] w fun e w' => e = .returned (.bool (aloneOk ltB t)) ∧ Below w.heap.size w w' := by
  obtain ⟨hE, aA, an, ac, kA, kn, kc, ⟨c0, c1, c2, c3, c4, c5⟩, hv⟩ := h
  have hf := hv.facts
  have hlab := hf.label
  have htxt := hf.text
  have hats := Lib.hid hf.ats
  have hkl := Lib.hid hf.kl
  have han := hf.anc
  have ham := hf.acm
  have hkn := hf.knc
  have hkm := hf.kcm
  clear hv hf
  have hT' := Lib.hid hT
  clear hT
  unfold maxLen at hlab htxt hkm
  by_cases hl : t.label.length ≤ 64
  · have i1 : ¬ (64 : Int) < (t.label.length : Int) := by omega
    cases ha : attrsOk ltB [] t.attrs with
    | false =>
      have hv := Lib.hid (show aloneOk ltB t = false by unfold aloneOk; rw [ha]; simp)
      have ha' := Lib.hid ha
      clear ha
      go_enter Try.func70, Try.ntmps70
      go_wp2_with (go_at_call 93; refine (rightAttrs_any _ T aA an ac t.attrs hats.out hT'.out (by omega)).mono ?_; rw [ha'.out]; rintro e w' ⟨rfl, hb⟩)
      go_ret
      exact ⟨by rw [hv.out]; rfl, hb⟩
    | true =>
      have ha' := Lib.hid ha
      have hv := Lib.hid (show aloneOk ltB t = if t.leaf then decide (t.kids.length = 0) else decide (t.text.length = 0) by unfold aloneOk; rw [ha, decide_eq_true hl, isEmpty_len, isEmpty_len]; simp)
      clear ha
      cases hlf : t.leaf with
      | true =>
        rw [hlf] at c1
        by_cases hk0 : kn = 0
        · have hv2 := Lib.hid (show aloneOk ltB t = true by rw [hv.out, hlf, hkl.out, decide_eq_true hk0]; rfl)
          have e0 : ((kn : Int) == 0) = true := by simp; exact hk0
          clear hk0 hlf
          go_enter Try.func70, Try.ntmps70
          go_wp2_with (go_at_call 93; refine (rightAttrs_any _ T aA an ac t.attrs hats.out hT'.out (by omega)).mono ?_; rw [ha'.out]; rintro e w' ⟨rfl, hb⟩; have d1 := (hb.cell (p := ⟨E.block, E.off + 1, none⟩) (hT'.out _ hE)).trans c1; have d5 := (hb.cell (p := ⟨E.block, E.off + 5, none⟩) (hT'.out _ hE)).trans c5; have hb' := Lib.hid hb; clear hb)
          go_ret
          exact ⟨by rw [hv2.out]; rfl, hb'.out⟩
        · have hv2 := Lib.hid (show aloneOk ltB t = false by rw [hv.out, hlf, hkl.out, decide_eq_false hk0]; rfl)
          have e0 : ((kn : Int) == 0) = false := by simp; exact hk0
          clear hk0 hlf
          go_enter Try.func70, Try.ntmps70
          go_wp2_with (go_at_call 93; refine (rightAttrs_any _ T aA an ac t.attrs hats.out hT'.out (by omega)).mono ?_; rw [ha'.out]; rintro e w' ⟨rfl, hb⟩; have d1 := (hb.cell (p := ⟨E.block, E.off + 1, none⟩) (hT'.out _ hE)).trans c1; have d5 := (hb.cell (p := ⟨E.block, E.off + 5, none⟩) (hT'.out _ hE)).trans c5; have hb' := Lib.hid hb; clear hb)
          go_ret
          exact ⟨by rw [hv2.out]; rfl, hb'.out⟩
      | false =>
        rw [hlf] at c1
        have hv2 := Lib.hid (show aloneOk ltB t = decide (t.text.length = 0) by rw [hv.out, hlf]; rfl)
        revert hv2 c4
        generalize t.text = x
        intro c4 hv2
        cases x with
        | nil =>
          clear hlf
          go_enter Try.func70, Try.ntmps70
          go_wp2_with (go_at_call 93; refine (rightAttrs_any _ T aA an ac t.attrs hats.out hT'.out (by omega)).mono ?_; rw [ha'.out]; rintro e w' ⟨rfl, hb⟩; have d1 := (hb.cell (p := ⟨E.block, E.off + 1, none⟩) (hT'.out _ hE)).trans c1; have d4 := (hb.cell (p := ⟨E.block, E.off + 4, none⟩) (hT'.out _ hE)).trans c4; have hb' := Lib.hid hb; clear hb)
          go_ret
          exact ⟨by rw [hv2.out]; rfl, hb'.out⟩
        | cons a r =>
          clear hlf
          go_enter Try.func70, Try.ntmps70
          go_wp2_with (go_at_call 93; refine (rightAttrs_any _ T aA an ac t.attrs hats.out hT'.out (by omega)).mono ?_; rw [ha'.out]; rintro e w' ⟨rfl, hb⟩; have d1 := (hb.cell (p := ⟨E.block, E.off + 1, none⟩) (hT'.out _ hE)).trans c1; have d4 := (hb.cell (p := ⟨E.block, E.off + 4, none⟩) (hT'.out _ hE)).trans c4; have hb' := Lib.hid hb; clear hb)
          go_ret
          exact ⟨by rw [hv2.out]; rfl, hb'.out⟩
  · have hv := Lib.hid (show aloneOk ltB t = false by unfold aloneOk; rw [decide_eq_false hl]; simp)
    have i1 : (64 : Int) < (t.label.length : Int) := by omega
    clear hl
    go_enter Try.func70, Try.ntmps70
    go_wp2_with fail
    go_ret
    exact ⟨by rw [hv.out]; rfl, Below.refl _ _⟩

/-- how long a node's own text, keys and values are -/
theorem attrsLen_take : ∀ (xs : List (Txt × Txt)) (q : Nat) (x : Txt × Txt), xs[q]? = some x → attrsLen (xs.take (q + 1)) = attrsLen (xs.take q) + (x.1.length + x.2.length)
  | [], q, x, h => by simp at h
  | y :: r, 0, x, h => by
    simp at h
    subst h
    simp [attrsLen]
  | y :: r, q + 1, x, h => by
    have ih := attrsLen_take r q x (by simpa using h)
    rw [List.take_succ_cons, List.take_succ_cons, attrsLen, attrsLen, ih]
    omega
theorem attrsLen_take_le : ∀ (xs : List (Txt × Txt)) (q : Nat), attrsLen (xs.take q) ≤ attrsLen xs
  | [], q => by simp
  | y :: r, 0 => by simp [attrsLen]
  | y :: r, q + 1 => by
    have ih := attrsLen_take_le r q
    rw [List.take_succ_cons, attrsLen, attrsLen]
    omega
end Go.Proofs.Ytoeblaecldhcaaa
/- Are two nodes alike by themselves; attributes looked up: the program's. -/
namespace Go.Proofs.Ytoeblaecldhcaaa
set_option linter.unusedVariables false
open Go.RowKit
set_option maxRecDepth 20000

theorem NodeAt.drewN {T : Nat → Prop} {w : World} {E : Addr} {t : Nd} (h : NodeAt T w E t) (n : Nat) : NodeAt T (w.drewN n) E t := NodeAt.kept (w := w) (fun _ h => h) (fun _ _ => rfl) h
set_option maxHeartbeats 4000000 in
theorem alike_c (w : World) (T T2 : Nat → Prop) (E F : Addr) (l1 l2 : Bool) (b1 b2 x1 x2 : Txt) (A1 A2 : Option Addr) (n1 m1 n2 m2 : Nat) (p1 p2 : List (Txt × Txt))
    (c1 : w.cell? ⟨E.block, E.off + 1, none⟩ = some (.bool l1)) (c2 : w.cell? ⟨E.block, E.off + 2, none⟩ = some (.string ⟨b1.toArray⟩)) (c3 : w.cell? ⟨E.block, E.off + 3, none⟩ = some (.slice A1 n1 m1)) (c4 : w.cell? ⟨E.block, E.off + 4, none⟩ = some (.string ⟨x1.toArray⟩))
    (d1 : w.cell? ⟨F.block, F.off + 1, none⟩ = some (.bool l2)) (d2 : w.cell? ⟨F.block, F.off + 2, none⟩ = some (.string ⟨b2.toArray⟩)) (d3 : w.cell? ⟨F.block, F.off + 3, none⟩ = some (.slice A2 n2 m2)) (d4 : w.cell? ⟨F.block, F.off + 4, none⟩ = some (.string ⟨x2.toArray⟩))
    (hx : AtsIn T w A1 n1 p1) (hy : AtsIn T2 w A2 n2 p2) (hT : ∀ k, T k → k < w.heap.size) (hT2 : ∀ k, T2 k → k < w.heap.size) (hn : n1 ≤ maxLen) (hn2 : n2 ≤ maxLen) :
    Calls Try.prog 91 #[.pointer (some E), .pointer (some F)] w fun e w' => e = .returned (.bool (l1 == l2 && b1 == b2 && x1 == x2 && p1 == p2)) ∧ ∃ d, w' = w.drewN d := by
  have hx' := Lib.hid hx
  have hy' := Lib.hid hy
  have hT' := Lib.hid hT
  have hT2' := Lib.hid hT2
  clear hx hy hT hT2
  by_cases h1 : l1 = l2
  · subst h1
    by_cases h2 : b1 = b2
    · subst h2
      by_cases h3 : x1 = x2
      · subst h3
        have hv := Lib.hid (show (l1 == l1 && b1 == b1 && x1 == x1 && p1 == p2) = (p1 == p2) by simp)
        go_enter Try.func91, Try.ntmps91
        go_wp2_with fail
        go_quiet ((go_at_call 104; exact Calls.quiet_of (atsEq_any _ T T2 A1 A2 n1 m1 n2 m2 p1 p2 hx'.out hy'.out hT'.out hT2'.out hn hn2)))
        go_wp2_with fail
        go_ret
        exact ⟨by rw [hv.out]; rfl, _, rfl⟩
      · have hv := Lib.hid (show (l1 == l1 && b1 == b1 && x1 == x2 && p1 == p2) = false by simp [h3])
        have e3 : (x1 == x2) = false := by simpa using h3
        clear h3
        go_enter Try.func91, Try.ntmps91
        go_wp2_with fail
        go_quiet (fail)
        go_wp2_with fail
        go_ret
        exact ⟨by rw [hv.out]; rfl, _, rfl⟩
    · have hv := Lib.hid (show (l1 == l1 && b1 == b2 && x1 == x2 && p1 == p2) = false by simp [h2])
      have e2 : (b1 == b2) = false := by simpa using h2
      clear h2
      go_enter Try.func91, Try.ntmps91
      go_wp2_with fail
      go_quiet (fail)
      go_wp2_with fail
      go_ret
      exact ⟨by rw [hv.out]; rfl, _, rfl⟩
  · have hv := Lib.hid (show (l1 == l2 && b1 == b2 && x1 == x2 && p1 == p2) = false by simp [h1])
    have e1 : (l1 == l2) = false := by simpa using h1
    clear h1
    go_enter Try.func91, Try.ntmps91
    go_wp2_with fail
    go_quiet (fail)
    go_wp2_with fail
    go_ret
    exact ⟨by rw [hv.out]; rfl, _, rfl⟩
theorem alike_any (w : World) (T T2 : Nat → Prop) (E F : Addr) (t u : Nd) (h : NodeAt T w E t) (h2 : NodeAt T2 w F u) (hT : ∀ k, T k → k < w.heap.size) (hT2 : ∀ k, T2 k → k < w.heap.size) :
    Calls Try.prog 91 #[.pointer (some E), .pointer (some F)] w fun e w' => e = .returned (.bool (alikeA t u)) ∧ ∃ d, w' = w.drewN d := by
  obtain ⟨hE, aA, an, ac, kA, kn, kc, ⟨c0, c1, c2, c3, c4, c5⟩, hv⟩ := h
  obtain ⟨hF, aA2, an2, ac2, kA2, kn2, kc2, ⟨d0, d1, d2, d3, d4, d5⟩, hv2⟩ := h2
  have f1 := hv.facts
  have f2 := hv2.facts
  exact alike_c w T T2 E F t.leaf u.leaf t.label u.label t.text u.text aA aA2 an ac an2 ac2 t.attrs u.attrs c1 c2 c3 c4 d1 d2 d3 d4 f1.ats f2.ats hT hT2 (Nat.le_trans f1.anc f1.acm) (Nat.le_trans f2.anc f2.acm)
set_option maxHeartbeats 2000000 in
theorem sameAlone_any (w : World) (T T2 : Nat → Prop) (E F : Addr) (t u : Nd) (h : NodeAt T w E t) (h2 : NodeAt T2 w F u) (hT : ∀ k, T k → k < w.heap.size) (hT2 : ∀ k, T2 k → k < w.heap.size) :
    Calls Try.prog 66 #[.pointer (some E), .pointer (some F)] w fun e w' => e = .returned (.bool (sameA t u)) ∧ ∃ d, w' = w.drewN d := by
  have h' := Lib.hid h
  have h2' := Lib.hid h2
  have hT' := Lib.hid hT
  have hT2' := Lib.hid hT2
  obtain ⟨-, aA, an, ac, kA, kn, kc, ⟨c0, -⟩, -⟩ := h
  obtain ⟨-, aA2, an2, ac2, kA2, kn2, kc2, ⟨d0, -⟩, -⟩ := h2
  clear hT hT2
  have hv := Lib.hid (show sameA t u = (t.id == u.id && alikeA t u) from rfl)
  revert hv c0 d0
  generalize t.id = i1
  generalize u.id = i2
  intro c0 d0 hv
  by_cases e : i1 = i2
  · subst e
    have hv2 := Lib.hid (show sameA t u = alikeA t u by rw [hv.out]; simp)
    have q1 := Lib.hid (show ∀ n, NodeAt T (w.drewN n) E t from fun n => h'.out.drewN n)
    have q2 := Lib.hid (show ∀ n, NodeAt T2 (w.drewN n) F u from fun n => h2'.out.drewN n)
    go_enter Try.func66, Try.ntmps66
    go_wp2_with fail
    go_quiet ((go_at_call 91; exact Calls.quiet_of (alike_any _ T T2 E F t u (q1.out _) (q2.out _) hT'.out hT2'.out)))
    go_wp2_with fail
    go_ret
    exact ⟨by rw [hv2.out]; rfl, _, rfl⟩
  · have hv2 := Lib.hid (show sameA t u = false by rw [hv.out]; simp [e])
    have e1 : ((i1 : Int) == (i2 : Int)) = false := by simp; omega
    clear e
    go_enter Try.func66, Try.ntmps66
    go_wp2_with fail
    go_quiet (fail)
    go_wp2_with fail
    go_ret
    exact ⟨by rw [hv2.out]; rfl, _, rfl⟩
end Go.Proofs.Ytoeblaecldhcaaa
/- Rows of nodes and of attributes of a call's own; copied. -/
namespace Go.Proofs.Ytoeblaecldhcaaa
set_option linter.unusedVariables false
open Go.RowKit
set_option maxRecDepth 20000

/-! ### chunks -/
theorem chunk_len {α : Type} (f : α → List Value) (S : Nat) (hf : ∀ x, (f x).length = S) (l : List α) : (l.flatMap f).length = l.length * S := by
  induction l with
  | nil => simp
  | cons p r ih => rw [List.flatMap_cons, List.length_append, ih, hf, List.length_cons, Nat.succ_mul]; omega
theorem chunk_at {α : Type} (f : α → List Value) (S : Nat) (hf : ∀ x, (f x).length = S) (hS : 0 < S) : ∀ (l : List α) (j : Nat) (u : Value), (l.flatMap f)[j]? = some u → ∃ q i x, j = q * S + i ∧ i < S ∧ l[q]? = some x ∧ (f x)[i]? = some u
  | [], j, u, h => by simp at h
  | a :: r, j, u, h => by
    rw [List.flatMap_cons] at h
    rcases Nat.lt_or_ge j S with hj | hj
    · rw [List.getElem?_append_left (by rw [hf]; exact hj)] at h
      exact ⟨0, j, a, by omega, hj, rfl, h⟩
    · rw [List.getElem?_append_right (by rw [hf]; exact hj), hf] at h
      obtain ⟨q, i, x, h1, h2, h3, h4⟩ := chunk_at f S hf hS r _ u h
      exact ⟨q + 1, i, x, by rw [Nat.succ_mul]; omega, h2, by simpa using h3, h4⟩
theorem chunk_of {α : Type} (f : α → List Value) (S : Nat) (hf : ∀ x, (f x).length = S) : ∀ (l : List α) (q i : Nat) (x : α) (u : Value), l[q]? = some x → (f x)[i]? = some u → (l.flatMap f)[q * S + i]? = some u
  | a :: r, 0, i, x, u, h, hi => by
    simp at h
    subst h
    have hil := (List.getElem?_eq_some_iff.1 hi).1
    rw [List.flatMap_cons, Nat.zero_mul, Nat.zero_add, List.getElem?_append_left hil]
    exact hi
  | a :: r, q + 1, i, x, u, h, hi => by
    have ih := chunk_of f S hf r q i x u (by simpa using h) hi
    rw [List.flatMap_cons, List.getElem?_append_right (by rw [hf, Nat.succ_mul]; omega), hf]
    rw [show (q + 1) * S + i - S = q * S + i by rw [Nat.succ_mul]; omega]
    exact ih
theorem add_off (ad : Addr) (j : Nat) (h : 0 < j) : ad.add j = ⟨ad.block, ad.off + j, none⟩ := by
  unfold Addr.add
  rw [if_neg (by omega)]
theorem add_zero_off (g k : Nat) : (⟨g, 0, none⟩ : Addr).add k = ⟨g, k, none⟩ := by unfold Addr.add; split <;> simp_all

/-! ### nodes with their slices -/
structure KV where
  t : Nd
  aA : Option Addr
  an : Nat
  ac : Nat
  kA : Option Addr
  kn : Nat
  kc : Nat
def KV.cells (k : KV) : List Value := [.int .u64 (k.t.id : Int), .bool k.t.leaf, .string ⟨k.t.label.toArray⟩, .slice k.aA k.an k.ac, .string ⟨k.t.text.toArray⟩, .slice k.kA k.kn k.kc]
def KV.ok (T : Nat → Prop) (w : World) (k : KV) : Prop := NodeV T w k.aA k.an k.ac k.kA k.kn k.kc k.t
def KV.six (w : World) (E : Addr) (k : KV) : Prop := Six w E k.t k.aA k.an k.ac k.kA k.kn k.kc
theorem KV.cells_len (k : KV) : k.cells.length = 6 := rfl
theorem KV.cell {w : World} {E : Addr} {k : KV} (h : k.six w E) (i : Nat) (u : Value) (hi : k.cells[i]? = some u) : w.cell? (E.add i) = some u := by
  obtain ⟨h0, h1, h2, h3, h4, h5⟩ := h
  match i, hi with
  | 0, hi => injection hi with hi; rw [← hi]; exact h0
  | 1, hi => injection hi with hi; rw [← hi]; exact h1
  | 2, hi => injection hi with hi; rw [← hi]; exact h2
  | 3, hi => injection hi with hi; rw [← hi]; exact h3
  | 4, hi => injection hi with hi; rw [← hi]; exact h4
  | 5, hi => injection hi with hi; rw [← hi]; exact h5
theorem KV.six_of {w : World} {E : Addr} {k : KV} (h : ∀ i u, k.cells[i]? = some u → w.cell? (E.add i) = some u) : k.six w E :=
  ⟨h 0 _ rfl, h 1 _ rfl, h 2 _ rfl, h 3 _ rfl, h 4 _ rfl, h 5 _ rfl⟩
theorem KV.one (ks : List KV) : ∀ u ∈ ks.flatMap KV.cells, u.oneCell' = true := by
  intro u hu
  obtain ⟨x, -, hx⟩ := List.mem_flatMap.1 hu
  simp only [KV.cells, List.mem_cons, List.not_mem_nil, or_false] at hx
  rcases hx with rfl | rfl | rfl | rfl | rfl | rfl <;> rfl
/-- a row of nodes, with their slices -/
theorem RowAt.kvs {T : Nat → Prop} {w : World} {A : Option Addr} : ∀ (l : List Nd) (q0 : Nat), RowAt T w A q0 l → ∃ ks : List KV, ks.map KV.t = l ∧ (∀ k ∈ ks, k.ok T w) ∧ ∀ (q : Nat) (k : KV), ks[q]? = some k → ∃ ad, A = some ad ∧ T ad.block ∧ k.six w (ad.add ((q0 + q) * 6))
  | [], _, _ => ⟨[], rfl, by simp, by simp⟩
  | t :: r, q0, h => by
    simp only [RowAt] at h
    obtain ⟨⟨ad, aA, an, ac, kA, kn, kc, e, hT, h6, hv⟩, hr⟩ := h
    obtain ⟨ks, k1, k2, k3⟩ := RowAt.kvs r (q0 + 1) hr
    refine ⟨⟨t, aA, an, ac, kA, kn, kc⟩ :: ks, by simp [k1], ?_, ?_⟩
    · intro k hk
      rcases List.mem_cons.1 hk with rfl | hk
      · exact hv
      · exact k2 k hk
    · intro q k hk
      match q, hk with
      | 0, hk =>
        simp at hk
        subst hk
        exact ⟨ad, e, hT, h6⟩
      | q + 1, hk =>
        obtain ⟨ad', e', hT', hs⟩ := k3 q k (by simpa using hk)
        exact ⟨ad', e', hT', by rw [show q0 + (q + 1) = q0 + 1 + q by omega]; exact hs⟩
theorem RowAt.of_kvs {T : Nat → Prop} {w : World} {A : Option Addr} (ks : List KV) (hok : ∀ k ∈ ks, k.ok T w) (h : ∀ (q : Nat) (k : KV), ks[q]? = some k → ∃ ad, A = some ad ∧ T ad.block ∧ k.six w (ad.add (q * 6))) : RowAt T w A 0 (ks.map KV.t) := by
  refine RowAt.of _ _ fun q t ht => ?_
  rw [List.getElem?_map] at ht
  cases hk : ks[q]? with
  | none => rw [hk] at ht; cases ht
  | some k =>
    rw [hk] at ht
    simp at ht
    subst ht
    obtain ⟨ad, e, hT, hs⟩ := h q k hk
    refine ⟨ad, e, by rw [block_add]; exact hT, k.aA, k.an, k.ac, k.kA, k.kn, k.kc, ?_, hok k (List.mem_of_getElem? hk)⟩
    rw [Nat.zero_add]
    exact hs
theorem KV.ok_kept {T T' : Nat → Prop} {w w' : World} {k : KV} (hT : ∀ k, T k → T' k) (hk : ∀ k, T k → w'.heap[k]? = w.heap[k]?) (h : k.ok T w) : k.ok T' w' := NodeV.kept hT hk _ _ _ _ _ _ _ h
theorem kvs_news {w : World} {ad : Addr} {ks : List KV} (h : ∀ (q : Nat) (k : KV), ks[q]? = some k → k.six w (ad.add (q * 6))) : ∀ (j : Nat) (u : Value), (ks.flatMap KV.cells)[j]? = some u → w.cell? (ad.add j) = some u := by
  intro j u hj
  obtain ⟨q, i, x, rfl, -, h3, h4⟩ := chunk_at KV.cells 6 KV.cells_len (by omega) ks j u hj
  rw [← add_add]
  exact KV.cell (h q x h3) i u h4
theorem Try.infoN : (Try.prog.info? 33).map (fun i => (i.zero, i.size, i.bytes)) = some (some (.agg #[.int .u64 0, .bool false, .string ⟨#[]⟩, .slice none 0 0, .string ⟨#[]⟩, .slice none 0 0]), 6, 96) := by kernel_rfl
theorem Try.infoA : (Try.prog.info? 68).map (fun i => (i.zero, i.size, i.bytes)) = some (some (.agg #[.string ⟨#[]⟩, .string ⟨#[]⟩]), 2, 32) := by kernel_rfl
/-- the slice value v owns a row of nodes -/
def OwnK (base : Nat) (w : World) (v : Value) (ks : List KV) : Prop := w.ownsRow base 33 6 v ks.length (ks.flatMap KV.cells)
theorem OwnK.shape {base : Nat} {w : World} {v : Value} {ks : List KV} (h : OwnK base w v ks) : ∃ (A : Option Addr) (n c : Nat), v = .slice A n c ∧ n = ks.length ∧ n ≤ c ∧ c ≤ maxLen ∧ (A = none → c = 0) ∧
    ∀ (q : Nat) (k : KV), ks[q]? = some k → ∃ g, A = some ⟨g, 0, none⟩ ∧ base ≤ g ∧ g < w.heap.size ∧ k.six w (⟨g, q * 6, none⟩ : Addr) := by
  obtain ⟨A, c, rfl, h1, h2, h3, h4⟩ := own_form h
  refine ⟨A, _, c, rfl, rfl, h1, h2, h3, fun q k hk => ?_⟩
  have hq := (List.getElem?_eq_some_iff.1 hk).1
  obtain ⟨g, rfl, hb, hlt, hc⟩ := h4 (by omega)
  refine ⟨g, rfl, hb, hlt, KV.six_of fun i u hi => ?_⟩
  rw [← add_zero_off, add_add, add_zero_off]
  exact hc _ _ (chunk_of KV.cells 6 KV.cells_len ks q i k u hk hi)
/-- append(nil, kids..) -/
theorem wpList_append_kids {w : World} {ops : Array Oper} {rest : List Oper} {o : Oper} {a : Act} {Q : Exit → Act → World → Prop} (hgd : o.guard = none) (sl x : Operand)
    (ho : o.op = .call { callee := .builtin .append, args := #[sl, x], argTypes := #[31, 31] }) (T : Nat → Prop) (A : Option Addr) (n c : Nat) (ts : List Nd) (hs : a.eval sl = .slice none 0 0) (hx : a.eval x = .slice A n c) (hl : ts.length = n) (hP : RowAt T w A 0 ts) (hnil : A = none → c = 0) (hnc : n ≤ c) (hn : n ≤ 1000000)
    (h : ∀ A1 c1 w' ks, ks.map KV.t = ts → (∀ k ∈ ks, k.ok T w) → OwnK w.heap.size w' (.slice A1 n c1) ks → n ≤ c1 → c1 ≤ maxLen → (A1 = none → c1 = 0) → Below w.heap.size w w' → wpList Try.prog ops Q rest (a.put o.dst (.slice A1 n c1)) w') : wpList Try.prog ops Q (o :: rest) a w := by
  obtain ⟨i0, hi0, hz0, hz1, hz2⟩ := info_parts Try.infoN
  obtain ⟨ks, k1, k2, k3⟩ := RowAt.kvs ts 0 hP
  have hkl : ks.length = n := by rw [← hl, ← k1, List.length_map]
  cases A with
  | none =>
    obtain rfl := hnil rfl
    obtain rfl : n = 0 := by omega
    have hks : ks = [] := List.length_eq_zero_iff.1 hkl
    subst hks
    refine wpList_append_own_none hgd sl x 31 ho w.heap.size 33 i0 6 Try.underlying31 hi0 (.slice none 0 0) 0 [] hs (World.ownsRow_nil _ _ _ _) hx ?_
    exact h none 0 w [] k1 (by simp) (World.ownsRow_nil _ _ _ _) (Nat.le_refl _) (Nat.zero_le _) (fun _ => rfl) (Below.refl _ _)
  | some ad =>
    have k3' : ∀ (q : Nat) (k : KV), ks[q]? = some k → k.six w (ad.add (q * 6)) := fun q k hk => by
      obtain ⟨ad', e, _, hs⟩ := k3 q k hk
      injection e with e
      subst e
      rw [Nat.zero_add] at hs
      exact hs
    refine wpList_append_own_at _ hgd sl x 31 ho w.heap.size 33 i0 _ 6 96 Try.underlying31 hi0 hz0 hz1 hz2 rfl (by decide) (.slice none 0 0) 0 [] hs (World.ownsRow_nil _ _ _ _) ad n c (ks.flatMap KV.cells) hx (by rw [chunk_len KV.cells 6 KV.cells_len, hkl]) (kvs_news k3') (KV.one ks) (by unfold maxLen; omega) (by omega) (Nat.le_refl _) ?_
    intro v' w' hown hg _ _
    have hown2 : OwnK w.heap.size w' v' ks := by
      unfold OwnK
      rw [Nat.zero_add, List.nil_append] at hown
      rw [hkl]
      exact hown
    obtain ⟨A1, n1, c1, rfl, e1, h1, h2, h3, h4⟩ := hown2.shape
    obtain rfl : n1 = n := by omega
    exact h A1 c1 w' ks k1 k2 hown2 h1 h2 h3 ((Below.refl w.heap.size w).grown hg (Nat.le_refl _) (fun k hk => by cases hk))

/-! ### attributes -/
def atc (x : Txt × Txt) : List Value := [.string ⟨x.1.toArray⟩, .string ⟨x.2.toArray⟩]
theorem atc_len (x : Txt × Txt) : (atc x).length = 2 := rfl
theorem atc_one (xs : List (Txt × Txt)) : ∀ u ∈ xs.flatMap atc, u.oneCell' = true := by
  intro u hu
  obtain ⟨x, -, hx⟩ := List.mem_flatMap.1 hu
  simp only [atc, List.mem_cons, List.not_mem_nil, or_false] at hx
  rcases hx with rfl | rfl <;> rfl
theorem AtsIn.news {T : Nat → Prop} {w : World} {ad : Addr} {n : Nat} {xs : List (Txt × Txt)} (h : AtsIn T w (some ad) n xs) : ∀ j u, (xs.flatMap atc)[j]? = some u → w.cell? (ad.add j) = some u := by
  intro j u hj
  obtain ⟨q, i, x, rfl, -, h3, h4⟩ := chunk_at atc 2 atc_len (by omega) xs j u hj
  obtain ⟨ad', e, -, -, -, c1, c2⟩ := h.2 q x h3
  injection e with e
  subst e
  rw [← add_add]
  match i, h4 with
  | 0, h4 => injection h4 with h4; rw [← h4]; exact c1
  | 1, h4 => injection h4 with h4; rw [← h4]; exact c2
/-- append(nil, attrs..): where the new row lies -/
theorem wpList_append_ats {w : World} {ops : Array Oper} {rest : List Oper} {o : Oper} {a : Act} {Q : Exit → Act → World → Prop} (hgd : o.guard = none) (sl x : Operand)
    (ho : o.op = .call { callee := .builtin .append, args := #[sl, x], argTypes := #[30, 30] }) (T : Nat → Prop) (A : Option Addr) (n c : Nat) (xs : List (Txt × Txt)) (hs : a.eval sl = .slice none 0 0) (hx : a.eval x = .slice A n c) (hP : AtsIn T w A n xs) (hnil : A = none → c = 0) (hnc : n ≤ c) (hn : n ≤ 1000000)
    (h : ∀ A1 c1 w', AtsIn (fun k => k = w.heap.size ∧ k < w'.heap.size) w' A1 n xs → n ≤ c1 → c1 ≤ maxLen → (A1 = none → c1 = 0) → Below w.heap.size w w' → wpList Try.prog ops Q rest (a.put o.dst (.slice A1 n c1)) w') : wpList Try.prog ops Q (o :: rest) a w := by
  obtain ⟨i0, hi0, hz0, hz1, hz2⟩ := info_parts Try.infoA
  have hl := hP.1
  cases A with
  | none =>
    obtain rfl := hnil rfl
    obtain rfl : n = 0 := by omega
    have hxs : xs = [] := List.length_eq_zero_iff.1 hl
    subst hxs
    refine wpList_append_own_none hgd sl x 30 ho w.heap.size 68 i0 2 Try.underlying30 hi0 (.slice none 0 0) 0 [] hs (World.ownsRow_nil _ _ _ _) hx ?_
    exact h none 0 w ⟨rfl, fun q x hx => by simp at hx⟩ (Nat.le_refl _) (Nat.zero_le _) (fun _ => rfl) (Below.refl _ _)
  | some ad =>
    refine wpList_append_own_at _ hgd sl x 30 ho w.heap.size 68 i0 _ 2 32 Try.underlying30 hi0 hz0 hz1 hz2 rfl (by decide) (.slice none 0 0) 0 [] hs (World.ownsRow_nil _ _ _ _) ad n c (xs.flatMap atc) hx (by rw [chunk_len atc 2 atc_len, hl]) hP.news (atc_one xs) (by unfold maxLen; omega) (by omega) (Nat.le_refl _) ?_
    intro v' w' hown hg _ hat
    rw [Nat.zero_add, List.nil_append] at hown
    obtain ⟨A1, c1, rfl, h1, h2, h3, h4⟩ := own_form hown
    refine h A1 c1 w' ⟨hl, fun q x hx => ?_⟩ h1 h2 h3 ((Below.refl w.heap.size w).grown hg (Nat.le_refl _) (fun k hk => by cases hk))
    have hq := (List.getElem?_eq_some_iff.1 hx).1
    obtain ⟨g, rfl, hb, hlt, hc⟩ := h4 (by omega)
    obtain ⟨ad', -, -, l1, l2, -, -⟩ := hP.2 q x hx
    have hgw : g = w.heap.size := by
      rcases hat with e | e
      · cases e
      · simpa [Value.ownBlock] using e
    refine ⟨_, rfl, ⟨hgw, hlt⟩, l1, l2, ?_, ?_⟩
    · rw [add_zero_off]
      exact hc _ _ (chunk_of atc 2 atc_len xs q 0 x _ hx rfl)
    · rw [add_zero_off]
      exact hc _ _ (chunk_of atc 2 atc_len xs q 1 x _ hx rfl)
end Go.Proofs.Ytoeblaecldhcaaa
/- A node with rows of its own; has it that child; an attribute: the program's. -/
namespace Go.Proofs.Ytoeblaecldhcaaa
set_option linter.unusedVariables false
open Go.RowKit
set_option maxRecDepth 20000

def hasB (kn : Nat) (i : Int) : Bool := decide (0 ≤ i ∧ i < (kn : Int))
theorem hasChild_any (w : World) (id : Int) (leaf : Bool) (b x : Txt) (aA kA : Option Addr) (an ac kn kc : Nat) (i : Int) (hk : kn ≤ maxLen) :
    Calls Try.prog 68 #[.agg #[.int .u64 id, .bool leaf, .string ⟨b.toArray⟩, .slice aA an ac, .string ⟨x.toArray⟩, .slice kA kn kc], .int .i64 i] w fun e w' => e = .returned (.bool (hasB kn i)) ∧ Below w.heap.size w w' := by
  unfold maxLen at hk
  by_cases h1 : 0 ≤ i
  · by_cases h2 : i < (kn : Int)
    · have hv := Lib.hid (show hasB kn i = true from decide_eq_true ⟨h1, h2⟩)
      go_enter Try.func68, Try.ntmps68
      go_wp2_with fail
      go_ret
      exact ⟨by rw [hv.out]; rfl, (Below.refl _ _).alloc (Nat.le_refl _) _⟩
    · have hv := Lib.hid (show hasB kn i = false from decide_eq_false (fun h => h2 h.2))
      go_enter Try.func68, Try.ntmps68
      go_wp2_with fail
      go_ret
      exact ⟨by rw [hv.out]; rfl, (Below.refl _ _).alloc (Nat.le_refl _) _⟩
  · have hv := Lib.hid (show hasB kn i = false from decide_eq_false (fun h => h1 h.1))
    go_enter Try.func68, Try.ntmps68
    go_wp2_with fail
    go_ret
    exact ⟨by rw [hv.out]; rfl, (Below.refl _ _).alloc (Nat.le_refl _) _⟩

/-- a copy of a node: its rows are new, its children as they were -/
structure Owned (w w' : World) (T : Nat → Prop) (t : Nd) (aA : Option Addr) (an ac : Nat) (kA : Option Addr) (kn kc : Nat) (gA : Nat) (ks : List KV) : Prop where
  ats : AtsIn (fun k => k = gA) w' aA an t.attrs
  anc : an ≤ ac
  acm : ac ≤ maxLen
  anil : aA = none → ac = 0
  ga : w.heap.size ≤ gA ∧ gA < w'.heap.size
  map : ks.map KV.t = t.kids
  ok : ∀ k ∈ ks, k.ok T w
  row : OwnK w.heap.size w' (.slice kA kn kc) ks
  len : ks.length = kn
  knc : kn ≤ kc
  kcm : kc ≤ maxLen
  knil : kA = none → kc = 0
  ne : ∀ ad, kA = some ad → ad.block ≠ gA
  bel : Below w.heap.size w w'
theorem two_new {w : World} (o1 o2 : Obj) (k : Nat) (h : k < w.heap.size) : ((w.alloc o1).alloc o2).heap[k]? = w.heap[k]? :=
  (Go.heap_alloc_old _ _ (by simp; omega)).trans (Go.heap_alloc_old _ _ h)
theorem bel_cells {W w1 : World} (hb : Below W.heap.size W w1) : (∀ b o, b < W.heap.size → w1.cell? ⟨b, o, none⟩ = W.cell? ⟨b, o, none⟩) ∧ (∀ b o, b < W.heap.size → w1.frozen? ⟨b, o, none⟩ = W.frozen? ⟨b, o, none⟩) :=
  ⟨fun b o h => hb.cell (p := ⟨b, o, none⟩) h, fun b o h => hb.frozen (p := ⟨b, o, none⟩) h⟩
theorem own_base {w : World} {b base : Nat} {e : TypeId} {size : Nat} {v : Value} {n : Nat} {xs : List Value} (h : w.ownsRow base e size v n xs) (hb : b ≤ base) : w.ownsRow b e size v n xs := by
  refine ⟨h.1, ?_⟩
  rcases h.2 with h0 | ⟨g, cap, cur, rfl, hg, rest⟩
  · exact .inl h0
  · exact .inr ⟨g, cap, cur, rfl, by omega, rest⟩
theorem two_first (w : World) (o1 o2 : Obj) : ((w.alloc o1).alloc o2).heap[w.heap.size]? = some o1 := (Go.heap_alloc_old _ _ (by simp)).trans (heap_alloc_new w o1)
theorem two_second (w : World) (o1 o2 : Obj) : ((w.alloc o1).alloc o2).heap[w.heap.size + 1]? = some o2 := by
  have h := heap_alloc_new (w.alloc o1) o2
  rw [World.size_alloc] at h
  exact h
theorem six_cells {w : World} {g : Nat} {a0 a1 a2 a3 a4 a5 : Value} {t : TypeId} (h : w.heap[g]? = some (.cells #[a0, a1, a2, a3, a4, a5] t (0, 0))) :
    w.cell? ⟨g, 0, none⟩ = some a0 ∧ w.cell? ⟨g, 1, none⟩ = some a1 ∧ w.cell? ⟨g, 2, none⟩ = some a2 ∧ w.cell? ⟨g, 3, none⟩ = some a3 ∧ w.cell? ⟨g, 4, none⟩ = some a4 ∧ w.cell? ⟨g, 5, none⟩ = some a5 ∧ ∀ o, w.frozen? ⟨g, o, none⟩ = false :=
  ⟨cell_of_row w g 0 _ _ _ h, cell_of_row w g 1 _ _ _ h, cell_of_row w g 2 _ _ _ h, cell_of_row w g 3 _ _ _ h, cell_of_row w g 4 _ _ _ h, cell_of_row w g 5 _ _ _ h, fun o => frozen_of_row w g o _ _ h⟩
set_option maxHeartbeats 4000000 in
theorem owned_any (w : World) (T : Nat → Prop) (t : Nd) (aA kA : Option Addr) (an ac kn kc : Nat) (h : NodeV T w aA an ac kA kn kc t) (hT : ∀ k, T k → k < w.heap.size) (hn : an ≤ 1000000) (hkn : kn ≤ 1000000) :
    Calls Try.prog 69 #[.agg #[.int .u64 (t.id : Int), .bool t.leaf, .string ⟨t.label.toArray⟩, .slice aA an ac, .string ⟨t.text.toArray⟩, .slice kA kn kc]] w fun e w' => ∃ aA' ac' kA' kc' gA ks,
      e = .returned (.agg #[.int .u64 (t.id : Int), .bool t.leaf, .string ⟨t.label.toArray⟩, .slice aA' an ac', .string ⟨t.text.toArray⟩, .slice kA' kn kc']) ∧ Owned w w' T t aA' an ac' kA' kn kc' gA ks := by
  have hf := h.facts
  have f1 := Lib.hid hf.ats
  have f2 := Lib.hid hf.anil
  have f3 := hf.anc
  have f4 := Lib.hid hf.row
  have f5 := Lib.hid hf.knil
  have f6 := hf.knc
  have f7 := Lib.hid hf.kl
  have h' := Lib.hid h
  have hT' := Lib.hid hT
  clear hf h hT
  generalize hid : t.id = id
  generalize hlf : t.leaf = leaf
  generalize hlb : t.label = b
  generalize htx : t.text = x
  clear hid hlf hlb htx
  go_enter Try.func69, Try.ntmps69
  go_wp2_with (first
    | (at_builtin; refine wpList_append_ats rfl (.const (.slice none 0 0)) (.tmp 4) rfl T aA an ac t.attrs rfl rfl (AtsIn.kept (w := w) (fun _ h => h) (fun k hk => two_new _ _ _ (hT'.out k hk)) f1.out) f2.out f3 hn ?_; intro A1 c1 w1 hat hc hm hz hb; have B1 := (hb.block w.heap.size (by simp; omega)).trans (two_first w _ _); have R1 := (hb.block (w.heap.size + 1) (by simp)).trans (two_second w _ _); obtain ⟨d0, d1, d2, d3, d4, d5, df⟩ := six_cells B1; have B1' := Lib.hid B1; have R1' := Lib.hid R1; clear B1 R1; have hs1 : w.heap.size + 1 < w1.heap.size := (by have := hb.size; simp at this; omega); have H1 := Lib.hid hat; have H2 := Lib.hid hc; have H3 := Lib.hid hm; have H4 := Lib.hid hz; have H5 := Lib.hid hb; have K1 := Lib.hid (fun k (hk : k < w.heap.size) => (hb.block k (by simp; omega)).trans (two_new _ _ k hk)); clear hat hc hm hz hb)
    | (at_builtin; refine wpList_append_kids rfl (.const (.slice none 0 0)) (.tmp 8) rfl T kA kn kc t.kids rfl rfl f7.out (RowAt.kept (w := w) (fun _ h => h) (fun k hk => (heap_setCell_other w1 ⟨w.heap.size, 3, none⟩ k _ (by have := hT'.out k hk; simp; omega)).trans (K1.out k (hT'.out k hk))) _ _ _ f4.out) f5.out f6 hkn ?_; intro A2 c2 w2 ks e1 e2 e3 e4 e5 e6 hb2; have B2 := (hb2.block w.heap.size (by simp; omega)).trans (heap_setCell_same w1 w.heap.size 3 _ _ (.slice A1 an c1) B1'.out); simp at B2; have R2 := (hb2.block (w.heap.size + 1) (by simp; omega)).trans ((heap_setCell_other w1 ⟨w.heap.size, 3, none⟩ (w.heap.size + 1) (.slice A1 an c1) (by simp)).trans R1'.out); obtain ⟨g0, g1, g2, g3, g4, g5, gf⟩ := six_cells B2; obtain ⟨r0, r1, r2, r3, r4, r5, rf⟩ := six_cells R2; have B2' := Lib.hid B2; have R2' := Lib.hid R2; clear B2 R2; have hs2 : w.heap.size + 1 < w2.heap.size := (by have := hb2.size; simp at this; omega); have E1 := Lib.hid e1; have E2 := Lib.hid e2; have E3 := Lib.hid e3; have E4 := Lib.hid e4; have E5 := Lib.hid e5; have E6 := Lib.hid e6; have E7 := Lib.hid hb2; clear e1 e2 e3 e4 e5 e6 hb2))
  refine bodyPost_ret (v := .agg #[.int .u64 (id : Int), .bool leaf, .string ⟨b.toArray⟩, .slice A1 an c1, .string ⟨x.toArray⟩, .slice A2 kn c2]) (by simp [results, Try.results69, go_sem, r0, r1, r2, r3, r4, r5]) rfl ?_
  have hz : (w1.setCell ⟨w.heap.size, 3, none⟩ (.slice A1 an c1)).heap.size = w1.heap.size := by simp
  rw [hz] at E3 E7
  obtain ⟨W7, hW7⟩ : ∃ W7, W7 = (((((((w2.setCell ⟨w.heap.size, 5, none⟩ (.slice A2 kn c2)).setCell ⟨w.heap.size + 1, 0, none⟩ (.int .u64 (id : Int))).setCell ⟨w.heap.size + 1, 1, none⟩ (.bool leaf)).setCell ⟨w.heap.size + 1, 2, none⟩ (.string ⟨b.toArray⟩)).setCell ⟨w.heap.size + 1, 3, none⟩ (.slice A1 an c1)).setCell ⟨w.heap.size + 1, 4, none⟩ (.string ⟨x.toArray⟩)).setCell ⟨w.heap.size + 1, 5, none⟩ (.slice A2 kn c2)) := ⟨_, rfl⟩
  rw [← hW7]
  have z7 : W7.heap.size = w2.heap.size := by rw [hW7]; simp
  have o7 : ∀ k, k ≠ w.heap.size → k ≠ w.heap.size + 1 → W7.heap[k]? = w2.heap[k]? := fun k n1 n2 => by
    rw [hW7]
    refine (heap_setCell_other _ _ k _ n2).trans ((heap_setCell_other _ _ k _ n2).trans ((heap_setCell_other _ _ k _ n2).trans ((heap_setCell_other _ _ k _ n2).trans ((heap_setCell_other _ _ k _ n2).trans ((heap_setCell_other _ _ k _ n2).trans (heap_setCell_other _ _ k _ n1))))))
  have b1 : Below w.heap.size w (w1.setCell ⟨w.heap.size, 3, none⟩ (.slice A1 an c1)) := ((((Below.refl w.heap.size w).alloc (Nat.le_refl _) _).alloc (by simp) _).trans (H5.out.mono (by simp; omega))).setCell (Nat.le_refl _) _
  have b7 : Below w.heap.size w W7 := by
    rw [hW7]
    exact (((((((b1.trans (E7.out.mono (by omega))).setCell (Nat.le_refl _) _).setCell (by simp) _).setCell (by simp) _).setCell (by simp) _).setCell (by simp) _).setCell (by simp) _).setCell (by simp) _
  clear hW7
  have hW0 : ((w.alloc (.cells #[.int .u64 (id : Int), .bool leaf, .string ⟨b.toArray⟩, .slice aA an ac, .string ⟨x.toArray⟩, .slice kA kn kc] 33)).alloc (.cells #[.int .u64 0, .bool false, .string ⟨#[]⟩, .slice none 0 0, .string ⟨#[]⟩, .slice none 0 0] 33)).heap.size = w.heap.size + 2 := by simp
  have g1 := H1.out
  rw [hW0] at g1
  have hrow : OwnK w.heap.size W7 (.slice A2 kn c2) ks := own_kept (own_base E3.out (by omega)) fun k hk => by
    have := (World.ownsRow.lt E3.out k hk).1
    exact o7 k (by omega) (by omega)
  have hkl : ks.length = kn := by rw [← f7.out, ← E1.out, List.length_map]
  obtain ⟨gA, ga1, ga2, ga3, ga4⟩ : ∃ gA, w.heap.size ≤ gA ∧ gA < w1.heap.size ∧ gA < W7.heap.size ∧ AtsIn (fun k => k = gA) W7 A1 an t.attrs := by
    have h2 := E7.out.size
    rw [hz] at h2
    by_cases h0 : an = 0
    · subst h0
      have hnil : t.attrs = [] := List.length_eq_zero_iff.1 g1.1
      refine ⟨w.heap.size, Nat.le_refl _, by omega, by omega, ?_⟩
      rw [hnil]
      exact ⟨rfl, fun q x hx => by simp at hx⟩
    · obtain ⟨ad, y, -, -, ht, -⟩ := g1.at_ (q := 0) (by omega)
      refine ⟨w.heap.size + 2, by omega, by omega, by omega, AtsIn.kept (w := w1) (fun k hk => hk.1) (fun k hk => ?_) g1⟩
      obtain ⟨rfl, hk2⟩ := hk
      exact (o7 _ (by omega) (by omega)).trans ((E7.out.block _ (by omega)).trans (heap_setCell_other w1 ⟨w.heap.size, 3, none⟩ _ _ (by simp)))
  refine ⟨A1, c1, A2, c2, gA, ks, rfl, ga4, H2.out, H3.out, H4.out, ⟨ga1, ga3⟩, E1.out, fun k hk => ?_, hrow, hkl, E4.out, E5.out, E6.out, fun ad e => ?_, b7⟩
  · exact KV.ok_kept (fun _ h => h) (fun j hj => (b1.block j (hT'.out j hj)).symm) (E2.out k hk)
  · have hl := World.ownsRow.lt E3.out ad.block (by rw [e]; rfl)
    omega
end Go.Proofs.Ytoeblaecldhcaaa
/- Where one stands who goes through a tree, in memory; the next node: the program's. -/
namespace Go.Proofs.Ytoeblaecldhcaaa
set_option linter.unusedVariables false
open Go.RowKit
set_option maxRecDepth 20000

/-- the rows' slices -/
def Rws (T : Nat → Prop) (w : World) (s : Stk) (xs : List Value) : Prop :=
  ∀ (d : Nat) (row : List Nd), s.reverse[d]? = some row → ∃ (A : Option Addr) (n c : Nat), xs[d]? = some (.slice A n c) ∧ n = row.length ∧ n ≤ c ∧ c ≤ maxLen ∧ (A = none → c = 0) ∧ RowAt T w A 0 row
/-- at block p: the rows s; the trees lie in blocks of T, what is turned in blocks of S -/
structure WalkAt (T S : Nat → Prop) (base : Nat) (w : World) (p : Nat) (s : Stk) : Prop where
  own : ∀ k, S k → base ≤ k ∧ k < w.heap.size
  apart : ∀ k, T k → ¬ S k
  told : ∀ k, T k → k < w.heap.size
  here : S p
  dat : ∃ (g n cap : Nat) (xs : List Value), w.heap[p]? = some (.cells #[.slice (some ⟨g, 0, none⟩) n cap] 95 (0, 0)) ∧ n = s.length ∧ w.ownsRow base 31 1 (.slice (some ⟨g, 0, none⟩) n cap) n xs ∧ S g ∧ Rws T w s xs
theorem WalkAt.kept {T S : Nat → Prop} {base p : Nat} {w w' : World} {s : Stk} (h : WalkAt T S base w p s) (hs : w.heap.size ≤ w'.heap.size) (hk : ∀ k, T k ∨ S k → w'.heap[k]? = w.heap[k]?) : WalkAt T S base w' p s := by
  obtain ⟨h1, h2, h3, h4, g, n, cap, xs, hp, hn, ho, hg, hr⟩ := h
  refine ⟨fun k hS => ⟨(h1 k hS).1, Nat.lt_of_lt_of_le (h1 k hS).2 hs⟩, h2, fun k hT => Nat.lt_of_lt_of_le (h3 k hT) hs, h4, g, n, cap, xs, (hk p (.inr h4)).trans hp, hn, own_kept ho fun k hk' => hk k (.inr ?_), hg, fun d row hd => ?_⟩
  · have e : g = k := by simpa [Value.ownBlock] using hk'
    rw [← e]
    exact hg
  · obtain ⟨A, m, c, e1, e2, e3, e4, e5, e6⟩ := hr d row hd
    exact ⟨A, m, c, e1, e2, e3, e4, e5, e6.kept (fun _ h => h) (fun k hT => hk k (.inl hT)) _ _ _⟩
def Also (S : Nat → Prop) (w w' : World) (k : Nat) : Prop := S k ∨ (w.heap.size ≤ k ∧ k < w'.heap.size)
/-- a row of the call's own, written at a place and cut behind it -/
theorem own_set_cut {w : World} {base g n cap d : Nat} {e : TypeId} {xs : List Value} (h : w.ownsRow base e 1 (.slice (some ⟨g, 0, none⟩) n cap) n xs) (hd : d < n) (v : Value) :
    (w.setCell ⟨g, d, none⟩ v).ownsRow base e 1 (.slice (some ⟨g, 0, none⟩) (d + 1) cap) (d + 1) (xs.take d ++ [v]) := by
  have hl := h.1
  rcases h.2 with ⟨e1, _⟩ | ⟨g', cap', cur, e1, hb, hg, hnc, hcm, hcs, htake⟩
  · cases e1
  · injection e1 with e1 e2 e3
    injection e1 with e1
    injection e1 with e1 _ _
    subst e1 e3
    refine ⟨by rw [List.length_append, List.length_take, hl]; simp; omega, .inr ⟨g, cap, _, rfl, hb, heap_setCell_same w g d cur e v hg, by omega, hcm, by simp [hcs], ?_⟩⟩
    have hcl : d < cur.toList.length := by rw [Array.length_toList, hcs]; omega
    rw [Array.toList_setIfInBounds, Nat.mul_one, ← htake, List.take_take, show min d (n * 1) = d by omega]
    rw [List.take_add_one, List.take_set_of_le (Nat.le_refl _)]
    congr 1
    have hcl2 : d < cur.size := by rw [hcs]; omega
    simp [List.getElem?_set, hcl2]
/-- what the next node is -/
def NextPost (T S : Nat → Prop) (base : Nat) (w : World) (p : Nat) (s : Stk) (e : Ending) (w' : World) : Prop :=
  match nextV s with
  | none => e = .returned (.tuple #[.int .i64 0, .pointer none]) ∧ w' = w
  | some (d, x, s') => ∃ E, e = .returned (.tuple #[.int .i64 (d : Int), .pointer (some E)]) ∧ NodeAt T w' E x ∧ WalkAt T (Also S w w') base w' p s' ∧ FrX S w w'
theorem add_zero (ad : Addr) : ad.add 0 = ad := by unfold Addr.add; rw [if_pos rfl]
theorem own_frozen {w : World} {base : Nat} {e : TypeId} {size g n cap : Nat} {xs : List Value} (h : w.ownsRow base e size (.slice (some ⟨g, 0, none⟩) n cap) n xs) (o : Nat) : w.frozen? ⟨g, o, none⟩ = false := by
  rcases h.2 with ⟨e1, _⟩ | ⟨g', cap', cur, e1, hb, hg, _⟩
  · cases e1
  · injection e1 with e1 _ _
    injection e1 with e1
    injection e1 with e1 _ _
    subst e1
    exact frozen_of_row w g o _ _ hg
theorem own_cap {w : World} {base : Nat} {e : TypeId} {size g n cap : Nat} {xs : List Value} (h : w.ownsRow base e size (.slice (some ⟨g, 0, none⟩) n cap) n xs) : n ≤ cap := by
  rcases h.2 with ⟨e1, _⟩ | ⟨g', cap', cur, e1, hb, hg, hc, _⟩
  · cases e1
  · injection e1 with _ _ e3
    omega
theorem Try.infoRow : (Try.prog.info? 31).map (fun i => (i.zero, i.size, i.bytes)) = some (some (.slice none 0 0), 1, 24) := by kernel_rfl
theorem nextV_skip : ∀ (e s : Stk), (∀ row ∈ e, row = []) → nextV (e ++ s) = nextV s
  | [], s, _ => rfl
  | a :: e, s, h => by
    obtain rfl := h a (List.mem_cons_self ..)
    rw [List.cons_append, nextV]
    exact nextV_skip e s fun row hr => h row (List.mem_cons_of_mem _ hr)
theorem rev_at (e : Stk) (row : List Nd) (rest : Stk) : (e ++ row :: rest).reverse[rest.length]? = some row := by
  rw [List.reverse_append, List.reverse_cons, List.append_assoc, List.getElem?_append_right (by simp)]
  simp
theorem next_done {w W1 w4 : World} {T S : Nat → Prop} {base p g g' d cap cap' n : Nat} {s e : Stk} {x : Nd} {r : List Nd} {rest : Stk} {xs : List Value} {v1 : Value} {ad : Addr} {aA kA : Option Addr} {an ac kn kc : Nat} {o : Obj}
    (h : WalkAt T S base w p s) (hbase : base ≤ w.heap.size) (hs : s = e ++ (x :: r) :: rest) (hd : d = rest.length) (hr : Rws T w s xs) (hxl : d < xs.length)
    (V1 : ∃ (A : Option Addr) (n c : Nat), v1 = .slice A n c ∧ n = r.length ∧ n ≤ c ∧ c ≤ maxLen ∧ (A = none → c = 0) ∧ RowAt T w A 0 r)
    (hkv : NodeV T w aA an ac kA kn kc x) (hNE : NodeAt T w ad x) (hg : S g) (o1 : ∀ k, k ≠ g → W1.heap[k]? = w.heap[k]?) (z1 : W1.heap.size = w.heap.size) (F1 : FrX S w W1)
    (ho4 : w4.ownsRow base 31 1 (.slice (some ⟨g', 0, none⟩) (d + 1 + 1) cap') (d + 1 + 1) (xs.take d ++ [v1] ++ [.slice kA kn kc]))
    (hg4 : World.grownBy ((W1.alloc o).drew) w4 (Value.ownBlock (.slice (some ⟨g, 0, none⟩) (d + 1) cap))) (hat : Value.ownBlock (.slice (some ⟨g, 0, none⟩) (d + 1) cap) = some g' ∨ g' = W1.heap.size + 1)
    (p4 : w4.heap[p]? = some (.cells #[.slice (some ⟨g, 0, none⟩) n cap] 95 (0, 0))) :
    NodeAt T (w4.setCell ⟨p, 0, none⟩ (.slice (some ⟨g', 0, none⟩) (d + 1 + 1) cap')) ad x ∧ WalkAt T (Also S w (w4.setCell ⟨p, 0, none⟩ (.slice (some ⟨g', 0, none⟩) (d + 1 + 1) cap'))) base (w4.setCell ⟨p, 0, none⟩ (.slice (some ⟨g', 0, none⟩) (d + 1 + 1) cap')) p (x.kids :: r :: rest) ∧ FrX S w (w4.setCell ⟨p, 0, none⟩ (.slice (some ⟨g', 0, none⟩) (d + 1 + 1) cap')) := by
  obtain ⟨h1, h2, h3, h4, -⟩ := h
  have hz4 : W1.heap.size + 1 ≤ w4.heap.size := by have := hg4.size; simpa using this
  have F4 : FrX S w w4 := ⟨hg4.os.trans F1.os, hg4.tape.trans F1.tape, hg4.output.trans F1.output, by omega, fun k hk hn => by
    rw [hg4.block k (by simp; omega) (fun e => by injection e with e; exact hn (e ▸ hg))]
    exact (Go.heap_alloc_old W1 _ (by omega)).trans (F1.block k hk hn)⟩
  obtain ⟨w5, hw5⟩ : ∃ w5, w5 = w4.setCell ⟨p, 0, none⟩ (.slice (some ⟨g', 0, none⟩) (d + 1 + 1) cap') := ⟨_, rfl⟩
  rw [← hw5]
  have F5 : FrX S w w5 := by rw [hw5]; exact F4.setCell h4
  have p5 : w5.heap[p]? = some (.cells #[.slice (some ⟨g', 0, none⟩) (d + 1 + 1) cap'] 95 (0, 0)) := by rw [hw5]; exact heap_setCell_same w4 p 0 _ _ _ p4
  have z5 : w5.heap.size = w4.heap.size := by rw [hw5]; simp
  have ho5 : w5.ownsRow base 31 1 (.slice (some ⟨g', 0, none⟩) (d + 1 + 1) cap') (d + 1 + 1) (xs.take d ++ [v1] ++ [.slice kA kn kc]) := own_kept ho4 fun k hk => by
    rw [hw5]
    exact heap_setCell_other w4 ⟨p, 0, none⟩ k _ (fun e => own_ne ho4 p4 (by decide) (by rw [hk, e]))
  clear hw5
  have kT : ∀ k, T k → w5.heap[k]? = w.heap[k]? := fun k hk => F5.block k (h3 k hk) (h2 k hk)
  have hg'lt := (World.ownsRow.lt ho5 g' rfl).2
  have hfk := hkv.facts
  refine ⟨hNE.kept (fun _ h => h) kT, ⟨?_, ?_, ?_, .inl h4, g', d + 1 + 1, cap', _, p5, by simp [hd], ho5, ?_, ?_⟩, F5⟩
  · intro k hk
    rcases hk with hk | hk
    · have := h1 k hk
      have := F5.size
      omega
    · omega
  · intro k hT hk
    rcases hk with hk | hk
    · exact h2 k hT hk
    · have := h3 k hT
      omega
  · intro k hT
    have := h3 k hT
    have := F5.size
    omega
  · rcases hat with e | e
    · injection e with e
      exact .inl (e ▸ hg)
    · exact .inr ⟨by omega, by omega⟩
  · intro i row hi
    have hrev : (x.kids :: r :: rest).reverse = rest.reverse ++ [r] ++ [x.kids] := by simp
    rw [hrev] at hi
    have hl1 : (rest.reverse ++ [r]).length = d + 1 := by simp [hd]
    have hl2 : (xs.take d ++ [v1]).length = d + 1 := by rw [List.length_append, List.length_take]; simp; omega
    have hl3 : (xs.take d).length = d := by rw [List.length_take]; omega
    have hl4 : rest.reverse.length = d := by simp [hd]
    have hili := (List.getElem?_eq_some_iff.1 hi).1
    rw [List.length_append, hl1] at hili
    simp only [List.length_cons, List.length_nil] at hili
    rcases Nat.lt_or_ge i d with hid | hid
    · rw [List.getElem?_append_left (by omega), List.getElem?_append_left (by omega)] at hi
      have hso : s.reverse[i]? = some row := by
        rw [hs, List.reverse_append, List.reverse_cons, List.append_assoc, List.getElem?_append_left (by omega)]
        exact hi
      obtain ⟨A, m, c, e1, e2, e3, e4, e5, e6⟩ := hr i row hso
      refine ⟨A, m, c, ?_, e2, e3, e4, e5, e6.kept (fun _ h => h) kT _ _ _⟩
      rw [List.getElem?_append_left (by omega), List.getElem?_append_left (by omega), List.getElem?_take, if_pos hid]
      exact e1
    · rcases Nat.lt_or_ge i (d + 1) with hid2 | hid2
      · obtain rfl : i = d := by omega
        rw [List.getElem?_append_left (by omega), List.getElem?_append_right (by omega), hl4, Nat.sub_self] at hi
        injection hi with hi
        subst hi
        obtain ⟨A, m, c, e1, e2, e3, e4, e5, e6⟩ := V1
        refine ⟨A, m, c, ?_, e2, e3, e4, e5, e6.kept (fun _ h => h) kT _ _ _⟩
        rw [List.getElem?_append_left (by omega), List.getElem?_append_right (by omega), hl3, Nat.sub_self, e1]
        rfl
      · obtain rfl : i = d + 1 := by omega
        rw [List.getElem?_append_right (by omega), hl1, Nat.sub_self] at hi
        injection hi with hi
        subst hi
        refine ⟨kA, kn, kc, ?_, hfk.kl.symm, hfk.knc, hfk.kcm, hfk.knil, hfk.row.kept (fun _ h => h) kT _ _ _⟩
        rw [List.getElem?_append_right (by omega), hl2, Nat.sub_self]
        rfl
theorem Also.drewN {S : Nat → Prop} {w w' : World} (n : Nat) : Also S w (w'.drewN n) = Also S w w' := rfl
set_option maxHeartbeats 4000000 in
theorem next_any (w : World) (T S : Nat → Prop) (base p : Nat) (s : Stk) (h : WalkAt T S base w p s) (hlen : s.length ≤ 1000000) (hbase : base ≤ w.heap.size) :
    Calls Try.prog 90 #[.pointer (some ⟨p, 0, none⟩)] w (NextPost T S base w p s) := by
  have h0 := Lib.hid h
  obtain ⟨h1, h2, h3, h4, g, n, cap, xs, hp, hn, ho, hg, hr⟩ := h
  have c0 := cell_of_row w p 0 _ _ _ hp
  have f0 := frozen_of_row w p 0 _ _ hp
  simp at c0
  have hnb : n ≤ 1000000 := by omega
  have h1' := Lib.hid h1
  have h2' := Lib.hid h2
  have h3' := Lib.hid h3
  have hp' := Lib.hid hp
  have hn' := Lib.hid hn
  have ho' := Lib.hid ho
  have hr' := Lib.hid hr
  have hlen' := Lib.hid hlen
  clear h1 h2 h3 hp hn ho hr hlen
  go_enter Try.func90, Try.ntmps90
  go_wp2_with fail
  go_loopw [5] (fun dv wr => ∃ (z : Int) (e s2 : Stk), dv = .int .i64 z ∧ z + 1 = (s2.length : Int) ∧ s2.length ≤ n ∧ s = e ++ s2 ∧ (∀ row ∈ e, row = []) ∧ wr = w) (fun dv _ => (intOf dv + 1).toNat)
  case atStart => exact ⟨_, [], s, rfl, by have := hn'.out; omega, by have := hn'.out; omega, rfl, by simp, rfl⟩
  case round =>
    obtain ⟨z, e, s2, rfl, hz, hs2, hs, he, rfl⟩ := hrel
    cases s2 with
    | nil =>
      have hzI : ¬ (0 : Int) ≤ z := by simp at hz; omega
      have hv := Lib.hid (show nextV s = none by rw [hs, nextV_skip e [] he]; rfl)
      clear hz hs he hs2
      go_wp2_with fail
      refine bodyPost_ret (v := .tuple #[.int .i64 0, .pointer none]) (by simp [results, Try.results90, go_sem]) rfl ?_
      unfold NextPost
      rw [hv.out]
      exact ⟨rfl, rfl⟩
    | cons row rest =>
      obtain ⟨d, hd⟩ : ∃ d, d = rest.length := ⟨_, rfl⟩
      obtain rfl : z = (d : Int) := by simp at hz; omega
      have hdn : d < n := by simp at hs2; omega
      obtain ⟨A, m, c, hx, hm, hmc, hcm, hA, hrow⟩ := hr'.out d row (by rw [hs, hd]; exact rev_at e row rest)
      have cd := World.ownsRow.cells ho'.out (g := g) rfl d _ hx
      rw [add_zero_off] at cd
      have fd := own_frozen ho'.out d
      have hdI : (d : Int) < (n : Int) := by omega
      have hx' := Lib.hid hx
      have hA' := Lib.hid hA
      have hrow' := Lib.hid hrow
      have hd' := Lib.hid hd
      clear hx hA hrow hd
      cases row with
      | nil =>
        obtain rfl : m = 0 := hm
        go_wp2_with fail
        go_roundw
        case rel => exact ⟨(d : Int) - 1, e ++ [[]], rest, rfl, by have := hd'.out; omega, by simp at hs2; omega, by rw [hs]; simp, fun row hr => by rcases List.mem_append.1 hr with hr | hr; exact he row hr; simpa using hr, trivial⟩
        case measure => simp [intOf]
      | cons x r =>
        have hm1 : 1 ≤ m := by rw [hm]; simp
        have hm0 : (0 : Int) < (m : Int) := by omega
        cases A with
        | none => exact absurd (hA'.out rfl) (by omega)
        | some ad =>
          obtain ⟨E, eE, hNE⟩ := RowAt.at_ (q := 0) hrow'.out rfl
          have hNE' := Lib.hid hNE
          obtain ⟨hTE, aA, an, ac, kA, kn, kc, ⟨k0, k1, k2, k3, k4, k5⟩, hkv⟩ := hNE
          injection eE with eE
          subst eE
          rw [show (0 + 0) * 6 = 0 by omega, add_zero] at hTE k5
          have hm' := Lib.hid hm
          have hs' := Lib.hid hs
          have he' := Lib.hid he
          have hz' := Lib.hid hz
          have hs2' := Lib.hid hs2
          have hkv' := Lib.hid hkv
          clear hm hs he hz hs2 hkv k0 k1 k2 k3 k4
          have hgad : ad.block ≠ g := fun e => h2'.out _ hTE (e ▸ hg)
          have hpg : p ≠ g := fun e => own_ne ho'.out hp'.out (by decide) (by rw [e]; rfl)
          have hcv : ∃ v1, (c = 1 ∧ v1 = Value.slice (some ad) (m - 1) (c - 1) ∨ c ≠ 1 ∧ v1 = Value.slice (some (ad.add 6)) (m - 1) (c - 1)) := by
            by_cases e : c = 1
            · exact ⟨_, .inl ⟨e, rfl⟩⟩
            · exact ⟨_, .inr ⟨e, rfl⟩⟩
          obtain ⟨v1, hv1⟩ := hcv
          have V1 : Hid (∃ (A : Option Addr) (n c : Nat), v1 = .slice A n c ∧ n = r.length ∧ n ≤ c ∧ c ≤ maxLen ∧ (A = none → c = 0) ∧ RowAt T wr A 0 r) := by
            have hml : m = r.length + 1 := by rw [hm'.out]; simp
            have hrest := hrow'.out
            simp only [RowAt] at hrest
            rcases hv1 with ⟨e, rfl⟩ | ⟨e, rfl⟩
            · have hr0 : r = [] := List.length_eq_zero_iff.1 (by omega)
              refine ⟨_, _, _, rfl, by omega, by omega, by omega, (fun h => by cases h), ?_⟩
              rw [hr0]
              simp [RowAt]
            · exact ⟨_, _, _, rfl, by omega, by omega, by omega, (fun h => by cases h), RowAt.from_ 1 r 0 hrest.2⟩
          have own1 := own_set_cut ho'.out hdn v1
          rcases hv1 with ⟨hc1, hv1⟩ | ⟨hc1, hv1⟩
          · have hcT : (c = 1) = True := eq_true hc1
            have hv1' := Lib.hid hv1
            clear hc1 hv1
            go_upto_region 8 with fail
            rw [← hv1'.out]
            clear hcT hv1'
            obtain ⟨W1, hW1⟩ : ∃ W1, W1 = wr.setCell ⟨g, d, none⟩ v1 := ⟨_, rfl⟩
            rw [← hW1] at own1 ⊢
            have z1 : W1.heap.size = wr.heap.size := by rw [hW1]; simp
            have o1 : ∀ k, k ≠ g → W1.heap[k]? = wr.heap[k]? := fun k hk => by rw [hW1]; exact heap_setCell_other wr ⟨g, d, none⟩ k v1 hk
            have p1 := (o1 p hpg).trans hp'.out
            have F1 : FrX S wr W1 := by rw [hW1]; exact (FrX.refl S wr).setCell hg
            have k51 : W1.cell? ⟨ad.block, ad.off + 5, none⟩ = some (.slice kA kn kc) := (World.cell?_of_block (w := wr) (w' := W1) (a := ⟨ad.block, ad.off + 5, none⟩) (o1 _ hgad)).trans k5
            clear hW1 k5 c0 f0 cd fd
            have hsz := (h1'.out p h4).2
            have hpW : p < W1.heap.size := by rw [z1]; exact hsz
            have hadW : ad.block < W1.heap.size := by rw [z1]; exact h3'.out _ hTE
            have hszg := (h1'.out g hg).2
            have hTz := h3'.out _ hTE
            obtain ⟨i0, hi0, hz0, hz1, hz2⟩ := info_parts Try.infoRow
            have hi0' := Lib.hid hi0
            have hz0' := Lib.hid hz0
            have hz1' := Lib.hid hz1
            have hz2' := Lib.hid hz2
            have hrw := Lib.hid (show ∀ o, ((W1.alloc o).drew).ownsRow base 31 1 (.slice (some ⟨g, 0, none⟩) (d + 1) cap) (d + 1) (xs.take d ++ [v1]) from fun o => World.ownsRow.alloc own1 o)
            have hnews := Lib.hid (show ∀ (j : Nat) (u : Value), ([.slice kA kn kc] : List Value)[j]? = some u → (W1.alloc (.cells #[.slice kA kn kc] 31)).drew.cell? ((⟨W1.heap.size, 0, none⟩ : Addr).add j) = some u from
              World.news_of_block (w := W1.alloc (.cells #[.slice kA kn kc] 31)) (cs := #[.slice kA kn kc]) (t := 31) (fr := (0, 0)) (heap_alloc_new W1 _))
            have hone := Lib.hid (show ∀ u ∈ ([.slice kA kn kc] : List Value), u.oneCell' = true from by simp [Value.oneCell'])
            have hbd := Lib.hid (show d + 1 + 1 ≤ maxLen ∧ (d + 1 + 1) * 24 ≤ 140737488355328 from by unfold maxLen; omega)
            have hbd2 := Lib.hid (show ∀ o, base ≤ (W1.alloc o).drew.heap.size from fun o => by simp; omega)
            have kk4 := Lib.hid (show ∀ w4 o, World.grownBy ((W1.alloc o).drew) w4 (Value.ownBlock (.slice (some ⟨g, 0, none⟩) (d + 1) cap)) → ∀ k, k < W1.heap.size → k ≠ g → w4.heap[k]? = W1.heap[k]? from fun w4 o hg3 k hk hn => by
              rw [hg3.block k (by simp; omega) (fun e => by injection e with e; exact hn e)]
              exact Go.heap_alloc_old W1 _ hk)
            have own1' := Lib.hid own1
            have o1' := Lib.hid o1
            have p1' := Lib.hid p1
            have F1' := Lib.hid F1
            have hgadI : ad.block ≠ p := fun e => h2'.out _ hTE (e ▸ h4)
            have g1 : (0 : Int) ≤ (d : Int) + 1 := by omega
            have g2 : ((d : Int) + 1).toNat = d + 1 := by omega
            have g3 : IntKind.i64.wrap ((d : Int) + 1) = (d : Int) + 1 := IntWalk.i64_in _ (by omega)
            have g4 : d + 1 ≤ cap := by have := own_cap ho'.out; omega
            have g5 : (d : Int) + 1 ≤ (cap : Int) := by omega
            have z1' := Lib.hid z1
            clear hi0 hz0 hz1 hz2 own1 o1 p1 F1 z1
            go_region_held3 (fun w' => w'.cell? ⟨ad.block, ad.off + 5, none⟩ = some (.slice kA kn kc))
              (first
                | go_keep
                | exact kk.out
                | exact (World.cell?_of_block (w := w4) (a := ⟨ad.block, ad.off + 5, none⟩) (heap_setCell_other w4 ⟨p, 0, none⟩ ad.block _ hgadI)).trans kk.out)
              ((refine step_append_lies _ (by rfl) (.tmp 33) (.tmp 38) 95 (by rfl) base 31 i0 _ 1 24 Try.underlying95 hi0'.out hz0'.out hz1'.out hz2'.out rfl (by decide) (.slice (some ⟨g, 0, none⟩) (d + 1) cap) (d + 1) (xs.take d ++ [v1]) (by rfl) (hrw.out _)
                  ⟨W1.heap.size, 0, none⟩ 1 1 [.slice kA kn kc] (by rfl) (by rfl) hnews.out hone.out
                  (by decide) hbd.out.1 hbd.out.2 (hbd2.out _) (W1.heap.size + 1) (by simp) ?_; intro g' cap' w4 ho4 hg4 hat hlt4; have kk := Lib.hid ((World.cell?_of_block (w := W1) (w' := w4) (a := ⟨ad.block, ad.off + 5, none⟩) (kk4.out w4 _ hg4 _ hadW hgad)).trans k51); have p4 := (kk4.out w4 _ hg4 p hpW hpg).trans p1'.out; have c4 := cell_of_row w4 p 0 _ _ _ p4; have f4 := frozen_of_row w4 p 0 _ _ p4; have ho4' := Lib.hid ho4; have hg4' := Lib.hid hg4; have hat' := Lib.hid hat; have p4' := Lib.hid p4; clear ho4 hg4 hat p4))
            clear g1 g2 g3 g5
            go_wp2_with fail
            go_quiet (fail)
            go_wp2_with fail
            refine bodyPost_ret (v := .tuple #[.int .i64 (d : Int), .pointer (some ad)]) (by simp [results, Try.results90, go_sem]) rfl ?_
            obtain ⟨q1, q2, q3⟩ := next_done h0.out hbase hs'.out hd'.out hr'.out (by have := ho'.out.1; omega) V1.out hkv'.out (by have h := hNE'.out; rw [show (0 + 0) * 6 = 0 by omega, add_zero] at h; exact h) hg o1'.out z1'.out F1'.out ho4'.out hg4'.out hat'.out p4'.out
            unfold NextPost
            rw [hs'.out, nextV_skip e _ he'.out]
            refine ⟨ad, by rw [hd'.out], q1.drewN _, ?_, q3.drewN _⟩
            exact WalkAt.kept q2 (Nat.le_refl _) (fun _ _ => rfl)
          · rw [add_off _ _ (by omega)] at hv1
            have hv1' := Lib.hid hv1
            clear hv1
            go_upto_region 8 with fail
            rw [← hv1'.out]
            clear hc1 hv1'
            obtain ⟨W1, hW1⟩ : ∃ W1, W1 = wr.setCell ⟨g, d, none⟩ v1 := ⟨_, rfl⟩
            rw [← hW1] at own1 ⊢
            have z1 : W1.heap.size = wr.heap.size := by rw [hW1]; simp
            have o1 : ∀ k, k ≠ g → W1.heap[k]? = wr.heap[k]? := fun k hk => by rw [hW1]; exact heap_setCell_other wr ⟨g, d, none⟩ k v1 hk
            have p1 := (o1 p hpg).trans hp'.out
            have F1 : FrX S wr W1 := by rw [hW1]; exact (FrX.refl S wr).setCell hg
            have k51 : W1.cell? ⟨ad.block, ad.off + 5, none⟩ = some (.slice kA kn kc) := (World.cell?_of_block (w := wr) (w' := W1) (a := ⟨ad.block, ad.off + 5, none⟩) (o1 _ hgad)).trans k5
            clear hW1 k5 c0 f0 cd fd
            have hsz := (h1'.out p h4).2
            have hpW : p < W1.heap.size := by rw [z1]; exact hsz
            have hadW : ad.block < W1.heap.size := by rw [z1]; exact h3'.out _ hTE
            have hszg := (h1'.out g hg).2
            have hTz := h3'.out _ hTE
            obtain ⟨i0, hi0, hz0, hz1, hz2⟩ := info_parts Try.infoRow
            have hi0' := Lib.hid hi0
            have hz0' := Lib.hid hz0
            have hz1' := Lib.hid hz1
            have hz2' := Lib.hid hz2
            have hrw := Lib.hid (show ∀ o, ((W1.alloc o).drew).ownsRow base 31 1 (.slice (some ⟨g, 0, none⟩) (d + 1) cap) (d + 1) (xs.take d ++ [v1]) from fun o => World.ownsRow.alloc own1 o)
            have hnews := Lib.hid (show ∀ (j : Nat) (u : Value), ([.slice kA kn kc] : List Value)[j]? = some u → (W1.alloc (.cells #[.slice kA kn kc] 31)).drew.cell? ((⟨W1.heap.size, 0, none⟩ : Addr).add j) = some u from
              World.news_of_block (w := W1.alloc (.cells #[.slice kA kn kc] 31)) (cs := #[.slice kA kn kc]) (t := 31) (fr := (0, 0)) (heap_alloc_new W1 _))
            have hone := Lib.hid (show ∀ u ∈ ([.slice kA kn kc] : List Value), u.oneCell' = true from by simp [Value.oneCell'])
            have hbd := Lib.hid (show d + 1 + 1 ≤ maxLen ∧ (d + 1 + 1) * 24 ≤ 140737488355328 from by unfold maxLen; omega)
            have hbd2 := Lib.hid (show ∀ o, base ≤ (W1.alloc o).drew.heap.size from fun o => by simp; omega)
            have kk4 := Lib.hid (show ∀ w4 o, World.grownBy ((W1.alloc o).drew) w4 (Value.ownBlock (.slice (some ⟨g, 0, none⟩) (d + 1) cap)) → ∀ k, k < W1.heap.size → k ≠ g → w4.heap[k]? = W1.heap[k]? from fun w4 o hg3 k hk hn => by
              rw [hg3.block k (by simp; omega) (fun e => by injection e with e; exact hn e)]
              exact Go.heap_alloc_old W1 _ hk)
            have own1' := Lib.hid own1
            have o1' := Lib.hid o1
            have p1' := Lib.hid p1
            have F1' := Lib.hid F1
            have hgadI : ad.block ≠ p := fun e => h2'.out _ hTE (e ▸ h4)
            have g1 : (0 : Int) ≤ (d : Int) + 1 := by omega
            have g2 : ((d : Int) + 1).toNat = d + 1 := by omega
            have g3 : IntKind.i64.wrap ((d : Int) + 1) = (d : Int) + 1 := IntWalk.i64_in _ (by omega)
            have g4 : d + 1 ≤ cap := by have := own_cap ho'.out; omega
            have g5 : (d : Int) + 1 ≤ (cap : Int) := by omega
            have z1' := Lib.hid z1
            clear hi0 hz0 hz1 hz2 own1 o1 p1 F1 z1
            go_region_held3 (fun w' => w'.cell? ⟨ad.block, ad.off + 5, none⟩ = some (.slice kA kn kc))
              (first
                | go_keep
                | exact kk.out
                | exact (World.cell?_of_block (w := w4) (a := ⟨ad.block, ad.off + 5, none⟩) (heap_setCell_other w4 ⟨p, 0, none⟩ ad.block _ hgadI)).trans kk.out)
              ((refine step_append_lies _ (by rfl) (.tmp 33) (.tmp 38) 95 (by rfl) base 31 i0 _ 1 24 Try.underlying95 hi0'.out hz0'.out hz1'.out hz2'.out rfl (by decide) (.slice (some ⟨g, 0, none⟩) (d + 1) cap) (d + 1) (xs.take d ++ [v1]) (by rfl) (hrw.out _)
                  ⟨W1.heap.size, 0, none⟩ 1 1 [.slice kA kn kc] (by rfl) (by rfl) hnews.out hone.out
                  (by decide) hbd.out.1 hbd.out.2 (hbd2.out _) (W1.heap.size + 1) (by simp) ?_; intro g' cap' w4 ho4 hg4 hat hlt4; have kk := Lib.hid ((World.cell?_of_block (w := W1) (w' := w4) (a := ⟨ad.block, ad.off + 5, none⟩) (kk4.out w4 _ hg4 _ hadW hgad)).trans k51); have p4 := (kk4.out w4 _ hg4 p hpW hpg).trans p1'.out; have c4 := cell_of_row w4 p 0 _ _ _ p4; have f4 := frozen_of_row w4 p 0 _ _ p4; have ho4' := Lib.hid ho4; have hg4' := Lib.hid hg4; have hat' := Lib.hid hat; have p4' := Lib.hid p4; clear ho4 hg4 hat p4))
            clear g1 g2 g3 g5
            go_wp2_with fail
            go_quiet (fail)
            go_wp2_with fail
            refine bodyPost_ret (v := .tuple #[.int .i64 (d : Int), .pointer (some ad)]) (by simp [results, Try.results90, go_sem]) rfl ?_
            obtain ⟨q1, q2, q3⟩ := next_done h0.out hbase hs'.out hd'.out hr'.out (by have := ho'.out.1; omega) V1.out hkv'.out (by have h := hNE'.out; rw [show (0 + 0) * 6 = 0 by omega, add_zero] at h; exact h) hg o1'.out z1'.out F1'.out ho4'.out hg4'.out hat'.out p4'.out
            unfold NextPost
            rw [hs'.out, nextV_skip e _ he'.out]
            refine ⟨ad, by rw [hd'.out], q1.drewN _, ?_, q3.drewN _⟩
            exact WalkAt.kept q2 (Nat.le_refl _) (fun _ _ => rfl)
end Go.Proofs.Ytoeblaecldhcaaa
/- The node at a path: the program's. -/
namespace Go.Proofs.Ytoeblaecldhcaaa
set_option linter.unusedVariables false
open Go.RowKit
set_option maxRecDepth 20000

theorem Owned.node {w w' : World} {T : Nat → Prop} {t : Nd} {aA kA aA0 kA0 : Option Addr} {an ac kn kc an0 ac0 kn0 kc0 gA : Nat} {ks : List KV} (h : Owned w w' T t aA an ac kA kn kc gA ks) (hv : NodeV T w aA0 an0 ac0 kA0 kn0 kc0 t) (hT : ∀ k, T k → k < w.heap.size) :
    NodeV (fun k => T k ∨ (w.heap.size ≤ k ∧ k < w'.heap.size)) w' aA an ac kA kn kc t := by
  have hf := hv.facts
  refine NFacts.node ⟨hf.id, hf.label, hf.text, h.ats.kept (by rintro k rfl; exact .inr h.ga) (fun _ _ => rfl), h.anc, h.acm, h.anil, by rw [← h.map, List.length_map]; exact h.len, h.knc, h.kcm, h.knil, ?_⟩
  rw [← h.map]
  obtain ⟨A, n, c, e, hn, -, -, -, hq⟩ := h.row.shape
  injection e with e1 e2 e3
  subst e1
  refine RowAt.of_kvs ks (fun k hk => KV.ok_kept (fun _ h => .inl h) (fun j hj => h.bel.block j (hT j hj)) (h.ok k hk)) fun q k hk => ?_
  obtain ⟨g, rfl, hb, hlt, hs⟩ := hq q k hk
  exact ⟨⟨g, 0, none⟩, rfl, .inr ⟨hb, hlt⟩, by rw [add_zero_off]; exact hs⟩
theorem set_six {w : World} {g : Nat} {a0 a1 a2 a3 a4 a5 b0 b1 b2 b3 b4 b5 : Value} {ty : TypeId} (h : w.heap[g]? = some (.cells #[a0, a1, a2, a3, a4, a5] ty (0, 0))) :
    ((((((w.setCell ⟨g, 0, none⟩ b0).setCell ⟨g, 1, none⟩ b1).setCell ⟨g, 2, none⟩ b2).setCell ⟨g, 3, none⟩ b3).setCell ⟨g, 4, none⟩ b4).setCell ⟨g, 5, none⟩ b5).heap[g]? = some (.cells #[b0, b1, b2, b3, b4, b5] ty (0, 0)) :=
  by
  have e0 := heap_setCell_same w g 0 _ _ b0 h
  have e1 := heap_setCell_same _ g 1 _ _ b1 e0
  have e2 := heap_setCell_same _ g 2 _ _ b2 e1
  have e3 := heap_setCell_same _ g 3 _ _ b3 e2
  have e4 := heap_setCell_same _ g 4 _ _ b4 e3
  have e5 := heap_setCell_same _ g 5 _ _ b5 e4
  rw [e5]
  simp
theorem set_six_other {w : World} {g k : Nat} {b0 b1 b2 b3 b4 b5 : Value} (h : k ≠ g) :
    ((((((w.setCell ⟨g, 0, none⟩ b0).setCell ⟨g, 1, none⟩ b1).setCell ⟨g, 2, none⟩ b2).setCell ⟨g, 3, none⟩ b3).setCell ⟨g, 4, none⟩ b4).setCell ⟨g, 5, none⟩ b5).heap[k]? = w.heap[k]? :=
  (heap_setCell_other _ _ k _ h).trans ((heap_setCell_other _ _ k _ h).trans ((heap_setCell_other _ _ k _ h).trans ((heap_setCell_other _ _ k _ h).trans ((heap_setCell_other _ _ k _ h).trans (heap_setCell_other _ _ k _ h)))))
theorem below_six {B : Nat} {w0 w : World} {g : Nat} {b0 b1 b2 b3 b4 b5 : Value} (h : Below B w0 w) (hg : B ≤ g) :
    Below B w0 ((((((w.setCell ⟨g, 0, none⟩ b0).setCell ⟨g, 1, none⟩ b1).setCell ⟨g, 2, none⟩ b2).setCell ⟨g, 3, none⟩ b3).setCell ⟨g, 4, none⟩ b4).setCell ⟨g, 5, none⟩ b5) :=
  (((((h.setCell hg _).setCell hg _).setCell hg _).setCell hg _).setCell hg _).setCell hg _
theorem weigh_mem {k : Nd} : ∀ {l : List Nd}, k ∈ l → weighV k ≤ weighsV l
  | m :: r, h => by
    simp only [weighsV]
    rcases List.mem_cons.1 h with rfl | h
    · omega
    · have := weigh_mem h
      omega
theorem weigh_kid {s k : Nd} {j : Nat} (h : s.kids[j]? = some k) : weighV k ≤ weighV s := by
  have := weigh_mem (List.mem_of_getElem? h)
  rw [weighV_eq s]
  omega
theorem weigh_rows (s : Nd) : s.attrs.length ≤ weighV s ∧ s.kids.length ≤ weighV s := by
  have h1 := attrsLen_le s.attrs
  have h2 := kids_le s
  have h3 := count_le s
  rw [weighV_eq s] at h3 ⊢
  omega
def zero6 : Array Value := #[.int .u64 0, .bool false, .string ⟨#[]⟩, .slice none 0 0, .string ⟨#[]⟩, .slice none 0 0]
theorem atV_none {s : Nd} {i : Int} {r : List Int} (h : hasB s.kids.length i = false) : atV s (i :: r) = none := by
  unfold hasB at h
  have h := of_decide_eq_false h
  simp only [atV]
  split
  · rw [List.getElem?_eq_none (by omega)]
  · rfl
theorem atV_some {s k : Nd} {j : Nat} {r : List Int} (h : s.kids[j]? = some k) : atV s ((j : Int) :: r) = atV k r := by
  simp only [atV]
  rw [if_pos (by omega)]
  simp [h]
theorem hasB_cases (n : Nat) (i : Int) : hasB n i = false ∨ ∃ j : Nat, i = (j : Int) ∧ j < n ∧ hasB n i = true := by
  by_cases h : 0 ≤ i ∧ i < (n : Int)
  · exact .inr ⟨i.toNat, by omega, by omega, decide_eq_true h⟩
  · exact .inl (decide_eq_false h)
/-- what At answers -/
def AtAns (w : World) (t : Nd) (p : List Int) (e : Ending) (w' : World) : Prop :=
  ∃ aA an ac kA kn kc, e = .returned (.tuple #[.agg (val6 ((atV t p).getD Nd.zero) aA an ac kA kn kc), .bool (atV t p).isSome]) ∧ NodeV (Old w') w' aA an ac kA kn kc ((atV t p).getD Nd.zero) ∧ Below w.heap.size w w'
set_option maxHeartbeats 4000000 in
theorem at_any (w : World) (t : Nd) (aA kA : Option Addr) (an ac kn kc : Nat) (h : NodeV (Old w) w aA an ac kA kn kc t) (pA : Option Addr) (pn pc : Nat) (p : List Int) (hp : Its w pA pn p) (hpn : pn ≤ maxLen)
    (hbig : weighV t ≤ 1000000) :
    Calls Try.prog 33 #[.agg (val6 t aA an ac kA kn kc), .slice pA pn pc] w (AtAns w t p) := by
  have h' := Lib.hid h
  have hp' := Lib.hid hp
  have hpl := Lib.hid hp.1
  clear h hp
  unfold maxLen at hpn
  unfold val6
  go_enter Try.func33, Try.ntmps33
  go_wp2_with fail
  go_loopw [10] (fun k wr => ∃ (q : Nat) (s : Nd) (sA skA : Option Addr) (sn sc skn skc : Nat), q ≤ pn ∧ k = .int .i64 (q : Int) ∧ atV t p = atV s (p.drop q) ∧ weighV s ≤ 1000000 ∧ NodeV (Old w) w sA sn sc skA skn skc s ∧
    wr.heap[w.heap.size]? = some (.cells (val6 s sA sn sc skA skn skc) 33 (0, 0)) ∧ wr.heap[w.heap.size + 1]? = some (.cells zero6 33 (0, 0)) ∧ Below w.heap.size w wr) (fun k _ => pn - (intOf k).toNat)
  case atStart =>
    exact ⟨0, t, aA, kA, an, ac, kn, kc, Nat.zero_le _, rfl, rfl, hbig, h'.out, two_first w _ _, two_second w _ _, ((Below.refl _ w).alloc (Nat.le_refl _) _).alloc (by simp) _⟩
  case round =>
    obtain ⟨q, s, sA, skA, sn, sc, skn, skc, hq, rfl, hat, hz, hv, hB, hR, hbel⟩ := hrel
    have hf := hv.facts
    have hkl := hf.kl
    have hb := weigh_rows s
    unfold val6 at hB
    unfold zero6 at hR
    obtain ⟨c0, c1, c2, c3, c4, c5, cf⟩ := six_cells hB
    obtain ⟨r0, r1, r2, r3, r4, r5, rf⟩ := six_cells hR
    have hBl := (Array.getElem?_eq_some_iff.1 hB).1
    have hRl := (Array.getElem?_eq_some_iff.1 hR).1
    by_cases h1 : q < pn
    · have h1I : (q : Int) < (pn : Int) := by omega
      obtain ⟨ad, i, rfl, hi, hci⟩ := (hp'.out.below hbel).at_ h1
      have hdrop : p.drop q = i :: p.drop (q + 1) := by
        have hl : q < p.length := by rw [hpl.out]; exact h1
        rw [List.drop_eq_getElem_cons hl]
        rw [List.getElem?_eq_getElem hl] at hi
        injection hi with hi
        rw [hi]
      rw [hdrop] at hat
      have hkm := hf.kcm
      have hknc := hf.knc
      rcases hasB_cases skn i with hno | ⟨j, rfl, hj, hyes⟩
      · have hcall := Lib.hid (hasChild_any wr (s.id : Int) s.leaf s.label s.text sA skA sn sc skn skc i (by omega))
        rw [hno] at hcall
        have hans := Lib.hid (hat.trans (atV_none (by rw [hkl]; exact hno)))
        have hbel' := Lib.hid hbel
        have hR' := Lib.hid hR
        clear hat hf hkl hv hB hR hbel hno hdrop hkm hknc hz hb hi
        go_wp2_with (go_at_call 68; refine hcall.out.mono ?_; rintro e w1 ⟨rfl, hb1⟩; have R1 := (hb1.block _ hRl).trans hR'.out; obtain ⟨d0, d1, d2, d3, d4, d5, df⟩ := six_cells R1)
        have hW : w.heap.size + 1 < w1.heap.size := (Array.getElem?_eq_some_iff.1 R1).1
        have R9 := set_six (b0 := .int .u64 0) (b1 := .bool false) (b2 := .string ⟨#[]⟩) (b3 := .slice none 0 0) (b4 := .string ⟨#[]⟩) (b5 := .slice none 0 0) R1
        have hb9 : Below w.heap.size w _ := below_six (hbel'.out.trans (hb1.mono hbel'.out.size)) (b0 := .int .u64 0) (b1 := .bool false) (b2 := .string ⟨#[]⟩) (b3 := .slice none 0 0) (b4 := .string ⟨#[]⟩) (b5 := .slice none 0 0) (Nat.le_succ w.heap.size)
        generalize ((((((w1.setCell ⟨w.heap.size + 1, 0, none⟩ (.int .u64 0)).setCell ⟨w.heap.size + 1, 1, none⟩ (.bool false)).setCell ⟨w.heap.size + 1, 2, none⟩ (.string ⟨#[]⟩)).setCell ⟨w.heap.size + 1, 3, none⟩ (.slice none 0 0)).setCell ⟨w.heap.size + 1, 4, none⟩ (.string ⟨#[]⟩)).setCell ⟨w.heap.size + 1, 5, none⟩ (.slice none 0 0)) = W9 at R9 hb9 ⊢
        obtain ⟨d0, d1, d2, d3, d4, d5, df⟩ := six_cells R9
        refine bodyPost_ret (v := .tuple #[.agg zero6, .bool false]) (by simp [results, Try.results33, go_sem, d0, d1, d2, d3, d4, d5, zero6]) rfl ?_
        exact ⟨none, 0, 0, none, 0, 0, by rw [hans.out]; rfl, by rw [hans.out]; exact zero_node, hb9⟩
      · obtain ⟨kd, hkd⟩ : ∃ kd, s.kids[j]? = some kd := ⟨s.kids[j]'(by omega), List.getElem?_eq_getElem _⟩
        obtain ⟨ka, rfl, hka, aA3, an3, ac3, kA3, kn3, kc3, hsix, hv3⟩ := hf.row.at_ hkd
        rw [Nat.zero_add] at hka hsix
        have hcall := Lib.hid (hasChild_any wr (s.id : Int) s.leaf s.label s.text sA (some ka) sn sc skn skc (j : Int) (by omega))
        rw [hyes] at hcall
        have hans := Lib.hid (hat.trans (atV_some hkd))
        have hpath := Lib.hid (Nat.le_trans (weigh_kid hkd) hz)
        have hjI : (j : Int) < (skn : Int) := by omega
        have hbel' := Lib.hid hbel
        have hR' := Lib.hid hR
        have hv3' := Lib.hid hv3
        clear hat hf hkl hv hR hbel hyes hdrop hkm hknc hz hb hi hkd hv3
        go_wp2_with (go_at_call 68; refine hcall.out.mono ?_; rintro e w1 ⟨rfl, hb1⟩; have B1 := (hb1.block _ hBl).trans hB; have R1 := (hb1.block _ hRl).trans hR'.out; obtain ⟨d0, d1, d2, d3, d4, d5, df⟩ := six_cells B1; obtain ⟨s0, s1, s2, s3, s4, s5⟩ := hsix.kept (w' := w1) (((hbel'.out.trans (hb1.mono hbel'.out.size))).block _ hka))
        go_roundw
        case rel =>
          have hbw := hbel'.out.trans (hb1.mono hbel'.out.size)
          refine ⟨q + 1, kd, aA3, kA3, an3, ac3, kn3, kc3, by omega, by go_num, hans.out, hpath.out, hv3'.out, set_six B1, (set_six_other (by omega)).trans R1, below_six hbw (Nat.le_refl _)⟩
        case measure => simp [intOf]; omega
    · have h1I : ¬ (q : Int) < (pn : Int) := by omega
      have hans := Lib.hid (show atV t p = some s by rw [hat, List.drop_of_length_le (by rw [hpl.out]; omega)]; rfl)
      have hcall := Lib.hid (owned_any wr (Old w) s sA skA sn sc skn skc (hv.kept (fun _ h => h) (fun k hk => hbel.block k hk)) (fun k hk => Nat.lt_of_lt_of_le hk hbel.size) (by have := hf.ats.1; omega) (by omega))
      have hv' := Lib.hid (hv.kept (w' := wr) (fun _ h => h) (fun k hk => hbel.block k hk))
      have hbel' := Lib.hid hbel
      have hR' := Lib.hid hR
      clear hat hf hkl hv hR hbel hz hb hB
      go_wp2_with (go_at_call 69; refine hcall.out.mono ?_; rintro e w1 ⟨oA, oc, okA, okc, gA, ks, rfl, hO⟩; have R1 := (hO.bel.block _ hRl).trans hR'.out; obtain ⟨d0, d1, d2, d3, d4, d5, df⟩ := six_cells R1; have hO' := Lib.hid hO; clear hO)
      have R9 := set_six (b0 := .int .u64 (s.id : Int)) (b1 := .bool s.leaf) (b2 := .string ⟨s.label.toArray⟩) (b3 := .slice oA sn oc) (b4 := .string ⟨s.text.toArray⟩) (b5 := .slice okA skn okc) R1
      have hO := hO'.out
      have hbw := hbel'.out.trans (hO.bel.mono hbel'.out.size)
      have hb9 : Below w.heap.size w _ := below_six hbw (b0 := .int .u64 (s.id : Int)) (b1 := .bool s.leaf) (b2 := .string ⟨s.label.toArray⟩) (b3 := .slice oA sn oc) (b4 := .string ⟨s.text.toArray⟩) (b5 := .slice okA skn okc) (Nat.le_succ w.heap.size)
      have hz1 := hO.bel.size
      have hN : NodeV (Old ((((((w1.setCell ⟨w.heap.size + 1, 0, none⟩ (.int .u64 (s.id : Int))).setCell ⟨w.heap.size + 1, 1, none⟩ (.bool s.leaf)).setCell ⟨w.heap.size + 1, 2, none⟩ (.string ⟨s.label.toArray⟩)).setCell ⟨w.heap.size + 1, 3, none⟩ (.slice oA sn oc)).setCell ⟨w.heap.size + 1, 4, none⟩ (.string ⟨s.text.toArray⟩)).setCell ⟨w.heap.size + 1, 5, none⟩ (.slice okA skn okc))) ((((((w1.setCell ⟨w.heap.size + 1, 0, none⟩ (.int .u64 (s.id : Int))).setCell ⟨w.heap.size + 1, 1, none⟩ (.bool s.leaf)).setCell ⟨w.heap.size + 1, 2, none⟩ (.string ⟨s.label.toArray⟩)).setCell ⟨w.heap.size + 1, 3, none⟩ (.slice oA sn oc)).setCell ⟨w.heap.size + 1, 4, none⟩ (.string ⟨s.text.toArray⟩)).setCell ⟨w.heap.size + 1, 5, none⟩ (.slice okA skn okc)) oA sn oc okA skn okc s := (hO.node hv'.out (fun k hk => Nat.lt_of_lt_of_le hk hbel'.out.size)).kept (fun k hk => by
          show k < _
          have hsz := hbel'.out.size
          simp only [World.size_setCell]
          rcases hk with hk | hk
          · have : k < w.heap.size := hk
            omega
          · exact hk.2) (fun k hk => set_six_other (by
          rcases hk with hk | hk
          · have : k < w.heap.size := hk
            omega
          · omega))
      generalize ((((((w1.setCell ⟨w.heap.size + 1, 0, none⟩ (.int .u64 (s.id : Int))).setCell ⟨w.heap.size + 1, 1, none⟩ (.bool s.leaf)).setCell ⟨w.heap.size + 1, 2, none⟩ (.string ⟨s.label.toArray⟩)).setCell ⟨w.heap.size + 1, 3, none⟩ (.slice oA sn oc)).setCell ⟨w.heap.size + 1, 4, none⟩ (.string ⟨s.text.toArray⟩)).setCell ⟨w.heap.size + 1, 5, none⟩ (.slice okA skn okc)) = W9 at R9 hb9 hN ⊢
      obtain ⟨f0, f1, f2, f3, f4, f5, ff⟩ := six_cells R9
      refine bodyPost_ret (v := .tuple #[.agg (val6 s oA sn oc okA skn okc), .bool true]) (by simp [results, Try.results33, go_sem, f0, f1, f2, f3, f4, f5, val6]) rfl ?_
      exact ⟨oA, sn, oc, okA, skn, okc, by rw [hans.out]; rfl, by rw [hans.out]; exact hN, hb9⟩
end Go.Proofs.Ytoeblaecldhcaaa
/- How much a tree has: bowerkit's. -/
namespace Go.Proofs.Ytoeblaecldhcaaa
set_option linter.unusedVariables false
open Go.RowKit
set_option maxRecDepth 20000

theorem attrsW_take : ∀ (xs : List (Txt × Txt)) (q : Nat) (x : Txt × Txt), xs[q]? = some x → attrsW (xs.take (q + 1)) = attrsW (xs.take q) + (1 + x.1.length + x.2.length)
  | [], q, x, h => by simp at h
  | a :: r, 0, x, h => by
    simp at h
    subst h
    simp [attrsW]
  | a :: r, q + 1, x, h => by
    have ih := attrsW_take r q x (by simpa using h)
    simp only [List.take_succ_cons, attrsW]
    omega
theorem weighs_take : ∀ (xs : List Nd) (q : Nat) (x : Nd), xs[q]? = some x → weighsV (xs.take (q + 1)) = weighsV (xs.take q) + weighV x
  | [], q, x, h => by simp at h
  | a :: r, 0, x, h => by
    simp at h
    subst h
    simp [weighsV]
  | a :: r, q + 1, x, h => by
    have ih := weighs_take r q x (by simpa using h)
    simp only [List.take_succ_cons, weighsV]
    omega
def WeightOk (w : World) (t : Nd) (top : Nat) (e : Ending) (w' : World) : Prop := ∃ x : Nat, e = .returned (.int .i64 (x : Int)) ∧ x ≤ 3 * top + 1 ∧ (x ≤ top → x = weighV t) ∧ Below w.heap.size w w'
set_option maxHeartbeats 8000000 in
theorem weight_any (t : Nd) : ∀ (w : World) (aA kA : Option Addr) (an ac kn kc top : Nat), NodeV (Old w) w aA an ac kA kn kc t → top ≤ 1000000 →
    Calls Try.prog 14 #[.agg (val6 t aA an ac kA kn kc), .int .i64 (top : Int)] w (WeightOk w t top) := by
  induction t using Nd.ind with
  | _ t ih =>
  intro w aA kA an ac kn kc top h htop
  have ih' := Lib.hid ih
  have hf := h.facts
  have f1 := Lib.hid hf.ats
  have f1l := Lib.hid hf.ats.1
  have f3 := hf.anc
  have f3m := hf.acm
  have f4 := Lib.hid hf.row
  have f6 := hf.knc
  have f6m := hf.kcm
  have f7 := Lib.hid hf.kl
  have hlab := hf.label
  have htxt := hf.text
  unfold maxLen at hlab htxt f3m f6m
  clear ih h hf
  have early := Lib.hid (show ∀ W, Below w.heap.size w W → WeightOk w t top (.returned (.int .i64 ((top : Int) + 1))) W from fun W hb => ⟨top + 1, rfl, by omega, fun h => by omega, hb⟩)
  obtain ⟨lab, hlb⟩ : ∃ lab, lab = t.label.length := ⟨_, rfl⟩
  obtain ⟨tx, htx⟩ : ∃ tx, tx = t.text.length := ⟨_, rfl⟩
  have hW := Lib.hid (show weighV t = 1 + lab + tx + attrsW t.attrs + weighsV t.kids by rw [weighV_eq, hlb, htx])
  unfold val6
  by_cases h1 : lab ≤ top
  · by_cases h2 : tx ≤ top
    · by_cases h3 : an ≤ top
      · have h1I : ¬ (top : Int) < (t.label.length : Int) := by omega
        have h2I : ¬ (top : Int) < (t.text.length : Int) := by omega
        have h3I : ¬ (top : Int) < (an : Int) := by omega
        go_enter Try.func14, Try.ntmps14
        go_wp2_with fail
        go_loopw [5, 6] (fun s k wr => ∃ q : Nat, q ≤ an ∧ k = .int .i64 (q : Int) ∧ s = .int .i64 ((1 + lab + tx + attrsW (t.attrs.take q) : Nat) : Int) ∧ 1 + lab + tx + attrsW (t.attrs.take q) ≤ 3 * top + 1 ∧
          wr.heap[w.heap.size]? = some (.cells (val6 t aA an ac kA kn kc) 33 (0, 0)) ∧ Below w.heap.size w wr) (fun _ k _ => an - (intOf k).toNat)
        case atStart => exact ⟨0, Nat.zero_le _, rfl, by simp [attrsW, hlb, htx], by simp [attrsW]; omega, heap_alloc_new w _, (Below.refl _ _).alloc (Nat.le_refl _) _⟩
        case round =>
          obtain ⟨q, hq, rfl, rfl, hs3, hB, hbel⟩ := hrel
          obtain ⟨s, hs⟩ : ∃ s, s = 1 + lab + tx + attrsW (t.attrs.take q) := ⟨_, rfl⟩
          rw [← hs] at hs3 ⊢
          unfold val6 at hB
          obtain ⟨c0, c1, c2, c3, c4, c5, cf⟩ := six_cells hB
          by_cases g1 : q < an ∧ s ≤ top
          · have g1I : (q : Int) < (an : Int) := by omega
            have g2I : (s : Int) ≤ (top : Int) := by omega
            obtain ⟨ad, x, rfl, hxq, hlt, x1, x2, x3, x4⟩ := (f1.out.kept (T' := Old w) (fun _ h => h) (fun k hk => hbel.block k hk)).at_ g1.1
            have hst := attrsW_take _ _ _ hxq
            obtain ⟨ky, va⟩ := x
            simp only at *
            unfold maxLen at x1 x2
            by_cases g3 : ky.length ≤ top
            · have g3I : ¬ (top : Int) < (ky.length : Int) := by omega
              by_cases g4 : va.length ≤ top
              · have g4I : ¬ (top : Int) < (va.length : Int) := by omega
                have hs2 := Lib.hid (show 1 + lab + tx + attrsW (t.attrs.take (q + 1)) = s + 1 + ky.length + va.length by omega)
                have hB' := Lib.hid hB
                have hbel' := Lib.hid hbel
                clear hst hs hxq hbel hB hlb htx
                go_wp2_with fail
                go_quiet (fail)
                go_wp2_with fail
                go_roundw
                case rel => exact ⟨q + 1, by omega, by go_num, by rw [hs2.out]; go_num, by rw [hs2.out]; omega, hB'.out, draws hbel'.out _⟩
                case measure => simp [intOf]; omega
              · have g4I : (top : Int) < (va.length : Int) := by omega
                have hbel' := Lib.hid hbel
                clear hst hs hxq hbel hB hlb htx
                go_wp2_with fail
                go_ret
                exact early.out _ hbel'.out
            · have g3I : (top : Int) < (ky.length : Int) := by omega
              have hbel' := Lib.hid hbel
              clear hst hs hxq hbel hB hlb htx
              go_wp2_with fail
              go_ret
              exact early.out _ hbel'.out
          · have hfull : s ≤ top → s = 1 + lab + tx + attrsW t.attrs := fun h => by
              have : q = an := by omega
              rw [hs, List.take_of_length_le (by rw [f1l.out]; omega)]
            have hfull' := Lib.hid hfull
            have hbel' := Lib.hid hbel
            have hB' := Lib.hid hB
            have hs1 : 1 ≤ s := by omega
            have hout := Lib.hid hs
            clear hs hfull hbel hlb htx
            by_cases g2 : q < an
            · have g2I : (q : Int) < (an : Int) := by omega
              have g3I : ¬ (s : Int) ≤ (top : Int) := by omega
              clear g1
              go_wp2_with fail
              go_loopw [5, 7] (fun u k wr => ∃ (q2 s2 : Nat), q2 ≤ kn ∧ k = .int .i64 (q2 : Int) ∧ u = .int .i64 (s2 : Int) ∧ 1 ≤ s2 ∧ s2 ≤ 3 * top + 1 ∧ (s2 ≤ top → s2 = 1 + lab + tx + attrsW t.attrs + weighsV (t.kids.take q2)) ∧
                wr.heap[w.heap.size]? = some (.cells (val6 t aA an ac kA kn kc) 33 (0, 0)) ∧ Below w.heap.size w wr) (fun _ k _ => kn - (intOf k).toNat)
              case atStart => exact ⟨0, s, Nat.zero_le _, rfl, rfl, hs1, hs3, fun h => by rw [hfull'.out h]; simp [weighsV], hB'.out, hbel'.out⟩
              case round =>
                obtain ⟨q2, s2, hq2, rfl, rfl, hp1, hp2, hp3, hB2, hbel2⟩ := hrel
                have hp3' := Lib.hid hp3
                have hB2' := Lib.hid hB2
                have hbel2' := Lib.hid hbel2
                unfold val6 at hB2
                obtain ⟨e0, e1, e2, e3, e4, e5, ef⟩ := six_cells hB2
                clear hB2 hp3 hbel2 c0 c1 c2 c3 c4 c5 cf
                by_cases m1 : q2 < kn
                · have m1I : (q2 : Int) < (kn : Int) := by omega
                  by_cases m2 : s2 ≤ top
                  · have m2I : (s2 : Int) ≤ (top : Int) := by omega
                    obtain ⟨kd, hkd⟩ : ∃ kd, t.kids[q2]? = some kd := ⟨t.kids[q2]'(by rw [f7.out]; exact m1), List.getElem?_eq_getElem _⟩
                    obtain ⟨ka, rfl, hka, aA3, an3, ac3, kA3, kn3, kc3, hsix, hv3⟩ := (f4.out.kept (T' := Old w) (w' := wr) (fun _ h => h) (fun k hk => hbel2'.out.block k hk)).at_ hkd
                    rw [Nat.zero_add] at hka hsix
                    have hwt := Lib.hid (weighs_take _ _ _ hkd)
                    have hcall := Lib.hid (ih'.out kd (List.mem_of_getElem? hkd) wr aA3 kA3 an3 ac3 kn3 kc3 (top - s2) (hv3.kept (fun k hk => Nat.lt_of_lt_of_le hk hbel2'.out.size) (fun _ _ => rfl)) (by omega))
                    obtain ⟨s0, s1', s2', s3, s4, s5⟩ := hsix
                    obtain ⟨rs, hrs⟩ : ∃ rs, rs = top - s2 := ⟨_, rfl⟩
                    have hrsI : (top : Int) - (s2 : Int) = (rs : Int) := by omega
                    have hrs' := Lib.hid hrs
                    rw [← hrs] at hcall
                    have hrb : rs + s2 = top := by omega
                    clear hrs hkd hv3 hka
                    unfold WeightOk val6 at hcall
                    go_wp2_with fail
                    refine hcall.out.mono ?_
                    rintro e w2 ⟨x, rfl, hx1, hx2, hb2⟩
                    have hx2' := Lib.hid hx2
                    clear hx2 hcall
                    go_wp2_with fail
                    go_roundw
                    case rel =>
                      refine ⟨q2 + 1, s2 + x, by omega, by go_num, by go_num, by omega, by omega, fun h => ?_, (hb2.block _ (by have := (Array.getElem?_eq_some_iff.1 hB2'.out).1; omega)).trans hB2'.out, hbel2'.out.trans (hb2.mono hbel2'.out.size)⟩
                      rw [hwt.out, hp3'.out (by omega), hx2'.out (by omega)]
                      have := hp3'.out (by omega)
                      omega
                    case measure => simp [intOf]; omega
                  · have m2I : ¬ (s2 : Int) ≤ (top : Int) := by omega
                    go_wp2_with fail
                    go_ret
                    exact ⟨s2, rfl, hp2, fun h => absurd h m2, hbel2'.out⟩
                · have m1I : ¬ (q2 : Int) < (kn : Int) := by omega
                  go_wp2_with fail
                  go_ret
                  refine ⟨s2, rfl, hp2, fun h => ?_, hbel2'.out⟩
                  rw [hW.out, hp3'.out h, List.take_of_length_le (by rw [f7.out]; omega)]
            · have g2I : ¬ (q : Int) < (an : Int) := by omega
              clear g1
              go_wp2_with fail
              go_loopw [5, 7] (fun u k wr => ∃ (q2 s2 : Nat), q2 ≤ kn ∧ k = .int .i64 (q2 : Int) ∧ u = .int .i64 (s2 : Int) ∧ 1 ≤ s2 ∧ s2 ≤ 3 * top + 1 ∧ (s2 ≤ top → s2 = 1 + lab + tx + attrsW t.attrs + weighsV (t.kids.take q2)) ∧
                wr.heap[w.heap.size]? = some (.cells (val6 t aA an ac kA kn kc) 33 (0, 0)) ∧ Below w.heap.size w wr) (fun _ k _ => kn - (intOf k).toNat)
              case atStart => exact ⟨0, s, Nat.zero_le _, rfl, rfl, hs1, hs3, fun h => by rw [hfull'.out h]; simp [weighsV], hB'.out, hbel'.out⟩
              case round =>
                obtain ⟨q2, s2, hq2, rfl, rfl, hp1, hp2, hp3, hB2, hbel2⟩ := hrel
                have hp3' := Lib.hid hp3
                have hB2' := Lib.hid hB2
                have hbel2' := Lib.hid hbel2
                unfold val6 at hB2
                obtain ⟨e0, e1, e2, e3, e4, e5, ef⟩ := six_cells hB2
                clear hB2 hp3 hbel2 c0 c1 c2 c3 c4 c5 cf
                by_cases m1 : q2 < kn
                · have m1I : (q2 : Int) < (kn : Int) := by omega
                  by_cases m2 : s2 ≤ top
                  · have m2I : (s2 : Int) ≤ (top : Int) := by omega
                    obtain ⟨kd, hkd⟩ : ∃ kd, t.kids[q2]? = some kd := ⟨t.kids[q2]'(by rw [f7.out]; exact m1), List.getElem?_eq_getElem _⟩
                    obtain ⟨ka, rfl, hka, aA3, an3, ac3, kA3, kn3, kc3, hsix, hv3⟩ := (f4.out.kept (T' := Old w) (w' := wr) (fun _ h => h) (fun k hk => hbel2'.out.block k hk)).at_ hkd
                    rw [Nat.zero_add] at hka hsix
                    have hwt := Lib.hid (weighs_take _ _ _ hkd)
                    have hcall := Lib.hid (ih'.out kd (List.mem_of_getElem? hkd) wr aA3 kA3 an3 ac3 kn3 kc3 (top - s2) (hv3.kept (fun k hk => Nat.lt_of_lt_of_le hk hbel2'.out.size) (fun _ _ => rfl)) (by omega))
                    obtain ⟨s0, s1', s2', s3, s4, s5⟩ := hsix
                    obtain ⟨rs, hrs⟩ : ∃ rs, rs = top - s2 := ⟨_, rfl⟩
                    have hrsI : (top : Int) - (s2 : Int) = (rs : Int) := by omega
                    have hrs' := Lib.hid hrs
                    rw [← hrs] at hcall
                    have hrb : rs + s2 = top := by omega
                    clear hrs hkd hv3 hka
                    unfold WeightOk val6 at hcall
                    go_wp2_with fail
                    refine hcall.out.mono ?_
                    rintro e w2 ⟨x, rfl, hx1, hx2, hb2⟩
                    have hx2' := Lib.hid hx2
                    clear hx2 hcall
                    go_wp2_with fail
                    go_roundw
                    case rel =>
                      refine ⟨q2 + 1, s2 + x, by omega, by go_num, by go_num, by omega, by omega, fun h => ?_, (hb2.block _ (by have := (Array.getElem?_eq_some_iff.1 hB2'.out).1; omega)).trans hB2'.out, hbel2'.out.trans (hb2.mono hbel2'.out.size)⟩
                      rw [hwt.out, hp3'.out (by omega), hx2'.out (by omega)]
                      have := hp3'.out (by omega)
                      omega
                    case measure => simp [intOf]; omega
                  · have m2I : ¬ (s2 : Int) ≤ (top : Int) := by omega
                    go_wp2_with fail
                    go_ret
                    exact ⟨s2, rfl, hp2, fun h => absurd h m2, hbel2'.out⟩
                · have m1I : ¬ (q2 : Int) < (kn : Int) := by omega
                  go_wp2_with fail
                  go_ret
                  refine ⟨s2, rfl, hp2, fun h => ?_, hbel2'.out⟩
                  rw [hW.out, hp3'.out h, List.take_of_length_le (by rw [f7.out]; omega)]
      · have h1I : ¬ (top : Int) < (t.label.length : Int) := by omega
        have h2I : ¬ (top : Int) < (t.text.length : Int) := by omega
        have h3I : (top : Int) < (an : Int) := by omega
        go_enter Try.func14, Try.ntmps14
        go_wp2_with fail
        go_ret
        exact early.out _ ((Below.refl _ _).alloc (Nat.le_refl _) _)
    · have h1I : ¬ (top : Int) < (t.label.length : Int) := by omega
      have h2I : (top : Int) < (t.text.length : Int) := by omega
      go_enter Try.func14, Try.ntmps14
      go_wp2_with fail
      go_ret
      exact early.out _ ((Below.refl _ _).alloc (Nat.le_refl _) _)
  · have h1I : (top : Int) < (t.label.length : Int) := by omega
    go_enter Try.func14, Try.ntmps14
    go_wp2_with fail
    go_ret
    exact early.out _ ((Below.refl _ _).alloc (Nat.le_refl _) _)
end Go.Proofs.Ytoeblaecldhcaaa
/- A tree with a hole: what a node comes to that is put into it. -/
namespace Go.Proofs.Ytoeblaecldhcaaa
set_option linter.unusedVariables false
open Go.RowKit
set_option maxRecDepth 20000

/-- all blocks but the one of the answer -/
def Ex (b0 : Nat) (W : World) (k : Nat) : Prop := k < W.heap.size ∧ k ≠ b0 + 1 + 1
/-- whatever comes to lie at ⟨eb, eo⟩: what then lies at the block b0 -/
def Hole (b0 : Nat) (W : World) (eb eo : Nat) (f : Nd → Nd) : Prop :=
  ∀ (W' : World) (z : Nd), W.heap.size ≤ W'.heap.size → (∀ k, k < W.heap.size → k ≠ eb → W'.heap[k]? = W.heap[k]?) → (∀ o, (o < eo ∨ eo + 5 < o) → W'.cell? ⟨eb, o, none⟩ = W.cell? ⟨eb, o, none⟩) →
    NodeAt (Ex b0 W') W' ⟨eb, eo, none⟩ z → NodeAt (Ex b0 W') W' ⟨b0, 0, none⟩ (f z)
/-- six cells are written at ⟨g, e⟩ -/
def six (w : World) (g e : Nat) (b0 b1 b2 b3 b4 b5 : Value) : World :=
  (((((w.setCell ⟨g, e, none⟩ b0).setCell ⟨g, e + 1, none⟩ b1).setCell ⟨g, e + 2, none⟩ b2).setCell ⟨g, e + 3, none⟩ b3).setCell ⟨g, e + 4, none⟩ b4).setCell ⟨g, e + 5, none⟩ b5
section
variable {w : World} {g e : Nat} {b0 b1 b2 b3 b4 b5 : Value} {cs : Array Value} {ty : TypeId}
theorem six_row (h : w.heap[g]? = some (.cells cs ty (0, 0))) : (six w g e b0 b1 b2 b3 b4 b5).heap[g]? = some (.cells ((((((cs.setIfInBounds e b0).setIfInBounds (e + 1) b1).setIfInBounds (e + 2) b2).setIfInBounds (e + 3) b3).setIfInBounds (e + 4) b4).setIfInBounds (e + 5) b5) ty (0, 0)) := by
  unfold six
  have e0 := heap_setCell_same w g e _ _ b0 h
  have e1 := heap_setCell_same _ g (e + 1) _ _ b1 e0
  have e2 := heap_setCell_same _ g (e + 2) _ _ b2 e1
  have e3 := heap_setCell_same _ g (e + 3) _ _ b3 e2
  have e4 := heap_setCell_same _ g (e + 4) _ _ b4 e3
  exact heap_setCell_same _ g (e + 5) _ _ b5 e4
theorem six_other {k : Nat} (h : k ≠ g) : (six w g e b0 b1 b2 b3 b4 b5).heap[k]? = w.heap[k]? := by
  unfold six
  exact (heap_setCell_other _ _ k _ h).trans ((heap_setCell_other _ _ k _ h).trans ((heap_setCell_other _ _ k _ h).trans ((heap_setCell_other _ _ k _ h).trans ((heap_setCell_other _ _ k _ h).trans (heap_setCell_other _ _ k _ h)))))
theorem six_size : (six w g e b0 b1 b2 b3 b4 b5).heap.size = w.heap.size := by unfold six; simp
theorem six_below {B : Nat} {v : World} (h : Below B v w) (hg : B ≤ g) : Below B v (six w g e b0 b1 b2 b3 b4 b5) := by
  unfold six
  exact (((((h.setCell hg _).setCell hg _).setCell hg _).setCell hg _).setCell hg _).setCell hg _
theorem six_out (h : w.heap[g]? = some (.cells cs ty (0, 0))) {o : Nat} (ho : o < e ∨ e + 5 < o) : (six w g e b0 b1 b2 b3 b4 b5).cell? ⟨g, o, none⟩ = w.cell? ⟨g, o, none⟩ := by
  rw [cell_of_row _ g o _ _ _ (six_row h), cell_of_row w g o _ _ _ h]
  rw [Array.getElem?_setIfInBounds_ne (by omega), Array.getElem?_setIfInBounds_ne (by omega), Array.getElem?_setIfInBounds_ne (by omega), Array.getElem?_setIfInBounds_ne (by omega), Array.getElem?_setIfInBounds_ne (by omega), Array.getElem?_setIfInBounds_ne (by omega)]
theorem six_in (h : w.heap[g]? = some (.cells cs ty (0, 0))) (hs : e + 5 < cs.size) :
    let W := six w g e b0 b1 b2 b3 b4 b5
    W.cell? ⟨g, e, none⟩ = some b0 ∧ W.cell? ⟨g, e + 1, none⟩ = some b1 ∧ W.cell? ⟨g, e + 2, none⟩ = some b2 ∧ W.cell? ⟨g, e + 3, none⟩ = some b3 ∧ W.cell? ⟨g, e + 4, none⟩ = some b4 ∧ W.cell? ⟨g, e + 5, none⟩ = some b5 := by
  have c := fun o => cell_of_row _ g o _ _ _ (six_row (e := e) (b0 := b0) (b1 := b1) (b2 := b2) (b3 := b3) (b4 := b4) (b5 := b5) h)
  refine ⟨?_, ?_, ?_, ?_, ?_, ?_⟩
  all_goals rw [c]
  all_goals simp only [Array.getElem?_setIfInBounds, Array.size_setIfInBounds]
  · rw [if_neg (by omega), if_neg (by omega), if_neg (by omega), if_neg (by omega), if_neg (by omega), if_pos trivial, if_pos (by omega)]
  · rw [if_neg (by omega), if_neg (by omega), if_neg (by omega), if_neg (by omega), if_pos trivial, if_pos (by omega)]
  · rw [if_neg (by omega), if_neg (by omega), if_neg (by omega), if_pos trivial, if_pos (by omega)]
  · rw [if_neg (by omega), if_neg (by omega), if_pos trivial, if_pos (by omega)]
  · rw [if_neg (by omega), if_pos trivial, if_pos (by omega)]
  · rw [if_pos trivial, if_pos (by omega)]
end
theorem six_with (w : World) (E : Addr) (t : Nd) (l : List Nd) (aA kA : Option Addr) (an ac kn kc : Nat) : Six w E (t.withKids l) aA an ac kA kn kc ↔ Six w E t aA an ac kA kn kc := by cases t; exact Iff.rfl
theorem hole_step {w W W1 W2 : World} {b0 eb eo : Nat} {f : Nd → Nd} {s : Nd} {sA skA aA kA : Option Addr} {sn sc skn skc an ac kn kc gA j : Nat} {ks : List KV} (hb : Below w.heap.size w W) (hb0 : b0 = w.heap.size) (hr : b0 + 1 + 1 < W.heap.size) (hre : eb ≠ b0 + 1 + 1) (hole : Hole b0 W eb eo f) (heb : eb < W.heap.size) (hew : w.heap.size ≤ eb)
    (hO : Owned W W1 (Old w) s aA an ac kA kn kc gA ks) (hv : NodeV (Old w) W sA sn sc skA skn skc s) (s1 : W2.heap.size = W1.heap.size) (s2 : ∀ k, k ≠ eb → W2.heap[k]? = W1.heap[k]?) (s3 : ∀ o, (o < eo ∨ eo + 5 < o) → W2.cell? ⟨eb, o, none⟩ = W1.cell? ⟨eb, o, none⟩)
    (s4 : Six W2 ⟨eb, eo, none⟩ s aA an ac kA kn kc) (hj : j < kn) :
    ∃ g kv cur, kA = some ⟨g, 0, none⟩ ∧ W.heap.size ≤ g ∧ g < W1.heap.size ∧ Hole b0 W2 g (j * 6) (fun z => f (s.withKids (s.kids.set j z))) ∧ ks[j]? = some kv ∧ s.kids[j]? = some kv.t ∧ kv.six W2 ⟨g, j * 6, none⟩ ∧ kv.ok (Old w) W ∧ W2.heap[g]? = some (.cells cur 33 (0, 0)) ∧ j * 6 + 5 < cur.size := by
  have hlen := hO.len
  have hbel := hO.bel
  have hz := hbel.size
  obtain ⟨A, n, c, e, hn, hnc, -, -, hq⟩ := hO.row.shape
  injection e with e1 e2 e3
  subst e1 e2 e3
  obtain ⟨kv, hkv⟩ : ∃ kv, ks[j]? = some kv := ⟨ks[j]'(by omega), List.getElem?_eq_getElem _⟩
  obtain ⟨g, rfl, hg1, hg2, hgs⟩ := hq j kv hkv
  have hge : g ≠ eb := by omega
  obtain ⟨cur, hcur, hcsz⟩ : ∃ cur, W1.heap[g]? = some (.cells cur 33 (0, 0)) ∧ j * 6 + 5 < cur.size := by
    rcases hO.row.2 with ⟨h0, h1⟩ | ⟨g', cap, cur, e, -, hg, hcap, -, hsz, -⟩
    · cases h0
    · injection e with e1 e2 e3
      injection e1 with e1
      injection e1 with e1
      subst e1
      exact ⟨cur, hg, by rw [hsz]; omega⟩
  have hgn : g ≠ gA := hO.ne _ rfl
  have hkt : ∀ (q : Nat) (v : KV), ks[q]? = some v → s.kids[q]? = some v.t := fun q v h => by rw [← hO.map, List.getElem?_map, h]; rfl
  have b12 : ∀ k, k ≠ eb → k < W1.heap.size → W2.heap[k]? = W1.heap[k]? := fun k h _ => s2 k h
  refine ⟨g, kv, cur, rfl, hg1, hg2, ?_, hkv, hkt j kv hkv, hgs.kept (b12 g hge hg2), hO.ok kv (List.mem_of_getElem? hkv), (s2 g hge).trans hcur, hcsz⟩
  intro W' z hzs hother hcell hN
  have hbe : W'.heap[eb]? = W2.heap[eb]? := hother eb (by omega) (fun e => hge e.symm)
  refine hole W' (s.withKids (s.kids.set j z)) (by omega) (fun k hk hne => (hother k (by omega) (by omega)).trans ((s2 k hne).trans (hbel.block k hk))) (fun o ho => ?_) ?_
  · exact (World.cell?_of_block (a := ⟨eb, o, none⟩) hbe).trans ((s3 o ho).trans (World.cell?_of_block (a := ⟨eb, o, none⟩) (hbel.block eb heb)))
  · refine ⟨⟨by show eb < _; omega, hre⟩, aA, an, ac, some ⟨g, 0, none⟩, kn, kc, (six_with ..).2 (s4.kept hbe), ?_⟩
    have hf := hv.facts
    have hga := hO.ga
    have hat : AtsIn (Ex b0 W') W' aA an s.attrs := hO.ats.kept (fun k hk => by subst hk; exact ⟨by omega, by omega⟩) (fun k hk => by subst hk; exact (hother k (by omega) (fun e => hgn e.symm)).trans (s2 k (by omega)))
    have hrow : RowAt (Ex b0 W') W' (some ⟨g, 0, none⟩) 0 (s.kids.set j z) := by
      refine RowAt.of _ 0 fun q t hqt => ⟨_, rfl, ?_⟩
      rw [Nat.zero_add, add_zero_off]
      by_cases hqj : q = j
      · subst hqj
        rw [List.getElem?_set_self (by have := hf.kl; have := (List.getElem?_eq_some_iff.1 (hkt q kv hkv)).1; omega)] at hqt
        injection hqt with hqt
        subst hqt
        exact hN
      · rw [List.getElem?_set_ne (fun e => hqj e.symm)] at hqt
        obtain ⟨v, hvq⟩ : ∃ v, ks[q]? = some v := by
          have := (List.getElem?_eq_some_iff.1 hqt).1
          have hm : ks.length = s.kids.length := by rw [← hO.map, List.length_map]
          exact ⟨ks[q]'(by omega), List.getElem?_eq_getElem _⟩
        have hvt := hkt q v hvq
        rw [hqt] at hvt
        injection hvt with hvt
        subst hvt
        obtain ⟨g', eg, -, -, h6⟩ := hq q v hvq
        injection eg with eg
        injection eg with eg
        subst eg
        have hc6 : ∀ o, o < q * 6 + 6 → q * 6 ≤ o → W'.cell? ⟨g, o, none⟩ = W1.cell? ⟨g, o, none⟩ := fun o h1 h2 => (hcell o (by omega)).trans (World.cell?_of_block (a := ⟨g, o, none⟩) (s2 g hge))
        obtain ⟨t0, t1, t2, t3, t4, t5⟩ := h6
        refine ⟨⟨by show g < _; omega, by show g ≠ _; omega⟩, v.aA, v.an, v.ac, v.kA, v.kn, v.kc, ⟨(hc6 (q * 6) (by omega) (by omega)).trans t0, (hc6 (q * 6 + 1) (by omega) (by omega)).trans t1, (hc6 (q * 6 + 2) (by omega) (by omega)).trans t2, (hc6 (q * 6 + 3) (by omega) (by omega)).trans t3, (hc6 (q * 6 + 4) (by omega) (by omega)).trans t4, (hc6 (q * 6 + 5) (by omega) (by omega)).trans t5⟩, ?_⟩
        refine NodeV.kept (T := Old w) (w := W) (fun k hk => ?_) (fun k hk => ?_) _ _ _ _ _ _ _ (hO.ok v (List.mem_of_getElem? hvq))
        · have hk' : k < w.heap.size := hk
          exact ⟨by omega, by omega⟩
        · have hk' : k < w.heap.size := hk
          exact (hother k (by omega) (by omega)).trans ((s2 k (by omega)).trans (hbel.block k (by omega)))
    have hkl : (s.kids.set j z).length = kn := by
      rw [List.length_set, ← hO.map, List.length_map]
      exact hlen
    have hfi := hf.id
    have hfl := hf.label
    have hft := hf.text
    cases s
    exact NFacts.node ⟨hfi, hfl, hft, hat, hO.anc, hO.acm, hO.anil, hkl, hO.knc, hO.kcm, hO.knil, hrow⟩
end Go.Proofs.Ytoeblaecldhcaaa
/- What is put is there; put back, the tree is what it was; sizes. -/
namespace Go.Proofs.Ytoeblaecldhcaaa
set_option linter.unusedVariables false
open Go.RowKit
set_option maxRecDepth 20000

theorem with_kids (t : Nd) (l : List Nd) : (t.withKids l).kids = l := by cases t; rfl
theorem with_with (t : Nd) (l m : List Nd) : (t.withKids l).withKids m = t.withKids m := by cases t; rfl
theorem with_self (t : Nd) : t.withKids t.kids = t := by cases t; rfl
theorem countV_with (t : Nd) (l : List Nd) : countV (t.withKids l) = 1 + countsV l := by cases t; simp [Nd.withKids, countV]
theorem weighV_with (t : Nd) (l : List Nd) : weighV (t.withKids l) + weighsV t.kids = weighV t + weighsV l := by cases t; simp only [Nd.withKids, weighV, Nd.kids]; omega
theorem counts_set : ∀ (l : List Nd) (j : Nat) (k z : Nd), l[j]? = some k → countsV (l.set j z) + countV k = countsV l + countV z
  | [], j, k, z, h => by simp at h
  | a :: r, 0, k, z, h => by
    simp at h
    subst h
    simp only [List.set_cons_zero, countsV]
    omega
  | a :: r, j + 1, k, z, h => by
    have := counts_set r j k z (by simpa using h)
    simp only [List.set_cons_succ, countsV]
    omega
theorem weighs_set : ∀ (l : List Nd) (j : Nat) (k z : Nd), l[j]? = some k → weighsV (l.set j z) + weighV k = weighsV l + weighV z
  | [], j, k, z, h => by simp at h
  | a :: r, 0, k, z, h => by
    simp at h
    subst h
    simp only [List.set_cons_zero, weighsV]
    omega
  | a :: r, j + 1, k, z, h => by
    have := weighs_set r j k z (by simpa using h)
    simp only [List.set_cons_succ, weighsV]
    omega
theorem atV_cons {t ws : Nd} {i : Int} {p : List Int} (h : atV t (i :: p) = some ws) : ∃ (j : Nat) (k : Nd), i = (j : Int) ∧ t.kids[j]? = some k ∧ atV k p = some ws := by
  simp only [atV] at h
  split at h
  · rename_i hi
    cases hk : t.kids[i.toNat]? with
    | none => rw [hk] at h; cases h
    | some k =>
      rw [hk] at h
      exact ⟨i.toNat, k, by omega, hk, h⟩
  · cases h
theorem putV_nat {t k x : Nd} {j : Nat} {p : List Int} (h : t.kids[j]? = some k) : putV t ((j : Int) :: p) x = (putV k p x).map fun z => t.withKids (t.kids.set j z) := by
  simp only [putV]
  rw [if_pos (by omega)]
  simp only [Int.toNat_natCast, h]
  cases putV k p x <;> rfl
theorem atV_nat {t k : Nd} {j : Nat} {p : List Int} (h : t.kids[j]? = some k) : atV t ((j : Int) :: p) = atV k p := by
  simp only [atV]
  rw [if_pos (by omega)]
  simp [h]
theorem put_is : ∀ (p : List Int) (t x : Nd), (putV t p x).isSome = (atV t p).isSome
  | [], t, x => rfl
  | i :: p, t, x => by
    simp only [putV, atV]
    split
    · cases hk : t.kids[i.toNat]? with
      | none => rfl
      | some k =>
        have := put_is p k x
        dsimp only
        cases h : putV k p x with
        | none => rw [h] at this; exact this
        | some z => rw [h] at this; exact this
    · rfl
/-- all that the law asks -/
theorem put_all : ∀ (p : List Int) (t x ws : Nd), atV t p = some ws → ∃ a, putV t p x = some a ∧ atV a p = some x ∧ putV a p ws = some t ∧ countV a + countV ws = countV t + countV x ∧ weighV a + weighV ws = weighV t + weighV x
  | [], t, x, ws, h => by
    simp only [atV, Option.some.injEq] at h
    subst h
    exact ⟨x, rfl, rfl, rfl, by omega, by omega⟩
  | i :: p, t, x, ws, h => by
    obtain ⟨j, k, rfl, hk, hw⟩ := atV_cons h
    obtain ⟨a, h1, h2, h3, h4, h5⟩ := put_all p k x ws hw
    have hj : j < t.kids.length := (List.getElem?_eq_some_iff.1 hk).1
    have hs : (t.withKids (t.kids.set j a)).kids[j]? = some a := by rw [with_kids, List.getElem?_set_self hj]
    refine ⟨t.withKids (t.kids.set j a), ?_, ?_, ?_, ?_, ?_⟩
    · rw [putV_nat hk, h1]; rfl
    · rw [atV_nat hs, h2]
    · rw [putV_nat hs, h3]
      simp only [Option.map_some, with_kids, with_with, List.set_set]
      have : t.kids.set j k = t.kids := by
        apply List.ext_getElem?
        intro q
        rw [List.getElem?_set]
        split
        · subst_vars
          first | exact hk.symm | (rw [if_pos hj, hk])
        · rfl
      rw [this, with_self]
    · have := counts_set t.kids j k a hk
      rw [countV_with, countV_eq t]
      omega
    · have h6 := weighs_set t.kids j k a hk
      have h7 := weighV_with t (t.kids.set j a)
      omega
theorem at_count : ∀ (p : List Int) (t ws : Nd), atV t p = some ws → countV ws ≤ countV t ∧ weighV ws ≤ weighV t
  | [], t, ws, h => by
    simp only [atV, Option.some.injEq] at h
    subst h
    exact ⟨Nat.le_refl _, Nat.le_refl _⟩
  | i :: p, t, ws, h => by
    obtain ⟨j, k, rfl, hk, hw⟩ := atV_cons h
    obtain ⟨h1, h2⟩ := at_count p k ws hw
    have h3 := weigh_kid hk
    have h4 := counts_set t.kids j k k hk
    have h5 : countV k ≤ countsV t.kids := by
      have : ∀ (l : List Nd) (j : Nat), l[j]? = some k → countV k ≤ countsV l := by
        intro l
        induction l with
        | nil => intro j h; simp at h
        | cons a r ih =>
          intro j h
          cases j with
          | zero => simp at h; subst h; simp only [countsV]; omega
          | succ j => have := ih j (by simpa using h); simp only [countsV]; omega
      exact this _ _ hk
    rw [countV_eq t]
    omega

/-- a tree in a variable's block -/
structure Bx (W : World) (b : Nat) (s : Nd) (aA kA : Option Addr) (an ac kn kc : Nat) : Prop where
  lt : b < W.heap.size
  row : W.heap[b]? = some (.cells (val6 s aA an ac kA kn kc) 33 (0, 0))
  node : NodeV (Old W) W aA an ac kA kn kc s
section
variable {W W' : World} {b : Nat} {s : Nd} {aA kA : Option Addr} {an ac kn kc : Nat}
theorem Bx.below (h : Bx W b s aA kA an ac kn kc) (hb : Below W.heap.size W W') : Bx W' b s aA kA an ac kn kc := ⟨Nat.lt_of_lt_of_le h.lt hb.size, (hb.block b h.lt).trans h.row, h.node.below hb⟩
theorem Bx.new (h : NodeV (Old W) W aA an ac kA kn kc s) : Bx (W.alloc (.cells (val6 s aA an ac kA kn kc) 33)) W.heap.size s aA kA an ac kn kc :=
  ⟨by simp, heap_alloc_new W _, h.below ((Below.refl _ _).alloc (Nat.le_refl _) _)⟩
theorem Bx.cells (h : Bx W b s aA kA an ac kn kc) : W.cell? ⟨b, 0, none⟩ = some (.int .u64 (s.id : Int)) ∧ W.cell? ⟨b, 1, none⟩ = some (.bool s.leaf) ∧ W.cell? ⟨b, 2, none⟩ = some (.string ⟨s.label.toArray⟩) ∧ W.cell? ⟨b, 3, none⟩ = some (.slice aA an ac) ∧
    W.cell? ⟨b, 4, none⟩ = some (.string ⟨s.text.toArray⟩) ∧ W.cell? ⟨b, 5, none⟩ = some (.slice kA kn kc) := by
  have h := h.row
  unfold val6 at h
  obtain ⟨c0, c1, c2, c3, c4, c5, -⟩ := six_cells h
  exact ⟨c0, c1, c2, c3, c4, c5⟩
end
end Go.Proofs.Ytoeblaecldhcaaa
