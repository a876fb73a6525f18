/- Bytes appended to a row of the call's own. -/
import Derived.Test.YtkfggbafgjephaaCrcConv
import Derived.Maps.AppendAt
import Derived.Laws.AppendOwnNone
namespace Go.Proofs.Ytkfggbafgjephaa
open Go.RowKit

theorem Try.info5 : (Try.prog.info? 5).map (fun i => (i.zero, i.size, i.bytes)) = some (some (.int .u8 0), 1, 1) := by kernel_rfl

def byteV (c : UInt8) : Value := .int .u8 (c.toNat : Int)
/-- the slice value v owns the bytes bs -/
def OwnB (base : Nat) (w : World) (v : Value) (bs : List UInt8) : Prop := w.ownsRow base 5 1 v bs.length (bs.map byteV)

theorem OwnB.nil_ (base : Nat) (w : World) : OwnB base w (.slice none 0 0) [] := World.ownsRow_nil w base _ _
/-- its shape, and that it reads as those bytes -/
theorem OwnB.shape {base : Nat} {w : World} {v : Value} {bs : List UInt8} (h : OwnB base w v bs) (hm : bs.length ≤ maxLen) : ∃ (A : Option Addr) (c : Nat), v = .slice A bs.length c ∧ bs.length ≤ c ∧ c ≤ maxLen ∧ Bts w A bs.length bs ∧ (A = none → c = 0) := by
  have h' := h
  rcases h.2 with ⟨rfl, h0⟩ | ⟨g, cap, cur, rfl, _, hg, hnc, hcm, _⟩
  · have hb : bs = [] := List.eq_nil_of_length_eq_zero h0
    subst hb
    exact ⟨none, 0, rfl, Nat.le_refl _, Nat.zero_le _, Bts.none_ w, fun _ => rfl⟩
  · refine ⟨_, _, rfl, hnc, hcm, ⟨rfl, fun k c hk => ?_⟩, fun e => by cases e⟩
    have hlt : g < w.heap.size := (Array.getElem?_eq_some_iff.1 hg).1
    exact ⟨⟨g, 0, none⟩, rfl, hlt, h'.cells (g := g) rfl k _ (by rw [List.getElem?_map, hk]; rfl)⟩
theorem OwnB.alloc {base : Nat} {w : World} {v : Value} {bs : List UInt8} (h : OwnB base w v bs) (o : Obj) : OwnB base (w.alloc o) v bs := World.ownsRow.alloc h o
theorem OwnB.kept {base : Nat} {w w' : World} {v : Value} {bs : List UInt8} {row : Option Nat} (h : OwnB base w v bs) (hg : w.grownBy w' row) (hne : v.ownBlock = none ∨ v.ownBlock ≠ row) : OwnB base w' v bs := World.ownsRow.kept h hg hne

/-- append(v, x..), v the call's own, x whatever reads as bytes -/
theorem wpList_append_bytes {w : World} {ops : Array Oper} {rest : List Oper} {o : Oper} {a : Act} {Q : Exit → Act → World → Prop} (hgd : o.guard = none) (s x : Operand)
    (ho : o.op = .call { callee := .builtin .append, args := #[s, x], argTypes := #[23, 23] })
    (base : Nat) (v : Value) (bs bs' : List UInt8) (hs : a.eval s = v) (hown : OwnB base w v bs)
    (A : Option Addr) (m c : Nat) (hx : a.eval x = .slice A m c) (hB : Bts w A m bs') (hnil : A = none → c = 0)
    (hlen : bs.length + bs'.length ≤ 1000000) (hbase : base ≤ w.heap.size)
    (h : ∀ v' w', OwnB base w' v' (bs ++ bs') → w.grownBy w' v.ownBlock → (v'.ownBlock = v.ownBlock ∨ v'.ownBlock = some w.heap.size) → wpList Try.prog ops Q rest (a.put o.dst v') w') :
    wpList Try.prog ops Q (o :: rest) a w := by
  obtain ⟨i0, hi, hz0, hz1, hz2⟩ := info_parts Try.info5
  obtain rfl := hB.1
  cases A with
  | none =>
    obtain rfl := hB.none_nil
    obtain rfl := hnil rfl
    refine wpList_append_own_none hgd s x _ ho base 5 i0 1 Try.underlying23 hi v _ _ hs hown hx ?_
    exact h v w (by rw [List.append_nil]; exact hown) (World.grownBy.refl w _) (.inl rfl)
  | some ad =>
    refine wpList_append_own_at w hgd s x _ ho base 5 i0 (.int .u8 0) 1 1 Try.underlying23 hi hz0 hz1 hz2 rfl (by omega) v bs.length (bs.map byteV) hs hown ad bs'.length c (bs'.map byteV) hx (by simp)
      (fun j u hj => ?_) (fun u hu => ?_) (by unfold maxLen; omega) (by omega) hbase ?_
    · rw [List.getElem?_map] at hj
      cases hk : bs'[j]? with
      | none => rw [hk] at hj; cases hj
      | some d =>
        rw [hk] at hj
        simp only [Option.map_some, Option.some.injEq] at hj
        obtain ⟨ad', e, _, hc⟩ := hB.2 j d hk
        injection e with e
        subst e
        rw [← hj]
        exact hc
    · obtain ⟨d, _, rfl⟩ := List.mem_map.1 hu
      rfl
    · intro v' w' hown' hgrow _ hat
      refine h v' w' ?_ hgrow hat
      unfold OwnB
      rw [List.length_append, List.map_append]
      exact hown'
end Go.Proofs.Ytkfggbafgjephaa
