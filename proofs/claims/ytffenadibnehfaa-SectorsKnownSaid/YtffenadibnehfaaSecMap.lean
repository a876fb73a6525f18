/- The program's maps of sectors: a map from numbers to rows of 128 bytes, read as a function; what is not there reads as noughts. -/
import Derived.Test.YtffenadibnehfaaBaseOwn
import Derived.Test.YtffenadibnehfaaSecRefA
import Derived.Maps.RangeWalk
import Derived.Maps.Ext
import Derived.Deep.MidRow
namespace Go.Proofs.Ytffenadibnehfaa
open Go.RowKit Go.WideShapes
open Go.ChangeMaps (setBlock heap_setBlock_same heap_setBlock_other)
open Go.WideElems (Fit rd rg pl rd_key rd_val rg_of)
open Go.Maps (Keyed)

/-- cells as bytes -/
def bytesOf : List Value → Option (List UInt8)
  | [] => some []
  | .int .u8 z :: r => if 0 ≤ z ∧ z < 256 then (bytesOf r).map (UInt8.ofNat z.toNat :: ·) else none
  | _ => none
theorem bytesOf_map : ∀ l : List UInt8, bytesOf (l.map byteV) = some l
  | [] => rfl
  | c :: r => by
    have h : 0 ≤ (c.toNat : Int) ∧ (c.toNat : Int) < 256 := ⟨by omega, by have := c.toNat_lt; omega⟩
    simp only [List.map_cons, byteV, bytesOf, if_pos h]
    rw [show r.map byteV = List.map byteV r from rfl, bytesOf_map r]
    simp
theorem bytesOf_inv : ∀ (l : List Value) (bs : List UInt8), bytesOf l = some bs → l = bs.map byteV
  | [], bs, h => by simp [bytesOf] at h; subst h; rfl
  | v :: r, bs, h => by
    unfold bytesOf at h
    split at h
    · rename_i h0; cases h0
    · rename_i z r' h0
      injection h0 with h1 h2
      subst h1 h2
      split at h
      · rename_i hz
        cases hr : bytesOf r with
        | none => rw [hr] at h; cases h
        | some t =>
          rw [hr] at h
          simp only [Option.map_some, Option.some.injEq] at h
          subst h
          have e : ((UInt8.ofNat z.toNat).toNat : Int) = z := by rw [byte_of]; omega
          rw [bytesOf_inv r t hr, List.map_cons, byteV, e]
      · cases h
    · cases h
/-- a sector as a value -/
def arrV (s : List UInt8) : Value := .agg (s.map byteV).toArray
def secElem (v : Value) : Option (DataW Unit × List MemPlace) :=
  match v with
  | .agg cs => match bytesOf cs.toList with
    | some bs => if bs.length = 128 then some (.lit (.string bs), []) else none
    | none => none
  | _ => none
theorem secElem_mk {s : List UInt8} (h : s.length = 128) : secElem (arrV s) = some (.lit (.string s), []) := by
  unfold secElem arrV
  simp only [bytesOf_map]
  rw [if_pos h]
theorem secElem_inv {v : Value} {y : DataW Unit × List MemPlace} (h : secElem v = some y) : ∃ s, s.length = 128 ∧ v = arrV s ∧ y = (.lit (.string s), []) := by
  unfold secElem at h
  split at h
  · rename_i cs
    split at h
    · rename_i bs hb
      split at h
      · rename_i hl
        injection h with h
        subst h
        refine ⟨bs, hl, ?_, rfl⟩
        unfold arrV
        rw [← bytesOf_inv _ _ hb]
      · cases h
    · cases h
  · cases h
def zsec : List UInt8 := List.replicate 128 0
theorem zsec_len : zsec.length = 128 := by simp [zsec]
theorem secL_nil : secL [] = zsec := rfl
theorem lawK : Keyed Try.prog 3 := Maps.int_keyed Try.underlying3
theorem zeroSec (w : World) : (zeroValue 56).run Try.prog w = .ok (arrV zsec) w := by kernel_rfl

/-- a list of different numbers below n is no longer than n -/
theorem pigeon : ∀ (n : Nat) (l : List Nat), l.Nodup → (∀ x ∈ l, x < n) → l.length ≤ n
  | 0, [], _, _ => Nat.le_refl _
  | 0, x :: r, _, h => by have := h x (by simp); omega
  | n + 1, l, hd, h => by
    have h1 := pigeon n (l.filter fun x => decide (x ≠ n)) (hd.filter _) (fun x hx => by
      obtain ⟨hx1, hx2⟩ := List.mem_filter.1 hx
      have := h x hx1
      have : x ≠ n := of_decide_eq_true hx2
      omega)
    have h2 : ∀ l : List Nat, l.Nodup → l.length ≤ (l.filter fun x => decide (x ≠ n)).length + 1 := by
      intro l
      induction l with
      | nil => intro _; simp
      | cons a r ih =>
        intro hd
        obtain ⟨ha, hr⟩ := List.nodup_cons.1 hd
        by_cases e : a = n
        · subst e
          have : r.filter (fun x => decide (x ≠ a)) = r := List.filter_eq_self.2 (fun x hx => decide_eq_true (fun e => ha (e ▸ hx)))
          rw [List.filter_cons_of_neg (by simp), this]
          simp
        · have := ih hr
          simp [e]
          simp at this
          omega
    have := h2 l hd
    omega

/-- the keys of a map are numbers below n -/
def Within (D : DataW Unit) (n : Nat) : Prop := ∀ kl, Maps.has D kl = true → ∃ i : Nat, i < n ∧ kl = .int .i64 (i : Int)
def natOf : Lit → Nat
  | .int _ z => z.toNat
  | _ => 0
theorem within_size {D : DataW Unit} {n : Nat} (hT : Maps.Tidy D) (hk : ∀ es, D = .map es → ∀ p ∈ es, WideAt.IsKeyLit p.1) (h : Within D n) : Maps.size D ≤ n := by
  obtain ⟨es, rfl, hp⟩ := hT
  show es.length ≤ n
  have hm : ∀ p ∈ es, ∃ i : Nat, i < n ∧ p.1 = .int .i64 (i : Int) := fun p hpm => h p.1 (List.any_eq_true.2 ⟨p, hpm, WideAt.sameKey_self (hk es rfl p hpm)⟩)
  have e : (es.map fun p => natOf p.1).length = es.length := List.length_map _
  rw [← e]
  refine pigeon n _ ?_ ?_
  · rw [List.Nodup, List.pairwise_map]
    refine List.Pairwise.imp_of_mem ?_ hp
    intro a b ha hb hne e
    obtain ⟨i, _, hi⟩ := hm a ha
    obtain ⟨j, _, hj⟩ := hm b hb
    rw [hi, hj] at e
    simp only [natOf, Int.toNat_natCast] at e
    exact hne (by rw [hi, hj, e])
  · intro x hx
    obtain ⟨p, hpm, rfl⟩ := List.mem_map.1 hx
    obtain ⟨i, hi, e⟩ := hm p hpm
    rw [e]
    simpa [natOf] using hi
theorem owns_tight {w : World} {b c n : Nat} {D : DataW Unit} (h : w.ownsMap Try.prog 3 secElem b c D) (hn : Within D n) : w.ownsMap Try.prog 3 secElem b n D := by
  have hs := within_size (h.tidy lawK) (fun es he p hp => by
    obtain ⟨es', he', _, hk⟩ := h.entries lawK
    rw [he] at he'
    injection he' with he'
    subst he'
    exact hk p hp) hn
  obtain ⟨es, clock, hb, F, _, rfl⟩ := h
  refine ⟨es, clock, hb, F, ?_, rfl⟩
  have e1 : Maps.size (DataW.map ((es.toList.map (rg Try.prog 3 secElem)).foldr DataW.insert [])) = es.size := by simp [Maps.size, length_sorted]
  rw [← e1]
  exact hs

/-- block b is a map of sectors below n that reads as m -/
def SMap (w : World) (b n : Nat) (m : Nat → List UInt8) : Prop :=
  ∃ D : DataW Unit, w.ownsMap Try.prog 3 secElem b n D ∧ Within D n ∧ ∀ i : Nat, D.atKey (.int .i64 (i : Int)) (.lit (.string zsec)) = .lit (.string (m i))
section
variable {w w' : World} {b n : Nat} {m m' : Nat → List UInt8}
theorem SMap.lt (h : SMap w b n m) : b < w.heap.size := by obtain ⟨D, h, _⟩ := h; exact h.lt
theorem SMap.kept (h : SMap w b n m) (hb : w'.heap[b]? = w.heap[b]?) : SMap w' b n m := by
  obtain ⟨D, ⟨es, clock, hh, rest⟩, h2⟩ := h
  exact ⟨D, ⟨es, clock, hb.trans hh, rest⟩, h2⟩
theorem SMap.eq (h : SMap w b n m) (e : ∀ i, m' i = m i) : SMap w b n m' := by
  obtain ⟨D, h, hW, hD⟩ := h
  exact ⟨D, h, hW, fun i => by rw [hD, e]⟩
theorem SMap.made (w : World) (n : Nat) : SMap (w.alloc (.map #[] 0)) w.heap.size n (fun _ => zsec) :=
  ⟨.map [], (World.ownsMap_made _ _ _ _).mono (Nat.zero_le _), fun kl h => by simp [Maps.has] at h, fun i => rfl⟩
theorem SMap.not_cells (h : SMap w b n m) {cs : Array Value} {t : TypeId} {fr : Nat × Nat} : w.heap[b]? ≠ some (.cells cs t fr) := by
  obtain ⟨D, ⟨es, clock, hh, rest⟩, h2⟩ := h
  rw [hh]
  intro e
  cases e
def upd (m : Nat → List UInt8) (i : Nat) (s : List UInt8) : Nat → List UInt8 := fun j => if j = i then s else m j
theorem key_wf {i : Nat} (h : i ≤ 9223372036854775807) : (Lit.int .i64 (i : Int)).wf = true := by
  simp [Lit.wf, IntKind.min, IntKind.max, IntKind.signed, IntKind.bits]
  omega
theorem key_ne {i j : Nat} (h : j ≠ i) : Lit.int .i64 (j : Int) ≠ Lit.int .i64 (i : Int) := fun e => by
  injection e with _ e
  omega
/-- what a map's store makes of its reading -/
theorem SMap.put (hn : n ≤ 100000) {i : Nat} (hi : i < n) {s : List UInt8} (hs : s.length = 128) (h : SMap w b n m) :
    ∃ w', (Instr.mapUpdate 46 (.map (some b)) (.int .i64 (i : Int)) (arrV s)).run Try.prog w = .ok () w' ∧ SMap w' b n (upd m i s) ∧ w.mapTurned w' b := by
  obtain ⟨D, h, hW, hD⟩ := h
  obtain ⟨w', hrun, h', ht⟩ := h.store lawK Try.underlying46 (by unfold maxLen; omega) (Maps.keyOf_int_mk Try.underlying3 (key_wf (i := i) (by omega))) (secElem_mk hs)
  have hW' : Within (D.put (.int .i64 (i : Int)) (.lit (.string s))) n := fun kl hkl => by
    by_cases e : kl = .int .i64 (i : Int)
    · exact ⟨i, hi, e⟩
    · rw [Maps.has_put_other e] at hkl
      exact hW kl hkl
  refine ⟨w', hrun, ⟨_, owns_tight h' hW', hW', fun j => ?_⟩, ht⟩
  unfold upd
  by_cases e : j = i
  · subst e
    rw [Maps.atKey_put_same h.isMap (show WideAt.IsKeyLit (.int .i64 (j : Int)) from trivial), if_pos rfl]
  · rw [Maps.atKey_put_other (key_ne e), if_neg e, hD]
theorem SMap.del {i : Nat} (hi : i ≤ 9223372036854775807) (ty : TypeId) (h : SMap w b n m) :
    ∃ w', (Builtin.delete_ #[46, 3] ty #[.map (some b), .int .i64 (i : Int)]).run Try.prog w = .ok (.tuple #[]) w' ∧ SMap w' b n (upd m i zsec) ∧ w.mapTurned w' b := by
  obtain ⟨D, h, hW, hD⟩ := h
  obtain ⟨w', hrun, h', ht⟩ := h.drop lawK Try.underlying46 (Maps.keyOf_int_mk Try.underlying3 (key_wf hi)) ty
  refine ⟨w', hrun, ⟨_, h', fun kl hkl => ?_, fun j => ?_⟩, ht⟩
  · by_cases e : kl = .int .i64 (i : Int)
    · subst e
      rw [Maps.has_del_same] at hkl
      cases hkl
    · rw [Maps.has_del_other e] at hkl
      exact hW kl hkl
  · unfold upd
    by_cases e : j = i
    · subst e
      rw [Maps.atKey_del_same, if_pos rfl]
    · rw [Maps.atKey_del_other (key_ne e), if_neg e, hD]
theorem SMap.clear (ty : TypeId) (h : SMap w b n m) :
    ∃ w', (Builtin.clear_ #[46] ty #[.map (some b)]).run Try.prog w = .ok (.tuple #[]) w' ∧ SMap w' b n (fun _ => zsec) ∧ w.mapTurned w' b := by
  obtain ⟨D, ⟨es, clock, hb, F, hs, rfl⟩, hW, hD⟩ := h
  refine ⟨setBlock w b (.map #[] clock), ?_, ⟨.map [], ⟨#[], clock, heap_setBlock_same hb _, ⟨by simp, MapKept.stamped_empty clock, by simp⟩, Nat.zero_le _, rfl⟩, fun kl h => by simp [Maps.has] at h, fun i => rfl⟩, ⟨es, clock, #[], clock, hb, rfl⟩⟩
  simp [Builtin.clear_, run_underlying Try.underlying46, MapKept.run_getObj_map hb, MapKept.run_setObj_map _ hb, Result.andThen, setBlock]
theorem SMap.look {i : Nat} (hi : i ≤ 9223372036854775807) (h : SMap w b n m) :
    (Instr.lookup 46 (.map (some b)) (.int .i64 (i : Int)) false).run Try.prog w = .ok (arrV (m i)) w ∧ (m i).length = 128 := by
  obtain ⟨D, h, hW, hD⟩ := h
  obtain ⟨v, ps, hrun, hv⟩ := h.lookup lawK Try.underlying46 (zeroSec w) (secElem_mk zsec_len) (Maps.keyOf_int_mk Try.underlying3 (key_wf hi))
  rw [hD] at hv
  obtain ⟨s, hs, rfl, e⟩ := secElem_inv hv
  simp only [Prod.mk.injEq, DataW.lit.injEq, Lit.string.injEq] at e
  rw [e.1]
  exact ⟨hrun, hs⟩
end
/-- what turns with a map's entries -/
theorem turned_block {w w' : World} {b k : Nat} (h : w.mapTurned w' b) (hk : k ≠ b) : w'.heap[k]? = w.heap[k]? := by
  obtain ⟨es, clock, es', clock', hb, rfl⟩ := h
  exact heap_setBlock_other hb _ hk
theorem turned_below {B : Nat} {w0 w w' : World} {b : Nat} (hb : Below B w0 w) (h : w.mapTurned w' b) (hB : B ≤ b) : Below B w0 w' :=
  hb.trans ⟨h.grown.os, h.grown.tape, h.grown.output, h.grown.size, fun k hk => turned_block h (by omega)⟩
theorem turned_size {w w' : World} {b : Nat} (h : w.mapTurned w' b) : w'.heap.size = w.heap.size := by
  obtain ⟨es, clock, es', clock', hb, rfl⟩ := h
  simp [setBlock]
end Go.Proofs.Ytffenadibnehfaa
