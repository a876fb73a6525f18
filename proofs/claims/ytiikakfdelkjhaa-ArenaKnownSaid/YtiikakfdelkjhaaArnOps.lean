/- What the calls make of an arena; that it stays a tree. -/
import Derived.Test.YtiikakfdelkjhaaArnVal
namespace Go.Proofs.Ytiikakfdelkjhaa.Arn

def ins (l : List Nat) (i n : Nat) : List Nat := l.take i ++ n :: l.drop i
def cutL (l : List Nat) (i : Nat) : List Nat := l.take i ++ l.drop (i + 1)
theorem split_at {l : List Nat} {i n : Nat} (h : l[i]? = some n) : l = l.take i ++ n :: l.drop (i + 1) := by
  obtain ⟨hi, rfl⟩ := List.getElem?_eq_some_iff.1 h
  rw [← List.drop_eq_getElem_cons hi, List.take_append_drop]
theorem mem_ins {l : List Nat} {i n x : Nat} : x ∈ ins l i n ↔ x = n ∨ x ∈ l := by
  unfold ins
  rw [List.mem_append, List.mem_cons]
  have : x ∈ l ↔ x ∈ l.take i ∨ x ∈ l.drop i := by rw [← List.mem_append, List.take_append_drop]
  rw [this]
  constructor
  · rintro (h | h | h) <;> simp [h]
  · rintro (h | h | h) <;> simp [h]
theorem nodup_ins {l : List Nat} {i n : Nat} (h : l.Nodup) (hn : n ∉ l) : (ins l i n).Nodup := by
  have e : (ins l i n).Perm (n :: l) := by
    unfold ins
    refine (List.perm_middle).trans ?_
    rw [List.take_append_drop]
  rw [e.nodup_iff, List.nodup_cons]
  exact ⟨hn, h⟩
theorem ins_len {l : List Nat} {i n : Nat} : (ins l i n).length = l.length + 1 := by
  unfold ins
  have := congrArg List.length (List.take_append_drop i l)
  simp at this ⊢
  omega
theorem cut_perm {l : List Nat} {i n : Nat} (h : l[i]? = some n) : l.Perm (n :: cutL l i) := by
  have e := split_at h
  have : (l.take i ++ n :: l.drop (i + 1)).Perm (n :: cutL l i) := List.perm_middle
  rw [← e] at this
  exact this
theorem nodup_cut {l : List Nat} {i n : Nat} (h : l[i]? = some n) (hn : l.Nodup) : (cutL l i).Nodup ∧ n ∉ cutL l i := by
  have := (cut_perm h).nodup_iff.1 hn
  rw [List.nodup_cons] at this
  exact ⟨this.2, this.1⟩
theorem mem_cut {l : List Nat} {i n x : Nat} (h : l[i]? = some n) (hn : l.Nodup) : x ∈ cutL l i ↔ x ∈ l ∧ x ≠ n := by
  have e := (cut_perm h).mem_iff (a := x)
  rw [List.mem_cons] at e
  have := (nodup_cut h hn).2
  constructor
  · intro hx
    exact ⟨e.2 (.inr hx), fun e2 => this (e2 ▸ hx)⟩
  · rintro ⟨hx, hne⟩
    rcases e.1 hx with h | h
    · exact absurd h hne
    · exact h
theorem cut_len {l : List Nat} {i n : Nat} (h : l[i]? = some n) : (cutL l i).length + 1 = l.length := by
  have := (cut_perm h).length_eq
  simp at this
  omega

/-! ### the calls -/
def slotV (a : Av) : Nat := match a.free.getLast? with | some s => s | none => a.cnt
def takeV (a : Av) : Av := match a.free.getLast? with | some _ => { a with free := a.free.dropLast } | none => { a with cnt := a.cnt + 1 }
def settleV (a : Av) (s : Nat) (p : Int) (d : Dt) : Av := { a with live := upd a.live s true, par := upd a.par s p, kids := upd a.kids s [], dat := upd a.dat s d }
def putInV (a : Av) (s p i : Nat) : Av := { a with kids := upd a.kids p (ins (a.kids p) i s) }
def cutV (a : Av) (p i : Nat) : Av := { a with kids := upd a.kids p (cutL (a.kids p) i) }
def deadV (a : Av) (s : Nat) : Av := { a with live := upd a.live s false, par := upd a.par s 0, kids := upd a.kids s [], dat := upd a.dat s Dt.zero }
def deadsV (a : Av) (l : List Nat) : Av := l.foldl deadV a
def freeV (a : Av) (l : List Nat) : Av := { a with free := a.free ++ l }
def parV (a : Av) (s p : Nat) : Av := { a with par := upd a.par s (p : Int) }
def setV (a : Av) (s : Nat) (d : Dt) : Av := { a with dat := upd a.dat s d }
def newV (d : Dt) : Av := ⟨1, fun k => k == 0, fun k => if k = 0 then -1 else 0, fun _ => [], fun k => if k = 0 then { d with leaf := false } else Dt.zero, []⟩
def addV (a : Av) (p i : Nat) (d : Dt) : Av := putInV (settleV (takeV a) (slotV a) (p : Int) d) (slotV a) p i
theorem Dn.congr {par par' : Nat → Int} {s x : Nat} (h : Dn par s x) : (∀ y, Dn par y x → y ≠ s → par' y = par y) → Dn par' s x := by
  induction h with
  | refl => intro _; exact .refl
  | @step x p hp _ ih =>
    intro he
    by_cases hx : x = s
    · subst hx; exact .refl
    · refine .step ((he x .refl hx).trans hp) (ih fun y hy hn => he y (.step hp hy) hn)
section
variable {a : Av}
theorem WF.slot (h : WF a) : a.live (slotV a) = false ∧ slotV a ≠ 0 ∧ slotV a < (takeV a).cnt ∧ slotV a ≤ a.cnt := by
  unfold slotV takeV
  cases e : a.free.getLast? with
  | none =>
    have hl : a.live a.cnt = false := by
      cases hc : a.live a.cnt with
      | false => rfl
      | true => exact absurd (h.lt hc) (by omega)
    exact ⟨hl, by have := h.cnt_pos; show a.cnt ≠ 0; omega, by show a.cnt < a.cnt + 1; omega, Nat.le_refl _⟩
  | some s =>
    have hm := h.fmem.1 (List.mem_of_getLast? e)
    refine ⟨hm.2, fun e0 => ?_, hm.1, Nat.le_of_lt hm.1⟩
    have h2 := hm.2
    rw [show s = 0 from e0, h.root] at h2
    cases h2
theorem take_live (a : Av) : (takeV a).live = a.live ∧ (takeV a).par = a.par ∧ (takeV a).kids = a.kids ∧ (takeV a).dat = a.dat := by
  unfold takeV
  split <;> exact ⟨rfl, rfl, rfl, rfl⟩
theorem WF.take_free (h : WF a) (i : Nat) : (i ∈ (takeV a).free ↔ i < (takeV a).cnt ∧ a.live i = false ∧ i ≠ slotV a) ∧ (takeV a).free.Nodup := by
  unfold slotV takeV
  cases e : a.free.getLast? with
  | none =>
    have e0 : a.free = [] := List.getLast?_eq_none_iff.1 e
    constructor
    · show i ∈ a.free ↔ i < a.cnt + 1 ∧ a.live i = false ∧ i ≠ a.cnt
      rw [h.fmem]
      constructor
      · rintro ⟨h1, h2⟩; exact ⟨by omega, h2, by omega⟩
      · rintro ⟨h1, h2, h3⟩; exact ⟨by omega, h2⟩
    · exact h.fnd
  | some s =>
    have e0 : a.free = a.free.dropLast ++ [s] := by
      have hne : a.free ≠ [] := fun e1 => by rw [e1] at e; cases e
      have := List.dropLast_concat_getLast hne
      rw [List.getLast?_eq_some_getLast hne] at e
      injection e with e
      rw [e] at this
      exact this.symm
    have hnd := h.fnd
    rw [e0, List.nodup_append] at hnd
    refine ⟨?_, hnd.1⟩
    show i ∈ a.free.dropLast ↔ i < a.cnt ∧ a.live i = false ∧ i ≠ s
    constructor
    · intro hi
      have hm : i ∈ a.free := by rw [e0]; exact List.mem_append_left _ hi
      have := h.fmem.1 hm
      exact ⟨this.1, this.2, fun e2 => hnd.2.2 i hi s (by simp) e2⟩
    · rintro ⟨h1, h2, h3⟩
      have hm := h.fmem.2 ⟨h1, h2⟩
      rw [e0] at hm
      rcases List.mem_append.1 hm with hm | hm
      · exact hm
      · exact absurd (by simpa using hm) h3
theorem WF.add (h : WF a) {p i : Nat} (hp : a.live p = true) (d : Dt) : WF (addV a p i d) := by
  obtain ⟨s1, s2, s3, s4⟩ := h.slot
  obtain ⟨t1, t2, t3, t4⟩ := take_live a
  obtain ⟨s, hs⟩ : ∃ s, s = slotV a := ⟨_, rfl⟩
  have hf := fun i => h.take_free i
  have hps : p ≠ s := fun e => by rw [e, hs, s1] at hp; cases hp
  have L : (addV a p i d).live = upd a.live s true := by rw [← t1, hs]; rfl
  have P : (addV a p i d).par = upd a.par s (p : Int) := by rw [← t2, hs]; rfl
  have K : (addV a p i d).kids = upd (upd a.kids s []) p (ins (a.kids p) i s) := by
    have : (upd a.kids s []) p = a.kids p := upd_ne _ _ hps
    rw [← this, ← t3, hs]
    rfl
  have C : (addV a p i d).cnt = (takeV a).cnt := rfl
  have F : (addV a p i d).free = (takeV a).free := rfl
  rw [← hs] at s1 s2 s3 s4
  have hsk : ∀ j, s ∉ a.kids j := fun j hm => by rw [(h.kid hm).1] at s1; cases s1
  have hcnt : a.cnt ≤ (takeV a).cnt := by unfold takeV; split <;> simp
  have kk : ∀ j, (j = p ∧ (addV a p i d).kids j = ins (a.kids p) i s) ∨ (j ≠ p ∧ j = s ∧ (addV a p i d).kids j = []) ∨ (j ≠ p ∧ j ≠ s ∧ (addV a p i d).kids j = a.kids j) := fun j => by
    rw [K]
    by_cases hj : j = p
    · left; subst hj; exact ⟨rfl, upd_same _ _ _⟩
    · right
      by_cases hj2 : j = s
      · left; subst hj2; exact ⟨hj, rfl, by rw [upd_ne _ _ hj, upd_same]⟩
      · right; exact ⟨hj, hj2, by rw [upd_ne _ _ hj, upd_ne _ _ hj2]⟩
  have pn : ∀ {x : Nat}, x ≠ s → (addV a p i d).par x = a.par x := fun hx => by rw [P, upd_ne _ _ hx]
  have topx : ∀ {x : Nat}, a.live x = true → Dn (addV a p i d).par 0 x := fun {x} hx =>
    (h.top hx).congr fun y hy _ => pn fun e => by have := h.dn_live hy hx; rw [e, s1] at this; cases this
  have lv : ∀ {x : Nat}, (addV a p i d).live x = true → x = s ∨ (x ≠ s ∧ a.live x = true) := fun {x} hx => by
    by_cases e : x = s
    · exact .inl e
    · rw [L, upd_ne _ _ e] at hx; exact .inr ⟨e, hx⟩
  have lvb : ∀ {x : Nat}, a.live x = true → (addV a p i d).live x = true := fun {x} hx => by
    rw [L]
    by_cases e : x = s
    · rw [e]; exact upd_same _ _ _
    · rw [upd_ne _ _ e]; exact hx
  refine { root := lvb h.root, par0 := (pn (Ne.symm s2)).trans h.par0, lt := ?_, dead := ?_, kid := ?_, nd := ?_, up := ?_, top := ?_, fnd := (hf 0).2, fmem := ?_ }
  · intro x hx
    rw [C]
    rcases lv hx with rfl | ⟨_, hx⟩
    · exact s3
    · have := h.lt hx; omega
  · intro x hx
    rcases kk x with ⟨rfl, -⟩ | ⟨-, -, e⟩ | ⟨_, hxs, e⟩
    · rw [lvb hp] at hx; cases hx
    · exact e
    · rw [e]
      rw [L, upd_ne _ _ hxs] at hx
      exact h.dead hx
  · intro j k hk
    rcases kk j with ⟨rfl, e⟩ | ⟨-, -, e⟩ | ⟨_, _, e⟩
    · rw [e, mem_ins] at hk
      rcases hk with rfl | hk
      · exact ⟨by rw [L]; exact upd_same _ _ _, by rw [P]; exact upd_same _ _ _⟩
      · have hks : k ≠ s := fun e => hsk j (e ▸ hk)
        exact ⟨lvb (h.kid hk).1, (pn hks).trans (h.kid hk).2⟩
    · rw [e] at hk; cases hk
    · rw [e] at hk
      have hks : k ≠ s := fun e => hsk j (e ▸ hk)
      exact ⟨lvb (h.kid hk).1, (pn hks).trans (h.kid hk).2⟩
  · intro j
    rcases kk j with ⟨rfl, e⟩ | ⟨-, -, e⟩ | ⟨_, _, e⟩
    · rw [e]; exact nodup_ins (h.nd _) (hsk _)
    · rw [e]; exact List.nodup_nil
    · rw [e]; exact h.nd _
  · intro k hk hk0
    rcases lv hk with rfl | ⟨hks, hk⟩
    · refine ⟨p, by rw [P]; exact upd_same _ _ _, ?_⟩
      rw [K, upd_same, mem_ins]
      exact .inl rfl
    · obtain ⟨q, h1, h2, h3⟩ := h.par_live hk hk0
      refine ⟨q, (pn hks).trans h1, ?_⟩
      rcases kk q with ⟨rfl, e⟩ | ⟨-, rfl, e⟩ | ⟨_, _, e⟩
      · rw [e, mem_ins]; exact .inr h2
      · rw [s1] at h3; cases h3
      · rw [e]; exact h2
  · intro k hk
    rcases lv hk with rfl | ⟨hks, hk⟩
    · exact .step (p := p) (by rw [P]; exact upd_same _ _ _) (topx hp)
    · exact topx hk
  · intro x
    rw [F, C, (hf x).1, ← hs]
    constructor
    · rintro ⟨h1, h2, h3⟩
      exact ⟨h1, by rw [L, upd_ne _ _ h3]; exact h2⟩
    · rintro ⟨h1, h2⟩
      have h3 : x ≠ s := fun e => by rw [L, e, upd_same] at h2; cases h2
      rw [L, upd_ne _ _ h3] at h2
      exact ⟨h1, h2, h3⟩
theorem deads_at (l : List Nat) : ∀ (a : Av) (k : Nat), (k ∈ l → (deadsV a l).live k = false ∧ (deadsV a l).par k = 0 ∧ (deadsV a l).kids k = [] ∧ (deadsV a l).dat k = Dt.zero) ∧
    (k ∉ l → (deadsV a l).live k = a.live k ∧ (deadsV a l).par k = a.par k ∧ (deadsV a l).kids k = a.kids k ∧ (deadsV a l).dat k = a.dat k) ∧ (deadsV a l).cnt = a.cnt ∧ (deadsV a l).free = a.free := by
  induction l with
  | nil => intro a k; exact ⟨fun h => (by cases h), fun _ => ⟨rfl, rfl, rfl, rfl⟩, rfl, rfl⟩
  | cons s r ih =>
    intro a k
    obtain ⟨h1, h2, h3, h4⟩ := ih (deadV a s) k
    have e : deadsV a (s :: r) = deadsV (deadV a s) r := rfl
    rw [e]
    refine ⟨fun hk => ?_, fun hk => ?_, h3, h4⟩
    · by_cases hr : k ∈ r
      · exact h1 hr
      · have hks : k = s := by rcases List.mem_cons.1 hk with e | e; exact e; exact absurd e hr
        obtain ⟨g1, g2, g3, g4⟩ := h2 hr
        rw [g1, g2, g3, g4, hks]
        exact ⟨upd_same _ _ _, upd_same _ _ _, upd_same _ _ _, upd_same _ _ _⟩
    · have hr : k ∉ r := fun e => hk (List.mem_cons_of_mem _ e)
      have hks : k ≠ s := fun e => hk (e ▸ List.mem_cons_self)
      obtain ⟨g1, g2, g3, g4⟩ := h2 hr
      rw [g1, g2, g3, g4]
      exact ⟨upd_ne _ _ hks, upd_ne _ _ hks, upd_ne _ _ hks, upd_ne _ _ hks⟩
def removeV (a : Av) (p i : Nat) (l : List Nat) : Av := freeV (deadsV (cutV a p i) l) l
theorem cut_kids (a : Av) (p i j : Nat) : (j = p ∧ (cutV a p i).kids j = cutL (a.kids p) i) ∨ (j ≠ p ∧ (cutV a p i).kids j = a.kids j) := by
  by_cases h : j = p
  · exact .inl ⟨h, by subst h; exact upd_same _ _ _⟩
  · exact .inr ⟨h, upd_ne _ _ h⟩
/-- who is taken out has what it had below it -/
theorem WF.pre_cut (h : WF a) {s p i : Nat} {l : List Nat} (hs : a.live s = true) (hp : a.par s = (p : Int)) (hl : Pre a.kids [s] l) : Pre (cutV a p i).kids [s] l ∧ p ∉ l := by
  have hpl : p ∉ l := fun hm => h.acyc hs hp ((h.pre_iff hl hs p).1 hm).2
  refine ⟨hl.congr fun q hq => ?_, hpl⟩
  exact upd_ne _ _ (fun e => hpl (e ▸ hq))
theorem WF.remove (h : WF a) {s p i : Nat} {l : List Nat} (hs : a.live s = true) (hs0 : s ≠ 0) (hi : (a.kids p)[i]? = some s) (hl : Pre a.kids [s] l) : WF (removeV a p i l) := by
  have hsp := h.kid (List.mem_of_getElem? hi)
  have hpl := (h.pre_cut (i := i) hs hsp.2 hl).2
  have iff := h.pre_iff hl hs
  have hD := fun k => deads_at l (cutV a p i) k
  have inl : ∀ {k}, k ∈ l → (removeV a p i l).live k = false ∧ (removeV a p i l).par k = 0 ∧ (removeV a p i l).kids k = [] := fun {k} hk => ⟨((hD k).1 hk).1, ((hD k).1 hk).2.1, ((hD k).1 hk).2.2.1⟩
  have out : ∀ {k}, k ∉ l → (removeV a p i l).live k = a.live k ∧ (removeV a p i l).par k = a.par k ∧ (removeV a p i l).kids k = (cutV a p i).kids k := fun {k} hk => ⟨((hD k).2.1 hk).1, ((hD k).2.1 hk).2.1, ((hD k).2.1 hk).2.2.1⟩
  have C : (removeV a p i l).cnt = a.cnt := (hD 0).2.2.1
  have F : (removeV a p i l).free = a.free ++ l := by show (deadsV (cutV a p i) l).free ++ l = _; rw [(hD 0).2.2.2]; rfl
  have h0 : 0 ∉ l := fun hm => by
    have := (iff 0).1 hm
    cases this.2 with
    | refl => exact hs0 rfl
    | @step _ q hq _ => rw [h.par0] at hq; omega
  have lv : ∀ {x : Nat}, (removeV a p i l).live x = true → x ∉ l ∧ a.live x = true := fun {x} hx => by
    by_cases hm : x ∈ l
    · rw [(inl hm).1] at hx; cases hx
    · rw [(out hm).1] at hx; exact ⟨hm, hx⟩
  have anc : ∀ {x y : Nat}, x ∉ l → a.live x = true → Dn a.par y x → y ∉ l := fun {x y} hx hl hd hy => hx ((iff x).2 ⟨hl, Dn.trans ((iff y).1 hy).2 hd⟩)
  have sub : ∀ {j k : Nat}, k ∈ (cutV a p i).kids j → k ∈ a.kids j ∧ k ≠ s := fun {j k} hk => by
    rcases cut_kids a p i j with ⟨rfl, e⟩ | ⟨hj, e⟩
    · rw [e] at hk
      exact (mem_cut hi (h.nd _)).1 hk
    · rw [e] at hk
      refine ⟨hk, fun e2 => hj ?_⟩
      have := (h.kid hk).2
      rw [e2, hsp.2] at this
      omega
  have hsl : s ∈ l := hl.sub s (by simp)
  refine { root := (out h0).1.trans h.root, par0 := (out h0).2.1.trans h.par0, lt := ?_, dead := ?_, kid := ?_, nd := ?_, up := ?_, top := ?_, fnd := ?_, fmem := ?_ }
  · intro x hx; rw [C]; exact h.lt (lv hx).2
  · intro x hx
    by_cases hm : x ∈ l
    · exact (inl hm).2.2
    · rw [(out hm).1] at hx
      rw [(out hm).2.2]
      rcases cut_kids a p i x with ⟨rfl, e⟩ | ⟨hj, e⟩
      · rw [h.owner (List.mem_of_getElem? hi)] at hx; cases hx
      · rw [e]; exact h.dead hx
  · intro j k hk
    by_cases hm : j ∈ l
    · rw [(inl hm).2.2] at hk; cases hk
    · rw [(out hm).2.2] at hk
      obtain ⟨hk1, hks⟩ := sub hk
      have hkl : k ∉ l := fun hkl => by
        have := (iff k).1 hkl
        cases this.2 with
        | refl => exact hks rfl
        | @step _ q hq hd =>
          have := (h.kid hk1).2
          have : q = j := by omega
          subst this
          exact hm ((iff q).2 ⟨h.owner hk1, hd⟩)
      exact ⟨(out hkl).1.trans (h.kid hk1).1, (out hkl).2.1.trans (h.kid hk1).2⟩
  · intro j
    by_cases hm : j ∈ l
    · rw [(inl hm).2.2]; exact List.nodup_nil
    · rw [(out hm).2.2]
      rcases cut_kids a p i j with ⟨rfl, e⟩ | ⟨hj, e⟩
      · rw [e]; exact (nodup_cut hi (h.nd _)).1
      · rw [e]; exact h.nd _
  · intro k hk hk0
    obtain ⟨hkl, hk⟩ := lv hk
    obtain ⟨q, h1, h2, h3⟩ := h.par_live hk hk0
    have hql : q ∉ l := anc hkl hk (.step h1 .refl)
    refine ⟨q, (out hkl).2.1.trans h1, ?_⟩
    rw [(out hql).2.2]
    rcases cut_kids a p i q with ⟨rfl, e⟩ | ⟨hj, e⟩
    · rw [e, mem_cut hi (h.nd _)]; exact ⟨h2, fun e => hkl (e ▸ hsl)⟩
    · rw [e]; exact h2
  · intro k hk
    obtain ⟨hkl, hk⟩ := lv hk
    exact (h.top hk).congr fun y hy _ => (out (anc hkl hk hy)).2.1
  · rw [F, List.nodup_append]
    refine ⟨h.fnd, h.nodup1 hl hs, fun x hx y hy e => ?_⟩
    subst e
    have := (h.fmem.1 hx).2
    rw [((iff x).1 hy).1] at this
    cases this
  · intro x
    rw [F, C, List.mem_append, h.fmem]
    by_cases hm : x ∈ l
    · rw [(inl hm).1]
      exact ⟨fun _ => ⟨h.lt ((iff x).1 hm).1, rfl⟩, fun _ => .inr hm⟩
    · rw [(out hm).1]
      exact ⟨fun e => e.elim id (fun e => absurd e hm), fun e => .inl e⟩
/-- the gap, counted without the one that is moved -/
def gapV (q p i j : Nat) : Nat := if q = p ∧ i < j then j - 1 else j
def moveV (a : Av) (s q i p j : Nat) : Av := putInV (parV (cutV a q i) s p) s p (gapV q p i j)
theorem WF.move (h : WF a) {s q i p j : Nat} (hs : a.live s = true) (hi : (a.kids q)[i]? = some s) (hp : a.live p = true) (hc : ¬ Dn a.par s p) : WF (moveV a s q i p j) := by
  have hsq := h.kid (List.mem_of_getElem? hi)
  have hs0 := h.kid_ne (List.mem_of_getElem? hi)
  have P : (moveV a s q i p j).par = upd a.par s (p : Int) := rfl
  have L : (moveV a s q i p j).live = a.live := rfl
  have K : ∀ x, (moveV a s q i p j).kids x = if x = p then ins ((cutV a q i).kids p) (gapV q p i j) s else (cutV a q i).kids x := fun x => rfl
  have cutm : ∀ {x k : Nat}, k ∈ (cutV a q i).kids x ↔ k ∈ a.kids x ∧ k ≠ s := fun {x k} => by
    rcases cut_kids a q i x with ⟨rfl, e⟩ | ⟨hj, e⟩
    · rw [e]; exact mem_cut hi (h.nd _)
    · rw [e]
      refine ⟨fun hk => ⟨hk, fun e2 => hj ?_⟩, fun hk => hk.1⟩
      have := (h.kid hk).2
      rw [e2, hsq.2] at this
      omega
  have cutn : ∀ x, ((cutV a q i).kids x).Nodup := fun x => by
    rcases cut_kids a q i x with ⟨rfl, e⟩ | ⟨hj, e⟩
    · rw [e]; exact (nodup_cut hi (h.nd _)).1
    · rw [e]; exact h.nd _
  have mem : ∀ {x k : Nat}, k ∈ (moveV a s q i p j).kids x ↔ (x = p ∧ k = s) ∨ (k ∈ a.kids x ∧ k ≠ s) := fun {x k} => by
    rw [K]
    by_cases hx : x = p
    · subst hx
      rw [if_pos rfl, mem_ins, cutm]
      exact ⟨fun e => e.elim (fun e => .inl ⟨rfl, e⟩) .inr, fun e => e.elim (fun e => .inl e.2) .inr⟩
    · rw [if_neg hx, cutm]
      exact ⟨.inr, fun e => e.elim (fun e => absurd e.1 hx) id⟩
  have pn : ∀ {x : Nat}, x ≠ s → (moveV a s q i p j).par x = a.par x := fun hx => by rw [P, upd_ne _ _ hx]
  have ps : (moveV a s q i p j).par s = (p : Int) := by rw [P]; exact upd_same _ _ _
  have away : ∀ {x : Nat}, a.live x = true → ¬ Dn a.par s x → Dn (moveV a s q i p j).par 0 x := fun {x} hx hd =>
    (h.top hx).congr fun y hy _ => pn fun e => hd (e ▸ hy)
  refine { root := h.root, par0 := (pn (Ne.symm hs0)).trans h.par0, lt := h.lt, dead := ?_, kid := ?_, nd := ?_, up := ?_, top := ?_, fnd := h.fnd, fmem := h.fmem }
  · intro x hx
    rw [L] at hx
    have hxp : x ≠ p := fun e => by rw [e, hp] at hx; cases hx
    refine List.eq_nil_iff_forall_not_mem.2 fun k hk => ?_
    rcases mem.1 hk with ⟨e, _⟩ | ⟨e, _⟩
    · exact hxp e
    · rw [h.dead hx] at e; cases e
  · intro x k hk
    rcases mem.1 hk with ⟨rfl, rfl⟩ | ⟨e, hks⟩
    · exact ⟨hs, ps⟩
    · exact ⟨(h.kid e).1, (pn hks).trans (h.kid e).2⟩
  · intro x
    rw [K]
    split
    · exact nodup_ins (cutn _) (fun e => (cutm.1 e).2 rfl)
    · exact cutn _
  · intro k hk hk0
    by_cases hks : k = s
    · subst hks
      exact ⟨p, ps, mem.2 (.inl ⟨rfl, rfl⟩)⟩
    · obtain ⟨z, h1, h2⟩ := h.up hk hk0
      exact ⟨z, (pn hks).trans h1, mem.2 (.inr ⟨h2, hks⟩)⟩
  · intro k hk
    by_cases hd : Dn a.par s k
    · have h1 : Dn (moveV a s q i p j).par s k := hd.congr fun y _ hn => pn hn
      exact Dn.trans (.step ps (away hp hc)) h1
    · exact away hk hd
theorem WF.set (h : WF a) (s : Nat) (d : Dt) : WF (setV a s d) := ⟨h.root, h.par0, h.lt, h.dead, h.kid, h.nd, h.up, h.top, h.fnd, h.fmem⟩
theorem WF.new (d : Dt) : WF (newV d) := by
  refine { root := rfl, par0 := rfl, lt := ?_, dead := fun _ => rfl, kid := fun h => (by cases h), nd := fun _ => List.nodup_nil, up := ?_, top := ?_, fnd := List.nodup_nil, fmem := ?_ }
  · intro i h
    have : i = 0 := by simpa [newV] using h
    subst this
    exact Nat.zero_lt_one
  · intro k h h0
    have : k = 0 := by simpa [newV] using h
    exact absurd this h0
  · intro k h
    have : k = 0 := by simpa [newV] using h
    subst this
    exact .refl
  · intro i
    constructor
    · intro h; cases h
    · rintro ⟨h1, h2⟩
      have : i = 0 := by
        have : i < 1 := h1
        omega
      subst this
      simp [newV] at h2
end
end Go.Proofs.Ytiikakfdelkjhaa.Arn
