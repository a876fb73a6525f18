/- The arena as a value: slots and free ones; what makes it a tree; the nodes below one, in their order. -/
import Derived.Test.YtiikakfdelkjhaaProg
namespace Go.Proofs.Ytiikakfdelkjhaa.Arn

abbrev Txt := List UInt8
structure Dt where
  id : Nat
  leaf : Bool
  label : Txt
  attrs : List (Txt × Txt)
  text : Txt
def Dt.zero : Dt := ⟨0, false, [], [], []⟩
structure Av where
  cnt : Nat
  live : Nat → Bool
  par : Nat → Int
  kids : Nat → List Nat
  dat : Nat → Dt
  free : List Nat
def upd {α : Type} (f : Nat → α) (n : Nat) (v : α) : Nat → α := fun k => if k = n then v else f k
theorem upd_same {α : Type} (f : Nat → α) (n : Nat) (v : α) : upd f n v n = v := if_pos rfl
theorem upd_ne {α : Type} (f : Nat → α) {n k : Nat} (v : α) (h : k ≠ n) : upd f n v k = f k := if_neg h
/-- x is s, or below it, by the way up -/
inductive Dn (par : Nat → Int) (s : Nat) : Nat → Prop
  | refl : Dn par s s
  | step {x p : Nat} : par x = (p : Int) → Dn par s p → Dn par s x
theorem Dn.trans {par : Nat → Int} {s t x : Nat} (h1 : Dn par s t) (h2 : Dn par t x) : Dn par s x := by
  induction h2 with
  | refl => exact h1
  | step h _ ih => exact .step h ih
theorem Dn.linear {par : Nat → Int} {k k' y : Nat} (h1 : Dn par k y) (h2 : Dn par k' y) : Dn par k k' ∨ Dn par k' k := by
  induction h1 with
  | refl => exact .inr h2
  | @step x p hp h1 ih =>
    cases h2 with
    | refl => exact .inl (.step hp h1)
    | @step _ p' hp' h2 =>
      have : p' = p := by rw [hp] at hp'; omega
      subst this
      exact ih h2
/-- what is a tree -/
structure WF (a : Av) : Prop where
  root : a.live 0 = true
  par0 : a.par 0 = -1
  lt : ∀ {i}, a.live i = true → i < a.cnt
  dead : ∀ {i}, a.live i = false → a.kids i = []
  kid : ∀ {i k}, k ∈ a.kids i → a.live k = true ∧ a.par k = (i : Int)
  nd : ∀ i, (a.kids i).Nodup
  up : ∀ {k}, a.live k = true → k ≠ 0 → ∃ p : Nat, a.par k = (p : Int) ∧ k ∈ a.kids p
  top : ∀ {k}, a.live k = true → Dn a.par 0 k
  fnd : a.free.Nodup
  fmem : ∀ {i}, i ∈ a.free ↔ i < a.cnt ∧ a.live i = false
theorem acyclic {par : Nat → Int} (h0 : par 0 = -1) {x : Nat} (h : Dn par 0 x) : ∀ p : Nat, par x = (p : Int) → Dn par x p → False := by
  induction h with
  | refl => intro p hp _; omega
  | @step x q hq h ih =>
    intro p hp hd
    have : p = q := by omega
    subst this
    cases hd with
    | refl => exact ih _ hq .refl
    | @step _ q' hq' hd' => exact ih q' hq' (Dn.trans (.step hq .refl) hd')
section
variable {a : Av}
theorem WF.owner (h : WF a) {i k : Nat} (hk : k ∈ a.kids i) : a.live i = true := by
  cases e : a.live i with
  | true => rfl
  | false => rw [h.dead e] at hk; cases hk
theorem WF.kid_ne (h : WF a) {i k : Nat} (hk : k ∈ a.kids i) : k ≠ 0 := by
  intro e
  subst e
  have := (h.kid hk).2
  rw [h.par0] at this
  omega
theorem WF.kids_iff (h : WF a) {i k : Nat} (hl : a.live k = true) : k ∈ a.kids i ↔ a.par k = (i : Int) := by
  refine ⟨fun hk => (h.kid hk).2, fun hp => ?_⟩
  have hk0 : k ≠ 0 := fun e => by subst e; rw [h.par0] at hp; omega
  obtain ⟨p, hp', hm⟩ := h.up hl hk0
  have : p = i := by omega
  subst this
  exact hm
theorem WF.par_live (h : WF a) {k : Nat} (hl : a.live k = true) (hk : k ≠ 0) : ∃ p : Nat, a.par k = (p : Int) ∧ k ∈ a.kids p ∧ a.live p = true := by
  obtain ⟨p, h1, h2⟩ := h.up hl hk
  exact ⟨p, h1, h2, h.owner h2⟩
theorem WF.dn_live (h : WF a) {s x : Nat} (hd : Dn a.par s x) (hx : a.live x = true) : a.live s = true := by
  induction hd with
  | refl => exact hx
  | @step x p hp _ ih =>
    have hk0 : x ≠ 0 := fun e => by subst e; rw [h.par0] at hp; omega
    obtain ⟨p', h1, _, h3⟩ := h.par_live hx hk0
    have : p' = p := by omega
    subst this
    exact ih h3
theorem WF.acyc (h : WF a) {x p : Nat} (hx : a.live x = true) (hp : a.par x = (p : Int)) : ¬ Dn a.par x p := acyclic h.par0 (h.top hx) p hp
theorem WF.cnt_pos (h : WF a) : 0 < a.cnt := h.lt h.root
end

/-! ### the order of the document -/
/-- what is met from a row of pending slots on -/
inductive Pre (kids : Nat → List Nat) : List Nat → List Nat → Prop
  | nil : Pre kids [] []
  | cons {k : Nat} {r l1 l2 : List Nat} : Pre kids (kids k) l1 → Pre kids r l2 → Pre kids (k :: r) (k :: (l1 ++ l2))
section
variable {kids : Nat → List Nat}
theorem Pre.nil_eq {l : List Nat} (h : Pre kids [] l) : l = [] := by cases h; rfl
theorem Pre.append {x y l m : List Nat} (h : Pre kids x l) (h2 : Pre kids y m) : Pre kids (x ++ y) (l ++ m) := by
  induction h with
  | nil => exact h2
  | @cons k r l1 l2 h1 _ _ ih =>
    have := Pre.cons h1 ih
    simpa using this
theorem Pre.split {x y : List Nat} : ∀ {l : List Nat}, Pre kids (x ++ y) l → ∃ l1 l2, l = l1 ++ l2 ∧ Pre kids x l1 ∧ Pre kids y l2 := by
  induction x with
  | nil => intro l h; exact ⟨[], l, rfl, .nil, h⟩
  | cons k r ih =>
    intro l h
    cases h with
    | @cons _ _ l1 l2 h1 h2 =>
      obtain ⟨m1, m2, rfl, g1, g2⟩ := ih h2
      exact ⟨k :: (l1 ++ m1), m2, by simp, .cons h1 g1, g2⟩
/-- one step of the goer with a stack -/
theorem Pre.pop {k : Nat} {r l : List Nat} (h : Pre kids (k :: r) l) : ∃ l', l = k :: l' ∧ Pre kids (kids k ++ r) l' := by
  cases h with
  | @cons _ _ l1 l2 h1 h2 => exact ⟨_, rfl, h1.append h2⟩
theorem Pre.unique {x l : List Nat} (h : Pre kids x l) : ∀ {l'}, Pre kids x l' → l = l' := by
  induction h with
  | nil => intro l' h; exact h.nil_eq.symm
  | @cons k r l1 l2 _ _ ih1 ih2 =>
    intro l' h
    cases h with
    | @cons _ _ m1 m2 g1 g2 => rw [ih1 g1, ih2 g2]
theorem Pre.sub {x l : List Nat} (h : Pre kids x l) : ∀ k ∈ x, k ∈ l := by
  induction h with
  | nil => intro k h; cases h
  | @cons k r l1 l2 _ _ _ ih2 =>
    intro j hj
    rcases List.mem_cons.1 hj with rfl | hj
    · exact List.mem_cons_self
    · exact List.mem_cons_of_mem _ (List.mem_append_right _ (ih2 j hj))
theorem Pre.closed {x l : List Nat} (h : Pre kids x l) : ∀ p ∈ l, ∀ k ∈ kids p, k ∈ l := by
  induction h with
  | nil => intro p h; cases h
  | @cons k r l1 l2 h1 _ ih1 ih2 =>
    intro p hp j hj
    rcases List.mem_cons.1 hp with rfl | hp
    · exact List.mem_cons_of_mem _ (List.mem_append_left _ (h1.sub j hj))
    · rcases List.mem_append.1 hp with hp | hp
      · exact List.mem_cons_of_mem _ (List.mem_append_left _ (ih1 p hp j hj))
      · exact List.mem_cons_of_mem _ (List.mem_append_right _ (ih2 p hp j hj))
/-- the children of what is met are all that count -/
theorem Pre.congr {kids' : Nat → List Nat} {x l : List Nat} (h : Pre kids x l) : (∀ p ∈ l, kids' p = kids p) → Pre kids' x l := by
  induction h with
  | nil => intro _; exact .nil
  | @cons k r l1 l2 _ _ ih1 ih2 =>
    intro he
    refine .cons ?_ (ih2 fun p hp => he p (List.mem_cons_of_mem _ (List.mem_append_right _ hp)))
    rw [he k List.mem_cons_self]
    exact ih1 fun p hp => he p (List.mem_cons_of_mem _ (List.mem_append_left _ hp))
end
section
variable {a : Av}
theorem Pre.above {kids : Nat → List Nat} {par : Nat → Int} (hk : ∀ i k, k ∈ kids i → par k = (i : Int)) {x l : List Nat} (h : Pre kids x l) : ∀ y ∈ l, ∃ k ∈ x, Dn par k y := by
  induction h with
  | nil => intro y h; cases h
  | @cons k r l1 l2 _ _ ih1 ih2 =>
    intro y hy
    rcases List.mem_cons.1 hy with rfl | hy
    · exact ⟨_, List.mem_cons_self, .refl⟩
    · rcases List.mem_append.1 hy with hy | hy
      · obtain ⟨j, hj, hd⟩ := ih1 y hy
        exact ⟨k, List.mem_cons_self, Dn.trans (.step (hk k j hj) .refl) hd⟩
      · obtain ⟨j, hj, hd⟩ := ih2 y hy
        exact ⟨j, List.mem_cons_of_mem _ hj, hd⟩
theorem WF.kidpar (h : WF a) : ∀ i k, k ∈ a.kids i → a.par k = (i : Int) := fun _ _ hk => (h.kid hk).2
theorem WF.mem_pre (h : WF a) {x l : List Nat} (hp : Pre a.kids x l) {k y : Nat} (hk : k ∈ x) (hd : Dn a.par k y) (hl : a.live y = true) : y ∈ l := by
  induction hd with
  | refl => exact hp.sub k hk
  | @step y p hpar hd ih =>
    have hy := (h.kids_iff hl).2 hpar
    exact hp.closed p (ih (h.owner hy)) y hy
theorem WF.live_pre (h : WF a) {x l : List Nat} (hp : Pre a.kids x l) (hx : ∀ k ∈ x, a.live k = true) : ∀ y ∈ l, a.live y = true := by
  induction hp with
  | nil => intro y h; cases h
  | @cons k r l1 l2 _ _ ih1 ih2 =>
    intro y hy
    rcases List.mem_cons.1 hy with rfl | hy
    · exact hx _ List.mem_cons_self
    · rcases List.mem_append.1 hy with hy | hy
      · exact ih1 (fun j hj => (h.kid hj).1) y hy
      · exact ih2 (fun j hj => hx j (List.mem_cons_of_mem _ hj)) y hy
theorem WF.pre_iff (h : WF a) {s : Nat} {l : List Nat} (hp : Pre a.kids [s] l) (hs : a.live s = true) (y : Nat) : y ∈ l ↔ a.live y = true ∧ Dn a.par s y := by
  constructor
  · intro hy
    obtain ⟨k, hk, hd⟩ := hp.above h.kidpar y hy
    simp at hk
    subst hk
    exact ⟨h.live_pre hp (fun j hj => by simp at hj; subst hj; exact hs) y hy, hd⟩
  · intro ⟨hl, hd⟩
    exact h.mem_pre hp (by simp) hd hl
theorem WF.nodup_pre (h : WF a) {x l : List Nat} (hp : Pre a.kids x l) (hx : ∀ k ∈ x, a.live k = true) (hn : x.Pairwise fun k k' => ¬ Dn a.par k k' ∧ ¬ Dn a.par k' k) : l.Nodup := by
  induction hp with
  | nil => exact List.nodup_nil
  | @cons k r l1 l2 h1 h2 ih1 ih2 =>
    rw [List.pairwise_cons] at hn
    have hk := hx k List.mem_cons_self
    have n1 : l1.Nodup := by
      refine ih1 (fun j hj => (h.kid hj).1) ?_
      have : (a.kids k).Pairwise fun p q => p ≠ q := h.nd k
      refine (List.Pairwise.imp_of_mem ?_ this)
      intro p q hp hq hne
      have g : ∀ p q, p ∈ a.kids k → q ∈ a.kids k → p ≠ q → ¬ Dn a.par p q := by
        intro p q hp hq hne hd
        cases hd with
        | refl => exact hne rfl
        | @step _ z hz hd =>
          have hz' := (h.kid hq).2
          have : z = k := by omega
          subst this
          exact h.acyc (h.kid hp).1 (h.kid hp).2 hd
      exact ⟨g p q hp hq hne, g q p hq hp (Ne.symm hne)⟩
    have n2 : l2.Nodup := ih2 (fun j hj => hx j (List.mem_cons_of_mem _ hj)) hn.2
    rw [List.nodup_cons, List.nodup_append]
    refine ⟨?_, n1, n2, ?_⟩
    · intro hm
      rcases List.mem_append.1 hm with hm | hm
      · obtain ⟨j, hj, hd⟩ := h1.above h.kidpar k hm
        exact h.acyc (h.kid hj).1 (h.kid hj).2 hd
      · obtain ⟨j, hj, hd⟩ := h2.above h.kidpar k hm
        exact (hn.1 j hj).2 hd
    · intro y hy z hz e
      subst e
      obtain ⟨j, hj, hd⟩ := h1.above h.kidpar y hy
      obtain ⟨j2, hj2, hd2⟩ := h2.above h.kidpar y hz
      have hd' : Dn a.par k y := Dn.trans (.step (h.kid hj).2 .refl) hd
      rcases Dn.linear hd' hd2 with e | e
      · exact (hn.1 j2 hj2).1 e
      · exact (hn.1 j2 hj2).2 e
theorem WF.nodup1 (h : WF a) {s : Nat} {l : List Nat} (hp : Pre a.kids [s] l) (hs : a.live s = true) : l.Nodup :=
  h.nodup_pre hp (fun k hk => by simp at hk; subst hk; exact hs) (List.pairwise_singleton _ _)
end

/-! ### rows of different small numbers -/
theorem nodup_le : ∀ (n : Nat) (l : List Nat), l.Nodup → (∀ x ∈ l, x < n) → l.length ≤ n
  | 0, l, _, h => by
    cases l with
    | nil => simp
    | cons x r => exact absurd (h x List.mem_cons_self) (by omega)
  | n + 1, l, hn, h => by
    have h1 : (l.erase n).length ≤ n := nodup_le n (l.erase n) (hn.erase n) fun x hx => by
      have hm := (hn.mem_erase_iff).1 hx
      have := h x hm.2
      omega
    have h2 := List.length_erase (a := n) (l := l)
    split at h2 <;> omega
theorem nodup_sub : ∀ (l m : List Nat), l.Nodup → (∀ x ∈ l, x ∈ m) → l.length ≤ m.length
  | [], _, _, _ => by simp
  | x :: r, m, hn, h => by
    rw [List.nodup_cons] at hn
    have hx := h x List.mem_cons_self
    have h1 := nodup_sub r (m.erase x) hn.2 fun y hy => (List.mem_erase_of_ne (fun (e : y = x) => hn.1 (by rw [← e]; exact hy))).2 (h y (List.mem_cons_of_mem _ hy))
    have h2 := List.length_erase_of_mem hx
    have h3 := List.length_pos_of_mem hx
    simp
    omega
theorem nodup_split {n : Nat} {p : Nat → Bool} : ∀ {l m : List Nat}, l.Nodup → m.Nodup → (∀ x, x ∈ l ↔ x < n ∧ p x = true) → (∀ x, x ∈ m ↔ x < n ∧ p x = false) → l.length + m.length = n := by
  intro l m hl hm h1 h2
  have d : (l ++ m).Nodup := by
    rw [List.nodup_append]
    refine ⟨hl, hm, fun x hx y hy e => ?_⟩
    subst e
    have := ((h1 x).1 hx).2
    rw [((h2 x).1 hy).2] at this
    cases this
  have u : (l ++ m).length ≤ n := nodup_le n _ d fun x hx => by
    rcases List.mem_append.1 hx with hx | hx
    · exact ((h1 x).1 hx).1
    · exact ((h2 x).1 hx).1
  have v : (List.range n).length ≤ (l ++ m).length := by
    refine nodup_sub _ _ List.nodup_range fun x hx => ?_
    have hx := List.mem_range.1 hx
    cases e : p x with
    | true => exact List.mem_append_left _ ((h1 x).2 ⟨hx, e⟩)
    | false => exact List.mem_append_right _ ((h2 x).2 ⟨hx, e⟩)
  simp at u v
  omega
/-! ### what is below a slot is there -/
inductive Dp (par : Nat → Int) : Nat → Nat → Prop
  | zero : Dp par 0 0
  | step {x p n : Nat} : par x = (p : Int) → Dp par p n → Dp par x (n + 1)
theorem Dn.depth {par : Nat → Int} {x : Nat} (h : Dn par 0 x) : ∃ n, Dp par x n := by
  induction h with
  | refl => exact ⟨0, .zero⟩
  | step hp _ ih =>
    obtain ⟨n, hn⟩ := ih
    exact ⟨n + 1, .step hp hn⟩
section
variable {a : Av}
theorem WF.chain (h : WF a) {x n : Nat} (hd : Dp a.par x n) : a.live x = true → ∃ c : List Nat, c.length = n + 1 ∧ c.Nodup ∧ ∀ y ∈ c, y < a.cnt ∧ Dn a.par y x := by
  induction hd with
  | zero => intro hx; exact ⟨[0], rfl, by simp, fun y hy => by simp at hy; subst hy; exact ⟨h.lt hx, .refl⟩⟩
  | @step x p n hp _ ih =>
    intro hx
    have hxp := (h.kids_iff hx).2 hp
    obtain ⟨c, h1, h2, h3⟩ := ih (h.owner hxp)
    refine ⟨x :: c, by simp [h1], ?_, ?_⟩
    · rw [List.nodup_cons]
      exact ⟨fun hm => h.acyc hx hp (h3 x hm).2, h2⟩
    · intro y hy
      rcases List.mem_cons.1 hy with rfl | hy
      · exact ⟨h.lt hx, .refl⟩
      · exact ⟨(h3 y hy).1, .step hp (h3 y hy).2⟩
theorem pre_all {kids : Nat → List Nat} : ∀ (x : List Nat), (∀ k ∈ x, ∃ l, Pre kids [k] l) → ∃ l, Pre kids x l
  | [], _ => ⟨[], .nil⟩
  | k :: r, h => by
    obtain ⟨l1, h1⟩ := h k List.mem_cons_self
    obtain ⟨l2, h2⟩ := pre_all r fun j hj => h j (List.mem_cons_of_mem _ hj)
    exact ⟨l1 ++ l2, h1.append h2⟩
theorem pre_one {kids : Nat → List Nat} {s : Nat} (h : ∃ l, Pre kids (kids s) l) : ∃ l, Pre kids [s] l := by
  obtain ⟨l, h⟩ := h
  exact ⟨_, .cons h .nil⟩
theorem WF.pre_fuel (h : WF a) : ∀ (m n x : Nat), Dp a.par x n → a.live x = true → a.cnt ≤ n + m → ∃ l, Pre a.kids [x] l
  | 0, n, x, hd, hx, hm => by
    obtain ⟨c, h1, h2, h3⟩ := h.chain hd hx
    have := nodup_le a.cnt c h2 fun y hy => (h3 y hy).1
    omega
  | m + 1, n, x, hd, hx, hm => by
    refine pre_one (pre_all _ fun k hk => ?_)
    exact WF.pre_fuel h m (n + 1) k (.step (h.kid hk).2 hd) (h.kid hk).1 (by omega)
theorem WF.pre (h : WF a) {s : Nat} (hs : a.live s = true) : ∃ l, Pre a.kids [s] l := by
  obtain ⟨n, hn⟩ := (h.top hs).depth
  exact h.pre_fuel a.cnt n s hn hs (by omega)
theorem WF.pre_len (h : WF a) {s : Nat} {l : List Nat} (hp : Pre a.kids [s] l) (hs : a.live s = true) : l.length ≤ a.cnt :=
  nodup_le _ _ (h.nodup1 hp hs) fun x hx => h.lt ((h.pre_iff hp hs x).1 hx).1
/-- all live ones, and all free ones -/
theorem WF.whole (h : WF a) {l : List Nat} (hp : Pre a.kids [0] l) : l.length + a.free.length = a.cnt :=
  nodup_split (p := a.live) (h.nodup1 hp h.root) h.fnd (fun x => by
    rw [h.pre_iff hp h.root]
    exact ⟨fun e => ⟨h.lt e.1, e.1⟩, fun e => ⟨e.2, h.top e.2⟩⟩) (fun x => h.fmem)
theorem WF.kids_len (h : WF a) (i : Nat) : (a.kids i).length ≤ a.cnt := nodup_le _ _ (h.nd i) fun x hx => h.lt (h.kid hx).1
theorem WF.free_len (h : WF a) : a.free.length ≤ a.cnt := nodup_le _ _ h.fnd fun x hx => (h.fmem.1 hx).1
end
end Go.Proofs.Ytiikakfdelkjhaa.Arn
