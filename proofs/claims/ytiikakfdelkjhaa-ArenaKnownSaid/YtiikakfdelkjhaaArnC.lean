/- A copy of data; a slot's data, children, parent; the free ones: the program's. -/
import Derived.Test.YtiikakfdelkjhaaArnA
import Derived.Test.YtiikakfdelkjhaaArnB
namespace Go.Proofs.Ytiikakfdelkjhaa.Arn
open Go.RowKit
set_option maxRecDepth 20000

theorem two_new {w : World} (o1 o2 : Obj) (k : Nat) (h : k < w.heap.size) : ((w.alloc o1).alloc o2).heap[k]? = w.heap[k]? :=
  (Go.heap_alloc_old _ _ (by simp; omega)).trans (Go.heap_alloc_old _ _ h)
theorem two_first (w : World) (o1 o2 : Obj) : ((w.alloc o1).alloc o2).heap[w.heap.size]? = some o1 := (Go.heap_alloc_old _ _ (by simp)).trans (heap_alloc_new w o1)
theorem two_second (w : World) (o1 o2 : Obj) : ((w.alloc o1).alloc o2).heap[w.heap.size + 1]? = some o2 := by
  have h := heap_alloc_new (w.alloc o1) o2
  rw [World.size_alloc] at h
  exact h
theorem five_cells {w : World} {g : Nat} {a0 a1 a2 a3 a4 : Value} {t : TypeId} (h : w.heap[g]? = some (.cells #[a0, a1, a2, a3, a4] t (0, 0))) :
    w.cell? ⟨g, 0, none⟩ = some a0 ∧ w.cell? ⟨g, 1, none⟩ = some a1 ∧ w.cell? ⟨g, 2, none⟩ = some a2 ∧ w.cell? ⟨g, 3, none⟩ = some a3 ∧ w.cell? ⟨g, 4, none⟩ = some a4 ∧ ∀ o, w.frozen? ⟨g, o, none⟩ = false :=
  ⟨cell_of_row w g 0 _ _ _ h, cell_of_row w g 1 _ _ _ h, cell_of_row w g 2 _ _ _ h, cell_of_row w g 3 _ _ _ h, cell_of_row w g 4 _ _ _ h, fun o => frozen_of_row w g o _ _ h⟩
/-- data as a value -/
def datV (d : Dt) (aA : Option Addr) (an ac : Nat) : Value := .agg #[.int .u64 (d.id : Int), .bool d.leaf, .string ⟨d.label.toArray⟩, .slice aA an ac, .string ⟨d.text.toArray⟩]
/-- new since w -/
def New (w w' : World) (k : Nat) : Prop := w.heap.size ≤ k ∧ k < w'.heap.size
set_option maxHeartbeats 4000000 in
theorem copied_any (w : World) (T : Nat → Prop) (d : Dt) (aA : Option Addr) (an ac : Nat) (h : DatOk T w d aA an ac) (hT : ∀ k, T k → k < w.heap.size) :
    Calls Try.prog 43 #[datV d aA an ac] w fun e w' => ∃ A c, e = .returned (datV d A an c) ∧ DatOk (New w w') w' d A an c ∧ Below w.heap.size w w' := by
  have h' := Lib.hid h
  have hT' := Lib.hid hT
  have f2 := Lib.hid h.anil
  have f3 := h.anc
  have hn := h.few
  clear h hT
  unfold datV
  obtain ⟨d0, hd⟩ : ∃ d0, d0 = d := ⟨_, rfl⟩
  have hd' := Lib.hid hd
  have f1 := Lib.hid h'.out.ats
  rw [← hd] at h' f1
  clear hd
  generalize hid : d.id = id
  generalize hlf : d.leaf = leaf
  generalize hlb : d.label = b
  generalize htx : d.text = x
  clear hid hlf hlb htx
  go_enter Try.func43, Try.ntmps43
  go_wp2_with (at_builtin; refine wpList_append_ats rfl (.const (.slice none 0 0)) (.tmp 4) rfl T aA an ac d0.attrs rfl rfl (AtsIn.kept (w := w) (fun _ h => h) (fun k hk => two_new _ _ _ (hT'.out k hk)) f1.out) f2.out f3 hn ?_; intro A1 c1 w1 hat hc hm hz hb; have B1 := (hb.block w.heap.size (by simp; omega)).trans (two_first w _ _); have R1 := (hb.block (w.heap.size + 1) (by simp)).trans (two_second w _ _); obtain ⟨d0, d1, d2, d3, d4, df⟩ := five_cells B1; obtain ⟨r0, r1, r2, r3, r4, rf⟩ := five_cells R1; have B1' := Lib.hid B1; have R1' := Lib.hid R1; clear B1 R1; have hs1 : w.heap.size + 1 < w1.heap.size := (by have := hb.size; simp at this; omega); have H1 := Lib.hid hat; have H2 := Lib.hid hc; have H3 := Lib.hid hm; have H4 := Lib.hid hz; have H5 := Lib.hid hb; clear hat hc hm hz hb)
  refine bodyPost_ret (v := .agg #[.int .u64 (id : Int), .bool leaf, .string ⟨b.toArray⟩, .slice A1 an c1, .string ⟨x.toArray⟩]) (by simp [results, Try.results43, go_sem, r0, r1, r2, r3, r4]) rfl ?_
  obtain ⟨W7, hW7⟩ : ∃ W7, W7 = ((((((w1.setCell ⟨w.heap.size, 3, none⟩ (.slice A1 an c1)).setCell ⟨w.heap.size + 1, 0, none⟩ (.int .u64 (id : Int))).setCell ⟨w.heap.size + 1, 1, none⟩ (.bool leaf)).setCell ⟨w.heap.size + 1, 2, none⟩ (.string ⟨b.toArray⟩)).setCell ⟨w.heap.size + 1, 3, none⟩ (.slice A1 an c1)).setCell ⟨w.heap.size + 1, 4, none⟩ (.string ⟨x.toArray⟩)) := ⟨_, rfl⟩
  rw [← hW7]
  have z7 : W7.heap.size = w1.heap.size := by rw [hW7]; simp
  have o7 : ∀ k, k ≠ w.heap.size → k ≠ w.heap.size + 1 → W7.heap[k]? = w1.heap[k]? := fun k n1 n2 => by
    rw [hW7]
    exact (heap_setCell_other _ _ k _ n2).trans ((heap_setCell_other _ _ k _ n2).trans ((heap_setCell_other _ _ k _ n2).trans ((heap_setCell_other _ _ k _ n2).trans ((heap_setCell_other _ _ k _ n2).trans (heap_setCell_other _ _ k _ n1)))))
  have b7 : Below w.heap.size w W7 := by
    rw [hW7]
    have b1 : Below w.heap.size w w1 := (((Below.refl w.heap.size w).alloc (Nat.le_refl _) _).alloc (by simp) _).trans (H5.out.mono (by simp; omega))
    exact (((((b1.setCell (Nat.le_refl _) _).setCell (by simp) _).setCell (by simp) _).setCell (by simp) _).setCell (by simp) _).setCell (by simp) _
  clear hW7
  have g1 := H1.out
  have hW0 : ((w.alloc (.cells #[.int .u64 (id : Int), .bool leaf, .string ⟨b.toArray⟩, .slice aA an ac, .string ⟨x.toArray⟩] 25)).alloc (.cells #[.int .u64 0, .bool false, .string ⟨#[]⟩, .slice none 0 0, .string ⟨#[]⟩] 25)).heap.size = w.heap.size + 2 := by simp
  rw [hW0] at g1
  have hdat := h'.out
  rw [← hd'.out]
  exact ⟨A1, c1, rfl, ⟨hdat.id, hdat.label, hdat.text, AtsIn.kept (w := w1) (fun k hk => ⟨by omega, by rw [z7]; exact hk.2⟩) (fun k hk => o7 k (by omega) (by omega)) g1, H2.out, H3.out, H4.out, hn⟩, b7⟩
/-- a slice of n numbers at A reads as l -/
def Ns (w : World) (A : Option Addr) (n : Nat) (l : List Nat) : Prop := l.length = n ∧ ∀ (k x : Nat), l[k]? = some x → ∃ ad : Addr, A = some ad ∧ ad.block < w.heap.size ∧ w.cell? (ad.add k) = some (natV x)
theorem OwnN.ns {w : World} {A : Option Addr} {n c : Nat} {l : List Nat} (h : OwnN w (.slice A n c) l) : Ns w A n l := by
  refine ⟨h.blk.1.symm, fun k x hk => ?_⟩
  obtain ⟨g, rfl, hc⟩ := h.at_ hk
  exact ⟨⟨g, 0, none⟩, rfl, World.block_lt_of_cell? w ⟨g, k, none⟩ hc, by rw [add_zero_off]; exact hc⟩
theorem Ns.kept {w w' : World} {A : Option Addr} {n : Nat} {l : List Nat} (h : Ns w A n l) (hs : w.heap.size ≤ w'.heap.size) (hk : ∀ ad, A = some ad → w'.heap[ad.block]? = w.heap[ad.block]?) : Ns w' A n l := by
  refine ⟨h.1, fun k x hx => ?_⟩
  obtain ⟨ad, e, hlt, hc⟩ := h.2 k x hx
  exact ⟨ad, e, Nat.lt_of_lt_of_le hlt hs, (World.cell?_of_block (w := w) (w' := w') (a := ad.add k) (by rw [block_add]; exact hk ad e)).trans hc⟩
theorem Ns.below {w w' : World} {A : Option Addr} {n : Nat} {l : List Nat} (h : Ns w A n l) (hb : Below w.heap.size w w') : Ns w' A n l := by
  refine ⟨h.1, fun k x hx => ?_⟩
  obtain ⟨ad, e, hlt, hc⟩ := h.2 k x hx
  exact ⟨ad, e, Nat.lt_of_lt_of_le hlt hb.size, (hb.cell (p := ad.add k) (by rw [block_add]; exact hlt)).trans hc⟩
theorem Try.info3 : (Try.prog.info? 3).map (fun i => (i.zero, i.size, i.bytes)) = some (some (.int .i64 0), 1, 8) := by kernel_rfl
theorem OwnN.nil_ (w : World) : OwnN w (.slice none 0 0) [] := World.ownsRow_nil w 0 _ _
theorem OwnN.kept {w w' : World} {A : Option Addr} {n c : Nat} {l : List Nat} (h : OwnN w (.slice A n c) l) (hk : ∀ ad, A = some ad → w'.heap[ad.block]? = w.heap[ad.block]?) : OwnN w' (.slice A n c) l :=
  own_kept h fun k e => by
    cases A with
    | none => cases e
    | some ad => injection e with e; rw [← e]; exact hk ad rfl
/-- the block of a row -/
theorem own_block {A : Option Addr} {n c k : Nat} (h : (Value.slice A n c).ownBlock = some k) : Lies A k := by
  cases A with
  | none => cases h
  | some ad => injection h with h; exact ⟨ad, rfl, h.symm⟩
/-- append(v, x..), v a row of one's own -/
theorem wpList_append_ns {w : World} {ops : Array Oper} {rest : List Oper} {o : Oper} {a : Act} {Q : Exit → Act → World → Prop} (hgd : o.guard = none) (s x : Operand)
    (ho : o.op = .call { callee := .builtin .append, args := #[s, x], argTypes := #[33, 33] })
    (A0 : Option Addr) (n0 c0 : Nat) (xs ys : List Nat) (hs : a.eval s = .slice A0 n0 c0) (hown : OwnN w (.slice A0 n0 c0) xs)
    (A : Option Addr) (m c : Nat) (hx : a.eval x = .slice A m c) (hB : Ns w A m ys) (hnil : A = none → c = 0) (hlen : n0 + m ≤ 1000000)
    (h : ∀ A' c' w', OwnN w' (.slice A' (n0 + m) c') (xs ++ ys) → FrX (Lies A0) w w' → (∀ ad, A' = some ad → A0 = some ad ∨ ad.block = w.heap.size) → n0 + m ≤ c' → c' ≤ maxLen → (A' = none → c' = 0) → wpList Try.prog ops Q rest (a.put o.dst (.slice A' (n0 + m) c')) w') :
    wpList Try.prog ops Q (o :: rest) a w := by
  obtain ⟨i0, hi, hz0, hz1, hz2⟩ := info_parts Try.info3
  have hl0 := hown.blk.1
  obtain rfl := hB.1
  cases A with
  | none =>
    obtain rfl := hnil rfl
    have hy : ys = [] := by
      cases ys with
      | nil => rfl
      | cons y r => obtain ⟨ad, e, _⟩ := hB.2 0 y rfl; cases e
    subst hy
    refine wpList_append_own_none hgd s x _ ho 0 3 i0 1 Try.underlying33 hi _ _ _ hs hown hx ?_
    have := hown.blk
    exact h A0 c0 w (by rw [List.append_nil]; exact hown) (FrX.refl _ _) (fun ad e => .inl e) this.2.1 this.2.2.1 this.2.2.2.1
  | some ad =>
    refine wpList_append_own_at w hgd s x _ ho 0 3 i0 (.int .i64 0) 1 8 Try.underlying33 hi hz0 hz1 hz2 rfl (by omega) _ xs.length (nums xs) hs hown ad ys.length c (nums ys) hx (by rw [nums_len]; omega)
      (fun j u hj => ?_) (nums_one ys) (by unfold maxLen; omega) (by omega) (Nat.zero_le _) ?_
    · rw [nums_get] at hj
      cases hk : ys[j]? with
      | none => rw [hk] at hj; cases hj
      | some d =>
        rw [hk] at hj
        simp only [Option.map_some, Option.some.injEq] at hj
        obtain ⟨ad', e, _, hc⟩ := hB.2 j d hk
        cases Option.some.inj e
        rw [← hj]
        exact hc
    · intro v' w' hown' hgrow _ hat
      obtain ⟨A', c', rfl, h1, h2, h3, _⟩ := own_form hown'
      have hown2 : OwnN w' (.slice A' (n0 + ys.length) c') (xs ++ ys) := by
        unfold OwnN
        rw [List.length_append, nums_app, hl0]
        exact hown'
      rw [← hl0] at h1 ⊢
      refine h A' c' w' hown2 (FrX.of_grown hgrow fun k e => own_block e) (fun ad2 e2 => ?_) h1 h2 h3
      subst e2
      rcases hat with e | e
      · obtain ⟨ad3, e3, e4⟩ := own_block e.symm
        obtain ⟨_, _, _, _, hb1⟩ := hown.blk
        obtain ⟨g, cur, rfl, _⟩ := hb1 ad3 e3
        obtain ⟨_, _, _, _, hb2⟩ := hown2.blk
        obtain ⟨g2, cur2, rfl, _⟩ := hb2 ad2 rfl
        left
        rw [e3]
        have e5 : g2 = g := e4
        rw [e5]
      · right
        injection e
def kidsI (a : Av) (i : Int) : List Nat := if liveI a i then a.kids i.toNat else []
def datI (a : Av) (i : Int) : Dt := if liveI a i then a.dat i.toNat else Dt.zero
def parI (a : Av) (i : Int) : Int := if liveI a i then a.par i.toNat else -1
section
variable {w : World} {ow : Nat → Role} {P : Nat} {a : Av} {B : Nat → Nat} {m : Nat} {sv : Nat → SV} {sA : Option Addr} {sc : Nat} {fA : Option Addr} {fc : Nat}
theorem PA.live_lt (h : PA w ow P a B m sv sA sc fA fc) {s : Nat} (hs : a.live s = true) : s < a.cnt ∧ s < m * 16 := by
  have hc : s < a.cnt := by
    rcases Nat.lt_or_ge s a.cnt with hc | hc
    · exact hc
    · rw [(h.zero s hc).1] at hs; cases hs
  exact ⟨hc, by have := h.room; omega⟩
theorem kids_any (h : PA w ow P a B m sv sA sc fA fc) (i : Int) : Calls Try.prog 19 #[.pointer (some ⟨P, 0, none⟩), .int .i64 i] w fun e w' => ∃ A c, e = .returned (.slice A (kidsI a i).length c) ∧ OwnN w' (.slice A (kidsI a i).length c) (kidsI a i) ∧ (∀ ad, A = some ad → w.heap.size ≤ ad.block) ∧ Below w.heap.size w w' := by
  have h' := Lib.hid h
  cases hlv : liveI a i with
  | false =>
    have hv := Lib.hid (show kidsI a i = [] by unfold kidsI; rw [hlv]; rfl)
    have hlv' := Lib.hid hlv
    clear h hlv
    go_enter Try.func19, Try.ntmps19
    go_wp2_with (refine (isLive_any h'.out i).mono ?_; rintro e w7 ⟨rfl, rfl⟩; rw [hlv'.out])
    go_ret
    rw [hv.out]
    exact ⟨none, 0, rfl, OwnN.nil_ _, fun ad e => (by cases e), Below.refl _ _⟩
  | true =>
    obtain ⟨s, rfl, hs⟩ := liveI_nat hlv
    have hm := (h.live_lt hs).2
    have hv := Lib.hid (show kidsI a (s : Int) = a.kids s by unfold kidsI; rw [hlv]; rfl)
    have hlv' := Lib.hid hlv
    have hm' := Lib.hid hm
    have c2 := (h.eight hm).2.2.1
    have hk := Lib.hid (h.kids s hm)
    have hks := Lib.hid (h.ksmall s)
    clear h hlv hm hs
    obtain ⟨kA, kn, kc, hkv⟩ : ∃ kA kn kc, kA = (sv s).kA ∧ kn = (sv s).kn ∧ kc = (sv s).kc := ⟨_, _, _, rfl, rfl, rfl⟩
    rw [← hkv.1, ← hkv.2.1, ← hkv.2.2] at c2
    have hk2 : Hid (OwnN w (.slice kA kn kc) (a.kids s) ∧ kn = (a.kids s).length) := Lib.hid (by rw [hkv.1, hkv.2.1, hkv.2.2]; exact ⟨hk.out.own, hk.out.len⟩)
    clear hkv hk
    go_enter Try.func19, Try.ntmps19
    go_wp2_with (first
      | (refine (isLive_any h'.out (s : Int)).mono ?_; rintro e w7 ⟨rfl, rfl⟩; rw [hlv'.out])
      | (refine (node_any h'.out hm'.out).mono ?_; rintro e w7 ⟨rfl, rfl⟩)
      | (at_builtin; refine wpList_append_ns rfl _ _ rfl none 0 0 [] (a.kids s) rfl (OwnN.nil_ _) kA kn kc rfl hk2.out.1.ns (hk2.out.1.blk.2.2.2.1) (by have := hk2.out.2; have := hks.out; omega) ?_; intro A1 c1 w1 g1 g2 g3 g4 g5 g6))
    go_ret
    rw [hv.out, ← hk2.out.2]
    refine ⟨A1, c1, rfl, by rw [Nat.zero_add] at g1; exact g1, fun ad e => ?_, g2.below (fun k hk => ?_) (Nat.le_refl _)⟩
    · rcases g3 ad e with e | e
      · cases e
      · omega
    · obtain ⟨ad, e, _⟩ := hk; cases e
theorem free_any (h : PA w ow P a B m sv sA sc fA fc) : Calls Try.prog 21 #[.pointer (some ⟨P, 0, none⟩)] w fun e w' => ∃ A c, e = .returned (.slice A a.free.length c) ∧ OwnN w' (.slice A a.free.length c) a.free ∧ (∀ ad, A = some ad → w.heap.size ≤ ad.block) ∧ Below w.heap.size w w' := by
  have h' := Lib.hid h
  have c2 := h.head_cells.2.2.1
  have hf := Lib.hid h.free
  have hs := h.fsmall
  clear h
  generalize hn : a.free.length = n at c2 hf hs ⊢
  go_enter Try.func21, Try.ntmps21
  go_wp2_with (at_builtin; refine wpList_append_ns rfl _ _ rfl none 0 0 [] a.free rfl (OwnN.nil_ _) fA n fc rfl hf.out.ns (hf.out.blk.2.2.2.1) (by omega) ?_; intro A1 c1 w1 g1 g2 g3 g4 g5 g6)
  go_ret
  refine ⟨A1, c1, rfl, by rw [Nat.zero_add] at g1; exact g1, fun ad e => ?_, g2.below (fun k hk => ?_) (Nat.le_refl _)⟩
  · rcases g3 ad e with e | e
    · cases e
    · omega
  · obtain ⟨ad, e, _⟩ := hk; cases e
theorem parent_any (h : PA w ow P a B m sv sA sc fA fc) (i : Int) : Calls Try.prog 20 #[.pointer (some ⟨P, 0, none⟩), .int .i64 i] w fun e w' => e = .returned (.int .i64 (parI a i)) ∧ w = w' := by
  have h' := Lib.hid h
  cases hlv : liveI a i with
  | false =>
    have hv := Lib.hid (show parI a i = -1 by unfold parI; rw [hlv]; rfl)
    have hlv' := Lib.hid hlv
    clear h hlv
    go_enter Try.func20, Try.ntmps20
    go_wp2_with (refine (isLive_any h'.out i).mono ?_; rintro e w7 ⟨rfl, rfl⟩; rw [hlv'.out])
    go_ret
    rw [hv.out]
    exact ⟨rfl, rfl⟩
  | true =>
    obtain ⟨s, rfl, hs⟩ := liveI_nat hlv
    have hm := (h.live_lt hs).2
    have hv := Lib.hid (show parI a (s : Int) = a.par s by unfold parI; rw [hlv]; rfl)
    have hlv' := Lib.hid hlv
    have hm' := Lib.hid hm
    have c1 := (h.eight hm).2.1
    clear h hlv hm hs
    go_enter Try.func20, Try.ntmps20
    go_wp2_with (first
      | (refine (isLive_any h'.out (s : Int)).mono ?_; rintro e w7 ⟨rfl, rfl⟩; rw [hlv'.out])
      | (refine (node_any h'.out hm'.out).mono ?_; rintro e w7 ⟨rfl, rfl⟩))
    go_ret
    rw [hv.out]
    exact ⟨rfl, rfl⟩
end
end Go.Proofs.Ytiikakfdelkjhaa.Arn
