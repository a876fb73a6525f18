/- The program's walk over all nodes of a tree. -/
import Derived.Test.YtacmofhlbebonaaTreG
namespace Go.Proofs.Ytacmofhlbebonaa
open Go.RowKit Go.Shelf
set_option maxRecDepth 20000
attribute [local go_sem] Oper.semAt_some

def With (S : Blks) (b : Nat) : Blks := fun k => S k ∨ k = b
/-- the node that one has come to, and those behind it -/
def Cur (J : Blks → Way → World → Prop) (T0 : Blks) (b1 p : Nat) (td : Way) (k : Nat) (dv nv : Value) (w : World) : Prop :=
  (nv = .pointer none ∧ (∃ S, J S td w) ∧ k = 0) ∨
  ∃ (d : Nat) (E : Addr) (x : Nd) (s : Stk) (Sw : Blks) (pre : Way), dv = .int .i64 (d : Int) ∧ nv = .pointer (some E) ∧ td = pre ++ (d, x) :: todo s ∧ NodeAt (With T0 b1) w E x ∧ WalkAt (With T0 b1) Sw b1 w p s ∧ J (With Sw b1) pre w ∧
    s.length + (todo s).length ≤ 200000 ∧ k = (todo s).length + 1
theorem With.also {S : Blks} {b : Nat} {w w' : World} : ∀ k, With (Also S w w') b k → With S b k ∨ w.heap.size ≤ k := fun k hk => by
  rcases hk with (hk | hk) | hk
  · exact .inl (.inl hk)
  · exact .inr hk.1
  · exact .inl (.inr hk)
theorem nextV_len : ∀ (s : Stk) (d : Nat) (x : Nd) (s' : Stk), nextV s = some (d, x, s') → s'.length ≤ s.length + 1
  | [], d, x, s', h => by simp [nextV] at h
  | [] :: rest, d, x, s', h => by
    have := nextV_len rest d x s' (by simpa [nextV] using h)
    simp
    omega
  | (y :: r) :: rest, d, x, s', h => by
    simp only [nextV, Option.some.injEq, Prod.mk.injEq] at h
    obtain ⟨-, -, rfl⟩ := h
    simp
theorem cur_next {J : Blks → Way → World → Prop} {T0 Sw : Blks} {b1 p : Nat} {td pre : Way} {s : Stk} {w w' : World} {e : Ending} (hM : Minds J) (hJ : J (With Sw b1) pre w) (htd : td = pre ++ todo s) (hb : s.length + (todo s).length ≤ 200000)
    (h : NextPost (With T0 b1) Sw b1 w p s e w') : ∃ dv nv, e = .returned (.tuple #[dv, nv]) ∧ Cur J T0 b1 p td (todo s).length dv nv w' := by
  have hn := todo_next s
  have hl := nextV_len s
  unfold NextPost at h
  cases hs : nextV s with
  | none =>
    rw [hs] at h hn
    obtain ⟨rfl, rfl⟩ := h
    dsimp only at hn
    refine ⟨_, _, rfl, .inl ⟨rfl, ⟨With Sw b1, ?_⟩, by rw [hn]; rfl⟩⟩
    rw [htd, hn, List.append_nil]
    exact hJ
  | some y =>
    obtain ⟨d, x, s'⟩ := y
    rw [hs] at h hn
    have hl := hl d x s' hs
    obtain ⟨E, rfl, hN, hW, hF⟩ := h
    dsimp only at hn
    refine ⟨_, _, rfl, .inr ⟨d, E, x, s', Also Sw w w', pre, rfl, rfl, by rw [htd, hn], hN, hW, ?_, ?_, by rw [hn]; simp⟩⟩
    · exact hM _ _ _ _ _ hJ (hF.mono fun k _ h => .inl h) (fun k hk => by rcases hk with hk | hk; exact .inl (.inl hk); exact .inr hk) With.also
    · rw [hn] at hb
      simp at hb
      omega
theorem nodes_any (w : World) (id : Int) (leaf : Bool) (b x : Txt) (aA kA : Option Addr) (an ac kn kc : Nat) :
    Calls Try.prog 36 #[.agg #[.int .u64 id, .bool leaf, .string ⟨b.toArray⟩, .slice aA an ac, .string ⟨x.toArray⟩, .slice kA kn kc]] w fun e w' => e = .returned (.func (.func 46) #[] #[.pointer (some ⟨w.heap.size, 0, none⟩)]) ∧
      w' = w.alloc (.cells #[.int .u64 id, .bool leaf, .string ⟨b.toArray⟩, .slice aA an ac, .string ⟨x.toArray⟩, .slice kA kn kc] 26) := by
  go_enter Try.func36, Try.ntmps36
  go_wp2_with fail
  go_ret
  exact ⟨rfl, rfl⟩
theorem three_new (w : World) (a b c : Obj) : (((w.alloc a).alloc b).alloc c).heap[w.heap.size]? = some a ∧ (((w.alloc a).alloc b).alloc c).heap[w.heap.size + 1]? = some b ∧ (((w.alloc a).alloc b).alloc c).heap[w.heap.size + 2]? = some c := by
  have h := heap_alloc_new ((w.alloc a).alloc b) c
  rw [World.size_alloc, World.size_alloc] at h
  exact ⟨(heap_alloc_old _ _ _ (by simp; omega)).trans (two_first w a b), (heap_alloc_old _ _ _ (by simp)).trans (two_second w a b), h⟩
set_option maxHeartbeats 4000000 in
theorem goes_nodes (w0 : World) (T0 : Blks) (Bn : Nat) (t : Nd) (aA kA : Option Addr) (an ac kn kc : Nat) (hB : w0.heap[Bn]? = some (.cells (val6 t aA an ac kA kn kc) 26 (0, 0))) (hv : NodeV T0 w0 aA an ac kA kn kc t) (hT0 : ∀ k, T0 k → k < w0.heap.size) (hc : countV t ≤ 100000) :
    Goes Try.prog 46 #[.pointer (some ⟨Bn, 0, none⟩)] T0 (preV 0 t) w0 := by
  intro n l J Jx W hz ho hM hR h0
  have hBn : Bn < w0.heap.size := (Array.getElem?_eq_some_iff.1 hB).1
  have hBW := (ho Bn hBn).trans hB
  unfold val6 at hBW
  obtain ⟨c0, c1, c2, c3, c4, c5, cf⟩ := six_cells hBW
  have hvW := Lib.hid (hv.kept (T' := T0) (w' := W) (fun _ h => h) (fun k hk => ho k (hT0 k hk)))
  have hR' := Lib.hid hR
  have hM' := Lib.hid hM
  have h0' := Lib.hid h0
  have hT0' := Lib.hid (show ∀ k, T0 k → k < W.heap.size from fun k hk => Nat.lt_of_lt_of_le (hT0 k hk) hz)
  clear hR hM h0 hT0 ho hB hBW hv
  refine callsIn_of_wp Try.func46 rfl trivial ?_ rfl
  simp only [Try.ntmps46, List.size_toArray, List.length_cons, List.length_nil, Nat.reduceAdd, Nat.reduceSub, Array.replicate_succ, Array.replicate_zero, List.push_toArray, List.append_toArray, List.nil_append, List.cons_append]
  gi_wp2
  obtain ⟨W3, hW3⟩ : ∃ W3, W3 = ((W.alloc (.cells #[.int .u64 (t.id : Int), .bool t.leaf, .string ⟨t.label.toArray⟩, .slice aA an ac, .string ⟨t.text.toArray⟩, .slice kA kn kc] 26)).alloc (.cells #[.slice (some ⟨W.heap.size, 0, none⟩) 1 1] 24)).alloc (.cells #[.slice (some ⟨W.heap.size + 1, 0, none⟩) 1 1] 62) := ⟨_, rfl⟩
  rw [← hW3]
  obtain ⟨b1, hb1⟩ : ∃ b1, b1 = W.heap.size := ⟨_, rfl⟩
  have z3 : W3.heap.size = b1 + 3 := by rw [hW3, hb1]; simp
  obtain ⟨n1, n2, n3⟩ : W3.heap[b1]? = some (.cells #[.int .u64 (t.id : Int), .bool t.leaf, .string ⟨t.label.toArray⟩, .slice aA an ac, .string ⟨t.text.toArray⟩, .slice kA kn kc] 26 (0, 0)) ∧ W3.heap[b1 + 1]? = some (.cells #[.slice (some ⟨b1, 0, none⟩) 1 1] 24 (0, 0)) ∧ W3.heap[b1 + 2]? = some (.cells #[.slice (some ⟨b1 + 1, 0, none⟩) 1 1] 62 (0, 0)) := by
    rw [hW3, hb1]
    exact three_new W _ _ _
  have F3 : FrX (fun _ => False) W W3 := by rw [hW3]; exact (((FrX.refl _ W).alloc _).alloc _).alloc _
  rw [← hb1]
  clear hW3
  have hbW := Lib.hid hb1
  obtain ⟨d0, d1, d2, d3, d4, d5, -⟩ := six_cells n1
  have hw3 : WalkAt (With T0 b1) (fun k => k = b1 + 1 ∨ k = b1 + 2) b1 W3 (b1 + 2) [[t]] := by
    refine ⟨fun k hk => by omega, fun k hk hs => ?_, fun k hk => ?_, .inr rfl, b1 + 1, 1, 1, [.slice (some ⟨b1, 0, none⟩) 1 1], n3, rfl, ⟨rfl, .inr ⟨b1 + 1, 1, _, rfl, by omega, n2, Nat.le_refl _, by unfold maxLen; omega, rfl, rfl⟩⟩, .inl rfl, ?_⟩
    · rcases hk with hk | hk
      · have := hT0'.out k hk
        omega
      · omega
    · rcases hk with hk | hk
      · have := hT0'.out k hk
        omega
      · omega
    · intro d row hd
      match d, hd with
      | 0, hd =>
        injection hd with hd
        subst hd
        refine ⟨some ⟨b1, 0, none⟩, 1, 1, rfl, rfl, Nat.le_refl _, by unfold maxLen; omega, (fun h => by cases h), ?_⟩
        simp only [RowAt, and_true]
        refine ⟨⟨b1, 0, none⟩, aA, an, ac, kA, kn, kc, rfl, .inr rfl, ?_, hvW.out.kept (fun k hk => .inl hk) (fun k hk => F3.block k (hT0'.out k hk) (fun h => h))⟩
        exact ⟨d0, d1, d2, d3, d4, d5⟩
  have hJ3 : J (With (fun k => k = b1 + 1 ∨ k = b1 + 2) b1) [] W3 := hM'.out _ _ _ _ _ h0'.out F3 (fun k h => h.elim) (fun k hk => .inr (by rcases hk with (hk | hk) | hk <;> have := hbW.out <;> omega))
  have hlen0 : (todo [[t]]).length = countV t := by rw [todo_root, pre_len]
  have hT3 := hbW.out
  refine ⟨trivial, (callsIn_wide.2 (next_any W3 (With T0 b1) _ b1 (b1 + 2) [[t]] hw3 (by simp) (by omega))).mono ?_⟩
  intro e W4 hp
  obtain ⟨dv, nv, rfl, hcur⟩ := cur_next (td := preV 0 t) hM'.out hJ3 (by simp [todo_root]) (by rw [hlen0]; simp only [List.length_cons, List.length_nil]; omega) hp
  have hcur' := Lib.hid hcur
  clear hcur hp hJ3 hw3 n1 n2 n3 F3 d0 d1 d2 d3 d4 d5 c0 c1 c2 c3 c4 c5 cf hlen0 hT3 hb1
  gi_wp2
  gi_loopw [4, 5] (fun dv nv wr => ∃ k, Cur J T0 b1 (b1 + 2) (preV 0 t) k dv nv wr) (fun dv nv wr => leastOf (fun k => Cur J T0 b1 (b1 + 2) (preV 0 t) k dv nv wr))
  case atStart => exact ⟨_, hcur'.out⟩
  case round =>
    clear hcur'
    have hk := (leastOf_spec hrel).1
    generalize hk0 : leastOf (fun k => Cur J T0 b1 (b1 + 2) (preV 0 t) k u4 u5 wr) = k at hk
    have hk0' := Lib.hid hk0
    clear hk0 hrel
    rcases hk with ⟨rfl, ⟨S, hJ⟩, -⟩ | ⟨d, E, x, s, Sw, pre, rfl, rfl, htd, hN, hW, hJ, hb, hkk⟩
    · gi_wp2
      go_end0
      exact ⟨⟨_, rfl⟩, .inl ⟨S, hJ⟩⟩
    · have hpre : pre ++ [(d, x)] <+: preV 0 t := ⟨todo s, by rw [htd]; simp⟩
      have hown := hW.own
      have htold := hW.told
      have hwz : b1 < wr.heap.size := htold b1 (.inr rfl)
      obtain ⟨fn, tmps, assign, body, hy, hRd⟩ := hR'.out (With Sw b1) pre d E x wr hJ hpre (hN.kept (fun k hk => by rcases hk with hk | hk; exact .inl hk; exact .inr (.inr hk)) (fun _ _ => rfl)) (fun k hk => by rcases hk with hk | hk; exact (hown k hk).2; omega)
      unfold two at hy
      have hRd' := Lib.hid hRd
      have hW' := Lib.hid hW
      have htd' := Lib.hid htd
      have hb' := Lib.hid hb
      have hkk' := Lib.hid hkk
      clear hRd hW htd hb hkk hN hJ hpre hown htold
      gi_wp2
      refine hRd'.out.mono ?_
      rintro e W5 (⟨rfl, hJ5, hk5⟩ | ⟨rfl, hJx5⟩)
      · have hW5 := WalkAt.kept hW'.out hk5.1 (fun k hk => hk5.2 k (by rcases hk with (hk | hk) | hk; exact .inl hk; exact .inr (.inr hk); exact .inr (.inl hk)))
        have hb5 := hb'.out
        have hz5 := hk5.1
        gi_wp2
        refine ⟨trivial, (callsIn_wide.2 (next_any W5 (With T0 b1) _ b1 (b1 + 2) s hW5 (by omega) (by omega))).mono ?_⟩
        intro e W6 hp
        obtain ⟨dv2, nv2, rfl, hcur2⟩ := cur_next (td := preV 0 t) hM'.out hJ5 (by rw [htd'.out]; simp) hb'.out hp
        have hcur2' := Lib.hid hcur2
        clear hcur2 hp hJ5 hk5 hW5
        gi_wp2
        go_roundw
        case rel => exact ⟨_, hcur2'.out⟩
        case measure =>
          refine Nat.lt_of_le_of_lt ((leastOf_spec ⟨_, hcur2'.out⟩).2 _ hcur2'.out) ?_
          have h1 := hk0'.out
          have h2 := hkk'.out
          omega
      · have hJx5' := Lib.hid hJx5
        clear hJx5
        gi_wp2
        refine bodyPost_ret (results_none rfl _ _ _) rfl ?_
        exact ⟨⟨_, rfl⟩, .inr ⟨_, hJx5'.out⟩⟩
end Go.Proofs.Ytacmofhlbebonaa
