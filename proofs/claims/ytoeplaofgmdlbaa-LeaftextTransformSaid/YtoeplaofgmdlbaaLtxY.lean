/- The program's along. -/
import Derived.Test.YtoeplaofgmdlbaaLtxX
namespace Go.Proofs.Ytoeplaofgmdlbaa
open Go.RowKit
set_option maxRecDepth 20000
open Ltx (Pc)
set_option maxHeartbeats 2000000 in
theorem along_any (w : World) (S0 : Nat → Prop) (A B : Option Addr) (n c m k : Nat) (la lb : List Pc) (ha : PcsIn w A n (la.map ipc)) (hb : PcsIn w B m (lb.map ipc)) (hn : n ≤ 100000) (hm : m ≤ 100000) (hsa : totP la ≤ 100000) (hsb : totP lb ≤ 100000)
    (F b0 : Nat) (fv : Array Value) (J : World → (Nat → Prop) → List St → List St → Prop) (hM : Meets F fv b0 J) (h0 : J w S0 (cutS (rowS (Ltx.norm la)) 0) (cutS (rowS (Ltx.norm lb)) 0)) (hb0 : b0 ≤ w.heap.size) :
    Calls Try.prog 34 #[.slice A n c, .slice B m k, .func (.func F) #[] fv] w fun e w' => ∃ S, e = .returned (.tuple #[]) ∧ J w' S [] [] ∧ (∀ k, S k → S0 k ∨ w.heap.size ≤ k) ∧ FrX S0 w w' := by
  have hta := Nat.le_trans (totP_norm la) hsa
  have htb := Nat.le_trans (totP_norm lb) hsb
  have hna := Nat.le_trans (normal_tot (Ltx.norm_normal la)) hta
  have hnb := Nat.le_trans (normal_tot (Ltx.norm_normal lb)) htb
  have ha' := Lib.hid ha
  have hb' := Lib.hid hb
  have hM' := Lib.hid hM
  have h0' := Lib.hid h0
  have hb0' := Lib.hid hb0
  have hnm : n ≤ maxLen := by unfold maxLen; omega
  have hmm : m ≤ maxLen := by unfold maxLen; omega
  clear ha hb hM h0 hb0
  go_enter Try.func34, Try.ntmps34
  go_wp2_with fail
  refine wp_scope_jumps 0 (fun a' w' => (∃ S, J w' S [] [] ∧ (∀ k, S k → S0 k ∨ w.heap.size ≤ k) ∧ FrX S0 w w') ∧ a'.defers = []) (fun _ _ => 0) rfl ?_ ?_
  · go_wp2_with fail
    refine (normal_any w A n c la ha'.out hnm hsa).mono ?_
    rintro e w1 ⟨v1, rfl, hv1, hb1⟩
    obtain ⟨A1, n1, k1, rfl, hn1, -, -, hP1, -⟩ := hv1.shape (low_of (by omega))
    have hn1' : n1 ≤ 100000 := by omega
    have hP1' := Lib.hid hP1
    have hb1' := Lib.hid hb1
    clear hv1 hn1 hP1 hb1
    go_wp2_with fail
    refine (row_any w1 A1 n1 k1 (Ltx.norm la) hP1'.out hn1').mono ?_
    rintro e w2 ⟨P1, S1, rfl, hR1, hb2⟩
    have hR1' := Lib.hid hR1
    have hb2' := Lib.hid hb2
    clear hR1 hb2
    go_wp2_with fail
    refine (normal_any w2 B m k lb ((hb'.out.below hb1'.out).below hb2'.out) hmm hsb).mono ?_
    rintro e w3 ⟨v3, rfl, hv3, hb3⟩
    obtain ⟨A3, n3, k3, rfl, hn3, -, -, hP3, -⟩ := hv3.shape (low_of (by omega))
    have hn3' : n3 ≤ 100000 := by omega
    have hP3' := Lib.hid hP3
    have hb3' := Lib.hid hb3
    clear hv3 hn3 hP3 hb3
    go_wp2_with fail
    refine (row_any w3 A3 n3 k3 (Ltx.norm lb) hP3'.out hn3').mono ?_
    rintro e w4 ⟨P2, S2, rfl, hR2, hb4⟩
    have hR2' := Lib.hid hR2
    have hb4' := Lib.hid hb4
    clear hR2 hb4
    go_wp2_with fail
    have hMem := Lib.hid (show Mem w w4 S0 J P1 P2 (rowS (Ltx.norm la)) (rowS (Ltx.norm lb)) (cutS (rowS (Ltx.norm la)) 0) (cutS (rowS (Ltx.norm lb)) 0) from by
      have s1 := hb1'.out.size
      have s2 := hb2'.out.size
      have s3 := hb3'.out.size
      have s4 := hb4'.out.size
      have b1 : Below w.heap.size w w4 := ((hb1'.out.trans (hb2'.out.mono s1)).trans (hb3'.out.mono (by omega))).trans (hb4'.out.mono (by omega))
      have b2 : Below w2.heap.size w2 w4 := hb3'.out.trans (hb4'.out.mono s3)
      refine ⟨S1, S2, S0, (hR1'.out.below b2).low s1, hR2'.out.low (by omega), hM'.out.kept h0'.out b1.size (fun k hk => b1.block k (hM'.out.lt h0'.out k hk)), fun k hk => ⟨fun e => ?_, fun e => ?_⟩, fun k hk e => ?_, fun k hk => .inl hk, FrX.of_below b1⟩
      · have := (hR1'.out.own k hk).2
        have := (hR2'.out.own k e).1
        omega
      · have := (hR1'.out.own k hk).1
        have := hM'.out.lt h0'.out k e
        omega
      · have := (hR2'.out.own k hk).1
        have := hM'.out.lt h0'.out k e
        omega)
    clear hta htb hna hnb hn1' hn3' hnm hmm
    go_loopg [8, 9] (szS (cutS (rowS (Ltx.norm la)) 0) + szS (cutS (rowS (Ltx.norm lb)) 0)) (fun gk d1 d2 wr => ∃ (sx sy : List St) (dA dB : Nat), d1 = .int .i64 (dA : Int) ∧ d2 = .int .i64 (dB : Int) ∧ Mem w wr S0 J P1 P2 sx sy (cutS sx dA) (cutS sy dB) ∧ (∀ s r, sx = s :: r → dA ≤ s.size) ∧ (∀ s r, sy = s :: r → dB ≤ s.size) ∧ (∀ s ∈ sx, s.size ≤ 1000000000) ∧ (∀ s ∈ sy, s.size ≤ 1000000000) ∧ gk = szS (cutS sx dA) + szS (cutS sy dB) ∧ dA ≤ 200000 ∧ dB ≤ 200000)
    case atStart =>
      have hz := hM'.out.sz h0'.out
      rw [szS_cut0, szS_cut0] at hz
      exact ⟨_, _, 0, 0, rfl, rfl, hMem.out, fun s r _ => Nat.zero_le _, fun s r _ => Nat.zero_le _, (fun s hs => by have := szS_mem hs; omega), (fun s hs => by have := szS_mem hs; omega), rfl, Nat.zero_le _, Nat.zero_le _⟩
    case round =>
      obtain ⟨sx, sy, dA, dB, rfl, rfl, hm, hdx, hdy, hzx, hzy, hgk, hdA, hdB⟩ := hrel
      have hm' := Lib.hid hm
      have hdx' := Lib.hid hdx
      have hdy' := Lib.hid hdy
      have hzx' := Lib.hid hzx
      have hzy' := Lib.hid hzy
      have hgk' := Lib.hid hgk
      clear hm hdx hdy hzx hzy hgk
      go_wp2_with fail
      refine (hm'.out.cut1 hM'.out dA hdx'.out hzx'.out).mono ?_
      rintro e w5 ⟨rfl, hm5⟩
      have hm5' := Lib.hid hm5
      clear hm5
      go_wp2_with fail
      refine (hm5'.out.cut2 hM'.out dB hdy'.out hzy'.out).mono ?_
      rintro e w6 ⟨rfl, hm6⟩
      have hm6' := Lib.hid hm6
      clear hm6
      obtain ⟨x, hx⟩ : ∃ x, x = cutS sx dA := ⟨_, rfl⟩
      obtain ⟨y, hy⟩ : ∃ y, y = cutS sy dB := ⟨_, rfl⟩
      rw [← hx, ← hy] at hm6'
      rw [← hx, ← hy] at hgk'
      rw [← hx, ← hy]
      have hhx := Lib.hid (show Head x by rw [hx]; exact head_cut sx dA)
      have hhy := Lib.hid (show Head y by rw [hy]; exact head_cut sy dB)
      obtain ⟨a1, b1, t1, e1, n1x, n1y⟩ := headC_form x
      obtain ⟨a2, b2, t2, e2, n2x, n2y⟩ := headC_form y
      have e1' := Lib.hid e1
      have e2' := Lib.hid e2
      rw [show stepV (headC x) = .agg #[.int .u8 a1, .int .i64 b1, .string ⟨t1.toArray⟩] by rw [e1]; rfl, show stepV (headC y) = .agg #[.int .u8 a2, .int .i64 b2, .string ⟨t2.toArray⟩] by rw [e2]; rfl]
      clear hx hy e1 e2
      by_cases hx0 : x = []
      · by_cases hy0 : y = []
        · obtain rfl : a1 = 4 := n1x hx0
          obtain rfl : a2 = 4 := n2x hy0
          have hend := Lib.hid (show ∃ S, J w6 S [] [] ∧ (∀ k, S k → S0 k ∨ w.heap.size ≤ k) ∧ FrX S0 w w6 from by
            obtain ⟨S, hJ, hS⟩ := hm6'.out.ow
            rw [hx0, hy0] at hJ
            exact ⟨S, hJ, hS, hm6'.out.fr⟩)
          clear n1x n1y n2x n2y hx0 hy0
          go_wp2_with fail
          try go_step3
          obtain ⟨S, hJ, hS, hF⟩ := hend.out
          exact ⟨rfl, ⟨S, hM'.out.kept hJ (new2 _ _).size (fun k hk => (new2 _ _).block k (hM'.out.lt hJ k hk)), hS, (hF.alloc _).alloc _⟩, rfl⟩
        · obtain rfl : a1 = 4 := n1x hx0
          have h4 : ¬ a2 = 4 := n2y hy0
          have hne := Lib.hid (show x ≠ [] ∨ y ≠ [] from .inr hy0)
          clear n1x hx0 hy0
          clear n1y n2x n2y
          go_wp2_with fail
          rw [show (.agg #[.int .u8 4, .int .i64 b1, .string ⟨t1.toArray⟩] : Value) = stepV (headC x) by rw [e1'.out]; rfl, show (.agg #[.int .u8 a2, .int .i64 b2, .string ⟨t2.toArray⟩] : Value) = stepV (headC y) by rw [e2'.out]; rfl]
          rw [hM'.out.fn, Oper.upon_enter]
          refine ((hm6'.out.below hM'.out (new2 _ _)).meet hM'.out hhx.out hhy.out hne.out hb0'.out).mono ?_
          rintro e w8 ⟨q1, q2, rfl, hm8, hq1, hq2, hlt, hl1, hl2⟩
          have hm8' := Lib.hid hm8
          have hq1' := Lib.hid hq1
          have hq2' := Lib.hid hq2
          have hlt' := Lib.hid hlt
          clear hm8 hq1 hq2 hlt
          go_wp2_with fail
          go_roundg (szS (cutS x q1) + szS (cutS y q2))
          case measure => have := hlt'.out; have := hgk'.out; omega
          case rel =>
            have hz := hm6'.out.ow
            obtain ⟨S, hJ, _⟩ := hz
            have hz := hM'.out.sz hJ
            exact ⟨x, y, q1, q2, rfl, rfl, hm8'.out, hq1'.out, hq2'.out, (fun s hs => by have := szS_mem hs; omega), (fun s hs => by have := szS_mem hs; omega), rfl, hl1, hl2⟩
      · have h4 : ¬ a1 = 4 := n1y hx0
        have hne := Lib.hid (show x ≠ [] ∨ y ≠ [] from .inl hx0)
        clear hx0
        clear n1x n1y n2x n2y
        go_wp2_with fail
        rw [show (.agg #[.int .u8 a1, .int .i64 b1, .string ⟨t1.toArray⟩] : Value) = stepV (headC x) by rw [e1'.out]; rfl, show (.agg #[.int .u8 a2, .int .i64 b2, .string ⟨t2.toArray⟩] : Value) = stepV (headC y) by rw [e2'.out]; rfl]
        rw [hM'.out.fn, Oper.upon_enter]
        refine ((hm6'.out.below hM'.out (new2 _ _)).meet hM'.out hhx.out hhy.out hne.out hb0'.out).mono ?_
        rintro e w8 ⟨q1, q2, rfl, hm8, hq1, hq2, hlt, hl1, hl2⟩
        have hm8' := Lib.hid hm8
        have hq1' := Lib.hid hq1
        have hq2' := Lib.hid hq2
        have hlt' := Lib.hid hlt
        clear hm8 hq1 hq2 hlt
        go_wp2_with fail
        go_roundg (szS (cutS x q1) + szS (cutS y q2))
        case measure => have := hlt'.out; have := hgk'.out; omega
        case rel =>
          have hz := hm6'.out.ow
          obtain ⟨S, hJ, _⟩ := hz
          have hz := hM'.out.sz hJ
          exact ⟨x, y, q1, q2, rfl, rfl, hm8'.out, hq1'.out, hq2'.out, (fun s hs => by have := szS_mem hs; omega), (fun s hs => by have := szS_mem hs; omega), rfl, hl1, hl2⟩
  · rintro a' w' ⟨⟨S, h1, h2, h3⟩, h4⟩
    obtain ⟨tm, df⟩ := a'
    simp only at h4
    subst h4
    go_wp2_with fail
    simp only [Exit.jump]
    exact bodyPost_end (results_none rfl _ _ _) rfl ⟨S, rfl, h1, h2, h3⟩
end Go.Proofs.Ytoeplaofgmdlbaa
