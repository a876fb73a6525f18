/- Is an operation formed: the document's. -/
import Derived.Test.YtfaolhcacaeijaaMgAL
set_option linter.all false
namespace Go.Proofs.Ytfaolhcacaeijaa
open Go.RowKit
set_option maxRecDepth 20000
set_option linter.unusedVariables false

set_option maxHeartbeats 4000000 in
theorem rformed_any (w:World) (o:Ov) (s:OS) (h:OpIn w o s):Calls Try.prog 78 #[.agg (opCells o s)] w fun e w'=>e = .returned (.bool (formedV o))∧Below w.heap.size w w':=by
  have hal:=Lib.hid (fun o=>(Below.refl w.heap.size w).alloc (Nat.le_refl _) o)
  have hmay:=Lib.hid (fun W (hb:Below w.heap.size w W)=>P4.refMay_any W s.pA s.pn s.pc o.path (h.below hb).path (Nat.le_trans h.pnc h.pcm))
  have hmay2:=Lib.hid (fun W (hb:Below w.heap.size w W)=>P4.refMay_any W s.tA s.tn s.tc o.to_ (h.below hb).to_ (Nat.le_trans h.tnc h.tcm))
  have hrig:=Lib.hid (fun W (hb:Below w.heap.size w W)=>P5.rright_any W s.qA s.qn s.qc o.pieces (h.below hb).pieces (Nat.le_trans h.qnc h.qcm))
  have hkey:=Lib.hid (fun W=>rkey_any o.key W h.key)
  have hlm:=h.label
  have hvm:=h.value
  unfold maxLen at hlm hvm
  have hat:=h.at_
  clear h
  cases hm:P4.mayV o.path with
  | false =>
    have hm':=Lib.hid hm
    have hv:=Lib.hid (show formedV o = false by unfold formedV;rw [hm];rfl)
    clear hm
    unfold opCells
    go_enter Try.func78,Try.ntmps78
    go_wp2_with (first
      | (go_at_call 165;go_at_call_of 165 s.pA;refine (hmay.out _ (hal.out _)).mono ?_;rintro e w7 ⟨rfl,rfl⟩;rw [hm'.out]))
    go_ret
    exact ⟨by rw [hv.out] <;> first | rfl | simp [hlI] | simp,(hal.out _)⟩
  | true =>
    have hm':=Lib.hid hm
    by_cases k1:o.kind = 1
    · have kI:=Lib.hid k1
      have b1:((o.kind:Int) == 1) = true:=by simp;omega
      by_cases hl:o.label.length≤64
      · have hlI:(o.label.length:Int)≤64:=by omega
        by_cases g0:0≤o.at_
        · by_cases g1:o.at_≤1048576
          · have hgp:=Lib.hid (show gapB o.at_ = true from decide_eq_true ⟨g0,g1⟩)
            have hv:=Lib.hid (show formedV o = (gapB o.at_ && true) by unfold formedV lblB;rw [hm,if_pos k1,decide_eq_true hl];rfl)
            clear k1 hm hl
            unfold opCells
            go_enter Try.func78,Try.ntmps78
            go_wp2_with (first
              | (go_at_call 165;go_at_call_of 165 s.pA;refine (hmay.out _ (hal.out _)).mono ?_;rintro e w7 ⟨rfl,rfl⟩;rw [hm'.out]))
            go_ret
            exact ⟨by rw [hv.out,hgp.out] <;> first | rfl | simp [hlI] | simp,(hal.out _)⟩
          · have hgp:=Lib.hid (show gapB o.at_ = false from decide_eq_false fun h=>g1 h.2)
            have hv:=Lib.hid (show formedV o = (gapB o.at_ && true) by unfold formedV lblB;rw [hm,if_pos k1,decide_eq_true hl];rfl)
            clear k1 hm hl
            unfold opCells
            go_enter Try.func78,Try.ntmps78
            go_wp2_with (first
              | (go_at_call 165;go_at_call_of 165 s.pA;refine (hmay.out _ (hal.out _)).mono ?_;rintro e w7 ⟨rfl,rfl⟩;rw [hm'.out]))
            go_ret
            exact ⟨by rw [hv.out,hgp.out] <;> first | rfl | simp [hlI] | simp,(hal.out _)⟩
        · have hgp:=Lib.hid (show gapB o.at_ = false from decide_eq_false fun h=>g0 h.1)
          have hv:=Lib.hid (show formedV o = (gapB o.at_ && true) by unfold formedV lblB;rw [hm,if_pos k1,decide_eq_true hl];rfl)
          clear k1 hm hl
          unfold opCells
          go_enter Try.func78,Try.ntmps78
          go_wp2_with (first
            | (go_at_call 165;go_at_call_of 165 s.pA;refine (hmay.out _ (hal.out _)).mono ?_;rintro e w7 ⟨rfl,rfl⟩;rw [hm'.out]))
          go_ret
          exact ⟨by rw [hv.out,hgp.out] <;> first | rfl | simp [hlI] | simp,(hal.out _)⟩
      · have hlI:¬ (o.label.length:Int)≤64:=by omega
        by_cases g0:0≤o.at_
        · by_cases g1:o.at_≤1048576
          · have hgp:=Lib.hid (show gapB o.at_ = true from decide_eq_true ⟨g0,g1⟩)
            have hv:=Lib.hid (show formedV o = (gapB o.at_ && false) by unfold formedV lblB;rw [hm,if_pos k1,decide_eq_false hl];rfl)
            clear k1 hm hl
            unfold opCells
            go_enter Try.func78,Try.ntmps78
            go_wp2_with (first
              | (go_at_call 165;go_at_call_of 165 s.pA;refine (hmay.out _ (hal.out _)).mono ?_;rintro e w7 ⟨rfl,rfl⟩;rw [hm'.out]))
            go_ret
            exact ⟨by rw [hv.out,hgp.out] <;> first | rfl | simp [hlI] | simp,(hal.out _)⟩
          · have hgp:=Lib.hid (show gapB o.at_ = false from decide_eq_false fun h=>g1 h.2)
            have hv:=Lib.hid (show formedV o = (gapB o.at_ && false) by unfold formedV lblB;rw [hm,if_pos k1,decide_eq_false hl];rfl)
            clear k1 hm hl
            unfold opCells
            go_enter Try.func78,Try.ntmps78
            go_wp2_with (first
              | (go_at_call 165;go_at_call_of 165 s.pA;refine (hmay.out _ (hal.out _)).mono ?_;rintro e w7 ⟨rfl,rfl⟩;rw [hm'.out]))
            go_ret
            exact ⟨by rw [hv.out,hgp.out] <;> first | rfl | simp [hlI] | simp,(hal.out _)⟩
        · have hgp:=Lib.hid (show gapB o.at_ = false from decide_eq_false fun h=>g0 h.1)
          have hv:=Lib.hid (show formedV o = (gapB o.at_ && false) by unfold formedV lblB;rw [hm,if_pos k1,decide_eq_false hl];rfl)
          clear k1 hm hl
          unfold opCells
          go_enter Try.func78,Try.ntmps78
          go_wp2_with (first
            | (go_at_call 165;go_at_call_of 165 s.pA;refine (hmay.out _ (hal.out _)).mono ?_;rintro e w7 ⟨rfl,rfl⟩;rw [hm'.out]))
          go_ret
          exact ⟨by rw [hv.out,hgp.out] <;> first | rfl | simp [hlI] | simp,(hal.out _)⟩
    · skip
      by_cases k2:o.kind = 2
      · have kI:=Lib.hid k2
        have b1:((o.kind:Int) == 1) = false:=by simp;omega
        have b2:((o.kind:Int) == 2) = true:=by simp;omega
        by_cases g0:0≤o.at_
        · by_cases g1:o.at_≤1048576
          · have hgp:=Lib.hid (show gapB o.at_ = true from decide_eq_true ⟨g0,g1⟩)
            have hv:=Lib.hid (show formedV o = true by unfold formedV;rw [hm,if_neg k1,if_pos k2];rfl)
            clear k1 k2 hm
            unfold opCells
            go_enter Try.func78,Try.ntmps78
            go_wp2_with (first
              | (go_at_call 165;go_at_call_of 165 s.pA;refine (hmay.out _ (hal.out _)).mono ?_;rintro e w7 ⟨rfl,rfl⟩;rw [hm'.out]))
            go_ret
            exact ⟨by rw [hv.out] <;> first | rfl | simp [hlI] | simp,(hal.out _)⟩
          · have hgp:=Lib.hid (show gapB o.at_ = false from decide_eq_false fun h=>g1 h.2)
            have hv:=Lib.hid (show formedV o = true by unfold formedV;rw [hm,if_neg k1,if_pos k2];rfl)
            clear k1 k2 hm
            unfold opCells
            go_enter Try.func78,Try.ntmps78
            go_wp2_with (first
              | (go_at_call 165;go_at_call_of 165 s.pA;refine (hmay.out _ (hal.out _)).mono ?_;rintro e w7 ⟨rfl,rfl⟩;rw [hm'.out]))
            go_ret
            exact ⟨by rw [hv.out] <;> first | rfl | simp [hlI] | simp,(hal.out _)⟩
        · have hgp:=Lib.hid (show gapB o.at_ = false from decide_eq_false fun h=>g0 h.1)
          have hv:=Lib.hid (show formedV o = true by unfold formedV;rw [hm,if_neg k1,if_pos k2];rfl)
          clear k1 k2 hm
          unfold opCells
          go_enter Try.func78,Try.ntmps78
          go_wp2_with (first
            | (go_at_call 165;go_at_call_of 165 s.pA;refine (hmay.out _ (hal.out _)).mono ?_;rintro e w7 ⟨rfl,rfl⟩;rw [hm'.out]))
          go_ret
          exact ⟨by rw [hv.out] <;> first | rfl | simp [hlI] | simp,(hal.out _)⟩
      · skip
        by_cases k3:o.kind = 3
        · have kI:=Lib.hid k3
          have b1:((o.kind:Int) == 1) = false:=by simp;omega
          have b2:((o.kind:Int) == 2) = false:=by simp;omega
          have b3:((o.kind:Int) == 3) = true:=by simp;omega
          by_cases g0:0≤o.at_
          · by_cases g1:o.at_≤1048576
            · have hgp:=Lib.hid (show gapB o.at_ = true from decide_eq_true ⟨g0,g1⟩)
              have hv:=Lib.hid (show formedV o = (gapB o.at_ && P4.mayV o.to_) by unfold formedV;rw [hm,if_neg k1,if_neg k2,if_pos k3];rfl)
              clear k1 k2 k3 hm
              unfold opCells
              go_enter Try.func78,Try.ntmps78
              go_wp2_with (first
                | (go_at_call 165;go_at_call_of 165 s.pA;refine (hmay.out _ (hal.out _)).mono ?_;rintro e w7 ⟨rfl,rfl⟩;rw [hm'.out])
                | (go_at_call 165;refine (hmay2.out _ (hal.out _)).mono ?_;rintro e w7 ⟨rfl,rfl⟩))
              go_ret
              exact ⟨by rw [hv.out,hgp.out];first | rfl | simp,(hal.out _)⟩
            · have hgp:=Lib.hid (show gapB o.at_ = false from decide_eq_false fun h=>g1 h.2)
              have hv:=Lib.hid (show formedV o = (gapB o.at_ && P4.mayV o.to_) by unfold formedV;rw [hm,if_neg k1,if_neg k2,if_pos k3];rfl)
              clear k1 k2 k3 hm
              unfold opCells
              go_enter Try.func78,Try.ntmps78
              go_wp2_with (first
                | (go_at_call 165;go_at_call_of 165 s.pA;refine (hmay.out _ (hal.out _)).mono ?_;rintro e w7 ⟨rfl,rfl⟩;rw [hm'.out])
                | (go_at_call 165;refine (hmay2.out _ (hal.out _)).mono ?_;rintro e w7 ⟨rfl,rfl⟩))
              go_ret
              exact ⟨by rw [hv.out,hgp.out];first | rfl | simp,(hal.out _)⟩
          · have hgp:=Lib.hid (show gapB o.at_ = false from decide_eq_false fun h=>g0 h.1)
            have hv:=Lib.hid (show formedV o = (gapB o.at_ && P4.mayV o.to_) by unfold formedV;rw [hm,if_neg k1,if_neg k2,if_pos k3];rfl)
            clear k1 k2 k3 hm
            unfold opCells
            go_enter Try.func78,Try.ntmps78
            go_wp2_with (first
              | (go_at_call 165;go_at_call_of 165 s.pA;refine (hmay.out _ (hal.out _)).mono ?_;rintro e w7 ⟨rfl,rfl⟩;rw [hm'.out])
              | (go_at_call 165;refine (hmay2.out _ (hal.out _)).mono ?_;rintro e w7 ⟨rfl,rfl⟩))
            go_ret
            exact ⟨by rw [hv.out,hgp.out];first | rfl | simp,(hal.out _)⟩
        · skip
          by_cases k4:o.kind = 4
          · have kI:=Lib.hid k4
            have b1:((o.kind:Int) == 1) = false:=by simp;omega
            have b2:((o.kind:Int) == 2) = false:=by simp;omega
            have b3:((o.kind:Int) == 3) = false:=by simp;omega
            have b4:((o.kind:Int) == 4) = true:=by simp;omega
            by_cases g0:0≤o.at_
            · by_cases g1:o.at_≤1048576
              · have hgp:=Lib.hid (show gapB o.at_ = true from decide_eq_true ⟨g0,g1⟩)
                cases hg:keyB o.key with
                | false =>
                  have hv:=Lib.hid (show formedV o = false by unfold formedV;rw [hm,if_neg k1,if_neg k2,if_neg k3,if_pos k4,hg];rfl)
                  have hg':=Lib.hid hg
                  clear k1 k2 k3 k4 hm hg
                  unfold opCells
                  go_enter Try.func78,Try.ntmps78
                  go_wp2_with (first
                    | (go_at_call 165;go_at_call_of 165 s.pA;refine (hmay.out _ (hal.out _)).mono ?_;rintro e w7 ⟨rfl,rfl⟩;rw [hm'.out])
                    | (go_at_call 134;refine (hkey.out _).mono ?_;rintro e w7 ⟨rfl,rfl⟩;rw [hg'.out]))
                  go_ret
                  exact ⟨by rw [hv.out] <;> first | rfl | simp [hlI] | simp,(hal.out _)⟩
                | true =>
                  have hg':=Lib.hid hg
                  cases hgo:o.gone with
                  | true =>
                    have hv:=Lib.hid (show formedV o = true by unfold formedV;rw [hm,if_neg k1,if_neg k2,if_neg k3,if_pos k4,hg,hgo];rfl)
                    clear k1 k2 k3 k4 hm hg
                    unfold opCells
                    go_enter Try.func78,Try.ntmps78
                    go_wp2_with (first
                      | (go_at_call 165;go_at_call_of 165 s.pA;refine (hmay.out _ (hal.out _)).mono ?_;rintro e w7 ⟨rfl,rfl⟩;rw [hm'.out])
                      | (go_at_call 134;refine (hkey.out _).mono ?_;rintro e w7 ⟨rfl,rfl⟩;rw [hg'.out]))
                    go_ret
                    exact ⟨by rw [hv.out] <;> first | rfl | simp [hlI] | simp,(hal.out _)⟩
                  | false =>
                    by_cases hl:o.value.length≤256
                    · have hlI:(o.value.length:Int)≤256:=by omega
                      have hv:=Lib.hid (show formedV o = true by unfold formedV valB;rw [hm,if_neg k1,if_neg k2,if_neg k3,if_pos k4,hg,hgo,decide_eq_true hl];rfl)
                      clear k1 k2 k3 k4 hm hg hl
                      unfold opCells
                      go_enter Try.func78,Try.ntmps78
                      go_wp2_with (first
                        | (go_at_call 165;go_at_call_of 165 s.pA;refine (hmay.out _ (hal.out _)).mono ?_;rintro e w7 ⟨rfl,rfl⟩;rw [hm'.out])
                        | (go_at_call 134;refine (hkey.out _).mono ?_;rintro e w7 ⟨rfl,rfl⟩;rw [hg'.out]))
                      go_ret
                      exact ⟨by rw [hv.out] <;> first | rfl | simp [hlI] | simp,(hal.out _)⟩
                    · have hlI:¬ (o.value.length:Int)≤256:=by omega
                      have hv:=Lib.hid (show formedV o = false by unfold formedV valB;rw [hm,if_neg k1,if_neg k2,if_neg k3,if_pos k4,hg,hgo,decide_eq_false hl];rfl)
                      clear k1 k2 k3 k4 hm hg hl
                      unfold opCells
                      go_enter Try.func78,Try.ntmps78
                      go_wp2_with (first
                        | (go_at_call 165;go_at_call_of 165 s.pA;refine (hmay.out _ (hal.out _)).mono ?_;rintro e w7 ⟨rfl,rfl⟩;rw [hm'.out])
                        | (go_at_call 134;refine (hkey.out _).mono ?_;rintro e w7 ⟨rfl,rfl⟩;rw [hg'.out]))
                      go_ret
                      exact ⟨by rw [hv.out] <;> first | rfl | simp [hlI] | simp,(hal.out _)⟩
              · have hgp:=Lib.hid (show gapB o.at_ = false from decide_eq_false fun h=>g1 h.2)
                cases hg:keyB o.key with
                | false =>
                  have hv:=Lib.hid (show formedV o = false by unfold formedV;rw [hm,if_neg k1,if_neg k2,if_neg k3,if_pos k4,hg];rfl)
                  have hg':=Lib.hid hg
                  clear k1 k2 k3 k4 hm hg
                  unfold opCells
                  go_enter Try.func78,Try.ntmps78
                  go_wp2_with (first
                    | (go_at_call 165;go_at_call_of 165 s.pA;refine (hmay.out _ (hal.out _)).mono ?_;rintro e w7 ⟨rfl,rfl⟩;rw [hm'.out])
                    | (go_at_call 134;refine (hkey.out _).mono ?_;rintro e w7 ⟨rfl,rfl⟩;rw [hg'.out]))
                  go_ret
                  exact ⟨by rw [hv.out] <;> first | rfl | simp [hlI] | simp,(hal.out _)⟩
                | true =>
                  have hg':=Lib.hid hg
                  cases hgo:o.gone with
                  | true =>
                    have hv:=Lib.hid (show formedV o = true by unfold formedV;rw [hm,if_neg k1,if_neg k2,if_neg k3,if_pos k4,hg,hgo];rfl)
                    clear k1 k2 k3 k4 hm hg
                    unfold opCells
                    go_enter Try.func78,Try.ntmps78
                    go_wp2_with (first
                      | (go_at_call 165;go_at_call_of 165 s.pA;refine (hmay.out _ (hal.out _)).mono ?_;rintro e w7 ⟨rfl,rfl⟩;rw [hm'.out])
                      | (go_at_call 134;refine (hkey.out _).mono ?_;rintro e w7 ⟨rfl,rfl⟩;rw [hg'.out]))
                    go_ret
                    exact ⟨by rw [hv.out] <;> first | rfl | simp [hlI] | simp,(hal.out _)⟩
                  | false =>
                    by_cases hl:o.value.length≤256
                    · have hlI:(o.value.length:Int)≤256:=by omega
                      have hv:=Lib.hid (show formedV o = true by unfold formedV valB;rw [hm,if_neg k1,if_neg k2,if_neg k3,if_pos k4,hg,hgo,decide_eq_true hl];rfl)
                      clear k1 k2 k3 k4 hm hg hl
                      unfold opCells
                      go_enter Try.func78,Try.ntmps78
                      go_wp2_with (first
                        | (go_at_call 165;go_at_call_of 165 s.pA;refine (hmay.out _ (hal.out _)).mono ?_;rintro e w7 ⟨rfl,rfl⟩;rw [hm'.out])
                        | (go_at_call 134;refine (hkey.out _).mono ?_;rintro e w7 ⟨rfl,rfl⟩;rw [hg'.out]))
                      go_ret
                      exact ⟨by rw [hv.out] <;> first | rfl | simp [hlI] | simp,(hal.out _)⟩
                    · have hlI:¬ (o.value.length:Int)≤256:=by omega
                      have hv:=Lib.hid (show formedV o = false by unfold formedV valB;rw [hm,if_neg k1,if_neg k2,if_neg k3,if_pos k4,hg,hgo,decide_eq_false hl];rfl)
                      clear k1 k2 k3 k4 hm hg hl
                      unfold opCells
                      go_enter Try.func78,Try.ntmps78
                      go_wp2_with (first
                        | (go_at_call 165;go_at_call_of 165 s.pA;refine (hmay.out _ (hal.out _)).mono ?_;rintro e w7 ⟨rfl,rfl⟩;rw [hm'.out])
                        | (go_at_call 134;refine (hkey.out _).mono ?_;rintro e w7 ⟨rfl,rfl⟩;rw [hg'.out]))
                      go_ret
                      exact ⟨by rw [hv.out] <;> first | rfl | simp [hlI] | simp,(hal.out _)⟩
            · have hgp:=Lib.hid (show gapB o.at_ = false from decide_eq_false fun h=>g0 h.1)
              cases hg:keyB o.key with
              | false =>
                have hv:=Lib.hid (show formedV o = false by unfold formedV;rw [hm,if_neg k1,if_neg k2,if_neg k3,if_pos k4,hg];rfl)
                have hg':=Lib.hid hg
                clear k1 k2 k3 k4 hm hg
                unfold opCells
                go_enter Try.func78,Try.ntmps78
                go_wp2_with (first
                  | (go_at_call 165;go_at_call_of 165 s.pA;refine (hmay.out _ (hal.out _)).mono ?_;rintro e w7 ⟨rfl,rfl⟩;rw [hm'.out])
                  | (go_at_call 134;refine (hkey.out _).mono ?_;rintro e w7 ⟨rfl,rfl⟩;rw [hg'.out]))
                go_ret
                exact ⟨by rw [hv.out] <;> first | rfl | simp [hlI] | simp,(hal.out _)⟩
              | true =>
                have hg':=Lib.hid hg
                cases hgo:o.gone with
                | true =>
                  have hv:=Lib.hid (show formedV o = true by unfold formedV;rw [hm,if_neg k1,if_neg k2,if_neg k3,if_pos k4,hg,hgo];rfl)
                  clear k1 k2 k3 k4 hm hg
                  unfold opCells
                  go_enter Try.func78,Try.ntmps78
                  go_wp2_with (first
                    | (go_at_call 165;go_at_call_of 165 s.pA;refine (hmay.out _ (hal.out _)).mono ?_;rintro e w7 ⟨rfl,rfl⟩;rw [hm'.out])
                    | (go_at_call 134;refine (hkey.out _).mono ?_;rintro e w7 ⟨rfl,rfl⟩;rw [hg'.out]))
                  go_ret
                  exact ⟨by rw [hv.out] <;> first | rfl | simp [hlI] | simp,(hal.out _)⟩
                | false =>
                  by_cases hl:o.value.length≤256
                  · have hlI:(o.value.length:Int)≤256:=by omega
                    have hv:=Lib.hid (show formedV o = true by unfold formedV valB;rw [hm,if_neg k1,if_neg k2,if_neg k3,if_pos k4,hg,hgo,decide_eq_true hl];rfl)
                    clear k1 k2 k3 k4 hm hg hl
                    unfold opCells
                    go_enter Try.func78,Try.ntmps78
                    go_wp2_with (first
                      | (go_at_call 165;go_at_call_of 165 s.pA;refine (hmay.out _ (hal.out _)).mono ?_;rintro e w7 ⟨rfl,rfl⟩;rw [hm'.out])
                      | (go_at_call 134;refine (hkey.out _).mono ?_;rintro e w7 ⟨rfl,rfl⟩;rw [hg'.out]))
                    go_ret
                    exact ⟨by rw [hv.out] <;> first | rfl | simp [hlI] | simp,(hal.out _)⟩
                  · have hlI:¬ (o.value.length:Int)≤256:=by omega
                    have hv:=Lib.hid (show formedV o = false by unfold formedV valB;rw [hm,if_neg k1,if_neg k2,if_neg k3,if_pos k4,hg,hgo,decide_eq_false hl];rfl)
                    clear k1 k2 k3 k4 hm hg hl
                    unfold opCells
                    go_enter Try.func78,Try.ntmps78
                    go_wp2_with (first
                      | (go_at_call 165;go_at_call_of 165 s.pA;refine (hmay.out _ (hal.out _)).mono ?_;rintro e w7 ⟨rfl,rfl⟩;rw [hm'.out])
                      | (go_at_call 134;refine (hkey.out _).mono ?_;rintro e w7 ⟨rfl,rfl⟩;rw [hg'.out]))
                    go_ret
                    exact ⟨by rw [hv.out] <;> first | rfl | simp [hlI] | simp,(hal.out _)⟩
          · skip
            by_cases k5:o.kind = 5
            · have kI:=Lib.hid k5
              have b1:((o.kind:Int) == 1) = false:=by simp;omega
              have b2:((o.kind:Int) == 2) = false:=by simp;omega
              have b3:((o.kind:Int) == 3) = false:=by simp;omega
              have b4:((o.kind:Int) == 4) = false:=by simp;omega
              have b5:((o.kind:Int) == 5) = true:=by simp;omega
              by_cases g0:0≤o.at_
              · by_cases g1:o.at_≤1048576
                · have hgp:=Lib.hid (show gapB o.at_ = true from decide_eq_true ⟨g0,g1⟩)
                  by_cases hl:o.label.length≤64
                  · have hlI:(o.label.length:Int)≤64:=by omega
                    have hv:=Lib.hid (show formedV o = true by unfold formedV lblB;rw [hm,if_neg k1,if_neg k2,if_neg k3,if_neg k4,if_pos k5,decide_eq_true hl];rfl)
                    clear k1 k2 k3 k4 k5 hm hl
                    unfold opCells
                    go_enter Try.func78,Try.ntmps78
                    go_wp2_with (first
                      | (go_at_call 165;go_at_call_of 165 s.pA;refine (hmay.out _ (hal.out _)).mono ?_;rintro e w7 ⟨rfl,rfl⟩;rw [hm'.out]))
                    go_ret
                    exact ⟨by rw [hv.out] <;> first | rfl | simp [hlI] | simp,(hal.out _)⟩
                  · have hlI:¬ (o.label.length:Int)≤64:=by omega
                    have hv:=Lib.hid (show formedV o = false by unfold formedV lblB;rw [hm,if_neg k1,if_neg k2,if_neg k3,if_neg k4,if_pos k5,decide_eq_false hl];rfl)
                    clear k1 k2 k3 k4 k5 hm hl
                    unfold opCells
                    go_enter Try.func78,Try.ntmps78
                    go_wp2_with (first
                      | (go_at_call 165;go_at_call_of 165 s.pA;refine (hmay.out _ (hal.out _)).mono ?_;rintro e w7 ⟨rfl,rfl⟩;rw [hm'.out]))
                    go_ret
                    exact ⟨by rw [hv.out] <;> first | rfl | simp [hlI] | simp,(hal.out _)⟩
                · have hgp:=Lib.hid (show gapB o.at_ = false from decide_eq_false fun h=>g1 h.2)
                  by_cases hl:o.label.length≤64
                  · have hlI:(o.label.length:Int)≤64:=by omega
                    have hv:=Lib.hid (show formedV o = true by unfold formedV lblB;rw [hm,if_neg k1,if_neg k2,if_neg k3,if_neg k4,if_pos k5,decide_eq_true hl];rfl)
                    clear k1 k2 k3 k4 k5 hm hl
                    unfold opCells
                    go_enter Try.func78,Try.ntmps78
                    go_wp2_with (first
                      | (go_at_call 165;go_at_call_of 165 s.pA;refine (hmay.out _ (hal.out _)).mono ?_;rintro e w7 ⟨rfl,rfl⟩;rw [hm'.out]))
                    go_ret
                    exact ⟨by rw [hv.out] <;> first | rfl | simp [hlI] | simp,(hal.out _)⟩
                  · have hlI:¬ (o.label.length:Int)≤64:=by omega
                    have hv:=Lib.hid (show formedV o = false by unfold formedV lblB;rw [hm,if_neg k1,if_neg k2,if_neg k3,if_neg k4,if_pos k5,decide_eq_false hl];rfl)
                    clear k1 k2 k3 k4 k5 hm hl
                    unfold opCells
                    go_enter Try.func78,Try.ntmps78
                    go_wp2_with (first
                      | (go_at_call 165;go_at_call_of 165 s.pA;refine (hmay.out _ (hal.out _)).mono ?_;rintro e w7 ⟨rfl,rfl⟩;rw [hm'.out]))
                    go_ret
                    exact ⟨by rw [hv.out] <;> first | rfl | simp [hlI] | simp,(hal.out _)⟩
              · have hgp:=Lib.hid (show gapB o.at_ = false from decide_eq_false fun h=>g0 h.1)
                by_cases hl:o.label.length≤64
                · have hlI:(o.label.length:Int)≤64:=by omega
                  have hv:=Lib.hid (show formedV o = true by unfold formedV lblB;rw [hm,if_neg k1,if_neg k2,if_neg k3,if_neg k4,if_pos k5,decide_eq_true hl];rfl)
                  clear k1 k2 k3 k4 k5 hm hl
                  unfold opCells
                  go_enter Try.func78,Try.ntmps78
                  go_wp2_with (first
                    | (go_at_call 165;go_at_call_of 165 s.pA;refine (hmay.out _ (hal.out _)).mono ?_;rintro e w7 ⟨rfl,rfl⟩;rw [hm'.out]))
                  go_ret
                  exact ⟨by rw [hv.out] <;> first | rfl | simp [hlI] | simp,(hal.out _)⟩
                · have hlI:¬ (o.label.length:Int)≤64:=by omega
                  have hv:=Lib.hid (show formedV o = false by unfold formedV lblB;rw [hm,if_neg k1,if_neg k2,if_neg k3,if_neg k4,if_pos k5,decide_eq_false hl];rfl)
                  clear k1 k2 k3 k4 k5 hm hl
                  unfold opCells
                  go_enter Try.func78,Try.ntmps78
                  go_wp2_with (first
                    | (go_at_call 165;go_at_call_of 165 s.pA;refine (hmay.out _ (hal.out _)).mono ?_;rintro e w7 ⟨rfl,rfl⟩;rw [hm'.out]))
                  go_ret
                  exact ⟨by rw [hv.out] <;> first | rfl | simp [hlI] | simp,(hal.out _)⟩
            · skip
              by_cases k6:o.kind = 6
              · have kI:=Lib.hid k6
                have b1:((o.kind:Int) == 1) = false:=by simp;omega
                have b2:((o.kind:Int) == 2) = false:=by simp;omega
                have b3:((o.kind:Int) == 3) = false:=by simp;omega
                have b4:((o.kind:Int) == 4) = false:=by simp;omega
                have b5:((o.kind:Int) == 5) = false:=by simp;omega
                have b6:((o.kind:Int) == 6) = true:=by simp;omega
                by_cases g0:0≤o.at_
                · by_cases g1:o.at_≤1048576
                  · have hgp:=Lib.hid (show gapB o.at_ = true from decide_eq_true ⟨g0,g1⟩)
                    have hv:=Lib.hid (show formedV o = P5.rightV o.pieces by unfold formedV;rw [hm,if_neg k1,if_neg k2,if_neg k3,if_neg k4,if_neg k5,if_pos k6];rfl)
                    clear k1 k2 k3 k4 k5 k6 hm
                    unfold opCells
                    go_enter Try.func78,Try.ntmps78
                    go_wp2_with (first
                      | (go_at_call 165;go_at_call_of 165 s.pA;refine (hmay.out _ (hal.out _)).mono ?_;rintro e w7 ⟨rfl,rfl⟩;rw [hm'.out])
                      | (go_at_call 106;refine (hrig.out _ (hal.out _)).mono ?_;rintro e w7 ⟨rfl,hb7⟩;have hb7':=Lib.hid ((hal.out _).trans (hb7.mono (hal.out _).size));clear hb7))
                    go_ret
                    exact ⟨by rw [hv.out] <;> first | rfl | simp,hb7'.out⟩
                  · have hgp:=Lib.hid (show gapB o.at_ = false from decide_eq_false fun h=>g1 h.2)
                    have hv:=Lib.hid (show formedV o = P5.rightV o.pieces by unfold formedV;rw [hm,if_neg k1,if_neg k2,if_neg k3,if_neg k4,if_neg k5,if_pos k6];rfl)
                    clear k1 k2 k3 k4 k5 k6 hm
                    unfold opCells
                    go_enter Try.func78,Try.ntmps78
                    go_wp2_with (first
                      | (go_at_call 165;go_at_call_of 165 s.pA;refine (hmay.out _ (hal.out _)).mono ?_;rintro e w7 ⟨rfl,rfl⟩;rw [hm'.out])
                      | (go_at_call 106;refine (hrig.out _ (hal.out _)).mono ?_;rintro e w7 ⟨rfl,hb7⟩;have hb7':=Lib.hid ((hal.out _).trans (hb7.mono (hal.out _).size));clear hb7))
                    go_ret
                    exact ⟨by rw [hv.out] <;> first | rfl | simp,hb7'.out⟩
                · have hgp:=Lib.hid (show gapB o.at_ = false from decide_eq_false fun h=>g0 h.1)
                  have hv:=Lib.hid (show formedV o = P5.rightV o.pieces by unfold formedV;rw [hm,if_neg k1,if_neg k2,if_neg k3,if_neg k4,if_neg k5,if_pos k6];rfl)
                  clear k1 k2 k3 k4 k5 k6 hm
                  unfold opCells
                  go_enter Try.func78,Try.ntmps78
                  go_wp2_with (first
                    | (go_at_call 165;go_at_call_of 165 s.pA;refine (hmay.out _ (hal.out _)).mono ?_;rintro e w7 ⟨rfl,rfl⟩;rw [hm'.out])
                    | (go_at_call 106;refine (hrig.out _ (hal.out _)).mono ?_;rintro e w7 ⟨rfl,hb7⟩;have hb7':=Lib.hid ((hal.out _).trans (hb7.mono (hal.out _).size));clear hb7))
                  go_ret
                  exact ⟨by rw [hv.out] <;> first | rfl | simp,hb7'.out⟩
              · skip
                have b1:((o.kind:Int) == 1) = false:=by simp;omega
                have b2:((o.kind:Int) == 2) = false:=by simp;omega
                have b3:((o.kind:Int) == 3) = false:=by simp;omega
                have b4:((o.kind:Int) == 4) = false:=by simp;omega
                have b5:((o.kind:Int) == 5) = false:=by simp;omega
                have b6:((o.kind:Int) == 6) = false:=by simp;omega
                by_cases g0:0≤o.at_
                · by_cases g1:o.at_≤1048576
                  · have hgp:=Lib.hid (show gapB o.at_ = true from decide_eq_true ⟨g0,g1⟩)
                    have hv:=Lib.hid (show formedV o = false by unfold formedV;rw [hm,if_neg k1,if_neg k2,if_neg k3,if_neg k4,if_neg k5,if_neg k6];rfl)
                    clear k1 k2 k3 k4 k5 k6 hm
                    unfold opCells
                    go_enter Try.func78,Try.ntmps78
                    go_wp2_with (first
                      | (go_at_call 165;go_at_call_of 165 s.pA;refine (hmay.out _ (hal.out _)).mono ?_;rintro e w7 ⟨rfl,rfl⟩;rw [hm'.out]))
                    go_ret
                    exact ⟨by rw [hv.out] <;> first | rfl | simp [hlI] | simp,(hal.out _)⟩
                  · have hgp:=Lib.hid (show gapB o.at_ = false from decide_eq_false fun h=>g1 h.2)
                    have hv:=Lib.hid (show formedV o = false by unfold formedV;rw [hm,if_neg k1,if_neg k2,if_neg k3,if_neg k4,if_neg k5,if_neg k6];rfl)
                    clear k1 k2 k3 k4 k5 k6 hm
                    unfold opCells
                    go_enter Try.func78,Try.ntmps78
                    go_wp2_with (first
                      | (go_at_call 165;go_at_call_of 165 s.pA;refine (hmay.out _ (hal.out _)).mono ?_;rintro e w7 ⟨rfl,rfl⟩;rw [hm'.out]))
                    go_ret
                    exact ⟨by rw [hv.out] <;> first | rfl | simp [hlI] | simp,(hal.out _)⟩
                · have hgp:=Lib.hid (show gapB o.at_ = false from decide_eq_false fun h=>g0 h.1)
                  have hv:=Lib.hid (show formedV o = false by unfold formedV;rw [hm,if_neg k1,if_neg k2,if_neg k3,if_neg k4,if_neg k5,if_neg k6];rfl)
                  clear k1 k2 k3 k4 k5 k6 hm
                  unfold opCells
                  go_enter Try.func78,Try.ntmps78
                  go_wp2_with (first
                    | (go_at_call 165;go_at_call_of 165 s.pA;refine (hmay.out _ (hal.out _)).mono ?_;rintro e w7 ⟨rfl,rfl⟩;rw [hm'.out]))
                  go_ret
                  exact ⟨by rw [hv.out] <;> first | rfl | simp [hlI] | simp,(hal.out _)⟩
end Go.Proofs.Ytfaolhcacaeijaa

