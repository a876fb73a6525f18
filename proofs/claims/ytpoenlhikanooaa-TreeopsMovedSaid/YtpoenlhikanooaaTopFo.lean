/- What the frame tells of an operation that came in. -/
import Derived.Test.YtpoenlhikanooaaMgAM
import Derived.Test.YtpoenlhikanooaaMgAI
set_option linter.all false
namespace Go.Proofs.Ytpoenlhikanooaa.Top
set_option linter.unusedVariables false
open Go.RowKit Go.ChangeShapes Go.WideShapes Go.Deep
set_option maxRecDepth 20000

/-- an operation's slices, of whatever length -/
structure OpRaw (w : World) (o : Ov) (s : OS) : Prop where
  kind : o.kind < 256
  path : Its w s.pA s.pn o.path
  pnc : s.pn ≤ s.pc
  pcm : s.pc ≤ maxLen
  pnil : s.pA = none → s.pc = 0
  at_ : -9223372036854775808 ≤ o.at_ ∧ o.at_ ≤ 9223372036854775807
  to_ : Its w s.tA s.tn o.to_
  tnc : s.tn ≤ s.tc
  tcm : s.tc ≤ maxLen
  tnil : s.tA = none → s.tc = 0
  id : o.id < 18446744073709551616
  label : o.label.length ≤ maxLen
  key : o.key.length ≤ maxLen
  value : o.value.length ≤ maxLen
  pieces : P5.PcsIn w s.qA s.qn o.pieces
  qnc : s.qn ≤ s.qc
  qcm : s.qc ≤ maxLen
  qnil : s.qA = none → s.qc = 0
  pfit : Fit o.path
  tfit : Fit o.to_
theorem OpRaw.below {w w' : World} {o : Ov} {s : OS} (h : OpRaw w o s) (hb : Below w.heap.size w w') : OpRaw w' o s :=
  { h with path := h.path.below hb, to_ := h.to_.below hb, pieces := h.pieces.below hb }
theorem OpRaw.op {w : World} {o : Ov} {s : OS} (h : OpRaw w o s) (h1 : o.path.length ≤ 500000) (h2 : o.to_.length ≤ 500000) (h3 : o.pieces.length ≤ 500000) : OpIn w o s :=
  ⟨h.kind, h.path, h.pnc, h.pcm, h.pnil, h.at_, h.to_, h.tnc, h.tcm, h.tnil, h.id, h.label, h.key, h.value, h.pieces, h.qnc, h.qcm, h.qnil, by rw [← h.path.1]; exact h1, by rw [← h.to_.1]; exact h2, by rw [← h.pieces.1]; exact h3, h.pfit, h.tfit⟩
theorem OpIn.raw {w : World} {o : Ov} {s : OS} (h : OpIn w o s) : OpRaw w o s :=
  ⟨h.kind, h.path, h.pnc, h.pcm, h.pnil, h.at_, h.to_, h.tnc, h.tcm, h.tnil, h.id, h.label, h.key, h.value, h.pieces, h.qnc, h.qcm, h.qnil, h.pfit, h.tfit⟩
section
variable {H : Type} {enc : TypeId × Value → H} {W : World} {b0 : Nat}
theorem ints_nil {fuel : Nat} {v : Value} {x : DataW H × List MemPlace} (h : DataW.trod enc Try.prog W b0 (fun _ => true) true fuel 22 [v] = some x) :
    ∃ (A : Option Addr) (n c : Nat) (l : List Int), v = .slice A n c ∧ Its W A n l ∧ n ≤ c ∧ c ≤ maxLen ∧ (A = none → c = 0) ∧ Fit l := by
  obtain ⟨A, n, c, l, e, h1, h2, h3, h4⟩ := ints_in h
  refine ⟨A, n, c, l, e, h1, h2, h3, fun hA => ?_, h4⟩
  subst hA
  rcases DataW.trod_slice Try.underlying22 h with ⟨hcs, -⟩ | ⟨a, len, cap, elems, rest, m, -, hcs, -⟩
  · rw [e] at hcs
    simp at hcs
    exact hcs.2
  · rw [e] at hcs
    simp at hcs
end
end Go.Proofs.Ytpoenlhikanooaa.Top

