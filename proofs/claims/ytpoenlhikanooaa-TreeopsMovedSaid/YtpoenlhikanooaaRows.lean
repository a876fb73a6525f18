/-
  NARROWER THAN 'FOR EVERY INPUT', by the rows' own cells (each row's printed sentence says how): ShiftBetween: loops · TreeopsMoved: loops · SimplifyKeeps: loops.
  DERIVED. THE GIVEN ROWS OF THIS SEAT. 11 by the template 'for every input the law returns true; each argument reads behind the call as it read before'; 0 by the template 'total and deterministic' (their statements: YtpoenlhikanooaaTotals.lean).
  GIVEN WITH THE SEED: the statements are not yours to turn. If you find one false, say at which input.
  Laid BY PROGRAM, IN A SANDBOX (cutbox-rows.mjs): the forced cells as the released guide's own fill.sh prints them over the translation 16d0a66ccb1faa9b… (all of the seat's roots in one cut). By AI agents, Wed Nov 11 2026. No macro, syntax, notation, axiom, sorry.
-/
import Derived.Test.YtpoenlhikanooaaChecked
import GoSem.Claim
import GoSem.ClaimJoined
import GoSem.ClaimMapViews
import Derived.JoinedTies
import Derived.KernelRfl
namespace Go.Proofs.Ytpoenlhikanooaa
/- THE CELL 'sum', in the pinned program and in every row, IS THE sha256 OF THE DUMP (.gsa) THAT YtpoenlhikanooaaProg.lean LOADS. Nothing in Lean hashes anything: it is a label: what it is worth is what the hold of that sum in a sandbox is worth. -/
noncomputable def Try.pinned : Pinned := { name := "ytpoenlhikanooaa", sum := "16d0a66ccb1faa9bcff2cfdd1c438d1479f1b34ae7743e84bf4390ab84f30aed", checked := Try.checked }
namespace Rows
def none {H : Type} : Left H := { results := [], args := [] }

/-- 'bowerlaw11.ShiftNode': WHATEVER THE INPUT: true; the input reads as it did. -/
def shiftNodeSpec : ChangeSpec := { name := "shiftNode", fn := fun _ => fun
  | [d1, d2] => { results := [.lit (.bool true)], args := [d1, d2] }
  | _ => none }
def shiftNodeRow : OpenClaim := { program := "ytpoenlhikanooaa", sum := "16d0a66ccb1faa9bcff2cfdd1c438d1479f1b34ae7743e84bf4390ab84f30aed", func := "bower/bowerlaw11.ShiftNode", spec := "shiftNode", recurses := true, apart := false }
def ShiftNodeSaid : Prop := shiftNodeRow.holds Try.pinned (OpenSpec.ofChange shiftNodeSpec)

/-- ITS FALSE NEIGHBOUR: 'it returns false'. Refute it at one input. -/
def shiftNodeWrong : ChangeSpec := { name := "shiftNode", fn := fun _ => fun
  | [d1, d2] => { results := [.lit (.bool false)], args := [d1, d2] }
  | _ => none }
def ShiftNodeWrongFalsely : Prop := shiftNodeRow.holds Try.pinned (OpenSpec.ofChange shiftNodeWrong)

/-- 'bowerlaw11.ShiftGap': WHATEVER THE INPUT: true; the input reads as it did. -/
def shiftGapSpec : ChangeSpec := { name := "shiftGap", fn := fun _ => fun
  | [d1, d2, d3, d4] => { results := [.lit (.bool true)], args := [d1, d2, d3, d4] }
  | _ => none }
def shiftGapRow : OpenClaim := { program := "ytpoenlhikanooaa", sum := "16d0a66ccb1faa9bcff2cfdd1c438d1479f1b34ae7743e84bf4390ab84f30aed", func := "bower/bowerlaw11.ShiftGap", spec := "shiftGap", recurses := true, apart := false }
def ShiftGapSaid : Prop := shiftGapRow.holds Try.pinned (OpenSpec.ofChange shiftGapSpec)

/-- ITS FALSE NEIGHBOUR: 'it returns false'. Refute it at one input. -/
def shiftGapWrong : ChangeSpec := { name := "shiftGap", fn := fun _ => fun
  | [d1, d2, d3, d4] => { results := [.lit (.bool false)], args := [d1, d2, d3, d4] }
  | _ => none }
def ShiftGapWrongFalsely : Prop := shiftGapRow.holds Try.pinned (OpenSpec.ofChange shiftGapWrong)

/-- 'bowerlaw11.ShiftUndo': WHATEVER THE INPUT: true; the input reads as it did. -/
def shiftUndoSpec : ChangeSpec := { name := "shiftUndo", fn := fun _ => fun
  | [d] => { results := [.lit (.bool true)], args := [d] }
  | _ => none }
def shiftUndoRow : OpenClaim := { program := "ytpoenlhikanooaa", sum := "16d0a66ccb1faa9bcff2cfdd1c438d1479f1b34ae7743e84bf4390ab84f30aed", func := "bower/bowerlaw11.ShiftUndo", spec := "shiftUndo", recurses := true, apart := false }
def ShiftUndoSaid : Prop := shiftUndoRow.holds Try.pinned (OpenSpec.ofChange shiftUndoSpec)

/-- ITS FALSE NEIGHBOUR: 'it returns false'. Refute it at one input. -/
def shiftUndoWrong : ChangeSpec := { name := "shiftUndo", fn := fun _ => fun
  | [d] => { results := [.lit (.bool false)], args := [d] }
  | _ => none }
def ShiftUndoWrongFalsely : Prop := shiftUndoRow.holds Try.pinned (OpenSpec.ofChange shiftUndoWrong)

/-- 'bowerlaw11.ShiftBetween': WHATEVER THE INPUT: true; the input reads as it did. -/
def shiftBetweenSpec : ChangeSpec := { name := "shiftBetween", fn := fun _ => fun
  | [d1, d2, d3] => { results := [.lit (.bool true)], args := [d1, d2, d3] }
  | _ => none }
def shiftBetweenRow : OpenClaim := { program := "ytpoenlhikanooaa", sum := "16d0a66ccb1faa9bcff2cfdd1c438d1479f1b34ae7743e84bf4390ab84f30aed", func := "bower/bowerlaw11.ShiftBetween", spec := "shiftBetween", recurses := true, loops := true, apart := false }
def ShiftBetweenSaid : Prop := shiftBetweenRow.holds Try.pinned (OpenSpec.ofChange shiftBetweenSpec)

/-- ITS FALSE NEIGHBOUR: 'it returns false'. Refute it at one input. -/
def shiftBetweenWrong : ChangeSpec := { name := "shiftBetween", fn := fun _ => fun
  | [d1, d2, d3] => { results := [.lit (.bool false)], args := [d1, d2, d3] }
  | _ => none }
def ShiftBetweenWrongFalsely : Prop := shiftBetweenRow.holds Try.pinned (OpenSpec.ofChange shiftBetweenWrong)

/-- 'bowerlaw08.TreeopsMoved': WHATEVER THE INPUT: true; the input reads as it did. -/
def treeopsMovedSpec : ChangeSpec := { name := "treeopsMoved", fn := fun _ => fun
  | [d1, d2, d3, d4] => { results := [.lit (.bool true)], args := [d1, d2, d3, d4] }
  | _ => none }
def treeopsMovedRow : OpenClaim := { program := "ytpoenlhikanooaa", sum := "16d0a66ccb1faa9bcff2cfdd1c438d1479f1b34ae7743e84bf4390ab84f30aed", func := "bower/bowerlaw08.TreeopsMoved", spec := "treeopsMoved", inPlace := ["internal/abi.NoEscape"], unfollowed := true, recurses := true, loops := true, apart := false }
def TreeopsMovedSaid : Prop := treeopsMovedRow.holds Try.pinned (OpenSpec.ofChange treeopsMovedSpec)

/-- ITS FALSE NEIGHBOUR: 'it returns false'. Refute it at one input. -/
def treeopsMovedWrong : ChangeSpec := { name := "treeopsMoved", fn := fun _ => fun
  | [d1, d2, d3, d4] => { results := [.lit (.bool false)], args := [d1, d2, d3, d4] }
  | _ => none }
def TreeopsMovedWrongFalsely : Prop := treeopsMovedRow.holds Try.pinned (OpenSpec.ofChange treeopsMovedWrong)

/-- 'bowerlaw10.SimplifyPair': WHATEVER THE INPUT: true; the input reads as it did. -/
def simplifyPairSpec : ChangeSpec := { name := "simplifyPair", fn := fun _ => fun
  | [d1, d2] => { results := [.lit (.bool true)], args := [d1, d2] }
  | _ => none }
def simplifyPairRow : OpenClaim := { program := "ytpoenlhikanooaa", sum := "16d0a66ccb1faa9bcff2cfdd1c438d1479f1b34ae7743e84bf4390ab84f30aed", func := "bower/bowerlaw10.SimplifyPair", spec := "simplifyPair", unfollowed := true, recurses := true, apart := false }
def SimplifyPairSaid : Prop := simplifyPairRow.holds Try.pinned (OpenSpec.ofChange simplifyPairSpec)

/-- ITS FALSE NEIGHBOUR: 'it returns false'. Refute it at one input. -/
def simplifyPairWrong : ChangeSpec := { name := "simplifyPair", fn := fun _ => fun
  | [d1, d2] => { results := [.lit (.bool false)], args := [d1, d2] }
  | _ => none }
def SimplifyPairWrongFalsely : Prop := simplifyPairRow.holds Try.pinned (OpenSpec.ofChange simplifyPairWrong)

/-- 'bowerlaw10.SimplifyList': WHATEVER THE INPUT: true; the input reads as it did. -/
def simplifyListSpec : ChangeSpec := { name := "simplifyList", fn := fun _ => fun
  | [d] => { results := [.lit (.bool true)], args := [d] }
  | _ => none }
def simplifyListRow : OpenClaim := { program := "ytpoenlhikanooaa", sum := "16d0a66ccb1faa9bcff2cfdd1c438d1479f1b34ae7743e84bf4390ab84f30aed", func := "bower/bowerlaw10.SimplifyList", spec := "simplifyList", unfollowed := true, recurses := true, apart := false }
def SimplifyListSaid : Prop := simplifyListRow.holds Try.pinned (OpenSpec.ofChange simplifyListSpec)

/-- ITS FALSE NEIGHBOUR: 'it returns false'. Refute it at one input. -/
def simplifyListWrong : ChangeSpec := { name := "simplifyList", fn := fun _ => fun
  | [d] => { results := [.lit (.bool false)], args := [d] }
  | _ => none }
def SimplifyListWrongFalsely : Prop := simplifyListRow.holds Try.pinned (OpenSpec.ofChange simplifyListWrong)

/-- 'bowerlaw10.SimplifyKeeps': WHATEVER THE INPUT: true; the input reads as it did. -/
def simplifyKeepsSpec : ChangeSpec := { name := "simplifyKeeps", fn := fun _ => fun
  | [d1, d2] => { results := [.lit (.bool true)], args := [d1, d2] }
  | _ => none }
def simplifyKeepsRow : OpenClaim := { program := "ytpoenlhikanooaa", sum := "16d0a66ccb1faa9bcff2cfdd1c438d1479f1b34ae7743e84bf4390ab84f30aed", func := "bower/bowerlaw10.SimplifyKeeps", spec := "simplifyKeeps", unfollowed := true, recurses := true, loops := true, apart := false }
def SimplifyKeepsSaid : Prop := simplifyKeepsRow.holds Try.pinned (OpenSpec.ofChange simplifyKeepsSpec)

/-- ITS FALSE NEIGHBOUR: 'it returns false'. Refute it at one input. -/
def simplifyKeepsWrong : ChangeSpec := { name := "simplifyKeeps", fn := fun _ => fun
  | [d1, d2] => { results := [.lit (.bool false)], args := [d1, d2] }
  | _ => none }
def SimplifyKeepsWrongFalsely : Prop := simplifyKeepsRow.holds Try.pinned (OpenSpec.ofChange simplifyKeepsWrong)

/-- 'bowerlaw10.SimplifyIdle': WHATEVER THE INPUT: true; the input reads as it did. -/
def simplifyIdleSpec : ChangeSpec := { name := "simplifyIdle", fn := fun _ => fun
  | [d] => { results := [.lit (.bool true)], args := [d] }
  | _ => none }
def simplifyIdleRow : OpenClaim := { program := "ytpoenlhikanooaa", sum := "16d0a66ccb1faa9bcff2cfdd1c438d1479f1b34ae7743e84bf4390ab84f30aed", func := "bower/bowerlaw10.SimplifyIdle", spec := "simplifyIdle", unfollowed := true, recurses := true, apart := false }
def SimplifyIdleSaid : Prop := simplifyIdleRow.holds Try.pinned (OpenSpec.ofChange simplifyIdleSpec)

/-- ITS FALSE NEIGHBOUR: 'it returns false'. Refute it at one input. -/
def simplifyIdleWrong : ChangeSpec := { name := "simplifyIdle", fn := fun _ => fun
  | [d] => { results := [.lit (.bool false)], args := [d] }
  | _ => none }
def SimplifyIdleWrongFalsely : Prop := simplifyIdleRow.holds Try.pinned (OpenSpec.ofChange simplifyIdleWrong)

/-- 'bowerlaw11.ShiftKnown': WHATEVER THE INPUT: true; the input reads as it did. -/
def shiftKnownSpec : ChangeSpec := { name := "shiftKnown", fn := fun _ => fun
  | [] => { results := [.lit (.bool true)], args := [] }
  | _ => none }
def shiftKnownRow : OpenClaim := { program := "ytpoenlhikanooaa", sum := "16d0a66ccb1faa9bcff2cfdd1c438d1479f1b34ae7743e84bf4390ab84f30aed", func := "bower/bowerlaw11.ShiftKnown", spec := "shiftKnown", recurses := true, apart := false }
def ShiftKnownSaid : Prop := shiftKnownRow.holds Try.pinned (OpenSpec.ofChange shiftKnownSpec)

/-- ITS FALSE NEIGHBOUR: 'it returns false'. Refute it at one input. -/
def shiftKnownWrong : ChangeSpec := { name := "shiftKnown", fn := fun _ => fun
  | [] => { results := [.lit (.bool false)], args := [] }
  | _ => none }
def ShiftKnownWrongFalsely : Prop := shiftKnownRow.holds Try.pinned (OpenSpec.ofChange shiftKnownWrong)

/-- 'bowerlaw10.SimplifyKnown': WHATEVER THE INPUT: true; the input reads as it did. -/
def simplifyKnownSpec : ChangeSpec := { name := "simplifyKnown", fn := fun _ => fun
  | [] => { results := [.lit (.bool true)], args := [] }
  | _ => none }
def simplifyKnownRow : OpenClaim := { program := "ytpoenlhikanooaa", sum := "16d0a66ccb1faa9bcff2cfdd1c438d1479f1b34ae7743e84bf4390ab84f30aed", func := "bower/bowerlaw10.SimplifyKnown", spec := "simplifyKnown", unfollowed := true, recurses := true, apart := false }
def SimplifyKnownSaid : Prop := simplifyKnownRow.holds Try.pinned (OpenSpec.ofChange simplifyKnownSpec)

/-- ITS FALSE NEIGHBOUR: 'it returns false'. Refute it at one input. -/
def simplifyKnownWrong : ChangeSpec := { name := "simplifyKnown", fn := fun _ => fun
  | [] => { results := [.lit (.bool false)], args := [] }
  | _ => none }
def SimplifyKnownWrongFalsely : Prop := simplifyKnownRow.holds Try.pinned (OpenSpec.ofChange simplifyKnownWrong)

/- THE SECOND FORM. 'bulk': how many values and letters a reading holds, each counted each time it is reached (what is shared counts as often as it is met; a slice's spare places count too). A statement '..UptoSaid' is the law's where the arguments, and the package variables that the reading takes, are together of bulk at most 1048576: NARROWER than '..Said'. Prove '..Said' where nothing that the law and all that it calls make is longer than what came in: it says more and counts as full. Else prove '..UptoSaid'. A law counts once. -/
mutual
def uptoBulk {H : Type} : DataW H → Nat
  | .lit (.string bytes) => bytes.length + 1
  | .lit _ => 1
  | .nil => 1
  | .ptr d => uptoBulk d + 1
  | .slice elems spare => uptoBulkAll elems + uptoBulkAll spare + 1
  | .agg parts => uptoBulkAll parts + 1
  | .iface _ d => uptoBulk d + 1
  | .map entries => uptoBulkEntries entries + 1
  | .held _ => 1
def uptoBulkAll {H : Type} : List (DataW H) → Nat
  | [] => 0
  | d :: r => uptoBulk d + uptoBulkAll r
def uptoBulkEntries {H : Type} : List (Lit × DataW H) → Nat
  | [] => 0
  | x :: r => uptoBulkEntry x + uptoBulkEntries r
def uptoBulkEntry {H : Type} : Lit × DataW H → Nat
  | (.string bytes, d) => bytes.length + uptoBulk d + 1
  | (_, d) => uptoBulk d + 1
 end
def uptoSmall : (H : Type) → List (DataW H) → Bool := fun _ ds => decide (uptoBulkAll ds ≤ 1048576)
def OpenSpec.upto (s : _root_.Go.ChangeSpec) : _root_.Go.OpenSpec := { _root_.Go.OpenSpec.ofChange s with cond := some uptoSmall }

/-- 'bowerlaw11.ShiftNode', WHERE WHAT IT READS IS OF BULK AT MOST 1048576: true; the input reads as it did. -/
def shiftNodeUptoRow : OpenClaim := { program := "ytpoenlhikanooaa", sum := "16d0a66ccb1faa9bcff2cfdd1c438d1479f1b34ae7743e84bf4390ab84f30aed", func := "bower/bowerlaw11.ShiftNode", spec := "shiftNode", recurses := true, apart := false, narrowed := true }
def ShiftNodeUptoSaid : Prop := shiftNodeUptoRow.holds Try.pinned (OpenSpec.upto shiftNodeSpec)

/-- 'bowerlaw11.ShiftGap', WHERE WHAT IT READS IS OF BULK AT MOST 1048576: true; the input reads as it did. -/
def shiftGapUptoRow : OpenClaim := { program := "ytpoenlhikanooaa", sum := "16d0a66ccb1faa9bcff2cfdd1c438d1479f1b34ae7743e84bf4390ab84f30aed", func := "bower/bowerlaw11.ShiftGap", spec := "shiftGap", recurses := true, apart := false, narrowed := true }
def ShiftGapUptoSaid : Prop := shiftGapUptoRow.holds Try.pinned (OpenSpec.upto shiftGapSpec)

/-- 'bowerlaw11.ShiftUndo', WHERE WHAT IT READS IS OF BULK AT MOST 1048576: true; the input reads as it did. -/
def shiftUndoUptoRow : OpenClaim := { program := "ytpoenlhikanooaa", sum := "16d0a66ccb1faa9bcff2cfdd1c438d1479f1b34ae7743e84bf4390ab84f30aed", func := "bower/bowerlaw11.ShiftUndo", spec := "shiftUndo", recurses := true, apart := false, narrowed := true }
def ShiftUndoUptoSaid : Prop := shiftUndoUptoRow.holds Try.pinned (OpenSpec.upto shiftUndoSpec)

/-- 'bowerlaw11.ShiftBetween', WHERE WHAT IT READS IS OF BULK AT MOST 1048576: true; the input reads as it did. -/
def shiftBetweenUptoRow : OpenClaim := { program := "ytpoenlhikanooaa", sum := "16d0a66ccb1faa9bcff2cfdd1c438d1479f1b34ae7743e84bf4390ab84f30aed", func := "bower/bowerlaw11.ShiftBetween", spec := "shiftBetween", recurses := true, loops := true, apart := false, narrowed := true }
def ShiftBetweenUptoSaid : Prop := shiftBetweenUptoRow.holds Try.pinned (OpenSpec.upto shiftBetweenSpec)

/-- 'bowerlaw08.TreeopsMoved', WHERE WHAT IT READS IS OF BULK AT MOST 1048576: true; the input reads as it did. -/
def treeopsMovedUptoRow : OpenClaim := { program := "ytpoenlhikanooaa", sum := "16d0a66ccb1faa9bcff2cfdd1c438d1479f1b34ae7743e84bf4390ab84f30aed", func := "bower/bowerlaw08.TreeopsMoved", spec := "treeopsMoved", inPlace := ["internal/abi.NoEscape"], unfollowed := true, recurses := true, loops := true, apart := false, narrowed := true }
def TreeopsMovedUptoSaid : Prop := treeopsMovedUptoRow.holds Try.pinned (OpenSpec.upto treeopsMovedSpec)

/-- 'bowerlaw10.SimplifyPair', WHERE WHAT IT READS IS OF BULK AT MOST 1048576: true; the input reads as it did. -/
def simplifyPairUptoRow : OpenClaim := { program := "ytpoenlhikanooaa", sum := "16d0a66ccb1faa9bcff2cfdd1c438d1479f1b34ae7743e84bf4390ab84f30aed", func := "bower/bowerlaw10.SimplifyPair", spec := "simplifyPair", unfollowed := true, recurses := true, apart := false, narrowed := true }
def SimplifyPairUptoSaid : Prop := simplifyPairUptoRow.holds Try.pinned (OpenSpec.upto simplifyPairSpec)

/-- 'bowerlaw10.SimplifyList', WHERE WHAT IT READS IS OF BULK AT MOST 1048576: true; the input reads as it did. -/
def simplifyListUptoRow : OpenClaim := { program := "ytpoenlhikanooaa", sum := "16d0a66ccb1faa9bcff2cfdd1c438d1479f1b34ae7743e84bf4390ab84f30aed", func := "bower/bowerlaw10.SimplifyList", spec := "simplifyList", unfollowed := true, recurses := true, apart := false, narrowed := true }
def SimplifyListUptoSaid : Prop := simplifyListUptoRow.holds Try.pinned (OpenSpec.upto simplifyListSpec)

/-- 'bowerlaw10.SimplifyKeeps', WHERE WHAT IT READS IS OF BULK AT MOST 1048576: true; the input reads as it did. -/
def simplifyKeepsUptoRow : OpenClaim := { program := "ytpoenlhikanooaa", sum := "16d0a66ccb1faa9bcff2cfdd1c438d1479f1b34ae7743e84bf4390ab84f30aed", func := "bower/bowerlaw10.SimplifyKeeps", spec := "simplifyKeeps", unfollowed := true, recurses := true, loops := true, apart := false, narrowed := true }
def SimplifyKeepsUptoSaid : Prop := simplifyKeepsUptoRow.holds Try.pinned (OpenSpec.upto simplifyKeepsSpec)

/-- 'bowerlaw10.SimplifyIdle', WHERE WHAT IT READS IS OF BULK AT MOST 1048576: true; the input reads as it did. -/
def simplifyIdleUptoRow : OpenClaim := { program := "ytpoenlhikanooaa", sum := "16d0a66ccb1faa9bcff2cfdd1c438d1479f1b34ae7743e84bf4390ab84f30aed", func := "bower/bowerlaw10.SimplifyIdle", spec := "simplifyIdle", unfollowed := true, recurses := true, apart := false, narrowed := true }
def SimplifyIdleUptoSaid : Prop := simplifyIdleUptoRow.holds Try.pinned (OpenSpec.upto simplifyIdleSpec)

/-- 'bowerlaw11.ShiftKnown', WHERE WHAT IT READS IS OF BULK AT MOST 1048576: true; the input reads as it did. -/
def shiftKnownUptoRow : OpenClaim := { program := "ytpoenlhikanooaa", sum := "16d0a66ccb1faa9bcff2cfdd1c438d1479f1b34ae7743e84bf4390ab84f30aed", func := "bower/bowerlaw11.ShiftKnown", spec := "shiftKnown", recurses := true, apart := false, narrowed := true }
def ShiftKnownUptoSaid : Prop := shiftKnownUptoRow.holds Try.pinned (OpenSpec.upto shiftKnownSpec)

/-- 'bowerlaw10.SimplifyKnown', WHERE WHAT IT READS IS OF BULK AT MOST 1048576: true; the input reads as it did. -/
def simplifyKnownUptoRow : OpenClaim := { program := "ytpoenlhikanooaa", sum := "16d0a66ccb1faa9bcff2cfdd1c438d1479f1b34ae7743e84bf4390ab84f30aed", func := "bower/bowerlaw10.SimplifyKnown", spec := "simplifyKnown", unfollowed := true, recurses := true, apart := false, narrowed := true }
def SimplifyKnownUptoSaid : Prop := simplifyKnownUptoRow.holds Try.pinned (OpenSpec.upto simplifyKnownSpec)

end Rows
end Go.Proofs.Ytpoenlhikanooaa
