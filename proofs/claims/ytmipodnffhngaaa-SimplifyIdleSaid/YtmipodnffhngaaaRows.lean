/-
  NARROWER THAN 'FOR EVERY INPUT', by the rows' own cells (each row's printed sentence says how): TreeopsValid: loops · TreeopsApply: loops · TreeopsAll: loops · TreeopsSame: loops · TreeopsRight: loops · TreeopsMoved: loops.
  DERIVED. THE GIVEN ROWS OF THIS SEAT. 10 by the template 'for every input the law returns true; each argument reads behind the call as it read before'; 0 by the template 'total and deterministic' (their statements: YtmipodnffhngaaaTotals.lean).
  GIVEN WITH THE SEED: the statements are not yours to turn. If you find one false, say at which input.
  Laid BY PROGRAM, IN A SANDBOX (cutbox-rows.mjs): the forced cells as the released guide's own fill.sh prints them over the translation 0da10907e269a1ab… (all of the seat's roots in one cut). By AI agents, Wed Nov 11 2026. No macro, syntax, notation, axiom, sorry.
-/
import Derived.Test.YtmipodnffhngaaaChecked
import GoSem.Claim
import GoSem.ClaimJoined
import GoSem.ClaimMapViews
import Derived.JoinedTies
import Derived.KernelRfl
namespace Go.Proofs.Ytmipodnffhngaaa
/- THE CELL 'sum', in the pinned program and in every row, IS THE sha256 OF THE DUMP (.gsa) THAT YtmipodnffhngaaaProg.lean LOADS. Nothing in Lean hashes anything: it is a label: what it is worth is what the hold of that sum in a sandbox is worth. -/
noncomputable def Try.pinned : Pinned := { name := "ytmipodnffhngaaa", sum := "0da10907e269a1abd36ab573fa06660a2dc3ebcd271742d3aed94db15c297e9f", checked := Try.checked }
namespace Rows
def none {H : Type} : Left H := { results := [], args := [] }

/-- 'bowerlaw08.TreeopsFormed': WHATEVER THE INPUT: true; the input reads as it did. -/
def treeopsFormedSpec : ChangeSpec := { name := "treeopsFormed", fn := fun _ => fun
  | [d] => { results := [.lit (.bool true)], args := [d] }
  | _ => none }
def treeopsFormedRow : OpenClaim := { program := "ytmipodnffhngaaa", sum := "0da10907e269a1abd36ab573fa06660a2dc3ebcd271742d3aed94db15c297e9f", func := "bower/bowerlaw08.TreeopsFormed", spec := "treeopsFormed", inPlace := ["internal/abi.NoEscape"], unfollowed := true, recurses := true, apart := false }
def TreeopsFormedSaid : Prop := treeopsFormedRow.holds Try.pinned (OpenSpec.ofChange treeopsFormedSpec)

/-- ITS FALSE NEIGHBOUR: 'it returns false'. Refute it at one input. -/
def treeopsFormedWrong : ChangeSpec := { name := "treeopsFormed", fn := fun _ => fun
  | [d] => { results := [.lit (.bool false)], args := [d] }
  | _ => none }
def TreeopsFormedWrongFalsely : Prop := treeopsFormedRow.holds Try.pinned (OpenSpec.ofChange treeopsFormedWrong)

/-- 'bowerlaw08.TreeopsValid': WHATEVER THE INPUT: true; the input reads as it did. -/
def treeopsValidSpec : ChangeSpec := { name := "treeopsValid", fn := fun _ => fun
  | [d1, d2] => { results := [.lit (.bool true)], args := [d1, d2] }
  | _ => none }
def treeopsValidRow : OpenClaim := { program := "ytmipodnffhngaaa", sum := "0da10907e269a1abd36ab573fa06660a2dc3ebcd271742d3aed94db15c297e9f", func := "bower/bowerlaw08.TreeopsValid", spec := "treeopsValid", inPlace := ["internal/abi.NoEscape"], unfollowed := true, recurses := true, loops := true, apart := false }
def TreeopsValidSaid : Prop := treeopsValidRow.holds Try.pinned (OpenSpec.ofChange treeopsValidSpec)

/-- ITS FALSE NEIGHBOUR: 'it returns false'. Refute it at one input. -/
def treeopsValidWrong : ChangeSpec := { name := "treeopsValid", fn := fun _ => fun
  | [d1, d2] => { results := [.lit (.bool false)], args := [d1, d2] }
  | _ => none }
def TreeopsValidWrongFalsely : Prop := treeopsValidRow.holds Try.pinned (OpenSpec.ofChange treeopsValidWrong)

/-- 'bowerlaw08.TreeopsApply': WHATEVER THE INPUT: true; the input reads as it did. -/
def treeopsApplySpec : ChangeSpec := { name := "treeopsApply", fn := fun _ => fun
  | [d1, d2] => { results := [.lit (.bool true)], args := [d1, d2] }
  | _ => none }
def treeopsApplyRow : OpenClaim := { program := "ytmipodnffhngaaa", sum := "0da10907e269a1abd36ab573fa06660a2dc3ebcd271742d3aed94db15c297e9f", func := "bower/bowerlaw08.TreeopsApply", spec := "treeopsApply", inPlace := ["internal/abi.NoEscape"], unfollowed := true, recurses := true, loops := true, apart := false }
def TreeopsApplySaid : Prop := treeopsApplyRow.holds Try.pinned (OpenSpec.ofChange treeopsApplySpec)

/-- ITS FALSE NEIGHBOUR: 'it returns false'. Refute it at one input. -/
def treeopsApplyWrong : ChangeSpec := { name := "treeopsApply", fn := fun _ => fun
  | [d1, d2] => { results := [.lit (.bool false)], args := [d1, d2] }
  | _ => none }
def TreeopsApplyWrongFalsely : Prop := treeopsApplyRow.holds Try.pinned (OpenSpec.ofChange treeopsApplyWrong)

/-- 'bowerlaw08.TreeopsAll': WHATEVER THE INPUT: true; the input reads as it did. -/
def treeopsAllSpec : ChangeSpec := { name := "treeopsAll", fn := fun _ => fun
  | [d1, d2] => { results := [.lit (.bool true)], args := [d1, d2] }
  | _ => none }
def treeopsAllRow : OpenClaim := { program := "ytmipodnffhngaaa", sum := "0da10907e269a1abd36ab573fa06660a2dc3ebcd271742d3aed94db15c297e9f", func := "bower/bowerlaw08.TreeopsAll", spec := "treeopsAll", inPlace := ["internal/abi.NoEscape"], unfollowed := true, recurses := true, loops := true, apart := false }
def TreeopsAllSaid : Prop := treeopsAllRow.holds Try.pinned (OpenSpec.ofChange treeopsAllSpec)

/-- ITS FALSE NEIGHBOUR: 'it returns false'. Refute it at one input. -/
def treeopsAllWrong : ChangeSpec := { name := "treeopsAll", fn := fun _ => fun
  | [d1, d2] => { results := [.lit (.bool false)], args := [d1, d2] }
  | _ => none }
def TreeopsAllWrongFalsely : Prop := treeopsAllRow.holds Try.pinned (OpenSpec.ofChange treeopsAllWrong)

/-- 'bowerlaw08.TreeopsSame': WHATEVER THE INPUT: true; the input reads as it did. -/
def treeopsSameSpec : ChangeSpec := { name := "treeopsSame", fn := fun _ => fun
  | [d1, d2, d3] => { results := [.lit (.bool true)], args := [d1, d2, d3] }
  | _ => none }
def treeopsSameRow : OpenClaim := { program := "ytmipodnffhngaaa", sum := "0da10907e269a1abd36ab573fa06660a2dc3ebcd271742d3aed94db15c297e9f", func := "bower/bowerlaw08.TreeopsSame", spec := "treeopsSame", inPlace := ["internal/abi.NoEscape"], unfollowed := true, recurses := true, loops := true, apart := false }
def TreeopsSameSaid : Prop := treeopsSameRow.holds Try.pinned (OpenSpec.ofChange treeopsSameSpec)

/-- ITS FALSE NEIGHBOUR: 'it returns false'. Refute it at one input. -/
def treeopsSameWrong : ChangeSpec := { name := "treeopsSame", fn := fun _ => fun
  | [d1, d2, d3] => { results := [.lit (.bool false)], args := [d1, d2, d3] }
  | _ => none }
def TreeopsSameWrongFalsely : Prop := treeopsSameRow.holds Try.pinned (OpenSpec.ofChange treeopsSameWrong)

/-- 'bowerlaw08.TreeopsRight': WHATEVER THE INPUT: true; the input reads as it did. -/
def treeopsRightSpec : ChangeSpec := { name := "treeopsRight", fn := fun _ => fun
  | [d1, d2] => { results := [.lit (.bool true)], args := [d1, d2] }
  | _ => none }
def treeopsRightRow : OpenClaim := { program := "ytmipodnffhngaaa", sum := "0da10907e269a1abd36ab573fa06660a2dc3ebcd271742d3aed94db15c297e9f", func := "bower/bowerlaw08.TreeopsRight", spec := "treeopsRight", inPlace := ["internal/abi.NoEscape"], unfollowed := true, recurses := true, loops := true, apart := false }
def TreeopsRightSaid : Prop := treeopsRightRow.holds Try.pinned (OpenSpec.ofChange treeopsRightSpec)

/-- ITS FALSE NEIGHBOUR: 'it returns false'. Refute it at one input. -/
def treeopsRightWrong : ChangeSpec := { name := "treeopsRight", fn := fun _ => fun
  | [d1, d2] => { results := [.lit (.bool false)], args := [d1, d2] }
  | _ => none }
def TreeopsRightWrongFalsely : Prop := treeopsRightRow.holds Try.pinned (OpenSpec.ofChange treeopsRightWrong)

/-- 'bowerlaw08.TreeopsMoved': WHATEVER THE INPUT: true; the input reads as it did. -/
def treeopsMovedSpec : ChangeSpec := { name := "treeopsMoved", fn := fun _ => fun
  | [d1, d2, d3, d4] => { results := [.lit (.bool true)], args := [d1, d2, d3, d4] }
  | _ => none }
def treeopsMovedRow : OpenClaim := { program := "ytmipodnffhngaaa", sum := "0da10907e269a1abd36ab573fa06660a2dc3ebcd271742d3aed94db15c297e9f", func := "bower/bowerlaw08.TreeopsMoved", spec := "treeopsMoved", inPlace := ["internal/abi.NoEscape"], unfollowed := true, recurses := true, loops := true, apart := false }
def TreeopsMovedSaid : Prop := treeopsMovedRow.holds Try.pinned (OpenSpec.ofChange treeopsMovedSpec)

/-- ITS FALSE NEIGHBOUR: 'it returns false'. Refute it at one input. -/
def treeopsMovedWrong : ChangeSpec := { name := "treeopsMoved", fn := fun _ => fun
  | [d1, d2, d3, d4] => { results := [.lit (.bool false)], args := [d1, d2, d3, d4] }
  | _ => none }
def TreeopsMovedWrongFalsely : Prop := treeopsMovedRow.holds Try.pinned (OpenSpec.ofChange treeopsMovedWrong)

/-- 'bowerlaw10.SimplifyIdle': WHATEVER THE INPUT: true; the input reads as it did. -/
def simplifyIdleSpec : ChangeSpec := { name := "simplifyIdle", fn := fun _ => fun
  | [d] => { results := [.lit (.bool true)], args := [d] }
  | _ => none }
def simplifyIdleRow : OpenClaim := { program := "ytmipodnffhngaaa", sum := "0da10907e269a1abd36ab573fa06660a2dc3ebcd271742d3aed94db15c297e9f", func := "bower/bowerlaw10.SimplifyIdle", spec := "simplifyIdle", unfollowed := true, recurses := true, apart := false }
def SimplifyIdleSaid : Prop := simplifyIdleRow.holds Try.pinned (OpenSpec.ofChange simplifyIdleSpec)

/-- ITS FALSE NEIGHBOUR: 'it returns false'. Refute it at one input. -/
def simplifyIdleWrong : ChangeSpec := { name := "simplifyIdle", fn := fun _ => fun
  | [d] => { results := [.lit (.bool false)], args := [d] }
  | _ => none }
def SimplifyIdleWrongFalsely : Prop := simplifyIdleRow.holds Try.pinned (OpenSpec.ofChange simplifyIdleWrong)

/-- 'bowerlaw10.SimplifyPair': WHATEVER THE INPUT: true; the input reads as it did. -/
def simplifyPairSpec : ChangeSpec := { name := "simplifyPair", fn := fun _ => fun
  | [d1, d2] => { results := [.lit (.bool true)], args := [d1, d2] }
  | _ => none }
def simplifyPairRow : OpenClaim := { program := "ytmipodnffhngaaa", sum := "0da10907e269a1abd36ab573fa06660a2dc3ebcd271742d3aed94db15c297e9f", func := "bower/bowerlaw10.SimplifyPair", spec := "simplifyPair", unfollowed := true, recurses := true, apart := false }
def SimplifyPairSaid : Prop := simplifyPairRow.holds Try.pinned (OpenSpec.ofChange simplifyPairSpec)

/-- ITS FALSE NEIGHBOUR: 'it returns false'. Refute it at one input. -/
def simplifyPairWrong : ChangeSpec := { name := "simplifyPair", fn := fun _ => fun
  | [d1, d2] => { results := [.lit (.bool false)], args := [d1, d2] }
  | _ => none }
def SimplifyPairWrongFalsely : Prop := simplifyPairRow.holds Try.pinned (OpenSpec.ofChange simplifyPairWrong)

/-- 'bowerlaw10.SimplifyList': WHATEVER THE INPUT: true; the input reads as it did. -/
def simplifyListSpec : ChangeSpec := { name := "simplifyList", fn := fun _ => fun
  | [d] => { results := [.lit (.bool true)], args := [d] }
  | _ => none }
def simplifyListRow : OpenClaim := { program := "ytmipodnffhngaaa", sum := "0da10907e269a1abd36ab573fa06660a2dc3ebcd271742d3aed94db15c297e9f", func := "bower/bowerlaw10.SimplifyList", spec := "simplifyList", unfollowed := true, recurses := true, apart := false }
def SimplifyListSaid : Prop := simplifyListRow.holds Try.pinned (OpenSpec.ofChange simplifyListSpec)

/-- ITS FALSE NEIGHBOUR: 'it returns false'. Refute it at one input. -/
def simplifyListWrong : ChangeSpec := { name := "simplifyList", fn := fun _ => fun
  | [d] => { results := [.lit (.bool false)], args := [d] }
  | _ => none }
def SimplifyListWrongFalsely : Prop := simplifyListRow.holds Try.pinned (OpenSpec.ofChange simplifyListWrong)

/- THE SECOND FORM. 'bulk': how many values and letters a reading holds, each counted each time it is reached (what is shared counts as often as it is met; a slice's spare places count too). A statement '..UptoSaid' is the law's where the arguments, and the package variables that the reading takes, are together of bulk at most 1048576: NARROWER than '..Said'. Prove '..Said' where nothing that the law and all that it calls make is longer than what came in: it says more and counts as full. Else prove '..UptoSaid'. A law counts once. -/
mutual
def uptoBulk {H : Type} : DataW H → Nat
  | .lit (.string bytes) => bytes.length + 1
  | .lit _ => 1
  | .nil => 1
  | .ptr d => uptoBulk d + 1
  | .slice elems spare => uptoBulkAll elems + uptoBulkAll spare + 1
  | .agg parts => uptoBulkAll parts + 1
  | .iface _ d => uptoBulk d + 1
  | .map entries => uptoBulkEntries entries + 1
  | .held _ => 1
def uptoBulkAll {H : Type} : List (DataW H) → Nat
  | [] => 0
  | d :: r => uptoBulk d + uptoBulkAll r
def uptoBulkEntries {H : Type} : List (Lit × DataW H) → Nat
  | [] => 0
  | x :: r => uptoBulkEntry x + uptoBulkEntries r
def uptoBulkEntry {H : Type} : Lit × DataW H → Nat
  | (.string bytes, d) => bytes.length + uptoBulk d + 1
  | (_, d) => uptoBulk d + 1
 end
def uptoSmall : (H : Type) → List (DataW H) → Bool := fun _ ds => decide (uptoBulkAll ds ≤ 1048576)
def OpenSpec.upto (s : _root_.Go.ChangeSpec) : _root_.Go.OpenSpec := { _root_.Go.OpenSpec.ofChange s with cond := some uptoSmall }

/-- 'bowerlaw08.TreeopsFormed', WHERE WHAT IT READS IS OF BULK AT MOST 1048576: true; the input reads as it did. -/
def treeopsFormedUptoRow : OpenClaim := { program := "ytmipodnffhngaaa", sum := "0da10907e269a1abd36ab573fa06660a2dc3ebcd271742d3aed94db15c297e9f", func := "bower/bowerlaw08.TreeopsFormed", spec := "treeopsFormed", inPlace := ["internal/abi.NoEscape"], unfollowed := true, recurses := true, apart := false, narrowed := true }
def TreeopsFormedUptoSaid : Prop := treeopsFormedUptoRow.holds Try.pinned (OpenSpec.upto treeopsFormedSpec)

/-- 'bowerlaw08.TreeopsValid', WHERE WHAT IT READS IS OF BULK AT MOST 1048576: true; the input reads as it did. -/
def treeopsValidUptoRow : OpenClaim := { program := "ytmipodnffhngaaa", sum := "0da10907e269a1abd36ab573fa06660a2dc3ebcd271742d3aed94db15c297e9f", func := "bower/bowerlaw08.TreeopsValid", spec := "treeopsValid", inPlace := ["internal/abi.NoEscape"], unfollowed := true, recurses := true, loops := true, apart := false, narrowed := true }
def TreeopsValidUptoSaid : Prop := treeopsValidUptoRow.holds Try.pinned (OpenSpec.upto treeopsValidSpec)

/-- 'bowerlaw08.TreeopsApply', WHERE WHAT IT READS IS OF BULK AT MOST 1048576: true; the input reads as it did. -/
def treeopsApplyUptoRow : OpenClaim := { program := "ytmipodnffhngaaa", sum := "0da10907e269a1abd36ab573fa06660a2dc3ebcd271742d3aed94db15c297e9f", func := "bower/bowerlaw08.TreeopsApply", spec := "treeopsApply", inPlace := ["internal/abi.NoEscape"], unfollowed := true, recurses := true, loops := true, apart := false, narrowed := true }
def TreeopsApplyUptoSaid : Prop := treeopsApplyUptoRow.holds Try.pinned (OpenSpec.upto treeopsApplySpec)

/-- 'bowerlaw08.TreeopsAll', WHERE WHAT IT READS IS OF BULK AT MOST 1048576: true; the input reads as it did. -/
def treeopsAllUptoRow : OpenClaim := { program := "ytmipodnffhngaaa", sum := "0da10907e269a1abd36ab573fa06660a2dc3ebcd271742d3aed94db15c297e9f", func := "bower/bowerlaw08.TreeopsAll", spec := "treeopsAll", inPlace := ["internal/abi.NoEscape"], unfollowed := true, recurses := true, loops := true, apart := false, narrowed := true }
def TreeopsAllUptoSaid : Prop := treeopsAllUptoRow.holds Try.pinned (OpenSpec.upto treeopsAllSpec)

/-- 'bowerlaw08.TreeopsSame', WHERE WHAT IT READS IS OF BULK AT MOST 1048576: true; the input reads as it did. -/
def treeopsSameUptoRow : OpenClaim := { program := "ytmipodnffhngaaa", sum := "0da10907e269a1abd36ab573fa06660a2dc3ebcd271742d3aed94db15c297e9f", func := "bower/bowerlaw08.TreeopsSame", spec := "treeopsSame", inPlace := ["internal/abi.NoEscape"], unfollowed := true, recurses := true, loops := true, apart := false, narrowed := true }
def TreeopsSameUptoSaid : Prop := treeopsSameUptoRow.holds Try.pinned (OpenSpec.upto treeopsSameSpec)

/-- 'bowerlaw08.TreeopsRight', WHERE WHAT IT READS IS OF BULK AT MOST 1048576: true; the input reads as it did. -/
def treeopsRightUptoRow : OpenClaim := { program := "ytmipodnffhngaaa", sum := "0da10907e269a1abd36ab573fa06660a2dc3ebcd271742d3aed94db15c297e9f", func := "bower/bowerlaw08.TreeopsRight", spec := "treeopsRight", inPlace := ["internal/abi.NoEscape"], unfollowed := true, recurses := true, loops := true, apart := false, narrowed := true }
def TreeopsRightUptoSaid : Prop := treeopsRightUptoRow.holds Try.pinned (OpenSpec.upto treeopsRightSpec)

/-- 'bowerlaw08.TreeopsMoved', WHERE WHAT IT READS IS OF BULK AT MOST 1048576: true; the input reads as it did. -/
def treeopsMovedUptoRow : OpenClaim := { program := "ytmipodnffhngaaa", sum := "0da10907e269a1abd36ab573fa06660a2dc3ebcd271742d3aed94db15c297e9f", func := "bower/bowerlaw08.TreeopsMoved", spec := "treeopsMoved", inPlace := ["internal/abi.NoEscape"], unfollowed := true, recurses := true, loops := true, apart := false, narrowed := true }
def TreeopsMovedUptoSaid : Prop := treeopsMovedUptoRow.holds Try.pinned (OpenSpec.upto treeopsMovedSpec)

/-- 'bowerlaw10.SimplifyIdle', WHERE WHAT IT READS IS OF BULK AT MOST 1048576: true; the input reads as it did. -/
def simplifyIdleUptoRow : OpenClaim := { program := "ytmipodnffhngaaa", sum := "0da10907e269a1abd36ab573fa06660a2dc3ebcd271742d3aed94db15c297e9f", func := "bower/bowerlaw10.SimplifyIdle", spec := "simplifyIdle", unfollowed := true, recurses := true, apart := false, narrowed := true }
def SimplifyIdleUptoSaid : Prop := simplifyIdleUptoRow.holds Try.pinned (OpenSpec.upto simplifyIdleSpec)

/-- 'bowerlaw10.SimplifyPair', WHERE WHAT IT READS IS OF BULK AT MOST 1048576: true; the input reads as it did. -/
def simplifyPairUptoRow : OpenClaim := { program := "ytmipodnffhngaaa", sum := "0da10907e269a1abd36ab573fa06660a2dc3ebcd271742d3aed94db15c297e9f", func := "bower/bowerlaw10.SimplifyPair", spec := "simplifyPair", unfollowed := true, recurses := true, apart := false, narrowed := true }
def SimplifyPairUptoSaid : Prop := simplifyPairUptoRow.holds Try.pinned (OpenSpec.upto simplifyPairSpec)

/-- 'bowerlaw10.SimplifyList', WHERE WHAT IT READS IS OF BULK AT MOST 1048576: true; the input reads as it did. -/
def simplifyListUptoRow : OpenClaim := { program := "ytmipodnffhngaaa", sum := "0da10907e269a1abd36ab573fa06660a2dc3ebcd271742d3aed94db15c297e9f", func := "bower/bowerlaw10.SimplifyList", spec := "simplifyList", unfollowed := true, recurses := true, apart := false, narrowed := true }
def SimplifyListUptoSaid : Prop := simplifyListUptoRow.holds Try.pinned (OpenSpec.upto simplifyListSpec)

end Rows
end Go.Proofs.Ytmipodnffhngaaa
