/-
  NARROWER THAN 'FOR EVERY INPUT', by the rows' own cells (each row's printed sentence says how): SimplifyKeeps: loops · ShiftBetween: loops · ListsCloses: loops.
  DERIVED. THE GIVEN ROWS OF THIS SEAT. 10 by the template 'for every input the law returns true; each argument reads behind the call as it read before'; 0 by the template 'total and deterministic' (their statements: YtidimannfemnmaaTotals.lean).
  GIVEN WITH THE SEED: the statements are not yours to turn. If you find one false, say at which input.
  Laid BY PROGRAM, IN A SANDBOX (cutbox-rows.mjs): the forced cells as the released guide's own fill.sh prints them over the translation 981642eb3f13057f… (all of the seat's roots in one cut). By AI agents, Wed Nov 11 2026. No macro, syntax, notation, axiom, sorry.
-/
import Derived.Test.YtidimannfemnmaaChecked
import GoSem.Claim
import GoSem.ClaimJoined
import GoSem.ClaimMapViews
import Derived.JoinedTies
import Derived.KernelRfl
namespace Go.Proofs.Ytidimannfemnmaa
/- THE CELL 'sum', in the pinned program and in every row, IS THE sha256 OF THE DUMP (.gsa) THAT YtidimannfemnmaaProg.lean LOADS. Nothing in Lean hashes anything: it is a label: what it is worth is what the hold of that sum in a sandbox is worth. -/
noncomputable def Try.pinned : Pinned := { name := "ytidimannfemnmaa", sum := "981642eb3f13057f4ca620e6b298f001e4381c82b8aa53fe3b604291d83220fe", checked := Try.checked }
namespace Rows
def none {H : Type} : Left H := { results := [], args := [] }

/-- 'bowerlaw05.LeaftextCompose': WHATEVER THE INPUT: true; the input reads as it did. -/
def leaftextComposeSpec : ChangeSpec := { name := "leaftextCompose", fn := fun _ => fun
  | [d1, d2, d3] => { results := [.lit (.bool true)], args := [d1, d2, d3] }
  | _ => none }
def leaftextComposeRow : OpenClaim := { program := "ytidimannfemnmaa", sum := "981642eb3f13057f4ca620e6b298f001e4381c82b8aa53fe3b604291d83220fe", func := "bower/bowerlaw05.LeaftextCompose", spec := "leaftextCompose", inPlace := ["internal/abi.NoEscape"], unfollowed := true, recurses := true, apart := false }
def LeaftextComposeSaid : Prop := leaftextComposeRow.holds Try.pinned (OpenSpec.ofChange leaftextComposeSpec)

/-- ITS FALSE NEIGHBOUR: 'it returns false'. Refute it at one input. -/
def leaftextComposeWrong : ChangeSpec := { name := "leaftextCompose", fn := fun _ => fun
  | [d1, d2, d3] => { results := [.lit (.bool false)], args := [d1, d2, d3] }
  | _ => none }
def LeaftextComposeWrongFalsely : Prop := leaftextComposeRow.holds Try.pinned (OpenSpec.ofChange leaftextComposeWrong)

/-- 'bowerlaw06.PlainKnown': WHATEVER THE INPUT: true; the input reads as it did. -/
def plainKnownSpec : ChangeSpec := { name := "plainKnown", fn := fun _ => fun
  | [] => { results := [.lit (.bool true)], args := [] }
  | _ => none }
def plainKnownRow : OpenClaim := { program := "ytidimannfemnmaa", sum := "981642eb3f13057f4ca620e6b298f001e4381c82b8aa53fe3b604291d83220fe", func := "bower/bowerlaw06.PlainKnown", spec := "plainKnown", unfollowed := true, recurses := true, apart := false }
def PlainKnownSaid : Prop := plainKnownRow.holds Try.pinned (OpenSpec.ofChange plainKnownSpec)

/-- ITS FALSE NEIGHBOUR: 'it returns false'. Refute it at one input. -/
def plainKnownWrong : ChangeSpec := { name := "plainKnown", fn := fun _ => fun
  | [] => { results := [.lit (.bool false)], args := [] }
  | _ => none }
def PlainKnownWrongFalsely : Prop := plainKnownRow.holds Try.pinned (OpenSpec.ofChange plainKnownWrong)

/-- 'bowerlaw10.SimplifyPair': WHATEVER THE INPUT: true; the input reads as it did. -/
def simplifyPairSpec : ChangeSpec := { name := "simplifyPair", fn := fun _ => fun
  | [d1, d2] => { results := [.lit (.bool true)], args := [d1, d2] }
  | _ => none }
def simplifyPairRow : OpenClaim := { program := "ytidimannfemnmaa", sum := "981642eb3f13057f4ca620e6b298f001e4381c82b8aa53fe3b604291d83220fe", func := "bower/bowerlaw10.SimplifyPair", spec := "simplifyPair", unfollowed := true, recurses := true, apart := false }
def SimplifyPairSaid : Prop := simplifyPairRow.holds Try.pinned (OpenSpec.ofChange simplifyPairSpec)

/-- ITS FALSE NEIGHBOUR: 'it returns false'. Refute it at one input. -/
def simplifyPairWrong : ChangeSpec := { name := "simplifyPair", fn := fun _ => fun
  | [d1, d2] => { results := [.lit (.bool false)], args := [d1, d2] }
  | _ => none }
def SimplifyPairWrongFalsely : Prop := simplifyPairRow.holds Try.pinned (OpenSpec.ofChange simplifyPairWrong)

/-- 'bowerlaw10.SimplifyList': WHATEVER THE INPUT: true; the input reads as it did. -/
def simplifyListSpec : ChangeSpec := { name := "simplifyList", fn := fun _ => fun
  | [d] => { results := [.lit (.bool true)], args := [d] }
  | _ => none }
def simplifyListRow : OpenClaim := { program := "ytidimannfemnmaa", sum := "981642eb3f13057f4ca620e6b298f001e4381c82b8aa53fe3b604291d83220fe", func := "bower/bowerlaw10.SimplifyList", spec := "simplifyList", unfollowed := true, recurses := true, apart := false }
def SimplifyListSaid : Prop := simplifyListRow.holds Try.pinned (OpenSpec.ofChange simplifyListSpec)

/-- ITS FALSE NEIGHBOUR: 'it returns false'. Refute it at one input. -/
def simplifyListWrong : ChangeSpec := { name := "simplifyList", fn := fun _ => fun
  | [d] => { results := [.lit (.bool false)], args := [d] }
  | _ => none }
def SimplifyListWrongFalsely : Prop := simplifyListRow.holds Try.pinned (OpenSpec.ofChange simplifyListWrong)

/-- 'bowerlaw10.SimplifyKeeps': WHATEVER THE INPUT: true; the input reads as it did. -/
def simplifyKeepsSpec : ChangeSpec := { name := "simplifyKeeps", fn := fun _ => fun
  | [d1, d2] => { results := [.lit (.bool true)], args := [d1, d2] }
  | _ => none }
def simplifyKeepsRow : OpenClaim := { program := "ytidimannfemnmaa", sum := "981642eb3f13057f4ca620e6b298f001e4381c82b8aa53fe3b604291d83220fe", func := "bower/bowerlaw10.SimplifyKeeps", spec := "simplifyKeeps", unfollowed := true, recurses := true, loops := true, apart := false }
def SimplifyKeepsSaid : Prop := simplifyKeepsRow.holds Try.pinned (OpenSpec.ofChange simplifyKeepsSpec)

/-- ITS FALSE NEIGHBOUR: 'it returns false'. Refute it at one input. -/
def simplifyKeepsWrong : ChangeSpec := { name := "simplifyKeeps", fn := fun _ => fun
  | [d1, d2] => { results := [.lit (.bool false)], args := [d1, d2] }
  | _ => none }
def SimplifyKeepsWrongFalsely : Prop := simplifyKeepsRow.holds Try.pinned (OpenSpec.ofChange simplifyKeepsWrong)

/-- 'bowerlaw11.ShiftBetween': WHATEVER THE INPUT: true; the input reads as it did. -/
def shiftBetweenSpec : ChangeSpec := { name := "shiftBetween", fn := fun _ => fun
  | [d1, d2, d3] => { results := [.lit (.bool true)], args := [d1, d2, d3] }
  | _ => none }
def shiftBetweenRow : OpenClaim := { program := "ytidimannfemnmaa", sum := "981642eb3f13057f4ca620e6b298f001e4381c82b8aa53fe3b604291d83220fe", func := "bower/bowerlaw11.ShiftBetween", spec := "shiftBetween", recurses := true, loops := true, apart := false }
def ShiftBetweenSaid : Prop := shiftBetweenRow.holds Try.pinned (OpenSpec.ofChange shiftBetweenSpec)

/-- ITS FALSE NEIGHBOUR: 'it returns false'. Refute it at one input. -/
def shiftBetweenWrong : ChangeSpec := { name := "shiftBetween", fn := fun _ => fun
  | [d1, d2, d3] => { results := [.lit (.bool false)], args := [d1, d2, d3] }
  | _ => none }
def ShiftBetweenWrongFalsely : Prop := shiftBetweenRow.holds Try.pinned (OpenSpec.ofChange shiftBetweenWrong)

/-- 'bowerlaw12.SquareBoth': WHATEVER THE INPUT: true; the input reads as it did. -/
def squareBothSpec : ChangeSpec := { name := "squareBoth", fn := fun _ => fun
  | [d1, d2, d3] => { results := [.lit (.bool true)], args := [d1, d2, d3] }
  | _ => none }
def squareBothRow : OpenClaim := { program := "ytidimannfemnmaa", sum := "981642eb3f13057f4ca620e6b298f001e4381c82b8aa53fe3b604291d83220fe", func := "bower/bowerlaw12.SquareBoth", spec := "squareBoth", unfollowed := true, recurses := true, apart := false }
def SquareBothSaid : Prop := squareBothRow.holds Try.pinned (OpenSpec.ofChange squareBothSpec)

/-- ITS FALSE NEIGHBOUR: 'it returns false'. Refute it at one input. -/
def squareBothWrong : ChangeSpec := { name := "squareBoth", fn := fun _ => fun
  | [d1, d2, d3] => { results := [.lit (.bool false)], args := [d1, d2, d3] }
  | _ => none }
def SquareBothWrongFalsely : Prop := squareBothRow.holds Try.pinned (OpenSpec.ofChange squareBothWrong)

/-- 'bowerlaw13.ListsCloses': WHATEVER THE INPUT: true; the input reads as it did. -/
def listsClosesSpec : ChangeSpec := { name := "listsCloses", fn := fun _ => fun
  | [d1, d2, d3, d4] => { results := [.lit (.bool true)], args := [d1, d2, d3, d4] }
  | _ => none }
def listsClosesRow : OpenClaim := { program := "ytidimannfemnmaa", sum := "981642eb3f13057f4ca620e6b298f001e4381c82b8aa53fe3b604291d83220fe", func := "bower/bowerlaw13.ListsCloses", spec := "listsCloses", inPlace := ["slices.overlaps[bower/api.Op]"], unfollowed := true, recurses := true, loops := true, apart := false }
def ListsClosesSaid : Prop := listsClosesRow.holds Try.pinned (OpenSpec.ofChange listsClosesSpec)

/-- ITS FALSE NEIGHBOUR: 'it returns false'. Refute it at one input. -/
def listsClosesWrong : ChangeSpec := { name := "listsCloses", fn := fun _ => fun
  | [d1, d2, d3, d4] => { results := [.lit (.bool false)], args := [d1, d2, d3, d4] }
  | _ => none }
def ListsClosesWrongFalsely : Prop := listsClosesRow.holds Try.pinned (OpenSpec.ofChange listsClosesWrong)

/-- 'bowerlaw13.ListsJoined': WHATEVER THE INPUT: true; the input reads as it did. -/
def listsJoinedSpec : ChangeSpec := { name := "listsJoined", fn := fun _ => fun
  | [d1, d2, d3, d4] => { results := [.lit (.bool true)], args := [d1, d2, d3, d4] }
  | _ => none }
def listsJoinedRow : OpenClaim := { program := "ytidimannfemnmaa", sum := "981642eb3f13057f4ca620e6b298f001e4381c82b8aa53fe3b604291d83220fe", func := "bower/bowerlaw13.ListsJoined", spec := "listsJoined", inPlace := ["slices.overlaps[bower/api.Op]"], unfollowed := true, recurses := true, apart := false }
def ListsJoinedSaid : Prop := listsJoinedRow.holds Try.pinned (OpenSpec.ofChange listsJoinedSpec)

/-- ITS FALSE NEIGHBOUR: 'it returns false'. Refute it at one input. -/
def listsJoinedWrong : ChangeSpec := { name := "listsJoined", fn := fun _ => fun
  | [d1, d2, d3, d4] => { results := [.lit (.bool false)], args := [d1, d2, d3, d4] }
  | _ => none }
def ListsJoinedWrongFalsely : Prop := listsJoinedRow.holds Try.pinned (OpenSpec.ofChange listsJoinedWrong)

/-- 'bowerlaw13.ListsSame': WHATEVER THE INPUT: true; the input reads as it did. -/
def listsSameSpec : ChangeSpec := { name := "listsSame", fn := fun _ => fun
  | [d1, d2] => { results := [.lit (.bool true)], args := [d1, d2] }
  | _ => none }
def listsSameRow : OpenClaim := { program := "ytidimannfemnmaa", sum := "981642eb3f13057f4ca620e6b298f001e4381c82b8aa53fe3b604291d83220fe", func := "bower/bowerlaw13.ListsSame", spec := "listsSame", inPlace := ["slices.overlaps[bower/api.Op]"], unfollowed := true, recurses := true, apart := false }
def ListsSameSaid : Prop := listsSameRow.holds Try.pinned (OpenSpec.ofChange listsSameSpec)

/-- ITS FALSE NEIGHBOUR: 'it returns false'. Refute it at one input. -/
def listsSameWrong : ChangeSpec := { name := "listsSame", fn := fun _ => fun
  | [d1, d2] => { results := [.lit (.bool false)], args := [d1, d2] }
  | _ => none }
def ListsSameWrongFalsely : Prop := listsSameRow.holds Try.pinned (OpenSpec.ofChange listsSameWrong)

/- THE SECOND FORM. 'bulk': how many values and letters a reading holds, each counted each time it is reached (what is shared counts as often as it is met; a slice's spare places count too). A statement '..UptoSaid' is the law's where the arguments, and the package variables that the reading takes, are together of bulk at most 1048576: NARROWER than '..Said'. Prove '..Said' where nothing that the law and all that it calls make is longer than what came in: it says more and counts as full. Else prove '..UptoSaid'. A law counts once. -/
mutual
def uptoBulk {H : Type} : DataW H → Nat
  | .lit (.string bytes) => bytes.length + 1
  | .lit _ => 1
  | .nil => 1
  | .ptr d => uptoBulk d + 1
  | .slice elems spare => uptoBulkAll elems + uptoBulkAll spare + 1
  | .agg parts => uptoBulkAll parts + 1
  | .iface _ d => uptoBulk d + 1
  | .map entries => uptoBulkEntries entries + 1
  | .held _ => 1
def uptoBulkAll {H : Type} : List (DataW H) → Nat
  | [] => 0
  | d :: r => uptoBulk d + uptoBulkAll r
def uptoBulkEntries {H : Type} : List (Lit × DataW H) → Nat
  | [] => 0
  | x :: r => uptoBulkEntry x + uptoBulkEntries r
def uptoBulkEntry {H : Type} : Lit × DataW H → Nat
  | (.string bytes, d) => bytes.length + uptoBulk d + 1
  | (_, d) => uptoBulk d + 1
 end
def uptoSmall : (H : Type) → List (DataW H) → Bool := fun _ ds => decide (uptoBulkAll ds ≤ 1048576)
def OpenSpec.upto (s : _root_.Go.ChangeSpec) : _root_.Go.OpenSpec := { _root_.Go.OpenSpec.ofChange s with cond := some uptoSmall }

/-- 'bowerlaw05.LeaftextCompose', WHERE WHAT IT READS IS OF BULK AT MOST 1048576: true; the input reads as it did. -/
def leaftextComposeUptoRow : OpenClaim := { program := "ytidimannfemnmaa", sum := "981642eb3f13057f4ca620e6b298f001e4381c82b8aa53fe3b604291d83220fe", func := "bower/bowerlaw05.LeaftextCompose", spec := "leaftextCompose", inPlace := ["internal/abi.NoEscape"], unfollowed := true, recurses := true, apart := false, narrowed := true }
def LeaftextComposeUptoSaid : Prop := leaftextComposeUptoRow.holds Try.pinned (OpenSpec.upto leaftextComposeSpec)

/-- 'bowerlaw06.PlainKnown', WHERE WHAT IT READS IS OF BULK AT MOST 1048576: true; the input reads as it did. -/
def plainKnownUptoRow : OpenClaim := { program := "ytidimannfemnmaa", sum := "981642eb3f13057f4ca620e6b298f001e4381c82b8aa53fe3b604291d83220fe", func := "bower/bowerlaw06.PlainKnown", spec := "plainKnown", unfollowed := true, recurses := true, apart := false, narrowed := true }
def PlainKnownUptoSaid : Prop := plainKnownUptoRow.holds Try.pinned (OpenSpec.upto plainKnownSpec)

/-- 'bowerlaw10.SimplifyPair', WHERE WHAT IT READS IS OF BULK AT MOST 1048576: true; the input reads as it did. -/
def simplifyPairUptoRow : OpenClaim := { program := "ytidimannfemnmaa", sum := "981642eb3f13057f4ca620e6b298f001e4381c82b8aa53fe3b604291d83220fe", func := "bower/bowerlaw10.SimplifyPair", spec := "simplifyPair", unfollowed := true, recurses := true, apart := false, narrowed := true }
def SimplifyPairUptoSaid : Prop := simplifyPairUptoRow.holds Try.pinned (OpenSpec.upto simplifyPairSpec)

/-- 'bowerlaw10.SimplifyList', WHERE WHAT IT READS IS OF BULK AT MOST 1048576: true; the input reads as it did. -/
def simplifyListUptoRow : OpenClaim := { program := "ytidimannfemnmaa", sum := "981642eb3f13057f4ca620e6b298f001e4381c82b8aa53fe3b604291d83220fe", func := "bower/bowerlaw10.SimplifyList", spec := "simplifyList", unfollowed := true, recurses := true, apart := false, narrowed := true }
def SimplifyListUptoSaid : Prop := simplifyListUptoRow.holds Try.pinned (OpenSpec.upto simplifyListSpec)

/-- 'bowerlaw10.SimplifyKeeps', WHERE WHAT IT READS IS OF BULK AT MOST 1048576: true; the input reads as it did. -/
def simplifyKeepsUptoRow : OpenClaim := { program := "ytidimannfemnmaa", sum := "981642eb3f13057f4ca620e6b298f001e4381c82b8aa53fe3b604291d83220fe", func := "bower/bowerlaw10.SimplifyKeeps", spec := "simplifyKeeps", unfollowed := true, recurses := true, loops := true, apart := false, narrowed := true }
def SimplifyKeepsUptoSaid : Prop := simplifyKeepsUptoRow.holds Try.pinned (OpenSpec.upto simplifyKeepsSpec)

/-- 'bowerlaw11.ShiftBetween', WHERE WHAT IT READS IS OF BULK AT MOST 1048576: true; the input reads as it did. -/
def shiftBetweenUptoRow : OpenClaim := { program := "ytidimannfemnmaa", sum := "981642eb3f13057f4ca620e6b298f001e4381c82b8aa53fe3b604291d83220fe", func := "bower/bowerlaw11.ShiftBetween", spec := "shiftBetween", recurses := true, loops := true, apart := false, narrowed := true }
def ShiftBetweenUptoSaid : Prop := shiftBetweenUptoRow.holds Try.pinned (OpenSpec.upto shiftBetweenSpec)

/-- 'bowerlaw12.SquareBoth', WHERE WHAT IT READS IS OF BULK AT MOST 1048576: true; the input reads as it did. -/
def squareBothUptoRow : OpenClaim := { program := "ytidimannfemnmaa", sum := "981642eb3f13057f4ca620e6b298f001e4381c82b8aa53fe3b604291d83220fe", func := "bower/bowerlaw12.SquareBoth", spec := "squareBoth", unfollowed := true, recurses := true, apart := false, narrowed := true }
def SquareBothUptoSaid : Prop := squareBothUptoRow.holds Try.pinned (OpenSpec.upto squareBothSpec)

/-- 'bowerlaw13.ListsCloses', WHERE WHAT IT READS IS OF BULK AT MOST 1048576: true; the input reads as it did. -/
def listsClosesUptoRow : OpenClaim := { program := "ytidimannfemnmaa", sum := "981642eb3f13057f4ca620e6b298f001e4381c82b8aa53fe3b604291d83220fe", func := "bower/bowerlaw13.ListsCloses", spec := "listsCloses", inPlace := ["slices.overlaps[bower/api.Op]"], unfollowed := true, recurses := true, loops := true, apart := false, narrowed := true }
def ListsClosesUptoSaid : Prop := listsClosesUptoRow.holds Try.pinned (OpenSpec.upto listsClosesSpec)

/-- 'bowerlaw13.ListsJoined', WHERE WHAT IT READS IS OF BULK AT MOST 1048576: true; the input reads as it did. -/
def listsJoinedUptoRow : OpenClaim := { program := "ytidimannfemnmaa", sum := "981642eb3f13057f4ca620e6b298f001e4381c82b8aa53fe3b604291d83220fe", func := "bower/bowerlaw13.ListsJoined", spec := "listsJoined", inPlace := ["slices.overlaps[bower/api.Op]"], unfollowed := true, recurses := true, apart := false, narrowed := true }
def ListsJoinedUptoSaid : Prop := listsJoinedUptoRow.holds Try.pinned (OpenSpec.upto listsJoinedSpec)

/-- 'bowerlaw13.ListsSame', WHERE WHAT IT READS IS OF BULK AT MOST 1048576: true; the input reads as it did. -/
def listsSameUptoRow : OpenClaim := { program := "ytidimannfemnmaa", sum := "981642eb3f13057f4ca620e6b298f001e4381c82b8aa53fe3b604291d83220fe", func := "bower/bowerlaw13.ListsSame", spec := "listsSame", inPlace := ["slices.overlaps[bower/api.Op]"], unfollowed := true, recurses := true, apart := false, narrowed := true }
def ListsSameUptoSaid : Prop := listsSameUptoRow.holds Try.pinned (OpenSpec.upto listsSameSpec)

end Rows
end Go.Proofs.Ytidimannfemnmaa
