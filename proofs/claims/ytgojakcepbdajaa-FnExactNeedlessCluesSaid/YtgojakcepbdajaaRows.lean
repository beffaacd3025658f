/-
  No cell of these rows narrows 'for every input' (looked for: loops, veiled, ifaces, maps, wideKeys, modest, calm, conditions, laid).
  DERIVED. THE GIVEN ROWS OF THIS SEAT. 7 by the template 'for every input the law returns true; each argument reads behind the call as it read before'; 0 by the template 'total and deterministic' (their statements: YtgojakcepbdajaaTotals.lean).
  GIVEN WITH THE SEED: the statements are not yours to turn. If you find one false, say at which input.
  Laid BY PROGRAM, IN A SANDBOX (cutbox-rows.mjs): the forced cells as the released guide's own fill.sh prints them over the translation 177a536ec115be5b… (all of the seat's roots in one cut). By AI agents, Wed Nov 11 2026. No macro, syntax, notation, axiom, sorry.
-/
import Derived.Test.YtgojakcepbdajaaChecked
import GoSem.Claim
import GoSem.ClaimJoined
import GoSem.ClaimMapViews
import Derived.JoinedTies
import Derived.KernelRfl
namespace Go.Proofs.Ytgojakcepbdajaa
/- THE CELL 'sum', in the pinned program and in every row, IS THE sha256 OF THE DUMP (.gsa) THAT YtgojakcepbdajaaProg.lean LOADS. Nothing in Lean hashes anything: it is a label: what it is worth is what the hold of that sum in a sandbox is worth. -/
noncomputable def Try.pinned : Pinned := { name := "ytgojakcepbdajaa", sum := "177a536ec115be5b8a06162d0cab6c993a6e965c2a5ee716f80660e8f04bf73a", checked := Try.checked }
namespace Rows
def none {H : Type} : Left H := { results := [], args := [] }

/-- 'laws.FnExactCountPairLists': WHATEVER THE INPUT: true; the input reads as it did. -/
def fnExactCountPairListsSpec : ChangeSpec := { name := "fnExactCountPairLists", fn := fun _ => fun
  | [d1, d2, d3] => { results := [.lit (.bool true)], args := [d1, d2, d3] }
  | _ => none }
def fnExactCountPairListsRow : OpenClaim := { program := "ytgojakcepbdajaa", sum := "177a536ec115be5b8a06162d0cab6c993a6e965c2a5ee716f80660e8f04bf73a", func := "loop.example/g01272/laws.FnExactCountPairLists", spec := "fnExactCountPairLists", unfollowed := true, recurses := true, apart := false }
def FnExactCountPairListsSaid : Prop := fnExactCountPairListsRow.holds Try.pinned (OpenSpec.ofChange fnExactCountPairListsSpec)

/-- ITS FALSE NEIGHBOUR: 'it returns false'. Refute it at one input. -/
def fnExactCountPairListsWrong : ChangeSpec := { name := "fnExactCountPairLists", fn := fun _ => fun
  | [d1, d2, d3] => { results := [.lit (.bool false)], args := [d1, d2, d3] }
  | _ => none }
def FnExactCountPairListsWrongFalsely : Prop := fnExactCountPairListsRow.holds Try.pinned (OpenSpec.ofChange fnExactCountPairListsWrong)

/-- 'laws.FnExactFirstPairList': WHATEVER THE INPUT: true; the input reads as it did. -/
def fnExactFirstPairListSpec : ChangeSpec := { name := "fnExactFirstPairList", fn := fun _ => fun
  | [d1, d2, d3] => { results := [.lit (.bool true)], args := [d1, d2, d3] }
  | _ => none }
def fnExactFirstPairListRow : OpenClaim := { program := "ytgojakcepbdajaa", sum := "177a536ec115be5b8a06162d0cab6c993a6e965c2a5ee716f80660e8f04bf73a", func := "loop.example/g01272/laws.FnExactFirstPairList", spec := "fnExactFirstPairList", unfollowed := true, recurses := true, apart := false }
def FnExactFirstPairListSaid : Prop := fnExactFirstPairListRow.holds Try.pinned (OpenSpec.ofChange fnExactFirstPairListSpec)

/-- ITS FALSE NEIGHBOUR: 'it returns false'. Refute it at one input. -/
def fnExactFirstPairListWrong : ChangeSpec := { name := "fnExactFirstPairList", fn := fun _ => fun
  | [d1, d2, d3] => { results := [.lit (.bool false)], args := [d1, d2, d3] }
  | _ => none }
def FnExactFirstPairListWrongFalsely : Prop := fnExactFirstPairListRow.holds Try.pinned (OpenSpec.ofChange fnExactFirstPairListWrong)

/-- 'laws.FnExactSureTimes': WHATEVER THE INPUT: true; the input reads as it did. -/
def fnExactSureTimesSpec : ChangeSpec := { name := "fnExactSureTimes", fn := fun _ => fun
  | [d] => { results := [.lit (.bool true)], args := [d] }
  | _ => none }
def fnExactSureTimesRow : OpenClaim := { program := "ytgojakcepbdajaa", sum := "177a536ec115be5b8a06162d0cab6c993a6e965c2a5ee716f80660e8f04bf73a", func := "loop.example/g01272/laws.FnExactSureTimes", spec := "fnExactSureTimes", unfollowed := true, recurses := true, apart := false }
def FnExactSureTimesSaid : Prop := fnExactSureTimesRow.holds Try.pinned (OpenSpec.ofChange fnExactSureTimesSpec)

/-- ITS FALSE NEIGHBOUR: 'it returns false'. Refute it at one input. -/
def fnExactSureTimesWrong : ChangeSpec := { name := "fnExactSureTimes", fn := fun _ => fun
  | [d] => { results := [.lit (.bool false)], args := [d] }
  | _ => none }
def FnExactSureTimesWrongFalsely : Prop := fnExactSureTimesRow.holds Try.pinned (OpenSpec.ofChange fnExactSureTimesWrong)

/-- 'laws.FnExactNeedlessClues': WHATEVER THE INPUT: true; the input reads as it did. -/
def fnExactNeedlessCluesSpec : ChangeSpec := { name := "fnExactNeedlessClues", fn := fun _ => fun
  | [d] => { results := [.lit (.bool true)], args := [d] }
  | _ => none }
def fnExactNeedlessCluesRow : OpenClaim := { program := "ytgojakcepbdajaa", sum := "177a536ec115be5b8a06162d0cab6c993a6e965c2a5ee716f80660e8f04bf73a", func := "loop.example/g01272/laws.FnExactNeedlessClues", spec := "fnExactNeedlessClues", unfollowed := true, recurses := true, apart := false }
def FnExactNeedlessCluesSaid : Prop := fnExactNeedlessCluesRow.holds Try.pinned (OpenSpec.ofChange fnExactNeedlessCluesSpec)

/-- ITS FALSE NEIGHBOUR: 'it returns false'. Refute it at one input. -/
def fnExactNeedlessCluesWrong : ChangeSpec := { name := "fnExactNeedlessClues", fn := fun _ => fun
  | [d] => { results := [.lit (.bool false)], args := [d] }
  | _ => none }
def FnExactNeedlessCluesWrongFalsely : Prop := fnExactNeedlessCluesRow.holds Try.pinned (OpenSpec.ofChange fnExactNeedlessCluesWrong)

/-- 'laws.FnExactBestClue': WHATEVER THE INPUT: true; the input reads as it did. -/
def fnExactBestClueSpec : ChangeSpec := { name := "fnExactBestClue", fn := fun _ => fun
  | [d] => { results := [.lit (.bool true)], args := [d] }
  | _ => none }
def fnExactBestClueRow : OpenClaim := { program := "ytgojakcepbdajaa", sum := "177a536ec115be5b8a06162d0cab6c993a6e965c2a5ee716f80660e8f04bf73a", func := "loop.example/g01272/laws.FnExactBestClue", spec := "fnExactBestClue", unfollowed := true, recurses := true, apart := false }
def FnExactBestClueSaid : Prop := fnExactBestClueRow.holds Try.pinned (OpenSpec.ofChange fnExactBestClueSpec)

/-- ITS FALSE NEIGHBOUR: 'it returns false'. Refute it at one input. -/
def fnExactBestClueWrong : ChangeSpec := { name := "fnExactBestClue", fn := fun _ => fun
  | [d] => { results := [.lit (.bool false)], args := [d] }
  | _ => none }
def FnExactBestClueWrongFalsely : Prop := fnExactBestClueRow.holds Try.pinned (OpenSpec.ofChange fnExactBestClueWrong)

/-- 'laws.FnExactHarderPuzzle': WHATEVER THE INPUT: true; the input reads as it did. -/
def fnExactHarderPuzzleSpec : ChangeSpec := { name := "fnExactHarderPuzzle", fn := fun _ => fun
  | [d] => { results := [.lit (.bool true)], args := [d] }
  | _ => none }
def fnExactHarderPuzzleRow : OpenClaim := { program := "ytgojakcepbdajaa", sum := "177a536ec115be5b8a06162d0cab6c993a6e965c2a5ee716f80660e8f04bf73a", func := "loop.example/g01272/laws.FnExactHarderPuzzle", spec := "fnExactHarderPuzzle", unfollowed := true, recurses := true, apart := false }
def FnExactHarderPuzzleSaid : Prop := fnExactHarderPuzzleRow.holds Try.pinned (OpenSpec.ofChange fnExactHarderPuzzleSpec)

/-- ITS FALSE NEIGHBOUR: 'it returns false'. Refute it at one input. -/
def fnExactHarderPuzzleWrong : ChangeSpec := { name := "fnExactHarderPuzzle", fn := fun _ => fun
  | [d] => { results := [.lit (.bool false)], args := [d] }
  | _ => none }
def FnExactHarderPuzzleWrongFalsely : Prop := fnExactHarderPuzzleRow.holds Try.pinned (OpenSpec.ofChange fnExactHarderPuzzleWrong)

/-- 'laws.FnExactMakePuzzle': WHATEVER THE INPUT: true; the input reads as it did. -/
def fnExactMakePuzzleSpec : ChangeSpec := { name := "fnExactMakePuzzle", fn := fun _ => fun
  | [d1, d2, d3] => { results := [.lit (.bool true)], args := [d1, d2, d3] }
  | _ => none }
def fnExactMakePuzzleRow : OpenClaim := { program := "ytgojakcepbdajaa", sum := "177a536ec115be5b8a06162d0cab6c993a6e965c2a5ee716f80660e8f04bf73a", func := "loop.example/g01272/laws.FnExactMakePuzzle", spec := "fnExactMakePuzzle", unfollowed := true, recurses := true, apart := false }
def FnExactMakePuzzleSaid : Prop := fnExactMakePuzzleRow.holds Try.pinned (OpenSpec.ofChange fnExactMakePuzzleSpec)

/-- ITS FALSE NEIGHBOUR: 'it returns false'. Refute it at one input. -/
def fnExactMakePuzzleWrong : ChangeSpec := { name := "fnExactMakePuzzle", fn := fun _ => fun
  | [d1, d2, d3] => { results := [.lit (.bool false)], args := [d1, d2, d3] }
  | _ => none }
def FnExactMakePuzzleWrongFalsely : Prop := fnExactMakePuzzleRow.holds Try.pinned (OpenSpec.ofChange fnExactMakePuzzleWrong)

/- THE SECOND FORM. 'bulk': how many values and letters a reading holds, each counted each time it is reached (what is shared counts as often as it is met; a slice's spare places count too). A statement '..UptoSaid' is the law's where the arguments, and the package variables that the reading takes, are together of bulk at most 1048576: NARROWER than '..Said'. Prove '..Said' where nothing that the law and all that it calls make is longer than what came in: it says more and counts as full. Else prove '..UptoSaid'. A law counts once. -/
mutual
def uptoBulk {H : Type} : DataW H → Nat
  | .lit (.string bytes) => bytes.length + 1
  | .lit _ => 1
  | .nil => 1
  | .ptr d => uptoBulk d + 1
  | .slice elems spare => uptoBulkAll elems + uptoBulkAll spare + 1
  | .agg parts => uptoBulkAll parts + 1
  | .iface _ d => uptoBulk d + 1
  | .map entries => uptoBulkEntries entries + 1
  | .held _ => 1
def uptoBulkAll {H : Type} : List (DataW H) → Nat
  | [] => 0
  | d :: r => uptoBulk d + uptoBulkAll r
def uptoBulkEntries {H : Type} : List (Lit × DataW H) → Nat
  | [] => 0
  | x :: r => uptoBulkEntry x + uptoBulkEntries r
def uptoBulkEntry {H : Type} : Lit × DataW H → Nat
  | (.string bytes, d) => bytes.length + uptoBulk d + 1
  | (_, d) => uptoBulk d + 1
 end
def uptoSmall : (H : Type) → List (DataW H) → Bool := fun _ ds => decide (uptoBulkAll ds ≤ 1048576)
def OpenSpec.upto (s : _root_.Go.ChangeSpec) : _root_.Go.OpenSpec := { _root_.Go.OpenSpec.ofChange s with cond := some uptoSmall }

/-- 'laws.FnExactCountPairLists', WHERE WHAT IT READS IS OF BULK AT MOST 1048576: true; the input reads as it did. -/
def fnExactCountPairListsUptoRow : OpenClaim := { program := "ytgojakcepbdajaa", sum := "177a536ec115be5b8a06162d0cab6c993a6e965c2a5ee716f80660e8f04bf73a", func := "loop.example/g01272/laws.FnExactCountPairLists", spec := "fnExactCountPairLists", unfollowed := true, recurses := true, apart := false, narrowed := true }
def FnExactCountPairListsUptoSaid : Prop := fnExactCountPairListsUptoRow.holds Try.pinned (OpenSpec.upto fnExactCountPairListsSpec)

/-- 'laws.FnExactFirstPairList', WHERE WHAT IT READS IS OF BULK AT MOST 1048576: true; the input reads as it did. -/
def fnExactFirstPairListUptoRow : OpenClaim := { program := "ytgojakcepbdajaa", sum := "177a536ec115be5b8a06162d0cab6c993a6e965c2a5ee716f80660e8f04bf73a", func := "loop.example/g01272/laws.FnExactFirstPairList", spec := "fnExactFirstPairList", unfollowed := true, recurses := true, apart := false, narrowed := true }
def FnExactFirstPairListUptoSaid : Prop := fnExactFirstPairListUptoRow.holds Try.pinned (OpenSpec.upto fnExactFirstPairListSpec)

/-- 'laws.FnExactSureTimes', WHERE WHAT IT READS IS OF BULK AT MOST 1048576: true; the input reads as it did. -/
def fnExactSureTimesUptoRow : OpenClaim := { program := "ytgojakcepbdajaa", sum := "177a536ec115be5b8a06162d0cab6c993a6e965c2a5ee716f80660e8f04bf73a", func := "loop.example/g01272/laws.FnExactSureTimes", spec := "fnExactSureTimes", unfollowed := true, recurses := true, apart := false, narrowed := true }
def FnExactSureTimesUptoSaid : Prop := fnExactSureTimesUptoRow.holds Try.pinned (OpenSpec.upto fnExactSureTimesSpec)

/-- 'laws.FnExactNeedlessClues', WHERE WHAT IT READS IS OF BULK AT MOST 1048576: true; the input reads as it did. -/
def fnExactNeedlessCluesUptoRow : OpenClaim := { program := "ytgojakcepbdajaa", sum := "177a536ec115be5b8a06162d0cab6c993a6e965c2a5ee716f80660e8f04bf73a", func := "loop.example/g01272/laws.FnExactNeedlessClues", spec := "fnExactNeedlessClues", unfollowed := true, recurses := true, apart := false, narrowed := true }
def FnExactNeedlessCluesUptoSaid : Prop := fnExactNeedlessCluesUptoRow.holds Try.pinned (OpenSpec.upto fnExactNeedlessCluesSpec)

/-- 'laws.FnExactBestClue', WHERE WHAT IT READS IS OF BULK AT MOST 1048576: true; the input reads as it did. -/
def fnExactBestClueUptoRow : OpenClaim := { program := "ytgojakcepbdajaa", sum := "177a536ec115be5b8a06162d0cab6c993a6e965c2a5ee716f80660e8f04bf73a", func := "loop.example/g01272/laws.FnExactBestClue", spec := "fnExactBestClue", unfollowed := true, recurses := true, apart := false, narrowed := true }
def FnExactBestClueUptoSaid : Prop := fnExactBestClueUptoRow.holds Try.pinned (OpenSpec.upto fnExactBestClueSpec)

/-- 'laws.FnExactHarderPuzzle', WHERE WHAT IT READS IS OF BULK AT MOST 1048576: true; the input reads as it did. -/
def fnExactHarderPuzzleUptoRow : OpenClaim := { program := "ytgojakcepbdajaa", sum := "177a536ec115be5b8a06162d0cab6c993a6e965c2a5ee716f80660e8f04bf73a", func := "loop.example/g01272/laws.FnExactHarderPuzzle", spec := "fnExactHarderPuzzle", unfollowed := true, recurses := true, apart := false, narrowed := true }
def FnExactHarderPuzzleUptoSaid : Prop := fnExactHarderPuzzleUptoRow.holds Try.pinned (OpenSpec.upto fnExactHarderPuzzleSpec)

/-- 'laws.FnExactMakePuzzle', WHERE WHAT IT READS IS OF BULK AT MOST 1048576: true; the input reads as it did. -/
def fnExactMakePuzzleUptoRow : OpenClaim := { program := "ytgojakcepbdajaa", sum := "177a536ec115be5b8a06162d0cab6c993a6e965c2a5ee716f80660e8f04bf73a", func := "loop.example/g01272/laws.FnExactMakePuzzle", spec := "fnExactMakePuzzle", unfollowed := true, recurses := true, apart := false, narrowed := true }
def FnExactMakePuzzleUptoSaid : Prop := fnExactMakePuzzleUptoRow.holds Try.pinned (OpenSpec.upto fnExactMakePuzzleSpec)

end Rows
end Go.Proofs.Ytgojakcepbdajaa
