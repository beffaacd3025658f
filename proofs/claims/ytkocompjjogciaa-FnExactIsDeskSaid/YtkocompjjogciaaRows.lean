/-
  No cell of these rows narrows 'for every input' (looked for: loops, veiled, ifaces, maps, wideKeys, modest, calm, conditions, laid).
  DERIVED. THE GIVEN ROWS OF THIS SEAT. 12 by the template 'for every input the law returns true; each argument reads behind the call as it read before'; 0 by the template 'total and deterministic' (their statements: YtkocompjjogciaaTotals.lean).
  GIVEN WITH THE SEED: the statements are not yours to turn. If you find one false, say at which input.
  Laid BY PROGRAM, IN A SANDBOX (cutbox-rows.mjs): the forced cells as the released guide's own fill.sh prints them over the translation ee9e532b70c7c7c0… (all of the seat's roots in one cut). By AI agents, Wed Nov 11 2026. No macro, syntax, notation, axiom, sorry.
-/
import Derived.Test.YtkocompjjogciaaChecked
import GoSem.Claim
import GoSem.ClaimJoined
import GoSem.ClaimMapViews
import Derived.JoinedTies
import Derived.KernelRfl
namespace Go.Proofs.Ytkocompjjogciaa
/- THE CELL 'sum', in the pinned program and in every row, IS THE sha256 OF THE DUMP (.gsa) THAT YtkocompjjogciaaProg.lean LOADS. Nothing in Lean hashes anything: it is a label: what it is worth is what the hold of that sum in a sandbox is worth. -/
noncomputable def Try.pinned : Pinned := { name := "ytkocompjjogciaa", sum := "ee9e532b70c7c7c02d213391de2165aca89b7c9520b68aa908980f6d24d98d03", checked := Try.checked }
namespace Rows
def none {H : Type} : Left H := { results := [], args := [] }

/-- 'laws.FnExactIsDesk': WHATEVER THE INPUT: true; the input reads as it did. -/
def fnExactIsDeskSpec : ChangeSpec := { name := "fnExactIsDesk", fn := fun _ => fun
  | [d] => { results := [.lit (.bool true)], args := [d] }
  | _ => none }
def fnExactIsDeskRow : OpenClaim := { program := "ytkocompjjogciaa", sum := "ee9e532b70c7c7c02d213391de2165aca89b7c9520b68aa908980f6d24d98d03", func := "loop.example/g01272/laws.FnExactIsDesk", spec := "fnExactIsDesk", plainKeys := false, apart := false }
def FnExactIsDeskSaid : Prop := fnExactIsDeskRow.holds Try.pinned (OpenSpec.ofChange fnExactIsDeskSpec)

/-- ITS FALSE NEIGHBOUR: 'it returns false'. Refute it at one input. -/
def fnExactIsDeskWrong : ChangeSpec := { name := "fnExactIsDesk", fn := fun _ => fun
  | [d] => { results := [.lit (.bool false)], args := [d] }
  | _ => none }
def FnExactIsDeskWrongFalsely : Prop := fnExactIsDeskRow.holds Try.pinned (OpenSpec.ofChange fnExactIsDeskWrong)

/-- 'laws.FnExactRidesOfCrew': WHATEVER THE INPUT: true; the input reads as it did. -/
def fnExactRidesOfCrewSpec : ChangeSpec := { name := "fnExactRidesOfCrew", fn := fun _ => fun
  | [d1, d2] => { results := [.lit (.bool true)], args := [d1, d2] }
  | _ => none }
def fnExactRidesOfCrewRow : OpenClaim := { program := "ytkocompjjogciaa", sum := "ee9e532b70c7c7c02d213391de2165aca89b7c9520b68aa908980f6d24d98d03", func := "loop.example/g01272/laws.FnExactRidesOfCrew", spec := "fnExactRidesOfCrew", unfollowed := true, recurses := true, plainKeys := false, apart := false }
def FnExactRidesOfCrewSaid : Prop := fnExactRidesOfCrewRow.holds Try.pinned (OpenSpec.ofChange fnExactRidesOfCrewSpec)

/-- ITS FALSE NEIGHBOUR: 'it returns false'. Refute it at one input. -/
def fnExactRidesOfCrewWrong : ChangeSpec := { name := "fnExactRidesOfCrew", fn := fun _ => fun
  | [d1, d2] => { results := [.lit (.bool false)], args := [d1, d2] }
  | _ => none }
def FnExactRidesOfCrewWrongFalsely : Prop := fnExactRidesOfCrewRow.holds Try.pinned (OpenSpec.ofChange fnExactRidesOfCrewWrong)

/-- 'laws.FnExactRideWithCrew': WHATEVER THE INPUT: true; the input reads as it did. -/
def fnExactRideWithCrewSpec : ChangeSpec := { name := "fnExactRideWithCrew", fn := fun _ => fun
  | [d1, d2, d3] => { results := [.lit (.bool true)], args := [d1, d2, d3] }
  | _ => none }
def fnExactRideWithCrewRow : OpenClaim := { program := "ytkocompjjogciaa", sum := "ee9e532b70c7c7c02d213391de2165aca89b7c9520b68aa908980f6d24d98d03", func := "loop.example/g01272/laws.FnExactRideWithCrew", spec := "fnExactRideWithCrew", unfollowed := true, recurses := true, plainKeys := false, apart := false }
def FnExactRideWithCrewSaid : Prop := fnExactRideWithCrewRow.holds Try.pinned (OpenSpec.ofChange fnExactRideWithCrewSpec)

/-- ITS FALSE NEIGHBOUR: 'it returns false'. Refute it at one input. -/
def fnExactRideWithCrewWrong : ChangeSpec := { name := "fnExactRideWithCrew", fn := fun _ => fun
  | [d1, d2, d3] => { results := [.lit (.bool false)], args := [d1, d2, d3] }
  | _ => none }
def FnExactRideWithCrewWrongFalsely : Prop := fnExactRideWithCrewRow.holds Try.pinned (OpenSpec.ofChange fnExactRideWithCrewWrong)

/-- 'laws.FnExactFewestOfCrew': WHATEVER THE INPUT: true; the input reads as it did. -/
def fnExactFewestOfCrewSpec : ChangeSpec := { name := "fnExactFewestOfCrew", fn := fun _ => fun
  | [d] => { results := [.lit (.bool true)], args := [d] }
  | _ => none }
def fnExactFewestOfCrewRow : OpenClaim := { program := "ytkocompjjogciaa", sum := "ee9e532b70c7c7c02d213391de2165aca89b7c9520b68aa908980f6d24d98d03", func := "loop.example/g01272/laws.FnExactFewestOfCrew", spec := "fnExactFewestOfCrew", unfollowed := true, recurses := true, plainKeys := false, apart := false }
def FnExactFewestOfCrewSaid : Prop := fnExactFewestOfCrewRow.holds Try.pinned (OpenSpec.ofChange fnExactFewestOfCrewSpec)

/-- ITS FALSE NEIGHBOUR: 'it returns false'. Refute it at one input. -/
def fnExactFewestOfCrewWrong : ChangeSpec := { name := "fnExactFewestOfCrew", fn := fun _ => fun
  | [d] => { results := [.lit (.bool false)], args := [d] }
  | _ => none }
def FnExactFewestOfCrewWrongFalsely : Prop := fnExactFewestOfCrewRow.holds Try.pinned (OpenSpec.ofChange fnExactFewestOfCrewWrong)

/-- 'laws.FnExactFirstOfCrew': WHATEVER THE INPUT: true; the input reads as it did. -/
def fnExactFirstOfCrewSpec : ChangeSpec := { name := "fnExactFirstOfCrew", fn := fun _ => fun
  | [d] => { results := [.lit (.bool true)], args := [d] }
  | _ => none }
def fnExactFirstOfCrewRow : OpenClaim := { program := "ytkocompjjogciaa", sum := "ee9e532b70c7c7c02d213391de2165aca89b7c9520b68aa908980f6d24d98d03", func := "loop.example/g01272/laws.FnExactFirstOfCrew", spec := "fnExactFirstOfCrew", unfollowed := true, recurses := true, plainKeys := false, apart := false }
def FnExactFirstOfCrewSaid : Prop := fnExactFirstOfCrewRow.holds Try.pinned (OpenSpec.ofChange fnExactFirstOfCrewSpec)

/-- ITS FALSE NEIGHBOUR: 'it returns false'. Refute it at one input. -/
def fnExactFirstOfCrewWrong : ChangeSpec := { name := "fnExactFirstOfCrew", fn := fun _ => fun
  | [d] => { results := [.lit (.bool false)], args := [d] }
  | _ => none }
def FnExactFirstOfCrewWrongFalsely : Prop := fnExactFirstOfCrewRow.holds Try.pinned (OpenSpec.ofChange fnExactFirstOfCrewWrong)

/-- 'laws.FnExactLeastMost': WHATEVER THE INPUT: true; the input reads as it did. -/
def fnExactLeastMostSpec : ChangeSpec := { name := "fnExactLeastMost", fn := fun _ => fun
  | [d] => { results := [.lit (.bool true)], args := [d] }
  | _ => none }
def fnExactLeastMostRow : OpenClaim := { program := "ytkocompjjogciaa", sum := "ee9e532b70c7c7c02d213391de2165aca89b7c9520b68aa908980f6d24d98d03", func := "loop.example/g01272/laws.FnExactLeastMost", spec := "fnExactLeastMost", unfollowed := true, recurses := true, plainKeys := false, apart := false }
def FnExactLeastMostSaid : Prop := fnExactLeastMostRow.holds Try.pinned (OpenSpec.ofChange fnExactLeastMostSpec)

/-- ITS FALSE NEIGHBOUR: 'it returns false'. Refute it at one input. -/
def fnExactLeastMostWrong : ChangeSpec := { name := "fnExactLeastMost", fn := fun _ => fun
  | [d] => { results := [.lit (.bool false)], args := [d] }
  | _ => none }
def FnExactLeastMostWrongFalsely : Prop := fnExactLeastMostRow.holds Try.pinned (OpenSpec.ofChange fnExactLeastMostWrong)

/-- 'laws.FnExactIsCrewPlan': WHATEVER THE INPUT: true; the input reads as it did. -/
def fnExactIsCrewPlanSpec : ChangeSpec := { name := "fnExactIsCrewPlan", fn := fun _ => fun
  | [d1, d2] => { results := [.lit (.bool true)], args := [d1, d2] }
  | _ => none }
def fnExactIsCrewPlanRow : OpenClaim := { program := "ytkocompjjogciaa", sum := "ee9e532b70c7c7c02d213391de2165aca89b7c9520b68aa908980f6d24d98d03", func := "loop.example/g01272/laws.FnExactIsCrewPlan", spec := "fnExactIsCrewPlan", unfollowed := true, recurses := true, plainKeys := false, apart := false }
def FnExactIsCrewPlanSaid : Prop := fnExactIsCrewPlanRow.holds Try.pinned (OpenSpec.ofChange fnExactIsCrewPlanSpec)

/-- ITS FALSE NEIGHBOUR: 'it returns false'. Refute it at one input. -/
def fnExactIsCrewPlanWrong : ChangeSpec := { name := "fnExactIsCrewPlan", fn := fun _ => fun
  | [d1, d2] => { results := [.lit (.bool false)], args := [d1, d2] }
  | _ => none }
def FnExactIsCrewPlanWrongFalsely : Prop := fnExactIsCrewPlanRow.holds Try.pinned (OpenSpec.ofChange fnExactIsCrewPlanWrong)

/-- 'laws.FnExactNeededRowers': WHATEVER THE INPUT: true; the input reads as it did. -/
def fnExactNeededRowersSpec : ChangeSpec := { name := "fnExactNeededRowers", fn := fun _ => fun
  | [d] => { results := [.lit (.bool true)], args := [d] }
  | _ => none }
def fnExactNeededRowersRow : OpenClaim := { program := "ytkocompjjogciaa", sum := "ee9e532b70c7c7c02d213391de2165aca89b7c9520b68aa908980f6d24d98d03", func := "loop.example/g01272/laws.FnExactNeededRowers", spec := "fnExactNeededRowers", unfollowed := true, recurses := true, plainKeys := false, apart := false }
def FnExactNeededRowersSaid : Prop := fnExactNeededRowersRow.holds Try.pinned (OpenSpec.ofChange fnExactNeededRowersSpec)

/-- ITS FALSE NEIGHBOUR: 'it returns false'. Refute it at one input. -/
def fnExactNeededRowersWrong : ChangeSpec := { name := "fnExactNeededRowers", fn := fun _ => fun
  | [d] => { results := [.lit (.bool false)], args := [d] }
  | _ => none }
def FnExactNeededRowersWrongFalsely : Prop := fnExactNeededRowersRow.holds Try.pinned (OpenSpec.ofChange fnExactNeededRowersWrong)

/-- 'laws.FnExactCountReachedCrews': WHATEVER THE INPUT: true; the input reads as it did. -/
def fnExactCountReachedCrewsSpec : ChangeSpec := { name := "fnExactCountReachedCrews", fn := fun _ => fun
  | [d] => { results := [.lit (.bool true)], args := [d] }
  | _ => none }
def fnExactCountReachedCrewsRow : OpenClaim := { program := "ytkocompjjogciaa", sum := "ee9e532b70c7c7c02d213391de2165aca89b7c9520b68aa908980f6d24d98d03", func := "loop.example/g01272/laws.FnExactCountReachedCrews", spec := "fnExactCountReachedCrews", unfollowed := true, recurses := true, plainKeys := false, apart := false }
def FnExactCountReachedCrewsSaid : Prop := fnExactCountReachedCrewsRow.holds Try.pinned (OpenSpec.ofChange fnExactCountReachedCrewsSpec)

/-- ITS FALSE NEIGHBOUR: 'it returns false'. Refute it at one input. -/
def fnExactCountReachedCrewsWrong : ChangeSpec := { name := "fnExactCountReachedCrews", fn := fun _ => fun
  | [d] => { results := [.lit (.bool false)], args := [d] }
  | _ => none }
def FnExactCountReachedCrewsWrongFalsely : Prop := fnExactCountReachedCrewsRow.holds Try.pinned (OpenSpec.ofChange fnExactCountReachedCrewsWrong)

/-- 'laws.FnExactAddClue': WHATEVER THE INPUT: true; the input reads as it did. -/
def fnExactAddClueSpec : ChangeSpec := { name := "fnExactAddClue", fn := fun _ => fun
  | [d1, d2] => { results := [.lit (.bool true)], args := [d1, d2] }
  | _ => none }
def fnExactAddClueRow : OpenClaim := { program := "ytkocompjjogciaa", sum := "ee9e532b70c7c7c02d213391de2165aca89b7c9520b68aa908980f6d24d98d03", func := "loop.example/g01272/laws.FnExactAddClue", spec := "fnExactAddClue", unfollowed := true, recurses := true, plainKeys := false, apart := false }
def FnExactAddClueSaid : Prop := fnExactAddClueRow.holds Try.pinned (OpenSpec.ofChange fnExactAddClueSpec)

/-- ITS FALSE NEIGHBOUR: 'it returns false'. Refute it at one input. -/
def fnExactAddClueWrong : ChangeSpec := { name := "fnExactAddClue", fn := fun _ => fun
  | [d1, d2] => { results := [.lit (.bool false)], args := [d1, d2] }
  | _ => none }
def FnExactAddClueWrongFalsely : Prop := fnExactAddClueRow.holds Try.pinned (OpenSpec.ofChange fnExactAddClueWrong)

/-- 'laws.FnExactHarderPuzzle': WHATEVER THE INPUT: true; the input reads as it did. -/
def fnExactHarderPuzzleSpec : ChangeSpec := { name := "fnExactHarderPuzzle", fn := fun _ => fun
  | [d] => { results := [.lit (.bool true)], args := [d] }
  | _ => none }
def fnExactHarderPuzzleRow : OpenClaim := { program := "ytkocompjjogciaa", sum := "ee9e532b70c7c7c02d213391de2165aca89b7c9520b68aa908980f6d24d98d03", func := "loop.example/g01272/laws.FnExactHarderPuzzle", spec := "fnExactHarderPuzzle", unfollowed := true, recurses := true, plainKeys := false, apart := false }
def FnExactHarderPuzzleSaid : Prop := fnExactHarderPuzzleRow.holds Try.pinned (OpenSpec.ofChange fnExactHarderPuzzleSpec)

/-- ITS FALSE NEIGHBOUR: 'it returns false'. Refute it at one input. -/
def fnExactHarderPuzzleWrong : ChangeSpec := { name := "fnExactHarderPuzzle", fn := fun _ => fun
  | [d] => { results := [.lit (.bool false)], args := [d] }
  | _ => none }
def FnExactHarderPuzzleWrongFalsely : Prop := fnExactHarderPuzzleRow.holds Try.pinned (OpenSpec.ofChange fnExactHarderPuzzleWrong)

/-- 'laws.FnExactMakePuzzle': WHATEVER THE INPUT: true; the input reads as it did. -/
def fnExactMakePuzzleSpec : ChangeSpec := { name := "fnExactMakePuzzle", fn := fun _ => fun
  | [d1, d2, d3] => { results := [.lit (.bool true)], args := [d1, d2, d3] }
  | _ => none }
def fnExactMakePuzzleRow : OpenClaim := { program := "ytkocompjjogciaa", sum := "ee9e532b70c7c7c02d213391de2165aca89b7c9520b68aa908980f6d24d98d03", func := "loop.example/g01272/laws.FnExactMakePuzzle", spec := "fnExactMakePuzzle", unfollowed := true, recurses := true, plainKeys := false, apart := false }
def FnExactMakePuzzleSaid : Prop := fnExactMakePuzzleRow.holds Try.pinned (OpenSpec.ofChange fnExactMakePuzzleSpec)

/-- ITS FALSE NEIGHBOUR: 'it returns false'. Refute it at one input. -/
def fnExactMakePuzzleWrong : ChangeSpec := { name := "fnExactMakePuzzle", fn := fun _ => fun
  | [d1, d2, d3] => { results := [.lit (.bool false)], args := [d1, d2, d3] }
  | _ => none }
def FnExactMakePuzzleWrongFalsely : Prop := fnExactMakePuzzleRow.holds Try.pinned (OpenSpec.ofChange fnExactMakePuzzleWrong)

/- THE SECOND FORM. 'bulk': how many values and letters a reading holds, each counted each time it is reached (what is shared counts as often as it is met; a slice's spare places count too). A statement '..UptoSaid' is the law's where the arguments, and the package variables that the reading takes, are together of bulk at most 1048576: NARROWER than '..Said'. Prove '..Said' where nothing that the law and all that it calls make is longer than what came in: it says more and counts as full. Else prove '..UptoSaid'. A law counts once. -/
mutual
def uptoBulk {H : Type} : DataW H → Nat
  | .lit (.string bytes) => bytes.length + 1
  | .lit _ => 1
  | .nil => 1
  | .ptr d => uptoBulk d + 1
  | .slice elems spare => uptoBulkAll elems + uptoBulkAll spare + 1
  | .agg parts => uptoBulkAll parts + 1
  | .iface _ d => uptoBulk d + 1
  | .map entries => uptoBulkEntries entries + 1
  | .held _ => 1
def uptoBulkAll {H : Type} : List (DataW H) → Nat
  | [] => 0
  | d :: r => uptoBulk d + uptoBulkAll r
def uptoBulkEntries {H : Type} : List (Lit × DataW H) → Nat
  | [] => 0
  | x :: r => uptoBulkEntry x + uptoBulkEntries r
def uptoBulkEntry {H : Type} : Lit × DataW H → Nat
  | (.string bytes, d) => bytes.length + uptoBulk d + 1
  | (_, d) => uptoBulk d + 1
 end
def uptoSmall : (H : Type) → List (DataW H) → Bool := fun _ ds => decide (uptoBulkAll ds ≤ 1048576)
def OpenSpec.upto (s : _root_.Go.ChangeSpec) : _root_.Go.OpenSpec := { _root_.Go.OpenSpec.ofChange s with cond := some uptoSmall }

/-- 'laws.FnExactIsDesk', WHERE WHAT IT READS IS OF BULK AT MOST 1048576: true; the input reads as it did. -/
def fnExactIsDeskUptoRow : OpenClaim := { program := "ytkocompjjogciaa", sum := "ee9e532b70c7c7c02d213391de2165aca89b7c9520b68aa908980f6d24d98d03", func := "loop.example/g01272/laws.FnExactIsDesk", spec := "fnExactIsDesk", plainKeys := false, apart := false, narrowed := true }
def FnExactIsDeskUptoSaid : Prop := fnExactIsDeskUptoRow.holds Try.pinned (OpenSpec.upto fnExactIsDeskSpec)

/-- 'laws.FnExactRidesOfCrew', WHERE WHAT IT READS IS OF BULK AT MOST 1048576: true; the input reads as it did. -/
def fnExactRidesOfCrewUptoRow : OpenClaim := { program := "ytkocompjjogciaa", sum := "ee9e532b70c7c7c02d213391de2165aca89b7c9520b68aa908980f6d24d98d03", func := "loop.example/g01272/laws.FnExactRidesOfCrew", spec := "fnExactRidesOfCrew", unfollowed := true, recurses := true, plainKeys := false, apart := false, narrowed := true }
def FnExactRidesOfCrewUptoSaid : Prop := fnExactRidesOfCrewUptoRow.holds Try.pinned (OpenSpec.upto fnExactRidesOfCrewSpec)

/-- 'laws.FnExactRideWithCrew', WHERE WHAT IT READS IS OF BULK AT MOST 1048576: true; the input reads as it did. -/
def fnExactRideWithCrewUptoRow : OpenClaim := { program := "ytkocompjjogciaa", sum := "ee9e532b70c7c7c02d213391de2165aca89b7c9520b68aa908980f6d24d98d03", func := "loop.example/g01272/laws.FnExactRideWithCrew", spec := "fnExactRideWithCrew", unfollowed := true, recurses := true, plainKeys := false, apart := false, narrowed := true }
def FnExactRideWithCrewUptoSaid : Prop := fnExactRideWithCrewUptoRow.holds Try.pinned (OpenSpec.upto fnExactRideWithCrewSpec)

/-- 'laws.FnExactFewestOfCrew', WHERE WHAT IT READS IS OF BULK AT MOST 1048576: true; the input reads as it did. -/
def fnExactFewestOfCrewUptoRow : OpenClaim := { program := "ytkocompjjogciaa", sum := "ee9e532b70c7c7c02d213391de2165aca89b7c9520b68aa908980f6d24d98d03", func := "loop.example/g01272/laws.FnExactFewestOfCrew", spec := "fnExactFewestOfCrew", unfollowed := true, recurses := true, plainKeys := false, apart := false, narrowed := true }
def FnExactFewestOfCrewUptoSaid : Prop := fnExactFewestOfCrewUptoRow.holds Try.pinned (OpenSpec.upto fnExactFewestOfCrewSpec)

/-- 'laws.FnExactFirstOfCrew', WHERE WHAT IT READS IS OF BULK AT MOST 1048576: true; the input reads as it did. -/
def fnExactFirstOfCrewUptoRow : OpenClaim := { program := "ytkocompjjogciaa", sum := "ee9e532b70c7c7c02d213391de2165aca89b7c9520b68aa908980f6d24d98d03", func := "loop.example/g01272/laws.FnExactFirstOfCrew", spec := "fnExactFirstOfCrew", unfollowed := true, recurses := true, plainKeys := false, apart := false, narrowed := true }
def FnExactFirstOfCrewUptoSaid : Prop := fnExactFirstOfCrewUptoRow.holds Try.pinned (OpenSpec.upto fnExactFirstOfCrewSpec)

/-- 'laws.FnExactLeastMost', WHERE WHAT IT READS IS OF BULK AT MOST 1048576: true; the input reads as it did. -/
def fnExactLeastMostUptoRow : OpenClaim := { program := "ytkocompjjogciaa", sum := "ee9e532b70c7c7c02d213391de2165aca89b7c9520b68aa908980f6d24d98d03", func := "loop.example/g01272/laws.FnExactLeastMost", spec := "fnExactLeastMost", unfollowed := true, recurses := true, plainKeys := false, apart := false, narrowed := true }
def FnExactLeastMostUptoSaid : Prop := fnExactLeastMostUptoRow.holds Try.pinned (OpenSpec.upto fnExactLeastMostSpec)

/-- 'laws.FnExactIsCrewPlan', WHERE WHAT IT READS IS OF BULK AT MOST 1048576: true; the input reads as it did. -/
def fnExactIsCrewPlanUptoRow : OpenClaim := { program := "ytkocompjjogciaa", sum := "ee9e532b70c7c7c02d213391de2165aca89b7c9520b68aa908980f6d24d98d03", func := "loop.example/g01272/laws.FnExactIsCrewPlan", spec := "fnExactIsCrewPlan", unfollowed := true, recurses := true, plainKeys := false, apart := false, narrowed := true }
def FnExactIsCrewPlanUptoSaid : Prop := fnExactIsCrewPlanUptoRow.holds Try.pinned (OpenSpec.upto fnExactIsCrewPlanSpec)

/-- 'laws.FnExactNeededRowers', WHERE WHAT IT READS IS OF BULK AT MOST 1048576: true; the input reads as it did. -/
def fnExactNeededRowersUptoRow : OpenClaim := { program := "ytkocompjjogciaa", sum := "ee9e532b70c7c7c02d213391de2165aca89b7c9520b68aa908980f6d24d98d03", func := "loop.example/g01272/laws.FnExactNeededRowers", spec := "fnExactNeededRowers", unfollowed := true, recurses := true, plainKeys := false, apart := false, narrowed := true }
def FnExactNeededRowersUptoSaid : Prop := fnExactNeededRowersUptoRow.holds Try.pinned (OpenSpec.upto fnExactNeededRowersSpec)

/-- 'laws.FnExactCountReachedCrews', WHERE WHAT IT READS IS OF BULK AT MOST 1048576: true; the input reads as it did. -/
def fnExactCountReachedCrewsUptoRow : OpenClaim := { program := "ytkocompjjogciaa", sum := "ee9e532b70c7c7c02d213391de2165aca89b7c9520b68aa908980f6d24d98d03", func := "loop.example/g01272/laws.FnExactCountReachedCrews", spec := "fnExactCountReachedCrews", unfollowed := true, recurses := true, plainKeys := false, apart := false, narrowed := true }
def FnExactCountReachedCrewsUptoSaid : Prop := fnExactCountReachedCrewsUptoRow.holds Try.pinned (OpenSpec.upto fnExactCountReachedCrewsSpec)

/-- 'laws.FnExactAddClue', WHERE WHAT IT READS IS OF BULK AT MOST 1048576: true; the input reads as it did. -/
def fnExactAddClueUptoRow : OpenClaim := { program := "ytkocompjjogciaa", sum := "ee9e532b70c7c7c02d213391de2165aca89b7c9520b68aa908980f6d24d98d03", func := "loop.example/g01272/laws.FnExactAddClue", spec := "fnExactAddClue", unfollowed := true, recurses := true, plainKeys := false, apart := false, narrowed := true }
def FnExactAddClueUptoSaid : Prop := fnExactAddClueUptoRow.holds Try.pinned (OpenSpec.upto fnExactAddClueSpec)

/-- 'laws.FnExactHarderPuzzle', WHERE WHAT IT READS IS OF BULK AT MOST 1048576: true; the input reads as it did. -/
def fnExactHarderPuzzleUptoRow : OpenClaim := { program := "ytkocompjjogciaa", sum := "ee9e532b70c7c7c02d213391de2165aca89b7c9520b68aa908980f6d24d98d03", func := "loop.example/g01272/laws.FnExactHarderPuzzle", spec := "fnExactHarderPuzzle", unfollowed := true, recurses := true, plainKeys := false, apart := false, narrowed := true }
def FnExactHarderPuzzleUptoSaid : Prop := fnExactHarderPuzzleUptoRow.holds Try.pinned (OpenSpec.upto fnExactHarderPuzzleSpec)

/-- 'laws.FnExactMakePuzzle', WHERE WHAT IT READS IS OF BULK AT MOST 1048576: true; the input reads as it did. -/
def fnExactMakePuzzleUptoRow : OpenClaim := { program := "ytkocompjjogciaa", sum := "ee9e532b70c7c7c02d213391de2165aca89b7c9520b68aa908980f6d24d98d03", func := "loop.example/g01272/laws.FnExactMakePuzzle", spec := "fnExactMakePuzzle", unfollowed := true, recurses := true, plainKeys := false, apart := false, narrowed := true }
def FnExactMakePuzzleUptoSaid : Prop := fnExactMakePuzzleUptoRow.holds Try.pinned (OpenSpec.upto fnExactMakePuzzleSpec)

end Rows
end Go.Proofs.Ytkocompjjogciaa
