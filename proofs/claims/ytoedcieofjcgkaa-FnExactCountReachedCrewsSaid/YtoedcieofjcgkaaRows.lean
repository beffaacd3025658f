/-
  No cell of these rows narrows 'for every input' (looked for: loops, veiled, ifaces, maps, wideKeys, modest, calm, conditions, laid).
  DERIVED. THE GIVEN ROWS OF THIS SEAT. 12 by the template 'for every input the law returns true; each argument reads behind the call as it read before'; 0 by the template 'total and deterministic' (their statements: YtoedcieofjcgkaaTotals.lean).
  GIVEN WITH THE SEED: the statements are not yours to turn. If you find one false, say at which input.
  Laid BY PROGRAM, IN A SANDBOX (cutbox-rows.mjs): the forced cells as the released guide's own fill.sh prints them over the translation 38142fa2092f688a… (all of the seat's roots in one cut). By AI agents, Wed Nov 11 2026. No macro, syntax, notation, axiom, sorry.
-/
import Derived.Test.YtoedcieofjcgkaaChecked
import GoSem.Claim
import GoSem.ClaimJoined
import GoSem.ClaimMapViews
import Derived.JoinedTies
import Derived.KernelRfl
namespace Go.Proofs.Ytoedcieofjcgkaa
/- THE CELL 'sum', in the pinned program and in every row, IS THE sha256 OF THE DUMP (.gsa) THAT YtoedcieofjcgkaaProg.lean LOADS. Nothing in Lean hashes anything: it is a label: what it is worth is what the hold of that sum in a sandbox is worth. -/
noncomputable def Try.pinned : Pinned := { name := "ytoedcieofjcgkaa", sum := "38142fa2092f688aef5f5a3833790fdf1a41c37be50ae4ea2fd46151413b97cc", checked := Try.checked }
namespace Rows
def none {H : Type} : Left H := { results := [], args := [] }

/-- 'laws.FnExactIsCalmPlan': WHATEVER THE INPUT: true; the input reads as it did. -/
def fnExactIsCalmPlanSpec : ChangeSpec := { name := "fnExactIsCalmPlan", fn := fun _ => fun
  | [d1, d2] => { results := [.lit (.bool true)], args := [d1, d2] }
  | _ => none }
def fnExactIsCalmPlanRow : OpenClaim := { program := "ytoedcieofjcgkaa", sum := "38142fa2092f688aef5f5a3833790fdf1a41c37be50ae4ea2fd46151413b97cc", func := "loop.example/g01272/laws.FnExactIsCalmPlan", spec := "fnExactIsCalmPlan", unfollowed := true, recurses := true, plainKeys := false, apart := false }
def FnExactIsCalmPlanSaid : Prop := fnExactIsCalmPlanRow.holds Try.pinned (OpenSpec.ofChange fnExactIsCalmPlanSpec)

/-- ITS FALSE NEIGHBOUR: 'it returns false'. Refute it at one input. -/
def fnExactIsCalmPlanWrong : ChangeSpec := { name := "fnExactIsCalmPlan", fn := fun _ => fun
  | [d1, d2] => { results := [.lit (.bool false)], args := [d1, d2] }
  | _ => none }
def FnExactIsCalmPlanWrongFalsely : Prop := fnExactIsCalmPlanRow.holds Try.pinned (OpenSpec.ofChange fnExactIsCalmPlanWrong)

/-- 'laws.FnExactIsCrew': WHATEVER THE INPUT: true; the input reads as it did. -/
def fnExactIsCrewSpec : ChangeSpec := { name := "fnExactIsCrew", fn := fun _ => fun
  | [d] => { results := [.lit (.bool true)], args := [d] }
  | _ => none }
def fnExactIsCrewRow : OpenClaim := { program := "ytoedcieofjcgkaa", sum := "38142fa2092f688aef5f5a3833790fdf1a41c37be50ae4ea2fd46151413b97cc", func := "loop.example/g01272/laws.FnExactIsCrew", spec := "fnExactIsCrew", plainKeys := false, apart := false }
def FnExactIsCrewSaid : Prop := fnExactIsCrewRow.holds Try.pinned (OpenSpec.ofChange fnExactIsCrewSpec)

/-- ITS FALSE NEIGHBOUR: 'it returns false'. Refute it at one input. -/
def fnExactIsCrewWrong : ChangeSpec := { name := "fnExactIsCrew", fn := fun _ => fun
  | [d] => { results := [.lit (.bool false)], args := [d] }
  | _ => none }
def FnExactIsCrewWrongFalsely : Prop := fnExactIsCrewRow.holds Try.pinned (OpenSpec.ofChange fnExactIsCrewWrong)

/-- 'laws.FnExactRidesOfCrew': WHATEVER THE INPUT: true; the input reads as it did. -/
def fnExactRidesOfCrewSpec : ChangeSpec := { name := "fnExactRidesOfCrew", fn := fun _ => fun
  | [d1, d2] => { results := [.lit (.bool true)], args := [d1, d2] }
  | _ => none }
def fnExactRidesOfCrewRow : OpenClaim := { program := "ytoedcieofjcgkaa", sum := "38142fa2092f688aef5f5a3833790fdf1a41c37be50ae4ea2fd46151413b97cc", func := "loop.example/g01272/laws.FnExactRidesOfCrew", spec := "fnExactRidesOfCrew", unfollowed := true, recurses := true, plainKeys := false, apart := false }
def FnExactRidesOfCrewSaid : Prop := fnExactRidesOfCrewRow.holds Try.pinned (OpenSpec.ofChange fnExactRidesOfCrewSpec)

/-- ITS FALSE NEIGHBOUR: 'it returns false'. Refute it at one input. -/
def fnExactRidesOfCrewWrong : ChangeSpec := { name := "fnExactRidesOfCrew", fn := fun _ => fun
  | [d1, d2] => { results := [.lit (.bool false)], args := [d1, d2] }
  | _ => none }
def FnExactRidesOfCrewWrongFalsely : Prop := fnExactRidesOfCrewRow.holds Try.pinned (OpenSpec.ofChange fnExactRidesOfCrewWrong)

/-- 'laws.FnExactRideWithCrew': WHATEVER THE INPUT: true; the input reads as it did. -/
def fnExactRideWithCrewSpec : ChangeSpec := { name := "fnExactRideWithCrew", fn := fun _ => fun
  | [d1, d2, d3] => { results := [.lit (.bool true)], args := [d1, d2, d3] }
  | _ => none }
def fnExactRideWithCrewRow : OpenClaim := { program := "ytoedcieofjcgkaa", sum := "38142fa2092f688aef5f5a3833790fdf1a41c37be50ae4ea2fd46151413b97cc", func := "loop.example/g01272/laws.FnExactRideWithCrew", spec := "fnExactRideWithCrew", unfollowed := true, recurses := true, plainKeys := false, apart := false }
def FnExactRideWithCrewSaid : Prop := fnExactRideWithCrewRow.holds Try.pinned (OpenSpec.ofChange fnExactRideWithCrewSpec)

/-- ITS FALSE NEIGHBOUR: 'it returns false'. Refute it at one input. -/
def fnExactRideWithCrewWrong : ChangeSpec := { name := "fnExactRideWithCrew", fn := fun _ => fun
  | [d1, d2, d3] => { results := [.lit (.bool false)], args := [d1, d2, d3] }
  | _ => none }
def FnExactRideWithCrewWrongFalsely : Prop := fnExactRideWithCrewRow.holds Try.pinned (OpenSpec.ofChange fnExactRideWithCrewWrong)

/-- 'laws.FnExactLoadOf': WHATEVER THE INPUT: true; the input reads as it did. -/
def fnExactLoadOfSpec : ChangeSpec := { name := "fnExactLoadOf", fn := fun _ => fun
  | [d1, d2] => { results := [.lit (.bool true)], args := [d1, d2] }
  | _ => none }
def fnExactLoadOfRow : OpenClaim := { program := "ytoedcieofjcgkaa", sum := "38142fa2092f688aef5f5a3833790fdf1a41c37be50ae4ea2fd46151413b97cc", func := "loop.example/g01272/laws.FnExactLoadOf", spec := "fnExactLoadOf", unfollowed := true, recurses := true, plainKeys := false, apart := false }
def FnExactLoadOfSaid : Prop := fnExactLoadOfRow.holds Try.pinned (OpenSpec.ofChange fnExactLoadOfSpec)

/-- ITS FALSE NEIGHBOUR: 'it returns false'. Refute it at one input. -/
def fnExactLoadOfWrong : ChangeSpec := { name := "fnExactLoadOf", fn := fun _ => fun
  | [d1, d2] => { results := [.lit (.bool false)], args := [d1, d2] }
  | _ => none }
def FnExactLoadOfWrongFalsely : Prop := fnExactLoadOfRow.holds Try.pinned (OpenSpec.ofChange fnExactLoadOfWrong)

/-- 'laws.FnExactFewestOfCrew': WHATEVER THE INPUT: true; the input reads as it did. -/
def fnExactFewestOfCrewSpec : ChangeSpec := { name := "fnExactFewestOfCrew", fn := fun _ => fun
  | [d] => { results := [.lit (.bool true)], args := [d] }
  | _ => none }
def fnExactFewestOfCrewRow : OpenClaim := { program := "ytoedcieofjcgkaa", sum := "38142fa2092f688aef5f5a3833790fdf1a41c37be50ae4ea2fd46151413b97cc", func := "loop.example/g01272/laws.FnExactFewestOfCrew", spec := "fnExactFewestOfCrew", unfollowed := true, recurses := true, plainKeys := false, apart := false }
def FnExactFewestOfCrewSaid : Prop := fnExactFewestOfCrewRow.holds Try.pinned (OpenSpec.ofChange fnExactFewestOfCrewSpec)

/-- ITS FALSE NEIGHBOUR: 'it returns false'. Refute it at one input. -/
def fnExactFewestOfCrewWrong : ChangeSpec := { name := "fnExactFewestOfCrew", fn := fun _ => fun
  | [d] => { results := [.lit (.bool false)], args := [d] }
  | _ => none }
def FnExactFewestOfCrewWrongFalsely : Prop := fnExactFewestOfCrewRow.holds Try.pinned (OpenSpec.ofChange fnExactFewestOfCrewWrong)

/-- 'laws.FnExactFirstOfCrew': WHATEVER THE INPUT: true; the input reads as it did. -/
def fnExactFirstOfCrewSpec : ChangeSpec := { name := "fnExactFirstOfCrew", fn := fun _ => fun
  | [d] => { results := [.lit (.bool true)], args := [d] }
  | _ => none }
def fnExactFirstOfCrewRow : OpenClaim := { program := "ytoedcieofjcgkaa", sum := "38142fa2092f688aef5f5a3833790fdf1a41c37be50ae4ea2fd46151413b97cc", func := "loop.example/g01272/laws.FnExactFirstOfCrew", spec := "fnExactFirstOfCrew", unfollowed := true, recurses := true, plainKeys := false, apart := false }
def FnExactFirstOfCrewSaid : Prop := fnExactFirstOfCrewRow.holds Try.pinned (OpenSpec.ofChange fnExactFirstOfCrewSpec)

/-- ITS FALSE NEIGHBOUR: 'it returns false'. Refute it at one input. -/
def fnExactFirstOfCrewWrong : ChangeSpec := { name := "fnExactFirstOfCrew", fn := fun _ => fun
  | [d] => { results := [.lit (.bool false)], args := [d] }
  | _ => none }
def FnExactFirstOfCrewWrongFalsely : Prop := fnExactFirstOfCrewRow.holds Try.pinned (OpenSpec.ofChange fnExactFirstOfCrewWrong)

/-- 'laws.FnExactLeastMost': WHATEVER THE INPUT: true; the input reads as it did. -/
def fnExactLeastMostSpec : ChangeSpec := { name := "fnExactLeastMost", fn := fun _ => fun
  | [d] => { results := [.lit (.bool true)], args := [d] }
  | _ => none }
def fnExactLeastMostRow : OpenClaim := { program := "ytoedcieofjcgkaa", sum := "38142fa2092f688aef5f5a3833790fdf1a41c37be50ae4ea2fd46151413b97cc", func := "loop.example/g01272/laws.FnExactLeastMost", spec := "fnExactLeastMost", unfollowed := true, recurses := true, plainKeys := false, apart := false }
def FnExactLeastMostSaid : Prop := fnExactLeastMostRow.holds Try.pinned (OpenSpec.ofChange fnExactLeastMostSpec)

/-- ITS FALSE NEIGHBOUR: 'it returns false'. Refute it at one input. -/
def fnExactLeastMostWrong : ChangeSpec := { name := "fnExactLeastMost", fn := fun _ => fun
  | [d] => { results := [.lit (.bool false)], args := [d] }
  | _ => none }
def FnExactLeastMostWrongFalsely : Prop := fnExactLeastMostRow.holds Try.pinned (OpenSpec.ofChange fnExactLeastMostWrong)

/-- 'laws.FnExactIsCrewPlan': WHATEVER THE INPUT: true; the input reads as it did. -/
def fnExactIsCrewPlanSpec : ChangeSpec := { name := "fnExactIsCrewPlan", fn := fun _ => fun
  | [d1, d2] => { results := [.lit (.bool true)], args := [d1, d2] }
  | _ => none }
def fnExactIsCrewPlanRow : OpenClaim := { program := "ytoedcieofjcgkaa", sum := "38142fa2092f688aef5f5a3833790fdf1a41c37be50ae4ea2fd46151413b97cc", func := "loop.example/g01272/laws.FnExactIsCrewPlan", spec := "fnExactIsCrewPlan", unfollowed := true, recurses := true, plainKeys := false, apart := false }
def FnExactIsCrewPlanSaid : Prop := fnExactIsCrewPlanRow.holds Try.pinned (OpenSpec.ofChange fnExactIsCrewPlanSpec)

/-- ITS FALSE NEIGHBOUR: 'it returns false'. Refute it at one input. -/
def fnExactIsCrewPlanWrong : ChangeSpec := { name := "fnExactIsCrewPlan", fn := fun _ => fun
  | [d1, d2] => { results := [.lit (.bool false)], args := [d1, d2] }
  | _ => none }
def FnExactIsCrewPlanWrongFalsely : Prop := fnExactIsCrewPlanRow.holds Try.pinned (OpenSpec.ofChange fnExactIsCrewPlanWrong)

/-- 'laws.FnExactNeededRowers': WHATEVER THE INPUT: true; the input reads as it did. -/
def fnExactNeededRowersSpec : ChangeSpec := { name := "fnExactNeededRowers", fn := fun _ => fun
  | [d] => { results := [.lit (.bool true)], args := [d] }
  | _ => none }
def fnExactNeededRowersRow : OpenClaim := { program := "ytoedcieofjcgkaa", sum := "38142fa2092f688aef5f5a3833790fdf1a41c37be50ae4ea2fd46151413b97cc", func := "loop.example/g01272/laws.FnExactNeededRowers", spec := "fnExactNeededRowers", unfollowed := true, recurses := true, plainKeys := false, apart := false }
def FnExactNeededRowersSaid : Prop := fnExactNeededRowersRow.holds Try.pinned (OpenSpec.ofChange fnExactNeededRowersSpec)

/-- ITS FALSE NEIGHBOUR: 'it returns false'. Refute it at one input. -/
def fnExactNeededRowersWrong : ChangeSpec := { name := "fnExactNeededRowers", fn := fun _ => fun
  | [d] => { results := [.lit (.bool false)], args := [d] }
  | _ => none }
def FnExactNeededRowersWrongFalsely : Prop := fnExactNeededRowersRow.holds Try.pinned (OpenSpec.ofChange fnExactNeededRowersWrong)

/-- 'laws.FnExactCountReachedCrews': WHATEVER THE INPUT: true; the input reads as it did. -/
def fnExactCountReachedCrewsSpec : ChangeSpec := { name := "fnExactCountReachedCrews", fn := fun _ => fun
  | [d] => { results := [.lit (.bool true)], args := [d] }
  | _ => none }
def fnExactCountReachedCrewsRow : OpenClaim := { program := "ytoedcieofjcgkaa", sum := "38142fa2092f688aef5f5a3833790fdf1a41c37be50ae4ea2fd46151413b97cc", func := "loop.example/g01272/laws.FnExactCountReachedCrews", spec := "fnExactCountReachedCrews", unfollowed := true, recurses := true, plainKeys := false, apart := false }
def FnExactCountReachedCrewsSaid : Prop := fnExactCountReachedCrewsRow.holds Try.pinned (OpenSpec.ofChange fnExactCountReachedCrewsSpec)

/-- ITS FALSE NEIGHBOUR: 'it returns false'. Refute it at one input. -/
def fnExactCountReachedCrewsWrong : ChangeSpec := { name := "fnExactCountReachedCrews", fn := fun _ => fun
  | [d] => { results := [.lit (.bool false)], args := [d] }
  | _ => none }
def FnExactCountReachedCrewsWrongFalsely : Prop := fnExactCountReachedCrewsRow.holds Try.pinned (OpenSpec.ofChange fnExactCountReachedCrewsWrong)

/-- 'laws.FnExactTeachPerson': WHATEVER THE INPUT: true; the input reads as it did. -/
def fnExactTeachPersonSpec : ChangeSpec := { name := "fnExactTeachPerson", fn := fun _ => fun
  | [d1, d2] => { results := [.lit (.bool true)], args := [d1, d2] }
  | _ => none }
def fnExactTeachPersonRow : OpenClaim := { program := "ytoedcieofjcgkaa", sum := "38142fa2092f688aef5f5a3833790fdf1a41c37be50ae4ea2fd46151413b97cc", func := "loop.example/g01272/laws.FnExactTeachPerson", spec := "fnExactTeachPerson", plainKeys := false, apart := false }
def FnExactTeachPersonSaid : Prop := fnExactTeachPersonRow.holds Try.pinned (OpenSpec.ofChange fnExactTeachPersonSpec)

/-- ITS FALSE NEIGHBOUR: 'it returns false'. Refute it at one input. -/
def fnExactTeachPersonWrong : ChangeSpec := { name := "fnExactTeachPerson", fn := fun _ => fun
  | [d1, d2] => { results := [.lit (.bool false)], args := [d1, d2] }
  | _ => none }
def FnExactTeachPersonWrongFalsely : Prop := fnExactTeachPersonRow.holds Try.pinned (OpenSpec.ofChange fnExactTeachPersonWrong)

/- THE SECOND FORM. 'bulk': how many values and letters a reading holds, each counted each time it is reached (what is shared counts as often as it is met; a slice's spare places count too). A statement '..UptoSaid' is the law's where the arguments, and the package variables that the reading takes, are together of bulk at most 1048576: NARROWER than '..Said'. Prove '..Said' where nothing that the law and all that it calls make is longer than what came in: it says more and counts as full. Else prove '..UptoSaid'. A law counts once. -/
mutual
def uptoBulk {H : Type} : DataW H → Nat
  | .lit (.string bytes) => bytes.length + 1
  | .lit _ => 1
  | .nil => 1
  | .ptr d => uptoBulk d + 1
  | .slice elems spare => uptoBulkAll elems + uptoBulkAll spare + 1
  | .agg parts => uptoBulkAll parts + 1
  | .iface _ d => uptoBulk d + 1
  | .map entries => uptoBulkEntries entries + 1
  | .held _ => 1
def uptoBulkAll {H : Type} : List (DataW H) → Nat
  | [] => 0
  | d :: r => uptoBulk d + uptoBulkAll r
def uptoBulkEntries {H : Type} : List (Lit × DataW H) → Nat
  | [] => 0
  | x :: r => uptoBulkEntry x + uptoBulkEntries r
def uptoBulkEntry {H : Type} : Lit × DataW H → Nat
  | (.string bytes, d) => bytes.length + uptoBulk d + 1
  | (_, d) => uptoBulk d + 1
 end
def uptoSmall : (H : Type) → List (DataW H) → Bool := fun _ ds => decide (uptoBulkAll ds ≤ 1048576)
def OpenSpec.upto (s : _root_.Go.ChangeSpec) : _root_.Go.OpenSpec := { _root_.Go.OpenSpec.ofChange s with cond := some uptoSmall }

/-- 'laws.FnExactIsCalmPlan', WHERE WHAT IT READS IS OF BULK AT MOST 1048576: true; the input reads as it did. -/
def fnExactIsCalmPlanUptoRow : OpenClaim := { program := "ytoedcieofjcgkaa", sum := "38142fa2092f688aef5f5a3833790fdf1a41c37be50ae4ea2fd46151413b97cc", func := "loop.example/g01272/laws.FnExactIsCalmPlan", spec := "fnExactIsCalmPlan", unfollowed := true, recurses := true, plainKeys := false, apart := false, narrowed := true }
def FnExactIsCalmPlanUptoSaid : Prop := fnExactIsCalmPlanUptoRow.holds Try.pinned (OpenSpec.upto fnExactIsCalmPlanSpec)

/-- 'laws.FnExactIsCrew', WHERE WHAT IT READS IS OF BULK AT MOST 1048576: true; the input reads as it did. -/
def fnExactIsCrewUptoRow : OpenClaim := { program := "ytoedcieofjcgkaa", sum := "38142fa2092f688aef5f5a3833790fdf1a41c37be50ae4ea2fd46151413b97cc", func := "loop.example/g01272/laws.FnExactIsCrew", spec := "fnExactIsCrew", plainKeys := false, apart := false, narrowed := true }
def FnExactIsCrewUptoSaid : Prop := fnExactIsCrewUptoRow.holds Try.pinned (OpenSpec.upto fnExactIsCrewSpec)

/-- 'laws.FnExactRidesOfCrew', WHERE WHAT IT READS IS OF BULK AT MOST 1048576: true; the input reads as it did. -/
def fnExactRidesOfCrewUptoRow : OpenClaim := { program := "ytoedcieofjcgkaa", sum := "38142fa2092f688aef5f5a3833790fdf1a41c37be50ae4ea2fd46151413b97cc", func := "loop.example/g01272/laws.FnExactRidesOfCrew", spec := "fnExactRidesOfCrew", unfollowed := true, recurses := true, plainKeys := false, apart := false, narrowed := true }
def FnExactRidesOfCrewUptoSaid : Prop := fnExactRidesOfCrewUptoRow.holds Try.pinned (OpenSpec.upto fnExactRidesOfCrewSpec)

/-- 'laws.FnExactRideWithCrew', WHERE WHAT IT READS IS OF BULK AT MOST 1048576: true; the input reads as it did. -/
def fnExactRideWithCrewUptoRow : OpenClaim := { program := "ytoedcieofjcgkaa", sum := "38142fa2092f688aef5f5a3833790fdf1a41c37be50ae4ea2fd46151413b97cc", func := "loop.example/g01272/laws.FnExactRideWithCrew", spec := "fnExactRideWithCrew", unfollowed := true, recurses := true, plainKeys := false, apart := false, narrowed := true }
def FnExactRideWithCrewUptoSaid : Prop := fnExactRideWithCrewUptoRow.holds Try.pinned (OpenSpec.upto fnExactRideWithCrewSpec)

/-- 'laws.FnExactLoadOf', WHERE WHAT IT READS IS OF BULK AT MOST 1048576: true; the input reads as it did. -/
def fnExactLoadOfUptoRow : OpenClaim := { program := "ytoedcieofjcgkaa", sum := "38142fa2092f688aef5f5a3833790fdf1a41c37be50ae4ea2fd46151413b97cc", func := "loop.example/g01272/laws.FnExactLoadOf", spec := "fnExactLoadOf", unfollowed := true, recurses := true, plainKeys := false, apart := false, narrowed := true }
def FnExactLoadOfUptoSaid : Prop := fnExactLoadOfUptoRow.holds Try.pinned (OpenSpec.upto fnExactLoadOfSpec)

/-- 'laws.FnExactFewestOfCrew', WHERE WHAT IT READS IS OF BULK AT MOST 1048576: true; the input reads as it did. -/
def fnExactFewestOfCrewUptoRow : OpenClaim := { program := "ytoedcieofjcgkaa", sum := "38142fa2092f688aef5f5a3833790fdf1a41c37be50ae4ea2fd46151413b97cc", func := "loop.example/g01272/laws.FnExactFewestOfCrew", spec := "fnExactFewestOfCrew", unfollowed := true, recurses := true, plainKeys := false, apart := false, narrowed := true }
def FnExactFewestOfCrewUptoSaid : Prop := fnExactFewestOfCrewUptoRow.holds Try.pinned (OpenSpec.upto fnExactFewestOfCrewSpec)

/-- 'laws.FnExactFirstOfCrew', WHERE WHAT IT READS IS OF BULK AT MOST 1048576: true; the input reads as it did. -/
def fnExactFirstOfCrewUptoRow : OpenClaim := { program := "ytoedcieofjcgkaa", sum := "38142fa2092f688aef5f5a3833790fdf1a41c37be50ae4ea2fd46151413b97cc", func := "loop.example/g01272/laws.FnExactFirstOfCrew", spec := "fnExactFirstOfCrew", unfollowed := true, recurses := true, plainKeys := false, apart := false, narrowed := true }
def FnExactFirstOfCrewUptoSaid : Prop := fnExactFirstOfCrewUptoRow.holds Try.pinned (OpenSpec.upto fnExactFirstOfCrewSpec)

/-- 'laws.FnExactLeastMost', WHERE WHAT IT READS IS OF BULK AT MOST 1048576: true; the input reads as it did. -/
def fnExactLeastMostUptoRow : OpenClaim := { program := "ytoedcieofjcgkaa", sum := "38142fa2092f688aef5f5a3833790fdf1a41c37be50ae4ea2fd46151413b97cc", func := "loop.example/g01272/laws.FnExactLeastMost", spec := "fnExactLeastMost", unfollowed := true, recurses := true, plainKeys := false, apart := false, narrowed := true }
def FnExactLeastMostUptoSaid : Prop := fnExactLeastMostUptoRow.holds Try.pinned (OpenSpec.upto fnExactLeastMostSpec)

/-- 'laws.FnExactIsCrewPlan', WHERE WHAT IT READS IS OF BULK AT MOST 1048576: true; the input reads as it did. -/
def fnExactIsCrewPlanUptoRow : OpenClaim := { program := "ytoedcieofjcgkaa", sum := "38142fa2092f688aef5f5a3833790fdf1a41c37be50ae4ea2fd46151413b97cc", func := "loop.example/g01272/laws.FnExactIsCrewPlan", spec := "fnExactIsCrewPlan", unfollowed := true, recurses := true, plainKeys := false, apart := false, narrowed := true }
def FnExactIsCrewPlanUptoSaid : Prop := fnExactIsCrewPlanUptoRow.holds Try.pinned (OpenSpec.upto fnExactIsCrewPlanSpec)

/-- 'laws.FnExactNeededRowers', WHERE WHAT IT READS IS OF BULK AT MOST 1048576: true; the input reads as it did. -/
def fnExactNeededRowersUptoRow : OpenClaim := { program := "ytoedcieofjcgkaa", sum := "38142fa2092f688aef5f5a3833790fdf1a41c37be50ae4ea2fd46151413b97cc", func := "loop.example/g01272/laws.FnExactNeededRowers", spec := "fnExactNeededRowers", unfollowed := true, recurses := true, plainKeys := false, apart := false, narrowed := true }
def FnExactNeededRowersUptoSaid : Prop := fnExactNeededRowersUptoRow.holds Try.pinned (OpenSpec.upto fnExactNeededRowersSpec)

/-- 'laws.FnExactCountReachedCrews', WHERE WHAT IT READS IS OF BULK AT MOST 1048576: true; the input reads as it did. -/
def fnExactCountReachedCrewsUptoRow : OpenClaim := { program := "ytoedcieofjcgkaa", sum := "38142fa2092f688aef5f5a3833790fdf1a41c37be50ae4ea2fd46151413b97cc", func := "loop.example/g01272/laws.FnExactCountReachedCrews", spec := "fnExactCountReachedCrews", unfollowed := true, recurses := true, plainKeys := false, apart := false, narrowed := true }
def FnExactCountReachedCrewsUptoSaid : Prop := fnExactCountReachedCrewsUptoRow.holds Try.pinned (OpenSpec.upto fnExactCountReachedCrewsSpec)

/-- 'laws.FnExactTeachPerson', WHERE WHAT IT READS IS OF BULK AT MOST 1048576: true; the input reads as it did. -/
def fnExactTeachPersonUptoRow : OpenClaim := { program := "ytoedcieofjcgkaa", sum := "38142fa2092f688aef5f5a3833790fdf1a41c37be50ae4ea2fd46151413b97cc", func := "loop.example/g01272/laws.FnExactTeachPerson", spec := "fnExactTeachPerson", plainKeys := false, apart := false, narrowed := true }
def FnExactTeachPersonUptoSaid : Prop := fnExactTeachPersonUptoRow.holds Try.pinned (OpenSpec.upto fnExactTeachPersonSpec)

end Rows
end Go.Proofs.Ytoedcieofjcgkaa
