/-
  No cell of these rows narrows 'for every input' (looked for: loops, veiled, ifaces, maps, wideKeys, modest, calm, conditions, laid).
  DERIVED. THE GIVEN ROWS OF THIS SEAT. 12 by the template 'for every input the law returns true; each argument reads behind the call as it read before'; 0 by the template 'total and deterministic' (their statements: YtlpeimlbpiofkaaTotals.lean).
  GIVEN WITH THE SEED: the statements are not yours to turn. If you find one false, say at which input.
  Laid BY PROGRAM, IN A SANDBOX (cutbox-rows.mjs): the forced cells as the released guide's own fill.sh prints them over the translation 5029a6d74ab539ff… (all of the seat's roots in one cut). By AI agents, Wed Nov 11 2026. No macro, syntax, notation, axiom, sorry.
-/
import Derived.Test.YtlpeimlbpiofkaaChecked
import GoSem.Claim
import GoSem.ClaimJoined
import GoSem.ClaimMapViews
import Derived.JoinedTies
import Derived.KernelRfl
namespace Go.Proofs.Ytlpeimlbpiofkaa
/- THE CELL 'sum', in the pinned program and in every row, IS THE sha256 OF THE DUMP (.gsa) THAT YtlpeimlbpiofkaaProg.lean LOADS. Nothing in Lean hashes anything: it is a label: what it is worth is what the hold of that sum in a sandbox is worth. -/
noncomputable def Try.pinned : Pinned := { name := "ytlpeimlbpiofkaa", sum := "5029a6d74ab539ff558924a8c0c656ed8a117ae040b87fa505ee3bec5a469685", checked := Try.checked }
namespace Rows
def none {H : Type} : Left H := { results := [], args := [] }

/-- 'laws.FnExactLeastTime': WHATEVER THE INPUT: true; the input reads as it did. -/
def fnExactLeastTimeSpec : ChangeSpec := { name := "fnExactLeastTime", fn := fun _ => fun
  | [d] => { results := [.lit (.bool true)], args := [d] }
  | _ => none }
def fnExactLeastTimeRow : OpenClaim := { program := "ytlpeimlbpiofkaa", sum := "5029a6d74ab539ff558924a8c0c656ed8a117ae040b87fa505ee3bec5a469685", func := "loop.example/g01272/laws.FnExactLeastTime", spec := "fnExactLeastTime", unfollowed := true, recurses := true, plainKeys := false, apart := false }
def FnExactLeastTimeSaid : Prop := fnExactLeastTimeRow.holds Try.pinned (OpenSpec.ofChange fnExactLeastTimeSpec)

/-- ITS FALSE NEIGHBOUR: 'it returns false'. Refute it at one input. -/
def fnExactLeastTimeWrong : ChangeSpec := { name := "fnExactLeastTime", fn := fun _ => fun
  | [d] => { results := [.lit (.bool false)], args := [d] }
  | _ => none }
def FnExactLeastTimeWrongFalsely : Prop := fnExactLeastTimeRow.holds Try.pinned (OpenSpec.ofChange fnExactLeastTimeWrong)

/-- 'laws.FnExactFirstBest': WHATEVER THE INPUT: true; the input reads as it did. -/
def fnExactFirstBestSpec : ChangeSpec := { name := "fnExactFirstBest", fn := fun _ => fun
  | [d] => { results := [.lit (.bool true)], args := [d] }
  | _ => none }
def fnExactFirstBestRow : OpenClaim := { program := "ytlpeimlbpiofkaa", sum := "5029a6d74ab539ff558924a8c0c656ed8a117ae040b87fa505ee3bec5a469685", func := "loop.example/g01272/laws.FnExactFirstBest", spec := "fnExactFirstBest", unfollowed := true, recurses := true, plainKeys := false, apart := false }
def FnExactFirstBestSaid : Prop := fnExactFirstBestRow.holds Try.pinned (OpenSpec.ofChange fnExactFirstBestSpec)

/-- ITS FALSE NEIGHBOUR: 'it returns false'. Refute it at one input. -/
def fnExactFirstBestWrong : ChangeSpec := { name := "fnExactFirstBest", fn := fun _ => fun
  | [d] => { results := [.lit (.bool false)], args := [d] }
  | _ => none }
def FnExactFirstBestWrongFalsely : Prop := fnExactFirstBestRow.holds Try.pinned (OpenSpec.ofChange fnExactFirstBestWrong)

/-- 'laws.FnExactBestFirstTrips': WHATEVER THE INPUT: true; the input reads as it did. -/
def fnExactBestFirstTripsSpec : ChangeSpec := { name := "fnExactBestFirstTrips", fn := fun _ => fun
  | [d] => { results := [.lit (.bool true)], args := [d] }
  | _ => none }
def fnExactBestFirstTripsRow : OpenClaim := { program := "ytlpeimlbpiofkaa", sum := "5029a6d74ab539ff558924a8c0c656ed8a117ae040b87fa505ee3bec5a469685", func := "loop.example/g01272/laws.FnExactBestFirstTrips", spec := "fnExactBestFirstTrips", unfollowed := true, recurses := true, plainKeys := false, apart := false }
def FnExactBestFirstTripsSaid : Prop := fnExactBestFirstTripsRow.holds Try.pinned (OpenSpec.ofChange fnExactBestFirstTripsSpec)

/-- ITS FALSE NEIGHBOUR: 'it returns false'. Refute it at one input. -/
def fnExactBestFirstTripsWrong : ChangeSpec := { name := "fnExactBestFirstTrips", fn := fun _ => fun
  | [d] => { results := [.lit (.bool false)], args := [d] }
  | _ => none }
def FnExactBestFirstTripsWrongFalsely : Prop := fnExactBestFirstTripsRow.holds Try.pinned (OpenSpec.ofChange fnExactBestFirstTripsWrong)

/-- 'laws.FnExactIsOnBest': WHATEVER THE INPUT: true; the input reads as it did. -/
def fnExactIsOnBestSpec : ChangeSpec := { name := "fnExactIsOnBest", fn := fun _ => fun
  | [d1, d2] => { results := [.lit (.bool true)], args := [d1, d2] }
  | _ => none }
def fnExactIsOnBestRow : OpenClaim := { program := "ytlpeimlbpiofkaa", sum := "5029a6d74ab539ff558924a8c0c656ed8a117ae040b87fa505ee3bec5a469685", func := "loop.example/g01272/laws.FnExactIsOnBest", spec := "fnExactIsOnBest", unfollowed := true, recurses := true, plainKeys := false, apart := false }
def FnExactIsOnBestSaid : Prop := fnExactIsOnBestRow.holds Try.pinned (OpenSpec.ofChange fnExactIsOnBestSpec)

/-- ITS FALSE NEIGHBOUR: 'it returns false'. Refute it at one input. -/
def fnExactIsOnBestWrong : ChangeSpec := { name := "fnExactIsOnBest", fn := fun _ => fun
  | [d1, d2] => { results := [.lit (.bool false)], args := [d1, d2] }
  | _ => none }
def FnExactIsOnBestWrongFalsely : Prop := fnExactIsOnBestRow.holds Try.pinned (OpenSpec.ofChange fnExactIsOnBestWrong)

/-- 'laws.FnExactCountOnBest': WHATEVER THE INPUT: true; the input reads as it did. -/
def fnExactCountOnBestSpec : ChangeSpec := { name := "fnExactCountOnBest", fn := fun _ => fun
  | [d] => { results := [.lit (.bool true)], args := [d] }
  | _ => none }
def fnExactCountOnBestRow : OpenClaim := { program := "ytlpeimlbpiofkaa", sum := "5029a6d74ab539ff558924a8c0c656ed8a117ae040b87fa505ee3bec5a469685", func := "loop.example/g01272/laws.FnExactCountOnBest", spec := "fnExactCountOnBest", unfollowed := true, recurses := true, plainKeys := false, apart := false }
def FnExactCountOnBestSaid : Prop := fnExactCountOnBestRow.holds Try.pinned (OpenSpec.ofChange fnExactCountOnBestSpec)

/-- ITS FALSE NEIGHBOUR: 'it returns false'. Refute it at one input. -/
def fnExactCountOnBestWrong : ChangeSpec := { name := "fnExactCountOnBest", fn := fun _ => fun
  | [d] => { results := [.lit (.bool false)], args := [d] }
  | _ => none }
def FnExactCountOnBestWrongFalsely : Prop := fnExactCountOnBestRow.holds Try.pinned (OpenSpec.ofChange fnExactCountOnBestWrong)

/-- 'laws.FnExactFarthestStates': WHATEVER THE INPUT: true; the input reads as it did. -/
def fnExactFarthestStatesSpec : ChangeSpec := { name := "fnExactFarthestStates", fn := fun _ => fun
  | [d] => { results := [.lit (.bool true)], args := [d] }
  | _ => none }
def fnExactFarthestStatesRow : OpenClaim := { program := "ytlpeimlbpiofkaa", sum := "5029a6d74ab539ff558924a8c0c656ed8a117ae040b87fa505ee3bec5a469685", func := "loop.example/g01272/laws.FnExactFarthestStates", spec := "fnExactFarthestStates", unfollowed := true, recurses := true, plainKeys := false, apart := false }
def FnExactFarthestStatesSaid : Prop := fnExactFarthestStatesRow.holds Try.pinned (OpenSpec.ofChange fnExactFarthestStatesSpec)

/-- ITS FALSE NEIGHBOUR: 'it returns false'. Refute it at one input. -/
def fnExactFarthestStatesWrong : ChangeSpec := { name := "fnExactFarthestStates", fn := fun _ => fun
  | [d] => { results := [.lit (.bool false)], args := [d] }
  | _ => none }
def FnExactFarthestStatesWrongFalsely : Prop := fnExactFarthestStatesRow.holds Try.pinned (OpenSpec.ofChange fnExactFarthestStatesWrong)

/-- 'laws.FnExactFewestOfCrew': WHATEVER THE INPUT: true; the input reads as it did. -/
def fnExactFewestOfCrewSpec : ChangeSpec := { name := "fnExactFewestOfCrew", fn := fun _ => fun
  | [d] => { results := [.lit (.bool true)], args := [d] }
  | _ => none }
def fnExactFewestOfCrewRow : OpenClaim := { program := "ytlpeimlbpiofkaa", sum := "5029a6d74ab539ff558924a8c0c656ed8a117ae040b87fa505ee3bec5a469685", func := "loop.example/g01272/laws.FnExactFewestOfCrew", spec := "fnExactFewestOfCrew", unfollowed := true, recurses := true, plainKeys := false, apart := false }
def FnExactFewestOfCrewSaid : Prop := fnExactFewestOfCrewRow.holds Try.pinned (OpenSpec.ofChange fnExactFewestOfCrewSpec)

/-- ITS FALSE NEIGHBOUR: 'it returns false'. Refute it at one input. -/
def fnExactFewestOfCrewWrong : ChangeSpec := { name := "fnExactFewestOfCrew", fn := fun _ => fun
  | [d] => { results := [.lit (.bool false)], args := [d] }
  | _ => none }
def FnExactFewestOfCrewWrongFalsely : Prop := fnExactFewestOfCrewRow.holds Try.pinned (OpenSpec.ofChange fnExactFewestOfCrewWrong)

/-- 'laws.FnExactFirstOfCrew': WHATEVER THE INPUT: true; the input reads as it did. -/
def fnExactFirstOfCrewSpec : ChangeSpec := { name := "fnExactFirstOfCrew", fn := fun _ => fun
  | [d] => { results := [.lit (.bool true)], args := [d] }
  | _ => none }
def fnExactFirstOfCrewRow : OpenClaim := { program := "ytlpeimlbpiofkaa", sum := "5029a6d74ab539ff558924a8c0c656ed8a117ae040b87fa505ee3bec5a469685", func := "loop.example/g01272/laws.FnExactFirstOfCrew", spec := "fnExactFirstOfCrew", unfollowed := true, recurses := true, plainKeys := false, apart := false }
def FnExactFirstOfCrewSaid : Prop := fnExactFirstOfCrewRow.holds Try.pinned (OpenSpec.ofChange fnExactFirstOfCrewSpec)

/-- ITS FALSE NEIGHBOUR: 'it returns false'. Refute it at one input. -/
def fnExactFirstOfCrewWrong : ChangeSpec := { name := "fnExactFirstOfCrew", fn := fun _ => fun
  | [d] => { results := [.lit (.bool false)], args := [d] }
  | _ => none }
def FnExactFirstOfCrewWrongFalsely : Prop := fnExactFirstOfCrewRow.holds Try.pinned (OpenSpec.ofChange fnExactFirstOfCrewWrong)

/-- 'laws.FnExactLeastMost': WHATEVER THE INPUT: true; the input reads as it did. -/
def fnExactLeastMostSpec : ChangeSpec := { name := "fnExactLeastMost", fn := fun _ => fun
  | [d] => { results := [.lit (.bool true)], args := [d] }
  | _ => none }
def fnExactLeastMostRow : OpenClaim := { program := "ytlpeimlbpiofkaa", sum := "5029a6d74ab539ff558924a8c0c656ed8a117ae040b87fa505ee3bec5a469685", func := "loop.example/g01272/laws.FnExactLeastMost", spec := "fnExactLeastMost", unfollowed := true, recurses := true, plainKeys := false, apart := false }
def FnExactLeastMostSaid : Prop := fnExactLeastMostRow.holds Try.pinned (OpenSpec.ofChange fnExactLeastMostSpec)

/-- ITS FALSE NEIGHBOUR: 'it returns false'. Refute it at one input. -/
def fnExactLeastMostWrong : ChangeSpec := { name := "fnExactLeastMost", fn := fun _ => fun
  | [d] => { results := [.lit (.bool false)], args := [d] }
  | _ => none }
def FnExactLeastMostWrongFalsely : Prop := fnExactLeastMostRow.holds Try.pinned (OpenSpec.ofChange fnExactLeastMostWrong)

/-- 'laws.FnExactLeastCarried': WHATEVER THE INPUT: true; the input reads as it did. -/
def fnExactLeastCarriedSpec : ChangeSpec := { name := "fnExactLeastCarried", fn := fun _ => fun
  | [d] => { results := [.lit (.bool true)], args := [d] }
  | _ => none }
def fnExactLeastCarriedRow : OpenClaim := { program := "ytlpeimlbpiofkaa", sum := "5029a6d74ab539ff558924a8c0c656ed8a117ae040b87fa505ee3bec5a469685", func := "loop.example/g01272/laws.FnExactLeastCarried", spec := "fnExactLeastCarried", unfollowed := true, recurses := true, plainKeys := false, apart := false }
def FnExactLeastCarriedSaid : Prop := fnExactLeastCarriedRow.holds Try.pinned (OpenSpec.ofChange fnExactLeastCarriedSpec)

/-- ITS FALSE NEIGHBOUR: 'it returns false'. Refute it at one input. -/
def fnExactLeastCarriedWrong : ChangeSpec := { name := "fnExactLeastCarried", fn := fun _ => fun
  | [d] => { results := [.lit (.bool false)], args := [d] }
  | _ => none }
def FnExactLeastCarriedWrongFalsely : Prop := fnExactLeastCarriedRow.holds Try.pinned (OpenSpec.ofChange fnExactLeastCarriedWrong)

/-- 'laws.FnExactFirstCarried': WHATEVER THE INPUT: true; the input reads as it did. -/
def fnExactFirstCarriedSpec : ChangeSpec := { name := "fnExactFirstCarried", fn := fun _ => fun
  | [d] => { results := [.lit (.bool true)], args := [d] }
  | _ => none }
def fnExactFirstCarriedRow : OpenClaim := { program := "ytlpeimlbpiofkaa", sum := "5029a6d74ab539ff558924a8c0c656ed8a117ae040b87fa505ee3bec5a469685", func := "loop.example/g01272/laws.FnExactFirstCarried", spec := "fnExactFirstCarried", unfollowed := true, recurses := true, plainKeys := false, apart := false }
def FnExactFirstCarriedSaid : Prop := fnExactFirstCarriedRow.holds Try.pinned (OpenSpec.ofChange fnExactFirstCarriedSpec)

/-- ITS FALSE NEIGHBOUR: 'it returns false'. Refute it at one input. -/
def fnExactFirstCarriedWrong : ChangeSpec := { name := "fnExactFirstCarried", fn := fun _ => fun
  | [d] => { results := [.lit (.bool false)], args := [d] }
  | _ => none }
def FnExactFirstCarriedWrongFalsely : Prop := fnExactFirstCarriedRow.holds Try.pinned (OpenSpec.ofChange fnExactFirstCarriedWrong)

/-- 'laws.FnExactNeededRowers': WHATEVER THE INPUT: true; the input reads as it did. -/
def fnExactNeededRowersSpec : ChangeSpec := { name := "fnExactNeededRowers", fn := fun _ => fun
  | [d] => { results := [.lit (.bool true)], args := [d] }
  | _ => none }
def fnExactNeededRowersRow : OpenClaim := { program := "ytlpeimlbpiofkaa", sum := "5029a6d74ab539ff558924a8c0c656ed8a117ae040b87fa505ee3bec5a469685", func := "loop.example/g01272/laws.FnExactNeededRowers", spec := "fnExactNeededRowers", unfollowed := true, recurses := true, plainKeys := false, apart := false }
def FnExactNeededRowersSaid : Prop := fnExactNeededRowersRow.holds Try.pinned (OpenSpec.ofChange fnExactNeededRowersSpec)

/-- ITS FALSE NEIGHBOUR: 'it returns false'. Refute it at one input. -/
def fnExactNeededRowersWrong : ChangeSpec := { name := "fnExactNeededRowers", fn := fun _ => fun
  | [d] => { results := [.lit (.bool false)], args := [d] }
  | _ => none }
def FnExactNeededRowersWrongFalsely : Prop := fnExactNeededRowersRow.holds Try.pinned (OpenSpec.ofChange fnExactNeededRowersWrong)

/- THE SECOND FORM. 'bulk': how many values and letters a reading holds, each counted each time it is reached (what is shared counts as often as it is met; a slice's spare places count too). A statement '..UptoSaid' is the law's where the arguments, and the package variables that the reading takes, are together of bulk at most 1048576: NARROWER than '..Said'. Prove '..Said' where nothing that the law and all that it calls make is longer than what came in: it says more and counts as full. Else prove '..UptoSaid'. A law counts once. -/
mutual
def uptoBulk {H : Type} : DataW H → Nat
  | .lit (.string bytes) => bytes.length + 1
  | .lit _ => 1
  | .nil => 1
  | .ptr d => uptoBulk d + 1
  | .slice elems spare => uptoBulkAll elems + uptoBulkAll spare + 1
  | .agg parts => uptoBulkAll parts + 1
  | .iface _ d => uptoBulk d + 1
  | .map entries => uptoBulkEntries entries + 1
  | .held _ => 1
def uptoBulkAll {H : Type} : List (DataW H) → Nat
  | [] => 0
  | d :: r => uptoBulk d + uptoBulkAll r
def uptoBulkEntries {H : Type} : List (Lit × DataW H) → Nat
  | [] => 0
  | x :: r => uptoBulkEntry x + uptoBulkEntries r
def uptoBulkEntry {H : Type} : Lit × DataW H → Nat
  | (.string bytes, d) => bytes.length + uptoBulk d + 1
  | (_, d) => uptoBulk d + 1
 end
def uptoSmall : (H : Type) → List (DataW H) → Bool := fun _ ds => decide (uptoBulkAll ds ≤ 1048576)
def OpenSpec.upto (s : _root_.Go.ChangeSpec) : _root_.Go.OpenSpec := { _root_.Go.OpenSpec.ofChange s with cond := some uptoSmall }

/-- 'laws.FnExactLeastTime', WHERE WHAT IT READS IS OF BULK AT MOST 1048576: true; the input reads as it did. -/
def fnExactLeastTimeUptoRow : OpenClaim := { program := "ytlpeimlbpiofkaa", sum := "5029a6d74ab539ff558924a8c0c656ed8a117ae040b87fa505ee3bec5a469685", func := "loop.example/g01272/laws.FnExactLeastTime", spec := "fnExactLeastTime", unfollowed := true, recurses := true, plainKeys := false, apart := false, narrowed := true }
def FnExactLeastTimeUptoSaid : Prop := fnExactLeastTimeUptoRow.holds Try.pinned (OpenSpec.upto fnExactLeastTimeSpec)

/-- 'laws.FnExactFirstBest', WHERE WHAT IT READS IS OF BULK AT MOST 1048576: true; the input reads as it did. -/
def fnExactFirstBestUptoRow : OpenClaim := { program := "ytlpeimlbpiofkaa", sum := "5029a6d74ab539ff558924a8c0c656ed8a117ae040b87fa505ee3bec5a469685", func := "loop.example/g01272/laws.FnExactFirstBest", spec := "fnExactFirstBest", unfollowed := true, recurses := true, plainKeys := false, apart := false, narrowed := true }
def FnExactFirstBestUptoSaid : Prop := fnExactFirstBestUptoRow.holds Try.pinned (OpenSpec.upto fnExactFirstBestSpec)

/-- 'laws.FnExactBestFirstTrips', WHERE WHAT IT READS IS OF BULK AT MOST 1048576: true; the input reads as it did. -/
def fnExactBestFirstTripsUptoRow : OpenClaim := { program := "ytlpeimlbpiofkaa", sum := "5029a6d74ab539ff558924a8c0c656ed8a117ae040b87fa505ee3bec5a469685", func := "loop.example/g01272/laws.FnExactBestFirstTrips", spec := "fnExactBestFirstTrips", unfollowed := true, recurses := true, plainKeys := false, apart := false, narrowed := true }
def FnExactBestFirstTripsUptoSaid : Prop := fnExactBestFirstTripsUptoRow.holds Try.pinned (OpenSpec.upto fnExactBestFirstTripsSpec)

/-- 'laws.FnExactIsOnBest', WHERE WHAT IT READS IS OF BULK AT MOST 1048576: true; the input reads as it did. -/
def fnExactIsOnBestUptoRow : OpenClaim := { program := "ytlpeimlbpiofkaa", sum := "5029a6d74ab539ff558924a8c0c656ed8a117ae040b87fa505ee3bec5a469685", func := "loop.example/g01272/laws.FnExactIsOnBest", spec := "fnExactIsOnBest", unfollowed := true, recurses := true, plainKeys := false, apart := false, narrowed := true }
def FnExactIsOnBestUptoSaid : Prop := fnExactIsOnBestUptoRow.holds Try.pinned (OpenSpec.upto fnExactIsOnBestSpec)

/-- 'laws.FnExactCountOnBest', WHERE WHAT IT READS IS OF BULK AT MOST 1048576: true; the input reads as it did. -/
def fnExactCountOnBestUptoRow : OpenClaim := { program := "ytlpeimlbpiofkaa", sum := "5029a6d74ab539ff558924a8c0c656ed8a117ae040b87fa505ee3bec5a469685", func := "loop.example/g01272/laws.FnExactCountOnBest", spec := "fnExactCountOnBest", unfollowed := true, recurses := true, plainKeys := false, apart := false, narrowed := true }
def FnExactCountOnBestUptoSaid : Prop := fnExactCountOnBestUptoRow.holds Try.pinned (OpenSpec.upto fnExactCountOnBestSpec)

/-- 'laws.FnExactFarthestStates', WHERE WHAT IT READS IS OF BULK AT MOST 1048576: true; the input reads as it did. -/
def fnExactFarthestStatesUptoRow : OpenClaim := { program := "ytlpeimlbpiofkaa", sum := "5029a6d74ab539ff558924a8c0c656ed8a117ae040b87fa505ee3bec5a469685", func := "loop.example/g01272/laws.FnExactFarthestStates", spec := "fnExactFarthestStates", unfollowed := true, recurses := true, plainKeys := false, apart := false, narrowed := true }
def FnExactFarthestStatesUptoSaid : Prop := fnExactFarthestStatesUptoRow.holds Try.pinned (OpenSpec.upto fnExactFarthestStatesSpec)

/-- 'laws.FnExactFewestOfCrew', WHERE WHAT IT READS IS OF BULK AT MOST 1048576: true; the input reads as it did. -/
def fnExactFewestOfCrewUptoRow : OpenClaim := { program := "ytlpeimlbpiofkaa", sum := "5029a6d74ab539ff558924a8c0c656ed8a117ae040b87fa505ee3bec5a469685", func := "loop.example/g01272/laws.FnExactFewestOfCrew", spec := "fnExactFewestOfCrew", unfollowed := true, recurses := true, plainKeys := false, apart := false, narrowed := true }
def FnExactFewestOfCrewUptoSaid : Prop := fnExactFewestOfCrewUptoRow.holds Try.pinned (OpenSpec.upto fnExactFewestOfCrewSpec)

/-- 'laws.FnExactFirstOfCrew', WHERE WHAT IT READS IS OF BULK AT MOST 1048576: true; the input reads as it did. -/
def fnExactFirstOfCrewUptoRow : OpenClaim := { program := "ytlpeimlbpiofkaa", sum := "5029a6d74ab539ff558924a8c0c656ed8a117ae040b87fa505ee3bec5a469685", func := "loop.example/g01272/laws.FnExactFirstOfCrew", spec := "fnExactFirstOfCrew", unfollowed := true, recurses := true, plainKeys := false, apart := false, narrowed := true }
def FnExactFirstOfCrewUptoSaid : Prop := fnExactFirstOfCrewUptoRow.holds Try.pinned (OpenSpec.upto fnExactFirstOfCrewSpec)

/-- 'laws.FnExactLeastMost', WHERE WHAT IT READS IS OF BULK AT MOST 1048576: true; the input reads as it did. -/
def fnExactLeastMostUptoRow : OpenClaim := { program := "ytlpeimlbpiofkaa", sum := "5029a6d74ab539ff558924a8c0c656ed8a117ae040b87fa505ee3bec5a469685", func := "loop.example/g01272/laws.FnExactLeastMost", spec := "fnExactLeastMost", unfollowed := true, recurses := true, plainKeys := false, apart := false, narrowed := true }
def FnExactLeastMostUptoSaid : Prop := fnExactLeastMostUptoRow.holds Try.pinned (OpenSpec.upto fnExactLeastMostSpec)

/-- 'laws.FnExactLeastCarried', WHERE WHAT IT READS IS OF BULK AT MOST 1048576: true; the input reads as it did. -/
def fnExactLeastCarriedUptoRow : OpenClaim := { program := "ytlpeimlbpiofkaa", sum := "5029a6d74ab539ff558924a8c0c656ed8a117ae040b87fa505ee3bec5a469685", func := "loop.example/g01272/laws.FnExactLeastCarried", spec := "fnExactLeastCarried", unfollowed := true, recurses := true, plainKeys := false, apart := false, narrowed := true }
def FnExactLeastCarriedUptoSaid : Prop := fnExactLeastCarriedUptoRow.holds Try.pinned (OpenSpec.upto fnExactLeastCarriedSpec)

/-- 'laws.FnExactFirstCarried', WHERE WHAT IT READS IS OF BULK AT MOST 1048576: true; the input reads as it did. -/
def fnExactFirstCarriedUptoRow : OpenClaim := { program := "ytlpeimlbpiofkaa", sum := "5029a6d74ab539ff558924a8c0c656ed8a117ae040b87fa505ee3bec5a469685", func := "loop.example/g01272/laws.FnExactFirstCarried", spec := "fnExactFirstCarried", unfollowed := true, recurses := true, plainKeys := false, apart := false, narrowed := true }
def FnExactFirstCarriedUptoSaid : Prop := fnExactFirstCarriedUptoRow.holds Try.pinned (OpenSpec.upto fnExactFirstCarriedSpec)

/-- 'laws.FnExactNeededRowers', WHERE WHAT IT READS IS OF BULK AT MOST 1048576: true; the input reads as it did. -/
def fnExactNeededRowersUptoRow : OpenClaim := { program := "ytlpeimlbpiofkaa", sum := "5029a6d74ab539ff558924a8c0c656ed8a117ae040b87fa505ee3bec5a469685", func := "loop.example/g01272/laws.FnExactNeededRowers", spec := "fnExactNeededRowers", unfollowed := true, recurses := true, plainKeys := false, apart := false, narrowed := true }
def FnExactNeededRowersUptoSaid : Prop := fnExactNeededRowersUptoRow.holds Try.pinned (OpenSpec.upto fnExactNeededRowersSpec)

end Rows
end Go.Proofs.Ytlpeimlbpiofkaa
