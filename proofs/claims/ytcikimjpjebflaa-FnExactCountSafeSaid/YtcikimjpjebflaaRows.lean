/-
  No cell of these rows narrows 'for every input' (looked for: loops, veiled, ifaces, maps, wideKeys, modest, calm, conditions, laid).
  DERIVED. THE GIVEN ROWS OF THIS SEAT. 12 by the template 'for every input the law returns true; each argument reads behind the call as it read before'; 0 by the template 'total and deterministic' (their statements: YtcikimjpjebflaaTotals.lean).
  GIVEN WITH THE SEED: the statements are not yours to turn. If you find one false, say at which input.
  Laid BY PROGRAM, IN A SANDBOX (cutbox-rows.mjs): the forced cells as the released guide's own fill.sh prints them over the translation fa955d6d06171850… (all of the seat's roots in one cut). By AI agents, Wed Nov 11 2026. No macro, syntax, notation, axiom, sorry.
-/
import Derived.Test.YtcikimjpjebflaaChecked
import GoSem.Claim
import GoSem.ClaimJoined
import GoSem.ClaimMapViews
import Derived.JoinedTies
import Derived.KernelRfl
namespace Go.Proofs.Ytcikimjpjebflaa
/- THE CELL 'sum', in the pinned program and in every row, IS THE sha256 OF THE DUMP (.gsa) THAT YtcikimjpjebflaaProg.lean LOADS. Nothing in Lean hashes anything: it is a label: what it is worth is what the hold of that sum in a sandbox is worth. -/
noncomputable def Try.pinned : Pinned := { name := "ytcikimjpjebflaa", sum := "fa955d6d0617185083d286c531ea97c586a9ed9b7d5486ed1dfacfbee4c56f6f", checked := Try.checked }
namespace Rows
def none {H : Type} : Left H := { results := [], args := [] }

/-- 'laws.FnExactLeastTime': WHATEVER THE INPUT: true; the input reads as it did. -/
def fnExactLeastTimeSpec : ChangeSpec := { name := "fnExactLeastTime", fn := fun _ => fun
  | [d] => { results := [.lit (.bool true)], args := [d] }
  | _ => none }
def fnExactLeastTimeRow : OpenClaim := { program := "ytcikimjpjebflaa", sum := "fa955d6d0617185083d286c531ea97c586a9ed9b7d5486ed1dfacfbee4c56f6f", func := "loop.example/g01272/laws.FnExactLeastTime", spec := "fnExactLeastTime", unfollowed := true, recurses := true, plainKeys := false, apart := false }
def FnExactLeastTimeSaid : Prop := fnExactLeastTimeRow.holds Try.pinned (OpenSpec.ofChange fnExactLeastTimeSpec)

/-- ITS FALSE NEIGHBOUR: 'it returns false'. Refute it at one input. -/
def fnExactLeastTimeWrong : ChangeSpec := { name := "fnExactLeastTime", fn := fun _ => fun
  | [d] => { results := [.lit (.bool false)], args := [d] }
  | _ => none }
def FnExactLeastTimeWrongFalsely : Prop := fnExactLeastTimeRow.holds Try.pinned (OpenSpec.ofChange fnExactLeastTimeWrong)

/-- 'laws.FnExactTimeFrom': WHATEVER THE INPUT: true; the input reads as it did. -/
def fnExactTimeFromSpec : ChangeSpec := { name := "fnExactTimeFrom", fn := fun _ => fun
  | [d1, d2] => { results := [.lit (.bool true)], args := [d1, d2] }
  | _ => none }
def fnExactTimeFromRow : OpenClaim := { program := "ytcikimjpjebflaa", sum := "fa955d6d0617185083d286c531ea97c586a9ed9b7d5486ed1dfacfbee4c56f6f", func := "loop.example/g01272/laws.FnExactTimeFrom", spec := "fnExactTimeFrom", unfollowed := true, recurses := true, plainKeys := false, apart := false }
def FnExactTimeFromSaid : Prop := fnExactTimeFromRow.holds Try.pinned (OpenSpec.ofChange fnExactTimeFromSpec)

/-- ITS FALSE NEIGHBOUR: 'it returns false'. Refute it at one input. -/
def fnExactTimeFromWrong : ChangeSpec := { name := "fnExactTimeFrom", fn := fun _ => fun
  | [d1, d2] => { results := [.lit (.bool false)], args := [d1, d2] }
  | _ => none }
def FnExactTimeFromWrongFalsely : Prop := fnExactTimeFromRow.holds Try.pinned (OpenSpec.ofChange fnExactTimeFromWrong)

/-- 'laws.FnExactTimeTo': WHATEVER THE INPUT: true; the input reads as it did. -/
def fnExactTimeToSpec : ChangeSpec := { name := "fnExactTimeTo", fn := fun _ => fun
  | [d1, d2] => { results := [.lit (.bool true)], args := [d1, d2] }
  | _ => none }
def fnExactTimeToRow : OpenClaim := { program := "ytcikimjpjebflaa", sum := "fa955d6d0617185083d286c531ea97c586a9ed9b7d5486ed1dfacfbee4c56f6f", func := "loop.example/g01272/laws.FnExactTimeTo", spec := "fnExactTimeTo", unfollowed := true, recurses := true, plainKeys := false, apart := false }
def FnExactTimeToSaid : Prop := fnExactTimeToRow.holds Try.pinned (OpenSpec.ofChange fnExactTimeToSpec)

/-- ITS FALSE NEIGHBOUR: 'it returns false'. Refute it at one input. -/
def fnExactTimeToWrong : ChangeSpec := { name := "fnExactTimeTo", fn := fun _ => fun
  | [d1, d2] => { results := [.lit (.bool false)], args := [d1, d2] }
  | _ => none }
def FnExactTimeToWrongFalsely : Prop := fnExactTimeToRow.holds Try.pinned (OpenSpec.ofChange fnExactTimeToWrong)

/-- 'laws.FnExactFirstBest': WHATEVER THE INPUT: true; the input reads as it did. -/
def fnExactFirstBestSpec : ChangeSpec := { name := "fnExactFirstBest", fn := fun _ => fun
  | [d] => { results := [.lit (.bool true)], args := [d] }
  | _ => none }
def fnExactFirstBestRow : OpenClaim := { program := "ytcikimjpjebflaa", sum := "fa955d6d0617185083d286c531ea97c586a9ed9b7d5486ed1dfacfbee4c56f6f", func := "loop.example/g01272/laws.FnExactFirstBest", spec := "fnExactFirstBest", unfollowed := true, recurses := true, plainKeys := false, apart := false }
def FnExactFirstBestSaid : Prop := fnExactFirstBestRow.holds Try.pinned (OpenSpec.ofChange fnExactFirstBestSpec)

/-- ITS FALSE NEIGHBOUR: 'it returns false'. Refute it at one input. -/
def fnExactFirstBestWrong : ChangeSpec := { name := "fnExactFirstBest", fn := fun _ => fun
  | [d] => { results := [.lit (.bool false)], args := [d] }
  | _ => none }
def FnExactFirstBestWrongFalsely : Prop := fnExactFirstBestRow.holds Try.pinned (OpenSpec.ofChange fnExactFirstBestWrong)

/-- 'laws.FnExactFewestTrips': WHATEVER THE INPUT: true; the input reads as it did. -/
def fnExactFewestTripsSpec : ChangeSpec := { name := "fnExactFewestTrips", fn := fun _ => fun
  | [d] => { results := [.lit (.bool true)], args := [d] }
  | _ => none }
def fnExactFewestTripsRow : OpenClaim := { program := "ytcikimjpjebflaa", sum := "fa955d6d0617185083d286c531ea97c586a9ed9b7d5486ed1dfacfbee4c56f6f", func := "loop.example/g01272/laws.FnExactFewestTrips", spec := "fnExactFewestTrips", unfollowed := true, recurses := true, plainKeys := false, apart := false }
def FnExactFewestTripsSaid : Prop := fnExactFewestTripsRow.holds Try.pinned (OpenSpec.ofChange fnExactFewestTripsSpec)

/-- ITS FALSE NEIGHBOUR: 'it returns false'. Refute it at one input. -/
def fnExactFewestTripsWrong : ChangeSpec := { name := "fnExactFewestTrips", fn := fun _ => fun
  | [d] => { results := [.lit (.bool false)], args := [d] }
  | _ => none }
def FnExactFewestTripsWrongFalsely : Prop := fnExactFewestTripsRow.holds Try.pinned (OpenSpec.ofChange fnExactFewestTripsWrong)

/-- 'laws.FnExactReachedIn': WHATEVER THE INPUT: true; the input reads as it did. -/
def fnExactReachedInSpec : ChangeSpec := { name := "fnExactReachedIn", fn := fun _ => fun
  | [d1, d2] => { results := [.lit (.bool true)], args := [d1, d2] }
  | _ => none }
def fnExactReachedInRow : OpenClaim := { program := "ytcikimjpjebflaa", sum := "fa955d6d0617185083d286c531ea97c586a9ed9b7d5486ed1dfacfbee4c56f6f", func := "loop.example/g01272/laws.FnExactReachedIn", spec := "fnExactReachedIn", unfollowed := true, recurses := true, plainKeys := false, apart := false }
def FnExactReachedInSaid : Prop := fnExactReachedInRow.holds Try.pinned (OpenSpec.ofChange fnExactReachedInSpec)

/-- ITS FALSE NEIGHBOUR: 'it returns false'. Refute it at one input. -/
def fnExactReachedInWrong : ChangeSpec := { name := "fnExactReachedIn", fn := fun _ => fun
  | [d1, d2] => { results := [.lit (.bool false)], args := [d1, d2] }
  | _ => none }
def FnExactReachedInWrongFalsely : Prop := fnExactReachedInRow.holds Try.pinned (OpenSpec.ofChange fnExactReachedInWrong)

/-- 'laws.FnExactCostOf': WHATEVER THE INPUT: true; the input reads as it did. -/
def fnExactCostOfSpec : ChangeSpec := { name := "fnExactCostOf", fn := fun _ => fun
  | [d1, d2] => { results := [.lit (.bool true)], args := [d1, d2] }
  | _ => none }
def fnExactCostOfRow : OpenClaim := { program := "ytcikimjpjebflaa", sum := "fa955d6d0617185083d286c531ea97c586a9ed9b7d5486ed1dfacfbee4c56f6f", func := "loop.example/g01272/laws.FnExactCostOf", spec := "fnExactCostOf", unfollowed := true, recurses := true, plainKeys := false, apart := false }
def FnExactCostOfSaid : Prop := fnExactCostOfRow.holds Try.pinned (OpenSpec.ofChange fnExactCostOfSpec)

/-- ITS FALSE NEIGHBOUR: 'it returns false'. Refute it at one input. -/
def fnExactCostOfWrong : ChangeSpec := { name := "fnExactCostOf", fn := fun _ => fun
  | [d1, d2] => { results := [.lit (.bool false)], args := [d1, d2] }
  | _ => none }
def FnExactCostOfWrongFalsely : Prop := fnExactCostOfRow.holds Try.pinned (OpenSpec.ofChange fnExactCostOfWrong)

/-- 'laws.FnExactTimesBySeats': WHATEVER THE INPUT: true; the input reads as it did. -/
def fnExactTimesBySeatsSpec : ChangeSpec := { name := "fnExactTimesBySeats", fn := fun _ => fun
  | [d] => { results := [.lit (.bool true)], args := [d] }
  | _ => none }
def fnExactTimesBySeatsRow : OpenClaim := { program := "ytcikimjpjebflaa", sum := "fa955d6d0617185083d286c531ea97c586a9ed9b7d5486ed1dfacfbee4c56f6f", func := "loop.example/g01272/laws.FnExactTimesBySeats", spec := "fnExactTimesBySeats", unfollowed := true, recurses := true, plainKeys := false, apart := false }
def FnExactTimesBySeatsSaid : Prop := fnExactTimesBySeatsRow.holds Try.pinned (OpenSpec.ofChange fnExactTimesBySeatsSpec)

/-- ITS FALSE NEIGHBOUR: 'it returns false'. Refute it at one input. -/
def fnExactTimesBySeatsWrong : ChangeSpec := { name := "fnExactTimesBySeats", fn := fun _ => fun
  | [d] => { results := [.lit (.bool false)], args := [d] }
  | _ => none }
def FnExactTimesBySeatsWrongFalsely : Prop := fnExactTimesBySeatsRow.holds Try.pinned (OpenSpec.ofChange fnExactTimesBySeatsWrong)

/-- 'laws.FnExactFarthestStates': WHATEVER THE INPUT: true; the input reads as it did. -/
def fnExactFarthestStatesSpec : ChangeSpec := { name := "fnExactFarthestStates", fn := fun _ => fun
  | [d] => { results := [.lit (.bool true)], args := [d] }
  | _ => none }
def fnExactFarthestStatesRow : OpenClaim := { program := "ytcikimjpjebflaa", sum := "fa955d6d0617185083d286c531ea97c586a9ed9b7d5486ed1dfacfbee4c56f6f", func := "loop.example/g01272/laws.FnExactFarthestStates", spec := "fnExactFarthestStates", unfollowed := true, recurses := true, plainKeys := false, apart := false }
def FnExactFarthestStatesSaid : Prop := fnExactFarthestStatesRow.holds Try.pinned (OpenSpec.ofChange fnExactFarthestStatesSpec)

/-- ITS FALSE NEIGHBOUR: 'it returns false'. Refute it at one input. -/
def fnExactFarthestStatesWrong : ChangeSpec := { name := "fnExactFarthestStates", fn := fun _ => fun
  | [d] => { results := [.lit (.bool false)], args := [d] }
  | _ => none }
def FnExactFarthestStatesWrongFalsely : Prop := fnExactFarthestStatesRow.holds Try.pinned (OpenSpec.ofChange fnExactFarthestStatesWrong)

/-- 'laws.FnExactSwapCouples': WHATEVER THE INPUT: true; the input reads as it did. -/
def fnExactSwapCouplesSpec : ChangeSpec := { name := "fnExactSwapCouples", fn := fun _ => fun
  | [d1, d2, d3, d4] => { results := [.lit (.bool true)], args := [d1, d2, d3, d4] }
  | _ => none }
def fnExactSwapCouplesRow : OpenClaim := { program := "ytcikimjpjebflaa", sum := "fa955d6d0617185083d286c531ea97c586a9ed9b7d5486ed1dfacfbee4c56f6f", func := "loop.example/g01272/laws.FnExactSwapCouples", spec := "fnExactSwapCouples", unfollowed := true, recurses := true, plainKeys := false, apart := false }
def FnExactSwapCouplesSaid : Prop := fnExactSwapCouplesRow.holds Try.pinned (OpenSpec.ofChange fnExactSwapCouplesSpec)

/-- ITS FALSE NEIGHBOUR: 'it returns false'. Refute it at one input. -/
def fnExactSwapCouplesWrong : ChangeSpec := { name := "fnExactSwapCouples", fn := fun _ => fun
  | [d1, d2, d3, d4] => { results := [.lit (.bool false)], args := [d1, d2, d3, d4] }
  | _ => none }
def FnExactSwapCouplesWrongFalsely : Prop := fnExactSwapCouplesRow.holds Try.pinned (OpenSpec.ofChange fnExactSwapCouplesWrong)

/-- 'laws.FnExactLeastWatched': WHATEVER THE INPUT: true; the input reads as it did. -/
def fnExactLeastWatchedSpec : ChangeSpec := { name := "fnExactLeastWatched", fn := fun _ => fun
  | [d] => { results := [.lit (.bool true)], args := [d] }
  | _ => none }
def fnExactLeastWatchedRow : OpenClaim := { program := "ytcikimjpjebflaa", sum := "fa955d6d0617185083d286c531ea97c586a9ed9b7d5486ed1dfacfbee4c56f6f", func := "loop.example/g01272/laws.FnExactLeastWatched", spec := "fnExactLeastWatched", unfollowed := true, recurses := true, plainKeys := false, apart := false }
def FnExactLeastWatchedSaid : Prop := fnExactLeastWatchedRow.holds Try.pinned (OpenSpec.ofChange fnExactLeastWatchedSpec)

/-- ITS FALSE NEIGHBOUR: 'it returns false'. Refute it at one input. -/
def fnExactLeastWatchedWrong : ChangeSpec := { name := "fnExactLeastWatched", fn := fun _ => fun
  | [d] => { results := [.lit (.bool false)], args := [d] }
  | _ => none }
def FnExactLeastWatchedWrongFalsely : Prop := fnExactLeastWatchedRow.holds Try.pinned (OpenSpec.ofChange fnExactLeastWatchedWrong)

/-- 'laws.FnExactCountSafe': WHATEVER THE INPUT: true; the input reads as it did. -/
def fnExactCountSafeSpec : ChangeSpec := { name := "fnExactCountSafe", fn := fun _ => fun
  | [d] => { results := [.lit (.bool true)], args := [d] }
  | _ => none }
def fnExactCountSafeRow : OpenClaim := { program := "ytcikimjpjebflaa", sum := "fa955d6d0617185083d286c531ea97c586a9ed9b7d5486ed1dfacfbee4c56f6f", func := "loop.example/g01272/laws.FnExactCountSafe", spec := "fnExactCountSafe", unfollowed := true, recurses := true, plainKeys := false, apart := false }
def FnExactCountSafeSaid : Prop := fnExactCountSafeRow.holds Try.pinned (OpenSpec.ofChange fnExactCountSafeSpec)

/-- ITS FALSE NEIGHBOUR: 'it returns false'. Refute it at one input. -/
def fnExactCountSafeWrong : ChangeSpec := { name := "fnExactCountSafe", fn := fun _ => fun
  | [d] => { results := [.lit (.bool false)], args := [d] }
  | _ => none }
def FnExactCountSafeWrongFalsely : Prop := fnExactCountSafeRow.holds Try.pinned (OpenSpec.ofChange fnExactCountSafeWrong)

/- THE SECOND FORM. 'bulk': how many values and letters a reading holds, each counted each time it is reached (what is shared counts as often as it is met; a slice's spare places count too). A statement '..UptoSaid' is the law's where the arguments, and the package variables that the reading takes, are together of bulk at most 1048576: NARROWER than '..Said'. Prove '..Said' where nothing that the law and all that it calls make is longer than what came in: it says more and counts as full. Else prove '..UptoSaid'. A law counts once. -/
mutual
def uptoBulk {H : Type} : DataW H → Nat
  | .lit (.string bytes) => bytes.length + 1
  | .lit _ => 1
  | .nil => 1
  | .ptr d => uptoBulk d + 1
  | .slice elems spare => uptoBulkAll elems + uptoBulkAll spare + 1
  | .agg parts => uptoBulkAll parts + 1
  | .iface _ d => uptoBulk d + 1
  | .map entries => uptoBulkEntries entries + 1
  | .held _ => 1
def uptoBulkAll {H : Type} : List (DataW H) → Nat
  | [] => 0
  | d :: r => uptoBulk d + uptoBulkAll r
def uptoBulkEntries {H : Type} : List (Lit × DataW H) → Nat
  | [] => 0
  | x :: r => uptoBulkEntry x + uptoBulkEntries r
def uptoBulkEntry {H : Type} : Lit × DataW H → Nat
  | (.string bytes, d) => bytes.length + uptoBulk d + 1
  | (_, d) => uptoBulk d + 1
 end
def uptoSmall : (H : Type) → List (DataW H) → Bool := fun _ ds => decide (uptoBulkAll ds ≤ 1048576)
def OpenSpec.upto (s : _root_.Go.ChangeSpec) : _root_.Go.OpenSpec := { _root_.Go.OpenSpec.ofChange s with cond := some uptoSmall }

/-- 'laws.FnExactLeastTime', WHERE WHAT IT READS IS OF BULK AT MOST 1048576: true; the input reads as it did. -/
def fnExactLeastTimeUptoRow : OpenClaim := { program := "ytcikimjpjebflaa", sum := "fa955d6d0617185083d286c531ea97c586a9ed9b7d5486ed1dfacfbee4c56f6f", func := "loop.example/g01272/laws.FnExactLeastTime", spec := "fnExactLeastTime", unfollowed := true, recurses := true, plainKeys := false, apart := false, narrowed := true }
def FnExactLeastTimeUptoSaid : Prop := fnExactLeastTimeUptoRow.holds Try.pinned (OpenSpec.upto fnExactLeastTimeSpec)

/-- 'laws.FnExactTimeFrom', WHERE WHAT IT READS IS OF BULK AT MOST 1048576: true; the input reads as it did. -/
def fnExactTimeFromUptoRow : OpenClaim := { program := "ytcikimjpjebflaa", sum := "fa955d6d0617185083d286c531ea97c586a9ed9b7d5486ed1dfacfbee4c56f6f", func := "loop.example/g01272/laws.FnExactTimeFrom", spec := "fnExactTimeFrom", unfollowed := true, recurses := true, plainKeys := false, apart := false, narrowed := true }
def FnExactTimeFromUptoSaid : Prop := fnExactTimeFromUptoRow.holds Try.pinned (OpenSpec.upto fnExactTimeFromSpec)

/-- 'laws.FnExactTimeTo', WHERE WHAT IT READS IS OF BULK AT MOST 1048576: true; the input reads as it did. -/
def fnExactTimeToUptoRow : OpenClaim := { program := "ytcikimjpjebflaa", sum := "fa955d6d0617185083d286c531ea97c586a9ed9b7d5486ed1dfacfbee4c56f6f", func := "loop.example/g01272/laws.FnExactTimeTo", spec := "fnExactTimeTo", unfollowed := true, recurses := true, plainKeys := false, apart := false, narrowed := true }
def FnExactTimeToUptoSaid : Prop := fnExactTimeToUptoRow.holds Try.pinned (OpenSpec.upto fnExactTimeToSpec)

/-- 'laws.FnExactFirstBest', WHERE WHAT IT READS IS OF BULK AT MOST 1048576: true; the input reads as it did. -/
def fnExactFirstBestUptoRow : OpenClaim := { program := "ytcikimjpjebflaa", sum := "fa955d6d0617185083d286c531ea97c586a9ed9b7d5486ed1dfacfbee4c56f6f", func := "loop.example/g01272/laws.FnExactFirstBest", spec := "fnExactFirstBest", unfollowed := true, recurses := true, plainKeys := false, apart := false, narrowed := true }
def FnExactFirstBestUptoSaid : Prop := fnExactFirstBestUptoRow.holds Try.pinned (OpenSpec.upto fnExactFirstBestSpec)

/-- 'laws.FnExactFewestTrips', WHERE WHAT IT READS IS OF BULK AT MOST 1048576: true; the input reads as it did. -/
def fnExactFewestTripsUptoRow : OpenClaim := { program := "ytcikimjpjebflaa", sum := "fa955d6d0617185083d286c531ea97c586a9ed9b7d5486ed1dfacfbee4c56f6f", func := "loop.example/g01272/laws.FnExactFewestTrips", spec := "fnExactFewestTrips", unfollowed := true, recurses := true, plainKeys := false, apart := false, narrowed := true }
def FnExactFewestTripsUptoSaid : Prop := fnExactFewestTripsUptoRow.holds Try.pinned (OpenSpec.upto fnExactFewestTripsSpec)

/-- 'laws.FnExactReachedIn', WHERE WHAT IT READS IS OF BULK AT MOST 1048576: true; the input reads as it did. -/
def fnExactReachedInUptoRow : OpenClaim := { program := "ytcikimjpjebflaa", sum := "fa955d6d0617185083d286c531ea97c586a9ed9b7d5486ed1dfacfbee4c56f6f", func := "loop.example/g01272/laws.FnExactReachedIn", spec := "fnExactReachedIn", unfollowed := true, recurses := true, plainKeys := false, apart := false, narrowed := true }
def FnExactReachedInUptoSaid : Prop := fnExactReachedInUptoRow.holds Try.pinned (OpenSpec.upto fnExactReachedInSpec)

/-- 'laws.FnExactCostOf', WHERE WHAT IT READS IS OF BULK AT MOST 1048576: true; the input reads as it did. -/
def fnExactCostOfUptoRow : OpenClaim := { program := "ytcikimjpjebflaa", sum := "fa955d6d0617185083d286c531ea97c586a9ed9b7d5486ed1dfacfbee4c56f6f", func := "loop.example/g01272/laws.FnExactCostOf", spec := "fnExactCostOf", unfollowed := true, recurses := true, plainKeys := false, apart := false, narrowed := true }
def FnExactCostOfUptoSaid : Prop := fnExactCostOfUptoRow.holds Try.pinned (OpenSpec.upto fnExactCostOfSpec)

/-- 'laws.FnExactTimesBySeats', WHERE WHAT IT READS IS OF BULK AT MOST 1048576: true; the input reads as it did. -/
def fnExactTimesBySeatsUptoRow : OpenClaim := { program := "ytcikimjpjebflaa", sum := "fa955d6d0617185083d286c531ea97c586a9ed9b7d5486ed1dfacfbee4c56f6f", func := "loop.example/g01272/laws.FnExactTimesBySeats", spec := "fnExactTimesBySeats", unfollowed := true, recurses := true, plainKeys := false, apart := false, narrowed := true }
def FnExactTimesBySeatsUptoSaid : Prop := fnExactTimesBySeatsUptoRow.holds Try.pinned (OpenSpec.upto fnExactTimesBySeatsSpec)

/-- 'laws.FnExactFarthestStates', WHERE WHAT IT READS IS OF BULK AT MOST 1048576: true; the input reads as it did. -/
def fnExactFarthestStatesUptoRow : OpenClaim := { program := "ytcikimjpjebflaa", sum := "fa955d6d0617185083d286c531ea97c586a9ed9b7d5486ed1dfacfbee4c56f6f", func := "loop.example/g01272/laws.FnExactFarthestStates", spec := "fnExactFarthestStates", unfollowed := true, recurses := true, plainKeys := false, apart := false, narrowed := true }
def FnExactFarthestStatesUptoSaid : Prop := fnExactFarthestStatesUptoRow.holds Try.pinned (OpenSpec.upto fnExactFarthestStatesSpec)

/-- 'laws.FnExactSwapCouples', WHERE WHAT IT READS IS OF BULK AT MOST 1048576: true; the input reads as it did. -/
def fnExactSwapCouplesUptoRow : OpenClaim := { program := "ytcikimjpjebflaa", sum := "fa955d6d0617185083d286c531ea97c586a9ed9b7d5486ed1dfacfbee4c56f6f", func := "loop.example/g01272/laws.FnExactSwapCouples", spec := "fnExactSwapCouples", unfollowed := true, recurses := true, plainKeys := false, apart := false, narrowed := true }
def FnExactSwapCouplesUptoSaid : Prop := fnExactSwapCouplesUptoRow.holds Try.pinned (OpenSpec.upto fnExactSwapCouplesSpec)

/-- 'laws.FnExactLeastWatched', WHERE WHAT IT READS IS OF BULK AT MOST 1048576: true; the input reads as it did. -/
def fnExactLeastWatchedUptoRow : OpenClaim := { program := "ytcikimjpjebflaa", sum := "fa955d6d0617185083d286c531ea97c586a9ed9b7d5486ed1dfacfbee4c56f6f", func := "loop.example/g01272/laws.FnExactLeastWatched", spec := "fnExactLeastWatched", unfollowed := true, recurses := true, plainKeys := false, apart := false, narrowed := true }
def FnExactLeastWatchedUptoSaid : Prop := fnExactLeastWatchedUptoRow.holds Try.pinned (OpenSpec.upto fnExactLeastWatchedSpec)

/-- 'laws.FnExactCountSafe', WHERE WHAT IT READS IS OF BULK AT MOST 1048576: true; the input reads as it did. -/
def fnExactCountSafeUptoRow : OpenClaim := { program := "ytcikimjpjebflaa", sum := "fa955d6d0617185083d286c531ea97c586a9ed9b7d5486ed1dfacfbee4c56f6f", func := "loop.example/g01272/laws.FnExactCountSafe", spec := "fnExactCountSafe", unfollowed := true, recurses := true, plainKeys := false, apart := false, narrowed := true }
def FnExactCountSafeUptoSaid : Prop := fnExactCountSafeUptoRow.holds Try.pinned (OpenSpec.upto fnExactCountSafeSpec)

end Rows
end Go.Proofs.Ytcikimjpjebflaa
