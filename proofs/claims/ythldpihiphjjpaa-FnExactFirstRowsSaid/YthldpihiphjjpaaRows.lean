/-
  No cell of these rows narrows 'for every input' (looked for: loops, veiled, ifaces, maps, wideKeys, modest, calm, conditions, laid).
  DERIVED. THE GIVEN ROWS OF THIS SEAT. 12 by the template 'for every input the law returns true; each argument reads behind the call as it read before'; 0 by the template 'total and deterministic' (their statements: YthldpihiphjjpaaTotals.lean).
  GIVEN WITH THE SEED: the statements are not yours to turn. If you find one false, say at which input.
  Laid BY PROGRAM, IN A SANDBOX (cutbox-rows.mjs): the forced cells as the released guide's own fill.sh prints them over the translation 0ccc63d9817ade85… (all of the seat's roots in one cut). By AI agents, Wed Nov 11 2026. No macro, syntax, notation, axiom, sorry.
-/
import Derived.Test.YthldpihiphjjpaaChecked
import GoSem.Claim
import GoSem.ClaimJoined
import GoSem.ClaimMapViews
import Derived.JoinedTies
import Derived.KernelRfl
namespace Go.Proofs.Ythldpihiphjjpaa
/- THE CELL 'sum', in the pinned program and in every row, IS THE sha256 OF THE DUMP (.gsa) THAT YthldpihiphjjpaaProg.lean LOADS. Nothing in Lean hashes anything: it is a label: what it is worth is what the hold of that sum in a sandbox is worth. -/
noncomputable def Try.pinned : Pinned := { name := "ythldpihiphjjpaa", sum := "0ccc63d9817ade851a121e7edc09f3d43afe5369e05653d19e519b038c5a37f3", checked := Try.checked }
namespace Rows
def none {H : Type} : Left H := { results := [], args := [] }

/-- 'laws.FnExactLeastTime': WHATEVER THE INPUT: true; the input reads as it did. -/
def fnExactLeastTimeSpec : ChangeSpec := { name := "fnExactLeastTime", fn := fun _ => fun
  | [d] => { results := [.lit (.bool true)], args := [d] }
  | _ => none }
def fnExactLeastTimeRow : OpenClaim := { program := "ythldpihiphjjpaa", sum := "0ccc63d9817ade851a121e7edc09f3d43afe5369e05653d19e519b038c5a37f3", func := "loop.example/g01272/laws.FnExactLeastTime", spec := "fnExactLeastTime", recurses := true, plainKeys := false, apart := false }
def FnExactLeastTimeSaid : Prop := fnExactLeastTimeRow.holds Try.pinned (OpenSpec.ofChange fnExactLeastTimeSpec)

/-- ITS FALSE NEIGHBOUR: 'it returns false'. Refute it at one input. -/
def fnExactLeastTimeWrong : ChangeSpec := { name := "fnExactLeastTime", fn := fun _ => fun
  | [d] => { results := [.lit (.bool false)], args := [d] }
  | _ => none }
def FnExactLeastTimeWrongFalsely : Prop := fnExactLeastTimeRow.holds Try.pinned (OpenSpec.ofChange fnExactLeastTimeWrong)

/-- 'laws.FnExactTimeFrom': WHATEVER THE INPUT: true; the input reads as it did. -/
def fnExactTimeFromSpec : ChangeSpec := { name := "fnExactTimeFrom", fn := fun _ => fun
  | [d1, d2] => { results := [.lit (.bool true)], args := [d1, d2] }
  | _ => none }
def fnExactTimeFromRow : OpenClaim := { program := "ythldpihiphjjpaa", sum := "0ccc63d9817ade851a121e7edc09f3d43afe5369e05653d19e519b038c5a37f3", func := "loop.example/g01272/laws.FnExactTimeFrom", spec := "fnExactTimeFrom", recurses := true, plainKeys := false, apart := false }
def FnExactTimeFromSaid : Prop := fnExactTimeFromRow.holds Try.pinned (OpenSpec.ofChange fnExactTimeFromSpec)

/-- ITS FALSE NEIGHBOUR: 'it returns false'. Refute it at one input. -/
def fnExactTimeFromWrong : ChangeSpec := { name := "fnExactTimeFrom", fn := fun _ => fun
  | [d1, d2] => { results := [.lit (.bool false)], args := [d1, d2] }
  | _ => none }
def FnExactTimeFromWrongFalsely : Prop := fnExactTimeFromRow.holds Try.pinned (OpenSpec.ofChange fnExactTimeFromWrong)

/-- 'laws.FnExactTimeTo': WHATEVER THE INPUT: true; the input reads as it did. -/
def fnExactTimeToSpec : ChangeSpec := { name := "fnExactTimeTo", fn := fun _ => fun
  | [d1, d2] => { results := [.lit (.bool true)], args := [d1, d2] }
  | _ => none }
def fnExactTimeToRow : OpenClaim := { program := "ythldpihiphjjpaa", sum := "0ccc63d9817ade851a121e7edc09f3d43afe5369e05653d19e519b038c5a37f3", func := "loop.example/g01272/laws.FnExactTimeTo", spec := "fnExactTimeTo", recurses := true, plainKeys := false, apart := false }
def FnExactTimeToSaid : Prop := fnExactTimeToRow.holds Try.pinned (OpenSpec.ofChange fnExactTimeToSpec)

/-- ITS FALSE NEIGHBOUR: 'it returns false'. Refute it at one input. -/
def fnExactTimeToWrong : ChangeSpec := { name := "fnExactTimeTo", fn := fun _ => fun
  | [d1, d2] => { results := [.lit (.bool false)], args := [d1, d2] }
  | _ => none }
def FnExactTimeToWrongFalsely : Prop := fnExactTimeToRow.holds Try.pinned (OpenSpec.ofChange fnExactTimeToWrong)

/-- 'laws.FnExactFewestTrips': WHATEVER THE INPUT: true; the input reads as it did. -/
def fnExactFewestTripsSpec : ChangeSpec := { name := "fnExactFewestTrips", fn := fun _ => fun
  | [d] => { results := [.lit (.bool true)], args := [d] }
  | _ => none }
def fnExactFewestTripsRow : OpenClaim := { program := "ythldpihiphjjpaa", sum := "0ccc63d9817ade851a121e7edc09f3d43afe5369e05653d19e519b038c5a37f3", func := "loop.example/g01272/laws.FnExactFewestTrips", spec := "fnExactFewestTrips", recurses := true, plainKeys := false, apart := false }
def FnExactFewestTripsSaid : Prop := fnExactFewestTripsRow.holds Try.pinned (OpenSpec.ofChange fnExactFewestTripsSpec)

/-- ITS FALSE NEIGHBOUR: 'it returns false'. Refute it at one input. -/
def fnExactFewestTripsWrong : ChangeSpec := { name := "fnExactFewestTrips", fn := fun _ => fun
  | [d] => { results := [.lit (.bool false)], args := [d] }
  | _ => none }
def FnExactFewestTripsWrongFalsely : Prop := fnExactFewestTripsRow.holds Try.pinned (OpenSpec.ofChange fnExactFewestTripsWrong)

/-- 'laws.FnExactReachedIn': WHATEVER THE INPUT: true; the input reads as it did. -/
def fnExactReachedInSpec : ChangeSpec := { name := "fnExactReachedIn", fn := fun _ => fun
  | [d1, d2] => { results := [.lit (.bool true)], args := [d1, d2] }
  | _ => none }
def fnExactReachedInRow : OpenClaim := { program := "ythldpihiphjjpaa", sum := "0ccc63d9817ade851a121e7edc09f3d43afe5369e05653d19e519b038c5a37f3", func := "loop.example/g01272/laws.FnExactReachedIn", spec := "fnExactReachedIn", recurses := true, plainKeys := false, apart := false }
def FnExactReachedInSaid : Prop := fnExactReachedInRow.holds Try.pinned (OpenSpec.ofChange fnExactReachedInSpec)

/-- ITS FALSE NEIGHBOUR: 'it returns false'. Refute it at one input. -/
def fnExactReachedInWrong : ChangeSpec := { name := "fnExactReachedIn", fn := fun _ => fun
  | [d1, d2] => { results := [.lit (.bool false)], args := [d1, d2] }
  | _ => none }
def FnExactReachedInWrongFalsely : Prop := fnExactReachedInRow.holds Try.pinned (OpenSpec.ofChange fnExactReachedInWrong)

/-- 'laws.FnExactCostOf': WHATEVER THE INPUT: true; the input reads as it did. -/
def fnExactCostOfSpec : ChangeSpec := { name := "fnExactCostOf", fn := fun _ => fun
  | [d1, d2] => { results := [.lit (.bool true)], args := [d1, d2] }
  | _ => none }
def fnExactCostOfRow : OpenClaim := { program := "ythldpihiphjjpaa", sum := "0ccc63d9817ade851a121e7edc09f3d43afe5369e05653d19e519b038c5a37f3", func := "loop.example/g01272/laws.FnExactCostOf", spec := "fnExactCostOf", recurses := true, plainKeys := false, apart := false }
def FnExactCostOfSaid : Prop := fnExactCostOfRow.holds Try.pinned (OpenSpec.ofChange fnExactCostOfSpec)

/-- ITS FALSE NEIGHBOUR: 'it returns false'. Refute it at one input. -/
def fnExactCostOfWrong : ChangeSpec := { name := "fnExactCostOf", fn := fun _ => fun
  | [d1, d2] => { results := [.lit (.bool false)], args := [d1, d2] }
  | _ => none }
def FnExactCostOfWrongFalsely : Prop := fnExactCostOfRow.holds Try.pinned (OpenSpec.ofChange fnExactCostOfWrong)

/-- 'laws.FnExactTimesBySeats': WHATEVER THE INPUT: true; the input reads as it did. -/
def fnExactTimesBySeatsSpec : ChangeSpec := { name := "fnExactTimesBySeats", fn := fun _ => fun
  | [d] => { results := [.lit (.bool true)], args := [d] }
  | _ => none }
def fnExactTimesBySeatsRow : OpenClaim := { program := "ythldpihiphjjpaa", sum := "0ccc63d9817ade851a121e7edc09f3d43afe5369e05653d19e519b038c5a37f3", func := "loop.example/g01272/laws.FnExactTimesBySeats", spec := "fnExactTimesBySeats", recurses := true, plainKeys := false, apart := false }
def FnExactTimesBySeatsSaid : Prop := fnExactTimesBySeatsRow.holds Try.pinned (OpenSpec.ofChange fnExactTimesBySeatsSpec)

/-- ITS FALSE NEIGHBOUR: 'it returns false'. Refute it at one input. -/
def fnExactTimesBySeatsWrong : ChangeSpec := { name := "fnExactTimesBySeats", fn := fun _ => fun
  | [d] => { results := [.lit (.bool false)], args := [d] }
  | _ => none }
def FnExactTimesBySeatsWrongFalsely : Prop := fnExactTimesBySeatsRow.holds Try.pinned (OpenSpec.ofChange fnExactTimesBySeatsWrong)

/-- 'laws.FnExactFewestRows': WHATEVER THE INPUT: true; the input reads as it did. -/
def fnExactFewestRowsSpec : ChangeSpec := { name := "fnExactFewestRows", fn := fun _ => fun
  | [d] => { results := [.lit (.bool true)], args := [d] }
  | _ => none }
def fnExactFewestRowsRow : OpenClaim := { program := "ythldpihiphjjpaa", sum := "0ccc63d9817ade851a121e7edc09f3d43afe5369e05653d19e519b038c5a37f3", func := "loop.example/g01272/laws.FnExactFewestRows", spec := "fnExactFewestRows", unfollowed := true, recurses := true, plainKeys := false, apart := false }
def FnExactFewestRowsSaid : Prop := fnExactFewestRowsRow.holds Try.pinned (OpenSpec.ofChange fnExactFewestRowsSpec)

/-- ITS FALSE NEIGHBOUR: 'it returns false'. Refute it at one input. -/
def fnExactFewestRowsWrong : ChangeSpec := { name := "fnExactFewestRows", fn := fun _ => fun
  | [d] => { results := [.lit (.bool false)], args := [d] }
  | _ => none }
def FnExactFewestRowsWrongFalsely : Prop := fnExactFewestRowsRow.holds Try.pinned (OpenSpec.ofChange fnExactFewestRowsWrong)

/-- 'laws.FnExactFirstRows': WHATEVER THE INPUT: true; the input reads as it did. -/
def fnExactFirstRowsSpec : ChangeSpec := { name := "fnExactFirstRows", fn := fun _ => fun
  | [d] => { results := [.lit (.bool true)], args := [d] }
  | _ => none }
def fnExactFirstRowsRow : OpenClaim := { program := "ythldpihiphjjpaa", sum := "0ccc63d9817ade851a121e7edc09f3d43afe5369e05653d19e519b038c5a37f3", func := "loop.example/g01272/laws.FnExactFirstRows", spec := "fnExactFirstRows", unfollowed := true, recurses := true, plainKeys := false, apart := false }
def FnExactFirstRowsSaid : Prop := fnExactFirstRowsRow.holds Try.pinned (OpenSpec.ofChange fnExactFirstRowsSpec)

/-- ITS FALSE NEIGHBOUR: 'it returns false'. Refute it at one input. -/
def fnExactFirstRowsWrong : ChangeSpec := { name := "fnExactFirstRows", fn := fun _ => fun
  | [d] => { results := [.lit (.bool false)], args := [d] }
  | _ => none }
def FnExactFirstRowsWrongFalsely : Prop := fnExactFirstRowsRow.holds Try.pinned (OpenSpec.ofChange fnExactFirstRowsWrong)

/-- 'laws.FnExactCountRows': WHATEVER THE INPUT: true; the input reads as it did. -/
def fnExactCountRowsSpec : ChangeSpec := { name := "fnExactCountRows", fn := fun _ => fun
  | [d] => { results := [.lit (.bool true)], args := [d] }
  | _ => none }
def fnExactCountRowsRow : OpenClaim := { program := "ythldpihiphjjpaa", sum := "0ccc63d9817ade851a121e7edc09f3d43afe5369e05653d19e519b038c5a37f3", func := "loop.example/g01272/laws.FnExactCountRows", spec := "fnExactCountRows", unfollowed := true, recurses := true, plainKeys := false, apart := false }
def FnExactCountRowsSaid : Prop := fnExactCountRowsRow.holds Try.pinned (OpenSpec.ofChange fnExactCountRowsSpec)

/-- ITS FALSE NEIGHBOUR: 'it returns false'. Refute it at one input. -/
def fnExactCountRowsWrong : ChangeSpec := { name := "fnExactCountRows", fn := fun _ => fun
  | [d] => { results := [.lit (.bool false)], args := [d] }
  | _ => none }
def FnExactCountRowsWrongFalsely : Prop := fnExactCountRowsRow.holds Try.pinned (OpenSpec.ofChange fnExactCountRowsWrong)

/-- 'laws.FnExactCountCalmReached': WHATEVER THE INPUT: true; the input reads as it did. -/
def fnExactCountCalmReachedSpec : ChangeSpec := { name := "fnExactCountCalmReached", fn := fun _ => fun
  | [d] => { results := [.lit (.bool true)], args := [d] }
  | _ => none }
def fnExactCountCalmReachedRow : OpenClaim := { program := "ythldpihiphjjpaa", sum := "0ccc63d9817ade851a121e7edc09f3d43afe5369e05653d19e519b038c5a37f3", func := "loop.example/g01272/laws.FnExactCountCalmReached", spec := "fnExactCountCalmReached", unfollowed := true, recurses := true, plainKeys := false, apart := false }
def FnExactCountCalmReachedSaid : Prop := fnExactCountCalmReachedRow.holds Try.pinned (OpenSpec.ofChange fnExactCountCalmReachedSpec)

/-- ITS FALSE NEIGHBOUR: 'it returns false'. Refute it at one input. -/
def fnExactCountCalmReachedWrong : ChangeSpec := { name := "fnExactCountCalmReached", fn := fun _ => fun
  | [d] => { results := [.lit (.bool false)], args := [d] }
  | _ => none }
def FnExactCountCalmReachedWrongFalsely : Prop := fnExactCountCalmReachedRow.holds Try.pinned (OpenSpec.ofChange fnExactCountCalmReachedWrong)

/-- 'laws.FnExactSeatsForCouples': WHATEVER THE INPUT: true; the input reads as it did. -/
def fnExactSeatsForCouplesSpec : ChangeSpec := { name := "fnExactSeatsForCouples", fn := fun _ => fun
  | [d] => { results := [.lit (.bool true)], args := [d] }
  | _ => none }
def fnExactSeatsForCouplesRow : OpenClaim := { program := "ythldpihiphjjpaa", sum := "0ccc63d9817ade851a121e7edc09f3d43afe5369e05653d19e519b038c5a37f3", func := "loop.example/g01272/laws.FnExactSeatsForCouples", spec := "fnExactSeatsForCouples", unfollowed := true, recurses := true, plainKeys := false, apart := false }
def FnExactSeatsForCouplesSaid : Prop := fnExactSeatsForCouplesRow.holds Try.pinned (OpenSpec.ofChange fnExactSeatsForCouplesSpec)

/-- ITS FALSE NEIGHBOUR: 'it returns false'. Refute it at one input. -/
def fnExactSeatsForCouplesWrong : ChangeSpec := { name := "fnExactSeatsForCouples", fn := fun _ => fun
  | [d] => { results := [.lit (.bool false)], args := [d] }
  | _ => none }
def FnExactSeatsForCouplesWrongFalsely : Prop := fnExactSeatsForCouplesRow.holds Try.pinned (OpenSpec.ofChange fnExactSeatsForCouplesWrong)

/- THE SECOND FORM. 'bulk': how many values and letters a reading holds, each counted each time it is reached (what is shared counts as often as it is met; a slice's spare places count too). A statement '..UptoSaid' is the law's where the arguments, and the package variables that the reading takes, are together of bulk at most 1048576: NARROWER than '..Said'. Prove '..Said' where nothing that the law and all that it calls make is longer than what came in: it says more and counts as full. Else prove '..UptoSaid'. A law counts once. -/
mutual
def uptoBulk {H : Type} : DataW H → Nat
  | .lit (.string bytes) => bytes.length + 1
  | .lit _ => 1
  | .nil => 1
  | .ptr d => uptoBulk d + 1
  | .slice elems spare => uptoBulkAll elems + uptoBulkAll spare + 1
  | .agg parts => uptoBulkAll parts + 1
  | .iface _ d => uptoBulk d + 1
  | .map entries => uptoBulkEntries entries + 1
  | .held _ => 1
def uptoBulkAll {H : Type} : List (DataW H) → Nat
  | [] => 0
  | d :: r => uptoBulk d + uptoBulkAll r
def uptoBulkEntries {H : Type} : List (Lit × DataW H) → Nat
  | [] => 0
  | x :: r => uptoBulkEntry x + uptoBulkEntries r
def uptoBulkEntry {H : Type} : Lit × DataW H → Nat
  | (.string bytes, d) => bytes.length + uptoBulk d + 1
  | (_, d) => uptoBulk d + 1
 end
def uptoSmall : (H : Type) → List (DataW H) → Bool := fun _ ds => decide (uptoBulkAll ds ≤ 1048576)
def OpenSpec.upto (s : _root_.Go.ChangeSpec) : _root_.Go.OpenSpec := { _root_.Go.OpenSpec.ofChange s with cond := some uptoSmall }

/-- 'laws.FnExactLeastTime', WHERE WHAT IT READS IS OF BULK AT MOST 1048576: true; the input reads as it did. -/
def fnExactLeastTimeUptoRow : OpenClaim := { program := "ythldpihiphjjpaa", sum := "0ccc63d9817ade851a121e7edc09f3d43afe5369e05653d19e519b038c5a37f3", func := "loop.example/g01272/laws.FnExactLeastTime", spec := "fnExactLeastTime", recurses := true, plainKeys := false, apart := false, narrowed := true }
def FnExactLeastTimeUptoSaid : Prop := fnExactLeastTimeUptoRow.holds Try.pinned (OpenSpec.upto fnExactLeastTimeSpec)

/-- 'laws.FnExactTimeFrom', WHERE WHAT IT READS IS OF BULK AT MOST 1048576: true; the input reads as it did. -/
def fnExactTimeFromUptoRow : OpenClaim := { program := "ythldpihiphjjpaa", sum := "0ccc63d9817ade851a121e7edc09f3d43afe5369e05653d19e519b038c5a37f3", func := "loop.example/g01272/laws.FnExactTimeFrom", spec := "fnExactTimeFrom", recurses := true, plainKeys := false, apart := false, narrowed := true }
def FnExactTimeFromUptoSaid : Prop := fnExactTimeFromUptoRow.holds Try.pinned (OpenSpec.upto fnExactTimeFromSpec)

/-- 'laws.FnExactTimeTo', WHERE WHAT IT READS IS OF BULK AT MOST 1048576: true; the input reads as it did. -/
def fnExactTimeToUptoRow : OpenClaim := { program := "ythldpihiphjjpaa", sum := "0ccc63d9817ade851a121e7edc09f3d43afe5369e05653d19e519b038c5a37f3", func := "loop.example/g01272/laws.FnExactTimeTo", spec := "fnExactTimeTo", recurses := true, plainKeys := false, apart := false, narrowed := true }
def FnExactTimeToUptoSaid : Prop := fnExactTimeToUptoRow.holds Try.pinned (OpenSpec.upto fnExactTimeToSpec)

/-- 'laws.FnExactFewestTrips', WHERE WHAT IT READS IS OF BULK AT MOST 1048576: true; the input reads as it did. -/
def fnExactFewestTripsUptoRow : OpenClaim := { program := "ythldpihiphjjpaa", sum := "0ccc63d9817ade851a121e7edc09f3d43afe5369e05653d19e519b038c5a37f3", func := "loop.example/g01272/laws.FnExactFewestTrips", spec := "fnExactFewestTrips", recurses := true, plainKeys := false, apart := false, narrowed := true }
def FnExactFewestTripsUptoSaid : Prop := fnExactFewestTripsUptoRow.holds Try.pinned (OpenSpec.upto fnExactFewestTripsSpec)

/-- 'laws.FnExactReachedIn', WHERE WHAT IT READS IS OF BULK AT MOST 1048576: true; the input reads as it did. -/
def fnExactReachedInUptoRow : OpenClaim := { program := "ythldpihiphjjpaa", sum := "0ccc63d9817ade851a121e7edc09f3d43afe5369e05653d19e519b038c5a37f3", func := "loop.example/g01272/laws.FnExactReachedIn", spec := "fnExactReachedIn", recurses := true, plainKeys := false, apart := false, narrowed := true }
def FnExactReachedInUptoSaid : Prop := fnExactReachedInUptoRow.holds Try.pinned (OpenSpec.upto fnExactReachedInSpec)

/-- 'laws.FnExactCostOf', WHERE WHAT IT READS IS OF BULK AT MOST 1048576: true; the input reads as it did. -/
def fnExactCostOfUptoRow : OpenClaim := { program := "ythldpihiphjjpaa", sum := "0ccc63d9817ade851a121e7edc09f3d43afe5369e05653d19e519b038c5a37f3", func := "loop.example/g01272/laws.FnExactCostOf", spec := "fnExactCostOf", recurses := true, plainKeys := false, apart := false, narrowed := true }
def FnExactCostOfUptoSaid : Prop := fnExactCostOfUptoRow.holds Try.pinned (OpenSpec.upto fnExactCostOfSpec)

/-- 'laws.FnExactTimesBySeats', WHERE WHAT IT READS IS OF BULK AT MOST 1048576: true; the input reads as it did. -/
def fnExactTimesBySeatsUptoRow : OpenClaim := { program := "ythldpihiphjjpaa", sum := "0ccc63d9817ade851a121e7edc09f3d43afe5369e05653d19e519b038c5a37f3", func := "loop.example/g01272/laws.FnExactTimesBySeats", spec := "fnExactTimesBySeats", recurses := true, plainKeys := false, apart := false, narrowed := true }
def FnExactTimesBySeatsUptoSaid : Prop := fnExactTimesBySeatsUptoRow.holds Try.pinned (OpenSpec.upto fnExactTimesBySeatsSpec)

/-- 'laws.FnExactFewestRows', WHERE WHAT IT READS IS OF BULK AT MOST 1048576: true; the input reads as it did. -/
def fnExactFewestRowsUptoRow : OpenClaim := { program := "ythldpihiphjjpaa", sum := "0ccc63d9817ade851a121e7edc09f3d43afe5369e05653d19e519b038c5a37f3", func := "loop.example/g01272/laws.FnExactFewestRows", spec := "fnExactFewestRows", unfollowed := true, recurses := true, plainKeys := false, apart := false, narrowed := true }
def FnExactFewestRowsUptoSaid : Prop := fnExactFewestRowsUptoRow.holds Try.pinned (OpenSpec.upto fnExactFewestRowsSpec)

/-- 'laws.FnExactFirstRows', WHERE WHAT IT READS IS OF BULK AT MOST 1048576: true; the input reads as it did. -/
def fnExactFirstRowsUptoRow : OpenClaim := { program := "ythldpihiphjjpaa", sum := "0ccc63d9817ade851a121e7edc09f3d43afe5369e05653d19e519b038c5a37f3", func := "loop.example/g01272/laws.FnExactFirstRows", spec := "fnExactFirstRows", unfollowed := true, recurses := true, plainKeys := false, apart := false, narrowed := true }
def FnExactFirstRowsUptoSaid : Prop := fnExactFirstRowsUptoRow.holds Try.pinned (OpenSpec.upto fnExactFirstRowsSpec)

/-- 'laws.FnExactCountRows', WHERE WHAT IT READS IS OF BULK AT MOST 1048576: true; the input reads as it did. -/
def fnExactCountRowsUptoRow : OpenClaim := { program := "ythldpihiphjjpaa", sum := "0ccc63d9817ade851a121e7edc09f3d43afe5369e05653d19e519b038c5a37f3", func := "loop.example/g01272/laws.FnExactCountRows", spec := "fnExactCountRows", unfollowed := true, recurses := true, plainKeys := false, apart := false, narrowed := true }
def FnExactCountRowsUptoSaid : Prop := fnExactCountRowsUptoRow.holds Try.pinned (OpenSpec.upto fnExactCountRowsSpec)

/-- 'laws.FnExactCountCalmReached', WHERE WHAT IT READS IS OF BULK AT MOST 1048576: true; the input reads as it did. -/
def fnExactCountCalmReachedUptoRow : OpenClaim := { program := "ythldpihiphjjpaa", sum := "0ccc63d9817ade851a121e7edc09f3d43afe5369e05653d19e519b038c5a37f3", func := "loop.example/g01272/laws.FnExactCountCalmReached", spec := "fnExactCountCalmReached", unfollowed := true, recurses := true, plainKeys := false, apart := false, narrowed := true }
def FnExactCountCalmReachedUptoSaid : Prop := fnExactCountCalmReachedUptoRow.holds Try.pinned (OpenSpec.upto fnExactCountCalmReachedSpec)

/-- 'laws.FnExactSeatsForCouples', WHERE WHAT IT READS IS OF BULK AT MOST 1048576: true; the input reads as it did. -/
def fnExactSeatsForCouplesUptoRow : OpenClaim := { program := "ythldpihiphjjpaa", sum := "0ccc63d9817ade851a121e7edc09f3d43afe5369e05653d19e519b038c5a37f3", func := "loop.example/g01272/laws.FnExactSeatsForCouples", spec := "fnExactSeatsForCouples", unfollowed := true, recurses := true, plainKeys := false, apart := false, narrowed := true }
def FnExactSeatsForCouplesUptoSaid : Prop := fnExactSeatsForCouplesUptoRow.holds Try.pinned (OpenSpec.upto fnExactSeatsForCouplesSpec)

end Rows
end Go.Proofs.Ythldpihiphjjpaa
