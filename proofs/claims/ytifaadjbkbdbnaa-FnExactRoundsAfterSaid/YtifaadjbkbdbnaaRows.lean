/-
  No cell of these rows narrows 'for every input' (looked for: loops, veiled, ifaces, maps, wideKeys, modest, calm, conditions, laid).
  DERIVED. THE GIVEN ROWS OF THIS SEAT. 12 by the template 'for every input the law returns true; each argument reads behind the call as it read before'; 0 by the template 'total and deterministic' (their statements: YtifaadjbkbdbnaaTotals.lean).
  GIVEN WITH THE SEED: the statements are not yours to turn. If you find one false, say at which input.
  Laid BY PROGRAM, IN A SANDBOX (cutbox-rows.mjs): the forced cells as the released guide's own fill.sh prints them over the translation 58e732973207fec9… (all of the seat's roots in one cut). By AI agents, Wed Nov 11 2026. No macro, syntax, notation, axiom, sorry.
-/
import Derived.Test.YtifaadjbkbdbnaaChecked
import GoSem.Claim
import GoSem.ClaimJoined
import GoSem.ClaimMapViews
import Derived.JoinedTies
import Derived.KernelRfl
namespace Go.Proofs.Ytifaadjbkbdbnaa
/- THE CELL 'sum', in the pinned program and in every row, IS THE sha256 OF THE DUMP (.gsa) THAT YtifaadjbkbdbnaaProg.lean LOADS. Nothing in Lean hashes anything: it is a label: what it is worth is what the hold of that sum in a sandbox is worth. -/
noncomputable def Try.pinned : Pinned := { name := "ytifaadjbkbdbnaa", sum := "58e732973207fec9adfae5563acab4fb865a88011350018f868b932083729f68", checked := Try.checked }
namespace Rows
def none {H : Type} : Left H := { results := [], args := [] }

/-- 'laws.FnExactTripsOf': WHATEVER THE INPUT: true; the input reads as it did. -/
def fnExactTripsOfSpec : ChangeSpec := { name := "fnExactTripsOf", fn := fun _ => fun
  | [d1, d2] => { results := [.lit (.bool true)], args := [d1, d2] }
  | _ => none }
def fnExactTripsOfRow : OpenClaim := { program := "ytifaadjbkbdbnaa", sum := "58e732973207fec9adfae5563acab4fb865a88011350018f868b932083729f68", func := "loop.example/g01272/laws.FnExactTripsOf", spec := "fnExactTripsOf", recurses := true, plainKeys := false, apart := false }
def FnExactTripsOfSaid : Prop := fnExactTripsOfRow.holds Try.pinned (OpenSpec.ofChange fnExactTripsOfSpec)

/-- ITS FALSE NEIGHBOUR: 'it returns false'. Refute it at one input. -/
def fnExactTripsOfWrong : ChangeSpec := { name := "fnExactTripsOf", fn := fun _ => fun
  | [d1, d2] => { results := [.lit (.bool false)], args := [d1, d2] }
  | _ => none }
def FnExactTripsOfWrongFalsely : Prop := fnExactTripsOfRow.holds Try.pinned (OpenSpec.ofChange fnExactTripsOfWrong)

/-- 'laws.FnExactIsNight': WHATEVER THE INPUT: true; the input reads as it did. -/
def fnExactIsNightSpec : ChangeSpec := { name := "fnExactIsNight", fn := fun _ => fun
  | [d] => { results := [.lit (.bool true)], args := [d] }
  | _ => none }
def fnExactIsNightRow : OpenClaim := { program := "ytifaadjbkbdbnaa", sum := "58e732973207fec9adfae5563acab4fb865a88011350018f868b932083729f68", func := "loop.example/g01272/laws.FnExactIsNight", spec := "fnExactIsNight", plainKeys := false, apart := false }
def FnExactIsNightSaid : Prop := fnExactIsNightRow.holds Try.pinned (OpenSpec.ofChange fnExactIsNightSpec)

/-- ITS FALSE NEIGHBOUR: 'it returns false'. Refute it at one input. -/
def fnExactIsNightWrong : ChangeSpec := { name := "fnExactIsNight", fn := fun _ => fun
  | [d] => { results := [.lit (.bool false)], args := [d] }
  | _ => none }
def FnExactIsNightWrongFalsely : Prop := fnExactIsNightRow.holds Try.pinned (OpenSpec.ofChange fnExactIsNightWrong)

/-- 'laws.FnExactIsCamp': WHATEVER THE INPUT: true; the input reads as it did. -/
def fnExactIsCampSpec : ChangeSpec := { name := "fnExactIsCamp", fn := fun _ => fun
  | [d1, d2] => { results := [.lit (.bool true)], args := [d1, d2] }
  | _ => none }
def fnExactIsCampRow : OpenClaim := { program := "ytifaadjbkbdbnaa", sum := "58e732973207fec9adfae5563acab4fb865a88011350018f868b932083729f68", func := "loop.example/g01272/laws.FnExactIsCamp", spec := "fnExactIsCamp", plainKeys := false, apart := false }
def FnExactIsCampSaid : Prop := fnExactIsCampRow.holds Try.pinned (OpenSpec.ofChange fnExactIsCampSpec)

/-- ITS FALSE NEIGHBOUR: 'it returns false'. Refute it at one input. -/
def fnExactIsCampWrong : ChangeSpec := { name := "fnExactIsCamp", fn := fun _ => fun
  | [d1, d2] => { results := [.lit (.bool false)], args := [d1, d2] }
  | _ => none }
def FnExactIsCampWrongFalsely : Prop := fnExactIsCampRow.holds Try.pinned (OpenSpec.ofChange fnExactIsCampWrong)

/-- 'laws.FnExactFirstCamp': WHATEVER THE INPUT: true; the input reads as it did. -/
def fnExactFirstCampSpec : ChangeSpec := { name := "fnExactFirstCamp", fn := fun _ => fun
  | [d] => { results := [.lit (.bool true)], args := [d] }
  | _ => none }
def fnExactFirstCampRow : OpenClaim := { program := "ytifaadjbkbdbnaa", sum := "58e732973207fec9adfae5563acab4fb865a88011350018f868b932083729f68", func := "loop.example/g01272/laws.FnExactFirstCamp", spec := "fnExactFirstCamp", plainKeys := false, apart := false }
def FnExactFirstCampSaid : Prop := fnExactFirstCampRow.holds Try.pinned (OpenSpec.ofChange fnExactFirstCampSpec)

/-- ITS FALSE NEIGHBOUR: 'it returns false'. Refute it at one input. -/
def fnExactFirstCampWrong : ChangeSpec := { name := "fnExactFirstCamp", fn := fun _ => fun
  | [d] => { results := [.lit (.bool false)], args := [d] }
  | _ => none }
def FnExactFirstCampWrongFalsely : Prop := fnExactFirstCampRow.holds Try.pinned (OpenSpec.ofChange fnExactFirstCampWrong)

/-- 'laws.FnExactRoundsOfNight': WHATEVER THE INPUT: true; the input reads as it did. -/
def fnExactRoundsOfNightSpec : ChangeSpec := { name := "fnExactRoundsOfNight", fn := fun _ => fun
  | [d1, d2] => { results := [.lit (.bool true)], args := [d1, d2] }
  | _ => none }
def fnExactRoundsOfNightRow : OpenClaim := { program := "ytifaadjbkbdbnaa", sum := "58e732973207fec9adfae5563acab4fb865a88011350018f868b932083729f68", func := "loop.example/g01272/laws.FnExactRoundsOfNight", spec := "fnExactRoundsOfNight", unfollowed := true, recurses := true, plainKeys := false, apart := false }
def FnExactRoundsOfNightSaid : Prop := fnExactRoundsOfNightRow.holds Try.pinned (OpenSpec.ofChange fnExactRoundsOfNightSpec)

/-- ITS FALSE NEIGHBOUR: 'it returns false'. Refute it at one input. -/
def fnExactRoundsOfNightWrong : ChangeSpec := { name := "fnExactRoundsOfNight", fn := fun _ => fun
  | [d1, d2] => { results := [.lit (.bool false)], args := [d1, d2] }
  | _ => none }
def FnExactRoundsOfNightWrongFalsely : Prop := fnExactRoundsOfNightRow.holds Try.pinned (OpenSpec.ofChange fnExactRoundsOfNightWrong)

/-- 'laws.FnExactCanRound': WHATEVER THE INPUT: true; the input reads as it did. -/
def fnExactCanRoundSpec : ChangeSpec := { name := "fnExactCanRound", fn := fun _ => fun
  | [d1, d2, d3] => { results := [.lit (.bool true)], args := [d1, d2, d3] }
  | _ => none }
def fnExactCanRoundRow : OpenClaim := { program := "ytifaadjbkbdbnaa", sum := "58e732973207fec9adfae5563acab4fb865a88011350018f868b932083729f68", func := "loop.example/g01272/laws.FnExactCanRound", spec := "fnExactCanRound", unfollowed := true, recurses := true, plainKeys := false, apart := false }
def FnExactCanRoundSaid : Prop := fnExactCanRoundRow.holds Try.pinned (OpenSpec.ofChange fnExactCanRoundSpec)

/-- ITS FALSE NEIGHBOUR: 'it returns false'. Refute it at one input. -/
def fnExactCanRoundWrong : ChangeSpec := { name := "fnExactCanRound", fn := fun _ => fun
  | [d1, d2, d3] => { results := [.lit (.bool false)], args := [d1, d2, d3] }
  | _ => none }
def FnExactCanRoundWrongFalsely : Prop := fnExactCanRoundRow.holds Try.pinned (OpenSpec.ofChange fnExactCanRoundWrong)

/-- 'laws.FnExactRoundAfter': WHATEVER THE INPUT: true; the input reads as it did. -/
def fnExactRoundAfterSpec : ChangeSpec := { name := "fnExactRoundAfter", fn := fun _ => fun
  | [d1, d2, d3] => { results := [.lit (.bool true)], args := [d1, d2, d3] }
  | _ => none }
def fnExactRoundAfterRow : OpenClaim := { program := "ytifaadjbkbdbnaa", sum := "58e732973207fec9adfae5563acab4fb865a88011350018f868b932083729f68", func := "loop.example/g01272/laws.FnExactRoundAfter", spec := "fnExactRoundAfter", unfollowed := true, recurses := true, plainKeys := false, apart := false }
def FnExactRoundAfterSaid : Prop := fnExactRoundAfterRow.holds Try.pinned (OpenSpec.ofChange fnExactRoundAfterSpec)

/-- ITS FALSE NEIGHBOUR: 'it returns false'. Refute it at one input. -/
def fnExactRoundAfterWrong : ChangeSpec := { name := "fnExactRoundAfter", fn := fun _ => fun
  | [d1, d2, d3] => { results := [.lit (.bool false)], args := [d1, d2, d3] }
  | _ => none }
def FnExactRoundAfterWrongFalsely : Prop := fnExactRoundAfterRow.holds Try.pinned (OpenSpec.ofChange fnExactRoundAfterWrong)

/-- 'laws.FnExactRoundsAfter': WHATEVER THE INPUT: true; the input reads as it did. -/
def fnExactRoundsAfterSpec : ChangeSpec := { name := "fnExactRoundsAfter", fn := fun _ => fun
  | [d1, d2, d3] => { results := [.lit (.bool true)], args := [d1, d2, d3] }
  | _ => none }
def fnExactRoundsAfterRow : OpenClaim := { program := "ytifaadjbkbdbnaa", sum := "58e732973207fec9adfae5563acab4fb865a88011350018f868b932083729f68", func := "loop.example/g01272/laws.FnExactRoundsAfter", spec := "fnExactRoundsAfter", unfollowed := true, recurses := true, plainKeys := false, apart := false }
def FnExactRoundsAfterSaid : Prop := fnExactRoundsAfterRow.holds Try.pinned (OpenSpec.ofChange fnExactRoundsAfterSpec)

/-- ITS FALSE NEIGHBOUR: 'it returns false'. Refute it at one input. -/
def fnExactRoundsAfterWrong : ChangeSpec := { name := "fnExactRoundsAfter", fn := fun _ => fun
  | [d1, d2, d3] => { results := [.lit (.bool false)], args := [d1, d2, d3] }
  | _ => none }
def FnExactRoundsAfterWrongFalsely : Prop := fnExactRoundsAfterRow.holds Try.pinned (OpenSpec.ofChange fnExactRoundsAfterWrong)

/-- 'laws.FnExactRoundTime': WHATEVER THE INPUT: true; the input reads as it did. -/
def fnExactRoundTimeSpec : ChangeSpec := { name := "fnExactRoundTime", fn := fun _ => fun
  | [d1, d2] => { results := [.lit (.bool true)], args := [d1, d2] }
  | _ => none }
def fnExactRoundTimeRow : OpenClaim := { program := "ytifaadjbkbdbnaa", sum := "58e732973207fec9adfae5563acab4fb865a88011350018f868b932083729f68", func := "loop.example/g01272/laws.FnExactRoundTime", spec := "fnExactRoundTime", unfollowed := true, recurses := true, plainKeys := false, apart := false }
def FnExactRoundTimeSaid : Prop := fnExactRoundTimeRow.holds Try.pinned (OpenSpec.ofChange fnExactRoundTimeSpec)

/-- ITS FALSE NEIGHBOUR: 'it returns false'. Refute it at one input. -/
def fnExactRoundTimeWrong : ChangeSpec := { name := "fnExactRoundTime", fn := fun _ => fun
  | [d1, d2] => { results := [.lit (.bool false)], args := [d1, d2] }
  | _ => none }
def FnExactRoundTimeWrongFalsely : Prop := fnExactRoundTimeRow.holds Try.pinned (OpenSpec.ofChange fnExactRoundTimeWrong)

/-- 'laws.FnExactNightTime': WHATEVER THE INPUT: true; the input reads as it did. -/
def fnExactNightTimeSpec : ChangeSpec := { name := "fnExactNightTime", fn := fun _ => fun
  | [d1, d2] => { results := [.lit (.bool true)], args := [d1, d2] }
  | _ => none }
def fnExactNightTimeRow : OpenClaim := { program := "ytifaadjbkbdbnaa", sum := "58e732973207fec9adfae5563acab4fb865a88011350018f868b932083729f68", func := "loop.example/g01272/laws.FnExactNightTime", spec := "fnExactNightTime", unfollowed := true, recurses := true, plainKeys := false, apart := false }
def FnExactNightTimeSaid : Prop := fnExactNightTimeRow.holds Try.pinned (OpenSpec.ofChange fnExactNightTimeSpec)

/-- ITS FALSE NEIGHBOUR: 'it returns false'. Refute it at one input. -/
def fnExactNightTimeWrong : ChangeSpec := { name := "fnExactNightTime", fn := fun _ => fun
  | [d1, d2] => { results := [.lit (.bool false)], args := [d1, d2] }
  | _ => none }
def FnExactNightTimeWrongFalsely : Prop := fnExactNightTimeRow.holds Try.pinned (OpenSpec.ofChange fnExactNightTimeWrong)

/-- 'laws.FnExactIsNightPlan': WHATEVER THE INPUT: true; the input reads as it did. -/
def fnExactIsNightPlanSpec : ChangeSpec := { name := "fnExactIsNightPlan", fn := fun _ => fun
  | [d1, d2] => { results := [.lit (.bool true)], args := [d1, d2] }
  | _ => none }
def fnExactIsNightPlanRow : OpenClaim := { program := "ytifaadjbkbdbnaa", sum := "58e732973207fec9adfae5563acab4fb865a88011350018f868b932083729f68", func := "loop.example/g01272/laws.FnExactIsNightPlan", spec := "fnExactIsNightPlan", unfollowed := true, recurses := true, plainKeys := false, apart := false }
def FnExactIsNightPlanSaid : Prop := fnExactIsNightPlanRow.holds Try.pinned (OpenSpec.ofChange fnExactIsNightPlanSpec)

/-- ITS FALSE NEIGHBOUR: 'it returns false'. Refute it at one input. -/
def fnExactIsNightPlanWrong : ChangeSpec := { name := "fnExactIsNightPlan", fn := fun _ => fun
  | [d1, d2] => { results := [.lit (.bool false)], args := [d1, d2] }
  | _ => none }
def FnExactIsNightPlanWrongFalsely : Prop := fnExactIsNightPlanRow.holds Try.pinned (OpenSpec.ofChange fnExactIsNightPlanWrong)

/-- 'laws.FnExactLeastNight': WHATEVER THE INPUT: true; the input reads as it did. -/
def fnExactLeastNightSpec : ChangeSpec := { name := "fnExactLeastNight", fn := fun _ => fun
  | [d] => { results := [.lit (.bool true)], args := [d] }
  | _ => none }
def fnExactLeastNightRow : OpenClaim := { program := "ytifaadjbkbdbnaa", sum := "58e732973207fec9adfae5563acab4fb865a88011350018f868b932083729f68", func := "loop.example/g01272/laws.FnExactLeastNight", spec := "fnExactLeastNight", unfollowed := true, recurses := true, plainKeys := false, apart := false }
def FnExactLeastNightSaid : Prop := fnExactLeastNightRow.holds Try.pinned (OpenSpec.ofChange fnExactLeastNightSpec)

/-- ITS FALSE NEIGHBOUR: 'it returns false'. Refute it at one input. -/
def fnExactLeastNightWrong : ChangeSpec := { name := "fnExactLeastNight", fn := fun _ => fun
  | [d] => { results := [.lit (.bool false)], args := [d] }
  | _ => none }
def FnExactLeastNightWrongFalsely : Prop := fnExactLeastNightRow.holds Try.pinned (OpenSpec.ofChange fnExactLeastNightWrong)

/- THE SECOND FORM. 'bulk': how many values and letters a reading holds, each counted each time it is reached (what is shared counts as often as it is met; a slice's spare places count too). A statement '..UptoSaid' is the law's where the arguments, and the package variables that the reading takes, are together of bulk at most 1048576: NARROWER than '..Said'. Prove '..Said' where nothing that the law and all that it calls make is longer than what came in: it says more and counts as full. Else prove '..UptoSaid'. A law counts once. -/
mutual
def uptoBulk {H : Type} : DataW H → Nat
  | .lit (.string bytes) => bytes.length + 1
  | .lit _ => 1
  | .nil => 1
  | .ptr d => uptoBulk d + 1
  | .slice elems spare => uptoBulkAll elems + uptoBulkAll spare + 1
  | .agg parts => uptoBulkAll parts + 1
  | .iface _ d => uptoBulk d + 1
  | .map entries => uptoBulkEntries entries + 1
  | .held _ => 1
def uptoBulkAll {H : Type} : List (DataW H) → Nat
  | [] => 0
  | d :: r => uptoBulk d + uptoBulkAll r
def uptoBulkEntries {H : Type} : List (Lit × DataW H) → Nat
  | [] => 0
  | x :: r => uptoBulkEntry x + uptoBulkEntries r
def uptoBulkEntry {H : Type} : Lit × DataW H → Nat
  | (.string bytes, d) => bytes.length + uptoBulk d + 1
  | (_, d) => uptoBulk d + 1
 end
def uptoSmall : (H : Type) → List (DataW H) → Bool := fun _ ds => decide (uptoBulkAll ds ≤ 1048576)
def OpenSpec.upto (s : _root_.Go.ChangeSpec) : _root_.Go.OpenSpec := { _root_.Go.OpenSpec.ofChange s with cond := some uptoSmall }

/-- 'laws.FnExactTripsOf', WHERE WHAT IT READS IS OF BULK AT MOST 1048576: true; the input reads as it did. -/
def fnExactTripsOfUptoRow : OpenClaim := { program := "ytifaadjbkbdbnaa", sum := "58e732973207fec9adfae5563acab4fb865a88011350018f868b932083729f68", func := "loop.example/g01272/laws.FnExactTripsOf", spec := "fnExactTripsOf", recurses := true, plainKeys := false, apart := false, narrowed := true }
def FnExactTripsOfUptoSaid : Prop := fnExactTripsOfUptoRow.holds Try.pinned (OpenSpec.upto fnExactTripsOfSpec)

/-- 'laws.FnExactIsNight', WHERE WHAT IT READS IS OF BULK AT MOST 1048576: true; the input reads as it did. -/
def fnExactIsNightUptoRow : OpenClaim := { program := "ytifaadjbkbdbnaa", sum := "58e732973207fec9adfae5563acab4fb865a88011350018f868b932083729f68", func := "loop.example/g01272/laws.FnExactIsNight", spec := "fnExactIsNight", plainKeys := false, apart := false, narrowed := true }
def FnExactIsNightUptoSaid : Prop := fnExactIsNightUptoRow.holds Try.pinned (OpenSpec.upto fnExactIsNightSpec)

/-- 'laws.FnExactIsCamp', WHERE WHAT IT READS IS OF BULK AT MOST 1048576: true; the input reads as it did. -/
def fnExactIsCampUptoRow : OpenClaim := { program := "ytifaadjbkbdbnaa", sum := "58e732973207fec9adfae5563acab4fb865a88011350018f868b932083729f68", func := "loop.example/g01272/laws.FnExactIsCamp", spec := "fnExactIsCamp", plainKeys := false, apart := false, narrowed := true }
def FnExactIsCampUptoSaid : Prop := fnExactIsCampUptoRow.holds Try.pinned (OpenSpec.upto fnExactIsCampSpec)

/-- 'laws.FnExactFirstCamp', WHERE WHAT IT READS IS OF BULK AT MOST 1048576: true; the input reads as it did. -/
def fnExactFirstCampUptoRow : OpenClaim := { program := "ytifaadjbkbdbnaa", sum := "58e732973207fec9adfae5563acab4fb865a88011350018f868b932083729f68", func := "loop.example/g01272/laws.FnExactFirstCamp", spec := "fnExactFirstCamp", plainKeys := false, apart := false, narrowed := true }
def FnExactFirstCampUptoSaid : Prop := fnExactFirstCampUptoRow.holds Try.pinned (OpenSpec.upto fnExactFirstCampSpec)

/-- 'laws.FnExactRoundsOfNight', WHERE WHAT IT READS IS OF BULK AT MOST 1048576: true; the input reads as it did. -/
def fnExactRoundsOfNightUptoRow : OpenClaim := { program := "ytifaadjbkbdbnaa", sum := "58e732973207fec9adfae5563acab4fb865a88011350018f868b932083729f68", func := "loop.example/g01272/laws.FnExactRoundsOfNight", spec := "fnExactRoundsOfNight", unfollowed := true, recurses := true, plainKeys := false, apart := false, narrowed := true }
def FnExactRoundsOfNightUptoSaid : Prop := fnExactRoundsOfNightUptoRow.holds Try.pinned (OpenSpec.upto fnExactRoundsOfNightSpec)

/-- 'laws.FnExactCanRound', WHERE WHAT IT READS IS OF BULK AT MOST 1048576: true; the input reads as it did. -/
def fnExactCanRoundUptoRow : OpenClaim := { program := "ytifaadjbkbdbnaa", sum := "58e732973207fec9adfae5563acab4fb865a88011350018f868b932083729f68", func := "loop.example/g01272/laws.FnExactCanRound", spec := "fnExactCanRound", unfollowed := true, recurses := true, plainKeys := false, apart := false, narrowed := true }
def FnExactCanRoundUptoSaid : Prop := fnExactCanRoundUptoRow.holds Try.pinned (OpenSpec.upto fnExactCanRoundSpec)

/-- 'laws.FnExactRoundAfter', WHERE WHAT IT READS IS OF BULK AT MOST 1048576: true; the input reads as it did. -/
def fnExactRoundAfterUptoRow : OpenClaim := { program := "ytifaadjbkbdbnaa", sum := "58e732973207fec9adfae5563acab4fb865a88011350018f868b932083729f68", func := "loop.example/g01272/laws.FnExactRoundAfter", spec := "fnExactRoundAfter", unfollowed := true, recurses := true, plainKeys := false, apart := false, narrowed := true }
def FnExactRoundAfterUptoSaid : Prop := fnExactRoundAfterUptoRow.holds Try.pinned (OpenSpec.upto fnExactRoundAfterSpec)

/-- 'laws.FnExactRoundsAfter', WHERE WHAT IT READS IS OF BULK AT MOST 1048576: true; the input reads as it did. -/
def fnExactRoundsAfterUptoRow : OpenClaim := { program := "ytifaadjbkbdbnaa", sum := "58e732973207fec9adfae5563acab4fb865a88011350018f868b932083729f68", func := "loop.example/g01272/laws.FnExactRoundsAfter", spec := "fnExactRoundsAfter", unfollowed := true, recurses := true, plainKeys := false, apart := false, narrowed := true }
def FnExactRoundsAfterUptoSaid : Prop := fnExactRoundsAfterUptoRow.holds Try.pinned (OpenSpec.upto fnExactRoundsAfterSpec)

/-- 'laws.FnExactRoundTime', WHERE WHAT IT READS IS OF BULK AT MOST 1048576: true; the input reads as it did. -/
def fnExactRoundTimeUptoRow : OpenClaim := { program := "ytifaadjbkbdbnaa", sum := "58e732973207fec9adfae5563acab4fb865a88011350018f868b932083729f68", func := "loop.example/g01272/laws.FnExactRoundTime", spec := "fnExactRoundTime", unfollowed := true, recurses := true, plainKeys := false, apart := false, narrowed := true }
def FnExactRoundTimeUptoSaid : Prop := fnExactRoundTimeUptoRow.holds Try.pinned (OpenSpec.upto fnExactRoundTimeSpec)

/-- 'laws.FnExactNightTime', WHERE WHAT IT READS IS OF BULK AT MOST 1048576: true; the input reads as it did. -/
def fnExactNightTimeUptoRow : OpenClaim := { program := "ytifaadjbkbdbnaa", sum := "58e732973207fec9adfae5563acab4fb865a88011350018f868b932083729f68", func := "loop.example/g01272/laws.FnExactNightTime", spec := "fnExactNightTime", unfollowed := true, recurses := true, plainKeys := false, apart := false, narrowed := true }
def FnExactNightTimeUptoSaid : Prop := fnExactNightTimeUptoRow.holds Try.pinned (OpenSpec.upto fnExactNightTimeSpec)

/-- 'laws.FnExactIsNightPlan', WHERE WHAT IT READS IS OF BULK AT MOST 1048576: true; the input reads as it did. -/
def fnExactIsNightPlanUptoRow : OpenClaim := { program := "ytifaadjbkbdbnaa", sum := "58e732973207fec9adfae5563acab4fb865a88011350018f868b932083729f68", func := "loop.example/g01272/laws.FnExactIsNightPlan", spec := "fnExactIsNightPlan", unfollowed := true, recurses := true, plainKeys := false, apart := false, narrowed := true }
def FnExactIsNightPlanUptoSaid : Prop := fnExactIsNightPlanUptoRow.holds Try.pinned (OpenSpec.upto fnExactIsNightPlanSpec)

/-- 'laws.FnExactLeastNight', WHERE WHAT IT READS IS OF BULK AT MOST 1048576: true; the input reads as it did. -/
def fnExactLeastNightUptoRow : OpenClaim := { program := "ytifaadjbkbdbnaa", sum := "58e732973207fec9adfae5563acab4fb865a88011350018f868b932083729f68", func := "loop.example/g01272/laws.FnExactLeastNight", spec := "fnExactLeastNight", unfollowed := true, recurses := true, plainKeys := false, apart := false, narrowed := true }
def FnExactLeastNightUptoSaid : Prop := fnExactLeastNightUptoRow.holds Try.pinned (OpenSpec.upto fnExactLeastNightSpec)

end Rows
end Go.Proofs.Ytifaadjbkbdbnaa
