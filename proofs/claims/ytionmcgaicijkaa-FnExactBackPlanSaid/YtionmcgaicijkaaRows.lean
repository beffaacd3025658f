/-
  No cell of these rows narrows 'for every input' (looked for: loops, veiled, ifaces, maps, wideKeys, modest, calm, conditions, laid).
  DERIVED. THE GIVEN ROWS OF THIS SEAT. 12 by the template 'for every input the law returns true; each argument reads behind the call as it read before'; 0 by the template 'total and deterministic' (their statements: YtionmcgaicijkaaTotals.lean).
  GIVEN WITH THE SEED: the statements are not yours to turn. If you find one false, say at which input.
  Laid BY PROGRAM, IN A SANDBOX (cutbox-rows.mjs): the forced cells as the released guide's own fill.sh prints them over the translation 9edecccf51daba42… (all of the seat's roots in one cut). By AI agents, Wed Nov 11 2026. No macro, syntax, notation, axiom, sorry.
-/
import Derived.Test.YtionmcgaicijkaaChecked
import GoSem.Claim
import GoSem.ClaimJoined
import GoSem.ClaimMapViews
import Derived.JoinedTies
import Derived.KernelRfl
namespace Go.Proofs.Ytionmcgaicijkaa
/- THE CELL 'sum', in the pinned program and in every row, IS THE sha256 OF THE DUMP (.gsa) THAT YtionmcgaicijkaaProg.lean LOADS. Nothing in Lean hashes anything: it is a label: what it is worth is what the hold of that sum in a sandbox is worth. -/
noncomputable def Try.pinned : Pinned := { name := "ytionmcgaicijkaa", sum := "9edecccf51daba424aa4de2169794c577e65740c67dd6003ff183ff6f91ccfae", checked := Try.checked }
namespace Rows
def none {H : Type} : Left H := { results := [], args := [] }

/-- 'laws.FnExactCrossBridge': WHATEVER THE INPUT: true; the input reads as it did. -/
def fnExactCrossBridgeSpec : ChangeSpec := { name := "fnExactCrossBridge", fn := fun _ => fun
  | [d1, d2, d3] => { results := [.lit (.bool true)], args := [d1, d2, d3] }
  | _ => none }
def fnExactCrossBridgeRow : OpenClaim := { program := "ytionmcgaicijkaa", sum := "9edecccf51daba424aa4de2169794c577e65740c67dd6003ff183ff6f91ccfae", func := "loop.example/g01272/laws.FnExactCrossBridge", spec := "fnExactCrossBridge", apart := false }
def FnExactCrossBridgeSaid : Prop := fnExactCrossBridgeRow.holds Try.pinned (OpenSpec.ofChange fnExactCrossBridgeSpec)

/-- ITS FALSE NEIGHBOUR: 'it returns false'. Refute it at one input. -/
def fnExactCrossBridgeWrong : ChangeSpec := { name := "fnExactCrossBridge", fn := fun _ => fun
  | [d1, d2, d3] => { results := [.lit (.bool false)], args := [d1, d2, d3] }
  | _ => none }
def FnExactCrossBridgeWrongFalsely : Prop := fnExactCrossBridgeRow.holds Try.pinned (OpenSpec.ofChange fnExactCrossBridgeWrong)

/-- 'laws.FnExactPlayTrips': WHATEVER THE INPUT: true; the input reads as it did. -/
def fnExactPlayTripsSpec : ChangeSpec := { name := "fnExactPlayTrips", fn := fun _ => fun
  | [d1, d2, d3] => { results := [.lit (.bool true)], args := [d1, d2, d3] }
  | _ => none }
def fnExactPlayTripsRow : OpenClaim := { program := "ytionmcgaicijkaa", sum := "9edecccf51daba424aa4de2169794c577e65740c67dd6003ff183ff6f91ccfae", func := "loop.example/g01272/laws.FnExactPlayTrips", spec := "fnExactPlayTrips", apart := false }
def FnExactPlayTripsSaid : Prop := fnExactPlayTripsRow.holds Try.pinned (OpenSpec.ofChange fnExactPlayTripsSpec)

/-- ITS FALSE NEIGHBOUR: 'it returns false'. Refute it at one input. -/
def fnExactPlayTripsWrong : ChangeSpec := { name := "fnExactPlayTrips", fn := fun _ => fun
  | [d1, d2, d3] => { results := [.lit (.bool false)], args := [d1, d2, d3] }
  | _ => none }
def FnExactPlayTripsWrongFalsely : Prop := fnExactPlayTripsRow.holds Try.pinned (OpenSpec.ofChange fnExactPlayTripsWrong)

/-- 'laws.FnExactTripThatFails': WHATEVER THE INPUT: true; the input reads as it did. -/
def fnExactTripThatFailsSpec : ChangeSpec := { name := "fnExactTripThatFails", fn := fun _ => fun
  | [d1, d2, d3] => { results := [.lit (.bool true)], args := [d1, d2, d3] }
  | _ => none }
def fnExactTripThatFailsRow : OpenClaim := { program := "ytionmcgaicijkaa", sum := "9edecccf51daba424aa4de2169794c577e65740c67dd6003ff183ff6f91ccfae", func := "loop.example/g01272/laws.FnExactTripThatFails", spec := "fnExactTripThatFails", apart := false }
def FnExactTripThatFailsSaid : Prop := fnExactTripThatFailsRow.holds Try.pinned (OpenSpec.ofChange fnExactTripThatFailsSpec)

/-- ITS FALSE NEIGHBOUR: 'it returns false'. Refute it at one input. -/
def fnExactTripThatFailsWrong : ChangeSpec := { name := "fnExactTripThatFails", fn := fun _ => fun
  | [d1, d2, d3] => { results := [.lit (.bool false)], args := [d1, d2, d3] }
  | _ => none }
def FnExactTripThatFailsWrongFalsely : Prop := fnExactTripThatFailsRow.holds Try.pinned (OpenSpec.ofChange fnExactTripThatFailsWrong)

/-- 'laws.FnExactPlanTime': WHATEVER THE INPUT: true; the input reads as it did. -/
def fnExactPlanTimeSpec : ChangeSpec := { name := "fnExactPlanTime", fn := fun _ => fun
  | [d1, d2] => { results := [.lit (.bool true)], args := [d1, d2] }
  | _ => none }
def fnExactPlanTimeRow : OpenClaim := { program := "ytionmcgaicijkaa", sum := "9edecccf51daba424aa4de2169794c577e65740c67dd6003ff183ff6f91ccfae", func := "loop.example/g01272/laws.FnExactPlanTime", spec := "fnExactPlanTime", unfollowed := true, recurses := true, apart := false }
def FnExactPlanTimeSaid : Prop := fnExactPlanTimeRow.holds Try.pinned (OpenSpec.ofChange fnExactPlanTimeSpec)

/-- ITS FALSE NEIGHBOUR: 'it returns false'. Refute it at one input. -/
def fnExactPlanTimeWrong : ChangeSpec := { name := "fnExactPlanTime", fn := fun _ => fun
  | [d1, d2] => { results := [.lit (.bool false)], args := [d1, d2] }
  | _ => none }
def FnExactPlanTimeWrongFalsely : Prop := fnExactPlanTimeRow.holds Try.pinned (OpenSpec.ofChange fnExactPlanTimeWrong)

/-- 'laws.FnExactIsPlan': WHATEVER THE INPUT: true; the input reads as it did. -/
def fnExactIsPlanSpec : ChangeSpec := { name := "fnExactIsPlan", fn := fun _ => fun
  | [d1, d2] => { results := [.lit (.bool true)], args := [d1, d2] }
  | _ => none }
def fnExactIsPlanRow : OpenClaim := { program := "ytionmcgaicijkaa", sum := "9edecccf51daba424aa4de2169794c577e65740c67dd6003ff183ff6f91ccfae", func := "loop.example/g01272/laws.FnExactIsPlan", spec := "fnExactIsPlan", apart := false }
def FnExactIsPlanSaid : Prop := fnExactIsPlanRow.holds Try.pinned (OpenSpec.ofChange fnExactIsPlanSpec)

/-- ITS FALSE NEIGHBOUR: 'it returns false'. Refute it at one input. -/
def fnExactIsPlanWrong : ChangeSpec := { name := "fnExactIsPlan", fn := fun _ => fun
  | [d1, d2] => { results := [.lit (.bool false)], args := [d1, d2] }
  | _ => none }
def FnExactIsPlanWrongFalsely : Prop := fnExactIsPlanRow.holds Try.pinned (OpenSpec.ofChange fnExactIsPlanWrong)

/-- 'laws.FnExactBackPlan': WHATEVER THE INPUT: true; the input reads as it did. -/
def fnExactBackPlanSpec : ChangeSpec := { name := "fnExactBackPlan", fn := fun _ => fun
  | [d1, d2] => { results := [.lit (.bool true)], args := [d1, d2] }
  | _ => none }
def fnExactBackPlanRow : OpenClaim := { program := "ytionmcgaicijkaa", sum := "9edecccf51daba424aa4de2169794c577e65740c67dd6003ff183ff6f91ccfae", func := "loop.example/g01272/laws.FnExactBackPlan", spec := "fnExactBackPlan", unfollowed := true, recurses := true, apart := false }
def FnExactBackPlanSaid : Prop := fnExactBackPlanRow.holds Try.pinned (OpenSpec.ofChange fnExactBackPlanSpec)

/-- ITS FALSE NEIGHBOUR: 'it returns false'. Refute it at one input. -/
def fnExactBackPlanWrong : ChangeSpec := { name := "fnExactBackPlan", fn := fun _ => fun
  | [d1, d2] => { results := [.lit (.bool false)], args := [d1, d2] }
  | _ => none }
def FnExactBackPlanWrongFalsely : Prop := fnExactBackPlanRow.holds Try.pinned (OpenSpec.ofChange fnExactBackPlanWrong)

/-- 'laws.FnExactTimesWalked': WHATEVER THE INPUT: true; the input reads as it did. -/
def fnExactTimesWalkedSpec : ChangeSpec := { name := "fnExactTimesWalked", fn := fun _ => fun
  | [d1, d2] => { results := [.lit (.bool true)], args := [d1, d2] }
  | _ => none }
def fnExactTimesWalkedRow : OpenClaim := { program := "ytionmcgaicijkaa", sum := "9edecccf51daba424aa4de2169794c577e65740c67dd6003ff183ff6f91ccfae", func := "loop.example/g01272/laws.FnExactTimesWalked", spec := "fnExactTimesWalked", unfollowed := true, recurses := true, apart := false }
def FnExactTimesWalkedSaid : Prop := fnExactTimesWalkedRow.holds Try.pinned (OpenSpec.ofChange fnExactTimesWalkedSpec)

/-- ITS FALSE NEIGHBOUR: 'it returns false'. Refute it at one input. -/
def fnExactTimesWalkedWrong : ChangeSpec := { name := "fnExactTimesWalked", fn := fun _ => fun
  | [d1, d2] => { results := [.lit (.bool false)], args := [d1, d2] }
  | _ => none }
def FnExactTimesWalkedWrongFalsely : Prop := fnExactTimesWalkedRow.holds Try.pinned (OpenSpec.ofChange fnExactTimesWalkedWrong)

/-- 'laws.FnExactSortParty': WHATEVER THE INPUT: true; the input reads as it did. -/
def fnExactSortPartySpec : ChangeSpec := { name := "fnExactSortParty", fn := fun _ => fun
  | [d] => { results := [.lit (.bool true)], args := [d] }
  | _ => none }
def fnExactSortPartyRow : OpenClaim := { program := "ytionmcgaicijkaa", sum := "9edecccf51daba424aa4de2169794c577e65740c67dd6003ff183ff6f91ccfae", func := "loop.example/g01272/laws.FnExactSortParty", spec := "fnExactSortParty", recurses := true, apart := false }
def FnExactSortPartySaid : Prop := fnExactSortPartyRow.holds Try.pinned (OpenSpec.ofChange fnExactSortPartySpec)

/-- ITS FALSE NEIGHBOUR: 'it returns false'. Refute it at one input. -/
def fnExactSortPartyWrong : ChangeSpec := { name := "fnExactSortParty", fn := fun _ => fun
  | [d] => { results := [.lit (.bool false)], args := [d] }
  | _ => none }
def FnExactSortPartyWrongFalsely : Prop := fnExactSortPartyRow.holds Try.pinned (OpenSpec.ofChange fnExactSortPartyWrong)

/-- 'laws.FnExactDropPerson': WHATEVER THE INPUT: true; the input reads as it did. -/
def fnExactDropPersonSpec : ChangeSpec := { name := "fnExactDropPerson", fn := fun _ => fun
  | [d1, d2] => { results := [.lit (.bool true)], args := [d1, d2] }
  | _ => none }
def fnExactDropPersonRow : OpenClaim := { program := "ytionmcgaicijkaa", sum := "9edecccf51daba424aa4de2169794c577e65740c67dd6003ff183ff6f91ccfae", func := "loop.example/g01272/laws.FnExactDropPerson", spec := "fnExactDropPerson", apart := false }
def FnExactDropPersonSaid : Prop := fnExactDropPersonRow.holds Try.pinned (OpenSpec.ofChange fnExactDropPersonSpec)

/-- ITS FALSE NEIGHBOUR: 'it returns false'. Refute it at one input. -/
def fnExactDropPersonWrong : ChangeSpec := { name := "fnExactDropPerson", fn := fun _ => fun
  | [d1, d2] => { results := [.lit (.bool false)], args := [d1, d2] }
  | _ => none }
def FnExactDropPersonWrongFalsely : Prop := fnExactDropPersonRow.holds Try.pinned (OpenSpec.ofChange fnExactDropPersonWrong)

/-- 'laws.FnExactSlowParty': WHATEVER THE INPUT: true; the input reads as it did. -/
def fnExactSlowPartySpec : ChangeSpec := { name := "fnExactSlowParty", fn := fun _ => fun
  | [d1, d2] => { results := [.lit (.bool true)], args := [d1, d2] }
  | _ => none }
def fnExactSlowPartyRow : OpenClaim := { program := "ytionmcgaicijkaa", sum := "9edecccf51daba424aa4de2169794c577e65740c67dd6003ff183ff6f91ccfae", func := "loop.example/g01272/laws.FnExactSlowParty", spec := "fnExactSlowParty", apart := false }
def FnExactSlowPartySaid : Prop := fnExactSlowPartyRow.holds Try.pinned (OpenSpec.ofChange fnExactSlowPartySpec)

/-- ITS FALSE NEIGHBOUR: 'it returns false'. Refute it at one input. -/
def fnExactSlowPartyWrong : ChangeSpec := { name := "fnExactSlowParty", fn := fun _ => fun
  | [d1, d2] => { results := [.lit (.bool false)], args := [d1, d2] }
  | _ => none }
def FnExactSlowPartyWrongFalsely : Prop := fnExactSlowPartyRow.holds Try.pinned (OpenSpec.ofChange fnExactSlowPartyWrong)

/-- 'laws.FnExactStateText': WHATEVER THE INPUT: true; the input reads as it did. -/
def fnExactStateTextSpec : ChangeSpec := { name := "fnExactStateText", fn := fun _ => fun
  | [d1, d2] => { results := [.lit (.bool true)], args := [d1, d2] }
  | _ => none }
def fnExactStateTextRow : OpenClaim := { program := "ytionmcgaicijkaa", sum := "9edecccf51daba424aa4de2169794c577e65740c67dd6003ff183ff6f91ccfae", func := "loop.example/g01272/laws.FnExactStateText", spec := "fnExactStateText", inPlace := ["internal/abi.NoEscape"], apart := false }
def FnExactStateTextSaid : Prop := fnExactStateTextRow.holds Try.pinned (OpenSpec.ofChange fnExactStateTextSpec)

/-- ITS FALSE NEIGHBOUR: 'it returns false'. Refute it at one input. -/
def fnExactStateTextWrong : ChangeSpec := { name := "fnExactStateText", fn := fun _ => fun
  | [d1, d2] => { results := [.lit (.bool false)], args := [d1, d2] }
  | _ => none }
def FnExactStateTextWrongFalsely : Prop := fnExactStateTextRow.holds Try.pinned (OpenSpec.ofChange fnExactStateTextWrong)

/-- 'laws.FnExactPairTrips': WHATEVER THE INPUT: true; the input reads as it did. -/
def fnExactPairTripsSpec : ChangeSpec := { name := "fnExactPairTrips", fn := fun _ => fun
  | [d] => { results := [.lit (.bool true)], args := [d] }
  | _ => none }
def fnExactPairTripsRow : OpenClaim := { program := "ytionmcgaicijkaa", sum := "9edecccf51daba424aa4de2169794c577e65740c67dd6003ff183ff6f91ccfae", func := "loop.example/g01272/laws.FnExactPairTrips", spec := "fnExactPairTrips", apart := false }
def FnExactPairTripsSaid : Prop := fnExactPairTripsRow.holds Try.pinned (OpenSpec.ofChange fnExactPairTripsSpec)

/-- ITS FALSE NEIGHBOUR: 'it returns false'. Refute it at one input. -/
def fnExactPairTripsWrong : ChangeSpec := { name := "fnExactPairTrips", fn := fun _ => fun
  | [d] => { results := [.lit (.bool false)], args := [d] }
  | _ => none }
def FnExactPairTripsWrongFalsely : Prop := fnExactPairTripsRow.holds Try.pinned (OpenSpec.ofChange fnExactPairTripsWrong)

/- THE SECOND FORM. 'bulk': how many values and letters a reading holds, each counted each time it is reached (what is shared counts as often as it is met; a slice's spare places count too). A statement '..UptoSaid' is the law's where the arguments, and the package variables that the reading takes, are together of bulk at most 1048576: NARROWER than '..Said'. Prove '..Said' where nothing that the law and all that it calls make is longer than what came in: it says more and counts as full. Else prove '..UptoSaid'. A law counts once. -/
mutual
def uptoBulk {H : Type} : DataW H → Nat
  | .lit (.string bytes) => bytes.length + 1
  | .lit _ => 1
  | .nil => 1
  | .ptr d => uptoBulk d + 1
  | .slice elems spare => uptoBulkAll elems + uptoBulkAll spare + 1
  | .agg parts => uptoBulkAll parts + 1
  | .iface _ d => uptoBulk d + 1
  | .map entries => uptoBulkEntries entries + 1
  | .held _ => 1
def uptoBulkAll {H : Type} : List (DataW H) → Nat
  | [] => 0
  | d :: r => uptoBulk d + uptoBulkAll r
def uptoBulkEntries {H : Type} : List (Lit × DataW H) → Nat
  | [] => 0
  | x :: r => uptoBulkEntry x + uptoBulkEntries r
def uptoBulkEntry {H : Type} : Lit × DataW H → Nat
  | (.string bytes, d) => bytes.length + uptoBulk d + 1
  | (_, d) => uptoBulk d + 1
 end
def uptoSmall : (H : Type) → List (DataW H) → Bool := fun _ ds => decide (uptoBulkAll ds ≤ 1048576)
def OpenSpec.upto (s : _root_.Go.ChangeSpec) : _root_.Go.OpenSpec := { _root_.Go.OpenSpec.ofChange s with cond := some uptoSmall }

/-- 'laws.FnExactCrossBridge', WHERE WHAT IT READS IS OF BULK AT MOST 1048576: true; the input reads as it did. -/
def fnExactCrossBridgeUptoRow : OpenClaim := { program := "ytionmcgaicijkaa", sum := "9edecccf51daba424aa4de2169794c577e65740c67dd6003ff183ff6f91ccfae", func := "loop.example/g01272/laws.FnExactCrossBridge", spec := "fnExactCrossBridge", apart := false, narrowed := true }
def FnExactCrossBridgeUptoSaid : Prop := fnExactCrossBridgeUptoRow.holds Try.pinned (OpenSpec.upto fnExactCrossBridgeSpec)

/-- 'laws.FnExactPlayTrips', WHERE WHAT IT READS IS OF BULK AT MOST 1048576: true; the input reads as it did. -/
def fnExactPlayTripsUptoRow : OpenClaim := { program := "ytionmcgaicijkaa", sum := "9edecccf51daba424aa4de2169794c577e65740c67dd6003ff183ff6f91ccfae", func := "loop.example/g01272/laws.FnExactPlayTrips", spec := "fnExactPlayTrips", apart := false, narrowed := true }
def FnExactPlayTripsUptoSaid : Prop := fnExactPlayTripsUptoRow.holds Try.pinned (OpenSpec.upto fnExactPlayTripsSpec)

/-- 'laws.FnExactTripThatFails', WHERE WHAT IT READS IS OF BULK AT MOST 1048576: true; the input reads as it did. -/
def fnExactTripThatFailsUptoRow : OpenClaim := { program := "ytionmcgaicijkaa", sum := "9edecccf51daba424aa4de2169794c577e65740c67dd6003ff183ff6f91ccfae", func := "loop.example/g01272/laws.FnExactTripThatFails", spec := "fnExactTripThatFails", apart := false, narrowed := true }
def FnExactTripThatFailsUptoSaid : Prop := fnExactTripThatFailsUptoRow.holds Try.pinned (OpenSpec.upto fnExactTripThatFailsSpec)

/-- 'laws.FnExactPlanTime', WHERE WHAT IT READS IS OF BULK AT MOST 1048576: true; the input reads as it did. -/
def fnExactPlanTimeUptoRow : OpenClaim := { program := "ytionmcgaicijkaa", sum := "9edecccf51daba424aa4de2169794c577e65740c67dd6003ff183ff6f91ccfae", func := "loop.example/g01272/laws.FnExactPlanTime", spec := "fnExactPlanTime", unfollowed := true, recurses := true, apart := false, narrowed := true }
def FnExactPlanTimeUptoSaid : Prop := fnExactPlanTimeUptoRow.holds Try.pinned (OpenSpec.upto fnExactPlanTimeSpec)

/-- 'laws.FnExactIsPlan', WHERE WHAT IT READS IS OF BULK AT MOST 1048576: true; the input reads as it did. -/
def fnExactIsPlanUptoRow : OpenClaim := { program := "ytionmcgaicijkaa", sum := "9edecccf51daba424aa4de2169794c577e65740c67dd6003ff183ff6f91ccfae", func := "loop.example/g01272/laws.FnExactIsPlan", spec := "fnExactIsPlan", apart := false, narrowed := true }
def FnExactIsPlanUptoSaid : Prop := fnExactIsPlanUptoRow.holds Try.pinned (OpenSpec.upto fnExactIsPlanSpec)

/-- 'laws.FnExactBackPlan', WHERE WHAT IT READS IS OF BULK AT MOST 1048576: true; the input reads as it did. -/
def fnExactBackPlanUptoRow : OpenClaim := { program := "ytionmcgaicijkaa", sum := "9edecccf51daba424aa4de2169794c577e65740c67dd6003ff183ff6f91ccfae", func := "loop.example/g01272/laws.FnExactBackPlan", spec := "fnExactBackPlan", unfollowed := true, recurses := true, apart := false, narrowed := true }
def FnExactBackPlanUptoSaid : Prop := fnExactBackPlanUptoRow.holds Try.pinned (OpenSpec.upto fnExactBackPlanSpec)

/-- 'laws.FnExactTimesWalked', WHERE WHAT IT READS IS OF BULK AT MOST 1048576: true; the input reads as it did. -/
def fnExactTimesWalkedUptoRow : OpenClaim := { program := "ytionmcgaicijkaa", sum := "9edecccf51daba424aa4de2169794c577e65740c67dd6003ff183ff6f91ccfae", func := "loop.example/g01272/laws.FnExactTimesWalked", spec := "fnExactTimesWalked", unfollowed := true, recurses := true, apart := false, narrowed := true }
def FnExactTimesWalkedUptoSaid : Prop := fnExactTimesWalkedUptoRow.holds Try.pinned (OpenSpec.upto fnExactTimesWalkedSpec)

/-- 'laws.FnExactSortParty', WHERE WHAT IT READS IS OF BULK AT MOST 1048576: true; the input reads as it did. -/
def fnExactSortPartyUptoRow : OpenClaim := { program := "ytionmcgaicijkaa", sum := "9edecccf51daba424aa4de2169794c577e65740c67dd6003ff183ff6f91ccfae", func := "loop.example/g01272/laws.FnExactSortParty", spec := "fnExactSortParty", recurses := true, apart := false, narrowed := true }
def FnExactSortPartyUptoSaid : Prop := fnExactSortPartyUptoRow.holds Try.pinned (OpenSpec.upto fnExactSortPartySpec)

/-- 'laws.FnExactDropPerson', WHERE WHAT IT READS IS OF BULK AT MOST 1048576: true; the input reads as it did. -/
def fnExactDropPersonUptoRow : OpenClaim := { program := "ytionmcgaicijkaa", sum := "9edecccf51daba424aa4de2169794c577e65740c67dd6003ff183ff6f91ccfae", func := "loop.example/g01272/laws.FnExactDropPerson", spec := "fnExactDropPerson", apart := false, narrowed := true }
def FnExactDropPersonUptoSaid : Prop := fnExactDropPersonUptoRow.holds Try.pinned (OpenSpec.upto fnExactDropPersonSpec)

/-- 'laws.FnExactSlowParty', WHERE WHAT IT READS IS OF BULK AT MOST 1048576: true; the input reads as it did. -/
def fnExactSlowPartyUptoRow : OpenClaim := { program := "ytionmcgaicijkaa", sum := "9edecccf51daba424aa4de2169794c577e65740c67dd6003ff183ff6f91ccfae", func := "loop.example/g01272/laws.FnExactSlowParty", spec := "fnExactSlowParty", apart := false, narrowed := true }
def FnExactSlowPartyUptoSaid : Prop := fnExactSlowPartyUptoRow.holds Try.pinned (OpenSpec.upto fnExactSlowPartySpec)

/-- 'laws.FnExactStateText', WHERE WHAT IT READS IS OF BULK AT MOST 1048576: true; the input reads as it did. -/
def fnExactStateTextUptoRow : OpenClaim := { program := "ytionmcgaicijkaa", sum := "9edecccf51daba424aa4de2169794c577e65740c67dd6003ff183ff6f91ccfae", func := "loop.example/g01272/laws.FnExactStateText", spec := "fnExactStateText", inPlace := ["internal/abi.NoEscape"], apart := false, narrowed := true }
def FnExactStateTextUptoSaid : Prop := fnExactStateTextUptoRow.holds Try.pinned (OpenSpec.upto fnExactStateTextSpec)

/-- 'laws.FnExactPairTrips', WHERE WHAT IT READS IS OF BULK AT MOST 1048576: true; the input reads as it did. -/
def fnExactPairTripsUptoRow : OpenClaim := { program := "ytionmcgaicijkaa", sum := "9edecccf51daba424aa4de2169794c577e65740c67dd6003ff183ff6f91ccfae", func := "loop.example/g01272/laws.FnExactPairTrips", spec := "fnExactPairTrips", apart := false, narrowed := true }
def FnExactPairTripsUptoSaid : Prop := fnExactPairTripsUptoRow.holds Try.pinned (OpenSpec.upto fnExactPairTripsSpec)

end Rows
end Go.Proofs.Ytionmcgaicijkaa
