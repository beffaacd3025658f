/-
  No cell of these rows narrows 'for every input' (looked for: loops, veiled, ifaces, maps, wideKeys, modest, calm, conditions, laid).
  DERIVED. THE GIVEN ROWS OF THIS SEAT. 11 by the template 'for every input the law returns true; each argument reads behind the call as it read before'; 0 by the template 'total and deterministic' (their statements: YtjkiclhihhhpmaaTotals.lean).
  GIVEN WITH THE SEED: the statements are not yours to turn. If you find one false, say at which input.
  Laid BY PROGRAM, IN A SANDBOX (cutbox-rows.mjs): the forced cells as the released guide's own fill.sh prints them over the translation ac6cf72ec028c3b3… (all of the seat's roots in one cut). By AI agents, Wed Nov 11 2026. No macro, syntax, notation, axiom, sorry.
-/
import Derived.Test.YtjkiclhihhhpmaaChecked
import GoSem.Claim
import GoSem.ClaimJoined
import GoSem.ClaimMapViews
import Derived.JoinedTies
import Derived.KernelRfl
namespace Go.Proofs.Ytjkiclhihhhpmaa
/- THE CELL 'sum', in the pinned program and in every row, IS THE sha256 OF THE DUMP (.gsa) THAT YtjkiclhihhhpmaaProg.lean LOADS. Nothing in Lean hashes anything: it is a label: what it is worth is what the hold of that sum in a sandbox is worth. -/
noncomputable def Try.pinned : Pinned := { name := "ytjkiclhihhhpmaa", sum := "ac6cf72ec028c3b3215c01e2c62387d8c0c6a6d581792786f9e0c84df7774289", checked := Try.checked }
namespace Rows
def none {H : Type} : Left H := { results := [], args := [] }

/-- 'laws.FnExactCountPairLists': WHATEVER THE INPUT: true; the input reads as it did. -/
def fnExactCountPairListsSpec : ChangeSpec := { name := "fnExactCountPairLists", fn := fun _ => fun
  | [d1, d2, d3] => { results := [.lit (.bool true)], args := [d1, d2, d3] }
  | _ => none }
def fnExactCountPairListsRow : OpenClaim := { program := "ytjkiclhihhhpmaa", sum := "ac6cf72ec028c3b3215c01e2c62387d8c0c6a6d581792786f9e0c84df7774289", func := "loop.example/g01272/laws.FnExactCountPairLists", spec := "fnExactCountPairLists", unfollowed := true, recurses := true, apart := false }
def FnExactCountPairListsSaid : Prop := fnExactCountPairListsRow.holds Try.pinned (OpenSpec.ofChange fnExactCountPairListsSpec)

/-- ITS FALSE NEIGHBOUR: 'it returns false'. Refute it at one input. -/
def fnExactCountPairListsWrong : ChangeSpec := { name := "fnExactCountPairLists", fn := fun _ => fun
  | [d1, d2, d3] => { results := [.lit (.bool false)], args := [d1, d2, d3] }
  | _ => none }
def FnExactCountPairListsWrongFalsely : Prop := fnExactCountPairListsRow.holds Try.pinned (OpenSpec.ofChange fnExactCountPairListsWrong)

/-- 'laws.FnExactFirstPairList': WHATEVER THE INPUT: true; the input reads as it did. -/
def fnExactFirstPairListSpec : ChangeSpec := { name := "fnExactFirstPairList", fn := fun _ => fun
  | [d1, d2, d3] => { results := [.lit (.bool true)], args := [d1, d2, d3] }
  | _ => none }
def fnExactFirstPairListRow : OpenClaim := { program := "ytjkiclhihhhpmaa", sum := "ac6cf72ec028c3b3215c01e2c62387d8c0c6a6d581792786f9e0c84df7774289", func := "loop.example/g01272/laws.FnExactFirstPairList", spec := "fnExactFirstPairList", unfollowed := true, recurses := true, apart := false }
def FnExactFirstPairListSaid : Prop := fnExactFirstPairListRow.holds Try.pinned (OpenSpec.ofChange fnExactFirstPairListSpec)

/-- ITS FALSE NEIGHBOUR: 'it returns false'. Refute it at one input. -/
def fnExactFirstPairListWrong : ChangeSpec := { name := "fnExactFirstPairList", fn := fun _ => fun
  | [d1, d2, d3] => { results := [.lit (.bool false)], args := [d1, d2, d3] }
  | _ => none }
def FnExactFirstPairListWrongFalsely : Prop := fnExactFirstPairListRow.holds Try.pinned (OpenSpec.ofChange fnExactFirstPairListWrong)

/-- 'laws.FnExactRowsOf': WHATEVER THE INPUT: true; the input reads as it did. -/
def fnExactRowsOfSpec : ChangeSpec := { name := "fnExactRowsOf", fn := fun _ => fun
  | [d1, d2] => { results := [.lit (.bool true)], args := [d1, d2] }
  | _ => none }
def fnExactRowsOfRow : OpenClaim := { program := "ytjkiclhihhhpmaa", sum := "ac6cf72ec028c3b3215c01e2c62387d8c0c6a6d581792786f9e0c84df7774289", func := "loop.example/g01272/laws.FnExactRowsOf", spec := "fnExactRowsOf", unfollowed := true, recurses := true, apart := false }
def FnExactRowsOfSaid : Prop := fnExactRowsOfRow.holds Try.pinned (OpenSpec.ofChange fnExactRowsOfSpec)

/-- ITS FALSE NEIGHBOUR: 'it returns false'. Refute it at one input. -/
def fnExactRowsOfWrong : ChangeSpec := { name := "fnExactRowsOf", fn := fun _ => fun
  | [d1, d2] => { results := [.lit (.bool false)], args := [d1, d2] }
  | _ => none }
def FnExactRowsOfWrongFalsely : Prop := fnExactRowsOfRow.holds Try.pinned (OpenSpec.ofChange fnExactRowsOfWrong)

/-- 'laws.FnExactRowBoat': WHATEVER THE INPUT: true; the input reads as it did. -/
def fnExactRowBoatSpec : ChangeSpec := { name := "fnExactRowBoat", fn := fun _ => fun
  | [d1, d2, d3] => { results := [.lit (.bool true)], args := [d1, d2, d3] }
  | _ => none }
def fnExactRowBoatRow : OpenClaim := { program := "ytjkiclhihhhpmaa", sum := "ac6cf72ec028c3b3215c01e2c62387d8c0c6a6d581792786f9e0c84df7774289", func := "loop.example/g01272/laws.FnExactRowBoat", spec := "fnExactRowBoat", unfollowed := true, recurses := true, apart := false }
def FnExactRowBoatSaid : Prop := fnExactRowBoatRow.holds Try.pinned (OpenSpec.ofChange fnExactRowBoatSpec)

/-- ITS FALSE NEIGHBOUR: 'it returns false'. Refute it at one input. -/
def fnExactRowBoatWrong : ChangeSpec := { name := "fnExactRowBoat", fn := fun _ => fun
  | [d1, d2, d3] => { results := [.lit (.bool false)], args := [d1, d2, d3] }
  | _ => none }
def FnExactRowBoatWrongFalsely : Prop := fnExactRowBoatRow.holds Try.pinned (OpenSpec.ofChange fnExactRowBoatWrong)

/-- 'laws.FnExactIsCalmPlan': WHATEVER THE INPUT: true; the input reads as it did. -/
def fnExactIsCalmPlanSpec : ChangeSpec := { name := "fnExactIsCalmPlan", fn := fun _ => fun
  | [d1, d2] => { results := [.lit (.bool true)], args := [d1, d2] }
  | _ => none }
def fnExactIsCalmPlanRow : OpenClaim := { program := "ytjkiclhihhhpmaa", sum := "ac6cf72ec028c3b3215c01e2c62387d8c0c6a6d581792786f9e0c84df7774289", func := "loop.example/g01272/laws.FnExactIsCalmPlan", spec := "fnExactIsCalmPlan", unfollowed := true, recurses := true, apart := false }
def FnExactIsCalmPlanSaid : Prop := fnExactIsCalmPlanRow.holds Try.pinned (OpenSpec.ofChange fnExactIsCalmPlanSpec)

/-- ITS FALSE NEIGHBOUR: 'it returns false'. Refute it at one input. -/
def fnExactIsCalmPlanWrong : ChangeSpec := { name := "fnExactIsCalmPlan", fn := fun _ => fun
  | [d1, d2] => { results := [.lit (.bool false)], args := [d1, d2] }
  | _ => none }
def FnExactIsCalmPlanWrongFalsely : Prop := fnExactIsCalmPlanRow.holds Try.pinned (OpenSpec.ofChange fnExactIsCalmPlanWrong)

/-- 'laws.FnExactIsIsles': WHATEVER THE INPUT: true; the input reads as it did. -/
def fnExactIsIslesSpec : ChangeSpec := { name := "fnExactIsIsles", fn := fun _ => fun
  | [d] => { results := [.lit (.bool true)], args := [d] }
  | _ => none }
def fnExactIsIslesRow : OpenClaim := { program := "ytjkiclhihhhpmaa", sum := "ac6cf72ec028c3b3215c01e2c62387d8c0c6a6d581792786f9e0c84df7774289", func := "loop.example/g01272/laws.FnExactIsIsles", spec := "fnExactIsIsles", apart := false }
def FnExactIsIslesSaid : Prop := fnExactIsIslesRow.holds Try.pinned (OpenSpec.ofChange fnExactIsIslesSpec)

/-- ITS FALSE NEIGHBOUR: 'it returns false'. Refute it at one input. -/
def fnExactIsIslesWrong : ChangeSpec := { name := "fnExactIsIsles", fn := fun _ => fun
  | [d] => { results := [.lit (.bool false)], args := [d] }
  | _ => none }
def FnExactIsIslesWrongFalsely : Prop := fnExactIsIslesRow.holds Try.pinned (OpenSpec.ofChange fnExactIsIslesWrong)

/-- 'laws.FnExactArePlaces': WHATEVER THE INPUT: true; the input reads as it did. -/
def fnExactArePlacesSpec : ChangeSpec := { name := "fnExactArePlaces", fn := fun _ => fun
  | [d1, d2] => { results := [.lit (.bool true)], args := [d1, d2] }
  | _ => none }
def fnExactArePlacesRow : OpenClaim := { program := "ytjkiclhihhhpmaa", sum := "ac6cf72ec028c3b3215c01e2c62387d8c0c6a6d581792786f9e0c84df7774289", func := "loop.example/g01272/laws.FnExactArePlaces", spec := "fnExactArePlaces", apart := false }
def FnExactArePlacesSaid : Prop := fnExactArePlacesRow.holds Try.pinned (OpenSpec.ofChange fnExactArePlacesSpec)

/-- ITS FALSE NEIGHBOUR: 'it returns false'. Refute it at one input. -/
def fnExactArePlacesWrong : ChangeSpec := { name := "fnExactArePlaces", fn := fun _ => fun
  | [d1, d2] => { results := [.lit (.bool false)], args := [d1, d2] }
  | _ => none }
def FnExactArePlacesWrongFalsely : Prop := fnExactArePlacesRow.holds Try.pinned (OpenSpec.ofChange fnExactArePlacesWrong)

/-- 'laws.FnExactFirstPlaces': WHATEVER THE INPUT: true; the input reads as it did. -/
def fnExactFirstPlacesSpec : ChangeSpec := { name := "fnExactFirstPlaces", fn := fun _ => fun
  | [d] => { results := [.lit (.bool true)], args := [d] }
  | _ => none }
def fnExactFirstPlacesRow : OpenClaim := { program := "ytjkiclhihhhpmaa", sum := "ac6cf72ec028c3b3215c01e2c62387d8c0c6a6d581792786f9e0c84df7774289", func := "loop.example/g01272/laws.FnExactFirstPlaces", spec := "fnExactFirstPlaces", apart := false }
def FnExactFirstPlacesSaid : Prop := fnExactFirstPlacesRow.holds Try.pinned (OpenSpec.ofChange fnExactFirstPlacesSpec)

/-- ITS FALSE NEIGHBOUR: 'it returns false'. Refute it at one input. -/
def fnExactFirstPlacesWrong : ChangeSpec := { name := "fnExactFirstPlaces", fn := fun _ => fun
  | [d] => { results := [.lit (.bool false)], args := [d] }
  | _ => none }
def FnExactFirstPlacesWrongFalsely : Prop := fnExactFirstPlacesRow.holds Try.pinned (OpenSpec.ofChange fnExactFirstPlacesWrong)

/-- 'laws.FnExactLastPlaces': WHATEVER THE INPUT: true; the input reads as it did. -/
def fnExactLastPlacesSpec : ChangeSpec := { name := "fnExactLastPlaces", fn := fun _ => fun
  | [d] => { results := [.lit (.bool true)], args := [d] }
  | _ => none }
def fnExactLastPlacesRow : OpenClaim := { program := "ytjkiclhihhhpmaa", sum := "ac6cf72ec028c3b3215c01e2c62387d8c0c6a6d581792786f9e0c84df7774289", func := "loop.example/g01272/laws.FnExactLastPlaces", spec := "fnExactLastPlaces", apart := false }
def FnExactLastPlacesSaid : Prop := fnExactLastPlacesRow.holds Try.pinned (OpenSpec.ofChange fnExactLastPlacesSpec)

/-- ITS FALSE NEIGHBOUR: 'it returns false'. Refute it at one input. -/
def fnExactLastPlacesWrong : ChangeSpec := { name := "fnExactLastPlaces", fn := fun _ => fun
  | [d] => { results := [.lit (.bool false)], args := [d] }
  | _ => none }
def FnExactLastPlacesWrongFalsely : Prop := fnExactLastPlacesRow.holds Try.pinned (OpenSpec.ofChange fnExactLastPlacesWrong)

/-- 'laws.FnExactAreCalm': WHATEVER THE INPUT: true; the input reads as it did. -/
def fnExactAreCalmSpec : ChangeSpec := { name := "fnExactAreCalm", fn := fun _ => fun
  | [d1, d2] => { results := [.lit (.bool true)], args := [d1, d2] }
  | _ => none }
def fnExactAreCalmRow : OpenClaim := { program := "ytjkiclhihhhpmaa", sum := "ac6cf72ec028c3b3215c01e2c62387d8c0c6a6d581792786f9e0c84df7774289", func := "loop.example/g01272/laws.FnExactAreCalm", spec := "fnExactAreCalm", unfollowed := true, recurses := true, apart := false }
def FnExactAreCalmSaid : Prop := fnExactAreCalmRow.holds Try.pinned (OpenSpec.ofChange fnExactAreCalmSpec)

/-- ITS FALSE NEIGHBOUR: 'it returns false'. Refute it at one input. -/
def fnExactAreCalmWrong : ChangeSpec := { name := "fnExactAreCalm", fn := fun _ => fun
  | [d1, d2] => { results := [.lit (.bool false)], args := [d1, d2] }
  | _ => none }
def FnExactAreCalmWrongFalsely : Prop := fnExactAreCalmRow.holds Try.pinned (OpenSpec.ofChange fnExactAreCalmWrong)

/-- 'laws.FnExactCountCalmPlaces': WHATEVER THE INPUT: true; the input reads as it did. -/
def fnExactCountCalmPlacesSpec : ChangeSpec := { name := "fnExactCountCalmPlaces", fn := fun _ => fun
  | [d] => { results := [.lit (.bool true)], args := [d] }
  | _ => none }
def fnExactCountCalmPlacesRow : OpenClaim := { program := "ytjkiclhihhhpmaa", sum := "ac6cf72ec028c3b3215c01e2c62387d8c0c6a6d581792786f9e0c84df7774289", func := "loop.example/g01272/laws.FnExactCountCalmPlaces", spec := "fnExactCountCalmPlaces", unfollowed := true, recurses := true, apart := false }
def FnExactCountCalmPlacesSaid : Prop := fnExactCountCalmPlacesRow.holds Try.pinned (OpenSpec.ofChange fnExactCountCalmPlacesSpec)

/-- ITS FALSE NEIGHBOUR: 'it returns false'. Refute it at one input. -/
def fnExactCountCalmPlacesWrong : ChangeSpec := { name := "fnExactCountCalmPlaces", fn := fun _ => fun
  | [d] => { results := [.lit (.bool false)], args := [d] }
  | _ => none }
def FnExactCountCalmPlacesWrongFalsely : Prop := fnExactCountCalmPlacesRow.holds Try.pinned (OpenSpec.ofChange fnExactCountCalmPlacesWrong)

/- THE SECOND FORM. 'bulk': how many values and letters a reading holds, each counted each time it is reached (what is shared counts as often as it is met; a slice's spare places count too). A statement '..UptoSaid' is the law's where the arguments, and the package variables that the reading takes, are together of bulk at most 1048576: NARROWER than '..Said'. Prove '..Said' where nothing that the law and all that it calls make is longer than what came in: it says more and counts as full. Else prove '..UptoSaid'. A law counts once. -/
mutual
def uptoBulk {H : Type} : DataW H → Nat
  | .lit (.string bytes) => bytes.length + 1
  | .lit _ => 1
  | .nil => 1
  | .ptr d => uptoBulk d + 1
  | .slice elems spare => uptoBulkAll elems + uptoBulkAll spare + 1
  | .agg parts => uptoBulkAll parts + 1
  | .iface _ d => uptoBulk d + 1
  | .map entries => uptoBulkEntries entries + 1
  | .held _ => 1
def uptoBulkAll {H : Type} : List (DataW H) → Nat
  | [] => 0
  | d :: r => uptoBulk d + uptoBulkAll r
def uptoBulkEntries {H : Type} : List (Lit × DataW H) → Nat
  | [] => 0
  | x :: r => uptoBulkEntry x + uptoBulkEntries r
def uptoBulkEntry {H : Type} : Lit × DataW H → Nat
  | (.string bytes, d) => bytes.length + uptoBulk d + 1
  | (_, d) => uptoBulk d + 1
 end
def uptoSmall : (H : Type) → List (DataW H) → Bool := fun _ ds => decide (uptoBulkAll ds ≤ 1048576)
def OpenSpec.upto (s : _root_.Go.ChangeSpec) : _root_.Go.OpenSpec := { _root_.Go.OpenSpec.ofChange s with cond := some uptoSmall }

/-- 'laws.FnExactCountPairLists', WHERE WHAT IT READS IS OF BULK AT MOST 1048576: true; the input reads as it did. -/
def fnExactCountPairListsUptoRow : OpenClaim := { program := "ytjkiclhihhhpmaa", sum := "ac6cf72ec028c3b3215c01e2c62387d8c0c6a6d581792786f9e0c84df7774289", func := "loop.example/g01272/laws.FnExactCountPairLists", spec := "fnExactCountPairLists", unfollowed := true, recurses := true, apart := false, narrowed := true }
def FnExactCountPairListsUptoSaid : Prop := fnExactCountPairListsUptoRow.holds Try.pinned (OpenSpec.upto fnExactCountPairListsSpec)

/-- 'laws.FnExactFirstPairList', WHERE WHAT IT READS IS OF BULK AT MOST 1048576: true; the input reads as it did. -/
def fnExactFirstPairListUptoRow : OpenClaim := { program := "ytjkiclhihhhpmaa", sum := "ac6cf72ec028c3b3215c01e2c62387d8c0c6a6d581792786f9e0c84df7774289", func := "loop.example/g01272/laws.FnExactFirstPairList", spec := "fnExactFirstPairList", unfollowed := true, recurses := true, apart := false, narrowed := true }
def FnExactFirstPairListUptoSaid : Prop := fnExactFirstPairListUptoRow.holds Try.pinned (OpenSpec.upto fnExactFirstPairListSpec)

/-- 'laws.FnExactRowsOf', WHERE WHAT IT READS IS OF BULK AT MOST 1048576: true; the input reads as it did. -/
def fnExactRowsOfUptoRow : OpenClaim := { program := "ytjkiclhihhhpmaa", sum := "ac6cf72ec028c3b3215c01e2c62387d8c0c6a6d581792786f9e0c84df7774289", func := "loop.example/g01272/laws.FnExactRowsOf", spec := "fnExactRowsOf", unfollowed := true, recurses := true, apart := false, narrowed := true }
def FnExactRowsOfUptoSaid : Prop := fnExactRowsOfUptoRow.holds Try.pinned (OpenSpec.upto fnExactRowsOfSpec)

/-- 'laws.FnExactRowBoat', WHERE WHAT IT READS IS OF BULK AT MOST 1048576: true; the input reads as it did. -/
def fnExactRowBoatUptoRow : OpenClaim := { program := "ytjkiclhihhhpmaa", sum := "ac6cf72ec028c3b3215c01e2c62387d8c0c6a6d581792786f9e0c84df7774289", func := "loop.example/g01272/laws.FnExactRowBoat", spec := "fnExactRowBoat", unfollowed := true, recurses := true, apart := false, narrowed := true }
def FnExactRowBoatUptoSaid : Prop := fnExactRowBoatUptoRow.holds Try.pinned (OpenSpec.upto fnExactRowBoatSpec)

/-- 'laws.FnExactIsCalmPlan', WHERE WHAT IT READS IS OF BULK AT MOST 1048576: true; the input reads as it did. -/
def fnExactIsCalmPlanUptoRow : OpenClaim := { program := "ytjkiclhihhhpmaa", sum := "ac6cf72ec028c3b3215c01e2c62387d8c0c6a6d581792786f9e0c84df7774289", func := "loop.example/g01272/laws.FnExactIsCalmPlan", spec := "fnExactIsCalmPlan", unfollowed := true, recurses := true, apart := false, narrowed := true }
def FnExactIsCalmPlanUptoSaid : Prop := fnExactIsCalmPlanUptoRow.holds Try.pinned (OpenSpec.upto fnExactIsCalmPlanSpec)

/-- 'laws.FnExactIsIsles', WHERE WHAT IT READS IS OF BULK AT MOST 1048576: true; the input reads as it did. -/
def fnExactIsIslesUptoRow : OpenClaim := { program := "ytjkiclhihhhpmaa", sum := "ac6cf72ec028c3b3215c01e2c62387d8c0c6a6d581792786f9e0c84df7774289", func := "loop.example/g01272/laws.FnExactIsIsles", spec := "fnExactIsIsles", apart := false, narrowed := true }
def FnExactIsIslesUptoSaid : Prop := fnExactIsIslesUptoRow.holds Try.pinned (OpenSpec.upto fnExactIsIslesSpec)

/-- 'laws.FnExactArePlaces', WHERE WHAT IT READS IS OF BULK AT MOST 1048576: true; the input reads as it did. -/
def fnExactArePlacesUptoRow : OpenClaim := { program := "ytjkiclhihhhpmaa", sum := "ac6cf72ec028c3b3215c01e2c62387d8c0c6a6d581792786f9e0c84df7774289", func := "loop.example/g01272/laws.FnExactArePlaces", spec := "fnExactArePlaces", apart := false, narrowed := true }
def FnExactArePlacesUptoSaid : Prop := fnExactArePlacesUptoRow.holds Try.pinned (OpenSpec.upto fnExactArePlacesSpec)

/-- 'laws.FnExactFirstPlaces', WHERE WHAT IT READS IS OF BULK AT MOST 1048576: true; the input reads as it did. -/
def fnExactFirstPlacesUptoRow : OpenClaim := { program := "ytjkiclhihhhpmaa", sum := "ac6cf72ec028c3b3215c01e2c62387d8c0c6a6d581792786f9e0c84df7774289", func := "loop.example/g01272/laws.FnExactFirstPlaces", spec := "fnExactFirstPlaces", apart := false, narrowed := true }
def FnExactFirstPlacesUptoSaid : Prop := fnExactFirstPlacesUptoRow.holds Try.pinned (OpenSpec.upto fnExactFirstPlacesSpec)

/-- 'laws.FnExactLastPlaces', WHERE WHAT IT READS IS OF BULK AT MOST 1048576: true; the input reads as it did. -/
def fnExactLastPlacesUptoRow : OpenClaim := { program := "ytjkiclhihhhpmaa", sum := "ac6cf72ec028c3b3215c01e2c62387d8c0c6a6d581792786f9e0c84df7774289", func := "loop.example/g01272/laws.FnExactLastPlaces", spec := "fnExactLastPlaces", apart := false, narrowed := true }
def FnExactLastPlacesUptoSaid : Prop := fnExactLastPlacesUptoRow.holds Try.pinned (OpenSpec.upto fnExactLastPlacesSpec)

/-- 'laws.FnExactAreCalm', WHERE WHAT IT READS IS OF BULK AT MOST 1048576: true; the input reads as it did. -/
def fnExactAreCalmUptoRow : OpenClaim := { program := "ytjkiclhihhhpmaa", sum := "ac6cf72ec028c3b3215c01e2c62387d8c0c6a6d581792786f9e0c84df7774289", func := "loop.example/g01272/laws.FnExactAreCalm", spec := "fnExactAreCalm", unfollowed := true, recurses := true, apart := false, narrowed := true }
def FnExactAreCalmUptoSaid : Prop := fnExactAreCalmUptoRow.holds Try.pinned (OpenSpec.upto fnExactAreCalmSpec)

/-- 'laws.FnExactCountCalmPlaces', WHERE WHAT IT READS IS OF BULK AT MOST 1048576: true; the input reads as it did. -/
def fnExactCountCalmPlacesUptoRow : OpenClaim := { program := "ytjkiclhihhhpmaa", sum := "ac6cf72ec028c3b3215c01e2c62387d8c0c6a6d581792786f9e0c84df7774289", func := "loop.example/g01272/laws.FnExactCountCalmPlaces", spec := "fnExactCountCalmPlaces", unfollowed := true, recurses := true, apart := false, narrowed := true }
def FnExactCountCalmPlacesUptoSaid : Prop := fnExactCountCalmPlacesUptoRow.holds Try.pinned (OpenSpec.upto fnExactCountCalmPlacesSpec)

end Rows
end Go.Proofs.Ytjkiclhihhhpmaa
