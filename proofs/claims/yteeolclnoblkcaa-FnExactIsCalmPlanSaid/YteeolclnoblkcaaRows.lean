/-
  No cell of these rows narrows 'for every input' (looked for: loops, veiled, ifaces, maps, wideKeys, modest, calm, conditions, laid).
  DERIVED. THE GIVEN ROWS OF THIS SEAT. 12 by the template 'for every input the law returns true; each argument reads behind the call as it read before'; 0 by the template 'total and deterministic' (their statements: YteeolclnoblkcaaTotals.lean).
  GIVEN WITH THE SEED: the statements are not yours to turn. If you find one false, say at which input.
  Laid BY PROGRAM, IN A SANDBOX (cutbox-rows.mjs): the forced cells as the released guide's own fill.sh prints them over the translation 538b225059d3bdd2… (all of the seat's roots in one cut). By AI agents, Wed Nov 11 2026. No macro, syntax, notation, axiom, sorry.
-/
import Derived.Test.YteeolclnoblkcaaChecked
import GoSem.Claim
import GoSem.ClaimJoined
import GoSem.ClaimMapViews
import Derived.JoinedTies
import Derived.KernelRfl
namespace Go.Proofs.Yteeolclnoblkcaa
/- THE CELL 'sum', in the pinned program and in every row, IS THE sha256 OF THE DUMP (.gsa) THAT YteeolclnoblkcaaProg.lean LOADS. Nothing in Lean hashes anything: it is a label: what it is worth is what the hold of that sum in a sandbox is worth. -/
noncomputable def Try.pinned : Pinned := { name := "yteeolclnoblkcaa", sum := "538b225059d3bdd2fce9cbd284aad021357c04322b2cd32f423143d90ba44606", checked := Try.checked }
namespace Rows
def none {H : Type} : Left H := { results := [], args := [] }

/-- 'laws.FnExactIsCompany': WHATEVER THE INPUT: true; the input reads as it did. -/
def fnExactIsCompanySpec : ChangeSpec := { name := "fnExactIsCompany", fn := fun _ => fun
  | [d] => { results := [.lit (.bool true)], args := [d] }
  | _ => none }
def fnExactIsCompanyRow : OpenClaim := { program := "yteeolclnoblkcaa", sum := "538b225059d3bdd2fce9cbd284aad021357c04322b2cd32f423143d90ba44606", func := "loop.example/g01272/laws.FnExactIsCompany", spec := "fnExactIsCompany", plainKeys := false, apart := false }
def FnExactIsCompanySaid : Prop := fnExactIsCompanyRow.holds Try.pinned (OpenSpec.ofChange fnExactIsCompanySpec)

/-- ITS FALSE NEIGHBOUR: 'it returns false'. Refute it at one input. -/
def fnExactIsCompanyWrong : ChangeSpec := { name := "fnExactIsCompany", fn := fun _ => fun
  | [d] => { results := [.lit (.bool false)], args := [d] }
  | _ => none }
def FnExactIsCompanyWrongFalsely : Prop := fnExactIsCompanyRow.holds Try.pinned (OpenSpec.ofChange fnExactIsCompanyWrong)

/-- 'laws.FnExactIsCalmGroup': WHATEVER THE INPUT: true; the input reads as it did. -/
def fnExactIsCalmGroupSpec : ChangeSpec := { name := "fnExactIsCalmGroup", fn := fun _ => fun
  | [d1, d2] => { results := [.lit (.bool true)], args := [d1, d2] }
  | _ => none }
def fnExactIsCalmGroupRow : OpenClaim := { program := "yteeolclnoblkcaa", sum := "538b225059d3bdd2fce9cbd284aad021357c04322b2cd32f423143d90ba44606", func := "loop.example/g01272/laws.FnExactIsCalmGroup", spec := "fnExactIsCalmGroup", unfollowed := true, recurses := true, plainKeys := false, apart := false }
def FnExactIsCalmGroupSaid : Prop := fnExactIsCalmGroupRow.holds Try.pinned (OpenSpec.ofChange fnExactIsCalmGroupSpec)

/-- ITS FALSE NEIGHBOUR: 'it returns false'. Refute it at one input. -/
def fnExactIsCalmGroupWrong : ChangeSpec := { name := "fnExactIsCalmGroup", fn := fun _ => fun
  | [d1, d2] => { results := [.lit (.bool false)], args := [d1, d2] }
  | _ => none }
def FnExactIsCalmGroupWrongFalsely : Prop := fnExactIsCalmGroupRow.holds Try.pinned (OpenSpec.ofChange fnExactIsCalmGroupWrong)

/-- 'laws.FnExactIsCalm': WHATEVER THE INPUT: true; the input reads as it did. -/
def fnExactIsCalmSpec : ChangeSpec := { name := "fnExactIsCalm", fn := fun _ => fun
  | [d1, d2] => { results := [.lit (.bool true)], args := [d1, d2] }
  | _ => none }
def fnExactIsCalmRow : OpenClaim := { program := "yteeolclnoblkcaa", sum := "538b225059d3bdd2fce9cbd284aad021357c04322b2cd32f423143d90ba44606", func := "loop.example/g01272/laws.FnExactIsCalm", spec := "fnExactIsCalm", unfollowed := true, recurses := true, plainKeys := false, apart := false }
def FnExactIsCalmSaid : Prop := fnExactIsCalmRow.holds Try.pinned (OpenSpec.ofChange fnExactIsCalmSpec)

/-- ITS FALSE NEIGHBOUR: 'it returns false'. Refute it at one input. -/
def fnExactIsCalmWrong : ChangeSpec := { name := "fnExactIsCalm", fn := fun _ => fun
  | [d1, d2] => { results := [.lit (.bool false)], args := [d1, d2] }
  | _ => none }
def FnExactIsCalmWrongFalsely : Prop := fnExactIsCalmRow.holds Try.pinned (OpenSpec.ofChange fnExactIsCalmWrong)

/-- 'laws.FnExactRowsOf': WHATEVER THE INPUT: true; the input reads as it did. -/
def fnExactRowsOfSpec : ChangeSpec := { name := "fnExactRowsOf", fn := fun _ => fun
  | [d1, d2] => { results := [.lit (.bool true)], args := [d1, d2] }
  | _ => none }
def fnExactRowsOfRow : OpenClaim := { program := "yteeolclnoblkcaa", sum := "538b225059d3bdd2fce9cbd284aad021357c04322b2cd32f423143d90ba44606", func := "loop.example/g01272/laws.FnExactRowsOf", spec := "fnExactRowsOf", unfollowed := true, recurses := true, plainKeys := false, apart := false }
def FnExactRowsOfSaid : Prop := fnExactRowsOfRow.holds Try.pinned (OpenSpec.ofChange fnExactRowsOfSpec)

/-- ITS FALSE NEIGHBOUR: 'it returns false'. Refute it at one input. -/
def fnExactRowsOfWrong : ChangeSpec := { name := "fnExactRowsOf", fn := fun _ => fun
  | [d1, d2] => { results := [.lit (.bool false)], args := [d1, d2] }
  | _ => none }
def FnExactRowsOfWrongFalsely : Prop := fnExactRowsOfRow.holds Try.pinned (OpenSpec.ofChange fnExactRowsOfWrong)

/-- 'laws.FnExactRowBoat': WHATEVER THE INPUT: true; the input reads as it did. -/
def fnExactRowBoatSpec : ChangeSpec := { name := "fnExactRowBoat", fn := fun _ => fun
  | [d1, d2, d3] => { results := [.lit (.bool true)], args := [d1, d2, d3] }
  | _ => none }
def fnExactRowBoatRow : OpenClaim := { program := "yteeolclnoblkcaa", sum := "538b225059d3bdd2fce9cbd284aad021357c04322b2cd32f423143d90ba44606", func := "loop.example/g01272/laws.FnExactRowBoat", spec := "fnExactRowBoat", unfollowed := true, recurses := true, plainKeys := false, apart := false }
def FnExactRowBoatSaid : Prop := fnExactRowBoatRow.holds Try.pinned (OpenSpec.ofChange fnExactRowBoatSpec)

/-- ITS FALSE NEIGHBOUR: 'it returns false'. Refute it at one input. -/
def fnExactRowBoatWrong : ChangeSpec := { name := "fnExactRowBoat", fn := fun _ => fun
  | [d1, d2, d3] => { results := [.lit (.bool false)], args := [d1, d2, d3] }
  | _ => none }
def FnExactRowBoatWrongFalsely : Prop := fnExactRowBoatRow.holds Try.pinned (OpenSpec.ofChange fnExactRowBoatWrong)

/-- 'laws.FnExactIsCalmPlan': WHATEVER THE INPUT: true; the input reads as it did. -/
def fnExactIsCalmPlanSpec : ChangeSpec := { name := "fnExactIsCalmPlan", fn := fun _ => fun
  | [d1, d2] => { results := [.lit (.bool true)], args := [d1, d2] }
  | _ => none }
def fnExactIsCalmPlanRow : OpenClaim := { program := "yteeolclnoblkcaa", sum := "538b225059d3bdd2fce9cbd284aad021357c04322b2cd32f423143d90ba44606", func := "loop.example/g01272/laws.FnExactIsCalmPlan", spec := "fnExactIsCalmPlan", unfollowed := true, recurses := true, plainKeys := false, apart := false }
def FnExactIsCalmPlanSaid : Prop := fnExactIsCalmPlanRow.holds Try.pinned (OpenSpec.ofChange fnExactIsCalmPlanSpec)

/-- ITS FALSE NEIGHBOUR: 'it returns false'. Refute it at one input. -/
def fnExactIsCalmPlanWrong : ChangeSpec := { name := "fnExactIsCalmPlan", fn := fun _ => fun
  | [d1, d2] => { results := [.lit (.bool false)], args := [d1, d2] }
  | _ => none }
def FnExactIsCalmPlanWrongFalsely : Prop := fnExactIsCalmPlanRow.holds Try.pinned (OpenSpec.ofChange fnExactIsCalmPlanWrong)

/-- 'laws.FnExactCountCalm': WHATEVER THE INPUT: true; the input reads as it did. -/
def fnExactCountCalmSpec : ChangeSpec := { name := "fnExactCountCalm", fn := fun _ => fun
  | [d] => { results := [.lit (.bool true)], args := [d] }
  | _ => none }
def fnExactCountCalmRow : OpenClaim := { program := "yteeolclnoblkcaa", sum := "538b225059d3bdd2fce9cbd284aad021357c04322b2cd32f423143d90ba44606", func := "loop.example/g01272/laws.FnExactCountCalm", spec := "fnExactCountCalm", unfollowed := true, recurses := true, plainKeys := false, apart := false }
def FnExactCountCalmSaid : Prop := fnExactCountCalmRow.holds Try.pinned (OpenSpec.ofChange fnExactCountCalmSpec)

/-- ITS FALSE NEIGHBOUR: 'it returns false'. Refute it at one input. -/
def fnExactCountCalmWrong : ChangeSpec := { name := "fnExactCountCalm", fn := fun _ => fun
  | [d] => { results := [.lit (.bool false)], args := [d] }
  | _ => none }
def FnExactCountCalmWrongFalsely : Prop := fnExactCountCalmRow.holds Try.pinned (OpenSpec.ofChange fnExactCountCalmWrong)

/-- 'laws.FnExactSwapCouples': WHATEVER THE INPUT: true; the input reads as it did. -/
def fnExactSwapCouplesSpec : ChangeSpec := { name := "fnExactSwapCouples", fn := fun _ => fun
  | [d1, d2, d3, d4] => { results := [.lit (.bool true)], args := [d1, d2, d3, d4] }
  | _ => none }
def fnExactSwapCouplesRow : OpenClaim := { program := "yteeolclnoblkcaa", sum := "538b225059d3bdd2fce9cbd284aad021357c04322b2cd32f423143d90ba44606", func := "loop.example/g01272/laws.FnExactSwapCouples", spec := "fnExactSwapCouples", unfollowed := true, recurses := true, plainKeys := false, apart := false }
def FnExactSwapCouplesSaid : Prop := fnExactSwapCouplesRow.holds Try.pinned (OpenSpec.ofChange fnExactSwapCouplesSpec)

/-- ITS FALSE NEIGHBOUR: 'it returns false'. Refute it at one input. -/
def fnExactSwapCouplesWrong : ChangeSpec := { name := "fnExactSwapCouples", fn := fun _ => fun
  | [d1, d2, d3, d4] => { results := [.lit (.bool false)], args := [d1, d2, d3, d4] }
  | _ => none }
def FnExactSwapCouplesWrongFalsely : Prop := fnExactSwapCouplesRow.holds Try.pinned (OpenSpec.ofChange fnExactSwapCouplesWrong)

/-- 'laws.FnExactFewestForGuards': WHATEVER THE INPUT: true; the input reads as it did. -/
def fnExactFewestForGuardsSpec : ChangeSpec := { name := "fnExactFewestForGuards", fn := fun _ => fun
  | [d1, d2, d3] => { results := [.lit (.bool true)], args := [d1, d2, d3] }
  | _ => none }
def fnExactFewestForGuardsRow : OpenClaim := { program := "yteeolclnoblkcaa", sum := "538b225059d3bdd2fce9cbd284aad021357c04322b2cd32f423143d90ba44606", func := "loop.example/g01272/laws.FnExactFewestForGuards", spec := "fnExactFewestForGuards", unfollowed := true, recurses := true, plainKeys := false, apart := false }
def FnExactFewestForGuardsSaid : Prop := fnExactFewestForGuardsRow.holds Try.pinned (OpenSpec.ofChange fnExactFewestForGuardsSpec)

/-- ITS FALSE NEIGHBOUR: 'it returns false'. Refute it at one input. -/
def fnExactFewestForGuardsWrong : ChangeSpec := { name := "fnExactFewestForGuards", fn := fun _ => fun
  | [d1, d2, d3] => { results := [.lit (.bool false)], args := [d1, d2, d3] }
  | _ => none }
def FnExactFewestForGuardsWrongFalsely : Prop := fnExactFewestForGuardsRow.holds Try.pinned (OpenSpec.ofChange fnExactFewestForGuardsWrong)

/-- 'laws.FnExactFirstForGuards': WHATEVER THE INPUT: true; the input reads as it did. -/
def fnExactFirstForGuardsSpec : ChangeSpec := { name := "fnExactFirstForGuards", fn := fun _ => fun
  | [d1, d2, d3] => { results := [.lit (.bool true)], args := [d1, d2, d3] }
  | _ => none }
def fnExactFirstForGuardsRow : OpenClaim := { program := "yteeolclnoblkcaa", sum := "538b225059d3bdd2fce9cbd284aad021357c04322b2cd32f423143d90ba44606", func := "loop.example/g01272/laws.FnExactFirstForGuards", spec := "fnExactFirstForGuards", unfollowed := true, recurses := true, plainKeys := false, apart := false }
def FnExactFirstForGuardsSaid : Prop := fnExactFirstForGuardsRow.holds Try.pinned (OpenSpec.ofChange fnExactFirstForGuardsSpec)

/-- ITS FALSE NEIGHBOUR: 'it returns false'. Refute it at one input. -/
def fnExactFirstForGuardsWrong : ChangeSpec := { name := "fnExactFirstForGuards", fn := fun _ => fun
  | [d1, d2, d3] => { results := [.lit (.bool false)], args := [d1, d2, d3] }
  | _ => none }
def FnExactFirstForGuardsWrongFalsely : Prop := fnExactFirstForGuardsRow.holds Try.pinned (OpenSpec.ofChange fnExactFirstForGuardsWrong)

/-- 'laws.FnExactSeatsForGuards': WHATEVER THE INPUT: true; the input reads as it did. -/
def fnExactSeatsForGuardsSpec : ChangeSpec := { name := "fnExactSeatsForGuards", fn := fun _ => fun
  | [d1, d2] => { results := [.lit (.bool true)], args := [d1, d2] }
  | _ => none }
def fnExactSeatsForGuardsRow : OpenClaim := { program := "yteeolclnoblkcaa", sum := "538b225059d3bdd2fce9cbd284aad021357c04322b2cd32f423143d90ba44606", func := "loop.example/g01272/laws.FnExactSeatsForGuards", spec := "fnExactSeatsForGuards", unfollowed := true, recurses := true, plainKeys := false, apart := false }
def FnExactSeatsForGuardsSaid : Prop := fnExactSeatsForGuardsRow.holds Try.pinned (OpenSpec.ofChange fnExactSeatsForGuardsSpec)

/-- ITS FALSE NEIGHBOUR: 'it returns false'. Refute it at one input. -/
def fnExactSeatsForGuardsWrong : ChangeSpec := { name := "fnExactSeatsForGuards", fn := fun _ => fun
  | [d1, d2] => { results := [.lit (.bool false)], args := [d1, d2] }
  | _ => none }
def FnExactSeatsForGuardsWrongFalsely : Prop := fnExactSeatsForGuardsRow.holds Try.pinned (OpenSpec.ofChange fnExactSeatsForGuardsWrong)

/-- 'laws.FnExactCountGuarded': WHATEVER THE INPUT: true; the input reads as it did. -/
def fnExactCountGuardedSpec : ChangeSpec := { name := "fnExactCountGuarded", fn := fun _ => fun
  | [d1, d2] => { results := [.lit (.bool true)], args := [d1, d2] }
  | _ => none }
def fnExactCountGuardedRow : OpenClaim := { program := "yteeolclnoblkcaa", sum := "538b225059d3bdd2fce9cbd284aad021357c04322b2cd32f423143d90ba44606", func := "loop.example/g01272/laws.FnExactCountGuarded", spec := "fnExactCountGuarded", plainKeys := false, apart := false }
def FnExactCountGuardedSaid : Prop := fnExactCountGuardedRow.holds Try.pinned (OpenSpec.ofChange fnExactCountGuardedSpec)

/-- ITS FALSE NEIGHBOUR: 'it returns false'. Refute it at one input. -/
def fnExactCountGuardedWrong : ChangeSpec := { name := "fnExactCountGuarded", fn := fun _ => fun
  | [d1, d2] => { results := [.lit (.bool false)], args := [d1, d2] }
  | _ => none }
def FnExactCountGuardedWrongFalsely : Prop := fnExactCountGuardedRow.holds Try.pinned (OpenSpec.ofChange fnExactCountGuardedWrong)

/- THE SECOND FORM. 'bulk': how many values and letters a reading holds, each counted each time it is reached (what is shared counts as often as it is met; a slice's spare places count too). A statement '..UptoSaid' is the law's where the arguments, and the package variables that the reading takes, are together of bulk at most 1048576: NARROWER than '..Said'. Prove '..Said' where nothing that the law and all that it calls make is longer than what came in: it says more and counts as full. Else prove '..UptoSaid'. A law counts once. -/
mutual
def uptoBulk {H : Type} : DataW H → Nat
  | .lit (.string bytes) => bytes.length + 1
  | .lit _ => 1
  | .nil => 1
  | .ptr d => uptoBulk d + 1
  | .slice elems spare => uptoBulkAll elems + uptoBulkAll spare + 1
  | .agg parts => uptoBulkAll parts + 1
  | .iface _ d => uptoBulk d + 1
  | .map entries => uptoBulkEntries entries + 1
  | .held _ => 1
def uptoBulkAll {H : Type} : List (DataW H) → Nat
  | [] => 0
  | d :: r => uptoBulk d + uptoBulkAll r
def uptoBulkEntries {H : Type} : List (Lit × DataW H) → Nat
  | [] => 0
  | x :: r => uptoBulkEntry x + uptoBulkEntries r
def uptoBulkEntry {H : Type} : Lit × DataW H → Nat
  | (.string bytes, d) => bytes.length + uptoBulk d + 1
  | (_, d) => uptoBulk d + 1
 end
def uptoSmall : (H : Type) → List (DataW H) → Bool := fun _ ds => decide (uptoBulkAll ds ≤ 1048576)
def OpenSpec.upto (s : _root_.Go.ChangeSpec) : _root_.Go.OpenSpec := { _root_.Go.OpenSpec.ofChange s with cond := some uptoSmall }

/-- 'laws.FnExactIsCompany', WHERE WHAT IT READS IS OF BULK AT MOST 1048576: true; the input reads as it did. -/
def fnExactIsCompanyUptoRow : OpenClaim := { program := "yteeolclnoblkcaa", sum := "538b225059d3bdd2fce9cbd284aad021357c04322b2cd32f423143d90ba44606", func := "loop.example/g01272/laws.FnExactIsCompany", spec := "fnExactIsCompany", plainKeys := false, apart := false, narrowed := true }
def FnExactIsCompanyUptoSaid : Prop := fnExactIsCompanyUptoRow.holds Try.pinned (OpenSpec.upto fnExactIsCompanySpec)

/-- 'laws.FnExactIsCalmGroup', WHERE WHAT IT READS IS OF BULK AT MOST 1048576: true; the input reads as it did. -/
def fnExactIsCalmGroupUptoRow : OpenClaim := { program := "yteeolclnoblkcaa", sum := "538b225059d3bdd2fce9cbd284aad021357c04322b2cd32f423143d90ba44606", func := "loop.example/g01272/laws.FnExactIsCalmGroup", spec := "fnExactIsCalmGroup", unfollowed := true, recurses := true, plainKeys := false, apart := false, narrowed := true }
def FnExactIsCalmGroupUptoSaid : Prop := fnExactIsCalmGroupUptoRow.holds Try.pinned (OpenSpec.upto fnExactIsCalmGroupSpec)

/-- 'laws.FnExactIsCalm', WHERE WHAT IT READS IS OF BULK AT MOST 1048576: true; the input reads as it did. -/
def fnExactIsCalmUptoRow : OpenClaim := { program := "yteeolclnoblkcaa", sum := "538b225059d3bdd2fce9cbd284aad021357c04322b2cd32f423143d90ba44606", func := "loop.example/g01272/laws.FnExactIsCalm", spec := "fnExactIsCalm", unfollowed := true, recurses := true, plainKeys := false, apart := false, narrowed := true }
def FnExactIsCalmUptoSaid : Prop := fnExactIsCalmUptoRow.holds Try.pinned (OpenSpec.upto fnExactIsCalmSpec)

/-- 'laws.FnExactRowsOf', WHERE WHAT IT READS IS OF BULK AT MOST 1048576: true; the input reads as it did. -/
def fnExactRowsOfUptoRow : OpenClaim := { program := "yteeolclnoblkcaa", sum := "538b225059d3bdd2fce9cbd284aad021357c04322b2cd32f423143d90ba44606", func := "loop.example/g01272/laws.FnExactRowsOf", spec := "fnExactRowsOf", unfollowed := true, recurses := true, plainKeys := false, apart := false, narrowed := true }
def FnExactRowsOfUptoSaid : Prop := fnExactRowsOfUptoRow.holds Try.pinned (OpenSpec.upto fnExactRowsOfSpec)

/-- 'laws.FnExactRowBoat', WHERE WHAT IT READS IS OF BULK AT MOST 1048576: true; the input reads as it did. -/
def fnExactRowBoatUptoRow : OpenClaim := { program := "yteeolclnoblkcaa", sum := "538b225059d3bdd2fce9cbd284aad021357c04322b2cd32f423143d90ba44606", func := "loop.example/g01272/laws.FnExactRowBoat", spec := "fnExactRowBoat", unfollowed := true, recurses := true, plainKeys := false, apart := false, narrowed := true }
def FnExactRowBoatUptoSaid : Prop := fnExactRowBoatUptoRow.holds Try.pinned (OpenSpec.upto fnExactRowBoatSpec)

/-- 'laws.FnExactIsCalmPlan', WHERE WHAT IT READS IS OF BULK AT MOST 1048576: true; the input reads as it did. -/
def fnExactIsCalmPlanUptoRow : OpenClaim := { program := "yteeolclnoblkcaa", sum := "538b225059d3bdd2fce9cbd284aad021357c04322b2cd32f423143d90ba44606", func := "loop.example/g01272/laws.FnExactIsCalmPlan", spec := "fnExactIsCalmPlan", unfollowed := true, recurses := true, plainKeys := false, apart := false, narrowed := true }
def FnExactIsCalmPlanUptoSaid : Prop := fnExactIsCalmPlanUptoRow.holds Try.pinned (OpenSpec.upto fnExactIsCalmPlanSpec)

/-- 'laws.FnExactCountCalm', WHERE WHAT IT READS IS OF BULK AT MOST 1048576: true; the input reads as it did. -/
def fnExactCountCalmUptoRow : OpenClaim := { program := "yteeolclnoblkcaa", sum := "538b225059d3bdd2fce9cbd284aad021357c04322b2cd32f423143d90ba44606", func := "loop.example/g01272/laws.FnExactCountCalm", spec := "fnExactCountCalm", unfollowed := true, recurses := true, plainKeys := false, apart := false, narrowed := true }
def FnExactCountCalmUptoSaid : Prop := fnExactCountCalmUptoRow.holds Try.pinned (OpenSpec.upto fnExactCountCalmSpec)

/-- 'laws.FnExactSwapCouples', WHERE WHAT IT READS IS OF BULK AT MOST 1048576: true; the input reads as it did. -/
def fnExactSwapCouplesUptoRow : OpenClaim := { program := "yteeolclnoblkcaa", sum := "538b225059d3bdd2fce9cbd284aad021357c04322b2cd32f423143d90ba44606", func := "loop.example/g01272/laws.FnExactSwapCouples", spec := "fnExactSwapCouples", unfollowed := true, recurses := true, plainKeys := false, apart := false, narrowed := true }
def FnExactSwapCouplesUptoSaid : Prop := fnExactSwapCouplesUptoRow.holds Try.pinned (OpenSpec.upto fnExactSwapCouplesSpec)

/-- 'laws.FnExactFewestForGuards', WHERE WHAT IT READS IS OF BULK AT MOST 1048576: true; the input reads as it did. -/
def fnExactFewestForGuardsUptoRow : OpenClaim := { program := "yteeolclnoblkcaa", sum := "538b225059d3bdd2fce9cbd284aad021357c04322b2cd32f423143d90ba44606", func := "loop.example/g01272/laws.FnExactFewestForGuards", spec := "fnExactFewestForGuards", unfollowed := true, recurses := true, plainKeys := false, apart := false, narrowed := true }
def FnExactFewestForGuardsUptoSaid : Prop := fnExactFewestForGuardsUptoRow.holds Try.pinned (OpenSpec.upto fnExactFewestForGuardsSpec)

/-- 'laws.FnExactFirstForGuards', WHERE WHAT IT READS IS OF BULK AT MOST 1048576: true; the input reads as it did. -/
def fnExactFirstForGuardsUptoRow : OpenClaim := { program := "yteeolclnoblkcaa", sum := "538b225059d3bdd2fce9cbd284aad021357c04322b2cd32f423143d90ba44606", func := "loop.example/g01272/laws.FnExactFirstForGuards", spec := "fnExactFirstForGuards", unfollowed := true, recurses := true, plainKeys := false, apart := false, narrowed := true }
def FnExactFirstForGuardsUptoSaid : Prop := fnExactFirstForGuardsUptoRow.holds Try.pinned (OpenSpec.upto fnExactFirstForGuardsSpec)

/-- 'laws.FnExactSeatsForGuards', WHERE WHAT IT READS IS OF BULK AT MOST 1048576: true; the input reads as it did. -/
def fnExactSeatsForGuardsUptoRow : OpenClaim := { program := "yteeolclnoblkcaa", sum := "538b225059d3bdd2fce9cbd284aad021357c04322b2cd32f423143d90ba44606", func := "loop.example/g01272/laws.FnExactSeatsForGuards", spec := "fnExactSeatsForGuards", unfollowed := true, recurses := true, plainKeys := false, apart := false, narrowed := true }
def FnExactSeatsForGuardsUptoSaid : Prop := fnExactSeatsForGuardsUptoRow.holds Try.pinned (OpenSpec.upto fnExactSeatsForGuardsSpec)

/-- 'laws.FnExactCountGuarded', WHERE WHAT IT READS IS OF BULK AT MOST 1048576: true; the input reads as it did. -/
def fnExactCountGuardedUptoRow : OpenClaim := { program := "yteeolclnoblkcaa", sum := "538b225059d3bdd2fce9cbd284aad021357c04322b2cd32f423143d90ba44606", func := "loop.example/g01272/laws.FnExactCountGuarded", spec := "fnExactCountGuarded", plainKeys := false, apart := false, narrowed := true }
def FnExactCountGuardedUptoSaid : Prop := fnExactCountGuardedUptoRow.holds Try.pinned (OpenSpec.upto fnExactCountGuardedSpec)

end Rows
end Go.Proofs.Yteeolclnoblkcaa
