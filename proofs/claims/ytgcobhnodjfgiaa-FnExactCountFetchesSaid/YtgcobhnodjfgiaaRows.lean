/-
  No cell of these rows narrows 'for every input' (looked for: loops, veiled, ifaces, maps, wideKeys, modest, calm, conditions, laid).
  DERIVED. THE GIVEN ROWS OF THIS SEAT. 12 by the template 'for every input the law returns true; each argument reads behind the call as it read before'; 0 by the template 'total and deterministic' (their statements: YtgcobhnodjfgiaaTotals.lean).
  GIVEN WITH THE SEED: the statements are not yours to turn. If you find one false, say at which input.
  Laid BY PROGRAM, IN A SANDBOX (cutbox-rows.mjs): the forced cells as the released guide's own fill.sh prints them over the translation 269849231a0e37c2… (all of the seat's roots in one cut). By AI agents, Wed Nov 11 2026. No macro, syntax, notation, axiom, sorry.
-/
import Derived.Test.YtgcobhnodjfgiaaChecked
import GoSem.Claim
import GoSem.ClaimJoined
import GoSem.ClaimMapViews
import Derived.JoinedTies
import Derived.KernelRfl
namespace Go.Proofs.Ytgcobhnodjfgiaa
/- THE CELL 'sum', in the pinned program and in every row, IS THE sha256 OF THE DUMP (.gsa) THAT YtgcobhnodjfgiaaProg.lean LOADS. Nothing in Lean hashes anything: it is a label: what it is worth is what the hold of that sum in a sandbox is worth. -/
noncomputable def Try.pinned : Pinned := { name := "ytgcobhnodjfgiaa", sum := "269849231a0e37c2c76eec7a01fb8274bd8a741e6cdacb8d59ee54b546ceffc1", checked := Try.checked }
namespace Rows
def none {H : Type} : Left H := { results := [], args := [] }

/-- 'laws.FnExactTripsOf': WHATEVER THE INPUT: true; the input reads as it did. -/
def fnExactTripsOfSpec : ChangeSpec := { name := "fnExactTripsOf", fn := fun _ => fun
  | [d1, d2] => { results := [.lit (.bool true)], args := [d1, d2] }
  | _ => none }
def fnExactTripsOfRow : OpenClaim := { program := "ytgcobhnodjfgiaa", sum := "269849231a0e37c2c76eec7a01fb8274bd8a741e6cdacb8d59ee54b546ceffc1", func := "loop.example/g01272/laws.FnExactTripsOf", spec := "fnExactTripsOf", recurses := true, apart := false }
def FnExactTripsOfSaid : Prop := fnExactTripsOfRow.holds Try.pinned (OpenSpec.ofChange fnExactTripsOfSpec)

/-- ITS FALSE NEIGHBOUR: 'it returns false'. Refute it at one input. -/
def fnExactTripsOfWrong : ChangeSpec := { name := "fnExactTripsOf", fn := fun _ => fun
  | [d1, d2] => { results := [.lit (.bool false)], args := [d1, d2] }
  | _ => none }
def FnExactTripsOfWrongFalsely : Prop := fnExactTripsOfRow.holds Try.pinned (OpenSpec.ofChange fnExactTripsOfWrong)

/-- 'laws.FnExactPairTime': WHATEVER THE INPUT: true; the input reads as it did. -/
def fnExactPairTimeSpec : ChangeSpec := { name := "fnExactPairTime", fn := fun _ => fun
  | [d] => { results := [.lit (.bool true)], args := [d] }
  | _ => none }
def fnExactPairTimeRow : OpenClaim := { program := "ytgcobhnodjfgiaa", sum := "269849231a0e37c2c76eec7a01fb8274bd8a741e6cdacb8d59ee54b546ceffc1", func := "loop.example/g01272/laws.FnExactPairTime", spec := "fnExactPairTime", unfollowed := true, recurses := true, apart := false }
def FnExactPairTimeSaid : Prop := fnExactPairTimeRow.holds Try.pinned (OpenSpec.ofChange fnExactPairTimeSpec)

/-- ITS FALSE NEIGHBOUR: 'it returns false'. Refute it at one input. -/
def fnExactPairTimeWrong : ChangeSpec := { name := "fnExactPairTime", fn := fun _ => fun
  | [d] => { results := [.lit (.bool false)], args := [d] }
  | _ => none }
def FnExactPairTimeWrongFalsely : Prop := fnExactPairTimeRow.holds Try.pinned (OpenSpec.ofChange fnExactPairTimeWrong)

/-- 'laws.FnExactPairPlan': WHATEVER THE INPUT: true; the input reads as it did. -/
def fnExactPairPlanSpec : ChangeSpec := { name := "fnExactPairPlan", fn := fun _ => fun
  | [d] => { results := [.lit (.bool true)], args := [d] }
  | _ => none }
def fnExactPairPlanRow : OpenClaim := { program := "ytgcobhnodjfgiaa", sum := "269849231a0e37c2c76eec7a01fb8274bd8a741e6cdacb8d59ee54b546ceffc1", func := "loop.example/g01272/laws.FnExactPairPlan", spec := "fnExactPairPlan", unfollowed := true, recurses := true, apart := false }
def FnExactPairPlanSaid : Prop := fnExactPairPlanRow.holds Try.pinned (OpenSpec.ofChange fnExactPairPlanSpec)

/-- ITS FALSE NEIGHBOUR: 'it returns false'. Refute it at one input. -/
def fnExactPairPlanWrong : ChangeSpec := { name := "fnExactPairPlan", fn := fun _ => fun
  | [d] => { results := [.lit (.bool false)], args := [d] }
  | _ => none }
def FnExactPairPlanWrongFalsely : Prop := fnExactPairPlanRow.holds Try.pinned (OpenSpec.ofChange fnExactPairPlanWrong)

/-- 'laws.FnExactPairRounds': WHATEVER THE INPUT: true; the input reads as it did. -/
def fnExactPairRoundsSpec : ChangeSpec := { name := "fnExactPairRounds", fn := fun _ => fun
  | [d] => { results := [.lit (.bool true)], args := [d] }
  | _ => none }
def fnExactPairRoundsRow : OpenClaim := { program := "ytgcobhnodjfgiaa", sum := "269849231a0e37c2c76eec7a01fb8274bd8a741e6cdacb8d59ee54b546ceffc1", func := "loop.example/g01272/laws.FnExactPairRounds", spec := "fnExactPairRounds", inPlace := ["internal/abi.NoEscape"], unfollowed := true, recurses := true, apart := false }
def FnExactPairRoundsSaid : Prop := fnExactPairRoundsRow.holds Try.pinned (OpenSpec.ofChange fnExactPairRoundsSpec)

/-- ITS FALSE NEIGHBOUR: 'it returns false'. Refute it at one input. -/
def fnExactPairRoundsWrong : ChangeSpec := { name := "fnExactPairRounds", fn := fun _ => fun
  | [d] => { results := [.lit (.bool false)], args := [d] }
  | _ => none }
def FnExactPairRoundsWrongFalsely : Prop := fnExactPairRoundsRow.holds Try.pinned (OpenSpec.ofChange fnExactPairRoundsWrong)

/-- 'laws.FnExactEscortTime': WHATEVER THE INPUT: true; the input reads as it did. -/
def fnExactEscortTimeSpec : ChangeSpec := { name := "fnExactEscortTime", fn := fun _ => fun
  | [d] => { results := [.lit (.bool true)], args := [d] }
  | _ => none }
def fnExactEscortTimeRow : OpenClaim := { program := "ytgcobhnodjfgiaa", sum := "269849231a0e37c2c76eec7a01fb8274bd8a741e6cdacb8d59ee54b546ceffc1", func := "loop.example/g01272/laws.FnExactEscortTime", spec := "fnExactEscortTime", unfollowed := true, recurses := true, apart := false }
def FnExactEscortTimeSaid : Prop := fnExactEscortTimeRow.holds Try.pinned (OpenSpec.ofChange fnExactEscortTimeSpec)

/-- ITS FALSE NEIGHBOUR: 'it returns false'. Refute it at one input. -/
def fnExactEscortTimeWrong : ChangeSpec := { name := "fnExactEscortTime", fn := fun _ => fun
  | [d] => { results := [.lit (.bool false)], args := [d] }
  | _ => none }
def FnExactEscortTimeWrongFalsely : Prop := fnExactEscortTimeRow.holds Try.pinned (OpenSpec.ofChange fnExactEscortTimeWrong)

/-- 'laws.FnExactEscortPlan': WHATEVER THE INPUT: true; the input reads as it did. -/
def fnExactEscortPlanSpec : ChangeSpec := { name := "fnExactEscortPlan", fn := fun _ => fun
  | [d] => { results := [.lit (.bool true)], args := [d] }
  | _ => none }
def fnExactEscortPlanRow : OpenClaim := { program := "ytgcobhnodjfgiaa", sum := "269849231a0e37c2c76eec7a01fb8274bd8a741e6cdacb8d59ee54b546ceffc1", func := "loop.example/g01272/laws.FnExactEscortPlan", spec := "fnExactEscortPlan", unfollowed := true, recurses := true, apart := false }
def FnExactEscortPlanSaid : Prop := fnExactEscortPlanRow.holds Try.pinned (OpenSpec.ofChange fnExactEscortPlanSpec)

/-- ITS FALSE NEIGHBOUR: 'it returns false'. Refute it at one input. -/
def fnExactEscortPlanWrong : ChangeSpec := { name := "fnExactEscortPlan", fn := fun _ => fun
  | [d] => { results := [.lit (.bool false)], args := [d] }
  | _ => none }
def FnExactEscortPlanWrongFalsely : Prop := fnExactEscortPlanRow.holds Try.pinned (OpenSpec.ofChange fnExactEscortPlanWrong)

/-- 'laws.FnExactPairGain': WHATEVER THE INPUT: true; the input reads as it did. -/
def fnExactPairGainSpec : ChangeSpec := { name := "fnExactPairGain", fn := fun _ => fun
  | [d] => { results := [.lit (.bool true)], args := [d] }
  | _ => none }
def fnExactPairGainRow : OpenClaim := { program := "ytgcobhnodjfgiaa", sum := "269849231a0e37c2c76eec7a01fb8274bd8a741e6cdacb8d59ee54b546ceffc1", func := "loop.example/g01272/laws.FnExactPairGain", spec := "fnExactPairGain", unfollowed := true, recurses := true, apart := false }
def FnExactPairGainSaid : Prop := fnExactPairGainRow.holds Try.pinned (OpenSpec.ofChange fnExactPairGainSpec)

/-- ITS FALSE NEIGHBOUR: 'it returns false'. Refute it at one input. -/
def fnExactPairGainWrong : ChangeSpec := { name := "fnExactPairGain", fn := fun _ => fun
  | [d] => { results := [.lit (.bool false)], args := [d] }
  | _ => none }
def FnExactPairGainWrongFalsely : Prop := fnExactPairGainRow.holds Try.pinned (OpenSpec.ofChange fnExactPairGainWrong)

/-- 'laws.FnExactCountFetches': WHATEVER THE INPUT: true; the input reads as it did. -/
def fnExactCountFetchesSpec : ChangeSpec := { name := "fnExactCountFetches", fn := fun _ => fun
  | [d] => { results := [.lit (.bool true)], args := [d] }
  | _ => none }
def fnExactCountFetchesRow : OpenClaim := { program := "ytgcobhnodjfgiaa", sum := "269849231a0e37c2c76eec7a01fb8274bd8a741e6cdacb8d59ee54b546ceffc1", func := "loop.example/g01272/laws.FnExactCountFetches", spec := "fnExactCountFetches", inPlace := ["internal/abi.NoEscape", "internal/bytealg.CountString", "internal/bytealg.IndexByteString", "internal/bytealg.IndexString"], unfollowed := true, recurses := true, named := ["internal/bytealg.MaxLen"], apart := false }
def FnExactCountFetchesSaid : Prop := fnExactCountFetchesRow.holds Try.pinned (OpenSpec.ofChange fnExactCountFetchesSpec)

/-- ITS FALSE NEIGHBOUR: 'it returns false'. Refute it at one input. -/
def fnExactCountFetchesWrong : ChangeSpec := { name := "fnExactCountFetches", fn := fun _ => fun
  | [d] => { results := [.lit (.bool false)], args := [d] }
  | _ => none }
def FnExactCountFetchesWrongFalsely : Prop := fnExactCountFetchesRow.holds Try.pinned (OpenSpec.ofChange fnExactCountFetchesWrong)

/-- 'laws.FnExactHasEvenRound': WHATEVER THE INPUT: true; the input reads as it did. -/
def fnExactHasEvenRoundSpec : ChangeSpec := { name := "fnExactHasEvenRound", fn := fun _ => fun
  | [d] => { results := [.lit (.bool true)], args := [d] }
  | _ => none }
def fnExactHasEvenRoundRow : OpenClaim := { program := "ytgcobhnodjfgiaa", sum := "269849231a0e37c2c76eec7a01fb8274bd8a741e6cdacb8d59ee54b546ceffc1", func := "loop.example/g01272/laws.FnExactHasEvenRound", spec := "fnExactHasEvenRound", unfollowed := true, recurses := true, apart := false }
def FnExactHasEvenRoundSaid : Prop := fnExactHasEvenRoundRow.holds Try.pinned (OpenSpec.ofChange fnExactHasEvenRoundSpec)

/-- ITS FALSE NEIGHBOUR: 'it returns false'. Refute it at one input. -/
def fnExactHasEvenRoundWrong : ChangeSpec := { name := "fnExactHasEvenRound", fn := fun _ => fun
  | [d] => { results := [.lit (.bool false)], args := [d] }
  | _ => none }
def FnExactHasEvenRoundWrongFalsely : Prop := fnExactHasEvenRoundRow.holds Try.pinned (OpenSpec.ofChange fnExactHasEvenRoundWrong)

/-- 'laws.FnExactWhoComesBack': WHATEVER THE INPUT: true; the input reads as it did. -/
def fnExactWhoComesBackSpec : ChangeSpec := { name := "fnExactWhoComesBack", fn := fun _ => fun
  | [d] => { results := [.lit (.bool true)], args := [d] }
  | _ => none }
def fnExactWhoComesBackRow : OpenClaim := { program := "ytgcobhnodjfgiaa", sum := "269849231a0e37c2c76eec7a01fb8274bd8a741e6cdacb8d59ee54b546ceffc1", func := "loop.example/g01272/laws.FnExactWhoComesBack", spec := "fnExactWhoComesBack", unfollowed := true, recurses := true, apart := false }
def FnExactWhoComesBackSaid : Prop := fnExactWhoComesBackRow.holds Try.pinned (OpenSpec.ofChange fnExactWhoComesBackSpec)

/-- ITS FALSE NEIGHBOUR: 'it returns false'. Refute it at one input. -/
def fnExactWhoComesBackWrong : ChangeSpec := { name := "fnExactWhoComesBack", fn := fun _ => fun
  | [d] => { results := [.lit (.bool false)], args := [d] }
  | _ => none }
def FnExactWhoComesBackWrongFalsely : Prop := fnExactWhoComesBackRow.holds Try.pinned (OpenSpec.ofChange fnExactWhoComesBackWrong)

/-- 'laws.FnExactSavedTime': WHATEVER THE INPUT: true; the input reads as it did. -/
def fnExactSavedTimeSpec : ChangeSpec := { name := "fnExactSavedTime", fn := fun _ => fun
  | [d1, d2] => { results := [.lit (.bool true)], args := [d1, d2] }
  | _ => none }
def fnExactSavedTimeRow : OpenClaim := { program := "ytgcobhnodjfgiaa", sum := "269849231a0e37c2c76eec7a01fb8274bd8a741e6cdacb8d59ee54b546ceffc1", func := "loop.example/g01272/laws.FnExactSavedTime", spec := "fnExactSavedTime", unfollowed := true, recurses := true, apart := false }
def FnExactSavedTimeSaid : Prop := fnExactSavedTimeRow.holds Try.pinned (OpenSpec.ofChange fnExactSavedTimeSpec)

/-- ITS FALSE NEIGHBOUR: 'it returns false'. Refute it at one input. -/
def fnExactSavedTimeWrong : ChangeSpec := { name := "fnExactSavedTime", fn := fun _ => fun
  | [d1, d2] => { results := [.lit (.bool false)], args := [d1, d2] }
  | _ => none }
def FnExactSavedTimeWrongFalsely : Prop := fnExactSavedTimeRow.holds Try.pinned (OpenSpec.ofChange fnExactSavedTimeWrong)

/-- 'laws.FnExactRankOfPace': WHATEVER THE INPUT: true; the input reads as it did. -/
def fnExactRankOfPaceSpec : ChangeSpec := { name := "fnExactRankOfPace", fn := fun _ => fun
  | [d] => { results := [.lit (.bool true)], args := [d] }
  | _ => none }
def fnExactRankOfPaceRow : OpenClaim := { program := "ytgcobhnodjfgiaa", sum := "269849231a0e37c2c76eec7a01fb8274bd8a741e6cdacb8d59ee54b546ceffc1", func := "loop.example/g01272/laws.FnExactRankOfPace", spec := "fnExactRankOfPace", unfollowed := true, recurses := true, apart := false }
def FnExactRankOfPaceSaid : Prop := fnExactRankOfPaceRow.holds Try.pinned (OpenSpec.ofChange fnExactRankOfPaceSpec)

/-- ITS FALSE NEIGHBOUR: 'it returns false'. Refute it at one input. -/
def fnExactRankOfPaceWrong : ChangeSpec := { name := "fnExactRankOfPace", fn := fun _ => fun
  | [d] => { results := [.lit (.bool false)], args := [d] }
  | _ => none }
def FnExactRankOfPaceWrongFalsely : Prop := fnExactRankOfPaceRow.holds Try.pinned (OpenSpec.ofChange fnExactRankOfPaceWrong)

/- THE SECOND FORM. 'bulk': how many values and letters a reading holds, each counted each time it is reached (what is shared counts as often as it is met; a slice's spare places count too). A statement '..UptoSaid' is the law's where the arguments, and the package variables that the reading takes, are together of bulk at most 1048576: NARROWER than '..Said'. Prove '..Said' where nothing that the law and all that it calls make is longer than what came in: it says more and counts as full. Else prove '..UptoSaid'. A law counts once. -/
mutual
def uptoBulk {H : Type} : DataW H → Nat
  | .lit (.string bytes) => bytes.length + 1
  | .lit _ => 1
  | .nil => 1
  | .ptr d => uptoBulk d + 1
  | .slice elems spare => uptoBulkAll elems + uptoBulkAll spare + 1
  | .agg parts => uptoBulkAll parts + 1
  | .iface _ d => uptoBulk d + 1
  | .map entries => uptoBulkEntries entries + 1
  | .held _ => 1
def uptoBulkAll {H : Type} : List (DataW H) → Nat
  | [] => 0
  | d :: r => uptoBulk d + uptoBulkAll r
def uptoBulkEntries {H : Type} : List (Lit × DataW H) → Nat
  | [] => 0
  | x :: r => uptoBulkEntry x + uptoBulkEntries r
def uptoBulkEntry {H : Type} : Lit × DataW H → Nat
  | (.string bytes, d) => bytes.length + uptoBulk d + 1
  | (_, d) => uptoBulk d + 1
 end
def uptoSmall : (H : Type) → List (DataW H) → Bool := fun _ ds => decide (uptoBulkAll ds ≤ 1048576)
def OpenSpec.upto (s : _root_.Go.ChangeSpec) : _root_.Go.OpenSpec := { _root_.Go.OpenSpec.ofChange s with cond := some uptoSmall }

/-- 'laws.FnExactTripsOf', WHERE WHAT IT READS IS OF BULK AT MOST 1048576: true; the input reads as it did. -/
def fnExactTripsOfUptoRow : OpenClaim := { program := "ytgcobhnodjfgiaa", sum := "269849231a0e37c2c76eec7a01fb8274bd8a741e6cdacb8d59ee54b546ceffc1", func := "loop.example/g01272/laws.FnExactTripsOf", spec := "fnExactTripsOf", recurses := true, apart := false, narrowed := true }
def FnExactTripsOfUptoSaid : Prop := fnExactTripsOfUptoRow.holds Try.pinned (OpenSpec.upto fnExactTripsOfSpec)

/-- 'laws.FnExactPairTime', WHERE WHAT IT READS IS OF BULK AT MOST 1048576: true; the input reads as it did. -/
def fnExactPairTimeUptoRow : OpenClaim := { program := "ytgcobhnodjfgiaa", sum := "269849231a0e37c2c76eec7a01fb8274bd8a741e6cdacb8d59ee54b546ceffc1", func := "loop.example/g01272/laws.FnExactPairTime", spec := "fnExactPairTime", unfollowed := true, recurses := true, apart := false, narrowed := true }
def FnExactPairTimeUptoSaid : Prop := fnExactPairTimeUptoRow.holds Try.pinned (OpenSpec.upto fnExactPairTimeSpec)

/-- 'laws.FnExactPairPlan', WHERE WHAT IT READS IS OF BULK AT MOST 1048576: true; the input reads as it did. -/
def fnExactPairPlanUptoRow : OpenClaim := { program := "ytgcobhnodjfgiaa", sum := "269849231a0e37c2c76eec7a01fb8274bd8a741e6cdacb8d59ee54b546ceffc1", func := "loop.example/g01272/laws.FnExactPairPlan", spec := "fnExactPairPlan", unfollowed := true, recurses := true, apart := false, narrowed := true }
def FnExactPairPlanUptoSaid : Prop := fnExactPairPlanUptoRow.holds Try.pinned (OpenSpec.upto fnExactPairPlanSpec)

/-- 'laws.FnExactPairRounds', WHERE WHAT IT READS IS OF BULK AT MOST 1048576: true; the input reads as it did. -/
def fnExactPairRoundsUptoRow : OpenClaim := { program := "ytgcobhnodjfgiaa", sum := "269849231a0e37c2c76eec7a01fb8274bd8a741e6cdacb8d59ee54b546ceffc1", func := "loop.example/g01272/laws.FnExactPairRounds", spec := "fnExactPairRounds", inPlace := ["internal/abi.NoEscape"], unfollowed := true, recurses := true, apart := false, narrowed := true }
def FnExactPairRoundsUptoSaid : Prop := fnExactPairRoundsUptoRow.holds Try.pinned (OpenSpec.upto fnExactPairRoundsSpec)

/-- 'laws.FnExactEscortTime', WHERE WHAT IT READS IS OF BULK AT MOST 1048576: true; the input reads as it did. -/
def fnExactEscortTimeUptoRow : OpenClaim := { program := "ytgcobhnodjfgiaa", sum := "269849231a0e37c2c76eec7a01fb8274bd8a741e6cdacb8d59ee54b546ceffc1", func := "loop.example/g01272/laws.FnExactEscortTime", spec := "fnExactEscortTime", unfollowed := true, recurses := true, apart := false, narrowed := true }
def FnExactEscortTimeUptoSaid : Prop := fnExactEscortTimeUptoRow.holds Try.pinned (OpenSpec.upto fnExactEscortTimeSpec)

/-- 'laws.FnExactEscortPlan', WHERE WHAT IT READS IS OF BULK AT MOST 1048576: true; the input reads as it did. -/
def fnExactEscortPlanUptoRow : OpenClaim := { program := "ytgcobhnodjfgiaa", sum := "269849231a0e37c2c76eec7a01fb8274bd8a741e6cdacb8d59ee54b546ceffc1", func := "loop.example/g01272/laws.FnExactEscortPlan", spec := "fnExactEscortPlan", unfollowed := true, recurses := true, apart := false, narrowed := true }
def FnExactEscortPlanUptoSaid : Prop := fnExactEscortPlanUptoRow.holds Try.pinned (OpenSpec.upto fnExactEscortPlanSpec)

/-- 'laws.FnExactPairGain', WHERE WHAT IT READS IS OF BULK AT MOST 1048576: true; the input reads as it did. -/
def fnExactPairGainUptoRow : OpenClaim := { program := "ytgcobhnodjfgiaa", sum := "269849231a0e37c2c76eec7a01fb8274bd8a741e6cdacb8d59ee54b546ceffc1", func := "loop.example/g01272/laws.FnExactPairGain", spec := "fnExactPairGain", unfollowed := true, recurses := true, apart := false, narrowed := true }
def FnExactPairGainUptoSaid : Prop := fnExactPairGainUptoRow.holds Try.pinned (OpenSpec.upto fnExactPairGainSpec)

/-- 'laws.FnExactCountFetches', WHERE WHAT IT READS IS OF BULK AT MOST 1048576: true; the input reads as it did. -/
def fnExactCountFetchesUptoRow : OpenClaim := { program := "ytgcobhnodjfgiaa", sum := "269849231a0e37c2c76eec7a01fb8274bd8a741e6cdacb8d59ee54b546ceffc1", func := "loop.example/g01272/laws.FnExactCountFetches", spec := "fnExactCountFetches", inPlace := ["internal/abi.NoEscape", "internal/bytealg.CountString", "internal/bytealg.IndexByteString", "internal/bytealg.IndexString"], unfollowed := true, recurses := true, named := ["internal/bytealg.MaxLen"], apart := false, narrowed := true }
def FnExactCountFetchesUptoSaid : Prop := fnExactCountFetchesUptoRow.holds Try.pinned (OpenSpec.upto fnExactCountFetchesSpec)

/-- 'laws.FnExactHasEvenRound', WHERE WHAT IT READS IS OF BULK AT MOST 1048576: true; the input reads as it did. -/
def fnExactHasEvenRoundUptoRow : OpenClaim := { program := "ytgcobhnodjfgiaa", sum := "269849231a0e37c2c76eec7a01fb8274bd8a741e6cdacb8d59ee54b546ceffc1", func := "loop.example/g01272/laws.FnExactHasEvenRound", spec := "fnExactHasEvenRound", unfollowed := true, recurses := true, apart := false, narrowed := true }
def FnExactHasEvenRoundUptoSaid : Prop := fnExactHasEvenRoundUptoRow.holds Try.pinned (OpenSpec.upto fnExactHasEvenRoundSpec)

/-- 'laws.FnExactWhoComesBack', WHERE WHAT IT READS IS OF BULK AT MOST 1048576: true; the input reads as it did. -/
def fnExactWhoComesBackUptoRow : OpenClaim := { program := "ytgcobhnodjfgiaa", sum := "269849231a0e37c2c76eec7a01fb8274bd8a741e6cdacb8d59ee54b546ceffc1", func := "loop.example/g01272/laws.FnExactWhoComesBack", spec := "fnExactWhoComesBack", unfollowed := true, recurses := true, apart := false, narrowed := true }
def FnExactWhoComesBackUptoSaid : Prop := fnExactWhoComesBackUptoRow.holds Try.pinned (OpenSpec.upto fnExactWhoComesBackSpec)

/-- 'laws.FnExactSavedTime', WHERE WHAT IT READS IS OF BULK AT MOST 1048576: true; the input reads as it did. -/
def fnExactSavedTimeUptoRow : OpenClaim := { program := "ytgcobhnodjfgiaa", sum := "269849231a0e37c2c76eec7a01fb8274bd8a741e6cdacb8d59ee54b546ceffc1", func := "loop.example/g01272/laws.FnExactSavedTime", spec := "fnExactSavedTime", unfollowed := true, recurses := true, apart := false, narrowed := true }
def FnExactSavedTimeUptoSaid : Prop := fnExactSavedTimeUptoRow.holds Try.pinned (OpenSpec.upto fnExactSavedTimeSpec)

/-- 'laws.FnExactRankOfPace', WHERE WHAT IT READS IS OF BULK AT MOST 1048576: true; the input reads as it did. -/
def fnExactRankOfPaceUptoRow : OpenClaim := { program := "ytgcobhnodjfgiaa", sum := "269849231a0e37c2c76eec7a01fb8274bd8a741e6cdacb8d59ee54b546ceffc1", func := "loop.example/g01272/laws.FnExactRankOfPace", spec := "fnExactRankOfPace", unfollowed := true, recurses := true, apart := false, narrowed := true }
def FnExactRankOfPaceUptoSaid : Prop := fnExactRankOfPaceUptoRow.holds Try.pinned (OpenSpec.upto fnExactRankOfPaceSpec)

end Rows
end Go.Proofs.Ytgcobhnodjfgiaa
