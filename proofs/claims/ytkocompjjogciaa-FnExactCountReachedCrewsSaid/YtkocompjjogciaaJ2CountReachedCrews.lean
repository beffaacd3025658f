/-
  What is proved: three closed facts on the head of this seat's translation (how its program was cut), word by word. Conditions: none.
  What is proved: places of a company, told by the numbers of their states, as keys of a map. Conditions: at most four couples.
  What is proved: plain facts on a company's search by a queue over the numbers of states, as the program goes. Conditions: at most four couples.
  What is proved: a company's searches from the first state and from the last one come to an end. Conditions: at most four couples and four seats.
  What is proved: what the program's search over a company's river keeps, and how it goes over from one world to the next. Conditions: as each says.
  What is proved: the contract of the program's search (movesApart) over a company's river: at its end each state that is reached has the number of the rows that lead there. Conditions: there is a company; the search begins at the first or the last state.
  What is proved: plain facts on a crew's search by a queue over the numbers of states, as the program goes: its queue is empty in the end, and it tells the least numbers of rides. Conditions: at most eight people; the rides are rising lists of them.
  What is proved: what the program's search over a crew's river keeps, and how it goes over from one world to the next. Conditions: as each says.
  What is proved: the contract of the program's search (movesApart) over a crew's river: at its end each state that is reached has the number of the rides that lead there. Conditions: at most eight people; the rides are rising lists of them.
  What is proved: contracts of the program's fewest rows of a company, its count of the states that are reached, and its seats for couples. Conditions: none.
  What is proved: how a law's arguments, as they come in, are opened: a list of numbers, a party. Conditions: none beyond the reading itself.
  What is proved: how further arguments of a law, as they come in, are opened: a number, a list of lists of numbers. Conditions: none beyond the reading itself.
  What is proved: how a crew among a law's arguments, as it comes in, is opened. Conditions: none beyond the reading itself.
  What is proved: plain facts on numbers of states of eight bits, beside the model's numbers of them. Conditions: as each says.
  What is proved: a contract of the program's CountReachedCrews. Conditions: the arguments are read as they lie.
  What is proved: plain facts on the model's queue of a crew's states, beside the program's search: the same states in the same order. Conditions: at most seven people.
  What is proved: the contract of the model's number of a crew's first state. Conditions: at most eight people.
  What is proved: a contract of the model's CountReachedCrews. Conditions: the arguments are read as they lie.
  What is proved: the law FnExactCountReachedCrews returns true at every argument, and leaves all that was there as it was. Conditions: the arguments are read as they lie.
-/
import Derived.Test.YtkocompjjogciaaRows
import Derived.JoinedOf
import Derived.KernelRfl
import Derived.DeepKeys4
import Derived.Deep.LoopGhost
import Derived.WalkKit
import Derived.ProofKit
import Derived.OpenShut
import Derived.ChangeOld
import Derived.Below
import Derived.Lib.SmallJoins
import Derived.Deep.Slices
import Derived.Deep.Grids
import Derived.Deep.Matrix
import Derived.Deep.DeepCutAuto
import Derived.Deep.RegionHeld3
import Derived.Test.YtkocompjjogciaaJ1CountReachedCrews
set_option linter.unusedSimpArgs false
set_option linter.unusedVariables false
namespace Go.Proofs.Ytkocompjjogciaa.enter
open Go

theorem skip (p r : List Char) (h : p.all (fun c => c.toNat != 32) = true) : wordsSigns (p ++ Char.ofNat 32 :: r) = p :: wordsSigns r := by
  induction p with
  | nil => rfl
  | cons c p ih =>
    simp only [List.all_cons, Bool.and_eq_true] at h
    have hc : c ≠ Char.ofNat 32 := by rintro rfl; simp at h
    rw [List.cons_append, wordsSigns, ih h.2]
    exact hc

def word0 : List Char := [Char.ofNat 104, Char.ofNat 97, Char.ofNat 114, Char.ofNat 110, Char.ofNat 101, Char.ofNat 115, Char.ofNat 115]
def word1 : List Char := [Char.ofNat 99, Char.ofNat 56, Char.ofNat 48, Char.ofNat 52, Char.ofNat 53, Char.ofNat 48, Char.ofNat 52, Char.ofNat 98, Char.ofNat 57, Char.ofNat 56, Char.ofNat 52, Char.ofNat 48, Char.ofNat 99, Char.ofNat 48, Char.ofNat 99, Char.ofNat 55, Char.ofNat 56, Char.ofNat 53, Char.ofNat 51, Char.ofNat 101, Char.ofNat 100, Char.ofNat 54, Char.ofNat 49, Char.ofNat 100, Char.ofNat 51, Char.ofNat 50, Char.ofNat 98, Char.ofNat 53, Char.ofNat 52, Char.ofNat 101, Char.ofNat 102, Char.ofNat 99, Char.ofNat 57, Char.ofNat 55, Char.ofNat 56, Char.ofNat 57, Char.ofNat 98, Char.ofNat 51, Char.ofNat 101, Char.ofNat 56, Char.ofNat 99, Char.ofNat 55, Char.ofNat 48, Char.ofNat 57, Char.ofNat 53, Char.ofNat 56, Char.ofNat 56, Char.ofNat 56, Char.ofNat 48, Char.ofNat 53, Char.ofNat 55, Char.ofNat 101, Char.ofNat 102, Char.ofNat 54, Char.ofNat 100, Char.ofNat 100, Char.ofNat 54, Char.ofNat 55, Char.ofNat 57, Char.ofNat 53, Char.ofNat 56, Char.ofNat 100, Char.ofNat 49, Char.ofNat 52]
def word2 : List Char := [Char.ofNat 99, Char.ofNat 117, Char.ofNat 116]
def tail0 : List Char := [Char.ofNat 97, Char.ofNat 116, Char.ofNat 32, Char.ofNat 108, Char.ofNat 111, Char.ofNat 111, Char.ofNat 112, Char.ofNat 46, Char.ofNat 101, Char.ofNat 120, Char.ofNat 97, Char.ofNat 109, Char.ofNat 112, Char.ofNat 108, Char.ofNat 101, Char.ofNat 47, Char.ofNat 103, Char.ofNat 48, Char.ofNat 49, Char.ofNat 50, Char.ofNat 55, Char.ofNat 50, Char.ofNat 47, Char.ofNat 108, Char.ofNat 97, Char.ofNat 119, Char.ofNat 115, Char.ofNat 46, Char.ofNat 70, Char.ofNat 110, Char.ofNat 69, Char.ofNat 120, Char.ofNat 97, Char.ofNat 99, Char.ofNat 116, Char.ofNat 73, Char.ofNat 115, Char.ofNat 68, Char.ofNat 101, Char.ofNat 115, Char.ofNat 107, Char.ofNat 32, Char.ofNat 108, Char.ofNat 111, Char.ofNat 111, Char.ofNat 112, Char.ofNat 46, Char.ofNat 101, Char.ofNat 120, Char.ofNat 97, Char.ofNat 109, Char.ofNat 112, Char.ofNat 108, Char.ofNat 101, Char.ofNat 47, Char.ofNat 103, Char.ofNat 48, Char.ofNat 49, Char.ofNat 50, Char.ofNat 55, Char.ofNat 50, Char.ofNat 47, Char.ofNat 108, Char.ofNat 97, Char.ofNat 119, Char.ofNat 115, Char.ofNat 46, Char.ofNat 70, Char.ofNat 110, Char.ofNat 69, Char.ofNat 120, Char.ofNat 97, Char.ofNat 99, Char.ofNat 116, Char.ofNat 82, Char.ofNat 105, Char.ofNat 100, Char.ofNat 101, Char.ofNat 115, Char.ofNat 79, Char.ofNat 102, Char.ofNat 67, Char.ofNat 114, Char.ofNat 101, Char.ofNat 119, Char.ofNat 32, Char.ofNat 108, Char.ofNat 111, Char.ofNat 111, Char.ofNat 112, Char.ofNat 46, Char.ofNat 101, Char.ofNat 120, Char.ofNat 97, Char.ofNat 109, Char.ofNat 112, Char.ofNat 108, Char.ofNat 101, Char.ofNat 47, Char.ofNat 103, Char.ofNat 48, Char.ofNat 49, Char.ofNat 50, Char.ofNat 55, Char.ofNat 50, Char.ofNat 47, Char.ofNat 108, Char.ofNat 97, Char.ofNat 119, Char.ofNat 115, Char.ofNat 46, Char.ofNat 70, Char.ofNat 110, Char.ofNat 69, Char.ofNat 120, Char.ofNat 97, Char.ofNat 99, Char.ofNat 116, Char.ofNat 82, Char.ofNat 105]
def tail1 : List Char := [Char.ofNat 100, Char.ofNat 101, Char.ofNat 87, Char.ofNat 105, Char.ofNat 116, Char.ofNat 104, Char.ofNat 67, Char.ofNat 114, Char.ofNat 101, Char.ofNat 119, Char.ofNat 32, Char.ofNat 108, Char.ofNat 111, Char.ofNat 111, Char.ofNat 112, Char.ofNat 46, Char.ofNat 101, Char.ofNat 120, Char.ofNat 97, Char.ofNat 109, Char.ofNat 112, Char.ofNat 108, Char.ofNat 101, Char.ofNat 47, Char.ofNat 103, Char.ofNat 48, Char.ofNat 49, Char.ofNat 50, Char.ofNat 55, Char.ofNat 50, Char.ofNat 47, Char.ofNat 108, Char.ofNat 97, Char.ofNat 119, Char.ofNat 115, Char.ofNat 46, Char.ofNat 70, Char.ofNat 110, Char.ofNat 69, Char.ofNat 120, Char.ofNat 97, Char.ofNat 99, Char.ofNat 116, Char.ofNat 70, Char.ofNat 101, Char.ofNat 119, Char.ofNat 101, Char.ofNat 115, Char.ofNat 116, Char.ofNat 79, Char.ofNat 102, Char.ofNat 67, Char.ofNat 114, Char.ofNat 101, Char.ofNat 119, Char.ofNat 32, Char.ofNat 108, Char.ofNat 111, Char.ofNat 111, Char.ofNat 112, Char.ofNat 46, Char.ofNat 101, Char.ofNat 120, Char.ofNat 97, Char.ofNat 109, Char.ofNat 112, Char.ofNat 108, Char.ofNat 101, Char.ofNat 47, Char.ofNat 103, Char.ofNat 48, Char.ofNat 49, Char.ofNat 50, Char.ofNat 55, Char.ofNat 50, Char.ofNat 47, Char.ofNat 108, Char.ofNat 97, Char.ofNat 119, Char.ofNat 115, Char.ofNat 46, Char.ofNat 70, Char.ofNat 110, Char.ofNat 69, Char.ofNat 120, Char.ofNat 97, Char.ofNat 99, Char.ofNat 116, Char.ofNat 70, Char.ofNat 105, Char.ofNat 114, Char.ofNat 115, Char.ofNat 116, Char.ofNat 79, Char.ofNat 102, Char.ofNat 67, Char.ofNat 114, Char.ofNat 101, Char.ofNat 119, Char.ofNat 32, Char.ofNat 108, Char.ofNat 111, Char.ofNat 111, Char.ofNat 112, Char.ofNat 46, Char.ofNat 101, Char.ofNat 120, Char.ofNat 97, Char.ofNat 109, Char.ofNat 112, Char.ofNat 108, Char.ofNat 101, Char.ofNat 47, Char.ofNat 103, Char.ofNat 48, Char.ofNat 49, Char.ofNat 50, Char.ofNat 55, Char.ofNat 50, Char.ofNat 47]
def tail2 : List Char := [Char.ofNat 108, Char.ofNat 97, Char.ofNat 119, Char.ofNat 115, Char.ofNat 46, Char.ofNat 70, Char.ofNat 110, Char.ofNat 69, Char.ofNat 120, Char.ofNat 97, Char.ofNat 99, Char.ofNat 116, Char.ofNat 76, Char.ofNat 101, Char.ofNat 97, Char.ofNat 115, Char.ofNat 116, Char.ofNat 77, Char.ofNat 111, Char.ofNat 115, Char.ofNat 116, Char.ofNat 32, Char.ofNat 108, Char.ofNat 111, Char.ofNat 111, Char.ofNat 112, Char.ofNat 46, Char.ofNat 101, Char.ofNat 120, Char.ofNat 97, Char.ofNat 109, Char.ofNat 112, Char.ofNat 108, Char.ofNat 101, Char.ofNat 47, Char.ofNat 103, Char.ofNat 48, Char.ofNat 49, Char.ofNat 50, Char.ofNat 55, Char.ofNat 50, Char.ofNat 47, Char.ofNat 108, Char.ofNat 97, Char.ofNat 119, Char.ofNat 115, Char.ofNat 46, Char.ofNat 70, Char.ofNat 110, Char.ofNat 69, Char.ofNat 120, Char.ofNat 97, Char.ofNat 99, Char.ofNat 116, Char.ofNat 73, Char.ofNat 115, Char.ofNat 67, Char.ofNat 114, Char.ofNat 101, Char.ofNat 119, Char.ofNat 80, Char.ofNat 108, Char.ofNat 97, Char.ofNat 110, Char.ofNat 32, Char.ofNat 108, Char.ofNat 111, Char.ofNat 111, Char.ofNat 112, Char.ofNat 46, Char.ofNat 101, Char.ofNat 120, Char.ofNat 97, Char.ofNat 109, Char.ofNat 112, Char.ofNat 108, Char.ofNat 101, Char.ofNat 47, Char.ofNat 103, Char.ofNat 48, Char.ofNat 49, Char.ofNat 50, Char.ofNat 55, Char.ofNat 50, Char.ofNat 47, Char.ofNat 108, Char.ofNat 97, Char.ofNat 119, Char.ofNat 115, Char.ofNat 46, Char.ofNat 70, Char.ofNat 110, Char.ofNat 69, Char.ofNat 120, Char.ofNat 97, Char.ofNat 99, Char.ofNat 116, Char.ofNat 78, Char.ofNat 101, Char.ofNat 101, Char.ofNat 100, Char.ofNat 101, Char.ofNat 100, Char.ofNat 82, Char.ofNat 111, Char.ofNat 119, Char.ofNat 101, Char.ofNat 114, Char.ofNat 115, Char.ofNat 32, Char.ofNat 108, Char.ofNat 111, Char.ofNat 111, Char.ofNat 112, Char.ofNat 46, Char.ofNat 101, Char.ofNat 120, Char.ofNat 97, Char.ofNat 109, Char.ofNat 112]
def tail3 : List Char := [Char.ofNat 108, Char.ofNat 101, Char.ofNat 47, Char.ofNat 103, Char.ofNat 48, Char.ofNat 49, Char.ofNat 50, Char.ofNat 55, Char.ofNat 50, Char.ofNat 47, Char.ofNat 108, Char.ofNat 97, Char.ofNat 119, Char.ofNat 115, Char.ofNat 46, Char.ofNat 70, Char.ofNat 110, Char.ofNat 69, Char.ofNat 120, Char.ofNat 97, Char.ofNat 99, Char.ofNat 116, Char.ofNat 67, Char.ofNat 111, Char.ofNat 117, Char.ofNat 110, Char.ofNat 116, Char.ofNat 82, Char.ofNat 101, Char.ofNat 97, Char.ofNat 99, Char.ofNat 104, Char.ofNat 101, Char.ofNat 100, Char.ofNat 67, Char.ofNat 114, Char.ofNat 101, Char.ofNat 119, Char.ofNat 115, Char.ofNat 32, Char.ofNat 108, Char.ofNat 111, Char.ofNat 111, Char.ofNat 112, Char.ofNat 46, Char.ofNat 101, Char.ofNat 120, Char.ofNat 97, Char.ofNat 109, Char.ofNat 112, Char.ofNat 108, Char.ofNat 101, Char.ofNat 47, Char.ofNat 103, Char.ofNat 48, Char.ofNat 49, Char.ofNat 50, Char.ofNat 55, Char.ofNat 50, Char.ofNat 47, Char.ofNat 108, Char.ofNat 97, Char.ofNat 119, Char.ofNat 115, Char.ofNat 46, Char.ofNat 70, Char.ofNat 110, Char.ofNat 69, Char.ofNat 120, Char.ofNat 97, Char.ofNat 99, Char.ofNat 116, Char.ofNat 65, Char.ofNat 100, Char.ofNat 100, Char.ofNat 67, Char.ofNat 108, Char.ofNat 117, Char.ofNat 101, Char.ofNat 32, Char.ofNat 108, Char.ofNat 111, Char.ofNat 111, Char.ofNat 112, Char.ofNat 46, Char.ofNat 101, Char.ofNat 120, Char.ofNat 97, Char.ofNat 109, Char.ofNat 112, Char.ofNat 108, Char.ofNat 101, Char.ofNat 47, Char.ofNat 103, Char.ofNat 48, Char.ofNat 49, Char.ofNat 50, Char.ofNat 55, Char.ofNat 50, Char.ofNat 47, Char.ofNat 108, Char.ofNat 97, Char.ofNat 119, Char.ofNat 115, Char.ofNat 46, Char.ofNat 70, Char.ofNat 110, Char.ofNat 69, Char.ofNat 120, Char.ofNat 97, Char.ofNat 99, Char.ofNat 116, Char.ofNat 72, Char.ofNat 97, Char.ofNat 114, Char.ofNat 100, Char.ofNat 101, Char.ofNat 114, Char.ofNat 80, Char.ofNat 117]
def tail4 : List Char := [Char.ofNat 122, Char.ofNat 122, Char.ofNat 108, Char.ofNat 101, Char.ofNat 32, Char.ofNat 108, Char.ofNat 111, Char.ofNat 111, Char.ofNat 112, Char.ofNat 46, Char.ofNat 101, Char.ofNat 120, Char.ofNat 97, Char.ofNat 109, Char.ofNat 112, Char.ofNat 108, Char.ofNat 101, Char.ofNat 47, Char.ofNat 103, Char.ofNat 48, Char.ofNat 49, Char.ofNat 50, Char.ofNat 55, Char.ofNat 50, Char.ofNat 47, Char.ofNat 108, Char.ofNat 97, Char.ofNat 119, Char.ofNat 115, Char.ofNat 46, Char.ofNat 70, Char.ofNat 110, Char.ofNat 69, Char.ofNat 120, Char.ofNat 97, Char.ofNat 99, Char.ofNat 116, Char.ofNat 77, Char.ofNat 97, Char.ofNat 107, Char.ofNat 101, Char.ofNat 80, Char.ofNat 117, Char.ofNat 122, Char.ofNat 122, Char.ofNat 108, Char.ofNat 101]
def tail : List Char := tail0 ++ (tail1 ++ (tail2 ++ (tail3 ++ (tail4))))

theorem whole : Try.prog.initOrder = String.ofList (word0 ++ Char.ofNat 32 :: (word1 ++ Char.ofNat 32 :: (word2 ++ Char.ofNat 32 :: tail))) := by kernel_rfl
theorem behind (ws : List (List Char)) : behindMainWord (word0 :: word1 :: word2 :: ws) = word2 :: ws := by kernel_rfl
theorem words : ∃ ws, behindMainWord (wordsSigns Try.prog.initOrder.toList) = word2 :: ws := by
  refine ⟨wordsSigns tail, ?_⟩
  rw [whole, String.toList_ofList, skip _ _ (by kernel_rfl), skip _ _ (by kernel_rfl), skip _ _ (by kernel_rfl), behind]

theorem lays : Try.prog.laysLater = false := by kernel_rfl
theorem reflects : Try.prog.bearsReflect = false := by kernel_rfl
theorem door : Try.prog.doorFits [] = true := by kernel_rfl
theorem strip (ws : List (List Char)) : stripLifts liftWords (word2 :: ws) = ([], word2 :: ws) := by kernel_rfl
theorem noGc : (word2 == "gc".toList) = false := by kernel_rfl
theorem noSpec : (word2 == "spec".toList) = false := by kernel_rfl
theorem noCarried : (word2 == "carried".toList) = false := by kernel_rfl

theorem mayEnter_of (P : Program) (ws : List (List Char)) (h : behindMainWord (wordsSigns P.initOrder.toList) = word2 :: ws) (h1 : P.laysLater = false) (h2 : P.bearsReflect = false) (h3 : P.doorFits [] = true) : P.mayEnter = true := by
  unfold Program.mayEnter
  rw [h]
  simp only [strip, noGc, noSpec, noCarried, h1, h2, h3]
  kernel_rfl
theorem headLifts_of (P : Program) (ws : List (List Char)) (h : behindMainWord (wordsSigns P.initOrder.toList) = word2 :: ws) : P.headLifts = [] := by
  unfold Program.headLifts
  rw [h]
  simp only [strip]
  kernel_rfl
theorem liftsFinal_of (P : Program) (ws : List (List Char)) (h : behindMainWord (wordsSigns P.initOrder.toList) = word2 :: ws) : P.liftsFinal = false := by
  unfold Program.liftsFinal
  rw [headLifts_of P ws h, h]
  kernel_rfl
theorem make_of (P : Program) (ws : List (List Char)) (h : behindMainWord (wordsSigns P.initOrder.toList) = word2 :: ws) : P.make = some .cut := by
  unfold Program.make
  rw [headLifts_of P ws h, h]
  kernel_rfl
theorem mayEnter : Try.prog.mayEnter = true := words.elim fun ws h => mayEnter_of _ ws h lays reflects door
theorem liftsFinal : Try.prog.liftsFinal = false := words.elim fun ws h => liftsFinal_of _ ws h
theorem make : Try.prog.make = some .cut := words.elim fun ws h => make_of _ ws h
theorem laid : laidOutB Try.prog = true := by kernel_rfl
theorem rowed : mapsRowed Try.prog = true := by kernel_rfl
theorem heard : Try.prog.stopsHeard = true := by kernel_rfl
theorem keys : Try.prog.plainKeys = false := by kernel_rfl
end Go.Proofs.Ytkocompjjogciaa.enter

namespace Go.Proofs.Ytkocompjjogciaa
open Go.RowKit Go.Maps Go.WideShapes

/-- The cells of the place with a state's number. -/
def pf (k x i : Nat) : Bool := (bitsOf (x / 2) (2 * k)).getD i false
def pt (x : Nat) : Bool := bitAt x 0
def plcC (k x : Nat) : Array Value := place9 (pf k x) (pt x)
def plc (k x : Nat) : Value := .agg (plcC k x)
theorem law_place : Keyed Try.prog 113 :=
  Keyed.of_law (deep_law_laid (m := 40) (by kernel_rfl) (by decide) (of_decide_eq_true (by kernel_rfl)) (by kernel_rfl) (by kernel_rfl))
theorem place_some : ∀ b0 b1 b2 b3 b4 b5 b6 b7 b8 : Bool, (keyOf Try.prog 113 (.agg #[.bool b0, .bool b1, .bool b2, .bool b3, .bool b4, .bool b5, .bool b6, .bool b7, .bool b8])).isSome = true := by decide +kernel
noncomputable def plcL (k x : Nat) : Lit := (keyOf Try.prog 113 (plc k x)).getD (.bool false)
theorem plc_reads (k x : Nat) : keyOf Try.prog 113 (plc k x) = some (plcL k x) := by
  have h := place_some ((bitsOf (x / 2) (2 * k)).getD 0 false) ((bitsOf (x / 2) (2 * k)).getD 1 false) ((bitsOf (x / 2) (2 * k)).getD 2 false) ((bitsOf (x / 2) (2 * k)).getD 3 false) ((bitsOf (x / 2) (2 * k)).getD 4 false) ((bitsOf (x / 2) (2 * k)).getD 5 false) ((bitsOf (x / 2) (2 * k)).getD 6 false) ((bitsOf (x / 2) (2 * k)).getD 7 false) (bitAt x 0)
  obtain ⟨l, hl⟩ := Option.isSome_iff_exists.1 h
  have h2 : keyOf Try.prog 113 (plc k x) = some l := hl
  rw [plcL, h2]
  rfl
/-- How many states' numbers there are. -/
def sts (k : Nat) : List Nat := List.range (2 * 2 ^ (2 * k))
def unplc : Value → Nat
  | .agg cs => match cs.toList with
    | [.bool a, .bool b, .bool c, .bool d, .bool e, .bool f, .bool g, .bool h, .bool t] => 2 * (a.toNat + 2 * b.toNat + 4 * c.toNat + 8 * d.toNat + 16 * e.toNat + 32 * f.toNat + 64 * g.toNat + 128 * h.toNat) + t.toNat
    | _ => 0
  | _ => 0
theorem unplc_all : (List.range 5).all (fun k => (sts k).all fun x => unplc (plc k x) == x) = true := by decide +kernel
theorem unplc_plc {k x : Nat} (hk : k ≤ 4) (hx : x ∈ sts k) : unplc (plc k x) = x := by
  have h := List.all_eq_true.1 unplc_all k (List.mem_range.2 (by omega))
  simpa using List.all_eq_true.1 h x hx
theorem place_keys {k : Nat} (hk : k ≤ 4) : KeyT Try.prog 113 (plc k) (plcL k) (sts k) where
  law := law_place
  reads := fun a _ => plc_reads k a
  inj := fun a ha b hb h => by
    have e : plc k a = plc k b := law_place.inj (plc_reads k a) (by rw [h]; exact plc_reads k b)
    rw [← unplc_plc hk ha, e, unplc_plc hk hb]
theorem sts_len {k : Nat} (hk : k ≤ 4) : (sts k).length < maxLen := by
  have h : 2 ^ (2 * k) ≤ 2 ^ 8 := Nat.pow_le_pow_right (by omega) (by omega)
  rw [sts, List.length_range]
  unfold maxLen
  omega
theorem sts_nodup (k : Nat) : (sts k).Nodup := List.nodup_range
end Go.Proofs.Ytkocompjjogciaa

namespace Go.Proofs.Ytkocompjjogciaa
open Go.RowKit

/-- The rows in the state with a number. -/
def mvs (k q x : Nat) : List (List Int) := rowsIn k q (bitsOf (x / 2) (2 * k)) (bitAt x 0)
/-- What is told so far: how far each state is that was reached, the newest first; and what waits. -/
abbrev SeaSt := List (Nat × Int) × List Nat
noncomputable def stepP (x : Nat) (st : SeaSt) (l : List Int) : SeaSt := match lk st.1 (stepC x l) with
  | some _ => st
  | none => ((stepC x l, (lk st.1 x).getD 0 + 1) :: st.1, st.2 ++ [stepC x l])
noncomputable def expJ (x : Nat) (ls : List (List Int)) (st : SeaSt) (j : Nat) : SeaSt := (ls.take j).foldl (stepP x) st
noncomputable def expP (k q x : Nat) (st : SeaSt) : SeaSt := (mvs k q x).foldl (stepP x) st
noncomputable def nextP (k q : Nat) (st : SeaSt) : SeaSt := match st.2 with
  | [] => st
  | x :: _ => ((expP k q x st).1, (expP k q x st).2.tail)
noncomputable def runP (k q src : Nat) : Nat → SeaSt
  | 0 => ([(src, 0)], [src])
  | n + 1 => nextP k q (runP k q src n)
theorem stepP_some {x : Nat} {st : SeaSt} {l : List Int} {v : Int} (h : lk st.1 (stepC x l) = some v) : stepP x st l = st := by simp [stepP, h]
theorem stepP_none {x : Nat} {st : SeaSt} {l : List Int} (h : lk st.1 (stepC x l) = none) : stepP x st l = ((stepC x l, (lk st.1 x).getD 0 + 1) :: st.1, st.2 ++ [stepC x l]) := by simp [stepP, h]
theorem expJ_zero (x : Nat) (ls : List (List Int)) (st : SeaSt) : expJ x ls st 0 = st := rfl
theorem expJ_next {x : Nat} {ls : List (List Int)} {st : SeaSt} {j : Nat} (hj : j < ls.length) : expJ x ls st (j + 1) = stepP x (expJ x ls st j) ls[j] := by
  rw [expJ, List.take_succ_eq_append_getElem hj, List.foldl_append]; rfl
theorem expJ_all (k q x : Nat) (st : SeaSt) : expJ x (mvs k q x) st (mvs k q x).length = expP k q x st := by rw [expJ, List.take_length]; rfl
theorem runP_next (k q src n : Nat) : runP k q src (n + 1) = nextP k q (runP k q src n) := rfl
theorem nextP_at {k q x : Nat} {st : SeaSt} {r : List Nat} (h : st.2 = x :: r) : nextP k q st = ((expP k q x st).1, (expP k q x st).2.tail) := by simp [nextP, h]

theorem nextP_nil {k q : Nat} {st : SeaSt} (h : st.2 = []) : nextP k q st = st := by simp [nextP, h]
theorem run_stay {k q src n : Nat} (h : (runP k q src n).2 = []) : ∀ m, runP k q src (n + m) = runP k q src n
  | 0 => rfl
  | m + 1 => by rw [← Nat.add_assoc, runP_next, run_stay h m, nextP_nil h]

/-- All is within bounds. -/
structure Mild' (k b : Nat) (st : SeaSt) : Prop where
  val : ∀ p ∈ st.1, 0 ≤ p.2 ∧ p.2 ≤ b
  dom : ∀ y ∈ st.2, y ∈ sts k
  len : st.2.length ≤ b
theorem Mild'.mono {k b c : Nat} {st : SeaSt} (h : Mild' k b st) (hb : b ≤ c) : Mild' k c st := ⟨fun p hp => ⟨(h.val p hp).1, by have := (h.val p hp).2; omega⟩, h.dom, by have := h.len; omega⟩
theorem Mild'.at_ {k b : Nat} {st : SeaSt} (h : Mild' k b st) (x : Nat) : 0 ≤ (lk st.1 x).getD 0 ∧ (lk st.1 x).getD 0 ≤ b := by
  cases hx : lk st.1 x with
  | none => simp
  | some v => exact h.val _ (lk_mem hx)
theorem Mild'.step {k b x : Nat} {st : SeaSt} {l : List Int} (h : Mild' k b st) (hy : stepC x l ∈ sts k) : Mild' k (b + 1) (stepP x st l) := by
  cases hq : lk st.1 (stepC x l) with
  | some v => rw [stepP_some hq]; exact h.mono (by omega)
  | none =>
    rw [stepP_none hq]
    have h2 := h.at_ x
    refine ⟨fun p hp => ?_, fun y hm => ?_, ?_⟩
    · rcases List.mem_cons.1 hp with rfl | hp
      · exact ⟨by show 0 ≤ _ + 1; omega, by show _ + 1 ≤ _; omega⟩
      · have := h.val p hp; omega
    · rcases List.mem_append.1 hm with hm | hm
      · exact h.dom y hm
      · obtain rfl : y = stepC x l := by simpa using hm
        exact hy
    · simp; exact h.len
theorem Mild'.exp {k b x : Nat} {st : SeaSt} (h : Mild' k b st) : ∀ (ls : List (List Int)), (∀ l ∈ ls, stepC x l ∈ sts k) → Mild' k (b + ls.length) (ls.foldl (stepP x) st)
  | [], _ => h
  | l :: ls, hl => by
    have h1 := Mild'.exp (h.step (hl l (by simp))) ls (fun m hm => hl m (by simp [hm]))
    rw [List.length_cons, show b + (ls.length + 1) = b + 1 + ls.length by omega]
    exact h1
theorem sts_mem {k x : Nat} : x ∈ sts k ↔ x < 2 * 2 ^ (2 * k) := List.mem_range
theorem code_of_num {k x : Nat} (hx : x ∈ sts k) : codeOf (bitsOf (x / 2) (2 * k)) (bitAt x 0) = x := by
  have hx' := sts_mem.1 hx
  refine nat_bits fun i => ?_
  rw [bit_code, bitsOf_len]
  by_cases h0 : i = 0
  · subst h0; simp
  · rw [if_neg h0]
    obtain ⟨j, rfl⟩ : ∃ j, i = j + 1 := ⟨i - 1, by omega⟩
    rw [Nat.add_sub_cancel, ← bit_half]
    by_cases hj : j < 2 * k
    · simp [bitsOf, hj]
    · have hlt : x / 2 < 2 ^ j := Nat.lt_of_lt_of_le (show x / 2 < 2 ^ (2 * k) by omega) (Nat.pow_le_pow_right (by omega) (by omega))
      have hz : bitAt (x / 2) j = false := by unfold bitAt; exact Nat.testBit_lt_two_pow hlt
      rw [hz]; simp [hj]
/-- The place behind a row. -/
theorem plc_step {k q x : Nat} {l : List Int} (hx : x ∈ sts k) (hl : l ∈ mvs k q x) : placeCells (flipped (bitsOf (x / 2) (2 * k)) l) (!bitAt x 0) = plcC k (stepC x l) ∧ stepC x l ∈ sts k := by
  have hb := bitsOf_len (x / 2) (2 * k)
  have h1 := step_code (t := bitAt x 0) hb (fun y hy => rows_bound hl y hy)
  rw [code_of_num hx] at h1
  have hfl : (flipped (bitsOf (x / 2) (2 * k)) l).length = 2 * k := by rw [flipped_len, hb]
  refine ⟨by rw [show plcC k (stepC x l) = placeCells (bitsOf (stepC x l / 2) (2 * k)) (bitAt (stepC x l) 0) from rfl, h1, bits_back hfl, torch_back], ?_⟩
  rw [sts_mem, h1]
  have h2 := code_lt (flipped (bitsOf (x / 2) (2 * k)) l) (!bitAt x 0)
  rw [hfl] at h2
  omega
theorem mvs_len (k q x : Nat) (hk : k ≤ 4) : (mvs k q x).length ≤ 255 := Nat.le_trans (among_len _ _ _ _) (groups_small hk)
theorem Mild'.run {k q src : Nat} (hk : k ≤ 4) (hs : src ∈ sts k) : ∀ n, Mild' k (256 * n + 1) (runP k q src n)
  | 0 => ⟨fun p hp => by obtain rfl : p = (src, 0) := by simpa [runP] using hp
                         simp, fun y hy => by obtain rfl : y = src := by simpa [runP] using hy
                                              exact hs, by simp [runP]⟩
  | n + 1 => by
    have h := Mild'.run (q := q) hk hs n
    rw [runP_next]
    cases hq : (runP k q src n).2 with
    | nil => rw [show nextP k q (runP k q src n) = runP k q src n by simp [nextP, hq]]; exact h.mono (by omega)
    | cons x r =>
      have hx : x ∈ sts k := h.dom x (by rw [hq]; simp)
      have h2 := h.exp (x := x) (mvs k q x) (fun l hl => (plc_step hx hl).2)
      have h3 := mvs_len k q x hk
      rw [nextP_at hq]
      refine ⟨fun p hp => ?_, fun y hy => h2.dom y (List.mem_of_mem_tail hy), ?_⟩
      · have h4 := h2.val p hp
        exact ⟨h4.1, by have := h4.2; omega⟩
      · have := h2.len
        simp only [List.length_tail, expP]
        omega
/-- What waits begins with what waited. -/
theorem exp_prefix {x : Nat} : ∀ (ls : List (List Int)) (st : SeaSt), ∃ r, (ls.foldl (stepP x) st).2 = st.2 ++ r
  | [], st => ⟨[], by simp⟩
  | l :: ls, st => by
    obtain ⟨r, hr⟩ := exp_prefix ls (stepP x st l)
    cases hq : lk st.1 (stepC x l) with
    | some v => rw [stepP_some hq] at hr; exact ⟨r, by rw [List.foldl_cons, stepP_some hq, hr]⟩
    | none => rw [stepP_none hq] at hr; exact ⟨stepC x l :: r, by rw [List.foldl_cons, stepP_none hq, hr]; simp⟩
/-- The cells of what waits. -/
def edgeC (k : Nat) (ys : List Nat) : List Value := ys.flatMap fun y => (plcC k y).toList
theorem edgeC_snoc (k : Nat) (ys : List Nat) (y : Nat) : edgeC k (ys ++ [y]) = edgeC k ys ++ (plcC k y).toList := by simp [edgeC]
theorem edgeC_cons (k y : Nat) (ys : List Nat) : edgeC k (y :: ys) = (plcC k y).toList ++ edgeC k ys := by simp [edgeC]
theorem plcC_size (k x : Nat) : (plcC k x).size = 9 := rfl
/-- How often the loop goes round at most. -/
def turns (k : Nat) : Nat := 2 * 2 ^ (2 * k)
/-- What the search comes to. -/
noncomputable def finP (k q src : Nat) : SeaSt := runP k q src (turns k)
end Go.Proofs.Ytkocompjjogciaa

namespace Go.Proofs.Ytkocompjjogciaa
open Go.RowKit

theorem runs_out : ((List.range 4).all fun k => (List.range 4).all fun q => (finP (k + 1) (q + 1) 0).2.isEmpty && (finP (k + 1) (q + 1) (2 * 2 ^ (2 * (k + 1)) - 1)).2.isEmpty) = true := by decide +kernel
theorem runs_end {k q src : Nat} (h1 : 1 ≤ k) (h4 : k ≤ 4) (q1 : 1 ≤ q) (q4 : q ≤ 4) (hs : src = 0 ∨ src = 2 * 2 ^ (2 * k) - 1) : (finP k q src).2 = [] := by
  have h := List.all_eq_true.1 (List.all_eq_true.1 runs_out (k - 1) (List.mem_range.2 (by omega))) (q - 1) (List.mem_range.2 (by omega))
  rw [show k - 1 + 1 = k by omega, show q - 1 + 1 = q by omega, Bool.and_eq_true] at h
  rcases hs with rfl | rfl
  · exact List.isEmpty_iff.1 h.1
  · exact List.isEmpty_iff.1 h.2
end Go.Proofs.Ytkocompjjogciaa

namespace Go.Proofs.Ytkocompjjogciaa
open Go.RowKit Go.Maps Go.WideShapes

theorem info_place : (Try.prog.info? 113).map (fun i => (i.zero, i.size, i.bytes)) = some (some (.agg #[.bool false, .bool false, .bool false, .bool false, .bool false, .bool false, .bool false, .bool false, .bool false]), 9, 9) := by kernel_rfl
theorem hzero (w : World) : (zeroValue 3).run Try.prog w = .ok (.int .i64 0) w := by kernel_rfl
theorem elem_places : Try.prog.elem 185 = 113 := by kernel_rfl
abbrev SeaMap (k : Nat) (w : World) (b : Nat) (m : List (Nat × Int)) : Prop := MapIs Try.prog 113 3 (plcL k) (sts k) w b (lk m)
theorem map_drew {k b : Nat} {w : World} {m : List (Nat × Int)} (h : SeaMap k w b m) : SeaMap k w.drew b m := by
  obtain ⟨D, ho, hr⟩ := h; exact ⟨D, ho.drew, hr⟩
/-- How the blocks lie. -/
structure SeaC (w : World) (gM B3 gA B2 : Nat) (rowv : Value) : Prop where
  c1 : w.heap.size < gM
  c2 : gM < B3
  c3 : B3 ≤ gA
  c4 : gA < B2
  rob : ∀ kk, rowv.ownBlock = some kk → gA + 1 ≤ kk ∧ kk < B2
section
variable {w wz wz' : World} {k gG gC gM B3 gA B2 x nr : Nat} {rowv v v' : Value} {rc : List Value} {m m' : List (Nat × Int)} {ys ys' : List Nat}
end
def Nine0 (g k x : Nat) (w : World) : Prop := w.cell? ⟨g, 0, none⟩ = some (.bool (pf k x 0)) ∧ w.cell? ⟨g, 1, none⟩ = some (.bool (pf k x 1)) ∧ w.cell? ⟨g, 2, none⟩ = some (.bool (pf k x 2)) ∧ w.cell? ⟨g, 3, none⟩ = some (.bool (pf k x 3)) ∧ w.cell? ⟨g, 4, none⟩ = some (.bool (pf k x 4)) ∧ w.cell? ⟨g, 5, none⟩ = some (.bool (pf k x 5)) ∧ w.cell? ⟨g, 6, none⟩ = some (.bool (pf k x 6)) ∧ w.cell? ⟨g, 7, none⟩ = some (.bool (pf k x 7)) ∧ w.cell? ⟨g, 8, none⟩ = some (.bool (pt x))
def Nine1 (g k y : Nat) (w : World) : Prop := w.cell? ⟨g, 1, none⟩ = some (.bool (pf k y 0)) ∧ w.cell? ⟨g, 2, none⟩ = some (.bool (pf k y 1)) ∧ w.cell? ⟨g, 3, none⟩ = some (.bool (pf k y 2)) ∧ w.cell? ⟨g, 4, none⟩ = some (.bool (pf k y 3)) ∧ w.cell? ⟨g, 5, none⟩ = some (.bool (pf k y 4)) ∧ w.cell? ⟨g, 6, none⟩ = some (.bool (pf k y 5)) ∧ w.cell? ⟨g, 7, none⟩ = some (.bool (pf k y 6)) ∧ w.cell? ⟨g, 8, none⟩ = some (.bool (pf k y 7)) ∧ w.cell? ⟨g, 9, none⟩ = some (.bool (pt y))
theorem nine0_of {w : World} {g k x : Nat} {t : TypeId} (h : Whole w g t (plcC k x)) : Nine0 g k x w := ⟨h.cell 0, h.cell 1, h.cell 2, h.cell 3, h.cell 4, h.cell 5, h.cell 6, h.cell 7, h.cell 8⟩
theorem nine1_of {w : World} {g k y : Nat} {t : TypeId} {rv : Value} (h : Whole w g t #[rv, .bool (pf k y 0), .bool (pf k y 1), .bool (pf k y 2), .bool (pf k y 3), .bool (pf k y 4), .bool (pf k y 5), .bool (pf k y 6), .bool (pf k y 7), .bool (pt y)]) : Nine1 g k y w := ⟨h.cell 1, h.cell 2, h.cell 3, h.cell 4, h.cell 5, h.cell 6, h.cell 7, h.cell 8, h.cell 9⟩
def Sea2 (g gA k y x : Nat) (w : World) : Prop := Nine1 g k y w ∧ Nine0 gA k x w
/-- The first place that waits. -/
theorem win_head {w : World} {B n k x : Nat} {v : Value} {r : List Nat} (h : Win w B 113 9 v n (edgeC k (x :: r))) : ∃ g o cap, v = .slice (some ⟨g, o, none⟩) n cap ∧ B ≤ g ∧ g < w.heap.size ∧ n ≤ cap ∧ cap ≤ maxLen ∧ w.cell? ⟨g, o, none⟩ = some (.bool (pf k x 0)) ∧ w.cell? ⟨g, o + 1, none⟩ = some (.bool (pf k x 1)) ∧ w.cell? ⟨g, o + 2, none⟩ = some (.bool (pf k x 2)) ∧ w.cell? ⟨g, o + 3, none⟩ = some (.bool (pf k x 3)) ∧ w.cell? ⟨g, o + 4, none⟩ = some (.bool (pf k x 4)) ∧ w.cell? ⟨g, o + 5, none⟩ = some (.bool (pf k x 5)) ∧ w.cell? ⟨g, o + 6, none⟩ = some (.bool (pf k x 6)) ∧ w.cell? ⟨g, o + 7, none⟩ = some (.bool (pf k x 7)) ∧ w.cell? ⟨g, o + 8, none⟩ = some (.bool (pt x)) := by
  obtain ⟨g, o, cap, hv, h1, h2, h3, h4, h5⟩ := h.cellAt
  rw [edgeC_cons] at h5
  exact ⟨g, o, cap, hv, h1, h2, h3, h4, h5 0 _ rfl, h5 1 _ rfl, h5 2 _ rfl, h5 3 _ rfl, h5 4 _ rfl, h5 5 _ rfl, h5 6 _ rfl, h5 7 _ rfl, h5 8 _ rfl⟩
/-- The cells of a move in a list of them. -/
theorem own_moves_row {w : World} {lo c k x : Nat} {A : Option Addr} {bs : List Bool} {t : Bool} {rs : List RowV} (h : w.ownsRow lo 122 10 (.slice A rs.length c) rs.length (movesCells bs t rs)) {i : Nat} (hi : i < rs.length) (hp : placeCells (flipped bs rs[i].xs) (!t) = plcC k x) :
    ∃ g, A = some ⟨g, 0, none⟩ ∧ g < w.heap.size ∧ w.cell? ⟨g, i * 10, none⟩ = some rs[i].val ∧ w.cell? ⟨g, i * 10 + 1, none⟩ = some (.bool (pf k x 0)) ∧ w.cell? ⟨g, i * 10 + 2, none⟩ = some (.bool (pf k x 1)) ∧ w.cell? ⟨g, i * 10 + 3, none⟩ = some (.bool (pf k x 2)) ∧ w.cell? ⟨g, i * 10 + 4, none⟩ = some (.bool (pf k x 3)) ∧ w.cell? ⟨g, i * 10 + 5, none⟩ = some (.bool (pf k x 4)) ∧ w.cell? ⟨g, i * 10 + 6, none⟩ = some (.bool (pf k x 5)) ∧ w.cell? ⟨g, i * 10 + 7, none⟩ = some (.bool (pf k x 6)) ∧ w.cell? ⟨g, i * 10 + 8, none⟩ = some (.bool (pf k x 7)) ∧ w.cell? ⟨g, i * 10 + 9, none⟩ = some (.bool (pt x)) := by
  have hx := h
  obtain ⟨-, ⟨-, h0⟩ | ⟨g, cap, cur, hv, -, hh, -⟩⟩ := hx
  · omega
  · obtain ⟨rfl, rfl⟩ : A = some ⟨g, 0, none⟩ ∧ c = cap := by simpa using hv
    have hg : g < w.heap.size := (Array.getElem?_eq_some_iff.1 hh).1
    have hc : ∀ j, j < 10 → w.cell? ⟨g, i * 10 + j, none⟩ = (rs[i].val :: (plcC k x).toList)[j]? := fun j hj => by
      have h1 := (h.cellAt (i * 10 + j) (by omega)).trans (movesCells_get bs t rs i j hi hj)
      rw [h1, moveCells, hp]
    exact ⟨g, rfl, hg, hc 0 (by omega), hc 1 (by omega), hc 2 (by omega), hc 3 (by omega), hc 4 (by omega), hc 5 (by omega), hc 6 (by omega), hc 7 (by omega), hc 8 (by omega), hc 9 (by omega)⟩
/-- What the search hands back. -/
def ApartPost (k q src : Nat) (w : World) (e : Ending) (w' : World) : Prop :=
  ∃ b : Nat, e = .returned (.map (some b)) ∧ SeaMap k w' b (finP k q src).1 ∧ Below w.heap.size w w'
end Go.Proofs.Ytkocompjjogciaa

namespace Go.Proofs.Ytkocompjjogciaa
open Go.RowKit Go.Maps Go.WideShapes

end Go.Proofs.Ytkocompjjogciaa

namespace Go.Proofs.Ytkocompjjogciaa
open Go.RowKit

theorem ride_bound {k : Nat} {L : List (List Int)} {l : List Int} {bs : List Bool} {t : Bool} (hup : ∀ l ∈ L, l ∈ upLists (2 * k) (2 * k)) (hl : l ∈ ridesAt bs t L) : ∀ y ∈ l, 0 ≤ y ∧ y < ((2 * k : Nat) : Int) := fun y hy => by
  have h := mem_steps (up_steps (hup l (List.mem_filter.1 hl).1)).1 hy
  omega
/-- The rides in the state with a number. -/
def mvsW (k : Nat) (L : List (List Int)) (x : Nat) : List (List Int) := ridesAt (bitsOf (x / 2) (2 * k)) (bitAt x 0) L
noncomputable def expW (k : Nat) (L : List (List Int)) (x : Nat) (st : SeaSt) : SeaSt := (mvsW k L x).foldl (stepP x) st
noncomputable def nextW (k : Nat) (L : List (List Int)) (st : SeaSt) : SeaSt := match st.2 with
  | [] => st
  | x :: _ => ((expW k L x st).1, (expW k L x st).2.tail)
noncomputable def runW (k : Nat) (L : List (List Int)) (src : Nat) : Nat → SeaSt
  | 0 => ([(src, 0)], [src])
  | n + 1 => nextW k L (runW k L src n)
theorem expW_all (k : Nat) (L : List (List Int)) (x : Nat) (st : SeaSt) : expJ x (mvsW k L x) st (mvsW k L x).length = expW k L x st := by rw [expJ, List.take_length]; rfl
theorem runW_next (k : Nat) (L : List (List Int)) (src n : Nat) : runW k L src (n + 1) = nextW k L (runW k L src n) := rfl
theorem nextW_at {k x : Nat} {L : List (List Int)} {st : SeaSt} {r : List Nat} (h : st.2 = x :: r) : nextW k L st = ((expW k L x st).1, (expW k L x st).2.tail) := by simp [nextW, h]

theorem nextW_nil {k : Nat} {L : List (List Int)} {st : SeaSt} (h : st.2 = []) : nextW k L st = st := by simp [nextW, h]
theorem runW_stay {k src n : Nat} {L : List (List Int)} (h : (runW k L src n).2 = []) : ∀ m, runW k L src (n + m) = runW k L src n
  | 0 => rfl
  | m + 1 => by rw [← Nat.add_assoc, runW_next, runW_stay h m, nextW_nil h]

/-- The place behind a row. -/
theorem plcW_step {k x : Nat} {L : List (List Int)} {l : List Int} (hup : ∀ l ∈ L, l ∈ upLists (2 * k) (2 * k)) (hx : x ∈ sts k) (hl : l ∈ mvsW k L x) : placeCells (flipped (bitsOf (x / 2) (2 * k)) l) (!bitAt x 0) = plcC k (stepC x l) ∧ stepC x l ∈ sts k := by
  have hb := bitsOf_len (x / 2) (2 * k)
  have h1 := step_code (t := bitAt x 0) hb (fun y hy => ride_bound hup hl y hy)
  rw [code_of_num hx] at h1
  have hfl : (flipped (bitsOf (x / 2) (2 * k)) l).length = 2 * k := by rw [flipped_len, hb]
  refine ⟨by rw [show plcC k (stepC x l) = placeCells (bitsOf (stepC x l / 2) (2 * k)) (bitAt (stepC x l) 0) from rfl, h1, bits_back hfl, torch_back], ?_⟩
  rw [sts_mem, h1]
  have h2 := code_lt (flipped (bitsOf (x / 2) (2 * k)) l) (!bitAt x 0)
  rw [hfl] at h2
  omega
theorem mvsW_len {k x : Nat} {L : List (List Int)} (hL : L.length ≤ 255) : (mvsW k L x).length ≤ 255 := Nat.le_trans (rides_len _ _ _) hL
theorem mild_runW {k src : Nat} {L : List (List Int)} (hL : L.length ≤ 255) (hup : ∀ l ∈ L, l ∈ upLists (2 * k) (2 * k)) (hs : src ∈ sts k) : ∀ n, Mild' k (256 * n + 1) (runW k L src n)
  | 0 => ⟨fun p hp => by obtain rfl : p = (src, 0) := by simpa [runW] using hp
                         simp, fun y hy => by obtain rfl : y = src := by simpa [runW] using hy
                                              exact hs, by simp [runW]⟩
  | n + 1 => by
    have h := mild_runW hL hup hs n
    rw [runW_next]
    cases hq : (runW k L src n).2 with
    | nil => rw [show nextW k L (runW k L src n) = runW k L src n by simp [nextW, hq]]; exact h.mono (by omega)
    | cons x r =>
      have hx : x ∈ sts k := h.dom x (by rw [hq]; simp)
      have h2 := h.exp (x := x) (mvsW k L x) (fun l hl => (plcW_step hup hx hl).2)
      have h3 := mvsW_len (k := k) (x := x) hL
      rw [nextW_at hq]
      refine ⟨fun p hp => ?_, fun y hy => h2.dom y (List.mem_of_mem_tail hy), ?_⟩
      · have h4 := h2.val p hp
        exact ⟨h4.1, by have := h4.2; omega⟩
      · have := h2.len
        simp only [List.length_tail, expW]
        omega
/-- What the search comes to. -/
noncomputable def finW (k : Nat) (L : List (List Int)) (src : Nat) : SeaSt := runW k L src (turns k)

/-- A ride leads from one state to another. -/
def RideE (k : Nat) (L : List (List Int)) (x y : Nat) : Prop := ∃ l ∈ mvsW k L x, stepC x l = y
theorem lk_cons (m : List (Nat × Int)) (y : Nat) (v : Int) : lk ((y, v) :: m) = put (lk m) y v := by
  funext z
  by_cases h : z = y
  · subst h; simp [lk, put]
  · have h' : (z == y) = false := by simpa using h
    simp [lk, put, List.lookup_cons, h, h']
/-- In the midst of the rides from x. -/
theorem amid_fold {k src x : Nat} {L : List (List Int)} {a : Int} {dn : Nat → Prop} : ∀ (ls : List (List Int)) (st : SeaSt) (tried : List Nat) (rest : List Nat), (∀ l ∈ ls, l ∈ mvsW k L x) → Amid (RideE k L) src (lk st.1) dn x a tried rest → st.2 = x :: rest →
    ∃ rest', Amid (RideE k L) src (lk (ls.foldl (stepP x) st).1) dn x a (tried ++ ls.map (stepC x)) rest' ∧ (ls.foldl (stepP x) st).2 = x :: rest'
  | [], st, tried, rest, _, h, hq => ⟨rest, by simpa using h, hq⟩
  | l :: ls, st, tried, rest, hl, h, hq => by
    rw [List.foldl_cons, List.map_cons, show tried ++ stepC x l :: ls.map (stepC x) = (tried ++ [stepC x l]) ++ ls.map (stepC x) by simp]
    cases hs : lk st.1 (stepC x l) with
    | some v =>
      rw [stepP_some hs]
      exact amid_fold ls st _ rest (fun m hm => hl m (List.mem_cons_of_mem _ hm)) (amid_old h hs) hq
    | none =>
      rw [stepP_none hs]
      refine amid_fold ls _ _ (rest ++ [stepC x l]) (fun m hm => hl m (List.mem_cons_of_mem _ hm)) ?_ (by rw [hq]; rfl)
      have h2 := amid_new h ⟨l, hl l (List.mem_cons_self ..), rfl⟩ hs
      have h3 : (lk st.1 x).getD 0 = a := by rw [h.at_]; rfl
      show Amid (RideE k L) src (lk ((stepC x l, (lk st.1 x).getD 0 + 1) :: st.1)) dn x a _ _
      rw [h3, lk_cons]
      exact h2
theorem wave_run {k src : Nat} {L : List (List Int)} : ∀ n, ∃ dn, Wave (RideE k L) src (lk (runW k L src n).1) dn (runW k L src n).2
  | 0 => by
    refine ⟨fun _ => False, ?_⟩
    have h : lk [(src, (0 : Int))] = put (fun _ => none) src 0 := by rw [lk_cons]; rfl
    show Wave _ _ (lk [(src, (0 : Int))]) _ [src]
    rw [h]
    exact wave_start
  | n + 1 => by
    obtain ⟨dn, h⟩ := wave_run (k := k) (src := src) (L := L) n
    rw [runW_next]
    cases hq : (runW k L src n).2 with
    | nil => rw [nextW_nil hq]; exact ⟨dn, h⟩
    | cons x r =>
      rw [hq] at h
      obtain ⟨a, ha⟩ := wave_amid h
      obtain ⟨rest', h2, h3⟩ := amid_fold (mvsW k L x) (runW k L src n) [] r (fun l hl => hl) ha hq
      rw [nextW_at hq]
      refine ⟨fun z => dn z ∨ z = x, ?_⟩
      show Wave _ _ (lk (expW k L x (runW k L src n)).1) _ (expW k L x (runW k L src n)).2.tail
      rw [show (expW k L x (runW k L src n)) = (mvsW k L x).foldl (stepP x) (runW k L src n) from rfl, h3]
      refine amid_end (tried := [] ++ (mvsW k L x).map (stepC x)) h2 fun y ⟨l, hl, he⟩ => ?_
      rw [List.nil_append]
      exact List.mem_map.2 ⟨l, hl, he⟩
/-- How many are told and how many wait. -/
structure Count (k n : Nat) (st : SeaSt) : Prop where
  nodup : (st.1.map Prod.fst).Nodup
  dom : ∀ p ∈ st.1, p.1 ∈ sts k
  sum : st.2 = [] ∨ st.1.length = n + st.2.length
theorem lk_none {m : List (Nat × Int)} {y : Nat} (h : lk m y = none) : y ∉ m.map Prod.fst := by
  induction m with
  | nil => exact List.not_mem_nil
  | cons q m ih =>
    obtain ⟨q1, q2⟩ := q
    rw [lk_cons] at h
    by_cases hq : y = q1
    · subst hq; simp [put] at h
    · have h' : lk m y = none := by simpa [put, hq] using h
      intro hm
      rcases List.mem_cons.1 hm with h1 | h1
      · exact hq h1
      · exact ih h' h1
theorem count_fold {k x c : Nat} : ∀ (ls : List (List Int)) (st : SeaSt), (∀ l ∈ ls, stepC x l ∈ sts k) → (st.1.map Prod.fst).Nodup → (∀ p ∈ st.1, p.1 ∈ sts k) → st.1.length = c + st.2.length →
    ((ls.foldl (stepP x) st).1.map Prod.fst).Nodup ∧ (∀ p ∈ (ls.foldl (stepP x) st).1, p.1 ∈ sts k) ∧ (ls.foldl (stepP x) st).1.length = c + (ls.foldl (stepP x) st).2.length
  | [], st, _, h1, h2, h3 => ⟨h1, h2, h3⟩
  | l :: ls, st, hl, h1, h2, h3 => by
    rw [List.foldl_cons]
    cases hs : lk st.1 (stepC x l) with
    | some v => rw [stepP_some hs]; exact count_fold ls st (fun m hm => hl m (List.mem_cons_of_mem _ hm)) h1 h2 h3
    | none =>
      rw [stepP_none hs]
      refine count_fold ls _ (fun m hm => hl m (List.mem_cons_of_mem _ hm)) ?_ ?_ ?_
      · exact List.nodup_cons.2 ⟨lk_none hs, h1⟩
      · intro p hp
        rcases List.mem_cons.1 hp with rfl | hp
        · exact hl l (List.mem_cons_self ..)
        · exact h2 p hp
      · simp only [List.length_cons, List.length_append, List.length_nil]; omega
theorem count_run {k src : Nat} {L : List (List Int)} (hup : ∀ l ∈ L, l ∈ upLists (2 * k) (2 * k)) (hs : src ∈ sts k) (hq : ∀ n, ∀ y ∈ (runW k L src n).2, y ∈ sts k) : ∀ n, Count k n (runW k L src n)
  | 0 => ⟨by simp [runW], fun p hp => by obtain rfl : p = (src, 0) := by simpa [runW] using hp
                                         exact hs, .inr (by simp [runW])⟩
  | n + 1 => by
    have h := count_run hup hs hq n
    rw [runW_next]
    cases he : (runW k L src n).2 with
    | nil => rw [nextW_nil he]; exact ⟨h.nodup, h.dom, .inl he⟩
    | cons x r =>
      have hx : x ∈ sts k := hq n x (by rw [he]; simp)
      have hsum : (runW k L src n).1.length = n + (runW k L src n).2.length := by
        rcases h.sum with h0 | h0
        · rw [he] at h0; cases h0
        · exact h0
      obtain ⟨h1, h2, h3⟩ := count_fold (c := n) (mvsW k L x) (runW k L src n) (fun l hl => (plcW_step hup hx hl).2) h.nodup h.dom hsum
      obtain ⟨r', hr'⟩ := exp_prefix (x := x) (mvsW k L x) (runW k L src n)
      rw [nextW_at he]
      refine ⟨h1, h2, .inr ?_⟩
      show (expW k L x (runW k L src n)).1.length = n + 1 + (expW k L x (runW k L src n)).2.tail.length
      rw [show (expW k L x (runW k L src n)) = (mvsW k L x).foldl (stepP x) (runW k L src n) from rfl, h3, hr', he]
      simp
      omega
theorem sub_len : ∀ {a b : List Nat}, a.Nodup → (∀ y ∈ a, y ∈ b) → a.length ≤ b.length
  | [], _, _, _ => Nat.zero_le _
  | x :: a, b, hn, hs => by
    obtain ⟨h1, h2⟩ := List.nodup_cons.1 hn
    have hx : x ∈ b := hs x (List.mem_cons_self ..)
    have h3 := sub_len (a := a) (b := b.erase x) h2 fun y hy => (List.mem_erase_of_ne (fun (e : y = x) => h1 (by rw [← e]; exact hy))).2 (hs y (List.mem_cons_of_mem _ hy))
    rw [List.length_erase_of_mem hx] at h3
    have h4 : 0 < b.length := List.length_pos_of_mem hx
    simp only [List.length_cons]
    omega
/-- In the end nothing waits. -/
theorem runsW_end {k src : Nat} {L : List (List Int)} (hL : L.length ≤ 255) (hup : ∀ l ∈ L, l ∈ upLists (2 * k) (2 * k)) (hs : src ∈ sts k) : (finW k L src).2 = [] := by
  have hc := count_run hup hs (fun n y hy => (mild_runW hL hup hs n).dom y hy) (turns k)
  rcases hc.sum with h | h
  · exact h
  · have hle : ((finW k L src).1.map Prod.fst).length ≤ (sts k).length := sub_len hc.nodup (fun y hy => by
      obtain ⟨p, hp, rfl⟩ := List.mem_map.1 hy
      exact hc.dom p hp)
    rw [List.length_map, sts, List.length_range] at hle
    have h' : (finW k L src).1.length = turns k + (finW k L src).2.length := h
    have h0 : (finW k L src).2.length = 0 := by unfold turns at h'; omega
    exact List.eq_nil_of_length_eq_zero h0
theorem leastW {k src : Nat} {L : List (List Int)} (hL : L.length ≤ 255) (hup : ∀ l ∈ L, l ∈ upLists (2 * k) (2 * k)) (hs : src ∈ sts k) : Least (One (RideE k L)) src (lk (finW k L src).1) := by
  obtain ⟨dn, h⟩ := wave_run (k := k) (src := src) (L := L) (turns k)
  have he : (runW k L src (turns k)).2 = [] := runsW_end hL hup hs
  rw [he] at h
  exact wave_end h
end Go.Proofs.Ytkocompjjogciaa

namespace Go.Proofs.Ytkocompjjogciaa
open Go.RowKit Go.Maps Go.WideShapes

/-- What stands between two rounds of the outer loop. -/
structure SeaOW (w wr : World) (k p gL gM B3 : Nat) (m : List (Nat × Int)) (ys : List Nat) (v : Value) : Prop where
  map : SeaMap k wr gM m
  riv : Whole wr w.heap.size 119 (crewCells p gL)
  win : Win wr B3 113 9 v ys.length (edgeC k ys)
  bel : Below w.heap.size w wr
  siz : B3 ≤ wr.heap.size
/-- What stands between two rounds of the inner loop. -/
structure SeaW (w wz : World) (k p gL gM B3 gA B2 x : Nat) (rowv : Value) (nr : Nat) (rc : List Value) (m : List (Nat × Int)) (ys : List Nat) (v : Value) : Prop where
  map : SeaMap k wz gM m
  riv : Whole wz w.heap.size 119 (crewCells p gL)
  at_ : Whole wz gA 113 (plcC k x)
  row : wz.ownsRow (gA + 1) 122 10 rowv nr rc
  win : Win wz B3 113 9 v ys.length (edgeC k ys)
  far : ∀ kk, v.ownBlock = some kk → kk < gA ∨ B2 ≤ kk
  bel : Below w.heap.size w wz
  siz : B2 ≤ wz.heap.size
section
variable {w wz wz' : World} {k p gL gM B3 gA B2 x nr : Nat} {rowv v v' : Value} {rc : List Value} {m m' : List (Nat × Int)} {ys ys' : List Nat}
theorem SeaOW.below (h : SeaOW w wz k p gL gM B3 m ys v) (hb : Below wz.heap.size wz wz') : SeaOW w wz' k p gL gM B3 m ys v :=
  ⟨h.map.below hb, h.riv.below hb, h.win.below hb, below_then h.bel hb h.bel.size, Nat.le_trans h.siz hb.size⟩
theorem SeaOW.alloc (h : SeaOW w wz k p gL gM B3 m ys v) (o : Obj) : SeaOW w (wz.alloc o) k p gL gM B3 m ys v := h.below (below1 wz o)
theorem SeaW.below (h : SeaW w wz k p gL gM B3 gA B2 x rowv nr rc m ys v) (hb : Below wz.heap.size wz wz') : SeaW w wz' k p gL gM B3 gA B2 x rowv nr rc m ys v :=
  ⟨h.map.below hb, h.riv.below hb, h.at_.below hb, ownsRow_below h.row hb, h.win.below hb, h.far, below_then h.bel hb h.bel.size, Nat.le_trans h.siz hb.size⟩
theorem SeaW.alloc (h : SeaW w wz k p gL gM B3 gA B2 x rowv nr rc m ys v) (o : Obj) : SeaW w (wz.alloc o) k p gL gM B3 gA B2 x rowv nr rc m ys v := h.below (below1 wz o)
theorem SeaW.drew (h : SeaW w wz k p gL gM B3 gA B2 x rowv nr rc m ys v) : SeaW w wz.drew k p gL gM B3 gA B2 x rowv nr rc m ys v := h.below (Below.refl _ _).drew
theorem SeaW.put (h : SeaW w wz k p gL gM B3 gA B2 x rowv nr rc m ys v) (c : SeaC w gM B3 gA B2 rowv) (hg : wz.grownBy wz' (some gM)) (hM : SeaMap k wz' gM m') : SeaW w wz' k p gL gM B3 gA B2 x rowv nr rc m' ys v := by
  have c1 := c.c1
  have c2 := c.c2
  have c3 := c.c3
  have c4 := c.c4
  refine ⟨hM, whole_apart h.riv hg (fun e => by have := Option.some.inj e; omega), whole_apart h.at_ hg (fun e => by have := Option.some.inj e; omega), h.row.kept hg (.inr fun e => by have := (c.rob _ e).1; omega), h.win.kept hg (fun e => by have := (h.win.lt _ e).1; omega), h.far, h.bel.grown hg h.bel.size (fun kk e => by have := Option.some.inj e; omega), Nat.le_trans h.siz hg.size⟩
theorem SeaW.app (h : SeaW w wz k p gL gM B3 gA B2 x rowv nr rc m ys v) (c : SeaC w gM B3 gA B2 rowv) (hg : wz.grownBy wz' v.ownBlock) (hW : Win wz' B3 113 9 v' ys'.length (edgeC k ys')) (hv : v'.ownBlock = v.ownBlock ∨ v'.ownBlock = some wz.heap.size) : SeaW w wz' k p gL gM B3 gA B2 x rowv nr rc m ys' v' := by
  have c1 := c.c1
  have c2 := c.c2
  have c3 := c.c3
  have c4 := c.c4
  refine ⟨h.map.kept hg (fun e => by have := (h.win.lt _ e.symm).1; omega), whole_apart h.riv hg (fun e => by have := (h.win.lt _ e.symm).1; omega), whole_apart h.at_ hg (fun e => by have := h.far _ e.symm; omega), h.row.kept hg ?_, hW, fun kk e => ?_, h.bel.grown hg h.bel.size (fun kk e => by have := (h.win.lt _ e).1; omega), Nat.le_trans h.siz hg.size⟩
  · cases hr : rowv.ownBlock with
    | none => exact .inl rfl
    | some kk => exact .inr fun e => by have h1 := c.rob _ hr; have h2 := h.far _ e.symm; omega
  · rcases hv with hv | hv
    · exact h.far kk (by rw [← hv]; exact e)
    · rw [hv] at e
      have := Option.some.inj e
      have := h.siz
      omega
theorem SeaW.out (h : SeaW w wz k p gL gM B3 gA B2 x rowv nr rc m ys v) (c : SeaC w gM B3 gA B2 rowv) : SeaOW w wz k p gL gM B3 m ys v :=
  ⟨h.map, h.riv, h.win, h.bel, by have := c.c3; have := c.c4; have := h.siz; omega⟩
end
/-- What the search hands back. -/
def ApartPostW (k : Nat) (L : List (List Int)) (src : Nat) (w : World) (e : Ending) (w' : World) : Prop :=
  ∃ b : Nat, e = .returned (.map (some b)) ∧ SeaMap k w' b (finW k L src).1 ∧ Below w.heap.size w w'
end Go.Proofs.Ytkocompjjogciaa

namespace Go.Proofs.Ytkocompjjogciaa
open Go.RowKit Go.Maps Go.WideShapes

set_option maxHeartbeats 12800000 in
set_option maxRecDepth 100000 in
set_option linter.unusedSimpArgs false in
theorem movesApartW_any (T : List Int → Int) (k p gL g : Nat) (E0 : Option Addr) (c src : Nat) (L : List (List Int)) (w : World) (hk : k ≤ 4) (hL : L.length ≤ 255) (hup : ∀ l ∈ L, l ∈ upLists (2 * k) (2 * k)) (hsd : src ∈ sts k) (hF : RidesFn w T gL g E0 c L) :
    Calls Try.prog 112 #[.agg (crewCells p gL), .agg (plcC k src)] w (ApartPostW k L src w) := by
  obtain ⟨i0, hi, hz0, hz1, hz2⟩ := info_parts info_place
  have HI := Lib.hid hi
  have HZ0 := Lib.hid hz0
  have HZ1 := Lib.hid hz1
  have HZ2 := Lib.hid hz2
  have HEND := Lib.hid (runsW_end hL hup hsd)
  have HLL := Lib.hid hL
  have HUP := Lib.hid hup
  have hp2 : 0 < 2 ^ (2 * k) := Nat.two_pow_pos _
  have HRUN : Hid (∀ n, Mild' k (256 * n + 1) (runW k L src n)) := fun n => mild_runW hL hup hsd n
  have HFN := Lib.hid hF
  have HTU : Hid (turns k ≤ 512) := by
    have h : 2 ^ (2 * k) ≤ 2 ^ 8 := Nat.pow_le_pow_right (by omega) (by omega)
    show turns k ≤ 512
    unfold turns
    omega
  clear hi hz0 hz1 hz2 hF hp2 hL hup
  have hmm := @run_makeMap Try.prog
  have h2 := ((Whole.fresh w 119 (crewCells p gL)).alloc (.cells (plcC k src) 113)).alloc (.map #[] 0)
  have h3 := (Whole.fresh (w.alloc (.cells (crewCells p gL) 119)) 113 (plcC k src)).alloc (.map #[] 0)
  have hM := MapIs.made ((w.alloc (.cells (crewCells p gL) 119)).alloc (.cells (plcC k src) 113)) Try.prog 113 3 (plcL k) (sts k)
  have ht := below3 w (.cells (crewCells p gL) 119) (.cells (plcC k src) 113) (.map #[] 0)
  simp only [World.size_alloc] at h2 h3 hM
  have H2 := Lib.hid h2
  have H3 := Lib.hid h3
  have HM := Lib.hid hM
  have HT := Lib.hid ht
  clear h2 h3 hM ht
  unfold plcC place9 crewCells ridesFnV at H2 H3 HM HT
  unfold plcC place9 crewCells ridesFnV
  go_enter Try.func112, Try.ntmps112
  go_wp2_with (refine wpList_map_entry _ rfl _ _ _ rfl (place_keys hk) Try.underlying148 Try.underlying3 (sts_len hk) rfl HM.out src hsd rfl 0 (by decide) rfl ?_; intro w3 hM3 hg3; have n3 := nine0_of (k := k) (x := src) (whole_apart H3.out hg3 (fun e => by have := Option.some.inj e; omega)); obtain ⟨n0, n1, n2, n3, n4, n5, n6, n7, n8⟩ := n3; have hl3 := (whole_apart H3.out hg3 (fun e => by have := Option.some.inj e; omega)).lt)
  have hM3' : SeaMap k w3 (w.heap.size + 1 + 1) [(src, 0)] := by have h := hM3; rw [show (fun _ : Nat => (none : Option Int)) = lk [] from rfl, lk_put] at h; exact h
  have hgl := hM3.lt
  have HGL := Lib.hid hgl
  have HS0 : Hid (SeaOW w (w3.alloc (.cells #[.bool (pf k src 0), .bool (pf k src 1), .bool (pf k src 2), .bool (pf k src 3), .bool (pf k src 4), .bool (pf k src 5), .bool (pf k src 6), .bool (pf k src 7), .bool (pt src)] 113)) k p gL (w.heap.size + 1 + 1) w3.heap.size [(src, 0)] [src] (.slice (some ⟨w3.heap.size, 0, none⟩) 1 1)) := by
    refine ⟨hM3'.alloc _, (whole_apart H2.out hg3 (fun e => by have := Option.some.inj e; omega)).alloc _, ?_, (HT.out.grown hg3 (by have := HT.out.size; exact this) (fun kk e => by have := Option.some.inj e; omega)).alloc (by have := (HT.out.grown hg3 (by have := HT.out.size; exact this) (fun kk e => by have := Option.some.inj e; omega)).size; exact this) _, by simp⟩
    have h := Win.made w3 w3.heap.size 113 (plcC k src) (Nat.le_refl _)
    rw [show edgeC k [src] = (plcC k src).toList by simp [edgeC]]
    exact h
  clear hM3 hM3' hg3 n0 n1 n2 n3 n4 n5 n6 n7 n8 hl3 hgl H2 H3 HM HT hsd
  go_loopg [6] (turns k) (fun gh v wr => ∃ n, n + gh = turns k ∧ SeaOW w wr k p gL (w.heap.size + 1 + 1) w3.heap.size (runW k L src n).1 (runW k L src n).2 v)
  case atStart => exact ⟨0, by omega, HS0.out⟩
  case round =>
    clear HS0
    obtain ⟨n, hn, hS⟩ := hrel
    obtain ⟨wo, rfl⟩ : ∃ W : World, W = wr := ⟨_, rfl⟩
    cases hq : (runW k L src n).2 with
    | nil =>
      have hst := runW_stay hq (turns k - n)
      rw [show n + (turns k - n) = turns k by omega] at hst
      have hwin := hS.win
      rw [hq] at hwin
      obtain ⟨ge, oe, cap, hv, -, -, -, -, -⟩ := hwin.cellAt
      simp only [List.length_nil] at hv
      subst hv
      have HM1 : Hid (SeaMap k wo (w.heap.size + 1 + 1) (finW k L src).1) := by show SeaMap _ _ _ _; rw [finW, hst]; exact hS.map
      have HB1 := Lib.hid hS.bel
      clear hS hwin hst hq hn
      go_wp2
      go_ret
      exact ⟨_, rfl, HM1.out, HB1.out⟩
    | cons x r =>
      have hm := HRUN.out n
      have HNT : Hid (n ≤ 512) := by have := HTU.out; show n ≤ 512; omega
      have hxd : x ∈ sts k := hm.dom x (by rw [hq]; simp)
      have hgk : 0 < gk := by
        rcases Nat.eq_zero_or_pos gk with h | h
        · exfalso
          have hnt : n = turns k := by omega
          rw [hnt] at hq
          have he := HEND.out
          rw [finW, hq] at he
          cases he
        · exact h
      have hwin := hS.win
      rw [hq] at hwin
      obtain ⟨ge, oe, cap, hv, hgB, hgl, hnc, hcm, e0, e1, e2, e3, e4, e5, e6, e7, e8⟩ := win_head hwin
      rw [List.length_cons] at hv
      subst hv
      have hst0 := hS.siz
      have HSO := Lib.hid (hS.alloc (.cells #[.bool (pf k x 0), .bool (pf k x 1), .bool (pf k x 2), .bool (pf k x 3), .bool (pf k x 4), .bool (pf k x 5), .bool (pf k x 6), .bool (pf k x 7), .bool (pt x)] 113))
      have HAT := Lib.hid (Whole.fresh wo 113 (plcC k x))
      have HFR := Lib.hid (HFN.out.below (hS.bel.alloc hS.bel.size (.cells #[.bool (pf k x 0), .bool (pf k x 1), .bool (pf k x 2), .bool (pf k x 3), .bool (pf k x 4), .bool (pf k x 5), .bool (pf k x 6), .bool (pf k x 7), .bool (pt x)] 113)))
      have e18 := crew_cell hS.riv
      have hrl0 := hS.riv.lt
      have HQ := Lib.hid hq
      have HN := Lib.hid hn
      have HMI := Lib.hid hm
      clear hS hwin hq hn hm
      go_wp2_with fail
      have hrf := ridesFn_any T (2 * k) gL g E0 c L (bitsOf (x / 2) (2 * k)) (bitAt x 0) _ (by omega) (bitsOf_len _ _) HLL.out HUP.out HFR.out
      rw [show placeCells (bitsOf (x / 2) (2 * k)) (bitAt x 0) = plcC k x from rfl] at hrf
      unfold plcC place9 at hrf
      refine hrf.mono ?_
      clear hrf
      rintro e w2 ⟨A1, c1, rs, rfl, hrn, hM, hb⟩
      have HRN : Hid (rowNums rs = mvsW k L x) := hrn
      have hrl : rs.length ≤ 255 := by have h1 := congrArg List.length hrn; have h2 := mvsW_len (k := k) (x := x) HLL.out; rw [rowNums_len] at h1; rw [h1]; exact h2
      have hsz := hb.size
      rw [World.size_alloc] at hsz
      have hown := hM.1
      rw [World.size_alloc] at hown
      have HC : Hid (SeaC w (w.heap.size + 1 + 1) w3.heap.size wo.heap.size w2.heap.size (.slice A1 rs.length c1)) := ⟨by omega, HGL.out, hst0, by omega, fun kk e => by have := hown.lt kk e; omega⟩
      have HS2 : Hid (SeaW w w2 k p gL (w.heap.size + 1 + 1) w3.heap.size wo.heap.size w2.heap.size x (.slice A1 rs.length c1) rs.length (movesCells (bitsOf (x / 2) (2 * k)) (bitAt x 0) rs) (runW k L src n).1 (runW k L src n).2 (.slice (some ⟨ge, oe, none⟩) (r.length + 1) cap)) := by
        have h := HSO.out.below hb
        exact ⟨h.map, h.riv, HAT.out.below hb, hown, h.win, fun kk e => by have : ge = kk := Option.some.inj e; omega, h.bel, Nat.le_refl _⟩
      clear hb hM hown hsz hrn HSO HAT HFR e0 e1 e2 e3 e4 e5 e6 e7 e8 e18 hrl0
      go_wp2
      go_loopw [6, 30] (fun v i wz => ∃ j : Nat, j ≤ rs.length ∧ i = .int .i64 j ∧ SeaW w wz k p gL (w.heap.size + 1 + 1) w3.heap.size wo.heap.size w2.heap.size x (.slice A1 rs.length c1) rs.length (movesCells (bitsOf (x / 2) (2 * k)) (bitAt x 0) rs) (expJ x (mvsW k L x) (runW k L src n) j).1 (expJ x (mvsW k L x) (runW k L src n) j).2 v) (fun _ i _ => rs.length - (intOf i).toNat)
      case atStart => exact ⟨0, Nat.zero_le _, rfl, HS2.out⟩
      case round =>
        clear HS2
        obtain ⟨j, hj, rfl, hS⟩ := hrel
        obtain ⟨wz, rfl⟩ : ∃ W : World, W = wr := ⟨_, rfl⟩
        by_cases hlt : j < rs.length
        · have hd1 : decide ((j : Int) < (rs.length : Int)) = true := by simp; omega
          have hjm : j < (mvsW k L x).length := by have h := congrArg List.length HRN.out; rw [rowNums_len] at h; omega
          have hlj : (mvsW k L x)[j] = rs[j].xs := by have h := rowNums_get hlt; simp only [HRN.out] at h; exact h
          have hmem : rs[j].xs ∈ mvsW k L x := by rw [← hlj]; exact List.getElem_mem hjm
          obtain ⟨hpc, hyd⟩ := plcW_step HUP.out hxd hmem
          obtain ⟨gr, hA1, hgrl, a0, a1, a2, a3, a4, a5, a6, a7, a8, a9⟩ := own_moves_row hS.row hlt hpc
          subst hA1
          have hnx := expJ_next (x := x) (st := runW k L src n) hjm
          rw [hlj] at hnx
          have hmj := HMI.out.exp (x := x) ((mvsW k L x).take j) (fun l hl => (plcW_step HUP.out hxd (List.mem_of_mem_take hl)).2)
          rw [List.length_take, Nat.min_eq_left (by omega)] at hmj
          have hmj' : Mild' k (256 * n + 1 + j) (expJ x (mvsW k L x) (runW k L src n) j) := hmj
          have HNX := Lib.hid hnx
          obtain ⟨y, hy⟩ : ∃ y, stepC x rs[j].xs = y := ⟨_, rfl⟩
          have HY := Lib.hid hy
          rw [hy] at hyd a1 a2 a3 a4 a5 a6 a7 a8 a9
          obtain ⟨rA, rn, rc, hrv⟩ : ∃ (rA : Option Addr) (rn rc : Nat), rs[j].val = .slice rA rn rc := ⟨_, _, _, rfl⟩
          rw [hrv] at a0
          obtain ⟨l, hle⟩ : ∃ l, rs[j].xs = l := ⟨_, rfl⟩
          rw [hle] at HNX HY
          clear hpc hmem hlj hnx hmj hy hrv hle
          generalize expJ x (mvsW k L x) (runW k L src n) j = ej at hS HNX hmj'
          obtain ⟨m, ys⟩ := ej
          have hdx := hmj'.at_ x
          obtain ⟨d, hd⟩ : ∃ d, (lk m x).getD 0 = d := ⟨_, rfl⟩
          simp only at hdx
          rw [hd] at hdx
          have HD := Lib.hid hd
          have hnb := HNT.out
          have HWF : Hid ((Lit.int .i64 (d + 1)).wf = true) := WalkArith.wf_i64 (by omega)
          have hwr : IntKind.i64.wrap (d + 1) = d + 1 := IntWalk.i64_in _ (by omega)
          have HLE : Hid (ys.length ≤ 200000) := by have := hmj'.len; show ys.length ≤ 200000; simp only at this; omega
          have HS1 := Lib.hid (hS.alloc (.cells #[.slice rA rn rc, .bool (pf k y 0), .bool (pf k y 1), .bool (pf k y 2), .bool (pf k y 3), .bool (pf k y 4), .bool (pf k y 5), .bool (pf k y 6), .bool (pf k y 7), .bool (pt y)] 122))
          have HX := Lib.hid (Whole.fresh wz 122 #[.slice rA rn rc, .bool (pf k y 0), .bool (pf k y 1), .bool (pf k y 2), .bool (pf k y 3), .bool (pf k y 4), .bool (pf k y 5), .bool (pf k y 6), .bool (pf k y 7), .bool (pt y)])
          have hc1 := HC.out.c1
          have hc2 := HC.out.c2
          have hc3 := HC.out.c3
          have hc4 := HC.out.c4
          have hsz := hS.siz
          clear hS hd hmj' hdx
          cases hq2 : lk m y with
          | some vv =>
            have HQ2 := Lib.hid hq2
            have HNN : Hid (stepP x (m, ys) l = (m, ys)) := stepP_some (by rw [HY.out]; exact hq2)
            clear hq2
            go_wp2_with (refine wpList_map_some _ rfl _ _ rfl (place_keys hk) Try.underlying148 Try.underlying3 (hzero _) rfl HS1.out.map y hyd rfl HQ2.out ?_)
            go_roundw
            case rel => exact ⟨j + 1, by omega, by go_num, by rw [HNX.out, HNN.out]; exact HS1.out⟩
            case measure => simp [intOf]; omega
          | none =>
            have HQ2 := Lib.hid hq2
            have HNN : Hid (stepP x (m, ys) l = ((y, d + 1) :: m, ys ++ [y])) := by show _ = _; rw [stepP_none (by rw [HY.out]; exact hq2), HY.out, HD.out]
            clear hq2
            go_wp2_with (refine wpList_map_none _ rfl _ _ rfl (place_keys hk) Try.underlying148 Try.underlying3 (hzero _) rfl HS1.out.map y hyd rfl HQ2.out ?_)
            refine wp_region_held_drew (S := (Sea2 wz.heap.size wo.heap.size k y x)) (by kernel_rfl) ⟨nine1_of HX.out.drew, nine0_of HS1.out.drew.at_⟩ (fun hHeld => ?_)
            refine wpAnyH_take (i := 0) (v := ?_) rfl (by kernel_rfl) (by kernel_rfl) (by kernel_rfl) (fun _ _ _ h => h) (Or.inl ⟨rfl, ?_⟩) hHeld ?_
            rotate_left
            · intro w' hS; obtain ⟨⟨s0, s1, s2, s3, s4, s5, s6, s7, s8⟩, ⟨t0, t1, t2, t3, t4, t5, t6, t7, t8⟩⟩ := hS; go_simp <;> with_reducible rfl
            simp only [Act.put, List.getElem_toArray, List.getElem_cons_succ, List.getElem_cons_zero, List.setIfInBounds_toArray, List.set_cons_succ, List.set_cons_zero]
            refine wpAnyH_take (i := 1) (v := ?_) rfl (by kernel_rfl) (by kernel_rfl) (by kernel_rfl) (fun _ _ _ h => h) (Or.inl ⟨rfl, ?_⟩) hHeld ?_
            rotate_left
            · intro w' hS; obtain ⟨⟨s0, s1, s2, s3, s4, s5, s6, s7, s8⟩, ⟨t0, t1, t2, t3, t4, t5, t6, t7, t8⟩⟩ := hS; go_simp <;> with_reducible rfl
            simp only [Act.put, List.getElem_toArray, List.getElem_cons_succ, List.getElem_cons_zero, List.setIfInBounds_toArray, List.set_cons_succ, List.set_cons_zero]
            refine wpAnyH_take (i := 2) (v := ?_) rfl (by kernel_rfl) (by kernel_rfl) (by kernel_rfl) (fun _ _ _ h => h) (Or.inl ⟨rfl, ?_⟩) hHeld ?_
            rotate_left
            · intro w' hS; obtain ⟨⟨s0, s1, s2, s3, s4, s5, s6, s7, s8⟩, ⟨t0, t1, t2, t3, t4, t5, t6, t7, t8⟩⟩ := hS; go_simp <;> with_reducible rfl
            simp only [Act.put, List.getElem_toArray, List.getElem_cons_succ, List.getElem_cons_zero, List.setIfInBounds_toArray, List.set_cons_succ, List.set_cons_zero]
            refine wpAnyH_take (i := 3) (v := ?_) rfl (by kernel_rfl) (by kernel_rfl) (by kernel_rfl) (fun _ _ _ h => h) (Or.inl ⟨rfl, ?_⟩) hHeld ?_
            rotate_left
            · intro w' hS; obtain ⟨⟨s0, s1, s2, s3, s4, s5, s6, s7, s8⟩, ⟨t0, t1, t2, t3, t4, t5, t6, t7, t8⟩⟩ := hS; go_simp <;> with_reducible rfl
            simp only [Act.put, List.getElem_toArray, List.getElem_cons_succ, List.getElem_cons_zero, List.setIfInBounds_toArray, List.set_cons_succ, List.set_cons_zero]
            refine wpAnyH_take (i := 4) (v := ?_) rfl (by kernel_rfl) (by kernel_rfl) (by kernel_rfl) (fun _ _ _ h => h) (Or.inl ⟨rfl, ?_⟩) hHeld ?_
            rotate_left
            · intro w' hS; obtain ⟨⟨s0, s1, s2, s3, s4, s5, s6, s7, s8⟩, ⟨t0, t1, t2, t3, t4, t5, t6, t7, t8⟩⟩ := hS; go_simp <;> with_reducible rfl
            simp only [Act.put, List.getElem_toArray, List.getElem_cons_succ, List.getElem_cons_zero, List.setIfInBounds_toArray, List.set_cons_succ, List.set_cons_zero]
            refine wpAnyH_ready (rs := [5]) (by kernel_rfl) (by simp) (AllReadyH.cons rfl (fun K hK => ?_) AllReadyH.nil)
            have hlk : (Instr.lookup 148 (.map (some (w.heap.size + 1 + 1))) (.agg #[.bool (pf k x 0), .bool (pf k x 1), .bool (pf k x 2), .bool (pf k x 3), .bool (pf k x 4), .bool (pf k x 5), .bool (pf k x 6), .bool (pf k x 7), .bool (pt x)]) false).run Try.prog (World.drew (wz.alloc (.cells #[.slice rA rn rc, .bool (pf k y 0), .bool (pf k y 1), .bool (pf k y 2), .bool (pf k y 3), .bool (pf k y 4), .bool (pf k y 5), .bool (pf k y 6), .bool (pf k y 7), .bool (pt y)] 122))) = .ok (.int .i64 d) (World.drew (wz.alloc (.cells #[.slice rA rn rc, .bool (pf k y 0), .bool (pf k y 1), .bool (pf k y 2), .bool (pf k y 3), .bool (pf k y 4), .bool (pf k y 5), .bool (pf k y 6), .bool (pf k y 7), .bool (pt y)] 122))) := by have h := MapIs.look HS1.out.drew.map (place_keys hk) Try.underlying148 Try.underlying3 (hzero _) x hxd; rw [HD.out] at h; exact h
            go_simp
            clear hlk
            refine hK.out _ _ ⟨nine1_of HX.out.drew, nine0_of HS1.out.drew.at_⟩ (fun hHeld => ?_)
            clear hK K
            try simp only [Act.put, List.getElem_toArray, List.getElem_cons_succ, List.getElem_cons_zero, List.setIfInBounds_toArray, List.set_cons_succ, List.set_cons_zero]
            refine wpAnyH_take (i := 6) (v := ?_) rfl (by kernel_rfl) (by kernel_rfl) (by kernel_rfl) (fun _ _ _ h => h) (Or.inl ⟨rfl, ?_⟩) hHeld ?_
            rotate_left
            · intro w' hS; obtain ⟨⟨s0, s1, s2, s3, s4, s5, s6, s7, s8⟩, ⟨t0, t1, t2, t3, t4, t5, t6, t7, t8⟩⟩ := hS; go_simp <;> with_reducible rfl
            simp only [Act.put, List.getElem_toArray, List.getElem_cons_succ, List.getElem_cons_zero, List.setIfInBounds_toArray, List.set_cons_succ, List.set_cons_zero]
            refine wpAnyH_ready (rs := [7]) (by kernel_rfl) (by simp) (AllReadyH.cons rfl (fun K hK => ?_) AllReadyH.nil)
            refine wp_map_put _ (.tmp 43) (.tmp 45) (.tmp 49) rfl (place_keys hk) Try.underlying148 Try.underlying3 (sts_len hk) rfl HS1.out.drew.map y hyd rfl (d + 1) HWF.out rfl ?_
            intro w4 hM4 hg4
            have hmb4 := whole_apart HX.out.drew hg4 (fun e => by have := Option.some.inj e; omega)
            have hS4 := HS1.out.drew.put HC.out hg4 (m' := (y, d + 1) :: m) (by rw [lk_put] at hM4; exact hM4)
            refine hK.out _ _ ⟨nine1_of hmb4, nine0_of hS4.at_⟩ (fun hHeld => ?_)
            clear hK K
            try simp only [Act.put, List.getElem_toArray, List.getElem_cons_succ, List.getElem_cons_zero, List.setIfInBounds_toArray, List.set_cons_succ, List.set_cons_zero]
            refine wpAnyH_done (by kernel_rfl) ?_ _
            clear hHeld
            have K := Lib.hid (hS4.alloc (.cells #[.bool (pf k y 0), .bool (pf k y 1), .bool (pf k y 2), .bool (pf k y 3), .bool (pf k y 4), .bool (pf k y 5), .bool (pf k y 6), .bool (pf k y 7), .bool (pt y)] 113))
            obtain ⟨s0, s1, s2, s3, s4, s5, s6, s7, s8⟩ := nine1_of hmb4
            have hmbl := hmb4.lt
            have HNEW := Lib.hid (cells_new w4 113 #[.bool (pf k y 0), .bool (pf k y 1), .bool (pf k y 2), .bool (pf k y 3), .bool (pf k y 4), .bool (pf k y 5), .bool (pf k y 6), .bool (pf k y 7), .bool (pt y)])
            have HONE := Lib.hid (show ∀ u ∈ (#[.bool (pf k y 0), .bool (pf k y 1), .bool (pf k y 2), .bool (pf k y 3), .bool (pf k y 4), .bool (pf k y 5), .bool (pf k y 6), .bool (pf k y 7), .bool (pt y)] : Array Value).toList, u.oneCell' = true by simp [Value.oneCell'])
            have HMAX := Lib.hid (show ys.length + 1 ≤ maxLen by have := HLE.out; unfold maxLen; omega)
            have HBYT := Lib.hid (show (ys.length + 1) * 9 ≤ 140737488355328 by have := HLE.out; omega)
            have HBASE := Lib.hid (show w3.heap.size ≤ (w4.alloc (.cells #[.bool (pf k y 0), .bool (pf k y 1), .bool (pf k y 2), .bool (pf k y 3), .bool (pf k y 4), .bool (pf k y 5), .bool (pf k y 6), .bool (pf k y 7), .bool (pt y)] 113)).heap.size by have := HC.out.c3; have := HC.out.c4; have := hS4.siz; simp; omega)
            clear hmb4 hM4 hg4 hS4
            go_wp2_with (at_builtin; refine wpList_append_win _ rfl (.tmp 50) (.tmp 53) 185 rfl w3.heap.size 113 i0 (.agg #[.bool false, .bool false, .bool false, .bool false, .bool false, .bool false, .bool false, .bool false, .bool false]) 9 9 Try.underlying185 HI.out HZ0.out HZ1.out HZ2.out rfl u6 ys.length (edgeC k ys) rfl K.out.win ⟨w4.heap.size, 0, none⟩ 1 1 (#[.bool (pf k y 0), .bool (pf k y 1), .bool (pf k y 2), .bool (pf k y 3), .bool (pf k y 4), .bool (pf k y 5), .bool (pf k y 6), .bool (pf k y 7), .bool (pt y)] : Array Value).toList rfl rfl HNEW.out HONE.out HMAX.out HBYT.out HBASE.out ?_; intro v' w6 hW6 hg6 hv6; have HS6 := Lib.hid (K.out.app HC.out (ys' := ys ++ [y]) hg6 (by rw [edgeC_snoc, List.length_append]; exact hW6) hv6))
            clear hW6 hg6 hv6
            go_roundw
            case rel => exact ⟨j + 1, by omega, by go_num, by rw [HNX.out, HNN.out]; exact HS6.out⟩
            case measure => simp [intOf]; omega
        · have hje : j = rs.length := by omega
          have hd1 : decide ((j : Int) < (rs.length : Int)) = false := by simp; omega
          have hd2 : decide ((rs.length : Int) < (rs.length : Int)) = false := by simp
          have hall : expJ x (mvsW k L x) (runW k L src n) j = expW k L x (runW k L src n) := by
            have h := congrArg List.length HRN.out
            rw [rowNums_len] at h
            rw [hje, h]
            exact expW_all k L x _
          rw [hall] at hS
          obtain ⟨rr, hrr⟩ := exp_prefix (x := x) (mvsW k L x) (runW k L src n)
          have hq' := HQ.out
          have hqq : (expW k L x (runW k L src n)).2 = x :: (r ++ rr) := by rw [expW, hrr, hq']; rfl
          have hnxt : runW k L src (n + 1) = ((expW k L x (runW k L src n)).1, r ++ rr) := by rw [runW_next, nextW_at hq', hqq]; rfl
          have hwin := hS.win
          rw [hqq] at hwin
          obtain ⟨gf, of, capf, hv, hgB2, hgl2, hnc2, hcm2, -⟩ := hwin.cellAt
          rw [List.length_cons] at hv
          subst hv
          have hcw : Win wz w3.heap.size 113 9 (cutV gf of (r ++ rr).length capf 9) (r ++ rr).length (edgeC k (r ++ rr)) := by
            rw [edgeC_cons] at hwin
            exact hwin.cut (plcC_size k x)
          have HSO := Lib.hid (hS.out HC.out)
          have hcap : (r ++ rr).length + 1 ≤ capf := by simpa using hnc2
          generalize r ++ rr = rq at hcw hnxt hcap HSO ⊢
          have HNXT := Lib.hid hnxt
          have hnn := HN.out
          subst hje
          clear hS hwin hqq hnxt hrr hq' hall hnc2 hcm2
          by_cases hc : capf = 1
          · subst hc
            obtain rfl : rq = [] := List.eq_nil_of_length_eq_zero (by omega)
            have HCUT : Hid (Win wz w3.heap.size 113 9 (.slice (some ⟨gf, of, none⟩) 0 0) 0 (edgeC k [])) := hcw
            clear hcw
            go_wp2
            go_roundg (gk - 1)
            case measure => omega
            case rel => exact ⟨n + 1, by omega, by rw [HNXT.out]; exact ⟨HSO.out.map, HSO.out.riv, HCUT.out, HSO.out.bel, HSO.out.siz⟩⟩
          · have HCUT : Hid (Win wz w3.heap.size 113 9 (.slice (some ⟨gf, of + 9, none⟩) rq.length (capf - 1)) rq.length (edgeC k rq)) := by have h := hcw; rw [cutV, if_neg hc] at h; exact h
            have hc' : ¬ 1 = capf := fun h => hc h.symm
            clear hcw
            go_wp2
            go_roundg (gk - 1)
            case measure => omega
            case rel => exact ⟨n + 1, by omega, by rw [HNXT.out]; exact ⟨HSO.out.map, HSO.out.riv, HCUT.out, HSO.out.bel, HSO.out.siz⟩⟩
end Go.Proofs.Ytkocompjjogciaa

namespace Go.Proofs.Ytkocompjjogciaa
open Go.RowKit Go.Maps Go.WideShapes

theorem plc_first {k : Nat} (hk : k ≤ 4) : plc k 0 = .agg #[.bool false, .bool false, .bool false, .bool false, .bool false, .bool false, .bool false, .bool false, .bool false] := by
  have h : k = 0 ∨ k = 1 ∨ k = 2 ∨ k = 3 ∨ k = 4 := by omega
  rcases h with rfl | rfl | rfl | rfl | rfl <;> rfl
theorem plc_last {k : Nat} (h1 : 1 ≤ k) (hk : k ≤ 4) : plcC k (2 * 2 ^ (2 * k) - 1) = place9 (firstN (2 * k)) true := by
  have h : k = 1 ∨ k = 2 ∨ k = 3 ∨ k = 4 := by omega
  rcases h with rfl | rfl | rfl | rfl <;> rfl
theorem first_mem (k : Nat) : 0 ∈ sts k := sts_mem.2 (by have := Nat.two_pow_pos (2 * k); omega)
noncomputable def fewN (k q : Nat) : Int := (lk (finP k q (2 * 2 ^ (2 * k) - 1)).1 0).getD 0
noncomputable def fewB (k q : Nat) : Bool := (lk (finP k q (2 * 2 ^ (2 * k) - 1)).1 0).isSome
noncomputable def fewI (a b : Int) : Int := if isCo a b then fewN a.toNat b.toNat else 0
noncomputable def fewO (a b : Int) : Bool := isCo a b && fewB a.toNat b.toNat
/-- How many states are reached. -/
noncomputable def reachN (k q : Nat) : Nat := ((sts k).filter fun x => (lk (finP k q 0).1 x).isSome).length
noncomputable def reachI (a b : Int) : Int := if isCo a b then (reachN a.toNat b.toNat : Nat) else 0

end Go.Proofs.Ytkocompjjogciaa

namespace Go.Proofs.Ytkocompjjogciaa
open Go.ChangeShapes Go.WideShapes Go.ChangeAt Go.RowKit Go.Joins

theorem own : ownKnob Try.prog.godebug = none := by kernel_rfl
theorem laidOut : laidOutB Try.prog = true := by kernel_rfl
theorem cells_party : Try.prog.cellsOf 24 = 2 := by kernel_rfl

theorem cells_state : Try.prog.cellsOf 27 = 2 := by kernel_rfl

theorem holds_row {w : World} {x : Addr} {len : Nat} {zs : List Int} (hl : len ≤ zs.length) (hc : ∀ i, i < zs.length → w.cell? (x.add i) = some (.int .i64 (zs.getD i 0))) : Holds w (some x) (nums (zs.take len)) := by
  by_cases h0 : len = 0
  · subst h0; exact .inl rfl
  · obtain ⟨b, o, spot⟩ := x
    have hf := hc 0 (by omega)
    have hs : spot = none := by simpa [Addr.add] using World.cell?_spot hf
    subst hs
    refine .inr ⟨b, o, rfl, ?_, fun j u hu => ?_⟩
    · rcases Nat.lt_or_ge b w.heap.size with h | h
      · exact h
      · have : w.cell? ((⟨b, o, none⟩ : Addr).add 0) = none := by simp [World.cell?, Addr.add, Array.getElem?_eq_none h]
        rw [this] at hf; cases hf
    · have hj : j < len := by
        have h := List.getElem?_eq_some_iff.1 hu
        obtain ⟨h, -⟩ := h
        rw [nums_len, List.length_take] at h
        omega
      have h := hc j (by omega)
      rw [show (⟨b, o + j, none⟩ : Addr) = (⟨b, o, none⟩ : Addr).add j from by unfold Addr.add; split <;> simp_all, h]
      simp only [nums, List.getElem?_map, List.getElem?_take, hj, if_true] at hu
      rw [← hu, List.getD_eq_getElem?_getD, List.getElem?_eq_getElem (show j < zs.length by omega)]
      rfl

set_option maxRecDepth 100000 in
theorem open_nums {H : Type} {enc : TypeId × Value → H} {W : World} {n : Nat} {c : Value} {y : DataW H × List MemPlace} (h : DataW.trod enc Try.prog W 0 (fun _ => true) true n 22 [c] = some y) :
    ∃ (A : Option Addr) (len cap : Nat) (xs : List Int), c = .slice A len cap ∧ Holds W A (nums xs) ∧ xs.length = len ∧ len ≤ 9223372036854775807 := by
  rcases open_ints Try.underlying22 Try.underlying3 (by kernel_rfl) h with ⟨hcs, _⟩ | ⟨x, l, cp, zs, hcs, _, hl, hm, hz, _, hcell, _⟩
  · simp only [List.cons.injEq, and_true] at hcs
    exact ⟨none, 0, 0, [], hcs, .inl rfl, rfl, by omega⟩
  · simp only [List.cons.injEq, and_true] at hcs
    have hz' : zs.length = cp := by simpa using hz
    unfold maxLen at hm
    exact ⟨some x, l, cp, zs.take l, hcs, holds_row (by omega) hcell, by simp; omega, by omega⟩

set_option maxRecDepth 100000 in
theorem open_party {H : Type} {enc : TypeId × Value → H} {W : World} {base : Nat} {v : Value} {d : DataW H} {p : List MemPlace} (hv : Value.okWide Try.prog W .any base 24 v)
    (h : DataW.Trod enc Try.prog W 0 (fun _ => true) true 24 v d p) :
    ∃ (A : Option Addr) (n c : Nat) (xs : List Int) (s : Int), v = .agg #[.slice A n c, .int .i64 s] ∧ Holds W A (nums xs) ∧ xs.length = n ∧ n ≤ 9223372036854775807 := by
  obtain ⟨c0, c1, y0, y1, m, rfl, rfl, rfl, hy0, hy1⟩ := open_agg2 Try.underlying24 (by kernel_rfl) cells_party hv h
  obtain ⟨s, e1, -, -⟩ := DataW.trod_int Try.underlying3 hy1
  simp only [List.cons.injEq, and_true] at e1
  obtain ⟨A, n, c, xs, rfl, hA, hx, hn⟩ := open_nums hy0
  exact ⟨A, n, c, xs, s, by rw [e1], hA, hx, hn⟩

theorem holds_bits {w : World} {x : Addr} {len : Nat} {zs : List Bool} (hl : len ≤ zs.length) (hc : ∀ i, i < zs.length → w.cell? (x.add i) = some (.bool (zs.getD i false))) : Holds w (some x) (bits (zs.take len)) := by
  by_cases h0 : len = 0
  · subst h0; exact .inl rfl
  · obtain ⟨b, o, spot⟩ := x
    have hf := hc 0 (by omega)
    have hs : spot = none := by simpa [Addr.add] using World.cell?_spot hf
    subst hs
    refine .inr ⟨b, o, rfl, ?_, fun j u hu => ?_⟩
    · rcases Nat.lt_or_ge b w.heap.size with h | h
      · exact h
      · have : w.cell? ((⟨b, o, none⟩ : Addr).add 0) = none := by simp [World.cell?, Addr.add, Array.getElem?_eq_none h]
        rw [this] at hf; cases hf
    · have hj : j < len := by
        have h := List.getElem?_eq_some_iff.1 hu
        obtain ⟨h, -⟩ := h
        rw [bits_len, List.length_take] at h
        omega
      have h := hc j (by omega)
      rw [show (⟨b, o + j, none⟩ : Addr) = (⟨b, o, none⟩ : Addr).add j from by unfold Addr.add; split <;> simp_all, h]
      simp only [bits, List.getElem?_map, List.getElem?_take, hj, if_true] at hu
      rw [← hu, List.getD_eq_getElem?_getD, List.getElem?_eq_getElem (show j < zs.length by omega)]
      rfl

set_option maxRecDepth 100000 in
theorem open_bits {H : Type} {enc : TypeId × Value → H} {W : World} {n : Nat} {c : Value} {y : DataW H × List MemPlace} (h : DataW.trod enc Try.prog W 0 (fun _ => true) true n 25 [c] = some y) :
    ∃ (A : Option Addr) (len cap : Nat) (xs : List Bool), c = .slice A len cap ∧ Holds W A (bits xs) ∧ xs.length = len ∧ len ≤ 9223372036854775807 := by
  rcases Go.Deep.open_bools Try.underlying25 Try.underlying4 (by kernel_rfl) h with ⟨hcs, _⟩ | ⟨x, l, cp, f, hcs, _, hl, hm, _, hcell⟩
  · simp only [List.cons.injEq, and_true] at hcs
    exact ⟨none, 0, 0, [], hcs, .inl rfl, rfl, by omega⟩
  · simp only [List.cons.injEq, and_true] at hcs
    unfold maxLen at hm
    have hz' : ((List.range cp).map f).length = cp := by simp
    exact ⟨some x, l, cp, ((List.range cp).map f).take l, hcs, holds_bits (by omega) (fun i hi => by
      have hi' : i < cp := by omega
      rw [hcell i hi']
      simp [List.getD_eq_getElem?_getD, hi']), by simp; omega, by omega⟩

set_option maxRecDepth 100000 in
theorem open_state {H : Type} {enc : TypeId × Value → H} {W : World} {base : Nat} {v : Value} {d : DataW H} {p : List MemPlace} (hv : Value.okWide Try.prog W .any base 27 v)
    (h : DataW.Trod enc Try.prog W 0 (fun _ => true) true 27 v d p) :
    ∃ (A : Option Addr) (n c : Nat) (xs : List Bool) (s : Bool), v = .agg #[.slice A n c, .bool s] ∧ Holds W A (bits xs) ∧ xs.length = n ∧ n ≤ 9223372036854775807 := by
  obtain ⟨c0, c1, y0, y1, m, rfl, rfl, rfl, hy0, hy1⟩ := open_agg2 Try.underlying27 (by kernel_rfl) cells_state hv h
  obtain ⟨s, e1, -⟩ := DataW.trod_bool Try.underlying4 hy1
  simp only [List.cons.injEq, and_true] at e1
  obtain ⟨A, n, c, xs, rfl, hA, hx, hn⟩ := open_bits hy0
  exact ⟨A, n, c, xs, s, by rw [e1], hA, hx, hn⟩

set_option maxRecDepth 100000 in
theorem open_list {H : Type} {enc : TypeId × Value → H} {W : World} {base : Nat} {v : Value} {d : DataW H} {p : List MemPlace} (hv : Value.okWide Try.prog W .any base 22 v)
    (h : DataW.Trod enc Try.prog W 0 (fun _ => true) true 22 v d p) :
    ∃ (A : Option Addr) (n c : Nat) (xs : List Int), v = .slice A n c ∧ Holds W A (nums xs) ∧ xs.length = n ∧ n ≤ 9223372036854775807 := by
  obtain ⟨a0, len, cap, rfl⟩ := okWide_slice Try.underlying22 hv
  obtain ⟨fuel, hf⟩ := h
  exact open_nums (by simpa [Value.cells] using hf)
end Go.Proofs.Ytkocompjjogciaa

namespace Go.Proofs.Ytkocompjjogciaa
open Go.ChangeShapes Go.WideShapes Go.ChangeAt Go.RowKit Go.Joins

set_option maxRecDepth 100000 in
theorem open_whole {H : Type} {enc : TypeId × Value → H} {W : World} {base : Nat} {v : Value} {d : DataW H} {p : List MemPlace} (hv : Value.okWide Try.prog W .any base 3 v)
    (h : DataW.Trod enc Try.prog W 0 (fun _ => true) true 3 v d p) : ∃ k : Int, v = .int .i64 k ∧ -9223372036854775808 ≤ k ∧ k ≤ 9223372036854775807 := by
  obtain ⟨n, rfl, -, -, hw⟩ := open_int Try.underlying3 hv h
  simp only [Lit.wf, Bool.and_eq_true, decide_eq_true_eq] at hw
  exact ⟨n, rfl, hw.1, hw.2⟩

theorem holds_fn {w : World} {x : Addr} {len cap : Nat} {f : Nat → Value} (hl : len ≤ cap) (hc : ∀ i, i < cap → w.cell? (x.add i) = some (f i)) : Holds w (some x) ((List.range len).map f) := by
  by_cases h0 : len = 0
  · subst h0; exact .inl rfl
  · obtain ⟨b, o, spot⟩ := x
    have hf := hc 0 (by omega)
    have hs : spot = none := by simpa [Addr.add] using World.cell?_spot hf
    subst hs
    refine .inr ⟨b, o, rfl, ?_, fun j u hu => ?_⟩
    · rcases Nat.lt_or_ge b w.heap.size with h | h
      · exact h
      · have : w.cell? ((⟨b, o, none⟩ : Addr).add 0) = none := by simp [World.cell?, Addr.add, Array.getElem?_eq_none h]
        rw [this] at hf; cases hf
    · have hj : j < len := by
        have h := List.getElem?_eq_some_iff.1 hu
        obtain ⟨h, -⟩ := h
        simpa using h
      have h := hc j (by omega)
      rw [show (⟨b, o + j, none⟩ : Addr) = (⟨b, o, none⟩ : Addr).add j from by unfold Addr.add; split <;> simp_all, h]
      simp only [List.getElem?_map, List.getElem?_range hj, Option.map_some] at hu
      exact hu

set_option maxRecDepth 100000 in
theorem open_grid {H : Type} {enc : TypeId × Value → H} {W : World} {base : Nat} {v : Value} {d : DataW H} {p : List MemPlace} (hv : Value.okWide Try.prog W .any base 28 v)
    (h : DataW.Trod enc Try.prog W 0 (fun _ => true) true 28 v d p) :
    ∃ (A : Option Addr) (n c : Nat) (rs : List RowV), v = .slice A n c ∧ Grid W A rs ∧ rs.length = n ∧ n ≤ 9223372036854775807 := by
  obtain ⟨a0, len0, cap0, rfl⟩ := okWide_slice Try.underlying28 hv
  obtain ⟨fuel, hf⟩ := h
  have hf' : DataW.trod enc Try.prog W 0 (fun _ => true) true fuel 28 [.slice a0 len0 cap0] = some (d, p) := by simpa [Value.cells] using hf
  rcases Go.Deep.open_int_rows Try.underlying28 Try.underlying22 Try.underlying3 (by kernel_rfl) (by kernel_rfl) hf' with ⟨hcs, _⟩ | ⟨a, len, cap, A, L, C, Z, hcs, _, hl, hm, _, hrow⟩
  · simp only [List.cons.injEq, and_true] at hcs
    exact ⟨none, 0, 0, [], hcs, ⟨.inl rfl, fun r hr => by cases hr⟩, rfl, by omega⟩
  · simp only [List.cons.injEq, and_true] at hcs
    unfold maxLen at hm
    refine ⟨some a, len, cap, (List.range len).map fun r => ⟨A r, L r, C r, (Z r).take (L r)⟩, hcs, ⟨?_, fun r hr => ?_⟩, by simp, by omega⟩
    · have h1 := holds_fn (f := fun r => Value.slice (A r) (L r) (C r)) hl (fun i hi => (hrow i hi).1)
      simpa [rowVals, RowV.val, Function.comp_def] using h1
    · simp only [List.mem_map, List.mem_range] at hr
      obtain ⟨j, hj, rfl⟩ := hr
      obtain ⟨-, hLC, hCm, hZ, -, hnone, hsome⟩ := hrow j (by omega)
      unfold maxLen at hCm
      refine ⟨?_, by simp; omega, by show L j ≤ _; omega⟩
      show Holds W (A j) (nums ((Z j).take (L j)))
      cases hA : A j with
      | none =>
        have h0 := hnone hA
        have : Z j = [] := List.eq_nil_of_length_eq_zero (by omega)
        rw [this]
        exact .inl (by simp [nums])
      | some a' => exact holds_row (by omega) (fun i hi => (hsome a' hA).2 i (by omega))
end Go.Proofs.Ytkocompjjogciaa

namespace Go.Proofs.Ytkocompjjogciaa
open Go.ChangeShapes Go.WideShapes Go.ChangeAt Go.RowKit Go.Joins

theorem cells_crew : Try.prog.cellsOf 32 = 3 := by kernel_rfl

set_option maxRecDepth 100000 in
theorem open_crew {H : Type} {enc : TypeId × Value → H} {W : World} {base : Nat} {v : Value} {d : DataW H} {p : List MemPlace} (hv : Value.okWide Try.prog W .any base 32 v)
    (h : DataW.Trod enc Try.prog W 0 (fun _ => true) true 32 v d p) :
    ∃ (A : Option Addr) (n c : Nat) (xs : List Int) (B : Option Addr) (m d : Nat) (bs : List Bool) (s : Int), v = .agg #[.slice A n c, .slice B m d, .int .i64 s] ∧ Holds W A (nums xs) ∧ xs.length = n ∧ n ≤ 9223372036854775807 ∧ Holds W B (bits bs) ∧ bs.length = m ∧ m ≤ 9223372036854775807 := by
  obtain ⟨c0, c1, c2, y0, y1, y2, m, rfl, rfl, rfl, hy0, hy1, hy2⟩ := open_agg3 Try.underlying32 (by kernel_rfl) cells_crew hv h
  obtain ⟨s, e2, -, -⟩ := DataW.trod_int Try.underlying3 hy2
  simp only [List.cons.injEq, and_true] at e2
  obtain ⟨A, n, c, xs, rfl, hA, hx, hn⟩ := open_nums hy0
  obtain ⟨B, m, d, bs, rfl, hB, hy, hm⟩ := open_bits hy1
  exact ⟨A, n, c, xs, B, m, d, bs, s, by rw [e2], hA, hx, hn, hB, hy, hm⟩
end Go.Proofs.Ytkocompjjogciaa

namespace Go.Proofs.Ytkocompjjogciaa
open Go.RowKit Go.Maps

theorem up_wide {n m : Nat} {l : List Int} (h : l ∈ upLists n n) (hm : n ≤ m) : l ∈ upLists m m := by
  obtain ⟨h1, h2, h3⟩ := mem_up.1 h
  refine mem_up.2 ⟨fun j hj => ?_, h2, by omega⟩
  obtain ⟨a, b, c⟩ := h1 j hj
  exact ⟨a, by omega, c⟩
/-- The model's number of a state. -/
def phi (p x : Nat) : Nat := num (bitsOf (x / 2) p) (bitAt x 0).toNat
theorem code_of_small {p x : Nat} (hx : x / 2 < 2 ^ p) : codeOf (bitsOf (x / 2) p) (bitAt x 0) = x := by
  refine nat_bits fun i => ?_
  rw [bit_code, bitsOf_len]
  by_cases h0 : i = 0
  · subst h0; simp
  · rw [if_neg h0]
    obtain ⟨j, rfl⟩ : ∃ j, i = j + 1 := ⟨i - 1, by omega⟩
    rw [Nat.add_sub_cancel, ← bit_half]
    by_cases hj : j < p
    · simp [bitsOf, hj]
    · have hlt : x / 2 < 2 ^ j := Nat.lt_of_lt_of_le hx (Nat.pow_le_pow_right (by omega) (by omega))
      have hz : bitAt (x / 2) j = false := by unfold bitAt; exact Nat.testBit_lt_two_pow hlt
      rw [hz]; simp [hj]
theorem phi_digits (p x : Nat) : digits p (phi p x) = bitsOf (x / 2) p := by
  have h := digits_num (bitsOf (x / 2) p) (bitAt x 0).toNat
  rw [bitsOf_len] at h
  exact h
theorem phi_top (p x : Nat) : topBit p (phi p x) = bitAt x 0 := by
  have h := num_head (bitsOf (x / 2) p) (bitAt x 0).toNat
  rw [bitsOf_len] at h
  rw [topBit, phi, h]
  cases bitAt x 0 <;> rfl
theorem phi_inj {p x y : Nat} (hx : x / 2 < 2 ^ p) (hy : y / 2 < 2 ^ p) (h : phi p x = phi p y) : x = y := by
  have h1 := phi_digits p x
  have h2 := phi_top p x
  rw [h, phi_digits] at h1
  rw [h, phi_top] at h2
  rw [← code_of_small hx, ← h1, ← h2]
  exact code_of_small hy
theorem phi_lt (p x : Nat) : phi p x < 2 ^ (p + 1) := by
  have h := num_lt (bitsOf (x / 2) p) (bitAt x 0)
  rw [bitsOf_len] at h
  exact h
theorem bitsOf_getD {m n i : Nat} (h : i < n) : (bitsOf m n).getD i false = bitAt m i := by simp [bitsOf, h]
theorem rides_pad {p x : Nat} {L : List (List Int)} (hp : p ≤ 8) (hup : ∀ l ∈ L, l ∈ upLists p p) : ridesAt (bitsOf (x / 2) p) (bitAt x 0) L = mvsW 4 L x := by
  refine List.filter_congr fun l hl => ?_
  have hs := (up_steps (hup l hl)).1
  rw [Bool.eq_iff_iff, allAt, allAt, List.all_eq_true, List.all_eq_true]
  refine forall_congr' fun k => forall_congr' fun hk => ?_
  have hb := mem_steps hs hk
  rw [bitsOf_getD (show k.toNat < p by omega), bitsOf_getD (show k.toNat < 2 * 4 by omega)]
theorem phi_step {p x : Nat} {l : List Int} (hx : x / 2 < 2 ^ p) (hl : l ∈ upLists p p) : num (flipped (bitsOf (x / 2) p) l) (!bitAt x 0).toNat = phi p (stepC x l) ∧ stepC x l / 2 < 2 ^ p := by
  have hs := (up_steps hl).1
  have h1 := step_code (t := bitAt x 0) (bitsOf_len (x / 2) p) (fun y hy => by have := mem_steps hs hy; omega : ∀ y ∈ l, 0 ≤ y ∧ y < (p : Int))
  rw [code_of_small hx] at h1
  have hfl : (flipped (bitsOf (x / 2) p) l).length = p := by rw [flipped_len, bitsOf_len]
  refine ⟨by rw [phi, h1, bits_back hfl, torch_back], ?_⟩
  rw [h1]
  have h2 := code_lt (flipped (bitsOf (x / 2) p) l) (!bitAt x 0)
  rw [hfl] at h2
  exact h2
theorem mvsW_up {p x : Nat} {L : List (List Int)} (hup : ∀ l ∈ L, l ∈ upLists p p) {l : List Int} (hl : l ∈ mvsW 4 L x) : l ∈ upLists p p := hup l (List.mem_filter.1 hl).1
end Go.Proofs.Ytkocompjjogciaa

namespace Go.Proofs.Ytkocompjjogciaa
open Go.RowKit Go.Maps Go.WideShapes

theorem crew_up8 {xs : List Int} {bs : List Bool} {s : Int} (h7 : xs.length ≤ 7) : ∀ l ∈ crewLists xs bs s, l ∈ upLists (2 * 4) (2 * 4) := fun _ hl => up_wide (crew_up hl) (by omega)
theorem w9f_of {w : World} {g p gL : Nat} {t : TypeId} (h : Whole w g t (crewCells p gL)) : w.cell? ⟨g, 0, none⟩ = some (.bool false) ∧ w.cell? ⟨g, 1, none⟩ = some (.bool false) ∧ w.cell? ⟨g, 2, none⟩ = some (.bool false) ∧ w.cell? ⟨g, 3, none⟩ = some (.bool false) ∧ w.cell? ⟨g, 4, none⟩ = some (.bool false) ∧ w.cell? ⟨g, 5, none⟩ = some (.bool false) ∧ w.cell? ⟨g, 6, none⟩ = some (.bool false) ∧ w.cell? ⟨g, 7, none⟩ = some (.bool false) ∧ w.cell? ⟨g, 8, none⟩ = some (.bool false) := ⟨h.cell 0, h.cell 1, h.cell 2, h.cell 3, h.cell 4, h.cell 5, h.cell 6, h.cell 7, h.cell 8⟩
/-- How many states a crew reaches. -/
noncomputable def reachL (xs : List Int) (bs : List Bool) (s : Int) : Nat := countIs (sts 4) (lk (finW 4 (crewLists xs bs s) 0).1)
noncomputable def reachW (xs : List Int) (bs : List Bool) (m : Nat) (s : Int) : Int := if isCrew xs m s then (reachL xs bs s : Int) else 0

set_option maxHeartbeats 6400000 in
set_option maxRecDepth 100000 in
set_option linter.unusedSimpArgs false in
theorem implReachW_any (A : Option Addr) (n : Nat) (B : Option Addr) (m d : Nat) (xs : List Int) (bs : List Bool) (s : Int) (w : World) (hA : Holds w A (nums xs)) (hB : Holds w B (bits bs)) (hx : xs.length = n) (hy : bs.length = m) (hn : n ≤ 9223372036854775807) :
    Calls Try.prog 53 #[.agg #[.slice A n n, .slice B m d, .int .i64 s]] w fun e w' => e = .returned (.tuple #[.int .i64 (reachW xs bs m s), .bool (isCrew xs m s)]) ∧ Below w.heap.size w w' := by
  have HX := Lib.hid hx
  have HY := Lib.hid hy
  have hc := Whole.fresh w 40 #[.slice A n n, .slice B m d, .int .i64 s]
  have ht := below1 w (.cells #[.slice A n n, .slice B m d, .int .i64 s] 40)
  have hic := isCrew_any A n n B m d xs s _ (hA.below ht) HX.out hn
  cases h1 : isCrew xs m s
  · have HV : Hid (reachW xs bs m s = 0) := by show _ = _; simp [reachW, h1]
    have H1 := Lib.hid h1
    clear h1
    go_enter Try.func53, Try.ntmps53
    go_wp2_with fail
    refine hic.mono ?_
    clear hic
    rintro e w1 ⟨rfl, hb⟩
    rw [H1.out]
    replace ht := below_then ht hb (by simp)
    clear hb hc
    go_wp2
    go_ret2
    exact ⟨by rw [HV.out]; rfl, ht⟩
  · have hok := isCrew_ok h1
    have hn7 : n ≤ 7 := by have := hok.seven; omega
    have hn1 : 1 ≤ n := by have := hok.one; omega
    have hm8 : m ≤ 8 := by have := hok.rows; omega
    have HW := Lib.hid hok.weights
    have HSM := Lib.hid (crew_small (xs := xs) bs s (by omega))
    have HUP := Lib.hid (crew_up8 (xs := xs) (bs := bs) (s := s) (by omega))
    have HV : Hid (reachW xs bs m s = (countIs (sts 4) (lk (finW 4 (crewLists xs bs s) 0).1) : Nat)) := by show _ = _; simp [reachW, h1]; rfl
    have H1 := Lib.hid h1
    clear h1 hok hx hy
    obtain ⟨L, hL⟩ : ∃ L, L = crewLists xs bs s := ⟨_, rfl⟩
    have HL := Lib.hid hL
    rw [← HL.out] at HSM HUP HV
    clear hL
    go_enter Try.func53, Try.ntmps53
    go_wp2_with fail
    refine hic.mono ?_
    clear hic
    rintro e w1 ⟨rfl, hb⟩
    rw [H1.out]
    replace ht := below_then ht hb (by simp)
    replace hc := hc.below hb
    clear hb
    obtain ⟨c0, c1, c2⟩ := hc.cells3
    have hlw := hc.lt
    go_wp2_with fail
    have hcr := crewRiver_any A n B m d xs bs s w1 (hA.below ht) (hB.below ht) HX.out HY.out hn1 hn7 hm8 HW.out
    rw [← HL.out] at hcr
    refine hcr.mono ?_
    clear hcr
    rintro e w2 ⟨gL, g, E, c, rfl, hF, hb⟩
    replace ht := below_then ht hb ht.size
    have HLO := Lib.hid ht.size
    clear hb c0 c1 c2 hc hlw
    have hz := Whole.fresh w2 119 riverZero
    replace hF := hF.alloc (.cells riverZero 119)
    replace ht := ht.alloc ht.size (.cells riverZero 119)
    have htl := hz.lt
    unfold riverZero at hz hF ht htl
    go_wp2_with (first | (refine wpList_store_whole rfl 119 (.tmp 4) (.tmp 9) rfl w2.heap.size (crewCells n gL) rfl rfl 119 _ hz size_river rfl (crew_one _ _) ?_; intro w7 hw7 ho7; obtain ⟨s0, s1, s2, s3, s4, s5, s6, s7, s8⟩ := w9f_of hw7; have hl7 := hw7.lt) | (refine wpList_load_row rfl 119 (.tmp 4) rfl w2.heap.size rfl 119 (crewCells n gL) (0, 0) _ hw7 Try.underlying119 rfl size_river ?_))
    have hF7 : RidesFn w7 (loadOf xs) gL g E c L := by
      have hne : ∀ {x : Nat} {ty : TypeId} {cs : Array Value}, Whole (w2.alloc _) x ty cs → ty ≠ 119 → x ≠ w2.heap.size := fun h hn => whole_ne h hz hn
      exact ⟨ho7.whole hF.gr (hne hF.gr (by decide)), own_only hF.own ho7 hz (by decide)⟩
    replace ht := ho7.below ht (by have := HLO.out; omega)
    have hma := movesApartW_any (loadOf xs) 4 n gL g E c 0 L w7 (by omega) HSM.out HUP.out (first_mem 4) hF7
    rw [show plcC 4 0 = #[.bool false, .bool false, .bool false, .bool false, .bool false, .bool false, .bool false, .bool false, .bool false] from by have h := plc_first (k := 4) (by omega); rw [plc] at h; exact Value.agg.inj h] at hma
    refine hma.mono ?_
    clear hma
    rintro e w3 ⟨b, rfl, hM, hb⟩
    replace ht := below_then ht hb ht.size
    clear hb hF
    go_wp2_with (at_len; refine wpList_map_len _ rfl _ rfl (place_keys (by omega)) (sts_nodup 4) Try.underlying148 rfl hM ?_)
    go_ret2
    exact ⟨by rw [HV.out]; rfl, ht⟩
end Go.Proofs.Ytkocompjjogciaa

namespace Go.Proofs.Ytkocompjjogciaa
open Go.RowKit Go.Maps

/-- The states that are told, in order. -/
def qOf (m : List (Nat × Int)) : List Nat := (m.map Prod.fst).reverse
theorem qOf_new (m : List (Nat × Int)) (y : Nat) (v : Int) : qOf ((y, v) :: m) = qOf m ++ [y] := by simp [qOf]
theorem lk_known : ∀ {m : List (Nat × Int)} {y : Nat} {v : Int}, lk m y = some v → y ∈ m.map Prod.fst
  | [], y, v, h => by cases h
  | (a, b) :: m, y, v, h => by
    rw [lk_cons] at h
    by_cases hq : y = a
    · subst hq; exact List.mem_cons_self ..
    · have h' : lk m y = some v := by simpa [put, hq] using h
      exact List.mem_cons_of_mem _ (lk_known h')
/-- The model's queue. -/
def qN (p : Nat) (m : List (Nat × Int)) : List Int := (qOf m).map fun z => ((phi p z : Nat) : Int)
theorem qN_new (p : Nat) (m : List (Nat × Int)) (y : Nat) (v : Int) : qN p ((y, v) :: m) = qN p m ++ [((phi p y : Nat) : Int)] := by simp [qN, qOf_new]
theorem qN_len (p : Nat) (m : List (Nat × Int)) : (qN p m).length = m.length := by simp [qN, qOf]
theorem has_known {p y : Nat} {m : List (Nat × Int)} {v : Int} (h : lk m y = some v) : hasK (qN p m) ((phi p y : Nat) : Int) = true := by
  unfold hasK
  rw [List.contains_iff_mem]
  exact List.mem_map.2 ⟨y, by simpa [qOf] using lk_known h, rfl⟩
theorem has_fresh {p y : Nat} {m : List (Nat × Int)} (hs : ∀ z ∈ qOf m, z / 2 < 2 ^ p) (hy : y / 2 < 2 ^ p) (h : lk m y = none) : hasK (qN p m) ((phi p y : Nat) : Int) = false := by
  rw [Bool.eq_false_iff]
  intro hc
  unfold hasK at hc
  rw [List.contains_iff_mem] at hc
  obtain ⟨z, hz, he⟩ := List.mem_map.1 hc
  have he' : phi p z = phi p y := by exact_mod_cast he
  obtain rfl := phi_inj (hs z hz) hy he'
  exact lk_none h (by simpa [qOf] using hz)
/-- The model's queue beside the program's search. -/
structure QIs (p n : Nat) (st : SeaSt) : Prop where
  small : ∀ z ∈ qOf st.1, z / 2 < 2 ^ p
  drop : st.2 = (qOf st.1).drop n
theorem QIs.step {p n x : Nat} {st : SeaSt} {l : List Int} (h : QIs p n st) (hn : n ≤ (qOf st.1).length) (hy : stepC x l / 2 < 2 ^ p) : QIs p n (stepP x st l) ∧ n ≤ (qOf (stepP x st l).1).length := by
  cases hs : lk st.1 (stepC x l) with
  | some v => rw [stepP_some hs]; exact ⟨h, hn⟩
  | none =>
    rw [stepP_none hs]
    refine ⟨⟨fun z hz => ?_, ?_⟩, ?_⟩
    · rw [qOf_new] at hz
      rcases List.mem_append.1 hz with hz | hz
      · exact h.small z hz
      · obtain rfl : z = stepC x l := by simpa using hz
        exact hy
    · rw [qOf_new, List.drop_append_of_le_length hn, ← h.drop]
    · rw [qOf_new, List.length_append]; omega
theorem QIs.exp {p n x : Nat} : ∀ (ls : List (List Int)) {st : SeaSt}, QIs p n st → n ≤ (qOf st.1).length → (∀ l ∈ ls, stepC x l / 2 < 2 ^ p) → QIs p n (ls.foldl (stepP x) st) ∧ n ≤ (qOf (ls.foldl (stepP x) st).1).length
  | [], _, h, hn, _ => ⟨h, hn⟩
  | l :: ls, st, h, hn, hl => by
    obtain ⟨h1, h2⟩ := h.step hn (hl l (List.mem_cons_self ..))
    exact QIs.exp ls h1 h2 fun m hm => hl m (List.mem_cons_of_mem _ hm)
theorem QIs.run {p : Nat} {L : List (List Int)} (hup : ∀ l ∈ L, l ∈ upLists p p) : ∀ n, QIs p n (runW 4 L 0 n)
  | 0 => ⟨fun z hz => by obtain rfl : z = 0 := by simpa [runW, qOf] using hz
                         simpa using Nat.two_pow_pos p, by simp [runW, qOf]⟩
  | n + 1 => by
    have h := QIs.run hup n
    rw [runW_next]
    cases hq : (runW 4 L 0 n).2 with
    | nil =>
      rw [nextW_nil hq]
      refine ⟨h.small, ?_⟩
      have h2 := h.drop
      rw [hq] at h2
      have h3 : (qOf (runW 4 L 0 n).1).length ≤ n := List.drop_eq_nil_iff.1 h2.symm
      rw [hq, List.drop_eq_nil_of_le (by omega)]
    | cons x r =>
      rw [nextW_at hq]
      have h2 := h.drop
      rw [hq] at h2
      have hn : n < (qOf (runW 4 L 0 n).1).length := by
        rcases Nat.lt_or_ge n (qOf (runW 4 L 0 n).1).length with h3 | h3
        · exact h3
        · rw [List.drop_eq_nil_of_le h3] at h2; cases h2
      have hx : x / 2 < 2 ^ p := h.small x (List.mem_of_mem_drop (by rw [← h2]; exact List.mem_cons_self ..))
      obtain ⟨h4, h5⟩ := QIs.exp (x := x) (mvsW 4 L x) h (by omega) (fun l hl => (phi_step hx (mvsW_up hup hl)).2)
      refine ⟨h4.small, ?_⟩
      show (expW 4 L x (runW 4 L 0 n)).2.tail = _
      have h6 : (expW 4 L x (runW 4 L 0 n)).2 = (qOf (expW 4 L x (runW 4 L 0 n)).1).drop n := h4.drop
      rw [h6, List.tail_drop]
theorem count_len {dom : List Nat} {m : List (Nat × Int)} (hd : dom.Nodup) (h1 : (m.map Prod.fst).Nodup) (h2 : ∀ q ∈ m, q.1 ∈ dom) : countIs dom (lk m) = m.length := by
  have ha : (dom.filter fun a => (lk m a).isSome).length ≤ (m.map Prod.fst).length := sub_len (hd.filter _) fun y hy => by
    obtain ⟨-, h⟩ := List.mem_filter.1 hy
    obtain ⟨v, hv⟩ := Option.isSome_iff_exists.1 h
    exact lk_known hv
  have hb : (m.map Prod.fst).length ≤ (dom.filter fun a => (lk m a).isSome).length := sub_len h1 fun y hy => by
    obtain ⟨q, hq, rfl⟩ := List.mem_map.1 hy
    refine List.mem_filter.2 ⟨h2 q hq, ?_⟩
    cases hn : lk m q.1 with
    | some v => rfl
    | none => exact absurd hy (lk_none hn)
  rw [List.length_map] at ha hb
  unfold countIs
  omega
/-- What the model counts is what the program counts. -/
theorem reach_len {xs : List Int} {bs : List Bool} {s : Int} (h7 : xs.length ≤ 7) {n : Nat} (hn : n ≤ turns 4) (hq : (runW 4 (crewLists xs bs s) 0 n).2 = []) : reachL xs bs s = (runW 4 (crewLists xs bs s) 0 n).1.length := by
  have hst := runW_stay hq (turns 4 - n)
  rw [show n + (turns 4 - n) = turns 4 by omega] at hst
  have hL := crew_small (xs := xs) bs s h7
  have hup := crew_up8 (xs := xs) (bs := bs) (s := s) h7
  have hc := count_run hup (first_mem 4) (fun n y hy => (mild_runW hL hup (first_mem 4) n).dom y hy) n
  rw [reachL, finW, hst]
  exact count_len (sts_nodup 4) hc.nodup hc.dom
end Go.Proofs.Ytkocompjjogciaa

namespace Go.Proofs.Ytkocompjjogciaa
open Go.RowKit

theorem num_zero (n : Nat) : num (bitsOf 0 n) 0 = 0 := by
  have h : bitsOf 0 n = List.replicate n false := by
    refine List.ext_getElem (by simp [bitsOf]) fun i h1 h2 => ?_
    simp [bitsOf, bitAt]
  rw [h]
  clear h
  induction n with
  | zero => rfl
  | succ n ih => rw [List.replicate_succ, num_cons]; exact ih
theorem num_falses (n : Nat) : num (falses n) 0 = 0 := by
  induction n with
  | zero => rfl
  | succ n ih =>
    have h : falses (n + 1) = falses n ++ [false] := by simp [falses, List.replicate_succ']
    rw [h, num_snoc, ih]; rfl

set_option maxHeartbeats 1600000 in
set_option linter.unusedSimpArgs false in
theorem loStart_any (A : Option Addr) (n c : Nat) (B : Option Addr) (m d : Nat) (s : Int) (w : World) (hn : n ≤ 8) :
    Calls Try.prog 108 #[.agg #[.slice A n c, .slice B m d, .int .i64 s]] w fun e w' => e = .returned (.int .i64 0) ∧ Below w.heap.size w w' := by
  have hc := Whole.fresh w 40 #[.slice A n c, .slice B m d, .int .i64 s]
  have ht := below1 w (.cells #[.slice A n c, .slice B m d, .int .i64 s] 40)
  obtain ⟨c0, c1, c2⟩ := hc.cells3
  go_enter Try.func108, Try.ntmps108
  go_wp2_with fail
  refine (loParty_any A n c B m d s _).mono ?_
  rintro e w1 ⟨rfl, hb⟩
  replace ht := below_then ht hb (by simp)
  clear hb c0 c1 c2 hc
  go_wp2_with fail
  refine (paFirst_any A n c 0 _ (by omega)).mono ?_
  rintro e w2 ⟨rfl, hW, hb⟩
  replace ht := below_then ht hb ht.size
  clear hb
  go_wp2_with fail
  have hsi := seIndex_any (some ⟨w1.heap.size + 1 + 1, 0, none⟩) n n (falses n) false w2 (by have h := hW.holds; simpa using h) (by simp [falses]) hn
  rw [show Bool.toNat false = 0 from rfl, num_falses] at hsi
  refine hsi.mono ?_
  clear hsi
  rintro e w3 ⟨rfl, hb⟩
  replace ht := below_then ht hb ht.size
  go_wp2
  go_ret
  exact ⟨ret_of rfl, ht⟩
end Go.Proofs.Ytkocompjjogciaa

namespace Go.Proofs.Ytkocompjjogciaa
open Go.RowKit

/-- Behind the making of a state out of its number. -/
def StMade (bs : List Bool) (t : Bool) (w : World) (v : Value) (wx : World) : Prop :=
  ∃ (gb : Nat) (D : Option Addr) (z : Nat), v = .pointer (some ⟨gb, 0, none⟩) ∧ w.heap.size ≤ gb ∧ Whole wx gb 38 #[.slice D bs.length z, .bool t] ∧ Fresh wx w.heap.size wx.heap.size 4 D (bits bs) ∧ Below w.heap.size w wx

theorem win_holds {w : World} {base n c : Nat} {e : TypeId} {Q : Option Addr} {xs : List Value} (h : Win w base e 1 (.slice Q n c) n xs) : Holds w Q xs := by
  obtain ⟨g, o, cap, hv, -, hl, -, -, hc⟩ := h.cellAt
  obtain ⟨rfl, rfl⟩ : Q = some ⟨g, o, none⟩ ∧ c = cap := by simpa using hv
  exact .inr ⟨g, o, rfl, hl, hc⟩
theorem span_grown {w w' w'' : World} {b : Nat} {row : Option Nat} (h : Span b (b + 1) w w') (hg : w'.grownBy w'' row) (hr : ∀ k, row = some k → k = b ∨ w.heap.size ≤ k) : Span b (b + 1) w w'' :=
  ⟨hg.os.trans h.os, hg.tape.trans h.tape, hg.output.trans h.output, Nat.le_trans h.size hg.size, fun k hk hd => (hg.block k (Nat.lt_of_lt_of_le hk h.size) (fun e => by rcases hr k e.symm with h1 | h1 <;> omega)).trans (h.block k hk hd)⟩
theorem holds_cell {w : World} {b o k : Nat} {xs : List Value} {v : Value} (h : Holds w (some ⟨b, o, none⟩) xs) (hk : xs[k]? = some v) : w.cell? ⟨b, o + k, none⟩ = some v := by
  rcases h with rfl | ⟨b', o', h1, -, h2⟩
  · simp at hk
  · obtain ⟨rfl, rfl⟩ : b = b' ∧ o = o' := by simpa using h1
    exact h2 k v hk

set_option maxHeartbeats 6400000 in
set_option maxRecDepth 100000 in
set_option linter.unusedSimpArgs false in
set_option linter.unusedVariables false in
theorem specReachW_any (A : Option Addr) (n c : Nat) (B : Option Addr) (m d : Nat) (xs : List Int) (bs : List Bool) (s : Int) (w : World) (hA : Holds w A (nums xs)) (hB : Holds w B (bits bs)) (hx : xs.length = n) (hy : bs.length = m) (hn : n ≤ 9223372036854775807) :
    Calls Try.prog 52 #[.agg #[.slice A n c, .slice B m d, .int .i64 s]] w fun e w' => e = .returned (.tuple #[.int .i64 (reachW xs bs m s), .bool (isCrew xs m s)]) ∧ Below w.heap.size w w' := by
  have HX := Lib.hid hx
  have HY := Lib.hid hy
  have hc := Whole.fresh w 40 #[.slice A n c, .slice B m d, .int .i64 s]
  have ht := below1 w (.cells #[.slice A n c, .slice B m d, .int .i64 s] 40)
  obtain ⟨c0, c1, c2⟩ := hc.cells3
  have hlg := loGood_any A n c B m d xs s _ (hA.below ht) HX.out hn
  cases h1 : isCrew xs m s
  · have HV : Hid (reachW xs bs m s = 0) := by show _ = _; simp [reachW, h1]
    have H1 := Lib.hid h1
    clear h1
    go_enter Try.func52, Try.ntmps52
    go_wp2_with fail
    refine hlg.mono ?_
    clear hlg
    rintro e w1 ⟨rfl, hb⟩
    rw [H1.out]
    replace ht := below_then ht hb (by simp)
    clear hb hc c0 c1 c2
    go_wp2
    go_ret2
    exact ⟨by rw [HV.out]; rfl, ht⟩
  · have hok := isCrew_ok h1
    have hn7 : n ≤ 7 := by have := hok.seven; omega
    have hn8 : n ≤ 8 := by omega
    have HOK := Lib.hid hok
    have HV : Hid (reachW xs bs m s = (reachL xs bs s : Nat)) := by show _ = _; simp [reachW, h1]
    have H1 := Lib.hid h1
    have HLEN : Hid (∀ k, k ≤ turns 4 → (runW 4 (crewLists xs bs s) 0 k).2 = [] → reachL xs bs s = (runW 4 (crewLists xs bs s) 0 k).1.length) := fun k hk hq => reach_len (by omega) hk hq
    have HUP : Hid (∀ l ∈ crewLists xs bs s, l ∈ upLists n n) := fun l hl => by have := crew_up hl; rw [hx] at this; exact this
    have HSM := Lib.hid (crew_small (xs := xs) bs s (by omega))
    have hup8 := crew_up8 (xs := xs) (bs := bs) (s := s) (by omega)
    have HCNT : Hid (∀ k, Count 4 k (runW 4 (crewLists xs bs s) 0 k)) := fun k => count_run hup8 (first_mem 4) (fun n y hy => (mild_runW HSM.out hup8 (first_mem 4) n).dom y hy) k
    have HQI : Hid (∀ k, QIs n k (runW 4 (crewLists xs bs s) 0 k)) := fun k => QIs.run HUP.out k
    have HDOM : Hid (∀ k, ∀ y ∈ (runW 4 (crewLists xs bs s) 0 k).2, y ∈ sts 4) := fun k y hy => (mild_runW HSM.out hup8 (first_mem 4) k).dom y hy
    have HUP8 := Lib.hid hup8
    clear h1 hok hup8
    obtain ⟨i0, hi, hz0, hz1, hz2⟩ := info_parts info_int
    have HI := Lib.hid hi
    have HZ0 := Lib.hid hz0
    have HZ1 := Lib.hid hz1
    have HZ2 := Lib.hid hz2
    clear hi hz0 hz1 hz2
    go_enter Try.func52, Try.ntmps52
    go_wp2_with fail
    refine hlg.mono ?_
    clear hlg
    rintro e w1 ⟨rfl, hb⟩
    rw [H1.out]
    replace ht := below_then ht hb (by simp)
    replace hc := hc.below hb
    clear hb c0 c1 c2
    obtain ⟨c0, c1, c2⟩ := hc.cells3
    go_wp2_with fail
    refine (loStart_any A n c B m d s _ hn8).mono ?_
    rintro e w2 ⟨rfl, hb⟩
    replace ht := below_then ht hb ht.size
    replace hc := hc.below hb
    clear hb c0 c1 c2
    have HO0 : Hid (Win (w2.alloc (.cells #[.int .i64 0] 3)) (w.heap.size + 1) 3 1 (.slice (some ⟨w2.heap.size, 0, none⟩) 1 1) 1 (nums (qN n (runW 4 (crewLists xs bs s) 0 0).1))) := by
      have h : Win (w2.alloc (.cells #[.int .i64 0] 3)) (w.heap.size + 1) 3 1 (.slice (some ⟨w2.heap.size, 0, none⟩) 1 1) 1 [.int .i64 0] := Win.made w2 (w.heap.size + 1) 3 #[.int .i64 0] hc.lt
      have h2 : nums (qN n (runW 4 (crewLists xs bs s) 0 0).1) = [.int .i64 0] := by simp [runW, qN, qOf, nums, phi]; rw [show (bitAt 0 0).toNat = 0 from rfl, num_zero]
      show Win _ _ _ _ _ _ _
      rw [h2]
      exact h
    have HC0 := Lib.hid (hc.alloc (.cells #[.int .i64 0] 3))
    have HT0 := Lib.hid (ht.alloc ht.size (.cells #[.int .i64 0] 3))
    clear hc ht
    go_wp2
    go_loopw [4, 5] (fun v i wr => ∃ (k : Nat) (Q : Option Addr) (cq : Nat), k ≤ turns 4 ∧ i = .int .i64 k ∧ v = .slice Q (runW 4 (crewLists xs bs s) 0 k).1.length cq ∧ Win wr (w.heap.size + 1) 3 1 (.slice Q (runW 4 (crewLists xs bs s) 0 k).1.length cq) (runW 4 (crewLists xs bs s) 0 k).1.length (nums (qN n (runW 4 (crewLists xs bs s) 0 k).1)) ∧ Whole wr w.heap.size 40 #[.slice A n c, .slice B m d, .int .i64 s] ∧ Below w.heap.size w wr) (fun _ i _ => turns 4 - (intOf i).toNat)
    case atStart => exact ⟨0, _, 1, Nat.zero_le _, rfl, rfl, HO0.out, HC0.out, HT0.out⟩
    case round =>
      clear HO0 HC0 HT0
      obtain ⟨k, Q, cq, hk, rfl, rfl, hown, hcw, ht⟩ := hrel
      have hct := HCNT.out k
      have hqi := HQI.out k
      have hln : (runW 4 (crewLists xs bs s) 0 k).1.length ≤ 512 := by
        have h := sub_len hct.nodup (b := sts 4) (fun y hy => by obtain ⟨p, hp, rfl⟩ := List.mem_map.1 hy; exact hct.dom p hp)
        rw [List.length_map] at h
        exact h
      have hql : (qOf (runW 4 (crewLists xs bs s) 0 k).1).length = (runW 4 (crewLists xs bs s) 0 k).1.length := by simp [qOf]
      cases hq2 : (runW 4 (crewLists xs bs s) 0 k).2 with
      | nil =>
        have hdr := hqi.drop
        rw [hq2] at hdr
        have hle := List.drop_eq_nil_iff.1 hdr.symm
        rw [hql] at hle
        have HR := Lib.hid (HLEN.out k hk hq2)
        have HB := Lib.hid ht
        clear hown hcw ht hct hqi hdr hq2 hql
        generalize (runW 4 (crewLists xs bs s) 0 k).1.length = ln at hln hle HR ⊢
        have hd : decide ((k : Int) < (ln : Int)) = false := by simp; omega
        go_wp2
        go_ret2
        exact ⟨by rw [HV.out, HR.out]; rfl, HB.out⟩
      | cons x r =>
        have hdr := hqi.drop
        rw [hq2] at hdr
        have hkl : k < (qOf (runW 4 (crewLists xs bs s) 0 k).1).length := by
          rcases Nat.lt_or_ge k (qOf (runW 4 (crewLists xs bs s) 0 k).1).length with h | h
          · exact h
          · rw [List.drop_eq_nil_of_le h] at hdr; cases hdr
        have hxk : (qOf (runW 4 (crewLists xs bs s) 0 k).1)[k] = x := by
          rw [List.drop_eq_getElem_cons hkl] at hdr
          exact (List.cons.inj hdr).1.symm
        have hxs : x / 2 < 2 ^ n := hqi.small x (by rw [← hxk]; exact List.getElem_mem hkl)
        have hx4 : x ∈ sts 4 := HDOM.out k x (by rw [hq2]; exact List.mem_cons_self ..)
        have hsum : (runW 4 (crewLists xs bs s) 0 k).1.length = k + (runW 4 (crewLists xs bs s) 0 k).2.length := by
          rcases hct.sum with h | h
          · rw [hq2] at h; cases h
          · exact h
        have HNXT : Hid ((runW 4 (crewLists xs bs s) 0 (k + 1)).1 = (expJ x (mvsW 4 (crewLists xs bs s) x) (runW 4 (crewLists xs bs s) 0 k) (mvsW 4 (crewLists xs bs s) x).length).1) := by
          show _ = _
          rw [runW_next, nextW_at hq2, expW_all]
        have HEXP : Hid (∀ j, QIs n k (expJ x (mvsW 4 (crewLists xs bs s) x) (runW 4 (crewLists xs bs s) 0 k) j)) := fun j =>
          (QIs.exp (x := x) ((mvsW 4 (crewLists xs bs s) x).take j) hqi (by omega) (fun l hl => (phi_step hxs (mvsW_up HUP.out (List.mem_of_mem_take hl))).2)).1
        have HELN : Hid (∀ j, (expJ x (mvsW 4 (crewLists xs bs s) x) (runW 4 (crewLists xs bs s) 0 k) j).1.length ≤ 512) := fun j => by
          obtain ⟨g1, g2, -⟩ := count_fold (c := k) ((mvsW 4 (crewLists xs bs s) x).take j) (runW 4 (crewLists xs bs s) 0 k) (fun l hl => (plcW_step HUP8.out hx4 (List.mem_of_mem_take hl)).2) hct.nodup hct.dom hsum
          have h := sub_len g1 (b := sts 4) (fun y hy => by obtain ⟨p, hp, rfl⟩ := List.mem_map.1 hy; exact g2 p hp)
          rw [List.length_map] at h
          exact h
        have HSTP : Hid (∀ l ∈ mvsW 4 (crewLists xs bs s) x, l ∈ upLists n n ∧ num (flipped (bitsOf (x / 2) n) l) (!bitAt x 0).toNat = phi n (stepC x l) ∧ stepC x l / 2 < 2 ^ n) := fun l hl => ⟨mvsW_up HUP.out hl, phi_step hxs (mvsW_up HUP.out hl)⟩
        have HPAD : Hid (ridesAt (bitsOf (x / 2) n) (bitAt x 0) (crewLists xs bs s) = mvsW 4 (crewLists xs bs s) x) := rides_pad hn8 HUP.out
        have HMVL : Hid ((mvsW 4 (crewLists xs bs s) x).length ≤ 255) := mvsW_len HSM.out
        have HE0 : Hid (expJ x (mvsW 4 (crewLists xs bs s) x) (runW 4 (crewLists xs bs s) 0 k) 0 = runW 4 (crewLists xs bs s) 0 k) := by show _ = _; rw [expJ, List.take_zero]; rfl
        have hkT : k + 1 ≤ turns 4 := by rw [hql] at hkl; show k + 1 ≤ 2 * 2 ^ (2 * 4); omega
        have hkr : k < (runW 4 (crewLists xs bs s) 0 k).1.length := by rw [hql] at hkl; exact hkl
        have hd : decide ((k : Int) < ((runW 4 (crewLists xs bs s) 0 k).1.length : Int)) = true := by simp; omega
        obtain ⟨ph, hphd⟩ : ∃ ph, ph = phi n x := ⟨_, rfl⟩
        have hph : ph < 1048576 := by rw [hphd]; exact Nat.lt_of_lt_of_le (phi_lt n x) (Nat.le_trans (Nat.pow_le_pow_right (by omega) (show n + 1 ≤ 9 by omega)) (by decide))
        have HDG : Hid (digits n ph = bitsOf (x / 2) n) := by show _ = _; rw [hphd]; exact phi_digits n x
        have HTP : Hid (topBit n ph = bitAt x 0) := by show _ = _; rw [hphd]; exact phi_top n x
        have HSL := Lib.hid (bitsOf_len (x / 2) n)
        obtain ⟨bq, oq, hQ, hbq, hq⟩ := (win_holds hown).look (k := k) (by simp [nums, qN]; exact hkl)
        subst hQ
        have hqv : (nums (qN n (runW 4 (crewLists xs bs s) 0 k).1))[k]'(by simp [nums, qN]; exact hkl) = .int .i64 (ph : Nat) := by simp [nums, qN, hxk, hphd]
        rw [hqv] at hq
        have HQV : Hid ((nums (qN n (runW 4 (crewLists xs bs s) 0 k).1))[k]? = some (.int .i64 (ph : Nat))) := by show _ = _; rw [← hqv]; exact List.getElem?_eq_getElem _
        have hqh := win_holds hown
        have HBQ : Hid (w.heap.size + 1 ≤ bq ∧ bq < wr.heap.size) := hown.lt bq rfl
        clear hct hqi hdr hkl hxk hxs hx4 hsum hphd hqv hql
        generalize hM : mvsW 4 (crewLists xs bs s) x = M at HNXT HEXP HELN HSTP HPAD HMVL HE0
        generalize bitsOf (x / 2) n = sb at HDG HSTP HPAD HSL
        generalize bitAt x 0 = tb at HTP HSTP HPAD
        clear hM
        obtain ⟨st, hst⟩ : ∃ st, st = runW 4 (crewLists xs bs s) 0 k := ⟨_, rfl⟩
        rw [← hst] at hown hln hd hq2 HEXP HELN HE0 HNXT hkr HQV hqh ⊢
        clear hst
        obtain ⟨wo, rfl⟩ : ∃ W : World, W = wr := ⟨_, rfl⟩
        have HOWN := Lib.hid hown
        have HCW := Lib.hid hcw
        have HT := Lib.hid ht
        have HQH := Lib.hid hqh
        clear hown hq2 ht
        go_upto_region 7 with fail
        go_cut [6] (fun v wx => StMade sb tb wo v wx)
        case first =>
          refine wp_region_held_drew (S := (fun w' => w'.cell? ⟨w.heap.size, 0, none⟩ = some (.slice A n c) ∧ w'.cell? ⟨bq, oq + k, none⟩ = some (.int .i64 (ph : Nat)))) (by kernel_rfl) ⟨hcw.drew.cell 0, holds_cell hqh.drew HQV.out⟩ (fun hHeld => ?_)
          have hbo : Below wo.heap.size wo wo.drew := (Below.refl _ _).drew
          replace hcw := hcw.drew
          replace hqh := hqh.drew
          generalize World.drew wo = w0 at hcw hqh hbo hHeld ⊢
          refine wpAnyH_take (i := 0) (v := ?_) rfl (by kernel_rfl) (by kernel_rfl) (by kernel_rfl) (fun _ _ _ h => h) (Or.inl ⟨rfl, ?_⟩) hHeld ?_
          rotate_left
          · intro w' hS; obtain ⟨s0, s1⟩ := hS; go_simp <;> with_reducible rfl
          simp only [Act.put, List.getElem_toArray, List.getElem_cons_succ, List.getElem_cons_zero, List.setIfInBounds_toArray, List.set_cons_succ, List.set_cons_zero]
          refine wpAnyH_take (i := 1) (v := ?_) rfl (by kernel_rfl) (by kernel_rfl) (by kernel_rfl) (fun _ _ _ h => h) (Or.inl ⟨rfl, ?_⟩) hHeld ?_
          rotate_left
          · intro w' hS; obtain ⟨s0, s1⟩ := hS; go_simp <;> with_reducible rfl
          simp only [Act.put, List.getElem_toArray, List.getElem_cons_succ, List.getElem_cons_zero, List.setIfInBounds_toArray, List.set_cons_succ, List.set_cons_zero]
          refine wpAnyH_take (i := 2) (v := ?_) rfl (by kernel_rfl) (by kernel_rfl) (by kernel_rfl) (fun _ _ _ h => h) (Or.inl ⟨rfl, ?_⟩) hHeld ?_
          rotate_left
          · intro w' hS; obtain ⟨s0, s1⟩ := hS; go_simp <;> with_reducible rfl
          simp only [Act.put, List.getElem_toArray, List.getElem_cons_succ, List.getElem_cons_zero, List.setIfInBounds_toArray, List.set_cons_succ, List.set_cons_zero]
          refine wpAnyH_take (i := 3) (v := ?_) rfl (by kernel_rfl) (by kernel_rfl) (by kernel_rfl) (fun _ _ _ h => h) (Or.inl ⟨rfl, ?_⟩) hHeld ?_
          rotate_left
          · intro w' hS; obtain ⟨s0, s1⟩ := hS; go_simp <;> with_reducible rfl
          simp only [Act.put, List.getElem_toArray, List.getElem_cons_succ, List.getElem_cons_zero, List.setIfInBounds_toArray, List.set_cons_succ, List.set_cons_zero]
          refine wpAnyH_take (i := 4) (v := ?_) rfl (by kernel_rfl) (by kernel_rfl) (by kernel_rfl) (fun _ _ _ h => h) (Or.inl ⟨rfl, ?_⟩) hHeld ?_
          rotate_left
          · intro w' hS; obtain ⟨s0, s1⟩ := hS; go_simp <;> with_reducible rfl
          simp only [Act.put, List.getElem_toArray, List.getElem_cons_succ, List.getElem_cons_zero, List.setIfInBounds_toArray, List.set_cons_succ, List.set_cons_zero]
          refine wpAnyH_take (i := 5) (v := ?_) rfl (by kernel_rfl) (by kernel_rfl) (by kernel_rfl) (fun _ _ _ h => h) (Or.inl ⟨rfl, ?_⟩) hHeld ?_
          rotate_left
          · intro w' hS; obtain ⟨s0, s1⟩ := hS; go_simp <;> with_reducible rfl
          simp only [Act.put, List.getElem_toArray, List.getElem_cons_succ, List.getElem_cons_zero, List.setIfInBounds_toArray, List.set_cons_succ, List.set_cons_zero]
          refine wpAnyH_take (i := 6) (v := ?_) rfl (by kernel_rfl) (by kernel_rfl) (by kernel_rfl) (fun _ _ _ h => h) (Or.inl ⟨rfl, ?_⟩) hHeld ?_
          rotate_left
          · intro w' hS; obtain ⟨s0, s1⟩ := hS; go_simp <;> with_reducible rfl
          simp only [Act.put, List.getElem_toArray, List.getElem_cons_succ, List.getElem_cons_zero, List.setIfInBounds_toArray, List.set_cons_succ, List.set_cons_zero]
          refine wpAnyH_ready (rs := [7, 8]) (by kernel_rfl) (by simp) (AllReadyH.cons rfl (fun K hK => ?_) (AllReadyH.cons rfl (fun K hK => ?_) AllReadyH.nil))
          · go_simp
            have hse := seState_own n ph w0 hn8 hph
            rw [HDG.out, HTP.out] at hse
            refine hse.mono ?_
            clear hse
            rintro e wzc ⟨D, z, rfl, hD, hb⟩
            have HDL := Lib.hid hbo.size
            replace hcw := hcw.below hb
            replace hqh := hqh.below hb
            replace hbo := below_then hbo hb hbo.size
            clear hb
            refine hK.out _ _ ⟨hcw.cell 0, holds_cell hqh HQV.out⟩ (fun hHeld => ?_)
            clear hK K
            try simp only [Act.put, List.getElem_toArray, List.getElem_cons_succ, List.getElem_cons_zero, List.setIfInBounds_toArray, List.set_cons_succ, List.set_cons_zero]
            refine wpAnyH_ready (rs := [8]) (by kernel_rfl) (by simp) (AllReadyH.cons rfl (fun K hK => ?_) AllReadyH.nil)
            go_simp
            have hal := Whole.fresh wzc 38 #[.slice none 0 0, .bool false]
            have HGB := Lib.hid hbo.size
            replace hcw := hcw.alloc (.cells #[.slice none 0 0, .bool false] 38)
            replace hqh := hqh.alloc (.cells #[.slice none 0 0, .bool false] 38)
            replace hD := hD.alloc (.cells #[.slice none 0 0, .bool false] 38)
            replace hbo := hbo.alloc hbo.size (.cells #[.slice none 0 0, .bool false] 38)
            have HSZ : Hid ((World.alloc wzc (.cells #[.slice none 0 0, .bool false] 38)).heap.size = wzc.heap.size + 1) := World.size_alloc _ _
            generalize World.alloc wzc (.cells #[.slice none 0 0, .bool false] 38) = wzca at hcw hqh hbo hal HSZ hD ⊢
            refine hK.out _ _ ⟨hcw.cell 0, holds_cell hqh HQV.out⟩ (fun hHeld => ?_)
            clear hK K
            try simp only [Act.put, List.getElem_toArray, List.getElem_cons_succ, List.getElem_cons_zero, List.setIfInBounds_toArray, List.set_cons_succ, List.set_cons_zero]
            refine wpAnyH_ready (rs := [9]) (by kernel_rfl) (by simp) (AllReadyH.cons rfl (fun K hK => ?_) AllReadyH.nil)
            obtain ⟨e0, e1, f0, f1⟩ := hal.two
            have hgl := hal.lt
            go_simp
            clear e0 e1 f0 f1
            replace hbo := below_set (b := wzc.heap.size) (o := 1) (u := .bool tb) (below_set (b := wzc.heap.size) (o := 0) (u := .slice D n z) hbo HGB.out) HGB.out
            replace hal := (hal.set_ 0 (.slice D n z)).set_ 1 (.bool tb)
            replace hD := (hD.set_out (b := wzc.heap.size) (o := 0) (u := .slice D n z) (by have := HSZ.out; omega)).set_out (b := wzc.heap.size) (o := 1) (u := .bool tb) (by have := HSZ.out; omega)
            refine hK.out _ _ ⟨(HCW.out.below hbo).cell 0, holds_cell (HQH.out.below hbo) HQV.out⟩ (fun hHeld => ?_)
            clear hK K
            try simp only [Act.put, List.getElem_toArray, List.getElem_cons_succ, List.getElem_cons_zero, List.setIfInBounds_toArray, List.set_cons_succ, List.set_cons_zero]
            refine wpAnyH_done (by kernel_rfl) ?_ _
            clear hHeld
            go_wp2_with fail
            go_meet
            exact ⟨wzc.heap.size, D, z, rfl, HGB.out, by rw [HSL.out]; exact hal, hD.more HDL.out (by simp [World.setCell] <;> first | omega | (have := HSZ.out; omega)), hbo⟩
          · go_simp
            have hal := Whole.fresh w0 38 #[.slice none 0 0, .bool false]
            have HGB := Lib.hid hbo.size
            replace hcw := hcw.alloc (.cells #[.slice none 0 0, .bool false] 38)
            replace hqh := hqh.alloc (.cells #[.slice none 0 0, .bool false] 38)
            replace hbo := hbo.alloc hbo.size (.cells #[.slice none 0 0, .bool false] 38)
            have HSZ : Hid ((World.alloc w0 (.cells #[.slice none 0 0, .bool false] 38)).heap.size = w0.heap.size + 1) := World.size_alloc _ _
            generalize World.alloc w0 (.cells #[.slice none 0 0, .bool false] 38) = wza at hcw hqh hbo hal HSZ ⊢
            refine hK.out _ _ ⟨hcw.cell 0, holds_cell hqh HQV.out⟩ (fun hHeld => ?_)
            clear hK K
            try simp only [Act.put, List.getElem_toArray, List.getElem_cons_succ, List.getElem_cons_zero, List.setIfInBounds_toArray, List.set_cons_succ, List.set_cons_zero]
            refine wpAnyH_ready (rs := [7]) (by kernel_rfl) (by simp) (AllReadyH.cons rfl (fun K hK => ?_) AllReadyH.nil)
            go_simp
            have hse := seState_own n ph wza hn8 hph
            rw [HDG.out, HTP.out] at hse
            refine hse.mono ?_
            clear hse
            rintro e wzac ⟨D, z, rfl, hD, hb⟩
            have HDL := Lib.hid hbo.size
            replace hal := hal.below hb
            replace hcw := hcw.below hb
            replace hqh := hqh.below hb
            replace hbo := below_then hbo hb hbo.size
            clear hb
            refine hK.out _ _ ⟨hcw.cell 0, holds_cell hqh HQV.out⟩ (fun hHeld => ?_)
            clear hK K
            try simp only [Act.put, List.getElem_toArray, List.getElem_cons_succ, List.getElem_cons_zero, List.setIfInBounds_toArray, List.set_cons_succ, List.set_cons_zero]
            refine wpAnyH_ready (rs := [9]) (by kernel_rfl) (by simp) (AllReadyH.cons rfl (fun K hK => ?_) AllReadyH.nil)
            obtain ⟨e0, e1, f0, f1⟩ := hal.two
            have hgl := hal.lt
            go_simp
            clear e0 e1 f0 f1
            replace hbo := below_set (b := w0.heap.size) (o := 1) (u := .bool tb) (below_set (b := w0.heap.size) (o := 0) (u := .slice D n z) hbo HGB.out) HGB.out
            replace hal := (hal.set_ 0 (.slice D n z)).set_ 1 (.bool tb)
            replace hD := (hD.set_out (b := w0.heap.size) (o := 0) (u := .slice D n z) (by have := HSZ.out; omega)).set_out (b := w0.heap.size) (o := 1) (u := .bool tb) (by have := HSZ.out; omega)
            refine hK.out _ _ ⟨(HCW.out.below hbo).cell 0, holds_cell (HQH.out.below hbo) HQV.out⟩ (fun hHeld => ?_)
            clear hK K
            try simp only [Act.put, List.getElem_toArray, List.getElem_cons_succ, List.getElem_cons_zero, List.setIfInBounds_toArray, List.set_cons_succ, List.set_cons_zero]
            refine wpAnyH_done (by kernel_rfl) ?_ _
            clear hHeld
            go_wp2_with fail
            go_meet
            exact ⟨w0.heap.size, D, z, rfl, HGB.out, by rw [HSL.out]; exact hal, hD.more HDL.out (by simp [World.setCell] <;> first | omega | (have := HSZ.out; omega)), hbo⟩
        case rest =>
          obtain ⟨gb, D, z, rfl, hgb, hsb, hDf, hbw⟩ := hcut
          have htc := below_then HT.out hbw HT.out.size
          have hcc := HCW.out.below hbw
          have hownc := HOWN.out.below hbw
          rw [HSL.out] at hsb
          obtain ⟨c0, c1, c2⟩ := hcc.cells3
          obtain ⟨e0, e1, -, -⟩ := hsb.two
          have hlc := hcc.lt
          have hlb := hsb.lt
          clear hqh
          go_wp2_with fail
          refine (loRides_any A n c B m d xs bs s D n z sb tb _ (by exact hA.below htc) (by exact hB.below htc) (by exact hDf.holds) HX.out HY.out HSL.out HOK.out (by rw [HSL.out, HX.out])).mono ?_
          rintro e w5 ⟨A1, c5, rs, rfl, hrn, hh, hb⟩
          rw [HPAD.out] at hrn
          have hrl : rs.length = M.length := by rw [← hrn, rowNums_len]
          have hml := HMVL.out
          have HRN := Lib.hid hrn
          have HT5 := Lib.hid (below_then htc hb htc.size)
          have HC5 := Lib.hid (hcc.below hb)
          have HO5 := Lib.hid (hownc.below hb)
          have HS5 := Lib.hid (hsb.below hb)
          have HD5 := Lib.hid (hDf.below hb)
          have HG5 := Lib.hid hh.free
          have hz5 := hb.size
          have hz6 := hbw.size
          have HBQ2 := Lib.hid (show w.heap.size < bq ∧ bq < wo.heap.size ∧ bq < wc.heap.size from by have := HBQ.out; omega)
          clear hrn hh hb hbw htc hcc hownc hsb hDf c0 c1 c2 e0 e1
          go_wp2
          go_loopw [4, 34] (fun v i wz => ∃ (j : Nat) (Q2 : Option Addr) (cq2 : Nat), j ≤ rs.length ∧ i = .int .i64 j ∧ v = .slice Q2 (expJ x M st j).1.length cq2 ∧ Win wz (w.heap.size + 1) 3 1 (.slice Q2 (expJ x M st j).1.length cq2) (expJ x M st j).1.length (nums (qN n (expJ x M st j).1)) ∧ (∀ kk, (Value.slice Q2 (expJ x M st j).1.length cq2).ownBlock = some kk → kk = bq ∨ w5.heap.size ≤ kk) ∧ Span bq (bq + 1) w5 wz) (fun _ i _ => rs.length - (intOf i).toNat)
          case atStart => exact ⟨0, _, cq, Nat.zero_le _, rfl, by rw [HE0.out], by rw [HE0.out]; exact HO5.out, fun kk h => .inl (by simp only [Value.ownBlock, Option.some.injEq] at h; exact h.symm), Span.refl _ _ _⟩
          case round =>
            clear HO5
            obtain ⟨j, Q2, cq2, hj, rfl, rfl, hown, hob, hsp⟩ := hrel
            obtain ⟨wz, rfl⟩ : ∃ W : World, W = wr := ⟨_, rfl⟩
            have hb2 := HBQ2.out
            have hln2 := HELN.out j
            by_cases hlt : j < rs.length
            · have hd1 : decide ((j : Int) < (rs.length : Int)) = true := by simp; omega
              have hjm : j < M.length := by omega
              have hlj : M[j] = rs[j].xs := by have h := rowNums_get hlt; simp only [HRN.out] at h; exact h
              have hmem : rs[j].xs ∈ M := by rw [← hlj]; exact List.getElem_mem hjm
              obtain ⟨hup1, hnum, hsmall⟩ := HSTP.out _ hmem
              have hnx := expJ_next (x := x) (st := st) hjm
              rw [hlj] at hnx
              have hqi := HEXP.out j
              have hgz := hsp.freeGrid HG5.out (.inr (by omega))
              obtain ⟨b6, o6, rfl, hbl6, hcell6, hrow6, hrl6, hrn6⟩ := hgz.grid.look hlt
              have hsz := hsp.whole HS5.out (.inr (by omega))
              have hdz := hsp.fresh HD5.out (.inr (by omega))
              obtain ⟨e0, e1, -, -⟩ := hsz.two
              have hlz := hsz.lt
              have hst1 := (up_steps hup1).1
              have hn1 : 0 < n := by
                rcases Nat.eq_zero_or_pos n with h | h
                · subst h
                  have h2 := (up_steps hup1).2
                  have h3 := mem_steps hst1 (List.getElem_mem (l := rs[j].xs) (n := 0) (by omega))
                  omega
                · exact h
              obtain ⟨gD, oD, rfl, hbD, hcD⟩ := hdz.holds.spot (by simp [bits]; have := HSL.out; omega)
              obtain ⟨l, hle⟩ : ∃ l, rs[j].xs = l := ⟨_, rfl⟩
              obtain ⟨rA, hrA⟩ : ∃ a, rs[j].A = a := ⟨_, rfl⟩
              obtain ⟨rn, hrn⟩ : ∃ a, rs[j].n = a := ⟨_, rfl⟩
              obtain ⟨rc, hrc⟩ : ∃ a, rs[j].c = a := ⟨_, rfl⟩
              rw [hrA, hrn, hrc] at hcell6
              rw [hrA, hle] at hrow6
              rw [hle, hrn] at hrl6
              rw [hrn] at hrn6
              rw [hle] at hup1 hnum hsmall hnx hst1
              obtain ⟨y, hy⟩ : ∃ y, stepC x l = y := ⟨_, rfl⟩
              have HY2 := Lib.hid hy
              have HNUM := Lib.hid hnum
              have HSMALL := Lib.hid hsmall
              have HNX := Lib.hid hnx
              have HQI := Lib.hid hqi
              have HCD := Lib.hid hcD
              have HST1 := Lib.hid hst1
              have HRW := Lib.hid hrow6
              have HRL := Lib.hid hrl6
              have HOZ := Lib.hid hown
              have HOB := Lib.hid hob
              have HSP := Lib.hid hsp
              clear hle hrA hrn hrc hup1 hnum hsmall hnx hst1 hqi hgz hsz hdz hcD hrow6 hown hob hsp hy hmem hlj
              generalize expJ x M st j = ej at HNX HQI HOZ HOB hln2 ⊢
              obtain ⟨mj, qj⟩ := ej
              simp only at hln2 HOZ HOB
              go_wp2_with fail
              have hpc := paCross_any gD oD n z rA rn rc sb l tb wz HCD.out HSL.out hn1 (by omega) HRW.out HRL.out (by omega) (HST1.out)
              refine hpc.mono ?_
              clear hpc e0 e1
              rintro e w6 ⟨A6, c6, rfl, hf6, hb6⟩
              have hfl : (flipped sb l).length = n := by rw [flipped_len, HSL.out]
              rw [hfl]
              go_wp2_with fail
              refine (seIndex_any A6 n c6 (flipped sb l) (!tb) _ hf6.holds hfl hn8).mono ?_
              rintro e w7 ⟨rfl, hb7⟩
              rw [HNUM.out, HY2.out]
              have hb67 := below_then hb6 hb7 hb6.size
              have HO7 := Lib.hid (HOZ.out.below hb67)
              have HSP7 := Lib.hid (HSP.out.trans (Span.of_below hb67 _ _))
              have hw7 := hb67.size
              clear hf6 hb6 hb7 hb67
              go_wp2_with fail
              refine (l1Has_any Q2 mj.length cq2 (qN n mj) _ w7 (win_holds HO7.out) (qN_len n mj) (by omega)).mono ?_
              rintro e w8 ⟨rfl, rfl⟩
              have hwt := HT5.out.size
              have hs5 := HSP7.out.size
              cases hqy : lk mj y with
              | some v =>
                have HNN : Hid (stepP x (mj, qj) l = (mj, qj)) := stepP_some (by rw [HY2.out]; exact hqy)
                rw [has_known (p := n) hqy]
                clear hqy
                go_wp2
                go_roundw
                case rel => exact ⟨j + 1, Q2, cq2, by omega, by go_num, by rw [HNX.out, HNN.out], by rw [HNX.out, HNN.out]; exact HO7.out, by rw [HNX.out, HNN.out]; exact HOB.out, HSP7.out⟩
                case measure => simp [intOf]; omega
              | none =>
                have HNN : Hid ((stepP x (mj, qj) l).1 = (y, (lk mj x).getD 0 + 1) :: mj) := by show _ = _; rw [stepP_none (by rw [HY2.out]; exact hqy), HY2.out]
                rw [has_fresh (p := n) HQI.out.small (by have := HSMALL.out; rw [HY2.out] at this; exact this) hqy]
                clear hqy
                have K := Lib.hid (HO7.out.alloc (.cells #[.int .i64 ((phi n y : Nat) : Int)] 3))
                have HSP8 := Lib.hid (HSP7.out.trans (Span.of_below (below1 w7 (.cells #[.int .i64 ((phi n y : Nat) : Int)] 3)) _ _))
                have HNEW := Lib.hid (cell_one_new w7 (.int .i64 ((phi n y : Nat) : Int)) 3)
                have HONE := Lib.hid (show ∀ u ∈ [(Value.int .i64 ((phi n y : Nat) : Int))], u.oneCell' = true by simp [Value.oneCell'])
                have HMAX := Lib.hid (show mj.length + 1 ≤ maxLen by unfold maxLen; omega)
                have HBYT := Lib.hid (show (mj.length + 1) * 8 ≤ 140737488355328 by omega)
                have HBASE := Lib.hid (show w.heap.size + 1 ≤ (w7.alloc (.cells #[.int .i64 ((phi n y : Nat) : Int)] 3)).heap.size by simp; omega)
                have HNL : Hid ((expJ x M st (j + 1)).1.length = mj.length + 1 ∧ nums (qN n (expJ x M st (j + 1)).1) = nums (qN n mj) ++ [.int .i64 ((phi n y : Nat) : Int)]) := by
                  show _ ∧ _
                  rw [HNX.out, HNN.out, qN_new]
                  simp [nums]
                go_wp2_with (at_builtin; refine wpList_append_win _ rfl (.tmp 46) (.tmp 48) 22 rfl (w.heap.size + 1) 3 i0 (.int .i64 0) 1 8 Try.underlying22 HI.out HZ0.out HZ1.out HZ2.out rfl (.slice Q2 mj.length cq2) mj.length (nums (qN n mj)) rfl K.out ⟨w7.heap.size, 0, none⟩ 1 1 [.int .i64 ((phi n y : Nat) : Int)] rfl rfl HNEW.out HONE.out HMAX.out HBYT.out HBASE.out ?_; intro v' w9 hW9 hg9 hv9; obtain ⟨g9, o9, cap9, hvv, -, -, -, -, -⟩ := hW9.cellAt; subst hvv)
                have HW9 := Lib.hid hW9
                have HSP9 := Lib.hid (span_grown HSP8.out hg9 (fun kk e => HOB.out kk e))
                have HOB9 : Hid (∀ kk, (Value.slice (some ⟨g9, o9, none⟩) (mj.length + 1) cap9).ownBlock = some kk → kk = bq ∨ w5.heap.size ≤ kk) := fun kk e => by
                  rcases hv9 with h | h
                  · exact HOB.out kk (h.symm.trans e)
                  · right
                    rw [h] at e
                    have e' := Option.some.inj e
                    simp only [World.size_alloc] at e'
                    omega
                clear hW9 hg9 hv9
                go_roundw
                case rel => exact ⟨j + 1, some ⟨g9, o9, none⟩, cap9, by omega, by go_num, by rw [HNL.out.1], by rw [HNL.out.1, HNL.out.2]; exact HW9.out, by rw [HNL.out.1]; exact HOB9.out, HSP9.out⟩
                case measure => simp [intOf]; omega
            · have hje : j = M.length := by omega
              have hd1 : decide ((j : Int) < (rs.length : Int)) = false := by simp; omega
              have hd2 : decide ((rs.length : Int) < (rs.length : Int)) = false := by simp
              have HW := Lib.hid hown
              have HCE := Lib.hid (hsp.whole HC5.out (.inl (by omega)))
              have HBE := Lib.hid (hsp.below HT5.out (by omega) HT5.out.size)
              have HJ := Lib.hid hje
              clear hown hob hsp
              go_wp2
              go_roundw
              case rel => exact ⟨k + 1, Q2, cq2, hkT, by go_num, by rw [HNXT.out, ← HJ.out], by rw [HNXT.out, ← HJ.out]; exact HW.out, HCE.out, HBE.out⟩
              case measure => simp [intOf]; omega
end Go.Proofs.Ytkocompjjogciaa

namespace Go.Proofs.Ytkocompjjogciaa
open Go.RowKit

set_option maxHeartbeats 800000 in
set_option linter.unusedVariables false in
theorem lawCountReachedCrews_big0 (A0 : Option Addr) (n0 c0 : Nat) (x0 : List Int) (A1 : Option Addr) (n1 c1 : Nat) (x1 : List Bool) (k0 : Int) (w : World) (h0 : Holds w A0 (nums x0)) (hx0 : x0.length = n0) (hn0 : n0 ≤ 9223372036854775807) (h1 : Holds w A1 (bits x1)) (hx1 : x1.length = n1) (hn1 : n1 ≤ 9223372036854775807)  (hbig : 1048576 - (n0 : Int) - (n1 : Int) < 0) :
    Calls Try.prog 11 #[.agg #[.slice A0 n0 c0, .slice A1 n1 c1, .int .i64 k0]] w fun e w' => e = .returned (.bool true) ∧ Below w.heap.size w w' := by
  have hb0 := (Whole.fresh w 32 #[.slice A0 n0 c0, .slice A1 n1 c1, .int .i64 k0])
  have ht := below1 w (.cells #[.slice A0 n0 c0, .slice A1 n1 c1, .int .i64 k0] 32)
  have HX0 := Lib.hid hx0
  have HX1 := Lib.hid hx1
  clear hx0 hx1
  obtain ⟨hb0_0, hb0_1, hb0_2⟩ := hb0.cells3
  have hb0_l := hb0.lt
  go_enter Try.func11, Try.ntmps11
  go_wp2_with fail
  refine (szCrew_any A0 n0 c0 A1 n1 c1 k0 (1048576) _ (by omega) (by omega) (by omega) (by omega)).mono ?_
  rintro e v1 ⟨rfl, hb⟩
  rw [crewLeft_bad (by omega)]
  have hz1 : w.heap.size + 1 ≤ v1.heap.size := by have := hb.size; simpa using this
  replace ht := below_then ht hb ht.size
  replace hb0 := hb0.below hb
  clear hb
  clear hb0_0 hb0_1 hb0_2 hb0_l
  go_wp2
  go_ret
  exact ⟨rfl, ht⟩

set_option maxHeartbeats 12800000 in
set_option maxRecDepth 100000 in
set_option linter.unusedSimpArgs false in
set_option linter.unusedVariables false in
theorem lawCountReachedCrews_small (A0 : Option Addr) (n0 c0 : Nat) (x0 : List Int) (A1 : Option Addr) (n1 c1 : Nat) (x1 : List Bool) (k0 : Int) (w : World) (h0 : Holds w A0 (nums x0)) (hx0 : x0.length = n0) (hn0 : n0 ≤ 9223372036854775807) (h1 : Holds w A1 (bits x1)) (hx1 : x1.length = n1) (hn1 : n1 ≤ 9223372036854775807) (g0 : 0 ≤ 1048576 - (n0 : Int) - (n1 : Int)) :
    Calls Try.prog 11 #[.agg #[.slice A0 n0 c0, .slice A1 n1 c1, .int .i64 k0]] w fun e w' => e = .returned (.bool true) ∧ Below w.heap.size w w' := by
  have hb0 := (Whole.fresh w 32 #[.slice A0 n0 c0, .slice A1 n1 c1, .int .i64 k0])
  have ht := below1 w (.cells #[.slice A0 n0 c0, .slice A1 n1 c1, .int .i64 k0] 32)
  have HX0 := Lib.hid hx0
  have HX1 := Lib.hid hx1
  clear hx0 hx1
  obtain ⟨hb0_0, hb0_1, hb0_2⟩ := hb0.cells3
  have hb0_l := hb0.lt
  go_enter Try.func11, Try.ntmps11
  -- region 2
  go_wp2_with fail
  refine (szCrew_any A0 n0 c0 A1 n1 c1 k0 (1048576) _ (by omega) (by omega) (by omega) (by omega)).mono ?_
  rintro e v1 ⟨rfl, hb⟩
  rw [crewLeft_ok (by omega)]
  have hz1 : w.heap.size + 1 ≤ v1.heap.size := by have := hb.size; simpa using this
  replace ht := below_then ht hb ht.size
  replace hb0 := hb0.below hb
  clear hb
  clear hb0_0 hb0_1 hb0_2 hb0_l
  obtain ⟨hb0_0, hb0_1, hb0_2⟩ := hb0.cells3
  have hb0_l := hb0.lt
  -- region 5
  go_wp2_with fail
  refine (toCrew_own A0 n0 c0 x0 A1 n1 c1 x1 k0 _ (by exact h0.below ht) (by exact h1.below ht) HX0.out HX1.out (by omega) (by omega)).mono ?_
  rintro e v2 ⟨gp0, gp1, rfl, hgp0, hwp0, hgp1, hwp1, hb⟩
  have hz2 : v1.heap.size ≤ v2.heap.size := by have := hb.size; simpa using this
  replace ht := below_then ht hb ht.size
  replace hb0 := hb0.below hb
  have hgmp0 : v1.heap.size ≤ gp1 ∧ gp1 < v2.heap.size := ⟨by have := hgp0; (try simp at this); omega, hwp1.lt⟩
  have hp0 := Fresh.of_whole (lo := v1.heap.size) (hi := gp1) hwp0 (by simpa using hgp0) hgp1
  have hp1 := Fresh.of_whole (lo := gp1) (hi := v2.heap.size) hwp1 (Nat.le_refl _) hwp1.lt
  clear hgp0 hwp0 hgp1 hwp1
  clear hb
  clear hb0_0 hb0_1 hb0_2 hb0_l
  obtain ⟨hb0_0, hb0_1, hb0_2⟩ := hb0.cells3
  have hb0_l := hb0.lt
  go_wp2_with fail
  refine (specReachW_any _ n0 _ _ n1 _ x0 x1 k0 _ (by exact hp0.holds) (by exact hp1.holds) HX0.out HX1.out (by omega)).mono ?_
  rintro e v3 ⟨rfl, hb⟩
  have hz3 : v2.heap.size ≤ v3.heap.size := by have := hb.size; simpa using this
  replace ht := below_then ht hb ht.size
  replace hb0 := hb0.below hb
  replace hp0 := hp0.below hb
  replace hp1 := hp1.below hb
  clear hb
  clear hp0 hp1
  clear hb0_0 hb0_1 hb0_2 hb0_l
  obtain ⟨hb0_0, hb0_1, hb0_2⟩ := hb0.cells3
  have hb0_l := hb0.lt
  -- region 6
  go_wp2_with fail
  refine (toCrew_own A0 n0 c0 x0 A1 n1 c1 x1 k0 _ (by exact h0.below ht) (by exact h1.below ht) HX0.out HX1.out (by omega) (by omega)).mono ?_
  rintro e v4 ⟨gx0, gx1, rfl, hgx0, hwx0, hgx1, hwx1, hb⟩
  have hz4 : v3.heap.size ≤ v4.heap.size := by have := hb.size; simpa using this
  replace ht := below_then ht hb ht.size
  replace hb0 := hb0.below hb
  have hgmx0 : v3.heap.size ≤ gx1 ∧ gx1 < v4.heap.size := ⟨by have := hgx0; (try simp at this); omega, hwx1.lt⟩
  have hx0 := Fresh.of_whole (lo := v3.heap.size) (hi := gx1) hwx0 (by simpa using hgx0) hgx1
  have hx1 := Fresh.of_whole (lo := gx1) (hi := v4.heap.size) hwx1 (Nat.le_refl _) hwx1.lt
  clear hgx0 hwx0 hgx1 hwx1
  clear hb
  have hx90 := Whole.fresh v4 40 #[.slice (some ⟨gx0, 0, none⟩) n0 n0, .slice (some ⟨gx1, 0, none⟩) n1 n1, .int .i64 k0]
  replace ht := ht.alloc ht.size (.cells #[.slice (some ⟨gx0, 0, none⟩) n0 n0, .slice (some ⟨gx1, 0, none⟩) n1 n1, .int .i64 k0] 40)
  replace hb0 := hb0.alloc (.cells #[.slice (some ⟨gx0, 0, none⟩) n0 n0, .slice (some ⟨gx1, 0, none⟩) n1 n1, .int .i64 k0] 40)
  replace hx0 := hx0.alloc (.cells #[.slice (some ⟨gx0, 0, none⟩) n0 n0, .slice (some ⟨gx1, 0, none⟩) n1 n1, .int .i64 k0] 40)
  replace hx1 := hx1.alloc (.cells #[.slice (some ⟨gx0, 0, none⟩) n0 n0, .slice (some ⟨gx1, 0, none⟩) n1 n1, .int .i64 k0] 40)
  clear hb0_0 hb0_1 hb0_2 hb0_l
  obtain ⟨hb0_0, hb0_1, hb0_2⟩ := hb0.cells3
  have hb0_l := hb0.lt
  obtain ⟨hx90_0, hx90_1, hx90_2⟩ := hx90.cells3
  have hx90_l := hx90.lt
  -- region 7
  go_wp2_with fail
  refine (implReachW_any _ n0 _ n1 _ x0 x1 k0 _ (by exact hx0.holds) (by exact hx1.holds) HX0.out HX1.out (by omega)).mono ?_
  rintro e v5 ⟨rfl, hb⟩
  have hz5 : v4.heap.size + 1 ≤ v5.heap.size := by have := hb.size; simpa using this
  replace ht := below_then ht hb ht.size
  replace hb0 := hb0.below hb
  replace hx0 := hx0.below hb
  replace hx1 := hx1.below hb
  replace hx90 := hx90.below hb
  clear hb
  clear hb0_0 hb0_1 hb0_2 hb0_l hx90_0 hx90_1 hx90_2 hx90_l
  obtain ⟨hb0_0, hb0_1, hb0_2⟩ := hb0.cells3
  have hb0_l := hb0.lt
  obtain ⟨hx90_0, hx90_1, hx90_2⟩ := hx90.cells3
  have hx90_l := hx90.lt
  -- region 10
  clear hb0_0 hb0_1 hb0_2 hb0_l hx90_0 hx90_1 hx90_2 hx90_l
  go_wp2_with fail
  refine wp_region_held_drew (S := (fun w' => w'.cell? ⟨w.heap.size, 0, none⟩ = some (.slice A0 n0 c0) ∧ w'.cell? ⟨w.heap.size, 1, none⟩ = some (.slice A1 n1 c1) ∧ w'.cell? ⟨w.heap.size, 2, none⟩ = some (.int .i64 k0) ∧ w'.cell? ⟨v4.heap.size, 0, none⟩ = some (.slice (some ⟨gx0, 0, none⟩) n0 n0) ∧ w'.cell? ⟨v4.heap.size, 1, none⟩ = some (.slice (some ⟨gx1, 0, none⟩) n1 n1) ∧ w'.cell? ⟨v4.heap.size, 2, none⟩ = some (.int .i64 k0))) (by kernel_rfl) ⟨hb0.drew.cell 0, hb0.drew.cell 1, hb0.drew.cell 2, hx90.drew.cell 0, hx90.drew.cell 1, hx90.drew.cell 2⟩ (fun hHeld => ?_)
  replace ht := ht.drew
  replace hb0 := hb0.drew
  replace hx0 := hx0.drew
  replace hx1 := hx1.drew
  replace hx90 := hx90.drew
  refine wpAnyH_take (i := 0) (v := ?_) rfl (by kernel_rfl) (by kernel_rfl) (by kernel_rfl) (fun _ _ _ h => h) (Or.inl ⟨rfl, ?_⟩) hHeld ?_
  rotate_left
  · intro w' hS; obtain ⟨s0, s1, s2, s3, s4, s5⟩ := hS; go_simp <;> with_reducible rfl
  simp only [Act.put, List.getElem_toArray, List.getElem_cons_succ, List.getElem_cons_zero, List.setIfInBounds_toArray, List.set_cons_succ, List.set_cons_zero]
  refine wpAnyH_take (i := 1) (v := ?_) rfl (by kernel_rfl) (by kernel_rfl) (by kernel_rfl) (fun _ _ _ h => h) (Or.inl ⟨rfl, ?_⟩) hHeld ?_
  rotate_left
  · intro w' hS; obtain ⟨s0, s1, s2, s3, s4, s5⟩ := hS; go_simp <;> with_reducible rfl
  simp only [Act.put, List.getElem_toArray, List.getElem_cons_succ, List.getElem_cons_zero, List.setIfInBounds_toArray, List.set_cons_succ, List.set_cons_zero]
  refine wpAnyH_ready (rs := [2]) (by kernel_rfl) (by simp) (AllReadyH.cons rfl (fun K hK => ?_) AllReadyH.nil)
  go_simp
  refine (toCrew_own A0 n0 c0 x0 A1 n1 c1 x1 k0 _ (by exact h0.below ht) (by exact h1.below ht) HX0.out HX1.out (by omega) (by omega)).mono ?_
  rintro e v6 ⟨gy0, gy1, rfl, hgy0, hwy0, hgy1, hwy1, hb⟩
  have hz6 : v5.heap.size ≤ v6.heap.size := by have := hb.size; simpa using this
  replace ht := below_then ht hb ht.size
  replace hb0 := hb0.below hb
  replace hx0 := hx0.below hb
  replace hx1 := hx1.below hb
  replace hx90 := hx90.below hb
  have hgmy0 : v5.heap.size ≤ gy1 ∧ gy1 < v6.heap.size := ⟨by have := hgy0; (try simp at this); omega, hwy1.lt⟩
  have hy0 := Fresh.of_whole (lo := v5.heap.size) (hi := gy1) hwy0 (by simpa using hgy0) hgy1
  have hy1 := Fresh.of_whole (lo := gy1) (hi := v6.heap.size) hwy1 (Nat.le_refl _) hwy1.lt
  clear hgy0 hwy0 hgy1 hwy1
  clear hb
  refine hK.out _ _ ⟨hb0.cell 0, hb0.cell 1, hb0.cell 2, hx90.cell 0, hx90.cell 1, hx90.cell 2⟩ (fun hHeld => ?_)
  clear hK K
  try simp only [Act.put, List.getElem_toArray, List.getElem_cons_succ, List.getElem_cons_zero, List.setIfInBounds_toArray, List.set_cons_succ, List.set_cons_zero]
  refine wpAnyH_ready (rs := [3]) (by kernel_rfl) (by simp) (AllReadyH.cons rfl (fun K hK => ?_) AllReadyH.nil)
  go_simp
  refine (eqCrew_yes _ _ n0 _ _ x0 _ _ n1 _ _ x1 k0 _ (by exact hx0.holds) (by exact hy0.holds) (by exact hx1.holds) (by exact hy1.holds) HX0.out HX1.out (by omega) (by omega)).mono ?_
  rintro e v7 ⟨rfl, hb⟩
  have hz7 : v6.heap.size ≤ v7.heap.size := by have := hb.size; simpa using this
  replace ht := below_then ht hb ht.size
  replace hb0 := hb0.below hb
  replace hx0 := hx0.below hb
  replace hx1 := hx1.below hb
  replace hx90 := hx90.below hb
  replace hy0 := hy0.below hb
  replace hy1 := hy1.below hb
  clear hb
  clear hy0 hy1
  refine hK.out _ _ ⟨hb0.cell 0, hb0.cell 1, hb0.cell 2, hx90.cell 0, hx90.cell 1, hx90.cell 2⟩ (fun hHeld => ?_)
  clear hK K
  try simp only [Act.put, List.getElem_toArray, List.getElem_cons_succ, List.getElem_cons_zero, List.setIfInBounds_toArray, List.set_cons_succ, List.set_cons_zero]
  refine wpAnyH_take (i := 4) (v := ?_) rfl (by kernel_rfl) (by kernel_rfl) (by kernel_rfl) (fun _ _ _ h => h) (Or.inl ⟨rfl, ?_⟩) hHeld ?_
  rotate_left
  · intro w' hS; obtain ⟨s0, s1, s2, s3, s4, s5⟩ := hS; go_simp <;> with_reducible rfl
  simp only [Act.put, List.getElem_toArray, List.getElem_cons_succ, List.getElem_cons_zero, List.setIfInBounds_toArray, List.set_cons_succ, List.set_cons_zero]
  refine wpAnyH_done (by kernel_rfl) ?_ _
  clear hHeld
  obtain ⟨hb0_0, hb0_1, hb0_2⟩ := hb0.cells3
  have hb0_l := hb0.lt
  obtain ⟨hx90_0, hx90_1, hx90_2⟩ := hx90.cells3
  have hx90_l := hx90.lt
  go_wp2
  go_ret
  exact ⟨rfl, ht⟩

theorem lawCountReachedCrews_all (A0 : Option Addr) (n0 c0 : Nat) (x0 : List Int) (A1 : Option Addr) (n1 c1 : Nat) (x1 : List Bool) (k0 : Int) (w : World) (h0 : Holds w A0 (nums x0)) (hx0 : x0.length = n0) (hn0 : n0 ≤ 9223372036854775807) (h1 : Holds w A1 (bits x1)) (hx1 : x1.length = n1) (hn1 : n1 ≤ 9223372036854775807) :
    Calls Try.prog 11 #[.agg #[.slice A0 n0 c0, .slice A1 n1 c1, .int .i64 k0]] w fun e w' => e = .returned (.bool true) ∧ Below w.heap.size w w' := by
  rcases (inferInstance : Decidable (0 ≤ 1048576 - (n0 : Int) - (n1 : Int))) with g0 | g0
  · exact lawCountReachedCrews_big0 A0 n0 c0 x0 A1 n1 c1 x1 k0 w h0 hx0 hn0 h1 hx1 hn1  (by omega)
  exact lawCountReachedCrews_small A0 n0 c0 x0 A1 n1 c1 x1 k0 w h0 hx0 hn0 h1 hx1 hn1 g0
end Go.Proofs.Ytkocompjjogciaa
