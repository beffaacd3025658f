/-
  What is proved: three closed facts on the head of this seat's translation (how its program was cut), word by word. Conditions: none.
  What is proved: places of a company, told by the numbers of their states, as keys of a map. Conditions: at most four couples.
  What is proved: plain facts on a company's search by a queue over the numbers of states, as the program goes. Conditions: at most four couples.
  What is proved: a company's searches from the first state and from the last one come to an end. Conditions: at most four couples and four seats.
  What is proved: what the program's search over a company's river keeps, and how it goes over from one world to the next. Conditions: as each says.
  What is proved: the contract of the program's search (movesApart) over a company's river: at its end each state that is reached has the number of the rows that lead there. Conditions: there is a company; the search begins at the first or the last state.
  What is proved: plain facts on a crew's search by a queue over the numbers of states, as the program goes: its queue is empty in the end, and it tells the least numbers of rides. Conditions: at most eight people; the rides are rising lists of them.
  What is proved: what the program's search over a crew's river keeps, and how it goes over from one world to the next. Conditions: as each says.
  What is proved: the contract of the program's search (movesApart) over a crew's river: at its end each state that is reached has the number of the rides that lead there. Conditions: at most eight people; the rides are rising lists of them.
  What is proved: plain facts on the program's search for least times: which places wait for the least time, told in any order; a round; that the search ends. Conditions: as each says.
  What is proved: plain facts on numbers of states of eight bits, beside the model's numbers of them. Conditions: as each says.
  What is proved: the least numbers of rides between a crew's states, told by the states and told by numbers of eight bits, are the same. Conditions: at most eight people; the rides are rising lists of them.
  What is proved: the least times between a party's states, told by the states' numbers and told by numbers of eight bits, are the same. Conditions: at most eight people.
  What is proved: plain facts on ways of least time: how great least times are, which trips lead on without losing time, and the way along the first of them. Conditions: each trip takes a time of at least 1.
  What is proved: the least times between a party's states as numbers: they are there, they are the same there and back, and both the model's list and the program's map tell them. Conditions: at most eight people.
  What is proved: the rides on ways of least cost, told by the model's list of what is left and by the program's map, are the same. Conditions: at most eight people; each ride costs 1 or more.
  What is proved: plain facts on the model's search over the numbers of a company's states: how far each is, in how many ways it is reached, what waits. Conditions: at most four couples.
  What is proved: plain facts on the model's search over a crew's states: what it keeps from round to round, and what it tells at its end. Conditions: each ride costs 1 or more.
  What is proved: what the model's search over a company's states keeps, and how it goes over from one world to the next. Conditions: as each says.
  What is proved: contracts of the program's fewest rows of a company, its count of the states that are reached, and its seats for couples. Conditions: none.
  What is proved: a contract of the program's CountReachedCrews. Conditions: the arguments are read as they lie.
-/
import Derived.Test.YtlpeimlbpiofkaaRows
import Derived.JoinedOf
import Derived.KernelRfl
import Derived.DeepKeys4
import Derived.Deep.LoopGhost
import Derived.Test.YtlpeimlbpiofkaaJ5FewestOfCrew
set_option linter.unusedSimpArgs false
set_option linter.unusedVariables false
namespace Go.Proofs.Ytlpeimlbpiofkaa.enter
open Go

theorem skip (p r : List Char) (h : p.all (fun c => c.toNat != 32) = true) : wordsSigns (p ++ Char.ofNat 32 :: r) = p :: wordsSigns r := by
  induction p with
  | nil => rfl
  | cons c p ih =>
    simp only [List.all_cons, Bool.and_eq_true] at h
    have hc : c ≠ Char.ofNat 32 := by rintro rfl; simp at h
    rw [List.cons_append, wordsSigns, ih h.2]
    exact hc

def word0 : List Char := [Char.ofNat 104, Char.ofNat 97, Char.ofNat 114, Char.ofNat 110, Char.ofNat 101, Char.ofNat 115, Char.ofNat 115]
def word1 : List Char := [Char.ofNat 56, Char.ofNat 102, Char.ofNat 100, Char.ofNat 54, Char.ofNat 48, Char.ofNat 102, Char.ofNat 99, Char.ofNat 51, Char.ofNat 50, Char.ofNat 97, Char.ofNat 102, Char.ofNat 51, Char.ofNat 99, Char.ofNat 55, Char.ofNat 48, Char.ofNat 57, Char.ofNat 97, Char.ofNat 98, Char.ofNat 54, Char.ofNat 55, Char.ofNat 99, Char.ofNat 55, Char.ofNat 53, Char.ofNat 57, Char.ofNat 52, Char.ofNat 56, Char.ofNat 53, Char.ofNat 101, Char.ofNat 53, Char.ofNat 54, Char.ofNat 54, Char.ofNat 48, Char.ofNat 97, Char.ofNat 49, Char.ofNat 57, Char.ofNat 49, Char.ofNat 99, Char.ofNat 54, Char.ofNat 48, Char.ofNat 56, Char.ofNat 48, Char.ofNat 50, Char.ofNat 99, Char.ofNat 48, Char.ofNat 101, Char.ofNat 53, Char.ofNat 52, Char.ofNat 99, Char.ofNat 49, Char.ofNat 101, Char.ofNat 100, Char.ofNat 102, Char.ofNat 97, Char.ofNat 99, Char.ofNat 102, Char.ofNat 97, Char.ofNat 57, Char.ofNat 55, Char.ofNat 51, Char.ofNat 57, Char.ofNat 54, Char.ofNat 51, Char.ofNat 54, Char.ofNat 54]
def word2 : List Char := [Char.ofNat 99, Char.ofNat 117, Char.ofNat 116]
def tail0 : List Char := [Char.ofNat 97, Char.ofNat 116, Char.ofNat 32, Char.ofNat 108, Char.ofNat 111, Char.ofNat 111, Char.ofNat 112, Char.ofNat 46, Char.ofNat 101, Char.ofNat 120, Char.ofNat 97, Char.ofNat 109, Char.ofNat 112, Char.ofNat 108, Char.ofNat 101, Char.ofNat 47, Char.ofNat 103, Char.ofNat 48, Char.ofNat 49, Char.ofNat 50, Char.ofNat 55, Char.ofNat 50, Char.ofNat 47, Char.ofNat 108, Char.ofNat 97, Char.ofNat 119, Char.ofNat 115, Char.ofNat 46, Char.ofNat 70, Char.ofNat 110, Char.ofNat 69, Char.ofNat 120, Char.ofNat 97, Char.ofNat 99, Char.ofNat 116, Char.ofNat 76, Char.ofNat 101, Char.ofNat 97, Char.ofNat 115, Char.ofNat 116, Char.ofNat 84, Char.ofNat 105, Char.ofNat 109, Char.ofNat 101, Char.ofNat 32, Char.ofNat 108, Char.ofNat 111, Char.ofNat 111, Char.ofNat 112, Char.ofNat 46, Char.ofNat 101, Char.ofNat 120, Char.ofNat 97, Char.ofNat 109, Char.ofNat 112, Char.ofNat 108, Char.ofNat 101, Char.ofNat 47, Char.ofNat 103, Char.ofNat 48, Char.ofNat 49, Char.ofNat 50, Char.ofNat 55, Char.ofNat 50, Char.ofNat 47, Char.ofNat 108, Char.ofNat 97, Char.ofNat 119, Char.ofNat 115, Char.ofNat 46, Char.ofNat 70, Char.ofNat 110, Char.ofNat 69, Char.ofNat 120, Char.ofNat 97, Char.ofNat 99, Char.ofNat 116, Char.ofNat 70, Char.ofNat 105, Char.ofNat 114, Char.ofNat 115, Char.ofNat 116, Char.ofNat 66, Char.ofNat 101, Char.ofNat 115, Char.ofNat 116, Char.ofNat 32, Char.ofNat 108, Char.ofNat 111, Char.ofNat 111, Char.ofNat 112, Char.ofNat 46, Char.ofNat 101, Char.ofNat 120, Char.ofNat 97, Char.ofNat 109, Char.ofNat 112, Char.ofNat 108, Char.ofNat 101, Char.ofNat 47, Char.ofNat 103, Char.ofNat 48, Char.ofNat 49, Char.ofNat 50, Char.ofNat 55, Char.ofNat 50, Char.ofNat 47, Char.ofNat 108, Char.ofNat 97, Char.ofNat 119, Char.ofNat 115, Char.ofNat 46, Char.ofNat 70, Char.ofNat 110, Char.ofNat 69, Char.ofNat 120, Char.ofNat 97, Char.ofNat 99, Char.ofNat 116, Char.ofNat 66]
def tail1 : List Char := [Char.ofNat 101, Char.ofNat 115, Char.ofNat 116, Char.ofNat 70, Char.ofNat 105, Char.ofNat 114, Char.ofNat 115, Char.ofNat 116, Char.ofNat 84, Char.ofNat 114, Char.ofNat 105, Char.ofNat 112, Char.ofNat 115, Char.ofNat 32, Char.ofNat 108, Char.ofNat 111, Char.ofNat 111, Char.ofNat 112, Char.ofNat 46, Char.ofNat 101, Char.ofNat 120, Char.ofNat 97, Char.ofNat 109, Char.ofNat 112, Char.ofNat 108, Char.ofNat 101, Char.ofNat 47, Char.ofNat 103, Char.ofNat 48, Char.ofNat 49, Char.ofNat 50, Char.ofNat 55, Char.ofNat 50, Char.ofNat 47, Char.ofNat 108, Char.ofNat 97, Char.ofNat 119, Char.ofNat 115, Char.ofNat 46, Char.ofNat 70, Char.ofNat 110, Char.ofNat 69, Char.ofNat 120, Char.ofNat 97, Char.ofNat 99, Char.ofNat 116, Char.ofNat 73, Char.ofNat 115, Char.ofNat 79, Char.ofNat 110, Char.ofNat 66, Char.ofNat 101, Char.ofNat 115, Char.ofNat 116, Char.ofNat 32, Char.ofNat 108, Char.ofNat 111, Char.ofNat 111, Char.ofNat 112, Char.ofNat 46, Char.ofNat 101, Char.ofNat 120, Char.ofNat 97, Char.ofNat 109, Char.ofNat 112, Char.ofNat 108, Char.ofNat 101, Char.ofNat 47, Char.ofNat 103, Char.ofNat 48, Char.ofNat 49, Char.ofNat 50, Char.ofNat 55, Char.ofNat 50, Char.ofNat 47, Char.ofNat 108, Char.ofNat 97, Char.ofNat 119, Char.ofNat 115, Char.ofNat 46, Char.ofNat 70, Char.ofNat 110, Char.ofNat 69, Char.ofNat 120, Char.ofNat 97, Char.ofNat 99, Char.ofNat 116, Char.ofNat 67, Char.ofNat 111, Char.ofNat 117, Char.ofNat 110, Char.ofNat 116, Char.ofNat 79, Char.ofNat 110, Char.ofNat 66, Char.ofNat 101, Char.ofNat 115, Char.ofNat 116, Char.ofNat 32, Char.ofNat 108, Char.ofNat 111, Char.ofNat 111, Char.ofNat 112, Char.ofNat 46, Char.ofNat 101, Char.ofNat 120, Char.ofNat 97, Char.ofNat 109, Char.ofNat 112, Char.ofNat 108, Char.ofNat 101, Char.ofNat 47, Char.ofNat 103, Char.ofNat 48, Char.ofNat 49, Char.ofNat 50, Char.ofNat 55, Char.ofNat 50, Char.ofNat 47, Char.ofNat 108]
def tail2 : List Char := [Char.ofNat 97, Char.ofNat 119, Char.ofNat 115, Char.ofNat 46, Char.ofNat 70, Char.ofNat 110, Char.ofNat 69, Char.ofNat 120, Char.ofNat 97, Char.ofNat 99, Char.ofNat 116, Char.ofNat 70, Char.ofNat 97, Char.ofNat 114, Char.ofNat 116, Char.ofNat 104, Char.ofNat 101, Char.ofNat 115, Char.ofNat 116, Char.ofNat 83, Char.ofNat 116, Char.ofNat 97, Char.ofNat 116, Char.ofNat 101, Char.ofNat 115, Char.ofNat 32, Char.ofNat 108, Char.ofNat 111, Char.ofNat 111, Char.ofNat 112, Char.ofNat 46, Char.ofNat 101, Char.ofNat 120, Char.ofNat 97, Char.ofNat 109, Char.ofNat 112, Char.ofNat 108, Char.ofNat 101, Char.ofNat 47, Char.ofNat 103, Char.ofNat 48, Char.ofNat 49, Char.ofNat 50, Char.ofNat 55, Char.ofNat 50, Char.ofNat 47, Char.ofNat 108, Char.ofNat 97, Char.ofNat 119, Char.ofNat 115, Char.ofNat 46, Char.ofNat 70, Char.ofNat 110, Char.ofNat 69, Char.ofNat 120, Char.ofNat 97, Char.ofNat 99, Char.ofNat 116, Char.ofNat 70, Char.ofNat 101, Char.ofNat 119, Char.ofNat 101, Char.ofNat 115, Char.ofNat 116, Char.ofNat 79, Char.ofNat 102, Char.ofNat 67, Char.ofNat 114, Char.ofNat 101, Char.ofNat 119, Char.ofNat 32, Char.ofNat 108, Char.ofNat 111, Char.ofNat 111, Char.ofNat 112, Char.ofNat 46, Char.ofNat 101, Char.ofNat 120, Char.ofNat 97, Char.ofNat 109, Char.ofNat 112, Char.ofNat 108, Char.ofNat 101, Char.ofNat 47, Char.ofNat 103, Char.ofNat 48, Char.ofNat 49, Char.ofNat 50, Char.ofNat 55, Char.ofNat 50, Char.ofNat 47, Char.ofNat 108, Char.ofNat 97, Char.ofNat 119, Char.ofNat 115, Char.ofNat 46, Char.ofNat 70, Char.ofNat 110, Char.ofNat 69, Char.ofNat 120, Char.ofNat 97, Char.ofNat 99, Char.ofNat 116, Char.ofNat 70, Char.ofNat 105, Char.ofNat 114, Char.ofNat 115, Char.ofNat 116, Char.ofNat 79, Char.ofNat 102, Char.ofNat 67, Char.ofNat 114, Char.ofNat 101, Char.ofNat 119, Char.ofNat 32, Char.ofNat 108, Char.ofNat 111, Char.ofNat 111, Char.ofNat 112, Char.ofNat 46]
def tail3 : List Char := [Char.ofNat 101, Char.ofNat 120, Char.ofNat 97, Char.ofNat 109, Char.ofNat 112, Char.ofNat 108, Char.ofNat 101, Char.ofNat 47, Char.ofNat 103, Char.ofNat 48, Char.ofNat 49, Char.ofNat 50, Char.ofNat 55, Char.ofNat 50, Char.ofNat 47, Char.ofNat 108, Char.ofNat 97, Char.ofNat 119, Char.ofNat 115, Char.ofNat 46, Char.ofNat 70, Char.ofNat 110, Char.ofNat 69, Char.ofNat 120, Char.ofNat 97, Char.ofNat 99, Char.ofNat 116, Char.ofNat 76, Char.ofNat 101, Char.ofNat 97, Char.ofNat 115, Char.ofNat 116, Char.ofNat 77, Char.ofNat 111, Char.ofNat 115, Char.ofNat 116, Char.ofNat 32, Char.ofNat 108, Char.ofNat 111, Char.ofNat 111, Char.ofNat 112, Char.ofNat 46, Char.ofNat 101, Char.ofNat 120, Char.ofNat 97, Char.ofNat 109, Char.ofNat 112, Char.ofNat 108, Char.ofNat 101, Char.ofNat 47, Char.ofNat 103, Char.ofNat 48, Char.ofNat 49, Char.ofNat 50, Char.ofNat 55, Char.ofNat 50, Char.ofNat 47, Char.ofNat 108, Char.ofNat 97, Char.ofNat 119, Char.ofNat 115, Char.ofNat 46, Char.ofNat 70, Char.ofNat 110, Char.ofNat 69, Char.ofNat 120, Char.ofNat 97, Char.ofNat 99, Char.ofNat 116, Char.ofNat 76, Char.ofNat 101, Char.ofNat 97, Char.ofNat 115, Char.ofNat 116, Char.ofNat 67, Char.ofNat 97, Char.ofNat 114, Char.ofNat 114, Char.ofNat 105, Char.ofNat 101, Char.ofNat 100, Char.ofNat 32, Char.ofNat 108, Char.ofNat 111, Char.ofNat 111, Char.ofNat 112, Char.ofNat 46, Char.ofNat 101, Char.ofNat 120, Char.ofNat 97, Char.ofNat 109, Char.ofNat 112, Char.ofNat 108, Char.ofNat 101, Char.ofNat 47, Char.ofNat 103, Char.ofNat 48, Char.ofNat 49, Char.ofNat 50, Char.ofNat 55, Char.ofNat 50, Char.ofNat 47, Char.ofNat 108, Char.ofNat 97, Char.ofNat 119, Char.ofNat 115, Char.ofNat 46, Char.ofNat 70, Char.ofNat 110, Char.ofNat 69, Char.ofNat 120, Char.ofNat 97, Char.ofNat 99, Char.ofNat 116, Char.ofNat 70, Char.ofNat 105, Char.ofNat 114, Char.ofNat 115, Char.ofNat 116, Char.ofNat 67]
def tail4 : List Char := [Char.ofNat 97, Char.ofNat 114, Char.ofNat 114, Char.ofNat 105, Char.ofNat 101, Char.ofNat 100, Char.ofNat 32, Char.ofNat 108, Char.ofNat 111, Char.ofNat 111, Char.ofNat 112, Char.ofNat 46, Char.ofNat 101, Char.ofNat 120, Char.ofNat 97, Char.ofNat 109, Char.ofNat 112, Char.ofNat 108, Char.ofNat 101, Char.ofNat 47, Char.ofNat 103, Char.ofNat 48, Char.ofNat 49, Char.ofNat 50, Char.ofNat 55, Char.ofNat 50, Char.ofNat 47, Char.ofNat 108, Char.ofNat 97, Char.ofNat 119, Char.ofNat 115, Char.ofNat 46, Char.ofNat 70, Char.ofNat 110, Char.ofNat 69, Char.ofNat 120, Char.ofNat 97, Char.ofNat 99, Char.ofNat 116, Char.ofNat 78, Char.ofNat 101, Char.ofNat 101, Char.ofNat 100, Char.ofNat 101, Char.ofNat 100, Char.ofNat 82, Char.ofNat 111, Char.ofNat 119, Char.ofNat 101, Char.ofNat 114, Char.ofNat 115]
def tail : List Char := tail0 ++ (tail1 ++ (tail2 ++ (tail3 ++ (tail4))))

theorem whole : Try.prog.initOrder = String.ofList (word0 ++ Char.ofNat 32 :: (word1 ++ Char.ofNat 32 :: (word2 ++ Char.ofNat 32 :: tail))) := by kernel_rfl
theorem behind (ws : List (List Char)) : behindMainWord (word0 :: word1 :: word2 :: ws) = word2 :: ws := by kernel_rfl
theorem words : ∃ ws, behindMainWord (wordsSigns Try.prog.initOrder.toList) = word2 :: ws := by
  refine ⟨wordsSigns tail, ?_⟩
  rw [whole, String.toList_ofList, skip _ _ (by kernel_rfl), skip _ _ (by kernel_rfl), skip _ _ (by kernel_rfl), behind]

theorem lays : Try.prog.laysLater = false := by kernel_rfl
theorem reflects : Try.prog.bearsReflect = false := by kernel_rfl
theorem door : Try.prog.doorFits [] = true := by kernel_rfl
theorem strip (ws : List (List Char)) : stripLifts liftWords (word2 :: ws) = ([], word2 :: ws) := by kernel_rfl
theorem noGc : (word2 == "gc".toList) = false := by kernel_rfl
theorem noSpec : (word2 == "spec".toList) = false := by kernel_rfl
theorem noCarried : (word2 == "carried".toList) = false := by kernel_rfl

theorem mayEnter_of (P : Program) (ws : List (List Char)) (h : behindMainWord (wordsSigns P.initOrder.toList) = word2 :: ws) (h1 : P.laysLater = false) (h2 : P.bearsReflect = false) (h3 : P.doorFits [] = true) : P.mayEnter = true := by
  unfold Program.mayEnter
  rw [h]
  simp only [strip, noGc, noSpec, noCarried, h1, h2, h3]
  kernel_rfl
theorem headLifts_of (P : Program) (ws : List (List Char)) (h : behindMainWord (wordsSigns P.initOrder.toList) = word2 :: ws) : P.headLifts = [] := by
  unfold Program.headLifts
  rw [h]
  simp only [strip]
  kernel_rfl
theorem liftsFinal_of (P : Program) (ws : List (List Char)) (h : behindMainWord (wordsSigns P.initOrder.toList) = word2 :: ws) : P.liftsFinal = false := by
  unfold Program.liftsFinal
  rw [headLifts_of P ws h, h]
  kernel_rfl
theorem make_of (P : Program) (ws : List (List Char)) (h : behindMainWord (wordsSigns P.initOrder.toList) = word2 :: ws) : P.make = some .cut := by
  unfold Program.make
  rw [headLifts_of P ws h, h]
  kernel_rfl
theorem mayEnter : Try.prog.mayEnter = true := words.elim fun ws h => mayEnter_of _ ws h lays reflects door
theorem liftsFinal : Try.prog.liftsFinal = false := words.elim fun ws h => liftsFinal_of _ ws h
theorem make : Try.prog.make = some .cut := words.elim fun ws h => make_of _ ws h
theorem laid : laidOutB Try.prog = true := by kernel_rfl
theorem rowed : mapsRowed Try.prog = true := by kernel_rfl
theorem heard : Try.prog.stopsHeard = true := by kernel_rfl
theorem keys : Try.prog.plainKeys = false := by kernel_rfl
end Go.Proofs.Ytlpeimlbpiofkaa.enter

namespace Go.Proofs.Ytlpeimlbpiofkaa
open Go.RowKit Go.Maps Go.WideShapes

/-- The cells of the place with a state's number. -/
def pf (k x i : Nat) : Bool := (bitsOf (x / 2) (2 * k)).getD i false
def pt (x : Nat) : Bool := bitAt x 0
def plcC (k x : Nat) : Array Value := place9 (pf k x) (pt x)
def plc (k x : Nat) : Value := .agg (plcC k x)
theorem law_place : Keyed Try.prog 75 :=
  Keyed.of_law (deep_law_laid (m := 40) (by kernel_rfl) (by decide) (of_decide_eq_true (by kernel_rfl)) (by kernel_rfl) (by kernel_rfl))
theorem place_some : ∀ b0 b1 b2 b3 b4 b5 b6 b7 b8 : Bool, (keyOf Try.prog 75 (.agg #[.bool b0, .bool b1, .bool b2, .bool b3, .bool b4, .bool b5, .bool b6, .bool b7, .bool b8])).isSome = true := by decide +kernel
noncomputable def plcL (k x : Nat) : Lit := (keyOf Try.prog 75 (plc k x)).getD (.bool false)
theorem plc_reads (k x : Nat) : keyOf Try.prog 75 (plc k x) = some (plcL k x) := by
  have h := place_some ((bitsOf (x / 2) (2 * k)).getD 0 false) ((bitsOf (x / 2) (2 * k)).getD 1 false) ((bitsOf (x / 2) (2 * k)).getD 2 false) ((bitsOf (x / 2) (2 * k)).getD 3 false) ((bitsOf (x / 2) (2 * k)).getD 4 false) ((bitsOf (x / 2) (2 * k)).getD 5 false) ((bitsOf (x / 2) (2 * k)).getD 6 false) ((bitsOf (x / 2) (2 * k)).getD 7 false) (bitAt x 0)
  obtain ⟨l, hl⟩ := Option.isSome_iff_exists.1 h
  have h2 : keyOf Try.prog 75 (plc k x) = some l := hl
  rw [plcL, h2]
  rfl
/-- How many states' numbers there are. -/
def sts (k : Nat) : List Nat := List.range (2 * 2 ^ (2 * k))
def unplc : Value → Nat
  | .agg cs => match cs.toList with
    | [.bool a, .bool b, .bool c, .bool d, .bool e, .bool f, .bool g, .bool h, .bool t] => 2 * (a.toNat + 2 * b.toNat + 4 * c.toNat + 8 * d.toNat + 16 * e.toNat + 32 * f.toNat + 64 * g.toNat + 128 * h.toNat) + t.toNat
    | _ => 0
  | _ => 0
theorem unplc_all : (List.range 5).all (fun k => (sts k).all fun x => unplc (plc k x) == x) = true := by decide +kernel
theorem unplc_plc {k x : Nat} (hk : k ≤ 4) (hx : x ∈ sts k) : unplc (plc k x) = x := by
  have h := List.all_eq_true.1 unplc_all k (List.mem_range.2 (by omega))
  simpa using List.all_eq_true.1 h x hx
theorem place_keys {k : Nat} (hk : k ≤ 4) : KeyT Try.prog 75 (plc k) (plcL k) (sts k) where
  law := law_place
  reads := fun a _ => plc_reads k a
  inj := fun a ha b hb h => by
    have e : plc k a = plc k b := law_place.inj (plc_reads k a) (by rw [h]; exact plc_reads k b)
    rw [← unplc_plc hk ha, e, unplc_plc hk hb]
theorem sts_len {k : Nat} (hk : k ≤ 4) : (sts k).length < maxLen := by
  have h : 2 ^ (2 * k) ≤ 2 ^ 8 := Nat.pow_le_pow_right (by omega) (by omega)
  rw [sts, List.length_range]
  unfold maxLen
  omega
theorem sts_nodup (k : Nat) : (sts k).Nodup := List.nodup_range
end Go.Proofs.Ytlpeimlbpiofkaa

namespace Go.Proofs.Ytlpeimlbpiofkaa
open Go.RowKit

/-- The rows in the state with a number. -/
def mvs (k q x : Nat) : List (List Int) := rowsIn k q (bitsOf (x / 2) (2 * k)) (bitAt x 0)
/-- What is told so far: how far each state is that was reached, the newest first; and what waits. -/
abbrev SeaSt := List (Nat × Int) × List Nat
noncomputable def stepP (x : Nat) (st : SeaSt) (l : List Int) : SeaSt := match lk st.1 (stepC x l) with
  | some _ => st
  | none => ((stepC x l, (lk st.1 x).getD 0 + 1) :: st.1, st.2 ++ [stepC x l])
noncomputable def expJ (x : Nat) (ls : List (List Int)) (st : SeaSt) (j : Nat) : SeaSt := (ls.take j).foldl (stepP x) st
noncomputable def expP (k q x : Nat) (st : SeaSt) : SeaSt := (mvs k q x).foldl (stepP x) st
noncomputable def nextP (k q : Nat) (st : SeaSt) : SeaSt := match st.2 with
  | [] => st
  | x :: _ => ((expP k q x st).1, (expP k q x st).2.tail)
noncomputable def runP (k q src : Nat) : Nat → SeaSt
  | 0 => ([(src, 0)], [src])
  | n + 1 => nextP k q (runP k q src n)
theorem stepP_some {x : Nat} {st : SeaSt} {l : List Int} {v : Int} (h : lk st.1 (stepC x l) = some v) : stepP x st l = st := by simp [stepP, h]
theorem stepP_none {x : Nat} {st : SeaSt} {l : List Int} (h : lk st.1 (stepC x l) = none) : stepP x st l = ((stepC x l, (lk st.1 x).getD 0 + 1) :: st.1, st.2 ++ [stepC x l]) := by simp [stepP, h]
theorem expJ_zero (x : Nat) (ls : List (List Int)) (st : SeaSt) : expJ x ls st 0 = st := rfl
theorem expJ_next {x : Nat} {ls : List (List Int)} {st : SeaSt} {j : Nat} (hj : j < ls.length) : expJ x ls st (j + 1) = stepP x (expJ x ls st j) ls[j] := by
  rw [expJ, List.take_succ_eq_append_getElem hj, List.foldl_append]; rfl
theorem expJ_all (k q x : Nat) (st : SeaSt) : expJ x (mvs k q x) st (mvs k q x).length = expP k q x st := by rw [expJ, List.take_length]; rfl
theorem runP_next (k q src n : Nat) : runP k q src (n + 1) = nextP k q (runP k q src n) := rfl
theorem nextP_at {k q x : Nat} {st : SeaSt} {r : List Nat} (h : st.2 = x :: r) : nextP k q st = ((expP k q x st).1, (expP k q x st).2.tail) := by simp [nextP, h]

theorem nextP_nil {k q : Nat} {st : SeaSt} (h : st.2 = []) : nextP k q st = st := by simp [nextP, h]
theorem run_stay {k q src n : Nat} (h : (runP k q src n).2 = []) : ∀ m, runP k q src (n + m) = runP k q src n
  | 0 => rfl
  | m + 1 => by rw [← Nat.add_assoc, runP_next, run_stay h m, nextP_nil h]

/-- All is within bounds. -/
structure Mild' (k b : Nat) (st : SeaSt) : Prop where
  val : ∀ p ∈ st.1, 0 ≤ p.2 ∧ p.2 ≤ b
  dom : ∀ y ∈ st.2, y ∈ sts k
  len : st.2.length ≤ b
theorem Mild'.mono {k b c : Nat} {st : SeaSt} (h : Mild' k b st) (hb : b ≤ c) : Mild' k c st := ⟨fun p hp => ⟨(h.val p hp).1, by have := (h.val p hp).2; omega⟩, h.dom, by have := h.len; omega⟩
theorem Mild'.at_ {k b : Nat} {st : SeaSt} (h : Mild' k b st) (x : Nat) : 0 ≤ (lk st.1 x).getD 0 ∧ (lk st.1 x).getD 0 ≤ b := by
  cases hx : lk st.1 x with
  | none => simp
  | some v => exact h.val _ (lk_mem hx)
theorem Mild'.step {k b x : Nat} {st : SeaSt} {l : List Int} (h : Mild' k b st) (hy : stepC x l ∈ sts k) : Mild' k (b + 1) (stepP x st l) := by
  cases hq : lk st.1 (stepC x l) with
  | some v => rw [stepP_some hq]; exact h.mono (by omega)
  | none =>
    rw [stepP_none hq]
    have h2 := h.at_ x
    refine ⟨fun p hp => ?_, fun y hm => ?_, ?_⟩
    · rcases List.mem_cons.1 hp with rfl | hp
      · exact ⟨by show 0 ≤ _ + 1; omega, by show _ + 1 ≤ _; omega⟩
      · have := h.val p hp; omega
    · rcases List.mem_append.1 hm with hm | hm
      · exact h.dom y hm
      · obtain rfl : y = stepC x l := by simpa using hm
        exact hy
    · simp; exact h.len
theorem Mild'.exp {k b x : Nat} {st : SeaSt} (h : Mild' k b st) : ∀ (ls : List (List Int)), (∀ l ∈ ls, stepC x l ∈ sts k) → Mild' k (b + ls.length) (ls.foldl (stepP x) st)
  | [], _ => h
  | l :: ls, hl => by
    have h1 := Mild'.exp (h.step (hl l (by simp))) ls (fun m hm => hl m (by simp [hm]))
    rw [List.length_cons, show b + (ls.length + 1) = b + 1 + ls.length by omega]
    exact h1
theorem sts_mem {k x : Nat} : x ∈ sts k ↔ x < 2 * 2 ^ (2 * k) := List.mem_range
theorem code_of_num {k x : Nat} (hx : x ∈ sts k) : codeOf (bitsOf (x / 2) (2 * k)) (bitAt x 0) = x := by
  have hx' := sts_mem.1 hx
  refine nat_bits fun i => ?_
  rw [bit_code, bitsOf_len]
  by_cases h0 : i = 0
  · subst h0; simp
  · rw [if_neg h0]
    obtain ⟨j, rfl⟩ : ∃ j, i = j + 1 := ⟨i - 1, by omega⟩
    rw [Nat.add_sub_cancel, ← bit_half]
    by_cases hj : j < 2 * k
    · simp [bitsOf, hj]
    · have hlt : x / 2 < 2 ^ j := Nat.lt_of_lt_of_le (show x / 2 < 2 ^ (2 * k) by omega) (Nat.pow_le_pow_right (by omega) (by omega))
      have hz : bitAt (x / 2) j = false := by unfold bitAt; exact Nat.testBit_lt_two_pow hlt
      rw [hz]; simp [hj]
/-- The place behind a row. -/
theorem plc_step {k q x : Nat} {l : List Int} (hx : x ∈ sts k) (hl : l ∈ mvs k q x) : placeCells (flipped (bitsOf (x / 2) (2 * k)) l) (!bitAt x 0) = plcC k (stepC x l) ∧ stepC x l ∈ sts k := by
  have hb := bitsOf_len (x / 2) (2 * k)
  have h1 := step_code (t := bitAt x 0) hb (fun y hy => rows_bound hl y hy)
  rw [code_of_num hx] at h1
  have hfl : (flipped (bitsOf (x / 2) (2 * k)) l).length = 2 * k := by rw [flipped_len, hb]
  refine ⟨by rw [show plcC k (stepC x l) = placeCells (bitsOf (stepC x l / 2) (2 * k)) (bitAt (stepC x l) 0) from rfl, h1, bits_back hfl, torch_back], ?_⟩
  rw [sts_mem, h1]
  have h2 := code_lt (flipped (bitsOf (x / 2) (2 * k)) l) (!bitAt x 0)
  rw [hfl] at h2
  omega
theorem mvs_len (k q x : Nat) (hk : k ≤ 4) : (mvs k q x).length ≤ 255 := Nat.le_trans (among_len _ _ _ _) (groups_small hk)
theorem Mild'.run {k q src : Nat} (hk : k ≤ 4) (hs : src ∈ sts k) : ∀ n, Mild' k (256 * n + 1) (runP k q src n)
  | 0 => ⟨fun p hp => by obtain rfl : p = (src, 0) := by simpa [runP] using hp
                         simp, fun y hy => by obtain rfl : y = src := by simpa [runP] using hy
                                              exact hs, by simp [runP]⟩
  | n + 1 => by
    have h := Mild'.run (q := q) hk hs n
    rw [runP_next]
    cases hq : (runP k q src n).2 with
    | nil => rw [show nextP k q (runP k q src n) = runP k q src n by simp [nextP, hq]]; exact h.mono (by omega)
    | cons x r =>
      have hx : x ∈ sts k := h.dom x (by rw [hq]; simp)
      have h2 := h.exp (x := x) (mvs k q x) (fun l hl => (plc_step hx hl).2)
      have h3 := mvs_len k q x hk
      rw [nextP_at hq]
      refine ⟨fun p hp => ?_, fun y hy => h2.dom y (List.mem_of_mem_tail hy), ?_⟩
      · have h4 := h2.val p hp
        exact ⟨h4.1, by have := h4.2; omega⟩
      · have := h2.len
        simp only [List.length_tail, expP]
        omega
/-- What waits begins with what waited. -/
theorem exp_prefix {x : Nat} : ∀ (ls : List (List Int)) (st : SeaSt), ∃ r, (ls.foldl (stepP x) st).2 = st.2 ++ r
  | [], st => ⟨[], by simp⟩
  | l :: ls, st => by
    obtain ⟨r, hr⟩ := exp_prefix ls (stepP x st l)
    cases hq : lk st.1 (stepC x l) with
    | some v => rw [stepP_some hq] at hr; exact ⟨r, by rw [List.foldl_cons, stepP_some hq, hr]⟩
    | none => rw [stepP_none hq] at hr; exact ⟨stepC x l :: r, by rw [List.foldl_cons, stepP_none hq, hr]; simp⟩
/-- The cells of what waits. -/
def edgeC (k : Nat) (ys : List Nat) : List Value := ys.flatMap fun y => (plcC k y).toList
theorem edgeC_snoc (k : Nat) (ys : List Nat) (y : Nat) : edgeC k (ys ++ [y]) = edgeC k ys ++ (plcC k y).toList := by simp [edgeC]
theorem edgeC_cons (k y : Nat) (ys : List Nat) : edgeC k (y :: ys) = (plcC k y).toList ++ edgeC k ys := by simp [edgeC]
theorem plcC_size (k x : Nat) : (plcC k x).size = 9 := rfl
/-- How often the loop goes round at most. -/
def turns (k : Nat) : Nat := 2 * 2 ^ (2 * k)
/-- What the search comes to. -/
noncomputable def finP (k q src : Nat) : SeaSt := runP k q src (turns k)
end Go.Proofs.Ytlpeimlbpiofkaa

namespace Go.Proofs.Ytlpeimlbpiofkaa
open Go.RowKit

theorem runs_out : ((List.range 4).all fun k => (List.range 4).all fun q => (finP (k + 1) (q + 1) 0).2.isEmpty && (finP (k + 1) (q + 1) (2 * 2 ^ (2 * (k + 1)) - 1)).2.isEmpty) = true := by decide +kernel
theorem runs_end {k q src : Nat} (h1 : 1 ≤ k) (h4 : k ≤ 4) (q1 : 1 ≤ q) (q4 : q ≤ 4) (hs : src = 0 ∨ src = 2 * 2 ^ (2 * k) - 1) : (finP k q src).2 = [] := by
  have h := List.all_eq_true.1 (List.all_eq_true.1 runs_out (k - 1) (List.mem_range.2 (by omega))) (q - 1) (List.mem_range.2 (by omega))
  rw [show k - 1 + 1 = k by omega, show q - 1 + 1 = q by omega, Bool.and_eq_true] at h
  rcases hs with rfl | rfl
  · exact List.isEmpty_iff.1 h.1
  · exact List.isEmpty_iff.1 h.2
end Go.Proofs.Ytlpeimlbpiofkaa

namespace Go.Proofs.Ytlpeimlbpiofkaa
open Go.RowKit Go.Maps Go.WideShapes

theorem info_place : (Try.prog.info? 75).map (fun i => (i.zero, i.size, i.bytes)) = some (some (.agg #[.bool false, .bool false, .bool false, .bool false, .bool false, .bool false, .bool false, .bool false, .bool false]), 9, 9) := by kernel_rfl
theorem hzero (w : World) : (zeroValue 3).run Try.prog w = .ok (.int .i64 0) w := by kernel_rfl
theorem elem_places : Try.prog.elem 105 = 75 := by kernel_rfl
abbrev SeaMap (k : Nat) (w : World) (b : Nat) (m : List (Nat × Int)) : Prop := MapIs Try.prog 75 3 (plcL k) (sts k) w b (lk m)
theorem map_drew {k b : Nat} {w : World} {m : List (Nat × Int)} (h : SeaMap k w b m) : SeaMap k w.drew b m := by
  obtain ⟨D, ho, hr⟩ := h; exact ⟨D, ho.drew, hr⟩
/-- How the blocks lie. -/
structure SeaC (w : World) (gM B3 gA B2 : Nat) (rowv : Value) : Prop where
  c1 : w.heap.size < gM
  c2 : gM < B3
  c3 : B3 ≤ gA
  c4 : gA < B2
  rob : ∀ kk, rowv.ownBlock = some kk → gA + 1 ≤ kk ∧ kk < B2
section
variable {w wz wz' : World} {k gG gC gM B3 gA B2 x nr : Nat} {rowv v v' : Value} {rc : List Value} {m m' : List (Nat × Int)} {ys ys' : List Nat}
end
def Nine0 (g k x : Nat) (w : World) : Prop := w.cell? ⟨g, 0, none⟩ = some (.bool (pf k x 0)) ∧ w.cell? ⟨g, 1, none⟩ = some (.bool (pf k x 1)) ∧ w.cell? ⟨g, 2, none⟩ = some (.bool (pf k x 2)) ∧ w.cell? ⟨g, 3, none⟩ = some (.bool (pf k x 3)) ∧ w.cell? ⟨g, 4, none⟩ = some (.bool (pf k x 4)) ∧ w.cell? ⟨g, 5, none⟩ = some (.bool (pf k x 5)) ∧ w.cell? ⟨g, 6, none⟩ = some (.bool (pf k x 6)) ∧ w.cell? ⟨g, 7, none⟩ = some (.bool (pf k x 7)) ∧ w.cell? ⟨g, 8, none⟩ = some (.bool (pt x))
def Nine1 (g k y : Nat) (w : World) : Prop := w.cell? ⟨g, 1, none⟩ = some (.bool (pf k y 0)) ∧ w.cell? ⟨g, 2, none⟩ = some (.bool (pf k y 1)) ∧ w.cell? ⟨g, 3, none⟩ = some (.bool (pf k y 2)) ∧ w.cell? ⟨g, 4, none⟩ = some (.bool (pf k y 3)) ∧ w.cell? ⟨g, 5, none⟩ = some (.bool (pf k y 4)) ∧ w.cell? ⟨g, 6, none⟩ = some (.bool (pf k y 5)) ∧ w.cell? ⟨g, 7, none⟩ = some (.bool (pf k y 6)) ∧ w.cell? ⟨g, 8, none⟩ = some (.bool (pf k y 7)) ∧ w.cell? ⟨g, 9, none⟩ = some (.bool (pt y))
theorem nine0_of {w : World} {g k x : Nat} {t : TypeId} (h : Whole w g t (plcC k x)) : Nine0 g k x w := ⟨h.cell 0, h.cell 1, h.cell 2, h.cell 3, h.cell 4, h.cell 5, h.cell 6, h.cell 7, h.cell 8⟩
theorem nine1_of {w : World} {g k y : Nat} {t : TypeId} {rv : Value} (h : Whole w g t #[rv, .bool (pf k y 0), .bool (pf k y 1), .bool (pf k y 2), .bool (pf k y 3), .bool (pf k y 4), .bool (pf k y 5), .bool (pf k y 6), .bool (pf k y 7), .bool (pt y)]) : Nine1 g k y w := ⟨h.cell 1, h.cell 2, h.cell 3, h.cell 4, h.cell 5, h.cell 6, h.cell 7, h.cell 8, h.cell 9⟩
def Sea2 (g gA k y x : Nat) (w : World) : Prop := Nine1 g k y w ∧ Nine0 gA k x w
/-- The first place that waits. -/
theorem win_head {w : World} {B n k x : Nat} {v : Value} {r : List Nat} (h : Win w B 75 9 v n (edgeC k (x :: r))) : ∃ g o cap, v = .slice (some ⟨g, o, none⟩) n cap ∧ B ≤ g ∧ g < w.heap.size ∧ n ≤ cap ∧ cap ≤ maxLen ∧ w.cell? ⟨g, o, none⟩ = some (.bool (pf k x 0)) ∧ w.cell? ⟨g, o + 1, none⟩ = some (.bool (pf k x 1)) ∧ w.cell? ⟨g, o + 2, none⟩ = some (.bool (pf k x 2)) ∧ w.cell? ⟨g, o + 3, none⟩ = some (.bool (pf k x 3)) ∧ w.cell? ⟨g, o + 4, none⟩ = some (.bool (pf k x 4)) ∧ w.cell? ⟨g, o + 5, none⟩ = some (.bool (pf k x 5)) ∧ w.cell? ⟨g, o + 6, none⟩ = some (.bool (pf k x 6)) ∧ w.cell? ⟨g, o + 7, none⟩ = some (.bool (pf k x 7)) ∧ w.cell? ⟨g, o + 8, none⟩ = some (.bool (pt x)) := by
  obtain ⟨g, o, cap, hv, h1, h2, h3, h4, h5⟩ := h.cellAt
  rw [edgeC_cons] at h5
  exact ⟨g, o, cap, hv, h1, h2, h3, h4, h5 0 _ rfl, h5 1 _ rfl, h5 2 _ rfl, h5 3 _ rfl, h5 4 _ rfl, h5 5 _ rfl, h5 6 _ rfl, h5 7 _ rfl, h5 8 _ rfl⟩
/-- The cells of a move in a list of them. -/
theorem own_moves_row {w : World} {lo c k x : Nat} {A : Option Addr} {bs : List Bool} {t : Bool} {rs : List RowV} (h : w.ownsRow lo 155 10 (.slice A rs.length c) rs.length (movesCells bs t rs)) {i : Nat} (hi : i < rs.length) (hp : placeCells (flipped bs rs[i].xs) (!t) = plcC k x) :
    ∃ g, A = some ⟨g, 0, none⟩ ∧ g < w.heap.size ∧ w.cell? ⟨g, i * 10, none⟩ = some rs[i].val ∧ w.cell? ⟨g, i * 10 + 1, none⟩ = some (.bool (pf k x 0)) ∧ w.cell? ⟨g, i * 10 + 2, none⟩ = some (.bool (pf k x 1)) ∧ w.cell? ⟨g, i * 10 + 3, none⟩ = some (.bool (pf k x 2)) ∧ w.cell? ⟨g, i * 10 + 4, none⟩ = some (.bool (pf k x 3)) ∧ w.cell? ⟨g, i * 10 + 5, none⟩ = some (.bool (pf k x 4)) ∧ w.cell? ⟨g, i * 10 + 6, none⟩ = some (.bool (pf k x 5)) ∧ w.cell? ⟨g, i * 10 + 7, none⟩ = some (.bool (pf k x 6)) ∧ w.cell? ⟨g, i * 10 + 8, none⟩ = some (.bool (pf k x 7)) ∧ w.cell? ⟨g, i * 10 + 9, none⟩ = some (.bool (pt x)) := by
  have hx := h
  obtain ⟨-, ⟨-, h0⟩ | ⟨g, cap, cur, hv, -, hh, -⟩⟩ := hx
  · omega
  · obtain ⟨rfl, rfl⟩ : A = some ⟨g, 0, none⟩ ∧ c = cap := by simpa using hv
    have hg : g < w.heap.size := (Array.getElem?_eq_some_iff.1 hh).1
    have hc : ∀ j, j < 10 → w.cell? ⟨g, i * 10 + j, none⟩ = (rs[i].val :: (plcC k x).toList)[j]? := fun j hj => by
      have h1 := (h.cellAt (i * 10 + j) (by omega)).trans (movesCells_get bs t rs i j hi hj)
      rw [h1, moveCells, hp]
    exact ⟨g, rfl, hg, hc 0 (by omega), hc 1 (by omega), hc 2 (by omega), hc 3 (by omega), hc 4 (by omega), hc 5 (by omega), hc 6 (by omega), hc 7 (by omega), hc 8 (by omega), hc 9 (by omega)⟩
/-- What the search hands back. -/
def ApartPost (k q src : Nat) (w : World) (e : Ending) (w' : World) : Prop :=
  ∃ b : Nat, e = .returned (.map (some b)) ∧ SeaMap k w' b (finP k q src).1 ∧ Below w.heap.size w w'
end Go.Proofs.Ytlpeimlbpiofkaa

namespace Go.Proofs.Ytlpeimlbpiofkaa
open Go.RowKit Go.Maps Go.WideShapes

end Go.Proofs.Ytlpeimlbpiofkaa

namespace Go.Proofs.Ytlpeimlbpiofkaa
open Go.RowKit

theorem ride_bound {k : Nat} {L : List (List Int)} {l : List Int} {bs : List Bool} {t : Bool} (hup : ∀ l ∈ L, l ∈ upLists (2 * k) (2 * k)) (hl : l ∈ ridesAt bs t L) : ∀ y ∈ l, 0 ≤ y ∧ y < ((2 * k : Nat) : Int) := fun y hy => by
  have h := mem_steps (up_steps (hup l (List.mem_filter.1 hl).1)).1 hy
  omega
/-- The rides in the state with a number. -/
def mvsW (k : Nat) (L : List (List Int)) (x : Nat) : List (List Int) := ridesAt (bitsOf (x / 2) (2 * k)) (bitAt x 0) L
noncomputable def expW (k : Nat) (L : List (List Int)) (x : Nat) (st : SeaSt) : SeaSt := (mvsW k L x).foldl (stepP x) st
noncomputable def nextW (k : Nat) (L : List (List Int)) (st : SeaSt) : SeaSt := match st.2 with
  | [] => st
  | x :: _ => ((expW k L x st).1, (expW k L x st).2.tail)
noncomputable def runW (k : Nat) (L : List (List Int)) (src : Nat) : Nat → SeaSt
  | 0 => ([(src, 0)], [src])
  | n + 1 => nextW k L (runW k L src n)
theorem expW_all (k : Nat) (L : List (List Int)) (x : Nat) (st : SeaSt) : expJ x (mvsW k L x) st (mvsW k L x).length = expW k L x st := by rw [expJ, List.take_length]; rfl
theorem runW_next (k : Nat) (L : List (List Int)) (src n : Nat) : runW k L src (n + 1) = nextW k L (runW k L src n) := rfl
theorem nextW_at {k x : Nat} {L : List (List Int)} {st : SeaSt} {r : List Nat} (h : st.2 = x :: r) : nextW k L st = ((expW k L x st).1, (expW k L x st).2.tail) := by simp [nextW, h]

theorem nextW_nil {k : Nat} {L : List (List Int)} {st : SeaSt} (h : st.2 = []) : nextW k L st = st := by simp [nextW, h]
theorem runW_stay {k src n : Nat} {L : List (List Int)} (h : (runW k L src n).2 = []) : ∀ m, runW k L src (n + m) = runW k L src n
  | 0 => rfl
  | m + 1 => by rw [← Nat.add_assoc, runW_next, runW_stay h m, nextW_nil h]

/-- The place behind a row. -/
theorem plcW_step {k x : Nat} {L : List (List Int)} {l : List Int} (hup : ∀ l ∈ L, l ∈ upLists (2 * k) (2 * k)) (hx : x ∈ sts k) (hl : l ∈ mvsW k L x) : placeCells (flipped (bitsOf (x / 2) (2 * k)) l) (!bitAt x 0) = plcC k (stepC x l) ∧ stepC x l ∈ sts k := by
  have hb := bitsOf_len (x / 2) (2 * k)
  have h1 := step_code (t := bitAt x 0) hb (fun y hy => ride_bound hup hl y hy)
  rw [code_of_num hx] at h1
  have hfl : (flipped (bitsOf (x / 2) (2 * k)) l).length = 2 * k := by rw [flipped_len, hb]
  refine ⟨by rw [show plcC k (stepC x l) = placeCells (bitsOf (stepC x l / 2) (2 * k)) (bitAt (stepC x l) 0) from rfl, h1, bits_back hfl, torch_back], ?_⟩
  rw [sts_mem, h1]
  have h2 := code_lt (flipped (bitsOf (x / 2) (2 * k)) l) (!bitAt x 0)
  rw [hfl] at h2
  omega
theorem mvsW_len {k x : Nat} {L : List (List Int)} (hL : L.length ≤ 255) : (mvsW k L x).length ≤ 255 := Nat.le_trans (rides_len _ _ _) hL
theorem mild_runW {k src : Nat} {L : List (List Int)} (hL : L.length ≤ 255) (hup : ∀ l ∈ L, l ∈ upLists (2 * k) (2 * k)) (hs : src ∈ sts k) : ∀ n, Mild' k (256 * n + 1) (runW k L src n)
  | 0 => ⟨fun p hp => by obtain rfl : p = (src, 0) := by simpa [runW] using hp
                         simp, fun y hy => by obtain rfl : y = src := by simpa [runW] using hy
                                              exact hs, by simp [runW]⟩
  | n + 1 => by
    have h := mild_runW hL hup hs n
    rw [runW_next]
    cases hq : (runW k L src n).2 with
    | nil => rw [show nextW k L (runW k L src n) = runW k L src n by simp [nextW, hq]]; exact h.mono (by omega)
    | cons x r =>
      have hx : x ∈ sts k := h.dom x (by rw [hq]; simp)
      have h2 := h.exp (x := x) (mvsW k L x) (fun l hl => (plcW_step hup hx hl).2)
      have h3 := mvsW_len (k := k) (x := x) hL
      rw [nextW_at hq]
      refine ⟨fun p hp => ?_, fun y hy => h2.dom y (List.mem_of_mem_tail hy), ?_⟩
      · have h4 := h2.val p hp
        exact ⟨h4.1, by have := h4.2; omega⟩
      · have := h2.len
        simp only [List.length_tail, expW]
        omega
/-- What the search comes to. -/
noncomputable def finW (k : Nat) (L : List (List Int)) (src : Nat) : SeaSt := runW k L src (turns k)

/-- A ride leads from one state to another. -/
def RideE (k : Nat) (L : List (List Int)) (x y : Nat) : Prop := ∃ l ∈ mvsW k L x, stepC x l = y
theorem lk_cons (m : List (Nat × Int)) (y : Nat) (v : Int) : lk ((y, v) :: m) = put (lk m) y v := by
  funext z
  by_cases h : z = y
  · subst h; simp [lk, put]
  · have h' : (z == y) = false := by simpa using h
    simp [lk, put, List.lookup_cons, h, h']
/-- In the midst of the rides from x. -/
theorem amid_fold {k src x : Nat} {L : List (List Int)} {a : Int} {dn : Nat → Prop} : ∀ (ls : List (List Int)) (st : SeaSt) (tried : List Nat) (rest : List Nat), (∀ l ∈ ls, l ∈ mvsW k L x) → Amid (RideE k L) src (lk st.1) dn x a tried rest → st.2 = x :: rest →
    ∃ rest', Amid (RideE k L) src (lk (ls.foldl (stepP x) st).1) dn x a (tried ++ ls.map (stepC x)) rest' ∧ (ls.foldl (stepP x) st).2 = x :: rest'
  | [], st, tried, rest, _, h, hq => ⟨rest, by simpa using h, hq⟩
  | l :: ls, st, tried, rest, hl, h, hq => by
    rw [List.foldl_cons, List.map_cons, show tried ++ stepC x l :: ls.map (stepC x) = (tried ++ [stepC x l]) ++ ls.map (stepC x) by simp]
    cases hs : lk st.1 (stepC x l) with
    | some v =>
      rw [stepP_some hs]
      exact amid_fold ls st _ rest (fun m hm => hl m (List.mem_cons_of_mem _ hm)) (amid_old h hs) hq
    | none =>
      rw [stepP_none hs]
      refine amid_fold ls _ _ (rest ++ [stepC x l]) (fun m hm => hl m (List.mem_cons_of_mem _ hm)) ?_ (by rw [hq]; rfl)
      have h2 := amid_new h ⟨l, hl l (List.mem_cons_self ..), rfl⟩ hs
      have h3 : (lk st.1 x).getD 0 = a := by rw [h.at_]; rfl
      show Amid (RideE k L) src (lk ((stepC x l, (lk st.1 x).getD 0 + 1) :: st.1)) dn x a _ _
      rw [h3, lk_cons]
      exact h2
theorem wave_run {k src : Nat} {L : List (List Int)} : ∀ n, ∃ dn, Wave (RideE k L) src (lk (runW k L src n).1) dn (runW k L src n).2
  | 0 => by
    refine ⟨fun _ => False, ?_⟩
    have h : lk [(src, (0 : Int))] = put (fun _ => none) src 0 := by rw [lk_cons]; rfl
    show Wave _ _ (lk [(src, (0 : Int))]) _ [src]
    rw [h]
    exact wave_start
  | n + 1 => by
    obtain ⟨dn, h⟩ := wave_run (k := k) (src := src) (L := L) n
    rw [runW_next]
    cases hq : (runW k L src n).2 with
    | nil => rw [nextW_nil hq]; exact ⟨dn, h⟩
    | cons x r =>
      rw [hq] at h
      obtain ⟨a, ha⟩ := wave_amid h
      obtain ⟨rest', h2, h3⟩ := amid_fold (mvsW k L x) (runW k L src n) [] r (fun l hl => hl) ha hq
      rw [nextW_at hq]
      refine ⟨fun z => dn z ∨ z = x, ?_⟩
      show Wave _ _ (lk (expW k L x (runW k L src n)).1) _ (expW k L x (runW k L src n)).2.tail
      rw [show (expW k L x (runW k L src n)) = (mvsW k L x).foldl (stepP x) (runW k L src n) from rfl, h3]
      refine amid_end (tried := [] ++ (mvsW k L x).map (stepC x)) h2 fun y ⟨l, hl, he⟩ => ?_
      rw [List.nil_append]
      exact List.mem_map.2 ⟨l, hl, he⟩
/-- How many are told and how many wait. -/
structure Count (k n : Nat) (st : SeaSt) : Prop where
  nodup : (st.1.map Prod.fst).Nodup
  dom : ∀ p ∈ st.1, p.1 ∈ sts k
  sum : st.2 = [] ∨ st.1.length = n + st.2.length
theorem lk_none {m : List (Nat × Int)} {y : Nat} (h : lk m y = none) : y ∉ m.map Prod.fst := by
  induction m with
  | nil => exact List.not_mem_nil
  | cons q m ih =>
    obtain ⟨q1, q2⟩ := q
    rw [lk_cons] at h
    by_cases hq : y = q1
    · subst hq; simp [put] at h
    · have h' : lk m y = none := by simpa [put, hq] using h
      intro hm
      rcases List.mem_cons.1 hm with h1 | h1
      · exact hq h1
      · exact ih h' h1
theorem count_fold {k x c : Nat} : ∀ (ls : List (List Int)) (st : SeaSt), (∀ l ∈ ls, stepC x l ∈ sts k) → (st.1.map Prod.fst).Nodup → (∀ p ∈ st.1, p.1 ∈ sts k) → st.1.length = c + st.2.length →
    ((ls.foldl (stepP x) st).1.map Prod.fst).Nodup ∧ (∀ p ∈ (ls.foldl (stepP x) st).1, p.1 ∈ sts k) ∧ (ls.foldl (stepP x) st).1.length = c + (ls.foldl (stepP x) st).2.length
  | [], st, _, h1, h2, h3 => ⟨h1, h2, h3⟩
  | l :: ls, st, hl, h1, h2, h3 => by
    rw [List.foldl_cons]
    cases hs : lk st.1 (stepC x l) with
    | some v => rw [stepP_some hs]; exact count_fold ls st (fun m hm => hl m (List.mem_cons_of_mem _ hm)) h1 h2 h3
    | none =>
      rw [stepP_none hs]
      refine count_fold ls _ (fun m hm => hl m (List.mem_cons_of_mem _ hm)) ?_ ?_ ?_
      · exact List.nodup_cons.2 ⟨lk_none hs, h1⟩
      · intro p hp
        rcases List.mem_cons.1 hp with rfl | hp
        · exact hl l (List.mem_cons_self ..)
        · exact h2 p hp
      · simp only [List.length_cons, List.length_append, List.length_nil]; omega
theorem count_run {k src : Nat} {L : List (List Int)} (hup : ∀ l ∈ L, l ∈ upLists (2 * k) (2 * k)) (hs : src ∈ sts k) (hq : ∀ n, ∀ y ∈ (runW k L src n).2, y ∈ sts k) : ∀ n, Count k n (runW k L src n)
  | 0 => ⟨by simp [runW], fun p hp => by obtain rfl : p = (src, 0) := by simpa [runW] using hp
                                         exact hs, .inr (by simp [runW])⟩
  | n + 1 => by
    have h := count_run hup hs hq n
    rw [runW_next]
    cases he : (runW k L src n).2 with
    | nil => rw [nextW_nil he]; exact ⟨h.nodup, h.dom, .inl he⟩
    | cons x r =>
      have hx : x ∈ sts k := hq n x (by rw [he]; simp)
      have hsum : (runW k L src n).1.length = n + (runW k L src n).2.length := by
        rcases h.sum with h0 | h0
        · rw [he] at h0; cases h0
        · exact h0
      obtain ⟨h1, h2, h3⟩ := count_fold (c := n) (mvsW k L x) (runW k L src n) (fun l hl => (plcW_step hup hx hl).2) h.nodup h.dom hsum
      obtain ⟨r', hr'⟩ := exp_prefix (x := x) (mvsW k L x) (runW k L src n)
      rw [nextW_at he]
      refine ⟨h1, h2, .inr ?_⟩
      show (expW k L x (runW k L src n)).1.length = n + 1 + (expW k L x (runW k L src n)).2.tail.length
      rw [show (expW k L x (runW k L src n)) = (mvsW k L x).foldl (stepP x) (runW k L src n) from rfl, h3, hr', he]
      simp
      omega
theorem sub_len : ∀ {a b : List Nat}, a.Nodup → (∀ y ∈ a, y ∈ b) → a.length ≤ b.length
  | [], _, _, _ => Nat.zero_le _
  | x :: a, b, hn, hs => by
    obtain ⟨h1, h2⟩ := List.nodup_cons.1 hn
    have hx : x ∈ b := hs x (List.mem_cons_self ..)
    have h3 := sub_len (a := a) (b := b.erase x) h2 fun y hy => (List.mem_erase_of_ne (fun (e : y = x) => h1 (by rw [← e]; exact hy))).2 (hs y (List.mem_cons_of_mem _ hy))
    rw [List.length_erase_of_mem hx] at h3
    have h4 : 0 < b.length := List.length_pos_of_mem hx
    simp only [List.length_cons]
    omega
/-- In the end nothing waits. -/
theorem runsW_end {k src : Nat} {L : List (List Int)} (hL : L.length ≤ 255) (hup : ∀ l ∈ L, l ∈ upLists (2 * k) (2 * k)) (hs : src ∈ sts k) : (finW k L src).2 = [] := by
  have hc := count_run hup hs (fun n y hy => (mild_runW hL hup hs n).dom y hy) (turns k)
  rcases hc.sum with h | h
  · exact h
  · have hle : ((finW k L src).1.map Prod.fst).length ≤ (sts k).length := sub_len hc.nodup (fun y hy => by
      obtain ⟨p, hp, rfl⟩ := List.mem_map.1 hy
      exact hc.dom p hp)
    rw [List.length_map, sts, List.length_range] at hle
    have h' : (finW k L src).1.length = turns k + (finW k L src).2.length := h
    have h0 : (finW k L src).2.length = 0 := by unfold turns at h'; omega
    exact List.eq_nil_of_length_eq_zero h0
theorem leastW {k src : Nat} {L : List (List Int)} (hL : L.length ≤ 255) (hup : ∀ l ∈ L, l ∈ upLists (2 * k) (2 * k)) (hs : src ∈ sts k) : Least (One (RideE k L)) src (lk (finW k L src).1) := by
  obtain ⟨dn, h⟩ := wave_run (k := k) (src := src) (L := L) (turns k)
  have he : (runW k L src (turns k)).2 = [] := runsW_end hL hup hs
  rw [he] at h
  exact wave_end h
end Go.Proofs.Ytlpeimlbpiofkaa

namespace Go.Proofs.Ytlpeimlbpiofkaa
open Go.RowKit Go.Maps Go.WideShapes

/-- What stands between two rounds of the outer loop. -/
structure SeaOW (w wr : World) (k p gL gM B3 : Nat) (m : List (Nat × Int)) (ys : List Nat) (v : Value) : Prop where
  map : SeaMap k wr gM m
  riv : Whole wr w.heap.size 115 (crewCells p gL)
  win : Win wr B3 75 9 v ys.length (edgeC k ys)
  bel : Below w.heap.size w wr
  siz : B3 ≤ wr.heap.size
/-- What stands between two rounds of the inner loop. -/
structure SeaW (w wz : World) (k p gL gM B3 gA B2 x : Nat) (rowv : Value) (nr : Nat) (rc : List Value) (m : List (Nat × Int)) (ys : List Nat) (v : Value) : Prop where
  map : SeaMap k wz gM m
  riv : Whole wz w.heap.size 115 (crewCells p gL)
  at_ : Whole wz gA 75 (plcC k x)
  row : wz.ownsRow (gA + 1) 155 10 rowv nr rc
  win : Win wz B3 75 9 v ys.length (edgeC k ys)
  far : ∀ kk, v.ownBlock = some kk → kk < gA ∨ B2 ≤ kk
  bel : Below w.heap.size w wz
  siz : B2 ≤ wz.heap.size
section
variable {w wz wz' : World} {k p gL gM B3 gA B2 x nr : Nat} {rowv v v' : Value} {rc : List Value} {m m' : List (Nat × Int)} {ys ys' : List Nat}
theorem SeaOW.below (h : SeaOW w wz k p gL gM B3 m ys v) (hb : Below wz.heap.size wz wz') : SeaOW w wz' k p gL gM B3 m ys v :=
  ⟨h.map.below hb, h.riv.below hb, h.win.below hb, below_then h.bel hb h.bel.size, Nat.le_trans h.siz hb.size⟩
theorem SeaOW.alloc (h : SeaOW w wz k p gL gM B3 m ys v) (o : Obj) : SeaOW w (wz.alloc o) k p gL gM B3 m ys v := h.below (below1 wz o)
theorem SeaW.below (h : SeaW w wz k p gL gM B3 gA B2 x rowv nr rc m ys v) (hb : Below wz.heap.size wz wz') : SeaW w wz' k p gL gM B3 gA B2 x rowv nr rc m ys v :=
  ⟨h.map.below hb, h.riv.below hb, h.at_.below hb, ownsRow_below h.row hb, h.win.below hb, h.far, below_then h.bel hb h.bel.size, Nat.le_trans h.siz hb.size⟩
theorem SeaW.alloc (h : SeaW w wz k p gL gM B3 gA B2 x rowv nr rc m ys v) (o : Obj) : SeaW w (wz.alloc o) k p gL gM B3 gA B2 x rowv nr rc m ys v := h.below (below1 wz o)
theorem SeaW.drew (h : SeaW w wz k p gL gM B3 gA B2 x rowv nr rc m ys v) : SeaW w wz.drew k p gL gM B3 gA B2 x rowv nr rc m ys v := h.below (Below.refl _ _).drew
theorem SeaW.put (h : SeaW w wz k p gL gM B3 gA B2 x rowv nr rc m ys v) (c : SeaC w gM B3 gA B2 rowv) (hg : wz.grownBy wz' (some gM)) (hM : SeaMap k wz' gM m') : SeaW w wz' k p gL gM B3 gA B2 x rowv nr rc m' ys v := by
  have c1 := c.c1
  have c2 := c.c2
  have c3 := c.c3
  have c4 := c.c4
  refine ⟨hM, whole_apart h.riv hg (fun e => by have := Option.some.inj e; omega), whole_apart h.at_ hg (fun e => by have := Option.some.inj e; omega), h.row.kept hg (.inr fun e => by have := (c.rob _ e).1; omega), h.win.kept hg (fun e => by have := (h.win.lt _ e).1; omega), h.far, h.bel.grown hg h.bel.size (fun kk e => by have := Option.some.inj e; omega), Nat.le_trans h.siz hg.size⟩
theorem SeaW.app (h : SeaW w wz k p gL gM B3 gA B2 x rowv nr rc m ys v) (c : SeaC w gM B3 gA B2 rowv) (hg : wz.grownBy wz' v.ownBlock) (hW : Win wz' B3 75 9 v' ys'.length (edgeC k ys')) (hv : v'.ownBlock = v.ownBlock ∨ v'.ownBlock = some wz.heap.size) : SeaW w wz' k p gL gM B3 gA B2 x rowv nr rc m ys' v' := by
  have c1 := c.c1
  have c2 := c.c2
  have c3 := c.c3
  have c4 := c.c4
  refine ⟨h.map.kept hg (fun e => by have := (h.win.lt _ e.symm).1; omega), whole_apart h.riv hg (fun e => by have := (h.win.lt _ e.symm).1; omega), whole_apart h.at_ hg (fun e => by have := h.far _ e.symm; omega), h.row.kept hg ?_, hW, fun kk e => ?_, h.bel.grown hg h.bel.size (fun kk e => by have := (h.win.lt _ e).1; omega), Nat.le_trans h.siz hg.size⟩
  · cases hr : rowv.ownBlock with
    | none => exact .inl rfl
    | some kk => exact .inr fun e => by have h1 := c.rob _ hr; have h2 := h.far _ e.symm; omega
  · rcases hv with hv | hv
    · exact h.far kk (by rw [← hv]; exact e)
    · rw [hv] at e
      have := Option.some.inj e
      have := h.siz
      omega
theorem SeaW.out (h : SeaW w wz k p gL gM B3 gA B2 x rowv nr rc m ys v) (c : SeaC w gM B3 gA B2 rowv) : SeaOW w wz k p gL gM B3 m ys v :=
  ⟨h.map, h.riv, h.win, h.bel, by have := c.c3; have := c.c4; have := h.siz; omega⟩
end
/-- What the search hands back. -/
def ApartPostW (k : Nat) (L : List (List Int)) (src : Nat) (w : World) (e : Ending) (w' : World) : Prop :=
  ∃ b : Nat, e = .returned (.map (some b)) ∧ SeaMap k w' b (finW k L src).1 ∧ Below w.heap.size w w'
end Go.Proofs.Ytlpeimlbpiofkaa

namespace Go.Proofs.Ytlpeimlbpiofkaa
open Go.RowKit Go.Maps Go.WideShapes

set_option maxHeartbeats 12800000 in
set_option maxRecDepth 100000 in
set_option linter.unusedSimpArgs false in
theorem movesApartW_any (T : List Int → Int) (k p gL g : Nat) (E0 : Option Addr) (c src : Nat) (L : List (List Int)) (w : World) (hk : k ≤ 4) (hL : L.length ≤ 255) (hup : ∀ l ∈ L, l ∈ upLists (2 * k) (2 * k)) (hsd : src ∈ sts k) (hF : RidesFn w T gL g E0 c L) :
    Calls Try.prog 129 #[.agg (crewCells p gL), .agg (plcC k src)] w (ApartPostW k L src w) := by
  obtain ⟨i0, hi, hz0, hz1, hz2⟩ := info_parts info_place
  have HI := Lib.hid hi
  have HZ0 := Lib.hid hz0
  have HZ1 := Lib.hid hz1
  have HZ2 := Lib.hid hz2
  have HEND := Lib.hid (runsW_end hL hup hsd)
  have HLL := Lib.hid hL
  have HUP := Lib.hid hup
  have hp2 : 0 < 2 ^ (2 * k) := Nat.two_pow_pos _
  have HRUN : Hid (∀ n, Mild' k (256 * n + 1) (runW k L src n)) := fun n => mild_runW hL hup hsd n
  have HFN := Lib.hid hF
  have HTU : Hid (turns k ≤ 512) := by
    have h : 2 ^ (2 * k) ≤ 2 ^ 8 := Nat.pow_le_pow_right (by omega) (by omega)
    show turns k ≤ 512
    unfold turns
    omega
  clear hi hz0 hz1 hz2 hF hp2 hL hup
  have hmm := @run_makeMap Try.prog
  have h2 := ((Whole.fresh w 115 (crewCells p gL)).alloc (.cells (plcC k src) 75)).alloc (.map #[] 0)
  have h3 := (Whole.fresh (w.alloc (.cells (crewCells p gL) 115)) 75 (plcC k src)).alloc (.map #[] 0)
  have hM := MapIs.made ((w.alloc (.cells (crewCells p gL) 115)).alloc (.cells (plcC k src) 75)) Try.prog 75 3 (plcL k) (sts k)
  have ht := below3 w (.cells (crewCells p gL) 115) (.cells (plcC k src) 75) (.map #[] 0)
  simp only [World.size_alloc] at h2 h3 hM
  have H2 := Lib.hid h2
  have H3 := Lib.hid h3
  have HM := Lib.hid hM
  have HT := Lib.hid ht
  clear h2 h3 hM ht
  unfold plcC place9 crewCells ridesFnV at H2 H3 HM HT
  unfold plcC place9 crewCells ridesFnV
  go_enter Try.func129, Try.ntmps129
  go_wp2_with (refine wpList_map_entry _ rfl _ _ _ rfl (place_keys hk) Try.underlying76 Try.underlying3 (sts_len hk) rfl HM.out src hsd rfl 0 (by decide) rfl ?_; intro w3 hM3 hg3; have n3 := nine0_of (k := k) (x := src) (whole_apart H3.out hg3 (fun e => by have := Option.some.inj e; omega)); obtain ⟨n0, n1, n2, n3, n4, n5, n6, n7, n8⟩ := n3; have hl3 := (whole_apart H3.out hg3 (fun e => by have := Option.some.inj e; omega)).lt)
  have hM3' : SeaMap k w3 (w.heap.size + 1 + 1) [(src, 0)] := by have h := hM3; rw [show (fun _ : Nat => (none : Option Int)) = lk [] from rfl, lk_put] at h; exact h
  have hgl := hM3.lt
  have HGL := Lib.hid hgl
  have HS0 : Hid (SeaOW w (w3.alloc (.cells #[.bool (pf k src 0), .bool (pf k src 1), .bool (pf k src 2), .bool (pf k src 3), .bool (pf k src 4), .bool (pf k src 5), .bool (pf k src 6), .bool (pf k src 7), .bool (pt src)] 75)) k p gL (w.heap.size + 1 + 1) w3.heap.size [(src, 0)] [src] (.slice (some ⟨w3.heap.size, 0, none⟩) 1 1)) := by
    refine ⟨hM3'.alloc _, (whole_apart H2.out hg3 (fun e => by have := Option.some.inj e; omega)).alloc _, ?_, (HT.out.grown hg3 (by have := HT.out.size; exact this) (fun kk e => by have := Option.some.inj e; omega)).alloc (by have := (HT.out.grown hg3 (by have := HT.out.size; exact this) (fun kk e => by have := Option.some.inj e; omega)).size; exact this) _, by simp⟩
    have h := Win.made w3 w3.heap.size 75 (plcC k src) (Nat.le_refl _)
    rw [show edgeC k [src] = (plcC k src).toList by simp [edgeC]]
    exact h
  clear hM3 hM3' hg3 n0 n1 n2 n3 n4 n5 n6 n7 n8 hl3 hgl H2 H3 HM HT hsd
  go_loopg [6] (turns k) (fun gh v wr => ∃ n, n + gh = turns k ∧ SeaOW w wr k p gL (w.heap.size + 1 + 1) w3.heap.size (runW k L src n).1 (runW k L src n).2 v)
  case atStart => exact ⟨0, by omega, HS0.out⟩
  case round =>
    clear HS0
    obtain ⟨n, hn, hS⟩ := hrel
    obtain ⟨wo, rfl⟩ : ∃ W : World, W = wr := ⟨_, rfl⟩
    cases hq : (runW k L src n).2 with
    | nil =>
      have hst := runW_stay hq (turns k - n)
      rw [show n + (turns k - n) = turns k by omega] at hst
      have hwin := hS.win
      rw [hq] at hwin
      obtain ⟨ge, oe, cap, hv, -, -, -, -, -⟩ := hwin.cellAt
      simp only [List.length_nil] at hv
      subst hv
      have HM1 : Hid (SeaMap k wo (w.heap.size + 1 + 1) (finW k L src).1) := by show SeaMap _ _ _ _; rw [finW, hst]; exact hS.map
      have HB1 := Lib.hid hS.bel
      clear hS hwin hst hq hn
      go_wp2
      go_ret
      exact ⟨_, rfl, HM1.out, HB1.out⟩
    | cons x r =>
      have hm := HRUN.out n
      have HNT : Hid (n ≤ 512) := by have := HTU.out; show n ≤ 512; omega
      have hxd : x ∈ sts k := hm.dom x (by rw [hq]; simp)
      have hgk : 0 < gk := by
        rcases Nat.eq_zero_or_pos gk with h | h
        · exfalso
          have hnt : n = turns k := by omega
          rw [hnt] at hq
          have he := HEND.out
          rw [finW, hq] at he
          cases he
        · exact h
      have hwin := hS.win
      rw [hq] at hwin
      obtain ⟨ge, oe, cap, hv, hgB, hgl, hnc, hcm, e0, e1, e2, e3, e4, e5, e6, e7, e8⟩ := win_head hwin
      rw [List.length_cons] at hv
      subst hv
      have hst0 := hS.siz
      have HSO := Lib.hid (hS.alloc (.cells #[.bool (pf k x 0), .bool (pf k x 1), .bool (pf k x 2), .bool (pf k x 3), .bool (pf k x 4), .bool (pf k x 5), .bool (pf k x 6), .bool (pf k x 7), .bool (pt x)] 75))
      have HAT := Lib.hid (Whole.fresh wo 75 (plcC k x))
      have HFR := Lib.hid (HFN.out.below (hS.bel.alloc hS.bel.size (.cells #[.bool (pf k x 0), .bool (pf k x 1), .bool (pf k x 2), .bool (pf k x 3), .bool (pf k x 4), .bool (pf k x 5), .bool (pf k x 6), .bool (pf k x 7), .bool (pt x)] 75)))
      have e18 := crew_cell hS.riv
      have hrl0 := hS.riv.lt
      have HQ := Lib.hid hq
      have HN := Lib.hid hn
      have HMI := Lib.hid hm
      clear hS hwin hq hn hm
      go_wp2_with fail
      have hrf := ridesFn_any T (2 * k) gL g E0 c L (bitsOf (x / 2) (2 * k)) (bitAt x 0) _ (by omega) (bitsOf_len _ _) HLL.out HUP.out HFR.out
      rw [show placeCells (bitsOf (x / 2) (2 * k)) (bitAt x 0) = plcC k x from rfl] at hrf
      unfold plcC place9 at hrf
      refine hrf.mono ?_
      clear hrf
      rintro e w2 ⟨A1, c1, rs, rfl, hrn, hM, hb⟩
      have HRN : Hid (rowNums rs = mvsW k L x) := hrn
      have hrl : rs.length ≤ 255 := by have h1 := congrArg List.length hrn; have h2 := mvsW_len (k := k) (x := x) HLL.out; rw [rowNums_len] at h1; rw [h1]; exact h2
      have hsz := hb.size
      rw [World.size_alloc] at hsz
      have hown := hM.1
      rw [World.size_alloc] at hown
      have HC : Hid (SeaC w (w.heap.size + 1 + 1) w3.heap.size wo.heap.size w2.heap.size (.slice A1 rs.length c1)) := ⟨by omega, HGL.out, hst0, by omega, fun kk e => by have := hown.lt kk e; omega⟩
      have HS2 : Hid (SeaW w w2 k p gL (w.heap.size + 1 + 1) w3.heap.size wo.heap.size w2.heap.size x (.slice A1 rs.length c1) rs.length (movesCells (bitsOf (x / 2) (2 * k)) (bitAt x 0) rs) (runW k L src n).1 (runW k L src n).2 (.slice (some ⟨ge, oe, none⟩) (r.length + 1) cap)) := by
        have h := HSO.out.below hb
        exact ⟨h.map, h.riv, HAT.out.below hb, hown, h.win, fun kk e => by have : ge = kk := Option.some.inj e; omega, h.bel, Nat.le_refl _⟩
      clear hb hM hown hsz hrn HSO HAT HFR e0 e1 e2 e3 e4 e5 e6 e7 e8 e18 hrl0
      go_wp2
      go_loopw [6, 30] (fun v i wz => ∃ j : Nat, j ≤ rs.length ∧ i = .int .i64 j ∧ SeaW w wz k p gL (w.heap.size + 1 + 1) w3.heap.size wo.heap.size w2.heap.size x (.slice A1 rs.length c1) rs.length (movesCells (bitsOf (x / 2) (2 * k)) (bitAt x 0) rs) (expJ x (mvsW k L x) (runW k L src n) j).1 (expJ x (mvsW k L x) (runW k L src n) j).2 v) (fun _ i _ => rs.length - (intOf i).toNat)
      case atStart => exact ⟨0, Nat.zero_le _, rfl, HS2.out⟩
      case round =>
        clear HS2
        obtain ⟨j, hj, rfl, hS⟩ := hrel
        obtain ⟨wz, rfl⟩ : ∃ W : World, W = wr := ⟨_, rfl⟩
        by_cases hlt : j < rs.length
        · have hd1 : decide ((j : Int) < (rs.length : Int)) = true := by simp; omega
          have hjm : j < (mvsW k L x).length := by have h := congrArg List.length HRN.out; rw [rowNums_len] at h; omega
          have hlj : (mvsW k L x)[j] = rs[j].xs := by have h := rowNums_get hlt; simp only [HRN.out] at h; exact h
          have hmem : rs[j].xs ∈ mvsW k L x := by rw [← hlj]; exact List.getElem_mem hjm
          obtain ⟨hpc, hyd⟩ := plcW_step HUP.out hxd hmem
          obtain ⟨gr, hA1, hgrl, a0, a1, a2, a3, a4, a5, a6, a7, a8, a9⟩ := own_moves_row hS.row hlt hpc
          subst hA1
          have hnx := expJ_next (x := x) (st := runW k L src n) hjm
          rw [hlj] at hnx
          have hmj := HMI.out.exp (x := x) ((mvsW k L x).take j) (fun l hl => (plcW_step HUP.out hxd (List.mem_of_mem_take hl)).2)
          rw [List.length_take, Nat.min_eq_left (by omega)] at hmj
          have hmj' : Mild' k (256 * n + 1 + j) (expJ x (mvsW k L x) (runW k L src n) j) := hmj
          have HNX := Lib.hid hnx
          obtain ⟨y, hy⟩ : ∃ y, stepC x rs[j].xs = y := ⟨_, rfl⟩
          have HY := Lib.hid hy
          rw [hy] at hyd a1 a2 a3 a4 a5 a6 a7 a8 a9
          obtain ⟨rA, rn, rc, hrv⟩ : ∃ (rA : Option Addr) (rn rc : Nat), rs[j].val = .slice rA rn rc := ⟨_, _, _, rfl⟩
          rw [hrv] at a0
          obtain ⟨l, hle⟩ : ∃ l, rs[j].xs = l := ⟨_, rfl⟩
          rw [hle] at HNX HY
          clear hpc hmem hlj hnx hmj hy hrv hle
          generalize expJ x (mvsW k L x) (runW k L src n) j = ej at hS HNX hmj'
          obtain ⟨m, ys⟩ := ej
          have hdx := hmj'.at_ x
          obtain ⟨d, hd⟩ : ∃ d, (lk m x).getD 0 = d := ⟨_, rfl⟩
          simp only at hdx
          rw [hd] at hdx
          have HD := Lib.hid hd
          have hnb := HNT.out
          have HWF : Hid ((Lit.int .i64 (d + 1)).wf = true) := WalkArith.wf_i64 (by omega)
          have hwr : IntKind.i64.wrap (d + 1) = d + 1 := IntWalk.i64_in _ (by omega)
          have HLE : Hid (ys.length ≤ 200000) := by have := hmj'.len; show ys.length ≤ 200000; simp only at this; omega
          have HS1 := Lib.hid (hS.alloc (.cells #[.slice rA rn rc, .bool (pf k y 0), .bool (pf k y 1), .bool (pf k y 2), .bool (pf k y 3), .bool (pf k y 4), .bool (pf k y 5), .bool (pf k y 6), .bool (pf k y 7), .bool (pt y)] 155))
          have HX := Lib.hid (Whole.fresh wz 155 #[.slice rA rn rc, .bool (pf k y 0), .bool (pf k y 1), .bool (pf k y 2), .bool (pf k y 3), .bool (pf k y 4), .bool (pf k y 5), .bool (pf k y 6), .bool (pf k y 7), .bool (pt y)])
          have hc1 := HC.out.c1
          have hc2 := HC.out.c2
          have hc3 := HC.out.c3
          have hc4 := HC.out.c4
          have hsz := hS.siz
          clear hS hd hmj' hdx
          cases hq2 : lk m y with
          | some vv =>
            have HQ2 := Lib.hid hq2
            have HNN : Hid (stepP x (m, ys) l = (m, ys)) := stepP_some (by rw [HY.out]; exact hq2)
            clear hq2
            go_wp2_with (refine wpList_map_some _ rfl _ _ rfl (place_keys hk) Try.underlying76 Try.underlying3 (hzero _) rfl HS1.out.map y hyd rfl HQ2.out ?_)
            go_roundw
            case rel => exact ⟨j + 1, by omega, by go_num, by rw [HNX.out, HNN.out]; exact HS1.out⟩
            case measure => simp [intOf]; omega
          | none =>
            have HQ2 := Lib.hid hq2
            have HNN : Hid (stepP x (m, ys) l = ((y, d + 1) :: m, ys ++ [y])) := by show _ = _; rw [stepP_none (by rw [HY.out]; exact hq2), HY.out, HD.out]
            clear hq2
            go_wp2_with (refine wpList_map_none _ rfl _ _ rfl (place_keys hk) Try.underlying76 Try.underlying3 (hzero _) rfl HS1.out.map y hyd rfl HQ2.out ?_)
            refine wp_region_held_drew (S := (Sea2 wz.heap.size wo.heap.size k y x)) (by kernel_rfl) ⟨nine1_of HX.out.drew, nine0_of HS1.out.drew.at_⟩ (fun hHeld => ?_)
            refine wpAnyH_take (i := 0) (v := ?_) rfl (by kernel_rfl) (by kernel_rfl) (by kernel_rfl) (fun _ _ _ h => h) (Or.inl ⟨rfl, ?_⟩) hHeld ?_
            rotate_left
            · intro w' hS; obtain ⟨⟨s0, s1, s2, s3, s4, s5, s6, s7, s8⟩, ⟨t0, t1, t2, t3, t4, t5, t6, t7, t8⟩⟩ := hS; go_simp <;> with_reducible rfl
            simp only [Act.put, List.getElem_toArray, List.getElem_cons_succ, List.getElem_cons_zero, List.setIfInBounds_toArray, List.set_cons_succ, List.set_cons_zero]
            refine wpAnyH_take (i := 1) (v := ?_) rfl (by kernel_rfl) (by kernel_rfl) (by kernel_rfl) (fun _ _ _ h => h) (Or.inl ⟨rfl, ?_⟩) hHeld ?_
            rotate_left
            · intro w' hS; obtain ⟨⟨s0, s1, s2, s3, s4, s5, s6, s7, s8⟩, ⟨t0, t1, t2, t3, t4, t5, t6, t7, t8⟩⟩ := hS; go_simp <;> with_reducible rfl
            simp only [Act.put, List.getElem_toArray, List.getElem_cons_succ, List.getElem_cons_zero, List.setIfInBounds_toArray, List.set_cons_succ, List.set_cons_zero]
            refine wpAnyH_take (i := 2) (v := ?_) rfl (by kernel_rfl) (by kernel_rfl) (by kernel_rfl) (fun _ _ _ h => h) (Or.inl ⟨rfl, ?_⟩) hHeld ?_
            rotate_left
            · intro w' hS; obtain ⟨⟨s0, s1, s2, s3, s4, s5, s6, s7, s8⟩, ⟨t0, t1, t2, t3, t4, t5, t6, t7, t8⟩⟩ := hS; go_simp <;> with_reducible rfl
            simp only [Act.put, List.getElem_toArray, List.getElem_cons_succ, List.getElem_cons_zero, List.setIfInBounds_toArray, List.set_cons_succ, List.set_cons_zero]
            refine wpAnyH_take (i := 3) (v := ?_) rfl (by kernel_rfl) (by kernel_rfl) (by kernel_rfl) (fun _ _ _ h => h) (Or.inl ⟨rfl, ?_⟩) hHeld ?_
            rotate_left
            · intro w' hS; obtain ⟨⟨s0, s1, s2, s3, s4, s5, s6, s7, s8⟩, ⟨t0, t1, t2, t3, t4, t5, t6, t7, t8⟩⟩ := hS; go_simp <;> with_reducible rfl
            simp only [Act.put, List.getElem_toArray, List.getElem_cons_succ, List.getElem_cons_zero, List.setIfInBounds_toArray, List.set_cons_succ, List.set_cons_zero]
            refine wpAnyH_take (i := 4) (v := ?_) rfl (by kernel_rfl) (by kernel_rfl) (by kernel_rfl) (fun _ _ _ h => h) (Or.inl ⟨rfl, ?_⟩) hHeld ?_
            rotate_left
            · intro w' hS; obtain ⟨⟨s0, s1, s2, s3, s4, s5, s6, s7, s8⟩, ⟨t0, t1, t2, t3, t4, t5, t6, t7, t8⟩⟩ := hS; go_simp <;> with_reducible rfl
            simp only [Act.put, List.getElem_toArray, List.getElem_cons_succ, List.getElem_cons_zero, List.setIfInBounds_toArray, List.set_cons_succ, List.set_cons_zero]
            refine wpAnyH_ready (rs := [5]) (by kernel_rfl) (by simp) (AllReadyH.cons rfl (fun K hK => ?_) AllReadyH.nil)
            have hlk : (Instr.lookup 76 (.map (some (w.heap.size + 1 + 1))) (.agg #[.bool (pf k x 0), .bool (pf k x 1), .bool (pf k x 2), .bool (pf k x 3), .bool (pf k x 4), .bool (pf k x 5), .bool (pf k x 6), .bool (pf k x 7), .bool (pt x)]) false).run Try.prog (World.drew (wz.alloc (.cells #[.slice rA rn rc, .bool (pf k y 0), .bool (pf k y 1), .bool (pf k y 2), .bool (pf k y 3), .bool (pf k y 4), .bool (pf k y 5), .bool (pf k y 6), .bool (pf k y 7), .bool (pt y)] 155))) = .ok (.int .i64 d) (World.drew (wz.alloc (.cells #[.slice rA rn rc, .bool (pf k y 0), .bool (pf k y 1), .bool (pf k y 2), .bool (pf k y 3), .bool (pf k y 4), .bool (pf k y 5), .bool (pf k y 6), .bool (pf k y 7), .bool (pt y)] 155))) := by have h := MapIs.look HS1.out.drew.map (place_keys hk) Try.underlying76 Try.underlying3 (hzero _) x hxd; rw [HD.out] at h; exact h
            go_simp
            clear hlk
            refine hK.out _ _ ⟨nine1_of HX.out.drew, nine0_of HS1.out.drew.at_⟩ (fun hHeld => ?_)
            clear hK K
            try simp only [Act.put, List.getElem_toArray, List.getElem_cons_succ, List.getElem_cons_zero, List.setIfInBounds_toArray, List.set_cons_succ, List.set_cons_zero]
            refine wpAnyH_take (i := 6) (v := ?_) rfl (by kernel_rfl) (by kernel_rfl) (by kernel_rfl) (fun _ _ _ h => h) (Or.inl ⟨rfl, ?_⟩) hHeld ?_
            rotate_left
            · intro w' hS; obtain ⟨⟨s0, s1, s2, s3, s4, s5, s6, s7, s8⟩, ⟨t0, t1, t2, t3, t4, t5, t6, t7, t8⟩⟩ := hS; go_simp <;> with_reducible rfl
            simp only [Act.put, List.getElem_toArray, List.getElem_cons_succ, List.getElem_cons_zero, List.setIfInBounds_toArray, List.set_cons_succ, List.set_cons_zero]
            refine wpAnyH_ready (rs := [7]) (by kernel_rfl) (by simp) (AllReadyH.cons rfl (fun K hK => ?_) AllReadyH.nil)
            refine wp_map_put _ (.tmp 43) (.tmp 45) (.tmp 49) rfl (place_keys hk) Try.underlying76 Try.underlying3 (sts_len hk) rfl HS1.out.drew.map y hyd rfl (d + 1) HWF.out rfl ?_
            intro w4 hM4 hg4
            have hmb4 := whole_apart HX.out.drew hg4 (fun e => by have := Option.some.inj e; omega)
            have hS4 := HS1.out.drew.put HC.out hg4 (m' := (y, d + 1) :: m) (by rw [lk_put] at hM4; exact hM4)
            refine hK.out _ _ ⟨nine1_of hmb4, nine0_of hS4.at_⟩ (fun hHeld => ?_)
            clear hK K
            try simp only [Act.put, List.getElem_toArray, List.getElem_cons_succ, List.getElem_cons_zero, List.setIfInBounds_toArray, List.set_cons_succ, List.set_cons_zero]
            refine wpAnyH_done (by kernel_rfl) ?_ _
            clear hHeld
            have K := Lib.hid (hS4.alloc (.cells #[.bool (pf k y 0), .bool (pf k y 1), .bool (pf k y 2), .bool (pf k y 3), .bool (pf k y 4), .bool (pf k y 5), .bool (pf k y 6), .bool (pf k y 7), .bool (pt y)] 75))
            obtain ⟨s0, s1, s2, s3, s4, s5, s6, s7, s8⟩ := nine1_of hmb4
            have hmbl := hmb4.lt
            have HNEW := Lib.hid (cells_new w4 75 #[.bool (pf k y 0), .bool (pf k y 1), .bool (pf k y 2), .bool (pf k y 3), .bool (pf k y 4), .bool (pf k y 5), .bool (pf k y 6), .bool (pf k y 7), .bool (pt y)])
            have HONE := Lib.hid (show ∀ u ∈ (#[.bool (pf k y 0), .bool (pf k y 1), .bool (pf k y 2), .bool (pf k y 3), .bool (pf k y 4), .bool (pf k y 5), .bool (pf k y 6), .bool (pf k y 7), .bool (pt y)] : Array Value).toList, u.oneCell' = true by simp [Value.oneCell'])
            have HMAX := Lib.hid (show ys.length + 1 ≤ maxLen by have := HLE.out; unfold maxLen; omega)
            have HBYT := Lib.hid (show (ys.length + 1) * 9 ≤ 140737488355328 by have := HLE.out; omega)
            have HBASE := Lib.hid (show w3.heap.size ≤ (w4.alloc (.cells #[.bool (pf k y 0), .bool (pf k y 1), .bool (pf k y 2), .bool (pf k y 3), .bool (pf k y 4), .bool (pf k y 5), .bool (pf k y 6), .bool (pf k y 7), .bool (pt y)] 75)).heap.size by have := HC.out.c3; have := HC.out.c4; have := hS4.siz; simp; omega)
            clear hmb4 hM4 hg4 hS4
            go_wp2_with (at_builtin; refine wpList_append_win _ rfl (.tmp 50) (.tmp 53) 105 rfl w3.heap.size 75 i0 (.agg #[.bool false, .bool false, .bool false, .bool false, .bool false, .bool false, .bool false, .bool false, .bool false]) 9 9 Try.underlying105 HI.out HZ0.out HZ1.out HZ2.out rfl u6 ys.length (edgeC k ys) rfl K.out.win ⟨w4.heap.size, 0, none⟩ 1 1 (#[.bool (pf k y 0), .bool (pf k y 1), .bool (pf k y 2), .bool (pf k y 3), .bool (pf k y 4), .bool (pf k y 5), .bool (pf k y 6), .bool (pf k y 7), .bool (pt y)] : Array Value).toList rfl rfl HNEW.out HONE.out HMAX.out HBYT.out HBASE.out ?_; intro v' w6 hW6 hg6 hv6; have HS6 := Lib.hid (K.out.app HC.out (ys' := ys ++ [y]) hg6 (by rw [edgeC_snoc, List.length_append]; exact hW6) hv6))
            clear hW6 hg6 hv6
            go_roundw
            case rel => exact ⟨j + 1, by omega, by go_num, by rw [HNX.out, HNN.out]; exact HS6.out⟩
            case measure => simp [intOf]; omega
        · have hje : j = rs.length := by omega
          have hd1 : decide ((j : Int) < (rs.length : Int)) = false := by simp; omega
          have hd2 : decide ((rs.length : Int) < (rs.length : Int)) = false := by simp
          have hall : expJ x (mvsW k L x) (runW k L src n) j = expW k L x (runW k L src n) := by
            have h := congrArg List.length HRN.out
            rw [rowNums_len] at h
            rw [hje, h]
            exact expW_all k L x _
          rw [hall] at hS
          obtain ⟨rr, hrr⟩ := exp_prefix (x := x) (mvsW k L x) (runW k L src n)
          have hq' := HQ.out
          have hqq : (expW k L x (runW k L src n)).2 = x :: (r ++ rr) := by rw [expW, hrr, hq']; rfl
          have hnxt : runW k L src (n + 1) = ((expW k L x (runW k L src n)).1, r ++ rr) := by rw [runW_next, nextW_at hq', hqq]; rfl
          have hwin := hS.win
          rw [hqq] at hwin
          obtain ⟨gf, of, capf, hv, hgB2, hgl2, hnc2, hcm2, -⟩ := hwin.cellAt
          rw [List.length_cons] at hv
          subst hv
          have hcw : Win wz w3.heap.size 75 9 (cutV gf of (r ++ rr).length capf 9) (r ++ rr).length (edgeC k (r ++ rr)) := by
            rw [edgeC_cons] at hwin
            exact hwin.cut (plcC_size k x)
          have HSO := Lib.hid (hS.out HC.out)
          have hcap : (r ++ rr).length + 1 ≤ capf := by simpa using hnc2
          generalize r ++ rr = rq at hcw hnxt hcap HSO ⊢
          have HNXT := Lib.hid hnxt
          have hnn := HN.out
          subst hje
          clear hS hwin hqq hnxt hrr hq' hall hnc2 hcm2
          by_cases hc : capf = 1
          · subst hc
            obtain rfl : rq = [] := List.eq_nil_of_length_eq_zero (by omega)
            have HCUT : Hid (Win wz w3.heap.size 75 9 (.slice (some ⟨gf, of, none⟩) 0 0) 0 (edgeC k [])) := hcw
            clear hcw
            go_wp2
            go_roundg (gk - 1)
            case measure => omega
            case rel => exact ⟨n + 1, by omega, by rw [HNXT.out]; exact ⟨HSO.out.map, HSO.out.riv, HCUT.out, HSO.out.bel, HSO.out.siz⟩⟩
          · have HCUT : Hid (Win wz w3.heap.size 75 9 (.slice (some ⟨gf, of + 9, none⟩) rq.length (capf - 1)) rq.length (edgeC k rq)) := by have h := hcw; rw [cutV, if_neg hc] at h; exact h
            have hc' : ¬ 1 = capf := fun h => hc h.symm
            clear hcw
            go_wp2
            go_roundg (gk - 1)
            case measure => omega
            case rel => exact ⟨n + 1, by omega, by rw [HNXT.out]; exact ⟨HSO.out.map, HSO.out.riv, HCUT.out, HSO.out.bel, HSO.out.siz⟩⟩
end Go.Proofs.Ytlpeimlbpiofkaa

namespace Go.Proofs.Ytlpeimlbpiofkaa
open Go.RowKit Go.Maps

section
variable {α : Type}
/-- In the midst of a loop over what waits (M): left tells what is still to come, L the places that waited for the least time m so far. -/
structure SoonSt (M : α → Option Int) (left : α → Bool) (L : List α) (m : Int) : Prop where
  nodup : L.Nodup
  mem : ∀ x, x ∈ L → M x = some m ∧ left x = false
  all : ∀ x c, M x = some c → left x = false → 0 ≤ m ∧ m ≤ c ∧ (c = m → x ∈ L)
  nil : L = [] → m = -1
  low : -1 ≤ m
theorem soon_start (M : α → Option Int) : SoonSt M (fun x => (M x).isSome) [] (-1) :=
  ⟨List.nodup_nil, (fun x h => by cases h), (fun x c h hl => by simp [h] at hl), fun _ => rfl, Int.le_refl _⟩
theorem soon_new {M : α → Option Int} {left left' : α → Bool} {L : List α} {m c : Int} {x : α} (h : SoonSt M left L m) (hM : M x = some c) (hc : 0 ≤ c) (h1 : left' x = false) (h2 : ∀ z, z ≠ x → left' z = left z) (hm : m < 0 ∨ c < m) : SoonSt M left' [x] c := by
  refine ⟨by simp, fun y hy => ?_, fun y d hy hl => ?_, (fun e => by cases e), by omega⟩
  · obtain rfl : y = x := by simpa using hy
    exact ⟨hM, h1⟩
  · by_cases e : y = x
    · subst e
      rw [hM] at hy
      obtain rfl := Option.some.inj hy
      exact ⟨hc, Int.le_refl _, fun _ => by simp⟩
    · rw [h2 y e] at hl
      obtain ⟨a, b, -⟩ := h.all y d hy hl
      exact ⟨hc, by omega, fun _ => by omega⟩
theorem soon_more {M : α → Option Int} {left left' : α → Bool} {L : List α} {m : Int} {x : α} (h : SoonSt M left L m) (hx : left x = true) (hM : M x = some m) (hm : 0 ≤ m) (h1 : left' x = false) (h2 : ∀ z, z ≠ x → left' z = left z) : SoonSt M left' (L ++ [x]) m := by
  have hxL : x ∉ L := fun hh => by rw [(h.mem x hh).2] at hx; cases hx
  refine ⟨?_, fun y hy => ?_, fun y d hy hl => ?_, (fun e => by simp at e), h.low⟩
  · rw [List.nodup_append]
    refine ⟨h.nodup, by simp, fun a ha b hb e => ?_⟩
    obtain rfl : b = x := by simpa using hb
    exact hxL (e ▸ ha)
  · rcases List.mem_append.1 hy with hy | hy
    · have hne : y ≠ x := fun e => hxL (e ▸ hy)
      exact ⟨(h.mem y hy).1, by rw [h2 y hne]; exact (h.mem y hy).2⟩
    · obtain rfl : y = x := by simpa using hy
      exact ⟨hM, h1⟩
  · by_cases e : y = x
    · subst e
      rw [hM] at hy
      obtain rfl := Option.some.inj hy
      exact ⟨hm, Int.le_refl _, fun _ => by simp⟩
    · rw [h2 y e] at hl
      obtain ⟨a, b, c⟩ := h.all y d hy hl
      exact ⟨a, b, fun e => List.mem_append.2 (.inl (c e))⟩
theorem soon_skip {M : α → Option Int} {left left' : α → Bool} {L : List α} {m c : Int} {x : α} (h : SoonSt M left L m) (hx : left x = true) (hM : M x = some c) (h1 : left' x = false) (h2 : ∀ z, z ≠ x → left' z = left z) (hm : 0 ≤ m) (hc : m < c) : SoonSt M left' L m := by
  refine ⟨h.nodup, fun y hy => ?_, fun y d hy hl => ?_, h.nil, h.low⟩
  · have hne : y ≠ x := fun e => by subst e; rw [(h.mem y hy).2] at hx; cases hx
    exact ⟨(h.mem y hy).1, by rw [h2 y hne]; exact (h.mem y hy).2⟩
  · by_cases e : y = x
    · subst e
      rw [hM] at hy
      obtain rfl := Option.some.inj hy
      exact ⟨hm, by omega, fun e => by omega⟩
    · rw [h2 y e] at hl
      exact h.all y d hy hl
/-- At the end of the loop. -/
structure SoonEnd (M : α → Option Int) (L : List α) (m : Int) : Prop where
  nodup : L.Nodup
  mem : ∀ x, x ∈ L ↔ M x = some m
  ne : L ≠ []
  least : ∀ y b, M y = some b → m ≤ b
  low : 0 ≤ m
theorem soon_end {M : α → Option Int} {left : α → Bool} {L : List α} {m : Int} (h : SoonSt M left L m) (hl : ∀ x, left x = false) {x : α} {c : Int} (hx : M x = some c) : SoonEnd M L m := by
  obtain ⟨h0, h1, h2⟩ := h.all x c hx (hl x)
  refine ⟨h.nodup, fun y => ⟨fun hy => (h.mem y hy).1, fun hy => (h.all y m hy (hl y)).2.2 rfl⟩, fun e => ?_, fun y b hy => (h.all y b hy (hl y)).2.1, h0⟩
  have := h.nil e
  omega
theorem soon_len {M : α → Option Int} {left : α → Bool} {L : List α} {m : Int} {dom : List α} (h : SoonSt M left L m) (hd : ∀ x, M x ≠ none → x ∈ dom) : L.length ≤ dom.length :=
  nodup_le _ _ h.nodup fun x hx => hd x (by rw [(h.mem x hx).1]; simp)
end

section
variable {α : Type} [DecidableEq α]
/-- The least times from a place. -/
noncomputable def leastD (E : α → Int → α → Prop) (src : α) : α → Option Int := Classical.epsilon (h := ⟨fun _ => none⟩) fun d => Least E src d
omit [DecidableEq α] in
theorem leastD_of {E : α → Int → α → Prop} {src : α} {d : α → Option Int} (hE : ∀ x t y, E x t y → 1 ≤ t) (h : Least E src d) : leastD E src = d :=
  least_one hE (Classical.epsilon_spec (p := fun d => Least E src d) ⟨d, h⟩) h

theorem wait1_skip {m : Int} {R W : α → Option Int} {e : α × Int} (h : R e.1 ≠ none) : wait1 m R W e = W := by
  funext y
  rw [wait1, if_neg (fun hh => h hh.2.1)]
theorem wait1_new {m : Int} {R W : α → Option Int} {e : α × Int} (h : R e.1 = none) (hw : W e.1 = none) : wait1 m R W e = upd W e.1 (m + e.2) := by
  funext y
  by_cases hy : y = e.1
  · subst hy
    rw [wait1, if_pos ⟨rfl, h, (fun k hk => by rw [hw] at hk; cases hk)⟩, upd_same]
  · rw [wait1, if_neg (fun hh => hy hh.1), upd_other _ _ hy]
theorem wait1_less {m k : Int} {R W : α → Option Int} {e : α × Int} (h : R e.1 = none) (hw : W e.1 = some k) (hk : m + e.2 < k) : wait1 m R W e = upd W e.1 (m + e.2) := by
  funext y
  by_cases hy : y = e.1
  · subst hy
    rw [wait1, if_pos ⟨rfl, h, fun k' hk' => by rw [hw] at hk'; rw [← Option.some.inj hk']; exact hk⟩, upd_same]
  · rw [wait1, if_neg (fun hh => hy hh.1), upd_other _ _ hy]
theorem wait1_keep {m k : Int} {R W : α → Option Int} {e : α × Int} (hw : W e.1 = some k) (hk : ¬ m + e.2 < k) : wait1 m R W e = W := by
  funext y
  rw [wait1, if_neg (fun hh => hk (hh.2.2 k hw))]

omit [DecidableEq α] in
theorem filter_less {p q : α → Bool} : ∀ {l : List α}, (∀ x ∈ l, p x = true → q x = true) → (∃ x ∈ l, p x = false ∧ q x = true) → (l.filter p).length < (l.filter q).length
  | [], _, ⟨x, h, _⟩ => by cases h
  | a :: l, h, ⟨x, hx, h1, h2⟩ => by
    have hle : (l.filter p).length ≤ (l.filter q).length := by
      clear hx
      have h' : ∀ x ∈ l, p x = true → q x = true := fun x hx => h x (List.mem_cons_of_mem _ hx)
      clear h
      induction l with
      | nil => simp
      | cons b l ih =>
        have := ih fun x hx => h' x (List.mem_cons_of_mem _ hx)
        cases hp : p b
        · cases hq : q b <;> simp [hp, hq] <;> omega
        · simp [hp, h' b (List.mem_cons_self ..) hp]; omega
    rcases List.mem_cons.1 hx with rfl | hx
    · simp [h1, h2]
      omega
    · have ih := filter_less (fun x hx => h x (List.mem_cons_of_mem _ hx)) ⟨x, hx, h1, h2⟩
      cases hp : p a
      · cases hq : q a <;> simp [hp, hq] <;> omega
      · simp [hp, h a (List.mem_cons_self ..) hp]; omega

/-- Between two rounds of the program's search. -/
structure TimesSt (E : α → Int → α → Prop) (dom : List α) (src : α) (B : Int) (R W : α → Option Int) : Prop where
  seek : Seek E src R W
  cap : ∀ y b, R y = some b ∨ W y = some b → b ≤ B * (countIs dom R : Nat)
theorem times_start (E : α → Int → α → Prop) (dom : List α) (src : α) (B : Int) : TimesSt E dom src B (fun _ => none) (upd (fun _ => none) src 0) := by
  have he : upd (fun _ => none) src 0 = fun x => if x = src then some (0 : Int) else none := by
    funext x
    by_cases h : x = src
    · subst h; simp [upd_same]
    · simp [upd_other _ _ h, h]
  rw [he]
  refine ⟨seek_start E src, fun y b hy => ?_⟩
  have h0 : countIs dom (fun _ : α => (none : Option Int)) = 0 := by simp [countIs]
  rw [h0]
  rcases hy with hy | hy
  · cases hy
  · by_cases h : y = src
    · simp only [h, if_true] at hy
      have := Option.some.inj hy
      omega
    · simp [h] at hy
theorem times_round {E : α → Int → α → Prop} {dom : List α} {src : α} {B : Int} {R W : α → Option Int} {L : List α} {m : Int} {es : List (α × Int)} (hB : 0 ≤ B) (hE : ∀ x t y, E x t y → 1 ≤ t ∧ t ≤ B) (h : TimesSt E dom src B R W) (hL : SoonEnd W L m) (hd : ∀ x, W x ≠ none → x ∈ dom)
    (h1 : ∀ x t y, x ∈ L → E x t y → (y, t) ∈ es) (h2 : ∀ e ∈ es, ∃ x, x ∈ L ∧ E x e.2 e.1) :
    TimesSt E dom src B (fun x => if x ∈ L then some m else R x) (waitAll m (fun x => if x ∈ L then some m else R x) es (fun x => if x ∈ L then none else W x)) ∧ countIs dom R < countIs dom (fun x => if x ∈ L then some m else R x) := by
  have hr := round_all h.seek hL.mem hL.ne hL.least h1 h2
  have hcnt : countIs dom R < countIs dom (fun x => if x ∈ L then some m else R x) := by
    obtain ⟨x0, r, e⟩ := List.exists_cons_of_ne_nil hL.ne
    have hx0 : x0 ∈ L := by rw [e]; simp
    have hw := (hL.mem x0).1 hx0
    refine filter_less (fun x _ hx => ?_) ⟨x0, hd x0 (by rw [hw]; simp), ?_, ?_⟩
    · by_cases hxL : x ∈ L
      · simp [hxL]
      · simp only [if_neg hxL]; exact hx
    · cases hR : R x0 with
      | none => rfl
      | some a => rw [h.seek.apart x0 a hR] at hw; cases hw
    · simp [hx0]
  refine ⟨⟨seek_round (fun x t y he => (hE x t y he).1) h.seek hr, ?_⟩, hcnt⟩
  have hm : m ≤ B * (countIs dom R : Nat) := by
    obtain ⟨x0, r, e⟩ := List.exists_cons_of_ne_nil hL.ne
    exact h.cap x0 m (.inr ((hL.mem x0).1 (by rw [e]; simp)))
  have hcap := h.cap
  generalize countIs dom (fun x => if x ∈ L then some m else R x) = c' at hcnt
  generalize countIs dom R = c at hcnt hm hcap
  have hup : B * (c : Nat) + B ≤ B * (c' : Nat) := by
    have h := Int.mul_le_mul_of_nonneg_left (show ((c : Nat) : Int) + 1 ≤ (c' : Nat) by omega) hB
    rw [Int.mul_add, Int.mul_one] at h
    exact h
  intro y b hy
  rcases hy with hy | hy
  · by_cases hyL : y ∈ L
    · simp only [if_pos hyL] at hy
      have := Option.some.inj hy
      omega
    · simp only [if_neg hyL] at hy
      have := hcap y b (.inl hy)
      omega
  · rcases waitAll_from m _ es _ y b hy with h3 | ⟨e, he, -, rfl, -⟩
    · by_cases hyL : y ∈ L
      · simp only [if_pos hyL] at h3
        cases h3
      · simp only [if_neg hyL] at h3
        have := hcap y b (.inr h3)
        omega
    · obtain ⟨x, -, hxe⟩ := h2 e he
      have := (hE _ _ _ hxe).2
      omega
end

/-- What the rides from the place with a number lead to, each with its time. -/
noncomputable def arrOf (T : List Int → Int) (k : Nat) (Ls : List (List Int)) (x : Nat) : List (Nat × Int) := (mvsW k Ls x).map fun l => (stepC x l, T l)
noncomputable def esOf (T : List Int → Int) (k : Nat) (Ls : List (List Int)) (L : List Nat) : List (Nat × Int) := L.flatMap (arrOf T k Ls)
/-- A ride from one place to another, with its time. -/
def LegE (T : List Int → Int) (k : Nat) (Ls : List (List Int)) (x : Nat) (t : Int) (y : Nat) : Prop := ∃ l ∈ mvsW k Ls x, t = T l ∧ y = stepC x l
theorem leg_in {T : List Int → Int} {k : Nat} {Ls : List (List Int)} {L : List Nat} : ∀ x t y, x ∈ L → LegE T k Ls x t y → (y, t) ∈ esOf T k Ls L := by
  rintro x t y hx ⟨l, hl, rfl, rfl⟩
  exact List.mem_flatMap.2 ⟨x, hx, List.mem_map.2 ⟨l, hl, rfl⟩⟩
theorem leg_out {T : List Int → Int} {k : Nat} {Ls : List (List Int)} {L : List Nat} : ∀ e ∈ esOf T k Ls L, ∃ x, x ∈ L ∧ LegE T k Ls x e.2 e.1 := by
  intro e he
  obtain ⟨x, hx, he⟩ := List.mem_flatMap.1 he
  obtain ⟨l, hl, rfl⟩ := List.mem_map.1 he
  exact ⟨x, hx, l, hl, rfl, rfl⟩
theorem es_next {T : List Int → Int} {k : Nat} {Ls : List (List Int)} {L : List Nat} {j : Nat} (h : j < L.length) : esOf T k Ls (L.take (j + 1)) = esOf T k Ls (L.take j) ++ arrOf T k Ls L[j] := by
  rw [List.take_succ_eq_append_getElem h, esOf, esOf, List.flatMap_append]
  simp
theorem mvsW_mem {k x : Nat} {Ls : List (List Int)} {l : List Int} (h : l ∈ mvsW k Ls x) : l ∈ Ls := (List.mem_filter.1 h).1
theorem legE_bound {T : List Int → Int} {k : Nat} {Ls : List (List Int)} {B : Int} (hT : ∀ l ∈ Ls, 1 ≤ T l ∧ T l ≤ B) : ∀ x t y, LegE T k Ls x t y → 1 ≤ t ∧ t ≤ B := by
  rintro x t y ⟨l, hl, rfl, -⟩
  exact hT l (mvsW_mem hl)
end Go.Proofs.Ytlpeimlbpiofkaa

namespace Go.Proofs.Ytlpeimlbpiofkaa
open Go.RowKit Go.Maps

theorem up_wide {n m : Nat} {l : List Int} (h : l ∈ upLists n n) (hm : n ≤ m) : l ∈ upLists m m := by
  obtain ⟨h1, h2, h3⟩ := mem_up.1 h
  refine mem_up.2 ⟨fun j hj => ?_, h2, by omega⟩
  obtain ⟨a, b, c⟩ := h1 j hj
  exact ⟨a, by omega, c⟩
/-- The model's number of a state. -/
def phi (p x : Nat) : Nat := num (bitsOf (x / 2) p) (bitAt x 0).toNat
theorem code_of_small {p x : Nat} (hx : x / 2 < 2 ^ p) : codeOf (bitsOf (x / 2) p) (bitAt x 0) = x := by
  refine nat_bits fun i => ?_
  rw [bit_code, bitsOf_len]
  by_cases h0 : i = 0
  · subst h0; simp
  · rw [if_neg h0]
    obtain ⟨j, rfl⟩ : ∃ j, i = j + 1 := ⟨i - 1, by omega⟩
    rw [Nat.add_sub_cancel, ← bit_half]
    by_cases hj : j < p
    · simp [bitsOf, hj]
    · have hlt : x / 2 < 2 ^ j := Nat.lt_of_lt_of_le hx (Nat.pow_le_pow_right (by omega) (by omega))
      have hz : bitAt (x / 2) j = false := by unfold bitAt; exact Nat.testBit_lt_two_pow hlt
      rw [hz]; simp [hj]
theorem phi_digits (p x : Nat) : digits p (phi p x) = bitsOf (x / 2) p := by
  have h := digits_num (bitsOf (x / 2) p) (bitAt x 0).toNat
  rw [bitsOf_len] at h
  exact h
theorem phi_top (p x : Nat) : topBit p (phi p x) = bitAt x 0 := by
  have h := num_head (bitsOf (x / 2) p) (bitAt x 0).toNat
  rw [bitsOf_len] at h
  rw [topBit, phi, h]
  cases bitAt x 0 <;> rfl
theorem phi_inj {p x y : Nat} (hx : x / 2 < 2 ^ p) (hy : y / 2 < 2 ^ p) (h : phi p x = phi p y) : x = y := by
  have h1 := phi_digits p x
  have h2 := phi_top p x
  rw [h, phi_digits] at h1
  rw [h, phi_top] at h2
  rw [← code_of_small hx, ← h1, ← h2]
  exact code_of_small hy
theorem phi_lt (p x : Nat) : phi p x < 2 ^ (p + 1) := by
  have h := num_lt (bitsOf (x / 2) p) (bitAt x 0)
  rw [bitsOf_len] at h
  exact h
theorem bitsOf_getD {m n i : Nat} (h : i < n) : (bitsOf m n).getD i false = bitAt m i := by simp [bitsOf, h]
theorem rides_pad {p x : Nat} {L : List (List Int)} (hp : p ≤ 8) (hup : ∀ l ∈ L, l ∈ upLists p p) : ridesAt (bitsOf (x / 2) p) (bitAt x 0) L = mvsW 4 L x := by
  refine List.filter_congr fun l hl => ?_
  have hs := (up_steps (hup l hl)).1
  rw [Bool.eq_iff_iff, allAt, allAt, List.all_eq_true, List.all_eq_true]
  refine forall_congr' fun k => forall_congr' fun hk => ?_
  have hb := mem_steps hs hk
  rw [bitsOf_getD (show k.toNat < p by omega), bitsOf_getD (show k.toNat < 2 * 4 by omega)]
theorem phi_step {p x : Nat} {l : List Int} (hx : x / 2 < 2 ^ p) (hl : l ∈ upLists p p) : num (flipped (bitsOf (x / 2) p) l) (!bitAt x 0).toNat = phi p (stepC x l) ∧ stepC x l / 2 < 2 ^ p := by
  have hs := (up_steps hl).1
  have h1 := step_code (t := bitAt x 0) (bitsOf_len (x / 2) p) (fun y hy => by have := mem_steps hs hy; omega : ∀ y ∈ l, 0 ≤ y ∧ y < (p : Int))
  rw [code_of_small hx] at h1
  have hfl : (flipped (bitsOf (x / 2) p) l).length = p := by rw [flipped_len, bitsOf_len]
  refine ⟨by rw [phi, h1, bits_back hfl, torch_back], ?_⟩
  rw [h1]
  have h2 := code_lt (flipped (bitsOf (x / 2) p) l) (!bitAt x 0)
  rw [hfl] at h2
  exact h2
theorem mvsW_up {p x : Nat} {L : List (List Int)} (hup : ∀ l ∈ L, l ∈ upLists p p) {l : List Int} (hl : l ∈ mvsW 4 L x) : l ∈ upLists p p := hup l (List.mem_filter.1 hl).1
end Go.Proofs.Ytlpeimlbpiofkaa

namespace Go.Proofs.Ytlpeimlbpiofkaa
open Go.RowKit

/-- The state with a number. -/
def unS (n x : Nat) : List Bool × Bool := (bitsOf (x / 2) n, bitAt x 0)
theorem unS_code {n x : Nat} (hx : x / 2 < 2 ^ n) : codeOf (unS n x).1 (unS n x).2 = x := code_of_small hx
theorem unS_of {n : Nat} {a : List Bool × Bool} (ha : a.1.length = n) : unS n (codeOf a.1 a.2) = a ∧ codeOf a.1 a.2 / 2 < 2 ^ n := by
  refine ⟨?_, ?_⟩
  · show (bitsOf (codeOf a.1 a.2 / 2) n, bitAt (codeOf a.1 a.2) 0) = a
    rw [bits_back ha, torch_back]
  · have h := code_lt a.1 a.2
    rw [ha] at h
    exact h
theorem ride_leg {n x y : Nat} {L : List (List Int)} (hn : n ≤ 8) (hup : ∀ l ∈ L, l ∈ upLists n n) (hx : x / 2 < 2 ^ n) (h : RideE 4 L x y) : LegW L (fun _ => 1) n (unS n x) 1 (unS n y) ∧ y / 2 < 2 ^ n := by
  obtain ⟨l, hl, rfl⟩ := h
  have hl' := hl
  rw [← rides_pad hn hup] at hl'
  have hs := (up_steps (mvsW_up hup hl)).1
  have h1 := step_code (t := bitAt x 0) (bitsOf_len (x / 2) n) (fun y hy => by have := mem_steps hs hy; omega : ∀ y ∈ l, 0 ≤ y ∧ y < (n : Int))
  rw [code_of_small hx] at h1
  have hfl : (flipped (bitsOf (x / 2) n) l).length = n := by rw [flipped_len, bitsOf_len]
  obtain ⟨h2, h3⟩ := unS_of (n := n) (a := (flipped (bitsOf (x / 2) n) l, !bitAt x 0)) hfl
  rw [h1]
  exact ⟨⟨bitsOf_len _ _, l, hl', rfl, h2⟩, h3⟩
theorem leg_ride {n x : Nat} {L : List (List Int)} {t : Int} {b : List Bool × Bool} (hn : n ≤ 8) (hup : ∀ l ∈ L, l ∈ upLists n n) (hx : x / 2 < 2 ^ n) (h : LegW L (fun _ => 1) n (unS n x) t b) : t = 1 ∧ ∃ y, RideE 4 L x y ∧ unS n y = b ∧ y / 2 < 2 ^ n := by
  obtain ⟨-, l, hl, rfl, rfl⟩ := h
  have hl' : l ∈ mvsW 4 L x := by rw [← rides_pad hn hup]; exact hl
  have hs := (up_steps (mvsW_up hup hl')).1
  have h1 := step_code (t := bitAt x 0) (bitsOf_len (x / 2) n) (fun y hy => by have := mem_steps hs hy; omega : ∀ y ∈ l, 0 ≤ y ∧ y < (n : Int))
  rw [code_of_small hx] at h1
  have hfl : (flipped (bitsOf (x / 2) n) l).length = n := by rw [flipped_len, bitsOf_len]
  obtain ⟨h2, h3⟩ := unS_of (n := n) (a := (flipped (bitsOf (x / 2) n) l, !bitAt x 0)) hfl
  rw [← h1] at h2 h3
  exact ⟨rfl, _, ⟨l, hl', rfl⟩, h2, h3⟩
/-- The same numbers, told by numbers of states. -/
noncomputable def byNum (n : Nat) (d : List Bool × Bool → Option Int) (x : Nat) : Option Int := if x / 2 < 2 ^ n then d (unS n x) else none
theorem byNum_some {n x : Nat} {d : List Bool × Bool → Option Int} {v : Int} : byNum n d x = some v ↔ x / 2 < 2 ^ n ∧ d (unS n x) = some v := by
  unfold byNum
  split
  · rename_i h; exact ⟨fun e => ⟨h, e⟩, fun e => e.2⟩
  · rename_i h; exact ⟨(fun e => by cases e), fun e => absurd e.1 h⟩
theorem least_num {n s0 : Nat} {L : List (List Int)} {d : List Bool × Bool → Option Int} (hn : n ≤ 8) (hup : ∀ l ∈ L, l ∈ upLists n n) (hs : s0 / 2 < 2 ^ n) (hlen : ∀ a v, d a = some v → a.1.length = n) (h : Least (LegW L (fun _ => 1) n) (unS n s0) d) : Least (One (RideE 4 L)) s0 (byNum n d) := by
  refine ⟨byNum_some.2 ⟨hs, h.start⟩, fun x t y a hx he => ?_, fun y b hy => ?_, fun y b hy => h.low _ _ (byNum_some.1 hy).2⟩
  · obtain ⟨rfl, he⟩ := he
    obtain ⟨h1, h2⟩ := byNum_some.1 hx
    obtain ⟨h3, h4⟩ := ride_leg hn hup h1 he
    obtain ⟨b, hb, hle⟩ := h.edge _ _ _ _ h2 h3
    exact ⟨b, byNum_some.2 ⟨h4, hb⟩, hle⟩
  · obtain ⟨h1, h2⟩ := byNum_some.1 hy
    rcases h.pred _ _ h2 with ⟨e, rfl⟩ | ⟨a, t, v, ha, hl, rfl⟩
    · left
      exact ⟨by rw [← unS_code h1, e, unS_code hs], rfl⟩
    · right
      obtain ⟨h3, h4⟩ := unS_of (hlen a v ha)
      rw [← h3] at hl ha
      obtain ⟨rfl, y', he, h5, h6⟩ := leg_ride hn hup h4 hl
      obtain rfl : y' = y := by rw [← unS_code h6, h5, unS_code h1]
      exact ⟨_, 1, v, byNum_some.2 ⟨h4, ha⟩, ⟨rfl, he⟩, rfl⟩
/-- The program's numbers are the model's. -/
theorem least_tie {n s0 : Nat} {L : List (List Int)} {d : List Bool × Bool → Option Int} (hn : n ≤ 7) (hL : L.length ≤ 255) (hup : ∀ l ∈ L, l ∈ upLists n n) (hs : s0 / 2 < 2 ^ n) (hlen : ∀ a v, d a = some v → a.1.length = n) (h : Least (LegW L (fun _ => 1) n) (unS n s0) d) : lk (finW 4 L s0).1 = byNum n d := by
  have h4 : s0 ∈ sts 4 := sts_mem.2 (by have : 2 ^ n ≤ 2 ^ (2 * 4) := Nat.pow_le_pow_right (by omega) (by omega); omega)
  exact least_one (fun x t y he => by obtain ⟨rfl, -⟩ := he; omega) (leastW hL (fun l hl => up_wide (hup l hl) (by omega)) h4) (least_num (by omega) hup hs hlen h)
end Go.Proofs.Ytlpeimlbpiofkaa

namespace Go.Proofs.Ytlpeimlbpiofkaa
open Go.RowKit

theorem ride_legT {n x y : Nat} {t : Int} {T : List Int → Int} {L : List (List Int)} (hn : n ≤ 8) (hup : ∀ l ∈ L, l ∈ upLists n n) (hx : x / 2 < 2 ^ n) (h : LegE T 4 L x t y) : LegW L T n (unS n x) t (unS n y) ∧ y / 2 < 2 ^ n := by
  obtain ⟨l, hl, rfl, rfl⟩ := h
  have hl' := hl
  rw [← rides_pad hn hup] at hl'
  have hs := (up_steps (mvsW_up hup hl)).1
  have h1 := step_code (t := bitAt x 0) (bitsOf_len (x / 2) n) (fun y hy => by have := mem_steps hs hy; omega : ∀ y ∈ l, 0 ≤ y ∧ y < (n : Int))
  rw [code_of_small hx] at h1
  have hfl : (flipped (bitsOf (x / 2) n) l).length = n := by rw [flipped_len, bitsOf_len]
  obtain ⟨h2, h3⟩ := unS_of (n := n) (a := (flipped (bitsOf (x / 2) n) l, !bitAt x 0)) hfl
  rw [h1]
  exact ⟨⟨bitsOf_len _ _, l, hl', rfl, h2⟩, h3⟩
theorem leg_rideT {n x : Nat} {T : List Int → Int} {L : List (List Int)} {t : Int} {b : List Bool × Bool} (hn : n ≤ 8) (hup : ∀ l ∈ L, l ∈ upLists n n) (hx : x / 2 < 2 ^ n) (h : LegW L T n (unS n x) t b) : ∃ y, LegE T 4 L x t y ∧ unS n y = b ∧ y / 2 < 2 ^ n := by
  obtain ⟨-, l, hl, rfl, rfl⟩ := h
  have hl' : l ∈ mvsW 4 L x := by rw [← rides_pad hn hup]; exact hl
  have hs := (up_steps (mvsW_up hup hl')).1
  have h1 := step_code (t := bitAt x 0) (bitsOf_len (x / 2) n) (fun y hy => by have := mem_steps hs hy; omega : ∀ y ∈ l, 0 ≤ y ∧ y < (n : Int))
  rw [code_of_small hx] at h1
  have hfl : (flipped (bitsOf (x / 2) n) l).length = n := by rw [flipped_len, bitsOf_len]
  obtain ⟨h2, h3⟩ := unS_of (n := n) (a := (flipped (bitsOf (x / 2) n) l, !bitAt x 0)) hfl
  rw [← h1] at h2 h3
  exact ⟨_, ⟨l, hl', rfl, rfl⟩, h2, h3⟩
theorem least_numT {n s0 : Nat} {T : List Int → Int} {L : List (List Int)} {d : List Bool × Bool → Option Int} (hn : n ≤ 8) (hup : ∀ l ∈ L, l ∈ upLists n n) (hs : s0 / 2 < 2 ^ n) (hlen : ∀ a v, d a = some v → a.1.length = n) (h : Least (LegW L T n) (unS n s0) d) : Least (LegE T 4 L) s0 (byNum n d) := by
  refine ⟨byNum_some.2 ⟨hs, h.start⟩, fun x t y a hx he => ?_, fun y b hy => ?_, fun y b hy => h.low _ _ (byNum_some.1 hy).2⟩
  · obtain ⟨h1, h2⟩ := byNum_some.1 hx
    obtain ⟨h3, h4⟩ := ride_legT hn hup h1 he
    obtain ⟨b, hb, hle⟩ := h.edge _ _ _ _ h2 h3
    exact ⟨b, byNum_some.2 ⟨h4, hb⟩, hle⟩
  · obtain ⟨h1, h2⟩ := byNum_some.1 hy
    rcases h.pred _ _ h2 with ⟨e, rfl⟩ | ⟨a, t, v, ha, hl, rfl⟩
    · left
      exact ⟨by rw [← unS_code h1, e, unS_code hs], rfl⟩
    · right
      obtain ⟨h3, h4⟩ := unS_of (hlen a v ha)
      rw [← h3] at hl ha
      obtain ⟨y', he, h5, h6⟩ := leg_rideT hn hup h4 hl
      obtain rfl : y' = y := by rw [← unS_code h6, h5, unS_code h1]
      exact ⟨_, t, v, byNum_some.2 ⟨h4, ha⟩, he, rfl⟩
/-- All lists of people that may cross at once. -/
theorem up_all {n q : Nat} {l : List Int} (h : l ∈ upLists n q) : l ∈ upLists n n := by
  obtain ⟨h1, h2, h3⟩ := mem_up.1 h
  refine mem_up.2 ⟨h1, h2, ?_⟩
  have h4 := steps_len h1 (by omega)
  omega
theorem leg_same (xs : List Int) (n q : Nat) : Leg xs n (q : Int) = LegW (upLists n q) (slowOf xs) n := by
  funext a t b
  refine propext ⟨?_, ?_⟩
  · rintro ⟨h1, l, hl, h2, h3⟩
    obtain ⟨h4, h5⟩ := (trips_mem n q a.1 a.2 l).1 hl
    refine ⟨h1, l, List.mem_filter.2 ⟨h4, ?_⟩, h2, h3⟩
    rw [allAt, List.all_eq_true]
    exact fun k hk => beq_iff_eq.2 (h5 k hk)
  · rintro ⟨h1, l, hl, h2, h3⟩
    obtain ⟨h4, h5⟩ := List.mem_filter.1 hl
    rw [allAt, List.all_eq_true] at h5
    exact ⟨h1, l, (trips_mem n q a.1 a.2 l).2 ⟨h4, fun k hk => beq_iff_eq.1 (h5 k hk)⟩, h2, h3⟩
/-- The least times of a party from a place. -/
noncomputable def partyD (xs : List Int) (n q src : Nat) : Nat → Option Int := leastD (LegE (slowOf xs) 4 (upLists n q)) src
theorem legE_party {xs : List Int} {n q : Nat} (hx : xs.length = n) (hxs : ∀ y ∈ xs, 1 ≤ y) : ∀ x t y, LegE (slowOf xs) 4 (upLists n q) x t y → 1 ≤ t := by
  rintro x t y ⟨l, hl, rfl, -⟩
  have hu := mvsW_mem hl
  obtain ⟨h1, h2, -⟩ := mem_up.1 hu
  obtain ⟨k, r, rfl⟩ := List.exists_cons_of_ne_nil (show l ≠ [] by rintro rfl; simp at h2)
  have hk := mem_steps h1 (show k ∈ k :: r from List.mem_cons_self ..)
  have hkx : k.toNat < xs.length := by omega
  have h3 := hxs _ (List.getElem_mem hkx)
  have h4 := (foldl_max ((k :: r).map fun k => xs.getD k.toNat 0) 0).2 (xs.getD k.toNat 0) (by simp)
  have h5 : xs.getD k.toNat 0 = xs[k.toNat] := by simp [hkx]
  rw [h5] at h4
  exact Int.le_trans h3 h4
/-- What the model's list tells of a state is the least time. -/
theorem party_tie {xs : List Int} {n q : Nat} {bs0 bs : List Bool} {t0 t : Bool} {done : List Bool} {o : List Int} (hx : xs.length = n) (hn : n ≤ 8) (hxs : ∀ y ∈ xs, 1 ≤ y) (h0 : bs0.length = n) (hb : bs.length = n)
    (hL : Least (Leg xs n q) (stateS n (num bs0 t0.toNat)) (settledS n done o)) (hno : ∀ i, i < 2 ^ (n + 1) → done.getD i false = false → o.getD i (-1) < 0) :
    partyD xs n q (codeOf bs0 t0) (codeOf bs t) = if 0 ≤ o.getD (num bs t.toNat) (-1) then some (o.getD (num bs t.toNat) (-1)) else none := by
  have hs : stateS n (num bs0 t0.toNat) = (bs0, t0) := stateS_num (a := (bs0, t0)) h0
  rw [hs, leg_same] at hL
  obtain ⟨u1, u2⟩ := unS_of (n := n) (a := (bs0, t0)) h0
  have hL2 := least_numT hn (fun l hl => up_all hl) u2 (fun a v ha => (settled_iff.1 ha).1) (by rw [u1]; exact hL)
  rw [partyD, leastD_of (legE_party hx hxs) hL2]
  obtain ⟨v1, v2⟩ := unS_of (n := n) (a := (bs, t)) hb
  rw [byNum, if_pos v2, v1]
  have hlt : num bs t.toNat < 2 ^ (n + 1) := by have h := num_lt bs t; rw [hb] at h; exact h
  cases hd : done.getD (num bs t.toNat) false
  · have h1 := hno _ hlt hd
    rw [if_neg (by omega), settledS, if_neg]
    rintro ⟨-, h2⟩
    rw [show numS (bs, t) = num bs t.toNat from rfl, hd] at h2
    cases h2
  · have h2 : settledS n done o (bs, t) = some (o.getD (num bs t.toNat) (-1)) := settled_iff.2 ⟨hb, hd, rfl⟩
    rw [h2, if_pos (hL.low _ _ h2)]
end Go.Proofs.Ytlpeimlbpiofkaa

namespace Go.Proofs.Ytlpeimlbpiofkaa

/-- How many places of a list need less. -/
noncomputable def lessN (dom : List Nat) (M : Nat → Option Int) (v : Int) : Nat := (dom.filter fun z => match M z with | some u => decide (u < v) | none => false).length
theorem filter_more {α : Type} {p q : α → Bool} {x : α} : ∀ (l : List α), (∀ z ∈ l, p z = true → q z = true) → x ∈ l → q x = true → p x = false → (l.filter p).length + 1 ≤ (l.filter q).length
  | [], _, hx, _, _ => by cases hx
  | y :: r, h, hx, hq, hp => by
    have hle : ∀ (l : List α), (∀ z ∈ l, p z = true → q z = true) → (l.filter p).length ≤ (l.filter q).length := by
      intro l
      induction l with
      | nil => intro _; exact Nat.le_refl _
      | cons a t ih =>
        intro h
        have h1 := ih (fun z hz => h z (List.mem_cons_of_mem _ hz))
        cases hpa : p a
        · rw [List.filter_cons_of_neg (by simp [hpa])]
          have := List.length_filter_le q t
          rw [List.filter_cons]
          split <;> simp <;> omega
        · rw [List.filter_cons_of_pos hpa, List.filter_cons_of_pos (h a (List.mem_cons_self ..) hpa)]
          simp; omega
    have hr := fun z hz => h z (List.mem_cons_of_mem _ hz)
    rcases List.mem_cons.1 hx with rfl | hx
    · rw [List.filter_cons_of_neg (by simp [hp]), List.filter_cons_of_pos hq]
      have := hle r hr
      simp; omega
    · have ih := filter_more r hr hx hq hp
      cases hpy : p y
      · rw [List.filter_cons_of_neg (by simp [hpy]), List.filter_cons]
        split <;> simp <;> omega
      · rw [List.filter_cons_of_pos hpy, List.filter_cons_of_pos (h y (List.mem_cons_self ..) hpy)]
        simp; omega
theorem less_more {dom : List Nat} {M : Nat → Option Int} {y : Nat} {a b : Int} (hy : M y = some b) (hd : y ∈ dom) (h : b < a) : lessN dom M b + 1 ≤ lessN dom M a := by
  refine filter_more dom (fun z _ hz => ?_) hd (x := y) ?_ ?_
  · revert hz
    cases M z with
    | none => exact fun h => h
    | some u => intro h2; have := of_decide_eq_true h2; exact decide_eq_true (by omega)
  · rw [hy]; exact decide_eq_true h
  · rw [hy]; exact decide_eq_false (by omega)
theorem less_le (dom : List Nat) (M : Nat → Option Int) (v : Int) : lessN dom M v ≤ dom.length := List.length_filter_le _ _
theorem least_count {E : Nat → Int → Nat → Prop} {src : Nat} {d : Nat → Option Int} {dom : List Nat} {B : Nat} (hdom : ∀ y v, d y = some v → y ∈ dom) (hE : ∀ x t y, E x t y → 1 ≤ t ∧ t ≤ (B : Int)) (h : Least E src d) :
    ∀ (n : Nat) (y : Nat) (v : Int), v ≤ n → d y = some v → v ≤ ((B * lessN dom d v : Nat) : Int) := by
  intro n
  induction n with
  | zero => intro y v hv hy; have := Int.natCast_nonneg (B * lessN dom d v); omega
  | succ n ih =>
    intro y v hv hy
    rcases h.pred y v hy with ⟨-, rfl⟩ | ⟨x, t, a, hx, he, rfl⟩
    · exact Int.natCast_nonneg _
    · obtain ⟨h1, h2⟩ := hE _ _ _ he
      have h3 := ih x a (by omega) hx
      have h4 := less_more (dom := dom) hx (hdom x a hx) (show a < a + t by omega)
      have h5 : B * (lessN dom d a + 1) ≤ B * lessN dom d (a + t) := Nat.mul_le_mul_left _ h4
      rw [Nat.mul_add] at h5
      omega
theorem least_small {E : Nat → Int → Nat → Prop} {src : Nat} {d : Nat → Option Int} {dom : List Nat} {B : Nat} (hdom : ∀ y v, d y = some v → y ∈ dom) (hE : ∀ x t y, E x t y → 1 ≤ t ∧ t ≤ (B : Int)) (h : Least E src d) {y : Nat} {v : Int} (hy : d y = some v) : v ≤ ((B * dom.length : Nat) : Int) := by
  have h1 := least_count hdom hE h v.toNat y v (by omega) hy
  have h2 : B * lessN dom d v ≤ B * dom.length := Nat.mul_le_mul_left _ (less_le _ _ _)
  omega

/-- What is left from a place, 0 where nothing is told. -/
def lf (M : Nat → Option Int) (x : Nat) : Int := (M x).getD 0
/-- The trips that lead on without losing time. -/
noncomputable def bestOf (T : List Int → Int) (L : List (List Int)) (M : Nat → Option Int) (x : Nat) : List (List Int) := L.filter fun l => allAt (bitsOf (x / 2) (2 * 4)) (bitAt x 0) l && decide (T l + lf M (stepC x l) = lf M x)
theorem best_no {T : List Int → Int} {L : List (List Int)} {M : Nat → Option Int} {x j : Nat} (hj : j < L.length) (h : (allAt (bitsOf (x / 2) (2 * 4)) (bitAt x 0) L[j] && decide (T L[j] + lf M (stepC x L[j]) = lf M x)) = false) : bestOf T (L.take (j + 1)) M x = bestOf T (L.take j) M x := by
  rw [List.take_succ_eq_append_getElem hj, bestOf, List.filter_append, bestOf]
  simp only [List.filter_cons, h, Bool.false_eq_true, if_false, List.filter_nil, List.append_nil]
theorem best_yes {T : List Int → Int} {L : List (List Int)} {M : Nat → Option Int} {x j : Nat} (hj : j < L.length) (h : (allAt (bitsOf (x / 2) (2 * 4)) (bitAt x 0) L[j] && decide (T L[j] + lf M (stepC x L[j]) = lf M x)) = true) : bestOf T (L.take (j + 1)) M x = bestOf T (L.take j) M x ++ [L[j]] := by
  rw [List.take_succ_eq_append_getElem hj, bestOf, List.filter_append, bestOf]
  simp only [List.filter_cons, h, if_true, List.filter_nil]
theorem best_len (T : List Int → Int) (L : List (List Int)) (M : Nat → Option Int) (x : Nat) : (bestOf T L M x).length ≤ L.length := List.length_filter_le _ _
theorem best_mem {T : List Int → Int} {L : List (List Int)} {M : Nat → Option Int} {x : Nat} {l : List Int} (h : l ∈ bestOf T L M x) : l ∈ mvsW 4 L x ∧ T l + lf M (stepC x l) = lf M x := by
  obtain ⟨h1, h2⟩ := List.mem_filter.1 h
  obtain ⟨h3, h4⟩ := Bool.and_eq_true_iff.1 h2
  exact ⟨List.mem_filter.2 ⟨h1, h3⟩, of_decide_eq_true h4⟩

/-- The way along the first trips, with so many steps at most. -/
noncomputable def goB (T : List Int → Int) (L : List (List Int)) (M : Nat → Option Int) : Nat → Nat → List (List Int)
  | 0, _ => []
  | f + 1, x => if lf M x ≤ 0 then [] else
    match bestOf T L M x with
    | [] => []
    | l :: _ => l :: goB T L M f (stepC x l)
/-- What is asked of the times that are left, towards e. -/
structure LeftOk (T : List Int → Int) (L : List (List Int)) (e : Nat) (M : Nat → Option Int) : Prop where
  least : Least (LegE T 4 L) e M
  dom : ∀ y v, M y = some v → y ∈ sts 4
  time : ∀ l ∈ L, 1 ≤ T l ∧ T l ≤ 1000000
  up : ∀ l ∈ L, l ∈ upLists (2 * 4) (2 * 4)
theorem LeftOk.leg {T : List Int → Int} {L : List (List Int)} {e : Nat} {M : Nat → Option Int} (h : LeftOk T L e M) : ∀ x t y, LegE T 4 L x t y → 1 ≤ t ∧ t ≤ ((1000000 : Nat) : Int) := by
  rintro x t y ⟨l, hl, rfl, -⟩
  exact h.time l (List.mem_filter.1 hl).1
theorem LeftOk.low {T : List Int → Int} {L : List (List Int)} {e : Nat} {M : Nat → Option Int} (h : LeftOk T L e M) (x : Nat) : 0 ≤ lf M x ∧ lf M x ≤ 512000000 := by
  unfold lf
  cases hx : M x with
  | none => exact ⟨Int.le_refl _, by show (0 : Int) ≤ _; decide⟩
  | some v =>
    have h1 := h.least.low x v hx
    have h2 := least_small h.dom h.leg h.least hx
    rw [show (sts 4).length = 512 from List.length_range] at h2
    refine ⟨h1, ?_⟩
    show v ≤ _
    omega
/-- Where a trip leads, something leads on. -/
theorem LeftOk.step {T : List Int → Int} {L : List (List Int)} {e : Nat} {M : Nat → Option Int} (h : LeftOk T L e M) {x : Nat} {v : Int} {l : List Int} (hx : M x = some v) (hl : l ∈ mvsW 4 L x) : ∃ u, M (stepC x l) = some u := by
  obtain ⟨b, hb, -⟩ := h.least.edge x (T l) (stepC x l) v hx ⟨l, hl, rfl, rfl⟩
  exact ⟨b, hb⟩
theorem step_back {x : Nat} (l : List Int) : stepC (stepC x l) l = x := by
  unfold stepC
  rw [Nat.xor_assoc, Nat.xor_self, Nat.xor_zero]
theorem mvs_back {L : List (List Int)} {x : Nat} {l : List Int} (hup : ∀ l ∈ L, l ∈ upLists (2 * 4) (2 * 4)) (hx : x ∈ sts 4) (hl : l ∈ mvsW 4 L x) : l ∈ mvsW 4 L (stepC x l) := by
  obtain ⟨h1, h2⟩ := List.mem_filter.1 hl
  have hs := (up_steps (hup l h1)).1
  have hb : ∀ y ∈ l, 0 ≤ y ∧ y < ((2 * 4 : Nat) : Int) := fun y hy => by have := mem_steps hs hy; omega
  have h3 := step_code (t := bitAt x 0) (bitsOf_len (x / 2) (2 * 4)) hb
  rw [code_of_small (by have := sts_mem.1 hx; omega)] at h3
  refine List.mem_filter.2 ⟨h1, ?_⟩
  rw [h3, bits_back (by rw [flipped_len, bitsOf_len]), torch_back, allAt, List.all_eq_true]
  intro k hk
  have hk0 := hb k hk
  rw [flipped_get _ l (by rw [bitsOf_len]; omega)]
  rw [allAt, List.all_eq_true] at h2
  have h4 := beq_iff_eq.1 (h2 k hk)
  rw [h4]
  have : has l k.toNat = true := has_iff.2 (by rw [Int.toNat_of_nonneg hk0.1]; exact hk)
  rw [this]
  cases bitAt x 0 <;> rfl
theorem LeftOk.zero {T : List Int → Int} {L : List (List Int)} {e : Nat} {M : Nat → Option Int} (h : LeftOk T L e M) {x : Nat} {v : Int} (hx : M x = some v) : v ≤ 0 ↔ x = e := by
  constructor
  · intro hv
    rcases h.least.pred x v hx with ⟨h1, -⟩ | ⟨z, t, a, hz, he, rfl⟩
    · exact h1
    · have := (h.leg _ _ _ he).1
      have := h.least.low z a hz
      omega
  · rintro rfl
    have := h.least.start
    rw [hx] at this
    have := Option.some.inj this
    omega
/-- Where something is left, a trip leads on without losing time. -/
theorem LeftOk.next {T : List Int → Int} {L : List (List Int)} {e : Nat} {M : Nat → Option Int} (h : LeftOk T L e M) {x : Nat} {v : Int} (hx : M x = some v) (hv : 0 < v) :
    ∃ l r u, bestOf T L M x = l :: r ∧ l ∈ mvsW 4 L x ∧ M (stepC x l) = some u ∧ 0 ≤ u ∧ u < v ∧ T l + u = v := by
  have hne : bestOf T L M x ≠ [] := by
    rcases h.least.pred x v hx with ⟨-, rfl⟩ | ⟨z, t, a, hz, ⟨l, hl, rfl, rfl⟩, rfl⟩
    · omega
    · have h1 := mvs_back h.up (h.dom z a hz) hl
      obtain ⟨h2, h3⟩ := List.mem_filter.1 h1
      refine List.ne_nil_of_mem (a := l) (List.mem_filter.2 ⟨h2, Bool.and_eq_true_iff.2 ⟨h3, decide_eq_true ?_⟩⟩)
      rw [step_back]
      unfold lf
      rw [hx, hz]
      show T l + a = a + T l
      omega
  obtain ⟨l, r, hlr⟩ := List.exists_cons_of_ne_nil hne
  obtain ⟨h1, h2⟩ := best_mem (show l ∈ bestOf T L M x by rw [hlr]; exact List.mem_cons_self ..)
  obtain ⟨u, hu⟩ := h.step hx h1
  have h3 : lf M (stepC x l) = u := by unfold lf; rw [hu]; rfl
  have h4 : lf M x = v := by unfold lf; rw [hx]; rfl
  have h5 := (h.time l (List.mem_filter.1 h1).1).1
  exact ⟨l, r, u, hlr, h1, hu, h.least.low _ _ hu, by omega, by omega⟩
theorem goB_next {T : List Int → Int} {L : List (List Int)} {e f : Nat} {M : Nat → Option Int} (h : LeftOk T L e M) {x : Nat} {v : Int} (hx : M x = some v) (hv : 0 < v) (hf : lessN (sts 4) M v ≤ f) :
    ∃ f' l r u, f = f' + 1 ∧ bestOf T L M x = l :: r ∧ goB T L M f x = l :: goB T L M f' (stepC x l) ∧ l ∈ mvsW 4 L x ∧ M (stepC x l) = some u ∧ lessN (sts 4) M u ≤ f' ∧ 0 ≤ u := by
  obtain ⟨l, r, u, h1, h2, h3, h4, h5, -⟩ := h.next hx hv
  have h6 := less_more (dom := sts 4) h3 (h.dom _ _ h3) h5
  cases f with
  | zero => omega
  | succ f =>
    refine ⟨f, l, r, u, rfl, h1, ?_, h2, h3, by omega, h4⟩
    rw [goB, if_neg (by unfold lf; rw [hx]; show ¬ v ≤ 0; omega), h1]
theorem goB_stop {T : List Int → Int} {L : List (List Int)} {f x : Nat} {M : Nat → Option Int} (h : lf M x ≤ 0) : goB T L M f x = [] := by
  cases f with
  | zero => rfl
  | succ f => rw [goB, if_pos h]
theorem goB_len (T : List Int → Int) (L : List (List Int)) (M : Nat → Option Int) : ∀ f x, (goB T L M f x).length ≤ f
  | 0, _ => Nat.le_refl _
  | f + 1, x => by
    rw [goB]
    split
    · simp
    · split
      · simp
      · rename_i l r _
        have := goB_len T L M f (stepC x l)
        simp; omega
theorem goB_mem {T : List Int → Int} {L : List (List Int)} {M : Nat → Option Int} : ∀ f x, ∀ l ∈ goB T L M f x, l ∈ L
  | 0, _, l, h => by cases h
  | f + 1, x, l, h => by
    rw [goB] at h
    split at h
    · cases h
    · split at h
      · cases h
      · rename_i l' r hb
        rcases List.mem_cons.1 h with rfl | h
        · exact (List.mem_filter.1 (show l ∈ bestOf T L M x by rw [hb]; exact List.mem_cons_self ..)).1
        · exact goB_mem f _ l h
/-- The trips in a state are the lists whose people are where the torch is, in order. -/
theorem subs_filt (P : Int → Bool) (m : Nat) : ∀ (o b : List Int), subs m (o.filter P) b = (subs m o b).filter (fun l => (l.drop b.length).all P)
  | [], _ => rfl
  | k :: r, b => by
    by_cases hm : m ≤ b.length
    · rw [subs_full hm, subs_full hm]; rfl
    · have hd : ∀ l ∈ subs m r (b ++ [k]), ((l.drop b.length).all P) = (P k && (l.drop (b ++ [k]).length).all P) := fun l hl => by
        obtain ⟨c, rfl, -, -, -⟩ := (subs_mem m r (b ++ [k]) l).1 hl
        rw [List.append_assoc, List.drop_left, show b ++ ([k] ++ c) = (b ++ [k]) ++ c by simp, List.drop_left]
        simp
      have ih := subs_filt P m r b
      rw [subs, if_neg hm, List.filter_append, List.filter_cons, ← ih]
      by_cases hk : P k = true
      · have ih2 := subs_filt P m r (b ++ [k])
        rw [List.filter_cons, if_pos hk, subs, if_neg hm, ih2]
        rw [List.filter_congr hd]
        simp [hk]
      · have hk' : P k = false := by simpa using hk
        rw [List.filter_cons, if_neg hk, List.filter_congr hd]
        simp [hk]
theorem trips_rides (n q : Nat) (bs : List Bool) (t : Bool) : tripsIn n (q : Int) bs t = ridesAt bs t (upLists n q) := by
  rw [tripsIn, here_range, subs_filt]
  rfl
end Go.Proofs.Ytlpeimlbpiofkaa

namespace Go.Proofs.Ytlpeimlbpiofkaa
open Go.RowKit

section
variable {α : Type}
/-- A way from a place to another with its time. -/
inductive Way (E : α → Int → α → Prop) (src : α) : α → Int → Prop
  | start : Way E src src 0
  | step {x y : α} {a t : Int} : Way E src x a → E x t y → Way E src y (a + t)
theorem way_low {E : α → Int → α → Prop} {src : α} (hE : ∀ x t y, E x t y → 1 ≤ t) {y : α} {c : Int} (h : Way E src y c) : 0 ≤ c := by
  induction h with
  | start => exact Int.le_refl _
  | step h he ih => have := hE _ _ _ he; omega
theorem way_least {E : α → Int → α → Prop} {src : α} (hE : ∀ x t y, E x t y → 1 ≤ t) {y : α} (h : ∃ c, Way E src y c) : ∃ c, Way E src y c ∧ ∀ d, Way E src y d → c ≤ d := by
  have key : ∀ (n : Nat) (c : Int), c ≤ n → Way E src y c → ∃ c, Way E src y c ∧ ∀ d, Way E src y d → c ≤ d := by
    intro n
    induction n using Nat.strongRecOn with
    | _ n ih =>
      intro c hc hw
      by_cases hm : ∃ d, Way E src y d ∧ d < c
      · obtain ⟨d, hd, hlt⟩ := hm
        have h0 := way_low hE hd
        exact ih d.toNat (by omega) d (by omega) hd
      · refine ⟨c, hw, fun d hd => ?_⟩
        by_cases hlt : d < c
        · exact absurd ⟨d, hd, hlt⟩ hm
        · omega
  obtain ⟨c, hc⟩ := h
  have h0 := way_low hE hc
  exact key c.toNat c (by omega) hc
theorem least_exists {E : α → Int → α → Prop} (src : α) (hE : ∀ x t y, E x t y → 1 ≤ t) : ∃ d, Least E src d := by
  classical
  refine ⟨fun y => if h : ∃ c, Way E src y c then some (Classical.choose (way_least hE h)) else none, ?_⟩
  have hat : ∀ y b, (if h : ∃ c, Way E src y c then some (Classical.choose (way_least hE h)) else none) = some b → Way E src y b ∧ ∀ d, Way E src y d → b ≤ d := by
    intro y b h
    split at h
    · rename_i hc
      obtain rfl := Option.some.inj h
      exact Classical.choose_spec (way_least hE hc)
    · cases h
  have hof : ∀ y c, Way E src y c → ∃ b, (if h : ∃ c, Way E src y c then some (Classical.choose (way_least hE h)) else none) = some b ∧ b ≤ c := by
    intro y c hc
    exact ⟨_, dif_pos ⟨c, hc⟩, (Classical.choose_spec (way_least hE ⟨c, hc⟩)).2 c hc⟩
  refine ⟨?_, fun x t y a hx he => ?_, fun y b hy => ?_, fun y b hy => way_low hE (hat y b hy).1⟩
  · obtain ⟨b, hb, hle⟩ := hof src 0 .start
    have h0 := way_low hE (hat src b hb).1
    obtain rfl : b = 0 := by omega
    exact hb
  · exact hof y (a + t) (.step (hat x a hx).1 he)
  · obtain ⟨hw, hmin⟩ := hat y b hy
    cases hw with
    | start => exact .inl ⟨rfl, rfl⟩
    | @step x _ a t hwx he =>
      obtain ⟨a', ha', hle⟩ := hof x a hwx
      have h2 := hmin _ (.step (hat x a' ha').1 he)
      obtain rfl : a' = a := by omega
      exact .inr ⟨x, t, a', ha', he, rfl⟩
end
theorem leastD_spec {α : Type} [DecidableEq α] {E : α → Int → α → Prop} {src : α} (hE : ∀ x t y, E x t y → 1 ≤ t) : Least E src (leastD E src) :=
  Classical.epsilon_spec (p := fun d => Least E src d) (least_exists src hE)

/-- The least time from one state of a party to another. -/
noncomputable def timeST (xs : List Int) (n q : Nat) (a b : List Bool × Bool) : Option Int := leastD (Leg xs n (q : Int)) a b
section
variable {xs : List Int} {n q : Nat} {a b : List Bool × Bool}
theorem timeST_least (hx : xs.length = n) (hxs : ∀ y ∈ xs, 1 ≤ y) : Least (Leg xs n (q : Int)) a (timeST xs n q a) := leastD_spec fun _ _ _ h => leg_time hx hxs h
theorem time_turn (hx : xs.length = n) (hxs : ∀ y ∈ xs, 1 ≤ y) : timeST xs n q a b = timeST xs n q b a := leg_turn hx hxs (timeST_least hx hxs) (timeST_least hx hxs)
theorem time_low (hx : xs.length = n) (hxs : ∀ y ∈ xs, 1 ≤ y) {v : Int} (h : timeST xs n q a b = some v) : 0 ≤ v := (timeST_least hx hxs).low _ _ h
theorem time_len (hx : xs.length = n) (hxs : ∀ y ∈ xs, 1 ≤ y) (ha : a.1.length = n) {v : Int} (h : timeST xs n q a b = some v) : b.1.length = n := by
  rcases (timeST_least hx hxs).pred _ _ h with ⟨rfl, -⟩ | ⟨x, t, c, -, ⟨h1, l, -, -, rfl⟩, -⟩
  · exact ha
  · show (flipped x.1 l).length = n
    rw [flipped_len]
    exact h1
/-- The program's map tells it. -/
theorem party_at (hx : xs.length = n) (hn : n ≤ 8) (hxs : ∀ y ∈ xs, 1 ≤ y) (ha : a.1.length = n) (hb : b.1.length = n) : partyD xs n q (codeOf a.1 a.2) (codeOf b.1 b.2) = timeST xs n q a b := by
  have hL := timeST_least (xs := xs) (n := n) (q := q) (a := a) hx hxs
  have hL' := hL
  rw [leg_same] at hL
  obtain ⟨u1, u2⟩ := unS_of (n := n) (a := a) ha
  have hL2 := least_numT hn (fun l hl => up_all hl) u2 (fun c v hc => time_len hx hxs ha hc) (by rw [u1]; exact hL)
  rw [partyD, leastD_of (legE_party hx hxs) hL2]
  obtain ⟨v1, v2⟩ := unS_of (n := n) (a := b) hb
  rw [byNum, if_pos v2, v1]
theorem party_out (hx : xs.length = n) (hn : n ≤ 8) (hxs : ∀ y ∈ xs, 1 ≤ y) (ha : a.1.length = n) {x : Nat} {v : Int} (h : partyD xs n q (codeOf a.1 a.2) x = some v) : x / 2 < 2 ^ n := by
  have hL := timeST_least (xs := xs) (n := n) (q := q) (a := a) hx hxs
  rw [leg_same] at hL
  obtain ⟨u1, u2⟩ := unS_of (n := n) (a := a) ha
  have hL2 := least_numT hn (fun l hl => up_all hl) u2 (fun c v hc => time_len hx hxs ha hc) (by rw [u1]; exact hL)
  rw [partyD, leastD_of (legE_party hx hxs) hL2] at h
  exact (byNum_some.1 h).1
/-- The model's list tells it. -/
theorem far_at {done : List Bool} {o : List Int} (hx : xs.length = n) (hxs : ∀ y ∈ xs, 1 ≤ y) (ha : a.1.length = n) (hb : b.1.length = n)
    (hL : Least (Leg xs n q) (stateS n (num a.1 a.2.toNat)) (settledS n done o)) (hno : ∀ i, i < 2 ^ (n + 1) → done.getD i false = false → o.getD i (-1) < 0) (hm : ∀ i, -1 ≤ o.getD i (-1)) :
    o.getD (num b.1 b.2.toNat) (-1) = (timeST xs n q a b).getD (-1) := by
  have hs : stateS n (num a.1 a.2.toNat) = a := stateS_num ha
  rw [hs] at hL
  have he : timeST xs n q a = settledS n done o := leastD_of (fun _ _ _ h => leg_time hx hxs h) hL
  rw [he]
  have hlt : num b.1 b.2.toNat < 2 ^ (n + 1) := by have h := num_lt b.1 b.2; rw [hb] at h; exact h
  cases hd : done.getD (num b.1 b.2.toNat) false
  · have h1 := hno _ hlt hd
    have h2 := hm (num b.1 b.2.toNat)
    rw [settledS, if_neg]
    · show _ = (-1 : Int)
      omega
    · rintro ⟨-, h3⟩
      rw [show numS b = num b.1 b.2.toNat from rfl, hd] at h3
      cases h3
  · rw [settled_iff.2 ⟨hb, hd, rfl⟩]
    rfl
end
end Go.Proofs.Ytlpeimlbpiofkaa

namespace Go.Proofs.Ytlpeimlbpiofkaa
open Go.RowKit

/-- What a list tells of a state. -/
def farS (o : List Int) (bs : List Bool) (t : Bool) : Int := o.getD (num bs t.toNat) (-1)
/-- The trips in a state after which what is left is less by their cost. -/
def nextO (T : List Int → Int) (L : List (List Int)) (o : List Int) (bs : List Bool) (t : Bool) : List (List Int) := (ridesAt bs t L).filter fun l => decide (0 ≤ farS o (flipped bs l) (!t)) && decide (farS o (flipped bs l) (!t) + T l = farS o bs t)
/-- A list tells what a map tells. -/
def TellsO (n : Nat) (M : Nat → Option Int) (o : List Int) : Prop := ∀ (bs : List Bool) (t : Bool), bs.length = n → farS o bs t = (M (codeOf bs t)).getD (-1)
theorem next_best {T : List Int → Int} {L : List (List Int)} {e n : Nat} {M : Nat → Option Int} {o : List Int} {bs : List Bool} {t : Bool} {v : Int} (h : LeftOk T L e M) (hn : n ≤ 8) (hup : ∀ l ∈ L, l ∈ upLists n n) (hb : bs.length = n) (ho : TellsO n M o) (hv : M (codeOf bs t) = some v) :
    nextO T L o bs t = bestOf T L M (codeOf bs t) := by
  have h1 : ridesAt bs t L = mvsW 4 L (codeOf bs t) := by
    have h2 := rides_pad (p := n) (x := codeOf bs t) (L := L) hn hup
    rwa [bits_back hb, torch_back] at h2
  have h3 : bestOf T L M (codeOf bs t) = (mvsW 4 L (codeOf bs t)).filter fun l => decide (T l + lf M (stepC (codeOf bs t) l) = lf M (codeOf bs t)) := by
    rw [bestOf, mvsW, ridesAt, List.filter_filter]
    refine List.filter_congr fun l _ => Bool.and_comm _ _
  rw [nextO, h1, h3]
  refine List.filter_congr fun l hl => ?_
  have hl2 := hup l (List.mem_filter.1 hl).1
  have hs := (up_steps hl2).1
  have hst := step_code (t := t) hb (fun y hy => by have := mem_steps hs hy; omega : ∀ y ∈ l, 0 ≤ y ∧ y < (n : Int))
  obtain ⟨u, hu⟩ := h.step hv hl
  have hu0 := h.least.low _ _ hu
  rw [ho _ _ (by rw [flipped_len]; exact hb), ho _ _ hb, ← hst, hu, hv]
  unfold lf
  rw [hu, hv]
  show (decide (0 ≤ u) && decide (u + T l = v)) = decide (T l + u = v)
  rw [decide_eq_true hu0, Bool.true_and, Int.add_comm]
section
variable {T : List Int → Int} {L : List (List Int)} {n : Nat} {a : List Bool × Bool}
theorem legG_time (hT : ∀ l ∈ L, 1 ≤ T l ∧ T l ≤ 1000000) : ∀ x t y, LegE T 4 L x t y → 1 ≤ t := by
  rintro x t y ⟨l, hl, rfl, -⟩
  exact (hT l (List.mem_filter.1 hl).1).1
theorem leastG_num (hn : n ≤ 8) (hup : ∀ l ∈ L, l ∈ upLists n n) (hT : ∀ l ∈ L, 1 ≤ T l ∧ T l ≤ 1000000) (ha : a.1.length = n) {d : List Bool × Bool → Option Int} (hd : Least (LegW L T n) a d) : leastD (LegE T 4 L) (codeOf a.1 a.2) = byNum n d := by
  have hlen : ∀ b v, d b = some v → b.1.length = n := fun b v hb => by
    rcases hd.pred _ _ hb with ⟨rfl, -⟩ | ⟨x, t, c, -, ⟨h1, l, -, -, rfl⟩, -⟩
    · exact ha
    · show (flipped x.1 l).length = n
      rw [flipped_len]
      exact h1
  obtain ⟨u1, u2⟩ := unS_of (n := n) (a := a) ha
  have hL2 := least_numT hn hup u2 hlen (by rw [u1]; exact hd)
  exact leastD_of (legG_time hT) hL2
theorem leftG_ok (hn : n ≤ 8) (hup : ∀ l ∈ L, l ∈ upLists n n) (hT : ∀ l ∈ L, 1 ≤ T l ∧ T l ≤ 1000000) (ha : a.1.length = n) : LeftOk T L (codeOf a.1 a.2) (leastD (LegE T 4 L) (codeOf a.1 a.2)) where
  least := leastD_spec (legG_time hT)
  dom := fun y v hy => by
    have hE : ∀ x t y, LegW L T n x t y → 1 ≤ t := fun x t y h => legW_time (fun l hl => (hT l hl).1) h
    rw [leastG_num hn hup hT ha (leastD_spec (E := LegW L T n) (src := a) hE)] at hy
    have h := (byNum_some.1 hy).1
    have h2 : 2 ^ n ≤ 2 ^ (2 * 4) := Nat.pow_le_pow_right (by omega) (by omega)
    exact sts_mem.2 (by omega)
  time := hT
  up := fun l hl => up_wide (hup l hl) (by omega)
theorem tellsG {done : List Bool} {o : List Int} (hn : n ≤ 8) (hup : ∀ l ∈ L, l ∈ upLists n n) (hT : ∀ l ∈ L, 1 ≤ T l ∧ T l ≤ 1000000) (ha : a.1.length = n)
    (hL : Least (LegW L T n) a (settledS n done o)) (hno : ∀ i, i < 2 ^ (n + 1) → done.getD i false = false → o.getD i (-1) < 0) (hm : ∀ i, -1 ≤ o.getD i (-1)) : TellsO n (leastD (LegE T 4 L) (codeOf a.1 a.2)) o := fun bs t hb => by
  rw [leastG_num hn hup hT ha hL, farS]
  obtain ⟨v1, v2⟩ := unS_of (n := n) (a := (bs, t)) hb
  rw [show codeOf bs t = codeOf (bs, t).1 (bs, t).2 from rfl, byNum, if_pos v2, v1]
  have hlt : num bs t.toNat < 2 ^ (n + 1) := by have h := num_lt bs t; rw [hb] at h; exact h
  cases hd : done.getD (num bs t.toNat) false
  · have h1 := hno _ hlt hd
    have h2 := hm (num bs t.toNat)
    rw [settledS, if_neg]
    · show _ = (-1 : Int)
      omega
    · rintro ⟨-, h3⟩
      rw [show numS (bs, t) = num bs t.toNat from rfl, hd] at h3
      cases h3
  · rw [settled_iff.2 ⟨hb, hd, rfl⟩]
    rfl
end
end Go.Proofs.Ytlpeimlbpiofkaa

namespace Go.Proofs.Ytlpeimlbpiofkaa
open Go.RowKit

def rwsM (k q x : Nat) : List Nat := rowsM k q x (2 ^ (2 * k) - 1) 1 []
def ny (x g : Nat) : Nat := x ^^^ (2 * g + 1)
/-- How far, in how many ways, what waits. -/
structure FarSt where
  F : List Int
  W : List Int
  Q : List Nat
def waysP (F W : List Int) (x y : Nat) : List Int := if F.getD y 0 = F.getD x 0 + 1 then W.set y (IntKind.i64.wrap (W.getD y 0 + W.getD x 0)) else W
def stepF (x : Nat) (st : FarSt) (g : Nat) : FarSt :=
  if st.F.getD (ny x g) 0 < 0 then ⟨st.F.set (ny x g) (st.F.getD x 0 + 1), waysP (st.F.set (ny x g) (st.F.getD x 0 + 1)) st.W x (ny x g), st.Q ++ [ny x g]⟩
  else ⟨st.F, waysP st.F st.W x (ny x g), st.Q⟩
def expFJ (x : Nat) (gs : List Nat) (st : FarSt) (j : Nat) : FarSt := (gs.take j).foldl (stepF x) st
def nextF (k q : Nat) (st : FarSt) (n : Nat) : FarSt := match st.Q[n]? with
  | none => st
  | some x => (rwsM k q x).foldl (stepF x) st
def startF (k src : Nat) : FarSt := ⟨(List.replicate (2 * 2 ^ (2 * k)) (-1)).set src 0, (List.replicate (2 * 2 ^ (2 * k)) 0).set src 1, [src]⟩
def runF (k q src : Nat) : Nat → FarSt
  | 0 => startF k src
  | n + 1 => nextF k q (runF k q src n) n
theorem expFJ_next {x : Nat} {gs : List Nat} {st : FarSt} {j : Nat} (hj : j < gs.length) : expFJ x gs st (j + 1) = stepF x (expFJ x gs st j) gs[j] := by
  rw [expFJ, List.take_succ_eq_append_getElem hj, List.foldl_append]; rfl
theorem expFJ_all (x : Nat) (gs : List Nat) (st : FarSt) : expFJ x gs st gs.length = gs.foldl (stepF x) st := by rw [expFJ, List.take_length]
theorem ny_ne (x g : Nat) : ny x g ≠ x := fun h => by
  have h1 : bitAt (ny x g) 0 = bitAt x 0 := by rw [h]
  unfold ny bitAt at h1
  rw [Nat.testBit_xor] at h1
  have h2 : (2 * g + 1).testBit 0 = true := by simp [Nat.testBit_zero]
  rw [h2] at h1
  cases hx : x.testBit 0 <;> simp [hx] at h1
theorem getD_set_ne {F : List Int} {x y : Nat} {v : Int} (h : y ≠ x) : (F.set y v).getD x 0 = F.getD x 0 := by
  simp [List.getD_eq_getElem?_getD, List.getElem?_set, h]
theorem getD_set_at {F : List Int} {y : Nat} {v : Int} (h : y < F.length) : (F.set y v).getD y 0 = v := by
  simp [List.getD_eq_getElem?_getD, h]
theorem stepF_new {x g : Nat} {F W : List Int} {Q : List Nat} {y : Nat} {fx wx wy : Int} (hy : ny x g = y) (hl : y < F.length) (h0 : F.getD y 0 < 0) (hf : F.getD x 0 = fx) (hw : W.getD y 0 = wy) (hx : W.getD x 0 = wx) :
    stepF x ⟨F, W, Q⟩ g = ⟨F.set y (fx + 1), W.set y (IntKind.i64.wrap (wy + wx)), Q ++ [y]⟩ := by
  have hne : y ≠ x := hy ▸ ny_ne x g
  simp only [stepF, hy, h0, if_true, hf]
  rw [waysP, getD_set_at hl, getD_set_ne hne, hf, if_pos rfl, hw, hx]
theorem stepF_more {x g : Nat} {F W : List Int} {Q : List Nat} {y : Nat} {fx wx wy : Int} (hy : ny x g = y) (h0 : ¬ F.getD y 0 < 0) (hf : F.getD x 0 = fx) (he : F.getD y 0 = fx + 1) (hw : W.getD y 0 = wy) (hx : W.getD x 0 = wx) :
    stepF x ⟨F, W, Q⟩ g = ⟨F, W.set y (IntKind.i64.wrap (wy + wx)), Q⟩ := by
  simp only [stepF, hy, h0, if_false]
  rw [waysP, hf, if_pos he, hw, hx]
theorem stepF_old {x g : Nat} {F W : List Int} {Q : List Nat} {y : Nat} {fx : Int} (hy : ny x g = y) (h0 : ¬ F.getD y 0 < 0) (hf : F.getD x 0 = fx) (he : ¬ F.getD y 0 = fx + 1) :
    stepF x ⟨F, W, Q⟩ g = ⟨F, W, Q⟩ := by
  simp only [stepF, hy, h0, if_false]
  rw [waysP, hf, if_neg he]

/-- All is within bounds. -/
structure MildF (k b : Nat) (st : FarSt) : Prop where
  lf : st.F.length = 2 * 2 ^ (2 * k)
  lw : st.W.length = 2 * 2 ^ (2 * k)
  val : ∀ v ∈ st.F, -1 ≤ v ∧ v ≤ b
  dom : ∀ y ∈ st.Q, y ∈ sts k
  len : st.Q.length ≤ b
theorem MildF.mono {k b c : Nat} {st : FarSt} (h : MildF k b st) (hb : b ≤ c) : MildF k c st := ⟨h.lf, h.lw, fun v hv => ⟨(h.val v hv).1, by have := (h.val v hv).2; omega⟩, h.dom, by have := h.len; omega⟩
theorem getD_in {F : List Int} {lo hi : Int} (h : ∀ v ∈ F, lo ≤ v ∧ v ≤ hi) (h0 : lo ≤ 0 ∧ 0 ≤ hi) (x : Nat) : lo ≤ F.getD x 0 ∧ F.getD x 0 ≤ hi := by
  rcases Nat.lt_or_ge x F.length with hx | hx
  · rw [show F.getD x 0 = F[x] by simp [hx]]; exact h _ (List.getElem_mem hx)
  · rw [show F.getD x 0 = 0 by simp [hx]]; exact h0
theorem MildF.at_ {k b : Nat} {st : FarSt} (h : MildF k b st) (x : Nat) : -1 ≤ st.F.getD x 0 ∧ st.F.getD x 0 ≤ b := getD_in h.val (by omega) x
theorem ways_len (F W : List Int) (x y : Nat) : (waysP F W x y).length = W.length := by unfold waysP; split <;> simp
theorem MildF.step {k b x g : Nat} {st : FarSt} (h : MildF k b st) (hy : ny x g ∈ sts k) : MildF k (b + 1) (stepF x st g) := by
  have h2 := h.at_ x
  by_cases h0 : st.F.getD (ny x g) 0 < 0
  · simp only [stepF, h0, if_true]
    refine ⟨by simp [h.lf], by rw [ways_len]; exact h.lw, fun v hv => ?_, fun y hm => ?_, ?_⟩
    · rcases List.mem_or_eq_of_mem_set hv with hv | rfl
      · have := h.val v hv; omega
      · omega
    · rcases List.mem_append.1 hm with hm | hm
      · exact h.dom y hm
      · obtain rfl : y = ny x g := by simpa using hm
        exact hy
    · simp; exact h.len
  · simp only [stepF, h0, if_false]
    exact ⟨h.lf, by rw [ways_len]; exact h.lw, fun v hv => by have := h.val v hv; omega, h.dom, Nat.le_succ_of_le h.len⟩
theorem MildF.exp {k b x : Nat} {st : FarSt} (h : MildF k b st) : ∀ (gs : List Nat), (∀ g ∈ gs, ny x g ∈ sts k) → MildF k (b + gs.length) (gs.foldl (stepF x) st)
  | [], _ => h
  | g :: gs, hl => by
    have h1 := MildF.exp (h.step (hl g (by simp))) gs (fun m hm => hl m (by simp [hm]))
    rw [List.length_cons, show b + (gs.length + 1) = b + 1 + gs.length by omega]
    exact h1
theorem rowsM_lt (k : Nat) (q : Int) (x B : Nat) : ∀ (n g : Nat) (out : List Nat), (∀ y ∈ out, y < B) → g + n ≤ B → ∀ y ∈ rowsM k q x n g out, y < B
  | 0, _, _, h, _ => h
  | n + 1, g, out, h, hb => by
    rw [rowsM_next]
    refine rowsM_lt k q x B n (g + 1) _ ?_ (by omega)
    split
    · exact insG_mem h (by omega)
    · exact h
theorem rwsM_lt {k q x g : Nat} (h : g ∈ rwsM k q x) : g < 2 ^ (2 * k) :=
  rowsM_lt k q x (2 ^ (2 * k)) _ _ _ (fun y hy => by cases hy) (by have := Nat.two_pow_pos (2 * k); omega) g h
theorem ny_in {k q x g : Nat} (hx : x ∈ sts k) (h : g ∈ rwsM k q x) : ny x g ∈ sts k := by
  have h1 := rwsM_lt h
  have hx' := sts_mem.1 hx
  rw [sts_mem, ny, show 2 * 2 ^ (2 * k) = 2 ^ (2 * k + 1) by rw [Nat.pow_succ]; omega]
  exact Nat.xor_lt_two_pow (by rw [Nat.pow_succ]; omega) (by rw [Nat.pow_succ]; omega)
theorem rwsM_len {k q x : Nat} (hk : k ≤ 4) : (rwsM k q x).length ≤ 255 := by
  have h := rowsM_len k q x (2 ^ (2 * k) - 1) 1 []
  have h2 := pow_c hk
  simp only [List.length_nil] at h
  unfold rwsM
  omega
theorem MildF.run {k q src : Nat} (hk : k ≤ 4) (hs : src ∈ sts k) : ∀ n, MildF k (256 * n + 1) (runF k q src n)
  | 0 => by
    refine ⟨by simp [runF, startF], by simp [runF, startF], fun v hv => ?_, fun y hy => ?_, by simp [runF, startF]⟩
    · rcases List.mem_or_eq_of_mem_set hv with hv | rfl
      · have := List.eq_of_mem_replicate hv; omega
      · omega
    · obtain rfl : y = src := by simpa [runF, startF] using hy
      exact hs
  | n + 1 => by
    have h := MildF.run (q := q) hk hs n
    show MildF k _ (nextF k q (runF k q src n) n)
    cases hq : (runF k q src n).Q[n]? with
    | none => rw [show nextF k q (runF k q src n) n = runF k q src n by simp [nextF, hq]]; exact h.mono (by omega)
    | some x =>
      have hx : x ∈ sts k := h.dom x (List.mem_of_getElem? hq)
      have h2 := h.exp (x := x) (rwsM k q x) (fun g hg => ny_in hx hg)
      have h3 := rwsM_len (k := k) (q := q) (x := x) hk
      rw [show nextF k q (runF k q src n) n = (rwsM k q x).foldl (stepF x) (runF k q src n) by simp [nextF, hq]]
      exact h2.mono (by omega)
def finF (k q src : Nat) : FarSt := runF k q src (turns k)
theorem runF_stay {k q src n : Nat} (h : (runF k q src n).Q.length ≤ n) : ∀ m, runF k q src (n + m) = runF k q src n
  | 0 => rfl
  | m + 1 => by
    have e := runF_stay h m
    show nextF k q (runF k q src (n + m)) (n + m) = _
    rw [e]
    simp only [nextF]
    rw [List.getElem?_eq_none (by omega)]
end Go.Proofs.Ytlpeimlbpiofkaa

namespace Go.Proofs.Ytlpeimlbpiofkaa
open Go.RowKit

/-- What stands between two rounds. -/
structure LoSt (L : List (List Int)) (C : List Int → Int) (n e : Nat) (done : List Bool) (o : List Int) : Prop where
  hd : done.length = 2 ^ (n + 1)
  ho : o.length = 2 ^ (n + 1)
  seek : Seek (LegW L C n) (stateS n e) (settledS n done o) (waitsS n done o)
theorem lo_start {L : List (List Int)} {C : List Int → Int} {n e : Nat} (he : e < 2 ^ (n + 1)) : LoSt L C n e (List.replicate (2 ^ (n + 1)) false) ((List.replicate (2 ^ (n + 1)) (-1)).set e 0) := by
  refine ⟨by simp, by simp, ?_⟩
  have h1 : settledS n (List.replicate (2 ^ (n + 1)) false) ((List.replicate (2 ^ (n + 1)) (-1)).set e 0) = fun _ => none := by
    funext a
    unfold settledS
    rw [if_neg]
    rintro ⟨-, h⟩
    rw [List.getD_eq_getElem?_getD, List.getElem?_replicate] at h
    split at h <;> cases h
  have h2 : waitsS n (List.replicate (2 ^ (n + 1)) false) ((List.replicate (2 ^ (n + 1)) (-1)).set e 0) = fun x => if x = stateS n e then some 0 else none := by
    funext a
    by_cases ha : a.1.length = n
    · by_cases hq : a = stateS n e
      · subst hq
        rw [if_pos rfl]
        refine waits_iff.2 ⟨ha, ?_, Int.le_refl _, ?_⟩
        · rw [List.getD_eq_getElem?_getD, List.getElem?_replicate]; split <;> rfl
        · rw [numS_state he, List.getD_eq_getElem?_getD, List.getElem?_set_self (by simpa using he)]; rfl
      · rw [if_neg hq]
        unfold waitsS
        rw [if_neg]
        rintro ⟨-, -, h⟩
        have hne : e ≠ numS a := fun h => hq (by rw [h, stateS_num ha])
        rw [List.getD_eq_getElem?_getD, List.getElem?_set_ne hne, List.getElem?_replicate] at h
        split at h <;> simp at h
    · have hq : a ≠ stateS n e := fun h => ha (by rw [h]; exact stateS_len n e)
      rw [if_neg hq]
      unfold waitsS
      rw [if_neg (fun h => ha h.1)]
  rw [h1, h2]
  exact seek_start _ _
theorem lo_round {L : List (List Int)} {C : List Int → Int} {n e p : Nat} {done : List Bool} {o : List Int} (hC : ∀ l ∈ L, 1 ≤ C l) (h : LoSt L C n e done o) (hp : pickTo done o (2 ^ (n + 1)) = p) : LoSt L C n e (done.set p true) (relax (o.getD p (-1)) (legsW L C (stateS n p)) o) ∧ done.getD p false = false ∧ p < 2 ^ (n + 1) ∧ 0 ≤ o.getD p (-1) := by
  rcases pick_is done o (2 ^ (n + 1)) with ⟨h1, -⟩ | ⟨p', h1, h2, h3, h4, h5⟩
  · omega
  · obtain rfl : p' = p := by omega
    refine ⟨⟨by rw [List.length_set]; exact h.hd, by rw [relax_len]; exact h.ho, ?_⟩, h3, h1, h4⟩
    exact seek_round (fun x t y he => legW_time hC he) h.seek (round_ofW hC h.hd h.ho h1 h3 h4 (fun j hj hd h0 => h5 j hj hd h0) h.seek)
theorem lo_end {L : List (List Int)} {C : List Int → Int} {n e : Nat} {done : List Bool} {o : List Int} (h : LoSt L C n e done o) (hp : pickTo done o (2 ^ (n + 1)) < 0) : Least (LegW L C n) (stateS n e) (settledS n done o) ∧ ∀ i, i < 2 ^ (n + 1) → done.getD i false = false → o.getD i (-1) < 0 := by
  rcases pick_is done o (2 ^ (n + 1)) with ⟨-, h2⟩ | ⟨p', h1, h2, -⟩
  · refine ⟨seek_end h.seek fun x => ?_, h2⟩
    unfold waitsS
    rw [if_neg]
    rintro ⟨h3, h4, h5⟩
    have := h2 _ (numS_lt h3) h4
    omega
  · omega
theorem count_setW : ∀ (d : List Bool) (i : Nat), i < d.length → d.getD i false = false → (d.set i true).count true = d.count true + 1
  | [], i, h, _ => by simp at h
  | b :: d, 0, _, h => by
    obtain rfl : b = false := by simpa using h
    simp
  | b :: d, i + 1, h, h2 => by
    have ih := count_setW d i (by simpa using h) (by simpa using h2)
    rw [List.set_cons_succ, List.count_cons, List.count_cons, ih]
    omega
end Go.Proofs.Ytlpeimlbpiofkaa

namespace Go.Proofs.Ytlpeimlbpiofkaa
open Go.RowKit

theorem nums_set (F : List Int) (i : Nat) (v : Int) : (nums F).toArray.setIfInBounds i (.int .i64 v) = (nums (F.set i v)).toArray := by
  simp [nums, List.map_set]
theorem nums_at {F : List Int} {i : Nat} (h : i < F.length) : (nums F).toArray[i]? = some (.int .i64 (F.getD i 0)) := by
  simp [nums, h]
/-- How far, behind j rounds of the first loop. -/
def negs (n j : Nat) : List Int := (List.range n).map fun i => if i < j then -1 else 0
theorem negs_zero (n : Nat) : negs n 0 = List.replicate n 0 := by
  refine List.ext_getElem (by simp [negs]) fun i h1 h2 => ?_
  simp [negs]
theorem negs_all (n : Nat) : negs n n = List.replicate n (-1) := by
  refine List.ext_getElem (by simp [negs]) fun i h1 h2 => ?_
  have hi : i < n := by simpa [negs] using h1
  simp [negs, hi]
theorem negs_len (n j : Nat) : (negs n j).length = n := by simp [negs]
theorem negs_next {n j : Nat} : (negs n j).set j (-1) = negs n (j + 1) := by
  refine List.ext_getElem (by simp [negs]) fun i h1 h2 => ?_
  have hi : i < n := by simpa [negs] using h2
  rw [List.getElem_set]
  simp only [negs, List.getElem_map, List.getElem_range]
  by_cases h : j = i
  · subst h; simp
  · rw [if_neg h]
    by_cases h3 : i < j
    · rw [if_pos h3, if_pos (by omega)]
    · rw [if_neg h3, if_neg (by omega)]
theorem make_ints {z : Nat} (hz : z ≤ 256) (W : World) : (Instr.makeSlice 22 (.int .i64 (2 * (z : Int))) (.int .i64 (2 * (z : Int)))).run Try.prog W = .ok (.slice (some ⟨W.heap.size, 0, none⟩) (2 * z) (2 * z)) (W.alloc (.cells (nums (List.replicate (2 * z) 0)).toArray 3)) := by
  obtain ⟨i0, hi, hz0, hz1, hz2⟩ := info_parts info_int
  have h := run_make (P := Try.prog) W 22 3 i0 _ Try.underlying22 hi hz0 .i64 .i64 ((2 * z : Nat) : Int) ((2 * z : Nat) : Int) (by omega) (by omega) (by rw [hz2]; omega) (by omega)
  simp only [Int.toNat_natCast, hz1, made_zeros] at h
  rw [show 2 * (z : Int) = ((2 * z : Nat) : Int) by omega, h]
structure FarC (w : World) (gF gW B : Nat) : Prop where
  c1 : w.heap.size < gF
  c2 : w.heap.size < gW
  c3 : gF ≠ gW
  c4 : gF < B
  c5 : gW < B
structure FarD (B B2 B3 : Nat) (rowv : Value) : Prop where
  d1 : B ≤ B2
  d2 : B2 ≤ B3
  rob : ∀ kk, rowv.ownBlock = some kk → B2 ≤ kk ∧ kk < B3
section
variable {w wz wz' : World} {a s : Int} {gF gW B B2 B3 : Nat} {rowv v v' : Value} {gs : List Nat} {F W F' W' : List Int} {Q Q' : List Nat}
end
/-- What the search hands back. -/
def FarPost (k q src : Nat) (w : World) (e : Ending) (w' : World) : Prop :=
  ∃ gF gW : Nat, e = .returned (.tuple #[.slice (some ⟨gF, 0, none⟩) (2 * 2 ^ (2 * k)) (2 * 2 ^ (2 * k)), .slice (some ⟨gW, 0, none⟩) (2 * 2 ^ (2 * k)) (2 * 2 ^ (2 * k))]) ∧ Whole w' gF 3 (nums (finF k q src).F).toArray ∧ Whole w' gW 3 (nums (finF k q src).W).toArray ∧ Below w.heap.size w w'
end Go.Proofs.Ytlpeimlbpiofkaa

namespace Go.Proofs.Ytlpeimlbpiofkaa
open Go.RowKit Go.Maps Go.WideShapes

theorem plc_first {k : Nat} (hk : k ≤ 4) : plc k 0 = .agg #[.bool false, .bool false, .bool false, .bool false, .bool false, .bool false, .bool false, .bool false, .bool false] := by
  have h : k = 0 ∨ k = 1 ∨ k = 2 ∨ k = 3 ∨ k = 4 := by omega
  rcases h with rfl | rfl | rfl | rfl | rfl <;> rfl
theorem plc_last {k : Nat} (h1 : 1 ≤ k) (hk : k ≤ 4) : plcC k (2 * 2 ^ (2 * k) - 1) = place9 (firstN (2 * k)) true := by
  have h : k = 1 ∨ k = 2 ∨ k = 3 ∨ k = 4 := by omega
  rcases h with rfl | rfl | rfl | rfl <;> rfl
theorem first_mem (k : Nat) : 0 ∈ sts k := sts_mem.2 (by have := Nat.two_pow_pos (2 * k); omega)
noncomputable def fewN (k q : Nat) : Int := (lk (finP k q (2 * 2 ^ (2 * k) - 1)).1 0).getD 0
noncomputable def fewB (k q : Nat) : Bool := (lk (finP k q (2 * 2 ^ (2 * k) - 1)).1 0).isSome
noncomputable def fewI (a b : Int) : Int := if isCo a b then fewN a.toNat b.toNat else 0
noncomputable def fewO (a b : Int) : Bool := isCo a b && fewB a.toNat b.toNat
/-- How many states are reached. -/
noncomputable def reachN (k q : Nat) : Nat := ((sts k).filter fun x => (lk (finP k q 0).1 x).isSome).length
noncomputable def reachI (a b : Int) : Int := if isCo a b then (reachN a.toNat b.toNat : Nat) else 0

end Go.Proofs.Ytlpeimlbpiofkaa

namespace Go.Proofs.Ytlpeimlbpiofkaa
open Go.RowKit Go.Maps Go.WideShapes

theorem crew_up8 {xs : List Int} {bs : List Bool} {s : Int} (h7 : xs.length ≤ 7) : ∀ l ∈ crewLists xs bs s, l ∈ upLists (2 * 4) (2 * 4) := fun _ hl => up_wide (crew_up hl) (by omega)
theorem w9f_of {w : World} {g p gL : Nat} {t : TypeId} (h : Whole w g t (crewCells p gL)) : w.cell? ⟨g, 0, none⟩ = some (.bool false) ∧ w.cell? ⟨g, 1, none⟩ = some (.bool false) ∧ w.cell? ⟨g, 2, none⟩ = some (.bool false) ∧ w.cell? ⟨g, 3, none⟩ = some (.bool false) ∧ w.cell? ⟨g, 4, none⟩ = some (.bool false) ∧ w.cell? ⟨g, 5, none⟩ = some (.bool false) ∧ w.cell? ⟨g, 6, none⟩ = some (.bool false) ∧ w.cell? ⟨g, 7, none⟩ = some (.bool false) ∧ w.cell? ⟨g, 8, none⟩ = some (.bool false) := ⟨h.cell 0, h.cell 1, h.cell 2, h.cell 3, h.cell 4, h.cell 5, h.cell 6, h.cell 7, h.cell 8⟩
/-- How many states a crew reaches. -/
noncomputable def reachL (xs : List Int) (bs : List Bool) (s : Int) : Nat := countIs (sts 4) (lk (finW 4 (crewLists xs bs s) 0).1)
noncomputable def reachW (xs : List Int) (bs : List Bool) (m : Nat) (s : Int) : Int := if isCrew xs m s then (reachL xs bs s : Int) else 0

end Go.Proofs.Ytlpeimlbpiofkaa
