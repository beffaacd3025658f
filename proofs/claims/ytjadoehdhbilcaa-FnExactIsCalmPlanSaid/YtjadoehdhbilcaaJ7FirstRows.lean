/-
  What is proved: three closed facts on the head of this seat's translation (how its program was cut), word by word. Conditions: none.
  What is proved: places of a company, told by the numbers of their states, as keys of a map. Conditions: at most four couples.
  What is proved: plain facts on a company's search by a queue over the numbers of states, as the program goes. Conditions: at most four couples.
  What is proved: a company's searches from the first state and from the last one come to an end. Conditions: at most four couples and four seats.
  What is proved: what the program's search over a company's river keeps, and how it goes over from one world to the next. Conditions: as each says.
  What is proved: the contract of the program's search (movesApart) over a company's river: at its end each state that is reached has the number of the rows that lead there. Conditions: there is a company; the search begins at the first or the last state.
  What is proved: plain facts on the model's search over the numbers of a company's states: how far each is, in how many ways it is reached, what waits. Conditions: at most four couples.
  What is proved: the model's search told by entries in place of lists: the two go together. Conditions: at most four couples.
  What is proved: what the model's search over a company's states keeps, and how it goes over from one world to the next. Conditions: as each says.
  What is proved: the contract of the model's search over a company's states. Conditions: there is a company; the search begins at the first or the last state.
-/
import Derived.Test.YtjadoehdhbilcaaRows
import Derived.JoinedOf
import Derived.KernelRfl
import Derived.DeepKeys4
import Derived.Deep.LoopGhost
import Derived.Deep.DeepCutAuto
import Derived.Test.YtjadoehdhbilcaaJ6FirstRows
set_option linter.unusedSimpArgs false
set_option linter.unusedVariables false
namespace Go.Proofs.Ytjadoehdhbilcaa.enter
open Go

theorem skip (p r : List Char) (h : p.all (fun c => c.toNat != 32) = true) : wordsSigns (p ++ Char.ofNat 32 :: r) = p :: wordsSigns r := by
  induction p with
  | nil => rfl
  | cons c p ih =>
    simp only [List.all_cons, Bool.and_eq_true] at h
    have hc : c ≠ Char.ofNat 32 := by rintro rfl; simp at h
    rw [List.cons_append, wordsSigns, ih h.2]
    exact hc

def word0 : List Char := [Char.ofNat 104, Char.ofNat 97, Char.ofNat 114, Char.ofNat 110, Char.ofNat 101, Char.ofNat 115, Char.ofNat 115]
def word1 : List Char := [Char.ofNat 102, Char.ofNat 48, Char.ofNat 98, Char.ofNat 55, Char.ofNat 99, Char.ofNat 53, Char.ofNat 51, Char.ofNat 102, Char.ofNat 100, Char.ofNat 98, Char.ofNat 51, Char.ofNat 49, Char.ofNat 52, Char.ofNat 98, Char.ofNat 50, Char.ofNat 48, Char.ofNat 49, Char.ofNat 52, Char.ofNat 101, Char.ofNat 51, Char.ofNat 50, Char.ofNat 51, Char.ofNat 52, Char.ofNat 51, Char.ofNat 54, Char.ofNat 56, Char.ofNat 54, Char.ofNat 55, Char.ofNat 56, Char.ofNat 51, Char.ofNat 49, Char.ofNat 54, Char.ofNat 97, Char.ofNat 51, Char.ofNat 57, Char.ofNat 50, Char.ofNat 48, Char.ofNat 55, Char.ofNat 49, Char.ofNat 49, Char.ofNat 100, Char.ofNat 56, Char.ofNat 57, Char.ofNat 57, Char.ofNat 100, Char.ofNat 52, Char.ofNat 100, Char.ofNat 100, Char.ofNat 50, Char.ofNat 100, Char.ofNat 49, Char.ofNat 100, Char.ofNat 99, Char.ofNat 102, Char.ofNat 100, Char.ofNat 49, Char.ofNat 49, Char.ofNat 49, Char.ofNat 52, Char.ofNat 50, Char.ofNat 99, Char.ofNat 56, Char.ofNat 101, Char.ofNat 54]
def word2 : List Char := [Char.ofNat 99, Char.ofNat 117, Char.ofNat 116]
def tail0 : List Char := [Char.ofNat 97, Char.ofNat 116, Char.ofNat 32, Char.ofNat 108, Char.ofNat 111, Char.ofNat 111, Char.ofNat 112, Char.ofNat 46, Char.ofNat 101, Char.ofNat 120, Char.ofNat 97, Char.ofNat 109, Char.ofNat 112, Char.ofNat 108, Char.ofNat 101, Char.ofNat 47, Char.ofNat 103, Char.ofNat 48, Char.ofNat 49, Char.ofNat 50, Char.ofNat 55, Char.ofNat 50, Char.ofNat 47, Char.ofNat 108, Char.ofNat 97, Char.ofNat 119, Char.ofNat 115, Char.ofNat 46, Char.ofNat 70, Char.ofNat 110, Char.ofNat 69, Char.ofNat 120, Char.ofNat 97, Char.ofNat 99, Char.ofNat 116, Char.ofNat 82, Char.ofNat 111, Char.ofNat 119, Char.ofNat 115, Char.ofNat 79, Char.ofNat 102, Char.ofNat 32, Char.ofNat 108, Char.ofNat 111, Char.ofNat 111, Char.ofNat 112, Char.ofNat 46, Char.ofNat 101, Char.ofNat 120, Char.ofNat 97, Char.ofNat 109, Char.ofNat 112, Char.ofNat 108, Char.ofNat 101, Char.ofNat 47, Char.ofNat 103, Char.ofNat 48, Char.ofNat 49, Char.ofNat 50, Char.ofNat 55, Char.ofNat 50, Char.ofNat 47, Char.ofNat 108, Char.ofNat 97, Char.ofNat 119, Char.ofNat 115, Char.ofNat 46, Char.ofNat 70, Char.ofNat 110, Char.ofNat 69, Char.ofNat 120, Char.ofNat 97, Char.ofNat 99, Char.ofNat 116, Char.ofNat 82, Char.ofNat 111, Char.ofNat 119, Char.ofNat 66, Char.ofNat 111, Char.ofNat 97, Char.ofNat 116, Char.ofNat 32, Char.ofNat 108, Char.ofNat 111, Char.ofNat 111, Char.ofNat 112, Char.ofNat 46, Char.ofNat 101, Char.ofNat 120, Char.ofNat 97, Char.ofNat 109, Char.ofNat 112, Char.ofNat 108, Char.ofNat 101, Char.ofNat 47, Char.ofNat 103, Char.ofNat 48, Char.ofNat 49, Char.ofNat 50, Char.ofNat 55, Char.ofNat 50, Char.ofNat 47, Char.ofNat 108, Char.ofNat 97, Char.ofNat 119, Char.ofNat 115, Char.ofNat 46, Char.ofNat 70, Char.ofNat 110, Char.ofNat 69, Char.ofNat 120, Char.ofNat 97, Char.ofNat 99, Char.ofNat 116, Char.ofNat 73, Char.ofNat 115, Char.ofNat 67, Char.ofNat 97, Char.ofNat 108, Char.ofNat 109]
def tail1 : List Char := [Char.ofNat 80, Char.ofNat 108, Char.ofNat 97, Char.ofNat 110, Char.ofNat 32, Char.ofNat 108, Char.ofNat 111, Char.ofNat 111, Char.ofNat 112, Char.ofNat 46, Char.ofNat 101, Char.ofNat 120, Char.ofNat 97, Char.ofNat 109, Char.ofNat 112, Char.ofNat 108, Char.ofNat 101, Char.ofNat 47, Char.ofNat 103, Char.ofNat 48, Char.ofNat 49, Char.ofNat 50, Char.ofNat 55, Char.ofNat 50, Char.ofNat 47, Char.ofNat 108, Char.ofNat 97, Char.ofNat 119, Char.ofNat 115, Char.ofNat 46, Char.ofNat 70, Char.ofNat 110, Char.ofNat 69, Char.ofNat 120, Char.ofNat 97, Char.ofNat 99, Char.ofNat 116, Char.ofNat 70, Char.ofNat 101, Char.ofNat 119, Char.ofNat 101, Char.ofNat 115, Char.ofNat 116, Char.ofNat 82, Char.ofNat 111, Char.ofNat 119, Char.ofNat 115, Char.ofNat 32, Char.ofNat 108, Char.ofNat 111, Char.ofNat 111, Char.ofNat 112, Char.ofNat 46, Char.ofNat 101, Char.ofNat 120, Char.ofNat 97, Char.ofNat 109, Char.ofNat 112, Char.ofNat 108, Char.ofNat 101, Char.ofNat 47, Char.ofNat 103, Char.ofNat 48, Char.ofNat 49, Char.ofNat 50, Char.ofNat 55, Char.ofNat 50, Char.ofNat 47, Char.ofNat 108, Char.ofNat 97, Char.ofNat 119, Char.ofNat 115, Char.ofNat 46, Char.ofNat 70, Char.ofNat 110, Char.ofNat 69, Char.ofNat 120, Char.ofNat 97, Char.ofNat 99, Char.ofNat 116, Char.ofNat 70, Char.ofNat 105, Char.ofNat 114, Char.ofNat 115, Char.ofNat 116, Char.ofNat 82, Char.ofNat 111, Char.ofNat 119, Char.ofNat 115, Char.ofNat 32, Char.ofNat 108, Char.ofNat 111, Char.ofNat 111, Char.ofNat 112, Char.ofNat 46, Char.ofNat 101, Char.ofNat 120, Char.ofNat 97, Char.ofNat 109, Char.ofNat 112, Char.ofNat 108, Char.ofNat 101, Char.ofNat 47, Char.ofNat 103, Char.ofNat 48, Char.ofNat 49, Char.ofNat 50, Char.ofNat 55, Char.ofNat 50, Char.ofNat 47, Char.ofNat 108, Char.ofNat 97, Char.ofNat 119, Char.ofNat 115, Char.ofNat 46, Char.ofNat 70, Char.ofNat 110, Char.ofNat 69, Char.ofNat 120, Char.ofNat 97]
def tail2 : List Char := [Char.ofNat 99, Char.ofNat 116, Char.ofNat 67, Char.ofNat 111, Char.ofNat 117, Char.ofNat 110, Char.ofNat 116, Char.ofNat 67, Char.ofNat 97, Char.ofNat 108, Char.ofNat 109, Char.ofNat 32, Char.ofNat 108, Char.ofNat 111, Char.ofNat 111, Char.ofNat 112, Char.ofNat 46, Char.ofNat 101, Char.ofNat 120, Char.ofNat 97, Char.ofNat 109, Char.ofNat 112, Char.ofNat 108, Char.ofNat 101, Char.ofNat 47, Char.ofNat 103, Char.ofNat 48, Char.ofNat 49, Char.ofNat 50, Char.ofNat 55, Char.ofNat 50, Char.ofNat 47, Char.ofNat 108, Char.ofNat 97, Char.ofNat 119, Char.ofNat 115, Char.ofNat 46, Char.ofNat 70, Char.ofNat 110, Char.ofNat 69, Char.ofNat 120, Char.ofNat 97, Char.ofNat 99, Char.ofNat 116, Char.ofNat 67, Char.ofNat 111, Char.ofNat 117, Char.ofNat 110, Char.ofNat 116, Char.ofNat 67, Char.ofNat 97, Char.ofNat 108, Char.ofNat 109, Char.ofNat 82, Char.ofNat 101, Char.ofNat 97, Char.ofNat 99, Char.ofNat 104, Char.ofNat 101, Char.ofNat 100, Char.ofNat 32, Char.ofNat 108, Char.ofNat 111, Char.ofNat 111, Char.ofNat 112, Char.ofNat 46, Char.ofNat 101, Char.ofNat 120, Char.ofNat 97, Char.ofNat 109, Char.ofNat 112, Char.ofNat 108, Char.ofNat 101, Char.ofNat 47, Char.ofNat 103, Char.ofNat 48, Char.ofNat 49, Char.ofNat 50, Char.ofNat 55, Char.ofNat 50, Char.ofNat 47, Char.ofNat 108, Char.ofNat 97, Char.ofNat 119, Char.ofNat 115, Char.ofNat 46, Char.ofNat 70, Char.ofNat 110, Char.ofNat 69, Char.ofNat 120, Char.ofNat 97, Char.ofNat 99, Char.ofNat 116, Char.ofNat 83, Char.ofNat 101, Char.ofNat 97, Char.ofNat 116, Char.ofNat 115, Char.ofNat 70, Char.ofNat 111, Char.ofNat 114, Char.ofNat 67, Char.ofNat 111, Char.ofNat 117, Char.ofNat 112, Char.ofNat 108, Char.ofNat 101, Char.ofNat 115]
def tail : List Char := tail0 ++ (tail1 ++ (tail2))

theorem whole : Try.prog.initOrder = String.ofList (word0 ++ Char.ofNat 32 :: (word1 ++ Char.ofNat 32 :: (word2 ++ Char.ofNat 32 :: tail))) := by kernel_rfl
theorem behind (ws : List (List Char)) : behindMainWord (word0 :: word1 :: word2 :: ws) = word2 :: ws := by kernel_rfl
theorem words : ∃ ws, behindMainWord (wordsSigns Try.prog.initOrder.toList) = word2 :: ws := by
  refine ⟨wordsSigns tail, ?_⟩
  rw [whole, String.toList_ofList, skip _ _ (by kernel_rfl), skip _ _ (by kernel_rfl), skip _ _ (by kernel_rfl), behind]

theorem lays : Try.prog.laysLater = false := by kernel_rfl
theorem reflects : Try.prog.bearsReflect = false := by kernel_rfl
theorem door : Try.prog.doorFits [] = true := by kernel_rfl
theorem strip (ws : List (List Char)) : stripLifts liftWords (word2 :: ws) = ([], word2 :: ws) := by kernel_rfl
theorem noGc : (word2 == "gc".toList) = false := by kernel_rfl
theorem noSpec : (word2 == "spec".toList) = false := by kernel_rfl
theorem noCarried : (word2 == "carried".toList) = false := by kernel_rfl

theorem mayEnter_of (P : Program) (ws : List (List Char)) (h : behindMainWord (wordsSigns P.initOrder.toList) = word2 :: ws) (h1 : P.laysLater = false) (h2 : P.bearsReflect = false) (h3 : P.doorFits [] = true) : P.mayEnter = true := by
  unfold Program.mayEnter
  rw [h]
  simp only [strip, noGc, noSpec, noCarried, h1, h2, h3]
  kernel_rfl
theorem headLifts_of (P : Program) (ws : List (List Char)) (h : behindMainWord (wordsSigns P.initOrder.toList) = word2 :: ws) : P.headLifts = [] := by
  unfold Program.headLifts
  rw [h]
  simp only [strip]
  kernel_rfl
theorem liftsFinal_of (P : Program) (ws : List (List Char)) (h : behindMainWord (wordsSigns P.initOrder.toList) = word2 :: ws) : P.liftsFinal = false := by
  unfold Program.liftsFinal
  rw [headLifts_of P ws h, h]
  kernel_rfl
theorem make_of (P : Program) (ws : List (List Char)) (h : behindMainWord (wordsSigns P.initOrder.toList) = word2 :: ws) : P.make = some .cut := by
  unfold Program.make
  rw [headLifts_of P ws h, h]
  kernel_rfl
theorem mayEnter : Try.prog.mayEnter = true := words.elim fun ws h => mayEnter_of _ ws h lays reflects door
theorem liftsFinal : Try.prog.liftsFinal = false := words.elim fun ws h => liftsFinal_of _ ws h
theorem make : Try.prog.make = some .cut := words.elim fun ws h => make_of _ ws h
theorem laid : laidOutB Try.prog = true := by kernel_rfl
theorem rowed : mapsRowed Try.prog = true := by kernel_rfl
theorem heard : Try.prog.stopsHeard = true := by kernel_rfl
theorem keys : Try.prog.plainKeys = false := by kernel_rfl
end Go.Proofs.Ytjadoehdhbilcaa.enter

namespace Go.Proofs.Ytjadoehdhbilcaa
open Go.RowKit Go.Maps Go.WideShapes

/-- The cells of the place with a state's number. -/
def pf (k x i : Nat) : Bool := (bitsOf (x / 2) (2 * k)).getD i false
def pt (x : Nat) : Bool := bitAt x 0
def plcC (k x : Nat) : Array Value := place9 (pf k x) (pt x)
def plc (k x : Nat) : Value := .agg (plcC k x)
theorem law_place : Keyed Try.prog 68 :=
  Keyed.of_law (deep_law_laid (m := 40) (by kernel_rfl) (by decide) (of_decide_eq_true (by kernel_rfl)) (by kernel_rfl) (by kernel_rfl))
theorem place_some : ∀ b0 b1 b2 b3 b4 b5 b6 b7 b8 : Bool, (keyOf Try.prog 68 (.agg #[.bool b0, .bool b1, .bool b2, .bool b3, .bool b4, .bool b5, .bool b6, .bool b7, .bool b8])).isSome = true := by decide +kernel
noncomputable def plcL (k x : Nat) : Lit := (keyOf Try.prog 68 (plc k x)).getD (.bool false)
theorem plc_reads (k x : Nat) : keyOf Try.prog 68 (plc k x) = some (plcL k x) := by
  have h := place_some ((bitsOf (x / 2) (2 * k)).getD 0 false) ((bitsOf (x / 2) (2 * k)).getD 1 false) ((bitsOf (x / 2) (2 * k)).getD 2 false) ((bitsOf (x / 2) (2 * k)).getD 3 false) ((bitsOf (x / 2) (2 * k)).getD 4 false) ((bitsOf (x / 2) (2 * k)).getD 5 false) ((bitsOf (x / 2) (2 * k)).getD 6 false) ((bitsOf (x / 2) (2 * k)).getD 7 false) (bitAt x 0)
  obtain ⟨l, hl⟩ := Option.isSome_iff_exists.1 h
  have h2 : keyOf Try.prog 68 (plc k x) = some l := hl
  rw [plcL, h2]
  rfl
/-- How many states' numbers there are. -/
def sts (k : Nat) : List Nat := List.range (2 * 2 ^ (2 * k))
def unplc : Value → Nat
  | .agg cs => match cs.toList with
    | [.bool a, .bool b, .bool c, .bool d, .bool e, .bool f, .bool g, .bool h, .bool t] => 2 * (a.toNat + 2 * b.toNat + 4 * c.toNat + 8 * d.toNat + 16 * e.toNat + 32 * f.toNat + 64 * g.toNat + 128 * h.toNat) + t.toNat
    | _ => 0
  | _ => 0
theorem unplc_all : (List.range 5).all (fun k => (sts k).all fun x => unplc (plc k x) == x) = true := by decide +kernel
theorem unplc_plc {k x : Nat} (hk : k ≤ 4) (hx : x ∈ sts k) : unplc (plc k x) = x := by
  have h := List.all_eq_true.1 unplc_all k (List.mem_range.2 (by omega))
  simpa using List.all_eq_true.1 h x hx
theorem place_keys {k : Nat} (hk : k ≤ 4) : KeyT Try.prog 68 (plc k) (plcL k) (sts k) where
  law := law_place
  reads := fun a _ => plc_reads k a
  inj := fun a ha b hb h => by
    have e : plc k a = plc k b := law_place.inj (plc_reads k a) (by rw [h]; exact plc_reads k b)
    rw [← unplc_plc hk ha, e, unplc_plc hk hb]
theorem sts_len {k : Nat} (hk : k ≤ 4) : (sts k).length < maxLen := by
  have h : 2 ^ (2 * k) ≤ 2 ^ 8 := Nat.pow_le_pow_right (by omega) (by omega)
  rw [sts, List.length_range]
  unfold maxLen
  omega
theorem sts_nodup (k : Nat) : (sts k).Nodup := List.nodup_range
end Go.Proofs.Ytjadoehdhbilcaa

namespace Go.Proofs.Ytjadoehdhbilcaa
open Go.RowKit

/-- The rows in the state with a number. -/
def mvs (k q x : Nat) : List (List Int) := rowsIn k q (bitsOf (x / 2) (2 * k)) (bitAt x 0)
/-- What is told so far: how far each state is that was reached, the newest first; and what waits. -/
abbrev SeaSt := List (Nat × Int) × List Nat
noncomputable def stepP (x : Nat) (st : SeaSt) (l : List Int) : SeaSt := match lk st.1 (stepC x l) with
  | some _ => st
  | none => ((stepC x l, (lk st.1 x).getD 0 + 1) :: st.1, st.2 ++ [stepC x l])
noncomputable def expJ (x : Nat) (ls : List (List Int)) (st : SeaSt) (j : Nat) : SeaSt := (ls.take j).foldl (stepP x) st
noncomputable def expP (k q x : Nat) (st : SeaSt) : SeaSt := (mvs k q x).foldl (stepP x) st
noncomputable def nextP (k q : Nat) (st : SeaSt) : SeaSt := match st.2 with
  | [] => st
  | x :: _ => ((expP k q x st).1, (expP k q x st).2.tail)
noncomputable def runP (k q src : Nat) : Nat → SeaSt
  | 0 => ([(src, 0)], [src])
  | n + 1 => nextP k q (runP k q src n)
theorem stepP_some {x : Nat} {st : SeaSt} {l : List Int} {v : Int} (h : lk st.1 (stepC x l) = some v) : stepP x st l = st := by simp [stepP, h]
theorem stepP_none {x : Nat} {st : SeaSt} {l : List Int} (h : lk st.1 (stepC x l) = none) : stepP x st l = ((stepC x l, (lk st.1 x).getD 0 + 1) :: st.1, st.2 ++ [stepC x l]) := by simp [stepP, h]
theorem expJ_zero (x : Nat) (ls : List (List Int)) (st : SeaSt) : expJ x ls st 0 = st := rfl
theorem expJ_next {x : Nat} {ls : List (List Int)} {st : SeaSt} {j : Nat} (hj : j < ls.length) : expJ x ls st (j + 1) = stepP x (expJ x ls st j) ls[j] := by
  rw [expJ, List.take_succ_eq_append_getElem hj, List.foldl_append]; rfl
theorem expJ_all (k q x : Nat) (st : SeaSt) : expJ x (mvs k q x) st (mvs k q x).length = expP k q x st := by rw [expJ, List.take_length]; rfl
theorem runP_next (k q src n : Nat) : runP k q src (n + 1) = nextP k q (runP k q src n) := rfl
theorem nextP_at {k q x : Nat} {st : SeaSt} {r : List Nat} (h : st.2 = x :: r) : nextP k q st = ((expP k q x st).1, (expP k q x st).2.tail) := by simp [nextP, h]

theorem nextP_nil {k q : Nat} {st : SeaSt} (h : st.2 = []) : nextP k q st = st := by simp [nextP, h]
theorem run_stay {k q src n : Nat} (h : (runP k q src n).2 = []) : ∀ m, runP k q src (n + m) = runP k q src n
  | 0 => rfl
  | m + 1 => by rw [← Nat.add_assoc, runP_next, run_stay h m, nextP_nil h]

/-- All is within bounds. -/
structure Mild' (k b : Nat) (st : SeaSt) : Prop where
  val : ∀ p ∈ st.1, 0 ≤ p.2 ∧ p.2 ≤ b
  dom : ∀ y ∈ st.2, y ∈ sts k
  len : st.2.length ≤ b
theorem Mild'.mono {k b c : Nat} {st : SeaSt} (h : Mild' k b st) (hb : b ≤ c) : Mild' k c st := ⟨fun p hp => ⟨(h.val p hp).1, by have := (h.val p hp).2; omega⟩, h.dom, by have := h.len; omega⟩
theorem Mild'.at_ {k b : Nat} {st : SeaSt} (h : Mild' k b st) (x : Nat) : 0 ≤ (lk st.1 x).getD 0 ∧ (lk st.1 x).getD 0 ≤ b := by
  cases hx : lk st.1 x with
  | none => simp
  | some v => exact h.val _ (lk_mem hx)
theorem Mild'.step {k b x : Nat} {st : SeaSt} {l : List Int} (h : Mild' k b st) (hy : stepC x l ∈ sts k) : Mild' k (b + 1) (stepP x st l) := by
  cases hq : lk st.1 (stepC x l) with
  | some v => rw [stepP_some hq]; exact h.mono (by omega)
  | none =>
    rw [stepP_none hq]
    have h2 := h.at_ x
    refine ⟨fun p hp => ?_, fun y hm => ?_, ?_⟩
    · rcases List.mem_cons.1 hp with rfl | hp
      · exact ⟨by show 0 ≤ _ + 1; omega, by show _ + 1 ≤ _; omega⟩
      · have := h.val p hp; omega
    · rcases List.mem_append.1 hm with hm | hm
      · exact h.dom y hm
      · obtain rfl : y = stepC x l := by simpa using hm
        exact hy
    · simp; exact h.len
theorem Mild'.exp {k b x : Nat} {st : SeaSt} (h : Mild' k b st) : ∀ (ls : List (List Int)), (∀ l ∈ ls, stepC x l ∈ sts k) → Mild' k (b + ls.length) (ls.foldl (stepP x) st)
  | [], _ => h
  | l :: ls, hl => by
    have h1 := Mild'.exp (h.step (hl l (by simp))) ls (fun m hm => hl m (by simp [hm]))
    rw [List.length_cons, show b + (ls.length + 1) = b + 1 + ls.length by omega]
    exact h1
theorem sts_mem {k x : Nat} : x ∈ sts k ↔ x < 2 * 2 ^ (2 * k) := List.mem_range
theorem code_of_num {k x : Nat} (hx : x ∈ sts k) : codeOf (bitsOf (x / 2) (2 * k)) (bitAt x 0) = x := by
  have hx' := sts_mem.1 hx
  refine nat_bits fun i => ?_
  rw [bit_code, bitsOf_len]
  by_cases h0 : i = 0
  · subst h0; simp
  · rw [if_neg h0]
    obtain ⟨j, rfl⟩ : ∃ j, i = j + 1 := ⟨i - 1, by omega⟩
    rw [Nat.add_sub_cancel, ← bit_half]
    by_cases hj : j < 2 * k
    · simp [bitsOf, hj]
    · have hlt : x / 2 < 2 ^ j := Nat.lt_of_lt_of_le (show x / 2 < 2 ^ (2 * k) by omega) (Nat.pow_le_pow_right (by omega) (by omega))
      have hz : bitAt (x / 2) j = false := by unfold bitAt; exact Nat.testBit_lt_two_pow hlt
      rw [hz]; simp [hj]
/-- The place behind a row. -/
theorem plc_step {k q x : Nat} {l : List Int} (hx : x ∈ sts k) (hl : l ∈ mvs k q x) : placeCells (flipped (bitsOf (x / 2) (2 * k)) l) (!bitAt x 0) = plcC k (stepC x l) ∧ stepC x l ∈ sts k := by
  have hb := bitsOf_len (x / 2) (2 * k)
  have h1 := step_code (t := bitAt x 0) hb (fun y hy => rows_bound hl y hy)
  rw [code_of_num hx] at h1
  have hfl : (flipped (bitsOf (x / 2) (2 * k)) l).length = 2 * k := by rw [flipped_len, hb]
  refine ⟨by rw [show plcC k (stepC x l) = placeCells (bitsOf (stepC x l / 2) (2 * k)) (bitAt (stepC x l) 0) from rfl, h1, bits_back hfl, torch_back], ?_⟩
  rw [sts_mem, h1]
  have h2 := code_lt (flipped (bitsOf (x / 2) (2 * k)) l) (!bitAt x 0)
  rw [hfl] at h2
  omega
theorem mvs_len (k q x : Nat) (hk : k ≤ 4) : (mvs k q x).length ≤ 255 := Nat.le_trans (among_len _ _ _ _) (groups_small hk)
theorem Mild'.run {k q src : Nat} (hk : k ≤ 4) (hs : src ∈ sts k) : ∀ n, Mild' k (256 * n + 1) (runP k q src n)
  | 0 => ⟨fun p hp => by obtain rfl : p = (src, 0) := by simpa [runP] using hp
                         simp, fun y hy => by obtain rfl : y = src := by simpa [runP] using hy
                                              exact hs, by simp [runP]⟩
  | n + 1 => by
    have h := Mild'.run (q := q) hk hs n
    rw [runP_next]
    cases hq : (runP k q src n).2 with
    | nil => rw [show nextP k q (runP k q src n) = runP k q src n by simp [nextP, hq]]; exact h.mono (by omega)
    | cons x r =>
      have hx : x ∈ sts k := h.dom x (by rw [hq]; simp)
      have h2 := h.exp (x := x) (mvs k q x) (fun l hl => (plc_step hx hl).2)
      have h3 := mvs_len k q x hk
      rw [nextP_at hq]
      refine ⟨fun p hp => ?_, fun y hy => h2.dom y (List.mem_of_mem_tail hy), ?_⟩
      · have h4 := h2.val p hp
        exact ⟨h4.1, by have := h4.2; omega⟩
      · have := h2.len
        simp only [List.length_tail, expP]
        omega
/-- What waits begins with what waited. -/
theorem exp_prefix {x : Nat} : ∀ (ls : List (List Int)) (st : SeaSt), ∃ r, (ls.foldl (stepP x) st).2 = st.2 ++ r
  | [], st => ⟨[], by simp⟩
  | l :: ls, st => by
    obtain ⟨r, hr⟩ := exp_prefix ls (stepP x st l)
    cases hq : lk st.1 (stepC x l) with
    | some v => rw [stepP_some hq] at hr; exact ⟨r, by rw [List.foldl_cons, stepP_some hq, hr]⟩
    | none => rw [stepP_none hq] at hr; exact ⟨stepC x l :: r, by rw [List.foldl_cons, stepP_none hq, hr]; simp⟩
/-- The cells of what waits. -/
def edgeC (k : Nat) (ys : List Nat) : List Value := ys.flatMap fun y => (plcC k y).toList
theorem edgeC_snoc (k : Nat) (ys : List Nat) (y : Nat) : edgeC k (ys ++ [y]) = edgeC k ys ++ (plcC k y).toList := by simp [edgeC]
theorem edgeC_cons (k y : Nat) (ys : List Nat) : edgeC k (y :: ys) = (plcC k y).toList ++ edgeC k ys := by simp [edgeC]
theorem plcC_size (k x : Nat) : (plcC k x).size = 9 := rfl
/-- How often the loop goes round at most. -/
def turns (k : Nat) : Nat := 2 * 2 ^ (2 * k)
/-- What the search comes to. -/
noncomputable def finP (k q src : Nat) : SeaSt := runP k q src (turns k)
end Go.Proofs.Ytjadoehdhbilcaa

namespace Go.Proofs.Ytjadoehdhbilcaa
open Go.RowKit

theorem runs_out : ((List.range 4).all fun k => (List.range 4).all fun q => (finP (k + 1) (q + 1) 0).2.isEmpty && (finP (k + 1) (q + 1) (2 * 2 ^ (2 * (k + 1)) - 1)).2.isEmpty) = true := by decide +kernel
theorem runs_end {k q src : Nat} (h1 : 1 ≤ k) (h4 : k ≤ 4) (q1 : 1 ≤ q) (q4 : q ≤ 4) (hs : src = 0 ∨ src = 2 * 2 ^ (2 * k) - 1) : (finP k q src).2 = [] := by
  have h := List.all_eq_true.1 (List.all_eq_true.1 runs_out (k - 1) (List.mem_range.2 (by omega))) (q - 1) (List.mem_range.2 (by omega))
  rw [show k - 1 + 1 = k by omega, show q - 1 + 1 = q by omega, Bool.and_eq_true] at h
  rcases hs with rfl | rfl
  · exact List.isEmpty_iff.1 h.1
  · exact List.isEmpty_iff.1 h.2
end Go.Proofs.Ytjadoehdhbilcaa

namespace Go.Proofs.Ytjadoehdhbilcaa
open Go.RowKit Go.Maps Go.WideShapes

theorem info_place : (Try.prog.info? 68).map (fun i => (i.zero, i.size, i.bytes)) = some (some (.agg #[.bool false, .bool false, .bool false, .bool false, .bool false, .bool false, .bool false, .bool false, .bool false]), 9, 9) := by kernel_rfl
theorem hzero (w : World) : (zeroValue 3).run Try.prog w = .ok (.int .i64 0) w := by kernel_rfl
theorem elem_places : Try.prog.elem 117 = 68 := by kernel_rfl
abbrev SeaMap (k : Nat) (w : World) (b : Nat) (m : List (Nat × Int)) : Prop := MapIs Try.prog 68 3 (plcL k) (sts k) w b (lk m)
theorem map_drew {k b : Nat} {w : World} {m : List (Nat × Int)} (h : SeaMap k w b m) : SeaMap k w.drew b m := by
  obtain ⟨D, ho, hr⟩ := h; exact ⟨D, ho.drew, hr⟩
/-- What stands between two rounds of the outer loop. -/
structure SeaO (w wr : World) (k gG gC gM B3 : Nat) (m : List (Nat × Int)) (ys : List Nat) (v : Value) : Prop where
  map : SeaMap k wr gM m
  riv : Whole wr w.heap.size 74 (riverCells k gG gC)
  win : Win wr B3 68 9 v ys.length (edgeC k ys)
  bel : Below w.heap.size w wr
  siz : B3 ≤ wr.heap.size
/-- What stands between two rounds of the inner loop. -/
structure Sea (w wz : World) (k gG gC gM B3 gA B2 x : Nat) (rowv : Value) (nr : Nat) (rc : List Value) (m : List (Nat × Int)) (ys : List Nat) (v : Value) : Prop where
  map : SeaMap k wz gM m
  riv : Whole wz w.heap.size 74 (riverCells k gG gC)
  at_ : Whole wz gA 68 (plcC k x)
  row : wz.ownsRow (gA + 1) 77 10 rowv nr rc
  win : Win wz B3 68 9 v ys.length (edgeC k ys)
  far : ∀ kk, v.ownBlock = some kk → kk < gA ∨ B2 ≤ kk
  bel : Below w.heap.size w wz
  siz : B2 ≤ wz.heap.size
/-- How the blocks lie. -/
structure SeaC (w : World) (gM B3 gA B2 : Nat) (rowv : Value) : Prop where
  c1 : w.heap.size < gM
  c2 : gM < B3
  c3 : B3 ≤ gA
  c4 : gA < B2
  rob : ∀ kk, rowv.ownBlock = some kk → gA + 1 ≤ kk ∧ kk < B2
section
variable {w wz wz' : World} {k gG gC gM B3 gA B2 x nr : Nat} {rowv v v' : Value} {rc : List Value} {m m' : List (Nat × Int)} {ys ys' : List Nat}
theorem SeaO.below (h : SeaO w wz k gG gC gM B3 m ys v) (hb : Below wz.heap.size wz wz') : SeaO w wz' k gG gC gM B3 m ys v :=
  ⟨h.map.below hb, h.riv.below hb, h.win.below hb, below_then h.bel hb h.bel.size, Nat.le_trans h.siz hb.size⟩
theorem SeaO.alloc (h : SeaO w wz k gG gC gM B3 m ys v) (o : Obj) : SeaO w (wz.alloc o) k gG gC gM B3 m ys v := h.below (below1 wz o)
theorem Sea.below (h : Sea w wz k gG gC gM B3 gA B2 x rowv nr rc m ys v) (hb : Below wz.heap.size wz wz') : Sea w wz' k gG gC gM B3 gA B2 x rowv nr rc m ys v :=
  ⟨h.map.below hb, h.riv.below hb, h.at_.below hb, ownsRow_below h.row hb, h.win.below hb, h.far, below_then h.bel hb h.bel.size, Nat.le_trans h.siz hb.size⟩
theorem Sea.alloc (h : Sea w wz k gG gC gM B3 gA B2 x rowv nr rc m ys v) (o : Obj) : Sea w (wz.alloc o) k gG gC gM B3 gA B2 x rowv nr rc m ys v := h.below (below1 wz o)
theorem Sea.drew (h : Sea w wz k gG gC gM B3 gA B2 x rowv nr rc m ys v) : Sea w wz.drew k gG gC gM B3 gA B2 x rowv nr rc m ys v := h.below (Below.refl _ _).drew
theorem Sea.put (h : Sea w wz k gG gC gM B3 gA B2 x rowv nr rc m ys v) (c : SeaC w gM B3 gA B2 rowv) (hg : wz.grownBy wz' (some gM)) (hM : SeaMap k wz' gM m') : Sea w wz' k gG gC gM B3 gA B2 x rowv nr rc m' ys v := by
  have c1 := c.c1
  have c2 := c.c2
  have c3 := c.c3
  have c4 := c.c4
  refine ⟨hM, whole_apart h.riv hg (fun e => by have := Option.some.inj e; omega), whole_apart h.at_ hg (fun e => by have := Option.some.inj e; omega), h.row.kept hg (.inr fun e => by have := (c.rob _ e).1; omega), h.win.kept hg (fun e => by have := (h.win.lt _ e).1; omega), h.far, h.bel.grown hg h.bel.size (fun kk e => by have := Option.some.inj e; omega), Nat.le_trans h.siz hg.size⟩
theorem Sea.app (h : Sea w wz k gG gC gM B3 gA B2 x rowv nr rc m ys v) (c : SeaC w gM B3 gA B2 rowv) (hg : wz.grownBy wz' v.ownBlock) (hW : Win wz' B3 68 9 v' ys'.length (edgeC k ys')) (hv : v'.ownBlock = v.ownBlock ∨ v'.ownBlock = some wz.heap.size) : Sea w wz' k gG gC gM B3 gA B2 x rowv nr rc m ys' v' := by
  have c1 := c.c1
  have c2 := c.c2
  have c3 := c.c3
  have c4 := c.c4
  refine ⟨h.map.kept hg (fun e => by have := (h.win.lt _ e.symm).1; omega), whole_apart h.riv hg (fun e => by have := (h.win.lt _ e.symm).1; omega), whole_apart h.at_ hg (fun e => by have := h.far _ e.symm; omega), h.row.kept hg ?_, hW, fun kk e => ?_, h.bel.grown hg h.bel.size (fun kk e => by have := (h.win.lt _ e).1; omega), Nat.le_trans h.siz hg.size⟩
  · cases hr : rowv.ownBlock with
    | none => exact .inl rfl
    | some kk => exact .inr fun e => by have h1 := c.rob _ hr; have h2 := h.far _ e.symm; omega
  · rcases hv with hv | hv
    · exact h.far kk (by rw [← hv]; exact e)
    · rw [hv] at e
      have := Option.some.inj e
      have := h.siz
      omega
theorem Sea.out (h : Sea w wz k gG gC gM B3 gA B2 x rowv nr rc m ys v) (c : SeaC w gM B3 gA B2 rowv) : SeaO w wz k gG gC gM B3 m ys v :=
  ⟨h.map, h.riv, h.win, h.bel, by have := c.c3; have := c.c4; have := h.siz; omega⟩
end
def Nine0 (g k x : Nat) (w : World) : Prop := w.cell? ⟨g, 0, none⟩ = some (.bool (pf k x 0)) ∧ w.cell? ⟨g, 1, none⟩ = some (.bool (pf k x 1)) ∧ w.cell? ⟨g, 2, none⟩ = some (.bool (pf k x 2)) ∧ w.cell? ⟨g, 3, none⟩ = some (.bool (pf k x 3)) ∧ w.cell? ⟨g, 4, none⟩ = some (.bool (pf k x 4)) ∧ w.cell? ⟨g, 5, none⟩ = some (.bool (pf k x 5)) ∧ w.cell? ⟨g, 6, none⟩ = some (.bool (pf k x 6)) ∧ w.cell? ⟨g, 7, none⟩ = some (.bool (pf k x 7)) ∧ w.cell? ⟨g, 8, none⟩ = some (.bool (pt x))
def Nine1 (g k y : Nat) (w : World) : Prop := w.cell? ⟨g, 1, none⟩ = some (.bool (pf k y 0)) ∧ w.cell? ⟨g, 2, none⟩ = some (.bool (pf k y 1)) ∧ w.cell? ⟨g, 3, none⟩ = some (.bool (pf k y 2)) ∧ w.cell? ⟨g, 4, none⟩ = some (.bool (pf k y 3)) ∧ w.cell? ⟨g, 5, none⟩ = some (.bool (pf k y 4)) ∧ w.cell? ⟨g, 6, none⟩ = some (.bool (pf k y 5)) ∧ w.cell? ⟨g, 7, none⟩ = some (.bool (pf k y 6)) ∧ w.cell? ⟨g, 8, none⟩ = some (.bool (pf k y 7)) ∧ w.cell? ⟨g, 9, none⟩ = some (.bool (pt y))
theorem nine0_of {w : World} {g k x : Nat} {t : TypeId} (h : Whole w g t (plcC k x)) : Nine0 g k x w := ⟨h.cell 0, h.cell 1, h.cell 2, h.cell 3, h.cell 4, h.cell 5, h.cell 6, h.cell 7, h.cell 8⟩
theorem nine1_of {w : World} {g k y : Nat} {t : TypeId} {rv : Value} (h : Whole w g t #[rv, .bool (pf k y 0), .bool (pf k y 1), .bool (pf k y 2), .bool (pf k y 3), .bool (pf k y 4), .bool (pf k y 5), .bool (pf k y 6), .bool (pf k y 7), .bool (pt y)]) : Nine1 g k y w := ⟨h.cell 1, h.cell 2, h.cell 3, h.cell 4, h.cell 5, h.cell 6, h.cell 7, h.cell 8, h.cell 9⟩
def Sea2 (g gA k y x : Nat) (w : World) : Prop := Nine1 g k y w ∧ Nine0 gA k x w
/-- The first place that waits. -/
theorem win_head {w : World} {B n k x : Nat} {v : Value} {r : List Nat} (h : Win w B 68 9 v n (edgeC k (x :: r))) : ∃ g o cap, v = .slice (some ⟨g, o, none⟩) n cap ∧ B ≤ g ∧ g < w.heap.size ∧ n ≤ cap ∧ cap ≤ maxLen ∧ w.cell? ⟨g, o, none⟩ = some (.bool (pf k x 0)) ∧ w.cell? ⟨g, o + 1, none⟩ = some (.bool (pf k x 1)) ∧ w.cell? ⟨g, o + 2, none⟩ = some (.bool (pf k x 2)) ∧ w.cell? ⟨g, o + 3, none⟩ = some (.bool (pf k x 3)) ∧ w.cell? ⟨g, o + 4, none⟩ = some (.bool (pf k x 4)) ∧ w.cell? ⟨g, o + 5, none⟩ = some (.bool (pf k x 5)) ∧ w.cell? ⟨g, o + 6, none⟩ = some (.bool (pf k x 6)) ∧ w.cell? ⟨g, o + 7, none⟩ = some (.bool (pf k x 7)) ∧ w.cell? ⟨g, o + 8, none⟩ = some (.bool (pt x)) := by
  obtain ⟨g, o, cap, hv, h1, h2, h3, h4, h5⟩ := h.cellAt
  rw [edgeC_cons] at h5
  exact ⟨g, o, cap, hv, h1, h2, h3, h4, h5 0 _ rfl, h5 1 _ rfl, h5 2 _ rfl, h5 3 _ rfl, h5 4 _ rfl, h5 5 _ rfl, h5 6 _ rfl, h5 7 _ rfl, h5 8 _ rfl⟩
/-- The cells of a move in a list of them. -/
theorem own_moves_row {w : World} {lo c k x : Nat} {A : Option Addr} {bs : List Bool} {t : Bool} {rs : List RowV} (h : w.ownsRow lo 77 10 (.slice A rs.length c) rs.length (movesCells bs t rs)) {i : Nat} (hi : i < rs.length) (hp : placeCells (flipped bs rs[i].xs) (!t) = plcC k x) :
    ∃ g, A = some ⟨g, 0, none⟩ ∧ g < w.heap.size ∧ w.cell? ⟨g, i * 10, none⟩ = some rs[i].val ∧ w.cell? ⟨g, i * 10 + 1, none⟩ = some (.bool (pf k x 0)) ∧ w.cell? ⟨g, i * 10 + 2, none⟩ = some (.bool (pf k x 1)) ∧ w.cell? ⟨g, i * 10 + 3, none⟩ = some (.bool (pf k x 2)) ∧ w.cell? ⟨g, i * 10 + 4, none⟩ = some (.bool (pf k x 3)) ∧ w.cell? ⟨g, i * 10 + 5, none⟩ = some (.bool (pf k x 4)) ∧ w.cell? ⟨g, i * 10 + 6, none⟩ = some (.bool (pf k x 5)) ∧ w.cell? ⟨g, i * 10 + 7, none⟩ = some (.bool (pf k x 6)) ∧ w.cell? ⟨g, i * 10 + 8, none⟩ = some (.bool (pf k x 7)) ∧ w.cell? ⟨g, i * 10 + 9, none⟩ = some (.bool (pt x)) := by
  have hx := h
  obtain ⟨-, ⟨-, h0⟩ | ⟨g, cap, cur, hv, -, hh, -⟩⟩ := hx
  · omega
  · obtain ⟨rfl, rfl⟩ : A = some ⟨g, 0, none⟩ ∧ c = cap := by simpa using hv
    have hg : g < w.heap.size := (Array.getElem?_eq_some_iff.1 hh).1
    have hc : ∀ j, j < 10 → w.cell? ⟨g, i * 10 + j, none⟩ = (rs[i].val :: (plcC k x).toList)[j]? := fun j hj => by
      have h1 := (h.cellAt (i * 10 + j) (by omega)).trans (movesCells_get bs t rs i j hi hj)
      rw [h1, moveCells, hp]
    exact ⟨g, rfl, hg, hc 0 (by omega), hc 1 (by omega), hc 2 (by omega), hc 3 (by omega), hc 4 (by omega), hc 5 (by omega), hc 6 (by omega), hc 7 (by omega), hc 8 (by omega), hc 9 (by omega)⟩
/-- What the search hands back. -/
def ApartPost (k q src : Nat) (w : World) (e : Ending) (w' : World) : Prop :=
  ∃ b : Nat, e = .returned (.map (some b)) ∧ SeaMap k w' b (finP k q src).1 ∧ Below w.heap.size w w'
end Go.Proofs.Ytjadoehdhbilcaa

namespace Go.Proofs.Ytjadoehdhbilcaa
open Go.RowKit Go.Maps Go.WideShapes

set_option maxHeartbeats 12800000 in
set_option maxRecDepth 100000 in
set_option linter.unusedSimpArgs false in
theorem movesApart_any (k q gG gC g1 g3 g4 g : Nat) (A : Option Addr) (c src : Nat) (w : World) (hk1 : 1 ≤ k) (hk : k ≤ 4) (hq1 : 1 ≤ q) (hq4 : q ≤ 4) (hs : src = 0 ∨ src = 2 * 2 ^ (2 * k) - 1) (hF : RowsFn w k gG gC g1 g3 g4 g A c (groupsOf k q)) :
    Calls Try.prog 71 #[.agg (riverCells k gG gC), .agg (plcC k src)] w (ApartPost k q src w) := by
  obtain ⟨i0, hi, hz0, hz1, hz2⟩ := info_parts info_place
  have HI := Lib.hid hi
  have HZ0 := Lib.hid hz0
  have HZ1 := Lib.hid hz1
  have HZ2 := Lib.hid hz2
  have HEND := Lib.hid (runs_end hk1 hk hq1 hq4 hs)
  have hp2 : 0 < 2 ^ (2 * k) := Nat.two_pow_pos _
  have hsd : src ∈ sts k := sts_mem.2 (by rcases hs with rfl | rfl <;> omega)
  have HRUN : Hid (∀ n, Mild' k (256 * n + 1) (runP k q src n)) := fun n => Mild'.run hk hsd n
  have HFN := Lib.hid hF
  have HTU : Hid (turns k ≤ 512) := by
    have h : 2 ^ (2 * k) ≤ 2 ^ 8 := Nat.pow_le_pow_right (by omega) (by omega)
    show turns k ≤ 512
    unfold turns
    omega
  clear hi hz0 hz1 hz2 hs hF hp2
  have hmm := @run_makeMap Try.prog
  have h2 := ((Whole.fresh w 74 (riverCells k gG gC)).alloc (.cells (plcC k src) 68)).alloc (.map #[] 0)
  have h3 := (Whole.fresh (w.alloc (.cells (riverCells k gG gC) 74)) 68 (plcC k src)).alloc (.map #[] 0)
  have hM := MapIs.made ((w.alloc (.cells (riverCells k gG gC) 74)).alloc (.cells (plcC k src) 68)) Try.prog 68 3 (plcL k) (sts k)
  have ht := below3 w (.cells (riverCells k gG gC) 74) (.cells (plcC k src) 68) (.map #[] 0)
  simp only [World.size_alloc] at h2 h3 hM
  have H2 := Lib.hid h2
  have H3 := Lib.hid h3
  have HM := Lib.hid hM
  have HT := Lib.hid ht
  clear h2 h3 hM ht
  unfold plcC place9 riverCells rowsFnV at H2 H3 HM HT
  unfold plcC place9 riverCells rowsFnV
  go_enter Try.func71, Try.ntmps71
  go_wp2_with (refine wpList_map_entry _ rfl _ _ _ rfl (place_keys hk) Try.underlying98 Try.underlying3 (sts_len hk) rfl HM.out src hsd rfl 0 (by decide) rfl ?_; intro w3 hM3 hg3; have n3 := nine0_of (k := k) (x := src) (whole_apart H3.out hg3 (fun e => by have := Option.some.inj e; omega)); obtain ⟨n0, n1, n2, n3, n4, n5, n6, n7, n8⟩ := n3; have hl3 := (whole_apart H3.out hg3 (fun e => by have := Option.some.inj e; omega)).lt)
  have hM3' : SeaMap k w3 (w.heap.size + 1 + 1) [(src, 0)] := by have h := hM3; rw [show (fun _ : Nat => (none : Option Int)) = lk [] from rfl, lk_put] at h; exact h
  have hgl := hM3.lt
  have HGL := Lib.hid hgl
  have HS0 : Hid (SeaO w (w3.alloc (.cells #[.bool (pf k src 0), .bool (pf k src 1), .bool (pf k src 2), .bool (pf k src 3), .bool (pf k src 4), .bool (pf k src 5), .bool (pf k src 6), .bool (pf k src 7), .bool (pt src)] 68)) k gG gC (w.heap.size + 1 + 1) w3.heap.size [(src, 0)] [src] (.slice (some ⟨w3.heap.size, 0, none⟩) 1 1)) := by
    refine ⟨hM3'.alloc _, (whole_apart H2.out hg3 (fun e => by have := Option.some.inj e; omega)).alloc _, ?_, (HT.out.grown hg3 (by have := HT.out.size; exact this) (fun kk e => by have := Option.some.inj e; omega)).alloc (by have := (HT.out.grown hg3 (by have := HT.out.size; exact this) (fun kk e => by have := Option.some.inj e; omega)).size; exact this) _, by simp⟩
    have h := Win.made w3 w3.heap.size 68 (plcC k src) (Nat.le_refl _)
    rw [show edgeC k [src] = (plcC k src).toList by simp [edgeC]]
    exact h
  clear hM3 hM3' hg3 n0 n1 n2 n3 n4 n5 n6 n7 n8 hl3 hgl H2 H3 HM HT hsd
  go_loopg [6] (turns k) (fun gh v wr => ∃ n, n + gh = turns k ∧ SeaO w wr k gG gC (w.heap.size + 1 + 1) w3.heap.size (runP k q src n).1 (runP k q src n).2 v)
  case atStart => exact ⟨0, by omega, HS0.out⟩
  case round =>
    clear HS0
    obtain ⟨n, hn, hS⟩ := hrel
    obtain ⟨wo, rfl⟩ : ∃ W : World, W = wr := ⟨_, rfl⟩
    cases hq : (runP k q src n).2 with
    | nil =>
      have hst := run_stay hq (turns k - n)
      rw [show n + (turns k - n) = turns k by omega] at hst
      have hwin := hS.win
      rw [hq] at hwin
      obtain ⟨ge, oe, cap, hv, -, -, -, -, -⟩ := hwin.cellAt
      simp only [List.length_nil] at hv
      subst hv
      have HM1 : Hid (SeaMap k wo (w.heap.size + 1 + 1) (finP k q src).1) := by show SeaMap _ _ _ _; rw [finP, hst]; exact hS.map
      have HB1 := Lib.hid hS.bel
      clear hS hwin hst hq hn
      go_wp2
      go_ret
      exact ⟨_, rfl, HM1.out, HB1.out⟩
    | cons x r =>
      have hm := HRUN.out n
      have HNT : Hid (n ≤ 512) := by have := HTU.out; show n ≤ 512; omega
      have hxd : x ∈ sts k := hm.dom x (by rw [hq]; simp)
      have hgk : 0 < gk := by
        rcases Nat.eq_zero_or_pos gk with h | h
        · exfalso
          have hnt : n = turns k := by omega
          rw [hnt] at hq
          have he := HEND.out
          rw [finP, hq] at he
          cases he
        · exact h
      have hwin := hS.win
      rw [hq] at hwin
      obtain ⟨ge, oe, cap, hv, hgB, hgl, hnc, hcm, e0, e1, e2, e3, e4, e5, e6, e7, e8⟩ := win_head hwin
      rw [List.length_cons] at hv
      subst hv
      have hst0 := hS.siz
      have HSO := Lib.hid (hS.alloc (.cells #[.bool (pf k x 0), .bool (pf k x 1), .bool (pf k x 2), .bool (pf k x 3), .bool (pf k x 4), .bool (pf k x 5), .bool (pf k x 6), .bool (pf k x 7), .bool (pt x)] 68))
      have HAT := Lib.hid (Whole.fresh wo 68 (plcC k x))
      have HFR := Lib.hid (HFN.out.below (hS.bel.alloc hS.bel.size (.cells #[.bool (pf k x 0), .bool (pf k x 1), .bool (pf k x 2), .bool (pf k x 3), .bool (pf k x 4), .bool (pf k x 5), .bool (pf k x 6), .bool (pf k x 7), .bool (pt x)] 68)))
      have e18 := river_cell hS.riv
      have hrl0 := hS.riv.lt
      have HQ := Lib.hid hq
      have HN := Lib.hid hn
      have HMI := Lib.hid hm
      clear hS hwin hq hn hm
      go_wp2_with fail
      have hrf := rowsFn_any k q gG gC g1 g3 g4 g A c (bitsOf (x / 2) (2 * k)) (bitAt x 0) _ hk (bitsOf_len _ _) HFR.out
      rw [show placeCells (bitsOf (x / 2) (2 * k)) (bitAt x 0) = plcC k x from rfl] at hrf
      unfold plcC place9 at hrf
      refine hrf.mono ?_
      clear hrf
      rintro e w2 ⟨A1, c1, rs, rfl, hrn, hM, hb⟩
      have HRN : Hid (rowNums rs = mvs k q x) := hrn
      have hrl : rs.length ≤ 255 := by have h1 := congrArg List.length hrn; have h2 := mvs_len k q x hk; rw [rowNums_len] at h1; rw [h1]; exact h2
      have hsz := hb.size
      rw [World.size_alloc] at hsz
      have hown := hM.1
      rw [World.size_alloc] at hown
      have HC : Hid (SeaC w (w.heap.size + 1 + 1) w3.heap.size wo.heap.size w2.heap.size (.slice A1 rs.length c1)) := ⟨by omega, HGL.out, hst0, by omega, fun kk e => by have := hown.lt kk e; omega⟩
      have HS2 : Hid (Sea w w2 k gG gC (w.heap.size + 1 + 1) w3.heap.size wo.heap.size w2.heap.size x (.slice A1 rs.length c1) rs.length (movesCells (bitsOf (x / 2) (2 * k)) (bitAt x 0) rs) (runP k q src n).1 (runP k q src n).2 (.slice (some ⟨ge, oe, none⟩) (r.length + 1) cap)) := by
        have h := HSO.out.below hb
        exact ⟨h.map, h.riv, HAT.out.below hb, hown, h.win, fun kk e => by have : ge = kk := Option.some.inj e; omega, h.bel, Nat.le_refl _⟩
      clear hb hM hown hsz hrn HSO HAT HFR e0 e1 e2 e3 e4 e5 e6 e7 e8 e18 hrl0
      go_wp2
      go_loopw [6, 30] (fun v i wz => ∃ j : Nat, j ≤ rs.length ∧ i = .int .i64 j ∧ Sea w wz k gG gC (w.heap.size + 1 + 1) w3.heap.size wo.heap.size w2.heap.size x (.slice A1 rs.length c1) rs.length (movesCells (bitsOf (x / 2) (2 * k)) (bitAt x 0) rs) (expJ x (mvs k q x) (runP k q src n) j).1 (expJ x (mvs k q x) (runP k q src n) j).2 v) (fun _ i _ => rs.length - (intOf i).toNat)
      case atStart => exact ⟨0, Nat.zero_le _, rfl, HS2.out⟩
      case round =>
        clear HS2
        obtain ⟨j, hj, rfl, hS⟩ := hrel
        obtain ⟨wz, rfl⟩ : ∃ W : World, W = wr := ⟨_, rfl⟩
        by_cases hlt : j < rs.length
        · have hd1 : decide ((j : Int) < (rs.length : Int)) = true := by simp; omega
          have hjm : j < (mvs k q x).length := by have h := congrArg List.length HRN.out; rw [rowNums_len] at h; omega
          have hlj : (mvs k q x)[j] = rs[j].xs := by have h := rowNums_get hlt; simp only [HRN.out] at h; exact h
          have hmem : rs[j].xs ∈ mvs k q x := by rw [← hlj]; exact List.getElem_mem hjm
          obtain ⟨hpc, hyd⟩ := plc_step hxd hmem
          obtain ⟨gr, hA1, hgrl, a0, a1, a2, a3, a4, a5, a6, a7, a8, a9⟩ := own_moves_row hS.row hlt hpc
          subst hA1
          have hnx := expJ_next (x := x) (st := runP k q src n) hjm
          rw [hlj] at hnx
          have hmj := HMI.out.exp (x := x) ((mvs k q x).take j) (fun l hl => (plc_step hxd (List.mem_of_mem_take hl)).2)
          rw [List.length_take, Nat.min_eq_left (by omega)] at hmj
          have hmj' : Mild' k (256 * n + 1 + j) (expJ x (mvs k q x) (runP k q src n) j) := hmj
          have HNX := Lib.hid hnx
          obtain ⟨y, hy⟩ : ∃ y, stepC x rs[j].xs = y := ⟨_, rfl⟩
          have HY := Lib.hid hy
          rw [hy] at hyd a1 a2 a3 a4 a5 a6 a7 a8 a9
          obtain ⟨rA, rn, rc, hrv⟩ : ∃ (rA : Option Addr) (rn rc : Nat), rs[j].val = .slice rA rn rc := ⟨_, _, _, rfl⟩
          rw [hrv] at a0
          obtain ⟨l, hle⟩ : ∃ l, rs[j].xs = l := ⟨_, rfl⟩
          rw [hle] at HNX HY
          clear hpc hmem hlj hnx hmj hy hrv hle
          generalize expJ x (mvs k q x) (runP k q src n) j = ej at hS HNX hmj'
          obtain ⟨m, ys⟩ := ej
          have hdx := hmj'.at_ x
          obtain ⟨d, hd⟩ : ∃ d, (lk m x).getD 0 = d := ⟨_, rfl⟩
          simp only at hdx
          rw [hd] at hdx
          have HD := Lib.hid hd
          have hnb := HNT.out
          have HWF : Hid ((Lit.int .i64 (d + 1)).wf = true) := WalkArith.wf_i64 (by omega)
          have hwr : IntKind.i64.wrap (d + 1) = d + 1 := IntWalk.i64_in _ (by omega)
          have HLE : Hid (ys.length ≤ 200000) := by have := hmj'.len; show ys.length ≤ 200000; simp only at this; omega
          have HS1 := Lib.hid (hS.alloc (.cells #[.slice rA rn rc, .bool (pf k y 0), .bool (pf k y 1), .bool (pf k y 2), .bool (pf k y 3), .bool (pf k y 4), .bool (pf k y 5), .bool (pf k y 6), .bool (pf k y 7), .bool (pt y)] 77))
          have HX := Lib.hid (Whole.fresh wz 77 #[.slice rA rn rc, .bool (pf k y 0), .bool (pf k y 1), .bool (pf k y 2), .bool (pf k y 3), .bool (pf k y 4), .bool (pf k y 5), .bool (pf k y 6), .bool (pf k y 7), .bool (pt y)])
          have hc1 := HC.out.c1
          have hc2 := HC.out.c2
          have hc3 := HC.out.c3
          have hc4 := HC.out.c4
          have hsz := hS.siz
          clear hS hd hmj' hdx
          cases hq2 : lk m y with
          | some vv =>
            have HQ2 := Lib.hid hq2
            have HNN : Hid (stepP x (m, ys) l = (m, ys)) := stepP_some (by rw [HY.out]; exact hq2)
            clear hq2
            go_wp2_with (refine wpList_map_some _ rfl _ _ rfl (place_keys hk) Try.underlying98 Try.underlying3 (hzero _) rfl HS1.out.map y hyd rfl HQ2.out ?_)
            go_roundw
            case rel => exact ⟨j + 1, by omega, by go_num, by rw [HNX.out, HNN.out]; exact HS1.out⟩
            case measure => simp [intOf]; omega
          | none =>
            have HQ2 := Lib.hid hq2
            have HNN : Hid (stepP x (m, ys) l = ((y, d + 1) :: m, ys ++ [y])) := by show _ = _; rw [stepP_none (by rw [HY.out]; exact hq2), HY.out, HD.out]
            clear hq2
            go_wp2_with (refine wpList_map_none _ rfl _ _ rfl (place_keys hk) Try.underlying98 Try.underlying3 (hzero _) rfl HS1.out.map y hyd rfl HQ2.out ?_)
            refine wp_region_held_drew (S := (Sea2 wz.heap.size wo.heap.size k y x)) (by kernel_rfl) ⟨nine1_of HX.out.drew, nine0_of HS1.out.drew.at_⟩ (fun hHeld => ?_)
            refine wpAnyH_take (i := 0) (v := ?_) rfl (by kernel_rfl) (by kernel_rfl) (by kernel_rfl) (fun _ _ _ h => h) (Or.inl ⟨rfl, ?_⟩) hHeld ?_
            rotate_left
            · intro w' hS; obtain ⟨⟨s0, s1, s2, s3, s4, s5, s6, s7, s8⟩, ⟨t0, t1, t2, t3, t4, t5, t6, t7, t8⟩⟩ := hS; go_simp <;> with_reducible rfl
            simp only [Act.put, List.getElem_toArray, List.getElem_cons_succ, List.getElem_cons_zero, List.setIfInBounds_toArray, List.set_cons_succ, List.set_cons_zero]
            refine wpAnyH_take (i := 1) (v := ?_) rfl (by kernel_rfl) (by kernel_rfl) (by kernel_rfl) (fun _ _ _ h => h) (Or.inl ⟨rfl, ?_⟩) hHeld ?_
            rotate_left
            · intro w' hS; obtain ⟨⟨s0, s1, s2, s3, s4, s5, s6, s7, s8⟩, ⟨t0, t1, t2, t3, t4, t5, t6, t7, t8⟩⟩ := hS; go_simp <;> with_reducible rfl
            simp only [Act.put, List.getElem_toArray, List.getElem_cons_succ, List.getElem_cons_zero, List.setIfInBounds_toArray, List.set_cons_succ, List.set_cons_zero]
            refine wpAnyH_take (i := 2) (v := ?_) rfl (by kernel_rfl) (by kernel_rfl) (by kernel_rfl) (fun _ _ _ h => h) (Or.inl ⟨rfl, ?_⟩) hHeld ?_
            rotate_left
            · intro w' hS; obtain ⟨⟨s0, s1, s2, s3, s4, s5, s6, s7, s8⟩, ⟨t0, t1, t2, t3, t4, t5, t6, t7, t8⟩⟩ := hS; go_simp <;> with_reducible rfl
            simp only [Act.put, List.getElem_toArray, List.getElem_cons_succ, List.getElem_cons_zero, List.setIfInBounds_toArray, List.set_cons_succ, List.set_cons_zero]
            refine wpAnyH_take (i := 3) (v := ?_) rfl (by kernel_rfl) (by kernel_rfl) (by kernel_rfl) (fun _ _ _ h => h) (Or.inl ⟨rfl, ?_⟩) hHeld ?_
            rotate_left
            · intro w' hS; obtain ⟨⟨s0, s1, s2, s3, s4, s5, s6, s7, s8⟩, ⟨t0, t1, t2, t3, t4, t5, t6, t7, t8⟩⟩ := hS; go_simp <;> with_reducible rfl
            simp only [Act.put, List.getElem_toArray, List.getElem_cons_succ, List.getElem_cons_zero, List.setIfInBounds_toArray, List.set_cons_succ, List.set_cons_zero]
            refine wpAnyH_take (i := 4) (v := ?_) rfl (by kernel_rfl) (by kernel_rfl) (by kernel_rfl) (fun _ _ _ h => h) (Or.inl ⟨rfl, ?_⟩) hHeld ?_
            rotate_left
            · intro w' hS; obtain ⟨⟨s0, s1, s2, s3, s4, s5, s6, s7, s8⟩, ⟨t0, t1, t2, t3, t4, t5, t6, t7, t8⟩⟩ := hS; go_simp <;> with_reducible rfl
            simp only [Act.put, List.getElem_toArray, List.getElem_cons_succ, List.getElem_cons_zero, List.setIfInBounds_toArray, List.set_cons_succ, List.set_cons_zero]
            refine wpAnyH_ready (rs := [5]) (by kernel_rfl) (by simp) (AllReadyH.cons rfl (fun K hK => ?_) AllReadyH.nil)
            have hlk : (Instr.lookup 98 (.map (some (w.heap.size + 1 + 1))) (.agg #[.bool (pf k x 0), .bool (pf k x 1), .bool (pf k x 2), .bool (pf k x 3), .bool (pf k x 4), .bool (pf k x 5), .bool (pf k x 6), .bool (pf k x 7), .bool (pt x)]) false).run Try.prog (World.drew (wz.alloc (.cells #[.slice rA rn rc, .bool (pf k y 0), .bool (pf k y 1), .bool (pf k y 2), .bool (pf k y 3), .bool (pf k y 4), .bool (pf k y 5), .bool (pf k y 6), .bool (pf k y 7), .bool (pt y)] 77))) = .ok (.int .i64 d) (World.drew (wz.alloc (.cells #[.slice rA rn rc, .bool (pf k y 0), .bool (pf k y 1), .bool (pf k y 2), .bool (pf k y 3), .bool (pf k y 4), .bool (pf k y 5), .bool (pf k y 6), .bool (pf k y 7), .bool (pt y)] 77))) := by have h := MapIs.look HS1.out.drew.map (place_keys hk) Try.underlying98 Try.underlying3 (hzero _) x hxd; rw [HD.out] at h; exact h
            go_simp
            clear hlk
            refine hK.out _ _ ⟨nine1_of HX.out.drew, nine0_of HS1.out.drew.at_⟩ (fun hHeld => ?_)
            clear hK K
            try simp only [Act.put, List.getElem_toArray, List.getElem_cons_succ, List.getElem_cons_zero, List.setIfInBounds_toArray, List.set_cons_succ, List.set_cons_zero]
            refine wpAnyH_take (i := 6) (v := ?_) rfl (by kernel_rfl) (by kernel_rfl) (by kernel_rfl) (fun _ _ _ h => h) (Or.inl ⟨rfl, ?_⟩) hHeld ?_
            rotate_left
            · intro w' hS; obtain ⟨⟨s0, s1, s2, s3, s4, s5, s6, s7, s8⟩, ⟨t0, t1, t2, t3, t4, t5, t6, t7, t8⟩⟩ := hS; go_simp <;> with_reducible rfl
            simp only [Act.put, List.getElem_toArray, List.getElem_cons_succ, List.getElem_cons_zero, List.setIfInBounds_toArray, List.set_cons_succ, List.set_cons_zero]
            refine wpAnyH_ready (rs := [7]) (by kernel_rfl) (by simp) (AllReadyH.cons rfl (fun K hK => ?_) AllReadyH.nil)
            refine wp_map_put _ (.tmp 43) (.tmp 45) (.tmp 49) rfl (place_keys hk) Try.underlying98 Try.underlying3 (sts_len hk) rfl HS1.out.drew.map y hyd rfl (d + 1) HWF.out rfl ?_
            intro w4 hM4 hg4
            have hmb4 := whole_apart HX.out.drew hg4 (fun e => by have := Option.some.inj e; omega)
            have hS4 := HS1.out.drew.put HC.out hg4 (m' := (y, d + 1) :: m) (by rw [lk_put] at hM4; exact hM4)
            refine hK.out _ _ ⟨nine1_of hmb4, nine0_of hS4.at_⟩ (fun hHeld => ?_)
            clear hK K
            try simp only [Act.put, List.getElem_toArray, List.getElem_cons_succ, List.getElem_cons_zero, List.setIfInBounds_toArray, List.set_cons_succ, List.set_cons_zero]
            refine wpAnyH_done (by kernel_rfl) ?_ _
            clear hHeld
            have K := Lib.hid (hS4.alloc (.cells #[.bool (pf k y 0), .bool (pf k y 1), .bool (pf k y 2), .bool (pf k y 3), .bool (pf k y 4), .bool (pf k y 5), .bool (pf k y 6), .bool (pf k y 7), .bool (pt y)] 68))
            obtain ⟨s0, s1, s2, s3, s4, s5, s6, s7, s8⟩ := nine1_of hmb4
            have hmbl := hmb4.lt
            have HNEW := Lib.hid (cells_new w4 68 #[.bool (pf k y 0), .bool (pf k y 1), .bool (pf k y 2), .bool (pf k y 3), .bool (pf k y 4), .bool (pf k y 5), .bool (pf k y 6), .bool (pf k y 7), .bool (pt y)])
            have HONE := Lib.hid (show ∀ u ∈ (#[.bool (pf k y 0), .bool (pf k y 1), .bool (pf k y 2), .bool (pf k y 3), .bool (pf k y 4), .bool (pf k y 5), .bool (pf k y 6), .bool (pf k y 7), .bool (pt y)] : Array Value).toList, u.oneCell' = true by simp [Value.oneCell'])
            have HMAX := Lib.hid (show ys.length + 1 ≤ maxLen by have := HLE.out; unfold maxLen; omega)
            have HBYT := Lib.hid (show (ys.length + 1) * 9 ≤ 140737488355328 by have := HLE.out; omega)
            have HBASE := Lib.hid (show w3.heap.size ≤ (w4.alloc (.cells #[.bool (pf k y 0), .bool (pf k y 1), .bool (pf k y 2), .bool (pf k y 3), .bool (pf k y 4), .bool (pf k y 5), .bool (pf k y 6), .bool (pf k y 7), .bool (pt y)] 68)).heap.size by have := HC.out.c3; have := HC.out.c4; have := hS4.siz; simp; omega)
            clear hmb4 hM4 hg4 hS4
            go_wp2_with (at_builtin; refine wpList_append_win _ rfl (.tmp 50) (.tmp 53) 117 rfl w3.heap.size 68 i0 (.agg #[.bool false, .bool false, .bool false, .bool false, .bool false, .bool false, .bool false, .bool false, .bool false]) 9 9 Try.underlying117 HI.out HZ0.out HZ1.out HZ2.out rfl u6 ys.length (edgeC k ys) rfl K.out.win ⟨w4.heap.size, 0, none⟩ 1 1 (#[.bool (pf k y 0), .bool (pf k y 1), .bool (pf k y 2), .bool (pf k y 3), .bool (pf k y 4), .bool (pf k y 5), .bool (pf k y 6), .bool (pf k y 7), .bool (pt y)] : Array Value).toList rfl rfl HNEW.out HONE.out HMAX.out HBYT.out HBASE.out ?_; intro v' w6 hW6 hg6 hv6; have HS6 := Lib.hid (K.out.app HC.out (ys' := ys ++ [y]) hg6 (by rw [edgeC_snoc, List.length_append]; exact hW6) hv6))
            clear hW6 hg6 hv6
            go_roundw
            case rel => exact ⟨j + 1, by omega, by go_num, by rw [HNX.out, HNN.out]; exact HS6.out⟩
            case measure => simp [intOf]; omega
        · have hje : j = rs.length := by omega
          have hd1 : decide ((j : Int) < (rs.length : Int)) = false := by simp; omega
          have hd2 : decide ((rs.length : Int) < (rs.length : Int)) = false := by simp
          have hall : expJ x (mvs k q x) (runP k q src n) j = expP k q x (runP k q src n) := by
            have h := congrArg List.length HRN.out
            rw [rowNums_len] at h
            rw [hje, h]
            exact expJ_all k q x _
          rw [hall] at hS
          obtain ⟨rr, hrr⟩ := exp_prefix (x := x) (mvs k q x) (runP k q src n)
          have hq' := HQ.out
          have hqq : (expP k q x (runP k q src n)).2 = x :: (r ++ rr) := by rw [expP, hrr, hq']; rfl
          have hnxt : runP k q src (n + 1) = ((expP k q x (runP k q src n)).1, r ++ rr) := by rw [runP_next, nextP_at hq', hqq]; rfl
          have hwin := hS.win
          rw [hqq] at hwin
          obtain ⟨gf, of, capf, hv, hgB2, hgl2, hnc2, hcm2, -⟩ := hwin.cellAt
          rw [List.length_cons] at hv
          subst hv
          have hcw : Win wz w3.heap.size 68 9 (cutV gf of (r ++ rr).length capf 9) (r ++ rr).length (edgeC k (r ++ rr)) := by
            rw [edgeC_cons] at hwin
            exact hwin.cut (plcC_size k x)
          have HSO := Lib.hid (hS.out HC.out)
          have hcap : (r ++ rr).length + 1 ≤ capf := by simpa using hnc2
          generalize r ++ rr = rq at hcw hnxt hcap HSO ⊢
          have HNXT := Lib.hid hnxt
          have hnn := HN.out
          subst hje
          clear hS hwin hqq hnxt hrr hq' hall hnc2 hcm2
          by_cases hc : capf = 1
          · subst hc
            obtain rfl : rq = [] := List.eq_nil_of_length_eq_zero (by omega)
            have HCUT : Hid (Win wz w3.heap.size 68 9 (.slice (some ⟨gf, of, none⟩) 0 0) 0 (edgeC k [])) := hcw
            clear hcw
            go_wp2
            go_roundg (gk - 1)
            case measure => omega
            case rel => exact ⟨n + 1, by omega, by rw [HNXT.out]; exact ⟨HSO.out.map, HSO.out.riv, HCUT.out, HSO.out.bel, HSO.out.siz⟩⟩
          · have HCUT : Hid (Win wz w3.heap.size 68 9 (.slice (some ⟨gf, of + 9, none⟩) rq.length (capf - 1)) rq.length (edgeC k rq)) := by have h := hcw; rw [cutV, if_neg hc] at h; exact h
            have hc' : ¬ 1 = capf := fun h => hc h.symm
            clear hcw
            go_wp2
            go_roundg (gk - 1)
            case measure => omega
            case rel => exact ⟨n + 1, by omega, by rw [HNXT.out]; exact ⟨HSO.out.map, HSO.out.riv, HCUT.out, HSO.out.bel, HSO.out.siz⟩⟩
end Go.Proofs.Ytjadoehdhbilcaa

namespace Go.Proofs.Ytjadoehdhbilcaa
open Go.RowKit

def rwsM (k q x : Nat) : List Nat := rowsM k q x (2 ^ (2 * k) - 1) 1 []
def ny (x g : Nat) : Nat := x ^^^ (2 * g + 1)
/-- How far, in how many ways, what waits. -/
structure FarSt where
  F : List Int
  W : List Int
  Q : List Nat
def waysP (F W : List Int) (x y : Nat) : List Int := if F.getD y 0 = F.getD x 0 + 1 then W.set y (IntKind.i64.wrap (W.getD y 0 + W.getD x 0)) else W
def stepF (x : Nat) (st : FarSt) (g : Nat) : FarSt :=
  if st.F.getD (ny x g) 0 < 0 then ⟨st.F.set (ny x g) (st.F.getD x 0 + 1), waysP (st.F.set (ny x g) (st.F.getD x 0 + 1)) st.W x (ny x g), st.Q ++ [ny x g]⟩
  else ⟨st.F, waysP st.F st.W x (ny x g), st.Q⟩
def expFJ (x : Nat) (gs : List Nat) (st : FarSt) (j : Nat) : FarSt := (gs.take j).foldl (stepF x) st
def nextF (k q : Nat) (st : FarSt) (n : Nat) : FarSt := match st.Q[n]? with
  | none => st
  | some x => (rwsM k q x).foldl (stepF x) st
def startF (k src : Nat) : FarSt := ⟨(List.replicate (2 * 2 ^ (2 * k)) (-1)).set src 0, (List.replicate (2 * 2 ^ (2 * k)) 0).set src 1, [src]⟩
def runF (k q src : Nat) : Nat → FarSt
  | 0 => startF k src
  | n + 1 => nextF k q (runF k q src n) n
theorem expFJ_next {x : Nat} {gs : List Nat} {st : FarSt} {j : Nat} (hj : j < gs.length) : expFJ x gs st (j + 1) = stepF x (expFJ x gs st j) gs[j] := by
  rw [expFJ, List.take_succ_eq_append_getElem hj, List.foldl_append]; rfl
theorem expFJ_all (x : Nat) (gs : List Nat) (st : FarSt) : expFJ x gs st gs.length = gs.foldl (stepF x) st := by rw [expFJ, List.take_length]
theorem ny_ne (x g : Nat) : ny x g ≠ x := fun h => by
  have h1 : bitAt (ny x g) 0 = bitAt x 0 := by rw [h]
  unfold ny bitAt at h1
  rw [Nat.testBit_xor] at h1
  have h2 : (2 * g + 1).testBit 0 = true := by simp [Nat.testBit_zero]
  rw [h2] at h1
  cases hx : x.testBit 0 <;> simp [hx] at h1
theorem getD_set_ne {F : List Int} {x y : Nat} {v : Int} (h : y ≠ x) : (F.set y v).getD x 0 = F.getD x 0 := by
  simp [List.getD_eq_getElem?_getD, List.getElem?_set, h]
theorem getD_set_at {F : List Int} {y : Nat} {v : Int} (h : y < F.length) : (F.set y v).getD y 0 = v := by
  simp [List.getD_eq_getElem?_getD, h]
theorem stepF_new {x g : Nat} {F W : List Int} {Q : List Nat} {y : Nat} {fx wx wy : Int} (hy : ny x g = y) (hl : y < F.length) (h0 : F.getD y 0 < 0) (hf : F.getD x 0 = fx) (hw : W.getD y 0 = wy) (hx : W.getD x 0 = wx) :
    stepF x ⟨F, W, Q⟩ g = ⟨F.set y (fx + 1), W.set y (IntKind.i64.wrap (wy + wx)), Q ++ [y]⟩ := by
  have hne : y ≠ x := hy ▸ ny_ne x g
  simp only [stepF, hy, h0, if_true, hf]
  rw [waysP, getD_set_at hl, getD_set_ne hne, hf, if_pos rfl, hw, hx]
theorem stepF_more {x g : Nat} {F W : List Int} {Q : List Nat} {y : Nat} {fx wx wy : Int} (hy : ny x g = y) (h0 : ¬ F.getD y 0 < 0) (hf : F.getD x 0 = fx) (he : F.getD y 0 = fx + 1) (hw : W.getD y 0 = wy) (hx : W.getD x 0 = wx) :
    stepF x ⟨F, W, Q⟩ g = ⟨F, W.set y (IntKind.i64.wrap (wy + wx)), Q⟩ := by
  simp only [stepF, hy, h0, if_false]
  rw [waysP, hf, if_pos he, hw, hx]
theorem stepF_old {x g : Nat} {F W : List Int} {Q : List Nat} {y : Nat} {fx : Int} (hy : ny x g = y) (h0 : ¬ F.getD y 0 < 0) (hf : F.getD x 0 = fx) (he : ¬ F.getD y 0 = fx + 1) :
    stepF x ⟨F, W, Q⟩ g = ⟨F, W, Q⟩ := by
  simp only [stepF, hy, h0, if_false]
  rw [waysP, hf, if_neg he]

/-- All is within bounds. -/
structure MildF (k b : Nat) (st : FarSt) : Prop where
  lf : st.F.length = 2 * 2 ^ (2 * k)
  lw : st.W.length = 2 * 2 ^ (2 * k)
  val : ∀ v ∈ st.F, -1 ≤ v ∧ v ≤ b
  dom : ∀ y ∈ st.Q, y ∈ sts k
  len : st.Q.length ≤ b
theorem MildF.mono {k b c : Nat} {st : FarSt} (h : MildF k b st) (hb : b ≤ c) : MildF k c st := ⟨h.lf, h.lw, fun v hv => ⟨(h.val v hv).1, by have := (h.val v hv).2; omega⟩, h.dom, by have := h.len; omega⟩
theorem getD_in {F : List Int} {lo hi : Int} (h : ∀ v ∈ F, lo ≤ v ∧ v ≤ hi) (h0 : lo ≤ 0 ∧ 0 ≤ hi) (x : Nat) : lo ≤ F.getD x 0 ∧ F.getD x 0 ≤ hi := by
  rcases Nat.lt_or_ge x F.length with hx | hx
  · rw [show F.getD x 0 = F[x] by simp [hx]]; exact h _ (List.getElem_mem hx)
  · rw [show F.getD x 0 = 0 by simp [hx]]; exact h0
theorem MildF.at_ {k b : Nat} {st : FarSt} (h : MildF k b st) (x : Nat) : -1 ≤ st.F.getD x 0 ∧ st.F.getD x 0 ≤ b := getD_in h.val (by omega) x
theorem ways_len (F W : List Int) (x y : Nat) : (waysP F W x y).length = W.length := by unfold waysP; split <;> simp
theorem MildF.step {k b x g : Nat} {st : FarSt} (h : MildF k b st) (hy : ny x g ∈ sts k) : MildF k (b + 1) (stepF x st g) := by
  have h2 := h.at_ x
  by_cases h0 : st.F.getD (ny x g) 0 < 0
  · simp only [stepF, h0, if_true]
    refine ⟨by simp [h.lf], by rw [ways_len]; exact h.lw, fun v hv => ?_, fun y hm => ?_, ?_⟩
    · rcases List.mem_or_eq_of_mem_set hv with hv | rfl
      · have := h.val v hv; omega
      · omega
    · rcases List.mem_append.1 hm with hm | hm
      · exact h.dom y hm
      · obtain rfl : y = ny x g := by simpa using hm
        exact hy
    · simp; exact h.len
  · simp only [stepF, h0, if_false]
    exact ⟨h.lf, by rw [ways_len]; exact h.lw, fun v hv => by have := h.val v hv; omega, h.dom, Nat.le_succ_of_le h.len⟩
theorem MildF.exp {k b x : Nat} {st : FarSt} (h : MildF k b st) : ∀ (gs : List Nat), (∀ g ∈ gs, ny x g ∈ sts k) → MildF k (b + gs.length) (gs.foldl (stepF x) st)
  | [], _ => h
  | g :: gs, hl => by
    have h1 := MildF.exp (h.step (hl g (by simp))) gs (fun m hm => hl m (by simp [hm]))
    rw [List.length_cons, show b + (gs.length + 1) = b + 1 + gs.length by omega]
    exact h1
theorem rowsM_lt (k : Nat) (q : Int) (x B : Nat) : ∀ (n g : Nat) (out : List Nat), (∀ y ∈ out, y < B) → g + n ≤ B → ∀ y ∈ rowsM k q x n g out, y < B
  | 0, _, _, h, _ => h
  | n + 1, g, out, h, hb => by
    rw [rowsM_next]
    refine rowsM_lt k q x B n (g + 1) _ ?_ (by omega)
    split
    · exact insG_mem h (by omega)
    · exact h
theorem rwsM_lt {k q x g : Nat} (h : g ∈ rwsM k q x) : g < 2 ^ (2 * k) :=
  rowsM_lt k q x (2 ^ (2 * k)) _ _ _ (fun y hy => by cases hy) (by have := Nat.two_pow_pos (2 * k); omega) g h
theorem ny_in {k q x g : Nat} (hx : x ∈ sts k) (h : g ∈ rwsM k q x) : ny x g ∈ sts k := by
  have h1 := rwsM_lt h
  have hx' := sts_mem.1 hx
  rw [sts_mem, ny, show 2 * 2 ^ (2 * k) = 2 ^ (2 * k + 1) by rw [Nat.pow_succ]; omega]
  exact Nat.xor_lt_two_pow (by rw [Nat.pow_succ]; omega) (by rw [Nat.pow_succ]; omega)
theorem rwsM_len {k q x : Nat} (hk : k ≤ 4) : (rwsM k q x).length ≤ 255 := by
  have h := rowsM_len k q x (2 ^ (2 * k) - 1) 1 []
  have h2 := pow_c hk
  simp only [List.length_nil] at h
  unfold rwsM
  omega
theorem MildF.run {k q src : Nat} (hk : k ≤ 4) (hs : src ∈ sts k) : ∀ n, MildF k (256 * n + 1) (runF k q src n)
  | 0 => by
    refine ⟨by simp [runF, startF], by simp [runF, startF], fun v hv => ?_, fun y hy => ?_, by simp [runF, startF]⟩
    · rcases List.mem_or_eq_of_mem_set hv with hv | rfl
      · have := List.eq_of_mem_replicate hv; omega
      · omega
    · obtain rfl : y = src := by simpa [runF, startF] using hy
      exact hs
  | n + 1 => by
    have h := MildF.run (q := q) hk hs n
    show MildF k _ (nextF k q (runF k q src n) n)
    cases hq : (runF k q src n).Q[n]? with
    | none => rw [show nextF k q (runF k q src n) n = runF k q src n by simp [nextF, hq]]; exact h.mono (by omega)
    | some x =>
      have hx : x ∈ sts k := h.dom x (List.mem_of_getElem? hq)
      have h2 := h.exp (x := x) (rwsM k q x) (fun g hg => ny_in hx hg)
      have h3 := rwsM_len (k := k) (q := q) (x := x) hk
      rw [show nextF k q (runF k q src n) n = (rwsM k q x).foldl (stepF x) (runF k q src n) by simp [nextF, hq]]
      exact h2.mono (by omega)
def finF (k q src : Nat) : FarSt := runF k q src (turns k)
theorem runF_stay {k q src n : Nat} (h : (runF k q src n).Q.length ≤ n) : ∀ m, runF k q src (n + m) = runF k q src n
  | 0 => rfl
  | m + 1 => by
    have e := runF_stay h m
    show nextF k q (runF k q src (n + m)) (n + m) = _
    rw [e]
    simp only [nextF]
    rw [List.getElem?_eq_none (by omega)]
end Go.Proofs.Ytjadoehdhbilcaa

namespace Go.Proofs.Ytjadoehdhbilcaa
open Go.RowKit

/-- How far, in how many ways, by entries; what waits. -/
structure FarA where
  m : List (Nat × Int)
  wm : List (Nat × Int)
  Q : List Nat
def fA (m : List (Nat × Int)) (y : Nat) : Int := (lk m y).getD (-1)
def wA (m : List (Nat × Int)) (y : Nat) : Int := (lk m y).getD 0
def stepA (x : Nat) (st : FarA) (g : Nat) : FarA := match lk st.m (ny x g) with
  | none => ⟨(ny x g, fA st.m x + 1) :: st.m, (ny x g, IntKind.i64.wrap (wA st.wm (ny x g) + wA st.wm x)) :: st.wm, st.Q ++ [ny x g]⟩
  | some v => ⟨st.m, if v = fA st.m x + 1 then (ny x g, IntKind.i64.wrap (wA st.wm (ny x g) + wA st.wm x)) :: st.wm else st.wm, st.Q⟩
def nextA (k q : Nat) (st : FarA) (n : Nat) : FarA := match st.Q[n]? with
  | none => st
  | some x => (rwsM k q x).foldl (stepA x) st
def runA (k q src : Nat) : Nat → FarA
  | 0 => ⟨[(src, 0)], [(src, 1)], [src]⟩
  | n + 1 => nextA k q (runA k q src n) n
def finA (k q src : Nat) : FarA := runA k q src (turns k)
theorem lk_cons (m : List (Nat × Int)) (y z : Nat) (v : Int) : lk ((y, v) :: m) z = if z = y then some v else lk m z := by
  by_cases h : z = y
  · subst h; simp [lk]
  · have hb : (z == y) = false := by simp [h]
    simp [lk, List.lookup, hb, h]
structure Rep (k : Nat) (st : FarSt) (sa : FarA) : Prop where
  lf : st.F.length = 2 * 2 ^ (2 * k)
  lw : st.W.length = 2 * 2 ^ (2 * k)
  q : st.Q = sa.Q
  f : ∀ y, y < 2 * 2 ^ (2 * k) → st.F.getD y 0 = fA sa.m y
  w : ∀ y, y < 2 * 2 ^ (2 * k) → st.W.getD y 0 = wA sa.wm y
  pos : ∀ p ∈ sa.m, 0 ≤ p.2
theorem getD_set (F : List Int) (y z : Nat) (v : Int) (h : y < F.length) : (F.set y v).getD z 0 = if z = y then v else F.getD z 0 := by
  by_cases e : z = y
  · subst e; rw [if_pos rfl, getD_set_at h]
  · rw [if_neg e, getD_set_ne (fun e2 => e e2.symm)]
theorem Rep.step {k x g : Nat} {st : FarSt} {sa : FarA} (h : Rep k st sa) (hx : x < 2 * 2 ^ (2 * k)) (hy : ny x g < 2 * 2 ^ (2 * k)) : Rep k (stepF x st g) (stepA x sa g) := by
  obtain ⟨F, W, Q⟩ := st
  obtain ⟨lf, lw, hq, hf, hw, hpos⟩ := h
  simp only at lf lw hq hf hw
  have hfa : -1 ≤ fA sa.m x := by
    unfold fA
    cases hz : lk sa.m x with
    | none => simp
    | some v => have := hpos _ (lk_mem hz); simp only at this; simp; omega
  cases hl : lk sa.m (ny x g) with
  | none =>
    have h0 : F.getD (ny x g) 0 < 0 := by rw [hf _ hy, fA, hl]; decide
    rw [stepF_new rfl (by omega) h0 rfl rfl rfl]
    simp only [stepA, hl]
    refine ⟨by simp [lf], by simp [lw], by simp [hq], fun y hy2 => ?_, fun y hy2 => ?_, fun p hp => ?_⟩
    · show (F.set _ _).getD y 0 = _
      rw [getD_set _ _ _ _ (by omega), fA, lk_cons]
      by_cases e : y = ny x g
      · rw [if_pos e, if_pos e, hf x hx]; rfl
      · rw [if_neg e, if_neg e, hf y hy2]; rfl
    · show (W.set _ _).getD y 0 = _
      rw [getD_set _ _ _ _ (by omega), wA, lk_cons]
      by_cases e : y = ny x g
      · rw [if_pos e, if_pos e, hw x hx, hw _ hy]; rfl
      · rw [if_neg e, if_neg e, hw y hy2]; rfl
    · rcases List.mem_cons.1 hp with rfl | hp
      · show 0 ≤ fA sa.m x + 1; omega
      · exact hpos p hp
  | some v =>
    have hv := hpos _ (lk_mem hl)
    have hfy : F.getD (ny x g) 0 = v := by rw [hf _ hy, fA, hl]; rfl
    have h0 : ¬ F.getD (ny x g) 0 < 0 := by rw [hfy]; simp only at hv; omega
    by_cases he : v = fA sa.m x + 1
    · rw [stepF_more rfl h0 rfl (by rw [hfy, he, hf x hx]) rfl rfl]
      simp only [stepA, hl, if_pos he]
      refine ⟨lf, by simp [lw], hq, hf, fun y hy2 => ?_, hpos⟩
      show (W.set _ _).getD y 0 = _
      rw [getD_set _ _ _ _ (by omega), wA, lk_cons]
      by_cases e : y = ny x g
      · rw [if_pos e, if_pos e, hw x hx, hw _ hy]; rfl
      · rw [if_neg e, if_neg e, hw y hy2]; rfl
    · rw [stepF_old rfl h0 rfl (by rw [hfy, hf x hx]; exact he)]
      simp only [stepA, hl, if_neg he]
      exact ⟨lf, lw, hq, hf, hw, hpos⟩
theorem Rep.exp {k x : Nat} (hx : x < 2 * 2 ^ (2 * k)) : ∀ (gs : List Nat) {st : FarSt} {sa : FarA}, Rep k st sa → (∀ g ∈ gs, ny x g < 2 * 2 ^ (2 * k)) → Rep k (gs.foldl (stepF x) st) (gs.foldl (stepA x) sa)
  | [], _, _, h, _ => h
  | g :: gs, _, _, h, hl => Rep.exp hx gs (h.step hx (hl g (by simp))) (fun m hm => hl m (by simp [hm]))
theorem Rep.run {k q src : Nat} (hk : k ≤ 4) (hs : src ∈ sts k) : ∀ n, Rep k (runF k q src n) (runA k q src n)
  | 0 => by
    have hs' := sts_mem.1 hs
    refine ⟨by simp [runF, startF], by simp [runF, startF], rfl, fun y hy => ?_, fun y hy => ?_, fun p hp => ?_⟩
    · show ((List.replicate _ (-1)).set src 0).getD y 0 = fA [(src, 0)] y
      rw [getD_set _ _ _ _ (by simpa using hs'), fA, lk_cons]
      by_cases e : y = src
      · rw [if_pos e, if_pos e]; rfl
      · rw [if_neg e, if_neg e]; simp [hy, lk]
    · show ((List.replicate _ 0).set src 1).getD y 0 = wA [(src, 1)] y
      rw [getD_set _ _ _ _ (by simpa using hs'), wA, lk_cons]
      by_cases e : y = src
      · rw [if_pos e, if_pos e]; rfl
      · rw [if_neg e, if_neg e]; simp [hy, lk]
    · obtain rfl : p = (src, 0) := by simpa [runA] using hp
      simp
  | n + 1 => by
    have h := Rep.run (q := q) hk hs n
    show Rep k (nextF k q (runF k q src n) n) (nextA k q (runA k q src n) n)
    have hm := MildF.run (q := q) hk hs n
    cases hq : (runF k q src n).Q[n]? with
    | none =>
      have hq2 : (runA k q src n).Q[n]? = none := by rw [← h.q]; exact hq
      simp only [nextF, nextA, hq, hq2]
      exact h
    | some x =>
      have hq2 : (runA k q src n).Q[n]? = some x := by rw [← h.q]; exact hq
      simp only [nextF, nextA, hq, hq2]
      have hx : x ∈ sts k := hm.dom x (List.mem_of_getElem? hq)
      exact Rep.exp (sts_mem.1 hx) _ h (fun g hg => sts_mem.1 (ny_in hx hg))
/-- What waits is told once. -/
structure Once (sa : FarA) : Prop where
  nd : sa.Q.Nodup
  th : ∀ y ∈ sa.Q, lk sa.m y ≠ none
theorem nd_step {x g : Nat} {sa : FarA} (h : Once sa) : Once (stepA x sa g) := by
  cases hl : lk sa.m (ny x g) with
  | some v => simp only [stepA, hl]; exact ⟨h.nd, h.th⟩
  | none =>
    simp only [stepA, hl]
    refine ⟨?_, fun y hy => ?_⟩
    · show (sa.Q ++ [ny x g]).Nodup
      rw [List.nodup_append]
      refine ⟨h.nd, by simp, fun a ha b hb => ?_⟩
      obtain rfl : b = ny x g := by simpa using hb
      exact fun e => h.th a ha (by rw [e]; exact hl)
    · show lk ((ny x g, fA sa.m x + 1) :: sa.m) y ≠ none
      rw [lk_cons]
      split
      · simp
      · rename_i hne
        rcases List.mem_append.1 (show y ∈ sa.Q ++ [ny x g] from hy) with hy | hy
        · exact h.th y hy
        · exact absurd (by simpa using hy) hne
theorem nd_exp {x : Nat} : ∀ (gs : List Nat) {sa : FarA}, Once sa → Once (gs.foldl (stepA x) sa)
  | [], _, h => h
  | _ :: gs, _, h => nd_exp gs (nd_step h)
theorem nd_run (k q src : Nat) : ∀ n, Once (runA k q src n)
  | 0 => ⟨by simp [runA], fun y hy => by obtain rfl : y = src := by simpa [runA] using hy
                                         simp [runA, lk]⟩
  | n + 1 => by
    have h := nd_run k q src n
    show Once (nextA k q (runA k q src n) n)
    unfold nextA
    split
    · exact h
    · exact nd_exp _ h
theorem far_end {k q src : Nat} (h4 : k ≤ 4) (hs : src ∈ sts k) : (finF k q src).Q.length ≤ turns k := by
  have hr := Rep.run (q := q) h4 hs (turns k)
  have hm := MildF.run (q := q) h4 hs (turns k)
  rw [show turns k = (sts k).length by simp [sts, turns]]
  refine nodup_le _ _ ?_ hm.dom
  show (runF k q src (turns k)).Q.Nodup
  rw [hr.q]
  exact (nd_run k q src _).nd
def cntP (F : List Int) : Nat := (F.filter fun v => decide (0 ≤ v)).length
theorem Rep.cnt {k : Nat} {st : FarSt} {sa : FarA} (h : Rep k st sa) : cntP st.F = ((sts k).filter fun x => (lk sa.m x).isSome).length := by
  have e : st.F = (sts k).map (fA sa.m) := by
    refine List.ext_getElem (by simp [sts, h.lf]) fun i h1 h2 => ?_
    have hi : i < 2 * 2 ^ (2 * k) := by rw [← h.lf]; exact h1
    have h3 := h.f i hi
    rw [show st.F.getD i 0 = st.F[i] by simp [h1]] at h3
    rw [h3]
    simp [sts]
  rw [cntP, e, List.filter_map, List.length_map]
  congr 1
  refine List.filter_congr fun x hx => ?_
  show decide (0 ≤ fA sa.m x) = _
  unfold fA
  cases hz : lk sa.m x with
  | none => rfl
  | some v =>
    have := h.pos _ (lk_mem hz)
    simpa using this
end Go.Proofs.Ytjadoehdhbilcaa

namespace Go.Proofs.Ytjadoehdhbilcaa
open Go.RowKit

theorem nums_set (F : List Int) (i : Nat) (v : Int) : (nums F).toArray.setIfInBounds i (.int .i64 v) = (nums (F.set i v)).toArray := by
  simp [nums, List.map_set]
theorem nums_at {F : List Int} {i : Nat} (h : i < F.length) : (nums F).toArray[i]? = some (.int .i64 (F.getD i 0)) := by
  simp [nums, h]
/-- How far, behind j rounds of the first loop. -/
def negs (n j : Nat) : List Int := (List.range n).map fun i => if i < j then -1 else 0
theorem negs_zero (n : Nat) : negs n 0 = List.replicate n 0 := by
  refine List.ext_getElem (by simp [negs]) fun i h1 h2 => ?_
  simp [negs]
theorem negs_all (n : Nat) : negs n n = List.replicate n (-1) := by
  refine List.ext_getElem (by simp [negs]) fun i h1 h2 => ?_
  have hi : i < n := by simpa [negs] using h1
  simp [negs, hi]
theorem negs_len (n j : Nat) : (negs n j).length = n := by simp [negs]
theorem negs_next {n j : Nat} : (negs n j).set j (-1) = negs n (j + 1) := by
  refine List.ext_getElem (by simp [negs]) fun i h1 h2 => ?_
  have hi : i < n := by simpa [negs] using h2
  rw [List.getElem_set]
  simp only [negs, List.getElem_map, List.getElem_range]
  by_cases h : j = i
  · subst h; simp
  · rw [if_neg h]
    by_cases h3 : i < j
    · rw [if_pos h3, if_pos (by omega)]
    · rw [if_neg h3, if_neg (by omega)]
theorem make_ints {z : Nat} (hz : z ≤ 256) (W : World) : (Instr.makeSlice 40 (.int .i64 (2 * (z : Int))) (.int .i64 (2 * (z : Int)))).run Try.prog W = .ok (.slice (some ⟨W.heap.size, 0, none⟩) (2 * z) (2 * z)) (W.alloc (.cells (nums (List.replicate (2 * z) 0)).toArray 3)) := by
  obtain ⟨i0, hi, hz0, hz1, hz2⟩ := info_parts info_int
  have h := run_make (P := Try.prog) W 40 3 i0 _ Try.underlying40 hi hz0 .i64 .i64 ((2 * z : Nat) : Int) ((2 * z : Nat) : Int) (by omega) (by omega) (by rw [hz2]; omega) (by omega)
  simp only [Int.toNat_natCast, hz1, made_zeros] at h
  rw [show 2 * (z : Int) = ((2 * z : Nat) : Int) by omega, h]
/-- What stands between two rounds of the outer loop. -/
structure FarO (w wr : World) (a s : Int) (gF gW B : Nat) (F W : List Int) (Q : List Nat) (v : Value) : Prop where
  far : Whole wr gF 3 (nums F).toArray
  ways : Whole wr gW 3 (nums W).toArray
  que : Win wr B 3 1 v Q.length (nums (ofN Q))
  cur : Whole wr w.heap.size 31 #[.int .i64 a, .int .i64 s]
  bel : Below w.heap.size w wr
  siz : B ≤ wr.heap.size
structure FarC (w : World) (gF gW B : Nat) : Prop where
  c1 : w.heap.size < gF
  c2 : w.heap.size < gW
  c3 : gF ≠ gW
  c4 : gF < B
  c5 : gW < B
/-- What stands between two rounds of the inner loop. -/
structure FarN (w wz : World) (a s : Int) (gF gW B B2 B3 : Nat) (rowv : Value) (gs : List Nat) (F W : List Int) (Q : List Nat) (v : Value) : Prop where
  o : FarO w wz a s gF gW B F W Q v
  row : wz.ownsRow B2 3 1 rowv gs.length (nums (ofN gs))
  far : ∀ kk, v.ownBlock = some kk → kk < B2 ∨ B3 ≤ kk
  siz : B3 ≤ wz.heap.size
structure FarD (B B2 B3 : Nat) (rowv : Value) : Prop where
  d1 : B ≤ B2
  d2 : B2 ≤ B3
  rob : ∀ kk, rowv.ownBlock = some kk → B2 ≤ kk ∧ kk < B3
section
variable {w wz wz' : World} {a s : Int} {gF gW B B2 B3 : Nat} {rowv v v' : Value} {gs : List Nat} {F W F' W' : List Int} {Q Q' : List Nat}
theorem FarO.below (h : FarO w wz a s gF gW B F W Q v) (hb : Below wz.heap.size wz wz') : FarO w wz' a s gF gW B F W Q v :=
  ⟨h.far.below hb, h.ways.below hb, h.que.below hb, h.cur.below hb, below_then h.bel hb h.bel.size, Nat.le_trans h.siz hb.size⟩
theorem FarO.setF (h : FarO w wz a s gF gW B F W Q v) (c : FarC w gF gW B) (y : Nat) (u : Int) : FarO w (wz.setCell ⟨gF, y, none⟩ (.int .i64 u)) a s gF gW B (F.set y u) W Q v := by
  have c1 := c.c1
  have c2 := c.c2
  have c3 := c.c3
  have c4 := c.c4
  have c5 := c.c5
  exact ⟨by have h1 := h.far.set_ y (.int .i64 u); rw [nums_set] at h1; exact h1, h.ways.off (fun e => c3 e.symm), h.que.off c4, h.cur.off (by omega), below_set h.bel (by omega), by simpa [World.setCell] using h.siz⟩
theorem FarO.setW (h : FarO w wz a s gF gW B F W Q v) (c : FarC w gF gW B) (y : Nat) (u : Int) : FarO w (wz.setCell ⟨gW, y, none⟩ (.int .i64 u)) a s gF gW B F (W.set y u) Q v := by
  have c1 := c.c1
  have c2 := c.c2
  have c3 := c.c3
  have c4 := c.c4
  have c5 := c.c5
  exact ⟨h.far.off c3, by have h1 := h.ways.set_ y (.int .i64 u); rw [nums_set] at h1; exact h1, h.que.off c5, h.cur.off (by omega), below_set h.bel (by omega), by simpa [World.setCell] using h.siz⟩
theorem FarO.app (h : FarO w wz a s gF gW B F W Q v) (c : FarC w gF gW B) (hg : wz.grownBy wz' v.ownBlock) (hW : Win wz' B 3 1 v' Q'.length (nums (ofN Q'))) : FarO w wz' a s gF gW B F W Q' v' := by
  have c1 := c.c1
  have c2 := c.c2
  have c4 := c.c4
  have c5 := c.c5
  exact ⟨whole_apart h.far hg (fun e => by have := (h.que.lt _ e.symm).1; omega), whole_apart h.ways hg (fun e => by have := (h.que.lt _ e.symm).1; omega), hW, whole_apart h.cur hg (fun e => by have := (h.que.lt _ e.symm).1; omega), h.bel.grown hg h.bel.size (fun kk e => by have := (h.que.lt _ e).1; omega), Nat.le_trans h.siz hg.size⟩
theorem FarN.below (h : FarN w wz a s gF gW B B2 B3 rowv gs F W Q v) (hb : Below wz.heap.size wz wz') : FarN w wz' a s gF gW B B2 B3 rowv gs F W Q v :=
  ⟨h.o.below hb, ownsRow_below h.row hb, h.far, Nat.le_trans h.siz hb.size⟩
theorem FarN.alloc (h : FarN w wz a s gF gW B B2 B3 rowv gs F W Q v) (o : Obj) : FarN w (wz.alloc o) a s gF gW B B2 B3 rowv gs F W Q v := h.below (below1 wz o)
theorem FarN.drew (h : FarN w wz a s gF gW B B2 B3 rowv gs F W Q v) : FarN w wz.drew a s gF gW B B2 B3 rowv gs F W Q v := h.below (Below.refl _ _).drew
theorem FarN.setF (h : FarN w wz a s gF gW B B2 B3 rowv gs F W Q v) (c : FarC w gF gW B) (d : FarD B B2 B3 rowv) (y : Nat) (u : Int) : FarN w (wz.setCell ⟨gF, y, none⟩ (.int .i64 u)) a s gF gW B B2 B3 rowv gs (F.set y u) W Q v :=
  ⟨h.o.setF c y u, ownsRow_setCell_below (a := ⟨gF, y, none⟩) h.row (by have := c.c4; have := d.d1; show gF < B2; omega) _, h.far, by simpa [World.setCell] using h.siz⟩
theorem FarN.setW (h : FarN w wz a s gF gW B B2 B3 rowv gs F W Q v) (c : FarC w gF gW B) (d : FarD B B2 B3 rowv) (y : Nat) (u : Int) : FarN w (wz.setCell ⟨gW, y, none⟩ (.int .i64 u)) a s gF gW B B2 B3 rowv gs F (W.set y u) Q v :=
  ⟨h.o.setW c y u, ownsRow_setCell_below (a := ⟨gW, y, none⟩) h.row (by have := c.c5; have := d.d1; show gW < B2; omega) _, h.far, by simpa [World.setCell] using h.siz⟩
theorem FarN.app (h : FarN w wz a s gF gW B B2 B3 rowv gs F W Q v) (c : FarC w gF gW B) (d : FarD B B2 B3 rowv) (hg : wz.grownBy wz' v.ownBlock) (hW : Win wz' B 3 1 v' Q'.length (nums (ofN Q'))) (hv : v'.ownBlock = v.ownBlock ∨ v'.ownBlock = some wz.heap.size) : FarN w wz' a s gF gW B B2 B3 rowv gs F W Q' v' := by
  refine ⟨h.o.app c hg hW, h.row.kept hg ?_, fun kk e => ?_, Nat.le_trans h.siz hg.size⟩
  · cases hr : rowv.ownBlock with
    | none => exact .inl rfl
    | some kk => exact .inr fun e => by have h1 := d.rob _ hr; have h2 := h.far _ e.symm; omega
  · rcases hv with hv | hv
    · exact h.far kk (by rw [← hv]; exact e)
    · rw [hv] at e
      have := Option.some.inj e
      have := h.siz
      omega
end
/-- What the search hands back. -/
def FarPost (k q src : Nat) (w : World) (e : Ending) (w' : World) : Prop :=
  ∃ gF gW : Nat, e = .returned (.tuple #[.slice (some ⟨gF, 0, none⟩) (2 * 2 ^ (2 * k)) (2 * 2 ^ (2 * k)), .slice (some ⟨gW, 0, none⟩) (2 * 2 ^ (2 * k)) (2 * 2 ^ (2 * k))]) ∧ Whole w' gF 3 (nums (finF k q src).F).toArray ∧ Whole w' gW 3 (nums (finF k q src).W).toArray ∧ Below w.heap.size w w'
/-- What stands behind the first statement. -/
def FarCut (w : World) (z : Nat) (a s : Int) (s6 s7 : Value) (wx : World) : Prop :=
  ∃ gF gW : Nat, s6 = .slice (some ⟨gF, 0, none⟩) (2 * z) (2 * z) ∧ s7 = .slice (some ⟨gW, 0, none⟩) (2 * z) (2 * z) ∧ Whole wx gF 3 (nums (List.replicate (2 * z) 0)).toArray ∧ Whole wx gW 3 (nums (List.replicate (2 * z) 0)).toArray ∧ Whole wx w.heap.size 31 #[.int .i64 a, .int .i64 s] ∧ gF ≠ gW ∧ w.heap.size < gF ∧ w.heap.size < gW ∧ Below w.heap.size w wx
end Go.Proofs.Ytjadoehdhbilcaa

namespace Go.Proofs.Ytjadoehdhbilcaa
open Go.RowKit

theorem num_cell {w : World} {g i : Nat} {t : TypeId} {F : List Int} {v : Int} (h : Whole w g t (nums F).toArray) (hi : i < F.length) (hv : F.getD i 0 = v) : w.cell? ⟨g, i, none⟩ = some (.int .i64 v) := by rw [h.cell, nums_at hi, hv]
theorem ghost_step {n g t : Nat} (h : n + g = t) (h2 : 0 < g) : n + 1 + (g - 1) = t := by omega
theorem ofN_snoc (Q : List Nat) (y : Nat) : ofN (Q ++ [y]) = ofN Q ++ [(y : Int)] := by simp [ofN]
theorem nums_snoc (xs : List Int) (v : Int) : nums (xs ++ [v]) = nums xs ++ [.int .i64 v] := by simp [nums]
theorem ofN_at {Q : List Nat} {n : Nat} (h : n < Q.length) : (nums (ofN Q))[n]? = some (.int .i64 (Q[n] : Int)) := by simp [nums, ofN, h]

set_option maxHeartbeats 12800000 in
set_option maxRecDepth 100000 in
set_option linter.unusedSimpArgs false in
theorem cuFar_any (k q src : Nat) (w : World) (hk1 : 1 ≤ k) (hk : k ≤ 4) (hq1 : 1 ≤ q) (hq4 : q ≤ 4) (hs : src = 0 ∨ src = 2 * 2 ^ (2 * k) - 1) :
    Calls Try.prog 66 #[.agg #[.int .i64 k, .int .i64 q], .int .i64 src] w (FarPost k q src w) := by
  obtain ⟨i0, hi, hz0, hz1, hz2⟩ := info_parts info_int
  have HI := Lib.hid hi
  have HZ0 := Lib.hid hz0
  have HZ1 := Lib.hid hz1
  have HZ2 := Lib.hid hz2
  have hp2 : 0 < 2 ^ (2 * k) := Nat.two_pow_pos _
  have hsd : src ∈ sts k := sts_mem.2 (by rcases hs with rfl | rfl <;> omega)
  have HEND := Lib.hid (far_end (q := q) hk hsd)
  have HRUN : Hid (∀ n, MildF k (256 * n + 1) (runF k q src n)) := fun n => MildF.run hk hsd n
  obtain ⟨z, hz⟩ : ∃ z, 2 ^ (2 * k) = z := ⟨_, rfl⟩
  have hz256 : z ≤ 256 := by rw [← hz]; exact pow_c hk
  have HTU : Hid (turns k = 2 * z) := by show _ = _; rw [turns, hz]
  have HST : Hid (∀ x, x ∈ sts k ↔ x < 2 * z) := fun x => by rw [sts_mem, hz]
  have hsl : src < 2 * z := HST.out src |>.1 hsd
  have HZZ := Lib.hid hz
  have HCS : Hid (∀ W, Calls Try.prog 67 #[.agg #[.int .i64 k, .int .i64 q]] W fun e w' => e = .returned (.int .i64 z) ∧ Below W.heap.size W w') := fun W => by have h := cuSize_any k q W hk; rw [hz] at h; exact h
  have hmk := fun W : World => make_ints (z := z) hz256 W
  have hwr : IntKind.i64.wrap (2 * (z : Int)) = 2 * (z : Int) := IntWalk.i64_in _ (by omega)
  obtain ⟨s, hsq⟩ : ∃ s : Int, s = (q : Int) := ⟨_, rfl⟩
  have HSQ := Lib.hid hsq
  rw [← hsq] at HCS ⊢
  have hcur := Whole.fresh w 31 #[.int .i64 k, .int .i64 s]
  have ht := below1 w (.cells #[.int .i64 k, .int .i64 s] 31)
  clear hi hz0 hz1 hz2 hs hp2 hz hsq
  go_enter Try.func66, Try.ntmps66
  go_upto_region 1 with fail
  go_cut [6, 7] (fun s6 s7 wx => FarCut w z k s s6 s7 wx)
  case first =>
    go_wp2_with fail
    refine wp_region_held_drew (S := (Box1 w.heap.size (.int .i64 k) (.int .i64 s))) (by kernel_rfl) (box1_of hcur.drew) (fun hHeld => ?_)
    replace hcur := hcur.drew
    replace ht := ht.drew
    generalize World.drew (World.alloc w (.cells #[.int .i64 k, .int .i64 s] 31)) = w0 at hcur ht hHeld ⊢
    refine wpAnyH_take (i := 0) (v := ?_) rfl (by kernel_rfl) (by kernel_rfl) (by kernel_rfl) (fun _ _ _ h => h) (Or.inl ⟨rfl, ?_⟩) hHeld ?_
    rotate_left
    · intro w' hS; obtain ⟨s0, s1⟩ := hS; go_simp <;> with_reducible rfl
    simp only [Act.put, List.getElem_toArray, List.getElem_cons_succ, List.getElem_cons_zero, List.setIfInBounds_toArray, List.set_cons_succ, List.set_cons_zero]
    refine wpAnyH_take (i := 4) (v := ?_) rfl (by kernel_rfl) (by kernel_rfl) (by kernel_rfl) (fun _ _ _ h => h) (Or.inl ⟨rfl, ?_⟩) hHeld ?_
    rotate_left
    · intro w' hS; obtain ⟨s0, s1⟩ := hS; go_simp <;> with_reducible rfl
    simp only [Act.put, List.getElem_toArray, List.getElem_cons_succ, List.getElem_cons_zero, List.setIfInBounds_toArray, List.set_cons_succ, List.set_cons_zero]
    refine wpAnyH_ready (rs := [1]) (by kernel_rfl) (by simp) (AllReadyH.cons rfl (fun K hK => ?_) AllReadyH.nil)
    go_simp
    refine (HCS.out _).mono ?_
    rintro e wza ⟨rfl, hb⟩
    replace hcur := hcur.below hb
    replace ht := below_then ht hb ht.size
    clear hb
    refine hK.out _ _ (box1_of hcur) (fun hHeld => ?_)
    clear hK K
    try simp only [Act.put, List.getElem_toArray, List.getElem_cons_succ, List.getElem_cons_zero, List.setIfInBounds_toArray, List.set_cons_succ, List.set_cons_zero]
    refine wpAnyH_take (i := 2) (v := ?_) rfl (by kernel_rfl) (by kernel_rfl) (by kernel_rfl) (fun _ _ _ h => h) (Or.inl ⟨rfl, ?_⟩) hHeld ?_
    rotate_left
    · intro w' hS; obtain ⟨s0, s1⟩ := hS; go_simp <;> with_reducible rfl
    simp only [Act.put, List.getElem_toArray, List.getElem_cons_succ, List.getElem_cons_zero, List.setIfInBounds_toArray, List.set_cons_succ, List.set_cons_zero]
    refine wpAnyH_ready (rs := [3, 5]) (by kernel_rfl) (by simp) (AllReadyH.cons rfl (fun K hK => ?_) (AllReadyH.cons rfl (fun K hK => ?_) AllReadyH.nil))
    · go_simp
      have hf := Whole.fresh wza 3 (nums (List.replicate (2 * z) 0)).toArray
      have HLhf := Lib.hid hcur.lt
      replace hcur := hcur.alloc (.cells (nums (List.replicate (2 * z) 0)).toArray 3)
      replace ht := ht.alloc ht.size (.cells (nums (List.replicate (2 * z) 0)).toArray 3)
      generalize World.alloc wza (.cells (nums (List.replicate (2 * z) 0)).toArray 3) = wzab at hcur ht hf ⊢
      refine hK.out _ _ (box1_of hcur) (fun hHeld => ?_)
      clear hK K
      try simp only [Act.put, List.getElem_toArray, List.getElem_cons_succ, List.getElem_cons_zero, List.setIfInBounds_toArray, List.set_cons_succ, List.set_cons_zero]
      refine wpAnyH_ready (rs := [5]) (by kernel_rfl) (by simp) (AllReadyH.cons rfl (fun K hK => ?_) AllReadyH.nil)
      go_simp
      refine (HCS.out _).mono ?_
      rintro e wzabc ⟨rfl, hb⟩
      replace hcur := hcur.below hb
      replace hf := hf.below hb
      replace ht := below_then ht hb ht.size
      clear hb
      refine hK.out _ _ (box1_of hcur) (fun hHeld => ?_)
      clear hK K
      try simp only [Act.put, List.getElem_toArray, List.getElem_cons_succ, List.getElem_cons_zero, List.setIfInBounds_toArray, List.set_cons_succ, List.set_cons_zero]
      refine wpAnyH_take (i := 6) (v := ?_) rfl (by kernel_rfl) (by kernel_rfl) (by kernel_rfl) (fun _ _ _ h => h) (Or.inl ⟨rfl, ?_⟩) hHeld ?_
      rotate_left
      · intro w' hS; obtain ⟨s0, s1⟩ := hS; go_simp <;> with_reducible rfl
      simp only [Act.put, List.getElem_toArray, List.getElem_cons_succ, List.getElem_cons_zero, List.setIfInBounds_toArray, List.set_cons_succ, List.set_cons_zero]
      refine wpAnyH_take (i := 8) (v := ?_) rfl (by kernel_rfl) (by kernel_rfl) (by kernel_rfl) (fun _ _ _ h => h) (Or.inl ⟨rfl, ?_⟩) hHeld ?_
      rotate_left
      · intro w' hS; obtain ⟨s0, s1⟩ := hS; go_simp <;> with_reducible rfl
      simp only [Act.put, List.getElem_toArray, List.getElem_cons_succ, List.getElem_cons_zero, List.setIfInBounds_toArray, List.set_cons_succ, List.set_cons_zero]
      refine wpAnyH_ready (rs := [7]) (by kernel_rfl) (by simp) (AllReadyH.cons rfl (fun K hK => ?_) AllReadyH.nil)
      go_simp
      have hw := Whole.fresh wzabc 3 (nums (List.replicate (2 * z) 0)).toArray
      have HLhw := Lib.hid hcur.lt
      have HX := Lib.hid hf.lt
      replace hcur := hcur.alloc (.cells (nums (List.replicate (2 * z) 0)).toArray 3)
      replace hf := hf.alloc (.cells (nums (List.replicate (2 * z) 0)).toArray 3)
      replace ht := ht.alloc ht.size (.cells (nums (List.replicate (2 * z) 0)).toArray 3)
      generalize World.alloc wzabc (.cells (nums (List.replicate (2 * z) 0)).toArray 3) = wzabcd at hcur hf ht hw ⊢
      refine hK.out _ _ (box1_of hcur) (fun hHeld => ?_)
      clear hK K
      try simp only [Act.put, List.getElem_toArray, List.getElem_cons_succ, List.getElem_cons_zero, List.setIfInBounds_toArray, List.set_cons_succ, List.set_cons_zero]
      refine wpAnyH_take (i := 9) (v := ?_) rfl (by kernel_rfl) (by kernel_rfl) (by kernel_rfl) (fun _ _ _ h => h) (Or.inl ⟨rfl, ?_⟩) hHeld ?_
      rotate_left
      · intro w' hS; obtain ⟨s0, s1⟩ := hS; go_simp <;> with_reducible rfl
      simp only [Act.put, List.getElem_toArray, List.getElem_cons_succ, List.getElem_cons_zero, List.setIfInBounds_toArray, List.set_cons_succ, List.set_cons_zero]
      refine wpAnyH_done (by kernel_rfl) ?_ _
      clear hHeld
      have hlf := hf.lt
      have hlw := hw.lt
      go_wp2_with fail
      go_meet
      exact ⟨wza.heap.size, wzabc.heap.size, rfl, rfl, hf, hw, hcur, by have := HX.out; omega, HLhf.out, HLhw.out, ht⟩
    · go_simp
      refine (HCS.out _).mono ?_
      rintro e wzac ⟨rfl, hb⟩
      replace hcur := hcur.below hb
      replace ht := below_then ht hb ht.size
      clear hb
      refine hK.out _ _ (box1_of hcur) (fun hHeld => ?_)
      clear hK K
      try simp only [Act.put, List.getElem_toArray, List.getElem_cons_succ, List.getElem_cons_zero, List.setIfInBounds_toArray, List.set_cons_succ, List.set_cons_zero]
      refine wpAnyH_take (i := 6) (v := ?_) rfl (by kernel_rfl) (by kernel_rfl) (by kernel_rfl) (fun _ _ _ h => h) (Or.inl ⟨rfl, ?_⟩) hHeld ?_
      rotate_left
      · intro w' hS; obtain ⟨s0, s1⟩ := hS; go_simp <;> with_reducible rfl
      simp only [Act.put, List.getElem_toArray, List.getElem_cons_succ, List.getElem_cons_zero, List.setIfInBounds_toArray, List.set_cons_succ, List.set_cons_zero]
      refine wpAnyH_ready (rs := [3, 7]) (by kernel_rfl) (by simp) (AllReadyH.cons rfl (fun K hK => ?_) (AllReadyH.cons rfl (fun K hK => ?_) AllReadyH.nil))
      · go_simp
        have hf := Whole.fresh wzac 3 (nums (List.replicate (2 * z) 0)).toArray
        have HLhf := Lib.hid hcur.lt
        replace hcur := hcur.alloc (.cells (nums (List.replicate (2 * z) 0)).toArray 3)
        replace ht := ht.alloc ht.size (.cells (nums (List.replicate (2 * z) 0)).toArray 3)
        generalize World.alloc wzac (.cells (nums (List.replicate (2 * z) 0)).toArray 3) = wzacb at hcur ht hf ⊢
        refine hK.out _ _ (box1_of hcur) (fun hHeld => ?_)
        clear hK K
        try simp only [Act.put, List.getElem_toArray, List.getElem_cons_succ, List.getElem_cons_zero, List.setIfInBounds_toArray, List.set_cons_succ, List.set_cons_zero]
        refine wpAnyH_take (i := 8) (v := ?_) rfl (by kernel_rfl) (by kernel_rfl) (by kernel_rfl) (fun _ _ _ h => h) (Or.inl ⟨rfl, ?_⟩) hHeld ?_
        rotate_left
        · intro w' hS; obtain ⟨s0, s1⟩ := hS; go_simp <;> with_reducible rfl
        simp only [Act.put, List.getElem_toArray, List.getElem_cons_succ, List.getElem_cons_zero, List.setIfInBounds_toArray, List.set_cons_succ, List.set_cons_zero]
        refine wpAnyH_ready (rs := [7]) (by kernel_rfl) (by simp) (AllReadyH.cons rfl (fun K hK => ?_) AllReadyH.nil)
        go_simp
        have hw := Whole.fresh wzacb 3 (nums (List.replicate (2 * z) 0)).toArray
        have HLhw := Lib.hid hcur.lt
        have HX := Lib.hid hf.lt
        replace hcur := hcur.alloc (.cells (nums (List.replicate (2 * z) 0)).toArray 3)
        replace hf := hf.alloc (.cells (nums (List.replicate (2 * z) 0)).toArray 3)
        replace ht := ht.alloc ht.size (.cells (nums (List.replicate (2 * z) 0)).toArray 3)
        generalize World.alloc wzacb (.cells (nums (List.replicate (2 * z) 0)).toArray 3) = wzacbd at hcur hf ht hw ⊢
        refine hK.out _ _ (box1_of hcur) (fun hHeld => ?_)
        clear hK K
        try simp only [Act.put, List.getElem_toArray, List.getElem_cons_succ, List.getElem_cons_zero, List.setIfInBounds_toArray, List.set_cons_succ, List.set_cons_zero]
        refine wpAnyH_take (i := 9) (v := ?_) rfl (by kernel_rfl) (by kernel_rfl) (by kernel_rfl) (fun _ _ _ h => h) (Or.inl ⟨rfl, ?_⟩) hHeld ?_
        rotate_left
        · intro w' hS; obtain ⟨s0, s1⟩ := hS; go_simp <;> with_reducible rfl
        simp only [Act.put, List.getElem_toArray, List.getElem_cons_succ, List.getElem_cons_zero, List.setIfInBounds_toArray, List.set_cons_succ, List.set_cons_zero]
        refine wpAnyH_done (by kernel_rfl) ?_ _
        clear hHeld
        have hlf := hf.lt
        have hlw := hw.lt
        go_wp2_with fail
        go_meet
        exact ⟨wzac.heap.size, wzacb.heap.size, rfl, rfl, hf, hw, hcur, by have := HX.out; omega, HLhf.out, HLhw.out, ht⟩
      · go_simp
        have hw := Whole.fresh wzac 3 (nums (List.replicate (2 * z) 0)).toArray
        have HLhw := Lib.hid hcur.lt
        replace hcur := hcur.alloc (.cells (nums (List.replicate (2 * z) 0)).toArray 3)
        replace ht := ht.alloc ht.size (.cells (nums (List.replicate (2 * z) 0)).toArray 3)
        generalize World.alloc wzac (.cells (nums (List.replicate (2 * z) 0)).toArray 3) = wzacd at hcur ht hw ⊢
        refine hK.out _ _ (box1_of hcur) (fun hHeld => ?_)
        clear hK K
        try simp only [Act.put, List.getElem_toArray, List.getElem_cons_succ, List.getElem_cons_zero, List.setIfInBounds_toArray, List.set_cons_succ, List.set_cons_zero]
        refine wpAnyH_ready (rs := [3]) (by kernel_rfl) (by simp) (AllReadyH.cons rfl (fun K hK => ?_) AllReadyH.nil)
        go_simp
        have hf := Whole.fresh wzacd 3 (nums (List.replicate (2 * z) 0)).toArray
        have HLhf := Lib.hid hcur.lt
        have HX := Lib.hid hw.lt
        replace hcur := hcur.alloc (.cells (nums (List.replicate (2 * z) 0)).toArray 3)
        replace hw := hw.alloc (.cells (nums (List.replicate (2 * z) 0)).toArray 3)
        replace ht := ht.alloc ht.size (.cells (nums (List.replicate (2 * z) 0)).toArray 3)
        generalize World.alloc wzacd (.cells (nums (List.replicate (2 * z) 0)).toArray 3) = wzacdb at hcur hw ht hf ⊢
        refine hK.out _ _ (box1_of hcur) (fun hHeld => ?_)
        clear hK K
        try simp only [Act.put, List.getElem_toArray, List.getElem_cons_succ, List.getElem_cons_zero, List.setIfInBounds_toArray, List.set_cons_succ, List.set_cons_zero]
        refine wpAnyH_take (i := 8) (v := ?_) rfl (by kernel_rfl) (by kernel_rfl) (by kernel_rfl) (fun _ _ _ h => h) (Or.inl ⟨rfl, ?_⟩) hHeld ?_
        rotate_left
        · intro w' hS; obtain ⟨s0, s1⟩ := hS; go_simp <;> with_reducible rfl
        simp only [Act.put, List.getElem_toArray, List.getElem_cons_succ, List.getElem_cons_zero, List.setIfInBounds_toArray, List.set_cons_succ, List.set_cons_zero]
        refine wpAnyH_take (i := 9) (v := ?_) rfl (by kernel_rfl) (by kernel_rfl) (by kernel_rfl) (fun _ _ _ h => h) (Or.inl ⟨rfl, ?_⟩) hHeld ?_
        rotate_left
        · intro w' hS; obtain ⟨s0, s1⟩ := hS; go_simp <;> with_reducible rfl
        simp only [Act.put, List.getElem_toArray, List.getElem_cons_succ, List.getElem_cons_zero, List.setIfInBounds_toArray, List.set_cons_succ, List.set_cons_zero]
        refine wpAnyH_done (by kernel_rfl) ?_ _
        clear hHeld
        have hlf := hf.lt
        have hlw := hw.lt
        go_wp2_with fail
        go_meet
        exact ⟨wzacd.heap.size, wzac.heap.size, rfl, rfl, hf, hw, hcur, by have := HX.out; omega, HLhf.out, HLhw.out, ht⟩

  case rest =>
    obtain ⟨gF, gW, rfl, rfl, hf, hw, hc, hne, hgf, hgw, ht1⟩ := hcut
    have hlF := hf.lt
    have hlW := hw.lt
    have H1 := Lib.hid hf
    have H2 := Lib.hid hw
    have H3 := Lib.hid hc
    have H4 := Lib.hid ht1
    have H5 := Lib.hid ht1.size
    clear hf hw hc ht1 hcur ht hmk
    go_wp2
    go_loopw [25] (fun i wr => ∃ j : Nat, j ≤ 2 * z ∧ i = .int .i64 j ∧ Whole wr gF 3 (nums (negs (2 * z) j)).toArray ∧ Whole wr gW 3 (nums (List.replicate (2 * z) 0)).toArray ∧ Whole wr w.heap.size 31 #[.int .i64 k, .int .i64 s] ∧ Below w.heap.size w wr) (fun i _ => 2 * z - (intOf i).toNat)
    case atStart => exact ⟨0, Nat.zero_le _, rfl, by rw [negs_zero]; exact H1.out, H2.out, H3.out, H4.out⟩
    case round =>
      clear H1 H2 H3 H4 H5 hlF hlW
      obtain ⟨j, hj, rfl, hf, hw, hc, ht⟩ := hrel
      obtain ⟨wo, rfl⟩ : ∃ W : World, W = wr := ⟨_, rfl⟩
      have hlF := hf.lt
      have hlW := hw.lt
      by_cases hlt : j < 2 * z
      · have hd1 : decide ((j : Int) < ((2 * z : Nat) : Int)) = true := by simp; omega
        have hd2 : decide ((j : Int) < 2 * (z : Int)) = true := by simp; omega
        have hcell := (hf.cell j).trans (nums_at (by rw [negs_len]; exact hlt))
        have hfr := hf.open_ j
        have G1 := Lib.hid (show Whole (wo.setCell ⟨gF, j, none⟩ (.int .i64 (-1))) gF 3 (nums (negs (2 * z) (j + 1))).toArray by have h := hf.set_ j (.int .i64 (-1)); rw [nums_set, negs_next] at h; exact h)
        have G2 := Lib.hid (hw.off (b := gF) (o := j) (u := .int .i64 (-1)) (fun e => hne e.symm))
        have G3 := Lib.hid (hc.off (b := gF) (o := j) (u := .int .i64 (-1)) (by omega))
        have G4 := Lib.hid (below_set (b := gF) (o := j) (u := .int .i64 (-1)) ht (by omega))
        clear hf hw hc ht
        go_wp2
        go_roundw
        case rel => exact ⟨j + 1, by omega, by go_num, G1.out, G2.out, G3.out, G4.out⟩
        case measure => simp [intOf]; omega
      · obtain rfl : j = 2 * z := by omega
        have hd1 : decide (((2 * z : Nat) : Int) < ((2 * z : Nat) : Int)) = false := by simp
        have hd2 : decide (((2 * z : Nat) : Int) < 2 * (z : Int)) = false := by simp
        have hd3 : decide (2 * (z : Int) < 2 * (z : Int)) = false := by simp
        rw [negs_all] at hf
        obtain ⟨B, hB⟩ : ∃ B, wo.heap.size = B := ⟨_, rfl⟩
        have a0 := num_cell (v := -1) hf (i := src) (by simpa using hsl) (by simp [hsl])
        have a1 := hf.open_ src
        have hf1 := hf.set_ src (.int .i64 0)
        rw [nums_set] at hf1
        have hw1 := hw.off (b := gF) (o := src) (u := .int .i64 0) (fun e => hne e.symm)
        have a2 := num_cell (v := 0) hw1 (i := src) (by simpa using hsl) (by simp [hsl])
        have a3 := hw1.open_ src
        have a4 := hw1.lt
        have hw2 := hw1.set_ src (.int .i64 1)
        rw [nums_set] at hw2
        have hsz2 : (World.setCell (World.setCell wo ⟨gF, src, none⟩ (.int .i64 0)) ⟨gW, src, none⟩ (.int .i64 1)).heap.size = wo.heap.size := by simp [World.setCell]
        have HS0 : Hid (FarO w ((World.setCell (World.setCell wo ⟨gF, src, none⟩ (.int .i64 0)) ⟨gW, src, none⟩ (.int .i64 1)).alloc (.cells #[.int .i64 src] 3)) k s gF gW wo.heap.size (runF k q src 0).F (runF k q src 0).W (runF k q src 0).Q (.slice (some ⟨wo.heap.size, 0, none⟩) 1 1)) := by
          have hW := Win.made (World.setCell (World.setCell wo ⟨gF, src, none⟩ (.int .i64 0)) ⟨gW, src, none⟩ (.int .i64 1)) wo.heap.size 3 #[.int .i64 src] (by rw [hsz2]; exact Nat.le_refl _)
          rw [hsz2] at hW
          refine ⟨?_, ?_, hW, ((hc.off (b := gF) (by omega)).off (by omega)).alloc _, (below_set (below_set ht (by omega)) (by omega)).alloc (by rw [hsz2]; exact ht.size) _, by rw [World.size_alloc, hsz2]; omega⟩
          · have h := (hf1.off (b := gW) (o := src) (u := .int .i64 1) hne).alloc (.cells #[.int .i64 src] 3)
            show Whole _ gF _ (nums ((List.replicate (2 * 2 ^ (2 * k)) (-1)).set src 0)).toArray
            rw [HZZ.out]; exact h
          · have h := hw2.alloc (.cells #[.int .i64 src] 3)
            show Whole _ gW _ (nums ((List.replicate (2 * 2 ^ (2 * k)) 0).set src 1)).toArray
            rw [HZZ.out]; exact h
        have HC0 : Hid (FarC w gF gW wo.heap.size) := ⟨hgf, hgw, hne, hlF, hlW⟩
        clear hf hw hf1 hw1 hw2 hc ht hB B
        go_wp2
        go_loopg [9, 10] (turns k) (fun gh v i wr => ∃ n, n + gh = turns k ∧ i = .int .i64 n ∧ FarO w wr k s gF gW wo.heap.size (runF k q src n).F (runF k q src n).W (runF k q src n).Q v)
        case atStart => exact ⟨0, by omega, rfl, HS0.out⟩
        case round =>
          clear HS0 a0 a1 a2 a3 a4 hsz2
          obtain ⟨n, hn, rfl, hS⟩ := hrel
          obtain ⟨w1, rfl⟩ : ∃ W : World, W = wr := ⟨_, rfl⟩
          have hm := HRUN.out n
          by_cases hlt : n < (runF k q src n).Q.length
          · have hgk : 0 < gk := by
              rcases Nat.eq_zero_or_pos gk with h | h
              · exfalso
                have hnt : n = turns k := by omega
                have he := HEND.out
                rw [finF, ← hnt] at he
                omega
              · exact h
            have hdl : decide ((n : Int) < ((runF k q src n).Q.length : Int)) = true := by simp; omega
            have hQ : (runF k q src n).Q[n]? = some (runF k q src n).Q[n] := List.getElem?_eq_getElem hlt
            have hxd : (runF k q src n).Q[n] ∈ sts k := hm.dom _ (List.getElem_mem hlt)
            have hcx := ofN_at hlt
            obtain ⟨ge, oe, cap, rfl, hgB, hgl, hnc, hcm, hcell⟩ := hS.que.cellAt
            have e0 := hcell n _ hcx
            generalize (runF k q src n).Q[n] = x at hQ hxd e0
            have hNF : runF k q src (n + 1) = (rwsM k q x).foldl (stepF x) (runF k q src n) := by show nextF k q (runF k q src n) n = _; simp only [nextF, hQ]
            have hx2 := (HST.out x).1 hxd
            have hxh : x / 2 < 2 ^ (2 * k) := by rw [HZZ.out]; omega
            have HNF := Lib.hid hNF
            have HNB : Hid (n ≤ 512) := by show n ≤ 512; have := HTU.out; omega
            have HN := Lib.hid hn
            have HSO := Lib.hid hS
            have HMI := Lib.hid hm
            have hgz := hS.siz
            obtain ⟨c0, c1, -, -⟩ := hS.cur.two
            generalize hst : runF k q src n = st at *
            have HSTT := Lib.hid hst
            clear hm hNF hQ hcx hcell hn hS hst
            have hcr := fun W : World => cuRows_any k q x W hk hxh
            rw [← HSQ.out] at hcr
            go_wp2_with fail
            refine (hcr _).mono ?_
            clear hcr
            rintro e w2 ⟨A1, c1', rfl, hrow, hb⟩
            rw [ofN_len] at hrow ⊢
            rw [show rowsM k s x (2 ^ (2 * k) - 1) 1 [] = rwsM k q x by rw [HSQ.out]; rfl] at hrow ⊢
            have hgl2 := rwsM_len (k := k) (q := q) (x := x) hk
            have HIN : Hid (∀ g ∈ rwsM k q x, g < 256 ∧ ny x g < 2 * z) := fun g hg => ⟨by have := rwsM_lt hg; have := pow_c hk; omega, (HST.out _).1 (ny_in hxd hg)⟩
            have HIM : Hid (∀ j, MildF k (256 * n + 1 + (rwsM k q x).length) (expFJ x (rwsM k q x) st j)) := fun j => by
              have h := HMI.out.exp (x := x) ((rwsM k q x).take j) (fun g hg => ny_in hxd (List.mem_of_mem_take hg))
              exact h.mono (by rw [List.length_take]; omega)
            have hall := expFJ_all x (rwsM k q x) st
            have HALL := Lib.hid hall
            generalize rwsM k q x = gs at hrow HNF hgl2 HIN HIM HALL ⊢
            have hsz := hb.size
            have HD0 : Hid (FarD wo.heap.size w1.heap.size w2.heap.size (.slice A1 gs.length c1')) := ⟨hgz, hsz, fun kk e => hrow.lt kk e⟩
            have HS2 : Hid (FarN w w2 k s gF gW wo.heap.size w1.heap.size w2.heap.size (.slice A1 gs.length c1') gs st.F st.W st.Q (.slice (some ⟨ge, oe, none⟩) st.Q.length cap)) :=
              ⟨HSO.out.below hb, hrow, fun kk e => by have : ge = kk := Option.some.inj e; omega, Nat.le_refl _⟩
            clear hb hrow HSO c0 c1 e0 hall
            go_wp2
            go_loopw [9, 54] (fun v i wz => ∃ j : Nat, j ≤ gs.length ∧ i = .int .i64 j ∧ FarN w wz k s gF gW wo.heap.size w1.heap.size w2.heap.size (.slice A1 gs.length c1') gs (expFJ x gs st j).F (expFJ x gs st j).W (expFJ x gs st j).Q v) (fun _ i _ => gs.length - (intOf i).toNat)
            case atStart => exact ⟨0, Nat.zero_le _, rfl, HS2.out⟩
            case round =>
              clear HS2
              obtain ⟨j, hj, rfl, hS⟩ := hrel
              obtain ⟨wz, rfl⟩ : ∃ W : World, W = wr := ⟨_, rfl⟩
              by_cases hlt2 : j < gs.length
              · have hd5 : decide ((j : Int) < (gs.length : Int)) = true := by simp; omega
                obtain ⟨bb, o, hA1, hbb, hcg⟩ := (holds_of_own hS.row).look (k := j) (by simpa [nums, ofN] using hlt2)
                have hcg' : wz.cell? ⟨bb, o + j, none⟩ = some (.int .i64 (gs[j] : Int)) := by rw [hcg]; simp [nums, ofN]
                subst hA1
                have HNX := Lib.hid (expFJ_next (x := x) (st := st) hlt2)
                obtain ⟨hg8, hyl0⟩ := HIN.out gs[j] (List.getElem_mem hlt2)
                have hmj := HIM.out j
                generalize gs[j] = g at hcg' HNX hg8 hyl0
                obtain ⟨y, hy⟩ : ∃ y, ny x g = y := ⟨_, rfl⟩
                rw [hy] at hyl0
                have hne2 : y ≠ x := hy ▸ ny_ne x g
                have HXX : Hid (Go.bits .xor .i64 (x : Int) (2 * (g : Int) + 1) = (y : Int)) := by
                  show _ = _
                  rw [show (2 * (g : Int) + 1) = ((2 * g + 1 : Nat) : Int) by omega, bits_xor_nat _ _ (by omega) (by omega), ← hy]; rfl
                have HY := Lib.hid hy
                have hxx := HXX.out
                generalize expFJ x gs st j = ej at hS HNX hmj
                obtain ⟨F, W, Q⟩ := ej
                simp only at hS
                have hFl : F.length = 2 * z := by have h := hmj.lf; rw [HZZ.out] at h; exact h
                have hWl : W.length = 2 * z := by have h := hmj.lw; rw [HZZ.out] at h; exact h
                have hyl : y < F.length := by omega
                have hxl : x < F.length := by omega
                have hywl : y < W.length := by omega
                have hxwl : x < W.length := by omega
                have hyi : (y : Int) < 2 * (z : Int) := by omega
                have hxi : (x : Int) < 2 * (z : Int) := by omega
                obtain ⟨fx, hfx⟩ : ∃ v, F.getD x 0 = v := ⟨_, rfl⟩
                obtain ⟨fy, hfy⟩ : ∃ v, F.getD y 0 = v := ⟨_, rfl⟩
                obtain ⟨wx, hwx⟩ : ∃ v, W.getD x 0 = v := ⟨_, rfl⟩
                obtain ⟨wy, hwy⟩ : ∃ v, W.getD y 0 = v := ⟨_, rfl⟩
                have hbx := hmj.at_ x
                simp only at hbx
                rw [hfx] at hbx
                have hnb := HNB.out
                have hwr1 : IntKind.i64.wrap (fx + 1) = fx + 1 := IntWalk.i64_in _ (by omega)
                have HLE : Hid (Q.length ≤ 200000) := by have := hmj.len; show Q.length ≤ 200000; simp only at this; omega
                have HFX := Lib.hid hfx
                have HFY := Lib.hid hfy
                have HWX := Lib.hid hwx
                have HWY := Lib.hid hwy
                have c0 := num_cell hS.o.far hyl hfy
                have c1 := num_cell hS.o.far hxl hfx
                have c2 := hS.o.far.open_ y
                have c3 := hS.o.far.lt
                have HS := Lib.hid hS
                clear hfx hfy hwx hwy hy hmj hS hcg
                by_cases hneg : fy < 0
                · have hdn : decide (fy < 0) = true := by simp; omega
                  have HNN := Lib.hid (stepF_new (Q := Q) HY.out hyl (by rw [HFY.out]; exact hneg) HFX.out HWY.out HWX.out)
                  have K1 := Lib.hid ((HS.out.setF HC0.out HD0.out y (fx + 1)).alloc (.cells #[.int .i64 y] 3))
                  have HNEW := Lib.hid (show ∀ j u, ([.int .i64 y] : List Value)[j]? = some u → ((World.setCell wz ⟨gF, y, none⟩ (.int .i64 (fx + 1))).alloc (.cells #[.int .i64 y] 3)).cell? ((⟨wz.heap.size, 0, none⟩ : Addr).add j) = some u by have h := cells_new (World.setCell wz ⟨gF, y, none⟩ (.int .i64 (fx + 1))) 3 #[.int .i64 y]; rw [show (World.setCell wz ⟨gF, y, none⟩ (.int .i64 (fx + 1))).heap.size = wz.heap.size by simp [World.setCell]] at h; exact h)
                  have HONE := Lib.hid (show ∀ u ∈ ([.int .i64 y] : List Value), u.oneCell' = true by simp [Value.oneCell'])
                  have HMAX := Lib.hid (show Q.length + 1 ≤ maxLen by have := HLE.out; unfold maxLen; omega)
                  have HBYT := Lib.hid (show (Q.length + 1) * 8 ≤ 140737488355328 by have := HLE.out; omega)
                  have HBASE := Lib.hid K1.out.o.siz
                  go_wp2_with (at_builtin; refine wpList_append_win _ rfl (.tmp 76) (.tmp 78) 40 rfl wo.heap.size 3 i0 (.int .i64 0) 1 8 Try.underlying40 HI.out HZ0.out HZ1.out HZ2.out rfl u9 Q.length (nums (ofN Q)) rfl K1.out.o.que ⟨wz.heap.size, 0, none⟩ 1 1 [.int .i64 y] rfl rfl HNEW.out HONE.out HMAX.out HBYT.out HBASE.out ?_; intro v' w6 hW6 hg6 hv6; have HS6 := Lib.hid (K1.out.app HC0.out HD0.out (Q' := Q ++ [y]) hg6 (by rw [ofN_snoc, nums_snoc, List.length_append]; exact hW6) hv6))
                  clear hW6 hg6 hv6
                  refine wp_region_held_drew (S := (fun w' => w'.cell? ⟨gF, y, none⟩ = some (.int .i64 (fx + 1)) ∧ w'.cell? ⟨gF, x, none⟩ = some (.int .i64 fx))) (by kernel_rfl) ⟨num_cell (HS6.out).drew.o.far (by simpa using hyl) (getD_set_at hyl), num_cell (HS6.out).drew.o.far (by simpa using hxl) ((getD_set_ne hne2).trans HFX.out)⟩ (fun hHeld => ?_)
                  refine wpAnyH_take (i := 0) (v := ?_) rfl (by kernel_rfl) (by kernel_rfl) (by kernel_rfl) (fun _ _ _ h => h) (Or.inl ⟨rfl, ?_⟩) hHeld ?_
                  rotate_left
                  · intro w' hS; obtain ⟨s0, s1⟩ := hS; go_simp <;> with_reducible rfl
                  simp only [Act.put, List.getElem_toArray, List.getElem_cons_succ, List.getElem_cons_zero, List.setIfInBounds_toArray, List.set_cons_succ, List.set_cons_zero]
                  refine wpAnyH_take (i := 1) (v := ?_) rfl (by kernel_rfl) (by kernel_rfl) (by kernel_rfl) (fun _ _ _ h => h) (Or.inl ⟨rfl, ?_⟩) hHeld ?_
                  rotate_left
                  · intro w' hS; obtain ⟨s0, s1⟩ := hS; go_simp <;> with_reducible rfl
                  simp only [Act.put, List.getElem_toArray, List.getElem_cons_succ, List.getElem_cons_zero, List.setIfInBounds_toArray, List.set_cons_succ, List.set_cons_zero]
                  refine wpAnyH_take (i := 2) (v := ?_) rfl (by kernel_rfl) (by kernel_rfl) (by kernel_rfl) (fun _ _ _ h => h) (Or.inl ⟨rfl, ?_⟩) hHeld ?_
                  rotate_left
                  · intro w' hS; obtain ⟨s0, s1⟩ := hS; go_simp <;> with_reducible rfl
                  simp only [Act.put, List.getElem_toArray, List.getElem_cons_succ, List.getElem_cons_zero, List.setIfInBounds_toArray, List.set_cons_succ, List.set_cons_zero]
                  refine wpAnyH_take (i := 3) (v := ?_) rfl (by kernel_rfl) (by kernel_rfl) (by kernel_rfl) (fun _ _ _ h => h) (Or.inl ⟨rfl, ?_⟩) hHeld ?_
                  rotate_left
                  · intro w' hS; obtain ⟨s0, s1⟩ := hS; go_simp <;> with_reducible rfl
                  simp only [Act.put, List.getElem_toArray, List.getElem_cons_succ, List.getElem_cons_zero, List.setIfInBounds_toArray, List.set_cons_succ, List.set_cons_zero]
                  refine wpAnyH_take (i := 4) (v := ?_) rfl (by kernel_rfl) (by kernel_rfl) (by kernel_rfl) (fun _ _ _ h => h) (Or.inl ⟨rfl, ?_⟩) hHeld ?_
                  rotate_left
                  · intro w' hS; obtain ⟨s0, s1⟩ := hS; go_simp <;> with_reducible rfl
                  simp only [Act.put, List.getElem_toArray, List.getElem_cons_succ, List.getElem_cons_zero, List.setIfInBounds_toArray, List.set_cons_succ, List.set_cons_zero]
                  refine wpAnyH_take (i := 5) (v := ?_) rfl (by kernel_rfl) (by kernel_rfl) (by kernel_rfl) (fun _ _ _ h => h) (Or.inl ⟨rfl, ?_⟩) hHeld ?_
                  rotate_left
                  · intro w' hS; obtain ⟨s0, s1⟩ := hS; go_simp <;> with_reducible rfl
                  simp only [Act.put, List.getElem_toArray, List.getElem_cons_succ, List.getElem_cons_zero, List.setIfInBounds_toArray, List.set_cons_succ, List.set_cons_zero]
                  refine wpAnyH_take (i := 6) (v := ?_) rfl (by kernel_rfl) (by kernel_rfl) (by kernel_rfl) (fun _ _ _ h => h) (Or.inl ⟨rfl, ?_⟩) hHeld ?_
                  rotate_left
                  · intro w' hS; obtain ⟨s0, s1⟩ := hS; go_simp <;> with_reducible rfl
                  simp only [Act.put, List.getElem_toArray, List.getElem_cons_succ, List.getElem_cons_zero, List.setIfInBounds_toArray, List.set_cons_succ, List.set_cons_zero]
                  refine wpAnyH_take (i := 7) (v := ?_) rfl (by kernel_rfl) (by kernel_rfl) (by kernel_rfl) (fun _ _ _ h => h) (Or.inl ⟨rfl, ?_⟩) hHeld ?_
                  rotate_left
                  · intro w' hS; obtain ⟨s0, s1⟩ := hS; go_simp <;> with_reducible rfl
                  simp only [Act.put, List.getElem_toArray, List.getElem_cons_succ, List.getElem_cons_zero, List.setIfInBounds_toArray, List.set_cons_succ, List.set_cons_zero]
                  refine wpAnyH_take (i := 8) (v := ?_) rfl (by kernel_rfl) (by kernel_rfl) (by kernel_rfl) (fun _ _ _ h => h) (Or.inl ⟨rfl, ?_⟩) hHeld ?_
                  rotate_left
                  · intro w' hS; obtain ⟨s0, s1⟩ := hS; go_simp <;> with_reducible rfl
                  simp only [Act.put, List.getElem_toArray, List.getElem_cons_succ, List.getElem_cons_zero, List.setIfInBounds_toArray, List.set_cons_succ, List.set_cons_zero]
                  refine wpAnyH_take (i := 9) (v := ?_) rfl (by kernel_rfl) (by kernel_rfl) (by kernel_rfl) (fun _ _ _ h => h) (Or.inl ⟨rfl, ?_⟩) hHeld ?_
                  rotate_left
                  · intro w' hS; obtain ⟨s0, s1⟩ := hS; go_simp <;> with_reducible rfl
                  simp only [Act.put, List.getElem_toArray, List.getElem_cons_succ, List.getElem_cons_zero, List.setIfInBounds_toArray, List.set_cons_succ, List.set_cons_zero]
                  refine wpAnyH_done (by kernel_rfl) ?_ _
                  clear hHeld
                  clear c0 c1 c2 c3
                  go_wp2_with fail
                  refine wp_region_held_drew (S := (fun _ => True)) (by kernel_rfl) trivial (fun hHeld => ?_)
                  have hK2 := (HS6.out).drew.drew
                  have t0 := num_cell hK2.o.ways (by simpa using hywl) HWY.out
                  have t1 := num_cell hK2.o.ways (by simpa using hxwl) HWX.out
                  have t2 := hK2.o.ways.open_ y
                  have t3 := hK2.o.ways.lt
                  have KS := Lib.hid ((HS6.out).setW HC0.out HD0.out y (wrap64 (wy + wx))).drew.drew
                  have HWW : Hid (wrap64 (wy + wx) = IntKind.i64.wrap (wy + wx)) := by show _ = _; first | (rw [IntKind.wrap_i64]; rfl) | (rw [IntKind.wrap_i64, wrap64]) | (simp only [wrap64, IntKind.wrap_i64]) | (rw [IntKind.wrap_i64]; unfold wrap64; omega)
                  clear hK2
                  refine wpAnyH_take (i := 0) (v := ?_) rfl (by kernel_rfl) (by kernel_rfl) (by kernel_rfl) (fun _ _ _ h => h) (Or.inl ⟨rfl, ?_⟩) hHeld ?_
                  rotate_left
                  · intro w' hS; skip; go_simp <;> with_reducible rfl
                  simp only [Act.put, List.getElem_toArray, List.getElem_cons_succ, List.getElem_cons_zero, List.setIfInBounds_toArray, List.set_cons_succ, List.set_cons_zero]
                  refine wpAnyH_take (i := 1) (v := ?_) rfl (by kernel_rfl) (by kernel_rfl) (by kernel_rfl) (fun _ _ _ h => h) (Or.inl ⟨rfl, ?_⟩) hHeld ?_
                  rotate_left
                  · intro w' hS; skip; go_simp <;> with_reducible rfl
                  simp only [Act.put, List.getElem_toArray, List.getElem_cons_succ, List.getElem_cons_zero, List.setIfInBounds_toArray, List.set_cons_succ, List.set_cons_zero]
                  refine wpAnyH_take (i := 2) (v := ?_) rfl (by kernel_rfl) (by kernel_rfl) (by kernel_rfl) (fun _ _ _ h => h) (Or.inl ⟨rfl, ?_⟩) hHeld ?_
                  rotate_left
                  · intro w' hS; skip; go_simp <;> with_reducible rfl
                  simp only [Act.put, List.getElem_toArray, List.getElem_cons_succ, List.getElem_cons_zero, List.setIfInBounds_toArray, List.set_cons_succ, List.set_cons_zero]
                  refine wpAnyH_take (i := 4) (v := ?_) rfl (by kernel_rfl) (by kernel_rfl) (by kernel_rfl) (fun _ _ _ h => h) (Or.inl ⟨rfl, ?_⟩) hHeld ?_
                  rotate_left
                  · intro w' hS; skip; go_simp <;> with_reducible rfl
                  simp only [Act.put, List.getElem_toArray, List.getElem_cons_succ, List.getElem_cons_zero, List.setIfInBounds_toArray, List.set_cons_succ, List.set_cons_zero]
                  refine wpAnyH_take (i := 5) (v := ?_) rfl (by kernel_rfl) (by kernel_rfl) (by kernel_rfl) (fun _ _ _ h => h) (Or.inl ⟨rfl, ?_⟩) hHeld ?_
                  rotate_left
                  · intro w' hS; skip; go_simp <;> with_reducible rfl
                  simp only [Act.put, List.getElem_toArray, List.getElem_cons_succ, List.getElem_cons_zero, List.setIfInBounds_toArray, List.set_cons_succ, List.set_cons_zero]
                  refine wpAnyH_take (i := 6) (v := ?_) rfl (by kernel_rfl) (by kernel_rfl) (by kernel_rfl) (fun _ _ _ h => h) (Or.inl ⟨rfl, ?_⟩) hHeld ?_
                  rotate_left
                  · intro w' hS; skip; go_simp <;> with_reducible rfl
                  simp only [Act.put, List.getElem_toArray, List.getElem_cons_succ, List.getElem_cons_zero, List.setIfInBounds_toArray, List.set_cons_succ, List.set_cons_zero]
                  refine wpAnyH_ready (rs := [3, 7]) (by kernel_rfl) (by simp) (AllReadyH.cons rfl (fun K hK => ?_) (AllReadyH.cons rfl (fun K hK => ?_) AllReadyH.nil))
                  · go_simp
                    refine hK.out _ _ trivial (fun hHeld => ?_)
                    clear hK K
                    try simp only [Act.put, List.getElem_toArray, List.getElem_cons_succ, List.getElem_cons_zero, List.setIfInBounds_toArray, List.set_cons_succ, List.set_cons_zero]
                    refine wpAnyH_ready (rs := [7]) (by kernel_rfl) (by simp) (AllReadyH.cons rfl (fun K hK => ?_) AllReadyH.nil)
                    go_simp
                    refine hK.out _ _ trivial (fun hHeld => ?_)
                    clear hK K
                    try simp only [Act.put, List.getElem_toArray, List.getElem_cons_succ, List.getElem_cons_zero, List.setIfInBounds_toArray, List.set_cons_succ, List.set_cons_zero]
                    refine wpAnyH_take (i := 8) (v := ?_) rfl (by kernel_rfl) (by kernel_rfl) (by kernel_rfl) (fun _ _ _ h => h) (Or.inl ⟨rfl, ?_⟩) hHeld ?_
                    rotate_left
                    · intro w' hS; skip; go_simp <;> with_reducible rfl
                    simp only [Act.put, List.getElem_toArray, List.getElem_cons_succ, List.getElem_cons_zero, List.setIfInBounds_toArray, List.set_cons_succ, List.set_cons_zero]
                    refine wpAnyH_take (i := 9) (v := ?_) rfl (by kernel_rfl) (by kernel_rfl) (by kernel_rfl) (fun _ _ _ h => h) (Or.inl ⟨rfl, ?_⟩) hHeld ?_
                    rotate_left
                    · intro w' hS; skip; go_simp <;> with_reducible rfl
                    simp only [Act.put, List.getElem_toArray, List.getElem_cons_succ, List.getElem_cons_zero, List.setIfInBounds_toArray, List.set_cons_succ, List.set_cons_zero]
                    refine wpAnyH_ready (rs := [10]) (by kernel_rfl) (by simp) (AllReadyH.cons rfl (fun K hK => ?_) AllReadyH.nil)
                    go_simp
                    refine hK.out _ _ trivial (fun hHeld => ?_)
                    clear hK K
                    try simp only [Act.put, List.getElem_toArray, List.getElem_cons_succ, List.getElem_cons_zero, List.setIfInBounds_toArray, List.set_cons_succ, List.set_cons_zero]
                    refine wpAnyH_done (by kernel_rfl) ?_ _
                    clear hHeld
                    go_wp2_with fail
                    go_roundw
                    case rel => exact ⟨j + 1, by omega, by go_num, by rw [HNX.out, HNN.out, ← HWW.out]; exact KS.out⟩
                    case measure => simp [intOf]; omega
                  · go_simp
                    refine hK.out _ _ trivial (fun hHeld => ?_)
                    clear hK K
                    try simp only [Act.put, List.getElem_toArray, List.getElem_cons_succ, List.getElem_cons_zero, List.setIfInBounds_toArray, List.set_cons_succ, List.set_cons_zero]
                    refine wpAnyH_ready (rs := [3]) (by kernel_rfl) (by simp) (AllReadyH.cons rfl (fun K hK => ?_) AllReadyH.nil)
                    go_simp
                    refine hK.out _ _ trivial (fun hHeld => ?_)
                    clear hK K
                    try simp only [Act.put, List.getElem_toArray, List.getElem_cons_succ, List.getElem_cons_zero, List.setIfInBounds_toArray, List.set_cons_succ, List.set_cons_zero]
                    refine wpAnyH_take (i := 8) (v := ?_) rfl (by kernel_rfl) (by kernel_rfl) (by kernel_rfl) (fun _ _ _ h => h) (Or.inl ⟨rfl, ?_⟩) hHeld ?_
                    rotate_left
                    · intro w' hS; skip; go_simp <;> with_reducible rfl
                    simp only [Act.put, List.getElem_toArray, List.getElem_cons_succ, List.getElem_cons_zero, List.setIfInBounds_toArray, List.set_cons_succ, List.set_cons_zero]
                    refine wpAnyH_take (i := 9) (v := ?_) rfl (by kernel_rfl) (by kernel_rfl) (by kernel_rfl) (fun _ _ _ h => h) (Or.inl ⟨rfl, ?_⟩) hHeld ?_
                    rotate_left
                    · intro w' hS; skip; go_simp <;> with_reducible rfl
                    simp only [Act.put, List.getElem_toArray, List.getElem_cons_succ, List.getElem_cons_zero, List.setIfInBounds_toArray, List.set_cons_succ, List.set_cons_zero]
                    refine wpAnyH_ready (rs := [10]) (by kernel_rfl) (by simp) (AllReadyH.cons rfl (fun K hK => ?_) AllReadyH.nil)
                    go_simp
                    refine hK.out _ _ trivial (fun hHeld => ?_)
                    clear hK K
                    try simp only [Act.put, List.getElem_toArray, List.getElem_cons_succ, List.getElem_cons_zero, List.setIfInBounds_toArray, List.set_cons_succ, List.set_cons_zero]
                    refine wpAnyH_done (by kernel_rfl) ?_ _
                    clear hHeld
                    go_wp2_with fail
                    go_roundw
                    case rel => exact ⟨j + 1, by omega, by go_num, by rw [HNX.out, HNN.out, ← HWW.out]; exact KS.out⟩
                    case measure => simp [intOf]; omega
                · have hdn : decide (fy < 0) = false := by simp; omega
                  by_cases heq : fy = fx + 1
                  · subst heq
                    have HNN := Lib.hid (stepF_more (Q := Q) HY.out (by rw [HFY.out]; exact hneg) HFX.out HFY.out HWY.out HWX.out)
                    go_wp2_with fail
                    refine wp_region_held_drew (S := (fun w' => w'.cell? ⟨gF, y, none⟩ = some (.int .i64 (fx + 1)) ∧ w'.cell? ⟨gF, x, none⟩ = some (.int .i64 fx))) (by kernel_rfl) ⟨num_cell (HS.out).drew.o.far (by simpa using hyl) HFY.out, num_cell (HS.out).drew.o.far (by simpa using hxl) HFX.out⟩ (fun hHeld => ?_)
                    refine wpAnyH_take (i := 0) (v := ?_) rfl (by kernel_rfl) (by kernel_rfl) (by kernel_rfl) (fun _ _ _ h => h) (Or.inl ⟨rfl, ?_⟩) hHeld ?_
                    rotate_left
                    · intro w' hS; obtain ⟨s0, s1⟩ := hS; go_simp <;> with_reducible rfl
                    simp only [Act.put, List.getElem_toArray, List.getElem_cons_succ, List.getElem_cons_zero, List.setIfInBounds_toArray, List.set_cons_succ, List.set_cons_zero]
                    refine wpAnyH_take (i := 1) (v := ?_) rfl (by kernel_rfl) (by kernel_rfl) (by kernel_rfl) (fun _ _ _ h => h) (Or.inl ⟨rfl, ?_⟩) hHeld ?_
                    rotate_left
                    · intro w' hS; obtain ⟨s0, s1⟩ := hS; go_simp <;> with_reducible rfl
                    simp only [Act.put, List.getElem_toArray, List.getElem_cons_succ, List.getElem_cons_zero, List.setIfInBounds_toArray, List.set_cons_succ, List.set_cons_zero]
                    refine wpAnyH_take (i := 2) (v := ?_) rfl (by kernel_rfl) (by kernel_rfl) (by kernel_rfl) (fun _ _ _ h => h) (Or.inl ⟨rfl, ?_⟩) hHeld ?_
                    rotate_left
                    · intro w' hS; obtain ⟨s0, s1⟩ := hS; go_simp <;> with_reducible rfl
                    simp only [Act.put, List.getElem_toArray, List.getElem_cons_succ, List.getElem_cons_zero, List.setIfInBounds_toArray, List.set_cons_succ, List.set_cons_zero]
                    refine wpAnyH_take (i := 3) (v := ?_) rfl (by kernel_rfl) (by kernel_rfl) (by kernel_rfl) (fun _ _ _ h => h) (Or.inl ⟨rfl, ?_⟩) hHeld ?_
                    rotate_left
                    · intro w' hS; obtain ⟨s0, s1⟩ := hS; go_simp <;> with_reducible rfl
                    simp only [Act.put, List.getElem_toArray, List.getElem_cons_succ, List.getElem_cons_zero, List.setIfInBounds_toArray, List.set_cons_succ, List.set_cons_zero]
                    refine wpAnyH_take (i := 4) (v := ?_) rfl (by kernel_rfl) (by kernel_rfl) (by kernel_rfl) (fun _ _ _ h => h) (Or.inl ⟨rfl, ?_⟩) hHeld ?_
                    rotate_left
                    · intro w' hS; obtain ⟨s0, s1⟩ := hS; go_simp <;> with_reducible rfl
                    simp only [Act.put, List.getElem_toArray, List.getElem_cons_succ, List.getElem_cons_zero, List.setIfInBounds_toArray, List.set_cons_succ, List.set_cons_zero]
                    refine wpAnyH_take (i := 5) (v := ?_) rfl (by kernel_rfl) (by kernel_rfl) (by kernel_rfl) (fun _ _ _ h => h) (Or.inl ⟨rfl, ?_⟩) hHeld ?_
                    rotate_left
                    · intro w' hS; obtain ⟨s0, s1⟩ := hS; go_simp <;> with_reducible rfl
                    simp only [Act.put, List.getElem_toArray, List.getElem_cons_succ, List.getElem_cons_zero, List.setIfInBounds_toArray, List.set_cons_succ, List.set_cons_zero]
                    refine wpAnyH_take (i := 6) (v := ?_) rfl (by kernel_rfl) (by kernel_rfl) (by kernel_rfl) (fun _ _ _ h => h) (Or.inl ⟨rfl, ?_⟩) hHeld ?_
                    rotate_left
                    · intro w' hS; obtain ⟨s0, s1⟩ := hS; go_simp <;> with_reducible rfl
                    simp only [Act.put, List.getElem_toArray, List.getElem_cons_succ, List.getElem_cons_zero, List.setIfInBounds_toArray, List.set_cons_succ, List.set_cons_zero]
                    refine wpAnyH_take (i := 7) (v := ?_) rfl (by kernel_rfl) (by kernel_rfl) (by kernel_rfl) (fun _ _ _ h => h) (Or.inl ⟨rfl, ?_⟩) hHeld ?_
                    rotate_left
                    · intro w' hS; obtain ⟨s0, s1⟩ := hS; go_simp <;> with_reducible rfl
                    simp only [Act.put, List.getElem_toArray, List.getElem_cons_succ, List.getElem_cons_zero, List.setIfInBounds_toArray, List.set_cons_succ, List.set_cons_zero]
                    refine wpAnyH_take (i := 8) (v := ?_) rfl (by kernel_rfl) (by kernel_rfl) (by kernel_rfl) (fun _ _ _ h => h) (Or.inl ⟨rfl, ?_⟩) hHeld ?_
                    rotate_left
                    · intro w' hS; obtain ⟨s0, s1⟩ := hS; go_simp <;> with_reducible rfl
                    simp only [Act.put, List.getElem_toArray, List.getElem_cons_succ, List.getElem_cons_zero, List.setIfInBounds_toArray, List.set_cons_succ, List.set_cons_zero]
                    refine wpAnyH_take (i := 9) (v := ?_) rfl (by kernel_rfl) (by kernel_rfl) (by kernel_rfl) (fun _ _ _ h => h) (Or.inl ⟨rfl, ?_⟩) hHeld ?_
                    rotate_left
                    · intro w' hS; obtain ⟨s0, s1⟩ := hS; go_simp <;> with_reducible rfl
                    simp only [Act.put, List.getElem_toArray, List.getElem_cons_succ, List.getElem_cons_zero, List.setIfInBounds_toArray, List.set_cons_succ, List.set_cons_zero]
                    refine wpAnyH_done (by kernel_rfl) ?_ _
                    clear hHeld
                    clear c0 c1 c2 c3
                    go_wp2_with fail
                    refine wp_region_held_drew (S := (fun _ => True)) (by kernel_rfl) trivial (fun hHeld => ?_)
                    have hK2 := (HS.out).drew.drew
                    have t0 := num_cell hK2.o.ways (by simpa using hywl) HWY.out
                    have t1 := num_cell hK2.o.ways (by simpa using hxwl) HWX.out
                    have t2 := hK2.o.ways.open_ y
                    have t3 := hK2.o.ways.lt
                    have KS := Lib.hid ((HS.out).setW HC0.out HD0.out y (wrap64 (wy + wx))).drew.drew
                    have HWW : Hid (wrap64 (wy + wx) = IntKind.i64.wrap (wy + wx)) := by show _ = _; first | (rw [IntKind.wrap_i64]; rfl) | (rw [IntKind.wrap_i64, wrap64]) | (simp only [wrap64, IntKind.wrap_i64]) | (rw [IntKind.wrap_i64]; unfold wrap64; omega)
                    clear hK2
                    refine wpAnyH_take (i := 0) (v := ?_) rfl (by kernel_rfl) (by kernel_rfl) (by kernel_rfl) (fun _ _ _ h => h) (Or.inl ⟨rfl, ?_⟩) hHeld ?_
                    rotate_left
                    · intro w' hS; skip; go_simp <;> with_reducible rfl
                    simp only [Act.put, List.getElem_toArray, List.getElem_cons_succ, List.getElem_cons_zero, List.setIfInBounds_toArray, List.set_cons_succ, List.set_cons_zero]
                    refine wpAnyH_take (i := 1) (v := ?_) rfl (by kernel_rfl) (by kernel_rfl) (by kernel_rfl) (fun _ _ _ h => h) (Or.inl ⟨rfl, ?_⟩) hHeld ?_
                    rotate_left
                    · intro w' hS; skip; go_simp <;> with_reducible rfl
                    simp only [Act.put, List.getElem_toArray, List.getElem_cons_succ, List.getElem_cons_zero, List.setIfInBounds_toArray, List.set_cons_succ, List.set_cons_zero]
                    refine wpAnyH_take (i := 2) (v := ?_) rfl (by kernel_rfl) (by kernel_rfl) (by kernel_rfl) (fun _ _ _ h => h) (Or.inl ⟨rfl, ?_⟩) hHeld ?_
                    rotate_left
                    · intro w' hS; skip; go_simp <;> with_reducible rfl
                    simp only [Act.put, List.getElem_toArray, List.getElem_cons_succ, List.getElem_cons_zero, List.setIfInBounds_toArray, List.set_cons_succ, List.set_cons_zero]
                    refine wpAnyH_take (i := 4) (v := ?_) rfl (by kernel_rfl) (by kernel_rfl) (by kernel_rfl) (fun _ _ _ h => h) (Or.inl ⟨rfl, ?_⟩) hHeld ?_
                    rotate_left
                    · intro w' hS; skip; go_simp <;> with_reducible rfl
                    simp only [Act.put, List.getElem_toArray, List.getElem_cons_succ, List.getElem_cons_zero, List.setIfInBounds_toArray, List.set_cons_succ, List.set_cons_zero]
                    refine wpAnyH_take (i := 5) (v := ?_) rfl (by kernel_rfl) (by kernel_rfl) (by kernel_rfl) (fun _ _ _ h => h) (Or.inl ⟨rfl, ?_⟩) hHeld ?_
                    rotate_left
                    · intro w' hS; skip; go_simp <;> with_reducible rfl
                    simp only [Act.put, List.getElem_toArray, List.getElem_cons_succ, List.getElem_cons_zero, List.setIfInBounds_toArray, List.set_cons_succ, List.set_cons_zero]
                    refine wpAnyH_take (i := 6) (v := ?_) rfl (by kernel_rfl) (by kernel_rfl) (by kernel_rfl) (fun _ _ _ h => h) (Or.inl ⟨rfl, ?_⟩) hHeld ?_
                    rotate_left
                    · intro w' hS; skip; go_simp <;> with_reducible rfl
                    simp only [Act.put, List.getElem_toArray, List.getElem_cons_succ, List.getElem_cons_zero, List.setIfInBounds_toArray, List.set_cons_succ, List.set_cons_zero]
                    refine wpAnyH_ready (rs := [3, 7]) (by kernel_rfl) (by simp) (AllReadyH.cons rfl (fun K hK => ?_) (AllReadyH.cons rfl (fun K hK => ?_) AllReadyH.nil))
                    · go_simp
                      refine hK.out _ _ trivial (fun hHeld => ?_)
                      clear hK K
                      try simp only [Act.put, List.getElem_toArray, List.getElem_cons_succ, List.getElem_cons_zero, List.setIfInBounds_toArray, List.set_cons_succ, List.set_cons_zero]
                      refine wpAnyH_ready (rs := [7]) (by kernel_rfl) (by simp) (AllReadyH.cons rfl (fun K hK => ?_) AllReadyH.nil)
                      go_simp
                      refine hK.out _ _ trivial (fun hHeld => ?_)
                      clear hK K
                      try simp only [Act.put, List.getElem_toArray, List.getElem_cons_succ, List.getElem_cons_zero, List.setIfInBounds_toArray, List.set_cons_succ, List.set_cons_zero]
                      refine wpAnyH_take (i := 8) (v := ?_) rfl (by kernel_rfl) (by kernel_rfl) (by kernel_rfl) (fun _ _ _ h => h) (Or.inl ⟨rfl, ?_⟩) hHeld ?_
                      rotate_left
                      · intro w' hS; skip; go_simp <;> with_reducible rfl
                      simp only [Act.put, List.getElem_toArray, List.getElem_cons_succ, List.getElem_cons_zero, List.setIfInBounds_toArray, List.set_cons_succ, List.set_cons_zero]
                      refine wpAnyH_take (i := 9) (v := ?_) rfl (by kernel_rfl) (by kernel_rfl) (by kernel_rfl) (fun _ _ _ h => h) (Or.inl ⟨rfl, ?_⟩) hHeld ?_
                      rotate_left
                      · intro w' hS; skip; go_simp <;> with_reducible rfl
                      simp only [Act.put, List.getElem_toArray, List.getElem_cons_succ, List.getElem_cons_zero, List.setIfInBounds_toArray, List.set_cons_succ, List.set_cons_zero]
                      refine wpAnyH_ready (rs := [10]) (by kernel_rfl) (by simp) (AllReadyH.cons rfl (fun K hK => ?_) AllReadyH.nil)
                      go_simp
                      refine hK.out _ _ trivial (fun hHeld => ?_)
                      clear hK K
                      try simp only [Act.put, List.getElem_toArray, List.getElem_cons_succ, List.getElem_cons_zero, List.setIfInBounds_toArray, List.set_cons_succ, List.set_cons_zero]
                      refine wpAnyH_done (by kernel_rfl) ?_ _
                      clear hHeld
                      go_wp2_with fail
                      go_roundw
                      case rel => exact ⟨j + 1, by omega, by go_num, by rw [HNX.out, HNN.out, ← HWW.out]; exact KS.out⟩
                      case measure => simp [intOf]; omega
                    · go_simp
                      refine hK.out _ _ trivial (fun hHeld => ?_)
                      clear hK K
                      try simp only [Act.put, List.getElem_toArray, List.getElem_cons_succ, List.getElem_cons_zero, List.setIfInBounds_toArray, List.set_cons_succ, List.set_cons_zero]
                      refine wpAnyH_ready (rs := [3]) (by kernel_rfl) (by simp) (AllReadyH.cons rfl (fun K hK => ?_) AllReadyH.nil)
                      go_simp
                      refine hK.out _ _ trivial (fun hHeld => ?_)
                      clear hK K
                      try simp only [Act.put, List.getElem_toArray, List.getElem_cons_succ, List.getElem_cons_zero, List.setIfInBounds_toArray, List.set_cons_succ, List.set_cons_zero]
                      refine wpAnyH_take (i := 8) (v := ?_) rfl (by kernel_rfl) (by kernel_rfl) (by kernel_rfl) (fun _ _ _ h => h) (Or.inl ⟨rfl, ?_⟩) hHeld ?_
                      rotate_left
                      · intro w' hS; skip; go_simp <;> with_reducible rfl
                      simp only [Act.put, List.getElem_toArray, List.getElem_cons_succ, List.getElem_cons_zero, List.setIfInBounds_toArray, List.set_cons_succ, List.set_cons_zero]
                      refine wpAnyH_take (i := 9) (v := ?_) rfl (by kernel_rfl) (by kernel_rfl) (by kernel_rfl) (fun _ _ _ h => h) (Or.inl ⟨rfl, ?_⟩) hHeld ?_
                      rotate_left
                      · intro w' hS; skip; go_simp <;> with_reducible rfl
                      simp only [Act.put, List.getElem_toArray, List.getElem_cons_succ, List.getElem_cons_zero, List.setIfInBounds_toArray, List.set_cons_succ, List.set_cons_zero]
                      refine wpAnyH_ready (rs := [10]) (by kernel_rfl) (by simp) (AllReadyH.cons rfl (fun K hK => ?_) AllReadyH.nil)
                      go_simp
                      refine hK.out _ _ trivial (fun hHeld => ?_)
                      clear hK K
                      try simp only [Act.put, List.getElem_toArray, List.getElem_cons_succ, List.getElem_cons_zero, List.setIfInBounds_toArray, List.set_cons_succ, List.set_cons_zero]
                      refine wpAnyH_done (by kernel_rfl) ?_ _
                      clear hHeld
                      go_wp2_with fail
                      go_roundw
                      case rel => exact ⟨j + 1, by omega, by go_num, by rw [HNX.out, HNN.out, ← HWW.out]; exact KS.out⟩
                      case measure => simp [intOf]; omega
                  · have hbe : (fy == fx + 1) = false := by simpa using heq
                    have HNN := Lib.hid (stepF_old (W := W) (Q := Q) HY.out (by rw [HFY.out]; exact hneg) HFX.out (by rw [HFY.out]; exact heq))
                    go_wp2_with fail
                    refine wp_region_held_drew (S := (fun w' => w'.cell? ⟨gF, y, none⟩ = some (.int .i64 fy) ∧ w'.cell? ⟨gF, x, none⟩ = some (.int .i64 fx))) (by kernel_rfl) ⟨num_cell (HS.out).drew.o.far (by simpa using hyl) HFY.out, num_cell (HS.out).drew.o.far (by simpa using hxl) HFX.out⟩ (fun hHeld => ?_)
                    refine wpAnyH_take (i := 0) (v := ?_) rfl (by kernel_rfl) (by kernel_rfl) (by kernel_rfl) (fun _ _ _ h => h) (Or.inl ⟨rfl, ?_⟩) hHeld ?_
                    rotate_left
                    · intro w' hS; obtain ⟨s0, s1⟩ := hS; go_simp <;> with_reducible rfl
                    simp only [Act.put, List.getElem_toArray, List.getElem_cons_succ, List.getElem_cons_zero, List.setIfInBounds_toArray, List.set_cons_succ, List.set_cons_zero]
                    refine wpAnyH_take (i := 1) (v := ?_) rfl (by kernel_rfl) (by kernel_rfl) (by kernel_rfl) (fun _ _ _ h => h) (Or.inl ⟨rfl, ?_⟩) hHeld ?_
                    rotate_left
                    · intro w' hS; obtain ⟨s0, s1⟩ := hS; go_simp <;> with_reducible rfl
                    simp only [Act.put, List.getElem_toArray, List.getElem_cons_succ, List.getElem_cons_zero, List.setIfInBounds_toArray, List.set_cons_succ, List.set_cons_zero]
                    refine wpAnyH_take (i := 2) (v := ?_) rfl (by kernel_rfl) (by kernel_rfl) (by kernel_rfl) (fun _ _ _ h => h) (Or.inl ⟨rfl, ?_⟩) hHeld ?_
                    rotate_left
                    · intro w' hS; obtain ⟨s0, s1⟩ := hS; go_simp <;> with_reducible rfl
                    simp only [Act.put, List.getElem_toArray, List.getElem_cons_succ, List.getElem_cons_zero, List.setIfInBounds_toArray, List.set_cons_succ, List.set_cons_zero]
                    refine wpAnyH_take (i := 3) (v := ?_) rfl (by kernel_rfl) (by kernel_rfl) (by kernel_rfl) (fun _ _ _ h => h) (Or.inl ⟨rfl, ?_⟩) hHeld ?_
                    rotate_left
                    · intro w' hS; obtain ⟨s0, s1⟩ := hS; go_simp <;> with_reducible rfl
                    simp only [Act.put, List.getElem_toArray, List.getElem_cons_succ, List.getElem_cons_zero, List.setIfInBounds_toArray, List.set_cons_succ, List.set_cons_zero]
                    refine wpAnyH_take (i := 4) (v := ?_) rfl (by kernel_rfl) (by kernel_rfl) (by kernel_rfl) (fun _ _ _ h => h) (Or.inl ⟨rfl, ?_⟩) hHeld ?_
                    rotate_left
                    · intro w' hS; obtain ⟨s0, s1⟩ := hS; go_simp <;> with_reducible rfl
                    simp only [Act.put, List.getElem_toArray, List.getElem_cons_succ, List.getElem_cons_zero, List.setIfInBounds_toArray, List.set_cons_succ, List.set_cons_zero]
                    refine wpAnyH_take (i := 5) (v := ?_) rfl (by kernel_rfl) (by kernel_rfl) (by kernel_rfl) (fun _ _ _ h => h) (Or.inl ⟨rfl, ?_⟩) hHeld ?_
                    rotate_left
                    · intro w' hS; obtain ⟨s0, s1⟩ := hS; go_simp <;> with_reducible rfl
                    simp only [Act.put, List.getElem_toArray, List.getElem_cons_succ, List.getElem_cons_zero, List.setIfInBounds_toArray, List.set_cons_succ, List.set_cons_zero]
                    refine wpAnyH_take (i := 6) (v := ?_) rfl (by kernel_rfl) (by kernel_rfl) (by kernel_rfl) (fun _ _ _ h => h) (Or.inl ⟨rfl, ?_⟩) hHeld ?_
                    rotate_left
                    · intro w' hS; obtain ⟨s0, s1⟩ := hS; go_simp <;> with_reducible rfl
                    simp only [Act.put, List.getElem_toArray, List.getElem_cons_succ, List.getElem_cons_zero, List.setIfInBounds_toArray, List.set_cons_succ, List.set_cons_zero]
                    refine wpAnyH_take (i := 7) (v := ?_) rfl (by kernel_rfl) (by kernel_rfl) (by kernel_rfl) (fun _ _ _ h => h) (Or.inl ⟨rfl, ?_⟩) hHeld ?_
                    rotate_left
                    · intro w' hS; obtain ⟨s0, s1⟩ := hS; go_simp <;> with_reducible rfl
                    simp only [Act.put, List.getElem_toArray, List.getElem_cons_succ, List.getElem_cons_zero, List.setIfInBounds_toArray, List.set_cons_succ, List.set_cons_zero]
                    refine wpAnyH_take (i := 8) (v := ?_) rfl (by kernel_rfl) (by kernel_rfl) (by kernel_rfl) (fun _ _ _ h => h) (Or.inl ⟨rfl, ?_⟩) hHeld ?_
                    rotate_left
                    · intro w' hS; obtain ⟨s0, s1⟩ := hS; go_simp <;> with_reducible rfl
                    simp only [Act.put, List.getElem_toArray, List.getElem_cons_succ, List.getElem_cons_zero, List.setIfInBounds_toArray, List.set_cons_succ, List.set_cons_zero]
                    refine wpAnyH_take (i := 9) (v := ?_) rfl (by kernel_rfl) (by kernel_rfl) (by kernel_rfl) (fun _ _ _ h => h) (Or.inl ⟨rfl, ?_⟩) hHeld ?_
                    rotate_left
                    · intro w' hS; obtain ⟨s0, s1⟩ := hS; go_simp <;> with_reducible rfl
                    simp only [Act.put, List.getElem_toArray, List.getElem_cons_succ, List.getElem_cons_zero, List.setIfInBounds_toArray, List.set_cons_succ, List.set_cons_zero]
                    refine wpAnyH_done (by kernel_rfl) ?_ _
                    clear hHeld
                    have KS := Lib.hid HS.out.drew
                    go_wp2_with fail
                    go_roundw
                    case rel => exact ⟨j + 1, by omega, by go_num, by rw [HNX.out, HNN.out]; exact KS.out⟩
                    case measure => simp [intOf]; omega
              · obtain rfl : j = gs.length := by omega
                have hd5 : decide ((gs.length : Int) < (gs.length : Int)) = false := by simp
                rw [HALL.out, ← HNF.out] at hS
                have HSO := Lib.hid hS.o
                have HGK := Lib.hid hgk
                have hnb5 : n ≤ 512 := HNB.out
                clear hS hgk
                go_wp2
                go_roundg (gk - 1)
                case measure => have h2 := HGK.out; omega
                case rel =>
                  exact ⟨n + 1, ghost_step HN.out HGK.out, by go_num, HSO.out⟩
          · have hdl : decide ((n : Int) < ((runF k q src n).Q.length : Int)) = false := by simp; omega
            have hst := runF_stay (show (runF k q src n).Q.length ≤ n by omega) (turns k - n)
            rw [show n + (turns k - n) = turns k by omega] at hst
            obtain ⟨ge, oe, cap, rfl, -, -, -, -, -⟩ := hS.que.cellAt
            have HR : Hid (Whole w1 gF 3 (nums (finF k q src).F).toArray ∧ Whole w1 gW 3 (nums (finF k q src).W).toArray ∧ Below w.heap.size w w1) := by
              show _ ∧ _
              rw [finF, hst]
              exact ⟨hS.far, hS.ways, hS.bel⟩
            clear hS hst hm hn
            go_wp2
            go_ret2
            exact ⟨gF, gW, by rw [HZZ.out]; rfl, HR.out.1, HR.out.2.1, HR.out.2.2⟩
end Go.Proofs.Ytjadoehdhbilcaa
