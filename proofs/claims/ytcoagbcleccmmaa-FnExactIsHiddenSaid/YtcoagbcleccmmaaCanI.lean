/-
  What is proved: contracts of the program's own place of a state, of a trip in it, and of its CanCross. Conditions: the arguments are read as they lie; at most eight people.
-/
import Derived.Test.YtcoagbcleccmmaaCan
import Derived.Test.YtcoagbcleccmmaaRow
namespace Go.Proofs.Ytcoagbcleccmmaa
open Go.RowKit

theorem and_of {a b x y : Bool} (h : a = x) (k : b = y) : (a && b) = (x && y) := by rw [h, k]

/-- What partyPlace hands back. -/
def PlacePost (n : Nat) (xs : List Int) (s : Int) (bs : List Bool) (t : Bool) (w : World) (e : Ending) (w' : World) : Prop :=
  (((isParty xs s && isState n bs t) = true ∧ e = .returned (.tuple #[.agg (placeCells bs t), .bool true])) ∨ ((isParty xs s && isState n bs t) = false ∧ e = .returned (.tuple #[.agg (placeCells [] false), .bool false]))) ∧ Below w.heap.size w w'

/-- The first k people: who is on the list stands where t is. -/
def HoldTo (bs : List Bool) (t : Bool) (l : List Int) (k : Nat) : Prop := ∀ i, i < k → has l i = true → bs.getD i false = t
theorem HoldTo.next {bs : List Bool} {t : Bool} {l : List Int} {k : Nat} (h : HoldTo bs t l k) (hk : has l k = true → bs.getD k false = t) : HoldTo bs t l (k + 1) := fun i hi =>
  (Nat.lt_succ_iff_lt_or_eq.1 hi).elim (h i) (fun e => e ▸ hk)
theorem place_at (bs : List Bool) (t : Bool) {i : Nat} (h : i < 8) : (placeCells bs t)[i]? = some (.bool (bs.getD i false)) := by
  match i, h with
  | 0, _ => rfl
  | 1, _ => rfl
  | 2, _ => rfl
  | 3, _ => rfl
  | 4, _ => rfl
  | 5, _ => rfl
  | 6, _ => rfl
  | 7, _ => rfl
theorem at_of_hold {bs : List Bool} {t : Bool} {l : List Int} {n : Nat} (hs : StepsTo l (n - 1) l.length) (hn : n ≤ 8) (h : HoldTo bs t l 8) : allAt bs t l = true :=
  allAt_yes fun j hj => by
    have hm := mem_steps hs (List.getElem_mem hj)
    exact h (l[j]).toNat (by omega) (has_iff.2 (by rw [Int.toNat_of_nonneg hm.1]; exact List.getElem_mem hj))
theorem at_not {bs : List Bool} {t : Bool} {l : List Int} {i : Nat} (h : has l i = true) (hne : bs.getD i false ≠ t) : allAt bs t l = false := by
  rw [allAt, List.all_eq_false]
  exact ⟨(i : Int), has_iff.1 h, by simpa using hne⟩

theorem can_of {n : Nat} {s : Int} {bs : List Bool} {t : Bool} {l : List Int} {x y : Bool} (h : isTrip n s l = x) (k : allAt bs t l = y) : canGo n s bs t l = (x && y) := and_of h k
theorem crowd_one (l : List Int) : (crowdCells l).all (·.oneCell') = true := by simp [crowdCells, Value.oneCell']

/-- What tripOf hands back. -/
def TripPost (n : Nat) (s : Int) (bs : List Bool) (t : Bool) (l : List Int) (w : World) (e : Ending) (w' : World) : Prop :=
  ((canGo n s bs t l = true ∧ e = .returned (.tuple #[.agg (crowdCells l), .bool true])) ∨ (canGo n s bs t l = false ∧ e = .returned (.tuple #[.agg (crowdCells []), .bool false]))) ∧ Below w.heap.size w w'

end Go.Proofs.Ytcoagbcleccmmaa
