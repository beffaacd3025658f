/-
  What is proved: contracts of a trip made, by the model (paCross) and by the program (cross). Conditions: the trip is one; at most eight people.
-/
import Derived.Test.YtpefgleipjjneaaPlay
import Derived.Test.YtpefgleipjjneaaLast
import Derived.Deep.RegionLawGrows
namespace Go.Proofs.Ytpefgleipjjneaa
open Go.RowKit

/-- One cell of the place while the first k people are looked at. -/
def crossAt (bs : List Bool) (l : List Int) (k i : Nat) : Bool := if i < k then bs.getD i false != has l i else bs.getD i false
def crossTo (bs : List Bool) (t : Bool) (l : List Int) (k : Nat) : Array Value := #[.bool (crossAt bs l k 0), .bool (crossAt bs l k 1), .bool (crossAt bs l k 2), .bool (crossAt bs l k 3), .bool (crossAt bs l k 4), .bool (crossAt bs l k 5), .bool (crossAt bs l k 6), .bool (crossAt bs l k 7), .bool t]
theorem crossAt_here (bs : List Bool) (l : List Int) (k : Nat) : crossAt bs l k k = bs.getD k false := by simp [crossAt]
theorem cross_get (bs : List Bool) (t : Bool) (l : List Int) {k : Nat} (h : k < 8) : (crossTo bs t l k)[k]? = some (.bool (bs.getD k false)) := by
  rw [← crossAt_here bs l k]
  match k, h with
  | 0, _ => rfl
  | 1, _ => rfl
  | 2, _ => rfl
  | 3, _ => rfl
  | 4, _ => rfl
  | 5, _ => rfl
  | 6, _ => rfl
  | 7, _ => rfl
theorem cross_skip (bs : List Bool) (t : Bool) {l : List Int} {k : Nat} (h : has l k = false) : crossTo bs t l (k + 1) = crossTo bs t l k := by
  have hh : ∀ i, crossAt bs l (k + 1) i = crossAt bs l k i := by
    intro i
    unfold crossAt
    by_cases h1 : i < k
    · rw [if_pos h1, if_pos (by omega)]
    · by_cases h2 : i = k
      · subst h2; rw [if_pos (by omega), if_neg h1, h]; cases bs.getD i false <;> rfl
      · rw [if_neg h1, if_neg (by omega)]
  simp only [crossTo, hh]
theorem cross_turn (bs : List Bool) (t : Bool) {l : List Int} {k : Nat} (hk : k < 8) (h : has l k = true) : (crossTo bs t l k).setIfInBounds k (.bool (!(bs.getD k false))) = crossTo bs t l (k + 1) := by
  have h1 : crossAt bs l (k + 1) k = !(bs.getD k false) := by
    unfold crossAt; rw [if_pos (by omega), h]; cases bs.getD k false <;> rfl
  have hh : ∀ i, i ≠ k → crossAt bs l (k + 1) i = crossAt bs l k i := by
    intro i hi
    unfold crossAt
    by_cases h1 : i < k
    · rw [if_pos h1, if_pos (by omega)]
    · rw [if_neg h1, if_neg (by omega)]
  rw [← h1]
  unfold crossTo
  match k, hk with
  | 0, _ => simp [hh]
  | 1, _ => simp [hh]
  | 2, _ => simp [hh]
  | 3, _ => simp [hh]
  | 4, _ => simp [hh]
  | 5, _ => simp [hh]
  | 6, _ => simp [hh]
  | 7, _ => simp [hh]
theorem cross_start (bs : List Bool) (t : Bool) (l : List Int) : placeCells bs t = crossTo bs t l 0 := by simp [placeCells, crossTo, crossAt]
theorem cross_end {bs : List Bool} {t : Bool} {l : List Int} (h : ∀ i, bs.length ≤ i → has l i = false) : (crossTo bs t l 8).setIfInBounds 8 (.bool (!t)) = placeCells (flipped bs l) (!t) := by
  have hh : ∀ i, i < 8 → crossAt bs l 8 i = (flipped bs l).getD i false := by
    intro i hi
    rw [crossAt, if_pos hi]
    by_cases h1 : i < bs.length
    · rw [flipped_get bs l h1]
    · rw [flipped_out bs l (by omega), h i (by omega), List.getD_eq_getElem?_getD, List.getElem?_eq_none (by omega)]; rfl
  simp only [crossTo, placeCells, hh 0 (by omega), hh 1 (by omega), hh 2 (by omega), hh 3 (by omega), hh 4 (by omega), hh 5 (by omega), hh 6 (by omega), hh 7 (by omega)]
  rfl
theorem cross_one (bs : List Bool) (t : Bool) (l : List Int) (k : Nat) : (crossTo bs t l k).all (·.oneCell') = true := by simp [crossTo, Value.oneCell']

end Go.Proofs.Ytpefgleipjjneaa
