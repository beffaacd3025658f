/-
  What is proved: contracts of the last state, as the model and the program make it. Conditions: the party's times are read as they lie.
-/
import Derived.Test.YtpefgleipjjneaaFirstI
import Derived.Test.YtpefgleipjjneaaRow
namespace Go.Proofs.Ytpefgleipjjneaa
open Go.RowKit

/-- So many people, all over. -/
def trues (n : Nat) : List Bool := List.replicate n true
theorem trues_len (n : Nat) : (trues n).length = n := by simp [trues]
theorem trues_next (n : Nat) : bits (trues n) ++ [.bool true] = bits (trues (n + 1)) := by
  simp [bits, trues, List.replicate_succ']

/-- The places of the last state: none where there is no party. -/
def lastBits (xs : List Int) (n : Nat) (s : Int) : List Bool := if isParty xs s then trues n else []
theorem lastBits_le (xs : List Int) (n : Nat) (s : Int) : (lastBits xs n s).length ≤ n := by
  rw [lastBits]
  split
  · rw [trues_len]; exact Nat.le_refl _
  · simp

theorem place_over (n : Nat) (h : n < 8) : (placeCells (trues n) true).setIfInBounds n (.bool true) = placeCells (trues (n + 1)) true := by
  match n, h with
  | 0, _ => rfl
  | 1, _ => rfl
  | 2, _ => rfl
  | 3, _ => rfl
  | 4, _ => rfl
  | 5, _ => rfl
  | 6, _ => rfl
  | 7, _ => rfl
theorem place_one (bs : List Bool) (t : Bool) : (placeCells bs t).all (·.oneCell') = true := by simp [placeCells, Value.oneCell']

end Go.Proofs.Ytpefgleipjjneaa
