/-
  What is proved: contracts of the first state, as the model and the program make it. Conditions: the party's times are read as they lie.
-/
import Derived.Test.YtcoagbcleccmmaaMark
import Derived.Test.YtcoagbcleccmmaaCanI
import Derived.WalkSpells
namespace Go.Proofs.Ytcoagbcleccmmaa
open Go.RowKit

/-- What a call hands back that makes a list of truth values. -/
def BitsPost (bs : List Bool) (w : World) (e : Ending) (w' : World) : Prop :=
  ∃ (A : Option Addr) (c : Nat), e = .returned (.slice A bs.length c) ∧ Fresh w' w.heap.size w'.heap.size 4 A (bits bs) ∧ Below w.heap.size w w'
/-- What a call hands back that makes a state and tells whether it did. -/
def StatePost (bs : List Bool) (t ok : Bool) (w : World) (e : Ending) (w' : World) : Prop :=
  ∃ (A : Option Addr) (c : Nat), e = .returned (.tuple #[.agg #[.slice A bs.length c, .bool t], .bool ok]) ∧ Fresh w' w.heap.size w'.heap.size 4 A (bits bs) ∧ Below w.heap.size w w'

theorem bits_one (bs : List Bool) : ∀ u ∈ bits bs, u.oneCell' = true := by
  intro v hv
  simp only [bits, List.mem_map] at hv
  obtain ⟨x, -, rfl⟩ := hv
  rfl

/-- So many people, none over. -/
def falses (n : Nat) : List Bool := List.replicate n false
theorem falses_len (n : Nat) : (falses n).length = n := by simp [falses]

/-- The places of the first state: none where there is no party. -/
def firstBits (xs : List Int) (n : Nat) (s : Int) : List Bool := if isParty xs s then falses n else []
theorem firstBits_le (xs : List Int) (n : Nat) (s : Int) : (firstBits xs n s).length ≤ n := by
  rw [firstBits]
  split
  · rw [falses_len]; exact Nat.le_refl _
  · simp

end Go.Proofs.Ytcoagbcleccmmaa
