/-
  What is proved: contracts of the program's state of a place and of its FirstState. Conditions: the party's times are read as they lie; at most eight people.
-/
import Derived.Test.YtcoagbcleccmmaaFirst
import Derived.Deep.RegionHeld3
namespace Go.Proofs.Ytcoagbcleccmmaa
open Go.RowKit

/-- What a call hands back that makes a state. -/
def StateRes (bs : List Bool) (t : Bool) (w : World) (e : Ending) (w' : World) : Prop :=
  ∃ (A : Option Addr) (c : Nat), e = .returned (.agg #[.slice A bs.length c, .bool t]) ∧ Fresh w' w.heap.size w'.heap.size 4 A (bits bs) ∧ Below w.heap.size w w'

theorem Fresh.set_out {w : World} {lo hi b o : Nat} {ty : TypeId} {A : Option Addr} {xs : List Value} {u : Value} (hf : Fresh w lo hi ty A xs) (hb : b < lo ∨ hi ≤ b) : Fresh (w.setCell ⟨b, o, none⟩ u) lo hi ty A xs := by
  rcases hf with rfl | ⟨g, cs, hA, h1, h2, hw, h3, h4⟩
  · exact .inl rfl
  · exact .inr ⟨g, cs, hA, h1, h2, hw.off (by omega), h3, h4⟩

theorem falses_get (n i : Nat) : (falses n).getD i false = false := by
  simp only [falses, List.getD_eq_getElem?_getD, List.getElem?_replicate]
  split <;> rfl
theorem place_falses (n : Nat) : placeCells (falses n) false = placeCells [] false := by
  simp only [placeCells, falses_get]
  rfl

end Go.Proofs.Ytcoagbcleccmmaa
