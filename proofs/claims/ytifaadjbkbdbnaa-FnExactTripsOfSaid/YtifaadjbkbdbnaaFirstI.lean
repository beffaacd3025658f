/-
  What is proved: contracts of the program's state of a place and of its FirstState. Conditions: the party's times are read as they lie; at most eight people.
-/
import Derived.Test.YtifaadjbkbdbnaaFirst
import Derived.Deep.RegionHeld3
namespace Go.Proofs.Ytifaadjbkbdbnaa
open Go.RowKit

/-- What a call hands back that makes a state. -/
def StateRes (bs : List Bool) (t : Bool) (w : World) (e : Ending) (w' : World) : Prop :=
  ∃ (A : Option Addr) (c : Nat), e = .returned (.agg #[.slice A bs.length c, .bool t]) ∧ Fresh w' w.heap.size w'.heap.size 4 A (bits bs) ∧ Below w.heap.size w w'

theorem Fresh.set_out {w : World} {lo hi b o : Nat} {ty : TypeId} {A : Option Addr} {xs : List Value} {u : Value} (hf : Fresh w lo hi ty A xs) (hb : b < lo ∨ hi ≤ b) : Fresh (w.setCell ⟨b, o, none⟩ u) lo hi ty A xs := by
  rcases hf with rfl | ⟨g, cs, hA, h1, h2, hw, h3, h4⟩
  · exact .inl rfl
  · exact .inr ⟨g, cs, hA, h1, h2, hw.off (by omega), h3, h4⟩

theorem elem_eight (W : World) : (sizeOf (Try.prog.elem 90)).run Try.prog W = .ok 1 W := by kernel_rfl
theorem len_eight : Try.prog.arrayLen 90 = 8 := by kernel_rfl
theorem arr_eight : Try.prog.underlying 90 = some (.array (Try.prog.arrayLen 90) (Try.prog.elem 90)) := by kernel_rfl
theorem slice_eight (W : World) (g n : Nat) (h : n ≤ 8) : (Instr.sliceAt 90 (.pointer (some ⟨g, 0, none⟩)) none (some (.int .i64 (n : Int))) none).run Try.prog W = .ok (.slice (some ⟨g, 0, none⟩) n 8) W := by
  rw [run_sliceAt_array_h W 90 _ arr_eight .i64 (n : Int) (by omega) (by rw [len_eight]; omega), elem_eight]
  simp [slicedAt, len_eight, Result.andThen, Addr.add]

theorem falses_get (n i : Nat) : (falses n).getD i false = false := by
  simp only [falses, List.getD_eq_getElem?_getD, List.getElem?_replicate]
  split <;> rfl
theorem place_falses (n : Nat) : placeCells (falses n) false = placeCells [] false := by
  simp only [placeCells, falses_get]
  rfl

end Go.Proofs.Ytifaadjbkbdbnaa
