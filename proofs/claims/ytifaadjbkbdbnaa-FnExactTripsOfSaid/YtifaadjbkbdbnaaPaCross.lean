/-
  What is proved: the contract of a trip made by the model. Conditions: the trip is one.
-/
import Derived.Test.YtifaadjbkbdbnaaCross
import Derived.Deep.DeepCutAuto
namespace Go.Proofs.Ytifaadjbkbdbnaa
open Go.RowKit

theorem Fresh.turn {w : World} {lo hi k : Nat} {ty : TypeId} {A : Option Addr} {xs : List Value} (hf : Fresh w lo hi ty A xs) (hk : k < xs.length) :
    ∃ g u, A = some ⟨g, 0, none⟩ ∧ lo ≤ g ∧ g < hi ∧ g < w.heap.size ∧ w.cell? ⟨g, k, none⟩ = some u ∧ w.frozen? ⟨g, k, none⟩ = false ∧ ∀ v, Fresh (w.setCell ⟨g, k, none⟩ v) lo hi ty A (xs.set k v) := by
  rcases hf with rfl | ⟨g, cs, hA, h1, h2, hw, h3, h4⟩
  · simp at hk
  · refine ⟨g, cs[k]'(by omega), hA, h1, h2, hw.lt, (hw.cell k).trans (by simp), hw.open_ k, fun v => .inr ⟨g, _, hA, h1, h2, hw.set_ k v, by simpa using h3, ?_⟩⟩
    rw [List.length_set, Array.toList_setIfInBounds, ← h4, List.take_set, List.length_take]
    congr 2
    simp only [Array.length_toList]
    omega

/-- What stands behind the model's copy of the state. -/
def CrossMid (m : Nat) (bs : List Bool) (t : Bool) (b o d : Nat) (w : World) (v : Value) (wx : World) : Prop :=
  ∃ (g c lo hi : Nat) (A : Option Addr), v = .pointer (some ⟨g, 0, none⟩) ∧ w.heap.size + 1 + 1 ≤ g ∧ w.heap.size + 1 + 1 ≤ lo ∧ (g < lo ∨ hi ≤ g) ∧ hi ≤ wx.heap.size ∧ Whole wx g 35 #[.slice A m c, .bool (!t)] ∧ Fresh wx lo hi 4 A (bits bs) ∧ Whole wx w.heap.size 35 #[.slice (some ⟨b, o, none⟩) m d, .bool t] ∧ Whole wx (w.heap.size + 1) 35 #[.slice none 0 0, .bool false] ∧ Below w.heap.size w wx

end Go.Proofs.Ytifaadjbkbdbnaa
