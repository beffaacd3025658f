/-
  What is proved: the cells of a small block that is known whole. Conditions: none.
-/
import Derived.Test.YtcoagbcleccmmaaMem
namespace Go.Proofs.Ytcoagbcleccmmaa
open Go.RowKit

theorem Whole.cells1 {w : World} {g : Nat} {t : TypeId} {a : Value} (h : Whole w g t #[a]) : w.cell? ⟨g, 0, none⟩ = some a := h.cell 0
theorem Whole.cells2 {w : World} {g : Nat} {t : TypeId} {a b : Value} (h : Whole w g t #[a, b]) : w.cell? ⟨g, 0, none⟩ = some a ∧ w.cell? ⟨g, 1, none⟩ = some b := ⟨h.cell 0, h.cell 1⟩
theorem Whole.cells3 {w : World} {g : Nat} {t : TypeId} {a b c : Value} (h : Whole w g t #[a, b, c]) : w.cell? ⟨g, 0, none⟩ = some a ∧ w.cell? ⟨g, 1, none⟩ = some b ∧ w.cell? ⟨g, 2, none⟩ = some c := ⟨h.cell 0, h.cell 1, h.cell 2⟩
end Go.Proofs.Ytcoagbcleccmmaa
