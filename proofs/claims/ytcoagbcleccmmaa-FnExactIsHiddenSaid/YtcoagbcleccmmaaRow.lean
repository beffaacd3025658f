/-
  What is proved: a store of a whole struct or array into a block that is known whole, as one step of a walk. Conditions: the block has just as many cells.
-/
import Derived.Test.YtcoagbcleccmmaaMem
import Derived.Laws.Tables
namespace Go.Proofs.Ytcoagbcleccmmaa
open Go.RowKit

/-- Block g alone may have turned. -/
structure Only (g : Nat) (w w' : World) : Prop where
  os : w'.os = w.os
  tape : w'.tape = w.tape
  output : w'.output = w.output
  size : w'.heap.size = w.heap.size
  block : ∀ k, k ≠ g → w'.heap[k]? = w.heap[k]?

theorem Only.below {g B : Nat} {a w w' : World} (h : Only g w w') (hb : Below B a w) (hg : B ≤ g) : Below B a w' :=
  hb.trans ⟨h.os, h.tape, h.output, by rw [h.size]; exact Nat.le_refl _, fun k hk => h.block k (by omega)⟩
theorem Only.whole {g k : Nat} {w w' : World} {t : TypeId} {cs : Array Value} (h : Only g w w') (hw : Whole w k t cs) (hne : k ≠ g) : Whole w' k t cs := (h.block k hne).trans hw

section
variable {P : Program}
theorem only_setRow (w : World) (g : Nat) (cs : Array Value) : Only g w (w.setRow g cs) :=
  ⟨rfl, rfl, rfl, size_setRow w g cs, fun k hk => by simp [World.setRow, Array.getElem?_modify, Ne.symm hk]⟩
theorem whole_setRow {w : World} {g : Nat} {t : TypeId} {old : Array Value} (cs : Array Value) (h : Whole w g t old) : Whole (w.setRow g cs) g t cs := by
  unfold Whole at h ⊢
  simp [World.setRow, Array.getElem?_modify, h]

theorem wpList_store_whole {ops : Array Oper} {rest : List Oper} {o : Oper} {a : Act} {w : World} {Q : Exit → Act → World → Prop} (hgd : o.guard = none) (ty : TypeId) (x y : Operand) (ho : o.op = .store ty x y)
    (g : Nat) (cells : Array Value) (hx : a.eval x = .pointer (some ⟨g, 0, none⟩)) (hy : a.eval y = .agg cells)
    (t : TypeId) (old : Array Value) (hg : Whole w g t old) (hi : (P.info? ty).map (·.size) = some cells.size)
    (hold : old.size = cells.size) (h1 : cells.all (·.oneCell') = true)
    (h : ∀ w', Whole w' g t cells → Only g w w' → wpList P ops Q rest (a.put o.dst undef) w') : wpList P ops Q (o :: rest) a w :=
  wpList_store_row hgd ty x y ho g cells hx hy t old hg hi hold h1 (h _ (whole_setRow cells hg) (only_setRow w g cells))
end
end Go.Proofs.Ytcoagbcleccmmaa
