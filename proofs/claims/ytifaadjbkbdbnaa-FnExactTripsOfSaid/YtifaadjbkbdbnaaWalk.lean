/-
  What is proved: the contract of trips made one after the other by the program. Conditions: the lists are read as they lie; at most eight people.
-/
import Derived.Test.YtifaadjbkbdbnaaPaPlay
import Derived.Test.YtifaadjbkbdbnaaCrowds
namespace Go.Proofs.Ytifaadjbkbdbnaa
open Go.RowKit

theorem own_place {w : World} {base g : Nat} {e : TypeId} {size : Nat} {v : Value} {n : Nat} {xs : List Value} {v0 v1 v2 v3 v4 v5 v6 v7 v8 : Value} (h : w.ownsRow base e size v n xs) (hg : g < base) :
    World.ownsRow (((((((((w.setCell ⟨g, 0, none⟩ v0).setCell ⟨g, 1, none⟩ v1).setCell ⟨g, 2, none⟩ v2).setCell ⟨g, 3, none⟩ v3).setCell ⟨g, 4, none⟩ v4).setCell ⟨g, 5, none⟩ v5).setCell ⟨g, 6, none⟩ v6).setCell ⟨g, 7, none⟩ v7).setCell ⟨g, 8, none⟩ v8) base e size v n xs :=
  ownsRow_setCell_below (ownsRow_setCell_below (ownsRow_setCell_below (ownsRow_setCell_below (ownsRow_setCell_below (ownsRow_setCell_below (ownsRow_setCell_below (ownsRow_setCell_below (ownsRow_setCell_below h hg _) hg _) hg _) hg _) hg _) hg _) hg _) hg _) hg _

/-- What walk hands back. -/
def WalkPost (n : Nat) (s : Int) (bs : List Bool) (t : Bool) (ls : List (List Int)) (w : World) (e : Ending) (w' : World) : Prop :=
  ∃ (T : Option Addr) (c : Nat), e = .returned (.tuple #[.slice T (made n s bs t ls) c, .agg (placeCells (ended n s bs t ls).1 (ended n s bs t ls).2)]) ∧ w'.ownsRow (w.heap.size + 1 + 1 + 1) 92 8 (.slice T (made n s bs t ls) c) (made n s bs t ls) (crowdsOf (ls.take (made n s bs t ls))) ∧ Below w.heap.size w w'

end Go.Proofs.Ytifaadjbkbdbnaa
