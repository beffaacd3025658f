/-
  What is proved: the contract of the program's own IsState. Conditions: the party's times and the state's places are read as they lie.
-/
import Derived.Test.YtcoagbcleccmmaaIsSt
namespace Go.Proofs.Ytcoagbcleccmmaa
open Go.RowKit

theorem isParty_le {xs : List Int} {s : Int} (h : isParty xs s = true) : xs.length ≤ 8 := by
  simp only [isParty, Bool.and_eq_true] at h
  have := (within_iff.1 h.1).2
  omega

end Go.Proofs.Ytcoagbcleccmmaa
