/-
  What is proved: contracts of TripThatFails, of the model and of the program. Conditions: the arguments are read as they lie.
-/
import Derived.Test.YtifaadjbkbdbnaaWalk
namespace Go.Proofs.Ytifaadjbkbdbnaa
open Go.RowKit

def asked (xs : List Int) (n : Nat) (s : Int) (bs : List Bool) (t : Bool) : Bool := isParty xs s && isState n bs t
noncomputable def failOk (xs : List Int) (n : Nat) (s : Int) (bs : List Bool) (t : Bool) (ls : List (List Int)) : Bool := asked xs n s bs t && (decide (ls.length ≤ 40) && decide (made n s bs t ls ≠ ls.length))
noncomputable def failAt (xs : List Int) (n : Nat) (s : Int) (bs : List Bool) (t : Bool) (ls : List (List Int)) : Int := if failOk xs n s bs t ls then made n s bs t ls else 0
theorem fail_no {xs : List Int} {n : Nat} {s : Int} {bs : List Bool} {t : Bool} {ls : List (List Int)} (h : asked xs n s bs t = false ∨ 40 < ls.length ∨ made n s bs t ls = ls.length) : failOk xs n s bs t ls = false ∧ failAt xs n s bs t ls = 0 := by
  have h0 : failOk xs n s bs t ls = false := by
    rcases h with h | h | h
    · simp [failOk, h]
    · simp [failOk]; omega
    · simp [failOk, h]
  exact ⟨h0, by simp [failAt, h0]⟩
theorem fail_yes {xs : List Int} {n : Nat} {s : Int} {bs : List Bool} {t : Bool} {ls : List (List Int)} (h : asked xs n s bs t = true) (h40 : ls.length ≤ 40) (hm : made n s bs t ls ≠ ls.length) : failOk xs n s bs t ls = true ∧ failAt xs n s bs t ls = made n s bs t ls := by
  have h0 : failOk xs n s bs t ls = true := by simp [failOk, h, h40, hm]
  exact ⟨h0, by simp [failAt, h0]⟩
theorem asked_len {xs : List Int} {n : Nat} {s : Int} {bs : List Bool} {t : Bool} (h : asked xs n s bs t = true) (hx : xs.length = n) : n ≤ 8 ∧ 0 < n ∧ bs.length = n := by
  simp only [asked, Bool.and_eq_true, isState, decide_eq_true_eq] at h
  have h1 := isParty_le h.1
  refine ⟨by omega, ?_, h.2.1⟩
  have h2 := h.1
  simp only [isParty, Bool.and_eq_true] at h2
  have := (within_iff.1 h2.1).1
  omega

/-- What TripThatFails hands back. -/
def FailPost (v : Int) (ok : Bool) (w : World) (e : Ending) (w' : World) : Prop := e = .returned (.tuple #[.int .i64 v, .bool ok]) ∧ Below w.heap.size w w'

end Go.Proofs.Ytifaadjbkbdbnaa
