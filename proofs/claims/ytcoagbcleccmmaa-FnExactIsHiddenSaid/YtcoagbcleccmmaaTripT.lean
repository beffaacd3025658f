/-
  What is proved: contracts of the model's and the program's TripTime. Conditions: the party's times and the list are read as they lie.
-/
import Derived.Test.YtcoagbcleccmmaaCrowdOf
namespace Go.Proofs.Ytcoagbcleccmmaa
open Go.RowKit

/-- Two lists of one reading are the same. -/
theorem eqIntS_yes (A B : Option Addr) (n c d : Nat) (xs : List Int) (w : World) (hA : Holds w A (nums xs)) (hB : Holds w B (nums xs)) (hx : xs.length = n) (hn : n ≤ 9223372036854775807) :
    Calls Try.prog 26 #[.slice A n c, .slice B n d] w fun e w' => e = .returned (.bool true) ∧ Below w.heap.size w w' :=
  (eqIntS_any A B n n c d xs xs w hA hB hx hx hn hn).mono fun _ _ ⟨he, k, hw⟩ => ⟨by rw [he, sameInts_yes rfl], by rw [hw]; exact below_draws (Below.refl _ _) k⟩

/-- TripTime's number: 0 where the call fails. -/
noncomputable def tripTime (xs : List Int) (n : Nat) (s : Int) (l : List Int) : Int := if isParty xs s && isTrip n s l then slowOf xs l else 0
theorem tripTime_yes {xs l : List Int} {n : Nat} {s : Int} (h1 : isParty xs s = true) (h2 : isTrip n s l = true) : tripTime xs n s l = slowOf xs l := by simp [tripTime, h1, h2]
theorem tripTime_no1 {xs l : List Int} {n : Nat} {s : Int} (h1 : isParty xs s = false) : tripTime xs n s l = 0 := by simp [tripTime, h1]
theorem tripTime_no2 {xs l : List Int} {n : Nat} {s : Int} (h2 : isTrip n s l = false) : tripTime xs n s l = 0 := by simp [tripTime, h2]

theorem trip_steps {n : Nat} {s : Int} {l : List Int} (h : isTrip n s l = true) : StepsTo l (n - 1) l.length := by
  simp only [isTrip, Bool.and_eq_true] at h
  exact rising_steps h.2

end Go.Proofs.Ytcoagbcleccmmaa
