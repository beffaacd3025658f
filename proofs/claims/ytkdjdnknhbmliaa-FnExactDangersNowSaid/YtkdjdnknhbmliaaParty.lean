/-
  What is proved: contracts of the model's and the program's tests of a party. Conditions: the party's times are read as they lie.
-/
import Derived.Test.YtkdjdnknhbmliaaSzTo
namespace Go.Proofs.Ytkdjdnknhbmliaa
open Go.RowKit

/-- Does a number lie within bounds? -/
def within (n lo hi : Int) : Bool := decide (lo ≤ n ∧ n ≤ hi)
theorem within_yes {n lo hi : Int} (h1 : lo ≤ n) (h2 : n ≤ hi) : within n lo hi = true := by simp [within, h1, h2]
theorem within_no {n lo hi : Int} (h : n < lo ∨ hi < n) : within n lo hi = false := by simp [within]; omega
theorem within_iff {n lo hi : Int} : within n lo hi = true ↔ lo ≤ n ∧ n ≤ hi := by simp [within]
theorem within_false {n lo hi : Int} (h : within n lo hi = false) : n < lo ∨ hi < n := by simp [within] at h; omega

set_option maxHeartbeats 400000 in
theorem l1In_any (n lo hi : Int) (w : World) :
    Calls Try.prog 81 #[.int .i64 n, .int .i64 lo, .int .i64 hi] w fun e w' => e = .returned (.bool (within n lo hi)) ∧ w = w' := by
  by_cases h1 : lo ≤ n
  · by_cases h2 : n ≤ hi
    · have HW := Lib.hid (within_yes h1 h2)
      go_enter Try.func81, Try.ntmps81
      go_wp2
      go_ret
      exact ⟨ret_of (by rw [HW.out]; rfl), rfl⟩
    · have HW := Lib.hid (within_no (lo := lo) (.inr (Int.not_le.1 h2)))
      go_enter Try.func81, Try.ntmps81
      go_wp2
      go_ret
      exact ⟨ret_of (by rw [HW.out]; rfl), rfl⟩
  · have HW := Lib.hid (within_no (hi := hi) (.inl (Int.not_le.1 h1)))
    go_enter Try.func81, Try.ntmps81
    go_wp2
    go_ret
    exact ⟨ret_of (by rw [HW.out]; rfl), rfl⟩

/-- Do all numbers lie within bounds? -/
def allIn (xs : List Int) (lo hi : Int) : Bool := xs.all fun x => within x lo hi
theorem allIn_no {xs : List Int} {lo hi : Int} {k : Nat} (h : k < xs.length) (hw : within xs[k] lo hi = false) : allIn xs lo hi = false := by
  rw [allIn, List.all_eq_false]
  exact ⟨xs[k], List.getElem_mem h, by simp [hw]⟩
theorem allIn_yes {xs : List Int} {lo hi : Int} (h : ∀ k (hk : k < xs.length), within xs[k] lo hi = true) : allIn xs lo hi = true := by
  rw [allIn, List.all_eq_true]
  intro x hx
  obtain ⟨k, hk, rfl⟩ := List.getElem_of_mem hx
  exact h k hk

/-- All of the first k numbers lie within the bounds. -/
def SoFar (xs : List Int) (lo hi : Int) (k : Nat) : Prop := ∀ j (h : j < xs.length), j < k → within xs[j] lo hi = true

/-- A party, told in plain words: up to eight people with times up to 1000, up to three seats. -/
def isParty (xs : List Int) (s : Int) : Bool := within xs.length 1 8 && (allIn xs 1 1000 && within s 1 3)

end Go.Proofs.Ytkdjdnknhbmliaa
