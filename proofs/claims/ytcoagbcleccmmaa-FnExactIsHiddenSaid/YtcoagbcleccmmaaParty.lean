/-
  What is proved: contracts of the model's and the program's tests of a party. Conditions: the party's times are read as they lie.
-/
import Derived.Test.YtcoagbcleccmmaaSzTo
namespace Go.Proofs.Ytcoagbcleccmmaa
open Go.RowKit

/-- Does a number lie within bounds? -/
def within (n lo hi : Int) : Bool := decide (lo ≤ n ∧ n ≤ hi)
theorem within_yes {n lo hi : Int} (h1 : lo ≤ n) (h2 : n ≤ hi) : within n lo hi = true := by simp [within, h1, h2]
theorem within_no {n lo hi : Int} (h : n < lo ∨ hi < n) : within n lo hi = false := by simp [within]; omega
theorem within_iff {n lo hi : Int} : within n lo hi = true ↔ lo ≤ n ∧ n ≤ hi := by simp [within]
theorem within_false {n lo hi : Int} (h : within n lo hi = false) : n < lo ∨ hi < n := by simp [within] at h; omega

set_option maxHeartbeats 400000 in
theorem l1In_any (n lo hi : Int) (w : World) :
    Calls Try.prog 70 #[.int .i64 n, .int .i64 lo, .int .i64 hi] w fun e w' => e = .returned (.bool (within n lo hi)) ∧ w = w' := by
  by_cases h1 : lo ≤ n
  · by_cases h2 : n ≤ hi
    · have HW := Lib.hid (within_yes h1 h2)
      go_enter Try.func70, Try.ntmps70
      go_wp2
      go_ret
      exact ⟨ret_of (by rw [HW.out]; rfl), rfl⟩
    · have HW := Lib.hid (within_no (lo := lo) (.inr (Int.not_le.1 h2)))
      go_enter Try.func70, Try.ntmps70
      go_wp2
      go_ret
      exact ⟨ret_of (by rw [HW.out]; rfl), rfl⟩
  · have HW := Lib.hid (within_no (hi := hi) (.inl (Int.not_le.1 h1)))
    go_enter Try.func70, Try.ntmps70
    go_wp2
    go_ret
    exact ⟨ret_of (by rw [HW.out]; rfl), rfl⟩

/-- Do all numbers lie within bounds? -/
def allIn (xs : List Int) (lo hi : Int) : Bool := xs.all fun x => within x lo hi
theorem allIn_no {xs : List Int} {lo hi : Int} {k : Nat} (h : k < xs.length) (hw : within xs[k] lo hi = false) : allIn xs lo hi = false := by
  rw [allIn, List.all_eq_false]
  exact ⟨xs[k], List.getElem_mem h, by simp [hw]⟩
theorem allIn_yes {xs : List Int} {lo hi : Int} (h : ∀ k (hk : k < xs.length), within xs[k] lo hi = true) : allIn xs lo hi = true := by
  rw [allIn, List.all_eq_true]
  intro x hx
  obtain ⟨k, hk, rfl⟩ := List.getElem_of_mem hx
  exact h k hk

/-- All of the first k numbers lie within the bounds. -/
def SoFar (xs : List Int) (lo hi : Int) (k : Nat) : Prop := ∀ j (h : j < xs.length), j < k → within xs[j] lo hi = true

set_option maxHeartbeats 400000 in
theorem l1All_any (A : Option Addr) (n c : Nat) (xs : List Int) (lo hi : Int) (w : World) (hA : Holds w A (nums xs)) (hx : xs.length = n) (hn : n ≤ 9223372036854775807) :
    Calls Try.prog 78 #[.slice A n c, .int .i64 lo, .int .i64 hi] w fun e w' => e = .returned (.bool (allIn xs lo hi)) ∧ w = w' := by
  subst hx
  go_enter Try.func78, Try.ntmps78
  go_wp2
  go_loop [11] (fun i => ∃ k : Nat, k ≤ xs.length ∧ i = .int .i64 k ∧ SoFar xs lo hi k) (fun i => xs.length - (intOf i).toNat)
  case atStart => exact ⟨0, Nat.zero_le _, rfl, fun j _ hj => absurd hj (by omega)⟩
  case round =>
    obtain ⟨k, hk, rfl, hs⟩ := hrel
    by_cases hlt : k < xs.length
    · obtain ⟨b, o, rfl, hb, hc⟩ := hA.look (k := k) (by simpa [nums] using hlt)
      simp only [nums, List.getElem_map] at hc
      cases hw : within xs[k] lo hi
      · have HN := Lib.hid (allIn_no hlt hw)
        have HW := Lib.hid hw
        clear hw
        go_wp2_with (go_at_call 70; refine (l1In_any _ _ _ _).mono ?_; rintro e w' ⟨rfl, rfl⟩; rw [HW.out])
        go_ret
        exact ⟨ret_of (by rw [HN.out]; rfl), rfl⟩
      · have HW := Lib.hid hw
        clear hw
        go_wp2_with (go_at_call 70; refine (l1In_any _ _ _ _).mono ?_; rintro e w' ⟨rfl, rfl⟩; rw [HW.out])
        go_round
        case rel => exact ⟨k + 1, by omega, by go_num, fun j h hj => (Nat.lt_succ_iff_lt_or_eq.1 hj).elim (hs j h) (fun e => by subst e; exact HW.out)⟩
        case measure => simp [intOf]; omega
    · have HN := Lib.hid (allIn_yes (fun j h => hs j h (by omega)))
      go_wp2
      go_ret
      exact ⟨ret_of (by rw [HN.out]; rfl), rfl⟩

/-- A party, told in plain words: up to eight people with times up to 1000, up to three seats. -/
def isParty (xs : List Int) (s : Int) : Bool := within xs.length 1 8 && (allIn xs 1 1000 && within s 1 3)

end Go.Proofs.Ytcoagbcleccmmaa
