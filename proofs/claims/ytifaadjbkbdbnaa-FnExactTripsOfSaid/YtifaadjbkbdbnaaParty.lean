/-
  What is proved: contracts of the model's and the program's tests of a party. Conditions: the party's times are read as they lie.
-/
import Derived.Test.YtifaadjbkbdbnaaSzTo
namespace Go.Proofs.Ytifaadjbkbdbnaa
open Go.RowKit

/-- Does a number lie within bounds? -/
def within (n lo hi : Int) : Bool := decide (lo ≤ n ∧ n ≤ hi)
theorem within_yes {n lo hi : Int} (h1 : lo ≤ n) (h2 : n ≤ hi) : within n lo hi = true := by simp [within, h1, h2]
theorem within_no {n lo hi : Int} (h : n < lo ∨ hi < n) : within n lo hi = false := by simp [within]; omega
theorem within_iff {n lo hi : Int} : within n lo hi = true ↔ lo ≤ n ∧ n ≤ hi := by simp [within]
theorem within_false {n lo hi : Int} (h : within n lo hi = false) : n < lo ∨ hi < n := by simp [within] at h; omega

set_option maxHeartbeats 400000 in
theorem l1In_any (n lo hi : Int) (w : World) :
    Calls Try.prog 107 #[.int .i64 n, .int .i64 lo, .int .i64 hi] w fun e w' => e = .returned (.bool (within n lo hi)) ∧ w = w' := by
  by_cases h1 : lo ≤ n
  · by_cases h2 : n ≤ hi
    · have HW := Lib.hid (within_yes h1 h2)
      go_enter Try.func107, Try.ntmps107
      go_wp2
      go_ret
      exact ⟨ret_of (by rw [HW.out]; rfl), rfl⟩
    · have HW := Lib.hid (within_no (lo := lo) (.inr (Int.not_le.1 h2)))
      go_enter Try.func107, Try.ntmps107
      go_wp2
      go_ret
      exact ⟨ret_of (by rw [HW.out]; rfl), rfl⟩
  · have HW := Lib.hid (within_no (hi := hi) (.inl (Int.not_le.1 h1)))
    go_enter Try.func107, Try.ntmps107
    go_wp2
    go_ret
    exact ⟨ret_of (by rw [HW.out]; rfl), rfl⟩

/-- Do all numbers lie within bounds? -/
def allIn (xs : List Int) (lo hi : Int) : Bool := xs.all fun x => within x lo hi
theorem allIn_no {xs : List Int} {lo hi : Int} {k : Nat} (h : k < xs.length) (hw : within xs[k] lo hi = false) : allIn xs lo hi = false := by
  rw [allIn, List.all_eq_false]
  exact ⟨xs[k], List.getElem_mem h, by simp [hw]⟩
theorem allIn_yes {xs : List Int} {lo hi : Int} (h : ∀ k (hk : k < xs.length), within xs[k] lo hi = true) : allIn xs lo hi = true := by
  rw [allIn, List.all_eq_true]
  intro x hx
  obtain ⟨k, hk, rfl⟩ := List.getElem_of_mem hx
  exact h k hk

/-- All of the first k numbers lie within the bounds. -/
def SoFar (xs : List Int) (lo hi : Int) (k : Nat) : Prop := ∀ j (h : j < xs.length), j < k → within xs[j] lo hi = true

set_option maxHeartbeats 400000 in
theorem l1All_any (A : Option Addr) (n c : Nat) (xs : List Int) (lo hi : Int) (w : World) (hA : Holds w A (nums xs)) (hx : xs.length = n) (hn : n ≤ 9223372036854775807) :
    Calls Try.prog 108 #[.slice A n c, .int .i64 lo, .int .i64 hi] w fun e w' => e = .returned (.bool (allIn xs lo hi)) ∧ w = w' := by
  subst hx
  go_enter Try.func108, Try.ntmps108
  go_wp2
  go_loop [11] (fun i => ∃ k : Nat, k ≤ xs.length ∧ i = .int .i64 k ∧ SoFar xs lo hi k) (fun i => xs.length - (intOf i).toNat)
  case atStart => exact ⟨0, Nat.zero_le _, rfl, fun j _ hj => absurd hj (by omega)⟩
  case round =>
    obtain ⟨k, hk, rfl, hs⟩ := hrel
    by_cases hlt : k < xs.length
    · obtain ⟨b, o, rfl, hb, hc⟩ := hA.look (k := k) (by simpa [nums] using hlt)
      simp only [nums, List.getElem_map] at hc
      cases hw : within xs[k] lo hi
      · have HN := Lib.hid (allIn_no hlt hw)
        have HW := Lib.hid hw
        clear hw
        go_wp2_with (go_at_call 107; refine (l1In_any _ _ _ _).mono ?_; rintro e w' ⟨rfl, rfl⟩; rw [HW.out])
        go_ret
        exact ⟨ret_of (by rw [HN.out]; rfl), rfl⟩
      · have HW := Lib.hid hw
        clear hw
        go_wp2_with (go_at_call 107; refine (l1In_any _ _ _ _).mono ?_; rintro e w' ⟨rfl, rfl⟩; rw [HW.out])
        go_round
        case rel => exact ⟨k + 1, by omega, by go_num, fun j h hj => (Nat.lt_succ_iff_lt_or_eq.1 hj).elim (hs j h) (fun e => by subst e; exact HW.out)⟩
        case measure => simp [intOf]; omega
    · have HN := Lib.hid (allIn_yes (fun j h => hs j h (by omega)))
      go_wp2
      go_ret
      exact ⟨ret_of (by rw [HN.out]; rfl), rfl⟩

/-- A party, told in plain words: up to eight people with times up to 1000, up to three seats. -/
def isParty (xs : List Int) (s : Int) : Bool := within xs.length 1 8 && (allIn xs 1 1000 && within s 1 3)

set_option maxHeartbeats 400000 in
theorem paGood_any (A : Option Addr) (n c : Nat) (xs : List Int) (s : Int) (w : World) (hA : Holds w A (nums xs)) (hx : xs.length = n) (hn : n ≤ 9223372036854775807) :
    Calls Try.prog 102 #[.agg #[.slice A n c, .int .i64 s]] w fun e w' => e = .returned (.bool (isParty xs s)) ∧ Below w.heap.size w w' := by
  subst hx
  have hB := hA.alloc (.cells #[.slice A xs.length c, .int .i64 s] 33)
  cases h1 : within xs.length 1 8
  · have HP : Hid (isParty xs s = false) := by show _ = _; simp [isParty, h1]
    have H1 := Lib.hid h1
    clear h1
    go_enter Try.func102, Try.ntmps102
    go_wp2_with fail
    refine (l1In_any _ _ _ _).mono ?_
    rintro e w' ⟨rfl, rfl⟩
    rw [H1.out]
    go_wp2
    go_ret
    exact ⟨ret_of (by rw [HP.out]; rfl), below1 w _⟩
  · cases h2 : allIn xs 1 1000
    · have HP : Hid (isParty xs s = false) := by show _ = _; simp [isParty, h2]
      have H1 := Lib.hid h1
      have H2 := Lib.hid h2
      clear h1 h2
      go_enter Try.func102, Try.ntmps102
      go_wp2_with fail
      refine (l1In_any _ _ _ _).mono ?_
      rintro e w' ⟨rfl, rfl⟩
      rw [H1.out]
      go_wp2_with fail
      refine (l1All_any _ _ _ xs _ _ _ hB rfl hn).mono ?_
      rintro e w' ⟨rfl, rfl⟩
      rw [H2.out]
      go_wp2
      go_ret
      exact ⟨ret_of (by rw [HP.out]; rfl), below1 w _⟩
    · have HP : Hid (isParty xs s = within s 1 3) := by show _ = _; simp [isParty, h1, h2]
      have H1 := Lib.hid h1
      have H2 := Lib.hid h2
      clear h1 h2
      go_enter Try.func102, Try.ntmps102
      go_wp2_with fail
      refine (l1In_any _ _ _ _).mono ?_
      rintro e w' ⟨rfl, rfl⟩
      rw [H1.out]
      go_wp2_with fail
      refine (l1All_any _ _ _ xs _ _ _ hB rfl hn).mono ?_
      rintro e w' ⟨rfl, rfl⟩
      rw [H2.out]
      go_wp2_with fail
      refine (l1In_any _ _ _ _).mono ?_
      rintro e w' ⟨rfl, rfl⟩
      go_wp2
      go_ret
      exact ⟨ret_of (by rw [HP.out]; rfl), below1 w _⟩

end Go.Proofs.Ytifaadjbkbdbnaa
