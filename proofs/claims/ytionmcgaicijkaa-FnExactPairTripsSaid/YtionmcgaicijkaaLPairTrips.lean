/-
  What is proved: the law FnExactPairTrips returns true at every number, and leaves all that was there as it was. Conditions: none.
-/
import Derived.Test.YtionmcgaicijkaaCrowd
namespace Go.Proofs.Ytionmcgaicijkaa
open Go.RowKit

/-- How many trips there are for so many people, 0 where nothing is told. -/
def pairTripsOf (k : Int) : Int := if within k 1 12 then max 1 (2 * k - 3) else 0
theorem pairTripsOf_yes {k : Int} (h : within k 1 12 = true) : pairTripsOf k = max 1 (2 * k - 3) := by simp [pairTripsOf, h]
theorem pairTripsOf_no {k : Int} (h : within k 1 12 = false) : pairTripsOf k = 0 := by simp [pairTripsOf, h]

set_option maxHeartbeats 400000 in
theorem specPairTrips_any (k : Int) (w : World) :
    Calls Try.prog 56 #[.int .i64 k] w fun e w' => e = .returned (.tuple #[.int .i64 (pairTripsOf k), .bool (within k 1 12)]) ∧ w = w' := by
  cases hw : within k 1 12
  · have HN := Lib.hid (pairTripsOf_no hw)
    have HW := Lib.hid hw
    clear hw
    go_enter Try.func56, Try.ntmps56
    go_wp2_with fail
    refine (l1In_any _ _ _ _).mono ?_
    rintro e w' ⟨rfl, rfl⟩
    rw [HW.out]
    go_wp2
    go_ret2
    exact ⟨by rw [HN.out]; rfl, rfl⟩
  · have hk := within_iff.1 hw
    have h1 := hk.1
    have h2 := hk.2
    have HN := Lib.hid (pairTripsOf_yes hw)
    have HW := Lib.hid hw
    clear hw hk
    go_enter Try.func56, Try.ntmps56
    go_wp2_with fail
    refine (l1In_any _ _ _ _).mono ?_
    rintro e w' ⟨rfl, rfl⟩
    rw [HW.out]
    go_wp2_with fail
    refine (l1Most_any _ _ _).mono ?_
    rintro e w' ⟨rfl, rfl⟩
    go_wp2
    go_ret2
    exact ⟨by rw [HN.out]; rfl, rfl⟩

set_option maxHeartbeats 400000 in
theorem implPairTrips_any (k : Int) (w : World) :
    Calls Try.prog 57 #[.int .i64 k] w fun e w' => e = .returned (.tuple #[.int .i64 (pairTripsOf k), .bool (within k 1 12)]) ∧ w = w' := by
  by_cases h1 : k < 1
  · have hw := within_no (hi := 12) (.inl h1)
    have HN := Lib.hid (pairTripsOf_no hw)
    have HW := Lib.hid hw
    clear hw
    go_enter Try.func57, Try.ntmps57
    go_wp2
    go_ret2
    exact ⟨by rw [HN.out, HW.out]; rfl, rfl⟩
  by_cases h2 : 12 < k
  · have hw := within_no (lo := 1) (.inr h2)
    have HN := Lib.hid (pairTripsOf_no hw)
    have HW := Lib.hid hw
    clear hw
    go_enter Try.func57, Try.ntmps57
    go_wp2
    go_ret2
    exact ⟨by rw [HN.out, HW.out]; rfl, rfl⟩
  have h3 : 1 ≤ k := by omega
  have h4 : k ≤ 12 := by omega
  have hw := within_yes h3 h4
  have hm : max 1 (2 * k - 3) = if 1 < 2 * k - 3 then 2 * k - 3 else 1 := by omega
  have HN := Lib.hid (pairTripsOf_yes hw)
  have HW := Lib.hid hw
  clear hw hm
  by_cases h5 : 1 < 2 * k - 3
  all_goals
    go_enter Try.func57, Try.ntmps57
    go_wp2
    go_ret2
    exact ⟨by rw [HN.out, HW.out]; first | rfl | (simp; omega), rfl⟩

set_option maxHeartbeats 400000 in
theorem lawPairTrips_all (k : Int) (w : World) (_hk : -9223372036854775808 ≤ k ∧ k ≤ 9223372036854775807) :
    Calls Try.prog 14 #[.int .i64 k] w fun e w' => e = .returned (.bool true) ∧ Below w.heap.size w w' := by
  go_enter Try.func14, Try.ntmps14
  go_wp2_with fail
  refine (specPairTrips_any _ _).mono ?_
  rintro e w' ⟨rfl, rfl⟩
  go_wp2_with fail
  refine (implPairTrips_any _ _).mono ?_
  rintro e w' ⟨rfl, rfl⟩
  go_wp2
  go_ret
  exact ⟨rfl, Below.refl _ _⟩
end Go.Proofs.Ytionmcgaicijkaa
