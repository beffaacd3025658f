/-
  What is proved: the law FnExactCountGuarded returns true at every argument, and leaves all that was there as it was. Conditions: none.
-/
import Derived.Test.YteeolclnoblkcaaGuardC
namespace Go.Proofs.Yteeolclnoblkcaa
open Go.RowKit

set_option maxHeartbeats 800000 in
theorem lawCountGuarded_all (k k2 : Int) (w : World) (_hk : -9223372036854775808 ≤ k ∧ k ≤ 9223372036854775807) (_hk2 : -9223372036854775808 ≤ k2 ∧ k2 ≤ 9223372036854775807) :
    Calls Try.prog 14 #[.int .i64 k, .int .i64 k2] w fun e w' => e = .returned (.bool true) ∧ Below w.heap.size w w' := by
  go_enter Try.func14, Try.ntmps14
  go_wp2_with fail
  refine (specCountGuarded_any _ _ _).mono ?_
  rintro e w' ⟨rfl, rfl⟩
  go_wp2_with fail
  refine (implCountGuarded_any _ _ _).mono ?_
  rintro e w' ⟨rfl, hb⟩
  go_wp2
  go_ret
  exact ⟨rfl, hb⟩
end Go.Proofs.Yteeolclnoblkcaa
