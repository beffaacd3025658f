/-
  What is proved: the law FnExactCountHidden returns true at every argument, and leaves all that was there as it was. Conditions: the arguments are read as they lie.
-/
import Derived.Deep.RegionHeld3
import Derived.Test.YtcoagbcleccmmaaJ1CountSolutions
set_option linter.unusedSimpArgs false
set_option linter.unusedVariables false
namespace Go.Proofs.Ytcoagbcleccmmaa
open Go.RowKit

set_option maxHeartbeats 12800000 in
set_option maxRecDepth 100000 in
set_option linter.unusedSimpArgs false in
set_option linter.unusedVariables false in
theorem lawCountHidden_small (k0 : Int) (w : World)   :
    Calls Try.prog 6 #[.int .i64 k0] w fun e w' => e = .returned (.bool true) ∧ Below w.heap.size w w' := by
  have ht := Below.refl w.heap.size w
  go_enter Try.func6, Try.ntmps6
  -- region 1
  go_wp2_with fail
  refine (specCountHidden_any k0 _).mono ?_
  rintro e v1 ⟨rfl, hb⟩
  have hz1 : w.heap.size ≤ v1.heap.size := by have := hb.size; simpa using this
  replace ht := below_then ht hb ht.size
  clear hb
  -- region 2
  go_wp2_with fail
  refine (implCountHidden_any k0 _).mono ?_
  rintro e v2 ⟨rfl, hb⟩
  have hz2 : v1.heap.size ≤ v2.heap.size := by have := hb.size; simpa using this
  replace ht := below_then ht hb ht.size
  clear hb
  go_wp2
  go_ret
  exact ⟨rfl, ht⟩

theorem lawCountHidden_all (k0 : Int) (w : World) (_hk0 : -9223372036854775808 ≤ k0 ∧ k0 ≤ 9223372036854775807) :
    Calls Try.prog 6 #[.int .i64 k0] w fun e w' => e = .returned (.bool true) ∧ Below w.heap.size w w' := by
  exact lawCountHidden_small k0 w  
end Go.Proofs.Ytcoagbcleccmmaa
