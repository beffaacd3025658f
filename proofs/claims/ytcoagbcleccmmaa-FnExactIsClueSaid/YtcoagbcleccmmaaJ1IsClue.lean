/-
  What is proved: the law FnExactIsClue returns true at every argument, and leaves all that was there as it was. Conditions: the arguments are read as they lie.
-/
import Derived.Deep.RegionHeld3
import Derived.Test.YtcoagbcleccmmaaJ1IsPuzzle
set_option linter.unusedSimpArgs false
set_option linter.unusedVariables false
namespace Go.Proofs.Ytcoagbcleccmmaa
open Go.RowKit

set_option maxHeartbeats 12800000 in
set_option maxRecDepth 100000 in
set_option linter.unusedSimpArgs false in
set_option linter.unusedVariables false in
theorem lawIsClue_small (k0 : Int) (k1 : Int) (k2 : Int) (k3 : Int) (w : World)   :
    Calls Try.prog 3 #[.int .i64 k0, .agg #[.int .i64 k1, .int .i64 k2, .int .i64 k3]] w fun e w' => e = .returned (.bool true) ∧ Below w.heap.size w w' := by
  have hb1 := (Whole.fresh w 23 #[.int .i64 k1, .int .i64 k2, .int .i64 k3])
  have ht := below1 w (.cells #[.int .i64 k1, .int .i64 k2, .int .i64 k3] 23)
  obtain ⟨hb1_0, hb1_1, hb1_2⟩ := hb1.cells3
  have hb1_l := hb1.lt
  go_enter Try.func3, Try.ntmps3
  -- region 1
  go_wp2_with fail
  refine (toClue_any k1 k2 k3 _).mono ?_
  rintro e v1 ⟨rfl, hb⟩
  have hz1 : w.heap.size + 1 ≤ v1.heap.size := by have := hb.size; simpa using this
  replace ht := below_then ht hb ht.size
  replace hb1 := hb1.below hb
  clear hb
  clear hb1_0 hb1_1 hb1_2 hb1_l
  obtain ⟨hb1_0, hb1_1, hb1_2⟩ := hb1.cells3
  have hb1_l := hb1.lt
  go_wp2_with fail
  refine (specIsClue_any k0 k1 k2 k3 _).mono ?_
  rintro e v2 ⟨rfl, hb⟩
  have hz2 : v1.heap.size ≤ v2.heap.size := by have := hb.size; simpa using this
  replace ht := below_then ht hb ht.size
  replace hb1 := hb1.below hb
  clear hb
  clear hb1_0 hb1_1 hb1_2 hb1_l
  obtain ⟨hb1_0, hb1_1, hb1_2⟩ := hb1.cells3
  have hb1_l := hb1.lt
  -- region 2
  go_wp2_with fail
  refine (toClue_any k1 k2 k3 _).mono ?_
  rintro e v3 ⟨rfl, hb⟩
  have hz3 : v2.heap.size ≤ v3.heap.size := by have := hb.size; simpa using this
  replace ht := below_then ht hb ht.size
  replace hb1 := hb1.below hb
  clear hb
  clear hb1_0 hb1_1 hb1_2 hb1_l
  obtain ⟨hb1_0, hb1_1, hb1_2⟩ := hb1.cells3
  have hb1_l := hb1.lt
  go_wp2_with fail
  refine (isClue_any k0 k1 k2 k3 _).mono ?_
  rintro e v4 ⟨rfl, hb⟩
  have hz4 : v3.heap.size ≤ v4.heap.size := by have := hb.size; simpa using this
  replace ht := below_then ht hb ht.size
  replace hb1 := hb1.below hb
  clear hb
  clear hb1_0 hb1_1 hb1_2 hb1_l
  obtain ⟨hb1_0, hb1_1, hb1_2⟩ := hb1.cells3
  have hb1_l := hb1.lt
  go_wp2
  go_ret
  exact ⟨rfl, ht⟩

theorem lawIsClue_all (k0 : Int) (k1 : Int) (k2 : Int) (k3 : Int) (w : World) (_hk0 : -9223372036854775808 ≤ k0 ∧ k0 ≤ 9223372036854775807) :
    Calls Try.prog 3 #[.int .i64 k0, .agg #[.int .i64 k1, .int .i64 k2, .int .i64 k3]] w fun e w' => e = .returned (.bool true) ∧ Below w.heap.size w w' := by
  exact lawIsClue_small k0 k1 k2 k3 w  
end Go.Proofs.Ytcoagbcleccmmaa
