/-
  What is proved: the law FnExactFirstPairList returns true at every argument, and leaves all that was there as it was. Conditions: the arguments are read as they lie.
-/
import Derived.Deep.RegionHeld3
import Derived.Test.YtgojakcepbdajaaJ1CountPairLists
set_option linter.unusedSimpArgs false
set_option linter.unusedVariables false
namespace Go.Proofs.Ytgojakcepbdajaa
open Go.RowKit

set_option maxHeartbeats 12800000 in
set_option maxRecDepth 100000 in
set_option linter.unusedSimpArgs false in
set_option linter.unusedVariables false in
theorem lawFirstPairList_small (k0 : Int) (k1 : Int) (k2 : Int) (w : World)   :
    Calls Try.prog 4 #[.int .i64 k0, .int .i64 k1, .int .i64 k2] w fun e w' => e = .returned (.bool true) ∧ Below w.heap.size w w' := by
  have ht := Below.refl w.heap.size w
  have hlen : ((firstPr k0 k1 k2)).length ≤ 1048576 := firstPr_le _ _ _
  go_enter Try.func4, Try.ntmps4
  -- region 1
  go_wp2_with fail
  refine (specFirstPairList_on k0 k1 k2 _).mono ?_
  rintro e v1 ⟨B0, q0, rfl, hF0, hb⟩
  have hz1 : w.heap.size ≤ v1.heap.size := by have := hb.size; simpa using this
  replace ht := below_then ht hb ht.size
  replace hF0 := hF0.more (lo' := w.heap.size) (hi' := v1.heap.size) (by simp) (Nat.le_refl _)
  clear hb
  -- region 2
  go_wp2_with fail
  refine (implFirstPairList_on k0 k1 k2 _).mono ?_
  rintro e v2 ⟨B1, q1, rfl, hF1, hb⟩
  have hz2 : v1.heap.size ≤ v2.heap.size := by have := hb.size; simpa using this
  replace ht := below_then ht hb ht.size
  replace hF0 := hF0.below hb
  replace hF1 := hF1.more (lo' := v1.heap.size) (hi' := v2.heap.size) (by simp) (Nat.le_refl _)
  clear hb
  -- region 3
  go_wp2_with fail
  refine (eqIntS_yes B1 B0 ((firstPr k0 k1 k2)).length q1 q0 ((firstPr k0 k1 k2)) _ (by exact hF1.holds) (by exact hF0.holds) rfl (by omega)).mono ?_
  rintro e v3 ⟨rfl, hb⟩
  have hz3 : v2.heap.size ≤ v3.heap.size := by have := hb.size; simpa using this
  replace ht := below_then ht hb ht.size
  replace hF0 := hF0.below hb
  replace hF1 := hF1.below hb
  clear hb
  -- region 6
  go_wp2_with fail
  refine (markIntS_any B1 ((firstPr k0 k1 k2)).length q1 _ _ _ 1 _ hF1 (by rw [nums_len]) (by omega) (by omega) hlen).mono ?_
  rintro e v4 ⟨rfl, hs, hM⟩
  have hsz := ht.size
  replace ht := hs.below ht (by omega) hsz
  replace hF0 := hs.fresh hF0 (by omega)
  clear hs hF1 hsz
  -- region 8
  go_wp2_with fail
  refine (heldIntS_any B1 ((firstPr k0 k1 k2)).length q1 1 _ (by exact hM.holds) (by omega) (by omega) hlen).mono ?_
  rintro e v5 ⟨rfl, rfl⟩
  have hm0 : (0 : Int) ≤ 1 + (((firstPr k0 k1 k2)).length : Int) := by omega
  -- region 13
  go_wp2_with fail
  refine (implFirstPairList_on k0 k1 k2 _).mono ?_
  rintro e v5 ⟨B2, q2, rfl, hF2, hb⟩
  have hz5 : v4.heap.size ≤ v5.heap.size := by have := hb.size; simpa using this
  replace ht := below_then ht hb ht.size
  replace hF0 := hF0.below hb
  replace hM := hM.below hb
  replace hF2 := hF2.more (lo' := v4.heap.size) (hi' := v5.heap.size) (by simp) (Nat.le_refl _)
  clear hb
  -- region 14
  go_wp2_with fail
  refine (eqIntS_yes B2 B0 ((firstPr k0 k1 k2)).length q2 q0 ((firstPr k0 k1 k2)) _ (by exact hF2.holds) (by exact hF0.holds) rfl (by omega)).mono ?_
  rintro e v6 ⟨rfl, hb⟩
  have hz6 : v5.heap.size ≤ v6.heap.size := by have := hb.size; simpa using this
  replace ht := below_then ht hb ht.size
  replace hF0 := hF0.below hb
  replace hM := hM.below hb
  replace hF2 := hF2.below hb
  clear hb
  -- region 17
  go_wp2_with fail
  refine (heldIntS_any B1 ((firstPr k0 k1 k2)).length q1 1 _ (by exact hM.holds) (by omega) (by omega) hlen).mono ?_
  rintro e v7 ⟨rfl, rfl⟩
  go_wp2
  go_ret
  exact ⟨rfl, ht⟩

theorem lawFirstPairList_all (k0 : Int) (k1 : Int) (k2 : Int) (w : World) (_hk0 : -9223372036854775808 ≤ k0 ∧ k0 ≤ 9223372036854775807) (_hk1 : -9223372036854775808 ≤ k1 ∧ k1 ≤ 9223372036854775807) (_hk2 : -9223372036854775808 ≤ k2 ∧ k2 ≤ 9223372036854775807) :
    Calls Try.prog 4 #[.int .i64 k0, .int .i64 k1, .int .i64 k2] w fun e w' => e = .returned (.bool true) ∧ Below w.heap.size w w' := by
  exact lawFirstPairList_small k0 k1 k2 w  
end Go.Proofs.Ytgojakcepbdajaa
