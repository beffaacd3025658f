/-
  What is proved: the law FnExactFirstCamp returns true at every argument, and leaves all that was there as it was. Conditions: the arguments are read as they lie.
-/
import Derived.Deep.RegionHeld3
import Derived.Test.YtifaadjbkbdbnaaJ4CanRound
set_option linter.unusedSimpArgs false
set_option linter.unusedVariables false
namespace Go.Proofs.Ytifaadjbkbdbnaa
open Go.RowKit

set_option maxHeartbeats 800000 in
set_option linter.unusedVariables false in
theorem lawFirstCamp_big0 (A0 : Option Addr) (n0 c0 : Nat) (x0 : List Int) (k0 : Int) (k1 : Int) (w : World) (h0 : Holds w A0 (nums x0)) (hx0 : x0.length = n0) (hn0 : n0 ≤ 9223372036854775807)  (hbig : 1048576 - (n0 : Int) < 0) :
    Calls Try.prog 6 #[.agg #[.slice A0 n0 c0, .int .i64 k0, .int .i64 k1]] w fun e w' => e = .returned (.bool true) ∧ Below w.heap.size w w' := by
  have hb0 := (Whole.fresh w 45 #[.slice A0 n0 c0, .int .i64 k0, .int .i64 k1])
  have ht := below1 w (.cells #[.slice A0 n0 c0, .int .i64 k0, .int .i64 k1] 45)
  have HX0 := Lib.hid hx0
  clear hx0
  obtain ⟨hb0_0, hb0_1, hb0_2⟩ := hb0.cells3
  have hb0_l := hb0.lt
  go_enter Try.func6, Try.ntmps6
  go_wp2_with fail
  refine (szNight_any A0 n0 c0 k0 k1 (1048576) _ (by omega) (by omega) (by omega)).mono ?_
  rintro e v1 ⟨rfl, hb⟩
  rw [if_pos (by omega)]
  have hz1 : w.heap.size + 1 ≤ v1.heap.size := by have := hb.size; simpa using this
  replace ht := below_then ht hb ht.size
  replace hb0 := hb0.below hb
  clear hb
  clear hb0_0 hb0_1 hb0_2 hb0_l
  go_wp2
  go_ret
  exact ⟨rfl, ht⟩

set_option maxHeartbeats 12800000 in
set_option maxRecDepth 100000 in
set_option linter.unusedSimpArgs false in
set_option linter.unusedVariables false in
theorem lawFirstCamp_small (A0 : Option Addr) (n0 c0 : Nat) (x0 : List Int) (k0 : Int) (k1 : Int) (w : World) (h0 : Holds w A0 (nums x0)) (hx0 : x0.length = n0) (hn0 : n0 ≤ 9223372036854775807) (g0 : 0 ≤ 1048576 - (n0 : Int)) :
    Calls Try.prog 6 #[.agg #[.slice A0 n0 c0, .int .i64 k0, .int .i64 k1]] w fun e w' => e = .returned (.bool true) ∧ Below w.heap.size w w' := by
  have hb0 := (Whole.fresh w 45 #[.slice A0 n0 c0, .int .i64 k0, .int .i64 k1])
  have ht := below1 w (.cells #[.slice A0 n0 c0, .int .i64 k0, .int .i64 k1] 45)
  have HX0 := Lib.hid hx0
  clear hx0
  have hlen : ((campBits x0 n0 k0 k1)).length ≤ 1048576 := Nat.le_trans (campBits_le _ _ _ _) (by omega)
  obtain ⟨hb0_0, hb0_1, hb0_2⟩ := hb0.cells3
  have hb0_l := hb0.lt
  go_enter Try.func6, Try.ntmps6
  -- region 2
  go_wp2_with fail
  refine (szNight_any A0 n0 c0 k0 k1 (1048576) _ (by omega) (by omega) (by omega)).mono ?_
  rintro e v1 ⟨rfl, hb⟩
  rw [if_neg (by omega)]
  have hz1 : w.heap.size + 1 ≤ v1.heap.size := by have := hb.size; simpa using this
  replace ht := below_then ht hb ht.size
  replace hb0 := hb0.below hb
  clear hb
  clear hb0_0 hb0_1 hb0_2 hb0_l
  obtain ⟨hb0_0, hb0_1, hb0_2⟩ := hb0.cells3
  have hb0_l := hb0.lt
  -- region 5
  go_wp2_with fail
  refine (toNight_own A0 n0 c0 x0 k0 k1 _ (by exact h0.below ht) HX0.out (by omega)).mono ?_
  rintro e v2 ⟨gp0, rfl, hgp0, hwp0, hb⟩
  have hz2 : v1.heap.size ≤ v2.heap.size := by have := hb.size; simpa using this
  replace ht := below_then ht hb ht.size
  replace hb0 := hb0.below hb
  have hp0 := Fresh.of_whole (lo := v1.heap.size) (hi := v2.heap.size) hwp0 (by simpa using hgp0) hwp0.lt
  clear hgp0 hwp0
  clear hb
  clear hb0_0 hb0_1 hb0_2 hb0_l
  obtain ⟨hb0_0, hb0_1, hb0_2⟩ := hb0.cells3
  have hb0_l := hb0.lt
  go_wp2_with fail
  refine (specFirstCamp_any _ n0 _ x0 k0 k1 _ (by exact hp0.holds) HX0.out (by omega)).mono ?_
  rintro e v3 ⟨B0, q0, rfl, hF0, hb⟩
  have hz3 : v2.heap.size ≤ v3.heap.size := by have := hb.size; simpa using this
  replace ht := below_then ht hb ht.size
  replace hb0 := hb0.below hb
  replace hp0 := hp0.below hb
  replace hF0 := hF0.more (lo' := v2.heap.size) (hi' := v3.heap.size) (by simp) (Nat.le_refl _)
  have hR0 := Whole.fresh v3 56 #[.slice B0 ((campBits x0 n0 k0 k1)).length q0, .int .i64 (0 : Int)]
  replace ht := ht.alloc ht.size (.cells #[.slice B0 ((campBits x0 n0 k0 k1)).length q0, .int .i64 (0 : Int)] 56)
  replace hb0 := hb0.alloc (.cells #[.slice B0 ((campBits x0 n0 k0 k1)).length q0, .int .i64 (0 : Int)] 56)
  replace hp0 := hp0.alloc (.cells #[.slice B0 ((campBits x0 n0 k0 k1)).length q0, .int .i64 (0 : Int)] 56)
  replace hF0 := hF0.alloc (.cells #[.slice B0 ((campBits x0 n0 k0 k1)).length q0, .int .i64 (0 : Int)] 56)
  clear hb
  clear hp0
  clear hb0_0 hb0_1 hb0_2 hb0_l
  obtain ⟨hb0_0, hb0_1, hb0_2⟩ := hb0.cells3
  have hb0_l := hb0.lt
  obtain ⟨hR0_0, hR0_1⟩ := hR0.cells2
  have hR0_l := hR0.lt
  -- region 6
  go_wp2_with fail
  refine (toNight_own A0 n0 c0 x0 k0 k1 _ (by exact h0.below ht) HX0.out (by omega)).mono ?_
  rintro e v4 ⟨gx0, rfl, hgx0, hwx0, hb⟩
  have hz4 : v3.heap.size + 1 ≤ v4.heap.size := by have := hb.size; simpa using this
  replace ht := below_then ht hb ht.size
  replace hb0 := hb0.below hb
  replace hF0 := hF0.below hb
  replace hR0 := hR0.below hb
  have hx0 := Fresh.of_whole (lo := v3.heap.size + 1) (hi := v4.heap.size) hwx0 (by simpa using hgx0) hwx0.lt
  clear hgx0 hwx0
  clear hb
  have hx90 := Whole.fresh v4 48 #[.slice (some ⟨gx0, 0, none⟩) n0 n0, .int .i64 k0, .int .i64 k1]
  replace ht := ht.alloc ht.size (.cells #[.slice (some ⟨gx0, 0, none⟩) n0 n0, .int .i64 k0, .int .i64 k1] 48)
  replace hb0 := hb0.alloc (.cells #[.slice (some ⟨gx0, 0, none⟩) n0 n0, .int .i64 k0, .int .i64 k1] 48)
  replace hF0 := hF0.alloc (.cells #[.slice (some ⟨gx0, 0, none⟩) n0 n0, .int .i64 k0, .int .i64 k1] 48)
  replace hR0 := hR0.alloc (.cells #[.slice (some ⟨gx0, 0, none⟩) n0 n0, .int .i64 k0, .int .i64 k1] 48)
  replace hx0 := hx0.alloc (.cells #[.slice (some ⟨gx0, 0, none⟩) n0 n0, .int .i64 k0, .int .i64 k1] 48)
  clear hb0_0 hb0_1 hb0_2 hb0_l hR0_0 hR0_1 hR0_l
  obtain ⟨hb0_0, hb0_1, hb0_2⟩ := hb0.cells3
  have hb0_l := hb0.lt
  obtain ⟨hR0_0, hR0_1⟩ := hR0.cells2
  have hR0_l := hR0.lt
  obtain ⟨hx90_0, hx90_1, hx90_2⟩ := hx90.cells3
  have hx90_l := hx90.lt
  -- region 7
  go_wp2_with fail
  refine (implFirstCamp_any _ n0 _ x0 k0 k1 _ (by exact hx0.holds) HX0.out (by omega)).mono ?_
  rintro e v5 ⟨B1, q1, rfl, hF1, hb⟩
  have hz5 : v4.heap.size + 1 ≤ v5.heap.size := by have := hb.size; simpa using this
  replace ht := below_then ht hb ht.size
  replace hb0 := hb0.below hb
  replace hF0 := hF0.below hb
  replace hR0 := hR0.below hb
  replace hx0 := hx0.below hb
  replace hx90 := hx90.below hb
  replace hF1 := hF1.more (lo' := v4.heap.size + 1) (hi' := v5.heap.size) (by simp) (Nat.le_refl _)
  have hR1 := Whole.fresh v5 56 #[.slice B1 ((campBits x0 n0 k0 k1)).length q1, .int .i64 (0 : Int)]
  replace ht := ht.alloc ht.size (.cells #[.slice B1 ((campBits x0 n0 k0 k1)).length q1, .int .i64 (0 : Int)] 56)
  replace hb0 := hb0.alloc (.cells #[.slice B1 ((campBits x0 n0 k0 k1)).length q1, .int .i64 (0 : Int)] 56)
  replace hF0 := hF0.alloc (.cells #[.slice B1 ((campBits x0 n0 k0 k1)).length q1, .int .i64 (0 : Int)] 56)
  replace hR0 := hR0.alloc (.cells #[.slice B1 ((campBits x0 n0 k0 k1)).length q1, .int .i64 (0 : Int)] 56)
  replace hx0 := hx0.alloc (.cells #[.slice B1 ((campBits x0 n0 k0 k1)).length q1, .int .i64 (0 : Int)] 56)
  replace hx90 := hx90.alloc (.cells #[.slice B1 ((campBits x0 n0 k0 k1)).length q1, .int .i64 (0 : Int)] 56)
  replace hF1 := hF1.alloc (.cells #[.slice B1 ((campBits x0 n0 k0 k1)).length q1, .int .i64 (0 : Int)] 56)
  clear hb
  clear hb0_0 hb0_1 hb0_2 hb0_l hR0_0 hR0_1 hR0_l hx90_0 hx90_1 hx90_2 hx90_l
  obtain ⟨hb0_0, hb0_1, hb0_2⟩ := hb0.cells3
  have hb0_l := hb0.lt
  obtain ⟨hR0_0, hR0_1⟩ := hR0.cells2
  have hR0_l := hR0.lt
  obtain ⟨hx90_0, hx90_1, hx90_2⟩ := hx90.cells3
  have hx90_l := hx90.lt
  obtain ⟨hR1_0, hR1_1⟩ := hR1.cells2
  have hR1_l := hR1.lt
  -- region 8
  go_wp2_with fail
  refine (eqCamp_yes B1 B0 ((campBits x0 n0 k0 k1)).length q1 q0 ((campBits x0 n0 k0 k1)) (0 : Int) _ (by exact hF1.holds) (by exact hF0.holds) rfl (by omega)).mono ?_
  rintro e v6 ⟨rfl, hb⟩
  have hz6 : v5.heap.size + 1 ≤ v6.heap.size := by have := hb.size; simpa using this
  replace ht := below_then ht hb ht.size
  replace hb0 := hb0.below hb
  replace hF0 := hF0.below hb
  replace hR0 := hR0.below hb
  replace hx0 := hx0.below hb
  replace hx90 := hx90.below hb
  replace hF1 := hF1.below hb
  replace hR1 := hR1.below hb
  clear hb
  clear hb0_0 hb0_1 hb0_2 hb0_l hR0_0 hR0_1 hR0_l hx90_0 hx90_1 hx90_2 hx90_l hR1_0 hR1_1 hR1_l
  obtain ⟨hb0_0, hb0_1, hb0_2⟩ := hb0.cells3
  have hb0_l := hb0.lt
  obtain ⟨hR0_0, hR0_1⟩ := hR0.cells2
  have hR0_l := hR0.lt
  obtain ⟨hx90_0, hx90_1, hx90_2⟩ := hx90.cells3
  have hx90_l := hx90.lt
  obtain ⟨hR1_0, hR1_1⟩ := hR1.cells2
  have hR1_l := hR1.lt
  -- region 10
  clear hb0_0 hb0_1 hb0_2 hb0_l hR0_0 hR0_1 hR0_l hx90_0 hx90_1 hx90_2 hx90_l hR1_0 hR1_1 hR1_l
  go_wp2_with fail
  refine wp_region_held_drew (S := (fun w' => w'.cell? ⟨w.heap.size, 0, none⟩ = some (.slice A0 n0 c0) ∧ w'.cell? ⟨w.heap.size, 1, none⟩ = some (.int .i64 k0) ∧ w'.cell? ⟨w.heap.size, 2, none⟩ = some (.int .i64 k1) ∧ w'.cell? ⟨v3.heap.size, 0, none⟩ = some (.slice B0 ((campBits x0 n0 k0 k1)).length q0) ∧ w'.cell? ⟨v3.heap.size, 1, none⟩ = some (.int .i64 (0 : Int)) ∧ w'.cell? ⟨v4.heap.size, 0, none⟩ = some (.slice (some ⟨gx0, 0, none⟩) n0 n0) ∧ w'.cell? ⟨v4.heap.size, 1, none⟩ = some (.int .i64 k0) ∧ w'.cell? ⟨v4.heap.size, 2, none⟩ = some (.int .i64 k1) ∧ w'.cell? ⟨v5.heap.size, 0, none⟩ = some (.slice B1 ((campBits x0 n0 k0 k1)).length q1) ∧ w'.cell? ⟨v5.heap.size, 1, none⟩ = some (.int .i64 (0 : Int)))) (by kernel_rfl) ⟨hb0.drew.cell 0, hb0.drew.cell 1, hb0.drew.cell 2, hR0.drew.cell 0, hR0.drew.cell 1, hx90.drew.cell 0, hx90.drew.cell 1, hx90.drew.cell 2, hR1.drew.cell 0, hR1.drew.cell 1⟩ (fun hHeld => ?_)
  replace ht := ht.drew
  replace hb0 := hb0.drew
  replace hF0 := hF0.drew
  replace hR0 := hR0.drew
  replace hx0 := hx0.drew
  replace hx90 := hx90.drew
  replace hF1 := hF1.drew
  replace hR1 := hR1.drew
  refine wpAnyH_take (i := 0) (v := ?_) rfl (by kernel_rfl) (by kernel_rfl) (by kernel_rfl) (fun _ _ _ h => h) (Or.inl ⟨rfl, ?_⟩) hHeld ?_
  rotate_left
  · intro w' hS; obtain ⟨s0, s1, s2, s3, s4, s5, s6, s7, s8, s9⟩ := hS; go_simp <;> with_reducible rfl
  simp only [Act.put, List.getElem_toArray, List.getElem_cons_succ, List.getElem_cons_zero, List.setIfInBounds_toArray, List.set_cons_succ, List.set_cons_zero]
  refine wpAnyH_take (i := 1) (v := ?_) rfl (by kernel_rfl) (by kernel_rfl) (by kernel_rfl) (fun _ _ _ h => h) (Or.inl ⟨rfl, ?_⟩) hHeld ?_
  rotate_left
  · intro w' hS; obtain ⟨s0, s1, s2, s3, s4, s5, s6, s7, s8, s9⟩ := hS; go_simp <;> with_reducible rfl
  simp only [Act.put, List.getElem_toArray, List.getElem_cons_succ, List.getElem_cons_zero, List.setIfInBounds_toArray, List.set_cons_succ, List.set_cons_zero]
  refine wpAnyH_ready (rs := [2]) (by kernel_rfl) (by simp) (AllReadyH.cons rfl (fun K hK => ?_) AllReadyH.nil)
  go_simp
  refine (toNight_own A0 n0 c0 x0 k0 k1 _ (by exact h0.below ht) HX0.out (by omega)).mono ?_
  rintro e v7 ⟨gy0, rfl, hgy0, hwy0, hb⟩
  have hz7 : v6.heap.size ≤ v7.heap.size := by have := hb.size; simpa using this
  replace ht := below_then ht hb ht.size
  replace hb0 := hb0.below hb
  replace hF0 := hF0.below hb
  replace hR0 := hR0.below hb
  replace hx0 := hx0.below hb
  replace hx90 := hx90.below hb
  replace hF1 := hF1.below hb
  replace hR1 := hR1.below hb
  have hy0 := Fresh.of_whole (lo := v6.heap.size) (hi := v7.heap.size) hwy0 (by simpa using hgy0) hwy0.lt
  clear hgy0 hwy0
  clear hb
  refine hK.out _ _ ⟨hb0.cell 0, hb0.cell 1, hb0.cell 2, hR0.cell 0, hR0.cell 1, hx90.cell 0, hx90.cell 1, hx90.cell 2, hR1.cell 0, hR1.cell 1⟩ (fun hHeld => ?_)
  clear hK K
  try simp only [Act.put, List.getElem_toArray, List.getElem_cons_succ, List.getElem_cons_zero, List.setIfInBounds_toArray, List.set_cons_succ, List.set_cons_zero]
  refine wpAnyH_ready (rs := [3]) (by kernel_rfl) (by simp) (AllReadyH.cons rfl (fun K hK => ?_) AllReadyH.nil)
  go_simp
  refine (eqNight_yes _ _ n0 _ _ x0 k0 k1 _ (by exact hx0.holds) (by exact hy0.holds) HX0.out (by omega)).mono ?_
  rintro e v8 ⟨rfl, hb⟩
  have hz8 : v7.heap.size ≤ v8.heap.size := by have := hb.size; simpa using this
  replace ht := below_then ht hb ht.size
  replace hb0 := hb0.below hb
  replace hF0 := hF0.below hb
  replace hR0 := hR0.below hb
  replace hx0 := hx0.below hb
  replace hx90 := hx90.below hb
  replace hF1 := hF1.below hb
  replace hR1 := hR1.below hb
  replace hy0 := hy0.below hb
  clear hb
  clear hy0
  refine hK.out _ _ ⟨hb0.cell 0, hb0.cell 1, hb0.cell 2, hR0.cell 0, hR0.cell 1, hx90.cell 0, hx90.cell 1, hx90.cell 2, hR1.cell 0, hR1.cell 1⟩ (fun hHeld => ?_)
  clear hK K
  try simp only [Act.put, List.getElem_toArray, List.getElem_cons_succ, List.getElem_cons_zero, List.setIfInBounds_toArray, List.set_cons_succ, List.set_cons_zero]
  refine wpAnyH_take (i := 4) (v := ?_) rfl (by kernel_rfl) (by kernel_rfl) (by kernel_rfl) (fun _ _ _ h => h) (Or.inl ⟨rfl, ?_⟩) hHeld ?_
  rotate_left
  · intro w' hS; obtain ⟨s0, s1, s2, s3, s4, s5, s6, s7, s8, s9⟩ := hS; go_simp <;> with_reducible rfl
  simp only [Act.put, List.getElem_toArray, List.getElem_cons_succ, List.getElem_cons_zero, List.setIfInBounds_toArray, List.set_cons_succ, List.set_cons_zero]
  refine wpAnyH_done (by kernel_rfl) ?_ _
  clear hHeld
  obtain ⟨hb0_0, hb0_1, hb0_2⟩ := hb0.cells3
  have hb0_l := hb0.lt
  obtain ⟨hR0_0, hR0_1⟩ := hR0.cells2
  have hR0_l := hR0.lt
  obtain ⟨hx90_0, hx90_1, hx90_2⟩ := hx90.cells3
  have hx90_l := hx90.lt
  obtain ⟨hR1_0, hR1_1⟩ := hR1.cells2
  have hR1_l := hR1.lt
  -- region 13
  go_wp2_with fail
  refine (markNight_any (some ⟨gx0, 0, none⟩) n0 n0 _ _ _ k0 k1 (1) _ hx0 (by rw [nums_len]; exact HX0.out) (by omega) (by omega) (by omega)).mono ?_
  rintro e v9 ⟨rfl, hs, -⟩
  have hsz := ht.size
  replace ht := hs.below ht (by omega) hsz
  replace hb0 := hs.whole hb0 (by omega)
  replace hF0 := hs.fresh hF0 (by omega)
  replace hR0 := hs.whole hR0 (by omega)
  replace hF1 := hs.fresh hF1 (by omega)
  replace hR1 := hs.whole hR1 (by omega)
  clear hs hsz hx0 hx90
  have hk_1 : (0 : Int) ≤ 1 + (n0 : Int) := by omega
  clear hb0_0 hb0_1 hb0_2 hb0_l hR0_0 hR0_1 hR0_l hx90_0 hx90_1 hx90_2 hx90_l hR1_0 hR1_1 hR1_l
  obtain ⟨hb0_0, hb0_1, hb0_2⟩ := hb0.cells3
  have hb0_l := hb0.lt
  obtain ⟨hR0_0, hR0_1⟩ := hR0.cells2
  have hR0_l := hR0.lt
  obtain ⟨hR1_0, hR1_1⟩ := hR1.cells2
  have hR1_l := hR1.lt
  -- region 14
  go_wp2_with fail
  refine (eqCamp_yes B1 B0 ((campBits x0 n0 k0 k1)).length q1 q0 ((campBits x0 n0 k0 k1)) (0 : Int) _ (by exact hF1.holds) (by exact hF0.holds) rfl (by omega)).mono ?_
  rintro e v10 ⟨rfl, hb⟩
  have hz10 : v9.heap.size ≤ v10.heap.size := by have := hb.size; simpa using this
  replace ht := below_then ht hb ht.size
  replace hb0 := hb0.below hb
  replace hF0 := hF0.below hb
  replace hR0 := hR0.below hb
  replace hF1 := hF1.below hb
  replace hR1 := hR1.below hb
  clear hb
  clear hb0_0 hb0_1 hb0_2 hb0_l hR0_0 hR0_1 hR0_l hR1_0 hR1_1 hR1_l
  obtain ⟨hb0_0, hb0_1, hb0_2⟩ := hb0.cells3
  have hb0_l := hb0.lt
  obtain ⟨hR0_0, hR0_1⟩ := hR0.cells2
  have hR0_l := hR0.lt
  obtain ⟨hR1_0, hR1_1⟩ := hR1.cells2
  have hR1_l := hR1.lt
  -- region 17
  go_wp2_with fail
  refine (markCamp_any B1 ((campBits x0 n0 k0 k1)).length q1 _ _ _ (0 : Int) 1 _ hF1 (by rw [bits_len]) (by omega) (by omega) hlen).mono ?_
  rintro e v11 ⟨rfl, hs, hM⟩
  have hsz := ht.size
  replace ht := hs.below ht (by omega) hsz
  replace hb0 := hs.whole hb0 (by omega)
  replace hF0 := hs.fresh hF0 (by omega)
  replace hR0 := hs.whole hR0 (by omega)
  replace hR1 := hs.whole hR1 (by omega)
  clear hs hF1 hsz
  clear hb0_0 hb0_1 hb0_2 hb0_l hR0_0 hR0_1 hR0_l hR1_0 hR1_1 hR1_l
  obtain ⟨hb0_0, hb0_1, hb0_2⟩ := hb0.cells3
  have hb0_l := hb0.lt
  obtain ⟨hR0_0, hR0_1⟩ := hR0.cells2
  have hR0_l := hR0.lt
  obtain ⟨hR1_0, hR1_1⟩ := hR1.cells2
  have hR1_l := hR1.lt
  -- region 19
  go_wp2_with fail
  refine (heldCamp_any B1 ((campBits x0 n0 k0 k1)).length q1 (0 : Int) 1 _ (by exact hM.holds) (by omega) (by omega) hlen).mono ?_
  rintro e v12 ⟨rfl, hb⟩
  have hz12 : v11.heap.size ≤ v12.heap.size := by have := hb.size; simpa using this
  replace ht := below_then ht hb ht.size
  replace hb0 := hb0.below hb
  replace hF0 := hF0.below hb
  replace hR0 := hR0.below hb
  replace hR1 := hR1.below hb
  replace hM := hM.below hb
  clear hb
  have hm0 : (0 : Int) ≤ 1 + (((campBits x0 n0 k0 k1)).length : Int) := by omega
  clear hb0_0 hb0_1 hb0_2 hb0_l hR0_0 hR0_1 hR0_l hR1_0 hR1_1 hR1_l
  obtain ⟨hb0_0, hb0_1, hb0_2⟩ := hb0.cells3
  have hb0_l := hb0.lt
  obtain ⟨hR0_0, hR0_1⟩ := hR0.cells2
  have hR0_l := hR0.lt
  obtain ⟨hR1_0, hR1_1⟩ := hR1.cells2
  have hR1_l := hR1.lt
  -- region 24
  go_wp2_with fail
  refine (toNight_own A0 n0 c0 x0 k0 k1 _ (by exact h0.below ht) HX0.out (by omega)).mono ?_
  rintro e v13 ⟨gr0, rfl, hgr0, hwr0, hb⟩
  have hz13 : v12.heap.size ≤ v13.heap.size := by have := hb.size; simpa using this
  replace ht := below_then ht hb ht.size
  replace hb0 := hb0.below hb
  replace hF0 := hF0.below hb
  replace hR0 := hR0.below hb
  replace hR1 := hR1.below hb
  replace hM := hM.below hb
  have hr0 := Fresh.of_whole (lo := v12.heap.size) (hi := v13.heap.size) hwr0 (by simpa using hgr0) hwr0.lt
  clear hgr0 hwr0
  clear hb
  clear hb0_0 hb0_1 hb0_2 hb0_l hR0_0 hR0_1 hR0_l hR1_0 hR1_1 hR1_l
  obtain ⟨hb0_0, hb0_1, hb0_2⟩ := hb0.cells3
  have hb0_l := hb0.lt
  obtain ⟨hR0_0, hR0_1⟩ := hR0.cells2
  have hR0_l := hR0.lt
  obtain ⟨hR1_0, hR1_1⟩ := hR1.cells2
  have hR1_l := hR1.lt
  go_wp2_with fail
  refine (implFirstCamp_any _ n0 _ x0 k0 k1 _ (by exact hr0.holds) HX0.out (by omega)).mono ?_
  rintro e v14 ⟨B2, q2, rfl, hF2, hb⟩
  have hz14 : v13.heap.size ≤ v14.heap.size := by have := hb.size; simpa using this
  replace ht := below_then ht hb ht.size
  replace hb0 := hb0.below hb
  replace hF0 := hF0.below hb
  replace hR0 := hR0.below hb
  replace hR1 := hR1.below hb
  replace hM := hM.below hb
  replace hr0 := hr0.below hb
  replace hF2 := hF2.more (lo' := v13.heap.size) (hi' := v14.heap.size) (by simp) (Nat.le_refl _)
  have hR2 := Whole.fresh v14 56 #[.slice B2 ((campBits x0 n0 k0 k1)).length q2, .int .i64 (0 : Int)]
  replace ht := ht.alloc ht.size (.cells #[.slice B2 ((campBits x0 n0 k0 k1)).length q2, .int .i64 (0 : Int)] 56)
  replace hb0 := hb0.alloc (.cells #[.slice B2 ((campBits x0 n0 k0 k1)).length q2, .int .i64 (0 : Int)] 56)
  replace hF0 := hF0.alloc (.cells #[.slice B2 ((campBits x0 n0 k0 k1)).length q2, .int .i64 (0 : Int)] 56)
  replace hR0 := hR0.alloc (.cells #[.slice B2 ((campBits x0 n0 k0 k1)).length q2, .int .i64 (0 : Int)] 56)
  replace hR1 := hR1.alloc (.cells #[.slice B2 ((campBits x0 n0 k0 k1)).length q2, .int .i64 (0 : Int)] 56)
  replace hM := hM.alloc (.cells #[.slice B2 ((campBits x0 n0 k0 k1)).length q2, .int .i64 (0 : Int)] 56)
  replace hr0 := hr0.alloc (.cells #[.slice B2 ((campBits x0 n0 k0 k1)).length q2, .int .i64 (0 : Int)] 56)
  replace hF2 := hF2.alloc (.cells #[.slice B2 ((campBits x0 n0 k0 k1)).length q2, .int .i64 (0 : Int)] 56)
  clear hb
  clear hr0
  clear hb0_0 hb0_1 hb0_2 hb0_l hR0_0 hR0_1 hR0_l hR1_0 hR1_1 hR1_l
  obtain ⟨hb0_0, hb0_1, hb0_2⟩ := hb0.cells3
  have hb0_l := hb0.lt
  obtain ⟨hR0_0, hR0_1⟩ := hR0.cells2
  have hR0_l := hR0.lt
  obtain ⟨hR1_0, hR1_1⟩ := hR1.cells2
  have hR1_l := hR1.lt
  obtain ⟨hR2_0, hR2_1⟩ := hR2.cells2
  have hR2_l := hR2.lt
  -- region 25
  go_wp2_with fail
  refine (eqCamp_yes B2 B0 ((campBits x0 n0 k0 k1)).length q2 q0 ((campBits x0 n0 k0 k1)) (0 : Int) _ (by exact hF2.holds) (by exact hF0.holds) rfl (by omega)).mono ?_
  rintro e v15 ⟨rfl, hb⟩
  have hz15 : v14.heap.size + 1 ≤ v15.heap.size := by have := hb.size; simpa using this
  replace ht := below_then ht hb ht.size
  replace hb0 := hb0.below hb
  replace hF0 := hF0.below hb
  replace hR0 := hR0.below hb
  replace hR1 := hR1.below hb
  replace hM := hM.below hb
  replace hF2 := hF2.below hb
  replace hR2 := hR2.below hb
  clear hb
  clear hb0_0 hb0_1 hb0_2 hb0_l hR0_0 hR0_1 hR0_l hR1_0 hR1_1 hR1_l hR2_0 hR2_1 hR2_l
  obtain ⟨hb0_0, hb0_1, hb0_2⟩ := hb0.cells3
  have hb0_l := hb0.lt
  obtain ⟨hR0_0, hR0_1⟩ := hR0.cells2
  have hR0_l := hR0.lt
  obtain ⟨hR1_0, hR1_1⟩ := hR1.cells2
  have hR1_l := hR1.lt
  obtain ⟨hR2_0, hR2_1⟩ := hR2.cells2
  have hR2_l := hR2.lt
  -- region 28
  go_wp2_with fail
  refine (heldCamp_any B1 ((campBits x0 n0 k0 k1)).length q1 (0 : Int) 1 _ (by exact hM.holds) (by omega) (by omega) hlen).mono ?_
  rintro e v16 ⟨rfl, hb⟩
  have hz16 : v15.heap.size ≤ v16.heap.size := by have := hb.size; simpa using this
  replace ht := below_then ht hb ht.size
  replace hb0 := hb0.below hb
  replace hF0 := hF0.below hb
  replace hR0 := hR0.below hb
  replace hR1 := hR1.below hb
  replace hM := hM.below hb
  replace hF2 := hF2.below hb
  replace hR2 := hR2.below hb
  clear hb
  clear hb0_0 hb0_1 hb0_2 hb0_l hR0_0 hR0_1 hR0_l hR1_0 hR1_1 hR1_l hR2_0 hR2_1 hR2_l
  obtain ⟨hb0_0, hb0_1, hb0_2⟩ := hb0.cells3
  have hb0_l := hb0.lt
  obtain ⟨hR0_0, hR0_1⟩ := hR0.cells2
  have hR0_l := hR0.lt
  obtain ⟨hR1_0, hR1_1⟩ := hR1.cells2
  have hR1_l := hR1.lt
  obtain ⟨hR2_0, hR2_1⟩ := hR2.cells2
  have hR2_l := hR2.lt
  go_wp2
  go_ret
  exact ⟨rfl, ht⟩

theorem lawFirstCamp_all (A0 : Option Addr) (n0 c0 : Nat) (x0 : List Int) (k0 : Int) (k1 : Int) (w : World) (h0 : Holds w A0 (nums x0)) (hx0 : x0.length = n0) (hn0 : n0 ≤ 9223372036854775807) :
    Calls Try.prog 6 #[.agg #[.slice A0 n0 c0, .int .i64 k0, .int .i64 k1]] w fun e w' => e = .returned (.bool true) ∧ Below w.heap.size w w' := by
  rcases (inferInstance : Decidable (0 ≤ 1048576 - (n0 : Int))) with g0 | g0
  · exact lawFirstCamp_big0 A0 n0 c0 x0 k0 k1 w h0 hx0 hn0  (by omega)
  exact lawFirstCamp_small A0 n0 c0 x0 k0 k1 w h0 hx0 hn0 g0
end Go.Proofs.Ytifaadjbkbdbnaa
