/-
  What is proved: the law FnExactEndBank returns true at every argument, and leaves all that was there as it was. Conditions: the arguments are read as they lie.
-/
import Derived.Test.YtkdjdnknhbmliaaKStart
import Derived.Test.YtkdjdnknhbmliaaKeepL
import Derived.Test.YtkdjdnknhbmliaaBank
import Derived.Test.YtkdjdnknhbmliaaCells
import Derived.Deep.RegionHeld3
namespace Go.Proofs.Ytkdjdnknhbmliaa
open Go.RowKit

set_option maxHeartbeats 800000 in
set_option linter.unusedVariables false in
theorem lawEndBank_big0 (k0 : Int) (A0 : Option Addr) (n0 c0 : Nat) (x0 : List RowV) (k1 : Int) (w : World) (h0 : Grid w A0 x0) (hx0 : x0.length = n0) (hn0 : n0 ≤ 9223372036854775807)  (hbig : 1048576 - (total x0 : Int) < 0) :
    Calls Try.prog 10 #[.agg #[.int .i64 k0, .slice A0 n0 c0, .int .i64 k1]] w fun e w' => e = .returned (.bool true) ∧ Below w.heap.size w w' := by
  have hb0 := (Whole.fresh w 51 #[.int .i64 k0, .slice A0 n0 c0, .int .i64 k1])
  have ht := below1 w (.cells #[.int .i64 k0, .slice A0 n0 c0, .int .i64 k1] 51)
  have HX0 := Lib.hid hx0
  clear hx0
  obtain ⟨hb0_0, hb0_1, hb0_2⟩ := hb0.cells3
  have hb0_l := hb0.lt
  go_enter Try.func10, Try.ntmps10
  go_wp2_with fail
  refine (szKeep_any k0 A0 n0 c0 x0 k1 (1048576) _ (by exact h0.below ht) HX0.out (by omega) (by omega) (by omega)).mono ?_
  rintro e v1 ⟨rfl, hb⟩
  rw [if_pos (by omega)]
  have hz1 : w.heap.size + 1 ≤ v1.heap.size := by have := hb.size; simpa using this
  replace ht := below_then ht hb ht.size
  replace hb0 := hb0.below hb
  clear hb
  clear hb0_0 hb0_1 hb0_2 hb0_l
  go_wp2
  go_ret
  exact ⟨rfl, ht⟩

set_option maxHeartbeats 12800000 in
set_option maxRecDepth 100000 in
set_option linter.unusedSimpArgs false in
set_option linter.unusedVariables false in
theorem lawEndBank_small (k0 : Int) (A0 : Option Addr) (n0 c0 : Nat) (x0 : List RowV) (k1 : Int) (w : World) (h0 : Grid w A0 x0) (hx0 : x0.length = n0) (hn0 : n0 ≤ 9223372036854775807) (g0 : 0 ≤ 1048576 - (total x0 : Int)) :
    Calls Try.prog 10 #[.agg #[.int .i64 k0, .slice A0 n0 c0, .int .i64 k1]] w fun e w' => e = .returned (.bool true) ∧ Below w.heap.size w w' := by
  have hb0 := (Whole.fresh w 51 #[.int .i64 k0, .slice A0 n0 c0, .int .i64 k1])
  have ht := below1 w (.cells #[.int .i64 k0, .slice A0 n0 c0, .int .i64 k1] 51)
  have HX0 := Lib.hid hx0
  clear hx0
  have hlen : (endBits k0 k1 (rowNums x0)).length ≤ 1048576 := endBits_le _ _ _
  obtain ⟨hb0_0, hb0_1, hb0_2⟩ := hb0.cells3
  have hb0_l := hb0.lt
  go_enter Try.func10, Try.ntmps10
  -- region 2
  go_wp2_with fail
  refine (szKeep_any k0 A0 n0 c0 x0 k1 (1048576) _ (by exact h0.below ht) HX0.out (by omega) (by omega) (by omega)).mono ?_
  rintro e v1 ⟨rfl, hb⟩
  rw [if_neg (by omega)]
  have hz1 : w.heap.size + 1 ≤ v1.heap.size := by have := hb.size; simpa using this
  replace ht := below_then ht hb ht.size
  replace hb0 := hb0.below hb
  clear hb
  clear hb0_0 hb0_1 hb0_2 hb0_l
  obtain ⟨hb0_0, hb0_1, hb0_2⟩ := hb0.cells3
  have hb0_l := hb0.lt
  -- region 5
  go_wp2_with fail
  refine (toKeep_own k0 A0 n0 c0 x0 k1 _ (by exact h0.below ht) HX0.out (by omega)).mono ?_
  rintro e v2 ⟨gp0, wsp0, rfl, hgp0, hwp0, hep0, hlp0, hb⟩
  have hz2 : v1.heap.size ≤ v2.heap.size := by have := hb.size; simpa using this
  replace ht := below_then ht hb ht.size
  replace hb0 := hb0.below hb
  have HEp0 := Lib.hid hep0
  have HLp0 := Lib.hid hlp0
  clear hep0 hlp0
  have hp0 := hwp0.free.more (lo' := v1.heap.size) (hi' := v2.heap.size) (by simpa using hgp0) (Nat.le_refl _)
  have hcapp0 : n0 ≤ 1048576 := by have := total_len x0; have := HX0.out; omega
  clear hgp0 hwp0
  clear hb
  clear hb0_0 hb0_1 hb0_2 hb0_l
  obtain ⟨hb0_0, hb0_1, hb0_2⟩ := hb0.cells3
  have hb0_l := hb0.lt
  go_wp2_with fail
  refine (specEndBank_on k0 k1 _ n0 _ wsp0 (rowNums x0) _ (by exact hp0.grid) HEp0.out HLp0.out (by omega)).mono ?_
  rintro e v3 ⟨B0, q0, rfl, hF0, hb⟩
  have hz3 : v2.heap.size ≤ v3.heap.size := by have := hb.size; simpa using this
  replace ht := below_then ht hb ht.size
  replace hb0 := hb0.below hb
  replace hp0 := hp0.below hb
  replace hF0 := hF0.more (lo' := v2.heap.size) (hi' := v3.heap.size) (by simp) (Nat.le_refl _)
  have hR0 := Whole.fresh v3 63 #[.slice B0 (endBits k0 k1 (rowNums x0)).length q0, .bool (keepOk k0 k1 (rowNums x0))]
  replace ht := ht.alloc ht.size (.cells #[.slice B0 (endBits k0 k1 (rowNums x0)).length q0, .bool (keepOk k0 k1 (rowNums x0))] 63)
  replace hb0 := hb0.alloc (.cells #[.slice B0 (endBits k0 k1 (rowNums x0)).length q0, .bool (keepOk k0 k1 (rowNums x0))] 63)
  replace hp0 := hp0.alloc (.cells #[.slice B0 (endBits k0 k1 (rowNums x0)).length q0, .bool (keepOk k0 k1 (rowNums x0))] 63)
  replace hF0 := hF0.alloc (.cells #[.slice B0 (endBits k0 k1 (rowNums x0)).length q0, .bool (keepOk k0 k1 (rowNums x0))] 63)
  clear hb
  clear hp0
  clear hb0_0 hb0_1 hb0_2 hb0_l
  obtain ⟨hb0_0, hb0_1, hb0_2⟩ := hb0.cells3
  have hb0_l := hb0.lt
  obtain ⟨hR0_0, hR0_1⟩ := hR0.cells2
  have hR0_l := hR0.lt
  -- region 6
  go_wp2_with fail
  refine (toKeep_own k0 A0 n0 c0 x0 k1 _ (by exact h0.below ht) HX0.out (by omega)).mono ?_
  rintro e v4 ⟨gx0, wsx0, rfl, hgx0, hwx0, hex0, hlx0, hb⟩
  have hz4 : v3.heap.size + 1 ≤ v4.heap.size := by have := hb.size; simpa using this
  replace ht := below_then ht hb ht.size
  replace hb0 := hb0.below hb
  replace hF0 := hF0.below hb
  replace hR0 := hR0.below hb
  have HEx0 := Lib.hid hex0
  have HLx0 := Lib.hid hlx0
  clear hex0 hlx0
  have hx0 := hwx0.free.more (lo' := v3.heap.size + 1) (hi' := v4.heap.size) (by simpa using hgx0) (Nat.le_refl _)
  have hcapx0 : n0 ≤ 1048576 := by have := total_len x0; have := HX0.out; omega
  clear hgx0 hwx0
  clear hb
  have hx90 := Whole.fresh v4 54 #[.int .i64 k0, .slice (some ⟨gx0, 0, none⟩) n0 n0, .int .i64 k1]
  replace ht := ht.alloc ht.size (.cells #[.int .i64 k0, .slice (some ⟨gx0, 0, none⟩) n0 n0, .int .i64 k1] 54)
  replace hb0 := hb0.alloc (.cells #[.int .i64 k0, .slice (some ⟨gx0, 0, none⟩) n0 n0, .int .i64 k1] 54)
  replace hF0 := hF0.alloc (.cells #[.int .i64 k0, .slice (some ⟨gx0, 0, none⟩) n0 n0, .int .i64 k1] 54)
  replace hR0 := hR0.alloc (.cells #[.int .i64 k0, .slice (some ⟨gx0, 0, none⟩) n0 n0, .int .i64 k1] 54)
  replace hx0 := hx0.alloc (.cells #[.int .i64 k0, .slice (some ⟨gx0, 0, none⟩) n0 n0, .int .i64 k1] 54)
  clear hb0_0 hb0_1 hb0_2 hb0_l hR0_0 hR0_1 hR0_l
  obtain ⟨hb0_0, hb0_1, hb0_2⟩ := hb0.cells3
  have hb0_l := hb0.lt
  obtain ⟨hR0_0, hR0_1⟩ := hR0.cells2
  have hR0_l := hR0.lt
  obtain ⟨hx90_0, hx90_1, hx90_2⟩ := hx90.cells3
  have hx90_l := hx90.lt
  -- region 7
  go_wp2_with fail
  refine (implEndBank_on k0 k1 _ n0 _ wsx0 (rowNums x0) _ (by exact hx0.grid) HEx0.out HLx0.out (by omega)).mono ?_
  rintro e v5 ⟨B1, q1, rfl, hF1, hb⟩
  have hz5 : v4.heap.size + 1 ≤ v5.heap.size := by have := hb.size; simpa using this
  replace ht := below_then ht hb ht.size
  replace hb0 := hb0.below hb
  replace hF0 := hF0.below hb
  replace hR0 := hR0.below hb
  replace hx0 := hx0.below hb
  replace hx90 := hx90.below hb
  replace hF1 := hF1.more (lo' := v4.heap.size + 1) (hi' := v5.heap.size) (by simp) (Nat.le_refl _)
  have hR1 := Whole.fresh v5 63 #[.slice B1 (endBits k0 k1 (rowNums x0)).length q1, .bool (keepOk k0 k1 (rowNums x0))]
  replace ht := ht.alloc ht.size (.cells #[.slice B1 (endBits k0 k1 (rowNums x0)).length q1, .bool (keepOk k0 k1 (rowNums x0))] 63)
  replace hb0 := hb0.alloc (.cells #[.slice B1 (endBits k0 k1 (rowNums x0)).length q1, .bool (keepOk k0 k1 (rowNums x0))] 63)
  replace hF0 := hF0.alloc (.cells #[.slice B1 (endBits k0 k1 (rowNums x0)).length q1, .bool (keepOk k0 k1 (rowNums x0))] 63)
  replace hR0 := hR0.alloc (.cells #[.slice B1 (endBits k0 k1 (rowNums x0)).length q1, .bool (keepOk k0 k1 (rowNums x0))] 63)
  replace hx0 := hx0.alloc (.cells #[.slice B1 (endBits k0 k1 (rowNums x0)).length q1, .bool (keepOk k0 k1 (rowNums x0))] 63)
  replace hx90 := hx90.alloc (.cells #[.slice B1 (endBits k0 k1 (rowNums x0)).length q1, .bool (keepOk k0 k1 (rowNums x0))] 63)
  replace hF1 := hF1.alloc (.cells #[.slice B1 (endBits k0 k1 (rowNums x0)).length q1, .bool (keepOk k0 k1 (rowNums x0))] 63)
  clear hb
  clear hb0_0 hb0_1 hb0_2 hb0_l hR0_0 hR0_1 hR0_l hx90_0 hx90_1 hx90_2 hx90_l
  obtain ⟨hb0_0, hb0_1, hb0_2⟩ := hb0.cells3
  have hb0_l := hb0.lt
  obtain ⟨hR0_0, hR0_1⟩ := hR0.cells2
  have hR0_l := hR0.lt
  obtain ⟨hx90_0, hx90_1, hx90_2⟩ := hx90.cells3
  have hx90_l := hx90.lt
  obtain ⟨hR1_0, hR1_1⟩ := hR1.cells2
  have hR1_l := hR1.lt
  -- region 8
  go_wp2_with fail
  refine (eqBank_yes B1 B0 (endBits k0 k1 (rowNums x0)).length q1 q0 (endBits k0 k1 (rowNums x0)) (keepOk k0 k1 (rowNums x0)) _ (by exact hF1.holds) (by exact hF0.holds) rfl (by omega)).mono ?_
  rintro e v6 ⟨rfl, hb⟩
  have hz6 : v5.heap.size + 1 ≤ v6.heap.size := by have := hb.size; simpa using this
  replace ht := below_then ht hb ht.size
  replace hb0 := hb0.below hb
  replace hF0 := hF0.below hb
  replace hR0 := hR0.below hb
  replace hx0 := hx0.below hb
  replace hx90 := hx90.below hb
  replace hF1 := hF1.below hb
  replace hR1 := hR1.below hb
  clear hb
  clear hb0_0 hb0_1 hb0_2 hb0_l hR0_0 hR0_1 hR0_l hx90_0 hx90_1 hx90_2 hx90_l hR1_0 hR1_1 hR1_l
  obtain ⟨hb0_0, hb0_1, hb0_2⟩ := hb0.cells3
  have hb0_l := hb0.lt
  obtain ⟨hR0_0, hR0_1⟩ := hR0.cells2
  have hR0_l := hR0.lt
  obtain ⟨hx90_0, hx90_1, hx90_2⟩ := hx90.cells3
  have hx90_l := hx90.lt
  obtain ⟨hR1_0, hR1_1⟩ := hR1.cells2
  have hR1_l := hR1.lt
  -- region 10
  clear hb0_0 hb0_1 hb0_2 hb0_l hR0_0 hR0_1 hR0_l hx90_0 hx90_1 hx90_2 hx90_l hR1_0 hR1_1 hR1_l
  go_wp2_with fail
  refine wp_region_held_drew (S := (fun w' => w'.cell? ⟨w.heap.size, 0, none⟩ = some (.int .i64 k0) ∧ w'.cell? ⟨w.heap.size, 1, none⟩ = some (.slice A0 n0 c0) ∧ w'.cell? ⟨w.heap.size, 2, none⟩ = some (.int .i64 k1) ∧ w'.cell? ⟨v3.heap.size, 0, none⟩ = some (.slice B0 (endBits k0 k1 (rowNums x0)).length q0) ∧ w'.cell? ⟨v3.heap.size, 1, none⟩ = some (.bool (keepOk k0 k1 (rowNums x0))) ∧ w'.cell? ⟨v4.heap.size, 0, none⟩ = some (.int .i64 k0) ∧ w'.cell? ⟨v4.heap.size, 1, none⟩ = some (.slice (some ⟨gx0, 0, none⟩) n0 n0) ∧ w'.cell? ⟨v4.heap.size, 2, none⟩ = some (.int .i64 k1) ∧ w'.cell? ⟨v5.heap.size, 0, none⟩ = some (.slice B1 (endBits k0 k1 (rowNums x0)).length q1) ∧ w'.cell? ⟨v5.heap.size, 1, none⟩ = some (.bool (keepOk k0 k1 (rowNums x0))))) (by kernel_rfl) ⟨hb0.drew.cell 0, hb0.drew.cell 1, hb0.drew.cell 2, hR0.drew.cell 0, hR0.drew.cell 1, hx90.drew.cell 0, hx90.drew.cell 1, hx90.drew.cell 2, hR1.drew.cell 0, hR1.drew.cell 1⟩ (fun hHeld => ?_)
  replace ht := ht.drew
  replace hb0 := hb0.drew
  replace hF0 := hF0.drew
  replace hR0 := hR0.drew
  replace hx0 := hx0.drew
  replace hx90 := hx90.drew
  replace hF1 := hF1.drew
  replace hR1 := hR1.drew
  refine wpAnyH_take (i := 0) (v := ?_) rfl (by kernel_rfl) (by kernel_rfl) (by kernel_rfl) (fun _ _ _ h => h) (Or.inl ⟨rfl, ?_⟩) hHeld ?_
  rotate_left
  · intro w' hS; obtain ⟨s0, s1, s2, s3, s4, s5, s6, s7, s8, s9⟩ := hS; go_simp <;> with_reducible rfl
  simp only [Act.put, List.getElem_toArray, List.getElem_cons_succ, List.getElem_cons_zero, List.setIfInBounds_toArray, List.set_cons_succ, List.set_cons_zero]
  refine wpAnyH_take (i := 1) (v := ?_) rfl (by kernel_rfl) (by kernel_rfl) (by kernel_rfl) (fun _ _ _ h => h) (Or.inl ⟨rfl, ?_⟩) hHeld ?_
  rotate_left
  · intro w' hS; obtain ⟨s0, s1, s2, s3, s4, s5, s6, s7, s8, s9⟩ := hS; go_simp <;> with_reducible rfl
  simp only [Act.put, List.getElem_toArray, List.getElem_cons_succ, List.getElem_cons_zero, List.setIfInBounds_toArray, List.set_cons_succ, List.set_cons_zero]
  refine wpAnyH_ready (rs := [2]) (by kernel_rfl) (by simp) (AllReadyH.cons rfl (fun K hK => ?_) AllReadyH.nil)
  go_simp
  refine (toKeep_own k0 A0 n0 c0 x0 k1 _ (by exact h0.below ht) HX0.out (by omega)).mono ?_
  rintro e v7 ⟨gy0, wsy0, rfl, hgy0, hwy0, hey0, hly0, hb⟩
  have hz7 : v6.heap.size ≤ v7.heap.size := by have := hb.size; simpa using this
  replace ht := below_then ht hb ht.size
  replace hb0 := hb0.below hb
  replace hF0 := hF0.below hb
  replace hR0 := hR0.below hb
  replace hx0 := hx0.below hb
  replace hx90 := hx90.below hb
  replace hF1 := hF1.below hb
  replace hR1 := hR1.below hb
  have HEy0 := Lib.hid hey0
  have HLy0 := Lib.hid hly0
  clear hey0 hly0
  have hy0 := hwy0.free.more (lo' := v6.heap.size) (hi' := v7.heap.size) (by simpa using hgy0) (Nat.le_refl _)
  have hcapy0 : n0 ≤ 1048576 := by have := total_len x0; have := HX0.out; omega
  clear hgy0 hwy0
  clear hb
  refine hK.out _ _ ⟨hb0.cell 0, hb0.cell 1, hb0.cell 2, hR0.cell 0, hR0.cell 1, hx90.cell 0, hx90.cell 1, hx90.cell 2, hR1.cell 0, hR1.cell 1⟩ (fun hHeld => ?_)
  clear hK K
  try simp only [Act.put, List.getElem_toArray, List.getElem_cons_succ, List.getElem_cons_zero, List.setIfInBounds_toArray, List.set_cons_succ, List.set_cons_zero]
  refine wpAnyH_ready (rs := [3]) (by kernel_rfl) (by simp) (AllReadyH.cons rfl (fun K hK => ?_) AllReadyH.nil)
  go_simp
  refine (eqKeep_yes k0 _ _ n0 n0 _ _ k1 wsx0 wsy0 _ (by exact hx0.grid) (by exact hy0.grid) (by rw [HEx0.out, HEy0.out]) HLx0.out HLy0.out (by omega)).mono ?_
  rintro e v8 ⟨rfl, hb⟩
  have hz8 : v7.heap.size ≤ v8.heap.size := by have := hb.size; simpa using this
  replace ht := below_then ht hb ht.size
  replace hb0 := hb0.below hb
  replace hF0 := hF0.below hb
  replace hR0 := hR0.below hb
  replace hx0 := hx0.below hb
  replace hx90 := hx90.below hb
  replace hF1 := hF1.below hb
  replace hR1 := hR1.below hb
  replace hy0 := hy0.below hb
  clear hb
  clear hy0
  refine hK.out _ _ ⟨hb0.cell 0, hb0.cell 1, hb0.cell 2, hR0.cell 0, hR0.cell 1, hx90.cell 0, hx90.cell 1, hx90.cell 2, hR1.cell 0, hR1.cell 1⟩ (fun hHeld => ?_)
  clear hK K
  try simp only [Act.put, List.getElem_toArray, List.getElem_cons_succ, List.getElem_cons_zero, List.setIfInBounds_toArray, List.set_cons_succ, List.set_cons_zero]
  refine wpAnyH_take (i := 4) (v := ?_) rfl (by kernel_rfl) (by kernel_rfl) (by kernel_rfl) (fun _ _ _ h => h) (Or.inl ⟨rfl, ?_⟩) hHeld ?_
  rotate_left
  · intro w' hS; obtain ⟨s0, s1, s2, s3, s4, s5, s6, s7, s8, s9⟩ := hS; go_simp <;> with_reducible rfl
  simp only [Act.put, List.getElem_toArray, List.getElem_cons_succ, List.getElem_cons_zero, List.setIfInBounds_toArray, List.set_cons_succ, List.set_cons_zero]
  refine wpAnyH_done (by kernel_rfl) ?_ _
  clear hHeld
  obtain ⟨hb0_0, hb0_1, hb0_2⟩ := hb0.cells3
  have hb0_l := hb0.lt
  obtain ⟨hR0_0, hR0_1⟩ := hR0.cells2
  have hR0_l := hR0.lt
  obtain ⟨hx90_0, hx90_1, hx90_2⟩ := hx90.cells3
  have hx90_l := hx90.lt
  obtain ⟨hR1_0, hR1_1⟩ := hR1.cells2
  have hR1_l := hR1.lt
  -- region 13
  go_wp2_with fail
  have hsum0 : part wsx0 wsx0.length ≤ 1048576 := by rw [part_nums hx0.grid h0 HEx0.out]; have := part_total x0; omega
  refine (markKeep_any k0 k1 (some ⟨gx0, 0, none⟩) n0 n0 _ _ wsx0 (1) _ hx0 HLx0.out (by omega) (by omega) (by omega) hsum0).mono ?_
  rintro e v9 ⟨rfl, hs, -⟩
  have hsz := ht.size
  replace ht := hs.below ht (by omega) hsz
  replace hb0 := hs.whole hb0 (by omega)
  replace hF0 := hs.fresh hF0 (by omega)
  replace hR0 := hs.whole hR0 (by omega)
  replace hF1 := hs.fresh hF1 (by omega)
  replace hR1 := hs.whole hR1 (by omega)
  clear hs hsz hx0 hx90
  have hk_1 : (0 : Int) ≤ 1 + ((part wsx0 wsx0.length : Nat) : Int) := by omega
  clear hb0_0 hb0_1 hb0_2 hb0_l hR0_0 hR0_1 hR0_l hx90_0 hx90_1 hx90_2 hx90_l hR1_0 hR1_1 hR1_l
  obtain ⟨hb0_0, hb0_1, hb0_2⟩ := hb0.cells3
  have hb0_l := hb0.lt
  obtain ⟨hR0_0, hR0_1⟩ := hR0.cells2
  have hR0_l := hR0.lt
  obtain ⟨hR1_0, hR1_1⟩ := hR1.cells2
  have hR1_l := hR1.lt
  -- region 14
  go_wp2_with fail
  refine (eqBank_yes B1 B0 (endBits k0 k1 (rowNums x0)).length q1 q0 (endBits k0 k1 (rowNums x0)) (keepOk k0 k1 (rowNums x0)) _ (by exact hF1.holds) (by exact hF0.holds) rfl (by omega)).mono ?_
  rintro e v10 ⟨rfl, hb⟩
  have hz10 : v9.heap.size ≤ v10.heap.size := by have := hb.size; simpa using this
  replace ht := below_then ht hb ht.size
  replace hb0 := hb0.below hb
  replace hF0 := hF0.below hb
  replace hR0 := hR0.below hb
  replace hF1 := hF1.below hb
  replace hR1 := hR1.below hb
  clear hb
  clear hb0_0 hb0_1 hb0_2 hb0_l hR0_0 hR0_1 hR0_l hR1_0 hR1_1 hR1_l
  obtain ⟨hb0_0, hb0_1, hb0_2⟩ := hb0.cells3
  have hb0_l := hb0.lt
  obtain ⟨hR0_0, hR0_1⟩ := hR0.cells2
  have hR0_l := hR0.lt
  obtain ⟨hR1_0, hR1_1⟩ := hR1.cells2
  have hR1_l := hR1.lt
  -- region 17
  go_wp2_with fail
  refine (markBank_any B1 (endBits k0 k1 (rowNums x0)).length q1 _ _ _ (keepOk k0 k1 (rowNums x0)) 1 _ hF1 (by rw [bits_len]) (by omega) (by omega) hlen).mono ?_
  rintro e v11 ⟨rfl, hs, hM⟩
  have hsz := ht.size
  replace ht := hs.below ht (by omega) hsz
  replace hb0 := hs.whole hb0 (by omega)
  replace hF0 := hs.fresh hF0 (by omega)
  replace hR0 := hs.whole hR0 (by omega)
  replace hR1 := hs.whole hR1 (by omega)
  clear hs hF1 hsz
  clear hb0_0 hb0_1 hb0_2 hb0_l hR0_0 hR0_1 hR0_l hR1_0 hR1_1 hR1_l
  obtain ⟨hb0_0, hb0_1, hb0_2⟩ := hb0.cells3
  have hb0_l := hb0.lt
  obtain ⟨hR0_0, hR0_1⟩ := hR0.cells2
  have hR0_l := hR0.lt
  obtain ⟨hR1_0, hR1_1⟩ := hR1.cells2
  have hR1_l := hR1.lt
  -- region 19
  go_wp2_with fail
  refine (heldBank_any B1 (endBits k0 k1 (rowNums x0)).length q1 (keepOk k0 k1 (rowNums x0)) 1 _ (by exact hM.holds) (by omega) (by omega) hlen).mono ?_
  rintro e v12 ⟨rfl, hb⟩
  have hz12 : v11.heap.size ≤ v12.heap.size := by have := hb.size; simpa using this
  replace ht := below_then ht hb ht.size
  replace hb0 := hb0.below hb
  replace hF0 := hF0.below hb
  replace hR0 := hR0.below hb
  replace hR1 := hR1.below hb
  replace hM := hM.below hb
  clear hb
  have hm0 : (0 : Int) ≤ 1 + ((endBits k0 k1 (rowNums x0)).length : Int) := by omega
  clear hb0_0 hb0_1 hb0_2 hb0_l hR0_0 hR0_1 hR0_l hR1_0 hR1_1 hR1_l
  obtain ⟨hb0_0, hb0_1, hb0_2⟩ := hb0.cells3
  have hb0_l := hb0.lt
  obtain ⟨hR0_0, hR0_1⟩ := hR0.cells2
  have hR0_l := hR0.lt
  obtain ⟨hR1_0, hR1_1⟩ := hR1.cells2
  have hR1_l := hR1.lt
  -- region 24
  go_wp2_with fail
  refine (toKeep_own k0 A0 n0 c0 x0 k1 _ (by exact h0.below ht) HX0.out (by omega)).mono ?_
  rintro e v13 ⟨gr0, wsr0, rfl, hgr0, hwr0, her0, hlr0, hb⟩
  have hz13 : v12.heap.size ≤ v13.heap.size := by have := hb.size; simpa using this
  replace ht := below_then ht hb ht.size
  replace hb0 := hb0.below hb
  replace hF0 := hF0.below hb
  replace hR0 := hR0.below hb
  replace hR1 := hR1.below hb
  replace hM := hM.below hb
  have HEr0 := Lib.hid her0
  have HLr0 := Lib.hid hlr0
  clear her0 hlr0
  have hr0 := hwr0.free.more (lo' := v12.heap.size) (hi' := v13.heap.size) (by simpa using hgr0) (Nat.le_refl _)
  have hcapr0 : n0 ≤ 1048576 := by have := total_len x0; have := HX0.out; omega
  clear hgr0 hwr0
  clear hb
  clear hb0_0 hb0_1 hb0_2 hb0_l hR0_0 hR0_1 hR0_l hR1_0 hR1_1 hR1_l
  obtain ⟨hb0_0, hb0_1, hb0_2⟩ := hb0.cells3
  have hb0_l := hb0.lt
  obtain ⟨hR0_0, hR0_1⟩ := hR0.cells2
  have hR0_l := hR0.lt
  obtain ⟨hR1_0, hR1_1⟩ := hR1.cells2
  have hR1_l := hR1.lt
  go_wp2_with fail
  refine (implEndBank_on k0 k1 _ n0 _ wsr0 (rowNums x0) _ (by exact hr0.grid) HEr0.out HLr0.out (by omega)).mono ?_
  rintro e v14 ⟨B2, q2, rfl, hF2, hb⟩
  have hz14 : v13.heap.size ≤ v14.heap.size := by have := hb.size; simpa using this
  replace ht := below_then ht hb ht.size
  replace hb0 := hb0.below hb
  replace hF0 := hF0.below hb
  replace hR0 := hR0.below hb
  replace hR1 := hR1.below hb
  replace hM := hM.below hb
  replace hr0 := hr0.below hb
  replace hF2 := hF2.more (lo' := v13.heap.size) (hi' := v14.heap.size) (by simp) (Nat.le_refl _)
  have hR2 := Whole.fresh v14 63 #[.slice B2 (endBits k0 k1 (rowNums x0)).length q2, .bool (keepOk k0 k1 (rowNums x0))]
  replace ht := ht.alloc ht.size (.cells #[.slice B2 (endBits k0 k1 (rowNums x0)).length q2, .bool (keepOk k0 k1 (rowNums x0))] 63)
  replace hb0 := hb0.alloc (.cells #[.slice B2 (endBits k0 k1 (rowNums x0)).length q2, .bool (keepOk k0 k1 (rowNums x0))] 63)
  replace hF0 := hF0.alloc (.cells #[.slice B2 (endBits k0 k1 (rowNums x0)).length q2, .bool (keepOk k0 k1 (rowNums x0))] 63)
  replace hR0 := hR0.alloc (.cells #[.slice B2 (endBits k0 k1 (rowNums x0)).length q2, .bool (keepOk k0 k1 (rowNums x0))] 63)
  replace hR1 := hR1.alloc (.cells #[.slice B2 (endBits k0 k1 (rowNums x0)).length q2, .bool (keepOk k0 k1 (rowNums x0))] 63)
  replace hM := hM.alloc (.cells #[.slice B2 (endBits k0 k1 (rowNums x0)).length q2, .bool (keepOk k0 k1 (rowNums x0))] 63)
  replace hr0 := hr0.alloc (.cells #[.slice B2 (endBits k0 k1 (rowNums x0)).length q2, .bool (keepOk k0 k1 (rowNums x0))] 63)
  replace hF2 := hF2.alloc (.cells #[.slice B2 (endBits k0 k1 (rowNums x0)).length q2, .bool (keepOk k0 k1 (rowNums x0))] 63)
  clear hb
  clear hr0
  clear hb0_0 hb0_1 hb0_2 hb0_l hR0_0 hR0_1 hR0_l hR1_0 hR1_1 hR1_l
  obtain ⟨hb0_0, hb0_1, hb0_2⟩ := hb0.cells3
  have hb0_l := hb0.lt
  obtain ⟨hR0_0, hR0_1⟩ := hR0.cells2
  have hR0_l := hR0.lt
  obtain ⟨hR1_0, hR1_1⟩ := hR1.cells2
  have hR1_l := hR1.lt
  obtain ⟨hR2_0, hR2_1⟩ := hR2.cells2
  have hR2_l := hR2.lt
  -- region 25
  go_wp2_with fail
  refine (eqBank_yes B2 B0 (endBits k0 k1 (rowNums x0)).length q2 q0 (endBits k0 k1 (rowNums x0)) (keepOk k0 k1 (rowNums x0)) _ (by exact hF2.holds) (by exact hF0.holds) rfl (by omega)).mono ?_
  rintro e v15 ⟨rfl, hb⟩
  have hz15 : v14.heap.size + 1 ≤ v15.heap.size := by have := hb.size; simpa using this
  replace ht := below_then ht hb ht.size
  replace hb0 := hb0.below hb
  replace hF0 := hF0.below hb
  replace hR0 := hR0.below hb
  replace hR1 := hR1.below hb
  replace hM := hM.below hb
  replace hF2 := hF2.below hb
  replace hR2 := hR2.below hb
  clear hb
  clear hb0_0 hb0_1 hb0_2 hb0_l hR0_0 hR0_1 hR0_l hR1_0 hR1_1 hR1_l hR2_0 hR2_1 hR2_l
  obtain ⟨hb0_0, hb0_1, hb0_2⟩ := hb0.cells3
  have hb0_l := hb0.lt
  obtain ⟨hR0_0, hR0_1⟩ := hR0.cells2
  have hR0_l := hR0.lt
  obtain ⟨hR1_0, hR1_1⟩ := hR1.cells2
  have hR1_l := hR1.lt
  obtain ⟨hR2_0, hR2_1⟩ := hR2.cells2
  have hR2_l := hR2.lt
  -- region 28
  go_wp2_with fail
  refine (heldBank_any B1 (endBits k0 k1 (rowNums x0)).length q1 (keepOk k0 k1 (rowNums x0)) 1 _ (by exact hM.holds) (by omega) (by omega) hlen).mono ?_
  rintro e v16 ⟨rfl, hb⟩
  have hz16 : v15.heap.size ≤ v16.heap.size := by have := hb.size; simpa using this
  replace ht := below_then ht hb ht.size
  replace hb0 := hb0.below hb
  replace hF0 := hF0.below hb
  replace hR0 := hR0.below hb
  replace hR1 := hR1.below hb
  replace hM := hM.below hb
  replace hF2 := hF2.below hb
  replace hR2 := hR2.below hb
  clear hb
  clear hb0_0 hb0_1 hb0_2 hb0_l hR0_0 hR0_1 hR0_l hR1_0 hR1_1 hR1_l hR2_0 hR2_1 hR2_l
  obtain ⟨hb0_0, hb0_1, hb0_2⟩ := hb0.cells3
  have hb0_l := hb0.lt
  obtain ⟨hR0_0, hR0_1⟩ := hR0.cells2
  have hR0_l := hR0.lt
  obtain ⟨hR1_0, hR1_1⟩ := hR1.cells2
  have hR1_l := hR1.lt
  obtain ⟨hR2_0, hR2_1⟩ := hR2.cells2
  have hR2_l := hR2.lt
  go_wp2
  go_ret
  exact ⟨rfl, ht⟩

theorem lawEndBank_all (k0 : Int) (A0 : Option Addr) (n0 c0 : Nat) (x0 : List RowV) (k1 : Int) (w : World) (h0 : Grid w A0 x0) (hx0 : x0.length = n0) (hn0 : n0 ≤ 9223372036854775807) :
    Calls Try.prog 10 #[.agg #[.int .i64 k0, .slice A0 n0 c0, .int .i64 k1]] w fun e w' => e = .returned (.bool true) ∧ Below w.heap.size w w' := by
  rcases (inferInstance : Decidable (0 ≤ 1048576 - (total x0 : Int))) with g0 | g0
  · exact lawEndBank_big0 k0 A0 n0 c0 x0 k1 w h0 hx0 hn0  (by omega)
  exact lawEndBank_small k0 A0 n0 c0 x0 k1 w h0 hx0 hn0 g0
end Go.Proofs.Ytkdjdnknhbmliaa
