/-
  What is proved: the law FnExactDangersNow returns true at every argument, and leaves all that was there as it was. Conditions: the arguments are read as they lie.
-/
import Derived.Test.YtkdjdnknhbmliaaKDangI
import Derived.Test.YtkdjdnknhbmliaaKeepL
import Derived.Test.YtkdjdnknhbmliaaBank
import Derived.Test.YtkdjdnknhbmliaaCells
import Derived.Deep.RegionHeld3
namespace Go.Proofs.Ytkdjdnknhbmliaa
open Go.RowKit

set_option maxHeartbeats 800000 in
set_option linter.unusedVariables false in
theorem lawDangersNow_big0 (k0 : Int) (A0 : Option Addr) (n0 c0 : Nat) (x0 : List RowV) (k1 : Int) (A1 : Option Addr) (n1 c1 : Nat) (x1 : List Bool) (t0 : Bool) (w : World) (h0 : Grid w A0 x0) (hx0 : x0.length = n0) (hn0 : n0 ≤ 9223372036854775807) (h1 : Holds w A1 (bits x1)) (hx1 : x1.length = n1) (hn1 : n1 ≤ 9223372036854775807)  (hbig : 1048576 - (total x0 : Int) < 0) :
    Calls Try.prog 8 #[.agg #[.int .i64 k0, .slice A0 n0 c0, .int .i64 k1], .agg #[.slice A1 n1 c1, .bool t0]] w fun e w' => e = .returned (.bool true) ∧ Below w.heap.size w w' := by
  have hb0 := ((Whole.fresh w 51 #[.int .i64 k0, .slice A0 n0 c0, .int .i64 k1]).alloc (.cells #[.slice A1 n1 c1, .bool t0] 59))
  have hb1 := (Whole.fresh (w.alloc (.cells #[.int .i64 k0, .slice A0 n0 c0, .int .i64 k1] 51)) 59 #[.slice A1 n1 c1, .bool t0])
  simp only [World.size_alloc] at hb1
  have ht := below2 w (.cells #[.int .i64 k0, .slice A0 n0 c0, .int .i64 k1] 51) (.cells #[.slice A1 n1 c1, .bool t0] 59)
  have HX0 := Lib.hid hx0
  have HX1 := Lib.hid hx1
  clear hx0 hx1
  obtain ⟨hb0_0, hb0_1, hb0_2⟩ := hb0.cells3
  have hb0_l := hb0.lt
  obtain ⟨hb1_0, hb1_1⟩ := hb1.cells2
  have hb1_l := hb1.lt
  go_enter Try.func8, Try.ntmps8
  go_wp2_with fail
  refine (szKeep_any k0 A0 n0 c0 x0 k1 (1048576) _ (by exact h0.below ht) HX0.out (by omega) (by omega) (by omega)).mono ?_
  rintro e v1 ⟨rfl, hb⟩
  rw [if_pos (by omega)]
  have hz1 : w.heap.size + 1 + 1 ≤ v1.heap.size := by have := hb.size; simpa using this
  replace ht := below_then ht hb ht.size
  replace hb0 := hb0.below hb
  replace hb1 := hb1.below hb
  clear hb
  clear hb0_0 hb0_1 hb0_2 hb0_l hb1_0 hb1_1 hb1_l
  go_wp2
  go_ret
  exact ⟨rfl, ht⟩

set_option maxHeartbeats 800000 in
set_option linter.unusedVariables false in
theorem lawDangersNow_big1 (k0 : Int) (A0 : Option Addr) (n0 c0 : Nat) (x0 : List RowV) (k1 : Int) (A1 : Option Addr) (n1 c1 : Nat) (x1 : List Bool) (t0 : Bool) (w : World) (h0 : Grid w A0 x0) (hx0 : x0.length = n0) (hn0 : n0 ≤ 9223372036854775807) (h1 : Holds w A1 (bits x1)) (hx1 : x1.length = n1) (hn1 : n1 ≤ 9223372036854775807) (g0 : 0 ≤ 1048576 - (total x0 : Int)) (hbig : 1048576 - (total x0 : Int) - (n1 : Int) < 0) :
    Calls Try.prog 8 #[.agg #[.int .i64 k0, .slice A0 n0 c0, .int .i64 k1], .agg #[.slice A1 n1 c1, .bool t0]] w fun e w' => e = .returned (.bool true) ∧ Below w.heap.size w w' := by
  have hb0 := ((Whole.fresh w 51 #[.int .i64 k0, .slice A0 n0 c0, .int .i64 k1]).alloc (.cells #[.slice A1 n1 c1, .bool t0] 59))
  have hb1 := (Whole.fresh (w.alloc (.cells #[.int .i64 k0, .slice A0 n0 c0, .int .i64 k1] 51)) 59 #[.slice A1 n1 c1, .bool t0])
  simp only [World.size_alloc] at hb1
  have ht := below2 w (.cells #[.int .i64 k0, .slice A0 n0 c0, .int .i64 k1] 51) (.cells #[.slice A1 n1 c1, .bool t0] 59)
  have HX0 := Lib.hid hx0
  have HX1 := Lib.hid hx1
  clear hx0 hx1
  obtain ⟨hb0_0, hb0_1, hb0_2⟩ := hb0.cells3
  have hb0_l := hb0.lt
  obtain ⟨hb1_0, hb1_1⟩ := hb1.cells2
  have hb1_l := hb1.lt
  go_enter Try.func8, Try.ntmps8
  go_wp2_with fail
  refine (szKeep_any k0 A0 n0 c0 x0 k1 (1048576) _ (by exact h0.below ht) HX0.out (by omega) (by omega) (by omega)).mono ?_
  rintro e v1 ⟨rfl, hb⟩
  rw [if_neg (by omega)]
  have hz1 : w.heap.size + 1 + 1 ≤ v1.heap.size := by have := hb.size; simpa using this
  replace ht := below_then ht hb ht.size
  replace hb0 := hb0.below hb
  replace hb1 := hb1.below hb
  clear hb
  clear hb0_0 hb0_1 hb0_2 hb0_l hb1_0 hb1_1 hb1_l
  obtain ⟨hb0_0, hb0_1, hb0_2⟩ := hb0.cells3
  have hb0_l := hb0.lt
  obtain ⟨hb1_0, hb1_1⟩ := hb1.cells2
  have hb1_l := hb1.lt
  go_wp2_with fail
  refine (szBank_any A1 n1 c1 t0 (1048576 - (total x0 : Int)) _ (by omega) (by omega) (by omega)).mono ?_
  rintro e v2 ⟨rfl, hb⟩
  rw [if_pos (by omega)]
  have hz2 : v1.heap.size ≤ v2.heap.size := by have := hb.size; simpa using this
  replace ht := below_then ht hb ht.size
  replace hb0 := hb0.below hb
  replace hb1 := hb1.below hb
  clear hb
  clear hb0_0 hb0_1 hb0_2 hb0_l hb1_0 hb1_1 hb1_l
  go_wp2
  go_ret
  exact ⟨rfl, ht⟩

set_option maxHeartbeats 12800000 in
set_option maxRecDepth 100000 in
set_option linter.unusedSimpArgs false in
set_option linter.unusedVariables false in
theorem lawDangersNow_small (k0 : Int) (A0 : Option Addr) (n0 c0 : Nat) (x0 : List RowV) (k1 : Int) (A1 : Option Addr) (n1 c1 : Nat) (x1 : List Bool) (t0 : Bool) (w : World) (h0 : Grid w A0 x0) (hx0 : x0.length = n0) (hn0 : n0 ≤ 9223372036854775807) (h1 : Holds w A1 (bits x1)) (hx1 : x1.length = n1) (hn1 : n1 ≤ 9223372036854775807) (g0 : 0 ≤ 1048576 - (total x0 : Int)) (g1 : 0 ≤ 1048576 - (total x0 : Int) - (n1 : Int)) :
    Calls Try.prog 8 #[.agg #[.int .i64 k0, .slice A0 n0 c0, .int .i64 k1], .agg #[.slice A1 n1 c1, .bool t0]] w fun e w' => e = .returned (.bool true) ∧ Below w.heap.size w w' := by
  have hb0 := ((Whole.fresh w 51 #[.int .i64 k0, .slice A0 n0 c0, .int .i64 k1]).alloc (.cells #[.slice A1 n1 c1, .bool t0] 59))
  have hb1 := (Whole.fresh (w.alloc (.cells #[.int .i64 k0, .slice A0 n0 c0, .int .i64 k1] 51)) 59 #[.slice A1 n1 c1, .bool t0])
  simp only [World.size_alloc] at hb1
  have ht := below2 w (.cells #[.int .i64 k0, .slice A0 n0 c0, .int .i64 k1] 51) (.cells #[.slice A1 n1 c1, .bool t0] 59)
  have HX0 := Lib.hid hx0
  have HX1 := Lib.hid hx1
  clear hx0 hx1
  have hlen : (dangersLs k0 k1 (rowNums x0) x1 t0).length ≤ 1048576 ∧ ((dangersLs k0 k1 (rowNums x0) x1 t0).map List.length).sum ≤ 1048576 := dangersLs_le (by rw [rowNums_len]; have h1 := total_len x0; omega)
  obtain ⟨hb0_0, hb0_1, hb0_2⟩ := hb0.cells3
  have hb0_l := hb0.lt
  obtain ⟨hb1_0, hb1_1⟩ := hb1.cells2
  have hb1_l := hb1.lt
  go_enter Try.func8, Try.ntmps8
  -- region 2
  go_wp2_with fail
  refine (szKeep_any k0 A0 n0 c0 x0 k1 (1048576) _ (by exact h0.below ht) HX0.out (by omega) (by omega) (by omega)).mono ?_
  rintro e v1 ⟨rfl, hb⟩
  rw [if_neg (by omega)]
  have hz1 : w.heap.size + 1 + 1 ≤ v1.heap.size := by have := hb.size; simpa using this
  replace ht := below_then ht hb ht.size
  replace hb0 := hb0.below hb
  replace hb1 := hb1.below hb
  clear hb
  clear hb0_0 hb0_1 hb0_2 hb0_l hb1_0 hb1_1 hb1_l
  obtain ⟨hb0_0, hb0_1, hb0_2⟩ := hb0.cells3
  have hb0_l := hb0.lt
  obtain ⟨hb1_0, hb1_1⟩ := hb1.cells2
  have hb1_l := hb1.lt
  -- region 5
  go_wp2_with fail
  refine (szBank_any A1 n1 c1 t0 (1048576 - (total x0 : Int)) _ (by omega) (by omega) (by omega)).mono ?_
  rintro e v2 ⟨rfl, hb⟩
  rw [if_neg (by omega)]
  have hz2 : v1.heap.size ≤ v2.heap.size := by have := hb.size; simpa using this
  replace ht := below_then ht hb ht.size
  replace hb0 := hb0.below hb
  replace hb1 := hb1.below hb
  clear hb
  clear hb0_0 hb0_1 hb0_2 hb0_l hb1_0 hb1_1 hb1_l
  obtain ⟨hb0_0, hb0_1, hb0_2⟩ := hb0.cells3
  have hb0_l := hb0.lt
  obtain ⟨hb1_0, hb1_1⟩ := hb1.cells2
  have hb1_l := hb1.lt
  -- region 8
  clear hb0_0 hb0_1 hb0_2 hb0_l hb1_0 hb1_1 hb1_l
  go_wp2_with fail
  refine wp_region_held_drew (S := (fun w' => w'.cell? ⟨w.heap.size, 0, none⟩ = some (.int .i64 k0) ∧ w'.cell? ⟨w.heap.size, 1, none⟩ = some (.slice A0 n0 c0) ∧ w'.cell? ⟨w.heap.size, 2, none⟩ = some (.int .i64 k1) ∧ w'.cell? ⟨w.heap.size + 1, 0, none⟩ = some (.slice A1 n1 c1) ∧ w'.cell? ⟨w.heap.size + 1, 1, none⟩ = some (.bool t0))) (by kernel_rfl) ⟨hb0.drew.cell 0, hb0.drew.cell 1, hb0.drew.cell 2, hb1.drew.cell 0, hb1.drew.cell 1⟩ (fun hHeld => ?_)
  replace ht := ht.drew
  replace hb0 := hb0.drew
  replace hb1 := hb1.drew
  refine wpAnyH_take (i := 0) (v := ?_) rfl (by kernel_rfl) (by kernel_rfl) (by kernel_rfl) (fun _ _ _ h => h) (Or.inl ⟨rfl, ?_⟩) hHeld ?_
  rotate_left
  · intro w' hS; obtain ⟨s0, s1, s2, s3, s4⟩ := hS; go_simp <;> with_reducible rfl
  simp only [Act.put, List.getElem_toArray, List.getElem_cons_succ, List.getElem_cons_zero, List.setIfInBounds_toArray, List.set_cons_succ, List.set_cons_zero]
  refine wpAnyH_take (i := 2) (v := ?_) rfl (by kernel_rfl) (by kernel_rfl) (by kernel_rfl) (fun _ _ _ h => h) (Or.inl ⟨rfl, ?_⟩) hHeld ?_
  rotate_left
  · intro w' hS; obtain ⟨s0, s1, s2, s3, s4⟩ := hS; go_simp <;> with_reducible rfl
  simp only [Act.put, List.getElem_toArray, List.getElem_cons_succ, List.getElem_cons_zero, List.setIfInBounds_toArray, List.set_cons_succ, List.set_cons_zero]
  refine wpAnyH_ready (rs := [1]) (by kernel_rfl) (by simp) (AllReadyH.cons rfl (fun K hK => ?_) AllReadyH.nil)
  go_simp
  refine (toKeep_own k0 A0 n0 c0 x0 k1 _ (by exact h0.below ht) HX0.out (by omega)).mono ?_
  rintro e v3 ⟨gp0, wsp0, rfl, hgp0, hwp0, hep0, hlp0, hb⟩
  have hz3 : v2.heap.size ≤ v3.heap.size := by have := hb.size; simpa using this
  replace ht := below_then ht hb ht.size
  replace hb0 := hb0.below hb
  replace hb1 := hb1.below hb
  have HEp0 := Lib.hid hep0
  have HLp0 := Lib.hid hlp0
  clear hep0 hlp0
  have hp0 := hwp0.free.more (lo' := v2.heap.size) (hi' := v3.heap.size) (by simpa using hgp0) (Nat.le_refl _)
  have hcapp0 : n0 ≤ 1048576 := by have := total_len x0; have := HX0.out; omega
  clear hgp0 hwp0
  clear hb
  refine hK.out _ _ ⟨hb0.cell 0, hb0.cell 1, hb0.cell 2, hb1.cell 0, hb1.cell 1⟩ (fun hHeld => ?_)
  clear hK K
  try simp only [Act.put, List.getElem_toArray, List.getElem_cons_succ, List.getElem_cons_zero, List.setIfInBounds_toArray, List.set_cons_succ, List.set_cons_zero]
  refine wpAnyH_ready (rs := [3]) (by kernel_rfl) (by simp) (AllReadyH.cons rfl (fun K hK => ?_) AllReadyH.nil)
  go_simp
  refine (toBank_own A1 n1 c1 x1 t0 _ (by exact h1.below ht) HX1.out (by omega)).mono ?_
  rintro e v4 ⟨gp1, rfl, hgp1, hwp1, hb⟩
  have hz4 : v3.heap.size ≤ v4.heap.size := by have := hb.size; simpa using this
  replace ht := below_then ht hb ht.size
  replace hb0 := hb0.below hb
  replace hb1 := hb1.below hb
  replace hp0 := hp0.below hb
  have hp1 := Fresh.of_whole (lo := v3.heap.size) (hi := v4.heap.size) hwp1 (by simpa using hgp1) hwp1.lt
  clear hgp1 hwp1
  clear hb
  refine hK.out _ _ ⟨hb0.cell 0, hb0.cell 1, hb0.cell 2, hb1.cell 0, hb1.cell 1⟩ (fun hHeld => ?_)
  clear hK K
  try simp only [Act.put, List.getElem_toArray, List.getElem_cons_succ, List.getElem_cons_zero, List.setIfInBounds_toArray, List.set_cons_succ, List.set_cons_zero]
  refine wpAnyH_ready (rs := [4]) (by kernel_rfl) (by simp) (AllReadyH.cons rfl (fun K hK => ?_) AllReadyH.nil)
  go_simp
  refine (specDangersNow_on k0 k1 _ _ n0 _ n1 _ wsp0 x1 t0 (rowNums x0) _ (by exact hp0.grid) (by exact hp1.holds) HEp0.out HLp0.out (by omega) HX1.out (by omega)).mono ?_
  rintro e v5 ⟨B0, m0, q0, rs0, rfl, he0, hl0, hF0, hb⟩
  have hz5 : v4.heap.size ≤ v5.heap.size := by have := hb.size; simpa using this
  replace ht := below_then ht hb ht.size
  replace hb0 := hb0.below hb
  replace hb1 := hb1.below hb
  replace hp0 := hp0.below hb
  replace hp1 := hp1.below hb
  have HER0 := Lib.hid he0
  have HLR0 := Lib.hid hl0
  have hnr0 : m0 ≤ 1048576 := by have h1 := hl0; have h2 := congrArg List.length he0; rw [rowNums_len] at h2; have h3 := hlen.1; omega
  clear he0 hl0
  replace hF0 := hF0.more (lo' := v4.heap.size) (hi' := v5.heap.size) (by simp) (Nat.le_refl _)
  clear hb
  clear hp0 hp1
  refine hK.out _ _ ⟨hb0.cell 0, hb0.cell 1, hb0.cell 2, hb1.cell 0, hb1.cell 1⟩ (fun hHeld => ?_)
  clear hK K
  try simp only [Act.put, List.getElem_toArray, List.getElem_cons_succ, List.getElem_cons_zero, List.setIfInBounds_toArray, List.set_cons_succ, List.set_cons_zero]
  refine wpAnyH_take (i := 5) (v := ?_) rfl (by kernel_rfl) (by kernel_rfl) (by kernel_rfl) (fun _ _ _ h => h) (Or.inl ⟨rfl, ?_⟩) hHeld ?_
  rotate_left
  · intro w' hS; obtain ⟨s0, s1, s2, s3, s4⟩ := hS; go_simp <;> with_reducible rfl
  simp only [Act.put, List.getElem_toArray, List.getElem_cons_succ, List.getElem_cons_zero, List.setIfInBounds_toArray, List.set_cons_succ, List.set_cons_zero]
  refine wpAnyH_take (i := 6) (v := ?_) rfl (by kernel_rfl) (by kernel_rfl) (by kernel_rfl) (fun _ _ _ h => h) (Or.inl ⟨rfl, ?_⟩) hHeld ?_
  rotate_left
  · intro w' hS; obtain ⟨s0, s1, s2, s3, s4⟩ := hS; go_simp <;> with_reducible rfl
  simp only [Act.put, List.getElem_toArray, List.getElem_cons_succ, List.getElem_cons_zero, List.setIfInBounds_toArray, List.set_cons_succ, List.set_cons_zero]
  refine wpAnyH_take (i := 7) (v := ?_) rfl (by kernel_rfl) (by kernel_rfl) (by kernel_rfl) (fun _ _ _ h => h) (Or.inl ⟨rfl, ?_⟩) hHeld ?_
  rotate_left
  · intro w' hS; obtain ⟨s0, s1, s2, s3, s4⟩ := hS; go_simp <;> with_reducible rfl
  simp only [Act.put, List.getElem_toArray, List.getElem_cons_succ, List.getElem_cons_zero, List.setIfInBounds_toArray, List.set_cons_succ, List.set_cons_zero]
  refine wpAnyH_take (i := 8) (v := ?_) rfl (by kernel_rfl) (by kernel_rfl) (by kernel_rfl) (fun _ _ _ h => h) (Or.inl ⟨rfl, ?_⟩) hHeld ?_
  rotate_left
  · intro w' hS; obtain ⟨s0, s1, s2, s3, s4⟩ := hS; go_simp <;> with_reducible rfl
  simp only [Act.put, List.getElem_toArray, List.getElem_cons_succ, List.getElem_cons_zero, List.setIfInBounds_toArray, List.set_cons_succ, List.set_cons_zero]
  refine wpAnyH_take (i := 9) (v := ?_) rfl (by kernel_rfl) (by kernel_rfl) (by kernel_rfl) (fun _ _ _ h => h) (Or.inl ⟨rfl, ?_⟩) hHeld ?_
  rotate_left
  · intro w' hS; obtain ⟨s0, s1, s2, s3, s4⟩ := hS; go_simp <;> with_reducible rfl
  simp only [Act.put, List.getElem_toArray, List.getElem_cons_succ, List.getElem_cons_zero, List.setIfInBounds_toArray, List.set_cons_succ, List.set_cons_zero]
  refine wpAnyH_done (by kernel_rfl) ?_ _
  clear hHeld
  obtain ⟨hb0_0, hb0_1, hb0_2⟩ := hb0.cells3
  have hb0_l := hb0.lt
  obtain ⟨hb1_0, hb1_1⟩ := hb1.cells2
  have hb1_l := hb1.lt
  -- region 9
  go_wp2_with fail
  refine (toKeep_own k0 A0 n0 c0 x0 k1 _ (by exact h0.below ht) HX0.out (by omega)).mono ?_
  rintro e v6 ⟨gx0, wsx0, rfl, hgx0, hwx0, hex0, hlx0, hb⟩
  have hz6 : v5.heap.size ≤ v6.heap.size := by have := hb.size; simpa using this
  replace ht := below_then ht hb ht.size
  replace hb0 := hb0.below hb
  replace hb1 := hb1.below hb
  replace hF0 := hF0.below hb
  have HEx0 := Lib.hid hex0
  have HLx0 := Lib.hid hlx0
  clear hex0 hlx0
  have hx0 := hwx0.free.more (lo' := v5.heap.size) (hi' := v6.heap.size) (by simpa using hgx0) (Nat.le_refl _)
  have hcapx0 : n0 ≤ 1048576 := by have := total_len x0; have := HX0.out; omega
  clear hgx0 hwx0
  clear hb
  have hx90 := Whole.fresh v6 54 #[.int .i64 k0, .slice (some ⟨gx0, 0, none⟩) n0 n0, .int .i64 k1]
  replace ht := ht.alloc ht.size (.cells #[.int .i64 k0, .slice (some ⟨gx0, 0, none⟩) n0 n0, .int .i64 k1] 54)
  replace hb0 := hb0.alloc (.cells #[.int .i64 k0, .slice (some ⟨gx0, 0, none⟩) n0 n0, .int .i64 k1] 54)
  replace hb1 := hb1.alloc (.cells #[.int .i64 k0, .slice (some ⟨gx0, 0, none⟩) n0 n0, .int .i64 k1] 54)
  replace hF0 := hF0.alloc (.cells #[.int .i64 k0, .slice (some ⟨gx0, 0, none⟩) n0 n0, .int .i64 k1] 54)
  replace hx0 := hx0.alloc (.cells #[.int .i64 k0, .slice (some ⟨gx0, 0, none⟩) n0 n0, .int .i64 k1] 54)
  clear hb0_0 hb0_1 hb0_2 hb0_l hb1_0 hb1_1 hb1_l
  obtain ⟨hb0_0, hb0_1, hb0_2⟩ := hb0.cells3
  have hb0_l := hb0.lt
  obtain ⟨hb1_0, hb1_1⟩ := hb1.cells2
  have hb1_l := hb1.lt
  obtain ⟨hx90_0, hx90_1, hx90_2⟩ := hx90.cells3
  have hx90_l := hx90.lt
  -- region 10
  go_wp2_with fail
  refine (toBank_own A1 n1 c1 x1 t0 _ (by exact h1.below ht) HX1.out (by omega)).mono ?_
  rintro e v7 ⟨gx1, rfl, hgx1, hwx1, hb⟩
  have hz7 : v6.heap.size + 1 ≤ v7.heap.size := by have := hb.size; simpa using this
  replace ht := below_then ht hb ht.size
  replace hb0 := hb0.below hb
  replace hb1 := hb1.below hb
  replace hF0 := hF0.below hb
  replace hx0 := hx0.below hb
  replace hx90 := hx90.below hb
  have hx1 := Fresh.of_whole (lo := v6.heap.size + 1) (hi := v7.heap.size) hwx1 (by simpa using hgx1) hwx1.lt
  clear hgx1 hwx1
  clear hb
  have hx91 := Whole.fresh v7 63 #[.slice (some ⟨gx1, 0, none⟩) n1 n1, .bool t0]
  replace ht := ht.alloc ht.size (.cells #[.slice (some ⟨gx1, 0, none⟩) n1 n1, .bool t0] 63)
  replace hb0 := hb0.alloc (.cells #[.slice (some ⟨gx1, 0, none⟩) n1 n1, .bool t0] 63)
  replace hb1 := hb1.alloc (.cells #[.slice (some ⟨gx1, 0, none⟩) n1 n1, .bool t0] 63)
  replace hF0 := hF0.alloc (.cells #[.slice (some ⟨gx1, 0, none⟩) n1 n1, .bool t0] 63)
  replace hx0 := hx0.alloc (.cells #[.slice (some ⟨gx1, 0, none⟩) n1 n1, .bool t0] 63)
  replace hx90 := hx90.alloc (.cells #[.slice (some ⟨gx1, 0, none⟩) n1 n1, .bool t0] 63)
  replace hx1 := hx1.alloc (.cells #[.slice (some ⟨gx1, 0, none⟩) n1 n1, .bool t0] 63)
  clear hb0_0 hb0_1 hb0_2 hb0_l hb1_0 hb1_1 hb1_l hx90_0 hx90_1 hx90_2 hx90_l
  obtain ⟨hb0_0, hb0_1, hb0_2⟩ := hb0.cells3
  have hb0_l := hb0.lt
  obtain ⟨hb1_0, hb1_1⟩ := hb1.cells2
  have hb1_l := hb1.lt
  obtain ⟨hx90_0, hx90_1, hx90_2⟩ := hx90.cells3
  have hx90_l := hx90.lt
  obtain ⟨hx91_0, hx91_1⟩ := hx91.cells2
  have hx91_l := hx91.lt
  -- region 11
  go_wp2_with fail
  refine (implDangersNow_on k0 k1 _ _ n0 _ n1 _ wsx0 x1 t0 (rowNums x0) _ (by exact hx0.grid) (by exact hx1.holds) HEx0.out HLx0.out (by omega) HX1.out (by omega)).mono ?_
  rintro e v8 ⟨B1, m1, q1, rs1, rfl, he1, hl1, hF1, hb⟩
  have hz8 : v7.heap.size + 1 ≤ v8.heap.size := by have := hb.size; simpa using this
  replace ht := below_then ht hb ht.size
  replace hb0 := hb0.below hb
  replace hb1 := hb1.below hb
  replace hF0 := hF0.below hb
  replace hx0 := hx0.below hb
  replace hx90 := hx90.below hb
  replace hx1 := hx1.below hb
  replace hx91 := hx91.below hb
  have HER1 := Lib.hid he1
  have HLR1 := Lib.hid hl1
  have hnr1 : m1 ≤ 1048576 := by have h1 := hl1; have h2 := congrArg List.length he1; rw [rowNums_len] at h2; have h3 := hlen.1; omega
  clear he1 hl1
  replace hF1 := hF1.more (lo' := v7.heap.size + 1) (hi' := v8.heap.size) (by simp) (Nat.le_refl _)
  clear hb
  clear hb0_0 hb0_1 hb0_2 hb0_l hb1_0 hb1_1 hb1_l hx90_0 hx90_1 hx90_2 hx90_l hx91_0 hx91_1 hx91_l
  obtain ⟨hb0_0, hb0_1, hb0_2⟩ := hb0.cells3
  have hb0_l := hb0.lt
  obtain ⟨hb1_0, hb1_1⟩ := hb1.cells2
  have hb1_l := hb1.lt
  obtain ⟨hx90_0, hx90_1, hx90_2⟩ := hx90.cells3
  have hx90_l := hx90.lt
  obtain ⟨hx91_0, hx91_1⟩ := hx91.cells2
  have hx91_l := hx91.lt
  -- region 12
  go_wp2_with fail
  refine (eqIntSS_yes B1 B0 m1 m0 q1 q0 rs1 rs0 _ (by exact hF1.grid) (by exact hF0.grid) (by rw [HER1.out, HER0.out]) HLR1.out HLR0.out (by omega)).mono ?_
  rintro e v9 ⟨rfl, hb⟩
  have hz9 : v8.heap.size ≤ v9.heap.size := by have := hb.size; simpa using this
  replace ht := below_then ht hb ht.size
  replace hb0 := hb0.below hb
  replace hb1 := hb1.below hb
  replace hF0 := hF0.below hb
  replace hx0 := hx0.below hb
  replace hx90 := hx90.below hb
  replace hx1 := hx1.below hb
  replace hx91 := hx91.below hb
  replace hF1 := hF1.below hb
  clear hb
  clear hb0_0 hb0_1 hb0_2 hb0_l hb1_0 hb1_1 hb1_l hx90_0 hx90_1 hx90_2 hx90_l hx91_0 hx91_1 hx91_l
  obtain ⟨hb0_0, hb0_1, hb0_2⟩ := hb0.cells3
  have hb0_l := hb0.lt
  obtain ⟨hb1_0, hb1_1⟩ := hb1.cells2
  have hb1_l := hb1.lt
  obtain ⟨hx90_0, hx90_1, hx90_2⟩ := hx90.cells3
  have hx90_l := hx90.lt
  obtain ⟨hx91_0, hx91_1⟩ := hx91.cells2
  have hx91_l := hx91.lt
  -- region 14
  clear hb0_0 hb0_1 hb0_2 hb0_l hb1_0 hb1_1 hb1_l hx90_0 hx90_1 hx90_2 hx90_l hx91_0 hx91_1 hx91_l
  go_wp2_with fail
  refine wp_region_held_drew (S := (fun w' => w'.cell? ⟨w.heap.size, 0, none⟩ = some (.int .i64 k0) ∧ w'.cell? ⟨w.heap.size, 1, none⟩ = some (.slice A0 n0 c0) ∧ w'.cell? ⟨w.heap.size, 2, none⟩ = some (.int .i64 k1) ∧ w'.cell? ⟨w.heap.size + 1, 0, none⟩ = some (.slice A1 n1 c1) ∧ w'.cell? ⟨w.heap.size + 1, 1, none⟩ = some (.bool t0) ∧ w'.cell? ⟨v6.heap.size, 0, none⟩ = some (.int .i64 k0) ∧ w'.cell? ⟨v6.heap.size, 1, none⟩ = some (.slice (some ⟨gx0, 0, none⟩) n0 n0) ∧ w'.cell? ⟨v6.heap.size, 2, none⟩ = some (.int .i64 k1) ∧ w'.cell? ⟨v7.heap.size, 0, none⟩ = some (.slice (some ⟨gx1, 0, none⟩) n1 n1) ∧ w'.cell? ⟨v7.heap.size, 1, none⟩ = some (.bool t0))) (by kernel_rfl) ⟨hb0.drew.cell 0, hb0.drew.cell 1, hb0.drew.cell 2, hb1.drew.cell 0, hb1.drew.cell 1, hx90.drew.cell 0, hx90.drew.cell 1, hx90.drew.cell 2, hx91.drew.cell 0, hx91.drew.cell 1⟩ (fun hHeld => ?_)
  replace ht := ht.drew
  replace hb0 := hb0.drew
  replace hb1 := hb1.drew
  replace hF0 := hF0.drew
  replace hx0 := hx0.drew
  replace hx90 := hx90.drew
  replace hx1 := hx1.drew
  replace hx91 := hx91.drew
  replace hF1 := hF1.drew
  refine wpAnyH_take (i := 0) (v := ?_) rfl (by kernel_rfl) (by kernel_rfl) (by kernel_rfl) (fun _ _ _ h => h) (Or.inl ⟨rfl, ?_⟩) hHeld ?_
  rotate_left
  · intro w' hS; obtain ⟨s0, s1, s2, s3, s4, s5, s6, s7, s8, s9⟩ := hS; go_simp <;> with_reducible rfl
  simp only [Act.put, List.getElem_toArray, List.getElem_cons_succ, List.getElem_cons_zero, List.setIfInBounds_toArray, List.set_cons_succ, List.set_cons_zero]
  refine wpAnyH_take (i := 1) (v := ?_) rfl (by kernel_rfl) (by kernel_rfl) (by kernel_rfl) (fun _ _ _ h => h) (Or.inl ⟨rfl, ?_⟩) hHeld ?_
  rotate_left
  · intro w' hS; obtain ⟨s0, s1, s2, s3, s4, s5, s6, s7, s8, s9⟩ := hS; go_simp <;> with_reducible rfl
  simp only [Act.put, List.getElem_toArray, List.getElem_cons_succ, List.getElem_cons_zero, List.setIfInBounds_toArray, List.set_cons_succ, List.set_cons_zero]
  refine wpAnyH_ready (rs := [2]) (by kernel_rfl) (by simp) (AllReadyH.cons rfl (fun K hK => ?_) AllReadyH.nil)
  go_simp
  refine (toKeep_own k0 A0 n0 c0 x0 k1 _ (by exact h0.below ht) HX0.out (by omega)).mono ?_
  rintro e v10 ⟨gy0, wsy0, rfl, hgy0, hwy0, hey0, hly0, hb⟩
  have hz10 : v9.heap.size ≤ v10.heap.size := by have := hb.size; simpa using this
  replace ht := below_then ht hb ht.size
  replace hb0 := hb0.below hb
  replace hb1 := hb1.below hb
  replace hF0 := hF0.below hb
  replace hx0 := hx0.below hb
  replace hx90 := hx90.below hb
  replace hx1 := hx1.below hb
  replace hx91 := hx91.below hb
  replace hF1 := hF1.below hb
  have HEy0 := Lib.hid hey0
  have HLy0 := Lib.hid hly0
  clear hey0 hly0
  have hy0 := hwy0.free.more (lo' := v9.heap.size) (hi' := v10.heap.size) (by simpa using hgy0) (Nat.le_refl _)
  have hcapy0 : n0 ≤ 1048576 := by have := total_len x0; have := HX0.out; omega
  clear hgy0 hwy0
  clear hb
  refine hK.out _ _ ⟨hb0.cell 0, hb0.cell 1, hb0.cell 2, hb1.cell 0, hb1.cell 1, hx90.cell 0, hx90.cell 1, hx90.cell 2, hx91.cell 0, hx91.cell 1⟩ (fun hHeld => ?_)
  clear hK K
  try simp only [Act.put, List.getElem_toArray, List.getElem_cons_succ, List.getElem_cons_zero, List.setIfInBounds_toArray, List.set_cons_succ, List.set_cons_zero]
  refine wpAnyH_ready (rs := [3]) (by kernel_rfl) (by simp) (AllReadyH.cons rfl (fun K hK => ?_) AllReadyH.nil)
  go_simp
  refine (eqKeep_yes k0 _ _ n0 n0 _ _ k1 wsx0 wsy0 _ (by exact hx0.grid) (by exact hy0.grid) (by rw [HEx0.out, HEy0.out]) HLx0.out HLy0.out (by omega)).mono ?_
  rintro e v11 ⟨rfl, hb⟩
  have hz11 : v10.heap.size ≤ v11.heap.size := by have := hb.size; simpa using this
  replace ht := below_then ht hb ht.size
  replace hb0 := hb0.below hb
  replace hb1 := hb1.below hb
  replace hF0 := hF0.below hb
  replace hx0 := hx0.below hb
  replace hx90 := hx90.below hb
  replace hx1 := hx1.below hb
  replace hx91 := hx91.below hb
  replace hF1 := hF1.below hb
  replace hy0 := hy0.below hb
  clear hb
  clear hy0
  refine hK.out _ _ ⟨hb0.cell 0, hb0.cell 1, hb0.cell 2, hb1.cell 0, hb1.cell 1, hx90.cell 0, hx90.cell 1, hx90.cell 2, hx91.cell 0, hx91.cell 1⟩ (fun hHeld => ?_)
  clear hK K
  try simp only [Act.put, List.getElem_toArray, List.getElem_cons_succ, List.getElem_cons_zero, List.setIfInBounds_toArray, List.set_cons_succ, List.set_cons_zero]
  refine wpAnyH_take (i := 4) (v := ?_) rfl (by kernel_rfl) (by kernel_rfl) (by kernel_rfl) (fun _ _ _ h => h) (Or.inl ⟨rfl, ?_⟩) hHeld ?_
  rotate_left
  · intro w' hS; obtain ⟨s0, s1, s2, s3, s4, s5, s6, s7, s8, s9⟩ := hS; go_simp <;> with_reducible rfl
  simp only [Act.put, List.getElem_toArray, List.getElem_cons_succ, List.getElem_cons_zero, List.setIfInBounds_toArray, List.set_cons_succ, List.set_cons_zero]
  refine wpAnyH_done (by kernel_rfl) ?_ _
  clear hHeld
  obtain ⟨hb0_0, hb0_1, hb0_2⟩ := hb0.cells3
  have hb0_l := hb0.lt
  obtain ⟨hb1_0, hb1_1⟩ := hb1.cells2
  have hb1_l := hb1.lt
  obtain ⟨hx90_0, hx90_1, hx90_2⟩ := hx90.cells3
  have hx90_l := hx90.lt
  obtain ⟨hx91_0, hx91_1⟩ := hx91.cells2
  have hx91_l := hx91.lt
  -- region 16
  clear hb0_0 hb0_1 hb0_2 hb0_l hb1_0 hb1_1 hb1_l hx90_0 hx90_1 hx90_2 hx90_l hx91_0 hx91_1 hx91_l
  go_wp2_with fail
  refine wp_region_held_drew (S := (fun w' => w'.cell? ⟨w.heap.size, 0, none⟩ = some (.int .i64 k0) ∧ w'.cell? ⟨w.heap.size, 1, none⟩ = some (.slice A0 n0 c0) ∧ w'.cell? ⟨w.heap.size, 2, none⟩ = some (.int .i64 k1) ∧ w'.cell? ⟨w.heap.size + 1, 0, none⟩ = some (.slice A1 n1 c1) ∧ w'.cell? ⟨w.heap.size + 1, 1, none⟩ = some (.bool t0) ∧ w'.cell? ⟨v6.heap.size, 0, none⟩ = some (.int .i64 k0) ∧ w'.cell? ⟨v6.heap.size, 1, none⟩ = some (.slice (some ⟨gx0, 0, none⟩) n0 n0) ∧ w'.cell? ⟨v6.heap.size, 2, none⟩ = some (.int .i64 k1) ∧ w'.cell? ⟨v7.heap.size, 0, none⟩ = some (.slice (some ⟨gx1, 0, none⟩) n1 n1) ∧ w'.cell? ⟨v7.heap.size, 1, none⟩ = some (.bool t0))) (by kernel_rfl) ⟨hb0.drew.cell 0, hb0.drew.cell 1, hb0.drew.cell 2, hb1.drew.cell 0, hb1.drew.cell 1, hx90.drew.cell 0, hx90.drew.cell 1, hx90.drew.cell 2, hx91.drew.cell 0, hx91.drew.cell 1⟩ (fun hHeld => ?_)
  replace ht := ht.drew
  replace hb0 := hb0.drew
  replace hb1 := hb1.drew
  replace hF0 := hF0.drew
  replace hx0 := hx0.drew
  replace hx90 := hx90.drew
  replace hx1 := hx1.drew
  replace hx91 := hx91.drew
  replace hF1 := hF1.drew
  refine wpAnyH_take (i := 0) (v := ?_) rfl (by kernel_rfl) (by kernel_rfl) (by kernel_rfl) (fun _ _ _ h => h) (Or.inl ⟨rfl, ?_⟩) hHeld ?_
  rotate_left
  · intro w' hS; obtain ⟨s0, s1, s2, s3, s4, s5, s6, s7, s8, s9⟩ := hS; go_simp <;> with_reducible rfl
  simp only [Act.put, List.getElem_toArray, List.getElem_cons_succ, List.getElem_cons_zero, List.setIfInBounds_toArray, List.set_cons_succ, List.set_cons_zero]
  refine wpAnyH_take (i := 1) (v := ?_) rfl (by kernel_rfl) (by kernel_rfl) (by kernel_rfl) (fun _ _ _ h => h) (Or.inl ⟨rfl, ?_⟩) hHeld ?_
  rotate_left
  · intro w' hS; obtain ⟨s0, s1, s2, s3, s4, s5, s6, s7, s8, s9⟩ := hS; go_simp <;> with_reducible rfl
  simp only [Act.put, List.getElem_toArray, List.getElem_cons_succ, List.getElem_cons_zero, List.setIfInBounds_toArray, List.set_cons_succ, List.set_cons_zero]
  refine wpAnyH_ready (rs := [2]) (by kernel_rfl) (by simp) (AllReadyH.cons rfl (fun K hK => ?_) AllReadyH.nil)
  go_simp
  refine (toBank_own A1 n1 c1 x1 t0 _ (by exact h1.below ht) HX1.out (by omega)).mono ?_
  rintro e v12 ⟨gy1, rfl, hgy1, hwy1, hb⟩
  have hz12 : v11.heap.size ≤ v12.heap.size := by have := hb.size; simpa using this
  replace ht := below_then ht hb ht.size
  replace hb0 := hb0.below hb
  replace hb1 := hb1.below hb
  replace hF0 := hF0.below hb
  replace hx0 := hx0.below hb
  replace hx90 := hx90.below hb
  replace hx1 := hx1.below hb
  replace hx91 := hx91.below hb
  replace hF1 := hF1.below hb
  have hy1 := Fresh.of_whole (lo := v11.heap.size) (hi := v12.heap.size) hwy1 (by simpa using hgy1) hwy1.lt
  clear hgy1 hwy1
  clear hb
  refine hK.out _ _ ⟨hb0.cell 0, hb0.cell 1, hb0.cell 2, hb1.cell 0, hb1.cell 1, hx90.cell 0, hx90.cell 1, hx90.cell 2, hx91.cell 0, hx91.cell 1⟩ (fun hHeld => ?_)
  clear hK K
  try simp only [Act.put, List.getElem_toArray, List.getElem_cons_succ, List.getElem_cons_zero, List.setIfInBounds_toArray, List.set_cons_succ, List.set_cons_zero]
  refine wpAnyH_ready (rs := [3]) (by kernel_rfl) (by simp) (AllReadyH.cons rfl (fun K hK => ?_) AllReadyH.nil)
  go_simp
  refine (eqBank_yes _ _ n1 _ _ x1 t0 _ (by exact hx1.holds) (by exact hy1.holds) HX1.out (by omega)).mono ?_
  rintro e v13 ⟨rfl, hb⟩
  have hz13 : v12.heap.size ≤ v13.heap.size := by have := hb.size; simpa using this
  replace ht := below_then ht hb ht.size
  replace hb0 := hb0.below hb
  replace hb1 := hb1.below hb
  replace hF0 := hF0.below hb
  replace hx0 := hx0.below hb
  replace hx90 := hx90.below hb
  replace hx1 := hx1.below hb
  replace hx91 := hx91.below hb
  replace hF1 := hF1.below hb
  replace hy1 := hy1.below hb
  clear hb
  clear hy1
  refine hK.out _ _ ⟨hb0.cell 0, hb0.cell 1, hb0.cell 2, hb1.cell 0, hb1.cell 1, hx90.cell 0, hx90.cell 1, hx90.cell 2, hx91.cell 0, hx91.cell 1⟩ (fun hHeld => ?_)
  clear hK K
  try simp only [Act.put, List.getElem_toArray, List.getElem_cons_succ, List.getElem_cons_zero, List.setIfInBounds_toArray, List.set_cons_succ, List.set_cons_zero]
  refine wpAnyH_take (i := 4) (v := ?_) rfl (by kernel_rfl) (by kernel_rfl) (by kernel_rfl) (fun _ _ _ h => h) (Or.inl ⟨rfl, ?_⟩) hHeld ?_
  rotate_left
  · intro w' hS; obtain ⟨s0, s1, s2, s3, s4, s5, s6, s7, s8, s9⟩ := hS; go_simp <;> with_reducible rfl
  simp only [Act.put, List.getElem_toArray, List.getElem_cons_succ, List.getElem_cons_zero, List.setIfInBounds_toArray, List.set_cons_succ, List.set_cons_zero]
  refine wpAnyH_done (by kernel_rfl) ?_ _
  clear hHeld
  obtain ⟨hb0_0, hb0_1, hb0_2⟩ := hb0.cells3
  have hb0_l := hb0.lt
  obtain ⟨hb1_0, hb1_1⟩ := hb1.cells2
  have hb1_l := hb1.lt
  obtain ⟨hx90_0, hx90_1, hx90_2⟩ := hx90.cells3
  have hx90_l := hx90.lt
  obtain ⟨hx91_0, hx91_1⟩ := hx91.cells2
  have hx91_l := hx91.lt
  -- region 19
  go_wp2_with fail
  have hsum0 : part wsx0 wsx0.length ≤ 1048576 := by rw [part_nums hx0.grid h0 HEx0.out]; have := part_total x0; omega
  refine (markKeep_any k0 k1 (some ⟨gx0, 0, none⟩) n0 n0 _ _ wsx0 (1) _ hx0 HLx0.out (by omega) (by omega) (by omega) hsum0).mono ?_
  rintro e v14 ⟨rfl, hs, -⟩
  have hsz := ht.size
  replace ht := hs.below ht (by omega) hsz
  replace hb0 := hs.whole hb0 (by omega)
  replace hb1 := hs.whole hb1 (by omega)
  replace hF0 := hs.freeGrid hF0 (by omega)
  replace hx1 := hs.fresh hx1 (by omega)
  replace hx91 := hs.whole hx91 (by omega)
  replace hF1 := hs.freeGrid hF1 (by omega)
  clear hs hsz hx0 hx90
  have hk_1 : (0 : Int) ≤ 1 + ((part wsx0 wsx0.length : Nat) : Int) := by omega
  clear hb0_0 hb0_1 hb0_2 hb0_l hb1_0 hb1_1 hb1_l hx90_0 hx90_1 hx90_2 hx90_l hx91_0 hx91_1 hx91_l
  obtain ⟨hb0_0, hb0_1, hb0_2⟩ := hb0.cells3
  have hb0_l := hb0.lt
  obtain ⟨hb1_0, hb1_1⟩ := hb1.cells2
  have hb1_l := hb1.lt
  obtain ⟨hx91_0, hx91_1⟩ := hx91.cells2
  have hx91_l := hx91.lt
  -- region 20
  go_wp2_with fail
  refine (markBank_any (some ⟨gx1, 0, none⟩) n1 n1 _ _ _ t0 (1 + ((part wsx0 wsx0.length : Nat) : Int)) _ hx1 (by rw [bits_len]; exact HX1.out) (by omega) (by omega) (by omega)).mono ?_
  rintro e v15 ⟨rfl, hs, -⟩
  have hsz := ht.size
  replace ht := hs.below ht (by omega) hsz
  replace hb0 := hs.whole hb0 (by omega)
  replace hb1 := hs.whole hb1 (by omega)
  replace hF0 := hs.freeGrid hF0 (by omega)
  replace hF1 := hs.freeGrid hF1 (by omega)
  clear hs hsz hx1 hx91
  have hk_2 : (0 : Int) ≤ 1 + ((part wsx0 wsx0.length : Nat) : Int) + (n1 : Int) := by omega
  clear hb0_0 hb0_1 hb0_2 hb0_l hb1_0 hb1_1 hb1_l hx91_0 hx91_1 hx91_l
  obtain ⟨hb0_0, hb0_1, hb0_2⟩ := hb0.cells3
  have hb0_l := hb0.lt
  obtain ⟨hb1_0, hb1_1⟩ := hb1.cells2
  have hb1_l := hb1.lt
  -- region 21
  go_wp2_with fail
  refine (eqIntSS_yes B1 B0 m1 m0 q1 q0 rs1 rs0 _ (by exact hF1.grid) (by exact hF0.grid) (by rw [HER1.out, HER0.out]) HLR1.out HLR0.out (by omega)).mono ?_
  rintro e v16 ⟨rfl, hb⟩
  have hz16 : v15.heap.size ≤ v16.heap.size := by have := hb.size; simpa using this
  replace ht := below_then ht hb ht.size
  replace hb0 := hb0.below hb
  replace hb1 := hb1.below hb
  replace hF0 := hF0.below hb
  replace hF1 := hF1.below hb
  clear hb
  clear hb0_0 hb0_1 hb0_2 hb0_l hb1_0 hb1_1 hb1_l
  obtain ⟨hb0_0, hb0_1, hb0_2⟩ := hb0.cells3
  have hb0_l := hb0.lt
  obtain ⟨hb1_0, hb1_1⟩ := hb1.cells2
  have hb1_l := hb1.lt
  -- region 24
  go_wp2_with fail
  have hprt : part rs1 rs1.length ≤ 1048576 := by have h1 := part_lens hF1.grid; have h2 := hlen.2; rw [HER1.out] at h1; omega
  refine (markIntSS_any B1 m1 q1 _ _ rs1 1 _ hF1 HLR1.out (by omega) (by omega) hnr1 hprt).mono ?_
  rintro e v17 ⟨rfl, hs, hM⟩
  have hsz := ht.size
  replace ht := hs.below ht (by omega) hsz
  replace hb0 := hs.whole hb0 (by omega)
  replace hb1 := hs.whole hb1 (by omega)
  replace hF0 := hs.freeGrid hF0 (by omega)
  clear hs hF1 hsz
  clear hb0_0 hb0_1 hb0_2 hb0_l hb1_0 hb1_1 hb1_l
  obtain ⟨hb0_0, hb0_1, hb0_2⟩ := hb0.cells3
  have hb0_l := hb0.lt
  obtain ⟨hb1_0, hb1_1⟩ := hb1.cells2
  have hb1_l := hb1.lt
  -- region 26
  go_wp2_with fail
  refine (heldIntSS_any B1 m1 q1 rs1 1 _ (by exact hM.grid) HLR1.out (by omega) (by omega) hnr1 hprt).mono ?_
  rintro e v18 ⟨rfl, hb⟩
  have hz18 : v17.heap.size ≤ v18.heap.size := by have := hb.size; simpa using this
  replace ht := below_then ht hb ht.size
  replace hb0 := hb0.below hb
  replace hb1 := hb1.below hb
  replace hF0 := hF0.below hb
  replace hM := hM.below hb
  clear hb
  have hm0 : (0 : Int) ≤ 1 + ((part rs1 rs1.length : Nat) : Int) := by omega
  clear hb0_0 hb0_1 hb0_2 hb0_l hb1_0 hb1_1 hb1_l
  obtain ⟨hb0_0, hb0_1, hb0_2⟩ := hb0.cells3
  have hb0_l := hb0.lt
  obtain ⟨hb1_0, hb1_1⟩ := hb1.cells2
  have hb1_l := hb1.lt
  -- region 31
  clear hb0_0 hb0_1 hb0_2 hb0_l hb1_0 hb1_1 hb1_l
  go_wp2_with fail
  refine wp_region_held_drew (S := (fun w' => w'.cell? ⟨w.heap.size, 0, none⟩ = some (.int .i64 k0) ∧ w'.cell? ⟨w.heap.size, 1, none⟩ = some (.slice A0 n0 c0) ∧ w'.cell? ⟨w.heap.size, 2, none⟩ = some (.int .i64 k1) ∧ w'.cell? ⟨w.heap.size + 1, 0, none⟩ = some (.slice A1 n1 c1) ∧ w'.cell? ⟨w.heap.size + 1, 1, none⟩ = some (.bool t0))) (by kernel_rfl) ⟨hb0.drew.cell 0, hb0.drew.cell 1, hb0.drew.cell 2, hb1.drew.cell 0, hb1.drew.cell 1⟩ (fun hHeld => ?_)
  replace ht := ht.drew
  replace hb0 := hb0.drew
  replace hb1 := hb1.drew
  replace hF0 := hF0.drew
  replace hM := hM.drew
  refine wpAnyH_take (i := 0) (v := ?_) rfl (by kernel_rfl) (by kernel_rfl) (by kernel_rfl) (fun _ _ _ h => h) (Or.inl ⟨rfl, ?_⟩) hHeld ?_
  rotate_left
  · intro w' hS; obtain ⟨s0, s1, s2, s3, s4⟩ := hS; go_simp <;> with_reducible rfl
  simp only [Act.put, List.getElem_toArray, List.getElem_cons_succ, List.getElem_cons_zero, List.setIfInBounds_toArray, List.set_cons_succ, List.set_cons_zero]
  refine wpAnyH_take (i := 2) (v := ?_) rfl (by kernel_rfl) (by kernel_rfl) (by kernel_rfl) (fun _ _ _ h => h) (Or.inl ⟨rfl, ?_⟩) hHeld ?_
  rotate_left
  · intro w' hS; obtain ⟨s0, s1, s2, s3, s4⟩ := hS; go_simp <;> with_reducible rfl
  simp only [Act.put, List.getElem_toArray, List.getElem_cons_succ, List.getElem_cons_zero, List.setIfInBounds_toArray, List.set_cons_succ, List.set_cons_zero]
  refine wpAnyH_ready (rs := [1]) (by kernel_rfl) (by simp) (AllReadyH.cons rfl (fun K hK => ?_) AllReadyH.nil)
  go_simp
  refine (toKeep_own k0 A0 n0 c0 x0 k1 _ (by exact h0.below ht) HX0.out (by omega)).mono ?_
  rintro e v19 ⟨gr0, wsr0, rfl, hgr0, hwr0, her0, hlr0, hb⟩
  have hz19 : v18.heap.size ≤ v19.heap.size := by have := hb.size; simpa using this
  replace ht := below_then ht hb ht.size
  replace hb0 := hb0.below hb
  replace hb1 := hb1.below hb
  replace hF0 := hF0.below hb
  replace hM := hM.below hb
  have HEr0 := Lib.hid her0
  have HLr0 := Lib.hid hlr0
  clear her0 hlr0
  have hr0 := hwr0.free.more (lo' := v18.heap.size) (hi' := v19.heap.size) (by simpa using hgr0) (Nat.le_refl _)
  have hcapr0 : n0 ≤ 1048576 := by have := total_len x0; have := HX0.out; omega
  clear hgr0 hwr0
  clear hb
  refine hK.out _ _ ⟨hb0.cell 0, hb0.cell 1, hb0.cell 2, hb1.cell 0, hb1.cell 1⟩ (fun hHeld => ?_)
  clear hK K
  try simp only [Act.put, List.getElem_toArray, List.getElem_cons_succ, List.getElem_cons_zero, List.setIfInBounds_toArray, List.set_cons_succ, List.set_cons_zero]
  refine wpAnyH_ready (rs := [3]) (by kernel_rfl) (by simp) (AllReadyH.cons rfl (fun K hK => ?_) AllReadyH.nil)
  go_simp
  refine (toBank_own A1 n1 c1 x1 t0 _ (by exact h1.below ht) HX1.out (by omega)).mono ?_
  rintro e v20 ⟨gr1, rfl, hgr1, hwr1, hb⟩
  have hz20 : v19.heap.size ≤ v20.heap.size := by have := hb.size; simpa using this
  replace ht := below_then ht hb ht.size
  replace hb0 := hb0.below hb
  replace hb1 := hb1.below hb
  replace hF0 := hF0.below hb
  replace hM := hM.below hb
  replace hr0 := hr0.below hb
  have hr1 := Fresh.of_whole (lo := v19.heap.size) (hi := v20.heap.size) hwr1 (by simpa using hgr1) hwr1.lt
  clear hgr1 hwr1
  clear hb
  refine hK.out _ _ ⟨hb0.cell 0, hb0.cell 1, hb0.cell 2, hb1.cell 0, hb1.cell 1⟩ (fun hHeld => ?_)
  clear hK K
  try simp only [Act.put, List.getElem_toArray, List.getElem_cons_succ, List.getElem_cons_zero, List.setIfInBounds_toArray, List.set_cons_succ, List.set_cons_zero]
  refine wpAnyH_ready (rs := [4]) (by kernel_rfl) (by simp) (AllReadyH.cons rfl (fun K hK => ?_) AllReadyH.nil)
  go_simp
  refine (implDangersNow_on k0 k1 _ _ n0 _ n1 _ wsr0 x1 t0 (rowNums x0) _ (by exact hr0.grid) (by exact hr1.holds) HEr0.out HLr0.out (by omega) HX1.out (by omega)).mono ?_
  rintro e v21 ⟨B2, m2, q2, rs2, rfl, he2, hl2, hF2, hb⟩
  have hz21 : v20.heap.size ≤ v21.heap.size := by have := hb.size; simpa using this
  replace ht := below_then ht hb ht.size
  replace hb0 := hb0.below hb
  replace hb1 := hb1.below hb
  replace hF0 := hF0.below hb
  replace hM := hM.below hb
  replace hr0 := hr0.below hb
  replace hr1 := hr1.below hb
  have HER2 := Lib.hid he2
  have HLR2 := Lib.hid hl2
  have hnr2 : m2 ≤ 1048576 := by have h1 := hl2; have h2 := congrArg List.length he2; rw [rowNums_len] at h2; have h3 := hlen.1; omega
  clear he2 hl2
  replace hF2 := hF2.more (lo' := v20.heap.size) (hi' := v21.heap.size) (by simp) (Nat.le_refl _)
  clear hb
  clear hr0 hr1
  refine hK.out _ _ ⟨hb0.cell 0, hb0.cell 1, hb0.cell 2, hb1.cell 0, hb1.cell 1⟩ (fun hHeld => ?_)
  clear hK K
  try simp only [Act.put, List.getElem_toArray, List.getElem_cons_succ, List.getElem_cons_zero, List.setIfInBounds_toArray, List.set_cons_succ, List.set_cons_zero]
  refine wpAnyH_take (i := 5) (v := ?_) rfl (by kernel_rfl) (by kernel_rfl) (by kernel_rfl) (fun _ _ _ h => h) (Or.inl ⟨rfl, ?_⟩) hHeld ?_
  rotate_left
  · intro w' hS; obtain ⟨s0, s1, s2, s3, s4⟩ := hS; go_simp <;> with_reducible rfl
  simp only [Act.put, List.getElem_toArray, List.getElem_cons_succ, List.getElem_cons_zero, List.setIfInBounds_toArray, List.set_cons_succ, List.set_cons_zero]
  refine wpAnyH_take (i := 6) (v := ?_) rfl (by kernel_rfl) (by kernel_rfl) (by kernel_rfl) (fun _ _ _ h => h) (Or.inl ⟨rfl, ?_⟩) hHeld ?_
  rotate_left
  · intro w' hS; obtain ⟨s0, s1, s2, s3, s4⟩ := hS; go_simp <;> with_reducible rfl
  simp only [Act.put, List.getElem_toArray, List.getElem_cons_succ, List.getElem_cons_zero, List.setIfInBounds_toArray, List.set_cons_succ, List.set_cons_zero]
  refine wpAnyH_take (i := 7) (v := ?_) rfl (by kernel_rfl) (by kernel_rfl) (by kernel_rfl) (fun _ _ _ h => h) (Or.inl ⟨rfl, ?_⟩) hHeld ?_
  rotate_left
  · intro w' hS; obtain ⟨s0, s1, s2, s3, s4⟩ := hS; go_simp <;> with_reducible rfl
  simp only [Act.put, List.getElem_toArray, List.getElem_cons_succ, List.getElem_cons_zero, List.setIfInBounds_toArray, List.set_cons_succ, List.set_cons_zero]
  refine wpAnyH_take (i := 8) (v := ?_) rfl (by kernel_rfl) (by kernel_rfl) (by kernel_rfl) (fun _ _ _ h => h) (Or.inl ⟨rfl, ?_⟩) hHeld ?_
  rotate_left
  · intro w' hS; obtain ⟨s0, s1, s2, s3, s4⟩ := hS; go_simp <;> with_reducible rfl
  simp only [Act.put, List.getElem_toArray, List.getElem_cons_succ, List.getElem_cons_zero, List.setIfInBounds_toArray, List.set_cons_succ, List.set_cons_zero]
  refine wpAnyH_take (i := 9) (v := ?_) rfl (by kernel_rfl) (by kernel_rfl) (by kernel_rfl) (fun _ _ _ h => h) (Or.inl ⟨rfl, ?_⟩) hHeld ?_
  rotate_left
  · intro w' hS; obtain ⟨s0, s1, s2, s3, s4⟩ := hS; go_simp <;> with_reducible rfl
  simp only [Act.put, List.getElem_toArray, List.getElem_cons_succ, List.getElem_cons_zero, List.setIfInBounds_toArray, List.set_cons_succ, List.set_cons_zero]
  refine wpAnyH_done (by kernel_rfl) ?_ _
  clear hHeld
  obtain ⟨hb0_0, hb0_1, hb0_2⟩ := hb0.cells3
  have hb0_l := hb0.lt
  obtain ⟨hb1_0, hb1_1⟩ := hb1.cells2
  have hb1_l := hb1.lt
  -- region 32
  go_wp2_with fail
  refine (eqIntSS_yes B2 B0 m2 m0 q2 q0 rs2 rs0 _ (by exact hF2.grid) (by exact hF0.grid) (by rw [HER2.out, HER0.out]) HLR2.out HLR0.out (by omega)).mono ?_
  rintro e v22 ⟨rfl, hb⟩
  have hz22 : v21.heap.size ≤ v22.heap.size := by have := hb.size; simpa using this
  replace ht := below_then ht hb ht.size
  replace hb0 := hb0.below hb
  replace hb1 := hb1.below hb
  replace hF0 := hF0.below hb
  replace hM := hM.below hb
  replace hF2 := hF2.below hb
  clear hb
  clear hb0_0 hb0_1 hb0_2 hb0_l hb1_0 hb1_1 hb1_l
  obtain ⟨hb0_0, hb0_1, hb0_2⟩ := hb0.cells3
  have hb0_l := hb0.lt
  obtain ⟨hb1_0, hb1_1⟩ := hb1.cells2
  have hb1_l := hb1.lt
  -- region 35
  go_wp2_with fail
  refine (heldIntSS_any B1 m1 q1 rs1 1 _ (by exact hM.grid) HLR1.out (by omega) (by omega) hnr1 hprt).mono ?_
  rintro e v23 ⟨rfl, hb⟩
  have hz23 : v22.heap.size ≤ v23.heap.size := by have := hb.size; simpa using this
  replace ht := below_then ht hb ht.size
  replace hb0 := hb0.below hb
  replace hb1 := hb1.below hb
  replace hF0 := hF0.below hb
  replace hM := hM.below hb
  replace hF2 := hF2.below hb
  clear hb
  clear hb0_0 hb0_1 hb0_2 hb0_l hb1_0 hb1_1 hb1_l
  obtain ⟨hb0_0, hb0_1, hb0_2⟩ := hb0.cells3
  have hb0_l := hb0.lt
  obtain ⟨hb1_0, hb1_1⟩ := hb1.cells2
  have hb1_l := hb1.lt
  go_wp2
  go_ret
  exact ⟨rfl, ht⟩

theorem lawDangersNow_all (k0 : Int) (A0 : Option Addr) (n0 c0 : Nat) (x0 : List RowV) (k1 : Int) (A1 : Option Addr) (n1 c1 : Nat) (x1 : List Bool) (t0 : Bool) (w : World) (h0 : Grid w A0 x0) (hx0 : x0.length = n0) (hn0 : n0 ≤ 9223372036854775807) (h1 : Holds w A1 (bits x1)) (hx1 : x1.length = n1) (hn1 : n1 ≤ 9223372036854775807) :
    Calls Try.prog 8 #[.agg #[.int .i64 k0, .slice A0 n0 c0, .int .i64 k1], .agg #[.slice A1 n1 c1, .bool t0]] w fun e w' => e = .returned (.bool true) ∧ Below w.heap.size w w' := by
  rcases (inferInstance : Decidable (0 ≤ 1048576 - (total x0 : Int))) with g0 | g0
  · exact lawDangersNow_big0 k0 A0 n0 c0 x0 k1 A1 n1 c1 x1 t0 w h0 hx0 hn0 h1 hx1 hn1  (by omega)
  rcases (inferInstance : Decidable (0 ≤ 1048576 - (total x0 : Int) - (n1 : Int))) with g1 | g1
  · exact lawDangersNow_big1 k0 A0 n0 c0 x0 k1 A1 n1 c1 x1 t0 w h0 hx0 hn0 h1 hx1 hn1 g0 (by omega)
  exact lawDangersNow_small k0 A0 n0 c0 x0 k1 A1 n1 c1 x1 t0 w h0 hx0 hn0 h1 hx1 hn1 g0 g1
end Go.Proofs.Ytkdjdnknhbmliaa
