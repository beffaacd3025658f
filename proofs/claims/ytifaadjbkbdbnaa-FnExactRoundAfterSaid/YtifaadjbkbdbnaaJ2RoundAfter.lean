/-
  What is proved: the law FnExactRoundAfter returns true at every argument, and leaves all that was there as it was. Conditions: the arguments are read as they lie.
-/
import Derived.Deep.RegionHeld3
import Derived.Test.YtifaadjbkbdbnaaJ1RoundAfter
set_option linter.unusedSimpArgs false
set_option linter.unusedVariables false
namespace Go.Proofs.Ytifaadjbkbdbnaa
open Go.RowKit

set_option maxHeartbeats 800000 in
set_option linter.unusedVariables false in
theorem lawRoundAfter_big0 (A0 : Option Addr) (n0 c0 : Nat) (x0 : List Int) (k0 : Int) (k1 : Int) (A1 : Option Addr) (n1 c1 : Nat) (x1 : List Bool) (k2 : Int) (A2 : Option Addr) (n2 c2 : Nat) (x2 : List RowV) (w : World) (h0 : Holds w A0 (nums x0)) (hx0 : x0.length = n0) (hn0 : n0 ≤ 9223372036854775807) (h1 : Holds w A1 (bits x1)) (hx1 : x1.length = n1) (hn1 : n1 ≤ 9223372036854775807) (h2 : Grid w A2 x2) (hx2 : x2.length = n2) (hn2 : n2 ≤ 9223372036854775807)  (hbig : 1048576 - (n0 : Int) < 0) :
    Calls Try.prog 9 #[.agg #[.slice A0 n0 c0, .int .i64 k0, .int .i64 k1], .agg #[.slice A1 n1 c1, .int .i64 k2], .slice A2 n2 c2] w fun e w' => e = .returned (.bool true) ∧ Below w.heap.size w w' := by
  have hb0 := ((Whole.fresh w 45 #[.slice A0 n0 c0, .int .i64 k0, .int .i64 k1]).alloc (.cells #[.slice A1 n1 c1, .int .i64 k2] 53))
  have hb1 := (Whole.fresh (w.alloc (.cells #[.slice A0 n0 c0, .int .i64 k0, .int .i64 k1] 45)) 53 #[.slice A1 n1 c1, .int .i64 k2])
  simp only [World.size_alloc] at hb1
  have ht := below2 w (.cells #[.slice A0 n0 c0, .int .i64 k0, .int .i64 k1] 45) (.cells #[.slice A1 n1 c1, .int .i64 k2] 53)
  have HX0 := Lib.hid hx0
  have HX1 := Lib.hid hx1
  have HX2 := Lib.hid hx2
  clear hx0 hx1 hx2
  obtain ⟨hb0_0, hb0_1, hb0_2⟩ := hb0.cells3
  have hb0_l := hb0.lt
  obtain ⟨hb1_0, hb1_1⟩ := hb1.cells2
  have hb1_l := hb1.lt
  go_enter Try.func9, Try.ntmps9
  go_wp2_with fail
  refine (szNight_any A0 n0 c0 k0 k1 (1048576) _ (by omega) (by omega) (by omega)).mono ?_
  rintro e v1 ⟨rfl, hb⟩
  rw [if_pos (by omega)]
  have hz1 : w.heap.size + 1 + 1 ≤ v1.heap.size := by have := hb.size; simpa using this
  replace ht := below_then ht hb ht.size
  replace hb0 := hb0.below hb
  replace hb1 := hb1.below hb
  clear hb
  clear hb0_0 hb0_1 hb0_2 hb0_l hb1_0 hb1_1 hb1_l
  go_wp2
  go_ret
  exact ⟨rfl, ht⟩

set_option maxHeartbeats 800000 in
set_option linter.unusedVariables false in
theorem lawRoundAfter_big1 (A0 : Option Addr) (n0 c0 : Nat) (x0 : List Int) (k0 : Int) (k1 : Int) (A1 : Option Addr) (n1 c1 : Nat) (x1 : List Bool) (k2 : Int) (A2 : Option Addr) (n2 c2 : Nat) (x2 : List RowV) (w : World) (h0 : Holds w A0 (nums x0)) (hx0 : x0.length = n0) (hn0 : n0 ≤ 9223372036854775807) (h1 : Holds w A1 (bits x1)) (hx1 : x1.length = n1) (hn1 : n1 ≤ 9223372036854775807) (h2 : Grid w A2 x2) (hx2 : x2.length = n2) (hn2 : n2 ≤ 9223372036854775807) (g0 : 0 ≤ 1048576 - (n0 : Int)) (hbig : 1048576 - (n0 : Int) - (n1 : Int) < 0) :
    Calls Try.prog 9 #[.agg #[.slice A0 n0 c0, .int .i64 k0, .int .i64 k1], .agg #[.slice A1 n1 c1, .int .i64 k2], .slice A2 n2 c2] w fun e w' => e = .returned (.bool true) ∧ Below w.heap.size w w' := by
  have hb0 := ((Whole.fresh w 45 #[.slice A0 n0 c0, .int .i64 k0, .int .i64 k1]).alloc (.cells #[.slice A1 n1 c1, .int .i64 k2] 53))
  have hb1 := (Whole.fresh (w.alloc (.cells #[.slice A0 n0 c0, .int .i64 k0, .int .i64 k1] 45)) 53 #[.slice A1 n1 c1, .int .i64 k2])
  simp only [World.size_alloc] at hb1
  have ht := below2 w (.cells #[.slice A0 n0 c0, .int .i64 k0, .int .i64 k1] 45) (.cells #[.slice A1 n1 c1, .int .i64 k2] 53)
  have HX0 := Lib.hid hx0
  have HX1 := Lib.hid hx1
  have HX2 := Lib.hid hx2
  clear hx0 hx1 hx2
  obtain ⟨hb0_0, hb0_1, hb0_2⟩ := hb0.cells3
  have hb0_l := hb0.lt
  obtain ⟨hb1_0, hb1_1⟩ := hb1.cells2
  have hb1_l := hb1.lt
  go_enter Try.func9, Try.ntmps9
  go_wp2_with fail
  refine (szNight_any A0 n0 c0 k0 k1 (1048576) _ (by omega) (by omega) (by omega)).mono ?_
  rintro e v1 ⟨rfl, hb⟩
  rw [if_neg (by omega)]
  have hz1 : w.heap.size + 1 + 1 ≤ v1.heap.size := by have := hb.size; simpa using this
  replace ht := below_then ht hb ht.size
  replace hb0 := hb0.below hb
  replace hb1 := hb1.below hb
  clear hb
  clear hb0_0 hb0_1 hb0_2 hb0_l hb1_0 hb1_1 hb1_l
  obtain ⟨hb0_0, hb0_1, hb0_2⟩ := hb0.cells3
  have hb0_l := hb0.lt
  obtain ⟨hb1_0, hb1_1⟩ := hb1.cells2
  have hb1_l := hb1.lt
  go_wp2_with fail
  refine (szCamp_any A1 n1 c1 k2 (1048576 - (n0 : Int)) _ (by omega) (by omega) (by omega)).mono ?_
  rintro e v2 ⟨rfl, hb⟩
  rw [if_pos (by omega)]
  have hz2 : v1.heap.size ≤ v2.heap.size := by have := hb.size; simpa using this
  replace ht := below_then ht hb ht.size
  replace hb0 := hb0.below hb
  replace hb1 := hb1.below hb
  clear hb
  clear hb0_0 hb0_1 hb0_2 hb0_l hb1_0 hb1_1 hb1_l
  go_wp2
  go_ret
  exact ⟨rfl, ht⟩

set_option maxHeartbeats 800000 in
set_option linter.unusedVariables false in
theorem lawRoundAfter_big2 (A0 : Option Addr) (n0 c0 : Nat) (x0 : List Int) (k0 : Int) (k1 : Int) (A1 : Option Addr) (n1 c1 : Nat) (x1 : List Bool) (k2 : Int) (A2 : Option Addr) (n2 c2 : Nat) (x2 : List RowV) (w : World) (h0 : Holds w A0 (nums x0)) (hx0 : x0.length = n0) (hn0 : n0 ≤ 9223372036854775807) (h1 : Holds w A1 (bits x1)) (hx1 : x1.length = n1) (hn1 : n1 ≤ 9223372036854775807) (h2 : Grid w A2 x2) (hx2 : x2.length = n2) (hn2 : n2 ≤ 9223372036854775807) (g0 : 0 ≤ 1048576 - (n0 : Int)) (g1 : 0 ≤ 1048576 - (n0 : Int) - (n1 : Int)) (hbig : 1048576 - (n0 : Int) - (n1 : Int) - (total x2 : Int) < 0) :
    Calls Try.prog 9 #[.agg #[.slice A0 n0 c0, .int .i64 k0, .int .i64 k1], .agg #[.slice A1 n1 c1, .int .i64 k2], .slice A2 n2 c2] w fun e w' => e = .returned (.bool true) ∧ Below w.heap.size w w' := by
  have hb0 := ((Whole.fresh w 45 #[.slice A0 n0 c0, .int .i64 k0, .int .i64 k1]).alloc (.cells #[.slice A1 n1 c1, .int .i64 k2] 53))
  have hb1 := (Whole.fresh (w.alloc (.cells #[.slice A0 n0 c0, .int .i64 k0, .int .i64 k1] 45)) 53 #[.slice A1 n1 c1, .int .i64 k2])
  simp only [World.size_alloc] at hb1
  have ht := below2 w (.cells #[.slice A0 n0 c0, .int .i64 k0, .int .i64 k1] 45) (.cells #[.slice A1 n1 c1, .int .i64 k2] 53)
  have HX0 := Lib.hid hx0
  have HX1 := Lib.hid hx1
  have HX2 := Lib.hid hx2
  clear hx0 hx1 hx2
  obtain ⟨hb0_0, hb0_1, hb0_2⟩ := hb0.cells3
  have hb0_l := hb0.lt
  obtain ⟨hb1_0, hb1_1⟩ := hb1.cells2
  have hb1_l := hb1.lt
  go_enter Try.func9, Try.ntmps9
  go_wp2_with fail
  refine (szNight_any A0 n0 c0 k0 k1 (1048576) _ (by omega) (by omega) (by omega)).mono ?_
  rintro e v1 ⟨rfl, hb⟩
  rw [if_neg (by omega)]
  have hz1 : w.heap.size + 1 + 1 ≤ v1.heap.size := by have := hb.size; simpa using this
  replace ht := below_then ht hb ht.size
  replace hb0 := hb0.below hb
  replace hb1 := hb1.below hb
  clear hb
  clear hb0_0 hb0_1 hb0_2 hb0_l hb1_0 hb1_1 hb1_l
  obtain ⟨hb0_0, hb0_1, hb0_2⟩ := hb0.cells3
  have hb0_l := hb0.lt
  obtain ⟨hb1_0, hb1_1⟩ := hb1.cells2
  have hb1_l := hb1.lt
  go_wp2_with fail
  refine (szCamp_any A1 n1 c1 k2 (1048576 - (n0 : Int)) _ (by omega) (by omega) (by omega)).mono ?_
  rintro e v2 ⟨rfl, hb⟩
  rw [if_neg (by omega)]
  have hz2 : v1.heap.size ≤ v2.heap.size := by have := hb.size; simpa using this
  replace ht := below_then ht hb ht.size
  replace hb0 := hb0.below hb
  replace hb1 := hb1.below hb
  clear hb
  clear hb0_0 hb0_1 hb0_2 hb0_l hb1_0 hb1_1 hb1_l
  obtain ⟨hb0_0, hb0_1, hb0_2⟩ := hb0.cells3
  have hb0_l := hb0.lt
  obtain ⟨hb1_0, hb1_1⟩ := hb1.cells2
  have hb1_l := hb1.lt
  go_wp2_with fail
  refine (szIntSS_any A2 n2 c2 x2 (1048576 - (n0 : Int) - (n1 : Int)) _ (by exact h2.below ht) HX2.out (by omega) (by omega) (by omega)).mono ?_
  rintro e v3 ⟨rfl, rfl⟩
  rw [totalLeft, if_pos (by omega)]
  clear hb0_0 hb0_1 hb0_2 hb0_l hb1_0 hb1_1 hb1_l
  go_wp2
  go_ret
  exact ⟨rfl, ht⟩

set_option maxHeartbeats 12800000 in
set_option maxRecDepth 100000 in
set_option linter.unusedSimpArgs false in
set_option linter.unusedVariables false in
theorem lawRoundAfter_small (A0 : Option Addr) (n0 c0 : Nat) (x0 : List Int) (k0 : Int) (k1 : Int) (A1 : Option Addr) (n1 c1 : Nat) (x1 : List Bool) (k2 : Int) (A2 : Option Addr) (n2 c2 : Nat) (x2 : List RowV) (w : World) (h0 : Holds w A0 (nums x0)) (hx0 : x0.length = n0) (hn0 : n0 ≤ 9223372036854775807) (h1 : Holds w A1 (bits x1)) (hx1 : x1.length = n1) (hn1 : n1 ≤ 9223372036854775807) (h2 : Grid w A2 x2) (hx2 : x2.length = n2) (hn2 : n2 ≤ 9223372036854775807) (g0 : 0 ≤ 1048576 - (n0 : Int)) (g1 : 0 ≤ 1048576 - (n0 : Int) - (n1 : Int)) (g2 : 0 ≤ 1048576 - (n0 : Int) - (n1 : Int) - (total x2 : Int)) :
    Calls Try.prog 9 #[.agg #[.slice A0 n0 c0, .int .i64 k0, .int .i64 k1], .agg #[.slice A1 n1 c1, .int .i64 k2], .slice A2 n2 c2] w fun e w' => e = .returned (.bool true) ∧ Below w.heap.size w w' := by
  have hb0 := ((Whole.fresh w 45 #[.slice A0 n0 c0, .int .i64 k0, .int .i64 k1]).alloc (.cells #[.slice A1 n1 c1, .int .i64 k2] 53))
  have hb1 := (Whole.fresh (w.alloc (.cells #[.slice A0 n0 c0, .int .i64 k0, .int .i64 k1] 45)) 53 #[.slice A1 n1 c1, .int .i64 k2])
  simp only [World.size_alloc] at hb1
  have ht := below2 w (.cells #[.slice A0 n0 c0, .int .i64 k0, .int .i64 k1] 45) (.cells #[.slice A1 n1 c1, .int .i64 k2] 53)
  have HX0 := Lib.hid hx0
  have HX1 := Lib.hid hx1
  have HX2 := Lib.hid hx2
  clear hx0 hx1 hx2
  have hlen : ((rsBits x0 k0 k1 x1 k2 [rowNums x2])).length ≤ 1048576 := (Nat.le_trans rsBits_le (by have := HX1.out; omega))
  obtain ⟨hb0_0, hb0_1, hb0_2⟩ := hb0.cells3
  have hb0_l := hb0.lt
  obtain ⟨hb1_0, hb1_1⟩ := hb1.cells2
  have hb1_l := hb1.lt
  go_enter Try.func9, Try.ntmps9
  -- region 2
  go_wp2_with fail
  refine (szNight_any A0 n0 c0 k0 k1 (1048576) _ (by omega) (by omega) (by omega)).mono ?_
  rintro e v1 ⟨rfl, hb⟩
  rw [if_neg (by omega)]
  have hz1 : w.heap.size + 1 + 1 ≤ v1.heap.size := by have := hb.size; simpa using this
  replace ht := below_then ht hb ht.size
  replace hb0 := hb0.below hb
  replace hb1 := hb1.below hb
  clear hb
  clear hb0_0 hb0_1 hb0_2 hb0_l hb1_0 hb1_1 hb1_l
  obtain ⟨hb0_0, hb0_1, hb0_2⟩ := hb0.cells3
  have hb0_l := hb0.lt
  obtain ⟨hb1_0, hb1_1⟩ := hb1.cells2
  have hb1_l := hb1.lt
  -- region 5
  go_wp2_with fail
  refine (szCamp_any A1 n1 c1 k2 (1048576 - (n0 : Int)) _ (by omega) (by omega) (by omega)).mono ?_
  rintro e v2 ⟨rfl, hb⟩
  rw [if_neg (by omega)]
  have hz2 : v1.heap.size ≤ v2.heap.size := by have := hb.size; simpa using this
  replace ht := below_then ht hb ht.size
  replace hb0 := hb0.below hb
  replace hb1 := hb1.below hb
  clear hb
  clear hb0_0 hb0_1 hb0_2 hb0_l hb1_0 hb1_1 hb1_l
  obtain ⟨hb0_0, hb0_1, hb0_2⟩ := hb0.cells3
  have hb0_l := hb0.lt
  obtain ⟨hb1_0, hb1_1⟩ := hb1.cells2
  have hb1_l := hb1.lt
  -- region 8
  go_wp2_with fail
  refine (szIntSS_any A2 n2 c2 x2 (1048576 - (n0 : Int) - (n1 : Int)) _ (by exact h2.below ht) HX2.out (by omega) (by omega) (by omega)).mono ?_
  rintro e v3 ⟨rfl, rfl⟩
  rw [totalLeft, if_neg (by omega)]
  clear hb0_0 hb0_1 hb0_2 hb0_l hb1_0 hb1_1 hb1_l
  obtain ⟨hb0_0, hb0_1, hb0_2⟩ := hb0.cells3
  have hb0_l := hb0.lt
  obtain ⟨hb1_0, hb1_1⟩ := hb1.cells2
  have hb1_l := hb1.lt
  -- region 11
  have hbzphb0 := hb0.lt
  have hbzphb1 := hb1.lt
  go_upto_region 11 with fail
  go_cut [8, 9] (fun s8 s9 wx => ResMid 56 4 (fun A q => #[.slice A ((rsBits x0 k0 k1 x1 k2 [rowNums x2])).length q, .int .i64 (rsTorch x0 k0 k1 x1 k2 [rowNums x2])]) (bits ((rsBits x0 k0 k1 x1 k2 [rowNums x2]))) (rsOk x0 k0 k1 x1 k2 [rowNums x2]) v2 s8 s9 wx)
  case first =>
    go_region_held3 (fun w' => w'.cell? ⟨w.heap.size, 0, none⟩ = some (.slice A0 n0 c0) ∧ w'.cell? ⟨w.heap.size, 1, none⟩ = some (.int .i64 k0) ∧ w'.cell? ⟨w.heap.size, 2, none⟩ = some (.int .i64 k1) ∧ w'.cell? ⟨w.heap.size + 1, 0, none⟩ = some (.slice A1 n1 c1) ∧ w'.cell? ⟨w.heap.size + 1, 1, none⟩ = some (.int .i64 k2)) (go_keep)
      (first | (go_at_call 30; first | (refine (toNight_own A0 n0 c0 x0 k0 k1 _ (by exact h0.below (below_then ht (Below.refl v2.heap.size v2).drew ht.size)) HX0.out (by omega)).mono ?_; rintro e wp0 ⟨gp0, rfl, hgp0, hwp0, hbp0⟩; have hcp0 := below_then (Below.refl v2.heap.size v2).drew hbp0 (Nat.le_refl _); have hzp0 := hcp0.size; (try (replace hbox := hbox.below hbp0; clear x0_ x1_ x2_ x3_; obtain ⟨x0_, x1_, x2_, x3_⟩ := hbox.two)); obtain ⟨kp0hb0_0, kp0hb0_1, kp0hb0_2⟩ := (hb0.below hcp0).cells3; obtain ⟨kp0hb1_0, kp0hb1_1⟩ := (hb1.below hcp0).cells2) | (have hbox := Whole.fresh v2 56 #[.slice none 0 0, .int .i64 0]; replace hbox := hbox.drew; refine (toNight_own A0 n0 c0 x0 k0 k1 _ (by exact h0.below (below_then ht ((Below.refl v2.heap.size v2).alloc (Nat.le_refl _) (.cells #[.slice none 0 0, .int .i64 0] 56)).drew ht.size)) HX0.out (by omega)).mono ?_; rintro e wp0 ⟨gp0, rfl, hgp0, hwp0, hbp0⟩; have hcp0 := below_then ((Below.refl v2.heap.size v2).alloc (Nat.le_refl _) (.cells #[.slice none 0 0, .int .i64 0] 56)).drew hbp0 (by simp); have hzp0 := hcp0.size; have hy0_ : w.heap.size < v2.heap.size := (by omega); have hn0_ : ¬ v2.heap.size = w.heap.size := (by omega); have hv0_ : ¬ w.heap.size = v2.heap.size := (by omega); have hy1_ : w.heap.size + 1 < v2.heap.size := (by omega); have hn1_ : ¬ v2.heap.size = w.heap.size + 1 := (by omega); have hv1_ : ¬ w.heap.size + 1 = v2.heap.size := (by omega); replace hbox := hbox.below hbp0; obtain ⟨x0_, x1_, x2_, x3_⟩ := hbox.two; obtain ⟨kp0hb0_0, kp0hb0_1, kp0hb0_2⟩ := (hb0.below hcp0).cells3; obtain ⟨kp0hb1_0, kp0hb1_1⟩ := (hb1.below hcp0).cells2)) | (go_at_call 35; first | (refine (toCamp_own A1 n1 c1 x1 k2 _ (by exact h1.below (below_then ht hcp0 ht.size)) HX1.out (by omega)).mono ?_; rintro e wp1 ⟨gp1, rfl, hgp1, hwp1, hbp1⟩; have hcp1 := below_then hcp0 hbp1 hcp0.size; have hzp1 := hcp1.size; replace hwp0 := hwp0.below hbp1; (try (replace hbox := hbox.below hbp1; clear x0_ x1_ x2_ x3_; obtain ⟨x0_, x1_, x2_, x3_⟩ := hbox.two)); obtain ⟨kp1hb0_0, kp1hb0_1, kp1hb0_2⟩ := (hb0.below hcp1).cells3; obtain ⟨kp1hb1_0, kp1hb1_1⟩ := (hb1.below hcp1).cells2) | (have hbox := Whole.fresh wp0 56 #[.slice none 0 0, .int .i64 0]; refine (toCamp_own A1 n1 c1 x1 k2 _ (by exact h1.below (below_then ht (hcp0.alloc hcp0.size (.cells #[.slice none 0 0, .int .i64 0] 56)) ht.size)) HX1.out (by omega)).mono ?_; rintro e wp1 ⟨gp1, rfl, hgp1, hwp1, hbp1⟩; have hcp1 := below_then (hcp0.alloc hcp0.size (.cells #[.slice none 0 0, .int .i64 0] 56)) hbp1 (Nat.le_trans hcp0.size (by simp)); have hzp1 := hcp1.size; replace hwp0 := (hwp0.alloc (.cells #[.slice none 0 0, .int .i64 0] 56)).below hbp1; have hy0_ : w.heap.size < wp0.heap.size := (by omega); have hn0_ : ¬ wp0.heap.size = w.heap.size := (by omega); have hv0_ : ¬ w.heap.size = wp0.heap.size := (by omega); have hy1_ : w.heap.size + 1 < wp0.heap.size := (by omega); have hn1_ : ¬ wp0.heap.size = w.heap.size + 1 := (by omega); have hv1_ : ¬ w.heap.size + 1 = wp0.heap.size := (by omega); replace hbox := hbox.below hbp1; obtain ⟨x0_, x1_, x2_, x3_⟩ := hbox.two; obtain ⟨kp1hb0_0, kp1hb0_1, kp1hb0_2⟩ := (hb0.below hcp1).cells3; obtain ⟨kp1hb1_0, kp1hb1_1⟩ := (hb1.below hcp1).cells2)) | (go_at_call 50; first | (refine (toIntSS_any A2 n2 c2 x2 _ (by exact h2.below (below_then ht hcp1 ht.size)) HX2.out (by omega)).mono ?_; rintro e wp2 ⟨gp2, wsp2, rfl, hgp2, hwp2, hep2, hlp2, hbp2⟩; have HEp2 := Lib.hid hep2; have HLp2 := Lib.hid hlp2; clear hep2 hlp2; have hcp2 := below_then hcp1 hbp2 hcp1.size; have hzp2 := hcp2.size; replace hwp0 := hwp0.below hbp2; replace hwp1 := hwp1.below hbp2; (try (replace hbox := hbox.below hbp2; clear x0_ x1_ x2_ x3_; obtain ⟨x0_, x1_, x2_, x3_⟩ := hbox.two)); obtain ⟨kp2hb0_0, kp2hb0_1, kp2hb0_2⟩ := (hb0.below hcp2).cells3; obtain ⟨kp2hb1_0, kp2hb1_1⟩ := (hb1.below hcp2).cells2) | (have hbox := Whole.fresh wp1 56 #[.slice none 0 0, .int .i64 0]; refine (toIntSS_any A2 n2 c2 x2 _ (by exact h2.below (below_then ht (hcp1.alloc hcp1.size (.cells #[.slice none 0 0, .int .i64 0] 56)) ht.size)) HX2.out (by omega)).mono ?_; rintro e wp2 ⟨gp2, wsp2, rfl, hgp2, hwp2, hep2, hlp2, hbp2⟩; have HEp2 := Lib.hid hep2; have HLp2 := Lib.hid hlp2; clear hep2 hlp2; have hcp2 := below_then (hcp1.alloc hcp1.size (.cells #[.slice none 0 0, .int .i64 0] 56)) hbp2 (Nat.le_trans hcp1.size (by simp)); have hzp2 := hcp2.size; replace hwp0 := (hwp0.alloc (.cells #[.slice none 0 0, .int .i64 0] 56)).below hbp2; replace hwp1 := (hwp1.alloc (.cells #[.slice none 0 0, .int .i64 0] 56)).below hbp2; have hy0_ : w.heap.size < wp1.heap.size := (by omega); have hn0_ : ¬ wp1.heap.size = w.heap.size := (by omega); have hv0_ : ¬ w.heap.size = wp1.heap.size := (by omega); have hy1_ : w.heap.size + 1 < wp1.heap.size := (by omega); have hn1_ : ¬ wp1.heap.size = w.heap.size + 1 := (by omega); have hv1_ : ¬ w.heap.size + 1 = wp1.heap.size := (by omega); replace hbox := hbox.below hbp2; obtain ⟨x0_, x1_, x2_, x3_⟩ := hbox.two; obtain ⟨kp2hb0_0, kp2hb0_1, kp2hb0_2⟩ := (hb0.below hcp2).cells3; obtain ⟨kp2hb1_0, kp2hb1_1⟩ := (hb1.below hcp2).cells2)) | (go_at_call 52; first | ((try (have hbxl := hbox.lt)); refine (specRoundAfter_on _ n0 _ x0 k0 k1 _ n1 _ x1 k2 _ n2 _ wsp2 _ (by exact hwp0.holds) HX0.out (by omega) (by exact hwp1.holds) HX1.out (by omega) (by exact hwp2.grid) HLp2.out (by have := total_len x2; have := HX2.out; omega) (rowNums x2) HEp2.out).mono ?_; rintro e wps ⟨A0, q0, rfl, hF0_, hbps⟩; have hcps := below_then hcp2 hbps hcp2.size; have hzps := hcps.size; replace hwp0 := hwp0.below hbps; replace hwp1 := hwp1.below hbps; replace hwp2 := hwp2.below hbps; (try (replace hbox := hbox.below hbps; clear x0_ x1_ x2_ x3_; obtain ⟨x0_, x1_, x2_, x3_⟩ := hbox.two)); obtain ⟨kpshb0_0, kpshb0_1, kpshb0_2⟩ := (hb0.below hcps).cells3; obtain ⟨kpshb1_0, kpshb1_1⟩ := (hb1.below hcps).cells2) | (have hbox := Whole.fresh wp2 56 #[.slice none 0 0, .int .i64 0]; have hbxl := hbox.lt; refine (specRoundAfter_on _ n0 _ x0 k0 k1 _ n1 _ x1 k2 _ n2 _ wsp2 _ (by exact (hwp0.alloc (.cells #[.slice none 0 0, .int .i64 0] 56)).holds) HX0.out (by omega) (by exact (hwp1.alloc (.cells #[.slice none 0 0, .int .i64 0] 56)).holds) HX1.out (by omega) (by exact (hwp2.alloc (.cells #[.slice none 0 0, .int .i64 0] 56)).grid) HLp2.out (by have := total_len x2; have := HX2.out; omega) (rowNums x2) HEp2.out).mono ?_; rintro e wps ⟨A0, q0, rfl, hF0_, hbps⟩; have hcps := below_then (hcp2.alloc hcp2.size (.cells #[.slice none 0 0, .int .i64 0] 56)) hbps (Nat.le_trans hcp2.size (by simp)); have hzps := hcps.size; replace hwp0 := (hwp0.alloc (.cells #[.slice none 0 0, .int .i64 0] 56)).below hbps; replace hwp1 := (hwp1.alloc (.cells #[.slice none 0 0, .int .i64 0] 56)).below hbps; replace hwp2 := (hwp2.alloc (.cells #[.slice none 0 0, .int .i64 0] 56)).below hbps; have hy0_ : w.heap.size < wp2.heap.size := (by omega); have hn0_ : ¬ wp2.heap.size = w.heap.size := (by omega); have hv0_ : ¬ w.heap.size = wp2.heap.size := (by omega); have hy1_ : w.heap.size + 1 < wp2.heap.size := (by omega); have hn1_ : ¬ wp2.heap.size = w.heap.size + 1 := (by omega); have hv1_ : ¬ w.heap.size + 1 = wp2.heap.size := (by omega); replace hbox := hbox.below hbps; obtain ⟨x0_, x1_, x2_, x3_⟩ := hbox.two; obtain ⟨kpshb0_0, kpshb0_1, kpshb0_2⟩ := (hb0.below hcps).cells3; obtain ⟨kpshb1_0, kpshb1_1⟩ := (hb1.below hcps).cells2)))
    all_goals (go_wp2_with fail; go_meet)
    all_goals first | exact ResMid.first hcps (by first | omega | (simp; omega)) hF0_ (by first | omega | (simp; omega)) (by first | omega | (simp; omega)) hbox rfl | exact ResMid.last hcps (by first | omega | (simp; omega)) hF0_
  obtain ⟨wkp, rfl⟩ : ∃ W : World, W = wc := ⟨_, rfl⟩
  obtain ⟨grp, B0, q0, lop, hip, rfl, rfl, hgrp, hglp, hlop, hdp, hhip, hR0, hF0, hb⟩ := hcut
  have hz3 : v2.heap.size ≤ wkp.heap.size := by have := hb.size; simpa using this
  replace ht := below_then ht hb ht.size
  replace hb0 := hb0.below hb
  replace hb1 := hb1.below hb
  clear hb
  replace hR0 : Whole wkp grp 56 #[.slice B0 ((rsBits x0 k0 k1 x1 k2 [rowNums x2])).length q0, .int .i64 (rsTorch x0 k0 k1 x1 k2 [rowNums x2])] := hR0
  clear hb0_0 hb0_1 hb0_2 hb0_l hb1_0 hb1_1 hb1_l
  obtain ⟨hb0_0, hb0_1, hb0_2⟩ := hb0.cells3
  have hb0_l := hb0.lt
  obtain ⟨hb1_0, hb1_1⟩ := hb1.cells2
  have hb1_l := hb1.lt
  obtain ⟨hR0_0, hR0_1⟩ := hR0.cells2
  have hR0_l := hR0.lt
  -- region 12
  go_wp2_with fail
  refine (toNight_own A0 n0 c0 x0 k0 k1 _ (by exact h0.below ht) HX0.out (by omega)).mono ?_
  rintro e v3 ⟨gx0, rfl, hgx0, hwx0, hb⟩
  have hz4 : wkp.heap.size ≤ v3.heap.size := by have := hb.size; simpa using this
  replace ht := below_then ht hb ht.size
  replace hb0 := hb0.below hb
  replace hb1 := hb1.below hb
  replace hR0 := hR0.below hb
  replace hF0 := hF0.below hb
  have hx0 := Fresh.of_whole (lo := wkp.heap.size) (hi := v3.heap.size) hwx0 (by simpa using hgx0) hwx0.lt
  clear hgx0 hwx0
  clear hb
  have hx90 := Whole.fresh v3 48 #[.slice (some ⟨gx0, 0, none⟩) n0 n0, .int .i64 k0, .int .i64 k1]
  replace ht := ht.alloc ht.size (.cells #[.slice (some ⟨gx0, 0, none⟩) n0 n0, .int .i64 k0, .int .i64 k1] 48)
  replace hb0 := hb0.alloc (.cells #[.slice (some ⟨gx0, 0, none⟩) n0 n0, .int .i64 k0, .int .i64 k1] 48)
  replace hb1 := hb1.alloc (.cells #[.slice (some ⟨gx0, 0, none⟩) n0 n0, .int .i64 k0, .int .i64 k1] 48)
  replace hR0 := hR0.alloc (.cells #[.slice (some ⟨gx0, 0, none⟩) n0 n0, .int .i64 k0, .int .i64 k1] 48)
  replace hF0 := hF0.alloc (.cells #[.slice (some ⟨gx0, 0, none⟩) n0 n0, .int .i64 k0, .int .i64 k1] 48)
  replace hx0 := hx0.alloc (.cells #[.slice (some ⟨gx0, 0, none⟩) n0 n0, .int .i64 k0, .int .i64 k1] 48)
  clear hb0_0 hb0_1 hb0_2 hb0_l hb1_0 hb1_1 hb1_l hR0_0 hR0_1 hR0_l
  obtain ⟨hb0_0, hb0_1, hb0_2⟩ := hb0.cells3
  have hb0_l := hb0.lt
  obtain ⟨hb1_0, hb1_1⟩ := hb1.cells2
  have hb1_l := hb1.lt
  obtain ⟨hR0_0, hR0_1⟩ := hR0.cells2
  have hR0_l := hR0.lt
  obtain ⟨hx90_0, hx90_1, hx90_2⟩ := hx90.cells3
  have hx90_l := hx90.lt
  -- region 13
  go_wp2_with fail
  refine (toCamp_own A1 n1 c1 x1 k2 _ (by exact h1.below ht) HX1.out (by omega)).mono ?_
  rintro e v4 ⟨gx1, rfl, hgx1, hwx1, hb⟩
  have hz5 : v3.heap.size + 1 ≤ v4.heap.size := by have := hb.size; simpa using this
  replace ht := below_then ht hb ht.size
  replace hb0 := hb0.below hb
  replace hb1 := hb1.below hb
  replace hR0 := hR0.below hb
  replace hF0 := hF0.below hb
  replace hx0 := hx0.below hb
  replace hx90 := hx90.below hb
  have hx1 := Fresh.of_whole (lo := v3.heap.size + 1) (hi := v4.heap.size) hwx1 (by simpa using hgx1) hwx1.lt
  clear hgx1 hwx1
  clear hb
  have hx91 := Whole.fresh v4 56 #[.slice (some ⟨gx1, 0, none⟩) n1 n1, .int .i64 k2]
  replace ht := ht.alloc ht.size (.cells #[.slice (some ⟨gx1, 0, none⟩) n1 n1, .int .i64 k2] 56)
  replace hb0 := hb0.alloc (.cells #[.slice (some ⟨gx1, 0, none⟩) n1 n1, .int .i64 k2] 56)
  replace hb1 := hb1.alloc (.cells #[.slice (some ⟨gx1, 0, none⟩) n1 n1, .int .i64 k2] 56)
  replace hR0 := hR0.alloc (.cells #[.slice (some ⟨gx1, 0, none⟩) n1 n1, .int .i64 k2] 56)
  replace hF0 := hF0.alloc (.cells #[.slice (some ⟨gx1, 0, none⟩) n1 n1, .int .i64 k2] 56)
  replace hx0 := hx0.alloc (.cells #[.slice (some ⟨gx1, 0, none⟩) n1 n1, .int .i64 k2] 56)
  replace hx90 := hx90.alloc (.cells #[.slice (some ⟨gx1, 0, none⟩) n1 n1, .int .i64 k2] 56)
  replace hx1 := hx1.alloc (.cells #[.slice (some ⟨gx1, 0, none⟩) n1 n1, .int .i64 k2] 56)
  clear hb0_0 hb0_1 hb0_2 hb0_l hb1_0 hb1_1 hb1_l hR0_0 hR0_1 hR0_l hx90_0 hx90_1 hx90_2 hx90_l
  obtain ⟨hb0_0, hb0_1, hb0_2⟩ := hb0.cells3
  have hb0_l := hb0.lt
  obtain ⟨hb1_0, hb1_1⟩ := hb1.cells2
  have hb1_l := hb1.lt
  obtain ⟨hR0_0, hR0_1⟩ := hR0.cells2
  have hR0_l := hR0.lt
  obtain ⟨hx90_0, hx90_1, hx90_2⟩ := hx90.cells3
  have hx90_l := hx90.lt
  obtain ⟨hx91_0, hx91_1⟩ := hx91.cells2
  have hx91_l := hx91.lt
  -- region 14
  go_wp2_with fail
  refine (toIntSS_any A2 n2 c2 x2 _ (by exact h2.below ht) HX2.out (by omega)).mono ?_
  rintro e v5 ⟨gx2, wsx2, rfl, hgx2, hwx2, hex2, hlx2, hb⟩
  have hz6 : v4.heap.size + 1 ≤ v5.heap.size := by have := hb.size; simpa using this
  replace ht := below_then ht hb ht.size
  replace hb0 := hb0.below hb
  replace hb1 := hb1.below hb
  replace hR0 := hR0.below hb
  replace hF0 := hF0.below hb
  replace hx0 := hx0.below hb
  replace hx90 := hx90.below hb
  replace hx1 := hx1.below hb
  replace hx91 := hx91.below hb
  have HEx2 := Lib.hid hex2
  have HLx2 := Lib.hid hlx2
  clear hex2 hlx2
  have hx2 := hwx2.free.more (lo' := v4.heap.size + 1) (hi' := v5.heap.size) (by simpa using hgx2) (Nat.le_refl _)
  have hcapx2 : n2 ≤ 1048576 := by have := total_len x2; have := HX2.out; omega
  clear hgx2 hwx2
  clear hb
  clear hb0_0 hb0_1 hb0_2 hb0_l hb1_0 hb1_1 hb1_l hR0_0 hR0_1 hR0_l hx90_0 hx90_1 hx90_2 hx90_l hx91_0 hx91_1 hx91_l
  obtain ⟨hb0_0, hb0_1, hb0_2⟩ := hb0.cells3
  have hb0_l := hb0.lt
  obtain ⟨hb1_0, hb1_1⟩ := hb1.cells2
  have hb1_l := hb1.lt
  obtain ⟨hR0_0, hR0_1⟩ := hR0.cells2
  have hR0_l := hR0.lt
  obtain ⟨hx90_0, hx90_1, hx90_2⟩ := hx90.cells3
  have hx90_l := hx90.lt
  obtain ⟨hx91_0, hx91_1⟩ := hx91.cells2
  have hx91_l := hx91.lt
  -- region 15
  go_wp2_with fail
  refine (implRoundAfter_on _ n0 _ x0 k0 k1 _ n1 _ x1 k2 _ n2 _ wsx2 _ (by exact hx0.holds) HX0.out (by omega) (by exact hx1.holds) HX1.out (by omega) (by exact hx2.grid) HLx2.out (by have := total_len x2; have := HX2.out; omega) (rowNums x2) HEx2.out).mono ?_
  rintro e v6 ⟨B1, q1, rfl, hF1, hb⟩
  have hz7 : v5.heap.size ≤ v6.heap.size := by have := hb.size; simpa using this
  replace ht := below_then ht hb ht.size
  replace hb0 := hb0.below hb
  replace hb1 := hb1.below hb
  replace hR0 := hR0.below hb
  replace hF0 := hF0.below hb
  replace hx0 := hx0.below hb
  replace hx90 := hx90.below hb
  replace hx1 := hx1.below hb
  replace hx91 := hx91.below hb
  replace hx2 := hx2.below hb
  replace hF1 := hF1.more (lo' := v5.heap.size) (hi' := v6.heap.size) (by simp) (Nat.le_refl _)
  have hR1 := Whole.fresh v6 56 #[.slice B1 ((rsBits x0 k0 k1 x1 k2 [rowNums x2])).length q1, .int .i64 (rsTorch x0 k0 k1 x1 k2 [rowNums x2])]
  replace ht := ht.alloc ht.size (.cells #[.slice B1 ((rsBits x0 k0 k1 x1 k2 [rowNums x2])).length q1, .int .i64 (rsTorch x0 k0 k1 x1 k2 [rowNums x2])] 56)
  replace hb0 := hb0.alloc (.cells #[.slice B1 ((rsBits x0 k0 k1 x1 k2 [rowNums x2])).length q1, .int .i64 (rsTorch x0 k0 k1 x1 k2 [rowNums x2])] 56)
  replace hb1 := hb1.alloc (.cells #[.slice B1 ((rsBits x0 k0 k1 x1 k2 [rowNums x2])).length q1, .int .i64 (rsTorch x0 k0 k1 x1 k2 [rowNums x2])] 56)
  replace hR0 := hR0.alloc (.cells #[.slice B1 ((rsBits x0 k0 k1 x1 k2 [rowNums x2])).length q1, .int .i64 (rsTorch x0 k0 k1 x1 k2 [rowNums x2])] 56)
  replace hF0 := hF0.alloc (.cells #[.slice B1 ((rsBits x0 k0 k1 x1 k2 [rowNums x2])).length q1, .int .i64 (rsTorch x0 k0 k1 x1 k2 [rowNums x2])] 56)
  replace hx0 := hx0.alloc (.cells #[.slice B1 ((rsBits x0 k0 k1 x1 k2 [rowNums x2])).length q1, .int .i64 (rsTorch x0 k0 k1 x1 k2 [rowNums x2])] 56)
  replace hx90 := hx90.alloc (.cells #[.slice B1 ((rsBits x0 k0 k1 x1 k2 [rowNums x2])).length q1, .int .i64 (rsTorch x0 k0 k1 x1 k2 [rowNums x2])] 56)
  replace hx1 := hx1.alloc (.cells #[.slice B1 ((rsBits x0 k0 k1 x1 k2 [rowNums x2])).length q1, .int .i64 (rsTorch x0 k0 k1 x1 k2 [rowNums x2])] 56)
  replace hx91 := hx91.alloc (.cells #[.slice B1 ((rsBits x0 k0 k1 x1 k2 [rowNums x2])).length q1, .int .i64 (rsTorch x0 k0 k1 x1 k2 [rowNums x2])] 56)
  replace hx2 := hx2.alloc (.cells #[.slice B1 ((rsBits x0 k0 k1 x1 k2 [rowNums x2])).length q1, .int .i64 (rsTorch x0 k0 k1 x1 k2 [rowNums x2])] 56)
  replace hF1 := hF1.alloc (.cells #[.slice B1 ((rsBits x0 k0 k1 x1 k2 [rowNums x2])).length q1, .int .i64 (rsTorch x0 k0 k1 x1 k2 [rowNums x2])] 56)
  clear hb
  clear hb0_0 hb0_1 hb0_2 hb0_l hb1_0 hb1_1 hb1_l hR0_0 hR0_1 hR0_l hx90_0 hx90_1 hx90_2 hx90_l hx91_0 hx91_1 hx91_l
  obtain ⟨hb0_0, hb0_1, hb0_2⟩ := hb0.cells3
  have hb0_l := hb0.lt
  obtain ⟨hb1_0, hb1_1⟩ := hb1.cells2
  have hb1_l := hb1.lt
  obtain ⟨hR0_0, hR0_1⟩ := hR0.cells2
  have hR0_l := hR0.lt
  obtain ⟨hx90_0, hx90_1, hx90_2⟩ := hx90.cells3
  have hx90_l := hx90.lt
  obtain ⟨hx91_0, hx91_1⟩ := hx91.cells2
  have hx91_l := hx91.lt
  obtain ⟨hR1_0, hR1_1⟩ := hR1.cells2
  have hR1_l := hR1.lt
  -- region 16
  go_wp2_with fail
  refine (eqCamp_yes B1 B0 ((rsBits x0 k0 k1 x1 k2 [rowNums x2])).length q1 q0 ((rsBits x0 k0 k1 x1 k2 [rowNums x2])) (rsTorch x0 k0 k1 x1 k2 [rowNums x2]) _ (by exact hF1.holds) (by exact hF0.holds) rfl (by omega)).mono ?_
  rintro e v7 ⟨rfl, hb⟩
  have hz8 : v6.heap.size + 1 ≤ v7.heap.size := by have := hb.size; simpa using this
  replace ht := below_then ht hb ht.size
  replace hb0 := hb0.below hb
  replace hb1 := hb1.below hb
  replace hR0 := hR0.below hb
  replace hF0 := hF0.below hb
  replace hx0 := hx0.below hb
  replace hx90 := hx90.below hb
  replace hx1 := hx1.below hb
  replace hx91 := hx91.below hb
  replace hx2 := hx2.below hb
  replace hF1 := hF1.below hb
  replace hR1 := hR1.below hb
  clear hb
  clear hb0_0 hb0_1 hb0_2 hb0_l hb1_0 hb1_1 hb1_l hR0_0 hR0_1 hR0_l hx90_0 hx90_1 hx90_2 hx90_l hx91_0 hx91_1 hx91_l hR1_0 hR1_1 hR1_l
  obtain ⟨hb0_0, hb0_1, hb0_2⟩ := hb0.cells3
  have hb0_l := hb0.lt
  obtain ⟨hb1_0, hb1_1⟩ := hb1.cells2
  have hb1_l := hb1.lt
  obtain ⟨hR0_0, hR0_1⟩ := hR0.cells2
  have hR0_l := hR0.lt
  obtain ⟨hx90_0, hx90_1, hx90_2⟩ := hx90.cells3
  have hx90_l := hx90.lt
  obtain ⟨hx91_0, hx91_1⟩ := hx91.cells2
  have hx91_l := hx91.lt
  obtain ⟨hR1_0, hR1_1⟩ := hR1.cells2
  have hR1_l := hR1.lt
  -- region 18
  clear hb0_0 hb0_1 hb0_2 hb0_l hb1_0 hb1_1 hb1_l hR0_0 hR0_1 hR0_l hx90_0 hx90_1 hx90_2 hx90_l hx91_0 hx91_1 hx91_l hR1_0 hR1_1 hR1_l
  go_wp2_with fail
  refine wp_region_held_drew (S := (fun w' => w'.cell? ⟨w.heap.size, 0, none⟩ = some (.slice A0 n0 c0) ∧ w'.cell? ⟨w.heap.size, 1, none⟩ = some (.int .i64 k0) ∧ w'.cell? ⟨w.heap.size, 2, none⟩ = some (.int .i64 k1) ∧ w'.cell? ⟨w.heap.size + 1, 0, none⟩ = some (.slice A1 n1 c1) ∧ w'.cell? ⟨w.heap.size + 1, 1, none⟩ = some (.int .i64 k2) ∧ w'.cell? ⟨grp, 0, none⟩ = some (.slice B0 ((rsBits x0 k0 k1 x1 k2 [rowNums x2])).length q0) ∧ w'.cell? ⟨grp, 1, none⟩ = some (.int .i64 (rsTorch x0 k0 k1 x1 k2 [rowNums x2])) ∧ w'.cell? ⟨v3.heap.size, 0, none⟩ = some (.slice (some ⟨gx0, 0, none⟩) n0 n0) ∧ w'.cell? ⟨v3.heap.size, 1, none⟩ = some (.int .i64 k0) ∧ w'.cell? ⟨v3.heap.size, 2, none⟩ = some (.int .i64 k1) ∧ w'.cell? ⟨v4.heap.size, 0, none⟩ = some (.slice (some ⟨gx1, 0, none⟩) n1 n1) ∧ w'.cell? ⟨v4.heap.size, 1, none⟩ = some (.int .i64 k2) ∧ w'.cell? ⟨v6.heap.size, 0, none⟩ = some (.slice B1 ((rsBits x0 k0 k1 x1 k2 [rowNums x2])).length q1) ∧ w'.cell? ⟨v6.heap.size, 1, none⟩ = some (.int .i64 (rsTorch x0 k0 k1 x1 k2 [rowNums x2])))) (by kernel_rfl) ⟨hb0.drew.cell 0, hb0.drew.cell 1, hb0.drew.cell 2, hb1.drew.cell 0, hb1.drew.cell 1, hR0.drew.cell 0, hR0.drew.cell 1, hx90.drew.cell 0, hx90.drew.cell 1, hx90.drew.cell 2, hx91.drew.cell 0, hx91.drew.cell 1, hR1.drew.cell 0, hR1.drew.cell 1⟩ (fun hHeld => ?_)
  replace ht := ht.drew
  replace hb0 := hb0.drew
  replace hb1 := hb1.drew
  replace hR0 := hR0.drew
  replace hF0 := hF0.drew
  replace hx0 := hx0.drew
  replace hx90 := hx90.drew
  replace hx1 := hx1.drew
  replace hx91 := hx91.drew
  replace hx2 := hx2.drew
  replace hF1 := hF1.drew
  replace hR1 := hR1.drew
  refine wpAnyH_take (i := 0) (v := ?_) rfl (by kernel_rfl) (by kernel_rfl) (by kernel_rfl) (fun _ _ _ h => h) (Or.inl ⟨rfl, ?_⟩) hHeld ?_
  rotate_left
  · intro w' hS; obtain ⟨s0, s1, s2, s3, s4, s5, s6, s7, s8, s9, s10, s11, s12, s13⟩ := hS; go_simp <;> with_reducible rfl
  simp only [Act.put, List.getElem_toArray, List.getElem_cons_succ, List.getElem_cons_zero, List.setIfInBounds_toArray, List.set_cons_succ, List.set_cons_zero]
  refine wpAnyH_take (i := 1) (v := ?_) rfl (by kernel_rfl) (by kernel_rfl) (by kernel_rfl) (fun _ _ _ h => h) (Or.inl ⟨rfl, ?_⟩) hHeld ?_
  rotate_left
  · intro w' hS; obtain ⟨s0, s1, s2, s3, s4, s5, s6, s7, s8, s9, s10, s11, s12, s13⟩ := hS; go_simp <;> with_reducible rfl
  simp only [Act.put, List.getElem_toArray, List.getElem_cons_succ, List.getElem_cons_zero, List.setIfInBounds_toArray, List.set_cons_succ, List.set_cons_zero]
  refine wpAnyH_ready (rs := [2]) (by kernel_rfl) (by simp) (AllReadyH.cons rfl (fun K hK => ?_) AllReadyH.nil)
  go_simp
  refine (toNight_own A0 n0 c0 x0 k0 k1 _ (by exact h0.below ht) HX0.out (by omega)).mono ?_
  rintro e v8 ⟨gy0, rfl, hgy0, hwy0, hb⟩
  have hz9 : v7.heap.size ≤ v8.heap.size := by have := hb.size; simpa using this
  replace ht := below_then ht hb ht.size
  replace hb0 := hb0.below hb
  replace hb1 := hb1.below hb
  replace hR0 := hR0.below hb
  replace hF0 := hF0.below hb
  replace hx0 := hx0.below hb
  replace hx90 := hx90.below hb
  replace hx1 := hx1.below hb
  replace hx91 := hx91.below hb
  replace hx2 := hx2.below hb
  replace hF1 := hF1.below hb
  replace hR1 := hR1.below hb
  have hy0 := Fresh.of_whole (lo := v7.heap.size) (hi := v8.heap.size) hwy0 (by simpa using hgy0) hwy0.lt
  clear hgy0 hwy0
  clear hb
  refine hK.out _ _ ⟨hb0.cell 0, hb0.cell 1, hb0.cell 2, hb1.cell 0, hb1.cell 1, hR0.cell 0, hR0.cell 1, hx90.cell 0, hx90.cell 1, hx90.cell 2, hx91.cell 0, hx91.cell 1, hR1.cell 0, hR1.cell 1⟩ (fun hHeld => ?_)
  clear hK K
  try simp only [Act.put, List.getElem_toArray, List.getElem_cons_succ, List.getElem_cons_zero, List.setIfInBounds_toArray, List.set_cons_succ, List.set_cons_zero]
  refine wpAnyH_ready (rs := [3]) (by kernel_rfl) (by simp) (AllReadyH.cons rfl (fun K hK => ?_) AllReadyH.nil)
  go_simp
  refine (eqNight_yes _ _ n0 _ _ x0 k0 k1 _ (by exact hx0.holds) (by exact hy0.holds) HX0.out (by omega)).mono ?_
  rintro e v9 ⟨rfl, hb⟩
  have hz10 : v8.heap.size ≤ v9.heap.size := by have := hb.size; simpa using this
  replace ht := below_then ht hb ht.size
  replace hb0 := hb0.below hb
  replace hb1 := hb1.below hb
  replace hR0 := hR0.below hb
  replace hF0 := hF0.below hb
  replace hx0 := hx0.below hb
  replace hx90 := hx90.below hb
  replace hx1 := hx1.below hb
  replace hx91 := hx91.below hb
  replace hx2 := hx2.below hb
  replace hF1 := hF1.below hb
  replace hR1 := hR1.below hb
  replace hy0 := hy0.below hb
  clear hb
  clear hy0
  refine hK.out _ _ ⟨hb0.cell 0, hb0.cell 1, hb0.cell 2, hb1.cell 0, hb1.cell 1, hR0.cell 0, hR0.cell 1, hx90.cell 0, hx90.cell 1, hx90.cell 2, hx91.cell 0, hx91.cell 1, hR1.cell 0, hR1.cell 1⟩ (fun hHeld => ?_)
  clear hK K
  try simp only [Act.put, List.getElem_toArray, List.getElem_cons_succ, List.getElem_cons_zero, List.setIfInBounds_toArray, List.set_cons_succ, List.set_cons_zero]
  refine wpAnyH_take (i := 4) (v := ?_) rfl (by kernel_rfl) (by kernel_rfl) (by kernel_rfl) (fun _ _ _ h => h) (Or.inl ⟨rfl, ?_⟩) hHeld ?_
  rotate_left
  · intro w' hS; obtain ⟨s0, s1, s2, s3, s4, s5, s6, s7, s8, s9, s10, s11, s12, s13⟩ := hS; go_simp <;> with_reducible rfl
  simp only [Act.put, List.getElem_toArray, List.getElem_cons_succ, List.getElem_cons_zero, List.setIfInBounds_toArray, List.set_cons_succ, List.set_cons_zero]
  refine wpAnyH_done (by kernel_rfl) ?_ _
  clear hHeld
  obtain ⟨hb0_0, hb0_1, hb0_2⟩ := hb0.cells3
  have hb0_l := hb0.lt
  obtain ⟨hb1_0, hb1_1⟩ := hb1.cells2
  have hb1_l := hb1.lt
  obtain ⟨hR0_0, hR0_1⟩ := hR0.cells2
  have hR0_l := hR0.lt
  obtain ⟨hx90_0, hx90_1, hx90_2⟩ := hx90.cells3
  have hx90_l := hx90.lt
  obtain ⟨hx91_0, hx91_1⟩ := hx91.cells2
  have hx91_l := hx91.lt
  obtain ⟨hR1_0, hR1_1⟩ := hR1.cells2
  have hR1_l := hR1.lt
  -- region 20
  clear hb0_0 hb0_1 hb0_2 hb0_l hb1_0 hb1_1 hb1_l hR0_0 hR0_1 hR0_l hx90_0 hx90_1 hx90_2 hx90_l hx91_0 hx91_1 hx91_l hR1_0 hR1_1 hR1_l
  go_wp2_with fail
  refine wp_region_held_drew (S := (fun w' => w'.cell? ⟨w.heap.size, 0, none⟩ = some (.slice A0 n0 c0) ∧ w'.cell? ⟨w.heap.size, 1, none⟩ = some (.int .i64 k0) ∧ w'.cell? ⟨w.heap.size, 2, none⟩ = some (.int .i64 k1) ∧ w'.cell? ⟨w.heap.size + 1, 0, none⟩ = some (.slice A1 n1 c1) ∧ w'.cell? ⟨w.heap.size + 1, 1, none⟩ = some (.int .i64 k2) ∧ w'.cell? ⟨grp, 0, none⟩ = some (.slice B0 ((rsBits x0 k0 k1 x1 k2 [rowNums x2])).length q0) ∧ w'.cell? ⟨grp, 1, none⟩ = some (.int .i64 (rsTorch x0 k0 k1 x1 k2 [rowNums x2])) ∧ w'.cell? ⟨v3.heap.size, 0, none⟩ = some (.slice (some ⟨gx0, 0, none⟩) n0 n0) ∧ w'.cell? ⟨v3.heap.size, 1, none⟩ = some (.int .i64 k0) ∧ w'.cell? ⟨v3.heap.size, 2, none⟩ = some (.int .i64 k1) ∧ w'.cell? ⟨v4.heap.size, 0, none⟩ = some (.slice (some ⟨gx1, 0, none⟩) n1 n1) ∧ w'.cell? ⟨v4.heap.size, 1, none⟩ = some (.int .i64 k2) ∧ w'.cell? ⟨v6.heap.size, 0, none⟩ = some (.slice B1 ((rsBits x0 k0 k1 x1 k2 [rowNums x2])).length q1) ∧ w'.cell? ⟨v6.heap.size, 1, none⟩ = some (.int .i64 (rsTorch x0 k0 k1 x1 k2 [rowNums x2])))) (by kernel_rfl) ⟨hb0.drew.cell 0, hb0.drew.cell 1, hb0.drew.cell 2, hb1.drew.cell 0, hb1.drew.cell 1, hR0.drew.cell 0, hR0.drew.cell 1, hx90.drew.cell 0, hx90.drew.cell 1, hx90.drew.cell 2, hx91.drew.cell 0, hx91.drew.cell 1, hR1.drew.cell 0, hR1.drew.cell 1⟩ (fun hHeld => ?_)
  replace ht := ht.drew
  replace hb0 := hb0.drew
  replace hb1 := hb1.drew
  replace hR0 := hR0.drew
  replace hF0 := hF0.drew
  replace hx0 := hx0.drew
  replace hx90 := hx90.drew
  replace hx1 := hx1.drew
  replace hx91 := hx91.drew
  replace hx2 := hx2.drew
  replace hF1 := hF1.drew
  replace hR1 := hR1.drew
  refine wpAnyH_take (i := 0) (v := ?_) rfl (by kernel_rfl) (by kernel_rfl) (by kernel_rfl) (fun _ _ _ h => h) (Or.inl ⟨rfl, ?_⟩) hHeld ?_
  rotate_left
  · intro w' hS; obtain ⟨s0, s1, s2, s3, s4, s5, s6, s7, s8, s9, s10, s11, s12, s13⟩ := hS; go_simp <;> with_reducible rfl
  simp only [Act.put, List.getElem_toArray, List.getElem_cons_succ, List.getElem_cons_zero, List.setIfInBounds_toArray, List.set_cons_succ, List.set_cons_zero]
  refine wpAnyH_take (i := 1) (v := ?_) rfl (by kernel_rfl) (by kernel_rfl) (by kernel_rfl) (fun _ _ _ h => h) (Or.inl ⟨rfl, ?_⟩) hHeld ?_
  rotate_left
  · intro w' hS; obtain ⟨s0, s1, s2, s3, s4, s5, s6, s7, s8, s9, s10, s11, s12, s13⟩ := hS; go_simp <;> with_reducible rfl
  simp only [Act.put, List.getElem_toArray, List.getElem_cons_succ, List.getElem_cons_zero, List.setIfInBounds_toArray, List.set_cons_succ, List.set_cons_zero]
  refine wpAnyH_ready (rs := [2]) (by kernel_rfl) (by simp) (AllReadyH.cons rfl (fun K hK => ?_) AllReadyH.nil)
  go_simp
  refine (toCamp_own A1 n1 c1 x1 k2 _ (by exact h1.below ht) HX1.out (by omega)).mono ?_
  rintro e v10 ⟨gy1, rfl, hgy1, hwy1, hb⟩
  have hz11 : v9.heap.size ≤ v10.heap.size := by have := hb.size; simpa using this
  replace ht := below_then ht hb ht.size
  replace hb0 := hb0.below hb
  replace hb1 := hb1.below hb
  replace hR0 := hR0.below hb
  replace hF0 := hF0.below hb
  replace hx0 := hx0.below hb
  replace hx90 := hx90.below hb
  replace hx1 := hx1.below hb
  replace hx91 := hx91.below hb
  replace hx2 := hx2.below hb
  replace hF1 := hF1.below hb
  replace hR1 := hR1.below hb
  have hy1 := Fresh.of_whole (lo := v9.heap.size) (hi := v10.heap.size) hwy1 (by simpa using hgy1) hwy1.lt
  clear hgy1 hwy1
  clear hb
  refine hK.out _ _ ⟨hb0.cell 0, hb0.cell 1, hb0.cell 2, hb1.cell 0, hb1.cell 1, hR0.cell 0, hR0.cell 1, hx90.cell 0, hx90.cell 1, hx90.cell 2, hx91.cell 0, hx91.cell 1, hR1.cell 0, hR1.cell 1⟩ (fun hHeld => ?_)
  clear hK K
  try simp only [Act.put, List.getElem_toArray, List.getElem_cons_succ, List.getElem_cons_zero, List.setIfInBounds_toArray, List.set_cons_succ, List.set_cons_zero]
  refine wpAnyH_ready (rs := [3]) (by kernel_rfl) (by simp) (AllReadyH.cons rfl (fun K hK => ?_) AllReadyH.nil)
  go_simp
  refine (eqCamp_yes _ _ n1 _ _ x1 k2 _ (by exact hx1.holds) (by exact hy1.holds) HX1.out (by omega)).mono ?_
  rintro e v11 ⟨rfl, hb⟩
  have hz12 : v10.heap.size ≤ v11.heap.size := by have := hb.size; simpa using this
  replace ht := below_then ht hb ht.size
  replace hb0 := hb0.below hb
  replace hb1 := hb1.below hb
  replace hR0 := hR0.below hb
  replace hF0 := hF0.below hb
  replace hx0 := hx0.below hb
  replace hx90 := hx90.below hb
  replace hx1 := hx1.below hb
  replace hx91 := hx91.below hb
  replace hx2 := hx2.below hb
  replace hF1 := hF1.below hb
  replace hR1 := hR1.below hb
  replace hy1 := hy1.below hb
  clear hb
  clear hy1
  refine hK.out _ _ ⟨hb0.cell 0, hb0.cell 1, hb0.cell 2, hb1.cell 0, hb1.cell 1, hR0.cell 0, hR0.cell 1, hx90.cell 0, hx90.cell 1, hx90.cell 2, hx91.cell 0, hx91.cell 1, hR1.cell 0, hR1.cell 1⟩ (fun hHeld => ?_)
  clear hK K
  try simp only [Act.put, List.getElem_toArray, List.getElem_cons_succ, List.getElem_cons_zero, List.setIfInBounds_toArray, List.set_cons_succ, List.set_cons_zero]
  refine wpAnyH_take (i := 4) (v := ?_) rfl (by kernel_rfl) (by kernel_rfl) (by kernel_rfl) (fun _ _ _ h => h) (Or.inl ⟨rfl, ?_⟩) hHeld ?_
  rotate_left
  · intro w' hS; obtain ⟨s0, s1, s2, s3, s4, s5, s6, s7, s8, s9, s10, s11, s12, s13⟩ := hS; go_simp <;> with_reducible rfl
  simp only [Act.put, List.getElem_toArray, List.getElem_cons_succ, List.getElem_cons_zero, List.setIfInBounds_toArray, List.set_cons_succ, List.set_cons_zero]
  refine wpAnyH_done (by kernel_rfl) ?_ _
  clear hHeld
  obtain ⟨hb0_0, hb0_1, hb0_2⟩ := hb0.cells3
  have hb0_l := hb0.lt
  obtain ⟨hb1_0, hb1_1⟩ := hb1.cells2
  have hb1_l := hb1.lt
  obtain ⟨hR0_0, hR0_1⟩ := hR0.cells2
  have hR0_l := hR0.lt
  obtain ⟨hx90_0, hx90_1, hx90_2⟩ := hx90.cells3
  have hx90_l := hx90.lt
  obtain ⟨hx91_0, hx91_1⟩ := hx91.cells2
  have hx91_l := hx91.lt
  obtain ⟨hR1_0, hR1_1⟩ := hR1.cells2
  have hR1_l := hR1.lt
  -- region 22
  go_wp2_with fail
  refine (toIntSS_any A2 n2 c2 x2 _ (by exact h2.below ht) HX2.out (by omega)).mono ?_
  rintro e v12 ⟨gy2, wsy2, rfl, hgy2, hwy2, hey2, hly2, hb⟩
  have hz13 : v11.heap.size ≤ v12.heap.size := by have := hb.size; simpa using this
  replace ht := below_then ht hb ht.size
  replace hb0 := hb0.below hb
  replace hb1 := hb1.below hb
  replace hR0 := hR0.below hb
  replace hF0 := hF0.below hb
  replace hx0 := hx0.below hb
  replace hx90 := hx90.below hb
  replace hx1 := hx1.below hb
  replace hx91 := hx91.below hb
  replace hx2 := hx2.below hb
  replace hF1 := hF1.below hb
  replace hR1 := hR1.below hb
  have HEy2 := Lib.hid hey2
  have HLy2 := Lib.hid hly2
  clear hey2 hly2
  have hy2 := hwy2.free.more (lo' := v11.heap.size) (hi' := v12.heap.size) (by simpa using hgy2) (Nat.le_refl _)
  have hcapy2 : n2 ≤ 1048576 := by have := total_len x2; have := HX2.out; omega
  clear hgy2 hwy2
  clear hb
  clear hb0_0 hb0_1 hb0_2 hb0_l hb1_0 hb1_1 hb1_l hR0_0 hR0_1 hR0_l hx90_0 hx90_1 hx90_2 hx90_l hx91_0 hx91_1 hx91_l hR1_0 hR1_1 hR1_l
  obtain ⟨hb0_0, hb0_1, hb0_2⟩ := hb0.cells3
  have hb0_l := hb0.lt
  obtain ⟨hb1_0, hb1_1⟩ := hb1.cells2
  have hb1_l := hb1.lt
  obtain ⟨hR0_0, hR0_1⟩ := hR0.cells2
  have hR0_l := hR0.lt
  obtain ⟨hx90_0, hx90_1, hx90_2⟩ := hx90.cells3
  have hx90_l := hx90.lt
  obtain ⟨hx91_0, hx91_1⟩ := hx91.cells2
  have hx91_l := hx91.lt
  obtain ⟨hR1_0, hR1_1⟩ := hR1.cells2
  have hR1_l := hR1.lt
  go_wp2_with fail
  refine (eqIntSS_yes _ _ n2 n2 _ _ wsx2 wsy2 _ (by exact hx2.grid) (by exact hy2.grid) (by rw [HEx2.out, HEy2.out]) HLx2.out HLy2.out (by omega)).mono ?_
  rintro e v13 ⟨rfl, hb⟩
  have hz14 : v12.heap.size ≤ v13.heap.size := by have := hb.size; simpa using this
  replace ht := below_then ht hb ht.size
  replace hb0 := hb0.below hb
  replace hb1 := hb1.below hb
  replace hR0 := hR0.below hb
  replace hF0 := hF0.below hb
  replace hx0 := hx0.below hb
  replace hx90 := hx90.below hb
  replace hx1 := hx1.below hb
  replace hx91 := hx91.below hb
  replace hx2 := hx2.below hb
  replace hF1 := hF1.below hb
  replace hR1 := hR1.below hb
  replace hy2 := hy2.below hb
  clear hb
  clear hy2
  clear hb0_0 hb0_1 hb0_2 hb0_l hb1_0 hb1_1 hb1_l hR0_0 hR0_1 hR0_l hx90_0 hx90_1 hx90_2 hx90_l hx91_0 hx91_1 hx91_l hR1_0 hR1_1 hR1_l
  obtain ⟨hb0_0, hb0_1, hb0_2⟩ := hb0.cells3
  have hb0_l := hb0.lt
  obtain ⟨hb1_0, hb1_1⟩ := hb1.cells2
  have hb1_l := hb1.lt
  obtain ⟨hR0_0, hR0_1⟩ := hR0.cells2
  have hR0_l := hR0.lt
  obtain ⟨hx90_0, hx90_1, hx90_2⟩ := hx90.cells3
  have hx90_l := hx90.lt
  obtain ⟨hx91_0, hx91_1⟩ := hx91.cells2
  have hx91_l := hx91.lt
  obtain ⟨hR1_0, hR1_1⟩ := hR1.cells2
  have hR1_l := hR1.lt
  -- region 25
  go_wp2_with fail
  refine (markNight_any (some ⟨gx0, 0, none⟩) n0 n0 _ _ _ k0 k1 (1) _ hx0 (by rw [nums_len]; exact HX0.out) (by omega) (by omega) (by omega)).mono ?_
  rintro e v14 ⟨rfl, hs, -⟩
  have hsz := ht.size
  replace ht := hs.below ht (by omega) hsz
  replace hb0 := hs.whole hb0 (by omega)
  replace hb1 := hs.whole hb1 (by omega)
  replace hR0 := hs.whole hR0 (by omega)
  replace hF0 := hs.fresh hF0 (by omega)
  replace hx1 := hs.fresh hx1 (by omega)
  replace hx91 := hs.whole hx91 (by omega)
  replace hx2 := hs.freeGrid hx2 (by omega)
  replace hF1 := hs.fresh hF1 (by omega)
  replace hR1 := hs.whole hR1 (by omega)
  clear hs hsz hx0 hx90
  have hk_1 : (0 : Int) ≤ 1 + (n0 : Int) := by omega
  clear hb0_0 hb0_1 hb0_2 hb0_l hb1_0 hb1_1 hb1_l hR0_0 hR0_1 hR0_l hx90_0 hx90_1 hx90_2 hx90_l hx91_0 hx91_1 hx91_l hR1_0 hR1_1 hR1_l
  obtain ⟨hb0_0, hb0_1, hb0_2⟩ := hb0.cells3
  have hb0_l := hb0.lt
  obtain ⟨hb1_0, hb1_1⟩ := hb1.cells2
  have hb1_l := hb1.lt
  obtain ⟨hR0_0, hR0_1⟩ := hR0.cells2
  have hR0_l := hR0.lt
  obtain ⟨hx91_0, hx91_1⟩ := hx91.cells2
  have hx91_l := hx91.lt
  obtain ⟨hR1_0, hR1_1⟩ := hR1.cells2
  have hR1_l := hR1.lt
  -- region 26
  go_wp2_with fail
  refine (markCamp_any (some ⟨gx1, 0, none⟩) n1 n1 _ _ _ k2 (1 + (n0 : Int)) _ hx1 (by rw [bits_len]; exact HX1.out) (by omega) (by omega) (by omega)).mono ?_
  rintro e v15 ⟨rfl, hs, -⟩
  have hsz := ht.size
  replace ht := hs.below ht (by omega) hsz
  replace hb0 := hs.whole hb0 (by omega)
  replace hb1 := hs.whole hb1 (by omega)
  replace hR0 := hs.whole hR0 (by omega)
  replace hF0 := hs.fresh hF0 (by omega)
  replace hx2 := hs.freeGrid hx2 (by omega)
  replace hF1 := hs.fresh hF1 (by omega)
  replace hR1 := hs.whole hR1 (by omega)
  clear hs hsz hx1 hx91
  have hk_2 : (0 : Int) ≤ 1 + (n0 : Int) + (n1 : Int) := by omega
  clear hb0_0 hb0_1 hb0_2 hb0_l hb1_0 hb1_1 hb1_l hR0_0 hR0_1 hR0_l hx91_0 hx91_1 hx91_l hR1_0 hR1_1 hR1_l
  obtain ⟨hb0_0, hb0_1, hb0_2⟩ := hb0.cells3
  have hb0_l := hb0.lt
  obtain ⟨hb1_0, hb1_1⟩ := hb1.cells2
  have hb1_l := hb1.lt
  obtain ⟨hR0_0, hR0_1⟩ := hR0.cells2
  have hR0_l := hR0.lt
  obtain ⟨hR1_0, hR1_1⟩ := hR1.cells2
  have hR1_l := hR1.lt
  -- region 27
  go_wp2_with fail
  have hsum2 : part wsx2 wsx2.length ≤ 1048576 := by rw [part_nums hx2.grid h2 HEx2.out]; have := part_total x2; omega
  refine (markIntSS_any (some ⟨gx2, 0, none⟩) n2 n2 _ _ wsx2 (1 + (n0 : Int) + (n1 : Int)) _ hx2 HLx2.out (by omega) (by omega) (by omega) hsum2).mono ?_
  rintro e v16 ⟨rfl, hs, -⟩
  have hsz := ht.size
  replace ht := hs.below ht (by omega) hsz
  replace hb0 := hs.whole hb0 (by omega)
  replace hb1 := hs.whole hb1 (by omega)
  replace hR0 := hs.whole hR0 (by omega)
  replace hF0 := hs.fresh hF0 (by omega)
  replace hF1 := hs.fresh hF1 (by omega)
  replace hR1 := hs.whole hR1 (by omega)
  clear hs hsz hx2
  have hk_3 : (0 : Int) ≤ 1 + (n0 : Int) + (n1 : Int) + ((part wsx2 wsx2.length : Nat) : Int) := by omega
  clear hb0_0 hb0_1 hb0_2 hb0_l hb1_0 hb1_1 hb1_l hR0_0 hR0_1 hR0_l hR1_0 hR1_1 hR1_l
  obtain ⟨hb0_0, hb0_1, hb0_2⟩ := hb0.cells3
  have hb0_l := hb0.lt
  obtain ⟨hb1_0, hb1_1⟩ := hb1.cells2
  have hb1_l := hb1.lt
  obtain ⟨hR0_0, hR0_1⟩ := hR0.cells2
  have hR0_l := hR0.lt
  obtain ⟨hR1_0, hR1_1⟩ := hR1.cells2
  have hR1_l := hR1.lt
  -- region 28
  go_wp2_with fail
  refine (eqCamp_yes B1 B0 ((rsBits x0 k0 k1 x1 k2 [rowNums x2])).length q1 q0 ((rsBits x0 k0 k1 x1 k2 [rowNums x2])) (rsTorch x0 k0 k1 x1 k2 [rowNums x2]) _ (by exact hF1.holds) (by exact hF0.holds) rfl (by omega)).mono ?_
  rintro e v17 ⟨rfl, hb⟩
  have hz18 : v16.heap.size ≤ v17.heap.size := by have := hb.size; simpa using this
  replace ht := below_then ht hb ht.size
  replace hb0 := hb0.below hb
  replace hb1 := hb1.below hb
  replace hR0 := hR0.below hb
  replace hF0 := hF0.below hb
  replace hF1 := hF1.below hb
  replace hR1 := hR1.below hb
  clear hb
  clear hb0_0 hb0_1 hb0_2 hb0_l hb1_0 hb1_1 hb1_l hR0_0 hR0_1 hR0_l hR1_0 hR1_1 hR1_l
  obtain ⟨hb0_0, hb0_1, hb0_2⟩ := hb0.cells3
  have hb0_l := hb0.lt
  obtain ⟨hb1_0, hb1_1⟩ := hb1.cells2
  have hb1_l := hb1.lt
  obtain ⟨hR0_0, hR0_1⟩ := hR0.cells2
  have hR0_l := hR0.lt
  obtain ⟨hR1_0, hR1_1⟩ := hR1.cells2
  have hR1_l := hR1.lt
  -- region 31
  go_wp2_with fail
  refine (markCamp_any B1 ((rsBits x0 k0 k1 x1 k2 [rowNums x2])).length q1 _ _ _ (rsTorch x0 k0 k1 x1 k2 [rowNums x2]) 1 _ hF1 (by rw [bits_len]) (by omega) (by omega) hlen).mono ?_
  rintro e v18 ⟨rfl, hs, hM⟩
  have hsz := ht.size
  replace ht := hs.below ht (by omega) hsz
  replace hb0 := hs.whole hb0 (by omega)
  replace hb1 := hs.whole hb1 (by omega)
  replace hR0 := hs.whole hR0 (by omega)
  replace hF0 := hs.fresh hF0 (by omega)
  replace hR1 := hs.whole hR1 (by omega)
  clear hs hF1 hsz
  clear hb0_0 hb0_1 hb0_2 hb0_l hb1_0 hb1_1 hb1_l hR0_0 hR0_1 hR0_l hR1_0 hR1_1 hR1_l
  obtain ⟨hb0_0, hb0_1, hb0_2⟩ := hb0.cells3
  have hb0_l := hb0.lt
  obtain ⟨hb1_0, hb1_1⟩ := hb1.cells2
  have hb1_l := hb1.lt
  obtain ⟨hR0_0, hR0_1⟩ := hR0.cells2
  have hR0_l := hR0.lt
  obtain ⟨hR1_0, hR1_1⟩ := hR1.cells2
  have hR1_l := hR1.lt
  -- region 33
  go_wp2_with fail
  refine (heldCamp_any B1 ((rsBits x0 k0 k1 x1 k2 [rowNums x2])).length q1 (rsTorch x0 k0 k1 x1 k2 [rowNums x2]) 1 _ (by exact hM.holds) (by omega) (by omega) hlen).mono ?_
  rintro e v19 ⟨rfl, hb⟩
  have hz20 : v18.heap.size ≤ v19.heap.size := by have := hb.size; simpa using this
  replace ht := below_then ht hb ht.size
  replace hb0 := hb0.below hb
  replace hb1 := hb1.below hb
  replace hR0 := hR0.below hb
  replace hF0 := hF0.below hb
  replace hR1 := hR1.below hb
  replace hM := hM.below hb
  clear hb
  have hm0 : (0 : Int) ≤ 1 + (((rsBits x0 k0 k1 x1 k2 [rowNums x2])).length : Int) := by omega
  clear hb0_0 hb0_1 hb0_2 hb0_l hb1_0 hb1_1 hb1_l hR0_0 hR0_1 hR0_l hR1_0 hR1_1 hR1_l
  obtain ⟨hb0_0, hb0_1, hb0_2⟩ := hb0.cells3
  have hb0_l := hb0.lt
  obtain ⟨hb1_0, hb1_1⟩ := hb1.cells2
  have hb1_l := hb1.lt
  obtain ⟨hR0_0, hR0_1⟩ := hR0.cells2
  have hR0_l := hR0.lt
  obtain ⟨hR1_0, hR1_1⟩ := hR1.cells2
  have hR1_l := hR1.lt
  -- region 38
  have hbzrhb0 := hb0.lt
  have hbzrhb1 := hb1.lt
  go_upto_region 38 with fail
  go_cut [18, 19] (fun s8 s9 wx => ResMid 56 4 (fun A q => #[.slice A ((rsBits x0 k0 k1 x1 k2 [rowNums x2])).length q, .int .i64 (rsTorch x0 k0 k1 x1 k2 [rowNums x2])]) (bits ((rsBits x0 k0 k1 x1 k2 [rowNums x2]))) (rsOk x0 k0 k1 x1 k2 [rowNums x2]) v19 s8 s9 wx)
  case first =>
    go_region_held3 (fun w' => w'.cell? ⟨w.heap.size, 0, none⟩ = some (.slice A0 n0 c0) ∧ w'.cell? ⟨w.heap.size, 1, none⟩ = some (.int .i64 k0) ∧ w'.cell? ⟨w.heap.size, 2, none⟩ = some (.int .i64 k1) ∧ w'.cell? ⟨w.heap.size + 1, 0, none⟩ = some (.slice A1 n1 c1) ∧ w'.cell? ⟨w.heap.size + 1, 1, none⟩ = some (.int .i64 k2)) (go_keep)
      (first | (go_at_call 30; first | (refine (toNight_own A0 n0 c0 x0 k0 k1 _ (by exact h0.below (below_then ht (Below.refl v19.heap.size v19).drew ht.size)) HX0.out (by omega)).mono ?_; rintro e wr0 ⟨gr0, rfl, hgr0, hwr0, hbr0⟩; have hcr0 := below_then (Below.refl v19.heap.size v19).drew hbr0 (Nat.le_refl _); have hzr0 := hcr0.size; (try (replace hbox := hbox.below hbr0; clear x0_ x1_ x2_ x3_; obtain ⟨x0_, x1_, x2_, x3_⟩ := hbox.two)); obtain ⟨kr0hb0_0, kr0hb0_1, kr0hb0_2⟩ := (hb0.below hcr0).cells3; obtain ⟨kr0hb1_0, kr0hb1_1⟩ := (hb1.below hcr0).cells2) | (have hbox := Whole.fresh v19 56 #[.slice none 0 0, .int .i64 0]; replace hbox := hbox.drew; refine (toNight_own A0 n0 c0 x0 k0 k1 _ (by exact h0.below (below_then ht ((Below.refl v19.heap.size v19).alloc (Nat.le_refl _) (.cells #[.slice none 0 0, .int .i64 0] 56)).drew ht.size)) HX0.out (by omega)).mono ?_; rintro e wr0 ⟨gr0, rfl, hgr0, hwr0, hbr0⟩; have hcr0 := below_then ((Below.refl v19.heap.size v19).alloc (Nat.le_refl _) (.cells #[.slice none 0 0, .int .i64 0] 56)).drew hbr0 (by simp); have hzr0 := hcr0.size; have hy0_ : w.heap.size < v19.heap.size := (by omega); have hn0_ : ¬ v19.heap.size = w.heap.size := (by omega); have hv0_ : ¬ w.heap.size = v19.heap.size := (by omega); have hy1_ : w.heap.size + 1 < v19.heap.size := (by omega); have hn1_ : ¬ v19.heap.size = w.heap.size + 1 := (by omega); have hv1_ : ¬ w.heap.size + 1 = v19.heap.size := (by omega); replace hbox := hbox.below hbr0; obtain ⟨x0_, x1_, x2_, x3_⟩ := hbox.two; obtain ⟨kr0hb0_0, kr0hb0_1, kr0hb0_2⟩ := (hb0.below hcr0).cells3; obtain ⟨kr0hb1_0, kr0hb1_1⟩ := (hb1.below hcr0).cells2)) | (go_at_call 35; first | (refine (toCamp_own A1 n1 c1 x1 k2 _ (by exact h1.below (below_then ht hcr0 ht.size)) HX1.out (by omega)).mono ?_; rintro e wr1 ⟨gr1, rfl, hgr1, hwr1, hbr1⟩; have hcr1 := below_then hcr0 hbr1 hcr0.size; have hzr1 := hcr1.size; replace hwr0 := hwr0.below hbr1; (try (replace hbox := hbox.below hbr1; clear x0_ x1_ x2_ x3_; obtain ⟨x0_, x1_, x2_, x3_⟩ := hbox.two)); obtain ⟨kr1hb0_0, kr1hb0_1, kr1hb0_2⟩ := (hb0.below hcr1).cells3; obtain ⟨kr1hb1_0, kr1hb1_1⟩ := (hb1.below hcr1).cells2) | (have hbox := Whole.fresh wr0 56 #[.slice none 0 0, .int .i64 0]; refine (toCamp_own A1 n1 c1 x1 k2 _ (by exact h1.below (below_then ht (hcr0.alloc hcr0.size (.cells #[.slice none 0 0, .int .i64 0] 56)) ht.size)) HX1.out (by omega)).mono ?_; rintro e wr1 ⟨gr1, rfl, hgr1, hwr1, hbr1⟩; have hcr1 := below_then (hcr0.alloc hcr0.size (.cells #[.slice none 0 0, .int .i64 0] 56)) hbr1 (Nat.le_trans hcr0.size (by simp)); have hzr1 := hcr1.size; replace hwr0 := (hwr0.alloc (.cells #[.slice none 0 0, .int .i64 0] 56)).below hbr1; have hy0_ : w.heap.size < wr0.heap.size := (by omega); have hn0_ : ¬ wr0.heap.size = w.heap.size := (by omega); have hv0_ : ¬ w.heap.size = wr0.heap.size := (by omega); have hy1_ : w.heap.size + 1 < wr0.heap.size := (by omega); have hn1_ : ¬ wr0.heap.size = w.heap.size + 1 := (by omega); have hv1_ : ¬ w.heap.size + 1 = wr0.heap.size := (by omega); replace hbox := hbox.below hbr1; obtain ⟨x0_, x1_, x2_, x3_⟩ := hbox.two; obtain ⟨kr1hb0_0, kr1hb0_1, kr1hb0_2⟩ := (hb0.below hcr1).cells3; obtain ⟨kr1hb1_0, kr1hb1_1⟩ := (hb1.below hcr1).cells2)) | (go_at_call 50; first | (refine (toIntSS_any A2 n2 c2 x2 _ (by exact h2.below (below_then ht hcr1 ht.size)) HX2.out (by omega)).mono ?_; rintro e wr2 ⟨gr2, wsr2, rfl, hgr2, hwr2, her2, hlr2, hbr2⟩; have HEr2 := Lib.hid her2; have HLr2 := Lib.hid hlr2; clear her2 hlr2; have hcr2 := below_then hcr1 hbr2 hcr1.size; have hzr2 := hcr2.size; replace hwr0 := hwr0.below hbr2; replace hwr1 := hwr1.below hbr2; (try (replace hbox := hbox.below hbr2; clear x0_ x1_ x2_ x3_; obtain ⟨x0_, x1_, x2_, x3_⟩ := hbox.two)); obtain ⟨kr2hb0_0, kr2hb0_1, kr2hb0_2⟩ := (hb0.below hcr2).cells3; obtain ⟨kr2hb1_0, kr2hb1_1⟩ := (hb1.below hcr2).cells2) | (have hbox := Whole.fresh wr1 56 #[.slice none 0 0, .int .i64 0]; refine (toIntSS_any A2 n2 c2 x2 _ (by exact h2.below (below_then ht (hcr1.alloc hcr1.size (.cells #[.slice none 0 0, .int .i64 0] 56)) ht.size)) HX2.out (by omega)).mono ?_; rintro e wr2 ⟨gr2, wsr2, rfl, hgr2, hwr2, her2, hlr2, hbr2⟩; have HEr2 := Lib.hid her2; have HLr2 := Lib.hid hlr2; clear her2 hlr2; have hcr2 := below_then (hcr1.alloc hcr1.size (.cells #[.slice none 0 0, .int .i64 0] 56)) hbr2 (Nat.le_trans hcr1.size (by simp)); have hzr2 := hcr2.size; replace hwr0 := (hwr0.alloc (.cells #[.slice none 0 0, .int .i64 0] 56)).below hbr2; replace hwr1 := (hwr1.alloc (.cells #[.slice none 0 0, .int .i64 0] 56)).below hbr2; have hy0_ : w.heap.size < wr1.heap.size := (by omega); have hn0_ : ¬ wr1.heap.size = w.heap.size := (by omega); have hv0_ : ¬ w.heap.size = wr1.heap.size := (by omega); have hy1_ : w.heap.size + 1 < wr1.heap.size := (by omega); have hn1_ : ¬ wr1.heap.size = w.heap.size + 1 := (by omega); have hv1_ : ¬ w.heap.size + 1 = wr1.heap.size := (by omega); replace hbox := hbox.below hbr2; obtain ⟨x0_, x1_, x2_, x3_⟩ := hbox.two; obtain ⟨kr2hb0_0, kr2hb0_1, kr2hb0_2⟩ := (hb0.below hcr2).cells3; obtain ⟨kr2hb1_0, kr2hb1_1⟩ := (hb1.below hcr2).cells2)) | (go_at_call 53; first | ((try (have hbxl := hbox.lt)); refine (implRoundAfter_on _ n0 _ x0 k0 k1 _ n1 _ x1 k2 _ n2 _ wsr2 _ (by exact hwr0.holds) HX0.out (by omega) (by exact hwr1.holds) HX1.out (by omega) (by exact hwr2.grid) HLr2.out (by have := total_len x2; have := HX2.out; omega) (rowNums x2) HEr2.out).mono ?_; rintro e wrs ⟨A0, q0, rfl, hF0_, hbrs⟩; have hcrs := below_then hcr2 hbrs hcr2.size; have hzrs := hcrs.size; replace hwr0 := hwr0.below hbrs; replace hwr1 := hwr1.below hbrs; replace hwr2 := hwr2.below hbrs; (try (replace hbox := hbox.below hbrs; clear x0_ x1_ x2_ x3_; obtain ⟨x0_, x1_, x2_, x3_⟩ := hbox.two)); obtain ⟨krshb0_0, krshb0_1, krshb0_2⟩ := (hb0.below hcrs).cells3; obtain ⟨krshb1_0, krshb1_1⟩ := (hb1.below hcrs).cells2) | (have hbox := Whole.fresh wr2 56 #[.slice none 0 0, .int .i64 0]; have hbxl := hbox.lt; refine (implRoundAfter_on _ n0 _ x0 k0 k1 _ n1 _ x1 k2 _ n2 _ wsr2 _ (by exact (hwr0.alloc (.cells #[.slice none 0 0, .int .i64 0] 56)).holds) HX0.out (by omega) (by exact (hwr1.alloc (.cells #[.slice none 0 0, .int .i64 0] 56)).holds) HX1.out (by omega) (by exact (hwr2.alloc (.cells #[.slice none 0 0, .int .i64 0] 56)).grid) HLr2.out (by have := total_len x2; have := HX2.out; omega) (rowNums x2) HEr2.out).mono ?_; rintro e wrs ⟨A0, q0, rfl, hF0_, hbrs⟩; have hcrs := below_then (hcr2.alloc hcr2.size (.cells #[.slice none 0 0, .int .i64 0] 56)) hbrs (Nat.le_trans hcr2.size (by simp)); have hzrs := hcrs.size; replace hwr0 := (hwr0.alloc (.cells #[.slice none 0 0, .int .i64 0] 56)).below hbrs; replace hwr1 := (hwr1.alloc (.cells #[.slice none 0 0, .int .i64 0] 56)).below hbrs; replace hwr2 := (hwr2.alloc (.cells #[.slice none 0 0, .int .i64 0] 56)).below hbrs; have hy0_ : w.heap.size < wr2.heap.size := (by omega); have hn0_ : ¬ wr2.heap.size = w.heap.size := (by omega); have hv0_ : ¬ w.heap.size = wr2.heap.size := (by omega); have hy1_ : w.heap.size + 1 < wr2.heap.size := (by omega); have hn1_ : ¬ wr2.heap.size = w.heap.size + 1 := (by omega); have hv1_ : ¬ w.heap.size + 1 = wr2.heap.size := (by omega); replace hbox := hbox.below hbrs; obtain ⟨x0_, x1_, x2_, x3_⟩ := hbox.two; obtain ⟨krshb0_0, krshb0_1, krshb0_2⟩ := (hb0.below hcrs).cells3; obtain ⟨krshb1_0, krshb1_1⟩ := (hb1.below hcrs).cells2)))
    all_goals (go_wp2_with fail; go_meet)
    all_goals first | exact ResMid.first hcrs (by first | omega | (simp; omega)) hF0_ (by first | omega | (simp; omega)) (by first | omega | (simp; omega)) hbox rfl | exact ResMid.last hcrs (by first | omega | (simp; omega)) hF0_
  obtain ⟨wkr, rfl⟩ : ∃ W : World, W = wc := ⟨_, rfl⟩
  obtain ⟨grr, B2, q2, lor, hir, rfl, rfl, hgrr, hglr, hlor, hdr, hhir, hR2, hF2, hb⟩ := hcut
  have hz21 : v19.heap.size ≤ wkr.heap.size := by have := hb.size; simpa using this
  replace ht := below_then ht hb ht.size
  replace hb0 := hb0.below hb
  replace hb1 := hb1.below hb
  replace hR0 := hR0.below hb
  replace hF0 := hF0.below hb
  replace hR1 := hR1.below hb
  replace hM := hM.below hb
  clear hb
  replace hR2 : Whole wkr grr 56 #[.slice B2 ((rsBits x0 k0 k1 x1 k2 [rowNums x2])).length q2, .int .i64 (rsTorch x0 k0 k1 x1 k2 [rowNums x2])] := hR2
  clear hb0_0 hb0_1 hb0_2 hb0_l hb1_0 hb1_1 hb1_l hR0_0 hR0_1 hR0_l hR1_0 hR1_1 hR1_l
  obtain ⟨hb0_0, hb0_1, hb0_2⟩ := hb0.cells3
  have hb0_l := hb0.lt
  obtain ⟨hb1_0, hb1_1⟩ := hb1.cells2
  have hb1_l := hb1.lt
  obtain ⟨hR0_0, hR0_1⟩ := hR0.cells2
  have hR0_l := hR0.lt
  obtain ⟨hR1_0, hR1_1⟩ := hR1.cells2
  have hR1_l := hR1.lt
  obtain ⟨hR2_0, hR2_1⟩ := hR2.cells2
  have hR2_l := hR2.lt
  -- region 39
  go_wp2_with fail
  refine (eqCamp_yes B2 B0 ((rsBits x0 k0 k1 x1 k2 [rowNums x2])).length q2 q0 ((rsBits x0 k0 k1 x1 k2 [rowNums x2])) (rsTorch x0 k0 k1 x1 k2 [rowNums x2]) _ (by exact hF2.holds) (by exact hF0.holds) rfl (by omega)).mono ?_
  rintro e v20 ⟨rfl, hb⟩
  have hz22 : wkr.heap.size ≤ v20.heap.size := by have := hb.size; simpa using this
  replace ht := below_then ht hb ht.size
  replace hb0 := hb0.below hb
  replace hb1 := hb1.below hb
  replace hR0 := hR0.below hb
  replace hF0 := hF0.below hb
  replace hR1 := hR1.below hb
  replace hM := hM.below hb
  replace hR2 := hR2.below hb
  replace hF2 := hF2.below hb
  clear hb
  clear hb0_0 hb0_1 hb0_2 hb0_l hb1_0 hb1_1 hb1_l hR0_0 hR0_1 hR0_l hR1_0 hR1_1 hR1_l hR2_0 hR2_1 hR2_l
  obtain ⟨hb0_0, hb0_1, hb0_2⟩ := hb0.cells3
  have hb0_l := hb0.lt
  obtain ⟨hb1_0, hb1_1⟩ := hb1.cells2
  have hb1_l := hb1.lt
  obtain ⟨hR0_0, hR0_1⟩ := hR0.cells2
  have hR0_l := hR0.lt
  obtain ⟨hR1_0, hR1_1⟩ := hR1.cells2
  have hR1_l := hR1.lt
  obtain ⟨hR2_0, hR2_1⟩ := hR2.cells2
  have hR2_l := hR2.lt
  -- region 42
  go_wp2_with fail
  refine (heldCamp_any B1 ((rsBits x0 k0 k1 x1 k2 [rowNums x2])).length q1 (rsTorch x0 k0 k1 x1 k2 [rowNums x2]) 1 _ (by exact hM.holds) (by omega) (by omega) hlen).mono ?_
  rintro e v21 ⟨rfl, hb⟩
  have hz23 : v20.heap.size ≤ v21.heap.size := by have := hb.size; simpa using this
  replace ht := below_then ht hb ht.size
  replace hb0 := hb0.below hb
  replace hb1 := hb1.below hb
  replace hR0 := hR0.below hb
  replace hF0 := hF0.below hb
  replace hR1 := hR1.below hb
  replace hM := hM.below hb
  replace hR2 := hR2.below hb
  replace hF2 := hF2.below hb
  clear hb
  clear hb0_0 hb0_1 hb0_2 hb0_l hb1_0 hb1_1 hb1_l hR0_0 hR0_1 hR0_l hR1_0 hR1_1 hR1_l hR2_0 hR2_1 hR2_l
  obtain ⟨hb0_0, hb0_1, hb0_2⟩ := hb0.cells3
  have hb0_l := hb0.lt
  obtain ⟨hb1_0, hb1_1⟩ := hb1.cells2
  have hb1_l := hb1.lt
  obtain ⟨hR0_0, hR0_1⟩ := hR0.cells2
  have hR0_l := hR0.lt
  obtain ⟨hR1_0, hR1_1⟩ := hR1.cells2
  have hR1_l := hR1.lt
  obtain ⟨hR2_0, hR2_1⟩ := hR2.cells2
  have hR2_l := hR2.lt
  go_wp2
  go_ret
  exact ⟨rfl, ht⟩

theorem lawRoundAfter_all (A0 : Option Addr) (n0 c0 : Nat) (x0 : List Int) (k0 : Int) (k1 : Int) (A1 : Option Addr) (n1 c1 : Nat) (x1 : List Bool) (k2 : Int) (A2 : Option Addr) (n2 c2 : Nat) (x2 : List RowV) (w : World) (h0 : Holds w A0 (nums x0)) (hx0 : x0.length = n0) (hn0 : n0 ≤ 9223372036854775807) (h1 : Holds w A1 (bits x1)) (hx1 : x1.length = n1) (hn1 : n1 ≤ 9223372036854775807) (h2 : Grid w A2 x2) (hx2 : x2.length = n2) (hn2 : n2 ≤ 9223372036854775807) :
    Calls Try.prog 9 #[.agg #[.slice A0 n0 c0, .int .i64 k0, .int .i64 k1], .agg #[.slice A1 n1 c1, .int .i64 k2], .slice A2 n2 c2] w fun e w' => e = .returned (.bool true) ∧ Below w.heap.size w w' := by
  rcases (inferInstance : Decidable (0 ≤ 1048576 - (n0 : Int))) with g0 | g0
  · exact lawRoundAfter_big0 A0 n0 c0 x0 k0 k1 A1 n1 c1 x1 k2 A2 n2 c2 x2 w h0 hx0 hn0 h1 hx1 hn1 h2 hx2 hn2  (by omega)
  rcases (inferInstance : Decidable (0 ≤ 1048576 - (n0 : Int) - (n1 : Int))) with g1 | g1
  · exact lawRoundAfter_big1 A0 n0 c0 x0 k0 k1 A1 n1 c1 x1 k2 A2 n2 c2 x2 w h0 hx0 hn0 h1 hx1 hn1 h2 hx2 hn2 g0 (by omega)
  rcases (inferInstance : Decidable (0 ≤ 1048576 - (n0 : Int) - (n1 : Int) - (total x2 : Int))) with g2 | g2
  · exact lawRoundAfter_big2 A0 n0 c0 x0 k0 k1 A1 n1 c1 x1 k2 A2 n2 c2 x2 w h0 hx0 hn0 h1 hx1 hn1 h2 hx2 hn2 g0 g1 (by omega)
  exact lawRoundAfter_small A0 n0 c0 x0 k0 k1 A1 n1 c1 x1 k2 A2 n2 c2 x2 w h0 hx0 hn0 h1 hx1 hn1 h2 hx2 hn2 g0 g1 g2
end Go.Proofs.Ytifaadjbkbdbnaa
