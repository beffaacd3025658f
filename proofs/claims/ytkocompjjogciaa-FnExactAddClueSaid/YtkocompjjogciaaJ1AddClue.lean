/-
  What is proved: the law FnExactAddClue returns true at every argument, and leaves all that was there as it was. Conditions: the arguments are read as they lie.
-/
import Derived.Deep.RegionHeld3
import Derived.Test.YtkocompjjogciaaJ6HarderPuzzle
set_option linter.unusedSimpArgs false
set_option linter.unusedVariables false
namespace Go.Proofs.Ytkocompjjogciaa
open Go.RowKit

set_option maxHeartbeats 800000 in
set_option linter.unusedVariables false in
theorem lawAddClue_big0 (k0 : Int) (A0 : Option Addr) (n0 c0 : Nat) (x0 : List Cl) (k1 : Int) (k2 : Int) (k3 : Int) (w : World) (h0 : Holds w A0 (clsC x0)) (hx0 : x0.length = n0) (hn0 : n0 ≤ 9223372036854775807)  (hbig : 1048576 - (n0 : Int) < 0) :
    Calls Try.prog 12 #[.agg #[.int .i64 k0, .slice A0 n0 c0], .agg #[.int .i64 k1, .int .i64 k2, .int .i64 k3]] w fun e w' => e = .returned (.bool true) ∧ Below w.heap.size w w' := by
  have hb0 := ((Whole.fresh w 77 #[.int .i64 k0, .slice A0 n0 c0]).alloc (.cells #[.int .i64 k1, .int .i64 k2, .int .i64 k3] 79))
  have hb1 := (Whole.fresh (w.alloc (.cells #[.int .i64 k0, .slice A0 n0 c0] 77)) 79 #[.int .i64 k1, .int .i64 k2, .int .i64 k3])
  simp only [World.size_alloc] at hb1
  have ht := below2 w (.cells #[.int .i64 k0, .slice A0 n0 c0] 77) (.cells #[.int .i64 k1, .int .i64 k2, .int .i64 k3] 79)
  have HX0 := Lib.hid hx0
  clear hx0
  obtain ⟨hb0_0, hb0_1⟩ := hb0.cells2
  have hb0_l := hb0.lt
  obtain ⟨hb1_0, hb1_1, hb1_2⟩ := hb1.cells3
  have hb1_l := hb1.lt
  go_enter Try.func12, Try.ntmps12
  go_wp2_with fail
  refine (szPuzzle_any k0 A0 n0 c0 (1048576) _ (by omega) (by omega) (by omega)).mono ?_
  rintro e v1 ⟨rfl, hb⟩
  rw [if_pos (by omega)]
  have hz1 : w.heap.size + 1 + 1 ≤ v1.heap.size := by have := hb.size; simpa using this
  replace ht := below_then ht hb ht.size
  replace hb0 := hb0.below hb
  replace hb1 := hb1.below hb
  clear hb
  clear hb0_0 hb0_1 hb0_l hb1_0 hb1_1 hb1_2 hb1_l
  go_wp2
  go_ret
  exact ⟨rfl, ht⟩

set_option maxHeartbeats 12800000 in
set_option maxRecDepth 100000 in
set_option linter.unusedSimpArgs false in
set_option linter.unusedVariables false in
theorem lawAddClue_small (k0 : Int) (A0 : Option Addr) (n0 c0 : Nat) (x0 : List Cl) (k1 : Int) (k2 : Int) (k3 : Int) (w : World) (h0 : Holds w A0 (clsC x0)) (hx0 : x0.length = n0) (hn0 : n0 ≤ 9223372036854775807) (g0 : 0 ≤ 1048576 - (n0 : Int)) :
    Calls Try.prog 12 #[.agg #[.int .i64 k0, .slice A0 n0 c0], .agg #[.int .i64 k1, .int .i64 k2, .int .i64 k3]] w fun e w' => e = .returned (.bool true) ∧ Below w.heap.size w w' := by
  have hb0 := ((Whole.fresh w 77 #[.int .i64 k0, .slice A0 n0 c0]).alloc (.cells #[.int .i64 k1, .int .i64 k2, .int .i64 k3] 79))
  have hb1 := (Whole.fresh (w.alloc (.cells #[.int .i64 k0, .slice A0 n0 c0] 77)) 79 #[.int .i64 k1, .int .i64 k2, .int .i64 k3])
  simp only [World.size_alloc] at hb1
  have ht := below2 w (.cells #[.int .i64 k0, .slice A0 n0 c0] 77) (.cells #[.int .i64 k1, .int .i64 k2, .int .i64 k3] 79)
  have HX0 := Lib.hid hx0
  clear hx0
  have hlen : ((adL k0 x0 (k1, k2, k3))).length ≤ 1048576 := adL_le
  obtain ⟨hb0_0, hb0_1⟩ := hb0.cells2
  have hb0_l := hb0.lt
  obtain ⟨hb1_0, hb1_1, hb1_2⟩ := hb1.cells3
  have hb1_l := hb1.lt
  go_enter Try.func12, Try.ntmps12
  -- region 2
  go_wp2_with fail
  refine (szPuzzle_any k0 A0 n0 c0 (1048576) _ (by omega) (by omega) (by omega)).mono ?_
  rintro e v1 ⟨rfl, hb⟩
  rw [if_neg (by omega)]
  have hz1 : w.heap.size + 1 + 1 ≤ v1.heap.size := by have := hb.size; simpa using this
  replace ht := below_then ht hb ht.size
  replace hb0 := hb0.below hb
  replace hb1 := hb1.below hb
  clear hb
  clear hb0_0 hb0_1 hb0_l hb1_0 hb1_1 hb1_2 hb1_l
  obtain ⟨hb0_0, hb0_1⟩ := hb0.cells2
  have hb0_l := hb0.lt
  obtain ⟨hb1_0, hb1_1, hb1_2⟩ := hb1.cells3
  have hb1_l := hb1.lt
  -- region 5
  have hbzphb0 := hb0.lt
  have hbzphb1 := hb1.lt
  go_upto_region 5 with fail
  go_cut [6, 7] (fun s8 s9 wx => ResMid 83 87 (fun A q => #[.int .i64 (adP k0 x0 (k1, k2, k3)), .slice A ((adL k0 x0 (k1, k2, k3))).length q]) (clsC ((adL k0 x0 (k1, k2, k3)))) (adOk k0 x0 (k1, k2, k3)) v1 s8 s9 wx)
  case first =>
    go_region_held3 (fun w' => w'.cell? ⟨w.heap.size, 0, none⟩ = some (.int .i64 k0) ∧ w'.cell? ⟨w.heap.size, 1, none⟩ = some (.slice A0 n0 c0) ∧ w'.cell? ⟨w.heap.size + 1, 0, none⟩ = some (.int .i64 k1) ∧ w'.cell? ⟨w.heap.size + 1, 1, none⟩ = some (.int .i64 k2) ∧ w'.cell? ⟨w.heap.size + 1, 2, none⟩ = some (.int .i64 k3)) (go_keep)
      (first | (go_at_call 56; first | (refine (toPuzzle_own k0 A0 n0 c0 x0 _ (by exact h0.below (below_then ht (Below.refl v1.heap.size v1).drew ht.size)) HX0.out (by omega)).mono ?_; rintro e wp0 ⟨gp0, rfl, hgp0, hwp0, hbp0⟩; have hcp0 := below_then (Below.refl v1.heap.size v1).drew hbp0 (Nat.le_refl _); have hzp0 := hcp0.size; (try (replace hbox := hbox.below hbp0; clear x0_ x1_ x2_ x3_; obtain ⟨x0_, x1_, x2_, x3_⟩ := hbox.two)); obtain ⟨kp0hb0_0, kp0hb0_1⟩ := (hb0.below hcp0).cells2; obtain ⟨kp0hb1_0, kp0hb1_1, kp0hb1_2⟩ := (hb1.below hcp0).cells3) | (have hbox := Whole.fresh v1 83 #[.int .i64 0, .slice none 0 0]; replace hbox := hbox.drew; refine (toPuzzle_own k0 A0 n0 c0 x0 _ (by exact h0.below (below_then ht ((Below.refl v1.heap.size v1).alloc (Nat.le_refl _) (.cells #[.int .i64 0, .slice none 0 0] 83)).drew ht.size)) HX0.out (by omega)).mono ?_; rintro e wp0 ⟨gp0, rfl, hgp0, hwp0, hbp0⟩; have hcp0 := below_then ((Below.refl v1.heap.size v1).alloc (Nat.le_refl _) (.cells #[.int .i64 0, .slice none 0 0] 83)).drew hbp0 (by simp); have hzp0 := hcp0.size; have hy0_ : w.heap.size < v1.heap.size := (by omega); have hn0_ : ¬ v1.heap.size = w.heap.size := (by omega); have hv0_ : ¬ w.heap.size = v1.heap.size := (by omega); have hy1_ : w.heap.size + 1 < v1.heap.size := (by omega); have hn1_ : ¬ v1.heap.size = w.heap.size + 1 := (by omega); have hv1_ : ¬ w.heap.size + 1 = v1.heap.size := (by omega); replace hbox := hbox.below hbp0; obtain ⟨x0_, x1_, x2_, x3_⟩ := hbox.two; obtain ⟨kp0hb0_0, kp0hb0_1⟩ := (hb0.below hcp0).cells2; obtain ⟨kp0hb1_0, kp0hb1_1, kp0hb1_2⟩ := (hb1.below hcp0).cells3)) | (go_at_call 57; first | (refine (toClue_any k1 k2 k3 _).mono ?_; rintro e wp1 ⟨rfl, hbp1⟩; have hcp1 := below_then hcp0 hbp1 hcp0.size; have hzp1 := hcp1.size; replace hwp0 := hwp0.below hbp1; (try (replace hbox := hbox.below hbp1; clear x0_ x1_ x2_ x3_; obtain ⟨x0_, x1_, x2_, x3_⟩ := hbox.two)); obtain ⟨kp1hb0_0, kp1hb0_1⟩ := (hb0.below hcp1).cells2; obtain ⟨kp1hb1_0, kp1hb1_1, kp1hb1_2⟩ := (hb1.below hcp1).cells3) | (have hbox := Whole.fresh wp0 83 #[.int .i64 0, .slice none 0 0]; refine (toClue_any k1 k2 k3 _).mono ?_; rintro e wp1 ⟨rfl, hbp1⟩; have hcp1 := below_then (hcp0.alloc hcp0.size (.cells #[.int .i64 0, .slice none 0 0] 83)) hbp1 (Nat.le_trans hcp0.size (by simp)); have hzp1 := hcp1.size; replace hwp0 := (hwp0.alloc (.cells #[.int .i64 0, .slice none 0 0] 83)).below hbp1; have hy0_ : w.heap.size < wp0.heap.size := (by omega); have hn0_ : ¬ wp0.heap.size = w.heap.size := (by omega); have hv0_ : ¬ w.heap.size = wp0.heap.size := (by omega); have hy1_ : w.heap.size + 1 < wp0.heap.size := (by omega); have hn1_ : ¬ wp0.heap.size = w.heap.size + 1 := (by omega); have hv1_ : ¬ w.heap.size + 1 = wp0.heap.size := (by omega); replace hbox := hbox.below hbp1; obtain ⟨x0_, x1_, x2_, x3_⟩ := hbox.two; obtain ⟨kp1hb0_0, kp1hb0_1⟩ := (hb0.below hcp1).cells2; obtain ⟨kp1hb1_0, kp1hb1_1, kp1hb1_2⟩ := (hb1.below hcp1).cells3)) | (go_at_call 55; first | ((try (have hbxl := hbox.lt)); refine (specAddK_any k0 _ _ n0 _ x0 k1 k2 k3 _ (by exact hwp0.holds) HX0.out (by omega)).mono ?_; rintro e wps ⟨A0, q0, rfl, hF0_, hbps⟩; have hcps := below_then hcp1 hbps hcp1.size; have hzps := hcps.size; replace hwp0 := hwp0.below hbps; (try (replace hbox := hbox.below hbps; clear x0_ x1_ x2_ x3_; obtain ⟨x0_, x1_, x2_, x3_⟩ := hbox.two)); obtain ⟨kpshb0_0, kpshb0_1⟩ := (hb0.below hcps).cells2; obtain ⟨kpshb1_0, kpshb1_1, kpshb1_2⟩ := (hb1.below hcps).cells3) | (have hbox := Whole.fresh wp1 83 #[.int .i64 0, .slice none 0 0]; have hbxl := hbox.lt; refine (specAddK_any k0 _ _ n0 _ x0 k1 k2 k3 _ (by exact (hwp0.alloc (.cells #[.int .i64 0, .slice none 0 0] 83)).holds) HX0.out (by omega)).mono ?_; rintro e wps ⟨A0, q0, rfl, hF0_, hbps⟩; have hcps := below_then (hcp1.alloc hcp1.size (.cells #[.int .i64 0, .slice none 0 0] 83)) hbps (Nat.le_trans hcp1.size (by simp)); have hzps := hcps.size; replace hwp0 := (hwp0.alloc (.cells #[.int .i64 0, .slice none 0 0] 83)).below hbps; have hy0_ : w.heap.size < wp1.heap.size := (by omega); have hn0_ : ¬ wp1.heap.size = w.heap.size := (by omega); have hv0_ : ¬ w.heap.size = wp1.heap.size := (by omega); have hy1_ : w.heap.size + 1 < wp1.heap.size := (by omega); have hn1_ : ¬ wp1.heap.size = w.heap.size + 1 := (by omega); have hv1_ : ¬ w.heap.size + 1 = wp1.heap.size := (by omega); replace hbox := hbox.below hbps; obtain ⟨x0_, x1_, x2_, x3_⟩ := hbox.two; obtain ⟨kpshb0_0, kpshb0_1⟩ := (hb0.below hcps).cells2; obtain ⟨kpshb1_0, kpshb1_1, kpshb1_2⟩ := (hb1.below hcps).cells3)))
    all_goals (go_wp2_with fail; go_meet)
    all_goals first | exact ResMid.first hcps (by first | omega | (simp; omega)) hF0_ (by first | omega | (simp; omega)) (by first | omega | (simp; omega)) hbox rfl | exact ResMid.last hcps (by first | omega | (simp; omega)) hF0_
  obtain ⟨wkp, rfl⟩ : ∃ W : World, W = wc := ⟨_, rfl⟩
  obtain ⟨grp, B0, q0, lop, hip, rfl, rfl, hgrp, hglp, hlop, hdp, hhip, hR0, hF0, hb⟩ := hcut
  have hz2 : v1.heap.size ≤ wkp.heap.size := by have := hb.size; simpa using this
  replace ht := below_then ht hb ht.size
  replace hb0 := hb0.below hb
  replace hb1 := hb1.below hb
  clear hb
  replace hR0 : Whole wkp grp 83 #[.int .i64 (adP k0 x0 (k1, k2, k3)), .slice B0 ((adL k0 x0 (k1, k2, k3))).length q0] := hR0
  clear hb0_0 hb0_1 hb0_l hb1_0 hb1_1 hb1_2 hb1_l
  obtain ⟨hb0_0, hb0_1⟩ := hb0.cells2
  have hb0_l := hb0.lt
  obtain ⟨hb1_0, hb1_1, hb1_2⟩ := hb1.cells3
  have hb1_l := hb1.lt
  obtain ⟨hR0_0, hR0_1⟩ := hR0.cells2
  have hR0_l := hR0.lt
  -- region 6
  go_wp2_with fail
  refine (toPuzzle_own k0 A0 n0 c0 x0 _ (by exact h0.below ht) HX0.out (by omega)).mono ?_
  rintro e v2 ⟨gx0, rfl, hgx0, hwx0, hb⟩
  have hz3 : wkp.heap.size ≤ v2.heap.size := by have := hb.size; simpa using this
  replace ht := below_then ht hb ht.size
  replace hb0 := hb0.below hb
  replace hb1 := hb1.below hb
  replace hR0 := hR0.below hb
  replace hF0 := hF0.below hb
  have hx0 := Fresh.of_whole (lo := wkp.heap.size) (hi := v2.heap.size) hwx0 (by simpa using hgx0) hwx0.lt
  clear hgx0 hwx0
  clear hb
  have hx90 := Whole.fresh v2 83 #[.int .i64 k0, .slice (some ⟨gx0, 0, none⟩) n0 n0]
  replace ht := ht.alloc ht.size (.cells #[.int .i64 k0, .slice (some ⟨gx0, 0, none⟩) n0 n0] 83)
  replace hb0 := hb0.alloc (.cells #[.int .i64 k0, .slice (some ⟨gx0, 0, none⟩) n0 n0] 83)
  replace hb1 := hb1.alloc (.cells #[.int .i64 k0, .slice (some ⟨gx0, 0, none⟩) n0 n0] 83)
  replace hR0 := hR0.alloc (.cells #[.int .i64 k0, .slice (some ⟨gx0, 0, none⟩) n0 n0] 83)
  replace hF0 := hF0.alloc (.cells #[.int .i64 k0, .slice (some ⟨gx0, 0, none⟩) n0 n0] 83)
  replace hx0 := hx0.alloc (.cells #[.int .i64 k0, .slice (some ⟨gx0, 0, none⟩) n0 n0] 83)
  clear hb0_0 hb0_1 hb0_l hb1_0 hb1_1 hb1_2 hb1_l hR0_0 hR0_1 hR0_l
  obtain ⟨hb0_0, hb0_1⟩ := hb0.cells2
  have hb0_l := hb0.lt
  obtain ⟨hb1_0, hb1_1, hb1_2⟩ := hb1.cells3
  have hb1_l := hb1.lt
  obtain ⟨hR0_0, hR0_1⟩ := hR0.cells2
  have hR0_l := hR0.lt
  obtain ⟨hx90_0, hx90_1⟩ := hx90.cells2
  have hx90_l := hx90.lt
  -- region 7
  have hbzxhb0 := hb0.lt
  have hbzxhb1 := hb1.lt
  have hbzxhx90 := hx90.lt
  go_upto_region 7 with fail
  have hgqx : v2.heap.size < (v2.alloc (.cells #[.int .i64 k0, .slice (some ⟨gx0, 0, none⟩) n0 n0] 83)).heap.size := by simp
  generalize World.alloc v2 (.cells #[.int .i64 k0, .slice (some ⟨gx0, 0, none⟩) n0 n0] 83) = vqx at *
  go_cut [9, 10] (fun s8 s9 wx => ResMid 83 87 (fun A q => #[.int .i64 (adP k0 x0 (k1, k2, k3)), .slice A ((adL k0 x0 (k1, k2, k3))).length q]) (clsC ((adL k0 x0 (k1, k2, k3)))) (adOk k0 x0 (k1, k2, k3)) vqx s8 s9 wx)
  case first =>
    go_region_held3 (fun w' => w'.cell? ⟨w.heap.size, 0, none⟩ = some (.int .i64 k0) ∧ w'.cell? ⟨w.heap.size, 1, none⟩ = some (.slice A0 n0 c0) ∧ w'.cell? ⟨w.heap.size + 1, 0, none⟩ = some (.int .i64 k1) ∧ w'.cell? ⟨w.heap.size + 1, 1, none⟩ = some (.int .i64 k2) ∧ w'.cell? ⟨w.heap.size + 1, 2, none⟩ = some (.int .i64 k3) ∧ w'.cell? ⟨v2.heap.size, 0, none⟩ = some (.int .i64 k0) ∧ w'.cell? ⟨v2.heap.size, 1, none⟩ = some (.slice (some ⟨gx0, 0, none⟩) n0 n0)) (go_keep)
      (first | (go_at_call 57; first | (refine (toClue_any k1 k2 k3 _).mono ?_; rintro e wx1 ⟨rfl, hbx1⟩; have hcx1 := below_then (Below.refl vqx.heap.size vqx).drew hbx1 (Nat.le_refl _); have hzx1 := hcx1.size; (try (replace hbox := hbox.below hbx1; clear x0_ x1_ x2_ x3_; obtain ⟨x0_, x1_, x2_, x3_⟩ := hbox.two)); obtain ⟨kx1hb0_0, kx1hb0_1⟩ := (hb0.below hcx1).cells2; obtain ⟨kx1hb1_0, kx1hb1_1, kx1hb1_2⟩ := (hb1.below hcx1).cells3; obtain ⟨kx1hx90_0, kx1hx90_1⟩ := (hx90.below hcx1).cells2) | (have hbox := Whole.fresh vqx 83 #[.int .i64 0, .slice none 0 0]; replace hbox := hbox.drew; refine (toClue_any k1 k2 k3 _).mono ?_; rintro e wx1 ⟨rfl, hbx1⟩; have hcx1 := below_then ((Below.refl vqx.heap.size vqx).alloc (Nat.le_refl _) (.cells #[.int .i64 0, .slice none 0 0] 83)).drew hbx1 (by simp); have hzx1 := hcx1.size; have hy0_ : w.heap.size < vqx.heap.size := (by omega); have hn0_ : ¬ vqx.heap.size = w.heap.size := (by omega); have hv0_ : ¬ w.heap.size = vqx.heap.size := (by omega); have hy1_ : w.heap.size + 1 < vqx.heap.size := (by omega); have hn1_ : ¬ vqx.heap.size = w.heap.size + 1 := (by omega); have hv1_ : ¬ w.heap.size + 1 = vqx.heap.size := (by omega); have hy2_ : v2.heap.size < vqx.heap.size := (by omega); have hn2_ : ¬ vqx.heap.size = v2.heap.size := (by omega); have hv2_ : ¬ v2.heap.size = vqx.heap.size := (by omega); replace hbox := hbox.below hbx1; obtain ⟨x0_, x1_, x2_, x3_⟩ := hbox.two; obtain ⟨kx1hb0_0, kx1hb0_1⟩ := (hb0.below hcx1).cells2; obtain ⟨kx1hb1_0, kx1hb1_1, kx1hb1_2⟩ := (hb1.below hcx1).cells3; obtain ⟨kx1hx90_0, kx1hx90_1⟩ := (hx90.below hcx1).cells2)) | (go_at_call 58; first | ((try (have hbxl := hbox.lt)); refine (implAddK_any k0 _ _ n0 _ x0 k1 k2 k3 _ (by exact (hx0.below hcx1).holds) HX0.out (by omega) (Nat.le_refl _) (by omega)).mono ?_; rintro e wxs ⟨A0, q0, rfl, hF0_, hbxs⟩; have hcxs := below_then hcx1 hbxs hcx1.size; have hzxs := hcxs.size; (try (replace hbox := hbox.below hbxs; clear x0_ x1_ x2_ x3_; obtain ⟨x0_, x1_, x2_, x3_⟩ := hbox.two)); obtain ⟨kxshb0_0, kxshb0_1⟩ := (hb0.below hcxs).cells2; obtain ⟨kxshb1_0, kxshb1_1, kxshb1_2⟩ := (hb1.below hcxs).cells3; obtain ⟨kxshx90_0, kxshx90_1⟩ := (hx90.below hcxs).cells2) | (have hbox := Whole.fresh wx1 83 #[.int .i64 0, .slice none 0 0]; have hbxl := hbox.lt; refine (implAddK_any k0 _ _ n0 _ x0 k1 k2 k3 _ (by exact (hx0.below (hcx1.alloc hcx1.size (.cells #[.int .i64 0, .slice none 0 0] 83))).holds) HX0.out (by omega) (Nat.le_refl _) (by omega)).mono ?_; rintro e wxs ⟨A0, q0, rfl, hF0_, hbxs⟩; have hcxs := below_then (hcx1.alloc hcx1.size (.cells #[.int .i64 0, .slice none 0 0] 83)) hbxs (Nat.le_trans hcx1.size (by simp)); have hzxs := hcxs.size; have hy0_ : w.heap.size < wx1.heap.size := (by omega); have hn0_ : ¬ wx1.heap.size = w.heap.size := (by omega); have hv0_ : ¬ w.heap.size = wx1.heap.size := (by omega); have hy1_ : w.heap.size + 1 < wx1.heap.size := (by omega); have hn1_ : ¬ wx1.heap.size = w.heap.size + 1 := (by omega); have hv1_ : ¬ w.heap.size + 1 = wx1.heap.size := (by omega); have hy2_ : v2.heap.size < wx1.heap.size := (by omega); have hn2_ : ¬ wx1.heap.size = v2.heap.size := (by omega); have hv2_ : ¬ v2.heap.size = wx1.heap.size := (by omega); replace hbox := hbox.below hbxs; obtain ⟨x0_, x1_, x2_, x3_⟩ := hbox.two; obtain ⟨kxshb0_0, kxshb0_1⟩ := (hb0.below hcxs).cells2; obtain ⟨kxshb1_0, kxshb1_1, kxshb1_2⟩ := (hb1.below hcxs).cells3; obtain ⟨kxshx90_0, kxshx90_1⟩ := (hx90.below hcxs).cells2)))
    all_goals (go_wp2_with fail; go_meet)
    all_goals first | exact ResMid.first hcxs (by first | omega | (simp; omega)) hF0_ (by first | omega | (simp; omega)) (by first | omega | (simp; omega)) hbox rfl | exact ResMid.last hcxs (by first | omega | (simp; omega)) hF0_
  obtain ⟨wkx, rfl⟩ : ∃ W : World, W = wc := ⟨_, rfl⟩
  obtain ⟨grx, B1, q1, lox, hix, rfl, rfl, hgrx, hglx, hlox, hdx, hhix, hR1, hF1, hb⟩ := hcut
  have hz4 : vqx.heap.size ≤ wkx.heap.size := by have := hb.size; simpa using this
  replace ht := below_then ht hb ht.size
  replace hb0 := hb0.below hb
  replace hb1 := hb1.below hb
  replace hR0 := hR0.below hb
  replace hF0 := hF0.below hb
  replace hx0 := hx0.below hb
  replace hx90 := hx90.below hb
  clear hb
  replace hR1 : Whole wkx grx 83 #[.int .i64 (adP k0 x0 (k1, k2, k3)), .slice B1 ((adL k0 x0 (k1, k2, k3))).length q1] := hR1
  clear hb0_0 hb0_1 hb0_l hb1_0 hb1_1 hb1_2 hb1_l hR0_0 hR0_1 hR0_l hx90_0 hx90_1 hx90_l
  obtain ⟨hb0_0, hb0_1⟩ := hb0.cells2
  have hb0_l := hb0.lt
  obtain ⟨hb1_0, hb1_1, hb1_2⟩ := hb1.cells3
  have hb1_l := hb1.lt
  obtain ⟨hR0_0, hR0_1⟩ := hR0.cells2
  have hR0_l := hR0.lt
  obtain ⟨hx90_0, hx90_1⟩ := hx90.cells2
  have hx90_l := hx90.lt
  obtain ⟨hR1_0, hR1_1⟩ := hR1.cells2
  have hR1_l := hR1.lt
  -- region 8
  go_wp2_with fail
  refine (eqPuzzle_yes B1 B0 ((adL k0 x0 (k1, k2, k3))).length q1 q0 ((adL k0 x0 (k1, k2, k3))) (adP k0 x0 (k1, k2, k3)) _ (by exact hF1.holds) (by exact hF0.holds) rfl (by omega)).mono ?_
  rintro e v3 ⟨rfl, hb⟩
  have hz5 : wkx.heap.size ≤ v3.heap.size := by have := hb.size; simpa using this
  replace ht := below_then ht hb ht.size
  replace hb0 := hb0.below hb
  replace hb1 := hb1.below hb
  replace hR0 := hR0.below hb
  replace hF0 := hF0.below hb
  replace hx0 := hx0.below hb
  replace hx90 := hx90.below hb
  replace hR1 := hR1.below hb
  replace hF1 := hF1.below hb
  clear hb
  clear hb0_0 hb0_1 hb0_l hb1_0 hb1_1 hb1_2 hb1_l hR0_0 hR0_1 hR0_l hx90_0 hx90_1 hx90_l hR1_0 hR1_1 hR1_l
  obtain ⟨hb0_0, hb0_1⟩ := hb0.cells2
  have hb0_l := hb0.lt
  obtain ⟨hb1_0, hb1_1, hb1_2⟩ := hb1.cells3
  have hb1_l := hb1.lt
  obtain ⟨hR0_0, hR0_1⟩ := hR0.cells2
  have hR0_l := hR0.lt
  obtain ⟨hx90_0, hx90_1⟩ := hx90.cells2
  have hx90_l := hx90.lt
  obtain ⟨hR1_0, hR1_1⟩ := hR1.cells2
  have hR1_l := hR1.lt
  -- region 10
  clear hb0_0 hb0_1 hb0_l hb1_0 hb1_1 hb1_2 hb1_l hR0_0 hR0_1 hR0_l hx90_0 hx90_1 hx90_l hR1_0 hR1_1 hR1_l
  go_wp2_with fail
  refine wp_region_held_drew (S := (fun w' => w'.cell? ⟨w.heap.size, 0, none⟩ = some (.int .i64 k0) ∧ w'.cell? ⟨w.heap.size, 1, none⟩ = some (.slice A0 n0 c0) ∧ w'.cell? ⟨w.heap.size + 1, 0, none⟩ = some (.int .i64 k1) ∧ w'.cell? ⟨w.heap.size + 1, 1, none⟩ = some (.int .i64 k2) ∧ w'.cell? ⟨w.heap.size + 1, 2, none⟩ = some (.int .i64 k3) ∧ w'.cell? ⟨grp, 0, none⟩ = some (.int .i64 (adP k0 x0 (k1, k2, k3))) ∧ w'.cell? ⟨grp, 1, none⟩ = some (.slice B0 ((adL k0 x0 (k1, k2, k3))).length q0) ∧ w'.cell? ⟨v2.heap.size, 0, none⟩ = some (.int .i64 k0) ∧ w'.cell? ⟨v2.heap.size, 1, none⟩ = some (.slice (some ⟨gx0, 0, none⟩) n0 n0) ∧ w'.cell? ⟨grx, 0, none⟩ = some (.int .i64 (adP k0 x0 (k1, k2, k3))) ∧ w'.cell? ⟨grx, 1, none⟩ = some (.slice B1 ((adL k0 x0 (k1, k2, k3))).length q1))) (by kernel_rfl) ⟨hb0.drew.cell 0, hb0.drew.cell 1, hb1.drew.cell 0, hb1.drew.cell 1, hb1.drew.cell 2, hR0.drew.cell 0, hR0.drew.cell 1, hx90.drew.cell 0, hx90.drew.cell 1, hR1.drew.cell 0, hR1.drew.cell 1⟩ (fun hHeld => ?_)
  replace ht := ht.drew
  replace hb0 := hb0.drew
  replace hb1 := hb1.drew
  replace hR0 := hR0.drew
  replace hF0 := hF0.drew
  replace hx0 := hx0.drew
  replace hx90 := hx90.drew
  replace hR1 := hR1.drew
  replace hF1 := hF1.drew
  refine wpAnyH_take (i := 0) (v := ?_) rfl (by kernel_rfl) (by kernel_rfl) (by kernel_rfl) (fun _ _ _ h => h) (Or.inl ⟨rfl, ?_⟩) hHeld ?_
  rotate_left
  · intro w' hS; obtain ⟨s0, s1, s2, s3, s4, s5, s6, s7, s8, s9, s10⟩ := hS; go_simp <;> with_reducible rfl
  simp only [Act.put, List.getElem_toArray, List.getElem_cons_succ, List.getElem_cons_zero, List.setIfInBounds_toArray, List.set_cons_succ, List.set_cons_zero]
  refine wpAnyH_take (i := 1) (v := ?_) rfl (by kernel_rfl) (by kernel_rfl) (by kernel_rfl) (fun _ _ _ h => h) (Or.inl ⟨rfl, ?_⟩) hHeld ?_
  rotate_left
  · intro w' hS; obtain ⟨s0, s1, s2, s3, s4, s5, s6, s7, s8, s9, s10⟩ := hS; go_simp <;> with_reducible rfl
  simp only [Act.put, List.getElem_toArray, List.getElem_cons_succ, List.getElem_cons_zero, List.setIfInBounds_toArray, List.set_cons_succ, List.set_cons_zero]
  refine wpAnyH_ready (rs := [2]) (by kernel_rfl) (by simp) (AllReadyH.cons rfl (fun K hK => ?_) AllReadyH.nil)
  go_simp
  refine (toPuzzle_own k0 A0 n0 c0 x0 _ (by exact h0.below ht) HX0.out (by omega)).mono ?_
  rintro e v4 ⟨gy0, rfl, hgy0, hwy0, hb⟩
  have hz6 : v3.heap.size ≤ v4.heap.size := by have := hb.size; simpa using this
  replace ht := below_then ht hb ht.size
  replace hb0 := hb0.below hb
  replace hb1 := hb1.below hb
  replace hR0 := hR0.below hb
  replace hF0 := hF0.below hb
  replace hx0 := hx0.below hb
  replace hx90 := hx90.below hb
  replace hR1 := hR1.below hb
  replace hF1 := hF1.below hb
  have hy0 := Fresh.of_whole (lo := v3.heap.size) (hi := v4.heap.size) hwy0 (by simpa using hgy0) hwy0.lt
  clear hgy0 hwy0
  clear hb
  refine hK.out _ _ ⟨hb0.cell 0, hb0.cell 1, hb1.cell 0, hb1.cell 1, hb1.cell 2, hR0.cell 0, hR0.cell 1, hx90.cell 0, hx90.cell 1, hR1.cell 0, hR1.cell 1⟩ (fun hHeld => ?_)
  clear hK K
  try simp only [Act.put, List.getElem_toArray, List.getElem_cons_succ, List.getElem_cons_zero, List.setIfInBounds_toArray, List.set_cons_succ, List.set_cons_zero]
  refine wpAnyH_ready (rs := [3]) (by kernel_rfl) (by simp) (AllReadyH.cons rfl (fun K hK => ?_) AllReadyH.nil)
  go_simp
  refine (eqPuzzle_yes _ _ n0 _ _ x0 k0 _ (by exact hx0.holds) (by exact hy0.holds) HX0.out (by omega)).mono ?_
  rintro e v5 ⟨rfl, hb⟩
  have hz7 : v4.heap.size ≤ v5.heap.size := by have := hb.size; simpa using this
  replace ht := below_then ht hb ht.size
  replace hb0 := hb0.below hb
  replace hb1 := hb1.below hb
  replace hR0 := hR0.below hb
  replace hF0 := hF0.below hb
  replace hx0 := hx0.below hb
  replace hx90 := hx90.below hb
  replace hR1 := hR1.below hb
  replace hF1 := hF1.below hb
  replace hy0 := hy0.below hb
  clear hb
  clear hy0
  refine hK.out _ _ ⟨hb0.cell 0, hb0.cell 1, hb1.cell 0, hb1.cell 1, hb1.cell 2, hR0.cell 0, hR0.cell 1, hx90.cell 0, hx90.cell 1, hR1.cell 0, hR1.cell 1⟩ (fun hHeld => ?_)
  clear hK K
  try simp only [Act.put, List.getElem_toArray, List.getElem_cons_succ, List.getElem_cons_zero, List.setIfInBounds_toArray, List.set_cons_succ, List.set_cons_zero]
  refine wpAnyH_take (i := 4) (v := ?_) rfl (by kernel_rfl) (by kernel_rfl) (by kernel_rfl) (fun _ _ _ h => h) (Or.inl ⟨rfl, ?_⟩) hHeld ?_
  rotate_left
  · intro w' hS; obtain ⟨s0, s1, s2, s3, s4, s5, s6, s7, s8, s9, s10⟩ := hS; go_simp <;> with_reducible rfl
  simp only [Act.put, List.getElem_toArray, List.getElem_cons_succ, List.getElem_cons_zero, List.setIfInBounds_toArray, List.set_cons_succ, List.set_cons_zero]
  refine wpAnyH_done (by kernel_rfl) ?_ _
  clear hHeld
  obtain ⟨hb0_0, hb0_1⟩ := hb0.cells2
  have hb0_l := hb0.lt
  obtain ⟨hb1_0, hb1_1, hb1_2⟩ := hb1.cells3
  have hb1_l := hb1.lt
  obtain ⟨hR0_0, hR0_1⟩ := hR0.cells2
  have hR0_l := hR0.lt
  obtain ⟨hx90_0, hx90_1⟩ := hx90.cells2
  have hx90_l := hx90.lt
  obtain ⟨hR1_0, hR1_1⟩ := hR1.cells2
  have hR1_l := hR1.lt
  -- region 13
  go_wp2_with fail
  refine (markPuzzle_any k0 (some ⟨gx0, 0, none⟩) n0 n0 _ _ x0 (1) _ hx0 HX0.out (by omega) (by omega) (by omega)).mono ?_
  rintro e v6 ⟨rfl, hs, -⟩
  have hsz := ht.size
  replace ht := hs.below ht (by omega) hsz
  replace hb0 := hs.whole hb0 (by omega)
  replace hb1 := hs.whole hb1 (by omega)
  replace hR0 := hs.whole hR0 (by omega)
  replace hF0 := hs.fresh hF0 (by omega)
  replace hR1 := hs.whole hR1 (by omega)
  replace hF1 := hs.fresh hF1 (by omega)
  clear hs hsz hx0 hx90
  have hk_1 : (0 : Int) ≤ 1 + ((n0 * 3 : Nat) : Int) := by omega
  clear hb0_0 hb0_1 hb0_l hb1_0 hb1_1 hb1_2 hb1_l hR0_0 hR0_1 hR0_l hx90_0 hx90_1 hx90_l hR1_0 hR1_1 hR1_l
  obtain ⟨hb0_0, hb0_1⟩ := hb0.cells2
  have hb0_l := hb0.lt
  obtain ⟨hb1_0, hb1_1, hb1_2⟩ := hb1.cells3
  have hb1_l := hb1.lt
  obtain ⟨hR0_0, hR0_1⟩ := hR0.cells2
  have hR0_l := hR0.lt
  obtain ⟨hR1_0, hR1_1⟩ := hR1.cells2
  have hR1_l := hR1.lt
  -- region 14
  go_wp2_with fail
  refine (eqPuzzle_yes B1 B0 ((adL k0 x0 (k1, k2, k3))).length q1 q0 ((adL k0 x0 (k1, k2, k3))) (adP k0 x0 (k1, k2, k3)) _ (by exact hF1.holds) (by exact hF0.holds) rfl (by omega)).mono ?_
  rintro e v7 ⟨rfl, hb⟩
  have hz9 : v6.heap.size ≤ v7.heap.size := by have := hb.size; simpa using this
  replace ht := below_then ht hb ht.size
  replace hb0 := hb0.below hb
  replace hb1 := hb1.below hb
  replace hR0 := hR0.below hb
  replace hF0 := hF0.below hb
  replace hR1 := hR1.below hb
  replace hF1 := hF1.below hb
  clear hb
  clear hb0_0 hb0_1 hb0_l hb1_0 hb1_1 hb1_2 hb1_l hR0_0 hR0_1 hR0_l hR1_0 hR1_1 hR1_l
  obtain ⟨hb0_0, hb0_1⟩ := hb0.cells2
  have hb0_l := hb0.lt
  obtain ⟨hb1_0, hb1_1, hb1_2⟩ := hb1.cells3
  have hb1_l := hb1.lt
  obtain ⟨hR0_0, hR0_1⟩ := hR0.cells2
  have hR0_l := hR0.lt
  obtain ⟨hR1_0, hR1_1⟩ := hR1.cells2
  have hR1_l := hR1.lt
  -- region 17
  go_wp2_with fail
  refine (markPuzzle_any (adP k0 x0 (k1, k2, k3)) B1 ((adL k0 x0 (k1, k2, k3))).length q1 _ _ ((adL k0 x0 (k1, k2, k3))) 1 _ hF1 rfl (by omega) (by omega) hlen).mono ?_
  rintro e v8 ⟨rfl, hs, hM⟩
  have hsz := ht.size
  replace ht := hs.below ht (by omega) hsz
  replace hb0 := hs.whole hb0 (by omega)
  replace hb1 := hs.whole hb1 (by omega)
  replace hR0 := hs.whole hR0 (by omega)
  replace hF0 := hs.fresh hF0 (by omega)
  replace hR1 := hs.whole hR1 (by omega)
  clear hs hF1 hsz
  clear hb0_0 hb0_1 hb0_l hb1_0 hb1_1 hb1_2 hb1_l hR0_0 hR0_1 hR0_l hR1_0 hR1_1 hR1_l
  obtain ⟨hb0_0, hb0_1⟩ := hb0.cells2
  have hb0_l := hb0.lt
  obtain ⟨hb1_0, hb1_1, hb1_2⟩ := hb1.cells3
  have hb1_l := hb1.lt
  obtain ⟨hR0_0, hR0_1⟩ := hR0.cells2
  have hR0_l := hR0.lt
  obtain ⟨hR1_0, hR1_1⟩ := hR1.cells2
  have hR1_l := hR1.lt
  -- region 19
  go_wp2_with fail
  refine (heldPuzzle_any B1 ((adL k0 x0 (k1, k2, k3))).length q1 (adP k0 x0 (k1, k2, k3)) 1 _ (by exact hM.holds) (by omega) (by omega) hlen).mono ?_
  rintro e v9 ⟨rfl, hb⟩
  have hz11 : v8.heap.size ≤ v9.heap.size := by have := hb.size; simpa using this
  replace ht := below_then ht hb ht.size
  replace hb0 := hb0.below hb
  replace hb1 := hb1.below hb
  replace hR0 := hR0.below hb
  replace hF0 := hF0.below hb
  replace hR1 := hR1.below hb
  replace hM := hM.below hb
  clear hb
  have hm0 : (0 : Int) ≤ 1 + ((((adL k0 x0 (k1, k2, k3))).length * 3 : Nat) : Int) := by omega
  clear hb0_0 hb0_1 hb0_l hb1_0 hb1_1 hb1_2 hb1_l hR0_0 hR0_1 hR0_l hR1_0 hR1_1 hR1_l
  obtain ⟨hb0_0, hb0_1⟩ := hb0.cells2
  have hb0_l := hb0.lt
  obtain ⟨hb1_0, hb1_1, hb1_2⟩ := hb1.cells3
  have hb1_l := hb1.lt
  obtain ⟨hR0_0, hR0_1⟩ := hR0.cells2
  have hR0_l := hR0.lt
  obtain ⟨hR1_0, hR1_1⟩ := hR1.cells2
  have hR1_l := hR1.lt
  -- region 24
  have hbzrhb0 := hb0.lt
  have hbzrhb1 := hb1.lt
  go_upto_region 24 with fail
  go_cut [14, 15] (fun s8 s9 wx => ResMid 83 87 (fun A q => #[.int .i64 (adP k0 x0 (k1, k2, k3)), .slice A ((adL k0 x0 (k1, k2, k3))).length q]) (clsC ((adL k0 x0 (k1, k2, k3)))) (adOk k0 x0 (k1, k2, k3)) v9 s8 s9 wx)
  case first =>
    go_region_held3 (fun w' => w'.cell? ⟨w.heap.size, 0, none⟩ = some (.int .i64 k0) ∧ w'.cell? ⟨w.heap.size, 1, none⟩ = some (.slice A0 n0 c0) ∧ w'.cell? ⟨w.heap.size + 1, 0, none⟩ = some (.int .i64 k1) ∧ w'.cell? ⟨w.heap.size + 1, 1, none⟩ = some (.int .i64 k2) ∧ w'.cell? ⟨w.heap.size + 1, 2, none⟩ = some (.int .i64 k3)) (go_keep)
      (first | (go_at_call 56; first | (refine (toPuzzle_own k0 A0 n0 c0 x0 _ (by exact h0.below (below_then ht (Below.refl v9.heap.size v9).drew ht.size)) HX0.out (by omega)).mono ?_; rintro e wr0 ⟨gr0, rfl, hgr0, hwr0, hbr0⟩; have hcr0 := below_then (Below.refl v9.heap.size v9).drew hbr0 (Nat.le_refl _); have hzr0 := hcr0.size; (try (replace hbox := hbox.below hbr0; clear x0_ x1_ x2_ x3_; obtain ⟨x0_, x1_, x2_, x3_⟩ := hbox.two)); obtain ⟨kr0hb0_0, kr0hb0_1⟩ := (hb0.below hcr0).cells2; obtain ⟨kr0hb1_0, kr0hb1_1, kr0hb1_2⟩ := (hb1.below hcr0).cells3) | (have hbox := Whole.fresh v9 83 #[.int .i64 0, .slice none 0 0]; replace hbox := hbox.drew; refine (toPuzzle_own k0 A0 n0 c0 x0 _ (by exact h0.below (below_then ht ((Below.refl v9.heap.size v9).alloc (Nat.le_refl _) (.cells #[.int .i64 0, .slice none 0 0] 83)).drew ht.size)) HX0.out (by omega)).mono ?_; rintro e wr0 ⟨gr0, rfl, hgr0, hwr0, hbr0⟩; have hcr0 := below_then ((Below.refl v9.heap.size v9).alloc (Nat.le_refl _) (.cells #[.int .i64 0, .slice none 0 0] 83)).drew hbr0 (by simp); have hzr0 := hcr0.size; have hy0_ : w.heap.size < v9.heap.size := (by omega); have hn0_ : ¬ v9.heap.size = w.heap.size := (by omega); have hv0_ : ¬ w.heap.size = v9.heap.size := (by omega); have hy1_ : w.heap.size + 1 < v9.heap.size := (by omega); have hn1_ : ¬ v9.heap.size = w.heap.size + 1 := (by omega); have hv1_ : ¬ w.heap.size + 1 = v9.heap.size := (by omega); replace hbox := hbox.below hbr0; obtain ⟨x0_, x1_, x2_, x3_⟩ := hbox.two; obtain ⟨kr0hb0_0, kr0hb0_1⟩ := (hb0.below hcr0).cells2; obtain ⟨kr0hb1_0, kr0hb1_1, kr0hb1_2⟩ := (hb1.below hcr0).cells3)) | (go_at_call 57; first | (refine (toClue_any k1 k2 k3 _).mono ?_; rintro e wr1 ⟨rfl, hbr1⟩; have hcr1 := below_then hcr0 hbr1 hcr0.size; have hzr1 := hcr1.size; replace hwr0 := hwr0.below hbr1; (try (replace hbox := hbox.below hbr1; clear x0_ x1_ x2_ x3_; obtain ⟨x0_, x1_, x2_, x3_⟩ := hbox.two)); obtain ⟨kr1hb0_0, kr1hb0_1⟩ := (hb0.below hcr1).cells2; obtain ⟨kr1hb1_0, kr1hb1_1, kr1hb1_2⟩ := (hb1.below hcr1).cells3) | (have hbox := Whole.fresh wr0 83 #[.int .i64 0, .slice none 0 0]; refine (toClue_any k1 k2 k3 _).mono ?_; rintro e wr1 ⟨rfl, hbr1⟩; have hcr1 := below_then (hcr0.alloc hcr0.size (.cells #[.int .i64 0, .slice none 0 0] 83)) hbr1 (Nat.le_trans hcr0.size (by simp)); have hzr1 := hcr1.size; replace hwr0 := (hwr0.alloc (.cells #[.int .i64 0, .slice none 0 0] 83)).below hbr1; have hy0_ : w.heap.size < wr0.heap.size := (by omega); have hn0_ : ¬ wr0.heap.size = w.heap.size := (by omega); have hv0_ : ¬ w.heap.size = wr0.heap.size := (by omega); have hy1_ : w.heap.size + 1 < wr0.heap.size := (by omega); have hn1_ : ¬ wr0.heap.size = w.heap.size + 1 := (by omega); have hv1_ : ¬ w.heap.size + 1 = wr0.heap.size := (by omega); replace hbox := hbox.below hbr1; obtain ⟨x0_, x1_, x2_, x3_⟩ := hbox.two; obtain ⟨kr1hb0_0, kr1hb0_1⟩ := (hb0.below hcr1).cells2; obtain ⟨kr1hb1_0, kr1hb1_1, kr1hb1_2⟩ := (hb1.below hcr1).cells3)) | (go_at_call 58; first | ((try (have hbxl := hbox.lt)); refine (implAddK_any k0 _ _ n0 _ x0 k1 k2 k3 _ (by exact hwr0.holds) HX0.out (by omega) (Nat.le_refl _) (by omega)).mono ?_; rintro e wrs ⟨A0, q0, rfl, hF0_, hbrs⟩; have hcrs := below_then hcr1 hbrs hcr1.size; have hzrs := hcrs.size; replace hwr0 := hwr0.below hbrs; (try (replace hbox := hbox.below hbrs; clear x0_ x1_ x2_ x3_; obtain ⟨x0_, x1_, x2_, x3_⟩ := hbox.two)); obtain ⟨krshb0_0, krshb0_1⟩ := (hb0.below hcrs).cells2; obtain ⟨krshb1_0, krshb1_1, krshb1_2⟩ := (hb1.below hcrs).cells3) | (have hbox := Whole.fresh wr1 83 #[.int .i64 0, .slice none 0 0]; have hbxl := hbox.lt; refine (implAddK_any k0 _ _ n0 _ x0 k1 k2 k3 _ (by exact (hwr0.alloc (.cells #[.int .i64 0, .slice none 0 0] 83)).holds) HX0.out (by omega) (Nat.le_refl _) (by omega)).mono ?_; rintro e wrs ⟨A0, q0, rfl, hF0_, hbrs⟩; have hcrs := below_then (hcr1.alloc hcr1.size (.cells #[.int .i64 0, .slice none 0 0] 83)) hbrs (Nat.le_trans hcr1.size (by simp)); have hzrs := hcrs.size; replace hwr0 := (hwr0.alloc (.cells #[.int .i64 0, .slice none 0 0] 83)).below hbrs; have hy0_ : w.heap.size < wr1.heap.size := (by omega); have hn0_ : ¬ wr1.heap.size = w.heap.size := (by omega); have hv0_ : ¬ w.heap.size = wr1.heap.size := (by omega); have hy1_ : w.heap.size + 1 < wr1.heap.size := (by omega); have hn1_ : ¬ wr1.heap.size = w.heap.size + 1 := (by omega); have hv1_ : ¬ w.heap.size + 1 = wr1.heap.size := (by omega); replace hbox := hbox.below hbrs; obtain ⟨x0_, x1_, x2_, x3_⟩ := hbox.two; obtain ⟨krshb0_0, krshb0_1⟩ := (hb0.below hcrs).cells2; obtain ⟨krshb1_0, krshb1_1, krshb1_2⟩ := (hb1.below hcrs).cells3)))
    all_goals (go_wp2_with fail; go_meet)
    all_goals first | exact ResMid.first hcrs (by first | omega | (simp; omega)) hF0_ (by first | omega | (simp; omega)) (by first | omega | (simp; omega)) hbox rfl | exact ResMid.last hcrs (by first | omega | (simp; omega)) hF0_
  obtain ⟨wkr, rfl⟩ : ∃ W : World, W = wc := ⟨_, rfl⟩
  obtain ⟨grr, B2, q2, lor, hir, rfl, rfl, hgrr, hglr, hlor, hdr, hhir, hR2, hF2, hb⟩ := hcut
  have hz12 : v9.heap.size ≤ wkr.heap.size := by have := hb.size; simpa using this
  replace ht := below_then ht hb ht.size
  replace hb0 := hb0.below hb
  replace hb1 := hb1.below hb
  replace hR0 := hR0.below hb
  replace hF0 := hF0.below hb
  replace hR1 := hR1.below hb
  replace hM := hM.below hb
  clear hb
  replace hR2 : Whole wkr grr 83 #[.int .i64 (adP k0 x0 (k1, k2, k3)), .slice B2 ((adL k0 x0 (k1, k2, k3))).length q2] := hR2
  clear hb0_0 hb0_1 hb0_l hb1_0 hb1_1 hb1_2 hb1_l hR0_0 hR0_1 hR0_l hR1_0 hR1_1 hR1_l
  obtain ⟨hb0_0, hb0_1⟩ := hb0.cells2
  have hb0_l := hb0.lt
  obtain ⟨hb1_0, hb1_1, hb1_2⟩ := hb1.cells3
  have hb1_l := hb1.lt
  obtain ⟨hR0_0, hR0_1⟩ := hR0.cells2
  have hR0_l := hR0.lt
  obtain ⟨hR1_0, hR1_1⟩ := hR1.cells2
  have hR1_l := hR1.lt
  obtain ⟨hR2_0, hR2_1⟩ := hR2.cells2
  have hR2_l := hR2.lt
  -- region 25
  go_wp2_with fail
  refine (eqPuzzle_yes B2 B0 ((adL k0 x0 (k1, k2, k3))).length q2 q0 ((adL k0 x0 (k1, k2, k3))) (adP k0 x0 (k1, k2, k3)) _ (by exact hF2.holds) (by exact hF0.holds) rfl (by omega)).mono ?_
  rintro e v10 ⟨rfl, hb⟩
  have hz13 : wkr.heap.size ≤ v10.heap.size := by have := hb.size; simpa using this
  replace ht := below_then ht hb ht.size
  replace hb0 := hb0.below hb
  replace hb1 := hb1.below hb
  replace hR0 := hR0.below hb
  replace hF0 := hF0.below hb
  replace hR1 := hR1.below hb
  replace hM := hM.below hb
  replace hR2 := hR2.below hb
  replace hF2 := hF2.below hb
  clear hb
  clear hb0_0 hb0_1 hb0_l hb1_0 hb1_1 hb1_2 hb1_l hR0_0 hR0_1 hR0_l hR1_0 hR1_1 hR1_l hR2_0 hR2_1 hR2_l
  obtain ⟨hb0_0, hb0_1⟩ := hb0.cells2
  have hb0_l := hb0.lt
  obtain ⟨hb1_0, hb1_1, hb1_2⟩ := hb1.cells3
  have hb1_l := hb1.lt
  obtain ⟨hR0_0, hR0_1⟩ := hR0.cells2
  have hR0_l := hR0.lt
  obtain ⟨hR1_0, hR1_1⟩ := hR1.cells2
  have hR1_l := hR1.lt
  obtain ⟨hR2_0, hR2_1⟩ := hR2.cells2
  have hR2_l := hR2.lt
  -- region 28
  go_wp2_with fail
  refine (heldPuzzle_any B1 ((adL k0 x0 (k1, k2, k3))).length q1 (adP k0 x0 (k1, k2, k3)) 1 _ (by exact hM.holds) (by omega) (by omega) hlen).mono ?_
  rintro e v11 ⟨rfl, hb⟩
  have hz14 : v10.heap.size ≤ v11.heap.size := by have := hb.size; simpa using this
  replace ht := below_then ht hb ht.size
  replace hb0 := hb0.below hb
  replace hb1 := hb1.below hb
  replace hR0 := hR0.below hb
  replace hF0 := hF0.below hb
  replace hR1 := hR1.below hb
  replace hM := hM.below hb
  replace hR2 := hR2.below hb
  replace hF2 := hF2.below hb
  clear hb
  clear hb0_0 hb0_1 hb0_l hb1_0 hb1_1 hb1_2 hb1_l hR0_0 hR0_1 hR0_l hR1_0 hR1_1 hR1_l hR2_0 hR2_1 hR2_l
  obtain ⟨hb0_0, hb0_1⟩ := hb0.cells2
  have hb0_l := hb0.lt
  obtain ⟨hb1_0, hb1_1, hb1_2⟩ := hb1.cells3
  have hb1_l := hb1.lt
  obtain ⟨hR0_0, hR0_1⟩ := hR0.cells2
  have hR0_l := hR0.lt
  obtain ⟨hR1_0, hR1_1⟩ := hR1.cells2
  have hR1_l := hR1.lt
  obtain ⟨hR2_0, hR2_1⟩ := hR2.cells2
  have hR2_l := hR2.lt
  go_wp2
  go_ret
  exact ⟨rfl, ht⟩

theorem lawAddClue_all (k0 : Int) (A0 : Option Addr) (n0 c0 : Nat) (x0 : List Cl) (k1 : Int) (k2 : Int) (k3 : Int) (w : World) (h0 : Holds w A0 (clsC x0)) (hx0 : x0.length = n0) (hn0 : n0 ≤ 9223372036854775807) :
    Calls Try.prog 12 #[.agg #[.int .i64 k0, .slice A0 n0 c0], .agg #[.int .i64 k1, .int .i64 k2, .int .i64 k3]] w fun e w' => e = .returned (.bool true) ∧ Below w.heap.size w w' := by
  rcases (inferInstance : Decidable (0 ≤ 1048576 - (n0 : Int))) with g0 | g0
  · exact lawAddClue_big0 k0 A0 n0 c0 x0 k1 k2 k3 w h0 hx0 hn0  (by omega)
  exact lawAddClue_small k0 A0 n0 c0 x0 k1 k2 k3 w h0 hx0 hn0 g0
end Go.Proofs.Ytkocompjjogciaa
