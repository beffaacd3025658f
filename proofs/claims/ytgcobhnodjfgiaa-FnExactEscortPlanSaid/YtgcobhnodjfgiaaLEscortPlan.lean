/-
  What is proved: the law FnExactEscortPlan returns true at every argument, and leaves all that was there as it was. Conditions: the arguments are read as they lie.
-/
import Derived.Test.YtgcobhnodjfgiaaPairT
import Derived.Test.YtgcobhnodjfgiaaGrid3
import Derived.Test.YtgcobhnodjfgiaaTripT
import Derived.Deep.RegionHeld3
import Derived.Deep.DeepCutAuto
namespace Go.Proofs.Ytgcobhnodjfgiaa
open Go.RowKit

set_option maxHeartbeats 800000 in
theorem lawEscortPlan_big0 (A : Option Addr) (n c : Nat) (xs : List Int) (w : World) (hA : Holds w A (nums xs)) (hx : xs.length = n) (hn : n ≤ 9223372036854775807)  (hbig : (1048576 : Int) < n) :
    Calls Try.prog 8 #[.slice A n c] w fun e w' => e = .returned (.bool true) ∧ Below w.heap.size w w' := by
  have HX := Lib.hid hx
  clear hx
  have hused := And.intro True.intro (And.intro hn (And.intro True.intro (True.intro)))
  clear hused
  go_enter Try.func8, Try.ntmps8
  go_wp2
  go_ret
  exact ⟨rfl, Below.refl w.heap.size w⟩

set_option maxHeartbeats 6400000 in
set_option maxRecDepth 100000 in
theorem lawEscortPlan_small (A : Option Addr) (n c : Nat) (xs : List Int) (w : World) (hA : Holds w A (nums xs)) (hx : xs.length = n) (hn : n ≤ 9223372036854775807) (g0 : (n : Int) ≤ 1048576) :
    Calls Try.prog 8 #[.slice A n c] w fun e w' => e = .returned (.bool true) ∧ Below w.heap.size w w' := by
  have HX := Lib.hid hx
  clear hx
  have hA0 := hA
  go_enter Try.func8, Try.ntmps8
  have ht := Below.refl w.heap.size w
  clear hA
  -- the model
  have hlen : ((prTs false xs).map listT).length ≤ 1048576 ∧ (((prTs false xs).map listT).map List.length).sum ≤ 1048576 := escortplan_le xs
  have hz0 := ht.size
  go_wp2_with fail
  refine (toIntS_own A n c xs _ ((hA0.below ht)) HX.out (by omega)).mono ?_
  rintro e wp0 ⟨gp0, rfl, hgp0, hwp0, hb⟩
  have hz1 : w.heap.size ≤ wp0.heap.size := by have := hb.size; simpa using this
  replace ht := below_then ht hb ht.size
  clear hb hgp0
  go_wp2_with fail
  refine (specEscortPlan_any _ n _ xs _ hwp0.holds HX.out (by omega)).mono ?_
  rintro e wps ⟨A0, n0, q0, rs0, rfl, he0, hl0, hF0, hb⟩
  have hz2 : wp0.heap.size ≤ wps.heap.size := by have := hb.size; simpa using this
  replace ht := below_then ht hb ht.size
  clear hb hwp0
  have HER0 := Lib.hid he0
  have HLR0 := Lib.hid hl0
  have hnr0 : n0 ≤ 1048576 := by have h1 := hl0; have h2 := congrArg List.length he0; rw [rowNums_len] at h2; have h3 := hlen.1; omega
  clear he0 hl0
  -- the program
  go_wp2_with fail
  refine (toIntS_own A n c xs _ ((hA0.below ht)) HX.out (by omega)).mono ?_
  rintro e wx0 ⟨gx0, rfl, hgx0, hwx0, hb⟩
  have hz3 : wps.heap.size ≤ wx0.heap.size := by have := hb.size; simpa using this
  replace ht := below_then ht hb ht.size
  replace hF0 := hF0.below hb
  have hX0 := Fresh.of_whole (lo := wps.heap.size) (hi := wx0.heap.size) hwx0 (by simpa using hgx0) hwx0.lt
  clear hb hgx0 hwx0
  go_wp2_with fail
  refine (implEscortPlan_any _ n _ xs _ hX0.holds HX.out (by omega)).mono ?_
  rintro e wi ⟨A1, n1, q1, rs1, rfl, he1, hl1, hF1, hb⟩
  have HER1 := Lib.hid he1
  have HLR1 := Lib.hid hl1
  have hnr1 : n1 ≤ 1048576 := by have h1 := hl1; have h2 := congrArg List.length he1; rw [rowNums_len] at h2; have h3 := hlen.1; omega
  clear he1 hl1
  have hz4 : wx0.heap.size ≤ wi.heap.size := by have := hb.size; simpa using this
  replace hF1 := hF1.more (lo' := wx0.heap.size) (hi' := wi.heap.size) (by simp) (Nat.le_refl _)
  replace ht := below_then ht hb ht.size
  replace hF0 := hF0.below hb
  replace hX0 := hX0.below hb
  clear hb
  go_wp2_with fail
  refine (eqIntSS_yes A1 A0 n1 n0 q1 q0 rs1 rs0 _ hF1.grid hF0.grid (by rw [HER1.out, HER0.out]) HLR1.out HLR0.out (by omega)).mono ?_
  rintro e we0 ⟨rfl, hb⟩
  replace ht := below_then ht hb ht.size
  replace hF0 := hF0.below hb
  replace hX0 := hX0.below hb
  replace hF1 := hF1.below hb
  clear hb
  go_wp2_with fail
  refine (toIntS_own A n c xs _ ((hA0.below ht)) HX.out (by omega)).mono ?_
  rintro e wy0 ⟨gy0, rfl, hgy0, hwy0, hb⟩
  replace ht := below_then ht hb ht.size
  replace hF0 := hF0.below hb
  replace hX0 := hX0.below hb
  replace hF1 := hF1.below hb
  clear hb hgy0
  go_wp2_with fail
  refine (eqIntS_yes _ _ n _ _ xs _ hX0.holds hwy0.holds HX.out (by omega)).mono ?_
  rintro e wq0 ⟨rfl, hb⟩
  replace ht := below_then ht hb ht.size
  replace hF0 := hF0.below hb
  replace hX0 := hX0.below hb
  replace hF1 := hF1.below hb
  clear hb hwy0
  -- marks
  go_wp2_with fail
  refine (markIntS_any (some ⟨gx0, 0, none⟩) n n _ _ _ (1) _ hX0 (by rw [nums_len]; exact HX.out) (by omega) (by omega) (by omega)).mono ?_
  rintro e wm0 ⟨rfl, hs, -⟩
  have hsz := ht.size
  replace ht := hs.below ht (by omega) hsz
  replace hF0 := hs.freeGrid hF0 (by omega)
  replace hF1 := hs.freeGrid hF1 (by omega)
  clear hs hsz hX0
  have hk0 : (0 : Int) ≤ 1 + (n : Int) := by omega
  go_wp2_with fail
  refine (eqIntSS_yes A1 A0 n1 n0 q1 q0 rs1 rs0 _ hF1.grid hF0.grid (by rw [HER1.out, HER0.out]) HLR1.out HLR0.out (by omega)).mono ?_
  rintro e we1 ⟨rfl, hb⟩
  replace ht := below_then ht hb ht.size
  replace hF0 := hF0.below hb
  replace hF1 := hF1.below hb
  clear hb
  go_wp2_with fail
  have hprt : part rs1 rs1.length ≤ 1048576 := by have h1 := part_lens hF1.grid; have h2 := hlen.2; rw [HER1.out] at h1; omega
  refine (markIntSS_any A1 n1 q1 _ _ rs1 1 _ hF1 HLR1.out (by omega) (by omega) hnr1 hprt).mono ?_
  rintro e wn ⟨rfl, hs, hF2⟩
  have hsz := ht.size
  replace ht := hs.below ht (by omega) hsz
  replace hF0 := hs.freeGrid hF0 (by omega)
  clear hs hF1 hsz
  go_wp2_with fail
  refine (heldIntSS_any A1 n1 q1 rs1 1 _ hF2.grid HLR1.out (by omega) (by omega) hnr1 hprt).mono ?_
  rintro e wh0 ⟨rfl, hb⟩
  replace ht := below_then ht hb ht.size
  replace hF0 := hF0.below hb
  replace hF2 := hF2.below hb
  clear hb
  have hm0 : (0 : Int) ≤ 1 + ((part rs1 rs1.length : Nat) : Int) := by omega
  -- once more
  go_wp2_with fail
  refine (toIntS_own A n c xs _ ((hA0.below ht)) HX.out (by omega)).mono ?_
  rintro e wr0 ⟨gr0, rfl, hgr0, hwr0, hb⟩
  have hz5 : wh0.heap.size ≤ wr0.heap.size := by have := hb.size; simpa using this
  replace ht := below_then ht hb ht.size
  replace hF0 := hF0.below hb
  replace hF2 := hF2.below hb
  clear hb hgr0
  go_wp2_with fail
  refine (implEscortPlan_any _ n _ xs _ hwr0.holds HX.out (by omega)).mono ?_
  rintro e wrs ⟨A2, n2, q2, rs2, rfl, he2, hl2, hF3, hb⟩
  have hz6 : wr0.heap.size ≤ wrs.heap.size := by have := hb.size; simpa using this
  replace ht := below_then ht hb ht.size
  replace hF0 := hF0.below hb
  replace hF2 := hF2.below hb
  clear hb hwr0
  have HER2 := Lib.hid he2
  have HLR2 := Lib.hid hl2
  have hnr2 : n2 ≤ 1048576 := by have h1 := hl2; have h2 := congrArg List.length he2; rw [rowNums_len] at h2; have h3 := hlen.1; omega
  clear he2 hl2
  go_wp2_with fail
  refine (eqIntSS_yes A2 A0 n2 n0 q2 q0 rs2 rs0 _ hF3.grid hF0.grid (by rw [HER2.out, HER0.out]) HLR2.out HLR0.out (by omega)).mono ?_
  rintro e we2 ⟨rfl, hb⟩
  replace ht := below_then ht hb ht.size
  replace hF0 := hF0.below hb
  replace hF2 := hF2.below hb
  replace hF3 := hF3.below hb
  clear hb
  go_wp2_with fail
  refine (heldIntSS_any A1 n1 q1 rs1 1 _ hF2.grid HLR1.out (by omega) (by omega) hnr1 hprt).mono ?_
  rintro e wh1 ⟨rfl, hb⟩
  replace ht := below_then ht hb ht.size
  replace hF0 := hF0.below hb
  replace hF2 := hF2.below hb
  replace hF3 := hF3.below hb
  clear hb
  go_wp2
  go_ret
  exact ⟨rfl, ht⟩

theorem lawEscortPlan_all (A : Option Addr) (n c : Nat) (xs : List Int) (w : World) (hA : Holds w A (nums xs)) (hx : xs.length = n) (hn : n ≤ 9223372036854775807) :
    Calls Try.prog 8 #[.slice A n c] w fun e w' => e = .returned (.bool true) ∧ Below w.heap.size w w' := by
  rcases (inferInstance : Decidable ((n : Int) ≤ 1048576)) with g0 | g0
  · exact lawEscortPlan_big0 A n c xs w hA hx hn  (by omega)
  · exact lawEscortPlan_small A n c xs w hA hx hn g0
end Go.Proofs.Ytgcobhnodjfgiaa
