/-
  What is proved: the law FnExactIsCalmGroup returns true at every argument, and leaves all that was there as it was. Conditions: the arguments are read as they lie.
-/
import Derived.Test.YteeolclnoblkcaaCalmH
import Derived.Test.YteeolclnoblkcaaGrid3
import Derived.Test.YteeolclnoblkcaaTripT
import Derived.Deep.RegionHeld3
import Derived.Deep.DeepCutAuto
namespace Go.Proofs.Yteeolclnoblkcaa
open Go.RowKit

set_option maxHeartbeats 800000 in
theorem lawIsCalmGroup_big0 (k : Int) (A : Option Addr) (n c : Nat) (xs : List Int) (w : World) (_hk : -9223372036854775808 ≤ k ∧ k ≤ 9223372036854775807) (hA : Holds w A (nums xs)) (hx : xs.length = n) (hn : n ≤ 9223372036854775807)  (hbig : (1048576 : Int) < n) :
    Calls Try.prog 4 #[.int .i64 k, .slice A n c] w fun e w' => e = .returned (.bool true) ∧ Below w.heap.size w w' := by
  have HX := Lib.hid hx
  clear hx
  have hused := And.intro True.intro (And.intro hn (And.intro True.intro (True.intro)))
  clear hused
  go_enter Try.func4, Try.ntmps4
  go_wp2
  go_ret
  exact ⟨rfl, Below.refl w.heap.size w⟩

set_option maxHeartbeats 6400000 in
set_option maxRecDepth 100000 in
theorem lawIsCalmGroup_small (k : Int) (A : Option Addr) (n c : Nat) (xs : List Int) (w : World) (_hk : -9223372036854775808 ≤ k ∧ k ≤ 9223372036854775807) (hA : Holds w A (nums xs)) (hx : xs.length = n) (hn : n ≤ 9223372036854775807) (g0 : (n : Int) ≤ 1048576) :
    Calls Try.prog 4 #[.int .i64 k, .slice A n c] w fun e w' => e = .returned (.bool true) ∧ Below w.heap.size w w' := by
  have HX := Lib.hid hx
  clear hx
  go_enter Try.func4, Try.ntmps4
  have ht := Below.refl w.heap.size w
  -- the model
  go_wp2_with fail
  refine (toIntS_own A n c xs _ (hA) HX.out (by omega)).mono ?_
  rintro e wp1 ⟨gp1, rfl, hgp1, hwp1, hb⟩
  replace ht := below_then ht hb ht.size
  replace hA := hA.below hb
  clear hb hgp1
  go_wp2_with fail
  refine (specIsCalmGroup_b k _ n _ xs _ hwp1.holds HX.out (by omega)).mono ?_
  rintro e wps ⟨rfl, hb⟩
  replace ht := below_then ht hb ht.size
  replace hA := hA.below hb
  clear hb hwp1
  -- the program
  go_wp2_with fail
  refine (toIntS_own A n c xs _ (hA) HX.out (by omega)).mono ?_
  rintro e wx1 ⟨gx1, rfl, hgx1, hwx1, hb⟩
  replace ht := below_then ht hb ht.size
  replace hA := hA.below hb
  clear hb hgx1
  go_wp2_with fail
  refine (implIsCalmGroup_any k _ n _ xs _ hwx1.holds HX.out (by omega)).mono ?_
  rintro e wi ⟨rfl, hb⟩
  replace ht := below_then ht hb ht.size
  replace hA := hA.below hb
  replace hwx1 := hwx1.below hb
  clear hb
  go_wp2_with fail
  refine (toIntS_own A n c xs _ (hA) HX.out (by omega)).mono ?_
  rintro e wy1 ⟨gy1, rfl, hgy1, hwy1, hb⟩
  replace ht := below_then ht hb ht.size
  replace hA := hA.below hb
  replace hwx1 := hwx1.below hb
  clear hb hgy1
  go_wp2_with fail
  refine (eqIntS_yes _ _ n _ _ xs _ hwx1.holds hwy1.holds HX.out (by omega)).mono ?_
  rintro e wq1 ⟨rfl, hb⟩
  replace ht := below_then ht hb ht.size
  replace hA := hA.below hb
  replace hwx1 := hwx1.below hb
  replace hwy1 := hwy1.below hb
  clear hb
  go_wp2
  go_ret
  exact ⟨rfl, ht⟩

theorem lawIsCalmGroup_all (k : Int) (A : Option Addr) (n c : Nat) (xs : List Int) (w : World) (_hk : -9223372036854775808 ≤ k ∧ k ≤ 9223372036854775807) (hA : Holds w A (nums xs)) (hx : xs.length = n) (hn : n ≤ 9223372036854775807) :
    Calls Try.prog 4 #[.int .i64 k, .slice A n c] w fun e w' => e = .returned (.bool true) ∧ Below w.heap.size w w' := by
  rcases (inferInstance : Decidable ((n : Int) ≤ 1048576)) with g0 | g0
  · exact lawIsCalmGroup_big0 k A n c xs w _hk hA hx hn  (by omega)
  · exact lawIsCalmGroup_small k A n c xs w _hk hA hx hn g0
end Go.Proofs.Yteeolclnoblkcaa
