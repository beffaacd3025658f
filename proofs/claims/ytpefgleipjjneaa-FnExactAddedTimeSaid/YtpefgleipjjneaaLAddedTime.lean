/-
  What is proved: the law FnExactAddedTime returns true at every argument, and leaves all that was there as it was. Conditions: the arguments are read as they lie.
-/
import Derived.Test.YtpefgleipjjneaaAdded
import Derived.Test.YtpefgleipjjneaaGrid3
import Derived.Test.YtpefgleipjjneaaTripT
import Derived.Deep.RegionHeld3
import Derived.Deep.DeepCutAuto
namespace Go.Proofs.Ytpefgleipjjneaa
open Go.RowKit

set_option maxHeartbeats 800000 in
theorem lawAddedTime_big0 (A : Option Addr) (n c : Nat) (xs : List Int) (k : Int) (w : World) (hA : Holds w A (nums xs)) (hx : xs.length = n) (hn : n ≤ 9223372036854775807) (_hk : -9223372036854775808 ≤ k ∧ k ≤ 9223372036854775807)  (hbig : (1048576 : Int) < n) :
    Calls Try.prog 3 #[.slice A n c, .int .i64 k] w fun e w' => e = .returned (.bool true) ∧ Below w.heap.size w w' := by
  have HX := Lib.hid hx
  clear hx
  have hused := And.intro True.intro (And.intro hn (And.intro True.intro (True.intro)))
  clear hused
  go_enter Try.func3, Try.ntmps3
  go_wp2
  go_ret
  exact ⟨rfl, Below.refl w.heap.size w⟩

set_option maxHeartbeats 6400000 in
set_option maxRecDepth 100000 in
theorem lawAddedTime_small (A : Option Addr) (n c : Nat) (xs : List Int) (k : Int) (w : World) (hA : Holds w A (nums xs)) (hx : xs.length = n) (hn : n ≤ 9223372036854775807) (_hk : -9223372036854775808 ≤ k ∧ k ≤ 9223372036854775807) (g0 : (n : Int) ≤ 1048576) :
    Calls Try.prog 3 #[.slice A n c, .int .i64 k] w fun e w' => e = .returned (.bool true) ∧ Below w.heap.size w w' := by
  have HX := Lib.hid hx
  clear hx
  go_enter Try.func3, Try.ntmps3
  have ht := Below.refl w.heap.size w
  -- the model
  go_wp2_with fail
  refine (toIntS_own A n c xs _ (hA) HX.out (by omega)).mono ?_
  rintro e wp0 ⟨gp0, rfl, hgp0, hwp0, hb⟩
  replace ht := below_then ht hb ht.size
  replace hA := hA.below hb
  clear hb hgp0
  go_wp2_with fail
  refine (specAdded_any _ n _ xs k _ hwp0.holds HX.out (by omega)).mono ?_
  rintro e wps ⟨rfl, hb⟩
  replace ht := below_then ht hb ht.size
  replace hA := hA.below hb
  clear hb hwp0
  -- the program
  go_wp2_with fail
  refine (toIntS_own A n c xs _ (hA) HX.out (by omega)).mono ?_
  rintro e wx0 ⟨gx0, rfl, hgx0, hwx0, hb⟩
  replace ht := below_then ht hb ht.size
  replace hA := hA.below hb
  clear hb hgx0
  go_wp2_with fail
  refine (implAdded_any _ n _ xs k _ hwx0.holds HX.out (by omega)).mono ?_
  rintro e wi ⟨rfl, hb⟩
  replace ht := below_then ht hb ht.size
  replace hA := hA.below hb
  replace hwx0 := hwx0.below hb
  clear hb
  go_wp2_with fail
  refine (toIntS_own A n c xs _ (hA) HX.out (by omega)).mono ?_
  rintro e wy0 ⟨gy0, rfl, hgy0, hwy0, hb⟩
  replace ht := below_then ht hb ht.size
  replace hA := hA.below hb
  replace hwx0 := hwx0.below hb
  clear hb hgy0
  go_wp2_with fail
  refine (eqIntS_yes _ _ n _ _ xs _ hwx0.holds hwy0.holds HX.out (by omega)).mono ?_
  rintro e wq0 ⟨rfl, hb⟩
  replace ht := below_then ht hb ht.size
  replace hA := hA.below hb
  replace hwx0 := hwx0.below hb
  replace hwy0 := hwy0.below hb
  clear hb
  go_wp2
  go_ret
  exact ⟨rfl, ht⟩

theorem lawAddedTime_all (A : Option Addr) (n c : Nat) (xs : List Int) (k : Int) (w : World) (hA : Holds w A (nums xs)) (hx : xs.length = n) (hn : n ≤ 9223372036854775807) (_hk : -9223372036854775808 ≤ k ∧ k ≤ 9223372036854775807) :
    Calls Try.prog 3 #[.slice A n c, .int .i64 k] w fun e w' => e = .returned (.bool true) ∧ Below w.heap.size w w' := by
  rcases (inferInstance : Decidable ((n : Int) ≤ 1048576)) with g0 | g0
  · exact lawAddedTime_big0 A n c xs k w hA hx hn _hk  (by omega)
  · exact lawAddedTime_small A n c xs k w hA hx hn _hk g0
end Go.Proofs.Ytpefgleipjjneaa
