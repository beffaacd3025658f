/-
  What is proved: the law FnExactIsHidden returns true at every argument, and leaves all that was there as it was. Conditions: the arguments are read as they lie.
-/
import Derived.Test.YtcoagbcleccmmaaHid
import Derived.Test.YtcoagbcleccmmaaGrid3
import Derived.Test.YtcoagbcleccmmaaTripT
import Derived.Test.YtcoagbcleccmmaaCells
import Derived.Deep.RegionHeld3
namespace Go.Proofs.Ytcoagbcleccmmaa
open Go.RowKit

set_option maxHeartbeats 800000 in
set_option linter.unusedVariables false in
theorem lawIsHidden_big0 (A0 : Option Addr) (n0 c0 : Nat) (x0 : List Int) (w : World) (h0 : Holds w A0 (nums x0)) (hx0 : x0.length = n0) (hn0 : n0 ≤ 9223372036854775807)  (hbig : (1048576 : Int) < n0) :
    Calls Try.prog 5 #[.slice A0 n0 c0] w fun e w' => e = .returned (.bool true) ∧ Below w.heap.size w w' := by
  have ht := Below.refl w.heap.size w
  have HX0 := Lib.hid hx0
  clear hx0
  go_enter Try.func5, Try.ntmps5
  go_wp2
  go_ret
  exact ⟨rfl, ht⟩

set_option maxHeartbeats 12800000 in
set_option maxRecDepth 100000 in
set_option linter.unusedSimpArgs false in
set_option linter.unusedVariables false in
theorem lawIsHidden_small (A0 : Option Addr) (n0 c0 : Nat) (x0 : List Int) (w : World) (h0 : Holds w A0 (nums x0)) (hx0 : x0.length = n0) (hn0 : n0 ≤ 9223372036854775807) (g0 : (n0 : Int) ≤ 1048576) :
    Calls Try.prog 5 #[.slice A0 n0 c0] w fun e w' => e = .returned (.bool true) ∧ Below w.heap.size w w' := by
  have ht := Below.refl w.heap.size w
  have HX0 := Lib.hid hx0
  clear hx0
  go_enter Try.func5, Try.ntmps5
  -- region 3
  go_wp2_with fail
  refine (toIntS_own A0 n0 c0 x0 _ (by exact h0.below ht) HX0.out (by omega)).mono ?_
  rintro e v1 ⟨gp0, rfl, hgp0, hwp0, hb⟩
  have hz1 : w.heap.size ≤ v1.heap.size := by have := hb.size; simpa using this
  replace ht := below_then ht hb ht.size
  have hp0 := Fresh.of_whole (lo := w.heap.size) (hi := v1.heap.size) hwp0 (by simpa using hgp0) hwp0.lt
  clear hgp0 hwp0
  clear hb
  go_wp2_with fail
  refine (specIsHidden_on _ n0 _ x0 _ (by exact hp0.holds) HX0.out (by omega)).mono ?_
  rintro e v2 ⟨rfl, hb⟩
  have hz2 : v1.heap.size ≤ v2.heap.size := by have := hb.size; simpa using this
  replace ht := below_then ht hb ht.size
  replace hp0 := hp0.below hb
  clear hb
  clear hp0
  -- region 4
  go_wp2_with fail
  refine (toIntS_own A0 n0 c0 x0 _ (by exact h0.below ht) HX0.out (by omega)).mono ?_
  rintro e v3 ⟨gx0, rfl, hgx0, hwx0, hb⟩
  have hz3 : v2.heap.size ≤ v3.heap.size := by have := hb.size; simpa using this
  replace ht := below_then ht hb ht.size
  have hx0 := Fresh.of_whole (lo := v2.heap.size) (hi := v3.heap.size) hwx0 (by simpa using hgx0) hwx0.lt
  clear hgx0 hwx0
  clear hb
  -- region 5
  go_wp2_with fail
  refine (implIsHidden_on _ n0 _ x0 _ (by exact hx0.holds) HX0.out (by omega)).mono ?_
  rintro e v4 ⟨rfl, hb⟩
  have hz4 : v3.heap.size ≤ v4.heap.size := by have := hb.size; simpa using this
  replace ht := below_then ht hb ht.size
  replace hx0 := hx0.below hb
  clear hb
  -- region 8
  go_wp2_with fail
  refine (toIntS_own A0 n0 c0 x0 _ (by exact h0.below ht) HX0.out (by omega)).mono ?_
  rintro e v5 ⟨gy0, rfl, hgy0, hwy0, hb⟩
  have hz5 : v4.heap.size ≤ v5.heap.size := by have := hb.size; simpa using this
  replace ht := below_then ht hb ht.size
  replace hx0 := hx0.below hb
  have hy0 := Fresh.of_whole (lo := v4.heap.size) (hi := v5.heap.size) hwy0 (by simpa using hgy0) hwy0.lt
  clear hgy0 hwy0
  clear hb
  go_wp2_with fail
  refine (eqIntS_yes _ _ n0 _ _ x0 _ (by exact hx0.holds) (by exact hy0.holds) HX0.out (by omega)).mono ?_
  rintro e v6 ⟨rfl, hb⟩
  have hz6 : v5.heap.size ≤ v6.heap.size := by have := hb.size; simpa using this
  replace ht := below_then ht hb ht.size
  replace hx0 := hx0.below hb
  replace hy0 := hy0.below hb
  clear hb
  clear hy0
  go_wp2
  go_ret
  exact ⟨rfl, ht⟩

theorem lawIsHidden_all (A0 : Option Addr) (n0 c0 : Nat) (x0 : List Int) (w : World) (h0 : Holds w A0 (nums x0)) (hx0 : x0.length = n0) (hn0 : n0 ≤ 9223372036854775807) :
    Calls Try.prog 5 #[.slice A0 n0 c0] w fun e w' => e = .returned (.bool true) ∧ Below w.heap.size w w' := by
  rcases (inferInstance : Decidable ((n0 : Int) ≤ 1048576)) with g0 | g0
  · exact lawIsHidden_big0 A0 n0 c0 x0 w h0 hx0 hn0  (by omega)
  exact lawIsHidden_small A0 n0 c0 x0 w h0 hx0 hn0 g0
end Go.Proofs.Ytcoagbcleccmmaa
