/-
  What is proved: the law FnExactWhoComesBack returns true at every argument, and leaves all that was there as it was. Conditions: the arguments are read as they lie.
-/
import Derived.Test.YtgcobhnodjfgiaaWho
import Derived.Test.YtgcobhnodjfgiaaGrid3
import Derived.Test.YtgcobhnodjfgiaaTripT
import Derived.Deep.RegionHeld3
import Derived.Deep.DeepCutAuto
namespace Go.Proofs.Ytgcobhnodjfgiaa
open Go.RowKit

set_option maxHeartbeats 800000 in
theorem lawWhoComesBack_big0 (A : Option Addr) (n c : Nat) (xs : List Int) (w : World) (hA : Holds w A (nums xs)) (hx : xs.length = n) (hn : n ≤ 9223372036854775807)  (hbig : (1048576 : Int) < n) :
    Calls Try.prog 12 #[.slice A n c] w fun e w' => e = .returned (.bool true) ∧ Below w.heap.size w w' := by
  have HX := Lib.hid hx
  clear hx
  have hused := And.intro True.intro (And.intro hn (And.intro True.intro (True.intro)))
  clear hused
  go_enter Try.func12, Try.ntmps12
  go_wp2
  go_ret
  exact ⟨rfl, Below.refl w.heap.size w⟩

set_option maxHeartbeats 6400000 in
set_option maxRecDepth 100000 in
theorem lawWhoComesBack_small (A : Option Addr) (n c : Nat) (xs : List Int) (w : World) (hA : Holds w A (nums xs)) (hx : xs.length = n) (hn : n ≤ 9223372036854775807) (g0 : (n : Int) ≤ 1048576) :
    Calls Try.prog 12 #[.slice A n c] w fun e w' => e = .returned (.bool true) ∧ Below w.heap.size w w' := by
  have HX := Lib.hid hx
  clear hx
  have hA0 := hA
  go_enter Try.func12, Try.ntmps12
  have ht := Below.refl w.heap.size w
  clear hA
  -- the model
  have hlen : (backers xs).length ≤ 1048576 := backers_le xs
  have hz0 := ht.size
  go_wp2_with fail
  refine (toIntS_own A n c xs _ ((hA0.below ht)) HX.out (by omega)).mono ?_
  rintro e wp0 ⟨gp0, rfl, hgp0, hwp0, hb⟩
  have hz1 : w.heap.size ≤ wp0.heap.size := by have := hb.size; simpa using this
  replace ht := below_then ht hb ht.size
  clear hb hgp0
  go_wp2_with fail
  refine (specWho_any _ n _ xs _ hwp0.holds HX.out (by omega)).mono ?_
  rintro e wps ⟨A0, q0, rfl, hF0, hb⟩
  have hz2 : wp0.heap.size ≤ wps.heap.size := by have := hb.size; simpa using this
  replace ht := below_then ht hb ht.size
  clear hb hwp0
  -- the program
  go_wp2_with fail
  refine (toIntS_own A n c xs _ ((hA0.below ht)) HX.out (by omega)).mono ?_
  rintro e wx0 ⟨gx0, rfl, hgx0, hwx0, hb⟩
  have hz3 : wps.heap.size ≤ wx0.heap.size := by have := hb.size; simpa using this
  replace ht := below_then ht hb ht.size
  replace hF0 := hF0.below hb
  have hX0 := Fresh.of_whole (lo := wps.heap.size) (hi := wx0.heap.size) hwx0 (by simpa using hgx0) hwx0.lt
  clear hb hgx0 hwx0
  go_wp2_with fail
  refine (implWho_any _ n _ xs _ hX0.holds HX.out (by omega)).mono ?_
  rintro e wi ⟨A1, q1, rfl, hF1, hb⟩
  have hz4 : wx0.heap.size ≤ wi.heap.size := by have := hb.size; simpa using this
  replace hF1 := hF1.more (lo' := wx0.heap.size) (hi' := wi.heap.size) (by simp) (Nat.le_refl _)
  replace ht := below_then ht hb ht.size
  replace hF0 := hF0.below hb
  replace hX0 := hX0.below hb
  clear hb
  go_wp2_with fail
  refine (eqIntS_yes A1 A0 (backers xs).length q1 q0 (backers xs) _ hF1.holds hF0.holds rfl (by omega)).mono ?_
  rintro e we0 ⟨rfl, hb⟩
  replace ht := below_then ht hb ht.size
  replace hF0 := hF0.below hb
  replace hX0 := hX0.below hb
  replace hF1 := hF1.below hb
  clear hb
  go_wp2_with fail
  refine (toIntS_own A n c xs _ ((hA0.below ht)) HX.out (by omega)).mono ?_
  rintro e wy0 ⟨gy0, rfl, hgy0, hwy0, hb⟩
  replace ht := below_then ht hb ht.size
  replace hF0 := hF0.below hb
  replace hX0 := hX0.below hb
  replace hF1 := hF1.below hb
  clear hb hgy0
  go_wp2_with fail
  refine (eqIntS_yes _ _ n _ _ xs _ hX0.holds hwy0.holds HX.out (by omega)).mono ?_
  rintro e wq0 ⟨rfl, hb⟩
  replace ht := below_then ht hb ht.size
  replace hF0 := hF0.below hb
  replace hX0 := hX0.below hb
  replace hF1 := hF1.below hb
  clear hb hwy0
  -- marks
  go_wp2_with fail
  refine (markIntS_any (some ⟨gx0, 0, none⟩) n n _ _ _ (1) _ hX0 (by rw [nums_len]; exact HX.out) (by omega) (by omega) (by omega)).mono ?_
  rintro e wm0 ⟨rfl, hs, -⟩
  have hsz := ht.size
  replace ht := hs.below ht (by omega) hsz
  replace hF0 := hs.fresh hF0 (by omega)
  replace hF1 := hs.fresh hF1 (by omega)
  clear hs hsz hX0
  have hk0 : (0 : Int) ≤ 1 + (n : Int) := by omega
  go_wp2_with fail
  refine (eqIntS_yes A1 A0 (backers xs).length q1 q0 (backers xs) _ hF1.holds hF0.holds rfl (by omega)).mono ?_
  rintro e we1 ⟨rfl, hb⟩
  replace ht := below_then ht hb ht.size
  replace hF0 := hF0.below hb
  replace hF1 := hF1.below hb
  clear hb
  go_wp2_with fail
  refine (markIntS_any A1 (backers xs).length q1 _ _ _ 1 _ hF1 (by rw [nums_len]) (by omega) (by omega) hlen).mono ?_
  rintro e wn ⟨rfl, hs, hF2⟩
  have hsz := ht.size
  replace ht := hs.below ht (by omega) hsz
  replace hF0 := hs.fresh hF0 (by omega)
  clear hs hF1 hsz
  go_wp2_with fail
  refine (heldIntS_any A1 (backers xs).length q1 1 _ hF2.holds (by omega) (by omega) hlen).mono ?_
  rintro e wh0 ⟨rfl, rfl⟩
  have hm0 : (0 : Int) ≤ 1 + ((backers xs).length : Int) := by omega
  -- once more
  go_wp2_with fail
  refine (toIntS_own A n c xs _ ((hA0.below ht)) HX.out (by omega)).mono ?_
  rintro e wr0 ⟨gr0, rfl, hgr0, hwr0, hb⟩
  have hz5 : wn.heap.size ≤ wr0.heap.size := by have := hb.size; simpa using this
  replace ht := below_then ht hb ht.size
  replace hF0 := hF0.below hb
  replace hF2 := hF2.below hb
  clear hb hgr0
  go_wp2_with fail
  refine (implWho_any _ n _ xs _ hwr0.holds HX.out (by omega)).mono ?_
  rintro e wrs ⟨A2, q2, rfl, hF3, hb⟩
  have hz6 : wr0.heap.size ≤ wrs.heap.size := by have := hb.size; simpa using this
  replace ht := below_then ht hb ht.size
  replace hF0 := hF0.below hb
  replace hF2 := hF2.below hb
  clear hb hwr0
  go_wp2_with fail
  refine (eqIntS_yes A2 A0 (backers xs).length q2 q0 (backers xs) _ hF3.holds hF0.holds rfl (by omega)).mono ?_
  rintro e we2 ⟨rfl, hb⟩
  replace ht := below_then ht hb ht.size
  replace hF0 := hF0.below hb
  replace hF2 := hF2.below hb
  replace hF3 := hF3.below hb
  clear hb
  go_wp2_with fail
  refine (heldIntS_any A1 (backers xs).length q1 1 _ hF2.holds (by omega) (by omega) hlen).mono ?_
  rintro e wh1 ⟨rfl, rfl⟩
  go_wp2
  go_ret
  exact ⟨rfl, ht⟩

theorem lawWhoComesBack_all (A : Option Addr) (n c : Nat) (xs : List Int) (w : World) (hA : Holds w A (nums xs)) (hx : xs.length = n) (hn : n ≤ 9223372036854775807) :
    Calls Try.prog 12 #[.slice A n c] w fun e w' => e = .returned (.bool true) ∧ Below w.heap.size w w' := by
  rcases (inferInstance : Decidable ((n : Int) ≤ 1048576)) with g0 | g0
  · exact lawWhoComesBack_big0 A n c xs w hA hx hn  (by omega)
  · exact lawWhoComesBack_small A n c xs w hA hx hn g0
end Go.Proofs.Ytgcobhnodjfgiaa
