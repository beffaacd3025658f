/-
  What is proved: the law FnExactDropPerson returns true at every argument, and leaves all that was there as it was. Conditions: the arguments are read as they lie.
-/
import Derived.Test.YtionmcgaicijkaaDropI
import Derived.Test.YtionmcgaicijkaaMid
import Derived.Test.YtionmcgaicijkaaTripT
import Derived.Deep.RegionHeld3
import Derived.Deep.DeepCutAuto
namespace Go.Proofs.Ytionmcgaicijkaa
open Go.RowKit

set_option maxHeartbeats 800000 in
theorem lawDropPerson_big0 (A : Option Addr) (n c : Nat) (xs : List Int) (s : Int) (k : Int) (w : World) (hA : Holds w A (nums xs)) (hx : xs.length = n) (hn : n ≤ 9223372036854775807) (_hk : -9223372036854775808 ≤ k ∧ k ≤ 9223372036854775807)  (hbig : 1048576 - (n : Int) < 0) :
    Calls Try.prog 11 #[.agg #[.slice A n c, .int .i64 s], .int .i64 k] w fun e w' => e = .returned (.bool true) ∧ Below w.heap.size w w' := by
  have HX := Lib.hid hx
  clear hx
  have hused := And.intro True.intro (And.intro hn (And.intro True.intro (True.intro)))
  clear hused
  have hb0 := (Whole.fresh w 24 #[.slice A n c, .int .i64 s])
  replace hA := (hA.alloc (.cells #[.slice A n c, .int .i64 s] 24))
  obtain ⟨hb0_a, hb0_b, -, -⟩ := hb0.two
  have hb0_l := hb0.lt
  go_enter Try.func11, Try.ntmps11
  go_wp2_with fail
  refine (szParty_any A n c s (1048576) _ (by omega) (by omega) (by omega)).mono ?_
  rintro e wz0 ⟨rfl, hb⟩
  rw [if_pos (by omega)]
  have ht := below_then (below1 w _) hb (by simp)
  go_wp2
  go_ret
  exact ⟨rfl, ht⟩

set_option maxHeartbeats 6400000 in
set_option maxRecDepth 100000 in
theorem lawDropPerson_small (A : Option Addr) (n c : Nat) (xs : List Int) (s : Int) (k : Int) (w : World) (hA : Holds w A (nums xs)) (hx : xs.length = n) (hn : n ≤ 9223372036854775807) (_hk : -9223372036854775808 ≤ k ∧ k ≤ 9223372036854775807) (g0 : 0 ≤ 1048576 - (n : Int)) :
    Calls Try.prog 11 #[.agg #[.slice A n c, .int .i64 s], .int .i64 k] w fun e w' => e = .returned (.bool true) ∧ Below w.heap.size w w' := by
  have HX := Lib.hid hx
  clear hx
  have hA0 := hA
  have hb0 := (Whole.fresh w 24 #[.slice A n c, .int .i64 s])
  replace hA := (hA.alloc (.cells #[.slice A n c, .int .i64 s] 24))
  obtain ⟨hb0_a, hb0_b, -, -⟩ := hb0.two
  have hb0_l := hb0.lt
  go_enter Try.func11, Try.ntmps11
  go_wp2_with fail
  refine (szParty_any A n c s (1048576) _ (by omega) (by omega) (by omega)).mono ?_
  rintro e wz0 ⟨rfl, hb⟩
  rw [if_neg (by omega)]
  have ht := below_then (below1 w _) hb (by simp)
  replace hb0 := hb0.below hb
  replace hA := hA.below hb
  clear hb
  clear hb0_a hb0_b hb0_l
  obtain ⟨hb0_a, hb0_b, -, -⟩ := hb0.two
  have hb0_l := hb0.lt
  clear hb0_a hb0_b hb0_l
  obtain ⟨hb0_a, hb0_b, -, -⟩ := hb0.two
  clear hA
  -- the model
  have hlen : (dropXs xs s k).length ≤ 1048576 := Nat.le_trans (dropXs_le xs s k) (by have := HX.out; omega)
  have hbz0 := hb0.lt
  have hz0 := ht.size
  go_wp2_with fail
  refine (toParty_own A n c xs s _ ((hA0.below ht)) HX.out (by omega)).mono ?_
  rintro e wp0 ⟨gp0, rfl, hgp0, hwp0, hb⟩
  have hz1 : wz0.heap.size ≤ wp0.heap.size := by have := hb.size; simpa using this
  replace ht := below_then ht hb ht.size
  replace hb0 := hb0.below hb
  clear hb hgp0
  clear hb0_a hb0_b
  obtain ⟨hb0_a, hb0_b, -, -⟩ := hb0.two
  go_wp2_with fail
  refine (specDrop_any _ _ _ xs s k _ hwp0.holds HX.out (by omega) (Nat.le_refl _)).mono ?_
  rintro e wps ⟨A0, q0, rfl, hF0, hb⟩
  have hz2 : wp0.heap.size ≤ wps.heap.size := by have := hb.size; simpa using this
  replace ht := below_then ht hb ht.size
  replace hb0 := hb0.below hb
  clear hb hwp0
  have hr0 := Whole.fresh wps 33 #[.slice A0 (dropXs xs s k).length q0, .int .i64 (dropSeats xs s k)]
  replace hb0 := hb0.alloc (.cells #[.slice A0 (dropXs xs s k).length q0, .int .i64 (dropSeats xs s k)] 33)
  replace hF0 := hF0.alloc (.cells #[.slice A0 (dropXs xs s k).length q0, .int .i64 (dropSeats xs s k)] 33)
  replace ht := ht.alloc ht.size (.cells #[.slice A0 (dropXs xs s k).length q0, .int .i64 (dropSeats xs s k)] 33)
  clear hb0_a hb0_b
  obtain ⟨hb0_a, hb0_b, -, -⟩ := hb0.two
  obtain ⟨hr0_a, hr0_b, -, -⟩ := hr0.two
  have hb0_l := hb0.lt
  have hr0_l := hr0.lt
  -- the program
  go_wp2_with fail
  refine (toParty_own A n c xs s _ ((hA0.below ht)) HX.out (by omega)).mono ?_
  rintro e wx0 ⟨gx0, rfl, hgx0, hwx0, hb⟩
  have hz3 : wps.heap.size + 1 ≤ wx0.heap.size := by have := hb.size; simpa using this
  replace ht := below_then ht hb ht.size
  replace hb0 := hb0.below hb
  replace hF0 := hF0.below hb
  replace hr0 := hr0.below hb
  have hX0 := Fresh.of_whole (lo := wps.heap.size + 1) (hi := wx0.heap.size) hwx0 (by simpa using hgx0) hwx0.lt
  clear hb hgx0 hwx0
  have hx0 := Whole.fresh wx0 33 #[.slice (some ⟨gx0, 0, none⟩) n n, .int .i64 s]
  replace hb0 := hb0.alloc (.cells #[.slice (some ⟨gx0, 0, none⟩) n n, .int .i64 s] 33)
  replace hF0 := hF0.alloc (.cells #[.slice (some ⟨gx0, 0, none⟩) n n, .int .i64 s] 33)
  replace hr0 := hr0.alloc (.cells #[.slice (some ⟨gx0, 0, none⟩) n n, .int .i64 s] 33)
  replace hX0 := hX0.alloc (.cells #[.slice (some ⟨gx0, 0, none⟩) n n, .int .i64 s] 33)
  replace ht := ht.alloc ht.size (.cells #[.slice (some ⟨gx0, 0, none⟩) n n, .int .i64 s] 33)
  clear hb0_a hb0_b hr0_a hr0_b
  obtain ⟨hb0_a, hb0_b, -, -⟩ := hb0.two
  obtain ⟨hr0_a, hr0_b, -, -⟩ := hr0.two
  obtain ⟨hx0_a, hx0_b, -, -⟩ := hx0.two
  clear hb0_l
  have hb0_l := hb0.lt
  clear hr0_l
  have hr0_l := hr0.lt
  have hx0_l := hx0.lt
  go_wp2_with fail
  refine (implDrop_any _ _ _ xs s k _ hX0.holds HX.out (by omega) (Nat.le_refl _)).mono ?_
  rintro e wi ⟨A1, q1, rfl, hF1, hb⟩
  have hz4 : wx0.heap.size + 1 ≤ wi.heap.size := by have := hb.size; simpa using this
  replace hF1 := hF1.more (lo' := wx0.heap.size + 1) (hi' := wi.heap.size) (by simp) (Nat.le_refl _)
  replace ht := below_then ht hb ht.size
  replace hb0 := hb0.below hb
  replace hF0 := hF0.below hb
  replace hr0 := hr0.below hb
  replace hX0 := hX0.below hb
  replace hx0 := hx0.below hb
  clear hb
  have hr1 := Whole.fresh wi 33 #[.slice A1 (dropXs xs s k).length q1, .int .i64 (dropSeats xs s k)]
  replace hb0 := hb0.alloc (.cells #[.slice A1 (dropXs xs s k).length q1, .int .i64 (dropSeats xs s k)] 33)
  replace hF0 := hF0.alloc (.cells #[.slice A1 (dropXs xs s k).length q1, .int .i64 (dropSeats xs s k)] 33)
  replace hr0 := hr0.alloc (.cells #[.slice A1 (dropXs xs s k).length q1, .int .i64 (dropSeats xs s k)] 33)
  replace hX0 := hX0.alloc (.cells #[.slice A1 (dropXs xs s k).length q1, .int .i64 (dropSeats xs s k)] 33)
  replace hx0 := hx0.alloc (.cells #[.slice A1 (dropXs xs s k).length q1, .int .i64 (dropSeats xs s k)] 33)
  replace hF1 := hF1.alloc (.cells #[.slice A1 (dropXs xs s k).length q1, .int .i64 (dropSeats xs s k)] 33)
  replace ht := ht.alloc ht.size (.cells #[.slice A1 (dropXs xs s k).length q1, .int .i64 (dropSeats xs s k)] 33)
  clear hb0_a hb0_b hr0_a hr0_b hx0_a hx0_b
  obtain ⟨hb0_a, hb0_b, -, -⟩ := hb0.two
  obtain ⟨hr0_a, hr0_b, -, -⟩ := hr0.two
  obtain ⟨hx0_a, hx0_b, -, -⟩ := hx0.two
  obtain ⟨hr1_a, hr1_b, -, -⟩ := hr1.two
  clear hb0_l
  have hb0_l := hb0.lt
  clear hr0_l
  have hr0_l := hr0.lt
  clear hx0_l
  have hx0_l := hx0.lt
  have hr1_l := hr1.lt
  go_wp2_with fail
  refine (eqParty_yes A1 A0 (dropXs xs s k).length q1 q0 (dropXs xs s k) (dropSeats xs s k) _ hF1.holds hF0.holds rfl (by omega)).mono ?_
  rintro e we0 ⟨rfl, hb⟩
  replace ht := below_then ht hb ht.size
  replace hb0 := hb0.below hb
  replace hF0 := hF0.below hb
  replace hr0 := hr0.below hb
  replace hX0 := hX0.below hb
  replace hx0 := hx0.below hb
  replace hF1 := hF1.below hb
  replace hr1 := hr1.below hb
  clear hb
  clear hb0_a hb0_b hr0_a hr0_b hx0_a hx0_b hr1_a hr1_b
  obtain ⟨hb0_a, hb0_b, -, -⟩ := hb0.two
  obtain ⟨hr0_a, hr0_b, -, -⟩ := hr0.two
  obtain ⟨hx0_a, hx0_b, -, -⟩ := hx0.two
  obtain ⟨hr1_a, hr1_b, -, -⟩ := hr1.two
  go_wp2_with fail
  clear hb0_a hb0_b hr0_a hr0_b hx0_a hx0_b hr1_a hr1_b
  obtain ⟨hx0_a, hx0_b, -, -⟩ := hx0.two
  obtain ⟨hb0_a, hb0_b, -, -⟩ := hb0.two
  go_region_held3 (fun w' => (w'.cell? ⟨wx0.heap.size, 0, none⟩ = some (.slice (some ⟨gx0, 0, none⟩) n n) ∧ w'.cell? ⟨wx0.heap.size, 1, none⟩ = some (.int .i64 s)) ∧ (w'.cell? ⟨w.heap.size, 0, none⟩ = some (.slice A n c) ∧ w'.cell? ⟨w.heap.size, 1, none⟩ = some (.int .i64 s))) (go_keep)
    (first | (go_at_call 18; refine (toParty_own A n c xs s _ (by exact (hA0.below ht).drew) HX.out (by omega)).mono ?_; rintro e wy0 ⟨gy0, rfl, hgy0, hwy0, hby⟩; obtain ⟨k0, k1, -, -⟩ := (hx0.drew.below hby).two; obtain ⟨k2, k3, -, -⟩ := (hb0.drew.below hby).two) | (go_at_call 23; refine (eqParty_yes _ _ n _ _ xs s _ (hX0.drew.below hby).holds hwy0.holds HX.out (by omega)).mono ?_; rintro e wq0 ⟨rfl, hbq⟩; obtain ⟨l0, l1, -, -⟩ := ((hx0.drew.below hby).below hbq).two; obtain ⟨l2, l3, -, -⟩ := ((hb0.drew.below hby).below hbq).two))
  replace ht := below_then (below_then ht.drew hby ht.size) hbq (Nat.le_trans ht.size hby.size)
  replace hb0 := (hb0.drew.below hby).below hbq
  replace hF0 := (hF0.drew.below hby).below hbq
  replace hr0 := (hr0.drew.below hby).below hbq
  replace hX0 := (hX0.drew.below hby).below hbq
  replace hx0 := (hx0.drew.below hby).below hbq
  replace hF1 := (hF1.drew.below hby).below hbq
  replace hr1 := (hr1.drew.below hby).below hbq
  clear hby hbq hwy0 hgy0
  clear hx0_a hx0_b hb0_a hb0_b
  obtain ⟨hb0_a, hb0_b, -, -⟩ := hb0.two
  obtain ⟨hr0_a, hr0_b, -, -⟩ := hr0.two
  obtain ⟨hx0_a, hx0_b, -, -⟩ := hx0.two
  obtain ⟨hr1_a, hr1_b, -, -⟩ := hr1.two
  -- marks
  go_wp2_with fail
  refine (markParty_any (some ⟨gx0, 0, none⟩) n n _ _ _ s (1) _ hX0 (by rw [nums_len]; exact HX.out) (by omega) (by omega) (by omega)).mono ?_
  rintro e wm0 ⟨rfl, hs, -⟩
  have hsz := ht.size
  replace ht := hs.below ht (by omega) hsz
  replace hb0 := hs.whole hb0 (by omega)
  replace hF0 := hs.fresh hF0 (by omega)
  replace hr0 := hs.whole hr0 (by omega)
  replace hF1 := hs.fresh hF1 (by omega)
  replace hr1 := hs.whole hr1 (by omega)
  clear hs hsz hX0 hx0 hx0_a hx0_b
  clear hx0_l
  clear hb0_a hb0_b hr0_a hr0_b hr1_a hr1_b
  obtain ⟨hb0_a, hb0_b, -, -⟩ := hb0.two
  obtain ⟨hr0_a, hr0_b, -, -⟩ := hr0.two
  obtain ⟨hr1_a, hr1_b, -, -⟩ := hr1.two
  have hk0 : (0 : Int) ≤ 1 + (n : Int) := by omega
  go_wp2_with fail
  refine (eqParty_yes A1 A0 (dropXs xs s k).length q1 q0 (dropXs xs s k) (dropSeats xs s k) _ hF1.holds hF0.holds rfl (by omega)).mono ?_
  rintro e we1 ⟨rfl, hb⟩
  replace ht := below_then ht hb ht.size
  replace hb0 := hb0.below hb
  replace hF0 := hF0.below hb
  replace hr0 := hr0.below hb
  replace hF1 := hF1.below hb
  replace hr1 := hr1.below hb
  clear hb
  clear hb0_a hb0_b hr0_a hr0_b hr1_a hr1_b
  obtain ⟨hb0_a, hb0_b, -, -⟩ := hb0.two
  obtain ⟨hr0_a, hr0_b, -, -⟩ := hr0.two
  obtain ⟨hr1_a, hr1_b, -, -⟩ := hr1.two
  go_wp2_with fail
  refine (markParty_any A1 (dropXs xs s k).length q1 _ _ _ (dropSeats xs s k) 1 _ hF1 (by rw [nums_len]) (by omega) (by omega) hlen).mono ?_
  rintro e wn ⟨rfl, hs, hF2⟩
  have hsz := ht.size
  replace ht := hs.below ht (by omega) hsz
  replace hb0 := hs.whole hb0 (by omega)
  replace hF0 := hs.fresh hF0 (by omega)
  replace hr0 := hs.whole hr0 (by omega)
  replace hr1 := hs.whole hr1 (by omega)
  clear hs hF1 hsz
  clear hb0_a hb0_b hr0_a hr0_b hr1_a hr1_b
  obtain ⟨hb0_a, hb0_b, -, -⟩ := hb0.two
  obtain ⟨hr0_a, hr0_b, -, -⟩ := hr0.two
  obtain ⟨hr1_a, hr1_b, -, -⟩ := hr1.two
  go_wp2_with fail
  refine (heldParty_any A1 (dropXs xs s k).length q1 (dropSeats xs s k) 1 _ hF2.holds (by omega) (by omega) hlen).mono ?_
  rintro e wh0 ⟨rfl, hb⟩
  replace ht := below_then ht hb ht.size
  replace hb0 := hb0.below hb
  replace hF0 := hF0.below hb
  replace hr0 := hr0.below hb
  replace hr1 := hr1.below hb
  replace hF2 := hF2.below hb
  clear hb
  have hm0 : (0 : Int) ≤ 1 + ((dropXs xs s k).length : Int) := by omega
  clear hb0_a hb0_b hr0_a hr0_b hr1_a hr1_b
  obtain ⟨hb0_a, hb0_b, -, -⟩ := hb0.two
  obtain ⟨hr0_a, hr0_b, -, -⟩ := hr0.two
  obtain ⟨hr1_a, hr1_b, -, -⟩ := hr1.two
  -- once more
  go_wp2_with fail
  refine (toParty_own A n c xs s _ ((hA0.below ht)) HX.out (by omega)).mono ?_
  rintro e wr0 ⟨gr0, rfl, hgr0, hwr0, hb⟩
  have hz5 : wh0.heap.size ≤ wr0.heap.size := by have := hb.size; simpa using this
  replace ht := below_then ht hb ht.size
  replace hb0 := hb0.below hb
  replace hF0 := hF0.below hb
  replace hr0 := hr0.below hb
  replace hr1 := hr1.below hb
  replace hF2 := hF2.below hb
  clear hb hgr0
  clear hb0_a hb0_b hr0_a hr0_b hr1_a hr1_b
  obtain ⟨hb0_a, hb0_b, -, -⟩ := hb0.two
  obtain ⟨hr0_a, hr0_b, -, -⟩ := hr0.two
  obtain ⟨hr1_a, hr1_b, -, -⟩ := hr1.two
  go_wp2_with fail
  refine (implDrop_any _ _ _ xs s k _ hwr0.holds HX.out (by omega) (Nat.le_refl _)).mono ?_
  rintro e wrs ⟨A2, q2, rfl, hF3, hb⟩
  have hz6 : wr0.heap.size ≤ wrs.heap.size := by have := hb.size; simpa using this
  replace ht := below_then ht hb ht.size
  replace hb0 := hb0.below hb
  replace hF0 := hF0.below hb
  replace hr0 := hr0.below hb
  replace hr1 := hr1.below hb
  replace hF2 := hF2.below hb
  clear hb hwr0
  have hr2 := Whole.fresh wrs 33 #[.slice A2 (dropXs xs s k).length q2, .int .i64 (dropSeats xs s k)]
  replace hb0 := hb0.alloc (.cells #[.slice A2 (dropXs xs s k).length q2, .int .i64 (dropSeats xs s k)] 33)
  replace hF0 := hF0.alloc (.cells #[.slice A2 (dropXs xs s k).length q2, .int .i64 (dropSeats xs s k)] 33)
  replace hr0 := hr0.alloc (.cells #[.slice A2 (dropXs xs s k).length q2, .int .i64 (dropSeats xs s k)] 33)
  replace hr1 := hr1.alloc (.cells #[.slice A2 (dropXs xs s k).length q2, .int .i64 (dropSeats xs s k)] 33)
  replace hF2 := hF2.alloc (.cells #[.slice A2 (dropXs xs s k).length q2, .int .i64 (dropSeats xs s k)] 33)
  replace hF3 := hF3.alloc (.cells #[.slice A2 (dropXs xs s k).length q2, .int .i64 (dropSeats xs s k)] 33)
  replace ht := ht.alloc ht.size (.cells #[.slice A2 (dropXs xs s k).length q2, .int .i64 (dropSeats xs s k)] 33)
  clear hb0_a hb0_b hr0_a hr0_b hr1_a hr1_b
  obtain ⟨hb0_a, hb0_b, -, -⟩ := hb0.two
  obtain ⟨hr0_a, hr0_b, -, -⟩ := hr0.two
  obtain ⟨hr1_a, hr1_b, -, -⟩ := hr1.two
  obtain ⟨hr2_a, hr2_b, -, -⟩ := hr2.two
  have hr2_l := hr2.lt
  clear hr0_l
  have hr0_l := hr0.lt
  clear hr1_l
  have hr1_l := hr1.lt
  go_wp2_with fail
  refine (eqParty_yes A2 A0 (dropXs xs s k).length q2 q0 (dropXs xs s k) (dropSeats xs s k) _ hF3.holds hF0.holds rfl (by omega)).mono ?_
  rintro e we2 ⟨rfl, hb⟩
  replace ht := below_then ht hb ht.size
  replace hb0 := hb0.below hb
  replace hF0 := hF0.below hb
  replace hr0 := hr0.below hb
  replace hr1 := hr1.below hb
  replace hF2 := hF2.below hb
  replace hF3 := hF3.below hb
  replace hr2 := hr2.below hb
  clear hb
  clear hb0_a hb0_b hr0_a hr0_b hr1_a hr1_b hr2_a hr2_b
  obtain ⟨hb0_a, hb0_b, -, -⟩ := hb0.two
  obtain ⟨hr0_a, hr0_b, -, -⟩ := hr0.two
  obtain ⟨hr1_a, hr1_b, -, -⟩ := hr1.two
  obtain ⟨hr2_a, hr2_b, -, -⟩ := hr2.two
  go_wp2_with fail
  refine (heldParty_any A1 (dropXs xs s k).length q1 (dropSeats xs s k) 1 _ hF2.holds (by omega) (by omega) hlen).mono ?_
  rintro e wh1 ⟨rfl, hb⟩
  replace ht := below_then ht hb ht.size
  replace hb0 := hb0.below hb
  replace hF0 := hF0.below hb
  replace hr0 := hr0.below hb
  replace hr1 := hr1.below hb
  replace hF2 := hF2.below hb
  replace hF3 := hF3.below hb
  replace hr2 := hr2.below hb
  clear hb
  go_wp2
  go_ret
  exact ⟨rfl, ht⟩

theorem lawDropPerson_all (A : Option Addr) (n c : Nat) (xs : List Int) (s : Int) (k : Int) (w : World) (hA : Holds w A (nums xs)) (hx : xs.length = n) (hn : n ≤ 9223372036854775807) (_hk : -9223372036854775808 ≤ k ∧ k ≤ 9223372036854775807) :
    Calls Try.prog 11 #[.agg #[.slice A n c, .int .i64 s], .int .i64 k] w fun e w' => e = .returned (.bool true) ∧ Below w.heap.size w w' := by
  rcases (inferInstance : Decidable (0 ≤ 1048576 - (n : Int))) with g0 | g0
  · exact lawDropPerson_big0 A n c xs s k w hA hx hn _hk  (by omega)
  · exact lawDropPerson_small A n c xs s k w hA hx hn _hk g0
end Go.Proofs.Ytionmcgaicijkaa
